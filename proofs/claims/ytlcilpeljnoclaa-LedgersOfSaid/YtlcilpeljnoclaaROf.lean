/-
  countinghouseref03: Of.
-/
import Derived.Test.YtlcilpeljnoclaaROfR
namespace Go.Proofs.Ytlcilpeljnoclaa
open Go.RowKit
set_option linter.unusedSimpArgs false
set_option linter.unusedVariables false

set_option maxHeartbeats 8000000 in
set_option maxRecDepth 100000 in
theorem rof_any {w : World} {va vb : Value} {zs : List Int} {ls : List Ln} (hp : Reads w va 1 zs.length (zs.map (.int .u8))) (hl : Reads w vb 5 ls.length (lnCells ls)) (hf : ∀ x ∈ ls, x.Fits) :
    Calls Try.prog 34 #[va, vb] w (ROfPost w zs ls) := by
  obtain ⟨po, pcap, rfl, hpl, hP⟩ := RReads.atP hp
  obtain ⟨lo, lcap, rfl, hll, hL⟩ := RReads.atL hl
  have HPR := Lib.hid hP
  have HLR := Lib.hid hL
  have HF := Lib.hid hf
  have K := Lib.hid (Blk.new w #[.slice none 0 0, .slice none 0 0] 74)
  have B0 := Lib.hid ((Below.refl w.heap.size w).alloc (Nat.le_refl _) (.cells #[.slice none 0 0, .slice none 0 0] 74))
  clear hp hl hP hL hf
  go_enter Try.func34, Try.ntmps34
  go_wp2_with fail
  generalize hG : w.heap.size = G at K ⊢
  have GG := Lib.hid hG
  clear hG
  go_loopw [7] (ROfAt1 w G zs) (fun i _ => zs.length - (intOf i).toNat)
  case atStart => exact ⟨0, .slice none 0 0, .slice none 0 0, Nat.zero_le _, rfl, okP.nil, ⟨K.out, by rw [GG.out]; exact Nat.le_refl _, World.ownsRow_nil _ _ _ _, World.ownsRow_nil _ _ _ _⟩, B0.out⟩
  case round =>
    clear K B0
    obtain ⟨k, vp, vl, hk, rfl, hok, hL, hB⟩ := hrel
    have HO := Lib.hid hok
    have H1 := Lib.hid hL
    have B1 := Lib.hid hB
    clear hok hL hB
    have HGs : Hid (w.heap.size ≤ G) := Lib.hid (by rw [GG.out]; exact Nat.le_refl _)
    by_cases hkl : k < zs.length
    · obtain ⟨bp, op, rfl, hbp, hcp⟩ := HPR.out k hkl
      have HBp : Hid (bp < wr.heap.size) := Lib.hid (Nat.lt_of_lt_of_le hbp B1.out.size)
      have HC := Lib.hid (fun j (hj : j < zs.length) => (B1.out.cell (p := ⟨bp, op + j, none⟩) hbp).trans (hcp j hj))
      clear hcp hbp
      have NX := Lib.hid (fun hm hs => okP.next hkl HO.out hm hs)
      have BD := Lib.hid (fun h => okP.bad hkl h)
      have ST := Lib.hid (fun hm hs => open_step hkl HO.out hm hs)
      have hkm : k - 1 < zs.length := by omega
      generalize hi : ((k : Nat) : Int) = i
      have i1 : i < (zs.length : Int) := by omega
      have i4 : 0 ≤ i := by omega
      have i2 : i.toNat = k := by omega
      have HIi := Lib.hid hi
      have HP : Hid (wr.cell? ⟨bp, op + i.toNat, none⟩ = some (.int .u8 zs[k])) := Lib.hid (by rw [i2]; exact HC.out k hkl)
      have CO : Hid (∀ w', Below wr.heap.size wr w' → Calls Try.prog 46 #[.pointer (some ⟨G, 0, none⟩), .int .u8 zs[k]] w' fun e w'' => e = .returned (.int .i64 (openE (zs.take i.toNat) zs[k])) ∧ OpenT wr w.heap.size G (openP (zs.take i.toNat) zs[k]) vl w'') := Lib.hid fun w' kb => by
        rw [i2]
        refine (ropen_any (H1.out.below kb) zs[k]).mono ?_
        rintro e w'' ⟨h1, vp', h2, h3⟩
        exact ⟨h1, ⟨vp', h2⟩, (Keep.of_below kb).trans h3⟩
      clear hi
      by_cases hk0 : 0 < k
      · have i0 : 0 < i := by omega
        have i3 : (i.toNat - 1) = k - 1 := by omega
        have HQ : Hid (wr.cell? ⟨bp, op + (i.toNat - 1), none⟩ = some (.int .u8 (zs[k - 1]'(by omega)))) := Lib.hid (by rw [i3]; exact HC.out (k - 1) (by omega))
        have s0 : decide (0 < i) = true := by rw [decide_eq_true_eq]; omega
        by_cases hle : zs[k] ≤ zs[k - 1]'hkm
        · have HB := Lib.hid (BD.out (.inr ⟨hk0, hle⟩))
          clear NX BD ST CO HC i2 i3
          generalize zs[k] = p at *
          generalize zs[k - 1]'hkm = q at *
          clear hkl hk hkm
          have s1 : decide (p ≤ q) = true := by simp; omega
          go_wp2_with fail
          refine rof_pt_bad HBp HP i4 i1 hpl s0 HQ i0 s1 ?_
          intro w2 b2
          have B2 := Lib.hid (B1.out.trans (b2.mono B1.out.size))
          clear b2
          go_wp2_with fail
          refine bodyPost_ret (v := .tuple #[.pointer none, .int .i64 1]) (by simp [results, Try.results34, go_sem]) rfl ?_
          exact ⟨B2.out, .inr (.inr ⟨rfl, .inl HB.out⟩)⟩
        have hs : ∀ hk0 : 0 < k, zs[k - 1]'(by omega) < zs[k] := fun _ => by omega
        by_cases hm : mayP zs[k] = false
        · have HB := Lib.hid (BD.out (.inl hm))
          rw [open_no hm] at CO
          clear NX BD ST HC i2 i3 hs hm
          generalize zs[k] = p at *
          generalize zs[k - 1]'hkm = q at *
          clear hkl hk hkm
          have s1 : decide (p ≤ q) = false := by simp; omega
          go_wp2_with fail
          refine rof_pt_no HBp HP i4 i1 hpl s0 HQ i0 s1 CO ?_
          rintro w2 ⟨⟨vp2, hr2⟩, b2⟩
          have B2 := Lib.hid (B1.out.trans (b2.below B1.out.size (fun q hq e => by have := HGs.out; omega)))
          have H2 := Lib.hid hr2
          clear b2 hr2
          go_wp2_with fail
          refine bodyPost_ret (v := .tuple #[.pointer none, .int .i64 1]) (by simp [results, Try.results34, go_sem]) rfl ?_
          exact ⟨B2.out, .inr (.inr ⟨rfl, .inl HB.out⟩)⟩
        have hm : mayP zs[k] = true := by simpa using hm
        have HN : Hid (okP (zs.take (k + 1)) ∧ openP (zs.take i.toNat) zs[k] = zs.take (k + 1)) := Lib.hid ⟨NX.out hm hs, by rw [i2]; exact (ST.out hm hs).2⟩
        rw [show openE (zs.take i.toNat) zs[k] = 0 by rw [i2]; exact (ST.out hm hs).1] at CO
        have hk1 : k + 1 ≤ zs.length := hkl
        clear NX BD ST HC i2 i3 hs hm
        generalize zs[k] = p at *
        generalize zs[k - 1]'hkm = q at *
        clear hkl hk hkm
        have s1 : decide (p ≤ q) = false := by simp; omega
        go_wp2_with fail
        refine rof_pt_ok HBp HP i4 i1 hpl s0 HQ i0 s1 CO ?_
        rintro w2 ⟨⟨vp2, hr2⟩, b2⟩
        have B2 := Lib.hid (B1.out.trans (b2.below B1.out.size (fun q hq e => by have := HGs.out; omega)))
        have H2 := Lib.hid hr2
        clear b2 hr2
        go_wp2_with fail
        go_roundw
        case rel => exact ⟨k + 1, vp2, vl, by omega, by have := HIi.out; first | go_num | (congr 1; omega), HN.out.1, by rw [← HN.out.2]; exact H2.out, B2.out⟩
        case measure => have := HIi.out; simp [intOf]; omega
      · have s0 : decide (0 < i) = false := by simp; omega
        have hs : ∀ hk0 : 0 < k, zs[k - 1]'(by omega) < zs[k] := fun h => absurd h hk0
        by_cases hm : mayP zs[k] = false
        · have HB := Lib.hid (BD.out (.inl hm))
          rw [open_no hm] at CO
          clear NX BD ST HC i2 hs hm
          generalize zs[k] = p at *
          clear hkl hk hkm
          go_wp2_with fail
          refine rof_pf_no (q := 0) HBp HP i4 i1 hpl s0 CO ?_
          rintro w2 ⟨⟨vp2, hr2⟩, b2⟩
          have B2 := Lib.hid (B1.out.trans (b2.below B1.out.size (fun q hq e => by have := HGs.out; omega)))
          have H2 := Lib.hid hr2
          clear b2 hr2
          go_wp2_with fail
          refine bodyPost_ret (v := .tuple #[.pointer none, .int .i64 1]) (by simp [results, Try.results34, go_sem]) rfl ?_
          exact ⟨B2.out, .inr (.inr ⟨rfl, .inl HB.out⟩)⟩
        have hm : mayP zs[k] = true := by simpa using hm
        have HN : Hid (okP (zs.take (k + 1)) ∧ openP (zs.take i.toNat) zs[k] = zs.take (k + 1)) := Lib.hid ⟨NX.out hm hs, by rw [i2]; exact (ST.out hm hs).2⟩
        rw [show openE (zs.take i.toNat) zs[k] = 0 by rw [i2]; exact (ST.out hm hs).1] at CO
        have hk1 : k + 1 ≤ zs.length := hkl
        clear NX BD ST HC i2 hs hm
        generalize zs[k] = p at *
        clear hkl hk hkm
        go_wp2_with fail
        refine rof_pf_ok (q := 0) HBp HP i4 i1 hpl s0 CO ?_
        rintro w2 ⟨⟨vp2, hr2⟩, b2⟩
        have B2 := Lib.hid (B1.out.trans (b2.below B1.out.size (fun q hq e => by have := HGs.out; omega)))
        have H2 := Lib.hid hr2
        clear b2 hr2
        go_wp2_with fail
        go_roundw
        case rel => exact ⟨k + 1, vp2, vl, by omega, by have := HIi.out; first | go_num | (congr 1; omega), HN.out.1, by rw [← HN.out.2]; exact H2.out, B2.out⟩
        case measure => have := HIi.out; simp [intOf]; omega
    · rw [List.take_of_length_le (by omega)] at HO H1
      clear HPR
      have HP := HO
      clear HO
      by_cases h64 : 64 < ls.length
      · go_wp2_with fail
        refine bodyPost_ret (v := .tuple #[.pointer none, .int .i64 9]) (by simp [results, Try.results34, go_sem]) rfl ?_
        exact ⟨B1.out, .inr (.inl ⟨rfl, HP.out, h64⟩)⟩
      have h64 : ls.length ≤ 64 := by omega
      go_wp2_with fail
      go_loopw [8] (ROfAt2 w G zs ls) (fun i _ => ls.length - (intOf i).toNat)
      case atStart => exact ⟨0, vp, vl, Nat.zero_le _, rfl, okL.nil _, H1.out, B1.out⟩
      case round =>
        clear H1 B1
        clear hk vp vl
        obtain ⟨k, vp, vl, hk, rfl, hok, hL, hB⟩ := hrel
        have HO := Lib.hid hok
        have H1 := Lib.hid hL
        have B1 := Lib.hid hB
        clear hok hL hB
        by_cases hkl : k < ls.length
        · obtain ⟨bl, ol, rfl, hbl, hcl⟩ := HLR.out k hkl
          have hbl1 : bl < wr.heap.size := Nat.lt_of_lt_of_le hbl B1.out.size
          have HC := Lib.hid (fun j (hj : j < ls.length) i (hi : i < 5) => (B1.out.cell (p := ⟨bl, ol + j * 5 + i, none⟩) hbl).trans (hcl j hj i hi))
          clear hcl hbl
          have hkm : k - 1 < ls.length := by omega
          have FX := Lib.hid (HF.out ls[k] (List.getElem_mem _))
          have FY := Lib.hid (HF.out (ls[k - 1]'hkm) (List.getElem_mem _))
          have HGd : Hid ((∀ y ∈ ls.take k, y.Good) ∧ (ls.take k).length ≤ 64) := Lib.hid ⟨fun y hy => (HO.out.2 y hy).good, by rw [List.length_take]; omega⟩
          generalize hi : ((k : Nat) : Int) = i
          have i1 : i < (ls.length : Int) := by omega
          have i4 : 0 ≤ i := by omega
          have i2 : i.toNat = k := by omega
          have HIi := Lib.hid hi
          clear hi
          have d0 : wr.cell? ⟨bl, ol + (i.toNat) * 5, none⟩ = some (.int .u8 ls[k].cr) := by rw [i2]; exact HC.out k hkl 0 (by omega)
          have d1 : wr.cell? ⟨bl, ol + (i.toNat) * 5 + 1, none⟩ = some (.int .u8 ls[k].de) := by rw [i2]; exact HC.out k hkl 1 (by omega)
          have d2 : wr.cell? ⟨bl, ol + (i.toNat) * 5 + 2, none⟩ = some (.int .u8 ls[k].cu) := by rw [i2]; exact HC.out k hkl 2 (by omega)
          have d3 : wr.cell? ⟨bl, ol + (i.toNat) * 5 + 3, none⟩ = some (.int .i64 ls[k].li) := by rw [i2]; exact HC.out k hkl 3 (by omega)
          have d4 : wr.cell? ⟨bl, ol + (i.toNat) * 5 + 4, none⟩ = some (.int .i64 ls[k].db) := by rw [i2]; exact HC.out k hkl 4 (by omega)
          by_cases hk0 : 0 < k
          · have i0 : 0 < i := by omega
            have s0 : decide (0 < i) = true := by rw [decide_eq_true_eq]; omega
            have i3 : (i.toNat - 1) = k - 1 := by omega
            have y0 : wr.cell? ⟨bl, ol + (i.toNat - 1) * 5, none⟩ = some (.int .u8 (ls[k - 1]'hkm).cr) := by rw [i3]; exact HC.out (k - 1) hkm 0 (by omega)
            have y1 : wr.cell? ⟨bl, ol + (i.toNat - 1) * 5 + 1, none⟩ = some (.int .u8 (ls[k - 1]'hkm).de) := by rw [i3]; exact HC.out (k - 1) hkm 1 (by omega)
            have y2 : wr.cell? ⟨bl, ol + (i.toNat - 1) * 5 + 2, none⟩ = some (.int .u8 (ls[k - 1]'hkm).cu) := by rw [i3]; exact HC.out (k - 1) hkm 2 (by omega)
            have y3 : wr.cell? ⟨bl, ol + (i.toNat - 1) * 5 + 3, none⟩ = some (.int .i64 (ls[k - 1]'hkm).li) := by rw [i3]; exact HC.out (k - 1) hkm 3 (by omega)
            have y4 : wr.cell? ⟨bl, ol + (i.toNat - 1) * 5 + 4, none⟩ = some (.int .i64 (ls[k - 1]'hkm).db) := by rw [i3]; exact HC.out (k - 1) hkm 4 (by omega)
            have hs0 := lines_step (zs := zs) hkl h64 HO.out (fun _ => HF.out) hk0
            clear HC i3
            clear i2
            generalize hxe : ls[k] = x at *
            generalize hye : ls[k - 1]'hkm = y at *
            clear hxe hye
            rcases hs0 with ⟨hrk, HB⟩ | ⟨hrk, HB, q2⟩ | ⟨hrk, HB, q2, q3⟩ | ⟨hrk, HB, q2, q3, q4⟩ | ⟨hrk, HB, q2, q3, q4, er, her, CT0⟩ | ⟨hrk, q2, q3, q4, CT0, HS, HN, HTF⟩
            · have bw := (Below.refl wr.heap.size wr).alloc (Nat.le_refl _) (.cells #[.int .u8 x.cr, .int .u8 x.de, .int .u8 x.cu, .int .i64 x.li, .int .i64 x.db] 35)
              have HY0 := Lib.hid ((bw.cell (p := ⟨bl, ol + (i.toNat - 1) * 5, none⟩) hbl1).trans y0)
              have HY1 := Lib.hid ((bw.cell (p := ⟨bl, ol + (i.toNat - 1) * 5 + 1, none⟩) hbl1).trans y1)
              have HY2 := Lib.hid ((bw.cell (p := ⟨bl, ol + (i.toNat - 1) * 5 + 2, none⟩) hbl1).trans y2)
              have HY3 := Lib.hid ((bw.cell (p := ⟨bl, ol + (i.toNat - 1) * 5 + 3, none⟩) hbl1).trans y3)
              have HY4 := Lib.hid ((bw.cell (p := ⟨bl, ol + (i.toNat - 1) * 5 + 4, none⟩) hbl1).trans y4)
              have HBl := Lib.hid (Nat.lt_of_lt_of_le hbl1 bw.size)
              have B5 := Lib.hid (B1.out.trans (bw.mono B1.out.size))
              have HL2 := Lib.hid (H1.out.below bw)
              have KX := Lib.hid (Blk.new wr #[.int .u8 x.cr, .int .u8 x.de, .int .u8 x.cu, .int .i64 x.li, .int .i64 x.db] 35)
              have HGX : Hid (¬ G = wr.heap.size) := Lib.hid (by have := H1.out.blk.lt; omega)
              clear bw H1 B1
              go_wp2_with fail
              generalize wr.alloc (.cells #[.int .u8 x.cr, .int .u8 x.de, .int .u8 x.cu, .int .i64 x.li, .int .i64 x.db] 35) = W at *
              clear y0 y1 y2 y3 y4
              clear d0 d1 d2 d3 d4
              have c1 : decide (x.rank ≤ y.rank) = true := by simp; omega
              clear hrk
              refine rof_lt1 KX FX FY HBl HY0 HY1 HY2 HY3 HY4 i0 i1 hll s0 c1 ?_
              intro w6 b6
              have B6 := Lib.hid (B5.out.trans (b6.mono B5.out.size))
              clear b6 B5 HL2 KX
              go_wp2_with fail
              refine bodyPost_ret (v := .tuple #[.pointer none, .int .i64 1]) (by simp [results, Try.results34, go_sem]) rfl ?_
              exact ⟨B6.out, .inr (.inr ⟨rfl, .inr ⟨HP.out, by omega, HB.out⟩⟩)⟩
            · have bw := (Below.refl wr.heap.size wr).alloc (Nat.le_refl _) (.cells #[.int .u8 x.cr, .int .u8 x.de, .int .u8 x.cu, .int .i64 x.li, .int .i64 x.db] 35)
              have HY0 := Lib.hid ((bw.cell (p := ⟨bl, ol + (i.toNat - 1) * 5, none⟩) hbl1).trans y0)
              have HY1 := Lib.hid ((bw.cell (p := ⟨bl, ol + (i.toNat - 1) * 5 + 1, none⟩) hbl1).trans y1)
              have HY2 := Lib.hid ((bw.cell (p := ⟨bl, ol + (i.toNat - 1) * 5 + 2, none⟩) hbl1).trans y2)
              have HY3 := Lib.hid ((bw.cell (p := ⟨bl, ol + (i.toNat - 1) * 5 + 3, none⟩) hbl1).trans y3)
              have HY4 := Lib.hid ((bw.cell (p := ⟨bl, ol + (i.toNat - 1) * 5 + 4, none⟩) hbl1).trans y4)
              have HBl := Lib.hid (Nat.lt_of_lt_of_le hbl1 bw.size)
              have B5 := Lib.hid (B1.out.trans (bw.mono B1.out.size))
              have HL2 := Lib.hid (H1.out.below bw)
              have KX := Lib.hid (Blk.new wr #[.int .u8 x.cr, .int .u8 x.de, .int .u8 x.cu, .int .i64 x.li, .int .i64 x.db] 35)
              have HGX : Hid (¬ G = wr.heap.size) := Lib.hid (by have := H1.out.blk.lt; omega)
              clear bw H1 B1
              go_wp2_with fail
              generalize wr.alloc (.cells #[.int .u8 x.cr, .int .u8 x.de, .int .u8 x.cu, .int .i64 x.li, .int .i64 x.db] 35) = W at *
              clear y0 y1 y2 y3 y4
              clear d0 d1 d2 d3 d4
              have c1 : decide (x.rank ≤ y.rank) = false := by simp; omega
              have c2 : decide (x.li < 1) = true := by simp; omega
              clear hrk
              clear q2
              refine rof_lt2 KX FX FY HBl HY0 HY1 HY2 HY3 HY4 i0 i1 hll s0 c1 c2 ?_
              intro w6 b6
              have B6 := Lib.hid (B5.out.trans (b6.mono B5.out.size))
              clear b6 B5 HL2 KX
              go_wp2_with fail
              refine bodyPost_ret (v := .tuple #[.pointer none, .int .i64 1]) (by simp [results, Try.results34, go_sem]) rfl ?_
              exact ⟨B6.out, .inr (.inr ⟨rfl, .inr ⟨HP.out, by omega, HB.out⟩⟩)⟩
            · have bw := (Below.refl wr.heap.size wr).alloc (Nat.le_refl _) (.cells #[.int .u8 x.cr, .int .u8 x.de, .int .u8 x.cu, .int .i64 x.li, .int .i64 x.db] 35)
              have HY0 := Lib.hid ((bw.cell (p := ⟨bl, ol + (i.toNat - 1) * 5, none⟩) hbl1).trans y0)
              have HY1 := Lib.hid ((bw.cell (p := ⟨bl, ol + (i.toNat - 1) * 5 + 1, none⟩) hbl1).trans y1)
              have HY2 := Lib.hid ((bw.cell (p := ⟨bl, ol + (i.toNat - 1) * 5 + 2, none⟩) hbl1).trans y2)
              have HY3 := Lib.hid ((bw.cell (p := ⟨bl, ol + (i.toNat - 1) * 5 + 3, none⟩) hbl1).trans y3)
              have HY4 := Lib.hid ((bw.cell (p := ⟨bl, ol + (i.toNat - 1) * 5 + 4, none⟩) hbl1).trans y4)
              have HBl := Lib.hid (Nat.lt_of_lt_of_le hbl1 bw.size)
              have B5 := Lib.hid (B1.out.trans (bw.mono B1.out.size))
              have HL2 := Lib.hid (H1.out.below bw)
              have KX := Lib.hid (Blk.new wr #[.int .u8 x.cr, .int .u8 x.de, .int .u8 x.cu, .int .i64 x.li, .int .i64 x.db] 35)
              have HGX : Hid (¬ G = wr.heap.size) := Lib.hid (by have := H1.out.blk.lt; omega)
              clear bw H1 B1
              go_wp2_with fail
              generalize wr.alloc (.cells #[.int .u8 x.cr, .int .u8 x.de, .int .u8 x.cu, .int .i64 x.li, .int .i64 x.db] 35) = W at *
              clear y0 y1 y2 y3 y4
              clear d0 d1 d2 d3 d4
              have c1 : decide (x.rank ≤ y.rank) = false := by simp; omega
              have c2 : decide (x.li < 1) = false := by simp; omega
              have c3 : decide (x.db < 0) = true := by simp; omega
              clear hrk
              clear q2 q3
              refine rof_lt3 KX FX FY HBl HY0 HY1 HY2 HY3 HY4 i0 i1 hll s0 c1 c2 c3 ?_
              intro w6 b6
              have B6 := Lib.hid (B5.out.trans (b6.mono B5.out.size))
              clear b6 B5 HL2 KX
              go_wp2_with fail
              refine bodyPost_ret (v := .tuple #[.pointer none, .int .i64 1]) (by simp [results, Try.results34, go_sem]) rfl ?_
              exact ⟨B6.out, .inr (.inr ⟨rfl, .inr ⟨HP.out, by omega, HB.out⟩⟩)⟩
            · have bw := (Below.refl wr.heap.size wr).alloc (Nat.le_refl _) (.cells #[.int .u8 x.cr, .int .u8 x.de, .int .u8 x.cu, .int .i64 x.li, .int .i64 x.db] 35)
              have HY0 := Lib.hid ((bw.cell (p := ⟨bl, ol + (i.toNat - 1) * 5, none⟩) hbl1).trans y0)
              have HY1 := Lib.hid ((bw.cell (p := ⟨bl, ol + (i.toNat - 1) * 5 + 1, none⟩) hbl1).trans y1)
              have HY2 := Lib.hid ((bw.cell (p := ⟨bl, ol + (i.toNat - 1) * 5 + 2, none⟩) hbl1).trans y2)
              have HY3 := Lib.hid ((bw.cell (p := ⟨bl, ol + (i.toNat - 1) * 5 + 3, none⟩) hbl1).trans y3)
              have HY4 := Lib.hid ((bw.cell (p := ⟨bl, ol + (i.toNat - 1) * 5 + 4, none⟩) hbl1).trans y4)
              have HBl := Lib.hid (Nat.lt_of_lt_of_le hbl1 bw.size)
              have B5 := Lib.hid (B1.out.trans (bw.mono B1.out.size))
              have HL2 := Lib.hid (H1.out.below bw)
              have KX := Lib.hid (Blk.new wr #[.int .u8 x.cr, .int .u8 x.de, .int .u8 x.cu, .int .i64 x.li, .int .i64 x.db] 35)
              have HGX : Hid (¬ G = wr.heap.size) := Lib.hid (by have := H1.out.blk.lt; omega)
              clear bw H1 B1
              go_wp2_with fail
              generalize wr.alloc (.cells #[.int .u8 x.cr, .int .u8 x.de, .int .u8 x.cu, .int .i64 x.li, .int .i64 x.db] 35) = W at *
              clear y0 y1 y2 y3 y4
              clear d0 d1 d2 d3 d4
              have c1 : decide (x.rank ≤ y.rank) = false := by simp; omega
              have c2 : decide (x.li < 1) = false := by simp; omega
              have c3 : decide (x.db < 0) = false := by simp; omega
              have c4 : decide (x.li < x.db) = true := by simp; omega
              clear hrk
              clear q2 q3 q4
              refine rof_lt4 KX FX FY HBl HY0 HY1 HY2 HY3 HY4 i0 i1 hll s0 c1 c2 c3 c4 ?_
              intro w6 b6
              have B6 := Lib.hid (B5.out.trans (b6.mono B5.out.size))
              clear b6 B5 HL2 KX
              go_wp2_with fail
              refine bodyPost_ret (v := .tuple #[.pointer none, .int .i64 1]) (by simp [results, Try.results34, go_sem]) rfl ?_
              exact ⟨B6.out, .inr (.inr ⟨rfl, .inr ⟨HP.out, by omega, HB.out⟩⟩)⟩
            · have bw := (Below.refl wr.heap.size wr).alloc (Nat.le_refl _) (.cells #[.int .u8 x.cr, .int .u8 x.de, .int .u8 x.cu, .int .i64 x.li, .int .i64 x.db] 35)
              have HY0 := Lib.hid ((bw.cell (p := ⟨bl, ol + (i.toNat - 1) * 5, none⟩) hbl1).trans y0)
              have HY1 := Lib.hid ((bw.cell (p := ⟨bl, ol + (i.toNat - 1) * 5 + 1, none⟩) hbl1).trans y1)
              have HY2 := Lib.hid ((bw.cell (p := ⟨bl, ol + (i.toNat - 1) * 5 + 2, none⟩) hbl1).trans y2)
              have HY3 := Lib.hid ((bw.cell (p := ⟨bl, ol + (i.toNat - 1) * 5 + 3, none⟩) hbl1).trans y3)
              have HY4 := Lib.hid ((bw.cell (p := ⟨bl, ol + (i.toNat - 1) * 5 + 4, none⟩) hbl1).trans y4)
              have HBl := Lib.hid (Nat.lt_of_lt_of_le hbl1 bw.size)
              have B5 := Lib.hid (B1.out.trans (bw.mono B1.out.size))
              have HL2 := Lib.hid (H1.out.below bw)
              have KX := Lib.hid (Blk.new wr #[.int .u8 x.cr, .int .u8 x.de, .int .u8 x.cu, .int .i64 x.li, .int .i64 x.db] 35)
              have HGX : Hid (¬ G = wr.heap.size) := Lib.hid (by have := H1.out.blk.lt; omega)
              clear bw H1 B1
              go_wp2_with fail
              generalize wr.alloc (.cells #[.int .u8 x.cr, .int .u8 x.de, .int .u8 x.cu, .int .i64 x.li, .int .i64 x.db] 35) = W at *
              clear y0 y1 y2 y3 y4
              clear d0 d1 d2 d3 d4
              have CT : Hid (∀ w', Below W.heap.size W w' → Calls Try.prog 47 #[.pointer (some ⟨G, 0, none⟩), .int .u8 x.cr, .int .u8 x.de, .int .u8 x.cu, .int .i64 x.li] w' fun e w'' => e = .returned (.int .i64 er) ∧ TrustT W w.heap.size G zs (trustL zs (ls.take k) x.cr x.de x.cu x.li) vp w'') := Lib.hid fun w' kb => by
                refine (rtrust_any (HL2.out.below kb) HGd.out.1 HGd.out.2 x.cr x.de x.cu x.li).mono ?_
                rintro e w'' ⟨h1, vl', h2, h3⟩
                exact ⟨by rw [h1, CT0], ⟨vl', h2⟩, (Keep.of_below kb).trans h3⟩
              clear CT0
              have c1 : decide (x.rank ≤ y.rank) = false := by simp; omega
              have c2 : decide (x.li < 1) = false := by simp; omega
              have c3 : decide (x.db < 0) = false := by simp; omega
              have c4 : decide (x.li < x.db) = false := by simp; omega
              clear hrk
              clear q2 q3 q4
              refine rof_lt5 KX FX FY HBl HY0 HY1 HY2 HY3 HY4 i0 i1 hll s0 c1 c2 c3 c4 her CT ?_
              rintro w6 ⟨⟨vl6, hr6⟩, b6⟩
              have B6 := Lib.hid (B5.out.trans (b6.below B5.out.size (fun q hq e => by have := HGs.out; omega)))
              have H6 := Lib.hid hr6
              clear b6 hr6 B5 HL2 KX CT
              go_wp2_with fail
              refine bodyPost_ret (v := .tuple #[.pointer none, .int .i64 1]) (by simp [results, Try.results34, go_sem]) rfl ?_
              exact ⟨B6.out, .inr (.inr ⟨rfl, .inr ⟨HP.out, by omega, HB.out⟩⟩)⟩
            · have bw := (Below.refl wr.heap.size wr).alloc (Nat.le_refl _) (.cells #[.int .u8 x.cr, .int .u8 x.de, .int .u8 x.cu, .int .i64 x.li, .int .i64 x.db] 35)
              have HY0 := Lib.hid ((bw.cell (p := ⟨bl, ol + (i.toNat - 1) * 5, none⟩) hbl1).trans y0)
              have HY1 := Lib.hid ((bw.cell (p := ⟨bl, ol + (i.toNat - 1) * 5 + 1, none⟩) hbl1).trans y1)
              have HY2 := Lib.hid ((bw.cell (p := ⟨bl, ol + (i.toNat - 1) * 5 + 2, none⟩) hbl1).trans y2)
              have HY3 := Lib.hid ((bw.cell (p := ⟨bl, ol + (i.toNat - 1) * 5 + 3, none⟩) hbl1).trans y3)
              have HY4 := Lib.hid ((bw.cell (p := ⟨bl, ol + (i.toNat - 1) * 5 + 4, none⟩) hbl1).trans y4)
              have HBl := Lib.hid (Nat.lt_of_lt_of_le hbl1 bw.size)
              have B5 := Lib.hid (B1.out.trans (bw.mono B1.out.size))
              have HL2 := Lib.hid (H1.out.below bw)
              have KX := Lib.hid (Blk.new wr #[.int .u8 x.cr, .int .u8 x.de, .int .u8 x.cu, .int .i64 x.li, .int .i64 x.db] 35)
              have HGX : Hid (¬ G = wr.heap.size) := Lib.hid (by have := H1.out.blk.lt; omega)
              clear bw H1 B1
              go_wp2_with fail
              generalize wr.alloc (.cells #[.int .u8 x.cr, .int .u8 x.de, .int .u8 x.cu, .int .i64 x.li, .int .i64 x.db] 35) = W at *
              clear y0 y1 y2 y3 y4
              clear d0 d1 d2 d3 d4
              have CT : Hid (∀ w', Below W.heap.size W w' → Calls Try.prog 47 #[.pointer (some ⟨G, 0, none⟩), .int .u8 x.cr, .int .u8 x.de, .int .u8 x.cu, .int .i64 x.li] w' fun e w'' => e = .returned (.int .i64 0) ∧ TrustT W w.heap.size G zs (trustL zs (ls.take k) x.cr x.de x.cu x.li) vp w'') := Lib.hid fun w' kb => by
                refine (rtrust_any (HL2.out.below kb) HGd.out.1 HGd.out.2 x.cr x.de x.cu x.li).mono ?_
                rintro e w'' ⟨h1, vl', h2, h3⟩
                exact ⟨by rw [h1, CT0], ⟨vl', h2⟩, (Keep.of_below kb).trans h3⟩
              clear CT0
              have c1 : decide (x.rank ≤ y.rank) = false := by simp; omega
              have c2 : decide (x.li < 1) = false := by simp; omega
              have c3 : decide (x.db < 0) = false := by simp; omega
              have c4 : decide (x.li < x.db) = false := by simp; omega
              clear hrk
              clear q2 q3 q4
              refine rof_lt6 KX FX FY HBl HY0 HY1 HY2 HY3 HY4 i0 i1 hll s0 c1 c2 c3 c4 CT ?_
              rintro w6 ⟨⟨vl6, hr6⟩, b6⟩
              have B6 := Lib.hid (B5.out.trans (b6.below B5.out.size (fun q hq e => by have := HGs.out; omega)))
              have H6 := Lib.hid hr6
              have KX6 := Lib.hid (KX.out.keep b6 (fun e => HGX.out e.symm))
              clear b6 hr6 B5 HL2 KX CT
              have lkx := KX6.out.lt
              have x0 := KX6.out.cell 0
              have x1 := KX6.out.cell 1
              have x2 := KX6.out.cell 2
              have x3 := KX6.out.cell 3
              have x4 := KX6.out.cell 4
              simp at x0 x1 x2 x3 x4
              have CS := Lib.hid (rset_any H6.out x FX.out HTF.out.1 HTF.out.2)
              go_wp2_with fail
              refine CS.out.mono ?_
              rintro e w7 ⟨rfl, vl7, hr7, k7⟩
              clear CS lkx x0 x1 x2 x3 x4 KX6
              have B7 := Lib.hid (B6.out.trans (k7.below B6.out.size (fun q hq e => by have := HGs.out; omega)))
              rw [HS.out] at hr7
              have H7 := Lib.hid hr7
              clear hr7 k7 B6 H6
              go_wp2_with fail
              go_roundw
              case rel => exact ⟨k + 1, vp, vl7, by omega, by have := HIi.out; first | go_num | (congr 1; omega), HN.out, H7.out, B7.out⟩
              case measure => have := HIi.out; simp [intOf]; omega
          · have s0 : decide (0 < i) = false := by simp; omega
            have hs0 := lines_tail (zs := zs) hkl h64 HO.out HF.out (fun h => absurd h hk0)
            clear HC FY
            clear i2
            generalize hxe : ls[k] = x at *
            clear hxe
            rcases hs0 with ⟨HB, q2⟩ | ⟨HB, q2, q3⟩ | ⟨HB, q2, q3, q4⟩ | ⟨HB, q2, q3, q4, er, her, CT0⟩ | ⟨q2, q3, q4, CT0, HS, HN, HTF⟩
            · have bw := (Below.refl wr.heap.size wr).alloc (Nat.le_refl _) (.cells #[.int .u8 x.cr, .int .u8 x.de, .int .u8 x.cu, .int .i64 x.li, .int .i64 x.db] 35)
              have B5 := Lib.hid (B1.out.trans (bw.mono B1.out.size))
              have HL2 := Lib.hid (H1.out.below bw)
              have KX := Lib.hid (Blk.new wr #[.int .u8 x.cr, .int .u8 x.de, .int .u8 x.cu, .int .i64 x.li, .int .i64 x.db] 35)
              have HGX : Hid (¬ G = wr.heap.size) := Lib.hid (by have := H1.out.blk.lt; omega)
              clear bw H1 B1
              go_wp2_with fail
              generalize wr.alloc (.cells #[.int .u8 x.cr, .int .u8 x.de, .int .u8 x.cu, .int .i64 x.li, .int .i64 x.db] 35) = W at *
              clear d0 d1 d2 d3 d4
              have c2 : decide (x.li < 1) = true := by simp; omega
              clear q2
              refine rof_lf2 (y := noLn) KX FX s0 c2 ?_
              intro w6 b6
              have B6 := Lib.hid (B5.out.trans (b6.mono B5.out.size))
              clear b6 B5 HL2 KX
              go_wp2_with fail
              refine bodyPost_ret (v := .tuple #[.pointer none, .int .i64 1]) (by simp [results, Try.results34, go_sem]) rfl ?_
              exact ⟨B6.out, .inr (.inr ⟨rfl, .inr ⟨HP.out, by omega, HB.out⟩⟩)⟩
            · have bw := (Below.refl wr.heap.size wr).alloc (Nat.le_refl _) (.cells #[.int .u8 x.cr, .int .u8 x.de, .int .u8 x.cu, .int .i64 x.li, .int .i64 x.db] 35)
              have B5 := Lib.hid (B1.out.trans (bw.mono B1.out.size))
              have HL2 := Lib.hid (H1.out.below bw)
              have KX := Lib.hid (Blk.new wr #[.int .u8 x.cr, .int .u8 x.de, .int .u8 x.cu, .int .i64 x.li, .int .i64 x.db] 35)
              have HGX : Hid (¬ G = wr.heap.size) := Lib.hid (by have := H1.out.blk.lt; omega)
              clear bw H1 B1
              go_wp2_with fail
              generalize wr.alloc (.cells #[.int .u8 x.cr, .int .u8 x.de, .int .u8 x.cu, .int .i64 x.li, .int .i64 x.db] 35) = W at *
              clear d0 d1 d2 d3 d4
              have c2 : decide (x.li < 1) = false := by simp; omega
              have c3 : decide (x.db < 0) = true := by simp; omega
              clear q2 q3
              refine rof_lf3 (y := noLn) KX FX s0 c2 c3 ?_
              intro w6 b6
              have B6 := Lib.hid (B5.out.trans (b6.mono B5.out.size))
              clear b6 B5 HL2 KX
              go_wp2_with fail
              refine bodyPost_ret (v := .tuple #[.pointer none, .int .i64 1]) (by simp [results, Try.results34, go_sem]) rfl ?_
              exact ⟨B6.out, .inr (.inr ⟨rfl, .inr ⟨HP.out, by omega, HB.out⟩⟩)⟩
            · have bw := (Below.refl wr.heap.size wr).alloc (Nat.le_refl _) (.cells #[.int .u8 x.cr, .int .u8 x.de, .int .u8 x.cu, .int .i64 x.li, .int .i64 x.db] 35)
              have B5 := Lib.hid (B1.out.trans (bw.mono B1.out.size))
              have HL2 := Lib.hid (H1.out.below bw)
              have KX := Lib.hid (Blk.new wr #[.int .u8 x.cr, .int .u8 x.de, .int .u8 x.cu, .int .i64 x.li, .int .i64 x.db] 35)
              have HGX : Hid (¬ G = wr.heap.size) := Lib.hid (by have := H1.out.blk.lt; omega)
              clear bw H1 B1
              go_wp2_with fail
              generalize wr.alloc (.cells #[.int .u8 x.cr, .int .u8 x.de, .int .u8 x.cu, .int .i64 x.li, .int .i64 x.db] 35) = W at *
              clear d0 d1 d2 d3 d4
              have c2 : decide (x.li < 1) = false := by simp; omega
              have c3 : decide (x.db < 0) = false := by simp; omega
              have c4 : decide (x.li < x.db) = true := by simp; omega
              clear q2 q3 q4
              refine rof_lf4 (y := noLn) KX FX s0 c2 c3 c4 ?_
              intro w6 b6
              have B6 := Lib.hid (B5.out.trans (b6.mono B5.out.size))
              clear b6 B5 HL2 KX
              go_wp2_with fail
              refine bodyPost_ret (v := .tuple #[.pointer none, .int .i64 1]) (by simp [results, Try.results34, go_sem]) rfl ?_
              exact ⟨B6.out, .inr (.inr ⟨rfl, .inr ⟨HP.out, by omega, HB.out⟩⟩)⟩
            · have bw := (Below.refl wr.heap.size wr).alloc (Nat.le_refl _) (.cells #[.int .u8 x.cr, .int .u8 x.de, .int .u8 x.cu, .int .i64 x.li, .int .i64 x.db] 35)
              have B5 := Lib.hid (B1.out.trans (bw.mono B1.out.size))
              have HL2 := Lib.hid (H1.out.below bw)
              have KX := Lib.hid (Blk.new wr #[.int .u8 x.cr, .int .u8 x.de, .int .u8 x.cu, .int .i64 x.li, .int .i64 x.db] 35)
              have HGX : Hid (¬ G = wr.heap.size) := Lib.hid (by have := H1.out.blk.lt; omega)
              clear bw H1 B1
              go_wp2_with fail
              generalize wr.alloc (.cells #[.int .u8 x.cr, .int .u8 x.de, .int .u8 x.cu, .int .i64 x.li, .int .i64 x.db] 35) = W at *
              clear d0 d1 d2 d3 d4
              have CT : Hid (∀ w', Below W.heap.size W w' → Calls Try.prog 47 #[.pointer (some ⟨G, 0, none⟩), .int .u8 x.cr, .int .u8 x.de, .int .u8 x.cu, .int .i64 x.li] w' fun e w'' => e = .returned (.int .i64 er) ∧ TrustT W w.heap.size G zs (trustL zs (ls.take k) x.cr x.de x.cu x.li) vp w'') := Lib.hid fun w' kb => by
                refine (rtrust_any (HL2.out.below kb) HGd.out.1 HGd.out.2 x.cr x.de x.cu x.li).mono ?_
                rintro e w'' ⟨h1, vl', h2, h3⟩
                exact ⟨by rw [h1, CT0], ⟨vl', h2⟩, (Keep.of_below kb).trans h3⟩
              clear CT0
              have c2 : decide (x.li < 1) = false := by simp; omega
              have c3 : decide (x.db < 0) = false := by simp; omega
              have c4 : decide (x.li < x.db) = false := by simp; omega
              clear q2 q3 q4
              refine rof_lf5 (y := noLn) KX FX s0 c2 c3 c4 her CT ?_
              rintro w6 ⟨⟨vl6, hr6⟩, b6⟩
              have B6 := Lib.hid (B5.out.trans (b6.below B5.out.size (fun q hq e => by have := HGs.out; omega)))
              have H6 := Lib.hid hr6
              clear b6 hr6 B5 HL2 KX CT
              go_wp2_with fail
              refine bodyPost_ret (v := .tuple #[.pointer none, .int .i64 1]) (by simp [results, Try.results34, go_sem]) rfl ?_
              exact ⟨B6.out, .inr (.inr ⟨rfl, .inr ⟨HP.out, by omega, HB.out⟩⟩)⟩
            · have bw := (Below.refl wr.heap.size wr).alloc (Nat.le_refl _) (.cells #[.int .u8 x.cr, .int .u8 x.de, .int .u8 x.cu, .int .i64 x.li, .int .i64 x.db] 35)
              have B5 := Lib.hid (B1.out.trans (bw.mono B1.out.size))
              have HL2 := Lib.hid (H1.out.below bw)
              have KX := Lib.hid (Blk.new wr #[.int .u8 x.cr, .int .u8 x.de, .int .u8 x.cu, .int .i64 x.li, .int .i64 x.db] 35)
              have HGX : Hid (¬ G = wr.heap.size) := Lib.hid (by have := H1.out.blk.lt; omega)
              clear bw H1 B1
              go_wp2_with fail
              generalize wr.alloc (.cells #[.int .u8 x.cr, .int .u8 x.de, .int .u8 x.cu, .int .i64 x.li, .int .i64 x.db] 35) = W at *
              clear d0 d1 d2 d3 d4
              have CT : Hid (∀ w', Below W.heap.size W w' → Calls Try.prog 47 #[.pointer (some ⟨G, 0, none⟩), .int .u8 x.cr, .int .u8 x.de, .int .u8 x.cu, .int .i64 x.li] w' fun e w'' => e = .returned (.int .i64 0) ∧ TrustT W w.heap.size G zs (trustL zs (ls.take k) x.cr x.de x.cu x.li) vp w'') := Lib.hid fun w' kb => by
                refine (rtrust_any (HL2.out.below kb) HGd.out.1 HGd.out.2 x.cr x.de x.cu x.li).mono ?_
                rintro e w'' ⟨h1, vl', h2, h3⟩
                exact ⟨by rw [h1, CT0], ⟨vl', h2⟩, (Keep.of_below kb).trans h3⟩
              clear CT0
              have c2 : decide (x.li < 1) = false := by simp; omega
              have c3 : decide (x.db < 0) = false := by simp; omega
              have c4 : decide (x.li < x.db) = false := by simp; omega
              clear q2 q3 q4
              refine rof_lf6 (y := noLn) KX FX s0 c2 c3 c4 CT ?_
              rintro w6 ⟨⟨vl6, hr6⟩, b6⟩
              have B6 := Lib.hid (B5.out.trans (b6.below B5.out.size (fun q hq e => by have := HGs.out; omega)))
              have H6 := Lib.hid hr6
              have KX6 := Lib.hid (KX.out.keep b6 (fun e => HGX.out e.symm))
              clear b6 hr6 B5 HL2 KX CT
              have lkx := KX6.out.lt
              have x0 := KX6.out.cell 0
              have x1 := KX6.out.cell 1
              have x2 := KX6.out.cell 2
              have x3 := KX6.out.cell 3
              have x4 := KX6.out.cell 4
              simp at x0 x1 x2 x3 x4
              have CS := Lib.hid (rset_any H6.out x FX.out HTF.out.1 HTF.out.2)
              go_wp2_with fail
              refine CS.out.mono ?_
              rintro e w7 ⟨rfl, vl7, hr7, k7⟩
              clear CS lkx x0 x1 x2 x3 x4 KX6
              have B7 := Lib.hid (B6.out.trans (k7.below B6.out.size (fun q hq e => by have := HGs.out; omega)))
              rw [HS.out] at hr7
              have H7 := Lib.hid hr7
              clear hr7 k7 B6 H6
              go_wp2_with fail
              go_roundw
              case rel => exact ⟨k + 1, vp, vl7, by omega, by have := HIi.out; first | go_num | (congr 1; omega), HN.out, H7.out, B7.out⟩
              case measure => have := HIi.out; simp [intOf]; omega
        · rw [List.take_of_length_le (by omega)] at HO H1
          go_wp2_with fail
          refine bodyPost_ret (v := .tuple #[.pointer (some ⟨G, 0, none⟩), .int .i64 0]) (by simp [results, Try.results34, go_sem]) rfl ?_
          exact ⟨B1.out, .inl ⟨HP.out, h64, HO.out, G, vp, vl, rfl, H1.out⟩⟩

end Go.Proofs.Ytlcilpeljnoclaa
