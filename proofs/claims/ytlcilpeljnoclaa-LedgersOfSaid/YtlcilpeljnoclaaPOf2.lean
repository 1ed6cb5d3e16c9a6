/-
  The program's ledgers: Of.
-/
import Derived.Test.YtlcilpeljnoclaaPOf
namespace Go.Proofs.Ytlcilpeljnoclaa
open Go.RowKit
set_option linter.unusedSimpArgs false
set_option linter.unusedVariables false

theorem below_grow (w : World) (q : Nat) (os : Array Obj) : Below w.heap.size w (Go.Sort.grow (w.drewN q) os) := by
  refine ⟨rfl, rfl, rfl, by simp [Go.Sort.grow], fun k hk => ?_⟩
  rw [Go.Sort.heap_grow_old _ _ (by simpa using hk)]
  rfl
theorem Reads.atP {w : World} {v : Value} {zs : List Int} (h : Reads w v 1 zs.length (zs.map (.int .u8))) :
    ∃ (ao : Option Addr) (cap : Nat), v = .slice ao zs.length cap ∧ zs.length ≤ 100000000 ∧ ∀ k, k < zs.length → ∃ b off, ao = some ⟨b, off, none⟩ ∧ b < w.heap.size ∧ ∀ j (hj : j < zs.length), w.cell? ⟨b, off + j, none⟩ = some (.int .u8 zs[j]) := by
  obtain ⟨ao, cap, rfl, h1, h2, h3⟩ := h
  refine ⟨ao, cap, rfl, h1, fun k hk => ?_⟩
  obtain ⟨b, off, rfl, hb, hc⟩ := h3 (by omega)
  exact ⟨b, off, rfl, hb, fun j hj => by rw [hc j (by omega)]; simp [hj]⟩
theorem Reads.atL {w : World} {v : Value} {ls : List Ln} (h : Reads w v 5 ls.length (lnCells ls)) :
    ∃ (ao : Option Addr) (cap : Nat), v = .slice ao ls.length cap ∧ ls.length ≤ 100000000 ∧ ∀ k, k < ls.length → ∃ b off, ao = some ⟨b, off, none⟩ ∧ b < w.heap.size ∧ ∀ j (hj : j < ls.length) i, i < 5 → w.cell? ⟨b, off + j * 5 + i, none⟩ = ls[j].vals[i]? := by
  obtain ⟨ao, cap, rfl, h1, h2, h3⟩ := h
  refine ⟨ao, cap, rfl, h1, fun k hk => ?_⟩
  obtain ⟨b, off, rfl, hb, hc⟩ := h3 (by omega)
  exact ⟨b, off, rfl, hb, fun j hj i hi => by rw [Nat.add_assoc, hc (j * 5 + i) (by omega), lnCells_get ls j i hi hj]⟩
/-- What Of makes of parties and lines. -/
def OfPost (w : World) (zs : List Int) (ls : List Ln) (e : Ending) (w' : World) : Prop :=
  Below w.heap.size w w' ∧ ((okP zs ∧ ls.length ≤ 64 ∧ okL zs ls ∧ ∃ g m, w.heap.size ≤ g ∧ w.heap.size ≤ m ∧ e = .returned (.tuple #[.pointer (some ⟨g, 0, none⟩), .int .i64 0]) ∧ LedM w' g m zs ls) ∨
    (e = .returned (.tuple #[.pointer none, .int .i64 9]) ∧ okP zs ∧ 64 < ls.length) ∨
    (e = .returned (.tuple #[.pointer none, .int .i64 1]) ∧ (¬ okP zs ∨ (okP zs ∧ ls.length ≤ 64 ∧ ¬ okL zs ls))))
def OfAt1 (w : World) (G M : Nat) (zs : List Int) (i : Value) (wr : World) : Prop :=
  ∃ k : Nat, k ≤ zs.length ∧ i = .int .i64 k ∧ okP (zs.take k) ∧ LedM wr G M (zs.take k) [] ∧ Below w.heap.size w wr
def OfAt2 (w : World) (G M : Nat) (zs : List Int) (ls : List Ln) (i : Value) (wr : World) : Prop :=
  ∃ k : Nat, k ≤ ls.length ∧ i = .int .i64 k ∧ okL zs (ls.take k) ∧ LedM wr G M zs (ls.take k) ∧ Below w.heap.size w wr
set_option maxHeartbeats 8000000 in
set_option maxRecDepth 100000 in
theorem pof_any {w : World} {vp vl : Value} {zs : List Int} {ls : List Ln} (hp : Reads w vp 1 zs.length (zs.map (.int .u8))) (hl : Reads w vl 5 ls.length (lnCells ls)) (h8 : ∀ p ∈ zs, In8 p) (hf : ∀ x ∈ ls, x.Fits) :
    Calls Try.prog 33 #[vp, vl] w (OfPost w zs ls) := by
  obtain ⟨po, pcap, rfl, hpl, hP⟩ := hp.atP
  obtain ⟨lo, lcap, rfl, hll, hL⟩ := hl.atL
  have HPR := Lib.hid hP
  have HLR := Lib.hid hL
  have H8 := Lib.hid h8
  have HF := Lib.hid hf
  clear hp hl hP hL h8 hf
  go_enter Try.func33, Try.ntmps33
  go_wp2_with fail
  refine (new_any w).mono ?_
  rintro e w0 ⟨G, M, rfl, h0, hG, hM, hb0⟩
  have H0 := Lib.hid h0
  have B0 := Lib.hid hb0
  clear h0 hb0
  go_wp2_with fail
  go_loopw [14] (OfAt1 w G M zs) (fun i _ => zs.length - (intOf i).toNat)
  case atStart => exact ⟨0, Nat.zero_le _, rfl, okP.nil, H0.out, B0.out⟩
  case round =>
    obtain ⟨k, hk, rfl, hok, hL, hB⟩ := hrel
    have HO := Lib.hid hok
    have H1 := Lib.hid hL
    have B1 := Lib.hid hB
    clear hok hL hB
    by_cases hkl : k < zs.length
    · obtain ⟨bp, op, rfl, hbp, hcp⟩ := HPR.out k hkl
      have hbp1 : bp < wr.heap.size := Nat.lt_of_lt_of_le hbp B1.out.size
      have HC := Lib.hid (fun j (hj : j < zs.length) => (B1.out.cell (p := ⟨bp, op + j, none⟩) hbp).trans (hcp j hj))
      clear hcp
      have d0 : wr.cell? ⟨bp, op + k, none⟩ = some (.int .u8 zs[k]) := HC.out k hkl
      have C2 := Lib.hid (partyMay_any zs[k] wr)
      have NX := Lib.hid (fun hm hs => okP.next hkl HO.out hm hs)
      have BD := Lib.hid (fun h => okP.bad hkl h)
      by_cases hm : mayP zs[k] = false
      · have HB := Lib.hid (BD.out (.inl hm))
        rw [hm] at C2
        clear hm NX BD
        generalize zs[k] = p at *
        go_wp2_with fail
        refine C2.out.mono ?_
        rintro e wr ⟨rfl, rfl⟩
        go_wp2_with fail
        refine bodyPost_ret (v := .tuple #[.pointer none, .int .i64 1]) (by simp [results, Try.results33, go_sem]) rfl ?_
        exact ⟨B1.out, .inr (.inr ⟨rfl, .inl HB.out⟩)⟩
      have hm : mayP zs[k] = true := by simpa using hm
      rw [hm] at C2
      have hpb : 1 ≤ zs[k] ∧ zs[k] ≤ 16 := by unfold mayP at hm; simpa using hm
      by_cases hbad : ∃ hk0 : 0 < k, zs[k] ≤ zs[k - 1]'(by omega)
      · have HB := Lib.hid (BD.out (.inr hbad))
        obtain ⟨hk0, hle⟩ := hbad
        obtain ⟨j, rfl⟩ : ∃ j, k = j + 1 := ⟨k - 1, by omega⟩
        have d1 : wr.cell? ⟨bp, op + j, none⟩ = some (.int .u8 zs[j]) := HC.out j (by omega)
        have hle : zs[j + 1] ≤ zs[j] := hle
        have s1 : decide (zs[j + 1] ≤ zs[j]) = true := by simpa using hle
        clear hm NX BD HC hpb
        generalize zs[j + 1] = p at *
        generalize zs[j] = q at *
        go_wp2_with fail
        refine C2.out.mono ?_
        rintro e wr ⟨rfl, rfl⟩
        go_wp2_with fail
        refine bodyPost_ret (v := .tuple #[.pointer none, .int .i64 1]) (by simp [results, Try.results33, go_sem]) rfl ?_
        exact ⟨B1.out, .inr (.inr ⟨rfl, .inl HB.out⟩)⟩
      have hs : ∀ hk0 : 0 < k, zs[k - 1]'(by omega) < zs[k] := fun hk0 => by
        by_cases h : zs[k] ≤ zs[k - 1]'(by omega)
        · exact absurd ⟨hk0, h⟩ hbad
        · omega
      have HN := Lib.hid (NX.out hm hs)
      have HT := Lib.hid (List.take_succ_eq_append_getElem hkl)
      have H2 : Hid (LedM (wr.setCell ⟨G, zs[k].toNat, none⟩ (.bool true)) G M (zs.take (k + 1)) [] ∧ Below w.heap.size w (wr.setCell ⟨G, zs[k].toNat, none⟩ (.bool true))) := Lib.hid (by
        have kk := (Keep.refl (· = G) wr).setCell (p := ⟨G, zs[k].toNat, none⟩) (.inl rfl) (.bool true)
        refine ⟨⟨?_, H1.out.map.keep kk H1.out.ne⟩, B1.out.trans (kk.below B1.out.size (fun b hb e => by omega))⟩
        have := H1.out.blk.set zs[k].toNat (.bool true)
        rwa [ledC_set _ _ hpb (zs.take (k + 1)) (fun q => by
          rw [HT.out, List.mem_append, List.mem_singleton]
          exact Or.comm)] at this)
      obtain ⟨p1, p2⟩ := hpb
      have p3 : 0 ≤ zs[k] := by omega
      have p4 : zs[k] < 17 := by omega
      have d := H1.out.blk.ledHas (p := zs[k]) p3 p4
      have f := H1.out.blk.frozen zs[k].toNat
      have hlt := H1.out.blk.lt
      generalize decide (zs[k] ∈ zs.take k) = wasthere at *
      by_cases hk0 : 0 < k
      · have hlt1 := hs hk0
        obtain ⟨j, rfl⟩ : ∃ j, k = j + 1 := ⟨k - 1, by omega⟩
        have d1 : wr.cell? ⟨bp, op + j, none⟩ = some (.int .u8 zs[j]) := HC.out j (by omega)
        have hlt1 : zs[j] < zs[j + 1] := hlt1
        have s1 : decide (zs[j + 1] ≤ zs[j]) = false := by simp; omega
        clear hm NX BD HC hs hbad HT HO H1
        generalize zs[j + 1] = p at *
        generalize zs[j] = q at *
        go_wp2_with fail
        refine C2.out.mono ?_
        rintro e wr ⟨rfl, rfl⟩
        go_wp2_with fail
        go_roundw
        case rel => exact ⟨j + 1 + 1, by omega, by go_num, HN.out, H2.out.1, H2.out.2⟩
        case measure => simp [intOf]; omega
      · have s1 : decide (0 < (k : Int)) = false := by simp; omega
        clear hm NX BD HC hs hbad HT HO H1
        generalize zs[k] = p at *
        go_wp2_with fail
        refine C2.out.mono ?_
        rintro e wr ⟨rfl, rfl⟩
        go_wp2_with fail
        go_roundw
        case rel => exact ⟨k + 1, by omega, by go_num, HN.out, H2.out.1, H2.out.2⟩
        case measure => simp [intOf]; omega
    · rw [List.take_of_length_le (by omega)] at HO H1
      clear HPR H8 H0 B0
      have HP := HO
      clear HO
      by_cases h64 : 64 < ls.length
      · go_wp2_with fail
        refine bodyPost_ret (v := .tuple #[.pointer none, .int .i64 9]) (by simp [results, Try.results33, go_sem]) rfl ?_
        exact ⟨B1.out, .inr (.inl ⟨rfl, HP.out, h64⟩)⟩
      have h64 : ls.length ≤ 64 := by omega
      go_wp2_with fail
      go_loopw [46] (OfAt2 w G M zs ls) (fun i _ => ls.length - (intOf i).toNat)
      case atStart => exact ⟨0, Nat.zero_le _, rfl, okL.nil _, H1.out, B1.out⟩
      case round =>
        rename_i w4
        clear H1 B1
        obtain ⟨k, hk, rfl, hok, hL, hB⟩ := hrel
        have HO := Lib.hid hok
        have H1 := Lib.hid hL
        have B1 := Lib.hid hB
        clear hok hL hB
        by_cases hkl : k < ls.length
        · obtain ⟨bl, ol, rfl, hbl, hcl⟩ := HLR.out k hkl
          have hbl1 : bl < wr.heap.size := Nat.lt_of_lt_of_le hbl B1.out.size
          have HC := Lib.hid (fun j (hj : j < ls.length) i (hi : i < 5) => (B1.out.cell (p := ⟨bl, ol + j * 5 + i, none⟩) hbl).trans (hcl j hj i hi))
          have HMw := Lib.hid hM
          clear hcl
          by_cases hm : ¬ lnMay zs ls[k]
          · have HB := Lib.hid (okL.bad hkl (.inl hm))
            have d0 : wr.cell? ⟨bl, ol + (k) * 5, none⟩ = some (.int .u8 ls[k].cr) := HC.out (k) (by omega) 0 (by omega)
            have d1 : wr.cell? ⟨bl, ol + (k) * 5 + 1, none⟩ = some (.int .u8 ls[k].de) := HC.out (k) (by omega) 1 (by omega)
            have d2 : wr.cell? ⟨bl, ol + (k) * 5 + 2, none⟩ = some (.int .u8 ls[k].cu) := HC.out (k) (by omega) 2 (by omega)
            have d3 : wr.cell? ⟨bl, ol + (k) * 5 + 3, none⟩ = some (.int .i64 ls[k].li) := HC.out (k) (by omega) 3 (by omega)
            have d4 : wr.cell? ⟨bl, ol + (k) * 5 + 4, none⟩ = some (.int .i64 ls[k].db) := HC.out (k) (by omega) 4 (by omega)
            generalize hxe : ls[k] = x at *
            clear hxe HC
            have bw := (Below.refl wr.heap.size wr).alloc (Nat.le_refl _) (.cells #[.int .u8 x.cr, .int .u8 x.de, .int .u8 x.cu, .int .i64 x.li, .int .i64 x.db] 35)
            have B5 := Lib.hid (B1.out.trans (bw.mono B1.out.size))
            have HL2 := Lib.hid (H1.out.below bw)
            have KX := Lib.hid (Blk.new wr #[.int .u8 x.cr, .int .u8 x.de, .int .u8 x.cu, .int .i64 x.li, .int .i64 x.db] 35)
            clear bw H1 B1
            go_wp2_with fail
            generalize wr.alloc (.cells #[.int .u8 x.cr, .int .u8 x.de, .int .u8 x.cu, .int .i64 x.li, .int .i64 x.db] 35) = W at *
            have CL : Hid (∀ w', Below W.heap.size W w' → Calls Try.prog 61 #[.pointer (some ⟨G, 0, none⟩), .agg #[.int .u8 x.cr, .int .u8 x.de, .int .u8 x.cu, .int .i64 x.li, .int .i64 x.db]] w' fun e w'' => e = .returned (.bool false) ∧ Below w'.heap.size w' w'') := Lib.hid fun w' k => by
              have := lineMay_any (HL2.out.below k).blk HP.out.2 x
              rwa [decide_eq_false hm] at this
            clear hm
            refine region_still (by kernel_rfl) [(.pointer (some ⟨G, 0, none⟩)), (.agg #[.int .u8 x.cr, .int .u8 x.de, .int .u8 x.cu, .int .i64 x.li, .int .i64 x.db]), (.bool false), (.bool true), (.bool true), undef, undef, undef, undef, undef, undef, undef, undef, undef, undef, undef, undef, (.bool true)]
              (fun w' => Below W.heap.size W w') (by kernel_rfl) (Below.refl _ _).drew ?_
            intro af haf
            simp only [List.toList_toArray, List.append_eq, List.cons_append, List.nil_append, puts, Act.put, List.getD_cons_zero, List.getD_cons_succ, List.setIfInBounds_toArray, List.set_cons_succ, List.set_cons_zero] at haf
            subst haf
            refine ⟨?_, ?_⟩
            · simp only [List.toList_toArray, List.append_eq, List.cons_append, List.nil_append, EachTo]
              refine ⟨?_, ?_, ?_, ?_, ?_, ?_, ?_, ?_, ?_, ?_, ?_, ?_, ?_, ?_, ?_, ?_, ?_, ?_, trivial⟩
              · intro w' hS
                refine OpTo.plain ?_ ?_
                exact rfl
                have HS := Lib.hid hS
                clear hS
                go_wp2_with fail
                all_goals first | exact HS.out | exact ⟨rfl, HS.out⟩ | rfl | exact ⟨by omega, HS.out⟩
              · intro w' hS
                refine OpTo.plain ?_ ?_
                exact rfl
                have d0_0 := (KX.out.below hS KX.out.lt).cell 0
                have d0_1 := (KX.out.below hS KX.out.lt).cell 1
                have d0_2 := (KX.out.below hS KX.out.lt).cell 2
                have d0_3 := (KX.out.below hS KX.out.lt).cell 3
                have d0_4 := (KX.out.below hS KX.out.lt).cell 4
                simp at d0_0 d0_1 d0_2 d0_3 d0_4
                have HS := Lib.hid hS
                clear hS
                go_wp2_with fail
                all_goals first | exact HS.out | exact ⟨rfl, HS.out⟩ | rfl | exact ⟨by omega, HS.out⟩
              · intro w' hS
                refine OpTo.plain ?_ ?_
                exact rfl
                have HS := Lib.hid hS
                clear hS
                go_wp2_with fail
                refine (CL.out w' HS.out).mono ?_
                rintro e w'' ⟨rfl, hb2⟩
                exact ⟨rfl, andB HS.out hb2⟩
              · intro w' hS
                refine OpTo.plain ?_ ?_
                exact rfl
                have HS := Lib.hid hS
                clear hS
                go_wp2_with fail
                all_goals first | exact HS.out | exact ⟨rfl, HS.out⟩ | rfl | exact ⟨by omega, HS.out⟩
              · intro w' hS
                refine OpTo.plain ?_ ?_
                exact rfl
                have HS := Lib.hid hS
                clear hS
                go_wp2_with fail
                all_goals first | exact HS.out | exact ⟨rfl, HS.out⟩ | rfl | exact ⟨by omega, HS.out⟩
              · intro w' hS
                refine OpTo.passed (by kernel_rfl) rfl hS
              · intro w' hS
                refine OpTo.passed (by kernel_rfl) rfl hS
              · intro w' hS
                refine OpTo.passed (by kernel_rfl) rfl hS
              · intro w' hS
                refine OpTo.passed (by kernel_rfl) rfl hS
              · intro w' hS
                refine OpTo.passed (by kernel_rfl) rfl hS
              · intro w' hS
                refine OpTo.passed (by kernel_rfl) rfl hS
              · intro w' hS
                refine OpTo.passed (by kernel_rfl) rfl hS
              · intro w' hS
                refine OpTo.passed (by kernel_rfl) rfl hS
              · intro w' hS
                refine OpTo.passed (by kernel_rfl) rfl hS
              · intro w' hS
                refine OpTo.passed (by kernel_rfl) rfl hS
              · intro w' hS
                refine OpTo.passed (by kernel_rfl) rfl hS
              · intro w' hS
                refine OpTo.passed (by kernel_rfl) rfl hS
              · intro w' hS
                refine OpTo.plain ?_ ?_
                exact rfl
                have HS := Lib.hid hS
                clear hS
                go_wp2_with fail
                all_goals first | exact HS.out | exact ⟨rfl, HS.out⟩ | rfl | exact ⟨by omega, HS.out⟩
            intro w6 b6
            have B6 := Lib.hid (B5.out.trans (b6.mono B5.out.size))
            clear b6 B5 HL2 KX CL
            go_wp2_with fail
            refine bodyPost_ret (v := .tuple #[.pointer none, .int .i64 1]) (by simp [results, Try.results33, go_sem]) rfl ?_
            exact ⟨B6.out, .inr (.inr ⟨rfl, .inr ⟨HP.out, by omega, HB.out⟩⟩)⟩
          have hm := Decidable.not_not.1 hm
          by_cases hk0 : ¬ 0 < k
          · have hs : ∀ hk0 : 0 < k, (ls[k - 1]'(by omega)).rank < ls[k].rank := fun h => absurd h hk0
            have s6 : decide (0 < (k : Int)) = false := by simp; omega
            have HI := Lib.hid (HP.out.linv HO.out (by rw [List.length_take]; omega)).inv
            have HN2 := Lib.hid (okL.next hkl HO.out hm hs)
            have HN : Hid (Inv (ls.take k) ∧ ls[k].Fits ∧ ls[k].li ≠ 0 ∧ setL (ls.take k) ls[k] = ls.take (k + 1)) := Lib.hid (by
              have hg := hm.good
              have hli := hg.li
              refine ⟨HI.out, hg.fits, by omega, ?_⟩
              have hp := HN2.out.1
              rw [List.take_succ_eq_append_getElem hkl] at hp ⊢
              rw [List.pairwise_append] at hp
              exact set_last HI.out.sorted (fun y hy => hp.2.2 y hy _ (by simp)) (by omega))
            clear hs HI
            have d0 : wr.cell? ⟨bl, ol + (k) * 5, none⟩ = some (.int .u8 ls[k].cr) := HC.out (k) (by omega) 0 (by omega)
            have d1 : wr.cell? ⟨bl, ol + (k) * 5 + 1, none⟩ = some (.int .u8 ls[k].de) := HC.out (k) (by omega) 1 (by omega)
            have d2 : wr.cell? ⟨bl, ol + (k) * 5 + 2, none⟩ = some (.int .u8 ls[k].cu) := HC.out (k) (by omega) 2 (by omega)
            have d3 : wr.cell? ⟨bl, ol + (k) * 5 + 3, none⟩ = some (.int .i64 ls[k].li) := HC.out (k) (by omega) 3 (by omega)
            have d4 : wr.cell? ⟨bl, ol + (k) * 5 + 4, none⟩ = some (.int .i64 ls[k].db) := HC.out (k) (by omega) 4 (by omega)
            generalize hxe : ls[k] = x at *
            clear hxe HC
            have bw := (Below.refl wr.heap.size wr).alloc (Nat.le_refl _) (.cells #[.int .u8 x.cr, .int .u8 x.de, .int .u8 x.cu, .int .i64 x.li, .int .i64 x.db] 35)
            have B5 := Lib.hid (B1.out.trans (bw.mono B1.out.size))
            have HL2 := Lib.hid (H1.out.below bw)
            have KX := Lib.hid (Blk.new wr #[.int .u8 x.cr, .int .u8 x.de, .int .u8 x.cu, .int .i64 x.li, .int .i64 x.db] 35)
            clear bw H1 B1
            go_wp2_with fail
            generalize wr.alloc (.cells #[.int .u8 x.cr, .int .u8 x.de, .int .u8 x.cu, .int .i64 x.li, .int .i64 x.db] 35) = W at *
            have CL : Hid (∀ w', Below W.heap.size W w' → Calls Try.prog 61 #[.pointer (some ⟨G, 0, none⟩), .agg #[.int .u8 x.cr, .int .u8 x.de, .int .u8 x.cu, .int .i64 x.li, .int .i64 x.db]] w' fun e w'' => e = .returned (.bool true) ∧ Below w'.heap.size w' w'') := Lib.hid fun w' k => by
              have := lineMay_any (HL2.out.below k).blk HP.out.2 x
              rwa [decide_eq_true hm] at this
            clear hm
            refine region_still (by kernel_rfl) [(.pointer (some ⟨G, 0, none⟩)), (.agg #[.int .u8 x.cr, .int .u8 x.de, .int .u8 x.cu, .int .i64 x.li, .int .i64 x.db]), (.bool true), (.bool false), (.bool false), (.int .i64 k), (.bool false), (.bool false), undef, undef, undef, undef, undef, undef, undef, undef, (.bool false), (.bool false)]
              (fun w' => Below W.heap.size W w') (by kernel_rfl) (Below.refl _ _).drew ?_
            intro af haf
            simp only [List.toList_toArray, List.append_eq, List.cons_append, List.nil_append, puts, Act.put, List.getD_cons_zero, List.getD_cons_succ, List.setIfInBounds_toArray, List.set_cons_succ, List.set_cons_zero] at haf
            subst haf
            refine ⟨?_, ?_⟩
            · simp only [List.toList_toArray, List.append_eq, List.cons_append, List.nil_append, EachTo]
              refine ⟨?_, ?_, ?_, ?_, ?_, ?_, ?_, ?_, ?_, ?_, ?_, ?_, ?_, ?_, ?_, ?_, ?_, ?_, trivial⟩
              · intro w' hS
                refine OpTo.plain ?_ ?_
                exact rfl
                have HS := Lib.hid hS
                clear hS
                go_wp2_with fail
                all_goals first | exact HS.out | exact ⟨rfl, HS.out⟩ | rfl | exact ⟨by omega, HS.out⟩
              · intro w' hS
                refine OpTo.plain ?_ ?_
                exact rfl
                have d0_0 := (KX.out.below hS KX.out.lt).cell 0
                have d0_1 := (KX.out.below hS KX.out.lt).cell 1
                have d0_2 := (KX.out.below hS KX.out.lt).cell 2
                have d0_3 := (KX.out.below hS KX.out.lt).cell 3
                have d0_4 := (KX.out.below hS KX.out.lt).cell 4
                simp at d0_0 d0_1 d0_2 d0_3 d0_4
                have HS := Lib.hid hS
                clear hS
                go_wp2_with fail
                all_goals first | exact HS.out | exact ⟨rfl, HS.out⟩ | rfl | exact ⟨by omega, HS.out⟩
              · intro w' hS
                refine OpTo.plain ?_ ?_
                exact rfl
                have HS := Lib.hid hS
                clear hS
                go_wp2_with fail
                refine (CL.out w' HS.out).mono ?_
                rintro e w'' ⟨rfl, hb2⟩
                exact ⟨rfl, andB HS.out hb2⟩
              · intro w' hS
                refine OpTo.plain ?_ ?_
                exact rfl
                have HS := Lib.hid hS
                clear hS
                go_wp2_with fail
                all_goals first | exact HS.out | exact ⟨rfl, HS.out⟩ | rfl | exact ⟨by omega, HS.out⟩
              · intro w' hS
                refine OpTo.plain ?_ ?_
                exact rfl
                have HS := Lib.hid hS
                clear hS
                go_wp2_with fail
                all_goals first | exact HS.out | exact ⟨rfl, HS.out⟩ | rfl | exact ⟨by omega, HS.out⟩
              · intro w' hS
                refine OpTo.wanted ?_ ?_
                kernel_rfl
                have HS := Lib.hid hS
                clear hS
                go_wp2_with fail
                all_goals first | exact HS.out | exact ⟨rfl, HS.out⟩ | rfl | exact ⟨by omega, HS.out⟩
              · intro w' hS
                refine OpTo.wanted ?_ ?_
                kernel_rfl
                have HS := Lib.hid hS
                clear hS
                go_wp2_with fail
                all_goals first | exact HS.out | exact ⟨rfl, HS.out⟩ | rfl | exact ⟨by omega, HS.out⟩
              · intro w' hS
                refine OpTo.wanted ?_ ?_
                kernel_rfl
                have HS := Lib.hid hS
                clear hS
                go_wp2_with fail
                all_goals first | exact HS.out | exact ⟨rfl, HS.out⟩ | rfl | exact ⟨by omega, HS.out⟩
              · intro w' hS
                refine OpTo.passed (by kernel_rfl) rfl hS
              · intro w' hS
                refine OpTo.passed (by kernel_rfl) rfl hS
              · intro w' hS
                refine OpTo.passed (by kernel_rfl) rfl hS
              · intro w' hS
                refine OpTo.passed (by kernel_rfl) rfl hS
              · intro w' hS
                refine OpTo.passed (by kernel_rfl) rfl hS
              · intro w' hS
                refine OpTo.passed (by kernel_rfl) rfl hS
              · intro w' hS
                refine OpTo.passed (by kernel_rfl) rfl hS
              · intro w' hS
                refine OpTo.passed (by kernel_rfl) rfl hS
              · intro w' hS
                refine OpTo.wanted ?_ ?_
                kernel_rfl
                have HS := Lib.hid hS
                clear hS
                go_wp2_with fail
                all_goals first | exact HS.out | exact ⟨rfl, HS.out⟩ | rfl | exact ⟨by omega, HS.out⟩
              · intro w' hS
                refine OpTo.plain ?_ ?_
                exact rfl
                have HS := Lib.hid hS
                clear hS
                go_wp2_with fail
                all_goals first | exact HS.out | exact ⟨rfl, HS.out⟩ | rfl | exact ⟨by omega, HS.out⟩
            intro w6 b6
            have B6 := Lib.hid (B5.out.trans (b6.mono B5.out.size))
            have H6 := Lib.hid (HL2.out.below b6)
            have KX6 := Lib.hid (KX.out.below b6 KX.out.lt)
            clear b6 B5 HL2 KX CL
            have lkx := KX6.out.lt
            have x0 := KX6.out.cell 0
            have x1 := KX6.out.cell 1
            have x2 := KX6.out.cell 2
            have x3 := KX6.out.cell 3
            have x4 := KX6.out.cell 4
            simp at x0 x1 x2 x3 x4
            go_wp2_with fail
            refine region_end (by kernel_rfl) 16 12 [(.pointer (some ⟨G, 0, none⟩)), (.pointer (some ⟨G, 0, none⟩)), (.pointer (some ⟨G, 17, none⟩)), (.map (some M)), (.pointer (some ⟨wr.heap.size, 0, none⟩)), (.int .u8 x.cr), (.pointer (some ⟨wr.heap.size, 1, none⟩)), (.int .u8 x.de), (.pointer (some ⟨wr.heap.size, 2, none⟩)), (.int .u8 x.cu), (.agg #[.int .u8 x.cr, .int .u8 x.de, .int .u8 x.cu]), (.pointer (some ⟨wr.heap.size, 3, none⟩)), (.int .i64 x.li), (.pointer (some ⟨wr.heap.size, 4, none⟩)), (.int .i64 x.db), (.agg #[.int .i64 x.li, .int .i64 x.db]), undef]
              (fun w' => Below w6.heap.size w6 w') (by kernel_rfl) rfl (by kernel_rfl) (Below.refl _ _).drew ?_
            intro af haf
            simp only [List.toList_toArray, puts, Act.put, List.getD_cons_zero, List.getD_cons_succ, List.setIfInBounds_toArray, List.set_cons_succ, List.set_cons_zero] at haf
            subst haf
            refine ⟨?_, ?_⟩
            · simp only [List.toList_toArray, List.take_succ_cons, List.take_zero, EachTo]
              refine ⟨?_, ?_, ?_, ?_, ?_, ?_, ?_, ?_, ?_, ?_, ?_, ?_, ?_, ?_, ?_, ?_, trivial⟩
              · intro w' hS
                refine OpTo.plain ?_ ?_
                exact rfl
                have HS := Lib.hid hS
                clear hS
                go_wp2_with fail
                all_goals first | exact HS.out | exact ⟨rfl, HS.out⟩ | rfl
              · intro w' hS
                refine OpTo.plain ?_ ?_
                exact rfl
                have hl := Nat.lt_of_lt_of_le H6.out.blk.lt hS.size
                have d := (H6.out.blk.below hS H6.out.blk.lt).ledMap
                have HS := Lib.hid hS
                clear hS
                go_wp2_with fail
                all_goals first | exact HS.out | exact ⟨rfl, HS.out⟩ | rfl
              · intro w' hS
                refine OpTo.plain ?_ ?_
                exact rfl
                have hl := Nat.lt_of_lt_of_le H6.out.blk.lt hS.size
                have d := (H6.out.blk.below hS H6.out.blk.lt).ledMap
                have HS := Lib.hid hS
                clear hS
                go_wp2_with fail
                all_goals first | exact HS.out | exact ⟨rfl, HS.out⟩ | rfl
              · intro w' hS
                refine OpTo.plain ?_ ?_
                exact rfl
                have hl := Nat.lt_of_lt_of_le H6.out.blk.lt hS.size
                have d := (H6.out.blk.below hS H6.out.blk.lt).ledMap
                have HS := Lib.hid hS
                clear hS
                go_wp2_with fail
                all_goals first | exact HS.out | exact ⟨rfl, HS.out⟩ | rfl
              · intro w' hS
                refine OpTo.plain ?_ ?_
                exact rfl
                have hl0 := Nat.lt_of_lt_of_le KX6.out.lt hS.size
                have d0_0 := (KX6.out.below hS KX6.out.lt).cell 0
                have d0_1 := (KX6.out.below hS KX6.out.lt).cell 1
                have d0_2 := (KX6.out.below hS KX6.out.lt).cell 2
                have d0_3 := (KX6.out.below hS KX6.out.lt).cell 3
                have d0_4 := (KX6.out.below hS KX6.out.lt).cell 4
                simp at d0_0 d0_1 d0_2 d0_3 d0_4
                have HS := Lib.hid hS
                clear hS
                go_wp2_with fail
                all_goals first | exact HS.out | exact ⟨rfl, HS.out⟩ | rfl
              · intro w' hS
                refine OpTo.plain ?_ ?_
                exact rfl
                have hl0 := Nat.lt_of_lt_of_le KX6.out.lt hS.size
                have d0_0 := (KX6.out.below hS KX6.out.lt).cell 0
                have d0_1 := (KX6.out.below hS KX6.out.lt).cell 1
                have d0_2 := (KX6.out.below hS KX6.out.lt).cell 2
                have d0_3 := (KX6.out.below hS KX6.out.lt).cell 3
                have d0_4 := (KX6.out.below hS KX6.out.lt).cell 4
                simp at d0_0 d0_1 d0_2 d0_3 d0_4
                have HS := Lib.hid hS
                clear hS
                go_wp2_with fail
                all_goals first | exact HS.out | exact ⟨rfl, HS.out⟩ | rfl
              · intro w' hS
                refine OpTo.plain ?_ ?_
                exact rfl
                have hl0 := Nat.lt_of_lt_of_le KX6.out.lt hS.size
                have d0_0 := (KX6.out.below hS KX6.out.lt).cell 0
                have d0_1 := (KX6.out.below hS KX6.out.lt).cell 1
                have d0_2 := (KX6.out.below hS KX6.out.lt).cell 2
                have d0_3 := (KX6.out.below hS KX6.out.lt).cell 3
                have d0_4 := (KX6.out.below hS KX6.out.lt).cell 4
                simp at d0_0 d0_1 d0_2 d0_3 d0_4
                have HS := Lib.hid hS
                clear hS
                go_wp2_with fail
                all_goals first | exact HS.out | exact ⟨rfl, HS.out⟩ | rfl
              · intro w' hS
                refine OpTo.plain ?_ ?_
                exact rfl
                have hl0 := Nat.lt_of_lt_of_le KX6.out.lt hS.size
                have d0_0 := (KX6.out.below hS KX6.out.lt).cell 0
                have d0_1 := (KX6.out.below hS KX6.out.lt).cell 1
                have d0_2 := (KX6.out.below hS KX6.out.lt).cell 2
                have d0_3 := (KX6.out.below hS KX6.out.lt).cell 3
                have d0_4 := (KX6.out.below hS KX6.out.lt).cell 4
                simp at d0_0 d0_1 d0_2 d0_3 d0_4
                have HS := Lib.hid hS
                clear hS
                go_wp2_with fail
                all_goals first | exact HS.out | exact ⟨rfl, HS.out⟩ | rfl
              · intro w' hS
                refine OpTo.plain ?_ ?_
                exact rfl
                have hl0 := Nat.lt_of_lt_of_le KX6.out.lt hS.size
                have d0_0 := (KX6.out.below hS KX6.out.lt).cell 0
                have d0_1 := (KX6.out.below hS KX6.out.lt).cell 1
                have d0_2 := (KX6.out.below hS KX6.out.lt).cell 2
                have d0_3 := (KX6.out.below hS KX6.out.lt).cell 3
                have d0_4 := (KX6.out.below hS KX6.out.lt).cell 4
                simp at d0_0 d0_1 d0_2 d0_3 d0_4
                have HS := Lib.hid hS
                clear hS
                go_wp2_with fail
                all_goals first | exact HS.out | exact ⟨rfl, HS.out⟩ | rfl
              · intro w' hS
                refine OpTo.plain ?_ ?_
                exact rfl
                have hl0 := Nat.lt_of_lt_of_le KX6.out.lt hS.size
                have d0_0 := (KX6.out.below hS KX6.out.lt).cell 0
                have d0_1 := (KX6.out.below hS KX6.out.lt).cell 1
                have d0_2 := (KX6.out.below hS KX6.out.lt).cell 2
                have d0_3 := (KX6.out.below hS KX6.out.lt).cell 3
                have d0_4 := (KX6.out.below hS KX6.out.lt).cell 4
                simp at d0_0 d0_1 d0_2 d0_3 d0_4
                have HS := Lib.hid hS
                clear hS
                go_wp2_with fail
                all_goals first | exact HS.out | exact ⟨rfl, HS.out⟩ | rfl
              · intro w' hS
                refine OpTo.plain ?_ ?_
                exact rfl
                have HS := Lib.hid hS
                clear hS
                go_wp2_with fail
                all_goals first | exact HS.out | exact ⟨rfl, HS.out⟩ | rfl
              · intro w' hS
                refine OpTo.plain ?_ ?_
                exact rfl
                have hl0 := Nat.lt_of_lt_of_le KX6.out.lt hS.size
                have d0_0 := (KX6.out.below hS KX6.out.lt).cell 0
                have d0_1 := (KX6.out.below hS KX6.out.lt).cell 1
                have d0_2 := (KX6.out.below hS KX6.out.lt).cell 2
                have d0_3 := (KX6.out.below hS KX6.out.lt).cell 3
                have d0_4 := (KX6.out.below hS KX6.out.lt).cell 4
                simp at d0_0 d0_1 d0_2 d0_3 d0_4
                have HS := Lib.hid hS
                clear hS
                go_wp2_with fail
                all_goals first | exact HS.out | exact ⟨rfl, HS.out⟩ | rfl
              · intro w' hS
                refine OpTo.plain ?_ ?_
                exact rfl
                have hl0 := Nat.lt_of_lt_of_le KX6.out.lt hS.size
                have d0_0 := (KX6.out.below hS KX6.out.lt).cell 0
                have d0_1 := (KX6.out.below hS KX6.out.lt).cell 1
                have d0_2 := (KX6.out.below hS KX6.out.lt).cell 2
                have d0_3 := (KX6.out.below hS KX6.out.lt).cell 3
                have d0_4 := (KX6.out.below hS KX6.out.lt).cell 4
                simp at d0_0 d0_1 d0_2 d0_3 d0_4
                have HS := Lib.hid hS
                clear hS
                go_wp2_with fail
                all_goals first | exact HS.out | exact ⟨rfl, HS.out⟩ | rfl
              · intro w' hS
                refine OpTo.plain ?_ ?_
                exact rfl
                have hl0 := Nat.lt_of_lt_of_le KX6.out.lt hS.size
                have d0_0 := (KX6.out.below hS KX6.out.lt).cell 0
                have d0_1 := (KX6.out.below hS KX6.out.lt).cell 1
                have d0_2 := (KX6.out.below hS KX6.out.lt).cell 2
                have d0_3 := (KX6.out.below hS KX6.out.lt).cell 3
                have d0_4 := (KX6.out.below hS KX6.out.lt).cell 4
                simp at d0_0 d0_1 d0_2 d0_3 d0_4
                have HS := Lib.hid hS
                clear hS
                go_wp2_with fail
                all_goals first | exact HS.out | exact ⟨rfl, HS.out⟩ | rfl
              · intro w' hS
                refine OpTo.plain ?_ ?_
                exact rfl
                have hl0 := Nat.lt_of_lt_of_le KX6.out.lt hS.size
                have d0_0 := (KX6.out.below hS KX6.out.lt).cell 0
                have d0_1 := (KX6.out.below hS KX6.out.lt).cell 1
                have d0_2 := (KX6.out.below hS KX6.out.lt).cell 2
                have d0_3 := (KX6.out.below hS KX6.out.lt).cell 3
                have d0_4 := (KX6.out.below hS KX6.out.lt).cell 4
                simp at d0_0 d0_1 d0_2 d0_3 d0_4
                have HS := Lib.hid hS
                clear hS
                go_wp2_with fail
                all_goals first | exact HS.out | exact ⟨rfl, HS.out⟩ | rfl
              · intro w' hS
                refine OpTo.plain ?_ ?_
                exact rfl
                have HS := Lib.hid hS
                clear hS
                go_wp2_with fail
                all_goals first | exact HS.out | exact ⟨rfl, HS.out⟩ | rfl
            simp only [List.getD_cons_succ, List.getD_cons_zero]
            intro w' hS
            with_reducible refine OpTo.plain ?_ ?_
            exact rfl
            obtain ⟨w7, hr, hm7, ht7⟩ := (H6.out.map.below hS H6.out.map.lt).store HN.out.1 (x := x) HN.out.2.1 HN.out.2.2.1
            refine wp_mapUpdate_of 63 (.tmp 72) (.tmp 79) (.tmp 84) rfl rfl rfl rfl hr ⟨rfl, ?_⟩
            have HE := Lib.hid (show LedM w7 G M zs (ls.take (k + 1)) ∧ Below w.heap.size w w7 from by
              have hk7 := ht7.keep
              rw [HN.out.2.2.2] at hm7
              exact ⟨⟨((H6.out.blk.below hS H6.out.blk.lt)).keep hk7 (fun e => H6.out.ne e.symm), hm7⟩, (B6.out.trans (hS.mono B6.out.size)).trans (hk7.below (B6.out.trans (hS.mono B6.out.size)).size (fun q hq e => by have := HMw.out; omega))⟩)
            clear hr hm7 ht7 hS
            go_wp2_with fail
            go_roundw
            case rel => exact ⟨k + 1, by omega, by go_num, HN2.out, HE.out.1, HE.out.2⟩
            case measure => simp [intOf]; omega
          have hk0 := Decidable.not_not.1 hk0
          by_cases hrk : ls[k].rank ≤ (ls[k - 1]'(by omega)).rank
          · skip
            obtain ⟨j, rfl⟩ : ∃ j, k = j + 1 := ⟨k - 1, by omega⟩
            generalize hi : ((j + 1 : Nat) : Int) = i
            have i0 : 0 < i := by omega
            have i1 : i < (ls.length : Int) := by omega
            have i2 : i.toNat = j + 1 := by omega
            have i3 : (i.toNat - 1) = j := by omega
            have HIi := Lib.hid hi
            clear hi
            have y0 : wr.cell? ⟨bl, ol + ((i.toNat - 1)) * 5, none⟩ = some (.int .u8 ls[j].cr) := by rw [i3]; exact HC.out (j) (by omega) 0 (by omega)
            have y1 : wr.cell? ⟨bl, ol + ((i.toNat - 1)) * 5 + 1, none⟩ = some (.int .u8 ls[j].de) := by rw [i3]; exact HC.out (j) (by omega) 1 (by omega)
            have y2 : wr.cell? ⟨bl, ol + ((i.toNat - 1)) * 5 + 2, none⟩ = some (.int .u8 ls[j].cu) := by rw [i3]; exact HC.out (j) (by omega) 2 (by omega)
            have y3 : wr.cell? ⟨bl, ol + ((i.toNat - 1)) * 5 + 3, none⟩ = some (.int .i64 ls[j].li) := by rw [i3]; exact HC.out (j) (by omega) 3 (by omega)
            have y4 : wr.cell? ⟨bl, ol + ((i.toNat - 1)) * 5 + 4, none⟩ = some (.int .i64 ls[j].db) := by rw [i3]; exact HC.out (j) (by omega) 4 (by omega)
            have hord := ordL_rank (HF.out ls[j] (List.getElem_mem _)) (HF.out ls[j + 1] (List.getElem_mem _))
            have hrk : ls[j + 1].rank ≤ ls[j].rank := hrk
            have HB := Lib.hid (okL.bad (ps := zs) hkl (.inr ⟨hk0, hrk⟩))
            have sv : decide (0 ≤ ordL ls[j] ls[j + 1]) = true := by simp; omega
            clear hrk hord
            have s6 : decide (0 < i) = true := by rw [decide_eq_true_eq]; omega
            have d0 : wr.cell? ⟨bl, ol + (i.toNat) * 5, none⟩ = some (.int .u8 ls[j + 1].cr) := by rw [i2]; exact HC.out (j + 1) (by omega) 0 (by omega)
            have d1 : wr.cell? ⟨bl, ol + (i.toNat) * 5 + 1, none⟩ = some (.int .u8 ls[j + 1].de) := by rw [i2]; exact HC.out (j + 1) (by omega) 1 (by omega)
            have d2 : wr.cell? ⟨bl, ol + (i.toNat) * 5 + 2, none⟩ = some (.int .u8 ls[j + 1].cu) := by rw [i2]; exact HC.out (j + 1) (by omega) 2 (by omega)
            have d3 : wr.cell? ⟨bl, ol + (i.toNat) * 5 + 3, none⟩ = some (.int .i64 ls[j + 1].li) := by rw [i2]; exact HC.out (j + 1) (by omega) 3 (by omega)
            have d4 : wr.cell? ⟨bl, ol + (i.toNat) * 5 + 4, none⟩ = some (.int .i64 ls[j + 1].db) := by rw [i2]; exact HC.out (j + 1) (by omega) 4 (by omega)
            generalize hxe : ls[j + 1] = x at *
            clear hxe i2 i3
            generalize hye : ls[j] = y at *
            clear hye
            obtain ⟨v, hv⟩ : ∃ v, ordL y x = v := ⟨_, rfl⟩
            rw [hv] at sv
            have bw0 := (Below.refl wr.heap.size wr).alloc (Nat.le_refl _) (.cells #[.int .u8 x.cr, .int .u8 x.de, .int .u8 x.cu, .int .i64 x.li, .int .i64 x.db] 35)
            have HY0 := Lib.hid ((bw0.cell (p := ⟨bl, ol + (i.toNat - 1) * 5, none⟩) hbl1).trans y0)
            have HY1 := Lib.hid ((bw0.cell (p := ⟨bl, ol + (i.toNat - 1) * 5 + 1, none⟩) hbl1).trans y1)
            have HY2 := Lib.hid ((bw0.cell (p := ⟨bl, ol + (i.toNat - 1) * 5 + 2, none⟩) hbl1).trans y2)
            have HY3 := Lib.hid ((bw0.cell (p := ⟨bl, ol + (i.toNat - 1) * 5 + 3, none⟩) hbl1).trans y3)
            have HY4 := Lib.hid ((bw0.cell (p := ⟨bl, ol + (i.toNat - 1) * 5 + 4, none⟩) hbl1).trans y4)
            have HBl := Lib.hid (Nat.lt_of_lt_of_le hbl1 bw0.size)
            clear bw0 HC
            have bw := (Below.refl wr.heap.size wr).alloc (Nat.le_refl _) (.cells #[.int .u8 x.cr, .int .u8 x.de, .int .u8 x.cu, .int .i64 x.li, .int .i64 x.db] 35)
            have B5 := Lib.hid (B1.out.trans (bw.mono B1.out.size))
            have HL2 := Lib.hid (H1.out.below bw)
            have KX := Lib.hid (Blk.new wr #[.int .u8 x.cr, .int .u8 x.de, .int .u8 x.cu, .int .i64 x.li, .int .i64 x.db] 35)
            clear bw H1 B1
            go_wp2_with fail
            generalize wr.alloc (.cells #[.int .u8 x.cr, .int .u8 x.de, .int .u8 x.cu, .int .i64 x.li, .int .i64 x.db] 35) = W at *
            have CL : Hid (∀ w', Below W.heap.size W w' → Calls Try.prog 61 #[.pointer (some ⟨G, 0, none⟩), .agg #[.int .u8 x.cr, .int .u8 x.de, .int .u8 x.cu, .int .i64 x.li, .int .i64 x.db]] w' fun e w'' => e = .returned (.bool true) ∧ Below w'.heap.size w' w'') := Lib.hid fun w' k => by
              have := lineMay_any (HL2.out.below k).blk HP.out.2 x
              rwa [decide_eq_true hm] at this
            clear hm
            have CO : Hid (∀ w', Calls Try.prog 57 #[.agg #[.int .u8 y.cr, .int .u8 y.de, .int .u8 y.cu, .int .i64 y.li, .int .i64 y.db], .agg #[.int .u8 x.cr, .int .u8 x.de, .int .u8 x.cu, .int .i64 x.li, .int .i64 x.db]] w' fun e w'' => e = .returned (.int .i64 v) ∧ Below w'.heap.size w' w'') := Lib.hid fun w' => by
              refine (order_any y x w').mono ?_
              rintro e w'' ⟨h1, q, os, h2⟩
              rw [hv] at h1
              subst h2
              exact ⟨h1, below_grow _ _ _⟩
            clear hv y0 y1 y2 y3 y4
            refine region_still (by kernel_rfl) [(.pointer (some ⟨G, 0, none⟩)), (.agg #[.int .u8 x.cr, .int .u8 x.de, .int .u8 x.cu, .int .i64 x.li, .int .i64 x.db]), (.bool true), (.bool false), (.bool false), (.int .i64 i), (.bool true), (.bool true), (.slice (some ⟨bl, ol, none⟩) ls.length lcap), (.int .i64 i), (.int .i64 (i - 1)), (.pointer (some ⟨bl, ol + (i.toNat - 1) * 5, none⟩)), (.agg #[.int .u8 y.cr, .int .u8 y.de, .int .u8 y.cu, .int .i64 y.li, .int .i64 y.db]), (.agg #[.int .u8 x.cr, .int .u8 x.de, .int .u8 x.cu, .int .i64 x.li, .int .i64 x.db]), (.int .i64 v), (.bool true), (.bool true), (.bool true)]
              (fun w' => Below W.heap.size W w') (by kernel_rfl) (Below.refl _ _).drew ?_
            intro af haf
            simp only [List.toList_toArray, List.append_eq, List.cons_append, List.nil_append, puts, Act.put, List.getD_cons_zero, List.getD_cons_succ, List.setIfInBounds_toArray, List.set_cons_succ, List.set_cons_zero] at haf
            subst haf
            refine ⟨?_, ?_⟩
            · simp only [List.toList_toArray, List.append_eq, List.cons_append, List.nil_append, EachTo]
              refine ⟨?_, ?_, ?_, ?_, ?_, ?_, ?_, ?_, ?_, ?_, ?_, ?_, ?_, ?_, ?_, ?_, ?_, ?_, trivial⟩
              · intro w' hS
                refine OpTo.plain ?_ ?_
                exact rfl
                have HS := Lib.hid hS
                clear hS
                go_wp2_with fail
                all_goals first | exact HS.out | exact ⟨rfl, HS.out⟩ | rfl | exact ⟨by omega, HS.out⟩
              · intro w' hS
                refine OpTo.plain ?_ ?_
                exact rfl
                have d0_0 := (KX.out.below hS KX.out.lt).cell 0
                have d0_1 := (KX.out.below hS KX.out.lt).cell 1
                have d0_2 := (KX.out.below hS KX.out.lt).cell 2
                have d0_3 := (KX.out.below hS KX.out.lt).cell 3
                have d0_4 := (KX.out.below hS KX.out.lt).cell 4
                simp at d0_0 d0_1 d0_2 d0_3 d0_4
                have HS := Lib.hid hS
                clear hS
                go_wp2_with fail
                all_goals first | exact HS.out | exact ⟨rfl, HS.out⟩ | rfl | exact ⟨by omega, HS.out⟩
              · intro w' hS
                refine OpTo.plain ?_ ?_
                exact rfl
                have HS := Lib.hid hS
                clear hS
                go_wp2_with fail
                refine (CL.out w' HS.out).mono ?_
                rintro e w'' ⟨rfl, hb2⟩
                exact ⟨rfl, andB HS.out hb2⟩
              · intro w' hS
                refine OpTo.plain ?_ ?_
                exact rfl
                have HS := Lib.hid hS
                clear hS
                go_wp2_with fail
                all_goals first | exact HS.out | exact ⟨rfl, HS.out⟩ | rfl | exact ⟨by omega, HS.out⟩
              · intro w' hS
                refine OpTo.plain ?_ ?_
                exact rfl
                have HS := Lib.hid hS
                clear hS
                go_wp2_with fail
                all_goals first | exact HS.out | exact ⟨rfl, HS.out⟩ | rfl | exact ⟨by omega, HS.out⟩
              · intro w' hS
                refine OpTo.wanted ?_ ?_
                kernel_rfl
                have HS := Lib.hid hS
                clear hS
                go_wp2_with fail
                all_goals first | exact HS.out | exact ⟨rfl, HS.out⟩ | rfl | exact ⟨by omega, HS.out⟩
              · intro w' hS
                refine OpTo.wanted ?_ ?_
                kernel_rfl
                have HS := Lib.hid hS
                clear hS
                go_wp2_with fail
                all_goals first | exact HS.out | exact ⟨rfl, HS.out⟩ | rfl | exact ⟨by omega, HS.out⟩
              · intro w' hS
                refine OpTo.wanted ?_ ?_
                kernel_rfl
                have HS := Lib.hid hS
                clear hS
                go_wp2_with fail
                all_goals first | exact HS.out | exact ⟨rfl, HS.out⟩ | rfl | exact ⟨by omega, HS.out⟩
              · intro w' hS
                refine OpTo.wanted ?_ ?_
                kernel_rfl
                have HS := Lib.hid hS
                clear hS
                go_wp2_with fail
                all_goals first | exact HS.out | exact ⟨rfl, HS.out⟩ | rfl | exact ⟨by omega, HS.out⟩
              · intro w' hS
                refine OpTo.wanted ?_ ?_
                kernel_rfl
                have HS := Lib.hid hS
                clear hS
                go_wp2_with fail
                all_goals first | exact HS.out | exact ⟨rfl, HS.out⟩ | rfl | exact ⟨by omega, HS.out⟩
              · intro w' hS
                refine OpTo.wanted ?_ ?_
                kernel_rfl
                have HS := Lib.hid hS
                clear hS
                go_wp2_with fail
                all_goals first | exact HS.out | exact ⟨rfl, HS.out⟩ | rfl | exact ⟨by omega, HS.out⟩
              · intro w' hS
                refine OpTo.wanted ?_ ?_
                kernel_rfl
                have HS := Lib.hid hS
                clear hS
                go_wp2_with fail
                all_goals first | exact HS.out | exact ⟨rfl, HS.out⟩ | rfl | exact ⟨by omega, HS.out⟩
              · intro w' hS
                refine OpTo.wanted ?_ ?_
                kernel_rfl
                have hlt := Nat.lt_of_lt_of_le HBl.out hS.size
                have e0 := (hS.cell (p := ⟨bl, ol + (i.toNat - 1) * 5, none⟩) HBl.out).trans HY0.out
                have e1 := (hS.cell (p := ⟨bl, ol + (i.toNat - 1) * 5 + 1, none⟩) HBl.out).trans HY1.out
                have e2 := (hS.cell (p := ⟨bl, ol + (i.toNat - 1) * 5 + 2, none⟩) HBl.out).trans HY2.out
                have e3 := (hS.cell (p := ⟨bl, ol + (i.toNat - 1) * 5 + 3, none⟩) HBl.out).trans HY3.out
                have e4 := (hS.cell (p := ⟨bl, ol + (i.toNat - 1) * 5 + 4, none⟩) HBl.out).trans HY4.out
                have HS := Lib.hid hS
                clear hS
                go_wp2_with fail
                all_goals first | exact HS.out | exact ⟨rfl, HS.out⟩ | rfl | exact ⟨by omega, HS.out⟩
              · intro w' hS
                refine OpTo.wanted ?_ ?_
                kernel_rfl
                have d0_0 := (KX.out.below hS KX.out.lt).cell 0
                have d0_1 := (KX.out.below hS KX.out.lt).cell 1
                have d0_2 := (KX.out.below hS KX.out.lt).cell 2
                have d0_3 := (KX.out.below hS KX.out.lt).cell 3
                have d0_4 := (KX.out.below hS KX.out.lt).cell 4
                simp at d0_0 d0_1 d0_2 d0_3 d0_4
                have HS := Lib.hid hS
                clear hS
                go_wp2_with fail
                all_goals first | exact HS.out | exact ⟨rfl, HS.out⟩ | rfl | exact ⟨by omega, HS.out⟩
              · intro w' hS
                refine OpTo.wanted ?_ ?_
                kernel_rfl
                have HS := Lib.hid hS
                clear hS
                go_wp2_with fail
                refine (CO.out w').mono ?_
                rintro e w'' ⟨rfl, hb2⟩
                exact ⟨rfl, andB HS.out hb2⟩
              · intro w' hS
                refine OpTo.wanted ?_ ?_
                kernel_rfl
                have HS := Lib.hid hS
                clear hS
                go_wp2_with fail
                all_goals first | exact HS.out | exact ⟨rfl, HS.out⟩ | rfl | exact ⟨by omega, HS.out⟩
              · intro w' hS
                refine OpTo.wanted ?_ ?_
                kernel_rfl
                have HS := Lib.hid hS
                clear hS
                go_wp2_with fail
                all_goals first | exact HS.out | exact ⟨rfl, HS.out⟩ | rfl | exact ⟨by omega, HS.out⟩
              · intro w' hS
                refine OpTo.plain ?_ ?_
                exact rfl
                have HS := Lib.hid hS
                clear hS
                go_wp2_with fail
                all_goals first | exact HS.out | exact ⟨rfl, HS.out⟩ | rfl | exact ⟨by omega, HS.out⟩
            intro w6 b6
            have B6 := Lib.hid (B5.out.trans (b6.mono B5.out.size))
            clear b6 B5 HL2 KX CL
            go_wp2_with fail
            refine bodyPost_ret (v := .tuple #[.pointer none, .int .i64 1]) (by simp [results, Try.results33, go_sem]) rfl ?_
            exact ⟨B6.out, .inr (.inr ⟨rfl, .inr ⟨HP.out, by omega, HB.out⟩⟩)⟩
          have hs : ∀ hk0 : 0 < k, (ls[k - 1]'(by omega)).rank < ls[k].rank := fun _ => by omega
          clear hrk
          obtain ⟨j, rfl⟩ : ∃ j, k = j + 1 := ⟨k - 1, by omega⟩
          generalize hi : ((j + 1 : Nat) : Int) = i
          have i0 : 0 < i := by omega
          have i1 : i < (ls.length : Int) := by omega
          have i2 : i.toNat = j + 1 := by omega
          have i3 : (i.toNat - 1) = j := by omega
          have HIi := Lib.hid hi
          clear hi
          have y0 : wr.cell? ⟨bl, ol + ((i.toNat - 1)) * 5, none⟩ = some (.int .u8 ls[j].cr) := by rw [i3]; exact HC.out (j) (by omega) 0 (by omega)
          have y1 : wr.cell? ⟨bl, ol + ((i.toNat - 1)) * 5 + 1, none⟩ = some (.int .u8 ls[j].de) := by rw [i3]; exact HC.out (j) (by omega) 1 (by omega)
          have y2 : wr.cell? ⟨bl, ol + ((i.toNat - 1)) * 5 + 2, none⟩ = some (.int .u8 ls[j].cu) := by rw [i3]; exact HC.out (j) (by omega) 2 (by omega)
          have y3 : wr.cell? ⟨bl, ol + ((i.toNat - 1)) * 5 + 3, none⟩ = some (.int .i64 ls[j].li) := by rw [i3]; exact HC.out (j) (by omega) 3 (by omega)
          have y4 : wr.cell? ⟨bl, ol + ((i.toNat - 1)) * 5 + 4, none⟩ = some (.int .i64 ls[j].db) := by rw [i3]; exact HC.out (j) (by omega) 4 (by omega)
          have hord := ordL_rank (HF.out ls[j] (List.getElem_mem _)) (HF.out ls[j + 1] (List.getElem_mem _))
          have hrk : ls[j].rank < ls[j + 1].rank := by have := hs hk0; exact this
          have HI := Lib.hid (HP.out.linv HO.out (by rw [List.length_take]; omega)).inv
          have HN2 := Lib.hid (okL.next hkl HO.out hm hs)
          have HN : Hid (Inv (ls.take (j + 1)) ∧ ls[j + 1].Fits ∧ ls[j + 1].li ≠ 0 ∧ setL (ls.take (j + 1)) ls[j + 1] = ls.take (j + 1 + 1)) := Lib.hid (by
            have hg := hm.good
            have hli := hg.li
            refine ⟨HI.out, hg.fits, by omega, ?_⟩
            have hp := HN2.out.1
            rw [List.take_succ_eq_append_getElem hkl] at hp ⊢
            rw [List.pairwise_append] at hp
            exact set_last HI.out.sorted (fun y hy => hp.2.2 y hy _ (by simp)) (by omega))
          have sv : decide (0 ≤ ordL ls[j] ls[j + 1]) = false := by simp; omega
          clear hrk hord hs HI
          have s6 : decide (0 < i) = true := by rw [decide_eq_true_eq]; omega
          have d0 : wr.cell? ⟨bl, ol + (i.toNat) * 5, none⟩ = some (.int .u8 ls[j + 1].cr) := by rw [i2]; exact HC.out (j + 1) (by omega) 0 (by omega)
          have d1 : wr.cell? ⟨bl, ol + (i.toNat) * 5 + 1, none⟩ = some (.int .u8 ls[j + 1].de) := by rw [i2]; exact HC.out (j + 1) (by omega) 1 (by omega)
          have d2 : wr.cell? ⟨bl, ol + (i.toNat) * 5 + 2, none⟩ = some (.int .u8 ls[j + 1].cu) := by rw [i2]; exact HC.out (j + 1) (by omega) 2 (by omega)
          have d3 : wr.cell? ⟨bl, ol + (i.toNat) * 5 + 3, none⟩ = some (.int .i64 ls[j + 1].li) := by rw [i2]; exact HC.out (j + 1) (by omega) 3 (by omega)
          have d4 : wr.cell? ⟨bl, ol + (i.toNat) * 5 + 4, none⟩ = some (.int .i64 ls[j + 1].db) := by rw [i2]; exact HC.out (j + 1) (by omega) 4 (by omega)
          generalize hxe : ls[j + 1] = x at *
          clear hxe i2 i3
          generalize hye : ls[j] = y at *
          clear hye
          obtain ⟨v, hv⟩ : ∃ v, ordL y x = v := ⟨_, rfl⟩
          rw [hv] at sv
          have bw0 := (Below.refl wr.heap.size wr).alloc (Nat.le_refl _) (.cells #[.int .u8 x.cr, .int .u8 x.de, .int .u8 x.cu, .int .i64 x.li, .int .i64 x.db] 35)
          have HY0 := Lib.hid ((bw0.cell (p := ⟨bl, ol + (i.toNat - 1) * 5, none⟩) hbl1).trans y0)
          have HY1 := Lib.hid ((bw0.cell (p := ⟨bl, ol + (i.toNat - 1) * 5 + 1, none⟩) hbl1).trans y1)
          have HY2 := Lib.hid ((bw0.cell (p := ⟨bl, ol + (i.toNat - 1) * 5 + 2, none⟩) hbl1).trans y2)
          have HY3 := Lib.hid ((bw0.cell (p := ⟨bl, ol + (i.toNat - 1) * 5 + 3, none⟩) hbl1).trans y3)
          have HY4 := Lib.hid ((bw0.cell (p := ⟨bl, ol + (i.toNat - 1) * 5 + 4, none⟩) hbl1).trans y4)
          have HBl := Lib.hid (Nat.lt_of_lt_of_le hbl1 bw0.size)
          clear bw0 HC
          have bw := (Below.refl wr.heap.size wr).alloc (Nat.le_refl _) (.cells #[.int .u8 x.cr, .int .u8 x.de, .int .u8 x.cu, .int .i64 x.li, .int .i64 x.db] 35)
          have B5 := Lib.hid (B1.out.trans (bw.mono B1.out.size))
          have HL2 := Lib.hid (H1.out.below bw)
          have KX := Lib.hid (Blk.new wr #[.int .u8 x.cr, .int .u8 x.de, .int .u8 x.cu, .int .i64 x.li, .int .i64 x.db] 35)
          clear bw H1 B1
          go_wp2_with fail
          generalize wr.alloc (.cells #[.int .u8 x.cr, .int .u8 x.de, .int .u8 x.cu, .int .i64 x.li, .int .i64 x.db] 35) = W at *
          have CL : Hid (∀ w', Below W.heap.size W w' → Calls Try.prog 61 #[.pointer (some ⟨G, 0, none⟩), .agg #[.int .u8 x.cr, .int .u8 x.de, .int .u8 x.cu, .int .i64 x.li, .int .i64 x.db]] w' fun e w'' => e = .returned (.bool true) ∧ Below w'.heap.size w' w'') := Lib.hid fun w' k => by
            have := lineMay_any (HL2.out.below k).blk HP.out.2 x
            rwa [decide_eq_true hm] at this
          clear hm
          have CO : Hid (∀ w', Calls Try.prog 57 #[.agg #[.int .u8 y.cr, .int .u8 y.de, .int .u8 y.cu, .int .i64 y.li, .int .i64 y.db], .agg #[.int .u8 x.cr, .int .u8 x.de, .int .u8 x.cu, .int .i64 x.li, .int .i64 x.db]] w' fun e w'' => e = .returned (.int .i64 v) ∧ Below w'.heap.size w' w'') := Lib.hid fun w' => by
            refine (order_any y x w').mono ?_
            rintro e w'' ⟨h1, q, os, h2⟩
            rw [hv] at h1
            subst h2
            exact ⟨h1, below_grow _ _ _⟩
          clear hv y0 y1 y2 y3 y4
          refine region_still (by kernel_rfl) [(.pointer (some ⟨G, 0, none⟩)), (.agg #[.int .u8 x.cr, .int .u8 x.de, .int .u8 x.cu, .int .i64 x.li, .int .i64 x.db]), (.bool true), (.bool false), (.bool false), (.int .i64 i), (.bool true), (.bool true), (.slice (some ⟨bl, ol, none⟩) ls.length lcap), (.int .i64 i), (.int .i64 (i - 1)), (.pointer (some ⟨bl, ol + (i.toNat - 1) * 5, none⟩)), (.agg #[.int .u8 y.cr, .int .u8 y.de, .int .u8 y.cu, .int .i64 y.li, .int .i64 y.db]), (.agg #[.int .u8 x.cr, .int .u8 x.de, .int .u8 x.cu, .int .i64 x.li, .int .i64 x.db]), (.int .i64 v), (.bool false), (.bool false), (.bool false)]
            (fun w' => Below W.heap.size W w') (by kernel_rfl) (Below.refl _ _).drew ?_
          intro af haf
          simp only [List.toList_toArray, List.append_eq, List.cons_append, List.nil_append, puts, Act.put, List.getD_cons_zero, List.getD_cons_succ, List.setIfInBounds_toArray, List.set_cons_succ, List.set_cons_zero] at haf
          subst haf
          refine ⟨?_, ?_⟩
          · simp only [List.toList_toArray, List.append_eq, List.cons_append, List.nil_append, EachTo]
            refine ⟨?_, ?_, ?_, ?_, ?_, ?_, ?_, ?_, ?_, ?_, ?_, ?_, ?_, ?_, ?_, ?_, ?_, ?_, trivial⟩
            · intro w' hS
              refine OpTo.plain ?_ ?_
              exact rfl
              have HS := Lib.hid hS
              clear hS
              go_wp2_with fail
              all_goals first | exact HS.out | exact ⟨rfl, HS.out⟩ | rfl | exact ⟨by omega, HS.out⟩
            · intro w' hS
              refine OpTo.plain ?_ ?_
              exact rfl
              have d0_0 := (KX.out.below hS KX.out.lt).cell 0
              have d0_1 := (KX.out.below hS KX.out.lt).cell 1
              have d0_2 := (KX.out.below hS KX.out.lt).cell 2
              have d0_3 := (KX.out.below hS KX.out.lt).cell 3
              have d0_4 := (KX.out.below hS KX.out.lt).cell 4
              simp at d0_0 d0_1 d0_2 d0_3 d0_4
              have HS := Lib.hid hS
              clear hS
              go_wp2_with fail
              all_goals first | exact HS.out | exact ⟨rfl, HS.out⟩ | rfl | exact ⟨by omega, HS.out⟩
            · intro w' hS
              refine OpTo.plain ?_ ?_
              exact rfl
              have HS := Lib.hid hS
              clear hS
              go_wp2_with fail
              refine (CL.out w' HS.out).mono ?_
              rintro e w'' ⟨rfl, hb2⟩
              exact ⟨rfl, andB HS.out hb2⟩
            · intro w' hS
              refine OpTo.plain ?_ ?_
              exact rfl
              have HS := Lib.hid hS
              clear hS
              go_wp2_with fail
              all_goals first | exact HS.out | exact ⟨rfl, HS.out⟩ | rfl | exact ⟨by omega, HS.out⟩
            · intro w' hS
              refine OpTo.plain ?_ ?_
              exact rfl
              have HS := Lib.hid hS
              clear hS
              go_wp2_with fail
              all_goals first | exact HS.out | exact ⟨rfl, HS.out⟩ | rfl | exact ⟨by omega, HS.out⟩
            · intro w' hS
              refine OpTo.wanted ?_ ?_
              kernel_rfl
              have HS := Lib.hid hS
              clear hS
              go_wp2_with fail
              all_goals first | exact HS.out | exact ⟨rfl, HS.out⟩ | rfl | exact ⟨by omega, HS.out⟩
            · intro w' hS
              refine OpTo.wanted ?_ ?_
              kernel_rfl
              have HS := Lib.hid hS
              clear hS
              go_wp2_with fail
              all_goals first | exact HS.out | exact ⟨rfl, HS.out⟩ | rfl | exact ⟨by omega, HS.out⟩
            · intro w' hS
              refine OpTo.wanted ?_ ?_
              kernel_rfl
              have HS := Lib.hid hS
              clear hS
              go_wp2_with fail
              all_goals first | exact HS.out | exact ⟨rfl, HS.out⟩ | rfl | exact ⟨by omega, HS.out⟩
            · intro w' hS
              refine OpTo.wanted ?_ ?_
              kernel_rfl
              have HS := Lib.hid hS
              clear hS
              go_wp2_with fail
              all_goals first | exact HS.out | exact ⟨rfl, HS.out⟩ | rfl | exact ⟨by omega, HS.out⟩
            · intro w' hS
              refine OpTo.wanted ?_ ?_
              kernel_rfl
              have HS := Lib.hid hS
              clear hS
              go_wp2_with fail
              all_goals first | exact HS.out | exact ⟨rfl, HS.out⟩ | rfl | exact ⟨by omega, HS.out⟩
            · intro w' hS
              refine OpTo.wanted ?_ ?_
              kernel_rfl
              have HS := Lib.hid hS
              clear hS
              go_wp2_with fail
              all_goals first | exact HS.out | exact ⟨rfl, HS.out⟩ | rfl | exact ⟨by omega, HS.out⟩
            · intro w' hS
              refine OpTo.wanted ?_ ?_
              kernel_rfl
              have HS := Lib.hid hS
              clear hS
              go_wp2_with fail
              all_goals first | exact HS.out | exact ⟨rfl, HS.out⟩ | rfl | exact ⟨by omega, HS.out⟩
            · intro w' hS
              refine OpTo.wanted ?_ ?_
              kernel_rfl
              have hlt := Nat.lt_of_lt_of_le HBl.out hS.size
              have e0 := (hS.cell (p := ⟨bl, ol + (i.toNat - 1) * 5, none⟩) HBl.out).trans HY0.out
              have e1 := (hS.cell (p := ⟨bl, ol + (i.toNat - 1) * 5 + 1, none⟩) HBl.out).trans HY1.out
              have e2 := (hS.cell (p := ⟨bl, ol + (i.toNat - 1) * 5 + 2, none⟩) HBl.out).trans HY2.out
              have e3 := (hS.cell (p := ⟨bl, ol + (i.toNat - 1) * 5 + 3, none⟩) HBl.out).trans HY3.out
              have e4 := (hS.cell (p := ⟨bl, ol + (i.toNat - 1) * 5 + 4, none⟩) HBl.out).trans HY4.out
              have HS := Lib.hid hS
              clear hS
              go_wp2_with fail
              all_goals first | exact HS.out | exact ⟨rfl, HS.out⟩ | rfl | exact ⟨by omega, HS.out⟩
            · intro w' hS
              refine OpTo.wanted ?_ ?_
              kernel_rfl
              have d0_0 := (KX.out.below hS KX.out.lt).cell 0
              have d0_1 := (KX.out.below hS KX.out.lt).cell 1
              have d0_2 := (KX.out.below hS KX.out.lt).cell 2
              have d0_3 := (KX.out.below hS KX.out.lt).cell 3
              have d0_4 := (KX.out.below hS KX.out.lt).cell 4
              simp at d0_0 d0_1 d0_2 d0_3 d0_4
              have HS := Lib.hid hS
              clear hS
              go_wp2_with fail
              all_goals first | exact HS.out | exact ⟨rfl, HS.out⟩ | rfl | exact ⟨by omega, HS.out⟩
            · intro w' hS
              refine OpTo.wanted ?_ ?_
              kernel_rfl
              have HS := Lib.hid hS
              clear hS
              go_wp2_with fail
              refine (CO.out w').mono ?_
              rintro e w'' ⟨rfl, hb2⟩
              exact ⟨rfl, andB HS.out hb2⟩
            · intro w' hS
              refine OpTo.wanted ?_ ?_
              kernel_rfl
              have HS := Lib.hid hS
              clear hS
              go_wp2_with fail
              all_goals first | exact HS.out | exact ⟨rfl, HS.out⟩ | rfl | exact ⟨by omega, HS.out⟩
            · intro w' hS
              refine OpTo.wanted ?_ ?_
              kernel_rfl
              have HS := Lib.hid hS
              clear hS
              go_wp2_with fail
              all_goals first | exact HS.out | exact ⟨rfl, HS.out⟩ | rfl | exact ⟨by omega, HS.out⟩
            · intro w' hS
              refine OpTo.plain ?_ ?_
              exact rfl
              have HS := Lib.hid hS
              clear hS
              go_wp2_with fail
              all_goals first | exact HS.out | exact ⟨rfl, HS.out⟩ | rfl | exact ⟨by omega, HS.out⟩
          intro w6 b6
          have B6 := Lib.hid (B5.out.trans (b6.mono B5.out.size))
          have H6 := Lib.hid (HL2.out.below b6)
          have KX6 := Lib.hid (KX.out.below b6 KX.out.lt)
          clear b6 B5 HL2 KX CL
          have lkx := KX6.out.lt
          have x0 := KX6.out.cell 0
          have x1 := KX6.out.cell 1
          have x2 := KX6.out.cell 2
          have x3 := KX6.out.cell 3
          have x4 := KX6.out.cell 4
          simp at x0 x1 x2 x3 x4
          go_wp2_with fail
          refine region_end (by kernel_rfl) 16 12 [(.pointer (some ⟨G, 0, none⟩)), (.pointer (some ⟨G, 0, none⟩)), (.pointer (some ⟨G, 17, none⟩)), (.map (some M)), (.pointer (some ⟨wr.heap.size, 0, none⟩)), (.int .u8 x.cr), (.pointer (some ⟨wr.heap.size, 1, none⟩)), (.int .u8 x.de), (.pointer (some ⟨wr.heap.size, 2, none⟩)), (.int .u8 x.cu), (.agg #[.int .u8 x.cr, .int .u8 x.de, .int .u8 x.cu]), (.pointer (some ⟨wr.heap.size, 3, none⟩)), (.int .i64 x.li), (.pointer (some ⟨wr.heap.size, 4, none⟩)), (.int .i64 x.db), (.agg #[.int .i64 x.li, .int .i64 x.db]), undef]
            (fun w' => Below w6.heap.size w6 w') (by kernel_rfl) rfl (by kernel_rfl) (Below.refl _ _).drew ?_
          intro af haf
          simp only [List.toList_toArray, puts, Act.put, List.getD_cons_zero, List.getD_cons_succ, List.setIfInBounds_toArray, List.set_cons_succ, List.set_cons_zero] at haf
          subst haf
          refine ⟨?_, ?_⟩
          · simp only [List.toList_toArray, List.take_succ_cons, List.take_zero, EachTo]
            refine ⟨?_, ?_, ?_, ?_, ?_, ?_, ?_, ?_, ?_, ?_, ?_, ?_, ?_, ?_, ?_, ?_, trivial⟩
            · intro w' hS
              refine OpTo.plain ?_ ?_
              exact rfl
              have HS := Lib.hid hS
              clear hS
              go_wp2_with fail
              all_goals first | exact HS.out | exact ⟨rfl, HS.out⟩ | rfl
            · intro w' hS
              refine OpTo.plain ?_ ?_
              exact rfl
              have hl := Nat.lt_of_lt_of_le H6.out.blk.lt hS.size
              have d := (H6.out.blk.below hS H6.out.blk.lt).ledMap
              have HS := Lib.hid hS
              clear hS
              go_wp2_with fail
              all_goals first | exact HS.out | exact ⟨rfl, HS.out⟩ | rfl
            · intro w' hS
              refine OpTo.plain ?_ ?_
              exact rfl
              have hl := Nat.lt_of_lt_of_le H6.out.blk.lt hS.size
              have d := (H6.out.blk.below hS H6.out.blk.lt).ledMap
              have HS := Lib.hid hS
              clear hS
              go_wp2_with fail
              all_goals first | exact HS.out | exact ⟨rfl, HS.out⟩ | rfl
            · intro w' hS
              refine OpTo.plain ?_ ?_
              exact rfl
              have hl := Nat.lt_of_lt_of_le H6.out.blk.lt hS.size
              have d := (H6.out.blk.below hS H6.out.blk.lt).ledMap
              have HS := Lib.hid hS
              clear hS
              go_wp2_with fail
              all_goals first | exact HS.out | exact ⟨rfl, HS.out⟩ | rfl
            · intro w' hS
              refine OpTo.plain ?_ ?_
              exact rfl
              have hl0 := Nat.lt_of_lt_of_le KX6.out.lt hS.size
              have d0_0 := (KX6.out.below hS KX6.out.lt).cell 0
              have d0_1 := (KX6.out.below hS KX6.out.lt).cell 1
              have d0_2 := (KX6.out.below hS KX6.out.lt).cell 2
              have d0_3 := (KX6.out.below hS KX6.out.lt).cell 3
              have d0_4 := (KX6.out.below hS KX6.out.lt).cell 4
              simp at d0_0 d0_1 d0_2 d0_3 d0_4
              have HS := Lib.hid hS
              clear hS
              go_wp2_with fail
              all_goals first | exact HS.out | exact ⟨rfl, HS.out⟩ | rfl
            · intro w' hS
              refine OpTo.plain ?_ ?_
              exact rfl
              have hl0 := Nat.lt_of_lt_of_le KX6.out.lt hS.size
              have d0_0 := (KX6.out.below hS KX6.out.lt).cell 0
              have d0_1 := (KX6.out.below hS KX6.out.lt).cell 1
              have d0_2 := (KX6.out.below hS KX6.out.lt).cell 2
              have d0_3 := (KX6.out.below hS KX6.out.lt).cell 3
              have d0_4 := (KX6.out.below hS KX6.out.lt).cell 4
              simp at d0_0 d0_1 d0_2 d0_3 d0_4
              have HS := Lib.hid hS
              clear hS
              go_wp2_with fail
              all_goals first | exact HS.out | exact ⟨rfl, HS.out⟩ | rfl
            · intro w' hS
              refine OpTo.plain ?_ ?_
              exact rfl
              have hl0 := Nat.lt_of_lt_of_le KX6.out.lt hS.size
              have d0_0 := (KX6.out.below hS KX6.out.lt).cell 0
              have d0_1 := (KX6.out.below hS KX6.out.lt).cell 1
              have d0_2 := (KX6.out.below hS KX6.out.lt).cell 2
              have d0_3 := (KX6.out.below hS KX6.out.lt).cell 3
              have d0_4 := (KX6.out.below hS KX6.out.lt).cell 4
              simp at d0_0 d0_1 d0_2 d0_3 d0_4
              have HS := Lib.hid hS
              clear hS
              go_wp2_with fail
              all_goals first | exact HS.out | exact ⟨rfl, HS.out⟩ | rfl
            · intro w' hS
              refine OpTo.plain ?_ ?_
              exact rfl
              have hl0 := Nat.lt_of_lt_of_le KX6.out.lt hS.size
              have d0_0 := (KX6.out.below hS KX6.out.lt).cell 0
              have d0_1 := (KX6.out.below hS KX6.out.lt).cell 1
              have d0_2 := (KX6.out.below hS KX6.out.lt).cell 2
              have d0_3 := (KX6.out.below hS KX6.out.lt).cell 3
              have d0_4 := (KX6.out.below hS KX6.out.lt).cell 4
              simp at d0_0 d0_1 d0_2 d0_3 d0_4
              have HS := Lib.hid hS
              clear hS
              go_wp2_with fail
              all_goals first | exact HS.out | exact ⟨rfl, HS.out⟩ | rfl
            · intro w' hS
              refine OpTo.plain ?_ ?_
              exact rfl
              have hl0 := Nat.lt_of_lt_of_le KX6.out.lt hS.size
              have d0_0 := (KX6.out.below hS KX6.out.lt).cell 0
              have d0_1 := (KX6.out.below hS KX6.out.lt).cell 1
              have d0_2 := (KX6.out.below hS KX6.out.lt).cell 2
              have d0_3 := (KX6.out.below hS KX6.out.lt).cell 3
              have d0_4 := (KX6.out.below hS KX6.out.lt).cell 4
              simp at d0_0 d0_1 d0_2 d0_3 d0_4
              have HS := Lib.hid hS
              clear hS
              go_wp2_with fail
              all_goals first | exact HS.out | exact ⟨rfl, HS.out⟩ | rfl
            · intro w' hS
              refine OpTo.plain ?_ ?_
              exact rfl
              have hl0 := Nat.lt_of_lt_of_le KX6.out.lt hS.size
              have d0_0 := (KX6.out.below hS KX6.out.lt).cell 0
              have d0_1 := (KX6.out.below hS KX6.out.lt).cell 1
              have d0_2 := (KX6.out.below hS KX6.out.lt).cell 2
              have d0_3 := (KX6.out.below hS KX6.out.lt).cell 3
              have d0_4 := (KX6.out.below hS KX6.out.lt).cell 4
              simp at d0_0 d0_1 d0_2 d0_3 d0_4
              have HS := Lib.hid hS
              clear hS
              go_wp2_with fail
              all_goals first | exact HS.out | exact ⟨rfl, HS.out⟩ | rfl
            · intro w' hS
              refine OpTo.plain ?_ ?_
              exact rfl
              have HS := Lib.hid hS
              clear hS
              go_wp2_with fail
              all_goals first | exact HS.out | exact ⟨rfl, HS.out⟩ | rfl
            · intro w' hS
              refine OpTo.plain ?_ ?_
              exact rfl
              have hl0 := Nat.lt_of_lt_of_le KX6.out.lt hS.size
              have d0_0 := (KX6.out.below hS KX6.out.lt).cell 0
              have d0_1 := (KX6.out.below hS KX6.out.lt).cell 1
              have d0_2 := (KX6.out.below hS KX6.out.lt).cell 2
              have d0_3 := (KX6.out.below hS KX6.out.lt).cell 3
              have d0_4 := (KX6.out.below hS KX6.out.lt).cell 4
              simp at d0_0 d0_1 d0_2 d0_3 d0_4
              have HS := Lib.hid hS
              clear hS
              go_wp2_with fail
              all_goals first | exact HS.out | exact ⟨rfl, HS.out⟩ | rfl
            · intro w' hS
              refine OpTo.plain ?_ ?_
              exact rfl
              have hl0 := Nat.lt_of_lt_of_le KX6.out.lt hS.size
              have d0_0 := (KX6.out.below hS KX6.out.lt).cell 0
              have d0_1 := (KX6.out.below hS KX6.out.lt).cell 1
              have d0_2 := (KX6.out.below hS KX6.out.lt).cell 2
              have d0_3 := (KX6.out.below hS KX6.out.lt).cell 3
              have d0_4 := (KX6.out.below hS KX6.out.lt).cell 4
              simp at d0_0 d0_1 d0_2 d0_3 d0_4
              have HS := Lib.hid hS
              clear hS
              go_wp2_with fail
              all_goals first | exact HS.out | exact ⟨rfl, HS.out⟩ | rfl
            · intro w' hS
              refine OpTo.plain ?_ ?_
              exact rfl
              have hl0 := Nat.lt_of_lt_of_le KX6.out.lt hS.size
              have d0_0 := (KX6.out.below hS KX6.out.lt).cell 0
              have d0_1 := (KX6.out.below hS KX6.out.lt).cell 1
              have d0_2 := (KX6.out.below hS KX6.out.lt).cell 2
              have d0_3 := (KX6.out.below hS KX6.out.lt).cell 3
              have d0_4 := (KX6.out.below hS KX6.out.lt).cell 4
              simp at d0_0 d0_1 d0_2 d0_3 d0_4
              have HS := Lib.hid hS
              clear hS
              go_wp2_with fail
              all_goals first | exact HS.out | exact ⟨rfl, HS.out⟩ | rfl
            · intro w' hS
              refine OpTo.plain ?_ ?_
              exact rfl
              have hl0 := Nat.lt_of_lt_of_le KX6.out.lt hS.size
              have d0_0 := (KX6.out.below hS KX6.out.lt).cell 0
              have d0_1 := (KX6.out.below hS KX6.out.lt).cell 1
              have d0_2 := (KX6.out.below hS KX6.out.lt).cell 2
              have d0_3 := (KX6.out.below hS KX6.out.lt).cell 3
              have d0_4 := (KX6.out.below hS KX6.out.lt).cell 4
              simp at d0_0 d0_1 d0_2 d0_3 d0_4
              have HS := Lib.hid hS
              clear hS
              go_wp2_with fail
              all_goals first | exact HS.out | exact ⟨rfl, HS.out⟩ | rfl
            · intro w' hS
              refine OpTo.plain ?_ ?_
              exact rfl
              have HS := Lib.hid hS
              clear hS
              go_wp2_with fail
              all_goals first | exact HS.out | exact ⟨rfl, HS.out⟩ | rfl
          simp only [List.getD_cons_succ, List.getD_cons_zero]
          intro w' hS
          with_reducible refine OpTo.plain ?_ ?_
          exact rfl
          obtain ⟨w7, hr, hm7, ht7⟩ := (H6.out.map.below hS H6.out.map.lt).store HN.out.1 (x := x) HN.out.2.1 HN.out.2.2.1
          refine wp_mapUpdate_of 63 (.tmp 72) (.tmp 79) (.tmp 84) rfl rfl rfl rfl hr ⟨rfl, ?_⟩
          have HE := Lib.hid (show LedM w7 G M zs (ls.take (j + 1 + 1)) ∧ Below w.heap.size w w7 from by
            have hk7 := ht7.keep
            rw [HN.out.2.2.2] at hm7
            exact ⟨⟨((H6.out.blk.below hS H6.out.blk.lt)).keep hk7 (fun e => H6.out.ne e.symm), hm7⟩, (B6.out.trans (hS.mono B6.out.size)).trans (hk7.below (B6.out.trans (hS.mono B6.out.size)).size (fun q hq e => by have := HMw.out; omega))⟩)
          clear hr hm7 ht7 hS
          go_wp2_with fail
          go_roundw
          case rel => exact ⟨j + 1 + 1, by omega, by have := HIi.out; first | go_num | (congr 1; omega), HN2.out, HE.out.1, HE.out.2⟩
          case measure => have := HIi.out; simp [intOf]; omega
        · rw [List.take_of_length_le (by omega)] at HO H1
          go_wp2_with fail
          refine bodyPost_ret (v := .tuple #[.pointer (some ⟨G, 0, none⟩), .int .i64 0]) (by simp [results, Try.results33, go_sem]) rfl ?_
          exact ⟨B1.out, .inl ⟨HP.out, h64, HO.out, G, M, by omega, by omega, rfl, H1.out⟩⟩

end Go.Proofs.Ytlcilpeljnoclaa
