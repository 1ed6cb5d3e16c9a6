/-
  GraphsLedger: the walk, for every acts, currency and pushes (written by gen_gledger.py).
-/
import Derived.Test.YtdpkcamhafkkbaaRoomMath
namespace Go.Proofs.Ytdpkcamhafkkbaa
open Go.RowKit
set_option linter.unusedSimpArgs false
set_option linter.unusedVariables false

def LedgAt (w : World) (G M g o : Nat) (ps : List Int) (c d : Int) (len : Nat) (i : Value) (wr : World) : Prop :=
  ∃ (k : Nat) (ls : List Ln), k ≤ len ∧ i = .int .i64 k ∧ LedM wr G M ps ls ∧ LInv ps ls ∧ Blk wr g (graC (roomF ps ls c) true) 52 ∧ Blk wr o (graC (roomF ps ls d) true) 52 ∧ Below w.heap.size w wr
/-- Behind the flow that is made less, or not. -/
def LessAt (W0 : World) (X : Nat) (fr tt : Int) (wx : World) : Prop := ∃ n, In64 n ∧ Blk wx X #[.int .u8 fr, .int .u8 tt, .int .i64 n] 35 ∧ Keep (· = X) W0 wx
set_option maxHeartbeats 32000000 in
set_option maxRecDepth 100000 in
theorem gledger_walk (a : Option Addr) (len cap : Nat) (xs : List Ac) (c : Int) (a2 : Option Addr) (len2 cap2 : Nat) (zs : List Fw) (w : World) (h0 : ActsIn w a len cap xs) (hc : (Lit.int .u8 c).wf = true) (h2 : SlIn Fw.vals 3 Fw.Fits w a2 len2 cap2 zs) :
    Calls Try.prog 5 #[.slice a len cap, .int .u8 c, .slice a2 len2 cap2] w fun e w' => e = .returned (.bool true) ∧ Below w.heap.size w w' := by
  have HC := Lib.hid (In8.of_wf hc)
  have HA := Lib.hid h0
  have HZ := Lib.hid h2
  have hcap := h0.2.2.1
  have hmax := h0.2.2.2.1
  have hcap2 := h2.2.2.2.1
  have hmax2 := h2.2.2.2.2.1
  have hzl := h2.2.1
  unfold maxLen at hmax hmax2
  clear h0 hc h2
  by_cases hle : ¬ len ≤ 120
  · go_enter Try.func5, Try.ntmps5
    go_wp2_with fail
    refine (lives05_any _).mono ?_
    rintro e w1 ⟨rfl, b1⟩
    have B1 := Lib.hid b1
    clear b1
    go_wp2_with fail
    go_ret
    exact ⟨rfl, B1.out⟩
  have hle := Decidable.not_not.1 hle
  by_cases hle2 : ¬ len2 ≤ 40
  · go_enter Try.func5, Try.ntmps5
    go_wp2_with fail
    refine (lives05_any _).mono ?_
    rintro e w1 ⟨rfl, b1⟩
    have B1 := Lib.hid b1
    clear b1
    go_wp2_with fail
    go_ret
    exact ⟨rfl, B1.out⟩
  have hle2 := Decidable.not_not.1 hle2
  have l1 : decide ((120 : Int) < (len : Int)) = false := by simp; omega
  have l2 : decide ((40 : Int) < (len2 : Int)) = false := by simp; omega
  obtain ⟨d, hd⟩ : ∃ d, IntKind.u8.wrap (c + 1) = d := ⟨_, rfl⟩
  have hdd : In8 d ∧ c ≠ d := by
    have h3 : IntKind.u8.wrap (c + 1) = (c + 1) % 256 := by simp [IntKind.wrap, IntKind.signed, IntKind.bits]
    rw [h3] at hd
    have := HC.out
    unfold In8 at this ⊢
    omega
  have HDD := Lib.hid hdd.1
  have HD := Lib.hid hdd.2
  clear hdd
  go_enter Try.func5, Try.ntmps5
  go_wp2_with fail
  refine (made_acts HA.out hle).mono ?_
  rintro e w1 ⟨G, M, ps, ls, rfl, hL, hI, hG, hM, b1⟩
  have CO := Lib.hid (gof_led hL hI HC.out)
  have L1 := Lib.hid hL
  have I1 := Lib.hid hI
  have B1 := Lib.hid b1
  have hGl := hL.blk.lt
  have hMl := hL.map.lt
  clear hL hI b1 HA
  go_wp2_with fail
  refine CO.out.mono ?_
  rintro e w2 ⟨rfl, k2, b2⟩
  have L2 := Lib.hid (L1.out.below b2)
  have CO2 := Lib.hid (gof_led L2.out I1.out HDD.out)
  have B2 := Lib.hid (B1.out.trans (b2.mono (by omega)))
  have KG2 := Lib.hid k2
  have hgl := k2.lt
  have hwg := B1.out.size
  generalize hg : w1.heap.size = g at *
  clear k2 b2 CO L1 B1 hg
  go_wp2_with fail
  refine CO2.out.mono ?_
  rintro e w3 ⟨rfl, k3, b3⟩
  have L3 := Lib.hid (L2.out.below b3)
  have B3 := Lib.hid (B2.out.trans (b3.mono (by omega)))
  have KG3 := Lib.hid (KG2.out.below b3 KG2.out.lt)
  have KO3 := Lib.hid k3
  generalize ho : w2.heap.size = o at *
  clear k3 b3 CO2 L2 B2 KG2 ho
  go_wp2_with fail
  go_loopw [10] (LedgAt w G M g o ps c d len2) (fun i _ => len2 - (intOf i).toNat)
  case atStart => exact ⟨0, ls, Nat.zero_le _, rfl, L3.out, I1.out, KG3.out, KO3.out, B3.out⟩
  case round =>
    clear L3 I1 KG3 KO3 B3
    obtain ⟨k, ls, hk, rfl, hL, hI, hKG, hKO, hB⟩ := hrel
    have L0 := Lib.hid hL
    have I1 := Lib.hid hI
    have KG0 := Lib.hid hKG
    have KO0 := Lib.hid hKO
    have B0 := Lib.hid hB
    have hol := hKO.lt
    clear hL hI hKG hKO hB
    by_cases hkl : k < len2
    · obtain ⟨b, off, rfl, hbw, z0, z1, z2⟩ := (HZ.out.below B0.out).flow (i := k) (by omega)
      have hx := HZ.out.2.2.1 zs[k] (List.getElem_mem _)
      generalize hxe : zs[k] = x at *
      clear hxe
      obtain ⟨fr, tt, am⟩ := x
      dsimp only at z0 z1 z2
      have HX := Lib.hid hx
      have bx := (Below.refl wr.heap.size wr).alloc (Nat.le_refl _) (.cells #[.int .u8 fr, .int .u8 tt, .int .i64 am] 35)
      have KX := Lib.hid (Blk.new wr #[.int .u8 fr, .int .u8 tt, .int .i64 am] 35)
      have L1 := Lib.hid (L0.out.below bx)
      have KG := Lib.hid (KG0.out.below bx KG0.out.lt)
      have KO := Lib.hid (KO0.out.below bx KO0.out.lt)
      have BB := Lib.hid (B0.out.trans (bx.mono B0.out.size))
      have hwr := B0.out.size
      clear bx hx L0 KG0 KO0 B0
      have HI := Lib.hid (roomF_inv I1.out c)
      obtain ⟨u, hu⟩ : ∃ u, roomF ps ls c fr tt = u := ⟨_, rfl⟩
      go_wp2_with fail
      generalize hW0 : wr.alloc (.cells #[.int .u8 fr, .int .u8 tt, .int .i64 am] 35) = W at *
      generalize hX : wr.heap.size = X at *
      clear hW0 z0 z1 z2
      have CG := Lib.hid (fun w' (hS : Below W.heap.size W w') => gcap_b (KG.out.below hS KG.out.lt) HI.out.outF fr tt)
      have CL := Lib.hid (fun w' (hS : Below W.heap.size W w') => room_any (L1.out.below hS) I1.out HX.out.fr HX.out.tt HC.out)
      rw [show roomL ps ls fr tt c = u from hu] at CL
      rw [hu] at CG
      have hxl := KX.out.lt
      refine region_still (by kernel_rfl) [(.pointer (some ⟨g, 0, none⟩)), (.pointer (some ⟨X, 0, none⟩)), (.int .u8 fr), (.pointer (some ⟨X, 1, none⟩)), (.int .u8 tt), (.int .i64 u), (.pointer (some ⟨G, 0, none⟩)), (.pointer (some ⟨X, 0, none⟩)), (.int .u8 fr), (.pointer (some ⟨X, 1, none⟩)), (.int .u8 tt), (.int .u8 c), (.int .i64 u), (.bool false)]
        (fun w' => Below W.heap.size W w') (by kernel_rfl) (Below.refl _ _).drew ?_
      intro af haf
      simp only [List.toList_toArray, List.append_eq, List.cons_append, List.nil_append, puts, Act.put, List.getD_cons_zero, List.getD_cons_succ, List.setIfInBounds_toArray, List.set_cons_succ, List.set_cons_zero] at haf
      subst haf
      refine ⟨?_, ?_⟩
      · simp only [List.toList_toArray, List.append_eq, List.cons_append, List.nil_append, EachTo]
        refine ⟨?_, ?_, ?_, ?_, ?_, ?_, ?_, ?_, ?_, ?_, ?_, ?_, ?_, ?_, trivial⟩
        · intro w' hS
          refine OpTo.plain ?_ ?_
          exact rfl
          have HS := Lib.hid hS
          clear hS
          go_wp2_with fail
          all_goals first | exact HS.out | exact ⟨rfl, HS.out⟩ | rfl | exact ⟨by omega, HS.out⟩
        · intro w' hS
          refine OpTo.plain ?_ ?_
          exact rfl
          have kx := KX.out.below hS KX.out.lt
          have hl := kx.lt
          have e0 := kx.cell 0
          have e1 := kx.cell 1
          have e2 := kx.cell 2
          simp at e0 e1 e2
          have HS := Lib.hid hS
          clear hS
          go_wp2_with fail
          all_goals first | exact HS.out | exact ⟨rfl, HS.out⟩ | rfl | exact ⟨by omega, HS.out⟩
        · intro w' hS
          refine OpTo.plain ?_ ?_
          exact rfl
          have kx := KX.out.below hS KX.out.lt
          have hl := kx.lt
          have e0 := kx.cell 0
          have e1 := kx.cell 1
          have e2 := kx.cell 2
          simp at e0 e1 e2
          have HS := Lib.hid hS
          clear hS
          go_wp2_with fail
          all_goals first | exact HS.out | exact ⟨rfl, HS.out⟩ | rfl | exact ⟨by omega, HS.out⟩
        · intro w' hS
          refine OpTo.plain ?_ ?_
          exact rfl
          have kx := KX.out.below hS KX.out.lt
          have hl := kx.lt
          have e0 := kx.cell 0
          have e1 := kx.cell 1
          have e2 := kx.cell 2
          simp at e0 e1 e2
          have HS := Lib.hid hS
          clear hS
          go_wp2_with fail
          all_goals first | exact HS.out | exact ⟨rfl, HS.out⟩ | rfl | exact ⟨by omega, HS.out⟩
        · intro w' hS
          refine OpTo.plain ?_ ?_
          exact rfl
          have kx := KX.out.below hS KX.out.lt
          have hl := kx.lt
          have e0 := kx.cell 0
          have e1 := kx.cell 1
          have e2 := kx.cell 2
          simp at e0 e1 e2
          have HS := Lib.hid hS
          clear hS
          go_wp2_with fail
          all_goals first | exact HS.out | exact ⟨rfl, HS.out⟩ | rfl | exact ⟨by omega, HS.out⟩
        · intro w' hS
          refine OpTo.plain ?_ ?_
          exact rfl
          have HS := Lib.hid hS
          clear hS
          go_wp2_with fail
          refine (CG.out w' HS.out).mono ?_
          rintro e w'' ⟨rfl, hb2⟩
          exact ⟨rfl, andB HS.out hb2⟩
        · intro w' hS
          refine OpTo.plain ?_ ?_
          exact rfl
          have HS := Lib.hid hS
          clear hS
          go_wp2_with fail
          all_goals first | exact HS.out | exact ⟨rfl, HS.out⟩ | rfl | exact ⟨by omega, HS.out⟩
        · intro w' hS
          refine OpTo.plain ?_ ?_
          exact rfl
          have kx := KX.out.below hS KX.out.lt
          have hl := kx.lt
          have e0 := kx.cell 0
          have e1 := kx.cell 1
          have e2 := kx.cell 2
          simp at e0 e1 e2
          have HS := Lib.hid hS
          clear hS
          go_wp2_with fail
          all_goals first | exact HS.out | exact ⟨rfl, HS.out⟩ | rfl | exact ⟨by omega, HS.out⟩
        · intro w' hS
          refine OpTo.plain ?_ ?_
          exact rfl
          have kx := KX.out.below hS KX.out.lt
          have hl := kx.lt
          have e0 := kx.cell 0
          have e1 := kx.cell 1
          have e2 := kx.cell 2
          simp at e0 e1 e2
          have HS := Lib.hid hS
          clear hS
          go_wp2_with fail
          all_goals first | exact HS.out | exact ⟨rfl, HS.out⟩ | rfl | exact ⟨by omega, HS.out⟩
        · intro w' hS
          refine OpTo.plain ?_ ?_
          exact rfl
          have kx := KX.out.below hS KX.out.lt
          have hl := kx.lt
          have e0 := kx.cell 0
          have e1 := kx.cell 1
          have e2 := kx.cell 2
          simp at e0 e1 e2
          have HS := Lib.hid hS
          clear hS
          go_wp2_with fail
          all_goals first | exact HS.out | exact ⟨rfl, HS.out⟩ | rfl | exact ⟨by omega, HS.out⟩
        · intro w' hS
          refine OpTo.plain ?_ ?_
          exact rfl
          have kx := KX.out.below hS KX.out.lt
          have hl := kx.lt
          have e0 := kx.cell 0
          have e1 := kx.cell 1
          have e2 := kx.cell 2
          simp at e0 e1 e2
          have HS := Lib.hid hS
          clear hS
          go_wp2_with fail
          all_goals first | exact HS.out | exact ⟨rfl, HS.out⟩ | rfl | exact ⟨by omega, HS.out⟩
        · intro w' hS
          refine OpTo.plain ?_ ?_
          exact rfl
          have HS := Lib.hid hS
          clear hS
          go_wp2_with fail
          all_goals first | exact HS.out | exact ⟨rfl, HS.out⟩ | rfl | exact ⟨by omega, HS.out⟩
        · intro w' hS
          refine OpTo.plain ?_ ?_
          exact rfl
          have HS := Lib.hid hS
          clear hS
          go_wp2_with fail
          refine (CL.out w' HS.out).mono ?_
          rintro e w'' ⟨rfl, hb2⟩
          exact ⟨rfl, andB HS.out hb2⟩
        · intro w' hS
          refine OpTo.plain ?_ ?_
          exact rfl
          have HS := Lib.hid hS
          clear hS
          go_wp2_with fail
          all_goals first | exact HS.out | exact ⟨rfl, HS.out⟩ | rfl | exact ⟨by omega, HS.out⟩
      intro W1 hS
      have KX1 := Lib.hid (KX.out.below hS KX.out.lt)
      have L2 := Lib.hid (L1.out.below hS)
      have KG2 := Lib.hid (KG.out.below hS KG.out.lt)
      have KO2 := Lib.hid (KO.out.below hS KO.out.lt)
      have BB2 := Lib.hid (BB.out.trans (hS.mono (by omega)))
      have hsz := hS.size
      clear hS KX L1 KG KO BB CG CL
      go_upto_if 58 with fail
      go_cut [10] (fun s wx => s = .int .i64 k ∧ LessAt W1 X fr tt wx)
      case first =>
        have CG := Lib.hid (fun w' (hS : Below W1.heap.size W1 w') => gcap_b (KG2.out.below hS KG2.out.lt) HI.out.outF fr tt)
        rw [hu] at CG
        have u1 := HI.out.nn fr tt
        have u2 := HI.out.le fr tt
        rw [hu] at u1 u2
        have hxl1 := KX1.out.lt
        obtain ⟨m, hm⟩ : ∃ m, min am u = m := ⟨_, rfl⟩
        have hm64 := Lib.hid (show In64 m by have := HX.out.am; unfold In64 at this ⊢; dsimp only at this; omega)
        by_cases hev : (k : Int) % 2 = 0
        · have q1 : ((k : Int) % 2 == 0) = true := by rw [hev]; rfl
          rw [q1, hev]
          clear q1 hev
          go_wp2_with fail
          refine region_end (by kernel_rfl) 10 16 [(.pointer (some ⟨X, 2, none⟩)), (.int .i64 am), (.pointer (some ⟨g, 0, none⟩)), (.pointer (some ⟨X, 0, none⟩)), (.int .u8 fr), (.pointer (some ⟨X, 1, none⟩)), (.int .u8 tt), (.int .i64 u), (.int .i64 m), (.pointer (some ⟨X, 2, none⟩))]
            (fun w' => Below W1.heap.size W1 w') (by kernel_rfl) rfl (by kernel_rfl) (Below.refl _ _).drew ?_
          intro af haf
          simp only [List.toList_toArray, List.append_eq, List.cons_append, List.nil_append, puts, Act.put, List.getD_cons_zero, List.getD_cons_succ, List.setIfInBounds_toArray, List.set_cons_succ, List.set_cons_zero] at haf
          subst haf
          refine ⟨?_, ?_⟩
          · simp only [List.toList_toArray, List.take_succ_cons, List.take_zero, EachTo]
            refine ⟨?_, ?_, ?_, ?_, ?_, ?_, ?_, ?_, ?_, ?_, trivial⟩
            · intro w' hS
              refine OpTo.plain ?_ ?_
              exact rfl
              have kx := KX1.out.below hS KX1.out.lt
              have hl := kx.lt
              have e0 := kx.cell 0
              have e1 := kx.cell 1
              have e2 := kx.cell 2
              simp at e0 e1 e2
              have HS := Lib.hid hS
              clear hS
              go_wp2_with fail
              all_goals first | exact HS.out | exact ⟨rfl, HS.out⟩ | rfl | exact ⟨by omega, HS.out⟩
            · intro w' hS
              refine OpTo.plain ?_ ?_
              exact rfl
              have kx := KX1.out.below hS KX1.out.lt
              have hl := kx.lt
              have e0 := kx.cell 0
              have e1 := kx.cell 1
              have e2 := kx.cell 2
              simp at e0 e1 e2
              have HS := Lib.hid hS
              clear hS
              go_wp2_with fail
              all_goals first | exact HS.out | exact ⟨rfl, HS.out⟩ | rfl | exact ⟨by omega, HS.out⟩
            · intro w' hS
              refine OpTo.plain ?_ ?_
              exact rfl
              have HS := Lib.hid hS
              clear hS
              go_wp2_with fail
              all_goals first | exact HS.out | exact ⟨rfl, HS.out⟩ | rfl | exact ⟨by omega, HS.out⟩
            · intro w' hS
              refine OpTo.plain ?_ ?_
              exact rfl
              have kx := KX1.out.below hS KX1.out.lt
              have hl := kx.lt
              have e0 := kx.cell 0
              have e1 := kx.cell 1
              have e2 := kx.cell 2
              simp at e0 e1 e2
              have HS := Lib.hid hS
              clear hS
              go_wp2_with fail
              all_goals first | exact HS.out | exact ⟨rfl, HS.out⟩ | rfl | exact ⟨by omega, HS.out⟩
            · intro w' hS
              refine OpTo.plain ?_ ?_
              exact rfl
              have kx := KX1.out.below hS KX1.out.lt
              have hl := kx.lt
              have e0 := kx.cell 0
              have e1 := kx.cell 1
              have e2 := kx.cell 2
              simp at e0 e1 e2
              have HS := Lib.hid hS
              clear hS
              go_wp2_with fail
              all_goals first | exact HS.out | exact ⟨rfl, HS.out⟩ | rfl | exact ⟨by omega, HS.out⟩
            · intro w' hS
              refine OpTo.plain ?_ ?_
              exact rfl
              have kx := KX1.out.below hS KX1.out.lt
              have hl := kx.lt
              have e0 := kx.cell 0
              have e1 := kx.cell 1
              have e2 := kx.cell 2
              simp at e0 e1 e2
              have HS := Lib.hid hS
              clear hS
              go_wp2_with fail
              all_goals first | exact HS.out | exact ⟨rfl, HS.out⟩ | rfl | exact ⟨by omega, HS.out⟩
            · intro w' hS
              refine OpTo.plain ?_ ?_
              exact rfl
              have kx := KX1.out.below hS KX1.out.lt
              have hl := kx.lt
              have e0 := kx.cell 0
              have e1 := kx.cell 1
              have e2 := kx.cell 2
              simp at e0 e1 e2
              have HS := Lib.hid hS
              clear hS
              go_wp2_with fail
              all_goals first | exact HS.out | exact ⟨rfl, HS.out⟩ | rfl | exact ⟨by omega, HS.out⟩
            · intro w' hS
              refine OpTo.plain ?_ ?_
              exact rfl
              have HS := Lib.hid hS
              clear hS
              go_wp2_with fail
              refine (CG.out w' HS.out).mono ?_
              rintro e w'' ⟨rfl, hb2⟩
              exact ⟨rfl, andB HS.out hb2⟩
            · intro w' hS
              refine OpTo.plain ?_ ?_
              exact rfl
              have HS := Lib.hid hS
              clear hS
              go_wp2_with fail
              all_goals first | exact HS.out | exact ⟨rfl, HS.out⟩ | rfl | exact ⟨by omega, HS.out⟩
            · intro w' hS
              refine OpTo.plain ?_ ?_
              exact rfl
              have kx := KX1.out.below hS KX1.out.lt
              have hl := kx.lt
              have e0 := kx.cell 0
              have e1 := kx.cell 1
              have e2 := kx.cell 2
              simp at e0 e1 e2
              have HS := Lib.hid hS
              clear hS
              go_wp2_with fail
              all_goals first | exact HS.out | exact ⟨rfl, HS.out⟩ | rfl | exact ⟨by omega, HS.out⟩
          simp only [List.getD_cons_succ, List.getD_cons_zero, List.toList_toArray]
          intro w' hS
          refine OpTo.plain ?_ ?_
          exact rfl
          have ky := (KX1.out.below hS KX1.out.lt).set 2 (.int .i64 m)
          simp only [List.setIfInBounds_toArray, List.set_cons_succ, List.set_cons_zero] at ky
          have KY := Lib.hid ky
          have e2 := (KX1.out.below hS KX1.out.lt).cell 2
          simp at e2
          have fr2 := (KX1.out.below hS KX1.out.lt).frozen 2
          have kk := Lib.hid ((Keep.of_below (S := (· = X)) hS).setCell (p := ⟨X, 2, none⟩) (.inl rfl) (.int .i64 m))
          clear hS ky
          go_wp2_with fail
          go_meet
          case rel => exact ⟨rfl, m, hm64.out, KY.out, kk.out⟩
        · have q1 : ((k : Int) % 2 == 0) = false := by simpa using hev
          rw [q1]
          clear q1
          generalize (k : Int) % 2 = t at *
          clear hev
          go_wp2_with fail
          go_meet
          case rel => exact ⟨rfl, am, HX.out.am, KX1.out, Keep.refl _ _⟩
      case rest =>
        obtain ⟨rfl, n, hn64, hKX, hK⟩ := hcut
        have KX := Lib.hid hKX
        have L1 := Lib.hid (L2.out.keep hK (by omega) (by omega))
        have KG := Lib.hid (KG2.out.keep hK (by omega))
        have KO := Lib.hid (KO2.out.keep hK (by omega))
        have BB := Lib.hid (BB2.out.trans (hK.below (B := w.heap.size) (by omega) (fun k hk e => by omega)))
        have hwc := BB.out.size
        have CC := Lib.hid (gcap_any KG.out HI.out.outF fr tt)
        rw [hu] at CC
        have lx := KX.out.lt
        have e0 := KX.out.cell 0; have e1 := KX.out.cell 1; have e2 := KX.out.cell 2
        simp at e0 e1 e2
        clear hKX hK KX1 L2 KG2 KO2 BB2
        by_cases h1 : n < 1
        · have EE : gPushE (roomF ps ls c) fr tt n = 1 := by unfold gPushE; rw [if_pos h1]
          have h3 : ¬ 1 ≤ n := by omega
          have CQ := Lib.hid (gpush_any KG.out HI.out (by decide) (a := fr) (b := tt) hn64)
          rw [EE] at CQ
          have EL : pushE ps ls fr tt c n = 1 := EE
          have lx := KX.out.lt
          have e0 := KX.out.cell 0; have e1 := KX.out.cell 1; have e2 := KX.out.cell 2
          simp at e0 e1 e2
          go_wp2_with fail
          refine CC.out.mono ?_
          rintro e W ⟨rfl, rfl⟩
          go_wp2_with fail
          refine CQ.out.mono ?_
          rintro e W2 ⟨rfl, k2, q2⟩
          have KG2 := Lib.hid k2
          have L2 := Lib.hid (L1.out.keep q2 (by omega) (by omega))
          have KO2 := Lib.hid (KO.out.keep q2 (by omega))
          have KX2 := Lib.hid (KX.out.keep q2 (by omega))
          have B2 := Lib.hid (BB.out.trans (q2.below (B := w.heap.size) (by omega) (fun k hk e => by omega)))
          have hs2 := q2.size
          have CP := Lib.hid (ppush_any L2.out I1.out HX.out.fr HX.out.tt HC.out hn64)
          rw [EL] at CP
          clear k2 q2 CQ lx e0 e1 e2
          have lx := KX2.out.lt
          have e0 := KX2.out.cell 0; have e1 := KX2.out.cell 1; have e2 := KX2.out.cell 2
          simp at e0 e1 e2
          go_wp2_with fail
          refine CP.out.mono ?_
          rintro e W3 ⟨rfl, l3, q3⟩
          have L3 := Lib.hid l3
          have KG3 := Lib.hid (KG2.out.keep q3 (by omega))
          have KO3 := Lib.hid (KO2.out.keep q3 (by omega))
          have KX3 := Lib.hid (KX2.out.keep q3 (by omega))
          have B3 := Lib.hid (B2.out.trans (q3.below (B := w.heap.size) (by omega) (fun k hk e => by omega)))
          have hs3 := q3.size
          have I3 := Lib.hid (I1.out.push fr tt c n)
          have CO := Lib.hid (gof_led L3.out I3.out HC.out)
          rw [room_push I1.out fr tt c n] at CO
          clear l3 q3 CP lx e0 e1 e2
          have lx := KX3.out.lt
          have e0 := KX3.out.cell 0; have e1 := KX3.out.cell 1; have e2 := KX3.out.cell 2
          simp at e0 e1 e2
          go_wp2_with fail
          refine CO.out.mono ?_
          rintro e W4 ⟨rfl, k4, b4⟩
          have CS := Lib.hid (gsame_any (IsG.of (KG3.out.below b4 KG3.out.lt)) (IsG.of k4))
          rw [sameF_refl] at CS
          have L4 := Lib.hid (L3.out.below b4)
          have KG4 := Lib.hid (KG3.out.below b4 KG3.out.lt)
          have KO4 := Lib.hid (KO3.out.below b4 KO3.out.lt)
          have B4 := Lib.hid (B3.out.trans (b4.mono (by omega)))
          have hs4 := b4.size
          clear k4 b4 CO lx e0 e1 e2
          go_wp2_with fail
          refine CS.out.mono ?_
          rintro e W5 ⟨rfl, b5⟩
          have L5 := Lib.hid (L4.out.below b5)
          have KG5 := Lib.hid (KG4.out.below b5 KG4.out.lt)
          have KO5 := Lib.hid (KO4.out.below b5 KO4.out.lt)
          have B5 := Lib.hid (B4.out.trans (b5.mono (by omega)))
          clear b5 CS
          go_wp2_with fail
          go_roundw
          case rel => exact ⟨k + 1, pushL ps ls fr tt c n, by omega, by go_num, L5.out, I3.out, by rw [room_push I1.out fr tt c n]; exact KG5.out, by rw [room_else I1.out fr tt n HD.out]; exact KO5.out, B5.out⟩
          case measure => simp [intOf]; omega
        by_cases h2 : roomF ps ls c fr tt < n
        · have EE : gPushE (roomF ps ls c) fr tt n = 11 := by unfold gPushE; rw [if_neg h1, if_pos h2]
          rw [hu] at h2
          have h3 : 1 ≤ n := by omega
          have h4 : ¬ n ≤ u := by omega
          have CQ := Lib.hid (gpush_any KG.out HI.out (by decide) (a := fr) (b := tt) hn64)
          rw [EE] at CQ
          have EL : pushE ps ls fr tt c n = 11 := EE
          have lx := KX.out.lt
          have e0 := KX.out.cell 0; have e1 := KX.out.cell 1; have e2 := KX.out.cell 2
          simp at e0 e1 e2
          go_wp2_with fail
          refine CC.out.mono ?_
          rintro e W ⟨rfl, rfl⟩
          go_wp2_with fail
          refine CQ.out.mono ?_
          rintro e W2 ⟨rfl, k2, q2⟩
          have KG2 := Lib.hid k2
          have L2 := Lib.hid (L1.out.keep q2 (by omega) (by omega))
          have KO2 := Lib.hid (KO.out.keep q2 (by omega))
          have KX2 := Lib.hid (KX.out.keep q2 (by omega))
          have B2 := Lib.hid (BB.out.trans (q2.below (B := w.heap.size) (by omega) (fun k hk e => by omega)))
          have hs2 := q2.size
          have CP := Lib.hid (ppush_any L2.out I1.out HX.out.fr HX.out.tt HC.out hn64)
          rw [EL] at CP
          clear k2 q2 CQ lx e0 e1 e2
          have lx := KX2.out.lt
          have e0 := KX2.out.cell 0; have e1 := KX2.out.cell 1; have e2 := KX2.out.cell 2
          simp at e0 e1 e2
          go_wp2_with fail
          refine CP.out.mono ?_
          rintro e W3 ⟨rfl, l3, q3⟩
          have L3 := Lib.hid l3
          have KG3 := Lib.hid (KG2.out.keep q3 (by omega))
          have KO3 := Lib.hid (KO2.out.keep q3 (by omega))
          have KX3 := Lib.hid (KX2.out.keep q3 (by omega))
          have B3 := Lib.hid (B2.out.trans (q3.below (B := w.heap.size) (by omega) (fun k hk e => by omega)))
          have hs3 := q3.size
          have I3 := Lib.hid (I1.out.push fr tt c n)
          have CO := Lib.hid (gof_led L3.out I3.out HC.out)
          rw [room_push I1.out fr tt c n] at CO
          clear l3 q3 CP lx e0 e1 e2
          have lx := KX3.out.lt
          have e0 := KX3.out.cell 0; have e1 := KX3.out.cell 1; have e2 := KX3.out.cell 2
          simp at e0 e1 e2
          go_wp2_with fail
          refine CO.out.mono ?_
          rintro e W4 ⟨rfl, k4, b4⟩
          have CS := Lib.hid (gsame_any (IsG.of (KG3.out.below b4 KG3.out.lt)) (IsG.of k4))
          rw [sameF_refl] at CS
          have L4 := Lib.hid (L3.out.below b4)
          have KG4 := Lib.hid (KG3.out.below b4 KG3.out.lt)
          have KO4 := Lib.hid (KO3.out.below b4 KO3.out.lt)
          have B4 := Lib.hid (B3.out.trans (b4.mono (by omega)))
          have hs4 := b4.size
          clear k4 b4 CO lx e0 e1 e2
          go_wp2_with fail
          refine CS.out.mono ?_
          rintro e W5 ⟨rfl, b5⟩
          have L5 := Lib.hid (L4.out.below b5)
          have KG5 := Lib.hid (KG4.out.below b5 KG4.out.lt)
          have KO5 := Lib.hid (KO4.out.below b5 KO4.out.lt)
          have B5 := Lib.hid (B4.out.trans (b5.mono (by omega)))
          clear b5 CS
          go_wp2_with fail
          go_roundw
          case rel => exact ⟨k + 1, pushL ps ls fr tt c n, by omega, by go_num, L5.out, I3.out, by rw [room_push I1.out fr tt c n]; exact KG5.out, by rw [room_else I1.out fr tt n HD.out]; exact KO5.out, B5.out⟩
          case measure => simp [intOf]; omega
        have EE : gPushE (roomF ps ls c) fr tt n = 0 := by unfold gPushE; rw [if_neg h1, if_neg h2]
        rw [hu] at h2
        have h3 : 1 ≤ n := by omega
        have h4 : n ≤ u := by omega
        have CQ := Lib.hid (gpush_any KG.out HI.out (by decide) (a := fr) (b := tt) hn64)
        rw [EE] at CQ
        have EL : pushE ps ls fr tt c n = 0 := EE
        have lx := KX.out.lt
        have e0 := KX.out.cell 0; have e1 := KX.out.cell 1; have e2 := KX.out.cell 2
        simp at e0 e1 e2
        go_wp2_with fail
        refine CC.out.mono ?_
        rintro e W ⟨rfl, rfl⟩
        go_wp2_with fail
        refine CQ.out.mono ?_
        rintro e W2 ⟨rfl, k2, q2⟩
        have KG2 := Lib.hid k2
        have L2 := Lib.hid (L1.out.keep q2 (by omega) (by omega))
        have KO2 := Lib.hid (KO.out.keep q2 (by omega))
        have KX2 := Lib.hid (KX.out.keep q2 (by omega))
        have B2 := Lib.hid (BB.out.trans (q2.below (B := w.heap.size) (by omega) (fun k hk e => by omega)))
        have hs2 := q2.size
        have CP := Lib.hid (ppush_any L2.out I1.out HX.out.fr HX.out.tt HC.out hn64)
        rw [EL] at CP
        clear k2 q2 CQ lx e0 e1 e2
        have lx := KX2.out.lt
        have e0 := KX2.out.cell 0; have e1 := KX2.out.cell 1; have e2 := KX2.out.cell 2
        simp at e0 e1 e2
        go_wp2_with fail
        refine CP.out.mono ?_
        rintro e W3 ⟨rfl, l3, q3⟩
        have L3 := Lib.hid l3
        have KG3 := Lib.hid (KG2.out.keep q3 (by omega))
        have KO3 := Lib.hid (KO2.out.keep q3 (by omega))
        have KX3 := Lib.hid (KX2.out.keep q3 (by omega))
        have B3 := Lib.hid (B2.out.trans (q3.below (B := w.heap.size) (by omega) (fun k hk e => by omega)))
        have hs3 := q3.size
        have I3 := Lib.hid (I1.out.push fr tt c n)
        have CO := Lib.hid (gof_led L3.out I3.out HC.out)
        rw [room_push I1.out fr tt c n] at CO
        clear l3 q3 CP lx e0 e1 e2
        have lx := KX3.out.lt
        have e0 := KX3.out.cell 0; have e1 := KX3.out.cell 1; have e2 := KX3.out.cell 2
        simp at e0 e1 e2
        go_wp2_with fail
        refine CO.out.mono ?_
        rintro e W4 ⟨rfl, k4, b4⟩
        have CS := Lib.hid (gsame_any (IsG.of (KG3.out.below b4 KG3.out.lt)) (IsG.of k4))
        rw [sameF_refl] at CS
        have L4 := Lib.hid (L3.out.below b4)
        have KG4 := Lib.hid (KG3.out.below b4 KG3.out.lt)
        have KO4 := Lib.hid (KO3.out.below b4 KO3.out.lt)
        have B4 := Lib.hid (B3.out.trans (b4.mono (by omega)))
        have hs4 := b4.size
        clear k4 b4 CO lx e0 e1 e2
        go_wp2_with fail
        refine CS.out.mono ?_
        rintro e W5 ⟨rfl, b5⟩
        have L5 := Lib.hid (L4.out.below b5)
        have KG5 := Lib.hid (KG4.out.below b5 KG4.out.lt)
        have KO5 := Lib.hid (KO4.out.below b5 KO4.out.lt)
        have B5 := Lib.hid (B4.out.trans (b5.mono (by omega)))
        clear b5 CS
        go_wp2_with fail
        go_roundw
        case rel => exact ⟨k + 1, pushL ps ls fr tt c n, by omega, by go_num, L5.out, I3.out, by rw [room_push I1.out fr tt c n]; exact KG5.out, by rw [room_else I1.out fr tt n HD.out]; exact KO5.out, B5.out⟩
        case measure => simp [intOf]; omega
    · have hk2 : k = len2 := by omega
      have CO := Lib.hid (gof_led L0.out I1.out HDD.out)
      have hwr := B0.out.size
      go_wp2_with fail
      refine CO.out.mono ?_
      rintro e W4 ⟨rfl, k4, b4⟩
      have CS := Lib.hid (gsame_any (IsG.of (KO0.out.below b4 KO0.out.lt)) (IsG.of k4))
      rw [sameF_refl] at CS
      have B4 := Lib.hid (B0.out.trans (b4.mono (by omega)))
      have hs4 := b4.size
      clear k4 b4 CO
      go_wp2_with fail
      refine CS.out.mono ?_
      rintro e W5 ⟨rfl, b5⟩
      have B5 := Lib.hid (B4.out.trans (b5.mono (by omega)))
      have CL := Lib.hid (lives05_any W5)
      have hs5 := b5.size
      clear b5 CS
      go_wp2_with fail
      refine CL.out.mono ?_
      rintro e W6 ⟨rfl, b6⟩
      have B6 := Lib.hid (B5.out.trans (b6.mono (by omega)))
      clear b6 CL
      go_wp2_with fail
      go_ret
      exact ⟨rfl, B6.out⟩

end Go.Proofs.Ytdpkcamhafkkbaa
