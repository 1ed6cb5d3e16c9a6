/-
  LedgersBack: the walk, for every acts and every push.
-/
import Derived.Test.YtlcilpeljnoclaaMade
import Derived.Test.YtlcilpeljnoclaaSameL
namespace Go.Proofs.Ytlcilpeljnoclaa
open Go.RowKit
set_option linter.unusedSimpArgs false
set_option linter.unusedVariables false

theorem owe_self (x : Ln) (d : Int) (h : d = x.db) : x.owe d = x := by subst h; rfl
theorem owe_owe (x : Ln) (d e : Int) : (x.owe d).owe e = x.owe e := rfl
/-- What is pushed back: lines are as they were, where one of both owed nothing. -/
theorem back_same {ps : List Int} {ls : List Ln} (h : LInv ps ls) {a b c n : Int} (h1 : 1 ≤ n) (hr : n ≤ roomL ps ls a b c) (hz : (lnAt ls a b c).db = 0 ∨ (lnAt ls b a c).db = 0) : pushTo (pushTo ls a b c n) b a c n = ls := by
  have hab : a ≠ b := by
    rintro rfl
    unfold roomL at hr
    rw [if_pos (.inl rfl)] at hr
    omega
  have hx := lnAt_bd h.inv.good a b c
  have hy := lnAt_bd h.inv.good b a c
  have hr' := hr
  rw [← room_eq h a b c] at hr'
  obtain ⟨i2, _, l2, _⟩ := push_done h.inv hab h1 hr'
  obtain ⟨e1, e2⟩ := push_at h.inv hab h1 hr'
  have hr2 : n ≤ (lnAt (pushTo ls a b c n) b a c).db + (lnAt (pushTo ls a b c n) a b c).li - (lnAt (pushTo ls a b c n) a b c).db := by
    rw [e1, e2]; simp only [Ln.owe]; omega
  obtain ⟨i3, _, l3, _⟩ := push_done i2 (Ne.symm hab) h1 hr2
  refine Inv.ext i3 h.inv fun p q r => ?_
  rw [l3 p q r]
  by_cases k1 : b = p ∧ a = q ∧ c = r
  · rw [if_pos k1]
    obtain ⟨rfl, rfl, rfl⟩ := k1
    rw [l2 b a c, if_neg (fun k => hab k.1), if_pos ⟨rfl, rfl, rfl⟩]
    cases hl : lineL ls b a c with
    | none => rfl
    | some y =>
      rw [lnAt_some hl] at hz hy
      simp only [Option.map_some]
      rw [owe_owe, owe_self]
      simp only [Ln.owe]
      omega
  · rw [if_neg k1]
    by_cases k2 : a = p ∧ b = q ∧ c = r
    · rw [if_pos k2]
      obtain ⟨rfl, rfl, rfl⟩ := k2
      rw [l2 a b c, if_pos ⟨rfl, rfl, rfl⟩, e2]
      cases hl : lineL ls a b c with
      | none => rfl
      | some y =>
        rw [lnAt_some hl] at hz hx ⊢
        simp only [Option.map_some]
        rw [owe_owe, owe_self]
        simp only [Ln.owe]
        omega
    · rw [if_neg k2, l2 p q r, if_neg k2, if_neg k1]
set_option maxHeartbeats 8000000 in
set_option maxRecDepth 100000 in
theorem back_walk (a : Option Addr) (len cap : Nat) (xs : List Ac) (x : Ac) (w : World) (h0 : ActsIn w a len cap xs) (hx : x.Ok) :
    Calls Try.prog 7 #[.slice a len cap, .agg #[.int .u8 x.k, .int .u8 x.a, .int .u8 x.b, .int .u8 x.c, .int .i64 x.n]] w fun e w' => e = .returned (.bool true) ∧ Below w.heap.size w w' := by
  have HA := Lib.hid h0
  have hcap := h0.2.2.1
  have hmax := h0.2.2.2.1
  unfold maxLen at hmax
  clear h0
  by_cases hle : ¬ len ≤ 120
  · go_enter Try.func7, Try.ntmps7
    go_wp2_with fail
    have B0 := Lib.hid ((Below.refl w.heap.size w).alloc (Nat.le_refl _) (.cells #[.int .u8 x.k, .int .u8 x.a, .int .u8 x.b, .int .u8 x.c, .int .i64 x.n] 31))
    refine (lives03_any _).mono ?_
    rintro e w1 ⟨rfl, b1⟩
    have B1 := Lib.hid (B0.out.trans (b1.mono B0.out.size))
    clear b1
    go_wp2_with fail
    go_ret
    exact ⟨rfl, B1.out⟩
  · have hle := Decidable.not_not.1 hle
    go_enter Try.func7, Try.ntmps7
    go_wp2_with fail
    have KX0 := Lib.hid (Blk.new w #[.int .u8 x.k, .int .u8 x.a, .int .u8 x.b, .int .u8 x.c, .int .i64 x.n] 31)
    have B0 := Lib.hid ((Below.refl w.heap.size w).alloc (Nat.le_refl _) (.cells #[.int .u8 x.k, .int .u8 x.a, .int .u8 x.b, .int .u8 x.c, .int .i64 x.n] 31))
    have HA0 := Lib.hid (HA.out.below ((Below.refl w.heap.size w).alloc (Nat.le_refl _) (.cells #[.int .u8 x.k, .int .u8 x.a, .int .u8 x.b, .int .u8 x.c, .int .i64 x.n] 31)))
    have hz0 : (w.alloc (.cells #[.int .u8 x.k, .int .u8 x.a, .int .u8 x.b, .int .u8 x.c, .int .i64 x.n] 31)).heap.size = w.heap.size + 1 := by simp
    generalize w.alloc (.cells #[.int .u8 x.k, .int .u8 x.a, .int .u8 x.b, .int .u8 x.c, .int .i64 x.n] 31) = W0 at KX0 B0 HA0 hz0 ⊢
    refine (made_acts HA0.out hle).mono ?_
    rintro e w1 ⟨G, M, ps, ls, rfl, hL, hI, hG, hM, b1⟩
    rw [hz0] at hG hM
    have hGl := hL.blk.lt
    have hMl := hL.map.lt
    have I1 := Lib.hid hI
    have L1 := Lib.hid hL
    have KX1 := Lib.hid (KX0.out.below b1 KX0.out.lt)
    have B1 := Lib.hid (B0.out.trans (b1.mono B0.out.size))
    clear hL hI b1 KX0 B0 HA0
    go_wp2_with fail
    refine (pcopy_any L1.out).mono ?_
    rintro e w2 ⟨G2, M2, rfl, hC2, hG2, hM2, b2⟩
    have B2 := Lib.hid (B1.out.trans (b2.mono B1.out.size))
    have KX2 := Lib.hid (KX1.out.below b2 KX1.out.lt)
    have L2 := Lib.hid (L1.out.below b2)
    clear b2
    have C2 := Lib.hid hC2
    have hGl2 := hC2.blk.lt
    have hMl2 := hC2.map.lt
    clear hC2
    have lkx_2 := KX2.out.lt
    have kx_1_2 := KX2.out.cell 1
    have kx_2_2 := KX2.out.cell 2
    have kx_3_2 := KX2.out.cell 3
    have kx_4_2 := KX2.out.cell 4
    simp at kx_1_2 kx_2_2 kx_3_2 kx_4_2
    go_wp2_with fail
    have hX := Lib.hid hx
    obtain ⟨_, _, _, _, n0, n1⟩ := hx
    clear lkx_2 kx_1_2 kx_2_2 kx_3_2 kx_4_2
    refine (ppush_any (a := x.a) (b := x.b) (c := x.c) (n := x.n) L2.out I1.out hX.out.a hX.out.b hX.out.c hX.out.n).mono ?_
    rintro e w3 ⟨rfl, hL3, k3⟩
    have B3 := Lib.hid (B2.out.trans (k3.below B2.out.size (fun q hq e => by omega)))
    have KX3 := Lib.hid (KX2.out.keep k3 (by show ¬ w.heap.size = M; omega))
    have C3 := Lib.hid (C2.out.keep k3 (by show ¬ G2 = M; omega) (by show ¬ M2 = M; omega))
    have L3 := Lib.hid hL3
    clear hL3 k3
    by_cases he : ¬ pushE ps ls x.a x.b x.c x.n = 0
    · skip
      have qe : (pushE ps ls x.a x.b x.c x.n != 0) = true := by simp; exact he
      generalize pushE ps ls x.a x.b x.c x.n = E at *
      clear he
      have lkx_3 := KX3.out.lt
      have kx_1_3 := KX3.out.cell 1
      have kx_2_3 := KX3.out.cell 2
      have kx_3_3 := KX3.out.cell 3
      have kx_4_3 := KX3.out.cell 4
      simp at kx_1_3 kx_2_3 kx_3_3 kx_4_3
      go_wp2_with fail
      clear lkx_3 kx_1_3 kx_2_3 kx_3_3 kx_4_3
      refine (lives03_any _).mono ?_
      rintro e w4 ⟨rfl, b4⟩
      have B4 := Lib.hid (B3.out.trans (b4.mono B3.out.size))
      have KX4 := Lib.hid (KX3.out.below b4 KX3.out.lt)
      have C4 := Lib.hid (C3.out.below b4)
      have L4 := Lib.hid (L3.out.below b4)
      clear b4
      have lkx_4 := KX4.out.lt
      have kx_1_4 := KX4.out.cell 1
      have kx_2_4 := KX4.out.cell 2
      have kx_3_4 := KX4.out.cell 3
      have kx_4_4 := KX4.out.cell 4
      simp at kx_1_4 kx_2_4 kx_3_4 kx_4_4
      go_wp2_with fail
      go_ret
      exact ⟨rfl, B4.out⟩
    have he := Decidable.not_not.1 he
    obtain ⟨ls2, hl⟩ : ∃ ls2, pushL ps ls x.a x.b x.c x.n = ls2 := ⟨_, rfl⟩
    have hl2 : pushTo ls x.a x.b x.c x.n = ls2 := by rw [← hl]; unfold pushL; rw [if_pos he]
    have hn1 : 1 ≤ x.n := by
      by_cases k : x.n < 1
      · unfold pushE at he; rw [if_pos k] at he; cases he
      · omega
    have hnr : x.n ≤ roomL ps ls x.a x.b x.c := by
      by_cases k : roomL ps ls x.a x.b x.c < x.n
      · unfold pushE at he; rw [if_neg (by omega), if_pos k] at he; cases he
      · omega
    have I2 := Lib.hid (show LInv ps ls2 from by have := LInv.push I1.out x.a x.b x.c x.n; rwa [hl] at this)
    have hroom := push_room (ps := ps) I1.out.inv (a := x.a) (b := x.b) (c := x.c) (n := x.n) hn1 hnr
    have hpos := fun p => push_pos (ps := ps) I1.out.inv (a := x.a) (b := x.b) (c := x.c) (n := x.n) hn1 hnr p
    have HZ := Lib.hid (fun hz => back_same I1.out (a := x.a) (b := x.b) (c := x.c) (n := x.n) hn1 hnr hz)
    have hbb := roomL_bd (ps := ps) I1.out.inv.good x.b x.a x.c
    rw [hl2] at hroom HZ
    simp only [hl2] at hpos
    have hnr2 : x.n ≤ roomL ps ls2 x.b x.a x.c := by rw [hroom.2]; omega
    have he2 : pushE ps ls2 x.b x.a x.c x.n = 0 := by unfold pushE; rw [if_neg (by omega), if_neg (by omega)]
    obtain ⟨ls3, hl3⟩ : ∃ ls3, pushL ps ls2 x.b x.a x.c x.n = ls3 := ⟨_, rfl⟩
    have hl4 : pushTo ls2 x.b x.a x.c x.n = ls3 := by rw [← hl3]; unfold pushL; rw [if_pos he2]
    have I3 := Lib.hid (show LInv ps ls3 from by have := LInv.push I2.out x.b x.a x.c x.n; rwa [hl3] at this)
    have hroom3 := push_room (ps := ps) I2.out.inv (a := x.b) (b := x.a) (c := x.c) (n := x.n) hn1 hnr2
    have hpos3 := fun p => push_pos (ps := ps) I2.out.inv (a := x.b) (b := x.a) (c := x.c) (n := x.n) hn1 hnr2 p
    rw [hl4] at hroom3 HZ
    simp only [hl4] at hpos3
    have RA := Lib.hid (show roomL ps ls3 x.a x.b x.c = roomL ps ls x.a x.b x.c by omega)
    have RB := Lib.hid (show roomL ps ls3 x.b x.a x.c = roomL ps ls x.b x.a x.c by omega)
    have PP := Lib.hid (show ∀ p, posL ls3 p x.c = posL ls p x.c from fun p => by rw [hpos3 p, hpos p]; (repeat' split) <;> omega)
    have LL := Lib.hid (show LedM _ G M ps ls2 from by have := L3.out; rwa [hl] at this)
    clear hl hl2 hroom hpos hroom3 hpos3 hnr hnr2 hbb hl4
    have lkx_3 := KX3.out.lt
    have kx_1_3 := KX3.out.cell 1
    have kx_2_3 := KX3.out.cell 2
    have kx_3_3 := KX3.out.cell 3
    have kx_4_3 := KX3.out.cell 4
    simp at kx_1_3 kx_2_3 kx_3_3 kx_4_3
    go_wp2_with fail
    clear lkx_3 kx_1_3 kx_2_3 kx_3_3 kx_4_3
    refine (ppush_any (a := x.b) (b := x.a) (c := x.c) (n := x.n) LL.out I2.out hX.out.b hX.out.a hX.out.c hX.out.n).mono ?_
    rintro e w4 ⟨rfl, hL4, k4⟩
    have B4 := Lib.hid (B3.out.trans (k4.below B3.out.size (fun q hq e => by omega)))
    have KX4 := Lib.hid (KX3.out.keep k4 (by show ¬ w.heap.size = M; omega))
    have C4 := Lib.hid (C3.out.keep k4 (by show ¬ G2 = M; omega) (by show ¬ M2 = M; omega))
    have L4 := Lib.hid hL4
    clear hL4 k4
    have LL3 := Lib.hid (show LedM _ G M ps ls3 from by have := L4.out; rwa [hl3] at this)
    clear hl3
    have lkx_4 := KX4.out.lt
    have kx_1_4 := KX4.out.cell 1
    have kx_2_4 := KX4.out.cell 2
    have kx_3_4 := KX4.out.cell 3
    have kx_4_4 := KX4.out.cell 4
    simp at kx_1_4 kx_2_4 kx_3_4 kx_4_4
    go_wp2_with fail
    have hxl := lnAt_bd I1.out.inv.good x.a x.b x.c
    have hyl := lnAt_bd I1.out.inv.good x.b x.a x.c
    have CL := Lib.hid (gline_any (a := x.a) (b := x.b) (c := x.c) C4.out I1.out.inv hX.out.a hX.out.b hX.out.c)
    rw [lineV_at] at CL
    generalize (lineL ls x.a x.b x.c).isSome = sa at CL
    generalize lnAt ls x.a x.b x.c = xl at *
    clear lkx_4 kx_1_4 kx_2_4 kx_3_4 kx_4_4
    refine (CL.out).mono ?_
    rintro e w5 ⟨rfl, b5⟩
    have bz5 := b5
    replace b5 := bz5.alloc bz5.size (.cells #[.int .u8 xl.cr, .int .u8 xl.de, .int .u8 xl.cu, .int .i64 xl.li, .int .i64 xl.db] 35)
    clear bz5
    have B5 := Lib.hid (B4.out.trans (b5.mono B4.out.size))
    have KX5 := Lib.hid (KX4.out.below b5 KX4.out.lt)
    have C5 := Lib.hid (C4.out.below b5)
    have L5 := Lib.hid (LL3.out.below b5)
    clear b5
    have Kxl := Lib.hid (Blk.new w5 #[.int .u8 xl.cr, .int .u8 xl.de, .int .u8 xl.cu, .int .i64 xl.li, .int .i64 xl.db] 35)
    clear CL
    have lkx_5 := KX5.out.lt
    have kx_1_5 := KX5.out.cell 1
    have kx_2_5 := KX5.out.cell 2
    have kx_3_5 := KX5.out.cell 3
    have kx_4_5 := KX5.out.cell 4
    simp at kx_1_5 kx_2_5 kx_3_5 kx_4_5
    go_wp2_with fail
    have CL := Lib.hid (gline_any (a := x.b) (b := x.a) (c := x.c) C5.out I1.out.inv hX.out.b hX.out.a hX.out.c)
    rw [lineV_at] at CL
    generalize (lineL ls x.b x.a x.c).isSome = sb at CL
    generalize lnAt ls x.b x.a x.c = yl at *
    clear lkx_5 kx_1_5 kx_2_5 kx_3_5 kx_4_5
    refine (CL.out).mono ?_
    rintro e w6 ⟨rfl, b6⟩
    have bz6 := b6
    replace b6 := bz6.alloc bz6.size (.cells #[.int .u8 yl.cr, .int .u8 yl.de, .int .u8 yl.cu, .int .i64 yl.li, .int .i64 yl.db] 35)
    clear bz6
    have B6 := Lib.hid (B5.out.trans (b6.mono B5.out.size))
    have KX6 := Lib.hid (KX5.out.below b6 KX5.out.lt)
    have C6 := Lib.hid (C5.out.below b6)
    have L6 := Lib.hid (L5.out.below b6)
    have Kxl6 := Lib.hid (Kxl.out.below b6 Kxl.out.lt)
    clear b6
    have Kyl := Lib.hid (Blk.new w6 #[.int .u8 yl.cr, .int .u8 yl.de, .int .u8 yl.cu, .int .i64 yl.li, .int .i64 yl.db] 35)
    clear CL
    have lkx_6 := KX6.out.lt
    have kx_1_6 := KX6.out.cell 1
    have kx_2_6 := KX6.out.cell 2
    have kx_3_6 := KX6.out.cell 3
    have kx_4_6 := KX6.out.cell 4
    simp at kx_1_6 kx_2_6 kx_3_6 kx_4_6
    go_wp2_with fail
    obtain ⟨r, hr⟩ : ∃ r, roomL ps ls x.a x.b x.c = r := ⟨_, rfl⟩
    obtain ⟨bk, hbk⟩ : ∃ bk, roomL ps ls x.b x.a x.c = bk := ⟨_, rfl⟩
    obtain ⟨pa, hpa⟩ : ∃ pa, posL ls x.a x.c = pa := ⟨_, rfl⟩
    obtain ⟨pb, hpb⟩ : ∃ pb, posL ls x.b x.c = pb := ⟨_, rfl⟩
    have HRM := Lib.hid (show roomL ps ls3 x.a x.b x.c = r ∧ roomL ps ls3 x.b x.a x.c = bk ∧ roomL ps ls x.a x.b x.c = r ∧ roomL ps ls x.b x.a x.c = bk ∧ posL ls3 x.a x.c = pa ∧ posL ls x.a x.c = pa ∧ posL ls3 x.b x.c = pb ∧ posL ls x.b x.c = pb from ⟨RA.out.trans hr, RB.out.trans hbk, hr, hbk, (PP.out _).trans hpa, hpa, (PP.out _).trans hpb, hpb⟩)
    clear hr hbk hpa hpb RA RB PP
    clear lkx_6 kx_1_6 kx_2_6 kx_3_6 kx_4_6
    generalize w6.alloc (.cells #[.int .u8 yl.cr, .int .u8 yl.de, .int .u8 yl.cu, .int .i64 yl.li, .int .i64 yl.db] 35) = W6 at *
    have RAL : Hid (∀ w', Below W6.heap.size W6 w' → Calls Try.prog 18 #[(.pointer (some ⟨G, 0, none⟩)), .int .u8 x.a, .int .u8 x.b, .int .u8 x.c] w' fun e w'' => e = .returned (.int .i64 r) ∧ Below w'.heap.size w' w'') := Lib.hid fun w' k => by rw [← HRM.out.1]; exact room_any (L6.out.below k) I3.out hX.out.a hX.out.b hX.out.c
    have RBL : Hid (∀ w', Below W6.heap.size W6 w' → Calls Try.prog 18 #[(.pointer (some ⟨G, 0, none⟩)), .int .u8 x.b, .int .u8 x.a, .int .u8 x.c] w' fun e w'' => e = .returned (.int .i64 bk) ∧ Below w'.heap.size w' w'') := Lib.hid fun w' k => by rw [← HRM.out.2.1]; exact room_any (L6.out.below k) I3.out hX.out.b hX.out.a hX.out.c
    have PAL : Hid (∀ w', Below W6.heap.size W6 w' → Calls Try.prog 20 #[(.pointer (some ⟨G, 0, none⟩)), .int .u8 x.a, .int .u8 x.c] w' fun e w'' => e = .returned (.int .i64 pa) ∧ Below w'.heap.size w' w'') := Lib.hid fun w' k => by rw [← HRM.out.2.2.2.2.1]; exact ppos_any (L6.out.below k) I3.out x.a x.c
    have PBL : Hid (∀ w', Below W6.heap.size W6 w' → Calls Try.prog 20 #[(.pointer (some ⟨G, 0, none⟩)), .int .u8 x.b, .int .u8 x.c] w' fun e w'' => e = .returned (.int .i64 pb) ∧ Below w'.heap.size w' w'') := Lib.hid fun w' k => by rw [← HRM.out.2.2.2.2.2.2.1]; exact ppos_any (L6.out.below k) I3.out x.b x.c
    have RAC : Hid (∀ w', Below W6.heap.size W6 w' → Calls Try.prog 18 #[(.pointer (some ⟨G2, 0, none⟩)), .int .u8 x.a, .int .u8 x.b, .int .u8 x.c] w' fun e w'' => e = .returned (.int .i64 r) ∧ Below w'.heap.size w' w'') := Lib.hid fun w' k => by rw [← HRM.out.2.2.1]; exact room_any (C6.out.below k) I1.out hX.out.a hX.out.b hX.out.c
    have RBC : Hid (∀ w', Below W6.heap.size W6 w' → Calls Try.prog 18 #[(.pointer (some ⟨G2, 0, none⟩)), .int .u8 x.b, .int .u8 x.a, .int .u8 x.c] w' fun e w'' => e = .returned (.int .i64 bk) ∧ Below w'.heap.size w' w'') := Lib.hid fun w' k => by rw [← HRM.out.2.2.2.1]; exact room_any (C6.out.below k) I1.out hX.out.b hX.out.a hX.out.c
    have PAC : Hid (∀ w', Below W6.heap.size W6 w' → Calls Try.prog 20 #[(.pointer (some ⟨G2, 0, none⟩)), .int .u8 x.a, .int .u8 x.c] w' fun e w'' => e = .returned (.int .i64 pa) ∧ Below w'.heap.size w' w'') := Lib.hid fun w' k => by rw [← HRM.out.2.2.2.2.2.1]; exact ppos_any (C6.out.below k) I1.out x.a x.c
    have PBC : Hid (∀ w', Below W6.heap.size W6 w' → Calls Try.prog 20 #[(.pointer (some ⟨G2, 0, none⟩)), .int .u8 x.b, .int .u8 x.c] w' fun e w'' => e = .returned (.int .i64 pb) ∧ Below w'.heap.size w' w'') := Lib.hid fun w' k => by rw [← HRM.out.2.2.2.2.2.2.2]; exact ppos_any (C6.out.below k) I1.out x.b x.c
    refine region_still (by kernel_rfl) [(.pointer (some ⟨G, 0, none⟩)), (.pointer (some ⟨w.heap.size, 1, none⟩)), (.int .u8 x.a), (.pointer (some ⟨w.heap.size, 2, none⟩)), (.int .u8 x.b), (.pointer (some ⟨w.heap.size, 3, none⟩)), (.int .u8 x.c), (.int .i64 r), (.pointer (some ⟨G2, 0, none⟩)), (.pointer (some ⟨w.heap.size, 1, none⟩)), (.int .u8 x.a), (.pointer (some ⟨w.heap.size, 2, none⟩)), (.int .u8 x.b), (.pointer (some ⟨w.heap.size, 3, none⟩)), (.int .u8 x.c), (.int .i64 r), (.bool false), (.bool false), (.pointer (some ⟨G, 0, none⟩)), (.pointer (some ⟨w.heap.size, 2, none⟩)), (.int .u8 x.b), (.pointer (some ⟨w.heap.size, 1, none⟩)), (.int .u8 x.a), (.pointer (some ⟨w.heap.size, 3, none⟩)), (.int .u8 x.c), (.int .i64 bk), (.pointer (some ⟨G2, 0, none⟩)), (.pointer (some ⟨w.heap.size, 2, none⟩)), (.int .u8 x.b), (.pointer (some ⟨w.heap.size, 1, none⟩)), (.int .u8 x.a), (.pointer (some ⟨w.heap.size, 3, none⟩)), (.int .u8 x.c), (.int .i64 bk), (.bool false), (.bool false), (.bool false), (.pointer (some ⟨G, 0, none⟩)), (.pointer (some ⟨w.heap.size, 1, none⟩)), (.int .u8 x.a), (.pointer (some ⟨w.heap.size, 3, none⟩)), (.int .u8 x.c), (.int .i64 pa), (.pointer (some ⟨G2, 0, none⟩)), (.pointer (some ⟨w.heap.size, 1, none⟩)), (.int .u8 x.a), (.pointer (some ⟨w.heap.size, 3, none⟩)), (.int .u8 x.c), (.int .i64 pa), (.bool false), (.bool false), (.bool false), (.pointer (some ⟨G, 0, none⟩)), (.pointer (some ⟨w.heap.size, 2, none⟩)), (.int .u8 x.b), (.pointer (some ⟨w.heap.size, 3, none⟩)), (.int .u8 x.c), (.int .i64 pb), (.pointer (some ⟨G2, 0, none⟩)), (.pointer (some ⟨w.heap.size, 2, none⟩)), (.int .u8 x.b), (.pointer (some ⟨w.heap.size, 3, none⟩)), (.int .u8 x.c), (.int .i64 pb), (.bool false), (.bool false)]
      (fun w' => Below W6.heap.size W6 w') (by kernel_rfl) (Below.refl _ _).drew ?_
    intro af haf
    simp only [List.toList_toArray, List.append_eq, List.cons_append, List.nil_append, puts, Act.put, List.getD_cons_zero, List.getD_cons_succ, List.setIfInBounds_toArray, List.set_cons_succ, List.set_cons_zero] at haf
    subst haf
    refine ⟨?_, ?_⟩
    · simp only [List.toList_toArray, List.append_eq, List.cons_append, List.nil_append, EachTo]
      refine ⟨?_, ?_, ?_, ?_, ?_, ?_, ?_, ?_, ?_, ?_, ?_, ?_, ?_, ?_, ?_, ?_, ?_, ?_, ?_, ?_, ?_, ?_, ?_, ?_, ?_, ?_, ?_, ?_, ?_, ?_, ?_, ?_, ?_, ?_, ?_, ?_, ?_, ?_, ?_, ?_, ?_, ?_, ?_, ?_, ?_, ?_, ?_, ?_, ?_, ?_, ?_, ?_, ?_, ?_, ?_, ?_, ?_, ?_, ?_, ?_, ?_, ?_, ?_, ?_, ?_, ?_, trivial⟩
      · intro w' hS
        refine OpTo.plain ?_ ?_
        exact rfl
        have HS := Lib.hid hS
        clear hS
        go_wp2_with fail
        all_goals first | exact HS.out | exact ⟨rfl, HS.out⟩ | rfl | exact ⟨by omega, HS.out⟩
      · intro w' hS
        refine OpTo.plain ?_ ?_
        exact rfl
        have HS := Lib.hid hS
        clear hS
        go_wp2_with fail
        all_goals first | exact HS.out | exact ⟨rfl, HS.out⟩ | rfl | exact ⟨by omega, HS.out⟩
      · intro w' hS
        refine OpTo.plain ?_ ?_
        exact rfl
        have d0_0 := (KX6.out.below hS KX6.out.lt).cell 0
        have d0_1 := (KX6.out.below hS KX6.out.lt).cell 1
        have d0_2 := (KX6.out.below hS KX6.out.lt).cell 2
        have d0_3 := (KX6.out.below hS KX6.out.lt).cell 3
        have d0_4 := (KX6.out.below hS KX6.out.lt).cell 4
        simp at d0_0 d0_1 d0_2 d0_3 d0_4
        have HS := Lib.hid hS
        clear hS
        go_wp2_with fail
        all_goals first | exact HS.out | exact ⟨rfl, HS.out⟩ | rfl | exact ⟨by omega, HS.out⟩
      · intro w' hS
        refine OpTo.plain ?_ ?_
        exact rfl
        have HS := Lib.hid hS
        clear hS
        go_wp2_with fail
        all_goals first | exact HS.out | exact ⟨rfl, HS.out⟩ | rfl | exact ⟨by omega, HS.out⟩
      · intro w' hS
        refine OpTo.plain ?_ ?_
        exact rfl
        have d0_0 := (KX6.out.below hS KX6.out.lt).cell 0
        have d0_1 := (KX6.out.below hS KX6.out.lt).cell 1
        have d0_2 := (KX6.out.below hS KX6.out.lt).cell 2
        have d0_3 := (KX6.out.below hS KX6.out.lt).cell 3
        have d0_4 := (KX6.out.below hS KX6.out.lt).cell 4
        simp at d0_0 d0_1 d0_2 d0_3 d0_4
        have HS := Lib.hid hS
        clear hS
        go_wp2_with fail
        all_goals first | exact HS.out | exact ⟨rfl, HS.out⟩ | rfl | exact ⟨by omega, HS.out⟩
      · intro w' hS
        refine OpTo.plain ?_ ?_
        exact rfl
        have HS := Lib.hid hS
        clear hS
        go_wp2_with fail
        all_goals first | exact HS.out | exact ⟨rfl, HS.out⟩ | rfl | exact ⟨by omega, HS.out⟩
      · intro w' hS
        refine OpTo.plain ?_ ?_
        exact rfl
        have d0_0 := (KX6.out.below hS KX6.out.lt).cell 0
        have d0_1 := (KX6.out.below hS KX6.out.lt).cell 1
        have d0_2 := (KX6.out.below hS KX6.out.lt).cell 2
        have d0_3 := (KX6.out.below hS KX6.out.lt).cell 3
        have d0_4 := (KX6.out.below hS KX6.out.lt).cell 4
        simp at d0_0 d0_1 d0_2 d0_3 d0_4
        have HS := Lib.hid hS
        clear hS
        go_wp2_with fail
        all_goals first | exact HS.out | exact ⟨rfl, HS.out⟩ | rfl | exact ⟨by omega, HS.out⟩
      · intro w' hS
        refine OpTo.plain ?_ ?_
        exact rfl
        have HS := Lib.hid hS
        clear hS
        go_wp2_with fail
        refine (RAL.out w' HS.out).mono ?_
        rintro e w'' ⟨rfl, hb2⟩
        exact ⟨rfl, andB HS.out hb2⟩
      · intro w' hS
        refine OpTo.plain ?_ ?_
        exact rfl
        have HS := Lib.hid hS
        clear hS
        go_wp2_with fail
        all_goals first | exact HS.out | exact ⟨rfl, HS.out⟩ | rfl | exact ⟨by omega, HS.out⟩
      · intro w' hS
        refine OpTo.plain ?_ ?_
        exact rfl
        have HS := Lib.hid hS
        clear hS
        go_wp2_with fail
        all_goals first | exact HS.out | exact ⟨rfl, HS.out⟩ | rfl | exact ⟨by omega, HS.out⟩
      · intro w' hS
        refine OpTo.plain ?_ ?_
        exact rfl
        have d0_0 := (KX6.out.below hS KX6.out.lt).cell 0
        have d0_1 := (KX6.out.below hS KX6.out.lt).cell 1
        have d0_2 := (KX6.out.below hS KX6.out.lt).cell 2
        have d0_3 := (KX6.out.below hS KX6.out.lt).cell 3
        have d0_4 := (KX6.out.below hS KX6.out.lt).cell 4
        simp at d0_0 d0_1 d0_2 d0_3 d0_4
        have HS := Lib.hid hS
        clear hS
        go_wp2_with fail
        all_goals first | exact HS.out | exact ⟨rfl, HS.out⟩ | rfl | exact ⟨by omega, HS.out⟩
      · intro w' hS
        refine OpTo.plain ?_ ?_
        exact rfl
        have HS := Lib.hid hS
        clear hS
        go_wp2_with fail
        all_goals first | exact HS.out | exact ⟨rfl, HS.out⟩ | rfl | exact ⟨by omega, HS.out⟩
      · intro w' hS
        refine OpTo.plain ?_ ?_
        exact rfl
        have d0_0 := (KX6.out.below hS KX6.out.lt).cell 0
        have d0_1 := (KX6.out.below hS KX6.out.lt).cell 1
        have d0_2 := (KX6.out.below hS KX6.out.lt).cell 2
        have d0_3 := (KX6.out.below hS KX6.out.lt).cell 3
        have d0_4 := (KX6.out.below hS KX6.out.lt).cell 4
        simp at d0_0 d0_1 d0_2 d0_3 d0_4
        have HS := Lib.hid hS
        clear hS
        go_wp2_with fail
        all_goals first | exact HS.out | exact ⟨rfl, HS.out⟩ | rfl | exact ⟨by omega, HS.out⟩
      · intro w' hS
        refine OpTo.plain ?_ ?_
        exact rfl
        have HS := Lib.hid hS
        clear hS
        go_wp2_with fail
        all_goals first | exact HS.out | exact ⟨rfl, HS.out⟩ | rfl | exact ⟨by omega, HS.out⟩
      · intro w' hS
        refine OpTo.plain ?_ ?_
        exact rfl
        have d0_0 := (KX6.out.below hS KX6.out.lt).cell 0
        have d0_1 := (KX6.out.below hS KX6.out.lt).cell 1
        have d0_2 := (KX6.out.below hS KX6.out.lt).cell 2
        have d0_3 := (KX6.out.below hS KX6.out.lt).cell 3
        have d0_4 := (KX6.out.below hS KX6.out.lt).cell 4
        simp at d0_0 d0_1 d0_2 d0_3 d0_4
        have HS := Lib.hid hS
        clear hS
        go_wp2_with fail
        all_goals first | exact HS.out | exact ⟨rfl, HS.out⟩ | rfl | exact ⟨by omega, HS.out⟩
      · intro w' hS
        refine OpTo.plain ?_ ?_
        exact rfl
        have HS := Lib.hid hS
        clear hS
        go_wp2_with fail
        refine (RAC.out w' HS.out).mono ?_
        rintro e w'' ⟨rfl, hb2⟩
        exact ⟨rfl, andB HS.out hb2⟩
      · intro w' hS
        refine OpTo.plain ?_ ?_
        exact rfl
        have HS := Lib.hid hS
        clear hS
        go_wp2_with fail
        all_goals first | exact HS.out | exact ⟨rfl, HS.out⟩ | rfl | exact ⟨by omega, HS.out⟩
      · intro w' hS
        refine OpTo.plain ?_ ?_
        exact rfl
        have HS := Lib.hid hS
        clear hS
        go_wp2_with fail
        all_goals first | exact HS.out | exact ⟨rfl, HS.out⟩ | rfl | exact ⟨by omega, HS.out⟩
      · intro w' hS
        refine OpTo.wanted ?_ ?_
        kernel_rfl
        have HS := Lib.hid hS
        clear hS
        go_wp2_with fail
        all_goals first | exact HS.out | exact ⟨rfl, HS.out⟩ | rfl | exact ⟨by omega, HS.out⟩
      · intro w' hS
        refine OpTo.wanted ?_ ?_
        kernel_rfl
        have HS := Lib.hid hS
        clear hS
        go_wp2_with fail
        all_goals first | exact HS.out | exact ⟨rfl, HS.out⟩ | rfl | exact ⟨by omega, HS.out⟩
      · intro w' hS
        refine OpTo.wanted ?_ ?_
        kernel_rfl
        have d0_0 := (KX6.out.below hS KX6.out.lt).cell 0
        have d0_1 := (KX6.out.below hS KX6.out.lt).cell 1
        have d0_2 := (KX6.out.below hS KX6.out.lt).cell 2
        have d0_3 := (KX6.out.below hS KX6.out.lt).cell 3
        have d0_4 := (KX6.out.below hS KX6.out.lt).cell 4
        simp at d0_0 d0_1 d0_2 d0_3 d0_4
        have HS := Lib.hid hS
        clear hS
        go_wp2_with fail
        all_goals first | exact HS.out | exact ⟨rfl, HS.out⟩ | rfl | exact ⟨by omega, HS.out⟩
      · intro w' hS
        refine OpTo.wanted ?_ ?_
        kernel_rfl
        have HS := Lib.hid hS
        clear hS
        go_wp2_with fail
        all_goals first | exact HS.out | exact ⟨rfl, HS.out⟩ | rfl | exact ⟨by omega, HS.out⟩
      · intro w' hS
        refine OpTo.wanted ?_ ?_
        kernel_rfl
        have d0_0 := (KX6.out.below hS KX6.out.lt).cell 0
        have d0_1 := (KX6.out.below hS KX6.out.lt).cell 1
        have d0_2 := (KX6.out.below hS KX6.out.lt).cell 2
        have d0_3 := (KX6.out.below hS KX6.out.lt).cell 3
        have d0_4 := (KX6.out.below hS KX6.out.lt).cell 4
        simp at d0_0 d0_1 d0_2 d0_3 d0_4
        have HS := Lib.hid hS
        clear hS
        go_wp2_with fail
        all_goals first | exact HS.out | exact ⟨rfl, HS.out⟩ | rfl | exact ⟨by omega, HS.out⟩
      · intro w' hS
        refine OpTo.wanted ?_ ?_
        kernel_rfl
        have HS := Lib.hid hS
        clear hS
        go_wp2_with fail
        all_goals first | exact HS.out | exact ⟨rfl, HS.out⟩ | rfl | exact ⟨by omega, HS.out⟩
      · intro w' hS
        refine OpTo.wanted ?_ ?_
        kernel_rfl
        have d0_0 := (KX6.out.below hS KX6.out.lt).cell 0
        have d0_1 := (KX6.out.below hS KX6.out.lt).cell 1
        have d0_2 := (KX6.out.below hS KX6.out.lt).cell 2
        have d0_3 := (KX6.out.below hS KX6.out.lt).cell 3
        have d0_4 := (KX6.out.below hS KX6.out.lt).cell 4
        simp at d0_0 d0_1 d0_2 d0_3 d0_4
        have HS := Lib.hid hS
        clear hS
        go_wp2_with fail
        all_goals first | exact HS.out | exact ⟨rfl, HS.out⟩ | rfl | exact ⟨by omega, HS.out⟩
      · intro w' hS
        refine OpTo.wanted ?_ ?_
        kernel_rfl
        have HS := Lib.hid hS
        clear hS
        go_wp2_with fail
        refine (RBL.out w' HS.out).mono ?_
        rintro e w'' ⟨rfl, hb2⟩
        exact ⟨rfl, andB HS.out hb2⟩
      · intro w' hS
        refine OpTo.wanted ?_ ?_
        kernel_rfl
        have HS := Lib.hid hS
        clear hS
        go_wp2_with fail
        all_goals first | exact HS.out | exact ⟨rfl, HS.out⟩ | rfl | exact ⟨by omega, HS.out⟩
      · intro w' hS
        refine OpTo.wanted ?_ ?_
        kernel_rfl
        have HS := Lib.hid hS
        clear hS
        go_wp2_with fail
        all_goals first | exact HS.out | exact ⟨rfl, HS.out⟩ | rfl | exact ⟨by omega, HS.out⟩
      · intro w' hS
        refine OpTo.wanted ?_ ?_
        kernel_rfl
        have d0_0 := (KX6.out.below hS KX6.out.lt).cell 0
        have d0_1 := (KX6.out.below hS KX6.out.lt).cell 1
        have d0_2 := (KX6.out.below hS KX6.out.lt).cell 2
        have d0_3 := (KX6.out.below hS KX6.out.lt).cell 3
        have d0_4 := (KX6.out.below hS KX6.out.lt).cell 4
        simp at d0_0 d0_1 d0_2 d0_3 d0_4
        have HS := Lib.hid hS
        clear hS
        go_wp2_with fail
        all_goals first | exact HS.out | exact ⟨rfl, HS.out⟩ | rfl | exact ⟨by omega, HS.out⟩
      · intro w' hS
        refine OpTo.wanted ?_ ?_
        kernel_rfl
        have HS := Lib.hid hS
        clear hS
        go_wp2_with fail
        all_goals first | exact HS.out | exact ⟨rfl, HS.out⟩ | rfl | exact ⟨by omega, HS.out⟩
      · intro w' hS
        refine OpTo.wanted ?_ ?_
        kernel_rfl
        have d0_0 := (KX6.out.below hS KX6.out.lt).cell 0
        have d0_1 := (KX6.out.below hS KX6.out.lt).cell 1
        have d0_2 := (KX6.out.below hS KX6.out.lt).cell 2
        have d0_3 := (KX6.out.below hS KX6.out.lt).cell 3
        have d0_4 := (KX6.out.below hS KX6.out.lt).cell 4
        simp at d0_0 d0_1 d0_2 d0_3 d0_4
        have HS := Lib.hid hS
        clear hS
        go_wp2_with fail
        all_goals first | exact HS.out | exact ⟨rfl, HS.out⟩ | rfl | exact ⟨by omega, HS.out⟩
      · intro w' hS
        refine OpTo.wanted ?_ ?_
        kernel_rfl
        have HS := Lib.hid hS
        clear hS
        go_wp2_with fail
        all_goals first | exact HS.out | exact ⟨rfl, HS.out⟩ | rfl | exact ⟨by omega, HS.out⟩
      · intro w' hS
        refine OpTo.wanted ?_ ?_
        kernel_rfl
        have d0_0 := (KX6.out.below hS KX6.out.lt).cell 0
        have d0_1 := (KX6.out.below hS KX6.out.lt).cell 1
        have d0_2 := (KX6.out.below hS KX6.out.lt).cell 2
        have d0_3 := (KX6.out.below hS KX6.out.lt).cell 3
        have d0_4 := (KX6.out.below hS KX6.out.lt).cell 4
        simp at d0_0 d0_1 d0_2 d0_3 d0_4
        have HS := Lib.hid hS
        clear hS
        go_wp2_with fail
        all_goals first | exact HS.out | exact ⟨rfl, HS.out⟩ | rfl | exact ⟨by omega, HS.out⟩
      · intro w' hS
        refine OpTo.wanted ?_ ?_
        kernel_rfl
        have HS := Lib.hid hS
        clear hS
        go_wp2_with fail
        refine (RBC.out w' HS.out).mono ?_
        rintro e w'' ⟨rfl, hb2⟩
        exact ⟨rfl, andB HS.out hb2⟩
      · intro w' hS
        refine OpTo.wanted ?_ ?_
        kernel_rfl
        have HS := Lib.hid hS
        clear hS
        go_wp2_with fail
        all_goals first | exact HS.out | exact ⟨rfl, HS.out⟩ | rfl | exact ⟨by omega, HS.out⟩
      · intro w' hS
        refine OpTo.plain ?_ ?_
        exact rfl
        have HS := Lib.hid hS
        clear hS
        go_wp2_with fail
        all_goals first | exact HS.out | exact ⟨rfl, HS.out⟩ | rfl | exact ⟨by omega, HS.out⟩
      · intro w' hS
        refine OpTo.plain ?_ ?_
        exact rfl
        have HS := Lib.hid hS
        clear hS
        go_wp2_with fail
        all_goals first | exact HS.out | exact ⟨rfl, HS.out⟩ | rfl | exact ⟨by omega, HS.out⟩
      · intro w' hS
        refine OpTo.wanted ?_ ?_
        kernel_rfl
        have HS := Lib.hid hS
        clear hS
        go_wp2_with fail
        all_goals first | exact HS.out | exact ⟨rfl, HS.out⟩ | rfl | exact ⟨by omega, HS.out⟩
      · intro w' hS
        refine OpTo.wanted ?_ ?_
        kernel_rfl
        have HS := Lib.hid hS
        clear hS
        go_wp2_with fail
        all_goals first | exact HS.out | exact ⟨rfl, HS.out⟩ | rfl | exact ⟨by omega, HS.out⟩
      · intro w' hS
        refine OpTo.wanted ?_ ?_
        kernel_rfl
        have d0_0 := (KX6.out.below hS KX6.out.lt).cell 0
        have d0_1 := (KX6.out.below hS KX6.out.lt).cell 1
        have d0_2 := (KX6.out.below hS KX6.out.lt).cell 2
        have d0_3 := (KX6.out.below hS KX6.out.lt).cell 3
        have d0_4 := (KX6.out.below hS KX6.out.lt).cell 4
        simp at d0_0 d0_1 d0_2 d0_3 d0_4
        have HS := Lib.hid hS
        clear hS
        go_wp2_with fail
        all_goals first | exact HS.out | exact ⟨rfl, HS.out⟩ | rfl | exact ⟨by omega, HS.out⟩
      · intro w' hS
        refine OpTo.wanted ?_ ?_
        kernel_rfl
        have HS := Lib.hid hS
        clear hS
        go_wp2_with fail
        all_goals first | exact HS.out | exact ⟨rfl, HS.out⟩ | rfl | exact ⟨by omega, HS.out⟩
      · intro w' hS
        refine OpTo.wanted ?_ ?_
        kernel_rfl
        have d0_0 := (KX6.out.below hS KX6.out.lt).cell 0
        have d0_1 := (KX6.out.below hS KX6.out.lt).cell 1
        have d0_2 := (KX6.out.below hS KX6.out.lt).cell 2
        have d0_3 := (KX6.out.below hS KX6.out.lt).cell 3
        have d0_4 := (KX6.out.below hS KX6.out.lt).cell 4
        simp at d0_0 d0_1 d0_2 d0_3 d0_4
        have HS := Lib.hid hS
        clear hS
        go_wp2_with fail
        all_goals first | exact HS.out | exact ⟨rfl, HS.out⟩ | rfl | exact ⟨by omega, HS.out⟩
      · intro w' hS
        refine OpTo.wanted ?_ ?_
        kernel_rfl
        have HS := Lib.hid hS
        clear hS
        go_wp2_with fail
        refine (PAL.out w' HS.out).mono ?_
        rintro e w'' ⟨rfl, hb2⟩
        exact ⟨rfl, andB HS.out hb2⟩
      · intro w' hS
        refine OpTo.wanted ?_ ?_
        kernel_rfl
        have HS := Lib.hid hS
        clear hS
        go_wp2_with fail
        all_goals first | exact HS.out | exact ⟨rfl, HS.out⟩ | rfl | exact ⟨by omega, HS.out⟩
      · intro w' hS
        refine OpTo.wanted ?_ ?_
        kernel_rfl
        have HS := Lib.hid hS
        clear hS
        go_wp2_with fail
        all_goals first | exact HS.out | exact ⟨rfl, HS.out⟩ | rfl | exact ⟨by omega, HS.out⟩
      · intro w' hS
        refine OpTo.wanted ?_ ?_
        kernel_rfl
        have d0_0 := (KX6.out.below hS KX6.out.lt).cell 0
        have d0_1 := (KX6.out.below hS KX6.out.lt).cell 1
        have d0_2 := (KX6.out.below hS KX6.out.lt).cell 2
        have d0_3 := (KX6.out.below hS KX6.out.lt).cell 3
        have d0_4 := (KX6.out.below hS KX6.out.lt).cell 4
        simp at d0_0 d0_1 d0_2 d0_3 d0_4
        have HS := Lib.hid hS
        clear hS
        go_wp2_with fail
        all_goals first | exact HS.out | exact ⟨rfl, HS.out⟩ | rfl | exact ⟨by omega, HS.out⟩
      · intro w' hS
        refine OpTo.wanted ?_ ?_
        kernel_rfl
        have HS := Lib.hid hS
        clear hS
        go_wp2_with fail
        all_goals first | exact HS.out | exact ⟨rfl, HS.out⟩ | rfl | exact ⟨by omega, HS.out⟩
      · intro w' hS
        refine OpTo.wanted ?_ ?_
        kernel_rfl
        have d0_0 := (KX6.out.below hS KX6.out.lt).cell 0
        have d0_1 := (KX6.out.below hS KX6.out.lt).cell 1
        have d0_2 := (KX6.out.below hS KX6.out.lt).cell 2
        have d0_3 := (KX6.out.below hS KX6.out.lt).cell 3
        have d0_4 := (KX6.out.below hS KX6.out.lt).cell 4
        simp at d0_0 d0_1 d0_2 d0_3 d0_4
        have HS := Lib.hid hS
        clear hS
        go_wp2_with fail
        all_goals first | exact HS.out | exact ⟨rfl, HS.out⟩ | rfl | exact ⟨by omega, HS.out⟩
      · intro w' hS
        refine OpTo.wanted ?_ ?_
        kernel_rfl
        have HS := Lib.hid hS
        clear hS
        go_wp2_with fail
        refine (PAC.out w' HS.out).mono ?_
        rintro e w'' ⟨rfl, hb2⟩
        exact ⟨rfl, andB HS.out hb2⟩
      · intro w' hS
        refine OpTo.wanted ?_ ?_
        kernel_rfl
        have HS := Lib.hid hS
        clear hS
        go_wp2_with fail
        all_goals first | exact HS.out | exact ⟨rfl, HS.out⟩ | rfl | exact ⟨by omega, HS.out⟩
      · intro w' hS
        refine OpTo.plain ?_ ?_
        exact rfl
        have HS := Lib.hid hS
        clear hS
        go_wp2_with fail
        all_goals first | exact HS.out | exact ⟨rfl, HS.out⟩ | rfl | exact ⟨by omega, HS.out⟩
      · intro w' hS
        refine OpTo.plain ?_ ?_
        exact rfl
        have HS := Lib.hid hS
        clear hS
        go_wp2_with fail
        all_goals first | exact HS.out | exact ⟨rfl, HS.out⟩ | rfl | exact ⟨by omega, HS.out⟩
      · intro w' hS
        refine OpTo.wanted ?_ ?_
        kernel_rfl
        have HS := Lib.hid hS
        clear hS
        go_wp2_with fail
        all_goals first | exact HS.out | exact ⟨rfl, HS.out⟩ | rfl | exact ⟨by omega, HS.out⟩
      · intro w' hS
        refine OpTo.wanted ?_ ?_
        kernel_rfl
        have HS := Lib.hid hS
        clear hS
        go_wp2_with fail
        all_goals first | exact HS.out | exact ⟨rfl, HS.out⟩ | rfl | exact ⟨by omega, HS.out⟩
      · intro w' hS
        refine OpTo.wanted ?_ ?_
        kernel_rfl
        have d0_0 := (KX6.out.below hS KX6.out.lt).cell 0
        have d0_1 := (KX6.out.below hS KX6.out.lt).cell 1
        have d0_2 := (KX6.out.below hS KX6.out.lt).cell 2
        have d0_3 := (KX6.out.below hS KX6.out.lt).cell 3
        have d0_4 := (KX6.out.below hS KX6.out.lt).cell 4
        simp at d0_0 d0_1 d0_2 d0_3 d0_4
        have HS := Lib.hid hS
        clear hS
        go_wp2_with fail
        all_goals first | exact HS.out | exact ⟨rfl, HS.out⟩ | rfl | exact ⟨by omega, HS.out⟩
      · intro w' hS
        refine OpTo.wanted ?_ ?_
        kernel_rfl
        have HS := Lib.hid hS
        clear hS
        go_wp2_with fail
        all_goals first | exact HS.out | exact ⟨rfl, HS.out⟩ | rfl | exact ⟨by omega, HS.out⟩
      · intro w' hS
        refine OpTo.wanted ?_ ?_
        kernel_rfl
        have d0_0 := (KX6.out.below hS KX6.out.lt).cell 0
        have d0_1 := (KX6.out.below hS KX6.out.lt).cell 1
        have d0_2 := (KX6.out.below hS KX6.out.lt).cell 2
        have d0_3 := (KX6.out.below hS KX6.out.lt).cell 3
        have d0_4 := (KX6.out.below hS KX6.out.lt).cell 4
        simp at d0_0 d0_1 d0_2 d0_3 d0_4
        have HS := Lib.hid hS
        clear hS
        go_wp2_with fail
        all_goals first | exact HS.out | exact ⟨rfl, HS.out⟩ | rfl | exact ⟨by omega, HS.out⟩
      · intro w' hS
        refine OpTo.wanted ?_ ?_
        kernel_rfl
        have HS := Lib.hid hS
        clear hS
        go_wp2_with fail
        refine (PBL.out w' HS.out).mono ?_
        rintro e w'' ⟨rfl, hb2⟩
        exact ⟨rfl, andB HS.out hb2⟩
      · intro w' hS
        refine OpTo.wanted ?_ ?_
        kernel_rfl
        have HS := Lib.hid hS
        clear hS
        go_wp2_with fail
        all_goals first | exact HS.out | exact ⟨rfl, HS.out⟩ | rfl | exact ⟨by omega, HS.out⟩
      · intro w' hS
        refine OpTo.wanted ?_ ?_
        kernel_rfl
        have HS := Lib.hid hS
        clear hS
        go_wp2_with fail
        all_goals first | exact HS.out | exact ⟨rfl, HS.out⟩ | rfl | exact ⟨by omega, HS.out⟩
      · intro w' hS
        refine OpTo.wanted ?_ ?_
        kernel_rfl
        have d0_0 := (KX6.out.below hS KX6.out.lt).cell 0
        have d0_1 := (KX6.out.below hS KX6.out.lt).cell 1
        have d0_2 := (KX6.out.below hS KX6.out.lt).cell 2
        have d0_3 := (KX6.out.below hS KX6.out.lt).cell 3
        have d0_4 := (KX6.out.below hS KX6.out.lt).cell 4
        simp at d0_0 d0_1 d0_2 d0_3 d0_4
        have HS := Lib.hid hS
        clear hS
        go_wp2_with fail
        all_goals first | exact HS.out | exact ⟨rfl, HS.out⟩ | rfl | exact ⟨by omega, HS.out⟩
      · intro w' hS
        refine OpTo.wanted ?_ ?_
        kernel_rfl
        have HS := Lib.hid hS
        clear hS
        go_wp2_with fail
        all_goals first | exact HS.out | exact ⟨rfl, HS.out⟩ | rfl | exact ⟨by omega, HS.out⟩
      · intro w' hS
        refine OpTo.wanted ?_ ?_
        kernel_rfl
        have d0_0 := (KX6.out.below hS KX6.out.lt).cell 0
        have d0_1 := (KX6.out.below hS KX6.out.lt).cell 1
        have d0_2 := (KX6.out.below hS KX6.out.lt).cell 2
        have d0_3 := (KX6.out.below hS KX6.out.lt).cell 3
        have d0_4 := (KX6.out.below hS KX6.out.lt).cell 4
        simp at d0_0 d0_1 d0_2 d0_3 d0_4
        have HS := Lib.hid hS
        clear hS
        go_wp2_with fail
        all_goals first | exact HS.out | exact ⟨rfl, HS.out⟩ | rfl | exact ⟨by omega, HS.out⟩
      · intro w' hS
        refine OpTo.wanted ?_ ?_
        kernel_rfl
        have HS := Lib.hid hS
        clear hS
        go_wp2_with fail
        refine (PBC.out w' HS.out).mono ?_
        rintro e w'' ⟨rfl, hb2⟩
        exact ⟨rfl, andB HS.out hb2⟩
      · intro w' hS
        refine OpTo.wanted ?_ ?_
        kernel_rfl
        have HS := Lib.hid hS
        clear hS
        go_wp2_with fail
        all_goals first | exact HS.out | exact ⟨rfl, HS.out⟩ | rfl | exact ⟨by omega, HS.out⟩
      · intro w' hS
        refine OpTo.plain ?_ ?_
        exact rfl
        have HS := Lib.hid hS
        clear hS
        go_wp2_with fail
        all_goals first | exact HS.out | exact ⟨rfl, HS.out⟩ | rfl | exact ⟨by omega, HS.out⟩
    intro w7 b7
    have B7 := Lib.hid (B6.out.trans (b7.mono B6.out.size))
    have KX7 := Lib.hid (KX6.out.below b7 KX6.out.lt)
    have C7 := Lib.hid (C6.out.below b7)
    have L7 := Lib.hid (L6.out.below b7)
    have Kxl7 := Lib.hid (Kxl6.out.below b7 Kxl6.out.lt)
    have Kyl7 := Lib.hid (Kyl.out.below b7 Kyl.out.lt)
    clear b7 RAL RAC RBL RBC PAL PAC PBL PBC
    have hs : (decide (0 < xl.db) = true ∧ decide (0 < yl.db) = true) ∨ (decide (0 < xl.db) = false ∧ ls3 = ls) ∨ (decide (0 < xl.db) = true ∧ decide (0 < yl.db) = false ∧ ls3 = ls) := by
      by_cases k1 : 0 < xl.db
      · by_cases k2 : 0 < yl.db
        · exact .inl ⟨by simp [k1], by simp [k2]⟩
        · exact .inr (.inr ⟨by simp [k1], by simp [k2], HZ.out (.inr (by have := hyl.1; omega))⟩)
      · exact .inr (.inl ⟨by simp [k1], HZ.out (.inl (by have := hxl.1; omega))⟩)
    clear HZ hxl hyl
    rcases hs with ⟨s1, s2⟩ | ⟨s1, s2⟩ | ⟨s1, s2, s3⟩
    · skip
      have lkx_7 := KX7.out.lt
      have kx_1_7 := KX7.out.cell 1
      have kx_2_7 := KX7.out.cell 2
      have kx_3_7 := KX7.out.cell 3
      have kx_4_7 := KX7.out.cell 4
      simp at kx_1_7 kx_2_7 kx_3_7 kx_4_7
      have lkxl_7 := Kxl7.out.lt
      have kxl_4_7 := Kxl7.out.cell 4
      simp at kxl_4_7
      have lkyl_7 := Kyl7.out.lt
      have kyl_4_7 := Kyl7.out.cell 4
      simp at kyl_4_7
      go_wp2_with fail
      clear lkx_7 kx_1_7 kx_2_7 kx_3_7 kx_4_7 lkxl_7 kxl_4_7 lkyl_7 kyl_4_7
      refine (lives03_any _).mono ?_
      rintro e w8 ⟨rfl, b8⟩
      have B8 := Lib.hid (B7.out.trans (b8.mono B7.out.size))
      have KX8 := Lib.hid (KX7.out.below b8 KX7.out.lt)
      have C8 := Lib.hid (C7.out.below b8)
      have L8 := Lib.hid (L7.out.below b8)
      have Kxl8 := Lib.hid (Kxl7.out.below b8 Kxl7.out.lt)
      have Kyl8 := Lib.hid (Kyl7.out.below b8 Kyl7.out.lt)
      clear b8
      have lkx_8 := KX8.out.lt
      have kx_1_8 := KX8.out.cell 1
      have kx_2_8 := KX8.out.cell 2
      have kx_3_8 := KX8.out.cell 3
      have kx_4_8 := KX8.out.cell 4
      simp at kx_1_8 kx_2_8 kx_3_8 kx_4_8
      have lkxl_8 := Kxl8.out.lt
      have kxl_4_8 := Kxl8.out.cell 4
      simp at kxl_4_8
      have lkyl_8 := Kyl8.out.lt
      have kyl_4_8 := Kyl8.out.cell 4
      simp at kyl_4_8
      go_wp2_with fail
      go_ret
      exact ⟨rfl, B8.out⟩
    · skip
      have EQ := Lib.hid s2
      clear s2
      have lkx_7 := KX7.out.lt
      have kx_1_7 := KX7.out.cell 1
      have kx_2_7 := KX7.out.cell 2
      have kx_3_7 := KX7.out.cell 3
      have kx_4_7 := KX7.out.cell 4
      simp at kx_1_7 kx_2_7 kx_3_7 kx_4_7
      have lkxl_7 := Kxl7.out.lt
      have kxl_4_7 := Kxl7.out.cell 4
      simp at kxl_4_7
      have lkyl_7 := Kyl7.out.lt
      have kyl_4_7 := Kyl7.out.cell 4
      simp at kyl_4_7
      go_wp2_with fail
      clear lkx_7 kx_1_7 kx_2_7 kx_3_7 kx_4_7 lkxl_7 kxl_4_7 lkyl_7 kyl_4_7
      refine (plines_any L7.out I3.out).mono ?_
      rintro e w8 ⟨v1, rfl, hv8, b8⟩
      have B8 := Lib.hid (B7.out.trans (b8.mono B7.out.size))
      have KX8 := Lib.hid (KX7.out.below b8 KX7.out.lt)
      have C8 := Lib.hid (C7.out.below b8)
      have L8 := Lib.hid (L7.out.below b8)
      have Kxl8 := Lib.hid (Kxl7.out.below b8 Kxl7.out.lt)
      have Kyl8 := Lib.hid (Kyl7.out.below b8 Kyl7.out.lt)
      clear b8
      have V1a := Lib.hid hv8
      clear hv8
      have lkx_8 := KX8.out.lt
      have kx_1_8 := KX8.out.cell 1
      have kx_2_8 := KX8.out.cell 2
      have kx_3_8 := KX8.out.cell 3
      have kx_4_8 := KX8.out.cell 4
      simp at kx_1_8 kx_2_8 kx_3_8 kx_4_8
      have lkxl_8 := Kxl8.out.lt
      have kxl_4_8 := Kxl8.out.cell 4
      simp at kxl_4_8
      have lkyl_8 := Kyl8.out.lt
      have kyl_4_8 := Kyl8.out.cell 4
      simp at kyl_4_8
      go_wp2_with fail
      clear lkx_8 kx_1_8 kx_2_8 kx_3_8 kx_4_8 lkxl_8 kxl_4_8 lkyl_8 kyl_4_8
      refine (plines_any C8.out I1.out).mono ?_
      rintro e w9 ⟨v2, rfl, hv9, b9⟩
      have B9 := Lib.hid (B8.out.trans (b9.mono B8.out.size))
      have KX9 := Lib.hid (KX8.out.below b9 KX8.out.lt)
      have C9 := Lib.hid (C8.out.below b9)
      have L9 := Lib.hid (L8.out.below b9)
      have Kxl9 := Lib.hid (Kxl8.out.below b9 Kxl8.out.lt)
      have Kyl9 := Lib.hid (Kyl8.out.below b9 Kyl8.out.lt)
      have V19 := Lib.hid (V1a.out.below b9)
      clear b9
      have V2a := Lib.hid hv9
      clear hv9
      have SL := Lib.hid (SameLines_any (V19.out.reads (by have := I3.out.len; omega)) (V2a.out.reads (by have := I1.out.len; omega)))
      rw [show decide (ls3 = ls) = true by simp [EQ.out]] at SL
      have lkx_9 := KX9.out.lt
      have kx_1_9 := KX9.out.cell 1
      have kx_2_9 := KX9.out.cell 2
      have kx_3_9 := KX9.out.cell 3
      have kx_4_9 := KX9.out.cell 4
      simp at kx_1_9 kx_2_9 kx_3_9 kx_4_9
      have lkxl_9 := Kxl9.out.lt
      have kxl_4_9 := Kxl9.out.cell 4
      simp at kxl_4_9
      have lkyl_9 := Kyl9.out.lt
      have kyl_4_9 := Kyl9.out.cell 4
      simp at kyl_4_9
      go_wp2_with fail
      clear lkx_9 kx_1_9 kx_2_9 kx_3_9 kx_4_9 lkxl_9 kxl_4_9 lkyl_9 kyl_4_9
      refine (SL.out).mono ?_
      rintro e w10 ⟨rfl, b10⟩
      have B10 := Lib.hid (B9.out.trans (b10.mono B9.out.size))
      have KX10 := Lib.hid (KX9.out.below b10 KX9.out.lt)
      have C10 := Lib.hid (C9.out.below b10)
      have L10 := Lib.hid (L9.out.below b10)
      have Kxl10 := Lib.hid (Kxl9.out.below b10 Kxl9.out.lt)
      have Kyl10 := Lib.hid (Kyl9.out.below b10 Kyl9.out.lt)
      have V110 := Lib.hid (V19.out.below b10)
      have V210 := Lib.hid (V2a.out.below b10)
      clear b10
      have lkx_10 := KX10.out.lt
      have kx_1_10 := KX10.out.cell 1
      have kx_2_10 := KX10.out.cell 2
      have kx_3_10 := KX10.out.cell 3
      have kx_4_10 := KX10.out.cell 4
      simp at kx_1_10 kx_2_10 kx_3_10 kx_4_10
      have lkxl_10 := Kxl10.out.lt
      have kxl_4_10 := Kxl10.out.cell 4
      simp at kxl_4_10
      have lkyl_10 := Kyl10.out.lt
      have kyl_4_10 := Kyl10.out.cell 4
      simp at kyl_4_10
      go_wp2_with fail
      clear SL
      clear lkx_10 kx_1_10 kx_2_10 kx_3_10 kx_4_10 lkxl_10 kxl_4_10 lkyl_10 kyl_4_10
      refine (lives03_any _).mono ?_
      rintro e w11 ⟨rfl, b11⟩
      have B11 := Lib.hid (B10.out.trans (b11.mono B10.out.size))
      have KX11 := Lib.hid (KX10.out.below b11 KX10.out.lt)
      have C11 := Lib.hid (C10.out.below b11)
      have L11 := Lib.hid (L10.out.below b11)
      have Kxl11 := Lib.hid (Kxl10.out.below b11 Kxl10.out.lt)
      have Kyl11 := Lib.hid (Kyl10.out.below b11 Kyl10.out.lt)
      have V111 := Lib.hid (V110.out.below b11)
      have V211 := Lib.hid (V210.out.below b11)
      clear b11
      have lkx_11 := KX11.out.lt
      have kx_1_11 := KX11.out.cell 1
      have kx_2_11 := KX11.out.cell 2
      have kx_3_11 := KX11.out.cell 3
      have kx_4_11 := KX11.out.cell 4
      simp at kx_1_11 kx_2_11 kx_3_11 kx_4_11
      have lkxl_11 := Kxl11.out.lt
      have kxl_4_11 := Kxl11.out.cell 4
      simp at kxl_4_11
      have lkyl_11 := Kyl11.out.lt
      have kyl_4_11 := Kyl11.out.cell 4
      simp at kyl_4_11
      go_wp2_with fail
      go_ret
      exact ⟨rfl, B11.out⟩
    · skip
      have EQ := Lib.hid s3
      clear s3
      have lkx_7 := KX7.out.lt
      have kx_1_7 := KX7.out.cell 1
      have kx_2_7 := KX7.out.cell 2
      have kx_3_7 := KX7.out.cell 3
      have kx_4_7 := KX7.out.cell 4
      simp at kx_1_7 kx_2_7 kx_3_7 kx_4_7
      have lkxl_7 := Kxl7.out.lt
      have kxl_4_7 := Kxl7.out.cell 4
      simp at kxl_4_7
      have lkyl_7 := Kyl7.out.lt
      have kyl_4_7 := Kyl7.out.cell 4
      simp at kyl_4_7
      go_wp2_with fail
      clear lkx_7 kx_1_7 kx_2_7 kx_3_7 kx_4_7 lkxl_7 kxl_4_7 lkyl_7 kyl_4_7
      refine (plines_any L7.out I3.out).mono ?_
      rintro e w8 ⟨v1, rfl, hv8, b8⟩
      have B8 := Lib.hid (B7.out.trans (b8.mono B7.out.size))
      have KX8 := Lib.hid (KX7.out.below b8 KX7.out.lt)
      have C8 := Lib.hid (C7.out.below b8)
      have L8 := Lib.hid (L7.out.below b8)
      have Kxl8 := Lib.hid (Kxl7.out.below b8 Kxl7.out.lt)
      have Kyl8 := Lib.hid (Kyl7.out.below b8 Kyl7.out.lt)
      clear b8
      have V1a := Lib.hid hv8
      clear hv8
      have lkx_8 := KX8.out.lt
      have kx_1_8 := KX8.out.cell 1
      have kx_2_8 := KX8.out.cell 2
      have kx_3_8 := KX8.out.cell 3
      have kx_4_8 := KX8.out.cell 4
      simp at kx_1_8 kx_2_8 kx_3_8 kx_4_8
      have lkxl_8 := Kxl8.out.lt
      have kxl_4_8 := Kxl8.out.cell 4
      simp at kxl_4_8
      have lkyl_8 := Kyl8.out.lt
      have kyl_4_8 := Kyl8.out.cell 4
      simp at kyl_4_8
      go_wp2_with fail
      clear lkx_8 kx_1_8 kx_2_8 kx_3_8 kx_4_8 lkxl_8 kxl_4_8 lkyl_8 kyl_4_8
      refine (plines_any C8.out I1.out).mono ?_
      rintro e w9 ⟨v2, rfl, hv9, b9⟩
      have B9 := Lib.hid (B8.out.trans (b9.mono B8.out.size))
      have KX9 := Lib.hid (KX8.out.below b9 KX8.out.lt)
      have C9 := Lib.hid (C8.out.below b9)
      have L9 := Lib.hid (L8.out.below b9)
      have Kxl9 := Lib.hid (Kxl8.out.below b9 Kxl8.out.lt)
      have Kyl9 := Lib.hid (Kyl8.out.below b9 Kyl8.out.lt)
      have V19 := Lib.hid (V1a.out.below b9)
      clear b9
      have V2a := Lib.hid hv9
      clear hv9
      have SL := Lib.hid (SameLines_any (V19.out.reads (by have := I3.out.len; omega)) (V2a.out.reads (by have := I1.out.len; omega)))
      rw [show decide (ls3 = ls) = true by simp [EQ.out]] at SL
      have lkx_9 := KX9.out.lt
      have kx_1_9 := KX9.out.cell 1
      have kx_2_9 := KX9.out.cell 2
      have kx_3_9 := KX9.out.cell 3
      have kx_4_9 := KX9.out.cell 4
      simp at kx_1_9 kx_2_9 kx_3_9 kx_4_9
      have lkxl_9 := Kxl9.out.lt
      have kxl_4_9 := Kxl9.out.cell 4
      simp at kxl_4_9
      have lkyl_9 := Kyl9.out.lt
      have kyl_4_9 := Kyl9.out.cell 4
      simp at kyl_4_9
      go_wp2_with fail
      clear lkx_9 kx_1_9 kx_2_9 kx_3_9 kx_4_9 lkxl_9 kxl_4_9 lkyl_9 kyl_4_9
      refine (SL.out).mono ?_
      rintro e w10 ⟨rfl, b10⟩
      have B10 := Lib.hid (B9.out.trans (b10.mono B9.out.size))
      have KX10 := Lib.hid (KX9.out.below b10 KX9.out.lt)
      have C10 := Lib.hid (C9.out.below b10)
      have L10 := Lib.hid (L9.out.below b10)
      have Kxl10 := Lib.hid (Kxl9.out.below b10 Kxl9.out.lt)
      have Kyl10 := Lib.hid (Kyl9.out.below b10 Kyl9.out.lt)
      have V110 := Lib.hid (V19.out.below b10)
      have V210 := Lib.hid (V2a.out.below b10)
      clear b10
      have lkx_10 := KX10.out.lt
      have kx_1_10 := KX10.out.cell 1
      have kx_2_10 := KX10.out.cell 2
      have kx_3_10 := KX10.out.cell 3
      have kx_4_10 := KX10.out.cell 4
      simp at kx_1_10 kx_2_10 kx_3_10 kx_4_10
      have lkxl_10 := Kxl10.out.lt
      have kxl_4_10 := Kxl10.out.cell 4
      simp at kxl_4_10
      have lkyl_10 := Kyl10.out.lt
      have kyl_4_10 := Kyl10.out.cell 4
      simp at kyl_4_10
      go_wp2_with fail
      clear SL
      clear lkx_10 kx_1_10 kx_2_10 kx_3_10 kx_4_10 lkxl_10 kxl_4_10 lkyl_10 kyl_4_10
      refine (lives03_any _).mono ?_
      rintro e w11 ⟨rfl, b11⟩
      have B11 := Lib.hid (B10.out.trans (b11.mono B10.out.size))
      have KX11 := Lib.hid (KX10.out.below b11 KX10.out.lt)
      have C11 := Lib.hid (C10.out.below b11)
      have L11 := Lib.hid (L10.out.below b11)
      have Kxl11 := Lib.hid (Kxl10.out.below b11 Kxl10.out.lt)
      have Kyl11 := Lib.hid (Kyl10.out.below b11 Kyl10.out.lt)
      have V111 := Lib.hid (V110.out.below b11)
      have V211 := Lib.hid (V210.out.below b11)
      clear b11
      have lkx_11 := KX11.out.lt
      have kx_1_11 := KX11.out.cell 1
      have kx_2_11 := KX11.out.cell 2
      have kx_3_11 := KX11.out.cell 3
      have kx_4_11 := KX11.out.cell 4
      simp at kx_1_11 kx_2_11 kx_3_11 kx_4_11
      have lkxl_11 := Kxl11.out.lt
      have kxl_4_11 := Kxl11.out.cell 4
      simp at kxl_4_11
      have lkyl_11 := Kyl11.out.lt
      have kyl_4_11 := Kyl11.out.cell 4
      simp at kyl_4_11
      go_wp2_with fail
      go_ret
      exact ⟨rfl, B11.out⟩

end Go.Proofs.Ytlcilpeljnoclaa
