/-
  LedgersPush: the walk, for every acts and every push.
-/
import Derived.Test.YtlcilpeljnoclaaMade
import Derived.Test.YtlcilpeljnoclaaSameL
namespace Go.Proofs.Ytlcilpeljnoclaa
open Go.RowKit
set_option linter.unusedSimpArgs false
set_option linter.unusedVariables false

theorem posL_bd {ps : List Int} {ls : List Ln} (h : LInv ps ls) (p c : Int) : -70368744177664 ≤ posL ls p c ∧ posL ls p c ≤ 70368744177664 :=
  sum_part (fun x hx => posOf_bd (h.inv.good x hx) p c) (fun x hx => hx) h.len
def PushAt (w : World) (G M G2 M2 : Nat) (ps : List Int) (ls ls2 : List Ln) (x : Ac) (s p : Value) (wr : World) : Prop :=
  ∃ k : Nat, k ≤ 20 ∧ p = .int .u8 k ∧ s = .int .i64 ((List.range k).map fun q : Nat => posL ls2 (q : Int) x.c).sum ∧ LedM wr G M ps ls2 ∧ LedM wr G2 M2 ps ls ∧ Blk wr w.heap.size #[.int .u8 x.k, .int .u8 x.a, .int .u8 x.b, .int .u8 x.c, .int .i64 x.n] 31 ∧ Below w.heap.size w wr
def PushAt2 (w : World) (ls2 : List Ln) (v i : Value) (wr : World) : Prop :=
  ∃ k : Nat, k ≤ ls2.length ∧ i = .int .i64 k ∧ ∃ base, Rowed wr base 35 5 v ls2.length (lnCells ls2) ∧ Below w.heap.size w wr
set_option maxHeartbeats 8000000 in
set_option maxRecDepth 100000 in
theorem push_walk (a : Option Addr) (len cap : Nat) (xs : List Ac) (x : Ac) (w : World) (h0 : ActsIn w a len cap xs) (hx : x.Ok) :
    Calls Try.prog 6 #[.slice a len cap, .agg #[.int .u8 x.k, .int .u8 x.a, .int .u8 x.b, .int .u8 x.c, .int .i64 x.n]] w fun e w' => e = .returned (.bool true) ∧ Below w.heap.size w w' := by
  have HA := Lib.hid h0
  have hcap := h0.2.2.1
  have hmax := h0.2.2.2.1
  unfold maxLen at hmax
  clear h0
  by_cases hle : ¬ len ≤ 120
  · go_enter Try.func6, Try.ntmps6
    go_wp2_with fail
    have B0 := Lib.hid ((Below.refl w.heap.size w).alloc (Nat.le_refl _) (.cells #[.int .u8 x.k, .int .u8 x.a, .int .u8 x.b, .int .u8 x.c, .int .i64 x.n] 31))
    refine (lives03_any _).mono ?_
    rintro e w1 ⟨rfl, b1⟩
    have B1 := Lib.hid (B0.out.trans (b1.mono B0.out.size))
    clear b1
    go_wp2_with fail
    go_ret
    exact ⟨rfl, B1.out⟩
  · have hle := Decidable.not_not.1 hle
    go_enter Try.func6, Try.ntmps6
    go_wp2_with fail
    have KX0 := Lib.hid (Blk.new w #[.int .u8 x.k, .int .u8 x.a, .int .u8 x.b, .int .u8 x.c, .int .i64 x.n] 31)
    have B0 := Lib.hid ((Below.refl w.heap.size w).alloc (Nat.le_refl _) (.cells #[.int .u8 x.k, .int .u8 x.a, .int .u8 x.b, .int .u8 x.c, .int .i64 x.n] 31))
    have HA0 := Lib.hid (HA.out.below ((Below.refl w.heap.size w).alloc (Nat.le_refl _) (.cells #[.int .u8 x.k, .int .u8 x.a, .int .u8 x.b, .int .u8 x.c, .int .i64 x.n] 31)))
    have hz0 : (w.alloc (.cells #[.int .u8 x.k, .int .u8 x.a, .int .u8 x.b, .int .u8 x.c, .int .i64 x.n] 31)).heap.size = w.heap.size + 1 := by simp
    generalize w.alloc (.cells #[.int .u8 x.k, .int .u8 x.a, .int .u8 x.b, .int .u8 x.c, .int .i64 x.n] 31) = W0 at KX0 B0 HA0 hz0 ⊢
    refine (made_acts HA0.out hle).mono ?_
    rintro e w1 ⟨G, M, ps, ls, rfl, hL, hI, hG, hM, b1⟩
    rw [hz0] at hG hM
    have hGl := hL.blk.lt
    have hMl := hL.map.lt
    have I1 := Lib.hid hI
    have L1 := Lib.hid hL
    have KX1 := Lib.hid (KX0.out.below b1 KX0.out.lt)
    have B1 := Lib.hid (B0.out.trans (b1.mono B0.out.size))
    clear hL hI b1 KX0 B0 HA0
    go_wp2_with fail
    refine (pcopy_any L1.out).mono ?_
    rintro e w2 ⟨G2, M2, rfl, hC2, hG2, hM2, b2⟩
    have B2 := Lib.hid (B1.out.trans (b2.mono B1.out.size))
    have KX2 := Lib.hid (KX1.out.below b2 KX1.out.lt)
    have L2 := Lib.hid (L1.out.below b2)
    clear b2
    have C2 := Lib.hid hC2
    have hGl2 := hC2.blk.lt
    have hMl2 := hC2.map.lt
    clear hC2
    have lkx_2 := KX2.out.lt
    have kx_1_2 := KX2.out.cell 1
    have kx_2_2 := KX2.out.cell 2
    have kx_3_2 := KX2.out.cell 3
    have kx_4_2 := KX2.out.cell 4
    simp at kx_1_2 kx_2_2 kx_3_2 kx_4_2
    go_wp2_with fail
    obtain ⟨r, hr⟩ : ∃ r, roomL ps ls x.a x.b x.c = r := ⟨_, rfl⟩
    obtain ⟨bk, hbk⟩ : ∃ bk, roomL ps ls x.b x.a x.c = bk := ⟨_, rfl⟩
    have hr2 := roomL_bd (ps := ps) I1.out.inv.good x.a x.b x.c
    rw [hr] at hr2
    have hbk2 := roomL_bd (ps := ps) I1.out.inv.good x.b x.a x.c
    rw [hbk] at hbk2
    have R1 := Lib.hid (room_any (a := x.a) (b := x.b) (c := x.c) L2.out I1.out hx.a hx.b hx.c)
    rw [hr] at R1
    clear lkx_2 kx_1_2 kx_2_2 kx_3_2 kx_4_2
    refine (R1.out).mono ?_
    rintro e w3 ⟨rfl, b3⟩
    have B3 := Lib.hid (B2.out.trans (b3.mono B2.out.size))
    have KX3 := Lib.hid (KX2.out.below b3 KX2.out.lt)
    have L3 := Lib.hid (L2.out.below b3)
    have C3 := Lib.hid (C2.out.below b3)
    clear b3
    have lkx_3 := KX3.out.lt
    have kx_1_3 := KX3.out.cell 1
    have kx_2_3 := KX3.out.cell 2
    have kx_3_3 := KX3.out.cell 3
    have kx_4_3 := KX3.out.cell 4
    simp at kx_1_3 kx_2_3 kx_3_3 kx_4_3
    go_wp2_with fail
    clear R1
    have R2 := Lib.hid (room_any (a := x.b) (b := x.a) (c := x.c) L3.out I1.out hx.b hx.a hx.c)
    rw [hbk] at R2
    clear lkx_3 kx_1_3 kx_2_3 kx_3_3 kx_4_3
    refine (R2.out).mono ?_
    rintro e w4 ⟨rfl, b4⟩
    have B4 := Lib.hid (B3.out.trans (b4.mono B3.out.size))
    have KX4 := Lib.hid (KX3.out.below b4 KX3.out.lt)
    have L4 := Lib.hid (L3.out.below b4)
    have C4 := Lib.hid (C3.out.below b4)
    clear b4
    have lkx_4 := KX4.out.lt
    have kx_1_4 := KX4.out.cell 1
    have kx_2_4 := KX4.out.cell 2
    have kx_3_4 := KX4.out.cell 3
    have kx_4_4 := KX4.out.cell 4
    simp at kx_1_4 kx_2_4 kx_3_4 kx_4_4
    go_wp2_with fail
    clear R2
    have hHR := Lib.hid hr
    have hHB := Lib.hid hbk
    have hX := Lib.hid hx
    obtain ⟨_, _, _, _, n0, n1⟩ := hx
    clear hr hbk
    clear lkx_4 kx_1_4 kx_2_4 kx_3_4 kx_4_4
    refine (ppush_any (a := x.a) (b := x.b) (c := x.c) (n := x.n) L4.out I1.out hX.out.a hX.out.b hX.out.c hX.out.n).mono ?_
    rintro e w5 ⟨rfl, hL5, k5⟩
    have B5 := Lib.hid (B4.out.trans (k5.below B4.out.size (fun q hq e => by omega)))
    have KX5 := Lib.hid (KX4.out.keep k5 (by show ¬ w.heap.size = M; omega))
    have C5 := Lib.hid (C4.out.keep k5 (by show ¬ G2 = M; omega) (by show ¬ M2 = M; omega))
    have L5 := Lib.hid hL5
    clear hL5 k5
    by_cases h1 : x.n < 1
    · skip
      have he : pushE ps ls x.a x.b x.c x.n = 1 := by unfold pushE; rw [hHR.out]; rw [if_pos h1]
      have hl : pushL ps ls x.a x.b x.c x.n = ls := by unfold pushL; rw [he]; rfl
      have LL := Lib.hid (show LedM _ G M ps ls from by have := L5.out; rwa [hl] at this)
      clear hl
      have lkx_5 := KX5.out.lt
      have kx_1_5 := KX5.out.cell 1
      have kx_2_5 := KX5.out.cell 2
      have kx_3_5 := KX5.out.cell 3
      have kx_4_5 := KX5.out.cell 4
      simp at kx_1_5 kx_2_5 kx_3_5 kx_4_5
      go_wp2_with fail
      clear lkx_5 kx_1_5 kx_2_5 kx_3_5 kx_4_5
      refine (plines_any LL.out I1.out).mono ?_
      rintro e w6 ⟨v1, rfl, hv6, b6⟩
      have B6 := Lib.hid (B5.out.trans (b6.mono B5.out.size))
      have KX6 := Lib.hid (KX5.out.below b6 KX5.out.lt)
      have C6 := Lib.hid (C5.out.below b6)
      have L6 := Lib.hid (LL.out.below b6)
      clear b6
      have V1a := Lib.hid hv6
      clear hv6
      have lkx_6 := KX6.out.lt
      have kx_1_6 := KX6.out.cell 1
      have kx_2_6 := KX6.out.cell 2
      have kx_3_6 := KX6.out.cell 3
      have kx_4_6 := KX6.out.cell 4
      simp at kx_1_6 kx_2_6 kx_3_6 kx_4_6
      go_wp2_with fail
      clear lkx_6 kx_1_6 kx_2_6 kx_3_6 kx_4_6
      refine (plines_any C6.out I1.out).mono ?_
      rintro e w7 ⟨v2, rfl, hv7, b7⟩
      have B7 := Lib.hid (B6.out.trans (b7.mono B6.out.size))
      have KX7 := Lib.hid (KX6.out.below b7 KX6.out.lt)
      have C7 := Lib.hid (C6.out.below b7)
      have L7 := Lib.hid (L6.out.below b7)
      have V17 := Lib.hid (V1a.out.below b7)
      clear b7
      have V2a := Lib.hid hv7
      clear hv7
      have SL := Lib.hid (SameLines_any (V17.out.reads (by have := I1.out.len; omega)) (V2a.out.reads (by have := I1.out.len; omega)))
      rw [show decide (ls = ls) = true by simp] at SL
      have lkx_7 := KX7.out.lt
      have kx_1_7 := KX7.out.cell 1
      have kx_2_7 := KX7.out.cell 2
      have kx_3_7 := KX7.out.cell 3
      have kx_4_7 := KX7.out.cell 4
      simp at kx_1_7 kx_2_7 kx_3_7 kx_4_7
      go_wp2_with fail
      clear lkx_7 kx_1_7 kx_2_7 kx_3_7 kx_4_7
      refine (SL.out).mono ?_
      rintro e w8 ⟨rfl, b8⟩
      have B8 := Lib.hid (B7.out.trans (b8.mono B7.out.size))
      have KX8 := Lib.hid (KX7.out.below b8 KX7.out.lt)
      have C8 := Lib.hid (C7.out.below b8)
      have L8 := Lib.hid (L7.out.below b8)
      have V18 := Lib.hid (V17.out.below b8)
      have V28 := Lib.hid (V2a.out.below b8)
      clear b8
      have lkx_8 := KX8.out.lt
      have kx_1_8 := KX8.out.cell 1
      have kx_2_8 := KX8.out.cell 2
      have kx_3_8 := KX8.out.cell 3
      have kx_4_8 := KX8.out.cell 4
      simp at kx_1_8 kx_2_8 kx_3_8 kx_4_8
      go_wp2_with fail
      clear SL
      clear lkx_8 kx_1_8 kx_2_8 kx_3_8 kx_4_8
      refine (lives03_any _).mono ?_
      rintro e w9 ⟨rfl, b9⟩
      have B9 := Lib.hid (B8.out.trans (b9.mono B8.out.size))
      have KX9 := Lib.hid (KX8.out.below b9 KX8.out.lt)
      have C9 := Lib.hid (C8.out.below b9)
      have L9 := Lib.hid (L8.out.below b9)
      have V19 := Lib.hid (V18.out.below b9)
      have V29 := Lib.hid (V28.out.below b9)
      clear b9
      have lkx_9 := KX9.out.lt
      have kx_1_9 := KX9.out.cell 1
      have kx_2_9 := KX9.out.cell 2
      have kx_3_9 := KX9.out.cell 3
      have kx_4_9 := KX9.out.cell 4
      simp at kx_1_9 kx_2_9 kx_3_9 kx_4_9
      go_wp2_with fail
      go_ret
      exact ⟨rfl, B9.out⟩
    by_cases h2 : r < x.n
    · skip
      have he : pushE ps ls x.a x.b x.c x.n = 11 := by unfold pushE; rw [hHR.out]; rw [if_neg (by omega), if_pos h2]
      have hl : pushL ps ls x.a x.b x.c x.n = ls := by unfold pushL; rw [he]; rfl
      have LL := Lib.hid (show LedM _ G M ps ls from by have := L5.out; rwa [hl] at this)
      clear hl
      have lkx_5 := KX5.out.lt
      have kx_1_5 := KX5.out.cell 1
      have kx_2_5 := KX5.out.cell 2
      have kx_3_5 := KX5.out.cell 3
      have kx_4_5 := KX5.out.cell 4
      simp at kx_1_5 kx_2_5 kx_3_5 kx_4_5
      go_wp2_with fail
      clear lkx_5 kx_1_5 kx_2_5 kx_3_5 kx_4_5
      refine (plines_any LL.out I1.out).mono ?_
      rintro e w6 ⟨v1, rfl, hv6, b6⟩
      have B6 := Lib.hid (B5.out.trans (b6.mono B5.out.size))
      have KX6 := Lib.hid (KX5.out.below b6 KX5.out.lt)
      have C6 := Lib.hid (C5.out.below b6)
      have L6 := Lib.hid (LL.out.below b6)
      clear b6
      have V1a := Lib.hid hv6
      clear hv6
      have lkx_6 := KX6.out.lt
      have kx_1_6 := KX6.out.cell 1
      have kx_2_6 := KX6.out.cell 2
      have kx_3_6 := KX6.out.cell 3
      have kx_4_6 := KX6.out.cell 4
      simp at kx_1_6 kx_2_6 kx_3_6 kx_4_6
      go_wp2_with fail
      clear lkx_6 kx_1_6 kx_2_6 kx_3_6 kx_4_6
      refine (plines_any C6.out I1.out).mono ?_
      rintro e w7 ⟨v2, rfl, hv7, b7⟩
      have B7 := Lib.hid (B6.out.trans (b7.mono B6.out.size))
      have KX7 := Lib.hid (KX6.out.below b7 KX6.out.lt)
      have C7 := Lib.hid (C6.out.below b7)
      have L7 := Lib.hid (L6.out.below b7)
      have V17 := Lib.hid (V1a.out.below b7)
      clear b7
      have V2a := Lib.hid hv7
      clear hv7
      have SL := Lib.hid (SameLines_any (V17.out.reads (by have := I1.out.len; omega)) (V2a.out.reads (by have := I1.out.len; omega)))
      rw [show decide (ls = ls) = true by simp] at SL
      have lkx_7 := KX7.out.lt
      have kx_1_7 := KX7.out.cell 1
      have kx_2_7 := KX7.out.cell 2
      have kx_3_7 := KX7.out.cell 3
      have kx_4_7 := KX7.out.cell 4
      simp at kx_1_7 kx_2_7 kx_3_7 kx_4_7
      go_wp2_with fail
      clear lkx_7 kx_1_7 kx_2_7 kx_3_7 kx_4_7
      refine (SL.out).mono ?_
      rintro e w8 ⟨rfl, b8⟩
      have B8 := Lib.hid (B7.out.trans (b8.mono B7.out.size))
      have KX8 := Lib.hid (KX7.out.below b8 KX7.out.lt)
      have C8 := Lib.hid (C7.out.below b8)
      have L8 := Lib.hid (L7.out.below b8)
      have V18 := Lib.hid (V17.out.below b8)
      have V28 := Lib.hid (V2a.out.below b8)
      clear b8
      have lkx_8 := KX8.out.lt
      have kx_1_8 := KX8.out.cell 1
      have kx_2_8 := KX8.out.cell 2
      have kx_3_8 := KX8.out.cell 3
      have kx_4_8 := KX8.out.cell 4
      simp at kx_1_8 kx_2_8 kx_3_8 kx_4_8
      go_wp2_with fail
      clear SL
      clear lkx_8 kx_1_8 kx_2_8 kx_3_8 kx_4_8
      refine (lives03_any _).mono ?_
      rintro e w9 ⟨rfl, b9⟩
      have B9 := Lib.hid (B8.out.trans (b9.mono B8.out.size))
      have KX9 := Lib.hid (KX8.out.below b9 KX8.out.lt)
      have C9 := Lib.hid (C8.out.below b9)
      have L9 := Lib.hid (L8.out.below b9)
      have V19 := Lib.hid (V18.out.below b9)
      have V29 := Lib.hid (V28.out.below b9)
      clear b9
      have lkx_9 := KX9.out.lt
      have kx_1_9 := KX9.out.cell 1
      have kx_2_9 := KX9.out.cell 2
      have kx_3_9 := KX9.out.cell 3
      have kx_4_9 := KX9.out.cell 4
      simp at kx_1_9 kx_2_9 kx_3_9 kx_4_9
      go_wp2_with fail
      go_ret
      exact ⟨rfl, B9.out⟩
    have he : pushE ps ls x.a x.b x.c x.n = 0 := by unfold pushE; rw [hHR.out, if_neg h1, if_neg h2]
    obtain ⟨ls2, hl⟩ : ∃ ls2, pushL ps ls x.a x.b x.c x.n = ls2 := ⟨_, rfl⟩
    have hl2 : pushTo ls x.a x.b x.c x.n = ls2 := by rw [← hl]; unfold pushL; rw [if_pos he]
    have I2 := Lib.hid (show LInv ps ls2 from by have := LInv.push I1.out x.a x.b x.c x.n; rwa [hl] at this)
    have hroom := push_room (ps := ps) I1.out.inv (a := x.a) (b := x.b) (c := x.c) (n := x.n) (by omega) (by rw [hHR.out]; omega)
    rw [hl2, hHR.out, hHB.out] at hroom
    have HP : Hid (∀ p, posL ls2 p x.c = posL ls p x.c - (if p = x.a then x.n else 0) + (if p = x.b then x.n else 0)) := Lib.hid fun p => by have := push_pos (ps := ps) I1.out.inv (a := x.a) (b := x.b) (c := x.c) (n := x.n) (by omega) (by rw [hHR.out]; omega) p; rwa [hl2] at this
    have LL := Lib.hid (show LedM _ G M ps ls2 from by have := L5.out; rwa [hl] at this)
    have CR1 : Hid (∀ w', Below w5.heap.size w5 w' → Calls Try.prog 18 #[.pointer (some ⟨G, 0, none⟩), .int .u8 x.a, .int .u8 x.b, .int .u8 x.c] w' fun e w'' => e = .returned (.int .i64 (r - x.n)) ∧ Below w'.heap.size w' w'') := Lib.hid fun w' k => by rw [← hroom.1]; exact room_any (LL.out.below k) I2.out hX.out.a hX.out.b hX.out.c
    have CR2 : Hid (∀ w', Below w5.heap.size w5 w' → Calls Try.prog 18 #[.pointer (some ⟨G, 0, none⟩), .int .u8 x.b, .int .u8 x.a, .int .u8 x.c] w' fun e w'' => e = .returned (.int .i64 (bk + x.n)) ∧ Below w'.heap.size w' w'') := Lib.hid fun w' k => by rw [← hroom.2]; exact room_any (LL.out.below k) I2.out hX.out.b hX.out.a hX.out.c
    clear hl hl2 hroom
    have qd1 : decide (x.n < 1) = false := by simp; omega
    have qd2 : decide (r < x.n) = false := by simp; omega
    have lkx_5 := KX5.out.lt
    have kx_1_5 := KX5.out.cell 1
    have kx_2_5 := KX5.out.cell 2
    have kx_3_5 := KX5.out.cell 3
    have kx_4_5 := KX5.out.cell 4
    simp at kx_1_5 kx_2_5 kx_3_5 kx_4_5
    go_wp2_with fail
    clear lkx_5 kx_1_5 kx_2_5 kx_3_5 kx_4_5
    refine region_still (by kernel_rfl) [(.pointer (some ⟨w.heap.size, 4, none⟩)), (.int .i64 x.n), (.bool false), (.bool false), (.pointer (some ⟨w.heap.size, 4, none⟩)), (.int .i64 x.n), (.int .i64 r), (.bool false), (.bool false), (.bool false), (.pointer (some ⟨G, 0, none⟩)), (.pointer (some ⟨w.heap.size, 1, none⟩)), (.int .u8 x.a), (.pointer (some ⟨w.heap.size, 2, none⟩)), (.int .u8 x.b), (.pointer (some ⟨w.heap.size, 3, none⟩)), (.int .u8 x.c), (.int .i64 (r - x.n)), (.int .i64 r), (.pointer (some ⟨w.heap.size, 4, none⟩)), (.int .i64 x.n), (.int .i64 (r - x.n)), (.bool false), (.bool false), (.bool false), (.pointer (some ⟨G, 0, none⟩)), (.pointer (some ⟨w.heap.size, 2, none⟩)), (.int .u8 x.b), (.pointer (some ⟨w.heap.size, 1, none⟩)), (.int .u8 x.a), (.pointer (some ⟨w.heap.size, 3, none⟩)), (.int .u8 x.c), (.int .i64 (bk + x.n)), (.int .i64 bk), (.pointer (some ⟨w.heap.size, 4, none⟩)), (.int .i64 x.n), (.int .i64 (bk + x.n)), (.bool false), (.bool false)]
      (fun w' => Below w5.heap.size w5 w') (by kernel_rfl) (Below.refl _ _).drew ?_
    intro af haf
    simp only [puts, Act.put, List.getD_cons_zero, List.getD_cons_succ, List.setIfInBounds_toArray, List.set_cons_succ, List.set_cons_zero] at haf
    subst haf
    refine ⟨?_, ?_⟩
    · simp only [EachTo]
      refine ⟨?_, ?_, ?_, ?_, ?_, ?_, ?_, ?_, ?_, ?_, ?_, ?_, ?_, ?_, ?_, ?_, ?_, ?_, ?_, ?_, ?_, ?_, ?_, ?_, ?_, ?_, ?_, ?_, ?_, ?_, ?_, ?_, ?_, ?_, ?_, ?_, ?_, ?_, ?_, trivial⟩
      · intro w' hS
        refine OpTo.plain ?_ ?_
        exact rfl
        have HS := Lib.hid hS
        clear hS
        go_wp2_with fail
        all_goals first | exact HS.out | exact ⟨rfl, HS.out⟩ | rfl | exact ⟨by omega, HS.out⟩
      · intro w' hS
        refine OpTo.plain ?_ ?_
        exact rfl
        have d0_0 := (KX5.out.below hS KX5.out.lt).cell 0
        have d0_1 := (KX5.out.below hS KX5.out.lt).cell 1
        have d0_2 := (KX5.out.below hS KX5.out.lt).cell 2
        have d0_3 := (KX5.out.below hS KX5.out.lt).cell 3
        have d0_4 := (KX5.out.below hS KX5.out.lt).cell 4
        simp at d0_0 d0_1 d0_2 d0_3 d0_4
        have HS := Lib.hid hS
        clear hS
        go_wp2_with fail
        all_goals first | exact HS.out | exact ⟨rfl, HS.out⟩ | rfl | exact ⟨by omega, HS.out⟩
      · intro w' hS
        refine OpTo.plain ?_ ?_
        exact rfl
        have HS := Lib.hid hS
        clear hS
        go_wp2_with fail
        all_goals first | exact HS.out | exact ⟨rfl, HS.out⟩ | rfl | exact ⟨by omega, HS.out⟩
      · intro w' hS
        refine OpTo.plain ?_ ?_
        exact rfl
        have HS := Lib.hid hS
        clear hS
        go_wp2_with fail
        all_goals first | exact HS.out | exact ⟨rfl, HS.out⟩ | rfl | exact ⟨by omega, HS.out⟩
      · intro w' hS
        refine OpTo.wanted ?_ ?_
        kernel_rfl
        have HS := Lib.hid hS
        clear hS
        go_wp2_with fail
        all_goals first | exact HS.out | exact ⟨rfl, HS.out⟩ | rfl | exact ⟨by omega, HS.out⟩
      · intro w' hS
        refine OpTo.wanted ?_ ?_
        kernel_rfl
        have d0_0 := (KX5.out.below hS KX5.out.lt).cell 0
        have d0_1 := (KX5.out.below hS KX5.out.lt).cell 1
        have d0_2 := (KX5.out.below hS KX5.out.lt).cell 2
        have d0_3 := (KX5.out.below hS KX5.out.lt).cell 3
        have d0_4 := (KX5.out.below hS KX5.out.lt).cell 4
        simp at d0_0 d0_1 d0_2 d0_3 d0_4
        have HS := Lib.hid hS
        clear hS
        go_wp2_with fail
        all_goals first | exact HS.out | exact ⟨rfl, HS.out⟩ | rfl | exact ⟨by omega, HS.out⟩
      · intro w' hS
        refine OpTo.wanted ?_ ?_
        kernel_rfl
        have HS := Lib.hid hS
        clear hS
        go_wp2_with fail
        all_goals first | exact HS.out | exact ⟨rfl, HS.out⟩ | rfl | exact ⟨by omega, HS.out⟩
      · intro w' hS
        refine OpTo.wanted ?_ ?_
        kernel_rfl
        have HS := Lib.hid hS
        clear hS
        go_wp2_with fail
        all_goals first | exact HS.out | exact ⟨rfl, HS.out⟩ | rfl | exact ⟨by omega, HS.out⟩
      · intro w' hS
        refine OpTo.plain ?_ ?_
        exact rfl
        have HS := Lib.hid hS
        clear hS
        go_wp2_with fail
        all_goals first | exact HS.out | exact ⟨rfl, HS.out⟩ | rfl | exact ⟨by omega, HS.out⟩
      · intro w' hS
        refine OpTo.plain ?_ ?_
        exact rfl
        have HS := Lib.hid hS
        clear hS
        go_wp2_with fail
        all_goals first | exact HS.out | exact ⟨rfl, HS.out⟩ | rfl | exact ⟨by omega, HS.out⟩
      · intro w' hS
        refine OpTo.wanted ?_ ?_
        kernel_rfl
        have HS := Lib.hid hS
        clear hS
        go_wp2_with fail
        all_goals first | exact HS.out | exact ⟨rfl, HS.out⟩ | rfl | exact ⟨by omega, HS.out⟩
      · intro w' hS
        refine OpTo.wanted ?_ ?_
        kernel_rfl
        have HS := Lib.hid hS
        clear hS
        go_wp2_with fail
        all_goals first | exact HS.out | exact ⟨rfl, HS.out⟩ | rfl | exact ⟨by omega, HS.out⟩
      · intro w' hS
        refine OpTo.wanted ?_ ?_
        kernel_rfl
        have d0_0 := (KX5.out.below hS KX5.out.lt).cell 0
        have d0_1 := (KX5.out.below hS KX5.out.lt).cell 1
        have d0_2 := (KX5.out.below hS KX5.out.lt).cell 2
        have d0_3 := (KX5.out.below hS KX5.out.lt).cell 3
        have d0_4 := (KX5.out.below hS KX5.out.lt).cell 4
        simp at d0_0 d0_1 d0_2 d0_3 d0_4
        have HS := Lib.hid hS
        clear hS
        go_wp2_with fail
        all_goals first | exact HS.out | exact ⟨rfl, HS.out⟩ | rfl | exact ⟨by omega, HS.out⟩
      · intro w' hS
        refine OpTo.wanted ?_ ?_
        kernel_rfl
        have HS := Lib.hid hS
        clear hS
        go_wp2_with fail
        all_goals first | exact HS.out | exact ⟨rfl, HS.out⟩ | rfl | exact ⟨by omega, HS.out⟩
      · intro w' hS
        refine OpTo.wanted ?_ ?_
        kernel_rfl
        have d0_0 := (KX5.out.below hS KX5.out.lt).cell 0
        have d0_1 := (KX5.out.below hS KX5.out.lt).cell 1
        have d0_2 := (KX5.out.below hS KX5.out.lt).cell 2
        have d0_3 := (KX5.out.below hS KX5.out.lt).cell 3
        have d0_4 := (KX5.out.below hS KX5.out.lt).cell 4
        simp at d0_0 d0_1 d0_2 d0_3 d0_4
        have HS := Lib.hid hS
        clear hS
        go_wp2_with fail
        all_goals first | exact HS.out | exact ⟨rfl, HS.out⟩ | rfl | exact ⟨by omega, HS.out⟩
      · intro w' hS
        refine OpTo.wanted ?_ ?_
        kernel_rfl
        have HS := Lib.hid hS
        clear hS
        go_wp2_with fail
        all_goals first | exact HS.out | exact ⟨rfl, HS.out⟩ | rfl | exact ⟨by omega, HS.out⟩
      · intro w' hS
        refine OpTo.wanted ?_ ?_
        kernel_rfl
        have d0_0 := (KX5.out.below hS KX5.out.lt).cell 0
        have d0_1 := (KX5.out.below hS KX5.out.lt).cell 1
        have d0_2 := (KX5.out.below hS KX5.out.lt).cell 2
        have d0_3 := (KX5.out.below hS KX5.out.lt).cell 3
        have d0_4 := (KX5.out.below hS KX5.out.lt).cell 4
        simp at d0_0 d0_1 d0_2 d0_3 d0_4
        have HS := Lib.hid hS
        clear hS
        go_wp2_with fail
        all_goals first | exact HS.out | exact ⟨rfl, HS.out⟩ | rfl | exact ⟨by omega, HS.out⟩
      · intro w' hS
        refine OpTo.wanted ?_ ?_
        kernel_rfl
        have HS := Lib.hid hS
        clear hS
        go_wp2_with fail
        refine (CR1.out w' HS.out).mono ?_
        rintro e w'' ⟨rfl, hb2⟩
        exact ⟨rfl, andB HS.out hb2⟩
      · intro w' hS
        refine OpTo.wanted ?_ ?_
        kernel_rfl
        have HS := Lib.hid hS
        clear hS
        go_wp2_with fail
        all_goals first | exact HS.out | exact ⟨rfl, HS.out⟩ | rfl | exact ⟨by omega, HS.out⟩
      · intro w' hS
        refine OpTo.wanted ?_ ?_
        kernel_rfl
        have HS := Lib.hid hS
        clear hS
        go_wp2_with fail
        all_goals first | exact HS.out | exact ⟨rfl, HS.out⟩ | rfl | exact ⟨by omega, HS.out⟩
      · intro w' hS
        refine OpTo.wanted ?_ ?_
        kernel_rfl
        have d0_0 := (KX5.out.below hS KX5.out.lt).cell 0
        have d0_1 := (KX5.out.below hS KX5.out.lt).cell 1
        have d0_2 := (KX5.out.below hS KX5.out.lt).cell 2
        have d0_3 := (KX5.out.below hS KX5.out.lt).cell 3
        have d0_4 := (KX5.out.below hS KX5.out.lt).cell 4
        simp at d0_0 d0_1 d0_2 d0_3 d0_4
        have HS := Lib.hid hS
        clear hS
        go_wp2_with fail
        all_goals first | exact HS.out | exact ⟨rfl, HS.out⟩ | rfl | exact ⟨by omega, HS.out⟩
      · intro w' hS
        refine OpTo.wanted ?_ ?_
        kernel_rfl
        have HS := Lib.hid hS
        clear hS
        go_wp2_with fail
        all_goals first | exact HS.out | exact ⟨rfl, HS.out⟩ | rfl | exact ⟨by omega, HS.out⟩
      · intro w' hS
        refine OpTo.wanted ?_ ?_
        kernel_rfl
        have HS := Lib.hid hS
        clear hS
        go_wp2_with fail
        all_goals first | exact HS.out | exact ⟨rfl, HS.out⟩ | rfl | exact ⟨by omega, HS.out⟩
      · intro w' hS
        refine OpTo.plain ?_ ?_
        exact rfl
        have HS := Lib.hid hS
        clear hS
        go_wp2_with fail
        all_goals first | exact HS.out | exact ⟨rfl, HS.out⟩ | rfl | exact ⟨by omega, HS.out⟩
      · intro w' hS
        refine OpTo.plain ?_ ?_
        exact rfl
        have HS := Lib.hid hS
        clear hS
        go_wp2_with fail
        all_goals first | exact HS.out | exact ⟨rfl, HS.out⟩ | rfl | exact ⟨by omega, HS.out⟩
      · intro w' hS
        refine OpTo.wanted ?_ ?_
        kernel_rfl
        have HS := Lib.hid hS
        clear hS
        go_wp2_with fail
        all_goals first | exact HS.out | exact ⟨rfl, HS.out⟩ | rfl | exact ⟨by omega, HS.out⟩
      · intro w' hS
        refine OpTo.wanted ?_ ?_
        kernel_rfl
        have HS := Lib.hid hS
        clear hS
        go_wp2_with fail
        all_goals first | exact HS.out | exact ⟨rfl, HS.out⟩ | rfl | exact ⟨by omega, HS.out⟩
      · intro w' hS
        refine OpTo.wanted ?_ ?_
        kernel_rfl
        have d0_0 := (KX5.out.below hS KX5.out.lt).cell 0
        have d0_1 := (KX5.out.below hS KX5.out.lt).cell 1
        have d0_2 := (KX5.out.below hS KX5.out.lt).cell 2
        have d0_3 := (KX5.out.below hS KX5.out.lt).cell 3
        have d0_4 := (KX5.out.below hS KX5.out.lt).cell 4
        simp at d0_0 d0_1 d0_2 d0_3 d0_4
        have HS := Lib.hid hS
        clear hS
        go_wp2_with fail
        all_goals first | exact HS.out | exact ⟨rfl, HS.out⟩ | rfl | exact ⟨by omega, HS.out⟩
      · intro w' hS
        refine OpTo.wanted ?_ ?_
        kernel_rfl
        have HS := Lib.hid hS
        clear hS
        go_wp2_with fail
        all_goals first | exact HS.out | exact ⟨rfl, HS.out⟩ | rfl | exact ⟨by omega, HS.out⟩
      · intro w' hS
        refine OpTo.wanted ?_ ?_
        kernel_rfl
        have d0_0 := (KX5.out.below hS KX5.out.lt).cell 0
        have d0_1 := (KX5.out.below hS KX5.out.lt).cell 1
        have d0_2 := (KX5.out.below hS KX5.out.lt).cell 2
        have d0_3 := (KX5.out.below hS KX5.out.lt).cell 3
        have d0_4 := (KX5.out.below hS KX5.out.lt).cell 4
        simp at d0_0 d0_1 d0_2 d0_3 d0_4
        have HS := Lib.hid hS
        clear hS
        go_wp2_with fail
        all_goals first | exact HS.out | exact ⟨rfl, HS.out⟩ | rfl | exact ⟨by omega, HS.out⟩
      · intro w' hS
        refine OpTo.wanted ?_ ?_
        kernel_rfl
        have HS := Lib.hid hS
        clear hS
        go_wp2_with fail
        all_goals first | exact HS.out | exact ⟨rfl, HS.out⟩ | rfl | exact ⟨by omega, HS.out⟩
      · intro w' hS
        refine OpTo.wanted ?_ ?_
        kernel_rfl
        have d0_0 := (KX5.out.below hS KX5.out.lt).cell 0
        have d0_1 := (KX5.out.below hS KX5.out.lt).cell 1
        have d0_2 := (KX5.out.below hS KX5.out.lt).cell 2
        have d0_3 := (KX5.out.below hS KX5.out.lt).cell 3
        have d0_4 := (KX5.out.below hS KX5.out.lt).cell 4
        simp at d0_0 d0_1 d0_2 d0_3 d0_4
        have HS := Lib.hid hS
        clear hS
        go_wp2_with fail
        all_goals first | exact HS.out | exact ⟨rfl, HS.out⟩ | rfl | exact ⟨by omega, HS.out⟩
      · intro w' hS
        refine OpTo.wanted ?_ ?_
        kernel_rfl
        have HS := Lib.hid hS
        clear hS
        go_wp2_with fail
        refine (CR2.out w' HS.out).mono ?_
        rintro e w'' ⟨rfl, hb2⟩
        exact ⟨rfl, andB HS.out hb2⟩
      · intro w' hS
        refine OpTo.wanted ?_ ?_
        kernel_rfl
        have HS := Lib.hid hS
        clear hS
        go_wp2_with fail
        all_goals first | exact HS.out | exact ⟨rfl, HS.out⟩ | rfl | exact ⟨by omega, HS.out⟩
      · intro w' hS
        refine OpTo.wanted ?_ ?_
        kernel_rfl
        have HS := Lib.hid hS
        clear hS
        go_wp2_with fail
        all_goals first | exact HS.out | exact ⟨rfl, HS.out⟩ | rfl | exact ⟨by omega, HS.out⟩
      · intro w' hS
        refine OpTo.wanted ?_ ?_
        kernel_rfl
        have d0_0 := (KX5.out.below hS KX5.out.lt).cell 0
        have d0_1 := (KX5.out.below hS KX5.out.lt).cell 1
        have d0_2 := (KX5.out.below hS KX5.out.lt).cell 2
        have d0_3 := (KX5.out.below hS KX5.out.lt).cell 3
        have d0_4 := (KX5.out.below hS KX5.out.lt).cell 4
        simp at d0_0 d0_1 d0_2 d0_3 d0_4
        have HS := Lib.hid hS
        clear hS
        go_wp2_with fail
        all_goals first | exact HS.out | exact ⟨rfl, HS.out⟩ | rfl | exact ⟨by omega, HS.out⟩
      · intro w' hS
        refine OpTo.wanted ?_ ?_
        kernel_rfl
        have HS := Lib.hid hS
        clear hS
        go_wp2_with fail
        all_goals first | exact HS.out | exact ⟨rfl, HS.out⟩ | rfl | exact ⟨by omega, HS.out⟩
      · intro w' hS
        refine OpTo.wanted ?_ ?_
        kernel_rfl
        have HS := Lib.hid hS
        clear hS
        go_wp2_with fail
        all_goals first | exact HS.out | exact ⟨rfl, HS.out⟩ | rfl | exact ⟨by omega, HS.out⟩
      · intro w' hS
        refine OpTo.plain ?_ ?_
        exact rfl
        have HS := Lib.hid hS
        clear hS
        go_wp2_with fail
        all_goals first | exact HS.out | exact ⟨rfl, HS.out⟩ | rfl | exact ⟨by omega, HS.out⟩
    intro w6 b6
    have B6 := Lib.hid (B5.out.trans (b6.mono B5.out.size))
    have KX6 := Lib.hid (KX5.out.below b6 KX5.out.lt)
    have C6 := Lib.hid (C5.out.below b6)
    have L6 := Lib.hid (LL.out.below b6)
    clear b6 CR1 CR2
    have lkx_6 := KX6.out.lt
    have kx_1_6 := KX6.out.cell 1
    have kx_2_6 := KX6.out.cell 2
    have kx_3_6 := KX6.out.cell 3
    have kx_4_6 := KX6.out.cell 4
    simp at kx_1_6 kx_2_6 kx_3_6 kx_4_6
    go_wp2_with fail
    clear lkx_6 kx_1_6 kx_2_6 kx_3_6 kx_4_6
    go_loopw [10, 11] (PushAt w G M G2 M2 ps ls ls2 x) (fun _ p _ => 20 - (intOf p).toNat)
    case atStart => exact ⟨0, by omega, rfl, rfl, L6.out, C6.out, KX6.out, B6.out⟩
    case round =>
      obtain ⟨k, hk, rfl, rfl, hL, hC, hKX, hB⟩ := hrel
      have L100 := Lib.hid hL
      have C100 := Lib.hid hC
      have KX100 := Lib.hid hKX
      have B100 := Lib.hid hB
      clear hL hC hKX hB
      have hsum := sum_le (fun q : Nat => posL ls2 (q : Int) x.c) 70368744177664 (List.range k) (fun q _ => posL_bd I2.out q x.c)
      rw [List.length_range] at hsum
      by_cases hkl : k < 20
      · have hp := HP.out (k : Int)
        have hp1 := posL_bd I1.out (k : Int) x.c
        have hnext : Hid (((List.range (k + 1)).map fun q : Nat => posL ls2 (q : Int) x.c).sum = ((List.range k).map fun q : Nat => posL ls2 (q : Int) x.c).sum + posL ls2 (k : Int) x.c) := Lib.hid (by rw [List.range_succ, List.map_append, List.sum_append]; simp)
        have CP := Lib.hid (fun w (h : LedM w G2 M2 ps ls) => ppos_any h I1.out (k : Int) x.c)
        have CP2 := Lib.hid (fun w (h : LedM w G M ps ls2) => ppos_any h I2.out (k : Int) x.c)
        have hkb : (k : Int) < 20 := by omega
        generalize posL ls (k : Int) x.c = p at *
        generalize posL ls2 (k : Int) x.c = p2 at *
        generalize ((List.range k).map fun q : Nat => posL ls2 (q : Int) x.c).sum = S at *
        have hs : (((k : Int) == x.a) = true ∧ ((k : Int) == x.b) = true ∧ p2 = p - x.n + x.n) ∨ (((k : Int) == x.a) = true ∧ ((k : Int) == x.b) = false ∧ p2 = p - x.n) ∨ (((k : Int) == x.a) = false ∧ ((k : Int) == x.b) = true ∧ p2 = p + x.n) ∨ (((k : Int) == x.a) = false ∧ ((k : Int) == x.b) = false ∧ p2 = p) := by
          by_cases ha : (k : Int) = x.a <;> by_cases hb : (k : Int) = x.b <;> simp [ha, hb] at hp ⊢ <;> omega
        clear hp hbk2 he
        rcases hs with ⟨sa, sb, sp⟩ | ⟨sa, sb, sp⟩ | ⟨sa, sb, sp⟩ | ⟨sa, sb, sp⟩
        all_goals
          subst sp
          have lkx_100 := KX100.out.lt
          have kx_1_100 := KX100.out.cell 1
          have kx_2_100 := KX100.out.cell 2
          have kx_3_100 := KX100.out.cell 3
          have kx_4_100 := KX100.out.cell 4
          simp at kx_1_100 kx_2_100 kx_3_100 kx_4_100
          go_wp2_with fail
          clear lkx_100 kx_1_100 kx_2_100 kx_3_100 kx_4_100
          refine (CP.out _ C100.out).mono ?_
          rintro e w101 ⟨rfl, b101⟩
          have B101 := Lib.hid (B100.out.trans (b101.mono B100.out.size))
          have KX101 := Lib.hid (KX100.out.below b101 KX100.out.lt)
          have L101 := Lib.hid (L100.out.below b101)
          have C101 := Lib.hid (C100.out.below b101)
          clear b101
          have lkx_101 := KX101.out.lt
          have kx_1_101 := KX101.out.cell 1
          have kx_2_101 := KX101.out.cell 2
          have kx_3_101 := KX101.out.cell 3
          have kx_4_101 := KX101.out.cell 4
          simp at kx_1_101 kx_2_101 kx_3_101 kx_4_101
          go_wp2_with fail
          clear lkx_101 kx_1_101 kx_2_101 kx_3_101 kx_4_101
          refine (CP2.out _ L101.out).mono ?_
          rintro e w102 ⟨rfl, b102⟩
          have B102 := Lib.hid (B101.out.trans (b102.mono B101.out.size))
          have KX102 := Lib.hid (KX101.out.below b102 KX101.out.lt)
          have L102 := Lib.hid (L101.out.below b102)
          have C102 := Lib.hid (C101.out.below b102)
          clear b102
          have lkx_102 := KX102.out.lt
          have kx_1_102 := KX102.out.cell 1
          have kx_2_102 := KX102.out.cell 2
          have kx_3_102 := KX102.out.cell 3
          have kx_4_102 := KX102.out.cell 4
          simp at kx_1_102 kx_2_102 kx_3_102 kx_4_102
          go_wp2_with fail
          clear lkx_102 kx_1_102 kx_2_102 kx_3_102 kx_4_102
          go_roundw
          case rel => exact ⟨k + 1, by omega, by go_num, by first | (rw [hnext.out]; done) | (rw [hnext.out]; congr 2; omega), L102.out, C102.out, KX102.out, B102.out⟩
          case measure => simp [intOf]; omega
      · obtain rfl : k = 20 := by omega
        have hS : ((List.range 20).map fun q : Nat => posL ls2 (q : Int) x.c).sum = 0 := pos_zero I2.out.inv.good x.c
        rw [hS]
        clear hS hsum hkl hk hr2 hbk2 he
        have lkx_100 := KX100.out.lt
        have kx_1_100 := KX100.out.cell 1
        have kx_2_100 := KX100.out.cell 2
        have kx_3_100 := KX100.out.cell 3
        have kx_4_100 := KX100.out.cell 4
        simp at kx_1_100 kx_2_100 kx_3_100 kx_4_100
        go_wp2_with fail
        clear lkx_100 kx_1_100 kx_2_100 kx_3_100 kx_4_100
        refine (plines_any L100.out I2.out).mono ?_
        rintro e w101 ⟨v1, rfl, hv101, b101⟩
        have B101 := Lib.hid (B100.out.trans (b101.mono B100.out.size))
        have KX101 := Lib.hid (KX100.out.below b101 KX100.out.lt)
        have L101 := Lib.hid (L100.out.below b101)
        have C101 := Lib.hid (C100.out.below b101)
        clear b101
        have V1a := Lib.hid hv101
        clear hv101
        have hlen := I2.out.len
        obtain ⟨ao, cap, hvv, hc1, hc2, _⟩ := V1a.out.open
        subst hvv
        unfold maxLen at hc2
        have lkx_101 := KX101.out.lt
        have kx_1_101 := KX101.out.cell 1
        have kx_2_101 := KX101.out.cell 2
        have kx_3_101 := KX101.out.cell 3
        have kx_4_101 := KX101.out.cell 4
        simp at kx_1_101 kx_2_101 kx_3_101 kx_4_101
        go_wp2_with fail
        clear lkx_101 kx_1_101 kx_2_101 kx_3_101 kx_4_101
        go_loopw [14] (PushAt2 w ls2 (.slice ao ls2.length cap)) (fun i _ => ls2.length - (intOf i).toNat)
        case atStart => exact ⟨0, Nat.zero_le _, rfl, _, V1a.out, B101.out⟩
        case round =>
          obtain ⟨k, hk, rfl, base, hV, hB⟩ := hrel
          have VV := Lib.hid hV
          have BB := Lib.hid hB
          clear hV hB
          by_cases hkl : k < ls2.length
          · obtain ⟨_, _, hvv, _, _, hread⟩ := VV.out.open
            cases hvv
            obtain ⟨b, rfl, _, hb, hcell, _⟩ := hread (by omega)
            obtain ⟨e0, e1, e2, e3, e4⟩ := ln_cells hcell hkl
            have hg := I2.out.inv.good ls2[k] (List.getElem_mem _)
            have hdb := hg.db
            have hli := hg.li
            generalize hy : ls2[k] = y at *
            clear hcell hread hg hy e0 e1 e2
            have qe1 : decide (y.db < 0) = false := by simp; omega
            have qe2 : decide (y.li < y.db) = false := by simp; omega
            have E3 := Lib.hid e3
            have E4 := Lib.hid e4
            have HBl := Lib.hid hb
            clear e3 e4 hb
            go_wp2_with fail
            refine region_still (by kernel_rfl) [(.slice (some ⟨b, 0, none⟩) ls2.length cap), (.int .i64 (k : Int)), (.pointer (some ⟨b, k * 5, none⟩)), (.pointer (some ⟨b, k * 5 + 4, none⟩)), (.int .i64 y.db), (.bool false), (.bool false), (.slice (some ⟨b, 0, none⟩) ls2.length cap), (.int .i64 (k : Int)), (.pointer (some ⟨b, k * 5, none⟩)), (.pointer (some ⟨b, k * 5 + 4, none⟩)), (.int .i64 y.db), (.slice (some ⟨b, 0, none⟩) ls2.length cap), (.int .i64 (k : Int)), (.pointer (some ⟨b, k * 5, none⟩)), (.pointer (some ⟨b, k * 5 + 3, none⟩)), (.int .i64 y.li), (.bool false), (.bool false)]
              (fun w' => Below wr.heap.size wr w') (by kernel_rfl) (Below.refl _ _).drew ?_
            intro af haf
            simp only [puts, Act.put, List.getD_cons_zero, List.getD_cons_succ, List.setIfInBounds_toArray, List.set_cons_succ, List.set_cons_zero] at haf
            subst haf
            refine ⟨?_, ?_⟩
            · simp only [EachTo]
              refine ⟨?_, ?_, ?_, ?_, ?_, ?_, ?_, ?_, ?_, ?_, ?_, ?_, ?_, ?_, ?_, ?_, ?_, ?_, ?_, trivial⟩
              · intro w' hS
                refine OpTo.plain ?_ ?_
                exact rfl
                have HS := Lib.hid hS
                clear hS
                go_wp2_with fail
                all_goals first | exact HS.out | exact ⟨rfl, HS.out⟩ | rfl | exact ⟨by omega, HS.out⟩
              · intro w' hS
                refine OpTo.plain ?_ ?_
                exact rfl
                have HS := Lib.hid hS
                clear hS
                go_wp2_with fail
                all_goals first | exact HS.out | exact ⟨rfl, HS.out⟩ | rfl | exact ⟨by omega, HS.out⟩
              · intro w' hS
                refine OpTo.plain ?_ ?_
                exact rfl
                have k3 := (hS.cell (p := ⟨b, k * 5 + 3, none⟩) HBl.out).trans E3.out
                have k4 := (hS.cell (p := ⟨b, k * 5 + 4, none⟩) HBl.out).trans E4.out
                have hbl := Nat.lt_of_lt_of_le HBl.out hS.size
                have HS := Lib.hid hS
                clear hS
                go_wp2_with fail
                all_goals first | exact HS.out | exact ⟨rfl, HS.out⟩ | rfl | exact ⟨by omega, HS.out⟩
              · intro w' hS
                refine OpTo.plain ?_ ?_
                exact rfl
                have k3 := (hS.cell (p := ⟨b, k * 5 + 3, none⟩) HBl.out).trans E3.out
                have k4 := (hS.cell (p := ⟨b, k * 5 + 4, none⟩) HBl.out).trans E4.out
                have hbl := Nat.lt_of_lt_of_le HBl.out hS.size
                have HS := Lib.hid hS
                clear hS
                go_wp2_with fail
                all_goals first | exact HS.out | exact ⟨rfl, HS.out⟩ | rfl | exact ⟨by omega, HS.out⟩
              · intro w' hS
                refine OpTo.plain ?_ ?_
                exact rfl
                have k3 := (hS.cell (p := ⟨b, k * 5 + 3, none⟩) HBl.out).trans E3.out
                have k4 := (hS.cell (p := ⟨b, k * 5 + 4, none⟩) HBl.out).trans E4.out
                have hbl := Nat.lt_of_lt_of_le HBl.out hS.size
                have HS := Lib.hid hS
                clear hS
                go_wp2_with fail
                all_goals first | exact HS.out | exact ⟨rfl, HS.out⟩ | rfl | exact ⟨by omega, HS.out⟩
              · intro w' hS
                refine OpTo.plain ?_ ?_
                exact rfl
                have HS := Lib.hid hS
                clear hS
                go_wp2_with fail
                all_goals first | exact HS.out | exact ⟨rfl, HS.out⟩ | rfl | exact ⟨by omega, HS.out⟩
              · intro w' hS
                refine OpTo.plain ?_ ?_
                exact rfl
                have HS := Lib.hid hS
                clear hS
                go_wp2_with fail
                all_goals first | exact HS.out | exact ⟨rfl, HS.out⟩ | rfl | exact ⟨by omega, HS.out⟩
              · intro w' hS
                refine OpTo.wanted ?_ ?_
                kernel_rfl
                have HS := Lib.hid hS
                clear hS
                go_wp2_with fail
                all_goals first | exact HS.out | exact ⟨rfl, HS.out⟩ | rfl | exact ⟨by omega, HS.out⟩
              · intro w' hS
                refine OpTo.wanted ?_ ?_
                kernel_rfl
                have HS := Lib.hid hS
                clear hS
                go_wp2_with fail
                all_goals first | exact HS.out | exact ⟨rfl, HS.out⟩ | rfl | exact ⟨by omega, HS.out⟩
              · intro w' hS
                refine OpTo.wanted ?_ ?_
                kernel_rfl
                have k3 := (hS.cell (p := ⟨b, k * 5 + 3, none⟩) HBl.out).trans E3.out
                have k4 := (hS.cell (p := ⟨b, k * 5 + 4, none⟩) HBl.out).trans E4.out
                have hbl := Nat.lt_of_lt_of_le HBl.out hS.size
                have HS := Lib.hid hS
                clear hS
                go_wp2_with fail
                all_goals first | exact HS.out | exact ⟨rfl, HS.out⟩ | rfl | exact ⟨by omega, HS.out⟩
              · intro w' hS
                refine OpTo.wanted ?_ ?_
                kernel_rfl
                have k3 := (hS.cell (p := ⟨b, k * 5 + 3, none⟩) HBl.out).trans E3.out
                have k4 := (hS.cell (p := ⟨b, k * 5 + 4, none⟩) HBl.out).trans E4.out
                have hbl := Nat.lt_of_lt_of_le HBl.out hS.size
                have HS := Lib.hid hS
                clear hS
                go_wp2_with fail
                all_goals first | exact HS.out | exact ⟨rfl, HS.out⟩ | rfl | exact ⟨by omega, HS.out⟩
              · intro w' hS
                refine OpTo.wanted ?_ ?_
                kernel_rfl
                have k3 := (hS.cell (p := ⟨b, k * 5 + 3, none⟩) HBl.out).trans E3.out
                have k4 := (hS.cell (p := ⟨b, k * 5 + 4, none⟩) HBl.out).trans E4.out
                have hbl := Nat.lt_of_lt_of_le HBl.out hS.size
                have HS := Lib.hid hS
                clear hS
                go_wp2_with fail
                all_goals first | exact HS.out | exact ⟨rfl, HS.out⟩ | rfl | exact ⟨by omega, HS.out⟩
              · intro w' hS
                refine OpTo.wanted ?_ ?_
                kernel_rfl
                have HS := Lib.hid hS
                clear hS
                go_wp2_with fail
                all_goals first | exact HS.out | exact ⟨rfl, HS.out⟩ | rfl | exact ⟨by omega, HS.out⟩
              · intro w' hS
                refine OpTo.wanted ?_ ?_
                kernel_rfl
                have HS := Lib.hid hS
                clear hS
                go_wp2_with fail
                all_goals first | exact HS.out | exact ⟨rfl, HS.out⟩ | rfl | exact ⟨by omega, HS.out⟩
              · intro w' hS
                refine OpTo.wanted ?_ ?_
                kernel_rfl
                have k3 := (hS.cell (p := ⟨b, k * 5 + 3, none⟩) HBl.out).trans E3.out
                have k4 := (hS.cell (p := ⟨b, k * 5 + 4, none⟩) HBl.out).trans E4.out
                have hbl := Nat.lt_of_lt_of_le HBl.out hS.size
                have HS := Lib.hid hS
                clear hS
                go_wp2_with fail
                all_goals first | exact HS.out | exact ⟨rfl, HS.out⟩ | rfl | exact ⟨by omega, HS.out⟩
              · intro w' hS
                refine OpTo.wanted ?_ ?_
                kernel_rfl
                have k3 := (hS.cell (p := ⟨b, k * 5 + 3, none⟩) HBl.out).trans E3.out
                have k4 := (hS.cell (p := ⟨b, k * 5 + 4, none⟩) HBl.out).trans E4.out
                have hbl := Nat.lt_of_lt_of_le HBl.out hS.size
                have HS := Lib.hid hS
                clear hS
                go_wp2_with fail
                all_goals first | exact HS.out | exact ⟨rfl, HS.out⟩ | rfl | exact ⟨by omega, HS.out⟩
              · intro w' hS
                refine OpTo.wanted ?_ ?_
                kernel_rfl
                have k3 := (hS.cell (p := ⟨b, k * 5 + 3, none⟩) HBl.out).trans E3.out
                have k4 := (hS.cell (p := ⟨b, k * 5 + 4, none⟩) HBl.out).trans E4.out
                have hbl := Nat.lt_of_lt_of_le HBl.out hS.size
                have HS := Lib.hid hS
                clear hS
                go_wp2_with fail
                all_goals first | exact HS.out | exact ⟨rfl, HS.out⟩ | rfl | exact ⟨by omega, HS.out⟩
              · intro w' hS
                refine OpTo.wanted ?_ ?_
                kernel_rfl
                have HS := Lib.hid hS
                clear hS
                go_wp2_with fail
                all_goals first | exact HS.out | exact ⟨rfl, HS.out⟩ | rfl | exact ⟨by omega, HS.out⟩
              · intro w' hS
                refine OpTo.plain ?_ ?_
                exact rfl
                have HS := Lib.hid hS
                clear hS
                go_wp2_with fail
                all_goals first | exact HS.out | exact ⟨rfl, HS.out⟩ | rfl | exact ⟨by omega, HS.out⟩
            intro w200 b200
            have VV2 := Lib.hid (VV.out.below b200)
            have BB2 := Lib.hid (BB.out.trans (b200.mono BB.out.size))
            clear b200
            go_wp2_with fail
            go_roundw
            case rel => exact ⟨k + 1, by omega, by go_num, _, VV2.out, BB2.out⟩
            case measure => simp [intOf]; omega
          · go_wp2_with fail
            refine (lives03_any _).mono ?_
            rintro e w300 ⟨rfl, b300⟩
            have BB3 := Lib.hid (BB.out.trans (b300.mono BB.out.size))
            clear b300
            go_wp2_with fail
            go_ret
            exact ⟨rfl, BB3.out⟩

end Go.Proofs.Ytlcilpeljnoclaa
