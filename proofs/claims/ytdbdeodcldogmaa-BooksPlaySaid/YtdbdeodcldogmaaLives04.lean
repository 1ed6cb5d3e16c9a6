/-
  Layer 4's examples.
-/
import Derived.Test.YtdbdeodcldogmaaAside
namespace Go.Proofs.Ytdbdeodcldogmaa
open Go.RowKit
set_option linter.unusedSimpArgs false
set_option linter.unusedVariables false

instance (n : Int) : Decidable (In8 n) := inferInstanceAs (Decidable (_ ∧ _))
instance (n : Int) : Decidable (In64 n) := inferInstanceAs (Decidable (_ ∧ _))
set_option maxHeartbeats 8000000 in
set_option maxRecDepth 100000 in
theorem lives04_any (w : World) : Calls Try.prog 9 #[] w fun e w' => e = .returned (.bool true) ∧ Below w.heap.size w w' := by
  go_enter Try.func9, Try.ntmps9
  go_wp2_with fail
  refine (pnew_any w w.heap.size (Nat.le_refl _)).mono ?_
  rintro e w0 ⟨rfl, h0, b0⟩
  have bw := ((Below.refl w0.heap.size w0).alloc (Nat.le_refl _) (.cells #[.int .i64 3, .int .i64 2] 37)).alloc (by simp) (.cells #[.int .i64 1, .int .i64 1] 37)
  have B0 := Lib.hid (b0.trans (bw.mono b0.size))
  have P0 := Lib.hid (h0.below bw)
  have KH0 := Lib.hid (show BlkO ((w0.alloc (.cells #[.int .i64 3, .int .i64 2] 37)).alloc (.cells #[.int .i64 1, .int .i64 1] 37)) w.heap.size (.slice none 0 0) w0.heap.size #[.int .i64 3, .int .i64 2] 37 from ⟨(Blk.new w0 _ _).alloc _, OffB.new h0 (Nat.le_refl _) (by simp; omega)⟩)
  have KO0 := Lib.hid (show BlkO ((w0.alloc (.cells #[.int .i64 3, .int .i64 2] 37)).alloc (.cells #[.int .i64 1, .int .i64 1] 37)) w.heap.size (.slice none 0 0) (w0.heap.size + 1) #[.int .i64 1, .int .i64 1] 37 from ⟨Blk.newAt _ _ _ (by simp), OffB.new h0 (by omega) (by simp)⟩)
  have I0 := Lib.hid (BInv.nil (N := 1) (by omega) (by omega))
  clear bw h0 b0
  have c1 := Lib.hid (pplace_any (x := ⟨1, 1, 1, 2, 10, 3, 2⟩) P0.out I0.out ⟨by decide, by decide, by decide, by decide, by decide, by decide, by decide⟩)
  rw [show placeS [] ⟨1, 1, 1, 2, 10, 3, 2⟩ = 1 by decide +kernel] at c1
  rw [show placeE [] ⟨1, 1, 1, 2, 10, 3, 2⟩ = 0 by decide +kernel] at c1
  rw [show placeL [] ⟨1, 1, 1, 2, 10, 3, 2⟩ = [⟨1, 1, 1, 2, 10, 3, 2⟩] by decide +kernel] at c1
  rw [show placeN [] ⟨1, 1, 1, 2, 10, 3, 2⟩ = 2 by decide +kernel] at c1
  have I1 : Hid (BInv [⟨1, 1, 1, 2, 10, 3, 2⟩] 2) := Lib.hid (by have := BInv.place (x := ⟨1, 1, 1, 2, 10, 3, 2⟩) I0.out; rwa [show placeL [] ⟨1, 1, 1, 2, 10, 3, 2⟩ = [⟨1, 1, 1, 2, 10, 3, 2⟩] by decide +kernel, show placeN [] ⟨1, 1, 1, 2, 10, 3, 2⟩ = 2 by decide +kernel] at this)
  have hl := KH0.out.blk.lt; have d0 := KH0.out.blk.cell 0; have d1 := KH0.out.blk.cell 1
  simp at d0 d1
  have hl2 := KO0.out.blk.lt; have e0 := KO0.out.blk.cell 0; have e1 := KO0.out.blk.cell 1
  simp at e0 e1
  go_wp2_with fail
  clear d0 d1 e0 e1 hl hl2
  refine (c1.out).mono ?_
  rintro e w1 ⟨rfl, vl1, p1, k1, m1⟩
  have B1 := Lib.hid (B0.out.trans (k1.below B0.out.size (fun j hj hf => by have := (P0.out.lt hf).1; omega)))
  have KH1 := Lib.hid (KH0.out.moved k1 m1)
  have KO1 := Lib.hid (KO0.out.moved k1 m1)
  have P1 := Lib.hid p1
  clear p1 k1 m1
  clear c1
  have c2 := Lib.hid (pplace_any (x := ⟨2, 2, 1, 2, 5, 1, 1⟩) P1.out I1.out ⟨by decide, by decide, by decide, by decide, by decide, by decide, by decide⟩)
  rw [show placeS [⟨1, 1, 1, 2, 10, 3, 2⟩] ⟨2, 2, 1, 2, 5, 1, 1⟩ = 2 by decide +kernel] at c2
  rw [show placeE [⟨1, 1, 1, 2, 10, 3, 2⟩] ⟨2, 2, 1, 2, 5, 1, 1⟩ = 0 by decide +kernel] at c2
  rw [show placeL [⟨1, 1, 1, 2, 10, 3, 2⟩] ⟨2, 2, 1, 2, 5, 1, 1⟩ = [⟨1, 1, 1, 2, 10, 3, 2⟩, ⟨2, 2, 1, 2, 5, 1, 1⟩] by decide +kernel] at c2
  rw [show placeN [⟨1, 1, 1, 2, 10, 3, 2⟩] ⟨2, 2, 1, 2, 5, 1, 1⟩ = 3 by decide +kernel] at c2
  have I2 : Hid (BInv [⟨1, 1, 1, 2, 10, 3, 2⟩, ⟨2, 2, 1, 2, 5, 1, 1⟩] 3) := Lib.hid (by have := BInv.place (x := ⟨2, 2, 1, 2, 5, 1, 1⟩) I1.out; rwa [show placeL [⟨1, 1, 1, 2, 10, 3, 2⟩] ⟨2, 2, 1, 2, 5, 1, 1⟩ = [⟨1, 1, 1, 2, 10, 3, 2⟩, ⟨2, 2, 1, 2, 5, 1, 1⟩] by decide +kernel, show placeN [⟨1, 1, 1, 2, 10, 3, 2⟩] ⟨2, 2, 1, 2, 5, 1, 1⟩ = 3 by decide +kernel] at this)
  have hl := KH1.out.blk.lt; have d0 := KH1.out.blk.cell 0; have d1 := KH1.out.blk.cell 1
  simp at d0 d1
  have hl2 := KO1.out.blk.lt; have e0 := KO1.out.blk.cell 0; have e1 := KO1.out.blk.cell 1
  simp at e0 e1
  go_wp2_with fail
  clear d0 d1 e0 e1 hl hl2
  refine (c2.out).mono ?_
  rintro e w2 ⟨rfl, vl2, p2, k2, m2⟩
  have B2 := Lib.hid (B1.out.trans (k2.below B1.out.size (fun j hj hf => by have := (P1.out.lt hf).1; omega)))
  have KH2 := Lib.hid (KH1.out.moved k2 m2)
  have KO2 := Lib.hid (KO1.out.moved k2 m2)
  have P2 := Lib.hid p2
  clear p2 k2 m2
  clear c2
  have c3 := Lib.hid (pplace_any (x := ⟨3, 3, 1, 2, 5, 3, 2⟩) P2.out I2.out ⟨by decide, by decide, by decide, by decide, by decide, by decide, by decide⟩)
  rw [show placeS [⟨1, 1, 1, 2, 10, 3, 2⟩, ⟨2, 2, 1, 2, 5, 1, 1⟩] ⟨3, 3, 1, 2, 5, 3, 2⟩ = 3 by decide +kernel] at c3
  rw [show placeE [⟨1, 1, 1, 2, 10, 3, 2⟩, ⟨2, 2, 1, 2, 5, 1, 1⟩] ⟨3, 3, 1, 2, 5, 3, 2⟩ = 0 by decide +kernel] at c3
  rw [show placeL [⟨1, 1, 1, 2, 10, 3, 2⟩, ⟨2, 2, 1, 2, 5, 1, 1⟩] ⟨3, 3, 1, 2, 5, 3, 2⟩ = [⟨1, 1, 1, 2, 10, 3, 2⟩, ⟨2, 2, 1, 2, 5, 1, 1⟩, ⟨3, 3, 1, 2, 5, 3, 2⟩] by decide +kernel] at c3
  rw [show placeN [⟨1, 1, 1, 2, 10, 3, 2⟩, ⟨2, 2, 1, 2, 5, 1, 1⟩] ⟨3, 3, 1, 2, 5, 3, 2⟩ = 4 by decide +kernel] at c3
  have I3 : Hid (BInv [⟨1, 1, 1, 2, 10, 3, 2⟩, ⟨2, 2, 1, 2, 5, 1, 1⟩, ⟨3, 3, 1, 2, 5, 3, 2⟩] 4) := Lib.hid (by have := BInv.place (x := ⟨3, 3, 1, 2, 5, 3, 2⟩) I2.out; rwa [show placeL [⟨1, 1, 1, 2, 10, 3, 2⟩, ⟨2, 2, 1, 2, 5, 1, 1⟩] ⟨3, 3, 1, 2, 5, 3, 2⟩ = [⟨1, 1, 1, 2, 10, 3, 2⟩, ⟨2, 2, 1, 2, 5, 1, 1⟩, ⟨3, 3, 1, 2, 5, 3, 2⟩] by decide +kernel, show placeN [⟨1, 1, 1, 2, 10, 3, 2⟩, ⟨2, 2, 1, 2, 5, 1, 1⟩] ⟨3, 3, 1, 2, 5, 3, 2⟩ = 4 by decide +kernel] at this)
  have hl := KH2.out.blk.lt; have d0 := KH2.out.blk.cell 0; have d1 := KH2.out.blk.cell 1
  simp at d0 d1
  have hl2 := KO2.out.blk.lt; have e0 := KO2.out.blk.cell 0; have e1 := KO2.out.blk.cell 1
  simp at e0 e1
  go_wp2_with fail
  clear d0 d1 e0 e1 hl hl2
  refine (c3.out).mono ?_
  rintro e w3 ⟨rfl, vl3, p3, k3, m3⟩
  have B3 := Lib.hid (B2.out.trans (k3.below B2.out.size (fun j hj hf => by have := (P2.out.lt hf).1; omega)))
  have KH3 := Lib.hid (KH2.out.moved k3 m3)
  have KO3 := Lib.hid (KO2.out.moved k3 m3)
  have P3 := Lib.hid p3
  clear p3 k3 m3
  clear c3
  have c4 := Lib.hid (pplace_any (x := ⟨4, 1, 1, 1, 5, 1, 1⟩) P3.out I3.out ⟨by decide, by decide, by decide, by decide, by decide, by decide, by decide⟩)
  rw [show placeS [⟨1, 1, 1, 2, 10, 3, 2⟩, ⟨2, 2, 1, 2, 5, 1, 1⟩, ⟨3, 3, 1, 2, 5, 3, 2⟩] ⟨4, 1, 1, 1, 5, 1, 1⟩ = 0 by decide +kernel] at c4
  rw [show placeE [⟨1, 1, 1, 2, 10, 3, 2⟩, ⟨2, 2, 1, 2, 5, 1, 1⟩, ⟨3, 3, 1, 2, 5, 3, 2⟩] ⟨4, 1, 1, 1, 5, 1, 1⟩ = 1 by decide +kernel] at c4
  rw [show placeL [⟨1, 1, 1, 2, 10, 3, 2⟩, ⟨2, 2, 1, 2, 5, 1, 1⟩, ⟨3, 3, 1, 2, 5, 3, 2⟩] ⟨4, 1, 1, 1, 5, 1, 1⟩ = [⟨1, 1, 1, 2, 10, 3, 2⟩, ⟨2, 2, 1, 2, 5, 1, 1⟩, ⟨3, 3, 1, 2, 5, 3, 2⟩] by decide +kernel] at c4
  rw [show placeN [⟨1, 1, 1, 2, 10, 3, 2⟩, ⟨2, 2, 1, 2, 5, 1, 1⟩, ⟨3, 3, 1, 2, 5, 3, 2⟩] ⟨4, 1, 1, 1, 5, 1, 1⟩ = 4 by decide +kernel] at c4
  have I4 : Hid (BInv [⟨1, 1, 1, 2, 10, 3, 2⟩, ⟨2, 2, 1, 2, 5, 1, 1⟩, ⟨3, 3, 1, 2, 5, 3, 2⟩] 4) := Lib.hid (by have := BInv.place (x := ⟨4, 1, 1, 1, 5, 1, 1⟩) I3.out; rwa [show placeL [⟨1, 1, 1, 2, 10, 3, 2⟩, ⟨2, 2, 1, 2, 5, 1, 1⟩, ⟨3, 3, 1, 2, 5, 3, 2⟩] ⟨4, 1, 1, 1, 5, 1, 1⟩ = [⟨1, 1, 1, 2, 10, 3, 2⟩, ⟨2, 2, 1, 2, 5, 1, 1⟩, ⟨3, 3, 1, 2, 5, 3, 2⟩] by decide +kernel, show placeN [⟨1, 1, 1, 2, 10, 3, 2⟩, ⟨2, 2, 1, 2, 5, 1, 1⟩, ⟨3, 3, 1, 2, 5, 3, 2⟩] ⟨4, 1, 1, 1, 5, 1, 1⟩ = 4 by decide +kernel] at this)
  have hl := KH3.out.blk.lt; have d0 := KH3.out.blk.cell 0; have d1 := KH3.out.blk.cell 1
  simp at d0 d1
  have hl2 := KO3.out.blk.lt; have e0 := KO3.out.blk.cell 0; have e1 := KO3.out.blk.cell 1
  simp at e0 e1
  go_wp2_with fail
  clear d0 d1 e0 e1 hl hl2
  refine (c4.out).mono ?_
  rintro e w4 ⟨rfl, vl4, p4, k4, m4⟩
  have B4 := Lib.hid (B3.out.trans (k4.below B3.out.size (fun j hj hf => by have := (P3.out.lt hf).1; omega)))
  have KH4 := Lib.hid (KH3.out.moved k4 m4)
  have KO4 := Lib.hid (KO3.out.moved k4 m4)
  have P4 := Lib.hid p4
  clear p4 k4 m4
  clear c4
  have best1 : bestO [⟨1, 1, 1, 2, 10, 3, 2⟩, ⟨2, 2, 1, 2, 5, 1, 1⟩, ⟨3, 3, 1, 2, 5, 3, 2⟩] 1 2 = [⟨2, 2, 1, 2, 5, 1, 1⟩, ⟨1, 1, 1, 2, 10, 3, 2⟩, ⟨3, 3, 1, 2, 5, 3, 2⟩] := by decide +kernel
  have c4' := Lib.hid (pbest_any P4.out I4.out 1 2)
  rw [best1] at c4'
  clear best1
  have c5 := Lib.hid (c4'.out)
  go_wp2_with fail
  refine c5.out.mono ?_
  rintro e w5 ⟨v5, rfl, r5, b5⟩
  have RL5 := Lib.hid (RowO.told P4.out r5)
  have B5 := Lib.hid (B4.out.trans (b5.mono B4.out.size))
  have P5 := Lib.hid (P4.out.below b5)
  have KH5 := Lib.hid (KH4.out.below b5)
  have KO5 := Lib.hid (KO4.out.below b5)
  clear r5 b5 c5
  obtain ⟨ao, cp, hv, _, hr⟩ := rowed_open RL5.out.row
  obtain ⟨bl, hao, _, hbl, hcl⟩ := hr (by decide)
  subst hao
  subst hv
  have f0 := hcl 0 (by decide); have f1 := hcl 7 (by decide); have f2 := hcl 14 (by decide)
  simp only [ofCells, Of.vals, List.flatMap_cons, List.flatMap_nil, List.cons_append, List.nil_append, List.getElem?_cons_zero, List.getElem?_cons_succ] at f0 f1 f2
  clear hr hcl
  have best2 : bestO [⟨1, 1, 1, 2, 10, 3, 2⟩, ⟨2, 2, 1, 2, 5, 1, 1⟩, ⟨3, 3, 1, 2, 5, 3, 2⟩] 2 1 = [] := by decide +kernel
  have cb := Lib.hid (pbest_any P5.out I4.out 2 1)
  rw [best2] at cb
  clear best2
  go_wp2_with fail
  clear f0 f1 f2
  refine cb.out.mono ?_
  rintro e w6 ⟨v6, rfl, r6, b6⟩
  obtain ⟨ao2, cp2, hv2, _, _⟩ := rowed_open r6
  subst hv2
  have B6 := Lib.hid (B5.out.trans (b6.mono B5.out.size))
  have P6 := Lib.hid (P5.out.below b6)
  have KH6 := Lib.hid (KH5.out.below b6)
  have KO6 := Lib.hid (KO5.out.below b6)
  clear r6 b6 cb
  have c7 := Lib.hid (pcancel_any P6.out I4.out 1 2)
  rw [show cancelV [⟨1, 1, 1, 2, 10, 3, 2⟩, ⟨2, 2, 1, 2, 5, 1, 1⟩, ⟨3, 3, 1, 2, 5, 3, 2⟩] 1 2 = 0 by decide +kernel] at c7
  rw [show cancelE [⟨1, 1, 1, 2, 10, 3, 2⟩, ⟨2, 2, 1, 2, 5, 1, 1⟩, ⟨3, 3, 1, 2, 5, 3, 2⟩] 1 2 = 15 by decide +kernel] at c7
  rw [show cancelL [⟨1, 1, 1, 2, 10, 3, 2⟩, ⟨2, 2, 1, 2, 5, 1, 1⟩, ⟨3, 3, 1, 2, 5, 3, 2⟩] 1 2 = [⟨1, 1, 1, 2, 10, 3, 2⟩, ⟨2, 2, 1, 2, 5, 1, 1⟩, ⟨3, 3, 1, 2, 5, 3, 2⟩] by decide +kernel] at c7
  have I7 : Hid (BInv [⟨1, 1, 1, 2, 10, 3, 2⟩, ⟨2, 2, 1, 2, 5, 1, 1⟩, ⟨3, 3, 1, 2, 5, 3, 2⟩] 4) := Lib.hid (by have := BInv.cancel I4.out 1 2; rwa [show cancelL [⟨1, 1, 1, 2, 10, 3, 2⟩, ⟨2, 2, 1, 2, 5, 1, 1⟩, ⟨3, 3, 1, 2, 5, 3, 2⟩] 1 2 = [⟨1, 1, 1, 2, 10, 3, 2⟩, ⟨2, 2, 1, 2, 5, 1, 1⟩, ⟨3, 3, 1, 2, 5, 3, 2⟩] by decide +kernel] at this)
  go_wp2_with fail
  refine (c7.out).mono ?_
  rintro e w7 ⟨rfl, vl7, p7, k7, m7⟩
  have B7 := Lib.hid (B6.out.trans (k7.below B6.out.size (fun j hj hf => by have := (P6.out.lt hf).1; omega)))
  have KH7 := Lib.hid (KH6.out.moved k7 m7)
  have KO7 := Lib.hid (KO6.out.moved k7 m7)
  have P7 := Lib.hid p7
  clear p7 k7 m7
  clear c7
  have c8 := Lib.hid (pcancel_any P7.out I7.out 2 2)
  rw [show cancelV [⟨1, 1, 1, 2, 10, 3, 2⟩, ⟨2, 2, 1, 2, 5, 1, 1⟩, ⟨3, 3, 1, 2, 5, 3, 2⟩] 2 2 = 5 by decide +kernel] at c8
  rw [show cancelE [⟨1, 1, 1, 2, 10, 3, 2⟩, ⟨2, 2, 1, 2, 5, 1, 1⟩, ⟨3, 3, 1, 2, 5, 3, 2⟩] 2 2 = 0 by decide +kernel] at c8
  rw [show cancelL [⟨1, 1, 1, 2, 10, 3, 2⟩, ⟨2, 2, 1, 2, 5, 1, 1⟩, ⟨3, 3, 1, 2, 5, 3, 2⟩] 2 2 = [⟨1, 1, 1, 2, 10, 3, 2⟩, ⟨3, 3, 1, 2, 5, 3, 2⟩] by decide +kernel] at c8
  have I8 : Hid (BInv [⟨1, 1, 1, 2, 10, 3, 2⟩, ⟨3, 3, 1, 2, 5, 3, 2⟩] 4) := Lib.hid (by have := BInv.cancel I7.out 2 2; rwa [show cancelL [⟨1, 1, 1, 2, 10, 3, 2⟩, ⟨2, 2, 1, 2, 5, 1, 1⟩, ⟨3, 3, 1, 2, 5, 3, 2⟩] 2 2 = [⟨1, 1, 1, 2, 10, 3, 2⟩, ⟨3, 3, 1, 2, 5, 3, 2⟩] by decide +kernel] at this)
  go_wp2_with fail
  refine (c8.out).mono ?_
  rintro e w8 ⟨rfl, vl8, p8, k8, m8⟩
  have B8 := Lib.hid (B7.out.trans (k8.below B7.out.size (fun j hj hf => by have := (P7.out.lt hf).1; omega)))
  have KH8 := Lib.hid (KH7.out.moved k8 m8)
  have KO8 := Lib.hid (KO7.out.moved k8 m8)
  have P8 := Lib.hid p8
  clear p8 k8 m8
  clear c8
  have c9 := Lib.hid (ptake_any P8.out I8.out 1 10)
  rw [show takeE [⟨1, 1, 1, 2, 10, 3, 2⟩, ⟨3, 3, 1, 2, 5, 3, 2⟩] 1 10 = 0 by decide +kernel] at c9
  rw [show takeL [⟨1, 1, 1, 2, 10, 3, 2⟩, ⟨3, 3, 1, 2, 5, 3, 2⟩] 1 10 = [⟨3, 3, 1, 2, 5, 3, 2⟩] by decide +kernel] at c9
  have I9 : Hid (BInv [⟨3, 3, 1, 2, 5, 3, 2⟩] 4) := Lib.hid (by have := BInv.take I8.out 1 10; rwa [show takeL [⟨1, 1, 1, 2, 10, 3, 2⟩, ⟨3, 3, 1, 2, 5, 3, 2⟩] 1 10 = [⟨3, 3, 1, 2, 5, 3, 2⟩] by decide +kernel] at this)
  go_wp2_with fail
  refine (c9.out).mono ?_
  rintro e w9 ⟨rfl, vl9, p9, k9, m9⟩
  have B9 := Lib.hid (B8.out.trans (k9.below B8.out.size (fun j hj hf => by have := (P8.out.lt hf).1; omega)))
  have KH9 := Lib.hid (KH8.out.moved k9 m9)
  have KO9 := Lib.hid (KO8.out.moved k9 m9)
  have P9 := Lib.hid p9
  clear p9 k9 m9
  clear c9
  have c10 := Lib.hid (pall_any P9.out (by decide))
  go_wp2_with fail
  refine c10.out.mono ?_
  rintro e w10 ⟨v10, rfl, r10, b10⟩
  have RM10 := Lib.hid (RowO.told P9.out r10)
  have B10 := Lib.hid (B9.out.trans (b10.mono B9.out.size))
  have P10 := Lib.hid (P9.out.below b10)
  have KH10 := Lib.hid (KH9.out.below b10)
  have KO10 := Lib.hid (KO9.out.below b10)
  clear r10 b10 c10
  obtain ⟨ao3, cp3, hv3, _, hr3⟩ := rowed_open RM10.out.row
  obtain ⟨bm, hao3, _, hbm, hcm⟩ := hr3 (by decide)
  subst hao3
  subst hv3
  have f0 := hcm 0 (by decide)
  simp only [ofCells, Of.vals, List.flatMap_cons, List.flatMap_nil, List.cons_append, List.nil_append, List.getElem?_cons_zero, List.getElem?_cons_succ] at f0
  clear hr3 hcm
  go_wp2_with fail
  go_ret
  exact ⟨rfl, B10.out⟩

end Go.Proofs.Ytdbdeodcldogmaa
