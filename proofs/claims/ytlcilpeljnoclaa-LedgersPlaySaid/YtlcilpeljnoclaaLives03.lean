/-
  Layer 3's examples.
-/
import Derived.Test.YtlcilpeljnoclaaPLed11
namespace Go.Proofs.Ytlcilpeljnoclaa
open Go.RowKit
set_option linter.unusedSimpArgs false
set_option linter.unusedVariables false

instance (n : Int) : Decidable (In8 n) := inferInstanceAs (Decidable (_ ∧ _))
set_option maxHeartbeats 8000000 in
set_option maxRecDepth 100000 in
theorem lives03_any (w : World) : Calls Try.prog 9 #[] w fun e w' => e = .returned (.bool true) ∧ Below w.heap.size w w' := by
  go_enter Try.func9, Try.ntmps9
  go_wp2_with fail
  refine (new_any w).mono ?_
  rintro e w0 ⟨G, M, rfl, h0, hG, hM, hb0⟩
  have H0 := Lib.hid h0
  have B0 := Lib.hid hb0
  have I0 := Lib.hid LInv.nil
  clear h0 hb0
  have c1 := Lib.hid (open_any H0.out I0.out.bd 1)
  rw [show openE [] 1 = 0 by decide, show openP [] 1 = [1] by decide] at c1
  go_wp2_with fail
  refine c1.out.mono ?_
  rintro e w1 ⟨rfl, h1, k1⟩
  have H1 := Lib.hid h1
  have B1 := Lib.hid (B0.out.trans (k1.below B0.out.size (fun b hb e => by omega)))
  clear h1 k1 c1
  have I1 : Hid (LInv [1] []) := Lib.hid (by have := LInv.open I0.out 1; rwa [show openP [] 1 = [1] by decide] at this)
  have c2 := Lib.hid (open_any H1.out I1.out.bd 2)
  rw [show openE [1] 2 = 0 by decide, show openP [1] 2 = [1, 2] by decide] at c2
  go_wp2_with fail
  refine c2.out.mono ?_
  rintro e w2 ⟨rfl, h2, k2⟩
  have H2 := Lib.hid h2
  have B2 := Lib.hid (B1.out.trans (k2.below B1.out.size (fun b hb e => by omega)))
  clear h2 k2 c2
  have I2 : Hid (LInv [1, 2] []) := Lib.hid (by have := LInv.open I1.out 2; rwa [show openP [1] 2 = [1, 2] by decide] at this)
  have c3 := Lib.hid (open_any H2.out I2.out.bd 3)
  rw [show openE [1, 2] 3 = 0 by decide, show openP [1, 2] 3 = [1, 2, 3] by decide] at c3
  go_wp2_with fail
  refine c3.out.mono ?_
  rintro e w3 ⟨rfl, h3, k3⟩
  have H3 := Lib.hid h3
  have B3 := Lib.hid (B2.out.trans (k3.below B2.out.size (fun b hb e => by omega)))
  clear h3 k3 c3
  have I3 : Hid (LInv [1, 2, 3] []) := Lib.hid (by have := LInv.open I2.out 3; rwa [show openP [1, 2] 3 = [1, 2, 3] by decide] at this)
  have c4 := Lib.hid (open_any H3.out I3.out.bd 3)
  rw [show openE [1, 2, 3] 3 = 8 by decide, show openP [1, 2, 3] 3 = [1, 2, 3] by decide] at c4
  go_wp2_with fail
  refine c4.out.mono ?_
  rintro e w4 ⟨rfl, h4, k4⟩
  have H4 := Lib.hid h4
  have B4 := Lib.hid (B3.out.trans (k4.below B3.out.size (fun b hb e => by omega)))
  clear h4 k4 c4
  have I4 : Hid (LInv [1, 2, 3] []) := Lib.hid (by have := LInv.open I3.out 3; rwa [show openP [1, 2, 3] 3 = [1, 2, 3] by decide] at this)
  have c5 := Lib.hid (ptrust_any (a := 1) (b := 2) (c := 7) (n := 100) H4.out I4.out (by decide) (by decide) (by decide))
  rw [show trustE [1, 2, 3] [] 1 2 7 100 = 0 by decide, show trustL [1, 2, 3] [] 1 2 7 100 = [⟨1, 2, 7, 100, 0⟩] by decide] at c5
  go_wp2_with fail
  refine c5.out.mono ?_
  rintro e w5 ⟨rfl, h5, k5⟩
  have H5 := Lib.hid h5
  have B5 := Lib.hid (B4.out.trans (k5.below B4.out.size (fun b hb e => by omega)))
  clear h5 k5 c5
  have I5 : Hid (LInv [1, 2, 3] [⟨1, 2, 7, 100, 0⟩]) := Lib.hid (by have := LInv.trust I4.out 1 2 7 100; rwa [show trustL [1, 2, 3] [] 1 2 7 100 = [⟨1, 2, 7, 100, 0⟩] by decide] at this)
  have c6 := Lib.hid (room_any (a := 2) (b := 1) (c := 7) H5.out I5.out (by decide) (by decide) (by decide))
  rw [show roomL [1, 2, 3] [⟨1, 2, 7, 100, 0⟩] 2 1 7 = 100 by decide] at c6
  go_wp2_with fail
  refine c6.out.mono ?_
  rintro e w6 ⟨rfl, h6⟩
  have H6 := Lib.hid (H5.out.below h6)
  have B6 := Lib.hid (B5.out.trans (h6.mono B5.out.size))
  clear h6 c6
  have c7 := Lib.hid (room_any (a := 1) (b := 2) (c := 7) H6.out I5.out (by decide) (by decide) (by decide))
  rw [show roomL [1, 2, 3] [⟨1, 2, 7, 100, 0⟩] 1 2 7 = 0 by decide] at c7
  go_wp2_with fail
  refine c7.out.mono ?_
  rintro e w7 ⟨rfl, h7⟩
  have H7 := Lib.hid (H6.out.below h7)
  have B7 := Lib.hid (B6.out.trans (h7.mono B6.out.size))
  clear h7 c7
  have c8 := Lib.hid (ppush_any (a := 2) (b := 1) (c := 7) (n := 60) H7.out I5.out (by decide) (by decide) (by decide) (by decide))
  rw [show pushE [1, 2, 3] [⟨1, 2, 7, 100, 0⟩] 2 1 7 60 = 0 by decide, show pushL [1, 2, 3] [⟨1, 2, 7, 100, 0⟩] 2 1 7 60 = [⟨1, 2, 7, 100, 60⟩] by decide] at c8
  go_wp2_with fail
  refine c8.out.mono ?_
  rintro e w8 ⟨rfl, h8, k8⟩
  have H8 := Lib.hid h8
  have B8 := Lib.hid (B7.out.trans (k8.below B7.out.size (fun b hb e => by omega)))
  clear h8 k8 c8
  have I8 : Hid (LInv [1, 2, 3] [⟨1, 2, 7, 100, 60⟩]) := Lib.hid (by have := LInv.push I5.out 2 1 7 60; rwa [show pushL [1, 2, 3] [⟨1, 2, 7, 100, 0⟩] 2 1 7 60 = [⟨1, 2, 7, 100, 60⟩] by decide] at this)
  have c9 := Lib.hid (gline_any (a := 1) (b := 2) (c := 7) H8.out I8.out.inv (by decide) (by decide) (by decide))
  go_wp2_with fail
  refine c9.out.mono ?_
  skip
  rintro e w9 ⟨he9, h9⟩
  obtain rfl : e = .returned (.tuple #[.agg #[.int .u8 1, .int .u8 2, .int .u8 7, .int .i64 100, .int .i64 60], .bool true]) := he9
  have q9 := ((Below.refl w9.heap.size w9).alloc (Nat.le_refl _) (.cells #[.int .u8 1, .int .u8 2, .int .u8 7, .int .i64 100, .int .i64 60] 35))
  have H9 := Lib.hid ((H8.out.below h9).below q9)
  have B9 := Lib.hid ((B8.out.trans (h9.mono B8.out.size)).alloc (B8.out.trans (h9.mono B8.out.size)).size (.cells #[.int .u8 1, .int .u8 2, .int .u8 7, .int .i64 100, .int .i64 60] 35))
  clear h9 c9 q9
  have c10 := Lib.hid (room_any (a := 1) (b := 2) (c := 7) H9.out I8.out (by decide) (by decide) (by decide))
  rw [show roomL [1, 2, 3] [⟨1, 2, 7, 100, 60⟩] 1 2 7 = 60 by decide] at c10
  go_wp2_with fail
  refine c10.out.mono ?_
  rintro e w10 ⟨rfl, h10⟩
  have H10 := Lib.hid (H9.out.below h10)
  have B10 := Lib.hid (B9.out.trans (h10.mono B9.out.size))
  clear h10 c10
  have c11 := Lib.hid (ppos_any H10.out I8.out 1 7)
  rw [show posL [⟨1, 2, 7, 100, 60⟩] 1 7 = 60 by decide] at c11
  go_wp2_with fail
  refine c11.out.mono ?_
  rintro e w11 ⟨rfl, h11⟩
  have H11 := Lib.hid (H10.out.below h11)
  have B11 := Lib.hid (B10.out.trans (h11.mono B10.out.size))
  clear h11 c11
  have c12 := Lib.hid (ppos_any H11.out I8.out 2 7)
  rw [show posL [⟨1, 2, 7, 100, 60⟩] 2 7 = -60 by decide] at c12
  go_wp2_with fail
  refine c12.out.mono ?_
  rintro e w12 ⟨rfl, h12⟩
  have H12 := Lib.hid (H11.out.below h12)
  have B12 := Lib.hid (B11.out.trans (h12.mono B11.out.size))
  clear h12 c12
  have c13 := Lib.hid (ptrust_any (a := 1) (b := 2) (c := 7) (n := 59) H12.out I8.out (by decide) (by decide) (by decide))
  rw [show trustE [1, 2, 3] [⟨1, 2, 7, 100, 60⟩] 1 2 7 59 = 14 by decide, show trustL [1, 2, 3] [⟨1, 2, 7, 100, 60⟩] 1 2 7 59 = [⟨1, 2, 7, 100, 60⟩] by decide] at c13
  go_wp2_with fail
  refine c13.out.mono ?_
  rintro e w13 ⟨rfl, h13, k13⟩
  have H13 := Lib.hid h13
  have B13 := Lib.hid (B12.out.trans (k13.below B12.out.size (fun b hb e => by omega)))
  clear h13 k13 c13
  have I13 : Hid (LInv [1, 2, 3] [⟨1, 2, 7, 100, 60⟩]) := Lib.hid (by have := LInv.trust I8.out 1 2 7 59; rwa [show trustL [1, 2, 3] [⟨1, 2, 7, 100, 60⟩] 1 2 7 59 = [⟨1, 2, 7, 100, 60⟩] by decide] at this)
  have c14 := Lib.hid (ptrust_any (a := 2) (b := 1) (c := 7) (n := 10) H13.out I13.out (by decide) (by decide) (by decide))
  rw [show trustE [1, 2, 3] [⟨1, 2, 7, 100, 60⟩] 2 1 7 10 = 0 by decide, show trustL [1, 2, 3] [⟨1, 2, 7, 100, 60⟩] 2 1 7 10 = [⟨1, 2, 7, 100, 60⟩, ⟨2, 1, 7, 10, 0⟩] by decide] at c14
  go_wp2_with fail
  refine c14.out.mono ?_
  rintro e w14 ⟨rfl, h14, k14⟩
  have H14 := Lib.hid h14
  have B14 := Lib.hid (B13.out.trans (k14.below B13.out.size (fun b hb e => by omega)))
  clear h14 k14 c14
  have I14 : Hid (LInv [1, 2, 3] [⟨1, 2, 7, 100, 60⟩, ⟨2, 1, 7, 10, 0⟩]) := Lib.hid (by have := LInv.trust I13.out 2 1 7 10; rwa [show trustL [1, 2, 3] [⟨1, 2, 7, 100, 60⟩] 2 1 7 10 = [⟨1, 2, 7, 100, 60⟩, ⟨2, 1, 7, 10, 0⟩] by decide] at this)
  have c15 := Lib.hid (room_any (a := 1) (b := 2) (c := 7) H14.out I14.out (by decide) (by decide) (by decide))
  rw [show roomL [1, 2, 3] [⟨1, 2, 7, 100, 60⟩, ⟨2, 1, 7, 10, 0⟩] 1 2 7 = 70 by decide] at c15
  go_wp2_with fail
  refine c15.out.mono ?_
  rintro e w15 ⟨rfl, h15⟩
  have H15 := Lib.hid (H14.out.below h15)
  have B15 := Lib.hid (B14.out.trans (h15.mono B14.out.size))
  clear h15 c15
  have c16 := Lib.hid (ppush_any (a := 1) (b := 2) (c := 7) (n := 65) H15.out I14.out (by decide) (by decide) (by decide) (by decide))
  rw [show pushE [1, 2, 3] [⟨1, 2, 7, 100, 60⟩, ⟨2, 1, 7, 10, 0⟩] 1 2 7 65 = 0 by decide, show pushL [1, 2, 3] [⟨1, 2, 7, 100, 60⟩, ⟨2, 1, 7, 10, 0⟩] 1 2 7 65 = [⟨1, 2, 7, 100, 0⟩, ⟨2, 1, 7, 10, 5⟩] by decide] at c16
  go_wp2_with fail
  refine c16.out.mono ?_
  rintro e w16 ⟨rfl, h16, k16⟩
  have H16 := Lib.hid h16
  have B16 := Lib.hid (B15.out.trans (k16.below B15.out.size (fun b hb e => by omega)))
  clear h16 k16 c16
  have I16 : Hid (LInv [1, 2, 3] [⟨1, 2, 7, 100, 0⟩, ⟨2, 1, 7, 10, 5⟩]) := Lib.hid (by have := LInv.push I14.out 1 2 7 65; rwa [show pushL [1, 2, 3] [⟨1, 2, 7, 100, 60⟩, ⟨2, 1, 7, 10, 0⟩] 1 2 7 65 = [⟨1, 2, 7, 100, 0⟩, ⟨2, 1, 7, 10, 5⟩] by decide] at this)
  have c17 := Lib.hid (gline_any (a := 2) (b := 1) (c := 7) H16.out I16.out.inv (by decide) (by decide) (by decide))
  go_wp2_with fail
  refine c17.out.mono ?_
  skip
  rintro e w17 ⟨he17, h17⟩
  obtain rfl : e = .returned (.tuple #[.agg #[.int .u8 2, .int .u8 1, .int .u8 7, .int .i64 10, .int .i64 5], .bool true]) := he17
  have q17 := ((Below.refl w17.heap.size w17).alloc (Nat.le_refl _) (.cells #[.int .u8 2, .int .u8 1, .int .u8 7, .int .i64 10, .int .i64 5] 35))
  have H17 := Lib.hid ((H16.out.below h17).below q17)
  have B17 := Lib.hid ((B16.out.trans (h17.mono B16.out.size)).alloc (B16.out.trans (h17.mono B16.out.size)).size (.cells #[.int .u8 2, .int .u8 1, .int .u8 7, .int .i64 10, .int .i64 5] 35))
  clear h17 c17 q17
  have c18 := Lib.hid (ptot_any H17.out I16.out 7)
  rw [show totL [⟨1, 2, 7, 100, 0⟩, ⟨2, 1, 7, 10, 5⟩] 7 = 5 by decide] at c18
  go_wp2_with fail
  refine c18.out.mono ?_
  rintro e w18 ⟨rfl, h18⟩
  have H18 := Lib.hid (H17.out.below h18)
  have B18 := Lib.hid (B17.out.trans (h18.mono B17.out.size))
  clear h18 c18
  have c19 := Lib.hid (ppush_any (a := 1) (b := 2) (c := 7) (n := 6) H18.out I16.out (by decide) (by decide) (by decide) (by decide))
  rw [show pushE [1, 2, 3] [⟨1, 2, 7, 100, 0⟩, ⟨2, 1, 7, 10, 5⟩] 1 2 7 6 = 11 by decide, show pushL [1, 2, 3] [⟨1, 2, 7, 100, 0⟩, ⟨2, 1, 7, 10, 5⟩] 1 2 7 6 = [⟨1, 2, 7, 100, 0⟩, ⟨2, 1, 7, 10, 5⟩] by decide] at c19
  go_wp2_with fail
  refine c19.out.mono ?_
  rintro e w19 ⟨rfl, h19, k19⟩
  have H19 := Lib.hid h19
  have B19 := Lib.hid (B18.out.trans (k19.below B18.out.size (fun b hb e => by omega)))
  clear h19 k19 c19
  have I19 : Hid (LInv [1, 2, 3] [⟨1, 2, 7, 100, 0⟩, ⟨2, 1, 7, 10, 5⟩]) := Lib.hid (by have := LInv.push I16.out 1 2 7 6; rwa [show pushL [1, 2, 3] [⟨1, 2, 7, 100, 0⟩, ⟨2, 1, 7, 10, 5⟩] 1 2 7 6 = [⟨1, 2, 7, 100, 0⟩, ⟨2, 1, 7, 10, 5⟩] by decide] at this)
  go_wp2_with fail
  go_ret
  exact ⟨rfl, B19.out⟩

end Go.Proofs.Ytlcilpeljnoclaa
