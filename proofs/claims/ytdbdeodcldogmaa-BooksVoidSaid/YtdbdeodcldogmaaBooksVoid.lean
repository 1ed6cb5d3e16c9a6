/-
  BooksVoid: a book that is not there, or that no call made: the walk.
-/
import Derived.Test.YtdbdeodcldogmaaLives04
import Derived.Test.YtdbdeodcldogmaaActs4
namespace Go.Proofs.Ytdbdeodcldogmaa
open Go.RowKit
set_option linter.unusedSimpArgs false
set_option linter.unusedVariables false

set_option maxHeartbeats 4000000 in
set_option maxRecDepth 100000 in
theorem voidB_place {w : World} {pv : Value} (h : VoidB w pv) (ow sl bu lf nu de : Int) :
    Calls Try.prog 16 #[pv, .int .u8 ow, .int .u8 sl, .int .u8 bu, .int .i64 lf, .agg #[.int .i64 nu, .int .i64 de]] w fun e w' => e = .returned (.tuple #[.int .u64 0, .int .i64 2]) ∧ Below w.heap.size w w' := by
  have bw := (Below.refl w.heap.size w).alloc (Nat.le_refl _) (.cells #[.int .i64 nu, .int .i64 de] 37)
  have H1 := Lib.hid (h.below bw)
  have KR := Lib.hid (Blk.new w #[.int .i64 nu, .int .i64 de] 37)
  have B1 := Lib.hid bw
  clear bw h
  go_enter Try.func16, Try.ntmps16
  go_wp2_with fail
  generalize hWW : w.alloc (.cells #[.int .i64 nu, .int .i64 de] 37) = W at *
  clear hWW
  refine pplace_r1 (x := ⟨0, ow, sl, bu, lf, nu, de⟩) (Lib.hid H1.out.next) KR ?_
  intro a w2 ha hA b2
  have CM := Lib.hid (H1.out.made w2 b2)
  have B2 := Lib.hid (B1.out.trans (b2.mono B1.out.size))
  clear ha hA b2 H1 B1 KR
  go_wp2_with fail
  refine CM.out.mono ?_
  rintro e w2 ⟨rfl, rfl⟩
  go_wp2_with fail
  refine bodyPost_ret (v := .tuple #[.int .u64 0, .int .i64 2]) (by simp [results, Try.results16, go_sem]) rfl ?_
  exact ⟨rfl, B2.out⟩
theorem voidB_findL {w : World} {pv : Value} (h : VoidB w pv) (s : Int) : Calls Try.prog 23 #[pv, .int .u64 s] w fun e w' => e = .returned (.tuple #[.agg #[.int .u64 0, .int .u8 0, .int .u8 0, .int .u8 0, .int .i64 0, .int .i64 0, .int .i64 0], .bool false]) ∧ Below w.heap.size w w' := voidB_find h s
def VoidAt (w : World) (x : Ab) (i : Value) (wr : World) : Prop :=
  ∃ k : Nat, k ≤ 2 ∧ i = .int .i64 k ∧ Hid (Blk wr w.heap.size #[.int .u8 x.k, .int .u64 x.o.se, .int .u8 x.o.ow, .int .u8 x.o.sl, .int .u8 x.o.bu, .int .i64 x.o.lf, .int .i64 x.o.nu, .int .i64 x.o.de, .int .i64 x.n] 41) ∧ Hid (Blk wr (w.heap.size + 2) #[.pointer none, .pointer (some ⟨w.heap.size + 1, 0, none⟩)] 25) ∧ Hid (VoidB wr (.pointer (some ⟨w.heap.size + 1, 0, none⟩))) ∧ Hid (Below w.heap.size w wr)
set_option maxHeartbeats 8000000 in
set_option maxRecDepth 100000 in
theorem bvoid_walk (x : Ab) (w : World) (hx : x.Ok) : Calls Try.prog 5 #[.agg #[.int .u8 x.k, .int .u64 x.o.se, .int .u8 x.o.ow, .int .u8 x.o.sl, .int .u8 x.o.bu, .int .i64 x.o.lf, .int .i64 x.o.nu, .int .i64 x.o.de, .int .i64 x.n]] w fun e w' => e = .returned (.bool true) ∧ Below w.heap.size w w' := by
  clear hx
  have KX := Lib.hid (((Blk.new w #[.int .u8 x.k, .int .u64 x.o.se, .int .u8 x.o.ow, .int .u8 x.o.sl, .int .u8 x.o.bu, .int .i64 x.o.lf, .int .i64 x.o.nu, .int .i64 x.o.de, .int .i64 x.n] 41).alloc (.cells #[.slice none 0 0, .int .u64 0] 63)).alloc (.cells #[.pointer none, .pointer (some ⟨w.heap.size + 1, 0, none⟩)] 25))
  have KS := Lib.hid (Blk.newAt ((w.alloc (.cells #[.int .u8 x.k, .int .u64 x.o.se, .int .u8 x.o.ow, .int .u8 x.o.sl, .int .u8 x.o.bu, .int .i64 x.o.lf, .int .i64 x.o.nu, .int .i64 x.o.de, .int .i64 x.n] 41)).alloc (.cells #[.slice none 0 0, .int .u64 0] 63)) #[.pointer none, .pointer (some ⟨w.heap.size + 1, 0, none⟩)] 25 (g := w.heap.size + 2) (by simp))
  have KB := (Blk.newAt (w.alloc (.cells #[.int .u8 x.k, .int .u64 x.o.se, .int .u8 x.o.ow, .int .u8 x.o.sl, .int .u8 x.o.bu, .int .i64 x.o.lf, .int .i64 x.o.nu, .int .i64 x.o.de, .int .i64 x.n] 41)) #[.slice none 0 0, .int .u64 0] 63 (g := w.heap.size + 1) (by simp)).alloc (.cells #[.pointer none, .pointer (some ⟨w.heap.size + 1, 0, none⟩)] 25)
  have V2 := Lib.hid (voidB_zero KB)
  have B := Lib.hid ((((Below.refl w.heap.size w).alloc (Nat.le_refl _) (.cells #[.int .u8 x.k, .int .u64 x.o.se, .int .u8 x.o.ow, .int .u8 x.o.sl, .int .u8 x.o.bu, .int .i64 x.o.lf, .int .i64 x.o.nu, .int .i64 x.o.de, .int .i64 x.n] 41)).alloc (by simp) (.cells #[.slice none 0 0, .int .u64 0] 63)).alloc (by simp; omega) (.cells #[.pointer none, .pointer (some ⟨w.heap.size + 1, 0, none⟩)] 25))
  clear KB
  go_enter Try.func5, Try.ntmps5
  go_wp2_with fail
  generalize (((w.alloc (.cells #[.int .u8 x.k, .int .u64 x.o.se, .int .u8 x.o.ow, .int .u8 x.o.sl, .int .u8 x.o.bu, .int .i64 x.o.lf, .int .i64 x.o.nu, .int .i64 x.o.de, .int .i64 x.n] 41)).alloc (.cells #[.slice none 0 0, .int .u64 0] 63)).alloc (.cells #[.pointer none, .pointer (some ⟨w.heap.size + 1, 0, none⟩)] 25)) = W at *
  go_loopw [5] (VoidAt w x) (fun i _ => 2 - (intOf i).toNat)
  case atStart => exact ⟨0, by omega, rfl, KX, KS, V2, B⟩
  case round =>
    obtain ⟨k, hk, rfl, KX0, KS0, V20, B0⟩ := hrel
    by_cases hkl : k < 2
    · obtain ⟨pv, hcell, hV⟩ : ∃ pv, wr.cell? ⟨w.heap.size + 2, k, none⟩ = some pv ∧ VoidB wr pv := by
        have : k = 0 ∨ k = 1 := by omega
        rcases this with rfl | rfl
        · exact ⟨_, KS0.out.cell 0, voidB_nil wr⟩
        · exact ⟨_, KS0.out.cell 1, V20.out⟩
      have V0 := Lib.hid hV
      clear hV
      have ls := KS0.out.lt
      have lkx_0 := KX0.out.lt
      have kx_1_0 := KX0.out.cell 1
      have kx_2_0 := KX0.out.cell 2
      have kx_3_0 := KX0.out.cell 3
      have kx_4_0 := KX0.out.cell 4
      have kx_5_0 := KX0.out.cell 5
      have kx_6_0 := KX0.out.cell 6
      have kx_7_0 := KX0.out.cell 7
      have kx_8_0 := KX0.out.cell 8
      simp at kx_1_0 kx_2_0 kx_3_0 kx_4_0 kx_5_0 kx_6_0 kx_7_0 kx_8_0
      go_wp2_with fail
      clear ls hcell
      clear lkx_0 kx_1_0 kx_2_0 kx_3_0 kx_4_0 kx_5_0 kx_6_0 kx_7_0 kx_8_0
      refine (voidB_place V0.out x.o.ow x.o.sl x.o.bu x.o.lf x.o.nu x.o.de).mono ?_
      rintro e w1 ⟨rfl, b1⟩
      have KX1 := Lib.hid (KX0.out.below b1 KX0.out.lt)
      have KS1 := Lib.hid (KS0.out.below b1 KS0.out.lt)
      have V21 := Lib.hid (V20.out.below b1)
      have V1 := Lib.hid (V0.out.below b1)
      have B1 := Lib.hid (B0.out.trans (b1.mono B0.out.size))
      clear b1
      have lkx_1 := KX1.out.lt
      have kx_1_1 := KX1.out.cell 1
      have kx_2_1 := KX1.out.cell 2
      have kx_3_1 := KX1.out.cell 3
      have kx_4_1 := KX1.out.cell 4
      have kx_5_1 := KX1.out.cell 5
      have kx_6_1 := KX1.out.cell 6
      have kx_7_1 := KX1.out.cell 7
      have kx_8_1 := KX1.out.cell 8
      simp at kx_1_1 kx_2_1 kx_3_1 kx_4_1 kx_5_1 kx_6_1 kx_7_1 kx_8_1
      go_wp2_with fail
      clear lkx_1 kx_1_1 kx_2_1 kx_3_1 kx_4_1 kx_5_1 kx_6_1 kx_7_1 kx_8_1
      refine (voidB_cancel V1.out x.o.ow x.o.se).mono ?_
      rintro e w2 ⟨rfl, b2⟩
      have KX2 := Lib.hid (KX1.out.below b2 KX1.out.lt)
      have KS2 := Lib.hid (KS1.out.below b2 KS1.out.lt)
      have V22 := Lib.hid (V21.out.below b2)
      have V2 := Lib.hid (V1.out.below b2)
      have B2 := Lib.hid (B1.out.trans (b2.mono B1.out.size))
      clear b2
      have lkx_2 := KX2.out.lt
      have kx_1_2 := KX2.out.cell 1
      have kx_2_2 := KX2.out.cell 2
      have kx_3_2 := KX2.out.cell 3
      have kx_4_2 := KX2.out.cell 4
      have kx_5_2 := KX2.out.cell 5
      have kx_6_2 := KX2.out.cell 6
      have kx_7_2 := KX2.out.cell 7
      have kx_8_2 := KX2.out.cell 8
      simp at kx_1_2 kx_2_2 kx_3_2 kx_4_2 kx_5_2 kx_6_2 kx_7_2 kx_8_2
      go_wp2_with fail
      clear lkx_2 kx_1_2 kx_2_2 kx_3_2 kx_4_2 kx_5_2 kx_6_2 kx_7_2 kx_8_2
      refine (voidB_findL V2.out x.o.se).mono ?_
      rintro e w3 ⟨rfl, b3⟩
      have bz3 := b3
      replace b3 := bz3.alloc bz3.size (.cells #[.int .u64 0, .int .u8 0, .int .u8 0, .int .u8 0, .int .i64 0, .int .i64 0, .int .i64 0] 39)
      clear bz3
      have KX3 := Lib.hid (KX2.out.below b3 KX2.out.lt)
      have KS3 := Lib.hid (KS2.out.below b3 KS2.out.lt)
      have V23 := Lib.hid (V22.out.below b3)
      have V3 := Lib.hid (V2.out.below b3)
      have B3 := Lib.hid (B2.out.trans (b3.mono B2.out.size))
      clear b3
      have lkx_3 := KX3.out.lt
      have kx_1_3 := KX3.out.cell 1
      have kx_2_3 := KX3.out.cell 2
      have kx_3_3 := KX3.out.cell 3
      have kx_4_3 := KX3.out.cell 4
      have kx_5_3 := KX3.out.cell 5
      have kx_6_3 := KX3.out.cell 6
      have kx_7_3 := KX3.out.cell 7
      have kx_8_3 := KX3.out.cell 8
      simp at kx_1_3 kx_2_3 kx_3_3 kx_4_3 kx_5_3 kx_6_3 kx_7_3 kx_8_3
      go_wp2_with fail
      clear lkx_3 kx_1_3 kx_2_3 kx_3_3 kx_4_3 kx_5_3 kx_6_3 kx_7_3 kx_8_3
      refine (voidB_take V3.out x.o.se x.n).mono ?_
      rintro e w4 ⟨rfl, b4⟩
      have KX4 := Lib.hid (KX3.out.below b4 KX3.out.lt)
      have KS4 := Lib.hid (KS3.out.below b4 KS3.out.lt)
      have V24 := Lib.hid (V23.out.below b4)
      have V4 := Lib.hid (V3.out.below b4)
      have B4 := Lib.hid (B3.out.trans (b4.mono B3.out.size))
      clear b4
      have lkx_4 := KX4.out.lt
      have kx_1_4 := KX4.out.cell 1
      have kx_2_4 := KX4.out.cell 2
      have kx_3_4 := KX4.out.cell 3
      have kx_4_4 := KX4.out.cell 4
      have kx_5_4 := KX4.out.cell 5
      have kx_6_4 := KX4.out.cell 6
      have kx_7_4 := KX4.out.cell 7
      have kx_8_4 := KX4.out.cell 8
      simp at kx_1_4 kx_2_4 kx_3_4 kx_4_4 kx_5_4 kx_6_4 kx_7_4 kx_8_4
      go_wp2_with fail
      clear lkx_4 kx_1_4 kx_2_4 kx_3_4 kx_4_4 kx_5_4 kx_6_4 kx_7_4 kx_8_4
      refine (voidB_best V4.out x.o.sl x.o.bu).mono ?_
      rintro e w5 ⟨v5, rfl, r5, b5⟩
      have KX5 := Lib.hid (KX4.out.below b5 KX4.out.lt)
      have KS5 := Lib.hid (KS4.out.below b5 KS4.out.lt)
      have V25 := Lib.hid (V24.out.below b5)
      have V5 := Lib.hid (V4.out.below b5)
      have B5 := Lib.hid (B4.out.trans (b5.mono B4.out.size))
      clear b5
      obtain ⟨ao5, cp5, hv5, _, _⟩ := rowed_open (l := []) r5
      subst hv5
      clear r5
      have lkx_5 := KX5.out.lt
      have kx_1_5 := KX5.out.cell 1
      have kx_2_5 := KX5.out.cell 2
      have kx_3_5 := KX5.out.cell 3
      have kx_4_5 := KX5.out.cell 4
      have kx_5_5 := KX5.out.cell 5
      have kx_6_5 := KX5.out.cell 6
      have kx_7_5 := KX5.out.cell 7
      have kx_8_5 := KX5.out.cell 8
      simp at kx_1_5 kx_2_5 kx_3_5 kx_4_5 kx_5_5 kx_6_5 kx_7_5 kx_8_5
      go_wp2_with fail
      clear lkx_5 kx_1_5 kx_2_5 kx_3_5 kx_4_5 kx_5_5 kx_6_5 kx_7_5 kx_8_5
      refine (voidB_all V5.out).mono ?_
      rintro e w6 ⟨v6, rfl, r6, b6⟩
      have KX6 := Lib.hid (KX5.out.below b6 KX5.out.lt)
      have KS6 := Lib.hid (KS5.out.below b6 KS5.out.lt)
      have V26 := Lib.hid (V25.out.below b6)
      have V6 := Lib.hid (V5.out.below b6)
      have B6 := Lib.hid (B5.out.trans (b6.mono B5.out.size))
      clear b6
      obtain ⟨ao6, cp6, hv6, _, _⟩ := rowed_open (l := []) r6
      subst hv6
      clear r6
      have lkx_6 := KX6.out.lt
      have kx_1_6 := KX6.out.cell 1
      have kx_2_6 := KX6.out.cell 2
      have kx_3_6 := KX6.out.cell 3
      have kx_4_6 := KX6.out.cell 4
      have kx_5_6 := KX6.out.cell 5
      have kx_6_6 := KX6.out.cell 6
      have kx_7_6 := KX6.out.cell 7
      have kx_8_6 := KX6.out.cell 8
      simp at kx_1_6 kx_2_6 kx_3_6 kx_4_6 kx_5_6 kx_6_6 kx_7_6 kx_8_6
      go_wp2_with fail
      clear lkx_6 kx_1_6 kx_2_6 kx_3_6 kx_4_6 kx_5_6 kx_6_6 kx_7_6 kx_8_6
      refine (V6.out.next _ (Below.refl _ _)).mono ?_
      rintro e w7 ⟨rfl, hs7⟩
      subst hs7
      have lkx_7 := KX6.out.lt
      have kx_1_7 := KX6.out.cell 1
      have kx_2_7 := KX6.out.cell 2
      have kx_3_7 := KX6.out.cell 3
      have kx_4_7 := KX6.out.cell 4
      have kx_5_7 := KX6.out.cell 5
      have kx_6_7 := KX6.out.cell 6
      have kx_7_7 := KX6.out.cell 7
      have kx_8_7 := KX6.out.cell 8
      simp at kx_1_7 kx_2_7 kx_3_7 kx_4_7 kx_5_7 kx_6_7 kx_7_7 kx_8_7
      go_wp2_with fail
      clear lkx_7 kx_1_7 kx_2_7 kx_3_7 kx_4_7 kx_5_7 kx_6_7 kx_7_7 kx_8_7
      refine (voidB_copy V6.out).mono ?_
      rintro e w8 ⟨rfl, hs8⟩
      subst hs8
      have lkx_8 := KX6.out.lt
      have kx_1_8 := KX6.out.cell 1
      have kx_2_8 := KX6.out.cell 2
      have kx_3_8 := KX6.out.cell 3
      have kx_4_8 := KX6.out.cell 4
      have kx_5_8 := KX6.out.cell 5
      have kx_6_8 := KX6.out.cell 6
      have kx_7_8 := KX6.out.cell 7
      have kx_8_8 := KX6.out.cell 8
      simp at kx_1_8 kx_2_8 kx_3_8 kx_4_8 kx_5_8 kx_6_8 kx_7_8 kx_8_8
      go_wp2_with fail
      clear lkx_8 kx_1_8 kx_2_8 kx_3_8 kx_4_8 kx_5_8 kx_6_8 kx_7_8 kx_8_8
      go_roundw
      case rel => exact ⟨k + 1, by omega, by go_num, KX6, KS6, V26, B6⟩
      case measure => simp [intOf]; omega
    · clear KX0 KS0 V20
      have L := Lib.hid (lives04_any wr)
      go_wp2_with fail
      refine L.out.mono ?_
      rintro e w1 ⟨rfl, b1⟩
      have B1 := Lib.hid (B0.out.trans (b1.mono B0.out.size))
      clear b1 L
      go_wp2_with fail
      go_ret
      exact ⟨rfl, B1.out⟩

end Go.Proofs.Ytdbdeodcldogmaa
