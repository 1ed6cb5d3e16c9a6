/-
  GraphsVoid: the walk, for every flow.
-/
import Derived.Test.YtdpkcamhafkkbaaLives05
import Derived.Test.YtdpkcamhafkkbaaPGrO
import Derived.Test.YtdpkcamhafkkbaaPVoid
import Derived.Test.YtdpkcamhafkkbaaFlwIn
namespace Go.Proofs.Ytdpkcamhafkkbaa
open Go.RowKit
set_option linter.unusedSimpArgs false
set_option linter.unusedVariables false

/-- A graph that is not there, or that no call made. -/
def VoidG (w : World) (v : Value) : Prop := v = .pointer none ∨ ∃ g, v = .pointer (some ⟨g, 0, none⟩) ∧ Blk w g (graC zeroF false) 52
theorem VoidG.below {w w' : World} {v : Value} (h : VoidG w v) (hb : Below w.heap.size w w') : VoidG w' v := by
  rcases h with h | ⟨g, h1, h2⟩
  · exact .inl h
  · exact .inr ⟨g, h1, h2.below hb h2.lt⟩
theorem VoidG.isG {w : World} {v : Value} (h : VoidG w v) : IsG w v zeroF := by
  rcases h with rfl | ⟨g, rfl, h2⟩
  · exact IsG.nil w
  · exact IsG.of h2
theorem VoidG.cap {w : World} {v : Value} (h : VoidG w v) (p q : Int) : Calls Try.prog 16 #[v, .int .u8 p, .int .u8 q] w fun e w' => e = .returned (.int .i64 0) ∧ w = w' := by
  rcases h with rfl | ⟨g, rfl, h2⟩
  · exact gcap_nil p q w
  · exact gcap_any h2 outF_zero p q
theorem VoidG.push {w : World} {v : Value} (h : VoidG w v) (p q n : Int) : Calls Try.prog 14 #[v, .int .u8 p, .int .u8 q, .int .i64 n] w fun e w' => e = .returned (.int .i64 2) ∧ w = w' := by
  rcases h with rfl | ⟨g, rfl, h2⟩
  · exact gpush_nil p q n w
  · exact gpush_unmade h2 p q n
theorem VoidG.copy {w : World} {v : Value} (h : VoidG w v) : Calls Try.prog 12 #[v] w fun e w' => e = .returned (.pointer none) ∧ w = w' := by
  rcases h with rfl | ⟨g, rfl, h2⟩
  · exact gcopy_nil w
  · exact gcopy_unmade h2
/-- No edges. -/
theorem edges_zero {w : World} {v : Value} (h : IsG w v zeroF) : Calls Try.prog 19 #[v] w fun e w' => (∃ ao, e = .returned (.slice ao 0 0)) ∧ Below w.heap.size w w' := by
  have c := gedges_any h outF_zero
  rw [allE_zero] at c
  refine c.mono fun e w' ⟨v', h1, h2, h3⟩ => ⟨?_, h3⟩
  obtain ⟨ao, rfl, _⟩ := rowed_shape h2
  exact ⟨ao, h1⟩
def VoidAt (W : World) (i : Value) (wr : World) : Prop := ∃ k : Nat, k ≤ 2 ∧ i = .int .i64 k ∧ Below W.heap.size W wr
set_option maxHeartbeats 16000000 in
set_option maxRecDepth 100000 in
theorem gvoid_walk (x : Fw) (w : World) (hx : x.Fits) :
    Calls Try.prog 4 #[.agg #[.int .u8 x.fr, .int .u8 x.tt, .int .i64 x.am]] w fun e w' => e = .returned (.bool true) ∧ Below w.heap.size w w' := by
  have hz := zero_gra.1
  have b0 := ((Below.refl w.heap.size w).alloc (Nat.le_refl _) (.cells #[.int .u8 x.fr, .int .u8 x.tt, .int .i64 x.am] 35))
  have b1 := b0.alloc b0.size (.cells (graC zeroF false) 52)
  have b2 := b1.alloc b1.size (.cells #[.pointer none, .pointer (some ⟨w.heap.size + 1, 0, none⟩)] 25)
  have kx := ((Blk.new w #[.int .u8 x.fr, .int .u8 x.tt, .int .i64 x.am] 35).alloc (.cells (graC zeroF false) 52)).alloc (.cells #[.pointer none, .pointer (some ⟨w.heap.size + 1, 0, none⟩)] 25)
  have kg := (Blk.newAt (w.alloc (.cells #[.int .u8 x.fr, .int .u8 x.tt, .int .i64 x.am] 35)) (graC zeroF false) 52 (g := w.heap.size + 1) (by simp)).alloc (.cells #[.pointer none, .pointer (some ⟨w.heap.size + 1, 0, none⟩)] 25)
  have kl := Blk.newAt ((w.alloc (.cells #[.int .u8 x.fr, .int .u8 x.tt, .int .i64 x.am] 35)).alloc (.cells (graC zeroF false) 52)) #[.pointer none, .pointer (some ⟨w.heap.size + 1, 0, none⟩)] 25 (g := w.heap.size + 1 + 1) (by simp)
  generalize hW : ((w.alloc (.cells #[.int .u8 x.fr, .int .u8 x.tt, .int .i64 x.am] 35)).alloc (.cells (graC zeroF false) 52)).alloc (.cells #[.pointer none, .pointer (some ⟨w.heap.size + 1, 0, none⟩)] 25) = W at *
  have C0 := Lib.hid (gof_any (w := W) (lv := .pointer none) (c := 1) (rf := zeroF) (fun w' _ p q hp hq => void_room (void_nil w') hp hq (by unfold In8; omega)))
  have B2 := Lib.hid b2
  have KX := Lib.hid kx
  have KG := Lib.hid kg
  have KL := Lib.hid kl
  have hW' := Lib.hid hW
  clear b0 b1 b2 kx kg kl hW
  go_enter Try.func4, Try.ntmps4
  go_wp2_with fail
  rw [hW'.out]
  refine C0.out.mono ?_
  rintro e w1 ⟨rfl, kb1, bb1⟩
  have B3 := Lib.hid (B2.out.trans (bb1.mono B2.out.size))
  have KX1 := Lib.hid (KX.out.below bb1 KX.out.lt)
  have KG1 := Lib.hid (KG.out.below bb1 KG.out.lt)
  have KL1 := Lib.hid (KL.out.below bb1 KL.out.lt)
  have KB1 := Lib.hid kb1
  generalize W.heap.size = G at *
  clear kb1 bb1 B2 KX KG KL hW' C0 hz
  go_wp2_with fail
  go_loopw [6] (VoidAt w1) (fun i _ => 2 - (intOf i).toNat)
  case atStart => exact ⟨0, by omega, rfl, Below.refl _ _⟩
  case round =>
    obtain ⟨k, hk, rfl, hb⟩ := hrel
    by_cases hk2 : k < 2
    · obtain ⟨gv, ov, VG, VO, d5, d6, hk'⟩ : ∃ gv ov, Hid (VoidG wr gv) ∧ Hid (VoidG wr ov) ∧ wr.cell? ⟨w.heap.size + 1 + 1, k, none⟩ = some gv ∧ Hid (∀ w', Below wr.heap.size wr w' → w'.cell? ⟨w.heap.size + 1 + 1, 1 - k, none⟩ = some ov) ∧ (gv = .pointer none ∨ ∃ a, gv = .pointer (some a)) := by
        have q0 := (KL1.out.below hb KL1.out.lt).cell 0
        have q1 := (KL1.out.below hb KL1.out.lt).cell 1
        simp at q0 q1
        have qq : ∀ w', Below wr.heap.size wr w' → ∀ o, w'.cell? ⟨w.heap.size + 1 + 1, o, none⟩ = wr.cell? ⟨w.heap.size + 1 + 1, o, none⟩ := fun w' h o => h.cell (p := ⟨w.heap.size + 1 + 1, o, none⟩) (KL1.out.below hb KL1.out.lt).lt
        have vg : VoidG wr (.pointer (some ⟨w.heap.size + 1, 0, none⟩)) := .inr ⟨_, rfl, KG1.out.below hb KG1.out.lt⟩
        have vn : VoidG wr (.pointer none) := .inl rfl
        rcases (by omega : k = 0 ∨ k = 1) with rfl | rfl
        · exact ⟨_, _, Lib.hid vn, Lib.hid vg, q0, Lib.hid fun w' h => by rw [qq w' h]; exact q1, .inl rfl⟩
        · exact ⟨_, _, Lib.hid vg, Lib.hid vn, q1, Lib.hid fun w' h => by rw [qq w' h]; exact q0, .inr ⟨_, rfl⟩⟩
      have KXr := Lib.hid (KX1.out.below hb KX1.out.lt)
      have KBr := Lib.hid (KB1.out.below hb KB1.out.lt)
      have hLl := (KL1.out.below hb KL1.out.lt).lt
      have BR := Lib.hid hb
      have hxl := KXr.out.lt
      have e0 := KXr.out.cell 0; have e1 := KXr.out.cell 1; have e2 := KXr.out.cell 2
      simp at e0 e1 e2
      have C1 := Lib.hid (VG.out.cap x.fr x.tt)
      have C2 := Lib.hid (VG.out.push x.fr x.tt x.am)
      have C3 := Lib.hid (edges_zero VG.out.isG)
      have hki : (k : Int) < 2 := by omega
      have hk1 : 0 ≤ 1 - (k : Int) := by omega
      have hk3 : 1 - (k : Int) < 2 := by omega
      clear hk' hb
      go_wp2_with fail
      refine C1.out.mono ?_
      rintro e wr ⟨rfl, rfl⟩
      go_wp2_with fail
      refine C2.out.mono ?_
      rintro e wr ⟨rfl, rfl⟩
      go_wp2_with fail
      refine C3.out.mono ?_
      rintro e w3 ⟨⟨ao, rfl⟩, b3⟩
      have BS := Lib.hid b3
      have C4 := Lib.hid ((VG.out.below b3).copy)
      clear C1 C2 C3 e0 e1 e2 b3 d5
      go_wp2_with fail
      refine C4.out.mono ?_
      rintro e w3 ⟨rfl, rfl⟩
      have C5 := Lib.hid (gsame_any (VG.out.below BS.out).isG (IsG.of (KBr.out.below BS.out KBr.out.lt)))
      rw [sameF_refl] at C5
      clear C4
      go_wp2_with fail
      refine C5.out.mono ?_
      rintro e w4 ⟨rfl, b4⟩
      have BT := Lib.hid (andB BS.out b4)
      have C6 := Lib.hid (gsame_any (IsG.of (KBr.out.below BT.out KBr.out.lt)) (VG.out.below BT.out).isG)
      rw [sameF_refl] at C6
      clear C5 BS b4
      go_wp2_with fail
      refine C6.out.mono ?_
      rintro e w5 ⟨rfl, b5⟩
      have BU := Lib.hid (andB BT.out b5)
      have C7 := Lib.hid (gsame_any (VG.out.below BU.out).isG (VO.out.below BU.out).isG)
      rw [sameF_refl] at C7
      have d7 := d6.out w5 BU.out
      have hL5 := Nat.lt_of_lt_of_le hLl BU.out.size
      clear C6 BT b5
      go_wp2_with fail
      refine C7.out.mono ?_
      rintro e w6 ⟨rfl, b6⟩
      have B6 := Lib.hid (andB BR.out (andB BU.out b6))
      clear C7 BU b6 d7
      go_wp2_with fail
      go_roundw
      case rel => exact ⟨k + 1, by omega, by go_num, B6.out⟩
      case measure => simp [intOf]; omega
    · have hk2 : k = 2 := by omega
      subst hk2
      have BR := Lib.hid hb
      have C1 := Lib.hid (edges_zero (IsG.of (KB1.out.below hb KB1.out.lt)))
      clear hb
      go_wp2_with fail
      refine C1.out.mono ?_
      rintro e w3 ⟨⟨ao, rfl⟩, b3⟩
      have B4 := Lib.hid (andB BR.out b3)
      have CL := Lib.hid (lives05_any w3)
      clear b3 C1
      go_wp2_with fail
      refine CL.out.mono ?_
      rintro e w4 ⟨rfl, b4⟩
      have B5 := Lib.hid (B3.out.trans ((andB B4.out b4).mono B3.out.size))
      clear b4 CL
      go_wp2_with fail
      go_ret
      exact ⟨rfl, B5.out⟩

end Go.Proofs.Ytdpkcamhafkkbaa
