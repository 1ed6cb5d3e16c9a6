/-
  Layer 9's examples, over what the program's Route and Most tell (written by gen_lives9.py).
-/
import Derived.Test.YtajmladlmkkimaaPPay
import Derived.Test.YtajmladlmkkimaaPLed
namespace Go.Proofs.Ytajmladlmkkimaa
open Go.RowKit
set_option linter.unusedSimpArgs false
set_option linter.unusedVariables false

def way9 (s t : Int) (σ : RS) : Nat → RS
  | 0 => σ
  | k + 1 => wayR s t (way9 s t σ k)
theorem route9_by {f0 : Int → Int → Int} {B s t want : Int} (h : GInv f0 B) : ∀ k, (∀ j, j < k → ¬ doneR s t (way9 s t ⟨f0, want, []⟩ j)) → RInv f0 B s t want k (way9 s t ⟨f0, want, []⟩ k)
  | 0, _ => RInv.start h s t want
  | k + 1, hj => (route9_by h k (fun j hk => hj j (by omega))).step (hj k (by omega))
theorem route9_is {f0 : Int → Int → Int} {B s t want : Int} (h : GInv f0 B) (k : Nat) (hj : ∀ j, j < k → ¬ doneR s t (way9 s t ⟨f0, want, []⟩ j)) (hd : doneR s t (way9 s t ⟨f0, want, []⟩ k)) : IsRoute f0 B s t want (way9 s t ⟨f0, want, []⟩ k) :=
  ⟨k, route9_by h k hj, hd⟩
def p9 : List Int := [1, 2, 3]
def l9 : List Ln := [⟨2, 1, 1, 10, 0⟩, ⟨3, 2, 1, 4, 0⟩]
def m9 : List Ln := [⟨2, 1, 1, 10, 4⟩, ⟨3, 2, 1, 4, 4⟩]
theorem lv9_a0 : (∀ j, j < 1 → ¬ doneR 1 3 (way9 1 3 ⟨roomF p9 l9 1, 5, []⟩ j)) ∧ doneR 1 3 (way9 1 3 ⟨roomF p9 l9 1, 5, []⟩ 1) ∧ payN p9 1 3 1 5 (way9 1 3 ⟨roomF p9 l9 1, 5, []⟩ 1) = 0 ∧ payE p9 1 3 1 5 (way9 1 3 ⟨roomF p9 l9 1, 5, []⟩ 1) = 11 ∧ payL p9 l9 1 3 1 5 (way9 1 3 ⟨roomF p9 l9 1, 5, []⟩ 1) = l9 := by
  unfold doneR
  decide +kernel
theorem lv9_a (h : GInv (roomF p9 l9 1) 4398046511104) : ∃ σ, IsRoute (roomF p9 l9 1) 4398046511104 1 3 5 σ ∧ payN p9 1 3 1 5 σ = 0 ∧ payE p9 1 3 1 5 σ = 11 ∧ payL p9 l9 1 3 1 5 σ = l9 := ⟨_, route9_is h 1 lv9_a0.1 lv9_a0.2.1, lv9_a0.2.2⟩
theorem lv9_b0 : (∀ j, j < 1 → ¬ doneR 1 3 (way9 1 3 ⟨roomF p9 l9 1, 4, []⟩ j)) ∧ doneR 1 3 (way9 1 3 ⟨roomF p9 l9 1, 4, []⟩ 1) ∧ payN p9 1 3 1 4 (way9 1 3 ⟨roomF p9 l9 1, 4, []⟩ 1) = 2 ∧ payE p9 1 3 1 4 (way9 1 3 ⟨roomF p9 l9 1, 4, []⟩ 1) = 0 ∧ payL p9 l9 1 3 1 4 (way9 1 3 ⟨roomF p9 l9 1, 4, []⟩ 1) = m9 := by
  unfold doneR
  decide +kernel
theorem lv9_b (h : GInv (roomF p9 l9 1) 4398046511104) : ∃ σ, IsRoute (roomF p9 l9 1) 4398046511104 1 3 4 σ ∧ payN p9 1 3 1 4 σ = 2 ∧ payE p9 1 3 1 4 σ = 0 ∧ payL p9 l9 1 3 1 4 σ = m9 := ⟨_, route9_is h 1 lv9_b0.1 lv9_b0.2.1, lv9_b0.2.2⟩
theorem lv9_c0 : (∀ j, j < 1 → ¬ doneR 3 1 (way9 3 1 ⟨roomF p9 m9 1, 4, []⟩ j)) ∧ doneR 3 1 (way9 3 1 ⟨roomF p9 m9 1, 4, []⟩ 1) ∧ payN p9 3 1 1 4 (way9 3 1 ⟨roomF p9 m9 1, 4, []⟩ 1) = 2 ∧ payE p9 3 1 1 4 (way9 3 1 ⟨roomF p9 m9 1, 4, []⟩ 1) = 0 ∧ payL p9 m9 3 1 1 4 (way9 3 1 ⟨roomF p9 m9 1, 4, []⟩ 1) = l9 := by
  unfold doneR
  decide +kernel
theorem lv9_c (h : GInv (roomF p9 m9 1) 4398046511104) : ∃ σ, IsRoute (roomF p9 m9 1) 4398046511104 3 1 4 σ ∧ payN p9 3 1 1 4 σ = 2 ∧ payE p9 3 1 1 4 σ = 0 ∧ payL p9 m9 3 1 1 4 σ = l9 := ⟨_, route9_is h 1 lv9_c0.1 lv9_c0.2.1, lv9_c0.2.2⟩
theorem lv9_d0 : (∀ j, j < 0 → ¬ doneR 1 1 (way9 1 1 ⟨roomF p9 l9 1, 4, []⟩ j)) ∧ doneR 1 1 (way9 1 1 ⟨roomF p9 l9 1, 4, []⟩ 0) ∧ payN p9 1 1 1 4 (way9 1 1 ⟨roomF p9 l9 1, 4, []⟩ 0) = 0 ∧ payE p9 1 1 1 4 (way9 1 1 ⟨roomF p9 l9 1, 4, []⟩ 0) = 1 ∧ payL p9 l9 1 1 1 4 (way9 1 1 ⟨roomF p9 l9 1, 4, []⟩ 0) = l9 := by
  unfold doneR
  decide +kernel
theorem lv9_d (h : GInv (roomF p9 l9 1) 4398046511104) : ∃ σ, IsRoute (roomF p9 l9 1) 4398046511104 1 1 4 σ ∧ payN p9 1 1 1 4 σ = 0 ∧ payE p9 1 1 1 4 σ = 1 ∧ payL p9 l9 1 1 1 4 σ = l9 := ⟨_, route9_is h 0 lv9_d0.1 lv9_d0.2.1, lv9_d0.2.2⟩
theorem lv9_e0 : (∀ j, j < 0 → ¬ doneR 1 9 (way9 1 9 ⟨roomF p9 l9 1, 4, []⟩ j)) ∧ doneR 1 9 (way9 1 9 ⟨roomF p9 l9 1, 4, []⟩ 0) ∧ payN p9 1 9 1 4 (way9 1 9 ⟨roomF p9 l9 1, 4, []⟩ 0) = 0 ∧ payE p9 1 9 1 4 (way9 1 9 ⟨roomF p9 l9 1, 4, []⟩ 0) = 7 ∧ payL p9 l9 1 9 1 4 (way9 1 9 ⟨roomF p9 l9 1, 4, []⟩ 0) = l9 := by
  unfold doneR
  decide +kernel
theorem lv9_e (h : GInv (roomF p9 l9 1) 4398046511104) : ∃ σ, IsRoute (roomF p9 l9 1) 4398046511104 1 9 4 σ ∧ payN p9 1 9 1 4 σ = 0 ∧ payE p9 1 9 1 4 σ = 7 ∧ payL p9 l9 1 9 1 4 σ = l9 := ⟨_, route9_is h 0 lv9_e0.1 lv9_e0.2.1, lv9_e0.2.2⟩
theorem lv9_m0 : (∀ j, j < 1 → ¬ doneR 1 3 (way9 1 3 ⟨roomF p9 l9 1, mostW, []⟩ j)) ∧ doneR 1 3 (way9 1 3 ⟨roomF p9 l9 1, mostW, []⟩ 1) ∧ mostW - (way9 1 3 ⟨roomF p9 l9 1, mostW, []⟩ 1).left = 4 := by
  unfold doneR
  decide +kernel
theorem lv9_m (h : GInv (roomF p9 l9 1) 4398046511104) : ∃ σ, IsRoute (roomF p9 l9 1) 4398046511104 1 3 mostW σ ∧ mostW - σ.left = 4 := ⟨_, route9_is h 1 lv9_m0.1 lv9_m0.2.1, lv9_m0.2.2⟩
def Lives09 : Prop := ∀ w, Calls Try.prog 17 #[] w fun e w' => e = .returned (.bool true) ∧ Below w.heap.size w w'
set_option maxHeartbeats 16000000 in
set_option maxRecDepth 100000 in
theorem lives09_any (HR : RouteProg) (HM : MostProg) : Lives09 := fun w => by
  have HRo := Lib.hid HR
  have HMo := Lib.hid HM
  clear HR HM
  go_enter Try.func17, Try.ntmps17
  go_wp2_with fail
  refine (new_any w).mono ?_
  rintro e w0 ⟨G, M, rfl, h0, hG, hM, hb0⟩
  have H0 := Lib.hid h0
  have B0 := Lib.hid hb0
  have I0 := Lib.hid LInv.nil
  clear h0 hb0
  have c1 := Lib.hid (open_any H0.out I0.out.bd 1)
  rw [show openE [] 1 = 0 by decide, show openP [] 1 = [1] by decide] at c1
  have I1 : Hid (LInv [1] []) := Lib.hid (by have := LInv.open I0.out 1; rwa [show openP [] 1 = [1] by decide] at this)
  go_wp2_with fail
  refine c1.out.mono ?_
  rintro e w1 ⟨rfl, h1, k1⟩
  have H1 := Lib.hid h1
  have B1 := Lib.hid (B0.out.trans (k1.below B0.out.size (fun b hb e => by omega)))
  clear h1 k1 c1 H0 B0 I0
  have c2 := Lib.hid (open_any H1.out I1.out.bd 2)
  rw [show openE [1] 2 = 0 by decide, show openP [1] 2 = [1, 2] by decide] at c2
  have I2 : Hid (LInv [1, 2] []) := Lib.hid (by have := LInv.open I1.out 2; rwa [show openP [1] 2 = [1, 2] by decide] at this)
  go_wp2_with fail
  refine c2.out.mono ?_
  rintro e w2 ⟨rfl, h2, k2⟩
  have H2 := Lib.hid h2
  have B2 := Lib.hid (B1.out.trans (k2.below B1.out.size (fun b hb e => by omega)))
  clear h2 k2 c2 H1 B1 I1
  have c3 := Lib.hid (open_any H2.out I2.out.bd 3)
  rw [show openE [1, 2] 3 = 0 by decide, show openP [1, 2] 3 = [1, 2, 3] by decide] at c3
  have I3 : Hid (LInv [1, 2, 3] []) := Lib.hid (by have := LInv.open I2.out 3; rwa [show openP [1, 2] 3 = [1, 2, 3] by decide] at this)
  go_wp2_with fail
  refine c3.out.mono ?_
  rintro e w3 ⟨rfl, h3, k3⟩
  have H3 := Lib.hid h3
  have B3 := Lib.hid (B2.out.trans (k3.below B2.out.size (fun b hb e => by omega)))
  clear h3 k3 c3 H2 B2 I2
  have c4 := Lib.hid (ptrust_any (a := 2) (b := 1) (c := 1) (n := 10) H3.out I3.out (by unfold In8; decide) (by unfold In8; decide) (by unfold In8; decide))
  rw [show trustE [1, 2, 3] [] 2 1 1 10 = 0 by decide, show trustL [1, 2, 3] [] 2 1 1 10 = [⟨2, 1, 1, 10, 0⟩] by decide] at c4
  have I4 : Hid (LInv [1, 2, 3] [⟨2, 1, 1, 10, 0⟩]) := Lib.hid (by have := LInv.trust I3.out 2 1 1 10; rwa [show trustL [1, 2, 3] [] 2 1 1 10 = [⟨2, 1, 1, 10, 0⟩] by decide] at this)
  go_wp2_with fail
  refine c4.out.mono ?_
  rintro e w4 ⟨rfl, h4, k4⟩
  have H4 := Lib.hid h4
  have B4 := Lib.hid (B3.out.trans (k4.below B3.out.size (fun b hb e => by omega)))
  clear h4 k4 c4 H3 B3 I3
  have c5 := Lib.hid (ptrust_any (a := 3) (b := 2) (c := 1) (n := 4) H4.out I4.out (by unfold In8; decide) (by unfold In8; decide) (by unfold In8; decide))
  rw [show trustE [1, 2, 3] [⟨2, 1, 1, 10, 0⟩] 3 2 1 4 = 0 by decide, show trustL [1, 2, 3] [⟨2, 1, 1, 10, 0⟩] 3 2 1 4 = [⟨2, 1, 1, 10, 0⟩, ⟨3, 2, 1, 4, 0⟩] by decide] at c5
  have I5 : Hid (LInv [1, 2, 3] [⟨2, 1, 1, 10, 0⟩, ⟨3, 2, 1, 4, 0⟩]) := Lib.hid (by have := LInv.trust I4.out 3 2 1 4; rwa [show trustL [1, 2, 3] [⟨2, 1, 1, 10, 0⟩] 3 2 1 4 = [⟨2, 1, 1, 10, 0⟩, ⟨3, 2, 1, 4, 0⟩] by decide] at this)
  go_wp2_with fail
  refine c5.out.mono ?_
  rintro e w5 ⟨rfl, h5, k5⟩
  have H5 := Lib.hid h5
  have B5 := Lib.hid (B4.out.trans (k5.below B4.out.size (fun b hb e => by omega)))
  clear h5 k5 c5 H4 B4 I4
  have J5 : Hid (LInv p9 l9) := Lib.hid I5.out
  have HH5 : Hid (LedM w5 G M p9 l9) := Lib.hid H5.out
  have J6 : Hid (LInv p9 m9) := Lib.hid (by
    have h := pushAll_inv (c := 1) [⟨1, 2, 4⟩, ⟨2, 3, 4⟩] J5.out
    rwa [show pushAll p9 1 l9 [⟨1, 2, 4⟩, ⟨2, 3, 4⟩] = m9 by decide +kernel] at h)
  obtain ⟨σm, hm, em⟩ := lv9_m (roomF_inv J5.out 1)
  obtain ⟨σa, ha, na, ea, la⟩ := lv9_a (roomF_inv J5.out 1)
  obtain ⟨σb, hb, nb, eb, lb⟩ := lv9_b (roomF_inv J5.out 1)
  obtain ⟨σc, hc, nc, ec, lc⟩ := lv9_c (roomF_inv J6.out 1)
  obtain ⟨σd, hd, nd, ed, ld⟩ := lv9_d (roomF_inv J5.out 1)
  obtain ⟨σe, he, ne, ee, le⟩ := lv9_e (roomF_inv J5.out 1)
  have cm := Lib.hid (pmost9_any HMo.out HH5.out J5.out (a := 1) (b := 3) (c := 1) (by unfold In8; decide) (by unfold In8; decide) (by unfold In8; decide) hm)
  rw [em] at cm
  have XA := Lib.hid (fun w (h : LedM w G M p9 l9) => ppay_any HRo.out h J5.out (by unfold In8; decide) (by unfold In8; decide) (by unfold In8; decide) (by unfold In64; decide) ha)
  rw [na, ea, la] at XA
  have XB := Lib.hid (fun w (h : LedM w G M p9 l9) => ppay_any HRo.out h J5.out (by unfold In8; decide) (by unfold In8; decide) (by unfold In8; decide) (by unfold In64; decide) hb)
  rw [nb, eb, lb] at XB
  have XC := Lib.hid (fun w (h : LedM w G M p9 m9) => ppay_any HRo.out h J6.out (by unfold In8; decide) (by unfold In8; decide) (by unfold In8; decide) (by unfold In64; decide) hc)
  rw [nc, ec, lc] at XC
  have XD := Lib.hid (fun w (h : LedM w G M p9 l9) => ppay_any HRo.out h J5.out (by unfold In8; decide) (by unfold In8; decide) (by unfold In8; decide) (by unfold In64; decide) hd)
  rw [nd, ed, ld] at XD
  have XE := Lib.hid (fun w (h : LedM w G M p9 l9) => ppay_any HRo.out h J5.out (by unfold In8; decide) (by unfold In8; decide) (by unfold In8; decide) (by unfold In64; decide) he)
  rw [ne, ee, le] at XE
  clear hm em ha na ea la hb nb eb lb hc nc ec lc hd nd ed ld he ne ee le H5 I5
  go_wp2_with fail
  refine cm.out.mono ?_
  rintro e w6 ⟨rfl, b6⟩
  have H6 := Lib.hid (HH5.out.below b6)
  have B6 := Lib.hid (B5.out.trans (b6.mono B5.out.size))
  clear b6 cm HH5 B5
  go_wp2_with fail
  refine (XA.out _ H6.out).mono ?_
  rintro e w7 ⟨rfl, h7, k7⟩
  have H7 := Lib.hid h7
  have B7 := Lib.hid (B6.out.trans (k7.below B6.out.size (fun b hb e => by omega)))
  clear h7 k7 H6 B6
  go_wp2_with fail
  refine (XB.out _ H7.out).mono ?_
  rintro e w8 ⟨rfl, h8, k8⟩
  have H8 := Lib.hid h8
  have B8 := Lib.hid (B7.out.trans (k8.below B7.out.size (fun b hb e => by omega)))
  clear h8 k8 H7 B7
  go_wp2_with fail
  refine (XC.out _ H8.out).mono ?_
  rintro e w9 ⟨rfl, h9, k9⟩
  have H9 := Lib.hid h9
  have B9 := Lib.hid (B8.out.trans (k9.below B8.out.size (fun b hb e => by omega)))
  clear h9 k9 H8 B8
  go_wp2_with fail
  refine (XD.out _ H9.out).mono ?_
  rintro e w10 ⟨rfl, h10, k10⟩
  have H10 := Lib.hid h10
  have B10 := Lib.hid (B9.out.trans (k10.below B9.out.size (fun b hb e => by omega)))
  clear h10 k10 H9 B9
  go_wp2_with fail
  refine (XE.out _ H10.out).mono ?_
  rintro e w11 ⟨rfl, h11, k11⟩
  have H11 := Lib.hid h11
  have B11 := Lib.hid (B10.out.trans (k11.below B10.out.size (fun b hb e => by omega)))
  clear h11 k11 H10 B10
  go_wp2_with fail
  go_ret
  exact ⟨rfl, B11.out⟩

end Go.Proofs.Ytajmladlmkkimaa
