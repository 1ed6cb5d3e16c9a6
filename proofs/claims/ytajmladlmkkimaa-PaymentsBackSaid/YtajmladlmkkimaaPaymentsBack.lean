/-
  PaymentsBack: the walk, for every acts and every payment (written by gen_pback.py).
-/
import Derived.Test.YtajmladlmkkimaaLives09
import Derived.Test.YtajmladlmkkimaaSound
import Derived.Test.YtajmladlmkkimaaSortL
import Derived.Test.YtajmladlmkkimaaActs
namespace Go.Proofs.Ytajmladlmkkimaa
open Go.RowKit
set_option linter.unusedSimpArgs false
set_option linter.unusedVariables false

def BackP (w : World) (G M G2 M2 X : Nat) (ps : List Int) (ls lt : List Ln) (xc : Array Value) (c : Value) (wr : World) : Prop :=
  ∃ q : Int, 1 ≤ q ∧ q ≤ 17 ∧ c = .int .u8 q ∧ LedM wr G M ps lt ∧ LedM wr G2 M2 ps ls ∧ Blk wr X xc 47 ∧ Below w.heap.size w wr
set_option maxHeartbeats 32000000 in
set_option maxRecDepth 100000 in
theorem pback_walk (HR : RouteProg) (HM : MostProg) (HL : Lives09) (a : Option Addr) (len cap : Nat) (xs : List Ac) (fr tt cu n : Int) (w : World) (h0 : ActsIn w a len cap xs) (ha : In8 fr) (hb : In8 tt) (hc : In8 cu) (hn : In64 n) :
    Calls Try.prog 7 #[.slice a len cap, .agg #[.int .u8 fr, .int .u8 tt, .int .u8 cu, .int .i64 n]] w fun e w' => e = .returned (.bool true) ∧ Below w.heap.size w w' := by
  have HA := Lib.hid h0
  have hcap := h0.2.2.1
  have hmax := h0.2.2.2.1
  unfold maxLen at hmax
  have HFr := Lib.hid ha
  have HTt := Lib.hid hb
  have HCu := Lib.hid hc
  have HN := Lib.hid hn
  have HRo := Lib.hid HR
  have HMo := Lib.hid HM
  have HLo := Lib.hid HL
  clear h0 ha hb hc hn HR HM HL
  by_cases hle : ¬ len ≤ 120
  · go_enter Try.func7, Try.ntmps7
    go_wp2_with fail
    have B0 := Lib.hid ((Below.refl w.heap.size w).alloc (Nat.le_refl _) (.cells #[.int .u8 fr, .int .u8 tt, .int .u8 cu, .int .i64 n] 47))
    refine (HLo.out _).mono ?_
    rintro e w1 ⟨rfl, b1⟩
    have B1 := Lib.hid (B0.out.trans (b1.mono B0.out.size))
    clear b1
    go_wp2_with fail
    go_ret
    exact ⟨rfl, B1.out⟩
  have hle := Decidable.not_not.1 hle
  go_enter Try.func7, Try.ntmps7
  go_wp2_with fail
  have X0 := Lib.hid (Blk.new w #[.int .u8 fr, .int .u8 tt, .int .u8 cu, .int .i64 n] 47)
  have B0 := Lib.hid ((Below.refl w.heap.size w).alloc (Nat.le_refl _) (.cells #[.int .u8 fr, .int .u8 tt, .int .u8 cu, .int .i64 n] 47))
  have HA0 := Lib.hid (HA.out.below ((Below.refl w.heap.size w).alloc (Nat.le_refl _) (.cells #[.int .u8 fr, .int .u8 tt, .int .u8 cu, .int .i64 n] 47)))
  have hz0 : (w.alloc (.cells #[.int .u8 fr, .int .u8 tt, .int .u8 cu, .int .i64 n] 47)).heap.size = w.heap.size + 1 := by simp
  generalize w.alloc (.cells #[.int .u8 fr, .int .u8 tt, .int .u8 cu, .int .i64 n] 47) = W0 at *
  refine (made_acts HA0.out hle).mono ?_
  rintro e w1 ⟨G, M, ps, ls, rfl, hL, hI, hG, hM, b1⟩
  rw [hz0] at hG hM
  have hGl := hL.blk.lt
  have hMl := hL.map.lt
  have hGM := hL.ne
  have I1 := Lib.hid hI
  have L1 := Lib.hid hL
  have X1 := Lib.hid (X0.out.below b1 X0.out.lt)
  have B1 := Lib.hid (B0.out.trans (b1.mono B0.out.size))
  clear hL hI b1 X0 B0 HA0 HA
  go_wp2_with fail
  refine (pcopy_any L1.out).mono ?_
  rintro e w2 ⟨G2, M2, rfl, hC2, hG2, hM2, b2⟩
  have B2 := Lib.hid (B1.out.trans (b2.mono B1.out.size))
  have X2 := Lib.hid (X1.out.below b2 X1.out.lt)
  have L2 := Lib.hid (L1.out.below b2)
  have C2 := Lib.hid hC2
  clear b2 hC2 L1 X1 B1
  obtain ⟨μ, hμ⟩ := route_ends (roomF_inv I1.out cu) fr tt mostW
  obtain ⟨σ, hσ⟩ := route_ends (roomF_inv I1.out cu) fr tt n
  have HMu := Lib.hid hμ
  have HSi := Lib.hid hσ
  obtain ⟨m, hm⟩ : ∃ m, mostW - μ.left = m := ⟨_, rfl⟩
  have HMm := Lib.hid hm
  clear hμ hσ hm
  have kx2 := X2.out.lt
  have x0_2 := X2.out.cell 0; have x1_2 := X2.out.cell 1; have x2_2 := X2.out.cell 2; have x3_2 := X2.out.cell 3
  simp at x0_2 x1_2 x2_2 x3_2
  go_wp2_with fail
  clear kx2 x0_2 x1_2 x2_2 x3_2
  refine (ppay_any HRo.out L2.out I1.out HFr.out HTt.out HCu.out HN.out HSi.out).mono ?_
  rintro e w3 ⟨rfl, hL3, k3⟩
  have L3 := Lib.hid hL3
  have C3 := Lib.hid (C2.out.keep k3 (by show ¬ G2 = M; omega) (by show ¬ M2 = M; omega))
  have X3 := Lib.hid (X2.out.keep k3 (by show ¬ w.heap.size = M; omega))
  have B3 := Lib.hid (B2.out.trans (k3.below B2.out.size (fun q hq e => by omega)))
  clear hL3 k3
  obtain ⟨got, hgot⟩ : ∃ got, n - σ.left = got := ⟨_, rfl⟩
  have HG := Lib.hid hgot
  have WC := wrong_cases (fun p => decide (p ∈ ps)) fr tt cu n got
  have EE : payE ps fr tt cu n σ = wrongE 1 (fun p => decide (p ∈ ps)) fr tt cu n got := by unfold payE; rw [hgot]
  rw [← EE] at WC
  clear EE hgot
  obtain ⟨er, her⟩ : ∃ er, payE ps fr tt cu n σ = er := ⟨_, rfl⟩
  have HER := Lib.hid her
  rw [her] at WC ⊢
  clear her
  obtain ⟨np, hnp⟩ : ∃ np, payN ps fr tt cu n σ = np := ⟨_, rfl⟩
  rw [hnp]
  clear hnp
  by_cases h0 : er ≠ 0
  · skip
    have q0 : (er == 0) = false := by simpa using h0
    clear WC h0
    have kx3 := X3.out.lt
    have x0_3 := X3.out.cell 0; have x1_3 := X3.out.cell 1; have x2_3 := X3.out.cell 2; have x3_3 := X3.out.cell 3
    simp at x0_3 x1_3 x2_3 x3_3
    go_wp2_with fail
    clear kx3 x0_3 x1_3 x2_3 x3_3
    refine (HLo.out _).mono ?_
    rintro e w4 ⟨rfl, b4⟩
    have L4 := Lib.hid (L3.out.below b4)
    have C4 := Lib.hid (C3.out.below b4)
    have X4 := Lib.hid (X3.out.below b4 X3.out.lt)
    have B4 := Lib.hid (B3.out.trans (b4.mono B3.out.size))
    clear b4
    go_wp2_with fail
    go_ret
    exact ⟨rfl, B4.out⟩
  have h0 := Decidable.not_not.1 h0
  subst h0
  obtain ⟨hmay, hf, ht, hge⟩ : payMay fr tt cu n ∧ fr ∈ ps ∧ tt ∈ ps ∧ ¬ got < n := by
    rcases WC with ⟨h1, _⟩ | ⟨h1, _⟩ | ⟨h1, _⟩ | ⟨_, h1, h2, h3, h4⟩
    · exact absurd h1 (by decide)
    · exact absurd h1 (by decide)
    · exact absurd h1 (by decide)
    · exact ⟨h1, by simpa using h2, by simpa using h3, h4⟩
  obtain ⟨p1, p2, p3, p4, p5, p6, p7⟩ := hmay
  have hgn : got = n := by have := HSi.out.nw p6; have := HG.out; omega
  have hl0 : σ.left = 0 := by have := HG.out; omega
  have GI0 := roomF_inv I1.out cu
  have PL : payL ps ls fr tt cu n σ = pushAll ps cu ls σ.out := by unfold payL; rw [if_pos HER.out]
  have I2 := pushAll_inv (ps := ps) (c := cu) σ.out I1.out
  have HF : roomF ps (pushAll ps cu ls σ.out) cu = σ.f := by rw [pushAll_room σ.out I1.out HSi.out.good.1, HSi.out.good.2]
  obtain ⟨τ, hτ⟩ := route_ends HSi.out.g tt fr n
  have hl1 : τ.left = 0 := by have h1 := back_goes GI0 p1 p2 p3 p6 HSi.out (by omega) hτ; have h2 := hτ.nw p6; omega
  have GI2 := roomF_inv I2 cu
  have hτ2 : IsRoute (roomF ps (pushAll ps cu ls σ.out) cu) 4398046511104 tt fr n τ := by rw [HF]; exact hτ
  have PE : payE ps tt fr cu n τ = 0 := by
    rcases wrong_cases (fun p => decide (p ∈ ps)) tt fr cu n (n - τ.left) with ⟨_, h1⟩ | ⟨_, _, h2⟩ | ⟨_, _, _, _, h3⟩ | ⟨h1, _⟩
    · exact absurd ⟨p2, p1, fun e => p3 e.symm, p4, p5, p6, p7⟩ h1
    · rcases h2 with h2 | h2
      · exact absurd ht (by simpa using h2)
      · exact absurd hf (by simpa using h2)
    · omega
    · exact h1
  have PL2 : payL ps (pushAll ps cu ls σ.out) tt fr cu n τ = pushAll ps cu (pushAll ps cu ls σ.out) τ.out := by unfold payL; rw [if_pos PE]
  have I3 := pushAll_inv (ps := ps) (c := cu) τ.out I2
  have HF3 : roomF ps (pushAll ps cu (pushAll ps cu ls σ.out) τ.out) cu = τ.f := by rw [pushAll_room τ.out I2 (by rw [HF]; exact hτ.good.1), HF, hτ.good.2]
  have LI : limL (pushAll ps cu (pushAll ps cu ls σ.out) τ.out) = limL ls := by rw [pushAll_lims τ.out I2, pushAll_lims σ.out I1.out]
  have POS : ∀ p, posL (pushAll ps cu (pushAll ps cu ls σ.out) τ.out) p cu = posL ls p cu + 0 := fun p => by
    rw [pushAll_pos p τ.out I2 (by rw [HF]; exact hτ.good.1) cu, if_pos rfl, pushAll_pos p σ.out I1.out HSi.out.good.1 cu, if_pos rfl, HSi.out.net p, hτ.net p, hl0, hl1]
    split <;> split <;> omega
  obtain ⟨ν, hν⟩ := route_ends hτ.g fr tt mostW
  have hmm := back_most GI0 p1 p2 p3 HSi.out hτ hl0 hl1 HMu.out hν
  rw [HMm.out] at hmm
  have hν2 : IsRoute (roomF ps (pushAll ps cu (pushAll ps cu ls σ.out) τ.out) cu) 4398046511104 fr tt mostW ν := by rw [HF3]; exact hν
  have LT := Lib.hid (show LedM _ G M ps (pushAll ps cu ls σ.out) from by have := L3.out; rwa [PL] at this)
  have PY := Lib.hid (fun w (h : LedM w G M ps (pushAll ps cu ls σ.out)) => ppay_any HRo.out h I2 HTt.out HFr.out HCu.out HN.out hτ2)
  rw [PE, PL2] at PY
  have CM1 := Lib.hid (fun w (h : LedM w G M ps (pushAll ps cu (pushAll ps cu ls σ.out) τ.out)) => pmost9_any HMo.out h I3 HFr.out HTt.out HCu.out hν2)
  rw [hmm] at CM1
  have CM2 := Lib.hid (fun w (h : LedM w G2 M2 ps ls) => pmost9_any HMo.out h I1.out HFr.out HTt.out HCu.out HMu.out)
  rw [HMm.out] at CM2
  have IT := Lib.hid I3
  have LIo := Lib.hid LI
  have POSo := Lib.hid POS
  obtain ⟨nq, hnq⟩ : ∃ nq, payN ps tt fr cu n τ = nq := ⟨_, rfl⟩
  rw [hnq] at PY
  generalize pushAll ps cu (pushAll ps cu ls σ.out) τ.out = lt at *
  generalize pushAll ps cu ls σ.out = lu at *
  clear L3 WC p1 p2 p3 p4 p5 p6 p7 hf ht hge hgn hl0 GI0 PL I2 HF hτ hl1 GI2 hτ2 PE PL2 I3 HF3 LI POS hν hmm hν2 hnq
  have kx3 := X3.out.lt
  have x0_3 := X3.out.cell 0; have x1_3 := X3.out.cell 1; have x2_3 := X3.out.cell 2; have x3_3 := X3.out.cell 3
  simp at x0_3 x1_3 x2_3 x3_3
  go_wp2_with fail
  clear kx3 x0_3 x1_3 x2_3 x3_3
  refine (PY.out _ LT.out).mono ?_
  rintro e w4 ⟨rfl, hL4, k4⟩
  have L4 := Lib.hid hL4
  have C4 := Lib.hid (C3.out.keep k4 (by show ¬ G2 = M; omega) (by show ¬ M2 = M; omega))
  have X4 := Lib.hid (X3.out.keep k4 (by show ¬ w.heap.size = M; omega))
  have B4 := Lib.hid (B3.out.trans (k4.below B3.out.size (fun q hq e => by omega)))
  clear hL4 k4
  clear PY
  have kx4 := X4.out.lt
  have x0_4 := X4.out.cell 0; have x1_4 := X4.out.cell 1; have x2_4 := X4.out.cell 2; have x3_4 := X4.out.cell 3
  simp at x0_4 x1_4 x2_4 x3_4
  go_wp2_with fail
  clear kx4 x0_4 x1_4 x2_4 x3_4
  refine (sound_any L4.out IT.out C4.out I1.out LIo.out).mono ?_
  rintro e w5 ⟨rfl, b5⟩
  have L5 := Lib.hid (L4.out.below b5)
  have C5 := Lib.hid (C4.out.below b5)
  have X5 := Lib.hid (X4.out.below b5 X4.out.lt)
  have B5 := Lib.hid (B4.out.trans (b5.mono B4.out.size))
  clear b5
  have kx5 := X5.out.lt
  have x0_5 := X5.out.cell 0; have x1_5 := X5.out.cell 1; have x2_5 := X5.out.cell 2; have x3_5 := X5.out.cell 3
  simp at x0_5 x1_5 x2_5 x3_5
  go_wp2_with fail
  clear kx5 x0_5 x1_5 x2_5 x3_5
  go_loopw [11] (fun c wr => BackP w G M G2 M2 w.heap.size ps ls lt #[.int .u8 fr, .int .u8 tt, .int .u8 cu, .int .i64 n] c wr) (fun c _ => 17 - (intOf c).toNat)
  case atStart => exact ⟨1, by omega, by omega, rfl, L5.out, C5.out, X5.out, B5.out⟩
  case round =>
    clear L5 C5 X5 B5
    obtain ⟨p, p1, p2, rfl, hL, hC, hX, hB⟩ := hrel
    have LR := Lib.hid hL
    have CR := Lib.hid hC
    have XR := Lib.hid hX
    have BR := Lib.hid hB
    clear hL hC hX hB
    by_cases hp : p ≤ 16
    · skip
      have MM := Lib.hid (moved_any LR.out IT.out CR.out I1.out p cu (n := 0) (by omega) (by omega))
      rw [decide_eq_true (POSo.out p)] at MM
      have kx20 := XR.out.lt
      have x0_20 := XR.out.cell 0; have x1_20 := XR.out.cell 1; have x2_20 := XR.out.cell 2; have x3_20 := XR.out.cell 3
      simp at x0_20 x1_20 x2_20 x3_20
      go_wp2_with fail
      clear kx20 x0_20 x1_20 x2_20 x3_20
      refine (MM.out).mono ?_
      rintro e w21 ⟨rfl, b21⟩
      have L21 := Lib.hid (LR.out.below b21)
      have C21 := Lib.hid (CR.out.below b21)
      have X21 := Lib.hid (XR.out.below b21 XR.out.lt)
      have B21 := Lib.hid (BR.out.trans (b21.mono BR.out.size))
      clear b21
      clear MM
      go_wp2_with fail
      exact ⟨⟨p + 1, by omega, by omega, by go_num, L21.out, C21.out, X21.out, B21.out⟩, by simp [intOf]; omega⟩
    have hp17 : p = 17 := by omega
    subst hp17
    have C1 := Lib.hid (fun w' (h : Below wr.heap.size wr w') => CM1.out w' (LR.out.below h))
    have C2 := Lib.hid (fun w' (h : Below wr.heap.size wr w') => CM2.out w' (CR.out.below h))
    clear CM1 CM2 LR CR
    go_wp2_with fail
    refine region_still (by kernel_rfl) [(.pointer (some ⟨G, 0, none⟩)), (.pointer (some ⟨w.heap.size, 0, none⟩)), (.int .u8 fr), (.pointer (some ⟨w.heap.size, 1, none⟩)), (.int .u8 tt), (.pointer (some ⟨w.heap.size, 2, none⟩)), (.int .u8 cu), (.int .i64 m), (.pointer (some ⟨G2, 0, none⟩)), (.pointer (some ⟨w.heap.size, 0, none⟩)), (.int .u8 fr), (.pointer (some ⟨w.heap.size, 1, none⟩)), (.int .u8 tt), (.pointer (some ⟨w.heap.size, 2, none⟩)), (.int .u8 cu), (.int .i64 m), (.bool true), (.bool true), (.bool true), (.bool true), (.bool true)]
      (fun w' => Below wr.heap.size wr w') (by kernel_rfl) (Below.refl _ _).drew ?_
    intro af haf
    simp only [List.toList_toArray, List.append_eq, List.cons_append, List.nil_append, puts, Act.put, List.getD_cons_zero, List.getD_cons_succ, List.setIfInBounds_toArray, List.set_cons_succ, List.set_cons_zero] at haf
    subst haf
    refine ⟨?_, ?_⟩
    · simp only [List.toList_toArray, List.append_eq, List.cons_append, List.nil_append, EachTo]
      refine ⟨?_, ?_, ?_, ?_, ?_, ?_, ?_, ?_, ?_, ?_, ?_, ?_, ?_, ?_, ?_, ?_, ?_, ?_, ?_, ?_, ?_, trivial⟩
      · intro w' hS
        refine OpTo.plain ?_ ?_
        exact rfl
        have HS := Lib.hid hS
        clear hS
        go_wp2_with fail
        all_goals first | exact HS.out | exact ⟨rfl, HS.out⟩ | rfl | exact ⟨by omega, HS.out⟩
      · intro w' hS
        refine OpTo.plain ?_ ?_
        exact rfl
        have kx := XR.out.below hS XR.out.lt
        have hl := kx.lt
        have e0 := kx.cell 0; have e1 := kx.cell 1; have e2 := kx.cell 2; have e3 := kx.cell 3
        simp at e0 e1 e2 e3
        clear kx
        have HS := Lib.hid hS
        clear hS
        go_wp2_with fail
        all_goals first | exact HS.out | exact ⟨rfl, HS.out⟩ | rfl | exact ⟨by omega, HS.out⟩
      · intro w' hS
        refine OpTo.plain ?_ ?_
        exact rfl
        have kx := XR.out.below hS XR.out.lt
        have hl := kx.lt
        have e0 := kx.cell 0; have e1 := kx.cell 1; have e2 := kx.cell 2; have e3 := kx.cell 3
        simp at e0 e1 e2 e3
        clear kx
        have HS := Lib.hid hS
        clear hS
        go_wp2_with fail
        all_goals first | exact HS.out | exact ⟨rfl, HS.out⟩ | rfl | exact ⟨by omega, HS.out⟩
      · intro w' hS
        refine OpTo.plain ?_ ?_
        exact rfl
        have kx := XR.out.below hS XR.out.lt
        have hl := kx.lt
        have e0 := kx.cell 0; have e1 := kx.cell 1; have e2 := kx.cell 2; have e3 := kx.cell 3
        simp at e0 e1 e2 e3
        clear kx
        have HS := Lib.hid hS
        clear hS
        go_wp2_with fail
        all_goals first | exact HS.out | exact ⟨rfl, HS.out⟩ | rfl | exact ⟨by omega, HS.out⟩
      · intro w' hS
        refine OpTo.plain ?_ ?_
        exact rfl
        have kx := XR.out.below hS XR.out.lt
        have hl := kx.lt
        have e0 := kx.cell 0; have e1 := kx.cell 1; have e2 := kx.cell 2; have e3 := kx.cell 3
        simp at e0 e1 e2 e3
        clear kx
        have HS := Lib.hid hS
        clear hS
        go_wp2_with fail
        all_goals first | exact HS.out | exact ⟨rfl, HS.out⟩ | rfl | exact ⟨by omega, HS.out⟩
      · intro w' hS
        refine OpTo.plain ?_ ?_
        exact rfl
        have kx := XR.out.below hS XR.out.lt
        have hl := kx.lt
        have e0 := kx.cell 0; have e1 := kx.cell 1; have e2 := kx.cell 2; have e3 := kx.cell 3
        simp at e0 e1 e2 e3
        clear kx
        have HS := Lib.hid hS
        clear hS
        go_wp2_with fail
        all_goals first | exact HS.out | exact ⟨rfl, HS.out⟩ | rfl | exact ⟨by omega, HS.out⟩
      · intro w' hS
        refine OpTo.plain ?_ ?_
        exact rfl
        have kx := XR.out.below hS XR.out.lt
        have hl := kx.lt
        have e0 := kx.cell 0; have e1 := kx.cell 1; have e2 := kx.cell 2; have e3 := kx.cell 3
        simp at e0 e1 e2 e3
        clear kx
        have HS := Lib.hid hS
        clear hS
        go_wp2_with fail
        all_goals first | exact HS.out | exact ⟨rfl, HS.out⟩ | rfl | exact ⟨by omega, HS.out⟩
      · intro w' hS
        refine OpTo.plain ?_ ?_
        exact rfl
        have HS := Lib.hid hS
        clear hS
        go_wp2_with fail
        refine (C1.out w' HS.out).mono ?_
        rintro e w'' ⟨rfl, hb2⟩
        exact ⟨rfl, andB HS.out hb2⟩
      · intro w' hS
        refine OpTo.plain ?_ ?_
        exact rfl
        have HS := Lib.hid hS
        clear hS
        go_wp2_with fail
        all_goals first | exact HS.out | exact ⟨rfl, HS.out⟩ | rfl | exact ⟨by omega, HS.out⟩
      · intro w' hS
        refine OpTo.plain ?_ ?_
        exact rfl
        have kx := XR.out.below hS XR.out.lt
        have hl := kx.lt
        have e0 := kx.cell 0; have e1 := kx.cell 1; have e2 := kx.cell 2; have e3 := kx.cell 3
        simp at e0 e1 e2 e3
        clear kx
        have HS := Lib.hid hS
        clear hS
        go_wp2_with fail
        all_goals first | exact HS.out | exact ⟨rfl, HS.out⟩ | rfl | exact ⟨by omega, HS.out⟩
      · intro w' hS
        refine OpTo.plain ?_ ?_
        exact rfl
        have kx := XR.out.below hS XR.out.lt
        have hl := kx.lt
        have e0 := kx.cell 0; have e1 := kx.cell 1; have e2 := kx.cell 2; have e3 := kx.cell 3
        simp at e0 e1 e2 e3
        clear kx
        have HS := Lib.hid hS
        clear hS
        go_wp2_with fail
        all_goals first | exact HS.out | exact ⟨rfl, HS.out⟩ | rfl | exact ⟨by omega, HS.out⟩
      · intro w' hS
        refine OpTo.plain ?_ ?_
        exact rfl
        have kx := XR.out.below hS XR.out.lt
        have hl := kx.lt
        have e0 := kx.cell 0; have e1 := kx.cell 1; have e2 := kx.cell 2; have e3 := kx.cell 3
        simp at e0 e1 e2 e3
        clear kx
        have HS := Lib.hid hS
        clear hS
        go_wp2_with fail
        all_goals first | exact HS.out | exact ⟨rfl, HS.out⟩ | rfl | exact ⟨by omega, HS.out⟩
      · intro w' hS
        refine OpTo.plain ?_ ?_
        exact rfl
        have kx := XR.out.below hS XR.out.lt
        have hl := kx.lt
        have e0 := kx.cell 0; have e1 := kx.cell 1; have e2 := kx.cell 2; have e3 := kx.cell 3
        simp at e0 e1 e2 e3
        clear kx
        have HS := Lib.hid hS
        clear hS
        go_wp2_with fail
        all_goals first | exact HS.out | exact ⟨rfl, HS.out⟩ | rfl | exact ⟨by omega, HS.out⟩
      · intro w' hS
        refine OpTo.plain ?_ ?_
        exact rfl
        have kx := XR.out.below hS XR.out.lt
        have hl := kx.lt
        have e0 := kx.cell 0; have e1 := kx.cell 1; have e2 := kx.cell 2; have e3 := kx.cell 3
        simp at e0 e1 e2 e3
        clear kx
        have HS := Lib.hid hS
        clear hS
        go_wp2_with fail
        all_goals first | exact HS.out | exact ⟨rfl, HS.out⟩ | rfl | exact ⟨by omega, HS.out⟩
      · intro w' hS
        refine OpTo.plain ?_ ?_
        exact rfl
        have kx := XR.out.below hS XR.out.lt
        have hl := kx.lt
        have e0 := kx.cell 0; have e1 := kx.cell 1; have e2 := kx.cell 2; have e3 := kx.cell 3
        simp at e0 e1 e2 e3
        clear kx
        have HS := Lib.hid hS
        clear hS
        go_wp2_with fail
        all_goals first | exact HS.out | exact ⟨rfl, HS.out⟩ | rfl | exact ⟨by omega, HS.out⟩
      · intro w' hS
        refine OpTo.plain ?_ ?_
        exact rfl
        have HS := Lib.hid hS
        clear hS
        go_wp2_with fail
        refine (C2.out w' HS.out).mono ?_
        rintro e w'' ⟨rfl, hb2⟩
        exact ⟨rfl, andB HS.out hb2⟩
      · intro w' hS
        refine OpTo.plain ?_ ?_
        exact rfl
        have HS := Lib.hid hS
        clear hS
        go_wp2_with fail
        all_goals first | exact HS.out | exact ⟨rfl, HS.out⟩ | rfl | exact ⟨by omega, HS.out⟩
      · intro w' hS
        refine OpTo.plain ?_ ?_
        exact rfl
        have HS := Lib.hid hS
        clear hS
        go_wp2_with fail
        all_goals first | exact HS.out | exact ⟨rfl, HS.out⟩ | rfl | exact ⟨by omega, HS.out⟩
      · intro w' hS
        refine OpTo.wanted ?_ ?_
        kernel_rfl
        have HS := Lib.hid hS
        clear hS
        go_wp2_with fail
        refine (HLo.out w').mono ?_
        rintro e w'' ⟨rfl, hb2⟩
        exact ⟨rfl, andB HS.out hb2⟩
      · intro w' hS
        refine OpTo.plain ?_ ?_
        exact rfl
        have HS := Lib.hid hS
        clear hS
        go_wp2_with fail
        all_goals first | exact HS.out | exact ⟨rfl, HS.out⟩ | rfl | exact ⟨by omega, HS.out⟩
      · intro w' hS
        refine OpTo.plain ?_ ?_
        exact rfl
        have HS := Lib.hid hS
        clear hS
        go_wp2_with fail
        all_goals first | exact HS.out | exact ⟨rfl, HS.out⟩ | rfl | exact ⟨by omega, HS.out⟩
    intro W6 hS6
    have B6 := Lib.hid (BR.out.trans (hS6.mono BR.out.size))
    clear hS6
    go_wp2_with fail
    go_ret
    exact ⟨rfl, B6.out⟩
theorem pback_frame (HR : RouteProg) (HM : MostProg) (HL : Lives09) (a : Option Addr) (len cap : Nat) (xs : List Ac) (fr tt cu n : Int) (w : World) (h0 : ActsIn w a len cap xs) (ha : (Lit.int .u8 fr).wf = true) (hb : (Lit.int .u8 tt).wf = true) (hc : (Lit.int .u8 cu).wf = true) (hn : (Lit.int .i64 n).wf = true) :
    Calls Try.prog 7 #[.slice a len cap, .agg #[.int .u8 fr, .int .u8 tt, .int .u8 cu, .int .i64 n]] w fun e w' => e = .returned (.bool true) ∧ Below w.heap.size w w' :=
  pback_walk HR HM HL a len cap xs fr tt cu n w h0 (In8.of_wf ha) (In8.of_wf hb) (In8.of_wf hc) (In64.of_wf hn)

end Go.Proofs.Ytajmladlmkkimaa
