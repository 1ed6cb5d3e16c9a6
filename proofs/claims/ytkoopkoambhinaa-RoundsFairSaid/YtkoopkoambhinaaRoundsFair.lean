/-
  RoundsFair: the walk, for every debts.
-/
import Derived.Test.YtkoopkoambhinaaFairMath
import Derived.StillTailTactics
namespace Go.Proofs.Ytkoopkoambhinaa
open Go.RowKit
set_option linter.unusedSimpArgs false
set_option linter.unusedVariables false

set_option maxHeartbeats 16000000 in
set_option maxRecDepth 100000 in
theorem fair_walk (a : Option Addr) (len cap : Nat) (xs : List Fw) (w : World) (h0 : SlIn Fw.vals 3 Fw.Fits w a len cap xs) :
    Calls Try.prog 4 #[.slice a len cap] w fun e w' => e = .returned (.bool true) ∧ Below w.heap.size w w' := by
  have hzl := h0.2.1
  have HD := Lib.hid h0.debts
  have HF := Lib.hid (fit_debts h0.2.2.1)
  have LV := Lib.hid lives08_any
  clear h0
  subst hzl
  have CG := Lib.hid (great_any (cap := cap) HD.out)
  go_enter Try.func4, Try.ntmps4
  go_wp2_with fail
  refine CG.out.mono ?_
  rintro e w1 ⟨⟨b, rfl, hb⟩, rfl⟩
  clear CG
  cases b with
  | true =>
    clear hb
    go_wp2_with fail
    refine (LV.out _).mono ?_
    rintro e w2 ⟨rfl, b2⟩
    have B2 := Lib.hid b2
    clear b2
    go_wp2_with fail
    go_ret
    exact ⟨rfl, B2.out⟩
  | false =>
    have hle := hb rfl
    have HLE := Lib.hid hle
    clear hb
    by_cases hM : MayD xs
    case neg =>
      have C1 := Lib.hid (least_bad (cap := cap) (q := 1152921504606846976) HD.out HF.out hle (fun h => hM h.1))
      clear hM
      go_wp2_with fail
      refine C1.out.mono ?_
      rintro e w2 ⟨rfl, b2⟩
      have B2 := Lib.hid b2
      clear b2 C1
      go_wp2_with fail
      refine (LV.out _).mono ?_
      rintro e w3 ⟨rfl, b3⟩
      have B3 := Lib.hid (andB B2.out b3)
      clear b3
      go_wp2_with fail
      go_ret
      exact ⟨rfl, B3.out⟩
    obtain ⟨L, k, hL⟩ := least_ends hM
    have hkb := hL.k_bd hM hle
    have HM := Lib.hid hM
    have HL := Lib.hid hL
    have C1 := Lib.hid (least_done (cap := cap) (q := 1152921504606846976) HD.out HF.out hle hM (by omega) hL (by omega))
    have hk0 : (0 : Int) ≤ (k : Int) := by omega
    have hk1 : decide ((k : Int) < 0) = false := decide_eq_false (by omega)
    have hks := hL.inv.k_le
    obtain ⟨s0, s9⟩ := am_bd hM
    have s8 : sumN (amD xs) xs.length ≤ 263882790666240 := by omega
    have hsum := hL.inv.sum
    have hpos : 0 ≤ sumN L xs.length := by
      have := sumN_le (g := fun _ => 0) (h := L) xs.length (fun i hi => hL.inv.ok.lo i hi)
      have hz : ∀ n, sumN (fun _ => 0) n = 0 := fun n => by induction n with | zero => rfl | succ n ih => show sumN _ n + 0 = 0; rw [ih]; rfl
      rw [hz] at this
      exact this
    have LM := Lib.hid (left_may hM hL.inv.ok)
    have LD := Lib.hid (left_done hM hL)
    have LA := Lib.hid (leftL_am (left_may hM hL.inv.ok))
    have LF := Lib.hid (left_fair hM hle hL)
    obtain ⟨far, hfar⟩ := left_least hM hle hL
    have LE := Lib.hid hfar
    have LS := Lib.hid (left_sum hL.inv.ok)
    have hll : (leftL xs L).length ≤ 240 := Nat.le_trans (leftN_len xs L xs.length) hle
    have HLL := Lib.hid hll
    have FL := Lib.hid (show DebtsFit (leftL xs L) from fun m hm => by
      have h := LF.out.okL m hm
      exact ⟨⟨by omega, by omega⟩, ⟨by omega, by omega⟩, by omega, by omega⟩)
    have AM := Lib.hid (show ∀ i, i < xs.length → 0 ≤ (dbt xs i).am ∧ (dbt xs i).am ≤ 1099511627776 from fun i hi => (LF.out.okM i hi).2.2)
    have AL := Lib.hid (show ∀ i, i < (leftL xs L).length → 0 ≤ (dbt (leftL xs L) i).am ∧ (dbt (leftL xs L) i).am ≤ 1099511627776 from fun i hi => by have h := LF.out.okL i hi; exact ⟨by omega, by omega⟩)
    clear hM hL hfar hll s9
    go_wp2_with fail
    refine C1.out.mono ?_
    rintro e w2 ⟨v2, rfl, hv2, b2⟩
    have B2 := Lib.hid b2
    have V2 := Lib.hid hv2
    obtain ⟨ao2, cap2, rfl, _⟩ := hv2.look
    have CS := Lib.hid (sumF_any (cap := cap) (HD.out.below b2) hle AM.out)
    have CL := Lib.hid (least_done (cap := cap2) (q := 0) (reads_debts (V2.out.reads (by have := HLL.out; omega))) FL.out HLL.out LM.out (by omega) LD.out (by omega))
    generalize hSa : sumN (amD xs) xs.length = S at *
    clear hv2 b2 C1
    go_wp2_with fail
    refine CS.out.mono ?_
    rintro e w3 ⟨rfl, rfl⟩
    clear CS
    go_wp2_with fail
    refine CL.out.mono ?_
    rintro e w4 ⟨v4, rfl, hv4, b4⟩
    rw [LA.out] at hv4
    have B4 := Lib.hid (andB B2.out b4)
    have V4 := Lib.hid hv4
    have V2b := Lib.hid (V2.out.below b4)
    obtain ⟨ao4, cap4, rfl, _⟩ := hv4.look
    have C5 := Lib.hid (least_done (cap := cap) (q := S) (HD.out.below B4.out) HF.out hle HM.out (by omega) HL.out hks)
    clear hv4 b4 CL V2 B2
    go_wp2_with fail
    refine C5.out.mono ?_
    rintro e w5 ⟨v5, rfl, hv5, b5⟩
    have B5 := Lib.hid (andB B4.out b5)
    have V5 := Lib.hid hv5
    have V4b := Lib.hid (V4.out.below b5)
    have V2c := Lib.hid (V2b.out.below b5)
    obtain ⟨ao5, cap5, rfl, _⟩ := hv5.look
    have D2 := Lib.hid (reads_debts (V2c.out.reads (by have := HLL.out; omega)))
    have CS := Lib.hid (sumF_any (cap := cap2) D2.out HLL.out AL.out)
    rw [LS.out] at CS
    have q1 : decide (S - sumN L xs.length < (k : Int)) = false := by simp; omega
    generalize hT : sumN L xs.length = T at *
    clear hv5 b5 C5 V2b V4 B4
    go_wp2_with fail
    refine CS.out.mono ?_
    rintro e w6 ⟨rfl, rfl⟩
    clear CS
    have CF := Lib.hid (fair_any (ca := cap2) (cb := cap) D2.out (HD.out.below B5.out) LF.out)
    go_wp2_with fail
    refine CF.out.mono ?_
    rintro e w7 ⟨rfl, b7⟩
    have B7 := Lib.hid (andB B5.out b7)
    have D7 := Lib.hid (D2.out.below b7)
    have V2d := Lib.hid (V2c.out.below b7)
    have V4d := Lib.hid (V4b.out.below b7)
    have V5d := Lib.hid (V5.out.below b7)
    have CE := Lib.hid (leastF_any (ca := cap2) (cb := cap) D7.out (HD.out.below B7.out) LE.out)
    clear b7 CF D2 V2c V4b V5 B5
    go_wp2_with fail
    refine CE.out.mono ?_
    rintro e w8 ⟨rfl, b8⟩
    have B8 := Lib.hid (andB B7.out b8)
    have V2e := Lib.hid (V2d.out.below b8)
    have V4e := Lib.hid (V4d.out.below b8)
    have V5e := Lib.hid (V5d.out.below b8)
    have C9 := Lib.hid (SameFlows_any (la := leftL xs L) (lb := leftL xs L) (V4e.out.reads (by have := HLL.out; omega)) (V2e.out.reads (by have := HLL.out; omega)))
    rw [decide_eq_true rfl] at C9
    clear b8 CE D7 V2d V4d V5d B7
    go_wp2_with fail
    refine C9.out.mono ?_
    rintro e w9 ⟨rfl, b9⟩
    have B9 := Lib.hid (andB B8.out b9)
    have C10 := Lib.hid (SameFlows_any (la := leftL xs L) (lb := leftL xs L) ((V5e.out.below b9).reads (by have := HLL.out; omega)) ((V2e.out.below b9).reads (by have := HLL.out; omega)))
    rw [decide_eq_true rfl] at C10
    clear b9 C9 B8
    go_wp2_with fail
    refine C10.out.mono ?_
    rintro e w10 ⟨rfl, b10⟩
    have B10 := Lib.hid (andB B9.out b10)
    clear b10 C10
    go_wp2_with fail
    refine (LV.out _).mono ?_
    rintro e w11 ⟨rfl, b11⟩
    have B11 := Lib.hid (andB B10.out b11)
    clear b11
    go_wp2_with fail
    go_ret
    exact ⟨rfl, B11.out⟩

end Go.Proofs.Ytkoopkoambhinaa
