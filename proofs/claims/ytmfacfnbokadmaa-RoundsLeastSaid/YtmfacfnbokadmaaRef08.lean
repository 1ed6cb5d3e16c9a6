/-
  countinghouseref08: May (written by gen_ref08.py).
-/
import Derived.Test.YtmfacfnbokadmaaRdMath
import Derived.Test.YtmfacfnbokadmaaFlwIn
import Derived.Test.YtmfacfnbokadmaaLays
import Derived.BigQuiet
namespace Go.Proofs.Ytmfacfnbokadmaa
open Go.RowKit
set_option linter.unusedSimpArgs false
set_option linter.unusedVariables false

theorem dbt_get {l : List Fw} {i : Nat} (h : i < l.length) : dbt l i = l[i] := by unfold dbt; simp [h]
/-- Debts, in memory: where each stands. -/
def DebtsIn (w : World) (ao : Option Addr) (l : List Fw) : Prop :=
  0 < l.length → ∃ b off, ao = some ⟨b, off, none⟩ ∧ b < w.heap.size ∧ ∀ m, m < l.length → w.cell? ⟨b, off + m * 3, none⟩ = some (.int .u8 (dbt l m).fr) ∧ w.cell? ⟨b, off + m * 3 + 1, none⟩ = some (.int .u8 (dbt l m).tt) ∧ w.cell? ⟨b, off + m * 3 + 2, none⟩ = some (.int .i64 (dbt l m).am)
theorem reads_debts {w : World} {ao : Option Addr} {cap : Nat} {l : List Fw} (h : Reads w (.slice ao l.length cap) 3 l.length (fwCells l)) : DebtsIn w ao l := by
  obtain ⟨ao', cap', hv, _, _, hcell⟩ := h
  cases hv
  intro h0
  obtain ⟨b, off, h1, h2, h3⟩ := hcell h0
  refine ⟨b, off, h1, h2, fun m hm => ?_⟩
  rw [dbt_get hm]
  refine ⟨?_, ?_, ?_⟩
  · have := h3 (m * 3 + 0) (by omega)
    rw [fwCells_get l m 0 (by omega) hm, show off + (m * 3 + 0) = off + m * 3 by omega] at this
    exact this
  · have := h3 (m * 3 + 1) (by omega)
    rw [fwCells_get l m 1 (by omega) hm, show off + (m * 3 + 1) = off + m * 3 + 1 by omega] at this
    exact this
  · have := h3 (m * 3 + 2) (by omega)
    rw [fwCells_get l m 2 (by omega) hm, show off + (m * 3 + 2) = off + m * 3 + 2 by omega] at this
    exact this
theorem DebtsIn.below {w w' : World} {ao : Option Addr} {l : List Fw} (h : DebtsIn w ao l) (hb : Below w.heap.size w w') : DebtsIn w' ao l := by
  intro h0
  obtain ⟨b, off, h1, h2, h3⟩ := h h0
  refine ⟨b, off, h1, Nat.lt_of_lt_of_le h2 hb.size, fun m hm => ?_⟩
  obtain ⟨a1, a2, a3⟩ := h3 m hm
  exact ⟨(hb.cell (p := ⟨b, off + m * 3, none⟩) h2).trans a1, (hb.cell (p := ⟨b, off + m * 3 + 1, none⟩) h2).trans a2, (hb.cell (p := ⟨b, off + m * 3 + 2, none⟩) h2).trans a3⟩
/-- What fits into a debt's fields. -/
def DebtsFit (l : List Fw) : Prop := ∀ m, m < l.length → (0 ≤ (dbt l m).fr ∧ (dbt l m).fr ≤ 255) ∧ (0 ≤ (dbt l m).tt ∧ (dbt l m).tt ≤ 255) ∧ -9223372036854775808 ≤ (dbt l m).am ∧ (dbt l m).am ≤ 9223372036854775807
theorem fit_debts {l : List Fw} (h : ∀ x ∈ l, x.Fits) : DebtsFit l := fun m hm => by
  rw [dbt_get hm]
  have := h _ (List.getElem_mem hm)
  exact ⟨this.fr, this.tt, this.am⟩
theorem mayN_next (l : List Fw) (k : Nat) : mayN l (k + 1) = (mayN l k && decide (okD (dbt l k)) && (decide (k = 0) || decide (keyD (dbt l (k - 1)) < keyD (dbt l k)))) := rfl
theorem mayN_less {l : List Fw} : ∀ {n : Nat} (k : Nat), k ≤ n → mayN l k = false → mayN l n = false
  | 0, k, hk, h => by
    have : k = 0 := by omega
    subst this; exact h
  | n + 1, k, hk, h => by
    by_cases hkn : k = n + 1
    · subst hkn; exact h
    · rw [mayN_next, mayN_less k (by omega) h]; rfl

def MayAt (w : World) (l : List Fw) (i : Value) (wr : World) : Prop := ∃ k : Nat, k ≤ l.length ∧ i = .int .i64 k ∧ Hid (mayN l k = true) ∧ Below w.heap.size w wr
set_option maxHeartbeats 16000000 in
set_option maxRecDepth 100000 in
theorem rmay_any {w : World} {ao : Option Addr} {cap : Nat} {l : List Fw} (hr : DebtsIn w ao l) (hfit : DebtsFit l) (hln : l.length ≤ 300) :
    Calls Try.prog 19 #[.slice ao l.length cap] w fun e w' => e = .returned (.bool (mayN l l.length)) ∧ Below w.heap.size w w' := by
  have HC := Lib.hid hr
  have HF := Lib.hid hfit
  clear hr hfit
  go_enter Try.func19, Try.ntmps19
  go_wp2_with fail
  go_loopw [3] (MayAt w l) (fun i _ => l.length - (intOf i).toNat)
  case atStart => exact ⟨0, by omega, rfl, Lib.hid rfl, Below.refl _ _⟩
  case round =>
    obtain ⟨k, hk, rfl, HM, hB⟩ := hrel
    have BB := Lib.hid hB
    clear hB
    by_cases hkl : k < l.length
    · have qk : decide ((k : Int) < (l.length : Int)) = true := by simpa using hkl
      have k0 : (0 : Int) ≤ (k : Int) := by omega
      have k1 : (k : Int) < (l.length : Int) := by omega
      obtain ⟨b, off, rfl, hbw, hcell⟩ := HC.out (by omega)
      obtain ⟨e0, e1, e2⟩ := hcell k hkl
      have d0 := (BB.out.cell (p := ⟨b, off + k * 3, none⟩) hbw).trans e0
      have d1 := (BB.out.cell (p := ⟨b, off + k * 3 + 1, none⟩) hbw).trans e1
      have d2 := (BB.out.cell (p := ⟨b, off + k * 3 + 2, none⟩) hbw).trans e2
      have HCELL := Lib.hid hcell
      have hbr := Nat.lt_of_lt_of_le hbw BB.out.size
      obtain ⟨⟨f0, f9⟩, ⟨t0, t9⟩, ⟨a0, a9⟩⟩ := HF.out k hkl
      obtain ⟨N, hN⟩ : ∃ N, l.length = N := ⟨_, rfl⟩
      have HN := Lib.hid hN
      obtain ⟨x, hx⟩ : ∃ x, dbt l k = x := ⟨_, rfl⟩
      have HX := Lib.hid hx
      have NF : Hid (¬ okD x → mayN l l.length = false) := Lib.hid fun h => by
        refine mayN_less (k + 1) (by omega) ?_
        rw [mayN_next, hx, decide_eq_false h, Bool.and_false, Bool.false_and]
      rw [hx] at d0 d1 d2 f0 f9 t0 t9 a0 a9
      rw [hN] at k1 qk hkl ⊢
      obtain ⟨fr, tt, am⟩ := x
      dsimp only at d0 d1 d2 f0 f9 t0 t9 a0 a9
      have BX := Lib.hid (BB.out.alloc BB.out.size (.cells #[.int .u8 fr, .int .u8 tt, .int .i64 am] 37))
      clear hcell e0 e1 e2 hx hN
      by_cases c1 : fr < 1
      · have q : decide (fr < 1) = true := by simpa using c1
        have r := NF.out (fun o => by have h := o.1.1; dsimp only at h; omega)
        have R := Lib.hid r
        clear r
        go_wp2_with fail
        go_ret
        exact ⟨by rw [R.out]; rfl, BX.out⟩
      have q1 : decide (fr < 1) = false := by simpa using c1
      by_cases c2 : 16 < fr
      · have q : decide (16 < fr) = true := by simpa using c2
        have r := NF.out (fun o => by have h := o.1.2; dsimp only at h; omega)
        have R := Lib.hid r
        clear r
        go_wp2_with fail
        go_ret
        exact ⟨by rw [R.out]; rfl, BX.out⟩
      have q2 : decide (16 < fr) = false := by simpa using c2
      by_cases c3 : tt < 1
      · have q : decide (tt < 1) = true := by simpa using c3
        have r := NF.out (fun o => by have h := o.2.1.1; dsimp only at h; omega)
        have R := Lib.hid r
        clear r
        go_wp2_with fail
        go_ret
        exact ⟨by rw [R.out]; rfl, BX.out⟩
      have q3 : decide (tt < 1) = false := by simpa using c3
      by_cases c4 : 16 < tt
      · have q : decide (16 < tt) = true := by simpa using c4
        have r := NF.out (fun o => by have h := o.2.1.2; dsimp only at h; omega)
        have R := Lib.hid r
        clear r
        go_wp2_with fail
        go_ret
        exact ⟨by rw [R.out]; rfl, BX.out⟩
      have q4 : decide (16 < tt) = false := by simpa using c4
      by_cases c5 : fr = tt
      · have q : (fr == tt) = true := by simpa using c5
        have r := NF.out (fun o => o.2.2.1 c5)
        have R := Lib.hid r
        clear r c5
        go_wp2_with fail
        go_ret
        exact ⟨by rw [R.out]; rfl, BX.out⟩
      have q5 : (fr == tt) = false := by simpa using c5
      by_cases c6 : am < 1
      · have q : decide (am < 1) = true := by simpa using c6
        have r := NF.out (fun o => by have h := o.2.2.2.1; dsimp only at h; omega)
        have R := Lib.hid r
        clear r
        go_wp2_with fail
        go_ret
        exact ⟨by rw [R.out]; rfl, BX.out⟩
      have q6 : decide (am < 1) = false := by simpa using c6
      by_cases c7 : 1099511627776 < am
      · have q : decide (1099511627776 < am) = true := by simpa using c7
        have r := NF.out (fun o => by have h := o.2.2.2.2; dsimp only at h; omega)
        have R := Lib.hid r
        clear r
        go_wp2_with fail
        go_ret
        exact ⟨by rw [R.out]; rfl, BX.out⟩
      have q7 : decide (1099511627776 < am) = false := by simpa using c7
      have OK : Hid (okD ⟨fr, tt, am⟩) := Lib.hid ⟨⟨by dsimp only; omega, by dsimp only; omega⟩, ⟨by dsimp only; omega, by dsimp only; omega⟩, c5, by dsimp only; omega, by dsimp only; omega⟩
      have g1 : 1 ≤ fr := by omega
      have g2 : fr ≤ 16 := by omega
      have g3 : 1 ≤ tt := by omega
      have g4 : tt ≤ 16 := by omega
      clear c5
      have OKD : decide (okD (dbt l k)) = true := by rw [HX.out]; exact decide_eq_true OK.out
      by_cases hk0 : k = 0
      · have NX : Hid (mayN l (k + 1) = true) := Lib.hid (by rw [mayN_next, HM.out, OKD, decide_eq_true hk0]; rfl)
        have q6 : decide (0 < (k : Int)) = false := by simp; omega
        have q6n : decide (0 < k) = false := by simp; omega
        clear hk0 OKD
        go_wp2_with fail
        go_quiet (fail)
        go_wp2_with fail
        exact ⟨⟨k + 1, by rw [HN.out]; omega, by go_num, NX, ⟨BX.out.os, BX.out.tape, BX.out.output, BX.out.size, BX.out.block⟩⟩, by simp [intOf]; omega⟩
      · have q6 : decide (0 < (k : Int)) = true := by simp; omega
        obtain ⟨j, rfl⟩ : ∃ j, k = j + 1 := ⟨k - 1, by omega⟩
        obtain ⟨p0, p1, _⟩ := HCELL.out j (by omega)
        obtain ⟨⟨u0, u9⟩, ⟨v0, v9⟩, _⟩ := HF.out j (by omega)
        obtain ⟨y, hy⟩ : ∃ y, dbt l j = y := ⟨_, rfl⟩
        have HY := Lib.hid hy
        rw [hy] at p0 p1 u0 u9 v0 v9
        obtain ⟨yf, yt, ya⟩ := y
        dsimp only at p0 p1 u0 u9 v0 v9
        have dp0 := (BB.out.cell (p := ⟨b, off + j * 3, none⟩) hbw).trans p0
        have dp1 := (BB.out.cell (p := ⟨b, off + j * 3 + 1, none⟩) hbw).trans p1
        clear hy hk0 p0 p1
        by_cases hkey : 256 * yf + yt < 256 * fr + tt
        · have q7 : decide (256 * fr + tt ≤ 256 * yf + yt) = false := by simp; omega
          have NX : Hid (mayN l (j + 1 + 1) = true) := Lib.hid (by rw [mayN_next, HM.out, OKD, Nat.add_sub_cancel, HX.out, HY.out, show decide (keyD ⟨yf, yt, ya⟩ < keyD ⟨fr, tt, am⟩) = true from decide_eq_true hkey, Bool.or_true]; rfl)
          clear hkey OKD
          go_wp2_with fail
          go_quiet (fail)
          go_wp2_with fail
          exact ⟨⟨j + 1 + 1, by rw [HN.out]; omega, by go_num, NX, ⟨BX.out.os, BX.out.tape, BX.out.output, BX.out.size, BX.out.block⟩⟩, by simp [intOf]; omega⟩
        · have q7 : decide (256 * fr + tt ≤ 256 * yf + yt) = true := by simp; omega
          have R : Hid (mayN l l.length = false) := Lib.hid (mayN_less (j + 1 + 1) (by rw [HN.out]; omega) (by rw [mayN_next, Nat.add_sub_cancel, HX.out, HY.out, show decide (keyD ⟨yf, yt, ya⟩ < keyD ⟨fr, tt, am⟩) = false from decide_eq_false hkey, show decide (j + 1 = 0) = false from decide_eq_false (by omega), Bool.or_false, Bool.and_false]))
          clear hkey OKD
          go_wp2_with fail
          go_quiet (fail)
          go_wp2_with fail
          go_ret
          exact ⟨by rw [R.out]; rfl, ⟨BX.out.os, BX.out.tape, BX.out.output, BX.out.size, BX.out.block⟩⟩
    · have hkn : k = l.length := by omega
      subst hkn
      have qk : decide (((l.length : Nat) : Int) < (l.length : Int)) = false := by simp
      go_wp2_with fail
      go_ret
      exact ⟨by rw [HM.out]; rfl, BB.out⟩

end Go.Proofs.Ytmfacfnbokadmaa
