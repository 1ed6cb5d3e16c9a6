/-
  Debts that go round: just one round cancels what goes.
-/
import Derived.Test.YtkoopkoambhinaaFairMath
namespace Go.Proofs.Ytkoopkoambhinaa
set_option linter.unusedSimpArgs false
set_option linter.unusedVariables false

/-- Debt number i of a ring of n. -/
def rgD (n : Nat) (z : Nat → Int) (i : Nat) : Fw := ⟨(i : Int) + 1, if i + 1 = n then 1 else (i : Int) + 2, z i + 1⟩
def ringL (n : Nat) (z : Nat → Int) : Nat → List Fw
  | 0 => []
  | k + 1 => ringL n z k ++ [rgD n z k]
theorem ringL_next (n : Nat) (z : Nat → Int) (k : Nat) : ringL n z (k + 1) = ringL n z k ++ [rgD n z k] := rfl
theorem ringL_len (n : Nat) (z : Nat → Int) : ∀ k, (ringL n z k).length = k
  | 0 => rfl
  | k + 1 => by rw [ringL_next, List.length_append, ringL_len n z k]; rfl
theorem ringL_get (n : Nat) (z : Nat → Int) {i : Nat} : ∀ k, i < k → (ringL n z k)[i]? = some (rgD n z i)
  | 0, h => by omega
  | k + 1, h => by
    rw [ringL_next]
    by_cases hi : i = k
    · subst hi
      rw [List.getElem?_append_right (by rw [ringL_len]; omega), ringL_len, Nat.sub_self]
      rfl
    · rw [List.getElem?_append_left (by rw [ringL_len]; omega)]
      exact ringL_get n z k (by omega)
theorem dbt_ring {n : Nat} {z : Nat → Int} {k i : Nat} (h : i < k) : dbt (ringL n z k) i = rgD n z i := by
  unfold dbt
  rw [List.getD_eq_getElem?_getD, ringL_get n z k h]
  rfl
def lsN (z : Nat → Int) : Nat → Int
  | 0 => 1099511627776
  | k + 1 => min (lsN z k) (z k + 1)
theorem lsN_le (z : Nat → Int) : ∀ K, lsN z K ≤ 1099511627776 ∧ ∀ k, k < K → lsN z K ≤ z k + 1
  | 0 => ⟨Int.le_refl _, fun k hk => by omega⟩
  | K + 1 => by
    obtain ⟨h1, h2⟩ := lsN_le z K
    refine ⟨by show min _ _ ≤ _; omega, fun k hk => ?_⟩
    show min (lsN z K) (z K + 1) ≤ _
    by_cases hkK : k = K
    · subst hkK; exact Int.min_le_right _ _
    · have := h2 k (by omega)
      omega
theorem le_lsN {z : Nat → Int} {x : Int} (h0 : x ≤ 1099511627776) : ∀ K, (∀ k, k < K → x ≤ z k + 1) → x ≤ lsN z K
  | 0, _ => h0
  | K + 1, h => by
    have h1 := le_lsN h0 K (fun k hk => h k (by omega))
    have h2 := h K (by omega)
    show x ≤ min _ _
    omega
theorem minK_att (l : List Fw) (L : Nat → Int) (u : Nat → Int) : ∀ K, minK l L u K = 1099511627776 ∨ ∃ k, k < K ∧ minK l L u K = avS l L (u k) (u (k + 1))
  | 0 => .inl rfl
  | K + 1 => by
    have h : minK l L u (K + 1) = min (minK l L u K) (avS l L (u K) (u (K + 1))) := rfl
    rcases Int.le_total (minK l L u K) (avS l L (u K) (u (K + 1))) with hc | hc
    · rw [h, Int.min_eq_left hc]
      rcases minK_att l L u K with h1 | ⟨k, h1, h2⟩
      · exact .inl h1
      · exact .inr ⟨k, by omega, h2⟩
    · rw [h, Int.min_eq_right hc]
      exact .inr ⟨K, by omega, rfl⟩
structure RingZ (n : Nat) (z : Nat → Int) : Prop where
  n3 : 3 ≤ n
  n16 : n ≤ 16
  z0 : ∀ i, i < n → 0 ≤ z i ∧ z i ≤ 65535
section
variable {n : Nat} {z : Nat → Int}
theorem ring_may (h : RingZ n z) {m : Nat} (hm : m ≤ n) : MayD (ringL n z m) := by
  have h3 := h.n3
  have h16 := h.n16
  refine ⟨fun i hi => ?_, fun i hi => ?_⟩
  · rw [ringL_len] at hi
    rw [dbt_ring hi]
    have := h.z0 i (by omega)
    unfold okD rgD inP
    dsimp only
    split <;> (refine ⟨⟨by omega, by omega⟩, ⟨by omega, by omega⟩, by omega, by omega, by omega⟩)
  · rw [ringL_len] at hi
    rw [dbt_ring (by omega), dbt_ring hi]
    unfold keyD rgD
    dsimp only
    split <;> split <;> omega
theorem ring_open (h : RingZ n z) : IsLeast (ringL n z (n - 1)) (amD (ringL n z (n - 1))) 0 := by
  have h3 := h.n3
  refine ⟨RdInv.start (ring_may h (by omega)), round_free (rdE_co _ _ _) (fun p => -p) fun e he ho => ?_⟩
  obtain ⟨i, hi, ⟨h1, rfl⟩ | ⟨h1, rfl⟩⟩ := (rdE_mem _).1 he
  · rw [ringL_len] at hi
    rw [dbt_ring hi]
    unfold rgD
    dsimp only
    rw [if_neg (by omega)]
    omega
  · exact absurd h1 (by show ¬ (dbt _ i).am < (dbt _ i).am; omega)
/-- Who follows, counted from 0. -/
def nxR (n i : Nat) : Nat := if i + 1 = n then 0 else i + 1
theorem rgD_tt (n : Nat) (z : Nat → Int) (i : Nat) : (rgD n z i).tt = (nxR n i : Nat) + 1 := by
  unfold rgD nxR
  dsimp only
  split
  · rfl
  · rw [Int.natCast_add]; omega
theorem ring_goes (h : RingZ n z) : wayD (ringL n z n) (amD (ringL n z n)) ≠ [] := by
  intro hd
  have h3 := h.n3
  obtain ⟨far, hf⟩ := roundW_none hd
  have step : ∀ i, i < n → far ((nxR n i : Nat) + 1) ≤ far ((i : Int) + 1) - 1 := fun i hi => by
    have ok := (ring_may h (Nat.le_refl n)).ok i (by rw [ringL_len]; exact hi)
    have := hf ⟨(dbt (ringL n z n) i).fr, (dbt (ringL n z n) i).tt, -1⟩ ((rdE_mem _).2 ⟨i, by rw [ringL_len]; exact hi, .inl ⟨by have := ok.2.2.2.1; show 0 < (dbt (ringL n z n) i).am; omega, rfl⟩⟩) ⟨ok.1, ok.2.1⟩
    rw [dbt_ring hi] at this
    dsimp only at this
    rw [rgD_tt] at this
    have e : (rgD n z i).fr = (i : Int) + 1 := rfl
    rw [e] at this
    omega
  have chain : ∀ i, i < n → far ((i : Int) + 1) ≤ far 1 - i := by
    intro i
    induction i with
    | zero => intro _; show far (0 + 1) ≤ far 1 - 0; rw [Int.zero_add]; omega
    | succ i ih =>
      intro hi
      have h1 := ih (by omega)
      have h2 := step i (by omega)
      unfold nxR at h2
      rw [if_neg (by omega)] at h2
      omega
  have h1 := chain (n - 1) (by omega)
  have h2 := step (n - 1) (by omega)
  unfold nxR at h2
  rw [if_pos (by omega)] at h2
  have e : (((0 : Nat) : Int) + 1) = 1 := rfl
  rw [e] at h2
  omega
/-- So far round, from a on. -/
def posR (n a k : Nat) : Nat := if a + k < n then a + k else a + k - n
theorem posR_nxt {n a k : Nat} (ha : a < n) (hk : k < n) : nxR n (posR n a k) = posR n a (k + 1) := by
  unfold nxR posR
  split <;> split <;> split <;> omega
/-- A ring, cancelled. -/
structure RingDone (n : Nat) (z : Nat → Int) : Prop where
  least : IsLeast (ringL n z n) (nextD (ringL n z n) (amD (ringL n z n))) 1
  sum : sumN (nextD (ringL n z n) (amD (ringL n z n))) n = sumN (amD (ringL n z n)) n - lsN z n * n
theorem ring_done (h : RingZ n z) : RingDone n z := by
  have h3 := h.n3
  have h16 := h.n16
  have hM := ring_may h (Nat.le_refl n)
  have hI := RdInv.start hM
  have hne := ring_goes h
  obtain ⟨_, c, K, hC, hK, hu, hS, hT, h1⟩ := next_is hM hI.ok hne
  have hlen := ringL_len n z n
  have hdb : ∀ i, i < n → dbt (ringL n z n) i = rgD n z i := fun i hi => dbt_ring hi
  generalize hl : ringL n z n = l at hM hI hne hC hK hu hS hT h1 hlen hdb
  obtain ⟨u, hu0⟩ : ∃ u, uW (wayD l (amD l)) = u := ⟨_, rfl⟩
  rw [hu0] at hu hS hT
  -- each step is forth
  have fw : ∀ k, k < K → bkS l (amD l) (u k) (u (k + 1)) = false ∧ ixS l (amD l) (u k) (u (k + 1)) < n ∧ u k = (ixS l (amD l) (u k) (u (k + 1)) : Nat) + 1 ∧ u (k + 1) = (nxR n (ixS l (amD l) (u k) (u (k + 1))) : Nat) + 1 ∧ c (u k) (u (k + 1)) = -1 := fun k hk => by
    have hix := (hS k hk).ix
    rw [hlen] at hix
    rcases (hS k hk).is with ⟨b1, b2, b3, _, b5⟩ | ⟨_, _, _, b4, _⟩
    · rw [hdb _ hix] at b2 b3
      rw [rgD_tt] at b3
      exact ⟨b1, hix, b2.symm, b3.symm, b5⟩
    · exact absurd b4 (by show ¬ (dbt l _).am < (dbt l _).am; omega)
  have k1 := hu.k1
  obtain ⟨a, ha⟩ : ∃ a, ixS l (amD l) (u 0) (u 1) = a := ⟨_, rfl⟩
  have han : a < n := by rw [← ha]; exact (fw 0 k1).2.1
  have hat : ∀ k, k < K → k ≤ n → ixS l (amD l) (u k) (u (k + 1)) = posR n a k := by
    intro k
    induction k with
    | zero => intro _ _; rw [ha]; unfold posR; rw [if_pos (by omega)]; rfl
    | succ k ih =>
      intro hk hkn
      have e1 := ih (by omega) (by omega)
      have e2 := (fw k (by omega)).2.2.2.1
      have e3 := (fw (k + 1) hk).2.2.1
      rw [e1, posR_nxt han (by omega)] at e2
      omega
  have hKn : K = n := by
    rcases Nat.lt_trichotomy K n with q | q | q
    · have e2 := (fw (K - 1) (by omega)).2.2.2.1
      rw [hat (K - 1) (by omega) (by omega), posR_nxt han (by omega), show K - 1 + 1 = K by omega, hu.back] at e2
      have e3 := (fw 0 k1).2.2.1
      rw [ha] at e3
      have e4 : posR n a K = a := by omega
      unfold posR at e4
      split at e4 <;> omega
    · exact q
    · have e1 := hat n q (Nat.le_refl _)
      have e2 := steps_apart hM hu hS (j := 0) (k := n) (by omega) q
      refine absurd ?_ e2
      rw [e1, ha]
      unfold posR
      rw [if_neg (by omega)]
      omega
  have hav : ∀ k, k < n → avS l (amD l) (u k) (u (k + 1)) = z (posR n a k) + 1 := fun k hk => by
    unfold avS
    rw [(fw k (by omega)).1, hat k (by omega) (by omega)]
    simp only [Bool.false_eq_true, if_false]
    show (dbt l _).am = _
    rw [hdb _ (by unfold posR; split <;> omega)]
    rfl
  have hcov : ∀ i, i < n → ∃ k, k < n ∧ posR n a k = i := fun i hi => by
    by_cases hc : a ≤ i
    · exact ⟨i - a, by omega, by unfold posR; rw [if_pos (by omega)]; omega⟩
    · exact ⟨i + n - a, by omega, by unfold posR; rw [if_neg (by omega)]; omega⟩
  have ham : amtD l (amD l) = minK l (amD l) u n := by unfold amtD; rw [hu0, hK, hKn]
  have hls : amtD l (amD l) = lsN z n := by
    rw [ham]
    obtain ⟨m1, m2⟩ := minK_le l (amD l) u n
    obtain ⟨m3, m4⟩ := lsN_le z n
    have q1 : minK l (amD l) u n ≤ lsN z n := le_lsN m1 n fun i hi => by
      obtain ⟨k, hk, rfl⟩ := hcov i hi
      rw [← hav k hk]
      exact m2 k hk
    have q2 : lsN z n ≤ minK l (amD l) u n := le_minK m3 n fun k hk => by
      rw [hav k hk]
      exact m4 _ (by unfold posR; split <;> omega)
    omega
  have hsu : ∀ k, k ≤ n → sumU c u k = -(k : Int) := by
    intro k
    induction k with
    | zero => intro _; rfl
    | succ k ih =>
      intro hk
      show sumU c u k + c (u k) (u (k + 1)) = _
      rw [ih (by omega), (fw k (by omega)).2.2.2.2]
      omega
  -- one of them is gone
  obtain ⟨i0, hi0, hz0⟩ : ∃ i0, i0 < n ∧ nextD l (amD l) i0 = 0 := by
    rcases minK_att l (amD l) u n with q | ⟨k, hk, q⟩
    · have := (minK_le l (amD l) u n).2 0 (by omega)
      rw [hav 0 (by omega)] at this
      have := h.z0 (posR n a 0) (by unfold posR; split <;> omega)
      omega
    · refine ⟨posR n a k, by unfold posR; split <;> omega, ?_⟩
      have e := hT.on k (by omega)
      rw [(fw k (by omega)).1, hat k (by omega) (by omega)] at e
      rw [e]
      simp only [Bool.false_eq_true, if_false]
      rw [ham, q, hav k hk]
      show (dbt l (posR n a k)).am + _ = 0
      rw [hdb _ (by unfold posR; split <;> omega)]
      show z _ + 1 + -(z _ + 1) = 0
      omega
  have hstep := hI.step hM hne
  suffices hh : wayD l (nextD l (amD l)) = [] ∧ sumN (nextD l (amD l)) n = sumN (amD l) n - lsN z n * n from ⟨by rw [hl]; exact ⟨hstep, hh.1⟩, by rw [hl]; exact hh.2⟩
  refine ⟨?_, ?_⟩
  · refine round_free (rdE_co _ _ _) (fun p => if p ≤ i0 + 1 then -(p + n - i0 - 2) else -(p - i0 - 2)) fun e he ho => ?_
    obtain ⟨i, hi, hc⟩ := (rdE_mem _).1 he
    rw [hlen] at hi
    rw [hdb i hi] at hc
    have et := rgD_tt n z i
    have ef : (rgD n z i).fr = (i : Int) + 1 := rfl
    unfold nxR at et
    rcases hc with ⟨hp, rfl⟩ | ⟨_, rfl⟩
    · have hii : i ≠ i0 := fun e => by rw [e, hz0] at hp; omega
      dsimp only
      rw [et, ef]
      split <;> split <;> split <;> omega
    · dsimp only
      rw [et, ef]
      split <;> split <;> split <;> omega
  · have e := hT.sum
    rw [hlen, hKn, hsu n (Nat.le_refl _), hls] at e
    rw [e, Int.mul_neg]
    omega
end

end Go.Proofs.Ytkoopkoambhinaa
