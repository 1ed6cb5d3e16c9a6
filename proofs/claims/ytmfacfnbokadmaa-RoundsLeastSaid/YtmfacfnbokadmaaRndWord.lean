/-
  The round that is found, as a list: from its least party on.
-/
import Derived.Test.YtmfacfnbokadmaaRndMath
namespace Go.Proofs.Ytmfacfnbokadmaa
set_option linter.unusedSimpArgs false
set_option linter.unusedVariables false

/-- How many steps lead back. -/
def cycK (f : Int → Int) (a : Int) : Nat := (((List.range 16).map (· + 1)).find? fun k => itr f k a == a).getD 0
theorem cycK_spec {f : Int → Int} {a : Int} (h : ∃ k, 1 ≤ k ∧ k ≤ 16 ∧ itr f k a = a) : 1 ≤ cycK f a ∧ cycK f a ≤ 16 ∧ itr f (cycK f a) a = a ∧ ∀ i, 1 ≤ i → i < cycK f a → itr f i a ≠ a := by
  obtain ⟨k, k1, k2, k3⟩ := h
  unfold cycK
  cases hf : ((List.range 16).map (· + 1)).find? fun k => itr f k a == a with
  | none =>
    have := List.find?_eq_none.1 hf k (List.mem_map.2 ⟨k - 1, by simp; omega, by omega⟩)
    simp [k3] at this
  | some x =>
    obtain ⟨hq, i, hi, hxi, hlt⟩ := List.find?_eq_some_iff_getElem.1 hf
    have hx : x = i + 1 := by rw [← hxi]; simp
    have hi16 : i < 16 := by simpa using hi
    refine ⟨by show 1 ≤ x; omega, by show x ≤ 16; omega, by simpa using hq, fun j j1 j2 => ?_⟩
    have j3 : j < x := j2
    have := hlt (j - 1) (by omega)
    simp only [List.getElem_map, List.getElem_range] at this
    rw [show j - 1 + 1 = j by omega] at this
    simpa using this
theorem itr_inj {f : Int → Int} {a : Int} {K : Nat} (hK : itr f K a = a) (hm : ∀ i, 1 ≤ i → i < K → itr f i a ≠ a) {i k : Nat} (hi : 1 ≤ i) (hik : i < k) (hk : k ≤ K) : itr f i a ≠ itr f k a := by
  intro h
  refine hm (i + (K - k)) (by omega) (by omega) ?_
  rw [itr_add, h, ← itr_add, show k + (K - k) = K by omega, hK]
/-- At which step one stands. -/
def posC (f : Int → Int) (a : Int) (K : Nat) (x : Int) : Nat := (((List.range K).map (· + 1)).find? fun k => itr f k a == x).getD 0
theorem posC_eq {f : Int → Int} {a : Int} {K : Nat} (hK : itr f K a = a) (hm : ∀ i, 1 ≤ i → i < K → itr f i a ≠ a) {k : Nat} (h1 : 1 ≤ k) (h2 : k ≤ K) : posC f a K (itr f k a) = k := by
  unfold posC
  have : ((List.range K).map (· + 1)).find? (fun j => itr f j a == itr f k a) = some k := by
    rw [List.find?_eq_some_iff_getElem]
    refine ⟨by simp, k - 1, by simp; omega, by simp; omega, fun j hj => ?_⟩
    simp only [List.getElem_map, List.getElem_range]
    have := itr_inj hK hm (i := j + 1) (k := k) (by omega) (by omega) h2
    simpa using this
  rw [this]
  rfl
/-- The least of the first so many, and of a itself. -/
def leastC (f : Int → Int) (a : Int) : Nat → Int
  | 0 => a
  | n + 1 => min (leastC f a n) (itr f (n + 1) a)
theorem leastC_mem (f : Int → Int) (a : Int) : ∀ n, ∃ i, i ≤ n ∧ leastC f a n = itr f i a
  | 0 => ⟨0, Nat.le_refl _, rfl⟩
  | n + 1 => by
    obtain ⟨i, hi, he⟩ := leastC_mem f a n
    by_cases h : leastC f a n ≤ itr f (n + 1) a
    · exact ⟨i, by omega, by show min _ _ = _; rw [Int.min_eq_left h]; exact he⟩
    · exact ⟨n + 1, Nat.le_refl _, by show min _ _ = _; exact Int.min_eq_right (by omega)⟩
theorem leastC_le (f : Int → Int) (a : Int) : ∀ n i, i ≤ n → leastC f a n ≤ itr f i a
  | 0, i, h => by
    have : i = 0 := by omega
    subst this
    exact Int.le_refl _
  | n + 1, i, h => by
    show min (leastC f a n) (itr f (n + 1) a) ≤ _
    by_cases hi : i ≤ n
    · have := leastC_le f a n i hi
      omega
    · have : i = n + 1 := by omega
      subst this
      omega
/-- From l on, against the steps. -/
def backL (f : Int → Int) (l : Int) (n : Nat) : List Int := l :: ((List.range n).map fun i => itr f (i + 1) l).reverse
def roundL (f : Int → Int) (a : Int) : List Int := backL f (leastC f a (cycK f a - 1)) (cycK f a - 1)
def roundW (es : List Ed) : List Int := if (List.range 16).all (fun n => (passN es (n + 1)).pt != 0) then roundL (passN es 16).ahd (itr (passN es 16).ahd 16 (passN es 16).pt) else []
theorem backL_next (f : Int → Int) (l : Int) (n : Nat) : backL f l (n + 1) = [l, itr f (n + 1) l] ++ (backL f l n).tail := by
  unfold backL
  rw [List.range_succ, List.map_append, List.reverse_append]
  rfl
theorem backL_len (f : Int → Int) (l : Int) (n : Nat) : (backL f l n).length = n + 1 := by simp [backL]
theorem backL_get {f : Int → Int} {l : Int} {n : Nat} (hl : itr f (n + 1) l = l) {i : Nat} (hi : i ≤ n) : (backL f l n)[i]? = some (itr f (n + 1 - i) l) := by
  unfold backL
  match i, hi with
  | 0, _ => rw [List.getElem?_cons_zero, Nat.sub_zero, hl]
  | i + 1, hi =>
    rw [List.getElem?_cons_succ, List.getElem?_reverse (by simp; omega), List.getElem?_map]
    simp only [List.length_map, List.length_range]
    rw [List.getElem?_range (by omega), Option.map_some]
    rw [show n - 1 - i + 1 = n + 1 - (i + 1) by omega]
theorem itr_round {f : Int → Int} {a : Int} {K : Nat} (hK : itr f K a = a) : ∀ m, itr f (m * K) a = a
  | 0 => by simp [itr]
  | m + 1 => by rw [Nat.succ_mul, itr_add, itr_round hK m, hK]
/-- Distances stay within bounds. -/
theorem far_bd {es : List Ed} (hco : ∀ e ∈ es, -128 ≤ e.co) {n : Nat} : ∀ (l : List Ed) (s : BF) (m : Nat), (∀ e ∈ l, e ∈ es) → (∀ p, -(128 * (m : Int)) ≤ s.far p ∧ s.far p ≤ 0) → ∀ p, -(128 * ((m + l.length : Nat) : Int)) ≤ (l.foldl (stepE n) s).far p ∧ (l.foldl (stepE n) s).far p ≤ 0
  | [], s, m, _, h, p => by simpa using h p
  | e :: l, s, m, hl, h, p => by
    rw [List.foldl_cons]
    have hstep : ∀ q, -(128 * ((m + 1 : Nat) : Int)) ≤ (stepE n s e).far q ∧ (stepE n s e).far q ≤ 0 := by
      intro q
      have hq := h q
      unfold stepE
      split
      · rename_i hc
        have h1 := h e.fr
        have h2 := h e.tt
        have h3 := hco e (hl e (List.mem_cons_self ..))
        by_cases hx : q = e.tt
        · subst hx
          show _ ≤ upI s.far e.tt _ e.tt ∧ upI s.far e.tt _ e.tt ≤ 0
          rw [upI_same]
          omega
        · show _ ≤ upI s.far e.tt _ q ∧ upI s.far e.tt _ q ≤ 0
          rw [upI_ne _ hx]
          omega
      · omega
    have := far_bd hco (n := n) l (stepE n s e) (m + 1) (fun d hd => hl d (List.mem_cons_of_mem _ hd)) hstep p
    rw [List.length_cons, show m + (l.length + 1) = m + 1 + l.length by omega]
    exact this
theorem passN_bd {es : List Ed} (hco : ∀ e ∈ es, -128 ≤ e.co) : ∀ (n : Nat) (p : Int), -(128 * ((n * es.length : Nat) : Int)) ≤ (passN es n).far p ∧ (passN es n).far p ≤ 0
  | 0, p => by
    show -(128 * ((0 * es.length : Nat) : Int)) ≤ 0 ∧ (0 : Int) ≤ 0
    omega
  | n + 1, p => by
    have := far_bd hco (n := n + 1) es { passN es n with pt := 0 } (n * es.length) (fun e he => he) (fun q => passN_bd hco n q) p
    rw [Nat.succ_mul]
    exact this
/-- What is known of the round that is found. -/
structure IsRound (es : List Ed) (s : BF) (K : Nat) (l : Int) : Prop where
  k1 : 1 ≤ K
  k16 : K ≤ 16
  back : itr s.ahd K l = l
  apart : ∀ i, 1 ≤ i → i < K → itr s.ahd i l ≠ l
  ends : ∀ i, inP (itr s.ahd i l)
  least : ∀ i, l ≤ itr s.ahd i l
  edge : ∀ i, ∃ e ∈ es, e.fr = itr s.ahd (i + 1) l ∧ e.tt = itr s.ahd i l ∧ e.co = s.w (itr s.ahd i l)
  cost : sumI s.ahd s.w K l < 0
theorem roundW_none {es : List Ed} (h : roundW es = []) : ∃ far : Int → Int, ∀ e ∈ es, okEd e → far e.tt ≤ far e.fr + e.co := by
  unfold roundW at h
  split at h
  · unfold roundL backL at h; cases h
  · rename_i hc
    have hc2 : ¬ ∀ n ∈ List.range 16, ((passN es (n + 1)).pt != 0) = true := fun hh => hc (List.all_eq_true.2 hh)
    have : ∃ n, (passN es (n + 1)).pt = 0 := by
      refine Classical.byContradiction fun hn => hc2 fun n _ => ?_
      have : (passN es (n + 1)).pt ≠ 0 := fun he => hn ⟨n, he⟩
      simpa using this
    obtain ⟨n, hn⟩ := this
    exact ⟨(passN es n).far, still_pass hn⟩
theorem roundW_some {es : List Ed} (h : roundW es ≠ []) : ∃ K l, K = cycK (passN es 16).ahd (itr (passN es 16).ahd 16 (passN es 16).pt) ∧ l = leastC (passN es 16).ahd (itr (passN es 16).ahd 16 (passN es 16).pt) (K - 1) ∧ (∀ i, inP (itr (passN es 16).ahd i (itr (passN es 16).ahd 16 (passN es 16).pt))) ∧ IsRound es (passN es 16) K l ∧ roundW es = backL (passN es 16).ahd l (K - 1) := by
  have hall : ((List.range 16).all fun n => (passN es (n + 1)).pt != 0) = true := by
    refine Classical.byContradiction fun hc => h ?_
    unfold roundW
    rw [if_neg hc]
  have hpt : (passN es 16).pt ≠ 0 := by
    have := List.all_eq_true.1 hall 15 (by simp)
    simpa using this
  have hW : roundW es = roundL (passN es 16).ahd (itr (passN es 16).ahd 16 (passN es 16).pt) := by
    unfold roundW
    rw [if_pos hall]
  rw [hW]
  obtain ⟨r1, r2⟩ := round_found hpt
  have hI := passN_inv es 16
  generalize passN es 16 = s at *
  generalize ha : itr s.ahd 16 s.pt = a at *
  obtain ⟨c1, c2, c3, c4⟩ := cycK_spec r2
  have hina : inP a := by rw [← ha]; exact r1 16 (Nat.le_refl _)
  -- all of a's steps are parties
  have hret : ∀ v, ∀ k, 1 ≤ k → itr s.ahd k v = v → inP v → 1 ≤ s.t v := by
    intro v k hk hv hin
    rcases Nat.eq_zero_or_pos (s.t v) with h0 | h0
    · exfalso
      match k, hk with
      | k + 1, _ =>
        have : itr s.ahd k (s.ahd v) = v := hv
        rw [hI.zero v h0, hI.stay k] at this
        have := hin.1
        omega
    · exact h0
  have hper : ∀ i, itr s.ahd (cycK s.ahd a) (itr s.ahd i a) = itr s.ahd i a := fun i => by rw [← itr_add, Nat.add_comm, itr_add, c3]
  have hin : ∀ i, inP (itr s.ahd i a) := by
    intro i
    induction i with
    | zero => exact hina
    | succ i ih => rw [itr_succ]; exact (hI.pos _ (hret _ _ c1 (hper i) ih)).2.1
  obtain ⟨i0, i1, i2⟩ := leastC_mem s.ahd a (cycK s.ahd a - 1)
  have hle := leastC_le s.ahd a (cycK s.ahd a - 1)
  have hcyc : ∀ j, itr s.ahd j (itr s.ahd i0 a) = itr s.ahd i0 a → 1 ≤ j → ¬ j < cycK s.ahd a := by
    intro j hj j1 j2
    refine c4 j j1 j2 ?_
    have e1 : itr s.ahd (cycK s.ahd a - i0) (itr s.ahd j (itr s.ahd i0 a)) = itr s.ahd (cycK s.ahd a - i0) (itr s.ahd i0 a) := by rw [hj]
    rw [← itr_add, ← itr_add, ← itr_add, show i0 + (cycK s.ahd a - i0) = cycK s.ahd a by omega, c3, show i0 + (j + (cycK s.ahd a - i0)) = cycK s.ahd a + j by omega, itr_add, c3] at e1
    exact e1
  refine ⟨cycK s.ahd a, leastC s.ahd a (cycK s.ahd a - 1), rfl, rfl, hin, ⟨c1, c2, ?_, ?_, ?_, ?_, fun i => ?_, ?_⟩, rfl⟩
  · rw [i2]; exact hper i0
  · rw [i2]; exact fun i h1 h2 h3 => hcyc i h3 h1 h2
  · rw [i2]; intro i; rw [← itr_add]; exact hin _
  · rw [i2]
    intro i
    rw [← itr_add]
    have hmod : itr s.ahd (i0 + i) a = itr s.ahd ((i0 + i) % cycK s.ahd a) a := by
      have := Nat.div_add_mod (i0 + i) (cycK s.ahd a)
      rw [← this, Nat.mul_comm, itr_add, itr_round c3, Nat.mul_comm, this]
    rw [hmod, ← i2]
    have := Nat.mod_lt (i0 + i) (show 0 < cycK s.ahd a by omega)
    exact hle _ (by omega)
  · rw [i2, itr_succ, ← itr_add]
    obtain ⟨_, _, _, _, q⟩ := hI.pos _ (hret _ _ c1 (hper (i0 + i)) (hin (i0 + i)))
    exact q
  · rw [i2]
    exact hI.neg _ _ c1 (hper i0) (hin i0)

end Go.Proofs.Ytmfacfnbokadmaa
