/-
  Least costs from party to party: those of the edges; those over others ahead; what a round costs by them.
-/
import Derived.Test.YtmfacfnbokadmaaRndWord
namespace Go.Proofs.Ytmfacfnbokadmaa
set_option linter.unusedSimpArgs false
set_option linter.unusedVariables false

def noneF : Int → Int → Int := fun _ _ => 1048576
/-- An edge more. -/
def costE (c : Int → Int → Int) (e : Ed) : Int → Int → Int := if okEd e then updE c e.fr e.tt (min (c e.fr e.tt) e.co) else c
structure CostI (es pre : List Ed) (c : Int → Int → Int) : Prop where
  is : ∀ a b, c a b = 1048576 ∨ ∃ e ∈ es, okEd e ∧ e.fr = a ∧ e.tt = b ∧ c a b = e.co
  le : ∀ e ∈ pre, okEd e → c e.fr e.tt ≤ e.co
theorem CostI.init (es : List Ed) : CostI es [] noneF := ⟨fun _ _ => .inl rfl, by simp⟩
theorem updE_same (c : Int → Int → Int) (a b n : Int) : updE c a b n a b = n := by unfold updE; rw [if_pos ⟨rfl, rfl⟩]
theorem CostI.step {es pre : List Ed} {c : Int → Int → Int} {e : Ed} (h : CostI es pre c) (he : e ∈ es) : CostI es (pre ++ [e]) (costE c e) := by
  unfold costE
  split
  · rename_i ho
    refine ⟨fun a b => ?_, fun d hd hod => ?_⟩
    · by_cases hab : a = e.fr ∧ b = e.tt
      · obtain ⟨rfl, rfl⟩ := hab
        rw [updE_same]
        by_cases hc : c e.fr e.tt ≤ e.co
        · rw [Int.min_eq_left hc]; exact h.is _ _
        · rw [Int.min_eq_right (by omega)]; exact .inr ⟨e, he, ho, rfl, rfl, rfl⟩
      · unfold updE
        rw [if_neg hab]
        exact h.is a b
    · by_cases hde : d.fr = e.fr ∧ d.tt = e.tt
      · rw [hde.1, hde.2, updE_same]
        rcases List.mem_append.1 hd with hd | hd
        · have := h.le d hd hod
          rw [hde.1, hde.2] at this
          omega
        · rw [List.mem_singleton] at hd
          subst hd
          omega
      · unfold updE
        rw [if_neg hde]
        rcases List.mem_append.1 hd with hd | hd
        · exact h.le d hd hod
        · rw [List.mem_singleton] at hd
          subst hd
          exact absurd ⟨rfl, rfl⟩ hde
  · rename_i ho
    refine ⟨h.is, fun d hd hod => ?_⟩
    rcases List.mem_append.1 hd with hd | hd
    · exact h.le d hd hod
    · rw [List.mem_singleton] at hd
      subst hd
      exact absurd hod ho
theorem CostI.bd {es pre : List Ed} {c : Int → Int → Int} (h : CostI es pre c) (hco : ∀ e ∈ es, -128 ≤ e.co ∧ e.co ≤ 127) (a b : Int) : -128 ≤ c a b ∧ c a b ≤ 1048576 := by
  rcases h.is a b with hc | ⟨e, he, _, _, _, hc⟩
  · omega
  · have := hco e he
    omega
/-- No way is shorter than what stands between its ends. -/
structure LowI (far : Int → Int) (c : Int → Int → Int) : Prop where
  hi : ∀ a b, c a b ≤ 1048576
  lo : ∀ a b, c a b < 1048576 → far b ≤ far a + c a b
  bd : ∀ p, -614400 ≤ far p ∧ far p ≤ 0
theorem LowI.step {far : Int → Int} {c : Int → Int → Int} (h : LowI far c) {m a b : Int} (h1 : c a m < 1048576) (h2 : c m b < 1048576) : LowI far (updE c a b (min (c a b) (c a m + c m b))) := by
  refine ⟨fun x y => ?_, fun x y hxy => ?_, h.bd⟩
  · unfold updE
    split
    · have := h.hi a b; omega
    · exact h.hi x y
  · unfold updE at hxy ⊢
    split at hxy
    · rename_i hc
      rw [if_pos hc, hc.1, hc.2]
      have l1 := h.lo a m h1
      have l2 := h.lo m b h2
      by_cases hab : c a b ≤ c a m + c m b
      · rw [Int.min_eq_left hab] at hxy ⊢
        exact h.lo a b hxy
      · rw [Int.min_eq_right (by omega)]
        omega
    · rename_i hc
      rw [if_neg hc]
      exact h.lo x y hxy
theorem LowI.low {far : Int → Int} {c : Int → Int → Int} (h : LowI far c) (a b : Int) : -614400 ≤ c a b ∧ c a b ≤ 1048576 := by
  have h1 := h.hi a b
  by_cases hc : c a b < 1048576
  · have := h.lo a b hc
    have := h.bd a
    have := h.bd b
    omega
  · omega
theorem LowI.self {far : Int → Int} {c : Int → Int → Int} (h : LowI far c) (p : Int) : ¬ c p p < 0 := by
  intro hc
  have := h.lo p p (by omega)
  omega
theorem LowI.start {es : List Ed} {c : Int → Int → Int} (hC : CostI es es c) (hco : ∀ e ∈ es, -128 ≤ e.co ∧ e.co ≤ 127) (hlen : es.length ≤ 300) (h : roundW es = []) : ∃ far, LowI far c := by
  have key : ∃ n, n < 16 ∧ (passN es (n + 1)).pt = 0 := by
    unfold roundW at h
    split at h
    · unfold roundL backL at h; cases h
    · rename_i hc
      refine Classical.byContradiction fun hn => hc (List.all_eq_true.2 fun n hm => ?_)
      have : (passN es (n + 1)).pt ≠ 0 := fun he => hn ⟨n, by simpa using hm, he⟩
      simpa using this
  obtain ⟨n, hn, hp⟩ := key
  have hs := still_pass hp
  have hb := passN_bd (fun e he => (hco e he).1) n
  refine ⟨(passN es n).far, fun a b => (hC.bd hco a b).2, fun a b hab => ?_, fun p => ?_⟩
  · rcases hC.is a b with hc | ⟨e, he, ho, rfl, rfl, hc⟩
    · omega
    · rw [hc]; exact hs e he ho
  · have h1 := hb p
    have h2 : n * es.length ≤ 16 * 300 := Nat.mul_le_mul (by omega) hlen
    omega
def sumU (c : Int → Int → Int) (u : Nat → Int) : Nat → Int
  | 0 => 0
  | n + 1 => sumU c u n + c (u n) (u (n + 1))
/-- A list of parties that goes round and costs less than 0. -/
structure CheapL (c : Int → Int → Int) (L : List Int) (K : Nat) (u : Nat → Int) : Prop where
  k1 : 1 ≤ K
  k16 : K ≤ 16
  len : L.length = K
  at_ : ∀ i, i < K → L[i]? = some (u i)
  back : u K = u 0
  ends : ∀ i, inP (u i)
  least : ∀ i, u 0 ≤ u i
  apart : ∀ k i, k < i → i < K → u k ≠ u i
  cost : ∀ i, i < K → -128 ≤ c (u i) (u (i + 1)) ∧ c (u i) (u (i + 1)) ≤ 127
  all : sumU c u K < 0
theorem CheapL.bd {c : Int → Int → Int} {L : List Int} {K : Nat} {u : Nat → Int} (h : CheapL c L K u) : ∀ n : Nat, n ≤ K → -(128 * (n : Int)) ≤ sumU c u n ∧ sumU c u n ≤ 128 * (n : Int)
  | 0, _ => by simp [sumU]
  | n + 1, hn => by
    have h1 := h.bd n (by omega)
    have h2 := h.cost n (by omega)
    show _ ≤ sumU c u n + c (u n) (u (n + 1)) ∧ sumU c u n + c (u n) (u (n + 1)) ≤ _
    omega
theorem round_cheap {es : List Ed} {c : Int → Int → Int} (hC : CostI es es c) (hco : ∀ e ∈ es, -128 ≤ e.co ∧ e.co ≤ 127) (h : roundW es ≠ []) : ∃ K u, CheapL c (roundW es) K u := by
  obtain ⟨K, l, _, _, _, hR, he⟩ := roundW_some h
  have hk1 := hR.k1
  rw [he]
  generalize passN es 16 = s at *
  have hu : ∀ i, i < K → itr s.ahd (K - i) l = s.ahd (itr s.ahd (K - (i + 1)) l) := fun i hi => by
    rw [show K - i = (K - (i + 1)) + 1 by omega, itr_succ]
  have hcost : ∀ i, i < K → c (itr s.ahd (K - i) l) (itr s.ahd (K - (i + 1)) l) ≤ s.w (itr s.ahd (K - (i + 1)) l) ∧ -128 ≤ c (itr s.ahd (K - i) l) (itr s.ahd (K - (i + 1)) l) ∧ c (itr s.ahd (K - i) l) (itr s.ahd (K - (i + 1)) l) ≤ 127 := fun i hi => by
    obtain ⟨e, hm, e1, e2, e3⟩ := hR.edge (K - (i + 1))
    rw [show K - (i + 1) + 1 = K - i by omega] at e1
    have hok : okEd e := ⟨by rw [e1]; exact hR.ends _, by rw [e2]; exact hR.ends _⟩
    have h1 := hC.le e hm hok
    have h2 := hco e hm
    rw [e1, e2] at h1
    have h3 := hC.bd hco (itr s.ahd (K - i) l) (itr s.ahd (K - (i + 1)) l)
    rw [← e3]
    omega
  refine ⟨K, fun i => itr s.ahd (K - i) l, hk1, hR.k16, by rw [backL_len]; omega, fun i hi => ?_, ?_, fun i => hR.ends _, fun i => ?_, fun k i hki hi => ?_, fun i hi => (hcost i hi).2, ?_⟩
  · rw [backL_get (by rw [show K - 1 + 1 = K by omega]; exact hR.back) (by omega)]
    rw [show K - 1 + 1 - i = K - i by omega]
  · show itr s.ahd (K - K) l = itr s.ahd (K - 0) l
    rw [Nat.sub_self, Nat.sub_zero, hR.back]
    rfl
  · show itr s.ahd (K - 0) l ≤ _
    rw [Nat.sub_zero, hR.back]
    exact hR.least _
  · exact fun hh => itr_inj hR.back hR.apart (i := K - i) (k := K - k) (by omega) (by omega) (by omega) hh.symm
  · have key : ∀ n, n ≤ K → sumU c (fun i => itr s.ahd (K - i) l) n + sumI s.ahd s.w (K - n) l ≤ sumI s.ahd s.w K l := by
      intro n
      induction n with
      | zero => intro _; simp [sumU]
      | succ n ih =>
        intro hn
        have h1 := ih (by omega)
        have h2 := (hcost n (by omega)).1
        have h3 := sumI_add s.ahd s.w (K - (n + 1)) 1 l
        rw [show K - (n + 1) + 1 = K - n by omega] at h3
        have h4 : sumI s.ahd s.w 1 (itr s.ahd (K - (n + 1)) l) = s.w (itr s.ahd (K - (n + 1)) l) := by simp [sumI]
        show (sumU c (fun i => itr s.ahd (K - i) l) n + c (itr s.ahd (K - n) l) (itr s.ahd (K - (n + 1)) l)) + _ ≤ _
        omega
    have h1 := key K (Nat.le_refl _)
    rw [Nat.sub_self] at h1
    have h2 := hR.cost
    have h3 : sumI s.ahd s.w 0 l = 0 := rfl
    omega

end Go.Proofs.Ytmfacfnbokadmaa
