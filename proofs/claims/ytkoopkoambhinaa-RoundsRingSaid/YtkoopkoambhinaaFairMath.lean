/-
  What is left of debts, as debts: sums, positions, that nothing goes round them any more.
-/
import Derived.Test.YtkoopkoambhinaaFair08
import Derived.Test.YtkoopkoambhinaaLeastL08
import Derived.Test.YtkoopkoambhinaaRoundsQuota
namespace Go.Proofs.Ytkoopkoambhinaa
set_option linter.unusedSimpArgs false
set_option linter.unusedVariables false

def sumL (g : Fw → Int) : List Fw → Int
  | [] => 0
  | x :: r => g x + sumL g r
theorem sumL_append (g : Fw → Int) : ∀ (a b : List Fw), sumL g (a ++ b) = sumL g a + sumL g b
  | [], b => by show _ = 0 + _; rw [List.nil_append]; omega
  | x :: a, b => by
    show g x + sumL g (a ++ b) = g x + sumL g a + sumL g b
    rw [sumL_append g a b]
    omega
theorem sumN_take (g : Fw → Int) (l : List Fw) : ∀ n, n ≤ l.length → sumN (fun i => g (dbt l i)) n = sumL g (l.take n)
  | 0, _ => by simp [sumN, sumL]
  | n + 1, h => by
    show sumN (fun i => g (dbt l i)) n + g (dbt l n) = _
    rw [sumN_take g l n (by omega), List.take_succ_eq_append_getElem (by omega), sumL_append, dbt_get (by omega)]
    show _ = _ + (g _ + 0)
    omega
theorem sumN_list (g : Fw → Int) (l : List Fw) : sumN (fun i => g (dbt l i)) l.length = sumL g l := by
  rw [sumN_take g l _ (Nat.le_refl _), List.take_length]
theorem leftN_next2 (l : List Fw) (L : Nat → Int) (k : Nat) : leftN l L (k + 1) = leftN l L k ++ if 0 < L k then [⟨(dbt l k).fr, (dbt l k).tt, L k⟩] else [] := rfl
theorem sumL_left (g : Fw → Int) (l : List Fw) (L : Nat → Int) : ∀ n, sumL g (leftN l L n) = sumN (fun i => if 0 < L i then g ⟨(dbt l i).fr, (dbt l i).tt, L i⟩ else 0) n
  | 0 => rfl
  | n + 1 => by
    rw [leftN_next2, sumL_append, sumL_left g l L n]
    show _ = sumN _ n + if 0 < L n then g ⟨(dbt l n).fr, (dbt l n).tt, L n⟩ else 0
    split
    · show _ + (g _ + 0) = _; omega
    · show _ + 0 = _; omega
theorem leftN_mem {l : List Fw} {L : Nat → Int} {x : Fw} : ∀ n, x ∈ leftN l L n ↔ ∃ i, i < n ∧ 0 < L i ∧ x = ⟨(dbt l i).fr, (dbt l i).tt, L i⟩
  | 0 => by
    constructor
    · intro h; cases h
    · rintro ⟨i, h, _⟩; omega
  | n + 1 => by
    rw [leftN_next2, List.mem_append, leftN_mem n]
    constructor
    · rintro (⟨i, h1, h2⟩ | h)
      · exact ⟨i, by omega, h2⟩
      · split at h
        · rename_i hc
          exact ⟨n, by omega, hc, List.mem_singleton.1 h⟩
        · cases h
    · rintro ⟨i, h1, h2, h3⟩
      by_cases hi : i = n
      · subst hi
        exact .inr (by rw [if_pos h2]; exact List.mem_singleton.2 h3)
      · exact .inl ⟨i, by omega, h2, h3⟩
theorem dbt_mem {l : List Fw} {i : Nat} (h : i < l.length) : dbt l i ∈ l := by rw [dbt_get h]; exact List.getElem_mem h
theorem mem_dbt {l : List Fw} {x : Fw} (h : x ∈ l) : ∃ i, i < l.length ∧ dbt l i = x := by
  obtain ⟨i, hi, rfl⟩ := List.getElem_of_mem h
  exact ⟨i, hi, dbt_get hi⟩
theorem leftN_sorted {l : List Fw} (hM : MayD l) (L : Nat → Int) : ∀ n, n ≤ l.length → (leftN l L n).Pairwise (fun x y => keyD x < keyD y)
  | 0, _ => List.Pairwise.nil
  | n + 1, h => by
    rw [leftN_next2, List.pairwise_append]
    refine ⟨leftN_sorted hM L n (by omega), ?_, ?_⟩
    · split
      · exact List.pairwise_singleton _ _
      · exact List.Pairwise.nil
    · intro x hx y hy
      obtain ⟨i, hi, _, rfl⟩ := (leftN_mem n).1 hx
      split at hy
      · rw [List.mem_singleton] at hy
        subst hy
        have := hM.lt (i := i) (n - i - 1) (by omega)
        rw [show i + (n - i - 1) + 1 = n by omega] at this
        exact this
      · cases hy
theorem left_at {l : List Fw} {L : Nat → Int} {i : Nat} (hi : i < (leftL l L).length) : ∃ j, j < l.length ∧ 0 < L j ∧ dbt (leftL l L) i = ⟨(dbt l j).fr, (dbt l j).tt, L j⟩ := (leftN_mem l.length).1 (dbt_mem hi)
theorem left_may {l : List Fw} {L : Nat → Int} (hM : MayD l) (hL : RdOk l L) : MayD (leftL l L) := by
  refine ⟨fun i hi => ?_, fun i hi => ?_⟩
  · obtain ⟨j, hj, h1, h2⟩ := left_at hi
    rw [h2]
    obtain ⟨a1, a2, a3, a4, a5⟩ := hM.ok j hj
    have h3 := hL.hi j hj
    exact ⟨a1, a2, a3, by show 1 ≤ L j; omega, by show L j ≤ 1099511627776; omega⟩
  · have h := List.pairwise_iff_getElem.1 (leftN_sorted hM L l.length (Nat.le_refl _)) i (i + 1) (by show i < (leftL l L).length; omega) hi (by omega)
    rw [dbt_get (by omega), dbt_get hi]
    exact h
theorem ofN_none {l : List Fw} {a b : Int} (h : ∀ i, i < l.length → ¬ ((dbt l i).fr = a ∧ (dbt l i).tt = b)) : ∀ k, k ≤ l.length → ofN l a b k = 0
  | 0, _ => rfl
  | k + 1, hk => by
    show (if (dbt l (l.length - (k + 1))).fr = a ∧ (dbt l (l.length - (k + 1))).tt = b then _ else ofN l a b k) = 0
    rw [if_neg (h _ (by omega)), ofN_none h k (by omega)]
theorem ofN_at {l : List Fw} (hM : MayD l) {i : Nat} (hi : i < l.length) : ∀ k, k ≤ l.length → l.length - k ≤ i → ofN l (dbt l i).fr (dbt l i).tt k = (dbt l i).am
  | 0, _, h => by omega
  | k + 1, hk, h => by
    show (if (dbt l (l.length - (k + 1))).fr = (dbt l i).fr ∧ (dbt l (l.length - (k + 1))).tt = (dbt l i).tt then (dbt l (l.length - (k + 1))).am else ofN l (dbt l i).fr (dbt l i).tt k) = _
    by_cases hc : (dbt l (l.length - (k + 1))).fr = (dbt l i).fr ∧ (dbt l (l.length - (k + 1))).tt = (dbt l i).tt
    · rw [if_pos hc, hM.inj (by omega) hi hc.1 hc.2]
    · rw [if_neg hc]
      have : l.length - (k + 1) ≠ i := fun e => hc (by rw [e]; exact ⟨rfl, rfl⟩)
      exact ofN_at hM hi k (by omega) (by omega)
theorem ofL_at {l : List Fw} (hM : MayD l) {i : Nat} (hi : i < l.length) : ofL l (dbt l i).fr (dbt l i).tt = (dbt l i).am := ofN_at hM hi l.length (Nat.le_refl _) (by omega)
theorem ofL_left {l : List Fw} {L : Nat → Int} (hM : MayD l) (hL : RdOk l L) {i : Nat} (hi : i < l.length) : ofL (leftL l L) (dbt l i).fr (dbt l i).tt = L i := by
  by_cases h0 : 0 < L i
  · obtain ⟨j, hj, he⟩ := mem_dbt ((leftN_mem (l := l) (L := L) l.length).2 ⟨i, hi, h0, rfl⟩)
    have := ofL_at (left_may hM hL) hj
    change dbt (leftL l L) j = _ at he
    rw [he] at this
    exact this
  · have hz : L i = 0 := by have := hL.lo i hi; omega
    rw [hz]
    refine ofN_none (fun j hj hc => ?_) _ (Nat.le_refl _)
    obtain ⟨m, hm, h1, h2⟩ := left_at hj
    rw [h2] at hc
    have := hM.inj hm hi hc.1 hc.2
    subst this
    exact h0 h1
theorem left_sum {l : List Fw} {L : Nat → Int} (hL : RdOk l L) : sumN (amD (leftL l L)) (leftL l L).length = sumN L l.length := by
  have h1 := sumN_list (fun x => x.am) (leftL l L)
  have h2 := sumL_left (fun x => x.am) l L l.length
  refine h1.trans (h2.trans (sumN_congr _ fun i hi => ?_))
  have := hL.lo i hi
  show (if 0 < L i then L i else 0) = L i
  split <;> omega
theorem left_pos {l : List Fw} {L : Nat → Int} (hL : RdOk l L) (p : Int) : stL (leftL l L) (leftL l L).length p = posD l L p := by
  have h1 := sumN_list (fun x => (if x.tt = p then x.am else 0) - (if x.fr = p then x.am else 0)) (leftL l L)
  have h2 := sumL_left (fun x => (if x.tt = p then x.am else 0) - (if x.fr = p then x.am else 0)) l L l.length
  refine h1.trans (h2.trans (sumN_congr _ fun i hi => ?_))
  have := hL.lo i hi
  unfold psD
  dsimp only
  split <;> split <;> split <;> omega
theorem left_fair {l : List Fw} {L : Nat → Int} {k : Nat} (hM : MayD l) (hln : l.length ≤ 240) (h : IsLeast l L k) : FairI (leftL l L) l := by
  have hL := h.inv.ok
  refine ⟨Nat.le_trans (leftN_len l L l.length) hln, hln, fun i hi => ?_, fun i hi => ?_, fun p => ?_⟩
  · obtain ⟨j, hj, h1, h2⟩ := left_at hi
    rw [h2]
    obtain ⟨a1, a2, a3, a4, a5⟩ := hM.ok j hj
    unfold inP at a1 a2
    have h3 := hL.hi j hj
    dsimp only
    rw [ofL_at hM hj]
    exact ⟨by omega, by omega, by omega, by omega, by omega⟩
  · obtain ⟨a1, a2, a3, a4, a5⟩ := hM.ok i hi
    unfold inP at a1 a2
    exact ⟨by omega, by omega, by omega, a5⟩
  · unfold stW
    rw [left_pos hL, h.inv.pos]
    show posD l (amD l) p - posD l (amD l) p = 0
    omega
theorem left_least {l : List Fw} {L : Nat → Int} {k : Nat} (hM : MayD l) (hln : l.length ≤ 240) (h : IsLeast l L k) : ∃ far, LeastI far (leftL l L) l := by
  have hL := h.inv.ok
  obtain ⟨far, hf, hb⟩ := far_bounded (rdE_co l L l.length) (by have := rdE_len l L l.length; omega) h.done
  refine ⟨far, Nat.le_trans (leftN_len l L l.length) hln, hln, fun i hi => ?_, fun i hi ho => ?_, fun i hi ho => ?_, hb⟩
  · obtain ⟨a1, a2, _⟩ := hM.ok i hi
    unfold inP at a1 a2
    exact ⟨by omega, by omega⟩
  · rw [ofL_left hM hL hi] at ho
    have := hf ⟨(dbt l i).fr, (dbt l i).tt, -1⟩ ((rdE_mem _).2 ⟨i, hi, .inl ⟨ho, rfl⟩⟩) ⟨(hM.ok i hi).1, (hM.ok i hi).2.1⟩
    dsimp only at this
    omega
  · rw [ofL_left hM hL hi] at ho
    exact hf ⟨(dbt l i).tt, (dbt l i).fr, 1⟩ ((rdE_mem _).2 ⟨i, hi, .inr ⟨ho, rfl⟩⟩) ⟨(hM.ok i hi).2.1, (hM.ok i hi).1⟩
theorem left_done {l : List Fw} {L : Nat → Int} {k : Nat} (hM : MayD l) (h : IsLeast l L k) : IsLeast (leftL l L) (amD (leftL l L)) 0 := by
  have hL := h.inv.ok
  have hLM := left_may hM hL
  obtain ⟨far, hf⟩ := roundW_none h.done
  refine ⟨RdInv.start hLM, round_free (rdE_co _ _ _) far fun e he ho => ?_⟩
  obtain ⟨j, hj, ⟨h1, rfl⟩ | ⟨h1, rfl⟩⟩ := (rdE_mem _).1 he
  · obtain ⟨i, hi, h2, h3⟩ := left_at hj
    rw [h3] at ho ⊢
    exact hf ⟨(dbt l i).fr, (dbt l i).tt, -1⟩ ((rdE_mem _).2 ⟨i, hi, .inl ⟨h2, rfl⟩⟩) ho
  · exact absurd h1 (by show ¬ (dbt (leftL l L) j).am < (dbt (leftL l L) j).am; omega)

end Go.Proofs.Ytkoopkoambhinaa
