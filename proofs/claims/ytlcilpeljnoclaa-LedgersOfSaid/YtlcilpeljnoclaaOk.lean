/-
  Which parties and lines a ledger may be of: lists. No program.
-/
import Derived.Test.YtlcilpeljnoclaaPLed
import Derived.Test.YtlcilpeljnoclaaLedMath3
namespace Go.Proofs.Ytlcilpeljnoclaa
open Go.RowKit
set_option linter.unusedSimpArgs false
set_option linter.unusedVariables false

/-- May the line be among these parties? -/
def lnMay (ps : List Int) (x : Ln) : Prop := mayE x.cr x.de x.cu = true ∧ x.cr ∈ ps ∧ x.de ∈ ps ∧ 1 ≤ x.li ∧ x.li ≤ 1099511627776 ∧ 0 ≤ x.db ∧ x.db ≤ x.li
instance (ps : List Int) (x : Ln) : Decidable (lnMay ps x) := by unfold lnMay; infer_instance
theorem lnMay.good {ps : List Int} {x : Ln} (h : lnMay ps x) : x.Good := by
  obtain ⟨h1, _, _, h2, h3, h4, h5⟩ := h
  unfold mayE at h1
  simp at h1
  exact ⟨by omega, by omega, by omega, by omega, by omega, by omega⟩
/-- Parties that a ledger may be of. -/
def okP (zs : List Int) : Prop := zs.Pairwise (· < ·) ∧ ∀ p ∈ zs, 1 ≤ p ∧ p ≤ 16
/-- Lines that a ledger of these parties may be of. -/
def okL (ps : List Int) (ls : List Ln) : Prop := ls.Pairwise (fun x y => x.rank < y.rank) ∧ ∀ x ∈ ls, lnMay ps x
theorem okP.nil : okP [] := ⟨List.Pairwise.nil, by simp⟩
theorem okL.nil (ps : List Int) : okL ps [] := ⟨List.Pairwise.nil, by simp⟩
theorem okP.linv {ps : List Int} {ls : List Ln} (h : okP ps) (hl : okL ps ls) (h64 : ls.length ≤ 64) : LInv ps ls :=
  ⟨⟨fun x hx => (hl.2 x hx).good, hl.1⟩, h64, fun x hx => ⟨(hl.2 x hx).2.1, (hl.2 x hx).2.2.1⟩, h.2, h.1⟩
theorem rise_take {α : Type} {R : α → α → Prop} (ht : ∀ a b c, R a b → R b c → R a c) {zs : List α} {k : Nat} (hk : k < zs.length) (h : (zs.take k).Pairwise R) (hs : ∀ hk0 : 0 < k, R (zs[k - 1]'(by omega)) zs[k]) : (zs.take (k + 1)).Pairwise R := by
  rw [List.take_succ_eq_append_getElem hk, List.pairwise_append]
  refine ⟨h, by simp, fun a ha b hb => ?_⟩
  rw [List.mem_singleton] at hb
  subst hb
  obtain ⟨j, hj, rfl⟩ := List.mem_take_iff_getElem.1 ha
  have hk0 : 0 < k := by omega
  by_cases hjk : j = k - 1
  · subst hjk; exact hs hk0
  · refine ht _ _ _ ?_ (hs hk0)
    have := List.pairwise_iff_getElem.1 h j (k - 1) (by simp; omega) (by simp; omega) (by omega)
    simpa using this
theorem rise_step {α : Type} {R : α → α → Prop} {zs : List α} {k : Nat} (hk : k < zs.length) (h : zs.Pairwise R) (hk0 : 0 < k) : R (zs[k - 1]'(by omega)) zs[k] :=
  List.pairwise_iff_getElem.1 h (k - 1) k (by omega) hk (by omega)
theorem okP.next {zs : List Int} {k : Nat} (hk : k < zs.length) (h : okP (zs.take k)) (hm : mayP zs[k] = true) (hs : ∀ hk0 : 0 < k, zs[k - 1]'(by omega) < zs[k]) : okP (zs.take (k + 1)) := by
  refine ⟨rise_take (R := fun x y : Int => x < y) (fun a b c h1 h2 => Int.lt_trans h1 h2) hk h.1 hs, fun p hp => ?_⟩
  rw [List.take_succ_eq_append_getElem hk, List.mem_append, List.mem_singleton] at hp
  rcases hp with hp | rfl
  · exact h.2 p hp
  · unfold mayP at hm; simpa using hm
theorem okP.bad {zs : List Int} {k : Nat} (hk : k < zs.length) (h : mayP zs[k] = false ∨ ∃ hk0 : 0 < k, zs[k] ≤ zs[k - 1]'(by omega)) : ¬ okP zs := by
  rintro ⟨h1, h2⟩
  rcases h with h | ⟨hk0, h⟩
  · have := h2 zs[k] (List.getElem_mem _)
    unfold mayP at h
    simp at h
    omega
  · have := rise_step hk h1 hk0
    omega
theorem okL.next {ps : List Int} {ls : List Ln} {k : Nat} (hk : k < ls.length) (h : okL ps (ls.take k)) (hm : lnMay ps ls[k]) (hs : ∀ hk0 : 0 < k, (ls[k - 1]'(by omega)).rank < ls[k].rank) : okL ps (ls.take (k + 1)) := by
  refine ⟨rise_take (R := fun x y : Ln => x.rank < y.rank) (fun a b c h1 h2 => Int.lt_trans h1 h2) hk h.1 hs, fun p hp => ?_⟩
  rw [List.take_succ_eq_append_getElem hk, List.mem_append, List.mem_singleton] at hp
  rcases hp with hp | rfl
  · exact h.2 p hp
  · exact hm
theorem okL.bad {ps : List Int} {ls : List Ln} {k : Nat} (hk : k < ls.length) (h : ¬ lnMay ps ls[k] ∨ ∃ hk0 : 0 < k, ls[k].rank ≤ (ls[k - 1]'(by omega)).rank) : ¬ okL ps ls := by
  rintro ⟨h1, h2⟩
  rcases h with h | ⟨hk0, h⟩
  · exact h (h2 _ (List.getElem_mem _))
  · have := rise_step hk h1 hk0
    omega

end Go.Proofs.Ytlcilpeljnoclaa
