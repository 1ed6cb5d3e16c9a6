/-
  countinghouseref05: New (written by gen_ref05.py).
-/
import Derived.Test.YtmfacfnbokadmaaRef05
namespace Go.Proofs.Ytmfacfnbokadmaa
open Go.RowKit
set_option linter.unusedSimpArgs false
set_option linter.unusedVariables false

/-- An edge that may be. -/
def okX (x : Fw) : Prop := (1 ≤ x.fr ∧ x.fr ≤ 16) ∧ (1 ≤ x.tt ∧ x.tt ≤ 16) ∧ x.fr ≠ x.tt ∧ 0 ≤ x.am ∧ x.am ≤ 2199023255552
def okG (es : List Fw) : Prop := (∀ x ∈ es, okX x) ∧ es.Pairwise fun x y => ¬ (x.fr = y.fr ∧ x.tt = y.tt)
theorem okG.nil : okG [] := ⟨by simp, List.Pairwise.nil⟩
theorem okG.next {es : List Fw} {k : Nat} (hk : k < es.length) (h : okG (es.take k)) (hx : okX es[k]) (hn : ∀ y ∈ es.take k, ¬ (y.fr = es[k].fr ∧ y.tt = es[k].tt)) : okG (es.take (k + 1)) := by
  rw [List.take_succ_eq_append_getElem hk]
  refine ⟨fun x h1 => ?_, List.pairwise_append.2 ⟨h.2, by simp, fun a ha b hb => ?_⟩⟩
  · rcases List.mem_append.1 h1 with h2 | h2
    · exact h.1 x h2
    · rw [List.mem_singleton] at h2; rw [h2]; exact hx
  · rw [List.mem_singleton] at hb; rw [hb]; exact hn a ha
/-- The edges of a graph that is made of these. -/
def newL (es : List Fw) : List Fw := es.foldl (fun E x => setE E x.fr x.tt x.am) []
theorem newL_next {es : List Fw} {k : Nat} (hk : k < es.length) : newL (es.take (k + 1)) = setE (newL (es.take k)) es[k].fr es[k].tt es[k].am := by
  unfold newL
  rw [List.take_succ_eq_append_getElem hk, List.foldl_append]
  rfl

end Go.Proofs.Ytmfacfnbokadmaa
