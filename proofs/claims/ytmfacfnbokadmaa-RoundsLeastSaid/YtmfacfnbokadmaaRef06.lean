/-
  countinghouseref06: reach.
-/
import Derived.Test.YtmfacfnbokadmaaWayMath
import Derived.Test.YtmfacfnbokadmaaGrd
namespace Go.Proofs.Ytmfacfnbokadmaa
open Go.RowKit
set_option linter.unusedSimpArgs false
set_option linter.unusedVariables false

theorem rowA_set (v : Int → Int → Value) (p : Int) {i : Nat} (hi : i < 17) (u : Value) : (rowA v p).setIfInBounds i u = rowA (fun a q => if q = (i : Int) then u else v a q) p := by
  apply Array.ext_getElem?
  intro j
  by_cases hj : j < 17
  · rw [rowA_get _ p hj]
    by_cases h : i = j
    · subst h
      rw [Array.getElem?_setIfInBounds_self_of_lt (by rw [rowA_size]; exact hj), if_pos rfl]
    · rw [Array.getElem?_setIfInBounds_ne h, rowA_get v p hj, if_neg (by omega)]
  · rw [Array.getElem?_eq_none (by simp [rowA_size]; omega), Array.getElem?_eq_none (by rw [rowA_size]; omega)]
theorem rowA_congr {v u : Int → Int → Value} {p p' : Int} (h : ∀ i : Nat, i < 17 → v p i = u p' i) : rowA v p = rowA u p' := by
  apply Array.ext_getElem?
  intro j
  by_cases hj : j < 17
  · rw [rowA_get v p hj, rowA_get u p' hj, h j hj]
  · rw [Array.getElem?_eq_none (by rw [rowA_size]; omega), Array.getElem?_eq_none (by rw [rowA_size]; omega)]
/-- Seventeen answers. -/
def inA (b : Int → Bool) : Array Value := rowA (fun _ q => .bool (b q)) 0
theorem inA_size (b : Int → Bool) : (inA b).size = 17 := rowA_size _ _
theorem inA_get (b : Int → Bool) {i : Nat} (h : i < 17) : (inA b)[i]? = some (.bool (b i)) := rowA_get _ _ h
theorem inA_set (b : Int → Bool) {i : Nat} (hi : i < 17) (u : Bool) : (inA b).setIfInBounds i (.bool u) = inA fun q => if q = (i : Int) then u else b q := by
  unfold inA
  rw [rowA_set _ _ hi]
  refine rowA_congr fun j hj => ?_
  dsimp only
  split <;> rfl
theorem inA_congr {b c : Int → Bool} (h : ∀ i : Nat, i < 17 → b i = c i) : inA b = inA c := rowA_congr fun i hi => by rw [h i hi]
theorem inA_one (b : Int → Bool) : (inA b).all (·.oneCell') = true := by
  rw [Array.all_eq_true]
  intro i hi
  have h17 : i < 17 := by rw [inA_size] at hi; exact hi
  have := inA_get b h17
  rw [Array.getElem?_eq_getElem hi] at this
  simp only [Option.some.injEq] at this
  rw [this]
  rfl
theorem Blk.inAt {w : World} {g : Nat} {b : Int → Bool} {t : TypeId} (h : Blk w g (inA b) t) {p : Int} (h0 : 0 ≤ p) (h1 : p < 17) : w.cell? ⟨g, p.toNat, none⟩ = some (.bool (b p)) := by
  rw [h.cell, inA_get b (by omega), Int.toNat_of_nonneg h0]
theorem Blk.inSet {w : World} {g : Nat} {b : Int → Bool} {t : TypeId} (h : Blk w g (inA b) t) {p : Int} (h0 : 0 ≤ p) (h1 : p < 17) (u : Bool) : Blk (w.setCell ⟨g, p.toNat, none⟩ (.bool u)) g (inA fun q => if q = p then u else b q) t := by
  have := h.set p.toNat (.bool u)
  rw [inA_set b (by omega), Int.toNat_of_nonneg h0] at this
  exact this
attribute [irreducible] inA
/-- The edges that came so far, of those who are in: whom they lead to. -/
def ledTo (f : Int → Int → Int) (p : Int) (n : Nat) (es : List Fw) (q : Int) : Bool := inS f p n q || es.any fun e => inS f p n e.fr && e.tt == q
theorem ledTo_next {f : Int → Int → Int} {p : Int} {n : Nat} {es : List Fw} {k : Nat} (hk : k < es.length) (q : Int) : ledTo f p n (es.take (k + 1)) q = if inS f p n es[k].fr = true ∧ q = es[k].tt then true else ledTo f p n (es.take k) q := by
  unfold ledTo
  rw [List.take_succ_eq_append_getElem hk, List.any_append]
  simp only [List.any_cons, List.any_nil, Bool.or_false]
  by_cases h : inS f p n es[k].fr = true ∧ q = es[k].tt
  · rw [if_pos h, h.1, h.2]; simp
  · rw [if_neg h]
    have : (inS f p n es[k].fr && es[k].tt == q) = false := by
      cases h1 : inS f p n es[k].fr with
      | false => rfl
      | true =>
        have : es[k].tt ≠ q := fun e => h ⟨h1, e.symm⟩
        simp [this]
    rw [this]; simp
theorem ledTo_all {f : Int → Int → Int} {B : Int} (h : GInv f B) (p : Int) (n : Nat) (q : Int) : ledTo f p n (allE f) q = inS f p (n + 1) q := by
  show (inS f p n q || _) = (inS f p n q || parts.any fun r => inS f p n r && decide (0 < f r q))
  congr 1
  rw [Bool.eq_iff_iff, List.any_eq_true, List.any_eq_true]
  constructor
  · rintro ⟨e, he, h1⟩
    rw [Bool.and_eq_true, beq_iff_eq] at h1
    obtain ⟨e1, e2, e3, e4⟩ := allE_mem.1 he
    refine ⟨e.fr, parts_mem.2 e1, ?_⟩
    rw [Bool.and_eq_true, decide_eq_true_eq]
    refine ⟨h1.1, ?_⟩
    rw [← h1.2, ← e3]; exact e4
  · rintro ⟨r, hr, h1⟩
    rw [Bool.and_eq_true, decide_eq_true_eq] at h1
    refine ⟨⟨r, q, f r q⟩, allE_mem.2 ⟨parts_mem.1 hr, (h.ends h1.2).2.1, rfl, h1.2⟩, ?_⟩
    rw [Bool.and_eq_true, beq_iff_eq]
    exact ⟨h1.1, rfl⟩

end Go.Proofs.Ytmfacfnbokadmaa
