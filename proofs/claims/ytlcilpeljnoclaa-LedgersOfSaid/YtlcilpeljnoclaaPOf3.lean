/-
  The program's ledgers: Of of good ones, and of bad ones; lines that are changed.
-/
import Derived.Test.YtlcilpeljnoclaaPOf2
namespace Go.Proofs.Ytlcilpeljnoclaa
open Go.RowKit
set_option linter.unusedSimpArgs false
set_option linter.unusedVariables false

theorem LInv.okP {ps : List Int} {ls : List Ln} (h : LInv ps ls) : okP ps := ⟨h.rise, h.bd⟩
theorem Ln.Good.mayE {x : Ln} (h : x.Good) : mayE x.cr x.de x.cu = true := by
  have h1 := h.cr; have h2 := h.de; have h3 := h.cu; have h4 := h.ne
  unfold Go.Proofs.Ytlcilpeljnoclaa.mayE
  rw [decide_eq_true_eq]
  exact ⟨h1, h2, h4, h3⟩
theorem LInv.okL {ps : List Int} {ls : List Ln} (h : LInv ps ls) : okL ps ls := by
  refine ⟨h.inv.sorted, fun x hx => ?_⟩
  have hg := h.inv.good x hx
  have h1 := hg.li; have h2 := hg.db
  exact ⟨hg.mayE, (h.ends x hx).1, (h.ends x hx).2, h1.1, h1.2, h2.1, h2.2⟩
theorem LInv.in8 {ps : List Int} {ls : List Ln} (h : LInv ps ls) : ∀ p ∈ ps, In8 p := fun p hp => by have := h.bd p hp; exact ⟨by omega, by omega⟩
theorem LInv.fits {ps : List Int} {ls : List Ln} (h : LInv ps ls) : ∀ x ∈ ls, x.Fits := fun x hx => (h.inv.good x hx).fits
/-- A line twice. -/
theorem twice_bad {ps : List Int} {ls : List Ln} {i : Nat} (hi : i < ls.length) : ¬ okL ps (ls.take (i + 1) ++ ls.drop i) := by
  rintro ⟨h, _⟩
  rw [List.pairwise_append] at h
  have h1 : ls[i] ∈ ls.take (i + 1) := by rw [List.take_succ_eq_append_getElem hi]; exact List.mem_append_right _ (List.mem_singleton.2 rfl)
  have h2 : ls[i] ∈ ls.drop i := by rw [← List.getElem_cons_drop hi]; exact List.mem_cons_self
  have := h.2.2 _ h1 _ h2
  omega
theorem twice_fits {ls : List Ln} {i : Nat} (h : ∀ x ∈ ls, x.Fits) : ∀ x ∈ ls.take (i + 1) ++ ls.drop i, x.Fits := by
  intro x hx
  rcases List.mem_append.1 hx with hx | hx
  · exact h x (List.mem_of_mem_take hx)
  · exact h x (List.mem_of_mem_drop hx)
theorem twice_len {ls : List Ln} {i : Nat} (hi : i < ls.length) : (ls.take (i + 1) ++ ls.drop i).length = ls.length + 1 := by
  rw [List.length_append, List.length_take, List.length_drop]; omega
/-- A line that may not be. -/
theorem set_bad {ps : List Int} {ls : List Ln} {i : Nat} (hi : i < ls.length) {y : Ln} (h : ¬ lnMay ps y) : ¬ okL ps (ls.set i y) := fun k => h (k.2 y (List.mem_iff_getElem.2 ⟨i, by simpa using hi, by simp⟩))
theorem set_fits {ls : List Ln} {i : Nat} {y : Ln} (h : ∀ x ∈ ls, x.Fits) (hy : y.Fits) : ∀ x ∈ ls.set i y, x.Fits := by
  intro x hx
  rcases List.mem_or_eq_of_mem_set hx with hx | rfl
  · exact h x hx
  · exact hy
/-- A cell of a row of lines. -/
theorem lnCells_set (ls : List Ln) {i c : Nat} (hi : i < ls.length) (hc : c < 5) {v : Value} {y : Ln} (hy : y.vals = ls[i].vals.set c v) : lnCells (ls.set i y) = (lnCells ls).set (i * 5 + c) v := by
  apply List.ext_getElem?
  intro j
  by_cases hj : j < ls.length * 5
  · obtain ⟨a, b, hb, rfl⟩ : ∃ a b, b < 5 ∧ j = a * 5 + b := ⟨j / 5, j % 5, Nat.mod_lt _ (by decide), by omega⟩
    have ha : a < ls.length := by omega
    rw [lnCells_get _ a b hb (by simpa using ha), List.getElem?_set]
    by_cases hai : i = a
    · subst hai
      rw [List.getElem_set_self, hy, List.getElem?_set, Ln.vals_len, lnCells_len]
      by_cases hbc : c = b
      · subst hbc
        rw [if_pos rfl, if_pos rfl, if_pos hc, if_pos (by omega)]
      · rw [if_neg hbc, if_neg (by omega), lnCells_get _ _ _ hb hi]
    · rw [List.getElem_set_ne hai, if_neg (by omega), lnCells_get _ _ _ hb ha]
  · rw [List.getElem?_eq_none (by rw [lnCells_len, List.length_set]; omega), List.getElem?_eq_none (by rw [List.length_set, lnCells_len]; omega)]
theorem Rowed.set {w : World} {base : Nat} {e : TypeId} {size : Nat} {g n cap : Nat} {xs : List Value} (h : Rowed w base e size (.slice (some ⟨g, 0, none⟩) n cap) n xs) {j : Nat} (hj : j < n * size) (v : Value) :
    Rowed (w.setCell ⟨g, j, none⟩ v) base e size (.slice (some ⟨g, 0, none⟩) n cap) n (xs.set j v) := by
  obtain ⟨h1, h2⟩ := h
  refine ⟨by simpa using h1, .inr ?_⟩
  rcases h2 with ⟨h2, _⟩ | ⟨g', cur, hv, hb, hg, hm, hc, ht⟩
  · cases h2
  · cases hv
    refine ⟨g, cur.setIfInBounds j v, rfl, hb, ?_, hm, by simpa using hc, ?_⟩
    · exact Blk.set (t := e) hg j v
    · rw [Array.toList_setIfInBounds, List.take_set, ht]
theorem pof_good {w : World} {vp vl : Value} {ps : List Int} {ls : List Ln} (h : LInv ps ls) (hp : Reads w vp 1 ps.length (ps.map (.int .u8))) (hl : Reads w vl 5 ls.length (lnCells ls)) :
    Calls Try.prog 33 #[vp, vl] w fun e w' => ∃ g m, e = .returned (.tuple #[.pointer (some ⟨g, 0, none⟩), .int .i64 0]) ∧ LedM w' g m ps ls ∧ Below w.heap.size w w' := by
  refine (pof_any hp hl h.in8 h.fits).mono ?_
  rintro e w' ⟨hb, ⟨_, _, _, g, m, _, _, he, hL⟩ | ⟨_, _, h64⟩ | ⟨_, hn | ⟨_, _, hn⟩⟩⟩
  · exact ⟨g, m, he, hL, hb⟩
  · have := h.len; omega
  · exact absurd h.okP hn
  · exact absurd h.okL hn
theorem pof_bad {w : World} {vp vl : Value} {ps : List Int} {ls : List Ln} (h : okP ps) (hp : Reads w vp 1 ps.length (ps.map (.int .u8))) (hl : Reads w vl 5 ls.length (lnCells ls)) (hf : ∀ x ∈ ls, x.Fits) (hn : ¬ okL ps ls) :
    Calls Try.prog 33 #[vp, vl] w fun e w' => e = .returned (.tuple #[.pointer none, .int .i64 (if ls.length ≤ 64 then 1 else 9)]) ∧ Below w.heap.size w w' := by
  refine (pof_any hp hl (fun p hp => by have := h.2 p hp; exact ⟨by omega, by omega⟩) hf).mono ?_
  rintro e w' ⟨hb, ⟨_, _, hk, _⟩ | ⟨he, _, h64⟩ | ⟨he, hq | ⟨_, h64, _⟩⟩⟩
  · exact absurd hk hn
  · rw [if_neg (by omega)]; exact ⟨he, hb⟩
  · exact absurd h hq
  · rw [if_pos h64]; exact ⟨he, hb⟩

end Go.Proofs.Ytlcilpeljnoclaa
