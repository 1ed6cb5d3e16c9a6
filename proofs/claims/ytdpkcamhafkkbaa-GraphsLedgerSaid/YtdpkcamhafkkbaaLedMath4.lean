/-
  Ledgers as lists: Open; a party, a line behind all that stand. No program.
-/
import Derived.Test.YtdpkcamhafkkbaaLedMath3
namespace Go.Proofs.Ytdpkcamhafkkbaa
open Go.RowKit
set_option linter.unusedSimpArgs false
set_option linter.unusedVariables false

theorem openTo_mem {ps : List Int} {p q : Int} : q ∈ openTo ps p 17 ↔ (1 ≤ q ∧ q ≤ 16) ∧ (q = p ∨ q ∈ ps) := by
  unfold openTo
  rw [List.mem_filter, List.mem_map]
  constructor
  · rintro ⟨⟨i, hi, rfl⟩, h⟩
    rw [List.mem_range] at hi
    simp at h
    exact ⟨⟨by omega, by omega⟩, h⟩
  · rintro ⟨⟨h1, h2⟩, h⟩
    refine ⟨⟨q.toNat - 1, List.mem_range.2 (by omega), by omega⟩, by simpa using h⟩
theorem openTo_rise (ps : List Int) (p : Int) (k : Nat) : (openTo ps p k).Pairwise (· < ·) := by
  unfold openTo
  refine List.Pairwise.filter _ (List.pairwise_map.2 ?_)
  exact (List.pairwise_lt_range).imp fun {a b} h => by omega
theorem rise_ext : ∀ (l m : List Int), l.Pairwise (· < ·) → m.Pairwise (· < ·) → (∀ x, x ∈ l ↔ x ∈ m) → l = m
  | [], [], _, _, _ => rfl
  | [], y :: m, _, _, h => by have := (h y).2 (by simp); cases this
  | x :: l, [], _, _, h => by have := (h x).1 (by simp); cases this
  | x :: l, y :: m, hl, hm, h => by
    rw [List.pairwise_cons] at hl hm
    have hxy : x = y := by
      have h1 := (h x).1 (by simp)
      have h2 := (h y).2 (by simp)
      rcases List.mem_cons.1 h1 with h1 | h1
      · exact h1
      · rcases List.mem_cons.1 h2 with h2 | h2
        · exact h2.symm
        · have a := hl.1 y h2
          have b := hm.1 x h1
          omega
    subst hxy
    rw [rise_ext l m hl.2 hm.2 fun z => ?_]
    constructor
    · intro hz
      have a := hl.1 z hz
      rcases List.mem_cons.1 ((h z).1 (by simp [hz])) with e | e
      · omega
      · exact e
    · intro hz
      have a := hm.1 z hz
      rcases List.mem_cons.1 ((h z).2 (by simp [hz])) with e | e
      · omega
      · exact e
theorem LInv.open {ps : List Int} {ls : List Ln} (h : LInv ps ls) (p : Int) : LInv (openP ps p) ls := by
  unfold openP
  split
  · exact h
  · split
    · exact h
    · refine ⟨h.inv, h.len, fun x hx => ?_, fun q hq => (openTo_mem.1 hq).1, openTo_rise _ _ _⟩
      obtain ⟨h1, h2⟩ := h.ends x hx
      exact ⟨openTo_mem.2 ⟨h.bd _ h1, .inr h1⟩, openTo_mem.2 ⟨h.bd _ h2, .inr h2⟩⟩
/-- A party above all that stand. -/
theorem open_last {ps : List Int} {p : Int} (hr : ps.Pairwise (· < ·)) (hb : ∀ q ∈ ps, 1 ≤ q ∧ q ≤ 16) (hp : 1 ≤ p ∧ p ≤ 16) (hl : ∀ q ∈ ps, q < p) : openE ps p = 0 ∧ openP ps p = ps ++ [p] := by
  have hn : p ∉ ps := fun h => by have := hl p h; omega
  have h1 : ¬ (p < 1 ∨ 16 < p) := by omega
  unfold openE openP
  rw [if_neg h1, if_neg h1, if_neg hn, if_neg hn]
  refine ⟨rfl, rise_ext _ _ (openTo_rise _ _ _) ?_ fun q => ?_⟩
  · rw [List.pairwise_append]
    exact ⟨hr, by simp, fun a ha b hb => by rw [List.mem_singleton] at hb; subst hb; exact hl a ha⟩
  · rw [openTo_mem, List.mem_append, List.mem_singleton]
    constructor
    · rintro ⟨_, h | h⟩
      · exact .inr h
      · exact .inl h
    · rintro (h | h)
      · exact ⟨hb q h, .inr h⟩
      · subst h; exact ⟨hp, .inl rfl⟩
/-- A line above all that stand. -/
theorem set_last {ls : List Ln} {x : Ln} (hs : ls.Pairwise fun x y => x.rank < y.rank) (hl : ∀ y ∈ ls, y.rank < x.rank) (hx : x.li ≠ 0) : setL ls x = ls ++ [x] := by
  refine sorted_ext _ _ (setL_sorted hs x) ?_ fun y => ?_
  · rw [List.pairwise_append]
    exact ⟨hs, by simp, fun a ha b hb => by rw [List.mem_singleton] at hb; subst hb; exact hl a ha⟩
  · rw [setL_mem_iff hs, List.mem_append, List.mem_singleton]
    constructor
    · rintro (⟨h, _⟩ | ⟨h, _⟩)
      · exact .inl h
      · exact .inr h
    · rintro (h | h)
      · exact .inl ⟨h, by have := hl y h; omega⟩
      · exact .inr ⟨h, hx⟩
/-- A line twice: the second stands. -/
theorem set_twice {ls : List Ln} {x y : Ln} (hs : ls.Pairwise fun x y => x.rank < y.rank) (hr : y.rank = x.rank) : setL (setL ls y) x = setL ls x := by
  refine sorted_ext _ _ (setL_sorted (setL_sorted hs y) x) (setL_sorted hs x) fun z => ?_
  rw [setL_mem_iff (setL_sorted hs y), setL_mem_iff hs, setL_mem_iff hs]
  constructor
  · rintro (⟨h | h, h2⟩ | h)
    · exact .inl ⟨h.1, h2⟩
    · exact absurd (by rw [h.1]; exact hr) h2
    · exact .inr h
  · rintro (⟨h, h2⟩ | h)
    · exact .inl ⟨.inl ⟨h, by rw [hr]; exact h2⟩, h2⟩
    · exact .inr h

end Go.Proofs.Ytdpkcamhafkkbaa
