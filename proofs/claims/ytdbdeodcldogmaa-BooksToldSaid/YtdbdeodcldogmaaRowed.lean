/-
  slices.Clip of a row of one's own; slices of just their length.
-/
import Derived.Test.YtdbdeodcldogmaaSame
namespace Go.Proofs.Ytdbdeodcldogmaa
open Go.RowKit
set_option linter.unusedSimpArgs false
set_option linter.unusedVariables false

theorem run_slice_clip {P : Program} (w : World) (t e : TypeId) (sz : Nat) (ht : P.underlying t = some (.slice e)) (hs : (sizeOf e).run P w = .ok sz w) (b n cap : Nat) (h : n ≤ cap) :
    (Instr.sliceAt t (.slice (some ⟨b, 0, none⟩) n cap) none (some (.int .i64 n)) (some (.int .i64 n))).run P w = .ok (.slice (some ⟨b, 0, none⟩) n n) w := by
  have he : P.elem t = e := by simp [Program.elem, ht]
  simp [Instr.sliceAt, Instr.slice, run_underlying ht, Instr.sliceBounds, run_sliceBound, hs, h, Result.andThen, Addr.add]
theorem run_slice_clip_none {P : Program} (w : World) (t e : TypeId) (sz : Nat) (ht : P.underlying t = some (.slice e)) (hs : (sizeOf e).run P w = .ok sz w) :
    (Instr.sliceAt t (.slice none 0 0) none (some (.int .i64 0)) (some (.int .i64 0))).run P w = .ok (.slice none 0 0) w := by
  simp [Instr.sliceAt, Instr.slice, run_underlying ht, Instr.sliceBounds, run_sliceBound, hs, Result.andThen, Addr.add]
/-- A row, cut down to its length. -/
theorem owns_clip {w : World} {base : Nat} {e : TypeId} {size : Nat} {b n cap : Nat} {xs : List Value} (h : w.ownsRow base e size (.slice (some ⟨b, 0, none⟩) n cap) n xs) : n ≤ cap := by
  rcases h.2 with ⟨h1, _⟩ | ⟨g, cap', cur, hv, _, _, h3, _⟩
  · cases h1
  · cases hv; exact h3
/-- A slice of a call's own, of just its length. -/
def Rowed (w : World) (base : Nat) (e : TypeId) (size : Nat) (v : Value) (n : Nat) (xs : List Value) : Prop :=
  xs.length = n * size ∧ ((v = .slice none 0 0 ∧ n = 0) ∨ ∃ g cur, v = .slice (some ⟨g, 0, none⟩) n n ∧ base ≤ g ∧ w.heap[g]? = some (.cells cur e (0, 0)) ∧ n ≤ maxLen ∧ n * size ≤ cur.size ∧ cur.toList.take (n * size) = xs)
theorem Rowed.keep {S : Nat → Prop} {w w' : World} {base : Nat} {e : TypeId} {size : Nat} {v : Value} {n : Nat} {xs : List Value} (h : Rowed w base e size v n xs) (k : Keep S w w') (hs : ∀ b, v.ownBlock = some b → ¬ S b) : Rowed w' base e size v n xs := by
  obtain ⟨h1, h2⟩ := h
  refine ⟨h1, ?_⟩
  rcases h2 with h2 | ⟨g, cur, rfl, hb, hg, hr⟩
  · exact .inl h2
  · refine .inr ⟨g, cur, rfl, hb, ?_, hr⟩
    rw [k.block g (lt_of_block hg) (hs g rfl)]
    exact hg
theorem Rowed.below {w w' : World} {base : Nat} {e : TypeId} {size : Nat} {v : Value} {n : Nat} {xs : List Value} (h : Rowed w base e size v n xs) (k : Below w.heap.size w w') : Rowed w' base e size v n xs :=
  h.keep (Keep.of_below (S := fun _ => False) k) (fun _ _ => id)
theorem Rowed.base {w : World} {base b' : Nat} {e : TypeId} {size : Nat} {v : Value} {n : Nat} {xs : List Value} (h : Rowed w base e size v n xs) (hb : b' ≤ base) : Rowed w b' e size v n xs := by
  obtain ⟨h1, h2⟩ := h
  refine ⟨h1, ?_⟩
  rcases h2 with h2 | ⟨g, cur, hv, hg, hr⟩
  · exact .inl h2
  · exact .inr ⟨g, cur, hv, Nat.le_trans hb hg, hr⟩
theorem Rowed.type {w : World} {base : Nat} {e : TypeId} {size : Nat} {v : Value} {n : Nat} {xs : List Value} (h : Rowed w base e size v n xs) {b : Nat} (hb : v.ownBlock = some b) : base ≤ b ∧ b < w.heap.size ∧ ∃ cur, w.heap[b]? = some (.cells cur e (0, 0)) := by
  obtain ⟨_, h2⟩ := h
  rcases h2 with ⟨rfl, _⟩ | ⟨g, cur, rfl, hge, hg, _⟩
  · cases hb
  · cases hb; exact ⟨hge, lt_of_block hg, cur, hg⟩
theorem Rowed.reads {w : World} {base : Nat} {e : TypeId} {size : Nat} {v : Value} {n : Nat} {xs : List Value} (h : Rowed w base e size v n xs) (hn : n ≤ 100000000) : Reads w v size n xs := by
  obtain ⟨h1, h2⟩ := h
  rcases h2 with ⟨rfl, rfl⟩ | ⟨g, cur, rfl, _, hg, _, hc, ht⟩
  · exact ⟨none, 0, rfl, by omega, h1, fun h => by omega⟩
  · refine ⟨_, n, rfl, hn, h1, fun hp => ⟨g, 0, rfl, lt_of_block hg, fun j hj => ?_⟩⟩
    rw [Nat.zero_add]
    show w.cell? ⟨g, j, none⟩ = _
    simp only [World.cell?, hg, Option.isSome_none, Bool.false_eq_true, if_false]
    rw [← ht, List.getElem?_take_of_lt hj, Array.getElem?_toList]
def ClipPost (w : World) (base : Nat) (e : TypeId) (size n : Nat) (v : Value) (xs : List Value) (en : Ending) (w' : World) : Prop :=
  ∃ v', en = .returned v' ∧ Rowed w' base e size v' n xs ∧ v'.ownBlock = v.ownBlock ∧ w' = w
/-- A list that is told. -/
def ListPost (w : World) (e : TypeId) (size n : Nat) (xs : List Value) (en : Ending) (w' : World) : Prop :=
  ∃ v', en = .returned v' ∧ Rowed w' w.heap.size e size v' n xs ∧ Below w.heap.size w w'

end Go.Proofs.Ytdbdeodcldogmaa
