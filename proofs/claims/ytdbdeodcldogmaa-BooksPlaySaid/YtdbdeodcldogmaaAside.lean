/-
  What lies aside of a book: blocks and told lists that its changes leave alone.
-/
import Derived.Test.YtdbdeodcldogmaaPB7
import Derived.Test.YtdbdeodcldogmaaPB8
namespace Go.Proofs.Ytdbdeodcldogmaa
open Go.RowKit
set_option linter.unusedSimpArgs false
set_option linter.unusedVariables false

/-- A block that is none of the book's. -/
def OffB (w : World) (g : Nat) (vl : Value) (b : Nat) : Prop := b < w.heap.size ∧ ¬ Foot g vl b
theorem OffB.below {w w' : World} {g b : Nat} {vl : Value} (h : OffB w g vl b) (k : Below w.heap.size w w') : OffB w' g vl b := ⟨Nat.lt_of_lt_of_le h.1 k.size, h.2⟩
theorem OffB.moved {w w' : World} {g b : Nat} {vl vl' : Value} (h : OffB w g vl b) (k : Keep (Foot g vl) w w') (m : Moved w vl vl') : OffB w' g vl' b := by
  refine ⟨Nat.lt_of_lt_of_le h.1 k.size, ?_⟩
  rintro (e | e)
  · exact h.2 (.inl e)
  · rcases m b e with q | q
    · exact h.2 (.inr q)
    · have := h.1; omega
theorem OffB.new {w w' : World} {base g b : Nat} {l : List Of} {N : Int} {vl : Value} (h : PB w base g l N vl) (hb : w.heap.size ≤ b) (hb2 : b < w'.heap.size) : OffB w' g vl b := ⟨hb2, fun f => by have := (h.lt f).2; omega⟩
theorem OffB.old {w : World} {base g b : Nat} {l : List Of} {N : Int} {vl : Value} (h : PB w base g l N vl) (hb : b < base) : OffB w g vl b := ⟨Nat.lt_of_lt_of_le hb (Nat.le_trans h.ge (Nat.le_of_lt h.blk.lt)), fun f => by have := (h.lt f).1; omega⟩
structure BlkO (w : World) (g : Nat) (vl : Value) (b : Nat) (cs : Array Value) (t : TypeId) : Prop where
  blk : Blk w b cs t
  off : OffB w g vl b
theorem BlkO.below {w w' : World} {g b : Nat} {vl : Value} {cs : Array Value} {t : TypeId} (h : BlkO w g vl b cs t) (k : Below w.heap.size w w') : BlkO w' g vl b cs t := ⟨h.blk.below k h.blk.lt, h.off.below k⟩
theorem BlkO.moved {w w' : World} {g b : Nat} {vl vl' : Value} {cs : Array Value} {t : TypeId} (h : BlkO w g vl b cs t) (k : Keep (Foot g vl) w w') (m : Moved w vl vl') : BlkO w' g vl' b cs t := ⟨h.blk.keep k h.off.2, h.off.moved k m⟩
theorem BlkO.lt {w : World} {g b : Nat} {vl : Value} {cs : Array Value} {t : TypeId} (h : BlkO w g vl b cs t) : b < w.heap.size := h.blk.lt
/-- A list that was told, none of whose memory is the book's. -/
structure RowO (w : World) (g : Nat) (vl v : Value) (l : List Of) : Prop where
  row : Rowed w 0 39 7 v l.length (ofCells l)
  off : ∀ b, v.ownBlock = some b → OffB w g vl b
theorem RowO.below {w w' : World} {g : Nat} {vl v : Value} {l : List Of} (h : RowO w g vl v l) (k : Below w.heap.size w w') : RowO w' g vl v l := ⟨h.row.below k, fun b hb => (h.off b hb).below k⟩
theorem RowO.moved {w w' : World} {g : Nat} {vl vl' v : Value} {l : List Of} (h : RowO w g vl v l) (k : Keep (Foot g vl) w w') (m : Moved w vl vl') : RowO w' g vl' v l := ⟨h.row.keep k (fun b hb => (h.off b hb).2), fun b hb => (h.off b hb).moved k m⟩
theorem RowO.told {w w' : World} {base g : Nat} {l : List Of} {N : Int} {vl v : Value} {m : List Of} (h : PB w base g l N vl) (hr : Rowed w' w.heap.size 39 7 v m.length (ofCells m)) : RowO w' g vl v m :=
  ⟨hr.base (Nat.zero_le _), fun b hb => OffB.new h (hr.type hb).1 (hr.type hb).2.1⟩
theorem rowed_open {w : World} {base : Nat} {e : TypeId} {v : Value} {l : List Of} (h : Rowed w base e 7 v l.length (ofCells l)) :
    ∃ ao c, v = .slice ao l.length c ∧ l.length ≤ c ∧ (0 < l.length → ∃ b, ao = some ⟨b, 0, none⟩ ∧ base ≤ b ∧ b < w.heap.size ∧ ∀ j, j < l.length * 7 → w.cell? ⟨b, j, none⟩ = (ofCells l)[j]?) := by
  obtain ⟨h1, h2⟩ := h
  rcases h2 with ⟨rfl, h0⟩ | ⟨g, cur, rfl, hb, hg, _, hc, ht⟩
  · exact ⟨none, 0, by rw [h0], by omega, fun h => by omega⟩
  · refine ⟨_, _, rfl, Nat.le_refl _, fun hp => ⟨g, rfl, hb, lt_of_block hg, fun j hj => ?_⟩⟩
    simp only [World.cell?, hg, Option.isSome_none, Bool.false_eq_true, if_false]
    rw [← ht, List.getElem?_take_of_lt hj, Array.getElem?_toList]

end Go.Proofs.Ytdbdeodcldogmaa
