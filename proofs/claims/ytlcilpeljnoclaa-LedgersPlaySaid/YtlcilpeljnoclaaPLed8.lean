/-
  slices.Clip of a row of one's own; the program's ledgers: Parties.
-/
import Derived.Test.YtlcilpeljnoclaaPLed7
namespace Go.Proofs.Ytlcilpeljnoclaa
open Go.RowKit
set_option linter.unusedSimpArgs false
set_option linter.unusedVariables false

theorem run_slice_clip {P : Program} (w : World) (t e : TypeId) (sz : Nat) (ht : P.underlying t = some (.slice e)) (hs : (sizeOf e).run P w = .ok sz w) (b n cap : Nat) (h : n ≤ cap) :
    (Instr.sliceAt t (.slice (some ⟨b, 0, none⟩) n cap) none (some (.int .i64 n)) (some (.int .i64 n))).run P w = .ok (.slice (some ⟨b, 0, none⟩) n n) w := by
  have he : P.elem t = e := by simp [Program.elem, ht]
  simp [Instr.sliceAt, Instr.slice, run_underlying ht, Instr.sliceBounds, run_sliceBound, hs, h, Result.andThen, Addr.add]
theorem run_slice_clip_none {P : Program} (w : World) (t e : TypeId) (sz : Nat) (ht : P.underlying t = some (.slice e)) (hs : (sizeOf e).run P w = .ok sz w) :
    (Instr.sliceAt t (.slice none 0 0) none (some (.int .i64 0)) (some (.int .i64 0))).run P w = .ok (.slice none 0 0) w := by
  simp [Instr.sliceAt, Instr.slice, run_underlying ht, Instr.sliceBounds, run_sliceBound, hs, Result.andThen, Addr.add]
/-- A row, cut down to its length. -/
theorem owns_clip {w : World} {base : Nat} {e : TypeId} {size : Nat} {b n cap : Nat} {xs : List Value} (h : w.ownsRow base e size (.slice (some ⟨b, 0, none⟩) n cap) n xs) : n ≤ cap := by
  rcases h.2 with ⟨h1, _⟩ | ⟨g, cap', cur, hv, _, _, h3, _⟩
  · cases h1
  · cases hv; exact h3

end Go.Proofs.Ytlcilpeljnoclaa
