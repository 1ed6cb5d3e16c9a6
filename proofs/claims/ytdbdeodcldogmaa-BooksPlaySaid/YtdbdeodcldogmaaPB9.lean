/-
  The program's books: Copy.
-/
import Derived.Test.YtdbdeodcldogmaaPB4
namespace Go.Proofs.Ytdbdeodcldogmaa
open Go.RowKit
set_option linter.unusedSimpArgs false
set_option linter.unusedVariables false

/-- Another book with the same, in memory of its own. -/
def CopyPost (base : Nat) (l : List Of) (N : Int) (w : World) (e : Ending) (w' : World) : Prop :=
  ∃ g' vl', e = .returned (.pointer (some ⟨g', 0, none⟩)) ∧ PB w' base g' l N vl' ∧ w.heap.size ≤ g' ∧ (∀ b, vl'.ownBlock = some b → w.heap.size ≤ b) ∧ Below w.heap.size w w'
set_option maxHeartbeats 4000000 in
set_option maxRecDepth 100000 in
theorem pcopyB_any {w : World} {base g : Nat} {l : List Of} {N : Int} {vl : Value} (h : PB w base g l N vl) (h1 : 1 ≤ N) (hl : l.length ≤ 1000) :
    Calls Try.prog 14 #[.pointer (some ⟨g, 0, none⟩)] w (CopyPost base l N w) := by
  have CM := Lib.hid (pmade_any h.blk h1)
  have H := Lib.hid h
  obtain ⟨ao, cap, rfl, _⟩ := owns_open h.row
  have hgl := h.blk.lt
  have d0 := h.blk.cell 0
  have d1 := h.blk.cell 1
  simp at d0 d1
  have CC := Lib.hid (cloneO_any (w := w.drew) (owns_below h.row (Below.refl _ _).drew) hl)
  have hbs := Nat.le_trans h.ge (Nat.le_of_lt hgl)
  clear h h1
  go_enter Try.func14, Try.ntmps14
  go_wp2_with fail
  refine CM.out.mono ?_
  rintro e w ⟨rfl, rfl⟩
  go_wp2_with fail
  go_region_with ((refine CC.out.mono ?_; rintro e w1 ⟨v', rfl, o1, b1⟩; have HO := Lib.hid o1; have HB := Lib.hid b1; have k1 := (H.out.blk.drew).below b1 hgl; have c1 := k1.cell 1; have l1 := k1.lt; simp at c1; obtain ⟨ao', cap', hv', _⟩ := owns_open o1; subst hv'; clear o1 b1 k1))
  all_goals
    go_wp2
    refine bodyPost_ret (v := .pointer (some ⟨w1.heap.size, 0, none⟩)) (by simp [results, Try.results14, go_sem]) rfl ?_
    have bw := (Below.refl w1.heap.size w1).alloc (Nat.le_refl _) (.cells #[.slice ao' l.length cap', .int .u64 N] 63)
    exact ⟨_, _, rfl, ⟨Blk.new _ _ _, Nat.le_trans hbs HB.out.size, owns_base (owns_below HO.out bw) hbs⟩, HB.out.size, fun b hb => (owns_type HO.out hb).1, (Below.undrew HB.out).trans (bw.mono HB.out.size)⟩

end Go.Proofs.Ytdbdeodcldogmaa
