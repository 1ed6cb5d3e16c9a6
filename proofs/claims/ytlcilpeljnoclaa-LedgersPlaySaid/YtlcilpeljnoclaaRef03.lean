/-
  countinghouseref03: a ledger in memory; Has, rank, at.
-/
import Derived.Test.YtlcilpeljnoclaaLed
namespace Go.Proofs.Ytlcilpeljnoclaa
open Go.RowKit
set_option linter.unusedSimpArgs false
set_option linter.unusedVariables false

/-- The document's ledger at block g, with its two lists. -/
structure RefL (w : World) (base g : Nat) (ps : List Int) (ls : List Ln) (vp vl : Value) : Prop where
  blk : Blk w g #[vp, vl] 74
  ge : base ≤ g
  p : w.ownsRow base 28 1 vp ps.length (ps.map (.int .u8))
  l : w.ownsRow base 35 5 vl ls.length (lnCells ls)

set_option maxHeartbeats 1000000 in
theorem rhas_any {w : World} {base g : Nat} {ps : List Int} {ls : List Ln} {vp vl : Value} (h : RefL w base g ps ls vp vl) (p : Int) :
    Calls Try.prog 25 #[.pointer (some ⟨g, 0, none⟩), .int .u8 p] w fun e w' => e = .returned (.bool (decide (p ∈ ps))) ∧ w' = w := by
  have d0 := h.blk.cell 0
  simp at d0
  obtain ⟨ao, cap, rfl, hc1, hc2, hc3, hc4⟩ := owns_open h.p
  have HC := Lib.hid hc4
  have hlt := h.blk.lt
  unfold maxLen at hc2
  clear hc3 hc4 h
  go_enter Try.func25, Try.ntmps25
  go_wp2
  go_loop [5] (fun i => ∃ k : Nat, k ≤ ps.length ∧ i = .int .i64 k ∧ Hid (p ∉ ps.take k)) (fun i => ps.length - (intOf i).toNat)
  case atStart => exact ⟨0, Nat.zero_le _, rfl, Lib.hid (by simp)⟩
  case round =>
    obtain ⟨k, hk, rfl, hn⟩ := hrel
    by_cases hkl : k < ps.length
    · obtain ⟨b, rfl, hb1, hb2, hcell, _⟩ := HC.out (by omega)
      have hck : w.cell? ⟨b, k, none⟩ = some (.int .u8 ps[k]) := by rw [hcell k (by omega)]; simp [hkl]
      clear hcell
      by_cases he : ps[k] = p
      · have hq : (ps[k] == p) = true := by simp [he]
        have hin : decide (p ∈ ps) = true := by rw [decide_eq_true_eq, ← he]; exact List.getElem_mem hkl
        have HI := Lib.hid hin
        clear he hin
        go_wp2
        go_ret
        exact ⟨by rw [HI.out]; rfl, rfl⟩
      · have hq : (ps[k] == p) = false := by simp [he]
        have HN : Hid (p ∉ ps.take (k + 1)) := Lib.hid (by
          rw [List.take_succ_eq_append_getElem hkl]
          simp only [List.mem_append, List.mem_singleton, not_or]
          exact ⟨hn.out, fun e => he e.symm⟩)
        clear he
        go_wp2
        go_round
        case rel => exact ⟨k + 1, by omega, by go_num, HN⟩
        case measure => simp [intOf]; omega
    · have hin : decide (p ∈ ps) = false := by
        rw [decide_eq_false_iff_not]
        have := hn.out
        rwa [List.take_of_length_le (by omega)] at this
      have HI := Lib.hid hin
      clear hin
      go_wp2
      go_ret
      exact ⟨by rw [HI.out]; rfl, rfl⟩

set_option maxHeartbeats 1000000 in
theorem rrank_any (x : Ln) (w : World) (h : x.Fits) :
    Calls Try.prog 62 #[x.val] w fun e w' => e = .returned (.int .i64 x.rank) ∧ Below w.heap.size w w' := by
  obtain ⟨⟨a1, a2⟩, ⟨b1, b2⟩, ⟨c1, c2⟩, _, _⟩ := h
  have B0 := Lib.hid ((Below.refl w.heap.size w).alloc (Nat.le_refl _) (.cells #[.int .u8 x.cr, .int .u8 x.de, .int .u8 x.cu, .int .i64 x.li, .int .i64 x.db] 35))
  unfold Ln.val Ln.rank
  go_enter Try.func62, Try.ntmps62
  go_wp2
  go_ret
  exact ⟨rfl, B0.out⟩

end Go.Proofs.Ytlcilpeljnoclaa
