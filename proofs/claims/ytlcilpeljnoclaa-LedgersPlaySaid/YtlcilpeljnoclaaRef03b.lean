/-
  countinghouseref03: at, Line.
-/
import Derived.Test.YtlcilpeljnoclaaRef03
namespace Go.Proofs.Ytlcilpeljnoclaa
open Go.RowKit
set_option linter.unusedSimpArgs false
set_option linter.unusedVariables false

/-- The cells of one line in a row of lines. -/
theorem ln_cells {w : World} {b : Nat} {ls : List Ln} (h : ∀ j, j < ls.length * 5 → w.cell? ⟨b, j, none⟩ = (lnCells ls)[j]?) {k : Nat} (hk : k < ls.length) :
    w.cell? ⟨b, k * 5, none⟩ = some (.int .u8 ls[k].cr) ∧ w.cell? ⟨b, k * 5 + 1, none⟩ = some (.int .u8 ls[k].de) ∧ w.cell? ⟨b, k * 5 + 2, none⟩ = some (.int .u8 ls[k].cu) ∧ w.cell? ⟨b, k * 5 + 3, none⟩ = some (.int .i64 ls[k].li) ∧ w.cell? ⟨b, k * 5 + 4, none⟩ = some (.int .i64 ls[k].db) := by
  refine ⟨?_, ?_, ?_, ?_, ?_⟩
  · have := lnCells_get ls k 0 (by omega) hk
    rw [Nat.add_zero] at this
    rw [h _ (by omega), this]; rfl
  · rw [h _ (by omega), lnCells_get ls k 1 (by omega) hk]; rfl
  · rw [h _ (by omega), lnCells_get ls k 2 (by omega) hk]; rfl
  · rw [h _ (by omega), lnCells_get ls k 3 (by omega) hk]; rfl
  · rw [h _ (by omega), lnCells_get ls k 4 (by omega) hk]; rfl

theorem take_next {α : Type} {q : α → Prop} {l : List α} {k : Nat} (h : k < l.length) (hn : ∀ x ∈ l.take k, q x) (hx : q l[k]) : ∀ x ∈ l.take (k + 1), q x := by
  rw [List.take_succ_eq_append_getElem h]
  intro x hx'
  rcases List.mem_append.1 hx' with h1 | h1
  · exact hn x h1
  · rw [List.mem_singleton] at h1; rw [h1]; exact hx

set_option maxHeartbeats 2000000 in
theorem rat_any {w : World} {base g : Nat} {ps : List Int} {ls : List Ln} {vp vl : Value} (h : RefL w base g ps ls vp vl) (p q c : Int) :
    Calls Try.prog 52 #[.pointer (some ⟨g, 0, none⟩), .int .u8 p, .int .u8 q, .int .u8 c] w fun e w' => e = .returned (.int .i64 (atL ls p q c)) ∧ w' = w := by
  have d0 := h.blk.cell 1
  simp at d0
  obtain ⟨ao, cap, rfl, hc1, hc2, hc3, hc4⟩ := owns_open h.l
  have HC := Lib.hid hc4
  have hlt := h.blk.lt
  unfold maxLen at hc2
  clear hc3 hc4 h
  go_enter Try.func52, Try.ntmps52
  go_wp2
  go_loop [9] (fun i => ∃ k : Nat, k ≤ ls.length ∧ i = .int .i64 k ∧ Hid (∀ x ∈ ls.take k, x.is p q c = false)) (fun i => ls.length - (intOf i).toNat)
  case atStart => exact ⟨0, Nat.zero_le _, rfl, Lib.hid (by simp)⟩
  case round =>
    obtain ⟨k, hk, rfl, hn⟩ := hrel
    by_cases hkl : k < ls.length
    · obtain ⟨b, rfl, hb1, hb2, hcell, _⟩ := HC.out (by omega)
      obtain ⟨e0, e1, e2, _, _⟩ := ln_cells hcell hkl
      have hs : ((ls[k].cr == p) = true ∧ (ls[k].de == q) = true ∧ (ls[k].cu == c) = true ∧ ls[k].is p q c = true) ∨ ((ls[k].cr == p) = false ∧ ls[k].is p q c = false) ∨ ((ls[k].cr == p) = true ∧ (ls[k].de == q) = false ∧ ls[k].is p q c = false) ∨ ((ls[k].cr == p) = true ∧ (ls[k].de == q) = true ∧ (ls[k].cu == c) = false ∧ ls[k].is p q c = false) := by
        unfold Ln.is
        cases ls[k].cr == p <;> cases ls[k].de == q <;> cases ls[k].cu == c <;> simp
      clear hcell
      rcases hs with ⟨s1, s2, s3, s4⟩ | ⟨s1, s4⟩ | ⟨s1, s2, s4⟩ | ⟨s1, s2, s3, s4⟩
      · have HA := Lib.hid (at_found hkl hn.out s4).1
        clear s4
        go_wp2
        go_ret
        exact ⟨by rw [HA.out]; rfl, rfl⟩
      all_goals
        have HN := Lib.hid (take_next hkl hn.out s4)
        clear s4
        go_wp2
        go_round
        case rel => exact ⟨k + 1, by omega, by go_num, HN⟩
        case measure => simp [intOf]; omega
    · have HA := Lib.hid (at_none (ls := ls) (a := p) (b := q) (c := c) (by have := hn.out; rwa [List.take_of_length_le (by omega)] at this)).1
      go_wp2
      go_ret
      exact ⟨by rw [HA.out]; rfl, rfl⟩

def lineV (o : Option Ln) : Value := match o with | some x => .tuple #[x.val, .bool true] | none => .tuple #[noLn.val, .bool false]
theorem info_line : (Try.prog.info? 35).map (·.size) = some 5 := by kernel_rfl
set_option maxHeartbeats 2000000 in
theorem rline_any {w : World} {base g : Nat} {ps : List Int} {ls : List Ln} {vp vl : Value} (h : RefL w base g ps ls vp vl) (p q c : Int) :
    Calls Try.prog 17 #[.pointer (some ⟨g, 0, none⟩), .int .u8 p, .int .u8 q, .int .u8 c] w fun e w' => e = .returned (lineV (lineL ls p q c)) ∧ Below w.heap.size w w' := by
  have ob := Lib.hid (Blk.new w #[.int .u8 0, .int .u8 0, .int .u8 0, .int .i64 0, .int .i64 0] 35)
  have bb := Lib.hid ((Below.refl w.heap.size w).alloc (Nat.le_refl _) (.cells #[.int .u8 0, .int .u8 0, .int .u8 0, .int .i64 0, .int .i64 0] 35))
  have kk : Keep (fun _ => False) w (w.alloc (.cells #[.int .u8 0, .int .u8 0, .int .u8 0, .int .i64 0, .int .i64 0] 35)) := Keep.of_below bb.out
  have h2 : RefL (w.alloc (.cells #[.int .u8 0, .int .u8 0, .int .u8 0, .int .i64 0, .int .i64 0] 35)) base g ps ls vp vl := ⟨h.blk.keep kk id, h.ge, owns_keep h.p kk (fun _ _ => id), owns_keep h.l kk (fun _ _ => id)⟩
  have ca := Lib.hid (rat_any h2 p q c)
  have d0 := h2.blk.cell 1
  simp at d0
  obtain ⟨ao, cap, rfl, hc1, hc2, hc3, hc4⟩ := owns_open h2.l
  have HC := Lib.hid hc4
  have hlt := h2.blk.lt
  unfold maxLen at hc2
  clear hc3 hc4 h kk h2
  rcases at_cases ls p q c with ⟨k, hk, ha, hl, _⟩ | ⟨ha, hl, _⟩
  · rw [ha] at ca
    rw [hl]
    obtain ⟨b, rfl, hb1, hb2, hcell, _⟩ := HC.out (by omega)
    obtain ⟨e0, e1, e2, e3, e4⟩ := ln_cells hcell hk
    clear hcell ha hl
    go_enter Try.func17, Try.ntmps17
    go_wp2_with fail
    refine ca.out.mono ?_
    rintro e w1 ⟨rfl, rfl⟩
    go_wp2
    refine bodyPost_ret (v := .tuple #[ls[k].val, .bool true]) (results_cell_and rfl _ _ w.heap.size 35 #[.int .u8 ls[k].cr, .int .u8 ls[k].de, .int .u8 ls[k].cu, .int .i64 ls[k].li, .int .i64 ls[k].db] _ _ rfl (Blk.new w #[.int .u8 ls[k].cr, .int .u8 ls[k].de, .int .u8 ls[k].cu, .int .i64 ls[k].li, .int .i64 ls[k].db] 35).out Try.underlying35 rfl (by kernel_rfl) rfl) rfl ⟨rfl, (Below.refl _ _).alloc (Nat.le_refl _) _⟩
  · rw [ha] at ca
    rw [hl]
    clear ha hl
    go_enter Try.func17, Try.ntmps17
    go_wp2_with fail
    refine ca.out.mono ?_
    rintro e w1 ⟨rfl, rfl⟩
    go_wp2
    refine bodyPost_ret (v := .tuple #[noLn.val, .bool false]) (results_cell_and rfl _ _ w.heap.size 35 #[.int .u8 0, .int .u8 0, .int .u8 0, .int .i64 0, .int .i64 0] _ _ rfl (Blk.new w #[.int .u8 0, .int .u8 0, .int .u8 0, .int .i64 0, .int .i64 0] 35).out Try.underlying35 rfl (by kernel_rfl) rfl) rfl ⟨rfl, (Below.refl _ _).alloc (Nat.le_refl _) _⟩

end Go.Proofs.Ytlcilpeljnoclaa
