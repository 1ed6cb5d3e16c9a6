/-
  The program's ledgers: Position and Total (loops over the map, in whatever order).
-/
import Derived.Test.YtlcilpeljnoclaaPLed6
import Derived.Maps.RangeWalk
namespace Go.Proofs.Ytlcilpeljnoclaa
open Go.RowKit
set_option linter.unusedSimpArgs false
set_option linter.unusedVariables false

/-- How many entries are still to come. -/
noncomputable def leftN (w : World) (m r : Nat) : Nat :=
  match w.heap[m]?, w.heap[r]? with
  | some (.map es _), some (.mapIter _ _ seen _) => (leftOf es seen).size
  | _, _ => 0
theorem RangeIs.left {w : World} {m r : Nat} {ls done : List Ln} (h : RangeIs w m r ls done) : leftN w m r + done.length = ls.length := by
  obtain ⟨ms, left, ⟨es, clock, since, seen, c0, hb, _, _, hr, _, _, _, hl⟩, _, hp⟩ := h
  have h1 := hp.length_eq
  have h2 := congrArg List.length hl
  rw [List.length_append] at h1
  simp only [List.length_map, Array.length_toList] at h2
  unfold leftN
  rw [hb, hr]
  dsimp only
  omega
/-- 'range' over the map, in the walk. -/
theorem wpList_range_lines {w : World} {ops : Array Oper} {rest : List Oper} {o : Oper} {a : Act} {Q : Exit → Act → World → Prop} (hg : o.guard = none) (x : Operand) (hop : o.op = .range 63 x) (m : Nat) (ls : List Ln)
    (hx : a.eval x = .map (some m)) (h : MapIs w m ls)
    (hK : ∀ w', RangeIs w' m w.heap.size ls [] → Below w.heap.size w w' → wpList Try.prog ops Q rest (a.put o.dst (.pointer (some ⟨w.heap.size, 0, none⟩))) w') : wpList Try.prog ops Q (o :: rest) a w := by
  refine wpList_plain hg fun K' hK' => ?_
  obtain ⟨w', hr, h1, h2⟩ := h.range
  unfold Oper.wp
  simp [execOp, hop, hx, hr, Result.andThen]
  exact hK' _ _ (hK w' h1 h2)
/-- 'next', in the walk: all have come; or one more comes. -/
theorem wpList_next_lines {w : World} {ops : Array Oper} {rest : List Oper} {o : Oper} {a : Act} {Q : Exit → Act → World → Prop} (hg : o.guard = none) (it : Operand) (hop : o.op = .next it false) (m r : Nat) (ls done : List Ln)
    (hit : a.eval it = .pointer (some ⟨r, 0, none⟩)) (h : RangeIs w m r ls done)
    (hDone : done.Perm ls → wpList Try.prog ops Q rest (a.put o.dst (.tuple #[.bool false])) w)
    (hMore : ∀ x w', x ∈ ls → RangeIs w' m r ls (done ++ [x]) → Turned r w w' →
      (Instr.entry (.pointer (some ⟨r, 0, none⟩))).run Try.prog w' = .ok (.tuple #[.agg #[.int .u8 x.cr, .int .u8 x.de, .int .u8 x.cu], .agg #[.int .i64 x.li, .int .i64 x.db]]) w' →
      wpList Try.prog ops Q rest (a.put o.dst (.tuple #[.bool true, .agg #[.int .u8 x.cr, .int .u8 x.de, .int .u8 x.cu], .agg #[.int .i64 x.li, .int .i64 x.db]])) w') : wpList Try.prog ops Q (o :: rest) a w := by
  refine wpList_plain hg fun K' hK' => ?_
  unfold Oper.wp
  rcases h.next o.type with ⟨hd, hr⟩ | ⟨x, w', hx, hr, h1, h2, h3⟩
  · simp [execOp, hop, hit, hr, Result.andThen]
    exact hK' _ _ (hDone hd)
  · simp [execOp, hop, hit, hr, Result.andThen]
    exact hK' _ _ (hMore x w' hx h1 h2 h3)
theorem sum_app {α : Type} (f : α → Int) (l : List α) (x : α) : ((l ++ [x]).map f).sum = (l.map f).sum + f x := by simp
theorem sum_perm {α : Type} (f : α → Int) {l m : List α} (h : l.Perm m) : (l.map f).sum = (m.map f).sum := by
  induction h with
  | nil => rfl
  | cons x _ ih => simp [ih]
  | swap x y l => simp; omega
  | trans _ _ ih1 ih2 => exact ih1.trans ih2
/-- A partial sum is not too great. -/
theorem sum_part {f : Ln → Int} {ls done : List Ln} (hf : ∀ x ∈ ls, -1099511627776 ≤ f x ∧ f x ≤ 1099511627776) (hs : ∀ x ∈ done, x ∈ ls) (hl : done.length ≤ 64) : -70368744177664 ≤ (done.map f).sum ∧ (done.map f).sum ≤ 70368744177664 := by
  have := sum_le f 1099511627776 done (fun x hx => hf x (hs x hx))
  omega
theorem Turned.below {r B : Nat} {w w' : World} (h : Turned r w w') (hr : B ≤ r) : Below B w w' := ⟨h.os, h.tape, h.output, by rw [h.size]; exact Nat.le_refl _, fun k hk => h.block k (by omega)⟩

set_option maxHeartbeats 4000000 in
set_option maxRecDepth 100000 in
theorem ppos_any {w : World} {G M : Nat} {ps : List Int} {ls : List Ln} (h : LedM w G M ps ls) (hI : LInv ps ls) (p c : Int) :
    Calls Try.prog 20 #[.pointer (some ⟨G, 0, none⟩), .int .u8 p, .int .u8 c] w fun e w' => e = .returned (.int .i64 (posL ls p c)) ∧ Below w.heap.size w w' := by
  have C1 := Lib.hid (all_any h.blk)
  have HM := Lib.hid h.map
  have HI := Lib.hid hI
  have hbd : Hid (∀ x ∈ ls, -1099511627776 ≤ posOf p c x ∧ posOf p c x ≤ 1099511627776) := Lib.hid fun x hx => posOf_bd (hI.inv.good x hx) p c
  clear h hI
  go_enter Try.func20, Try.ntmps20
  go_wp2_with fail
  refine C1.out.mono ?_
  rintro e w ⟨rfl, rfl⟩
  go_wp2_with (first | (at_range; refine wpList_range_lines rfl _ rfl M ls rfl HM.out ?_; intro w0 hr0 hb0) | go_in)
  go_frame
  go_loopw [7] (fun s wr => ∃ done, s = .int .i64 (done.map (posOf p c)).sum ∧ RangeIs wr M w.heap.size ls done ∧ Below w.heap.size w wr) (fun _ wr => leftN wr M w.heap.size)
  case atStart => exact ⟨[], rfl, hr0, hb0⟩
  case round =>
    obtain ⟨done, rfl, hR, hB⟩ := hrel
    have hlen := hR.len
    have hleft := hR.left
    obtain ⟨s0, s1⟩ := sum_part hbd.out hR.sub (Nat.le_trans hlen HI.out.len)
    have HR := Lib.hid hR
    have HB := Lib.hid hB
    clear hR hB
    go_wp2_with (first | (at_next; refine wpList_next_lines rfl _ rfl M w.heap.size ls done rfl HR.out ?_ ?_) | go_in)
    · intro hd
      have hE := Lib.hid (sum_perm (posOf p c) hd)
      clear hd
      go_wp2
      go_ret
      exact ⟨by show Ending.returned (.int .i64 (done.map (posOf p c)).sum) = _; rw [hE.out]; rfl, HB.out⟩
    · intro x w1 hx hR1 hT hen
      have hb1 := HB.out.trans (hT.below (Nat.le_refl _))
      have hg := HI.out.inv.good x hx
      have hdb := hg.db
      have hli := hg.li
      have hb2 := ((Below.refl w1.heap.size w1).alloc (Nat.le_refl _) (.cells #[.int .u8 x.cr, .int .u8 x.de, .int .u8 x.cu] 77)).alloc (by simp) (.cells #[.int .i64 x.li, .int .i64 x.db] 79)
      have hR2 := Lib.hid (hR1.below hb2)
      have hB2 := Lib.hid (hb1.trans (hb2.mono hb1.size))
      have hleft2 := hR2.out.left
      have hap := Lib.hid (sum_app (posOf p c) done x)
      have hne : x.cr ≠ x.de := hg.ne
      have hs : ((x.cu != c) = true ∧ posOf p c x = 0) ∨ ((x.cu != c) = false ∧ (x.cr == p) = true ∧ posOf p c x = x.db) ∨ ((x.cu != c) = false ∧ (x.cr == p) = false ∧ (x.de == p) = true ∧ posOf p c x = -x.db) ∨ ((x.cu != c) = false ∧ (x.cr == p) = false ∧ (x.de == p) = false ∧ posOf p c x = 0) := by
        unfold posOf
        by_cases h1 : x.cu = c <;> by_cases h2 : x.cr = p <;> by_cases h3 : x.de = p <;> simp [h1, h2, h3]
        exact absurd (h2.trans h3.symm) hne
      rw [List.length_append] at hleft2
      generalize (done.map (posOf p c)).sum = S at *
      clear hx hR1 hT hb1 hb2 hg hne hlen
      rcases hs with ⟨q1, q0⟩ | ⟨q1, q2, q0⟩ | ⟨q1, q2, q3, q0⟩ | ⟨q1, q2, q3, q0⟩
      all_goals
        rw [q0] at hap
        clear q0
        go_wp2
        go_roundw
        case rel => exact ⟨done ++ [x], by first | (rw [hap.out]; done) | (rw [hap.out]; go_num), hR2.out, hB2.out⟩
        case measure =>
          simp only [List.length_singleton] at hleft2
          omega

set_option maxHeartbeats 4000000 in
set_option maxRecDepth 100000 in
theorem ptot_any {w : World} {G M : Nat} {ps : List Int} {ls : List Ln} (h : LedM w G M ps ls) (hI : LInv ps ls) (c : Int) :
    Calls Try.prog 22 #[.pointer (some ⟨G, 0, none⟩), .int .u8 c] w fun e w' => e = .returned (.int .i64 (totL ls c)) ∧ Below w.heap.size w w' := by
  have C1 := Lib.hid (all_any h.blk)
  have HM := Lib.hid h.map
  have HI := Lib.hid hI
  have hbd : Hid (∀ x ∈ ls, -1099511627776 ≤ totOf c x ∧ totOf c x ≤ 1099511627776) := Lib.hid fun x hx => totOf_bd (hI.inv.good x hx) c
  clear h hI
  go_enter Try.func22, Try.ntmps22
  go_wp2_with fail
  refine C1.out.mono ?_
  rintro e w ⟨rfl, rfl⟩
  go_wp2_with (first | (at_range; refine wpList_range_lines rfl _ rfl M ls rfl HM.out ?_; intro w0 hr0 hb0) | go_in)
  go_frame
  go_loopw [5] (fun s wr => ∃ done, s = .int .i64 (done.map (totOf c)).sum ∧ RangeIs wr M w.heap.size ls done ∧ Below w.heap.size w wr) (fun _ wr => leftN wr M w.heap.size)
  case atStart => exact ⟨[], rfl, hr0, hb0⟩
  case round =>
    obtain ⟨done, rfl, hR, hB⟩ := hrel
    have hlen := hR.len
    have hleft := hR.left
    obtain ⟨s0, s1⟩ := sum_part hbd.out hR.sub (Nat.le_trans hlen HI.out.len)
    have HR := Lib.hid hR
    have HB := Lib.hid hB
    clear hR hB
    go_wp2_with (first | (at_next; refine wpList_next_lines rfl _ rfl M w.heap.size ls done rfl HR.out ?_ ?_) | go_in)
    · intro hd
      have hE := Lib.hid (sum_perm (totOf c) hd)
      clear hd
      go_wp2
      go_ret
      exact ⟨by show Ending.returned (.int .i64 (done.map (totOf c)).sum) = _; rw [hE.out]; rfl, HB.out⟩
    · intro x w1 hx hR1 hT hen
      have hb1 := HB.out.trans (hT.below (Nat.le_refl _))
      have hg := HI.out.inv.good x hx
      have hdb := hg.db
      have hli := hg.li
      have hb2 := ((Below.refl w1.heap.size w1).alloc (Nat.le_refl _) (.cells #[.int .u8 x.cr, .int .u8 x.de, .int .u8 x.cu] 77)).alloc (by simp) (.cells #[.int .i64 x.li, .int .i64 x.db] 79)
      have hR2 := Lib.hid (hR1.below hb2)
      have hB2 := Lib.hid (hb1.trans (hb2.mono hb1.size))
      have hleft2 := hR2.out.left
      have hap := Lib.hid (sum_app (totOf c) done x)
      have hs : ((x.cu == c) = true ∧ totOf c x = x.db) ∨ ((x.cu == c) = false ∧ totOf c x = 0) := by
        unfold totOf
        by_cases h1 : x.cu = c <;> simp [h1]
      rw [List.length_append] at hleft2
      generalize (done.map (totOf c)).sum = S at *
      clear hx hR1 hT hb1 hb2 hg hlen
      rcases hs with ⟨q1, q0⟩ | ⟨q1, q0⟩
      all_goals
        rw [q0] at hap
        clear q0
        go_wp2
        go_roundw
        case rel => exact ⟨done ++ [x], by first | (rw [hap.out]; done) | (rw [hap.out]; go_num), hR2.out, hB2.out⟩
        case measure =>
          simp only [List.length_singleton] at hleft2
          omega

end Go.Proofs.Ytlcilpeljnoclaa
