/-
  countinghouseref04: which offers may be; New, Find.
-/
import Derived.Test.YtdbdeodcldogmaaOff
import Derived.Test.YtdbdeodcldogmaaRef02
import Derived.Test.YtdbdeodcldogmaaLays
namespace Go.Proofs.Ytdbdeodcldogmaa
open Go.RowKit
set_option linter.unusedSimpArgs false
set_option linter.unusedVariables false

/-- May an offer be? -/
def Of.may (x : Of) : Prop := (1 ≤ x.ow ∧ x.ow ≤ 16) ∧ (1 ≤ x.sl ∧ x.sl ≤ 8) ∧ (1 ≤ x.bu ∧ x.bu ≤ 8) ∧ x.sl ≠ x.bu ∧ (1 ≤ x.lf ∧ x.lf ≤ 1099511627776) ∧ mayB x.nu x.de = true
instance (x : Of) : Decidable x.may := by unfold Of.may; infer_instance
set_option maxHeartbeats 4000000 in
theorem omay_any (x : Of) (w : World) :
    Calls Try.prog 38 #[.agg #[.int .u64 x.se, .int .u8 x.ow, .int .u8 x.sl, .int .u8 x.bu, .int .i64 x.lf, .int .i64 x.nu, .int .i64 x.de]] w fun e w' => e = .returned (.bool (decide x.may)) ∧ Below w.heap.size w w' := by
  have B0 := Lib.hid ((Below.refl w.heap.size w).alloc (Nat.le_refl _) (.cells #[.int .u64 x.se, .int .u8 x.ow, .int .u8 x.sl, .int .u8 x.bu, .int .i64 x.lf, .int .i64 x.nu, .int .i64 x.de] 39))
  have C := Lib.hid (rmay_any x.nu x.de)
  by_cases h0 : x.ow < 1
  · rw [decide_eq_false (fun k : x.may => by have := k.1; omega)]
    clear C
    go_enter Try.func38, Try.ntmps38
    go_wp2_with fail
    go_ret
    exact ⟨rfl, B0.out⟩
  by_cases h1 : 16 < x.ow
  · rw [decide_eq_false (fun k : x.may => by have := k.1; omega)]
    clear C
    go_enter Try.func38, Try.ntmps38
    go_wp2_with fail
    go_ret
    exact ⟨rfl, B0.out⟩
  by_cases h2 : x.sl < 1
  · rw [decide_eq_false (fun k : x.may => by have := k.2.1; omega)]
    clear C
    go_enter Try.func38, Try.ntmps38
    go_wp2_with fail
    go_ret
    exact ⟨rfl, B0.out⟩
  by_cases h3 : 8 < x.sl
  · rw [decide_eq_false (fun k : x.may => by have := k.2.1; omega)]
    clear C
    go_enter Try.func38, Try.ntmps38
    go_wp2_with fail
    go_ret
    exact ⟨rfl, B0.out⟩
  by_cases h4 : x.bu < 1
  · rw [decide_eq_false (fun k : x.may => by have := k.2.2.1; omega)]
    clear C
    go_enter Try.func38, Try.ntmps38
    go_wp2_with fail
    go_ret
    exact ⟨rfl, B0.out⟩
  by_cases h5 : 8 < x.bu
  · rw [decide_eq_false (fun k : x.may => by have := k.2.2.1; omega)]
    clear C
    go_enter Try.func38, Try.ntmps38
    go_wp2_with fail
    go_ret
    exact ⟨rfl, B0.out⟩
  by_cases h6 : x.sl = x.bu
  · rw [decide_eq_false (fun k : x.may => by exact k.2.2.2.1 h6)]
    clear C
    have e1 : (x.sl == x.bu) = true := by simpa using h6
    have e2 : (x.sl != x.bu) = false := by simpa using h6
    clear h6
    go_enter Try.func38, Try.ntmps38
    go_wp2_with fail
    go_ret
    exact ⟨rfl, B0.out⟩
  have e1 : (x.sl == x.bu) = false := by simpa using h6
  have e2 : (x.sl != x.bu) = true := by simpa using h6
  by_cases h7 : ¬ 1 ≤ x.lf
  · rw [decide_eq_false (fun k : x.may => by have := k.2.2.2.2.1; omega)]
    clear C
    have e3 : decide (1 ≤ x.lf) = false := by simpa using h7
    go_enter Try.func38, Try.ntmps38
    go_wp2_with fail
    go_ret
    exact ⟨rfl, B0.out⟩
  have h7 := Decidable.not_not.1 h7
  have e3 : decide (1 ≤ x.lf) = true := by simpa using h7
  by_cases h8 : ¬ x.lf ≤ 1099511627776
  · rw [decide_eq_false (fun k : x.may => by have := k.2.2.2.2.1; omega)]
    clear C
    have e4 : decide (x.lf ≤ 1099511627776) = false := by simpa using h8
    go_enter Try.func38, Try.ntmps38
    go_wp2_with fail
    go_ret
    exact ⟨rfl, B0.out⟩
  have h8 := Decidable.not_not.1 h8
  have e4 : decide (x.lf ≤ 1099511627776) = true := by simpa using h8
  have hd : decide x.may = mayB x.nu x.de := by
    cases hb : mayB x.nu x.de with
    | true => exact decide_eq_true ⟨by omega, by omega, by omega, h6, ⟨h7, h8⟩, hb⟩
    | false => exact decide_eq_false (fun k => by have := k.2.2.2.2.2; rw [hb] at this; cases this)
  rw [hd]
  clear hd
  generalize mayB x.nu x.de = r at *
  go_enter Try.func38, Try.ntmps38
  go_wp2_with fail
  refine (C.out _).mono ?_
  rintro e w1 ⟨rfl, b1⟩
  have B1 := Lib.hid (B0.out.trans (b1.mono B0.out.size))
  clear b1 C B0
  go_wp2_with fail
  go_ret
  exact ⟨rfl, B1.out⟩
/-- The document's book: block g, its offers in a slice of its own. -/
structure RefB (w : World) (base g : Nat) (l : List Of) (N : Int) (vl : Value) : Prop where
  blk : Blk w g #[vl, .int .u64 N] 74
  ge : base ≤ g
  row : w.ownsRow base 39 7 vl l.length (ofCells l)
theorem RefB.keep {S : Nat → Prop} {w w' : World} {base g : Nat} {l : List Of} {N : Int} {vl : Value} (h : RefB w base g l N vl) (k : Keep S w w') (h1 : ¬ S g) (h2 : ∀ b, vl.ownBlock = some b → ¬ S b) : RefB w' base g l N vl := ⟨h.blk.keep k h1, h.ge, owns_keep h.row k h2⟩
theorem RefB.below {w w' : World} {base g : Nat} {l : List Of} {N : Int} {vl : Value} (h : RefB w base g l N vl) (k : Below w.heap.size w w') : RefB w' base g l N vl := h.keep (Keep.of_below (S := fun _ => False) k) id (fun _ _ => id)
theorem bnew_any (w : World) (base : Nat) (hb : base ≤ w.heap.size) :
    Calls Try.prog 11 #[] w fun e w' => e = .returned (.pointer (some ⟨w.heap.size, 0, none⟩)) ∧ RefB w' base w.heap.size [] 1 (.slice none 0 0) ∧ Below w.heap.size w w' := by
  have K := Lib.hid (Blk.new w #[.slice none 0 0, .int .u64 1] 74)
  go_enter Try.func11, Try.ntmps11
  go_wp2
  go_ret
  exact ⟨rfl, ⟨K.out, hb, World.ownsRow_nil _ _ _ _⟩, (Below.refl _ _).alloc (Nat.le_refl _) _⟩

/-- The offer of a number. -/
def findO (l : List Of) (s : Int) : Option Of := l.find? fun x => x.se == s
def noOf : Of := ⟨0, 0, 0, 0, 0, 0, 0⟩
def foundV (o : Option Of) : Value := match o with | some x => .tuple #[x.val, .bool true] | none => .tuple #[noOf.val, .bool false]
theorem findO_at {l : List Of} {s : Int} {k : Nat} (hk : k < l.length) (hn : ∀ x ∈ l.take k, (x.se == s) = false) (hx : (l[k].se == s) = true) : findO l s = some l[k] := by
  unfold findO
  rw [List.find?_eq_some_iff_getElem]
  refine ⟨hx, k, hk, rfl, fun j hj => ?_⟩
  have := hn l[j] (by rw [List.mem_take_iff_getElem]; exact ⟨j, by omega, rfl⟩)
  simp [this]
theorem findO_none {l : List Of} {s : Int} (hn : ∀ x ∈ l, (x.se == s) = false) : findO l s = none := by
  unfold findO
  rw [List.find?_eq_none]
  intro x hx
  simp [hn x hx]
theorem take_all_next {q : Of → Prop} {l : List Of} {k : Nat} (h : k < l.length) (hn : ∀ x ∈ l.take k, q x) (hx : q l[k]) : ∀ x ∈ l.take (k + 1), q x := by
  rw [List.take_succ_eq_append_getElem h]
  intro x hx'
  rcases List.mem_append.1 hx' with h1 | h1
  · exact hn x h1
  · rw [List.mem_singleton] at h1; rw [h1]; exact hx
theorem of_cells {w : World} {b : Nat} {ls : List Of} (h : ∀ j, j < ls.length * 7 → w.cell? ⟨b, j, none⟩ = (ofCells ls)[j]?) {k : Nat} (hk : k < ls.length) :
    w.cell? ⟨b, k * 7, none⟩ = some (.int .u64 ls[k].se) ∧ w.cell? ⟨b, k * 7 + 1, none⟩ = some (.int .u8 ls[k].ow) ∧ w.cell? ⟨b, k * 7 + 2, none⟩ = some (.int .u8 ls[k].sl) ∧ w.cell? ⟨b, k * 7 + 3, none⟩ = some (.int .u8 ls[k].bu) ∧ w.cell? ⟨b, k * 7 + 4, none⟩ = some (.int .i64 ls[k].lf) ∧ w.cell? ⟨b, k * 7 + 5, none⟩ = some (.int .i64 ls[k].nu) ∧ w.cell? ⟨b, k * 7 + 6, none⟩ = some (.int .i64 ls[k].de) := by
  refine ⟨?_, ?_, ?_, ?_, ?_, ?_, ?_⟩
  · exact (h (k * 7 + 0) (by omega)).trans (ofCells_get ls k 0 (by omega) hk)
  · exact (h (k * 7 + 1) (by omega)).trans (ofCells_get ls k 1 (by omega) hk)
  · exact (h (k * 7 + 2) (by omega)).trans (ofCells_get ls k 2 (by omega) hk)
  · exact (h (k * 7 + 3) (by omega)).trans (ofCells_get ls k 3 (by omega) hk)
  · exact (h (k * 7 + 4) (by omega)).trans (ofCells_get ls k 4 (by omega) hk)
  · exact (h (k * 7 + 5) (by omega)).trans (ofCells_get ls k 5 (by omega) hk)
  · exact (h (k * 7 + 6) (by omega)).trans (ofCells_get ls k 6 (by omega) hk)
/-- A store of a whole block, in the walk. -/
theorem wpList_store_whole {P : Program} {ops : Array Oper} {rest : List Oper} {o : Oper} {a : Act} {w : World} {Q : Exit → Act → World → Prop} (hgd : o.guard = none) (ty : TypeId) (x y : Operand) (ho : o.op = .store ty x y)
    (g : Nat) (cells : Array Value) (hx : a.eval x = .pointer (some ⟨g, 0, none⟩)) (hy : a.eval y = .agg cells)
    (t : TypeId) (old : Array Value) (hg : w.heap[g]? = some (.cells old t (0, 0))) (hi : (P.info? ty).map (·.size) = some cells.size)
    (hold : old.size = cells.size) (h1 : cells.all (·.oneCell') = true)
    (h : wpList P ops Q rest (a.put o.dst undef) (w.setRow g cells)) : wpList P ops Q (o :: rest) a w :=
  wpList_plain hgd fun _ hK => wp_store_row ty x y ho g cells hx hy t old hg hi hold h1 (hK _ _ h)

set_option maxHeartbeats 4000000 in
theorem bfind_any {w : World} {base g : Nat} {l : List Of} {N : Int} {vl : Value} (h : RefB w base g l N vl) (s : Int) :
    Calls Try.prog 24 #[.pointer (some ⟨g, 0, none⟩), .int .u64 s] w fun e w' => e = .returned (foundV (findO l s)) ∧ Below w.heap.size w w' := by
  have bw := (Below.refl w.heap.size w).alloc (Nat.le_refl _) (.cells #[.int .u64 0, .int .u8 0, .int .u8 0, .int .u8 0, .int .i64 0, .int .i64 0, .int .i64 0] 39)
  have h2 := h.below bw
  have B := Lib.hid bw
  have H := Lib.hid h2
  have KR := Lib.hid (Blk.new w #[.int .u64 0, .int .u8 0, .int .u8 0, .int .u8 0, .int .i64 0, .int .i64 0, .int .i64 0] 39)
  obtain ⟨ao, cap, rfl, hc1, hc2, hc3, hc4⟩ := owns_open h2.row
  have HC := Lib.hid hc4
  have hg := h2.blk.lt
  have dg := h2.blk.cell 0
  simp at dg
  unfold maxLen at hc2
  clear hc3 hc4 h bw h2
  go_enter Try.func24, Try.ntmps24
  go_wp2_with fail
  generalize w.alloc (.cells #[.int .u64 0, .int .u8 0, .int .u8 0, .int .u8 0, .int .i64 0, .int .i64 0, .int .i64 0] 39) = W at *
  go_loopw [6] (fun i wr => ∃ k : Nat, k ≤ l.length ∧ i = .int .i64 k ∧ Hid (∀ x ∈ l.take k, (x.se == s) = false) ∧ wr = W) (fun i _ => l.length - (intOf i).toNat)
  case atStart => exact ⟨0, Nat.zero_le _, rfl, Lib.hid (by simp), rfl⟩
  case round =>
    obtain ⟨k, hk, rfl, hn, rfl⟩ := hrel
    by_cases hkl : k < l.length
    · obtain ⟨b, rfl, hb1, hb2, hcell, _⟩ := HC.out (by omega)
      obtain ⟨e0, e1, e2, e3, e4, e5, e6⟩ := of_cells hcell hkl
      have FA := Lib.hid (fun hx => findO_at (s := s) hkl hn.out hx)
      have TN := Lib.hid (fun hx => take_all_next (q := fun x => (x.se == s) = false) hkl hn.out hx)
      clear hcell hn
      generalize l[k] = x at *
      by_cases hx : (x.se == s) = true
      · have E := Lib.hid (FA.out hx)
        clear FA TN
        go_wp2_with (refine wpList_store_whole rfl 39 (.tmp 4) (.tmp 32) rfl w.heap.size #[.int .u64 x.se, .int .u8 x.ow, .int .u8 x.sl, .int .u8 x.bu, .int .i64 x.lf, .int .i64 x.nu, .int .i64 x.de] rfl rfl 39 _ KR.out.out (by kernel_rfl) rfl (by simp [Value.oneCell']) ?_)
        rw [E.out]
        refine bodyPost_ret (v := .tuple #[x.val, .bool true]) (results_cell_and rfl _ _ w.heap.size 39 #[.int .u64 x.se, .int .u8 x.ow, .int .u8 x.sl, .int .u8 x.bu, .int .i64 x.lf, .int .i64 x.nu, .int .i64 x.de] _ _ rfl (setRow_heap _ w.heap.size _ _ _ (0, 0) KR.out.out) Try.underlying39 rfl (by kernel_rfl) rfl) rfl ⟨rfl, below_setRow B.out (Nat.le_refl _) _⟩
      · have hx : (x.se == s) = false := by simpa using hx
        have E := Lib.hid (TN.out hx)
        clear FA TN
        go_wp2_with fail
        go_roundw
        case rel => exact ⟨k + 1, by omega, by go_num, E, by first | rfl | trivial⟩
        case measure => simp [intOf]; omega
    · have E : Hid (findO l s = none) := Lib.hid (findO_none (by have := hn.out; rwa [List.take_of_length_le (by omega)] at this))
      clear hn
      go_wp2_with (refine wpList_store_whole rfl 39 (.tmp 4) (.tmp 33) rfl w.heap.size #[.int .u64 0, .int .u8 0, .int .u8 0, .int .u8 0, .int .i64 0, .int .i64 0, .int .i64 0] rfl rfl 39 _ KR.out.out (by kernel_rfl) rfl (by simp [Value.oneCell']) ?_)
      rw [E.out]
      refine bodyPost_ret (v := .tuple #[noOf.val, .bool false]) (results_cell_and rfl _ _ w.heap.size 39 #[.int .u64 0, .int .u8 0, .int .u8 0, .int .u8 0, .int .i64 0, .int .i64 0, .int .i64 0] _ _ rfl (setRow_heap _ w.heap.size _ _ _ (0, 0) KR.out.out) Try.underlying39 rfl (by kernel_rfl) rfl) rfl ⟨rfl, below_setRow B.out (Nat.le_refl _) _⟩

end Go.Proofs.Ytdbdeodcldogmaa
