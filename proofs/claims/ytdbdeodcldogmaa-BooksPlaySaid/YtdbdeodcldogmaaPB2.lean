/-
  The program's books: where the offer of a number stands.
-/
import Derived.Test.YtdbdeodcldogmaaPB
import Derived.Deep.RegionLaw
namespace Go.Proofs.Ytdbdeodcldogmaa
open Go.RowKit
set_option linter.unusedSimpArgs false
set_option linter.unusedVariables false

/-- Where the offer of a number stands; as many as there are, if none does. -/
def posO (l : List Of) (s : Int) : Nat := l.findIdx fun x => x.se == s
theorem posO_le (l : List Of) (s : Int) : posO l s ≤ l.length := List.findIdx_le_length
theorem posO_at {l : List Of} {s : Int} {k : Nat} (hk : k < l.length) (hn : ∀ x ∈ l.take k, (x.se == s) = false) (hx : (l[k].se == s) = true) : posO l s = k := by
  unfold posO
  rw [List.findIdx_eq hk]
  refine ⟨hx, fun j hj => ?_⟩
  exact hn _ (by rw [List.mem_take_iff_getElem]; exact ⟨j, by omega, rfl⟩)
theorem posO_none {l : List Of} {s : Int} (hn : ∀ x ∈ l, (x.se == s) = false) : posO l s = l.length := by
  unfold posO
  rw [List.findIdx_eq_length]
  exact hn
theorem posO_found {l : List Of} {s : Int} (h : posO l s < l.length) : findO l s = some l[posO l s] := by
  unfold findO posO at *
  rw [List.find?_eq_some_iff_getElem]
  refine ⟨List.findIdx_getElem (w := h), _, h, rfl, fun j hj => ?_⟩
  have := List.not_of_lt_findIdx hj
  simpa using this
theorem posO_missed {l : List Of} {s : Int} (h : ¬ posO l s < l.length) : findO l s = none := by
  have h2 : posO l s = l.length := by have := posO_le l s; omega
  unfold posO at h2
  rw [List.findIdx_eq_length] at h2
  exact findO_none h2
def idxV (l : List Of) (s : Int) : Value := if posO l s < l.length then .int .i64 (posO l s : Nat) else .int .i64 (-1)
/-- What standing answers. -/
def standV (l : List Of) (s : Int) : Value := if posO l s < l.length then .tuple #[.int .i64 (posO l s : Nat), .int .i64 0] else .tuple #[.int .i64 0, .int .i64 7]

theorem stand1_any (x : Of) {c : Nat} {s : Int} {w : World} (hK : Blk w c #[.int .u64 s] 23) :
    Calls Try.prog 62 #[.agg #[.int .u64 x.se, .int .u8 x.ow, .int .u8 x.sl, .int .u8 x.bu, .int .i64 x.lf, .int .i64 x.nu, .int .i64 x.de], .pointer (some ⟨c, 0, none⟩)] w fun e w' => e = .returned (.bool (x.se == s)) ∧ Below w.heap.size w w' := by
  have B0 := Lib.hid ((Below.refl w.heap.size w).alloc (Nat.le_refl _) (.cells #[.int .u64 x.se, .int .u8 x.ow, .int .u8 x.sl, .int .u8 x.bu, .int .i64 x.lf, .int .i64 x.nu, .int .i64 x.de] 75))
  have k1 := hK.alloc (.cells #[.int .u64 x.se, .int .u8 x.ow, .int .u8 x.sl, .int .u8 x.bu, .int .i64 x.lf, .int .i64 x.nu, .int .i64 x.de] 75)
  have d0 := k1.cell 0
  simp at d0
  have hl := k1.lt
  clear k1 hK
  go_enter Try.func62, Try.ntmps62
  go_wp2_with fail
  go_ret
  exact ⟨rfl, B0.out⟩
def IdxAt (w : World) (l : List Of) (s : Int) (i : Value) (wr : World) : Prop :=
  ∃ k : Nat, k ≤ l.length ∧ i = .int .i64 k ∧ (∀ x ∈ l.take k, (x.se == s) = false) ∧ Below w.heap.size w wr
set_option maxHeartbeats 4000000 in
theorem pidx_any {w : World} {base c : Nat} {l : List Of} {s : Int} {v : Value} (h : w.ownsRow base 75 7 v l.length (ofCells l)) (hK : Blk w c #[.int .u64 s] 23) :
    Calls Try.prog 61 #[v, .func (.func 62) #[] #[.pointer (some ⟨c, 0, none⟩)]] w fun e w' => e = .returned (idxV l s) ∧ Below w.heap.size w w' := by
  obtain ⟨ao, cap, rfl, hc1, hc2, hc3, hc4⟩ := owns_open h
  have HC := Lib.hid hc4
  have KC := Lib.hid hK
  unfold maxLen at hc2
  clear hc3 hc4 h hK
  go_enter Try.func61, Try.ntmps61
  go_wp2_with fail
  go_loopw [5, 8] (fun _ i wr => IdxAt w l s i wr) (fun _ i _ => l.length - (intOf i).toNat)
  case atStart => exact ⟨0, Nat.zero_le _, rfl, by simp, Below.refl _ _⟩
  case round =>
    obtain ⟨k, hk, rfl, hn, hb⟩ := hrel
    by_cases hkl : k < l.length
    · obtain ⟨b, rfl, hb1, hb2, hcell, _⟩ := HC.out (by omega)
      obtain ⟨e0, e1, e2, e3, e4, e5, e6⟩ := of_cells (w := wr) (fun j hj => by rw [hb.cell (p := ⟨b, j, none⟩) hb2]; exact hcell j hj) hkl
      have FA := Lib.hid (fun hx => posO_at (s := s) hkl hn hx)
      have TN := Lib.hid (fun hx => take_all_next (q := fun x => (x.se == s) = false) hkl hn hx)
      have C1 := Lib.hid (stand1_any l[k] (KC.out.below hb KC.out.lt))
      have HB := Lib.hid hb
      clear hcell hn hb
      generalize l[k] = x at *
      by_cases hx : (x.se == s) = true
      · have E := Lib.hid (FA.out hx)
        rw [hx] at C1
        clear FA TN hx
        go_wp2_with fail
        refine C1.out.mono ?_
        rintro e w2 ⟨rfl, b2⟩
        have HB2 := Lib.hid (HB.out.trans (b2.mono HB.out.size))
        clear b2
        go_wp2_with fail
        go_ret
        refine ⟨?_, HB2.out⟩
        unfold idxV
        rw [E.out, if_pos hkl]
        rfl
      · have hx : (x.se == s) = false := by simpa using hx
        have E := Lib.hid (TN.out hx)
        rw [hx] at C1
        clear FA TN hx
        go_wp2_with fail
        refine C1.out.mono ?_
        rintro e w2 ⟨rfl, b2⟩
        have HB2 := Lib.hid (HB.out.trans (b2.mono HB.out.size))
        clear b2
        go_wp2_with fail
        go_roundw
        case rel => exact ⟨k + 1, by omega, by go_num, E.out, HB2.out⟩
        case measure => simp [intOf]; omega
    · have E : Hid (posO l s = l.length) := Lib.hid (posO_none (by have := hn; rwa [List.take_of_length_le (by omega)] at this))
      have HB := Lib.hid hb
      clear hn hb
      go_wp2_with fail
      go_ret
      refine ⟨?_, HB.out⟩
      unfold idxV
      rw [E.out, if_neg (by omega)]
      rfl
theorem pstand_void {w : World} {pv : Value} {s : Int} (hm : ∀ w', Below w.heap.size w w' → Calls Try.prog 39 #[pv] w' fun e w'' => e = .returned (.bool false) ∧ w' = w'') :
    Calls Try.prog 41 #[pv, .int .u64 s] w fun e w' => e = .returned (.tuple #[.int .i64 0, .int .i64 2]) ∧ Below w.heap.size w w' := by
  have B0 := Lib.hid ((Below.refl w.heap.size w).alloc (Nat.le_refl _) (.cells #[.int .u64 s] 23))
  have C := Lib.hid (hm _ B0.out)
  clear hm
  go_enter Try.func41, Try.ntmps41
  go_wp2_with fail
  refine C.out.mono ?_
  rintro e w1 ⟨rfl, rfl⟩
  go_wp2_with fail
  refine bodyPost_ret (v := .tuple #[.int .i64 0, .int .i64 2]) (by simp [results, Try.results41, go_sem]) rfl ?_
  exact ⟨rfl, B0.out⟩
set_option maxHeartbeats 2000000 in
theorem pstand_any {w : World} {base g : Nat} {l : List Of} {N : Int} {vl : Value} (h : PB w base g l N vl) (h1 : 1 ≤ N) (s : Int) :
    Calls Try.prog 41 #[.pointer (some ⟨g, 0, none⟩), .int .u64 s] w fun e w' => e = .returned (standV l s) ∧ Below w.heap.size w w' := by
  have bw := (Below.refl w.heap.size w).alloc (Nat.le_refl _) (.cells #[.int .u64 s] 23)
  have B0 := Lib.hid bw
  have h2 := h.below bw
  have C := Lib.hid (pmade_any h2.blk h1)
  have C2 := Lib.hid (pidx_any h2.row (Blk.new w #[.int .u64 s] 23))
  have hl := h2.blk.lt
  have d0 := h2.blk.cell 0
  simp at d0
  obtain ⟨ao, cap, rfl, _⟩ := owns_open h2.row
  clear bw h h2 h1
  by_cases hp : posO l s < l.length
  · rw [show idxV l s = .int .i64 (posO l s : Nat) by unfold idxV; rw [if_pos hp]] at C2
    rw [show standV l s = .tuple #[.int .i64 (posO l s : Nat), .int .i64 0] by unfold standV; rw [if_pos hp]]
    generalize posO l s = p at *
    clear hp
    go_enter Try.func41, Try.ntmps41
    go_wp2_with fail
    refine C.out.mono ?_
    rintro e w1 ⟨rfl, rfl⟩
    go_wp2_with fail
    refine C2.out.mono ?_
    rintro e w1 ⟨rfl, b1⟩
    have B1 := Lib.hid (B0.out.trans (b1.mono B0.out.size))
    clear b1 C C2
    go_wp2_with fail
    refine bodyPost_ret (v := .tuple #[.int .i64 (p : Nat), .int .i64 0]) (by simp [results, Try.results41, go_sem]) rfl ?_
    exact ⟨rfl, B1.out⟩
  · rw [show idxV l s = .int .i64 (-1) by unfold idxV; rw [if_neg hp]] at C2
    rw [show standV l s = .tuple #[.int .i64 0, .int .i64 7] by unfold standV; rw [if_neg hp]]
    clear hp
    go_enter Try.func41, Try.ntmps41
    go_wp2_with fail
    refine C.out.mono ?_
    rintro e w1 ⟨rfl, rfl⟩
    go_wp2_with fail
    refine C2.out.mono ?_
    rintro e w1 ⟨rfl, b1⟩
    have B1 := Lib.hid (B0.out.trans (b1.mono B0.out.size))
    clear b1 C C2
    go_wp2_with fail
    refine bodyPost_ret (v := .tuple #[.int .i64 0, .int .i64 7]) (by simp [results, Try.results41, go_sem]) rfl ?_
    exact ⟨rfl, B1.out⟩

end Go.Proofs.Ytdbdeodcldogmaa

/-
  slices.Delete of one offer; the program's books: remove.
-/
namespace Go.Proofs.Ytdbdeodcldogmaa
open Go.RowKit
set_option linter.unusedSimpArgs false
set_option linter.unusedVariables false

/-- 'clear(s)', s a slice of n > 0 elements of a struct whose zero value has these cells. -/
theorem run_clear_cells {P : Program} (w : World) (t e ty : TypeId) (z : Value) (ht : P.underlying t = some (.slice e)) (hv : ∀ w, (zeroValue e).run P w = .ok z w) (b o n c : Nat) (hn : 0 < n) (h1 : ∀ u ∈ (Builtin.zeroCells z.cells n).toList, u.oneCell' = true)
    (hc : ∀ j, j < (Builtin.zeroCells z.cells n).toList.length → (w.cell? ⟨b, o + j, none⟩).isSome = true) (hf : ∀ j, j < (Builtin.zeroCells z.cells n).toList.length → w.frozen? ⟨b, o + j, none⟩ = false) :
    (Builtin.clear_ #[t] ty #[.slice (some ⟨b, o, none⟩) n c]).run P w = .ok (.tuple #[]) (w.setCells b o (Builtin.zeroCells z.cells n).toList) := by
  have hst := run_storeCells_cells (P := P) b o (Builtin.zeroCells z.cells n).toList 0 w (by simpa using hc) (by simpa using hf) h1
  simp only [Nat.add_zero] at hst
  obtain ⟨m, rfl⟩ : ∃ m, n = m + 1 := ⟨n - 1, by omega⟩
  simp [Builtin.clear_, run_underlying ht, hv, hst]
/-- A block whose cells from some place on are set. -/
theorem heap_setCells {w : World} {g : Nat} {e : TypeId} : ∀ (vs : List Value) (o : Nat) (cur : Array Value), w.heap[g]? = some (.cells cur e (0, 0)) → o + vs.length ≤ cur.size →
    ∃ cur', (w.setCells g o vs).heap[g]? = some (.cells cur' e (0, 0)) ∧ cur'.toList = cur.toList.take o ++ vs ++ cur.toList.drop (o + vs.length)
  | [], o, cur, h, hs => ⟨cur, h, by simp⟩
  | v :: r, o, cur, h, hs => by
    have hl : o < cur.size := by simp at hs; omega
    have h2 : (w.setCell ⟨g, o, none⟩ v).heap[g]? = some (.cells (cur.setIfInBounds o v) e (0, 0)) := Blk.set (show Blk w g cur e from h) o v
    obtain ⟨cur', h3, h4⟩ := heap_setCells (w := w.setCell ⟨g, o, none⟩ v) r (o + 1) _ h2 (by simp at hs ⊢; omega)
    refine ⟨cur', by rw [World.setCells]; exact h3, ?_⟩
    rw [h4, Array.toList_setIfInBounds]
    have hl' : o < cur.toList.length := by simpa using hl
    rw [List.take_set, List.drop_set_of_lt (by omega), List.take_succ_eq_append_getElem hl', List.set_append_right _ _ (by simp; omega)]
    simp [List.length_take, Nat.min_eq_left (Nat.le_of_lt hl), show o + 1 + r.length = o + (r.length + 1) by omega]
/-- What 's[j:]' lies at. -/
def tailAt (g j cap : Nat) : Addr := if cap = j then ⟨g, 0, none⟩ else ⟨g, j * 7, none⟩
def zOff : Value := .agg #[.int .u64 0, .int .u8 0, .int .u8 0, .int .u8 0, .int .i64 0, .int .i64 0, .int .i64 0]
theorem info_poff : (Try.prog.info? 75).map (fun i => (i.zero, i.size, i.bytes)) = some (some zOff, 7, 40) := by kernel_rfl
theorem run_slice_tail {P : Program} (w : World) (t e : TypeId) (ht : P.underlying t = some (.slice e)) (hs : (sizeOf e).run P w = .ok 7 w) (g n cap j : Nat) (h : j ≤ n) (h2 : n ≤ cap) (i : Int) (hi : i = (j : Int)) :
    (Instr.sliceAt t (.slice (some ⟨g, 0, none⟩) n cap) (some (.int .i64 i)) none none).run P w = .ok (.slice (some (tailAt g j cap)) (n - j) (cap - j)) w := by
  subst hi
  have he : P.elem t = e := by simp [Program.elem, ht]
  by_cases hc : cap = j
  · subst hc
    have : n = cap := by omega
    subst this
    simp [Instr.sliceAt, Instr.slice, run_underlying ht, Instr.sliceBounds, run_sliceBound, hs, Result.andThen, Addr.add, tailAt]
  · simp [Instr.sliceAt, Instr.slice, run_underlying ht, Instr.sliceBounds, run_sliceBound, hs, Result.andThen, Addr.add, tailAt, hc, h, h2, show j ≤ cap by omega, show cap - j ≠ 0 by omega]
    omega
theorem run_slice_last {P : Program} (w : World) (t e : TypeId) (ht : P.underlying t = some (.slice e)) (hs : (sizeOf e).run P w = .ok 7 w) (g m cap : Nat) (h2 : m + 1 ≤ cap) (i : Int) (hi : i = (m : Int) + 1) :
    (Instr.sliceAt t (.slice (some ⟨g, 0, none⟩) m cap) (some (.int .i64 (m : Int))) (some (.int .i64 i)) none).run P w = .ok (.slice (some ⟨g, m * 7, none⟩) 1 (cap - m)) w := by
  obtain ⟨x, hx⟩ : ∃ x : Nat, x = m + 1 := ⟨_, rfl⟩
  have e1 : i = (x : Int) := by omega
  have he : P.elem t = e := by simp [Program.elem, ht]
  rw [e1]
  clear e1 hi
  simp [Instr.sliceAt, Instr.slice, run_underlying ht, Instr.sliceBounds, run_sliceBound, hs, Result.andThen, Addr.add, show x ≤ cap by omega, show m ≤ x by omega, show cap ≠ m by omega]
  refine ⟨?_, by omega⟩
  intro h; omega
set_option maxHeartbeats 8000000 in
set_option maxRecDepth 100000 in
theorem pdel_any {w : World} {base g cap k : Nat} {l : List Of} (h : w.ownsRow base 75 7 (.slice (some ⟨g, 0, none⟩) l.length cap) l.length (ofCells l)) (hk : k < l.length) (i : Int) (hi : i = (k : Int) + 1) :
    Calls Try.prog 63 #[.slice (some ⟨g, 0, none⟩) l.length cap, .int .i64 (k : Nat), .int .i64 i] w fun e w' => e = .returned (.slice (some ⟨g, 0, none⟩) (l.eraseIdx k).length cap) ∧ w'.ownsRow base 75 7 (.slice (some ⟨g, 0, none⟩) (l.eraseIdx k).length cap) (l.eraseIdx k).length (ofCells (l.eraseIdx k)) ∧ Keep (· = g) w w' := by
  obtain ⟨_, hx⟩ := h
  rcases hx with ⟨hx, _⟩ | ⟨g', cap', cur, hv, hbase, hb, h1, h2, h3, h4⟩
  · cases hx
  cases hv
  obtain ⟨m, hm⟩ : ∃ m, l.length = m + 1 := ⟨l.length - 1, by omega⟩
  have hel : (l.eraseIdx k).length = m := by rw [List.length_eraseIdx_of_lt hk, hm]; rfl
  obtain ⟨i0, hi1, hi2, hi3, hi4⟩ := info_parts info_poff
  have hnl : (ofCells (l.drop (k + 1))).length = (m - k) * 7 := by rw [ofCells_len, List.length_drop, hm]; congr 1; omega
  have hns := ofCells_oneCell (l.drop (k + 1))
  have htl : ∀ t u, (ofCells (l.drop (k + 1)))[t]? = some u → w.drew.cell? ((tailAt g (k + 1) cap).add t) = some u := by
    intro t u hu
    have ht : t < (m - k) * 7 := by rw [← hnl]; exact (List.getElem?_eq_some_iff.1 hu).1
    have hc : ¬ cap = k + 1 := by omega
    have e1 : (tailAt g (k + 1) cap).add t = ⟨g, (k + 1) * 7 + t, none⟩ := by unfold tailAt; rw [if_neg hc, Go.WideShapes.add_plain]
    rw [e1]
    have hcl : (w.cell? ⟨g, (k + 1) * 7 + t, none⟩) = cur[(k + 1) * 7 + t]? := Blk.cell (show Blk w g cur _ from hb) _
    show w.cell? _ = _
    rw [hcl, ← Array.getElem?_toList]
    have h5 : (cur.toList.take (l.length * 7))[(k + 1) * 7 + t]? = (ofCells l)[(k + 1) * 7 + t]? := by rw [h4]
    rw [List.getElem?_take_of_lt (by rw [hm]; omega)] at h5
    rw [h5]
    have h6 : ofCells l = ofCells (l.take (k + 1)) ++ ofCells (l.drop (k + 1)) := by rw [← ofCells_append, List.take_append_drop]
    rw [h6, List.getElem?_append_right (by rw [ofCells_len, List.length_take]; omega), ofCells_len, List.length_take]
    rw [show (k + 1) * 7 + t - min (k + 1) l.length * 7 = t by rw [Nat.min_eq_left (by omega)]; omega]
    exact hu
  obtain ⟨W1, hW1⟩ : ∃ W1, W1 = w.drew.setCells g (0 + k * 7) (ofCells (l.drop (k + 1))) := ⟨_, rfl⟩
  obtain ⟨cur1, hb1, hc1⟩ := heap_setCells (w := w.drew) (e := 75) (ofCells (l.drop (k + 1))) (0 + k * 7) cur hb (by rw [hnl, h3]; omega)
  have kk1 : Keep (· = g) w W1 := by rw [hW1]; exact Keep.setCells _ _ (Keep.refl _ w).drew (.inl rfl)
  rw [← hW1] at hb1
  have hz1 : cur1.size = cap * 7 := by
    rw [← Array.length_toList, hc1]
    simp only [List.length_append, List.length_take, List.length_drop, Array.length_toList, hnl]
    omega
  have hzc : (Builtin.zeroCells zOff.cells 1).toList = [.int .u64 0, .int .u8 0, .int .u8 0, .int .u8 0, .int .i64 0, .int .i64 0, .int .i64 0] := by kernel_rfl
  have hcl : ∀ ty, (Builtin.clear_ #[61] ty #[.slice (some ⟨g, m * 7, none⟩) 1 (cap - m)]).run Try.prog W1 = .ok (.tuple #[]) (W1.setCells g (m * 7) (Builtin.zeroCells zOff.cells 1).toList) := fun ty =>
    run_clear_cells W1 61 75 ty zOff Try.underlying61 (Try.zeroValue75) g (m * 7) 1 (cap - m) (by omega) (by rw [hzc]; simp [Value.oneCell'])
      (fun j hj => by rw [hzc] at hj; rw [Blk.cell (show Blk W1 g cur1 _ from hb1)]; simp at hj; rw [Array.getElem?_eq_getElem (by rw [hz1]; omega)]; rfl) (fun j hj => Blk.frozen (show Blk W1 g cur1 _ from hb1) _)
  obtain ⟨cur2, hb2, hc2⟩ := heap_setCells (w := W1) (e := 75) (Builtin.zeroCells zOff.cells 1).toList (m * 7) cur1 hb1 (by rw [hzc, hz1]; simp; omega)
  have kk2 : Keep (· = g) W1 (W1.setCells g (m * 7) (Builtin.zeroCells zOff.cells 1).toList) := Keep.setCells _ _ (Keep.refl _ W1) (.inl rfl)
  have HF : Hid ((W1.setCells g (m * 7) (Builtin.zeroCells zOff.cells 1).toList).ownsRow base 75 7 (.slice (some ⟨g, 0, none⟩) m cap) m (ofCells (l.eraseIdx k)) ∧ Keep (· = g) w (W1.setCells g (m * 7) (Builtin.zeroCells zOff.cells 1).toList)) := by
    refine Lib.hid ⟨⟨by rw [ofCells_len, hel], .inr ⟨g, cap, cur2, rfl, hbase, hb2, by omega, h2, ?_, ?_⟩⟩, kk1.trans kk2⟩
    · rw [← Array.length_toList, hc2, hzc]
      simp only [List.length_append, List.length_take, List.length_drop, Array.length_toList, hz1, List.length_cons, List.length_nil]
      omega
    · rw [hc2, List.append_assoc, List.take_append_of_le_length (by simp [hz1]; omega), List.take_take, Nat.min_self, hc1, Nat.zero_add]
      rw [List.take_append_of_le_length (by simp [hnl, h3]; omega)]
      have e1 : cur.toList.take (k * 7) = ofCells (l.take k) := by
        have : cur.toList.take (k * 7) = (cur.toList.take (l.length * 7)).take (k * 7) := by rw [List.take_take, Nat.min_eq_left (by omega)]
        rw [this, h4]
        have h6 : ofCells l = ofCells (l.take k) ++ ofCells (l.drop k) := by rw [← ofCells_append, List.take_append_drop]
        rw [h6, List.take_left' (by rw [ofCells_len, List.length_take]; omega)]
      rw [e1, List.take_of_length_le (by simp [ofCells_len, List.length_take]; omega), ← ofCells_append, List.eraseIdx_eq_take_drop_succ]
  rw [hzc] at HF
  simp only [hzc] at hcl
  have HW := Lib.hid hW1
  have HT := Lib.hid htl
  have HN := Lib.hid hnl
  have HS := Lib.hid hns
  have hr1 := run_slice_tail (P := Try.prog) w.drew 61 75 Try.underlying61 (Try.sizeOf75 _) g (m + 1) cap (k + 1) (by omega) (by omega) i (by omega)
  have hr2 := run_slice_last (P := Try.prog) W1 61 75 Try.underlying61 (Try.sizeOf75 _) g m cap (by omega) ((m : Int) + 1) rfl
  have HB := Lib.hid (Blk.cell (show Blk w g cur _ from hb))
  have HBf := Lib.hid (Blk.frozen (show Blk w g cur _ from hb))
  have hkm : k ≤ m := by omega
  rw [hel, hm]
  have s3 : Hid (∀ t, t < (ofCells (l.drop (k + 1))).length → (w.drew.cell? ⟨g, 0 + k * 7 + t, none⟩).isSome = true ∧ w.drew.frozen? ⟨g, 0 + k * 7 + t, none⟩ = false) := Lib.hid (fun t ht => ⟨by show (w.cell? _).isSome = true; rw [HB.out, Array.getElem?_eq_getElem (by rw [h3]; omega)]; rfl, HBf.out _⟩)
  have hcm : m + 1 ≤ cap := by omega
  have hin : i = (k : Int) + 1 := hi
  subst hin
  have q1 : ((k : Int) == (k : Int) + 1) = false := by simp; omega
  have hic : k ≤ cap := by omega
  have hjc : k + 1 ≤ cap := by omega
  unfold maxLen at h2
  clear hW1 htl hnl hns kk1 kk2 hb1 hc1 hb2 hc2 hz1 hzc hel hm h3 h4 hb h1 hk
  go_enter Try.func63, Try.ntmps63
  go_wp2_with fail
  go_region_law (refine step_append_room rfl (.tmp 22) (.tmp 25) 61 rfl 75 i0 7 Try.underlying61 hi1 hi3 g 0 k cap (by simp [Act.eval, Act.put]) (tailAt g (k + 1) cap) (m - k) (cap - (k + 1)) (ofCells (l.drop (k + 1))) (by simp [Act.eval, Act.put]) HN.out HT.out HS.out (by omega) s3.out ?_; rw [← HW.out])
  go_wp2
  go_ret
  exact ⟨rfl, HF.out.1, HF.out.2⟩
set_option maxHeartbeats 4000000 in
theorem premove_any {w : World} {base g k : Nat} {l : List Of} {N : Int} {vl : Value} (h : PB w base g l N vl) (hk : k < l.length) (hl : l.length ≤ 1000) :
    Calls Try.prog 42 #[.pointer (some ⟨g, 0, none⟩), .int .i64 (k : Nat)] w fun e w' => e = .returned (.tuple #[]) ∧ ∃ vl', PB w' base g (l.eraseIdx k) N vl' ∧ Keep (Foot g vl) w w' ∧ vl'.ownBlock = vl.ownBlock := by
  obtain ⟨ao, cap, rfl, _, _, _, hr⟩ := owns_open h.row
  obtain ⟨b, rfl, hbb, hbl, _⟩ := hr (by omega)
  have C := Lib.hid (pdel_any h.row hk ((k : Int) + 1) rfl)
  have H := Lib.hid h
  have hgl := h.blk.lt
  have d0 := h.blk.cell 0
  simp at d0
  have hne : b ≠ g := h.apart b rfl
  clear h hr
  have HN := Lib.hid hne
  clear hne
  go_enter Try.func42, Try.ntmps42
  go_wp2_with fail
  refine C.out.mono ?_
  rintro e w1 ⟨rfl, ho, kk⟩
  have HO := Lib.hid ho
  have HK := Lib.hid kk
  have HB := Lib.hid (H.out.blk.keep kk (fun e => HN.out e.symm))
  have hl1 := HB.out.lt
  have hf1 := HB.out.frozen 0
  have d1 := HB.out.cell 0
  simp at d1
  clear ho kk C d0
  go_wp2_with fail
  go_end0
  have k2 : Keep (· = g) w1 (w1.setCell ⟨g, 0, none⟩ (.slice (some ⟨b, 0, none⟩) (l.eraseIdx k).length cap)) := Keep.setCell (S := (· = g)) (Keep.refl _ _) (p := ⟨g, 0, none⟩) (.inl rfl) _
  refine ⟨rfl, _, ⟨by simpa using HB.out.set 0 (.slice (some ⟨b, 0, none⟩) (l.eraseIdx k).length cap), H.out.ge, owns_keep HO.out k2 (fun b' hb' e => by cases hb'; exact HN.out e)⟩, (HK.out.mono (fun j _ (hj : j = b) => .inr (by rw [hj]; rfl))).trans (k2.mono (fun j _ (hj : j = g) => .inl hj)), rfl⟩

end Go.Proofs.Ytdbdeodcldogmaa
