/-
  The program's books: Best, Copy; a book that is not there.
-/
import Derived.Test.YtdbdeodcldogmaaSortO2
import Derived.Test.YtdbdeodcldogmaaPB4
import Derived.Test.YtdbdeodcldogmaaBestW
import Derived.Deep.MidRow
/-
  slices.DeleteFunc of offers that are not of two currencies.
-/
namespace Go.Proofs.Ytdbdeodcldogmaa
open Go.RowKit
set_option linter.unusedSimpArgs false
set_option linter.unusedVariables false

theorem best1_any (x : Of) {c1 c2 : Nat} {s b : Int} {w : World} (h1 : Blk w c1 #[.int .u8 s] 35) (h2 : Blk w c2 #[.int .u8 b] 35) :
    Calls Try.prog 46 #[.agg #[.int .u64 x.se, .int .u8 x.ow, .int .u8 x.sl, .int .u8 x.bu, .int .i64 x.lf, .int .i64 x.nu, .int .i64 x.de], .pointer (some ⟨c1, 0, none⟩), .pointer (some ⟨c2, 0, none⟩)] w fun e w' => e = .returned (.bool (!ofPair s b x)) ∧ Below w.heap.size w w' := by
  have B0 := Lib.hid ((Below.refl w.heap.size w).alloc (Nat.le_refl _) (.cells #[.int .u64 x.se, .int .u8 x.ow, .int .u8 x.sl, .int .u8 x.bu, .int .i64 x.lf, .int .i64 x.nu, .int .i64 x.de] 75))
  have k1 := h1.alloc (.cells #[.int .u64 x.se, .int .u8 x.ow, .int .u8 x.sl, .int .u8 x.bu, .int .i64 x.lf, .int .i64 x.nu, .int .i64 x.de] 75)
  have k2 := h2.alloc (.cells #[.int .u64 x.se, .int .u8 x.ow, .int .u8 x.sl, .int .u8 x.bu, .int .i64 x.lf, .int .i64 x.nu, .int .i64 x.de] 75)
  have d0 := k1.cell 0
  have e0 := k2.cell 0
  simp at d0 e0
  have hl := k1.lt
  have hl2 := k2.lt
  clear k1 k2 h1 h2
  unfold ofPair
  by_cases q1 : x.sl = s
  · have p1 : (x.sl == s) = true := by simpa using q1
    have p2 : (x.sl != s) = false := by simpa using q1
    by_cases q2 : x.bu = b
    · have p3 : (x.bu == b) = true := by simpa using q2
      have p4 : (x.bu != b) = false := by simpa using q2
      rw [decide_eq_true (And.intro q1 q2)]
      clear q1 q2
      go_enter Try.func46, Try.ntmps46
      go_wp2_with fail
      go_ret
      exact ⟨rfl, B0.out⟩
    · have p3 : (x.bu == b) = false := by simpa using q2
      have p4 : (x.bu != b) = true := by simpa using q2
      rw [decide_eq_false (fun k => q2 k.2)]
      clear q1 q2
      go_enter Try.func46, Try.ntmps46
      go_wp2_with fail
      go_ret
      exact ⟨rfl, B0.out⟩
  · have p1 : (x.sl == s) = false := by simpa using q1
    have p2 : (x.sl != s) = true := by simpa using q1
    rw [decide_eq_false (fun k => q1 k.1)]
    clear q1
    go_enter Try.func46, Try.ntmps46
    go_wp2_with fail
    go_ret
    exact ⟨rfl, B0.out⟩
/-- Where the first offer of other currencies stands. -/
def posB (l : List Of) (s b : Int) : Nat := l.findIdx fun x => !ofPair s b x
theorem posB_le (l : List Of) (s b : Int) : posB l s b ≤ l.length := List.findIdx_le_length
theorem posB_at {l : List Of} {s b : Int} {k : Nat} (hk : k < l.length) (hn : ∀ x ∈ l.take k, ofPair s b x = true) (hx : ofPair s b l[k] = false) : posB l s b = k := by
  unfold posB
  rw [List.findIdx_eq hk]
  refine ⟨by simp [hx], fun j hj => ?_⟩
  have := hn l[j] (by rw [List.mem_take_iff_getElem]; exact ⟨j, by omega, rfl⟩)
  simp [this]
theorem posB_none {l : List Of} {s b : Int} (hn : ∀ x ∈ l, ofPair s b x = true) : posB l s b = l.length := by
  unfold posB
  rw [List.findIdx_eq_length]
  intro x hx
  simp [hn x hx]
theorem posB_take {l : List Of} {s b : Int} {j : Nat} (hj : j < posB l s b) : ofPair s b (l[j]'(Nat.lt_of_lt_of_le hj (posB_le l s b))) = true := by
  have := List.not_of_lt_findIdx (p := fun x => !ofPair s b x) (xs := l) (i := j) hj
  simpa using this
theorem posB_hit {l : List Of} {s b : Int} (h : posB l s b < l.length) : ofPair s b l[posB l s b] = false := by
  have := List.findIdx_getElem (p := fun x => !ofPair s b x) (xs := l) (w := h)
  rw [Bool.not_eq_true'] at this
  exact this
def idxB (l : List Of) (s b : Int) : Value := if posB l s b < l.length then .int .i64 (posB l s b : Nat) else .int .i64 (-1)
def IdxBAt (w : World) (l : List Of) (s b : Int) (i : Value) (wr : World) : Prop :=
  ∃ k : Nat, k ≤ l.length ∧ i = .int .i64 k ∧ (∀ x ∈ l.take k, ofPair s b x = true) ∧ Below w.heap.size w wr
set_option maxHeartbeats 4000000 in
theorem pidxB_any {w : World} {base c1 c2 : Nat} {l : List Of} {s b : Int} {v : Value} (h : w.ownsRow base 75 7 v l.length (ofCells l)) (h1 : Blk w c1 #[.int .u8 s] 35) (h2 : Blk w c2 #[.int .u8 b] 35) :
    Calls Try.prog 61 #[v, .func (.func 46) #[] #[.pointer (some ⟨c1, 0, none⟩), .pointer (some ⟨c2, 0, none⟩)]] w fun e w' => e = .returned (idxB l s b) ∧ Below w.heap.size w w' := by
  obtain ⟨ao, cap, rfl, hc1, hc2, hc3, hc4⟩ := owns_open h
  have HC := Lib.hid hc4
  have K1 := Lib.hid h1
  have K2 := Lib.hid h2
  unfold maxLen at hc2
  clear hc3 hc4 h h1 h2
  go_enter Try.func61, Try.ntmps61
  go_wp2_with fail
  go_loopw [5, 8] (fun _ i wr => IdxBAt w l s b i wr) (fun _ i _ => l.length - (intOf i).toNat)
  case atStart => exact ⟨0, Nat.zero_le _, rfl, by simp, Below.refl _ _⟩
  case round =>
    obtain ⟨k, hk, rfl, hn, hb⟩ := hrel
    by_cases hkl : k < l.length
    · obtain ⟨g, rfl, hb1, hb2, hcell, _⟩ := HC.out (by omega)
      obtain ⟨e0, e1, e2, e3, e4, e5, e6⟩ := of_cells (w := wr) (fun j hj => by rw [hb.cell (p := ⟨g, j, none⟩) hb2]; exact hcell j hj) hkl
      have FA := Lib.hid (fun hx => posB_at (s := s) (b := b) hkl hn hx)
      have TN := Lib.hid (fun hx => take_all_next (q := fun x => ofPair s b x = true) hkl hn hx)
      have C1 := Lib.hid (best1_any l[k] (K1.out.below hb K1.out.lt) (K2.out.below hb K2.out.lt))
      have HB := Lib.hid hb
      clear hcell hn hb
      generalize l[k] = x at *
      cases hx : ofPair s b x with
      | false =>
        have E := Lib.hid (FA.out hx)
        rw [hx] at C1
        clear FA TN hx
        go_wp2_with fail
        refine C1.out.mono ?_
        rintro e w2 ⟨rfl, b2⟩
        have HB2 := Lib.hid (HB.out.trans (b2.mono HB.out.size))
        clear b2
        go_wp2_with fail
        go_ret
        refine ⟨?_, HB2.out⟩
        unfold idxB
        rw [E.out, if_pos hkl]
        rfl
      | true =>
        have E := Lib.hid (TN.out hx)
        rw [hx] at C1
        clear FA TN hx
        go_wp2_with fail
        refine C1.out.mono ?_
        rintro e w2 ⟨rfl, b2⟩
        have HB2 := Lib.hid (HB.out.trans (b2.mono HB.out.size))
        clear b2
        go_wp2_with fail
        go_roundw
        case rel => exact ⟨k + 1, by omega, by go_num, E.out, HB2.out⟩
        case measure => simp [intOf]; omega
    · have E : Hid (posB l s b = l.length) := Lib.hid (posB_none (by have := hn; rwa [List.take_of_length_le (by omega)] at this))
      have HB := Lib.hid hb
      clear hn hb
      go_wp2_with fail
      go_ret
      refine ⟨?_, HB.out⟩
      unfold idxB
      rw [E.out, if_neg (by omega)]
      rfl
/-! ### DeleteFunc -/
theorem ofCells_put : ∀ (l : List Of) (k : Nat) (x : Of), k < l.length → (ofCells l).take (k * 7) ++ x.vals ++ (ofCells l).drop (k * 7 + 7) = ofCells (l.set k x) := by
  intro l k x h
  have e0 : ofCells l = ofCells (l.take k) ++ ofCells (l.drop k) := by rw [← ofCells_append, List.take_append_drop]
  have e1 : ofCells l = ofCells (l.take (k + 1)) ++ ofCells (l.drop (k + 1)) := by rw [← ofCells_append, List.take_append_drop]
  have h1 : (ofCells l).take (k * 7) = ofCells (l.take k) := by rw [e0, List.take_left' (by rw [ofCells_len, List.length_take]; omega)]
  have h2 : (ofCells l).drop (k * 7 + 7) = ofCells (l.drop (k + 1)) := by rw [e1, List.drop_left' (by rw [ofCells_len, List.length_take]; omega)]
  rw [h1, h2, List.set_eq_take_append_cons_drop, if_pos h, ofCells_append, show x :: l.drop (k + 1) = [x] ++ l.drop (k + 1) from rfl, ofCells_append, ofCells_one, List.append_assoc]
/-- A whole offer stored in a row. -/
theorem owns_store {w : World} {base g n cap k : Nat} {e : TypeId} {d : List Of} (h : w.ownsRow base e 7 (.slice (some ⟨g, 0, none⟩) n cap) n (ofCells d)) (hd : d.length = n) (hk : k < n) (x : Of) :
    (w.setCells g (k * 7) x.vals).ownsRow base e 7 (.slice (some ⟨g, 0, none⟩) n cap) n (ofCells (d.set k x)) := by
  obtain ⟨_, hx⟩ := h
  rcases hx with ⟨hx, _⟩ | ⟨g', cap', cur, hv, hbase, hb, h1, h2, h3, h4⟩
  · cases hx
  cases hv
  obtain ⟨cur', hb', hc'⟩ := heap_setCells (w := w) (e := e) x.vals (k * 7) cur hb (by rw [Of.vals_len, h3]; omega)
  refine ⟨by rw [ofCells_len, List.length_set, hd], .inr ⟨g, cap, cur', rfl, hbase, hb', h1, h2, ?_, ?_⟩⟩
  · rw [← Array.length_toList, hc']
    simp only [List.length_append, List.length_take, List.length_drop, Array.length_toList, Of.vals_len, h3]
    omega
  · rw [hc', ← ofCells_put d k x (by omega), ← h4, Of.vals_len]
    have hcl : cur.toList.length = cap * 7 := by rw [Array.length_toList, h3]
    rw [List.take_take, Nat.min_eq_left (by omega), List.take_append, List.length_append, List.length_take, Of.vals_len, hcl, Nat.min_eq_left (by omega)]
    rw [List.take_of_length_le (l := cur.toList.take (k * 7) ++ x.vals) (by rw [List.length_append, List.length_take, Of.vals_len, hcl]; omega), List.drop_take]
theorem zero_one (n : Nat) : ∀ u ∈ (Builtin.zeroCells zOff.cells n).toList, u.oneCell' = true := by
  intro u hu
  unfold Builtin.zeroCells at hu
  simp at hu
  obtain ⟨i, hi, rfl⟩ := hu
  have h7 : zOff.cells.size = 7 := rfl
  rw [h7]
  have h := Nat.mod_lt i (show 7 > 0 by omega)
  generalize i % 7 = m at *
  match m, h with
  | 0, _ => rfl
  | 1, _ => rfl
  | 2, _ => rfl
  | 3, _ => rfl
  | 4, _ => rfl
  | 5, _ => rfl
  | 6, _ => rfl
theorem zero_len (n : Nat) : (Builtin.zeroCells zOff.cells n).toList.length = n * 7 := by
  unfold Builtin.zeroCells
  simp
  rfl
/-- The first ones of a row, behind what was cleared. -/
theorem owns_cut {w : World} {base g n cap i : Nat} {e : TypeId} {d f : List Of} (h : w.ownsRow base e 7 (.slice (some ⟨g, 0, none⟩) n cap) n (ofCells d)) (hd : d.length = n) (hi : i ≤ n) (hf : d.take i = f) (hfl : f.length = i) (zs : List Value) (hz : zs.length = (n - i) * 7) :
    (w.setCells g (i * 7) zs).ownsRow base e 7 (.slice (some ⟨g, 0, none⟩) i cap) i (ofCells f) := by
  obtain ⟨_, hx⟩ := h
  rcases hx with ⟨hx, _⟩ | ⟨g', cap', cur, hv, hbase, hb, h1, h2, h3, h4⟩
  · cases hx
  cases hv
  obtain ⟨cur', hb', hc'⟩ := heap_setCells (w := w) (e := e) zs (i * 7) cur hb (by rw [hz, h3]; omega)
  refine ⟨by rw [ofCells_len, hfl], .inr ⟨g, cap, cur', rfl, hbase, hb', by omega, h2, ?_, ?_⟩⟩
  · rw [← Array.length_toList, hc']
    simp only [List.length_append, List.length_take, List.length_drop, Array.length_toList, hz, h3]
    omega
  · have hcl : cur.toList.length = cap * 7 := by rw [Array.length_toList, h3]
    rw [hc', List.append_assoc, List.take_append_of_le_length (by rw [List.length_take, hcl]; omega), List.take_take, Nat.min_self]
    have e1 : cur.toList.take (i * 7) = (cur.toList.take (n * 7)).take (i * 7) := by rw [List.take_take, Nat.min_eq_left (by omega)]
    rw [e1, h4, ← hf]
    have e0 : ofCells d = ofCells (d.take i) ++ ofCells (d.drop i) := by rw [← ofCells_append, List.take_append_drop]
    rw [e0, List.take_left' (by rw [ofCells_len, List.length_take]; omega)]
theorem owns_there' {w : World} {base g n cap o : Nat} {e : TypeId} {xs : List Value} (h : w.ownsRow base e 7 (.slice (some ⟨g, 0, none⟩) n cap) n xs) (ho : o < n * 7) : (w.cell? ⟨g, o, none⟩).isSome = true ∧ w.frozen? ⟨g, o, none⟩ = false := by
  obtain ⟨_, hx⟩ := h
  rcases hx with ⟨hx, _⟩ | ⟨g', cap', cur, hv, hbase, hb, h1, h2, h3, h4⟩
  · cases hx
  cases hv
  refine ⟨?_, Blk.frozen (show Blk w g cur e from hb) o⟩
  rw [Blk.cell (show Blk w g cur e from hb), Array.getElem?_eq_getElem (by rw [h3]; omega)]
  rfl
theorem owns_there {w : World} {base g n cap k : Nat} {e : TypeId} {xs : List Value} (h : w.ownsRow base e 7 (.slice (some ⟨g, 0, none⟩) n cap) n xs) (hk : k < n) : w.there g (k * 7) 7 := fun j hj => owns_there' h (by omega)
theorem run_slice_from {P : Program} (w : World) (t e : TypeId) (ht : P.underlying t = some (.slice e)) (hs : (sizeOf e).run P w = .ok 7 w) (g n cap j : Nat) (h : j < n) (h2 : n ≤ cap) :
    (Instr.sliceAt t (.slice (some ⟨g, 0, none⟩) n cap) (some (.int .i64 (j : Int))) none none).run P w = .ok (.slice (some ⟨g, j * 7, none⟩) (n - j) (cap - j)) w := by
  have := run_slice_tail (P := P) w t e ht hs g n cap j (by omega) h2 (j : Int) rfl
  unfold tailAt at this
  rw [if_neg (by omega)] at this
  exact this
/-- How many of the first ones are kept. -/
def keptN (l : List Of) (s b : Int) (j : Nat) : Nat := ((l.take j).filter (ofPair s b)).length
theorem keptN_succ (l : List Of) (s b : Int) {j : Nat} (h : j < l.length) : keptN l s b (j + 1) = keptN l s b j + (if ofPair s b l[j] = true then 1 else 0) := by
  unfold keptN
  rw [List.take_succ_eq_append_getElem h, List.filter_append, List.length_append]
  congr 1
  by_cases q : ofPair s b l[j] = true <;> simp [List.filter_cons, q]
theorem keptN_le (l : List Of) (s b : Int) (j : Nat) : keptN l s b j ≤ j := by
  unfold keptN
  exact Nat.le_trans (List.length_filter_le _ _) (List.length_take_le _ _)
structure DelInv (l d : List Of) (s b : Int) (j : Nat) : Prop where
  len : d.length = l.length
  lt : keptN l s b j < j
  low : d.take (keptN l s b j) = (l.take j).filter (ofPair s b)
  high : d.drop j = l.drop j
theorem DelInv.start {l : List Of} {s b : Int} (h : posB l s b < l.length) : DelInv l l s b (posB l s b + 1) ∧ keptN l s b (posB l s b + 1) = posB l s b := by
  have hall : (l.take (posB l s b)).filter (ofPair s b) = l.take (posB l s b) := by
    rw [List.filter_eq_self]
    intro x hx
    obtain ⟨j, hj, rfl⟩ := List.mem_take_iff_getElem.1 hx
    exact posB_take (by omega)
  have hf : (l.take (posB l s b + 1)).filter (ofPair s b) = l.take (posB l s b) := by
    rw [List.take_succ_eq_append_getElem h, List.filter_append, hall]
    simp [List.filter_cons, posB_hit h]
  have hk : keptN l s b (posB l s b + 1) = posB l s b := by
    unfold keptN; rw [hf, List.length_take]; omega
  exact ⟨⟨rfl, by omega, by rw [hk, hf], rfl⟩, hk⟩
theorem DelInv.get {l d : List Of} {s b : Int} {j : Nat} (h : DelInv l d s b j) (hj : j < l.length) : d[j]'(by rw [h.len]; exact hj) = l[j] := by
  have h1 : d.drop j = l.drop j := h.high
  have h2 : (d.drop j)[0]? = (l.drop j)[0]? := by rw [h1]
  rw [List.getElem?_drop, List.getElem?_drop, Nat.add_zero, List.getElem?_eq_getElem (by rw [h.len]; exact hj), List.getElem?_eq_getElem hj] at h2
  exact Option.some.inj h2
theorem DelInv.skip {l d : List Of} {s b : Int} {j : Nat} (h : DelInv l d s b j) (hj : j < l.length) (hq : ofPair s b l[j] = false) : DelInv l d s b (j + 1) ∧ keptN l s b (j + 1) = keptN l s b j := by
  have hk : keptN l s b (j + 1) = keptN l s b j := by rw [keptN_succ l s b hj, hq]; simp
  refine ⟨⟨h.len, by have := h.lt; omega, ?_, ?_⟩, hk⟩
  · rw [hk, h.low, List.take_succ_eq_append_getElem hj, List.filter_append]; simp [List.filter_cons, hq]
  · rw [← List.drop_drop, h.high, List.drop_drop]
theorem DelInv.keep {l d : List Of} {s b : Int} {j : Nat} (h : DelInv l d s b j) (hj : j < l.length) (hq : ofPair s b l[j] = true) : DelInv l (d.set (keptN l s b j) l[j]) s b (j + 1) ∧ keptN l s b (j + 1) = keptN l s b j + 1 := by
  have hk : keptN l s b (j + 1) = keptN l s b j + 1 := by rw [keptN_succ l s b hj, hq]; simp
  have hlt := h.lt
  refine ⟨⟨by rw [List.length_set]; exact h.len, by omega, ?_, ?_⟩, hk⟩
  · have hl : keptN l s b j < d.length := by rw [h.len]; omega
    rw [hk, List.take_succ_eq_append_getElem (by rw [List.length_set]; exact hl), List.take_set_of_le (Nat.le_refl _), h.low, List.getElem_set_self, List.take_succ_eq_append_getElem hj, List.filter_append]
    simp [List.filter_cons, hq]
  · rw [List.drop_set_of_lt (by omega), ← List.drop_drop, h.high, List.drop_drop]
def DelAt (w : World) (base g cap : Nat) (l : List Of) (s b : Int) (s5 s6 : Value) (wr : World) : Prop :=
  ∃ (j : Nat) (d : List Of), j ≤ l.length ∧ s5 = .int .i64 (keptN l s b j : Nat) ∧ s6 = .int .i64 j ∧ DelInv l d s b j ∧ wr.ownsRow base 75 7 (.slice (some ⟨g, 0, none⟩) l.length cap) l.length (ofCells d) ∧ Keep (· = g) w wr
set_option maxHeartbeats 8000000 in
set_option maxRecDepth 100000 in
theorem pdelf_any {w : World} {base c1 c2 : Nat} {l : List Of} {s b : Int} {v : Value} (h : w.ownsRow base 75 7 v l.length (ofCells l)) (hl : l.length ≤ 1000) (h1 : Blk w c1 #[.int .u8 s] 35) (h2 : Blk w c2 #[.int .u8 b] 35) :
    Calls Try.prog 44 #[v, .func (.func 46) #[] #[.pointer (some ⟨c1, 0, none⟩), .pointer (some ⟨c2, 0, none⟩)]] w fun e w' => ∃ v', e = .returned v' ∧ w'.ownsRow base 75 7 v' (l.filter (ofPair s b)).length (ofCells (l.filter (ofPair s b))) ∧ Keep (fun k => v.ownBlock = some k) w w' ∧ v'.ownBlock = v.ownBlock := by
  have CI := Lib.hid (pidxB_any h h1 h2)
  by_cases hp : posB l s b < l.length
  · rw [show idxB l s b = .int .i64 (posB l s b : Nat) by unfold idxB; rw [if_pos hp]] at CI
    obtain ⟨D0, kp⟩ := DelInv.start hp
    obtain ⟨ao, cap, rfl, hc1, hc2, hc3, hc4⟩ := owns_open h
    obtain ⟨g, rfl, hb1, hb2, _, _⟩ := hc4 (by omega)
    have hne1 : c1 ≠ g := fun e => (owns_ne h h1 (by decide)) g rfl e.symm
    have hne2 : c2 ≠ g := fun e => (owns_ne h h2 (by decide)) g rfl e.symm
    have HO := Lib.hid h
    have K1 := Lib.hid h1
    have K2 := Lib.hid h2
    have HD0 := Lib.hid D0
    have HKP := Lib.hid kp
    have HN := Lib.hid (And.intro hne1 hne2)
    have e1 : ((posB l s b : Int) == -1) = false := by simp <;> omega
    unfold maxLen at hc2
    generalize hpk : posB l s b = k0 at *
    have HPK := Lib.hid hpk
    clear hc3 hc4 h h1 h2 D0 kp hne1 hne2 hpk
    go_enter Try.func44, Try.ntmps44
    go_wp2_with fail
    refine CI.out.mono ?_
    rintro e w1 ⟨rfl, b1⟩
    have HO1 := Lib.hid (owns_below HO.out b1)
    have K11 := Lib.hid (K1.out.below b1 K1.out.lt)
    have K21 := Lib.hid (K2.out.below b1 K2.out.lt)
    have HB1 := Lib.hid b1
    clear b1 CI HO K1 K2
    go_wp2_with fail
    go_loopw [5, 6] (DelAt w1 base g cap l s b) (fun _ j _ => l.length - (intOf j).toNat)
    case atStart => exact ⟨k0 + 1, l, by omega, by rw [HKP.out], by go_num, HD0.out, HO1.out, Keep.refl _ _⟩
    case round =>
      obtain ⟨j, d, hj, rfl, rfl, hD, hown, hk⟩ := hrel
      have hgl : g < wr.heap.size := (owns_type hown rfl).2.1
      by_cases hjl : j < l.length
      · have hdl : j < d.length := by rw [hD.len]; exact hjl
        have hget := hD.get hjl
        obtain ⟨ao', cap', hv, _, _, _, hr⟩ := owns_open hown
        cases hv
        obtain ⟨g', hg', _, _, hcell, hfr⟩ := hr (by omega)
        cases hg'
        obtain ⟨e0, e1, e2, e3, e4, e5, e6⟩ := of_cells (w := wr) (ls := d) (fun t ht => hcell t (by rw [← hD.len]; exact ht)) hdl
        rw [hget] at e0 e1 e2 e3 e4 e5 e6
        have HDv := Lib.hid hD
        have HW := Lib.hid hown
        have HK := Lib.hid hk
        have HF := Lib.hid hfr
        have K12 := Lib.hid (K11.out.keep hk HN.out.1)
        have K22 := Lib.hid (K21.out.keep hk HN.out.2)
        have hkl := keptN_le l s b j
        have DS := Lib.hid (fun hq => hD.skip hjl hq)
        have DK := Lib.hid (fun hq => hD.keep hjl hq)
        clear hget hr hcell hfr hown hk hD hdl
        generalize l[j] = x at *
        generalize hkn : keptN l s b j = m at *
        clear hkn
        have bw := (Below.refl wr.heap.size wr).alloc (Nat.le_refl _) (.cells #[.int .u64 x.se, .int .u8 x.ow, .int .u8 x.sl, .int .u8 x.bu, .int .i64 x.lf, .int .i64 x.nu, .int .i64 x.de] 75)
        have CB := Lib.hid (best1_any x (K12.out.below bw K12.out.lt) (K22.out.below bw K22.out.lt))
        have KX := Lib.hid (Blk.new wr #[.int .u64 x.se, .int .u8 x.ow, .int .u8 x.sl, .int .u8 x.bu, .int .i64 x.lf, .int .i64 x.nu, .int .i64 x.de] 75)
        have HBW := Lib.hid bw
        clear bw
        cases hq : ofPair s b x with
        | false =>
          have E := Lib.hid (DS.out hq)
          rw [hq] at CB
          clear DS DK hq
          go_wp2_with fail
          refine CB.out.mono ?_
          rintro e w2 ⟨rfl, b2⟩
          have HB2 := Lib.hid (HBW.out.trans (b2.mono HBW.out.size))
          clear b2
          go_wp2_with fail
          go_roundw
          case rel => exact ⟨j + 1, d, by omega, by rw [E.out.2], by go_num, E.out.1, owns_below HW.out HB2.out, HK.out.trans (Keep.of_below HB2.out)⟩
          case measure => simp [intOf]; omega
        | true =>
          have E := Lib.hid (DK.out hq)
          rw [hq] at CB
          clear DS DK hq
          go_wp2_with fail
          refine CB.out.mono ?_
          rintro e w2 ⟨rfl, b2⟩
          have HB2 := Lib.hid (HBW.out.trans (b2.mono HBW.out.size))
          have KX2 := KX.out.below b2 KX.out.lt
          have d0 := KX2.cell 0; have d1 := KX2.cell 1; have d2 := KX2.cell 2; have d3 := KX2.cell 3; have d4 := KX2.cell 4; have d5 := KX2.cell 5; have d6 := KX2.cell 6
          simp at d0 d1 d2 d3 d4 d5 d6
          have hxl := KX2.lt
          have HW2 := Lib.hid (owns_below HW.out HB2.out)
          have HT := Lib.hid (owns_there HW2.out (k := m) (by omega))
          obtain ⟨W3, hW3⟩ : ∃ W3, W3 = w2.setCells g (m * 7) [.int .u64 x.se, .int .u8 x.ow, .int .u8 x.sl, .int .u8 x.bu, .int .i64 x.lf, .int .i64 x.nu, .int .i64 x.de] := ⟨_, rfl⟩
          have HW3 := Lib.hid hW3
          have HO3 := Lib.hid (show W3.ownsRow base 75 7 (.slice (some ⟨g, 0, none⟩) l.length cap) l.length (ofCells (d.set m x)) by rw [hW3]; exact owns_store HW2.out HDv.out.len (by omega) x)
          have HK3 := Lib.hid (show Keep (· = g) w1 W3 by rw [hW3]; exact Keep.setCells _ _ (HK.out.trans (Keep.of_below HB2.out)) (.inl rfl))
          clear b2 KX2 hW3
          go_wp2_with (refine wpList_store_mid rfl 75 (.tmp 33) (.tmp 32) rfl g (m * 7) #[.int .u64 x.se, .int .u8 x.ow, .int .u8 x.sl, .int .u8 x.bu, .int .i64 x.lf, .int .i64 x.nu, .int .i64 x.de] rfl rfl HT.out (by kernel_rfl) (by simp [Value.oneCell']) ?_; rw [← HW3.out])
          go_roundw
          case rel => exact ⟨j + 1, d.set m x, by omega, by rw [E.out.2]; go_num, by go_num, E.out.1, HO3.out, HK3.out⟩
          case measure => simp [intOf]; omega
      · have hje : j = l.length := by omega
        subst hje
        have hkl := hD.lt
        have hlo := hD.low
        have hdn := hD.len
        rw [List.take_of_length_le (Nat.le_refl _)] at hlo
        have hfl : (l.filter (ofPair s b)).length = keptN l s b l.length := by unfold keptN; rw [List.take_of_length_le (Nat.le_refl _)]
        have HK := Lib.hid hk
        have HC := Lib.hid (owns_cut hown hdn (by omega) hlo hfl (Builtin.zeroCells zOff.cells (l.length - keptN l s b l.length)).toList (by rw [zero_len]))
        have hcl : ∀ ty, (Builtin.clear_ #[61] ty #[.slice (some ⟨g, keptN l s b l.length * 7, none⟩) (l.length - keptN l s b l.length) (cap - keptN l s b l.length)]).run Try.prog wr = .ok (.tuple #[]) (wr.setCells g (keptN l s b l.length * 7) (Builtin.zeroCells zOff.cells (l.length - keptN l s b l.length)).toList) := fun ty =>
          run_clear_cells wr 61 75 ty zOff Try.underlying61 (Try.zeroValue75) g (keptN l s b l.length * 7) _ _ (by omega) (zero_one _)
            (fun t ht => (owns_there' hown (by rw [zero_len] at ht; omega)).1) (fun t ht => (owns_there' hown (by rw [zero_len] at ht; omega)).2)
        have hr := run_slice_from (P := Try.prog) wr 61 75 Try.underlying61 (Try.sizeOf75 _) g l.length cap (keptN l s b l.length) hkl (by omega)
        obtain ⟨W3, hW3⟩ : ∃ W3, W3 = wr.setCells g (keptN l s b l.length * 7) (Builtin.zeroCells zOff.cells (l.length - keptN l s b l.length)).toList := ⟨_, rfl⟩
        have HK3 := Lib.hid (show Keep (· = g) w1 W3 by rw [hW3]; exact Keep.setCells _ _ HK.out (.inl rfl))
        simp only [← hW3] at hcl HC
        rw [← hfl] at HC hcl hr hkl ⊢
        obtain ⟨m, hm⟩ : ∃ m, (l.filter (ofPair s b)).length = m := ⟨_, rfl⟩
        rw [hm] at HC hcl hr hkl ⊢
        have HM := Lib.hid hm
        clear hm
        have hic : m ≤ cap := by omega
        clear hW3 hfl hlo hdn hown hk hD
        go_wp2_with fail
        refine bodyPost_ret (v := .slice (some ⟨g, 0, none⟩) m cap) (by simp [results, Try.results44, go_sem]) rfl ?_
        exact ⟨_, rfl, by rw [HM.out]; exact HC.out, ((Keep.of_below HB1.out).trans HK3.out).mono (fun k _ (hk : k = g) => by rw [hk]; rfl), rfl⟩
  · rw [show idxB l s b = .int .i64 (-1) by unfold idxB; rw [if_neg hp]] at CI
    have hfe : l.filter (ofPair s b) = l := by
      rw [List.filter_eq_self]
      intro x hx
      obtain ⟨j, hj, rfl⟩ := List.mem_iff_getElem.1 hx
      exact posB_take (by have := posB_le l s b; omega)
    rw [hfe]
    obtain ⟨ao, cap, rfl, _⟩ := owns_open h
    have HO := Lib.hid h
    clear h h1 h2 hp hfe
    go_enter Try.func44, Try.ntmps44
    go_wp2_with fail
    refine CI.out.mono ?_
    rintro e w1 ⟨rfl, b1⟩
    have HB1 := Lib.hid b1
    clear b1 CI
    go_wp2_with fail
    refine bodyPost_ret (v := .slice ao l.length cap) (by simp [results, Try.results44, go_sem]) rfl ?_
    exact ⟨_, rfl, owns_below HO.out HB1.out, Keep.of_below HB1.out, rfl⟩

end Go.Proofs.Ytdbdeodcldogmaa

namespace Go.Proofs.Ytdbdeodcldogmaa
open Go.RowKit
set_option linter.unusedSimpArgs false
set_option linter.unusedVariables false

set_option maxHeartbeats 4000000 in
theorem pbest_of {w : World} {base : Nat} {pv v : Value} {l : List Of} {N : Int} {s b : Int} (hc : ∀ w', Below w.heap.size w w' → Calls Try.prog 45 #[pv] w' fun e w'' => e = .returned v ∧ w' = w'') (h : w.ownsRow base 75 7 v l.length (ofCells l)) (hI : BInv l N) :
    Calls Try.prog 25 #[pv, .int .u8 s, .int .u8 b] w (ListPost w 39 7 (bestO l s b).length (ofCells (bestO l s b))) := by
  have hlen := hI.len
  have hbw := ((Below.refl w.heap.size w).alloc (Nat.le_refl _) (.cells #[.int .u8 s] 35)).alloc (by simp) (.cells #[.int .u8 b] 35)
  have HB := Lib.hid hbw
  have K1 := Lib.hid ((Blk.new w #[.int .u8 s] 35).alloc (.cells #[.int .u8 b] 35))
  have K2 := Lib.hid (Blk.newAt (w.alloc (.cells #[.int .u8 s] 35)) #[.int .u8 b] 35 (g := w.heap.size + 1) (by simp))
  have C1 := Lib.hid (hc _ hbw)
  have C2 := Lib.hid (cloneO_any (owns_below h hbw) (by omega))
  obtain ⟨bp, bs⟩ := bestO_is hI.may hI.rise s b
  have hgood : ∀ x ∈ l.filter (ofPair s b), x.may ∧ 0 ≤ x.se ∧ x.se ≤ 18446744073709551615 := fun x hx => by
    have hx := (List.mem_filter.1 hx).1
    have := hI.bd x hx
    have := hI.n2
    exact ⟨hI.may x hx, by omega, by omega⟩
  have hne : (l.filter (ofPair s b)).Pairwise fun x y => x.se ≠ y.se := (hI.rise.filter _).imp fun h => by omega
  have hfl : (l.filter (ofPair s b)).length ≤ 1000 := Nat.le_trans (List.length_filter_le _ _) (by omega)
  have HS := Lib.hid (fun (w : World) (base : Nat) (v : Value) (h : w.ownsRow base 75 7 v (l.filter (ofPair s b)).length (ofCells (l.filter (ofPair s b)))) => sortO_any hgood bp bs hne hfl h)
  have HM := Lib.hid (show (bestO l s b).length ≤ 1000 by rw [bp.length_eq]; exact hfl)
  clear hbw hc h hI bp bs hgood hne hfl
  go_enter Try.func25, Try.ntmps25
  go_wp2_with fail
  generalize hWW : (w.alloc (.cells #[.int .u8 s] 35)).alloc (.cells #[.int .u8 b] 35) = W at *
  have HWs := Lib.hid (show W.heap.size = w.heap.size + 2 by rw [← hWW]; simp)
  clear hWW
  refine C1.out.mono ?_
  rintro e W ⟨rfl, rfl⟩
  go_wp2_with fail
  refine C2.out.mono ?_
  rintro e w1 ⟨v1, rfl, o1, b1⟩
  have CD := Lib.hid (pdelf_any o1 (by omega) (K1.out.below b1 K1.out.lt) (K2.out.below b1 K2.out.lt))
  have HB1 := Lib.hid (HB.out.trans (b1.mono HB.out.size))
  have HO1 := Lib.hid o1
  have HW1 := Lib.hid b1.size
  clear o1 b1 C2 C1
  go_wp2_with fail
  refine CD.out.mono ?_
  rintro e w2 ⟨v2, rfl, o2, k2, e2⟩
  have HK2 := Lib.hid k2
  have CS := Lib.hid (HS.out _ _ _ o2)
  have HE := Lib.hid e2
  have hv2 : ∃ ao c, v2 = .slice ao (l.filter (ofPair s b)).length c := by obtain ⟨ao, c, hv, _⟩ := owns_open o2; exact ⟨ao, c, hv⟩
  have HB2 := Lib.hid (HB1.out.trans (k2.below HB1.out.size (fun k hk e => by have := (owns_type HO1.out e).1; have := HWs.out; omega)))
  have HO2 := Lib.hid o2
  clear o2 k2 e2 CD
  obtain ⟨ao, c, rfl⟩ := hv2
  go_wp2_with fail
  refine CS.out.mono ?_
  rintro e w3 ⟨rfl, o3, k3⟩
  have CT := Lib.hid (told_any o3 HM.out)
  have HB3 := Lib.hid (HB2.out.trans (k3.below HB2.out.size (fun k hk e => by have := (owns_type HO2.out e).1; have := HWs.out; omega)))
  clear o3 k3 CS
  go_wp2_with fail
  refine CT.out.mono ?_
  rintro e w4 ⟨v', rfl, h1, b4⟩
  have H1 := Lib.hid h1
  have HB4 := Lib.hid (HB3.out.trans (b4.mono HB3.out.size))
  clear h1 b4 CT
  go_wp2_with fail
  refine bodyPost_ret (v := v') (by simp [results, Try.results25, go_sem]) rfl ?_
  exact ⟨v', rfl, H1.out.base HB3.out.size, HB4.out⟩
theorem pbest_any {w : World} {base g : Nat} {l : List Of} {N : Int} {vl : Value} (h : PB w base g l N vl) (hI : BInv l N) (s b : Int) :
    Calls Try.prog 25 #[.pointer (some ⟨g, 0, none⟩), .int .u8 s, .int .u8 b] w (ListPost w 39 7 (bestO l s b).length (ofCells (bestO l s b))) := by
  obtain ⟨ao, cap, rfl, _⟩ := owns_open h.row
  exact pbest_of (fun w' k => ball_any (h.below k).blk) h.row hI
theorem pbest_nil (w : World) (s b : Int) : Calls Try.prog 25 #[.pointer none, .int .u8 s, .int .u8 b] w (ListPost w 39 7 0 []) :=
  pbest_of (l := []) (N := 1) (fun w' _ => ball_nil w') (World.ownsRow_nil w 0 _ _) (BInv.nil (by omega) (by omega))
/-- A book that is not there, or that no call made. -/
structure VoidB (w : World) (pv : Value) : Prop where
  made : ∀ w', Below w.heap.size w w' → Calls Try.prog 39 #[pv] w' fun e w'' => e = .returned (.bool false) ∧ w' = w''
  all : ∀ w', Below w.heap.size w w' → Calls Try.prog 45 #[pv] w' fun e w'' => e = .returned (.slice none 0 0) ∧ w' = w''
  next : ∀ w', Below w.heap.size w w' → Calls Try.prog 33 #[pv] w' fun e w'' => e = .returned (.int .u64 0) ∧ w' = w''
theorem VoidB.below {w w' : World} {pv : Value} (h : VoidB w pv) (k : Below w.heap.size w w') : VoidB w' pv := ⟨fun w'' q => h.made w'' (andB k q), fun w'' q => h.all w'' (andB k q), fun w'' q => h.next w'' (andB k q)⟩
theorem voidB_nil (w : World) : VoidB w (.pointer none) := ⟨fun w' _ => pmade_nil w', fun w' _ => ball_nil w', fun w' _ => pnext_nil w'⟩
theorem voidB_zero {w : World} {g : Nat} (h : Blk w g #[.slice none 0 0, .int .u64 0] 63) : VoidB w (.pointer (some ⟨g, 0, none⟩)) := ⟨fun w' k => pmade_zero (h.below k h.lt), fun w' k => ball_any (h.below k h.lt), fun w' k => pnext_any (h.below k h.lt)⟩
theorem voidB_all {w : World} {pv : Value} (h : VoidB w pv) : Calls Try.prog 29 #[pv] w (ListPost w 39 7 0 []) := pall_of (l := []) (h.all w (Below.refl _ _)) (World.ownsRow_nil w 0 _ _) (by simp)
theorem voidB_best {w : World} {pv : Value} (h : VoidB w pv) (s b : Int) : Calls Try.prog 25 #[pv, .int .u8 s, .int .u8 b] w (ListPost w 39 7 0 []) := pbest_of (l := []) (N := 1) h.all (World.ownsRow_nil w 0 _ _) (BInv.nil (by omega) (by omega))
theorem voidB_cancel {w : World} {pv : Value} (h : VoidB w pv) (ow s : Int) : Calls Try.prog 18 #[pv, .int .u8 ow, .int .u64 s] w fun e w' => e = .returned (.tuple #[.int .i64 0, .int .i64 2]) ∧ Below w.heap.size w w' := by
  have C := Lib.hid (pstand_void (s := s) h.made)
  clear h
  go_enter Try.func18, Try.ntmps18
  go_wp2_with fail
  refine C.out.mono ?_
  rintro e w1 ⟨rfl, b1⟩
  have HB1 := Lib.hid b1
  clear b1 C
  go_wp2_with fail
  refine bodyPost_ret (v := .tuple #[.int .i64 0, .int .i64 2]) (by simp [results, Try.results18, go_sem]) rfl ?_
  exact ⟨rfl, HB1.out⟩
theorem voidB_take {w : World} {pv : Value} (h : VoidB w pv) (s n : Int) : Calls Try.prog 20 #[pv, .int .u64 s, .int .i64 n] w fun e w' => e = .returned (.int .i64 2) ∧ Below w.heap.size w w' := by
  have C := Lib.hid (pstand_void (s := s) h.made)
  clear h
  go_enter Try.func20, Try.ntmps20
  go_wp2_with fail
  refine C.out.mono ?_
  rintro e w1 ⟨rfl, b1⟩
  have HB1 := Lib.hid b1
  clear b1 C
  go_wp2_with fail
  go_ret
  exact ⟨rfl, HB1.out⟩
set_option maxHeartbeats 2000000 in
theorem voidB_find {w : World} {pv : Value} (h : VoidB w pv) (s : Int) : Calls Try.prog 23 #[pv, .int .u64 s] w fun e w' => e = .returned (.tuple #[noOf.val, .bool false]) ∧ Below w.heap.size w w' := by
  have bw := (Below.refl w.heap.size w).alloc (Nat.le_refl _) (.cells #[.int .u64 0, .int .u8 0, .int .u8 0, .int .u8 0, .int .i64 0, .int .i64 0, .int .i64 0] 39)
  have B := Lib.hid bw
  have C := Lib.hid (pstand_void (s := s) (h.below bw).made)
  have KR := Lib.hid (Blk.new w #[.int .u64 0, .int .u8 0, .int .u8 0, .int .u8 0, .int .i64 0, .int .i64 0, .int .i64 0] 39)
  clear h bw
  go_enter Try.func23, Try.ntmps23
  go_wp2_with fail
  refine C.out.mono ?_
  rintro e w1 ⟨rfl, b1⟩
  have KR1 := Lib.hid (KR.out.below b1 KR.out.lt)
  have B1 := Lib.hid (B.out.trans (b1.mono B.out.size))
  clear b1 C KR
  go_wp2_with (refine wpList_store_whole rfl 39 (.tmp 4) (.tmp 16) rfl w.heap.size #[.int .u64 0, .int .u8 0, .int .u8 0, .int .u8 0, .int .i64 0, .int .i64 0, .int .i64 0] rfl rfl 39 _ KR1.out.out (by kernel_rfl) rfl (by simp [Value.oneCell']) ?_)
  refine bodyPost_ret (v := .tuple #[noOf.val, .bool false]) (results_cell_and rfl _ _ w.heap.size 39 #[.int .u64 0, .int .u8 0, .int .u8 0, .int .u8 0, .int .i64 0, .int .i64 0, .int .i64 0] _ _ rfl (setRow_heap _ w.heap.size _ _ _ (0, 0) KR1.out.out) Try.underlying39 rfl (by kernel_rfl) rfl) rfl ⟨rfl, below_setRow B1.out (Nat.le_refl _) _⟩
theorem voidB_copy {w : World} {pv : Value} (h : VoidB w pv) : Calls Try.prog 14 #[pv] w fun e w' => e = .returned (.pointer none) ∧ w = w' := by
  have C := Lib.hid (h.made w (Below.refl _ _))
  clear h
  go_enter Try.func14, Try.ntmps14
  go_wp2_with fail
  refine C.out.mono ?_
  rintro e w ⟨rfl, rfl⟩
  go_wp2_with fail
  go_ret
  exact ⟨rfl, rfl⟩

end Go.Proofs.Ytdbdeodcldogmaa
