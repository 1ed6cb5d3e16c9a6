/-
  The statements' own 'same' on lists of parties and of lines: whether they are the same.
-/
import Derived.Test.YtajmladlmkkimaaHeap
import Derived.OwnWalk
import Derived.BigQuiet
namespace Go.Proofs.Ytajmladlmkkimaa
open Go.RowKit
set_option linter.unusedSimpArgs false
set_option linter.unusedVariables false

/-- A slice's value, wherever it lies, and the cells of its elements. -/
def Reads (w : World) (v : Value) (size n : Nat) (xs : List Value) : Prop :=
  ∃ (ao : Option Addr) (cap : Nat), v = .slice ao n cap ∧ n ≤ 100000000 ∧ xs.length = n * size ∧ (0 < n → ∃ b off, ao = some ⟨b, off, none⟩ ∧ b < w.heap.size ∧ ∀ j, j < n * size → w.cell? ⟨b, off + j, none⟩ = xs[j]?)
theorem Reads.of_owns {w : World} {base : Nat} {e : TypeId} {size : Nat} {v : Value} {n : Nat} {xs : List Value} (h : w.ownsRow base e size v n xs) (hn : n ≤ 100000000) : Reads w v size n xs := by
  obtain ⟨ao, cap, rfl, _, _, h3, h4⟩ := owns_open h
  refine ⟨ao, cap, rfl, hn, h3, fun hp => ?_⟩
  obtain ⟨b, rfl, _, hb, hc, _⟩ := h4 hp
  exact ⟨b, 0, rfl, hb, fun j hj => by rw [Nat.zero_add]; exact hc j hj⟩
theorem Reads.keep {S : Nat → Prop} {w w' : World} {v : Value} {size n : Nat} {xs : List Value} (h : Reads w v size n xs) (k : Keep S w w') (hs : ∀ b, v.ownBlock = some b → ¬ S b) : Reads w' v size n xs := by
  obtain ⟨ao, cap, rfl, h1, h2, h3⟩ := h
  refine ⟨ao, cap, rfl, h1, h2, fun hp => ?_⟩
  obtain ⟨b, off, rfl, hb, hc⟩ := h3 hp
  exact ⟨b, off, rfl, Nat.lt_of_lt_of_le hb k.size, fun j hj => by rw [k.cell (p := ⟨b, off + j, none⟩) hb (hs b rfl)]; exact hc j hj⟩
theorem Reads.below {w w' : World} {v : Value} {size n : Nat} {xs : List Value} (h : Reads w v size n xs) (k : Below w.heap.size w w') : Reads w' v size n xs :=
  h.keep (Keep.of_below (S := fun _ => False) k) (fun _ _ => id)
theorem take_eq_next {α : Type} {l m : List α} {k : Nat} (h : k < l.length) (hm : k < m.length) (he : l.take k = m.take k) (hx : l[k] = m[k]) : l.take (k + 1) = m.take (k + 1) := by
  rw [List.take_succ_eq_append_getElem h, List.take_succ_eq_append_getElem hm, he, hx]

set_option maxHeartbeats 4000000 in
theorem sameParty_any {w : World} {va vb : Value} {la lb : List Int} (ha : Reads w va 1 la.length (la.map (.int .u8))) (hb : Reads w vb 1 lb.length (lb.map (.int .u8))) :
    Calls Try.prog 97 #[va, vb] w fun e w' => e = .returned (.bool (decide (la = lb))) ∧ Below w.heap.size w w' := by
  obtain ⟨ao, ca, rfl, a1, a2, a3⟩ := ha
  obtain ⟨bo, cb, rfl, b1, b2, b3⟩ := hb
  have HA := Lib.hid a3; have HB := Lib.hid b3
  clear a2 a3 b2 b3
  by_cases hlen : la.length = lb.length
  · have L := Lib.hid hlen
    have hll : lb.length = la.length := hlen.symm
    rw [hll]
    clear hll hlen b1
    go_enter Try.func97, Try.ntmps97
    go_wp2
    go_loopw [5] (fun i wr => ∃ k : Nat, k ≤ la.length ∧ i = .int .i64 k ∧ Hid (la.take k = lb.take k) ∧ Below w.heap.size w wr) (fun i _ => la.length - (intOf i).toNat)
    case atStart => exact ⟨0, Nat.zero_le _, rfl, Lib.hid (by simp), Below.refl _ _⟩
    case round =>
      obtain ⟨k, hk, rfl, ht, hbl⟩ := hrel
      have BL := Lib.hid hbl
      by_cases hkl : k < la.length
      · have hkb : k < lb.length := by have := L.out; omega
        obtain ⟨b1, o1, rfl, hlt1, hc1⟩ := HA.out (by omega)
        obtain ⟨b2, o2, rfl, hlt2, hc2⟩ := HB.out (by omega)
        have HC1 := Lib.hid (fun j (hj : j < la.length * 1) => (hbl.cell (p := ⟨b1, o1 + j, none⟩) hlt1).trans (hc1 j hj))
        have HC2 := Lib.hid (fun j (hj : j < lb.length * 1) => (hbl.cell (p := ⟨b2, o2 + j, none⟩) hlt2).trans (hc2 j hj))
        have d1 : wr.cell? ⟨b1, o1 + k, none⟩ = some (.int .u8 la[k]) := by rw [HC1.out k (by omega)]; simp [hkl]
        have d2 : wr.cell? ⟨b2, o2 + k, none⟩ = some (.int .u8 lb[k]) := by rw [HC2.out k (by omega)]; simp [hkb]
        have hz1 : b1 < wr.heap.size := Nat.lt_of_lt_of_le hlt1 hbl.size
        have hz2 : b2 < wr.heap.size := Nat.lt_of_lt_of_le hlt2 hbl.size
        have NE := Lib.hid (fun (he : la[k] ≠ lb[k]) => show decide (la = lb) = false by
          rw [decide_eq_false_iff_not]; rintro rfl; exact he rfl)
        have EQ := Lib.hid (fun (he : la[k] = lb[k]) => take_eq_next hkl hkb ht.out he)
        clear hc1 hc2 HC1 HC2 hbl
        generalize la[k] = x at *
        generalize lb[k] = y at *
        by_cases he : x = y
        · subst he
          go_wp2
          go_region
          all_goals
            go_wp2
            go_roundw
            case rel => exact ⟨k + 1, by omega, by go_num, Lib.hid (EQ.out (by first | exact rfl | trivial)), by first | exact BL.out.drew | exact BL.out⟩
            case measure => simp [intOf]; omega
        · have q : (x == y) = false := by simp [he]
          have E := Lib.hid (NE.out he)
          clear he NE EQ
          go_wp2
          go_region
          all_goals
            go_wp2
            go_ret
            exact ⟨by rw [E.out]; rfl, by first | exact BL.out.drew | exact BL.out⟩
      · have E := Lib.hid (show decide (la = lb) = true by
          have h1 := ht.out
          rw [List.take_of_length_le (by omega), List.take_of_length_le (by have := L.out; omega)] at h1
          rw [decide_eq_true_eq]; exact h1)
        go_wp2
        go_ret
        exact ⟨by rw [E.out]; rfl, BL.out⟩
  · have E := Lib.hid (show decide (la = lb) = false by rw [decide_eq_false_iff_not]; rintro rfl; exact hlen rfl)
    have q : ((la.length : Int) == (lb.length : Int)) = false := by simp; omega
    clear hlen
    go_enter Try.func97, Try.ntmps97
    go_wp2
    go_ret
    exact ⟨by rw [E.out]; rfl, Below.refl _ _⟩

theorem ln_parts (x y : Ln) : (x = y) ∨ (x ≠ y ∧ (x.cr == y.cr) = false) ∨ (x ≠ y ∧ (x.cr == y.cr) = true ∧ (x.de == y.de) = false) ∨ (x ≠ y ∧ (x.cr == y.cr) = true ∧ (x.de == y.de) = true ∧ (x.cu == y.cu) = false) ∨ (x ≠ y ∧ (x.cr == y.cr) = true ∧ (x.de == y.de) = true ∧ (x.cu == y.cu) = true ∧ (x.li == y.li) = false) ∨ (x ≠ y ∧ (x.cr == y.cr) = true ∧ (x.de == y.de) = true ∧ (x.cu == y.cu) = true ∧ (x.li == y.li) = true ∧ (x.db == y.db) = false) := by
  obtain ⟨a, b, c, d, e⟩ := x
  obtain ⟨a', b', c', d', e'⟩ := y
  by_cases h1 : a = a' <;> by_cases h2 : b = b' <;> by_cases h3 : c = c' <;> by_cases h4 : d = d' <;> by_cases h5 : e = e' <;> simp [h1, h2, h3, h4, h5]

set_option maxHeartbeats 4000000 in
theorem sameLine_any {w : World} {va vb : Value} {la lb : List Ln} (ha : Reads w va 5 la.length (lnCells la)) (hb : Reads w vb 5 lb.length (lnCells lb)) :
    Calls Try.prog 67 #[va, vb] w fun e w' => e = .returned (.bool (decide (la = lb))) ∧ Below w.heap.size w w' := by
  obtain ⟨ao, ca, rfl, a1, a2, a3⟩ := ha
  obtain ⟨bo, cb, rfl, b1, b2, b3⟩ := hb
  have HA := Lib.hid a3; have HB := Lib.hid b3
  clear a2 a3 b2 b3
  by_cases hlen : la.length = lb.length
  · have L := Lib.hid hlen
    have hll : lb.length = la.length := hlen.symm
    rw [hll]
    clear hll hlen b1
    go_enter Try.func67, Try.ntmps67
    go_wp2
    go_loopw [5] (fun i wr => ∃ k : Nat, k ≤ la.length ∧ i = .int .i64 k ∧ Hid (la.take k = lb.take k) ∧ Below w.heap.size w wr) (fun i _ => la.length - (intOf i).toNat)
    case atStart => exact ⟨0, Nat.zero_le _, rfl, Lib.hid (by simp), Below.refl _ _⟩
    case round =>
      obtain ⟨k, hk, rfl, ht, hbl⟩ := hrel
      have BL := Lib.hid hbl
      by_cases hkl : k < la.length
      · have hkb : k < lb.length := by have := L.out; omega
        obtain ⟨b1, o1, rfl, hlt1, hc1⟩ := HA.out (by omega)
        obtain ⟨b2, o2, rfl, hlt2, hc2⟩ := HB.out (by omega)
        have HC1 := Lib.hid (fun j (hj : j < la.length * 5) => (hbl.cell (p := ⟨b1, o1 + j, none⟩) hlt1).trans (hc1 j hj))
        have HC2 := Lib.hid (fun j (hj : j < lb.length * 5) => (hbl.cell (p := ⟨b2, o2 + j, none⟩) hlt2).trans (hc2 j hj))
        have d0 : wr.cell? ⟨b1, o1 + k * 5, none⟩ = some (.int .u8 la[k].cr) := by
          have q1 := HC1.out (k * 5 + 0) (by omega)
          rw [lnCells_get la k 0 (by omega) hkl] at q1
          first | exact q1 | (rw [← Nat.add_assoc] at q1; exact q1)
        have d1 : wr.cell? ⟨b1, o1 + k * 5 + 1, none⟩ = some (.int .u8 la[k].de) := by
          have q1 := HC1.out (k * 5 + 1) (by omega)
          rw [lnCells_get la k 1 (by omega) hkl] at q1
          first | exact q1 | (rw [← Nat.add_assoc] at q1; exact q1)
        have d2 : wr.cell? ⟨b1, o1 + k * 5 + 2, none⟩ = some (.int .u8 la[k].cu) := by
          have q1 := HC1.out (k * 5 + 2) (by omega)
          rw [lnCells_get la k 2 (by omega) hkl] at q1
          first | exact q1 | (rw [← Nat.add_assoc] at q1; exact q1)
        have d3 : wr.cell? ⟨b1, o1 + k * 5 + 3, none⟩ = some (.int .i64 la[k].li) := by
          have q1 := HC1.out (k * 5 + 3) (by omega)
          rw [lnCells_get la k 3 (by omega) hkl] at q1
          first | exact q1 | (rw [← Nat.add_assoc] at q1; exact q1)
        have d4 : wr.cell? ⟨b1, o1 + k * 5 + 4, none⟩ = some (.int .i64 la[k].db) := by
          have q1 := HC1.out (k * 5 + 4) (by omega)
          rw [lnCells_get la k 4 (by omega) hkl] at q1
          first | exact q1 | (rw [← Nat.add_assoc] at q1; exact q1)
        have f0 : wr.cell? ⟨b2, o2 + k * 5, none⟩ = some (.int .u8 lb[k].cr) := by
          have q1 := HC2.out (k * 5 + 0) (by omega)
          rw [lnCells_get lb k 0 (by omega) hkb] at q1
          first | exact q1 | (rw [← Nat.add_assoc] at q1; exact q1)
        have f1 : wr.cell? ⟨b2, o2 + k * 5 + 1, none⟩ = some (.int .u8 lb[k].de) := by
          have q1 := HC2.out (k * 5 + 1) (by omega)
          rw [lnCells_get lb k 1 (by omega) hkb] at q1
          first | exact q1 | (rw [← Nat.add_assoc] at q1; exact q1)
        have f2 : wr.cell? ⟨b2, o2 + k * 5 + 2, none⟩ = some (.int .u8 lb[k].cu) := by
          have q1 := HC2.out (k * 5 + 2) (by omega)
          rw [lnCells_get lb k 2 (by omega) hkb] at q1
          first | exact q1 | (rw [← Nat.add_assoc] at q1; exact q1)
        have f3 : wr.cell? ⟨b2, o2 + k * 5 + 3, none⟩ = some (.int .i64 lb[k].li) := by
          have q1 := HC2.out (k * 5 + 3) (by omega)
          rw [lnCells_get lb k 3 (by omega) hkb] at q1
          first | exact q1 | (rw [← Nat.add_assoc] at q1; exact q1)
        have f4 : wr.cell? ⟨b2, o2 + k * 5 + 4, none⟩ = some (.int .i64 lb[k].db) := by
          have q1 := HC2.out (k * 5 + 4) (by omega)
          rw [lnCells_get lb k 4 (by omega) hkb] at q1
          first | exact q1 | (rw [← Nat.add_assoc] at q1; exact q1)
        have hz1 : b1 < wr.heap.size := Nat.lt_of_lt_of_le hlt1 hbl.size
        have hz2 : b2 < wr.heap.size := Nat.lt_of_lt_of_le hlt2 hbl.size
        have NE := Lib.hid (fun (he : la[k] ≠ lb[k]) => show decide (la = lb) = false by
          rw [decide_eq_false_iff_not]; rintro rfl; exact he rfl)
        have EQ := Lib.hid (fun (he : la[k] = lb[k]) => take_eq_next hkl hkb ht.out he)
        clear hc1 hc2 HC1 HC2 hbl
        generalize la[k] = x at *
        generalize lb[k] = y at *
        have hs : (x = y) ∨ (x ≠ y ∧ (x.cr == y.cr) = false) ∨ (x ≠ y ∧ (x.cr == y.cr) = true ∧ (x.de == y.de) = false) ∨ (x ≠ y ∧ (x.cr == y.cr) = true ∧ (x.de == y.de) = true ∧ (x.cu == y.cu) = false) ∨ (x ≠ y ∧ (x.cr == y.cr) = true ∧ (x.de == y.de) = true ∧ (x.cu == y.cu) = true ∧ (x.li == y.li) = false) ∨ (x ≠ y ∧ (x.cr == y.cr) = true ∧ (x.de == y.de) = true ∧ (x.cu == y.cu) = true ∧ (x.li == y.li) = true ∧ (x.db == y.db) = false) := ln_parts x y
        rcases hs with rfl | ⟨he, s1⟩ | ⟨he, s1, s2⟩ | ⟨he, s1, s2, s3⟩ | ⟨he, s1, s2, s3, s4⟩ | ⟨he, s1, s2, s3, s4, s5⟩
        · clear NE
          go_wp2
          go_region
          all_goals
            go_wp2
            go_roundw
            case rel => exact ⟨k + 1, by omega, by go_num, Lib.hid (EQ.out (by first | exact rfl | trivial)), by first | exact BL.out.drew | exact BL.out⟩
            case measure => simp [intOf]; omega
        · have E := Lib.hid (NE.out he)
          clear he NE EQ
          go_wp2
          go_region
          all_goals
            go_wp2
            go_ret
            exact ⟨by rw [E.out]; rfl, by first | exact BL.out.drew | exact BL.out⟩
        · have E := Lib.hid (NE.out he)
          clear he NE EQ
          go_wp2
          go_region
          all_goals
            go_wp2
            go_ret
            exact ⟨by rw [E.out]; rfl, by first | exact BL.out.drew | exact BL.out⟩
        · have E := Lib.hid (NE.out he)
          clear he NE EQ
          go_wp2
          go_region
          all_goals
            go_wp2
            go_ret
            exact ⟨by rw [E.out]; rfl, by first | exact BL.out.drew | exact BL.out⟩
        · have E := Lib.hid (NE.out he)
          clear he NE EQ
          go_wp2
          go_region
          all_goals
            go_wp2
            go_ret
            exact ⟨by rw [E.out]; rfl, by first | exact BL.out.drew | exact BL.out⟩
        · have E := Lib.hid (NE.out he)
          clear he NE EQ
          go_wp2
          go_region
          all_goals
            go_wp2
            go_ret
            exact ⟨by rw [E.out]; rfl, by first | exact BL.out.drew | exact BL.out⟩
      · have E := Lib.hid (show decide (la = lb) = true by
          have h1 := ht.out
          rw [List.take_of_length_le (by omega), List.take_of_length_le (by have := L.out; omega)] at h1
          rw [decide_eq_true_eq]; exact h1)
        go_wp2
        go_ret
        exact ⟨by rw [E.out]; rfl, BL.out⟩
  · have E := Lib.hid (show decide (la = lb) = false by rw [decide_eq_false_iff_not]; rintro rfl; exact hlen rfl)
    have q : ((la.length : Int) == (lb.length : Int)) = false := by simp; omega
    clear hlen
    go_enter Try.func67, Try.ntmps67
    go_wp2
    go_ret
    exact ⟨by rw [E.out]; rfl, Below.refl _ _⟩

end Go.Proofs.Ytajmladlmkkimaa

/-
  slices.Clip of a row of one's own; slices of just their length.
-/
namespace Go.Proofs.Ytajmladlmkkimaa
open Go.RowKit
set_option linter.unusedSimpArgs false
set_option linter.unusedVariables false

theorem run_slice_clip {P : Program} (w : World) (t e : TypeId) (sz : Nat) (ht : P.underlying t = some (.slice e)) (hs : (sizeOf e).run P w = .ok sz w) (b n cap : Nat) (h : n ≤ cap) :
    (Instr.sliceAt t (.slice (some ⟨b, 0, none⟩) n cap) none (some (.int .i64 n)) (some (.int .i64 n))).run P w = .ok (.slice (some ⟨b, 0, none⟩) n n) w := by
  have he : P.elem t = e := by simp [Program.elem, ht]
  simp [Instr.sliceAt, Instr.slice, run_underlying ht, Instr.sliceBounds, run_sliceBound, hs, h, Result.andThen, Addr.add]
theorem run_slice_clip_none {P : Program} (w : World) (t e : TypeId) (sz : Nat) (ht : P.underlying t = some (.slice e)) (hs : (sizeOf e).run P w = .ok sz w) :
    (Instr.sliceAt t (.slice none 0 0) none (some (.int .i64 0)) (some (.int .i64 0))).run P w = .ok (.slice none 0 0) w := by
  simp [Instr.sliceAt, Instr.slice, run_underlying ht, Instr.sliceBounds, run_sliceBound, hs, Result.andThen, Addr.add]
/-- A row, cut down to its length. -/
theorem owns_clip {w : World} {base : Nat} {e : TypeId} {size : Nat} {b n cap : Nat} {xs : List Value} (h : w.ownsRow base e size (.slice (some ⟨b, 0, none⟩) n cap) n xs) : n ≤ cap := by
  rcases h.2 with ⟨h1, _⟩ | ⟨g, cap', cur, hv, _, _, h3, _⟩
  · cases h1
  · cases hv; exact h3
/-- A slice of a call's own, of just its length. -/
def Rowed (w : World) (base : Nat) (e : TypeId) (size : Nat) (v : Value) (n : Nat) (xs : List Value) : Prop :=
  xs.length = n * size ∧ ((v = .slice none 0 0 ∧ n = 0) ∨ ∃ g cur, v = .slice (some ⟨g, 0, none⟩) n n ∧ base ≤ g ∧ w.heap[g]? = some (.cells cur e (0, 0)) ∧ n ≤ maxLen ∧ n * size ≤ cur.size ∧ cur.toList.take (n * size) = xs)
theorem Rowed.keep {S : Nat → Prop} {w w' : World} {base : Nat} {e : TypeId} {size : Nat} {v : Value} {n : Nat} {xs : List Value} (h : Rowed w base e size v n xs) (k : Keep S w w') (hs : ∀ b, v.ownBlock = some b → ¬ S b) : Rowed w' base e size v n xs := by
  obtain ⟨h1, h2⟩ := h
  refine ⟨h1, ?_⟩
  rcases h2 with h2 | ⟨g, cur, rfl, hb, hg, hr⟩
  · exact .inl h2
  · refine .inr ⟨g, cur, rfl, hb, ?_, hr⟩
    rw [k.block g (lt_of_block hg) (hs g rfl)]
    exact hg
theorem Rowed.below {w w' : World} {base : Nat} {e : TypeId} {size : Nat} {v : Value} {n : Nat} {xs : List Value} (h : Rowed w base e size v n xs) (k : Below w.heap.size w w') : Rowed w' base e size v n xs :=
  h.keep (Keep.of_below (S := fun _ => False) k) (fun _ _ => id)
theorem Rowed.base {w : World} {base b' : Nat} {e : TypeId} {size : Nat} {v : Value} {n : Nat} {xs : List Value} (h : Rowed w base e size v n xs) (hb : b' ≤ base) : Rowed w b' e size v n xs := by
  obtain ⟨h1, h2⟩ := h
  refine ⟨h1, ?_⟩
  rcases h2 with h2 | ⟨g, cur, hv, hg, hr⟩
  · exact .inl h2
  · exact .inr ⟨g, cur, hv, Nat.le_trans hb hg, hr⟩
theorem Rowed.type {w : World} {base : Nat} {e : TypeId} {size : Nat} {v : Value} {n : Nat} {xs : List Value} (h : Rowed w base e size v n xs) {b : Nat} (hb : v.ownBlock = some b) : base ≤ b ∧ b < w.heap.size ∧ ∃ cur, w.heap[b]? = some (.cells cur e (0, 0)) := by
  obtain ⟨_, h2⟩ := h
  rcases h2 with ⟨rfl, _⟩ | ⟨g, cur, rfl, hge, hg, _⟩
  · cases hb
  · cases hb; exact ⟨hge, lt_of_block hg, cur, hg⟩
theorem Rowed.reads {w : World} {base : Nat} {e : TypeId} {size : Nat} {v : Value} {n : Nat} {xs : List Value} (h : Rowed w base e size v n xs) (hn : n ≤ 100000000) : Reads w v size n xs := by
  obtain ⟨h1, h2⟩ := h
  rcases h2 with ⟨rfl, rfl⟩ | ⟨g, cur, rfl, _, hg, _, hc, ht⟩
  · exact ⟨none, 0, rfl, by omega, h1, fun h => by omega⟩
  · refine ⟨_, n, rfl, hn, h1, fun hp => ⟨g, 0, rfl, lt_of_block hg, fun j hj => ?_⟩⟩
    rw [Nat.zero_add]
    show w.cell? ⟨g, j, none⟩ = _
    simp only [World.cell?, hg, Option.isSome_none, Bool.false_eq_true, if_false]
    rw [← ht, List.getElem?_take_of_lt hj, Array.getElem?_toList]
def ClipPost (w : World) (base : Nat) (e : TypeId) (size n : Nat) (v : Value) (xs : List Value) (en : Ending) (w' : World) : Prop :=
  ∃ v', en = .returned v' ∧ Rowed w' base e size v' n xs ∧ v'.ownBlock = v.ownBlock ∧ w' = w
/-- A list that is told. -/
def ListPost (w : World) (e : TypeId) (size n : Nat) (xs : List Value) (en : Ending) (w' : World) : Prop :=
  ∃ v', en = .returned v' ∧ Rowed w' w.heap.size e size v' n xs ∧ Below w.heap.size w w'

end Go.Proofs.Ytajmladlmkkimaa

/-
  What a twin of a list is. No program.
-/
namespace Go.Proofs.Ytajmladlmkkimaa
open Go.RowKit
set_option linter.unusedSimpArgs false
set_option linter.unusedVariables false

theorem Reads.src {w : World} {ao : Option Addr} {size n cap : Nat} {xs : List Value} (h : Reads w (.slice ao n cap) size n xs) : ∀ ad, ao = some ad → ∀ j u, xs[j]? = some u → w.cell? (ad.add j) = some u := by
  rintro ad rfl j u hu
  obtain ⟨ao', cap', hv, _, hlen, h3⟩ := h
  cases hv
  have hj : j < xs.length := by
    obtain ⟨hj, _⟩ := List.getElem?_eq_some_iff.1 hu
    exact hj
  have hn : 0 < n := by
    rcases Nat.eq_zero_or_pos n with rfl | hn
    · omega
    · exact hn
  obtain ⟨b, off, e, _, hc⟩ := h3 hn
  cases e
  rw [Go.WideShapes.add_plain, hc j (by omega)]
  exact hu
theorem Reads.ofNone {w : World} {ao : Option Addr} {size n cap : Nat} {xs : List Value} (h : Reads w (.slice ao n cap) size n xs) (h0 : ao = none → cap = 0) : ao = none → n = 0 ∧ cap = 0 := by
  intro e
  refine ⟨?_, h0 e⟩
  obtain ⟨ao', cap', hv, _, _, h3⟩ := h
  cases hv
  rcases Nat.eq_zero_or_pos n with hn | hn
  · exact hn
  · obtain ⟨b, off, e', _⟩ := h3 hn
    rw [e] at e'; cases e'
/-- A twin in block g: its n elements, and two marks behind. -/
def Twinned (w : World) (base g : Nat) (e : TypeId) (size n : Nat) (xs marks : List Value) : Prop := w.ownsRow base e size (.slice (some ⟨g, 0, none⟩) (n + 2) (n + 2)) (n + 2) (xs ++ marks)
theorem Twinned.keep {S : Nat → Prop} {w w' : World} {base g : Nat} {e : TypeId} {size n : Nat} {xs marks : List Value} (h : Twinned w base g e size n xs marks) (k : Keep S w w') (hs : ¬ S g) : Twinned w' base g e size n xs marks :=
  owns_keep h k (fun b hb => by cases hb; exact hs)
theorem Twinned.below {w w' : World} {base g : Nat} {e : TypeId} {size n : Nat} {xs marks : List Value} (h : Twinned w base g e size n xs marks) (k : Below w.heap.size w w') : Twinned w' base g e size n xs marks := owns_below h k
theorem Twinned.cells {w : World} {base g : Nat} {e : TypeId} {size n : Nat} {xs marks : List Value} (h : Twinned w base g e size n xs marks) : g < w.heap.size ∧ ∀ j, j < (n + 2) * size → w.cell? ⟨g, j, none⟩ = (xs ++ marks)[j]? := by
  obtain ⟨ao, cap, hv, _, _, _, hr⟩ := owns_open h
  cases hv
  obtain ⟨b, hb, _, hlt, hc, _⟩ := hr (by omega)
  cases hb
  exact ⟨hlt, hc⟩
theorem Twinned.reads {w : World} {base g : Nat} {e : TypeId} {size n : Nat} {xs marks : List Value} (h : Twinned w base g e size n xs marks) (hn : n ≤ 100000000) (hx : xs.length = n * size) : Reads w (.slice (some ⟨g, 0, none⟩) n (n + 2)) size n xs := by
  obtain ⟨hlt, hc⟩ := h.cells
  refine ⟨_, _, rfl, hn, hx, fun _ => ⟨g, 0, rfl, hlt, fun j hj => ?_⟩⟩
  rw [Nat.zero_add, hc j (by rw [Nat.add_mul]; omega), List.getElem?_append_left (by omega)]
def TwinDone (w : World) (e : TypeId) (size n : Nat) (xs marks : List Value) (en : Ending) (w' : World) : Prop :=
  ∃ g, en = .returned (.slice (some ⟨g, 0, none⟩) n (n + 2)) ∧ w.heap.size ≤ g ∧ Twinned w' w.heap.size g e size n xs marks ∧ Below w.heap.size w w'
/-- A cell of a row of lines. -/
theorem lnCells_set (ls : List Ln) {i c : Nat} (hi : i < ls.length) (hc : c < 5) {v : Value} {y : Ln} (hy : y.vals = ls[i].vals.set c v) : lnCells (ls.set i y) = (lnCells ls).set (i * 5 + c) v := by
  apply List.ext_getElem?
  intro j
  by_cases hj : j < ls.length * 5
  · obtain ⟨a, b, hb, rfl⟩ : ∃ a b, b < 5 ∧ j = a * 5 + b := ⟨j / 5, j % 5, Nat.mod_lt _ (by decide), by omega⟩
    have ha : a < ls.length := by omega
    rw [lnCells_get _ a b hb (by simpa using ha), List.getElem?_set]
    by_cases hai : i = a
    · subst hai
      rw [List.getElem_set_self, hy, List.getElem?_set, Ln.vals_len, lnCells_len]
      by_cases hbc : c = b
      · subst hbc
        rw [if_pos rfl, if_pos rfl, if_pos hc, if_pos (by omega)]
      · rw [if_neg hbc, if_neg (by omega), lnCells_get _ _ _ hb hi]
    · rw [List.getElem_set_ne hai, if_neg (by omega), lnCells_get _ _ _ hb ha]
  · rw [List.getElem?_eq_none (by rw [lnCells_len, List.length_set]; omega), List.getElem?_eq_none (by rw [List.length_set, lnCells_len]; omega)]
theorem Rowed.set {w : World} {base : Nat} {e : TypeId} {size : Nat} {g n cap : Nat} {xs : List Value} (h : Rowed w base e size (.slice (some ⟨g, 0, none⟩) n cap) n xs) {j : Nat} (hj : j < n * size) (v : Value) :
    Rowed (w.setCell ⟨g, j, none⟩ v) base e size (.slice (some ⟨g, 0, none⟩) n cap) n (xs.set j v) := by
  obtain ⟨h1, h2⟩ := h
  refine ⟨by simpa using h1, .inr ?_⟩
  rcases h2 with ⟨h2, _⟩ | ⟨g', cur, hv, hb, hg, hm, hc, ht⟩
  · cases h2
  · cases hv
    refine ⟨g, cur.setIfInBounds j v, rfl, hb, ?_, hm, by simpa using hc, ?_⟩
    · exact Blk.set (t := e) hg j v
    · rw [Array.toList_setIfInBounds, List.take_set, ht]

end Go.Proofs.Ytajmladlmkkimaa
