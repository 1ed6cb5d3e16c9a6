/-
  The statements' own 'same' on lists of parties and of lines: whether they are the same.
-/
import Derived.Test.YtlcilpeljnoclaaLed
namespace Go.Proofs.Ytlcilpeljnoclaa
open Go.RowKit
set_option linter.unusedSimpArgs false
set_option linter.unusedVariables false

/-- A slice's value, wherever it lies, and the cells of its elements. -/
def Reads (w : World) (v : Value) (size n : Nat) (xs : List Value) : Prop :=
  ∃ (ao : Option Addr) (cap : Nat), v = .slice ao n cap ∧ n ≤ 100000000 ∧ xs.length = n * size ∧ (0 < n → ∃ b off, ao = some ⟨b, off, none⟩ ∧ b < w.heap.size ∧ ∀ j, j < n * size → w.cell? ⟨b, off + j, none⟩ = xs[j]?)
theorem Reads.of_owns {w : World} {base : Nat} {e : TypeId} {size : Nat} {v : Value} {n : Nat} {xs : List Value} (h : w.ownsRow base e size v n xs) (hn : n ≤ 100000000) : Reads w v size n xs := by
  obtain ⟨ao, cap, rfl, _, _, h3, h4⟩ := owns_open h
  refine ⟨ao, cap, rfl, hn, h3, fun hp => ?_⟩
  obtain ⟨b, rfl, _, hb, hc, _⟩ := h4 hp
  exact ⟨b, 0, rfl, hb, fun j hj => by rw [Nat.zero_add]; exact hc j hj⟩
theorem Reads.keep {S : Nat → Prop} {w w' : World} {v : Value} {size n : Nat} {xs : List Value} (h : Reads w v size n xs) (k : Keep S w w') (hs : ∀ b, v.ownBlock = some b → ¬ S b) : Reads w' v size n xs := by
  obtain ⟨ao, cap, rfl, h1, h2, h3⟩ := h
  refine ⟨ao, cap, rfl, h1, h2, fun hp => ?_⟩
  obtain ⟨b, off, rfl, hb, hc⟩ := h3 hp
  exact ⟨b, off, rfl, Nat.lt_of_lt_of_le hb k.size, fun j hj => by rw [k.cell (p := ⟨b, off + j, none⟩) hb (hs b rfl)]; exact hc j hj⟩
theorem Reads.below {w w' : World} {v : Value} {size n : Nat} {xs : List Value} (h : Reads w v size n xs) (k : Below w.heap.size w w') : Reads w' v size n xs :=
  h.keep (Keep.of_below (S := fun _ => False) k) (fun _ _ => id)
theorem take_eq_next {α : Type} {l m : List α} {k : Nat} (h : k < l.length) (hm : k < m.length) (he : l.take k = m.take k) (hx : l[k] = m[k]) : l.take (k + 1) = m.take (k + 1) := by
  rw [List.take_succ_eq_append_getElem h, List.take_succ_eq_append_getElem hm, he, hx]

set_option maxHeartbeats 4000000 in
theorem sameParty_any {w : World} {va vb : Value} {la lb : List Int} (ha : Reads w va 1 la.length (la.map (.int .u8))) (hb : Reads w vb 1 lb.length (lb.map (.int .u8))) :
    Calls Try.prog 69 #[va, vb] w fun e w' => e = .returned (.bool (decide (la = lb))) ∧ Below w.heap.size w w' := by
  obtain ⟨ao, ca, rfl, a1, a2, a3⟩ := ha
  obtain ⟨bo, cb, rfl, b1, b2, b3⟩ := hb
  have HA := Lib.hid a3; have HB := Lib.hid b3
  clear a2 a3 b2 b3
  by_cases hlen : la.length = lb.length
  · have L := Lib.hid hlen
    have hll : lb.length = la.length := hlen.symm
    rw [hll]
    clear hll hlen b1
    go_enter Try.func69, Try.ntmps69
    go_wp2
    go_loopw [5] (fun i wr => ∃ k : Nat, k ≤ la.length ∧ i = .int .i64 k ∧ Hid (la.take k = lb.take k) ∧ Below w.heap.size w wr) (fun i _ => la.length - (intOf i).toNat)
    case atStart => exact ⟨0, Nat.zero_le _, rfl, Lib.hid (by simp), Below.refl _ _⟩
    case round =>
      obtain ⟨k, hk, rfl, ht, hbl⟩ := hrel
      have BL := Lib.hid hbl
      by_cases hkl : k < la.length
      · have hkb : k < lb.length := by have := L.out; omega
        obtain ⟨b1, o1, rfl, hlt1, hc1⟩ := HA.out (by omega)
        obtain ⟨b2, o2, rfl, hlt2, hc2⟩ := HB.out (by omega)
        have HC1 := Lib.hid (fun j (hj : j < la.length * 1) => (hbl.cell (p := ⟨b1, o1 + j, none⟩) hlt1).trans (hc1 j hj))
        have HC2 := Lib.hid (fun j (hj : j < lb.length * 1) => (hbl.cell (p := ⟨b2, o2 + j, none⟩) hlt2).trans (hc2 j hj))
        have d1 : wr.cell? ⟨b1, o1 + k, none⟩ = some (.int .u8 la[k]) := by rw [HC1.out k (by omega)]; simp [hkl]
        have d2 : wr.cell? ⟨b2, o2 + k, none⟩ = some (.int .u8 lb[k]) := by rw [HC2.out k (by omega)]; simp [hkb]
        have hz1 : b1 < wr.heap.size := Nat.lt_of_lt_of_le hlt1 hbl.size
        have hz2 : b2 < wr.heap.size := Nat.lt_of_lt_of_le hlt2 hbl.size
        have NE := Lib.hid (fun (he : la[k] ≠ lb[k]) => show decide (la = lb) = false by
          rw [decide_eq_false_iff_not]; rintro rfl; exact he rfl)
        have EQ := Lib.hid (fun (he : la[k] = lb[k]) => take_eq_next hkl hkb ht.out he)
        clear hc1 hc2 HC1 HC2 hbl
        generalize la[k] = x at *
        generalize lb[k] = y at *
        by_cases he : x = y
        · subst he
          go_wp2
          go_region
          all_goals
            go_wp2
            go_roundw
            case rel => exact ⟨k + 1, by omega, by go_num, Lib.hid (EQ.out (by first | exact rfl | trivial)), by first | exact BL.out.drew | exact BL.out⟩
            case measure => simp [intOf]; omega
        · have q : (x == y) = false := by simp [he]
          have E := Lib.hid (NE.out he)
          clear he NE EQ
          go_wp2
          go_region
          all_goals
            go_wp2
            go_ret
            exact ⟨by rw [E.out]; rfl, by first | exact BL.out.drew | exact BL.out⟩
      · have E := Lib.hid (show decide (la = lb) = true by
          have h1 := ht.out
          rw [List.take_of_length_le (by omega), List.take_of_length_le (by have := L.out; omega)] at h1
          rw [decide_eq_true_eq]; exact h1)
        go_wp2
        go_ret
        exact ⟨by rw [E.out]; rfl, BL.out⟩
  · have E := Lib.hid (show decide (la = lb) = false by rw [decide_eq_false_iff_not]; rintro rfl; exact hlen rfl)
    have q : ((la.length : Int) == (lb.length : Int)) = false := by simp; omega
    clear hlen
    go_enter Try.func69, Try.ntmps69
    go_wp2
    go_ret
    exact ⟨by rw [E.out]; rfl, Below.refl _ _⟩

theorem ln_parts (x y : Ln) : (x = y) ∨ (x ≠ y ∧ (x.cr == y.cr) = false) ∨ (x ≠ y ∧ (x.cr == y.cr) = true ∧ (x.de == y.de) = false) ∨ (x ≠ y ∧ (x.cr == y.cr) = true ∧ (x.de == y.de) = true ∧ (x.cu == y.cu) = false) ∨ (x ≠ y ∧ (x.cr == y.cr) = true ∧ (x.de == y.de) = true ∧ (x.cu == y.cu) = true ∧ (x.li == y.li) = false) ∨ (x ≠ y ∧ (x.cr == y.cr) = true ∧ (x.de == y.de) = true ∧ (x.cu == y.cu) = true ∧ (x.li == y.li) = true ∧ (x.db == y.db) = false) := by
  obtain ⟨a, b, c, d, e⟩ := x
  obtain ⟨a', b', c', d', e'⟩ := y
  by_cases h1 : a = a' <;> by_cases h2 : b = b' <;> by_cases h3 : c = c' <;> by_cases h4 : d = d' <;> by_cases h5 : e = e' <;> simp [h1, h2, h3, h4, h5]

set_option maxHeartbeats 4000000 in
theorem sameLine_any {w : World} {va vb : Value} {la lb : List Ln} (ha : Reads w va 5 la.length (lnCells la)) (hb : Reads w vb 5 lb.length (lnCells lb)) :
    Calls Try.prog 68 #[va, vb] w fun e w' => e = .returned (.bool (decide (la = lb))) ∧ Below w.heap.size w w' := by
  obtain ⟨ao, ca, rfl, a1, a2, a3⟩ := ha
  obtain ⟨bo, cb, rfl, b1, b2, b3⟩ := hb
  have HA := Lib.hid a3; have HB := Lib.hid b3
  clear a2 a3 b2 b3
  by_cases hlen : la.length = lb.length
  · have L := Lib.hid hlen
    have hll : lb.length = la.length := hlen.symm
    rw [hll]
    clear hll hlen b1
    go_enter Try.func68, Try.ntmps68
    go_wp2
    go_loopw [5] (fun i wr => ∃ k : Nat, k ≤ la.length ∧ i = .int .i64 k ∧ Hid (la.take k = lb.take k) ∧ Below w.heap.size w wr) (fun i _ => la.length - (intOf i).toNat)
    case atStart => exact ⟨0, Nat.zero_le _, rfl, Lib.hid (by simp), Below.refl _ _⟩
    case round =>
      obtain ⟨k, hk, rfl, ht, hbl⟩ := hrel
      have BL := Lib.hid hbl
      by_cases hkl : k < la.length
      · have hkb : k < lb.length := by have := L.out; omega
        obtain ⟨b1, o1, rfl, hlt1, hc1⟩ := HA.out (by omega)
        obtain ⟨b2, o2, rfl, hlt2, hc2⟩ := HB.out (by omega)
        have HC1 := Lib.hid (fun j (hj : j < la.length * 5) => (hbl.cell (p := ⟨b1, o1 + j, none⟩) hlt1).trans (hc1 j hj))
        have HC2 := Lib.hid (fun j (hj : j < lb.length * 5) => (hbl.cell (p := ⟨b2, o2 + j, none⟩) hlt2).trans (hc2 j hj))
        have d0 : wr.cell? ⟨b1, o1 + k * 5, none⟩ = some (.int .u8 la[k].cr) := by
          have q1 := HC1.out (k * 5 + 0) (by omega)
          rw [lnCells_get la k 0 (by omega) hkl] at q1
          first | exact q1 | (rw [← Nat.add_assoc] at q1; exact q1)
        have d1 : wr.cell? ⟨b1, o1 + k * 5 + 1, none⟩ = some (.int .u8 la[k].de) := by
          have q1 := HC1.out (k * 5 + 1) (by omega)
          rw [lnCells_get la k 1 (by omega) hkl] at q1
          first | exact q1 | (rw [← Nat.add_assoc] at q1; exact q1)
        have d2 : wr.cell? ⟨b1, o1 + k * 5 + 2, none⟩ = some (.int .u8 la[k].cu) := by
          have q1 := HC1.out (k * 5 + 2) (by omega)
          rw [lnCells_get la k 2 (by omega) hkl] at q1
          first | exact q1 | (rw [← Nat.add_assoc] at q1; exact q1)
        have d3 : wr.cell? ⟨b1, o1 + k * 5 + 3, none⟩ = some (.int .i64 la[k].li) := by
          have q1 := HC1.out (k * 5 + 3) (by omega)
          rw [lnCells_get la k 3 (by omega) hkl] at q1
          first | exact q1 | (rw [← Nat.add_assoc] at q1; exact q1)
        have d4 : wr.cell? ⟨b1, o1 + k * 5 + 4, none⟩ = some (.int .i64 la[k].db) := by
          have q1 := HC1.out (k * 5 + 4) (by omega)
          rw [lnCells_get la k 4 (by omega) hkl] at q1
          first | exact q1 | (rw [← Nat.add_assoc] at q1; exact q1)
        have f0 : wr.cell? ⟨b2, o2 + k * 5, none⟩ = some (.int .u8 lb[k].cr) := by
          have q1 := HC2.out (k * 5 + 0) (by omega)
          rw [lnCells_get lb k 0 (by omega) hkb] at q1
          first | exact q1 | (rw [← Nat.add_assoc] at q1; exact q1)
        have f1 : wr.cell? ⟨b2, o2 + k * 5 + 1, none⟩ = some (.int .u8 lb[k].de) := by
          have q1 := HC2.out (k * 5 + 1) (by omega)
          rw [lnCells_get lb k 1 (by omega) hkb] at q1
          first | exact q1 | (rw [← Nat.add_assoc] at q1; exact q1)
        have f2 : wr.cell? ⟨b2, o2 + k * 5 + 2, none⟩ = some (.int .u8 lb[k].cu) := by
          have q1 := HC2.out (k * 5 + 2) (by omega)
          rw [lnCells_get lb k 2 (by omega) hkb] at q1
          first | exact q1 | (rw [← Nat.add_assoc] at q1; exact q1)
        have f3 : wr.cell? ⟨b2, o2 + k * 5 + 3, none⟩ = some (.int .i64 lb[k].li) := by
          have q1 := HC2.out (k * 5 + 3) (by omega)
          rw [lnCells_get lb k 3 (by omega) hkb] at q1
          first | exact q1 | (rw [← Nat.add_assoc] at q1; exact q1)
        have f4 : wr.cell? ⟨b2, o2 + k * 5 + 4, none⟩ = some (.int .i64 lb[k].db) := by
          have q1 := HC2.out (k * 5 + 4) (by omega)
          rw [lnCells_get lb k 4 (by omega) hkb] at q1
          first | exact q1 | (rw [← Nat.add_assoc] at q1; exact q1)
        have hz1 : b1 < wr.heap.size := Nat.lt_of_lt_of_le hlt1 hbl.size
        have hz2 : b2 < wr.heap.size := Nat.lt_of_lt_of_le hlt2 hbl.size
        have NE := Lib.hid (fun (he : la[k] ≠ lb[k]) => show decide (la = lb) = false by
          rw [decide_eq_false_iff_not]; rintro rfl; exact he rfl)
        have EQ := Lib.hid (fun (he : la[k] = lb[k]) => take_eq_next hkl hkb ht.out he)
        clear hc1 hc2 HC1 HC2 hbl
        generalize la[k] = x at *
        generalize lb[k] = y at *
        have hs : (x = y) ∨ (x ≠ y ∧ (x.cr == y.cr) = false) ∨ (x ≠ y ∧ (x.cr == y.cr) = true ∧ (x.de == y.de) = false) ∨ (x ≠ y ∧ (x.cr == y.cr) = true ∧ (x.de == y.de) = true ∧ (x.cu == y.cu) = false) ∨ (x ≠ y ∧ (x.cr == y.cr) = true ∧ (x.de == y.de) = true ∧ (x.cu == y.cu) = true ∧ (x.li == y.li) = false) ∨ (x ≠ y ∧ (x.cr == y.cr) = true ∧ (x.de == y.de) = true ∧ (x.cu == y.cu) = true ∧ (x.li == y.li) = true ∧ (x.db == y.db) = false) := ln_parts x y
        rcases hs with rfl | ⟨he, s1⟩ | ⟨he, s1, s2⟩ | ⟨he, s1, s2, s3⟩ | ⟨he, s1, s2, s3, s4⟩ | ⟨he, s1, s2, s3, s4, s5⟩
        · clear NE
          go_wp2
          go_region
          all_goals
            go_wp2
            go_roundw
            case rel => exact ⟨k + 1, by omega, by go_num, Lib.hid (EQ.out (by first | exact rfl | trivial)), by first | exact BL.out.drew | exact BL.out⟩
            case measure => simp [intOf]; omega
        · have E := Lib.hid (NE.out he)
          clear he NE EQ
          go_wp2
          go_region
          all_goals
            go_wp2
            go_ret
            exact ⟨by rw [E.out]; rfl, by first | exact BL.out.drew | exact BL.out⟩
        · have E := Lib.hid (NE.out he)
          clear he NE EQ
          go_wp2
          go_region
          all_goals
            go_wp2
            go_ret
            exact ⟨by rw [E.out]; rfl, by first | exact BL.out.drew | exact BL.out⟩
        · have E := Lib.hid (NE.out he)
          clear he NE EQ
          go_wp2
          go_region
          all_goals
            go_wp2
            go_ret
            exact ⟨by rw [E.out]; rfl, by first | exact BL.out.drew | exact BL.out⟩
        · have E := Lib.hid (NE.out he)
          clear he NE EQ
          go_wp2
          go_region
          all_goals
            go_wp2
            go_ret
            exact ⟨by rw [E.out]; rfl, by first | exact BL.out.drew | exact BL.out⟩
        · have E := Lib.hid (NE.out he)
          clear he NE EQ
          go_wp2
          go_region
          all_goals
            go_wp2
            go_ret
            exact ⟨by rw [E.out]; rfl, by first | exact BL.out.drew | exact BL.out⟩
      · have E := Lib.hid (show decide (la = lb) = true by
          have h1 := ht.out
          rw [List.take_of_length_le (by omega), List.take_of_length_le (by have := L.out; omega)] at h1
          rw [decide_eq_true_eq]; exact h1)
        go_wp2
        go_ret
        exact ⟨by rw [E.out]; rfl, BL.out⟩
  · have E := Lib.hid (show decide (la = lb) = false by rw [decide_eq_false_iff_not]; rintro rfl; exact hlen rfl)
    have q : ((la.length : Int) == (lb.length : Int)) = false := by simp; omega
    clear hlen
    go_enter Try.func68, Try.ntmps68
    go_wp2
    go_ret
    exact ⟨by rw [E.out]; rfl, Below.refl _ _⟩

end Go.Proofs.Ytlcilpeljnoclaa
