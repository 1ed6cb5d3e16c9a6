/-
  The program's books: where the offer of a number stands.
-/
import Derived.Test.YtdbdeodcldogmaaPB
namespace Go.Proofs.Ytdbdeodcldogmaa
open Go.RowKit
set_option linter.unusedSimpArgs false
set_option linter.unusedVariables false

/-- Where the offer of a number stands; as many as there are, if none does. -/
def posO (l : List Of) (s : Int) : Nat := l.findIdx fun x => x.se == s
theorem posO_le (l : List Of) (s : Int) : posO l s ≤ l.length := List.findIdx_le_length
theorem posO_at {l : List Of} {s : Int} {k : Nat} (hk : k < l.length) (hn : ∀ x ∈ l.take k, (x.se == s) = false) (hx : (l[k].se == s) = true) : posO l s = k := by
  unfold posO
  rw [List.findIdx_eq hk]
  refine ⟨hx, fun j hj => ?_⟩
  exact hn _ (by rw [List.mem_take_iff_getElem]; exact ⟨j, by omega, rfl⟩)
theorem posO_none {l : List Of} {s : Int} (hn : ∀ x ∈ l, (x.se == s) = false) : posO l s = l.length := by
  unfold posO
  rw [List.findIdx_eq_length]
  exact hn
theorem posO_found {l : List Of} {s : Int} (h : posO l s < l.length) : findO l s = some l[posO l s] := by
  unfold findO posO at *
  rw [List.find?_eq_some_iff_getElem]
  refine ⟨List.findIdx_getElem (w := h), _, h, rfl, fun j hj => ?_⟩
  have := List.not_of_lt_findIdx hj
  simpa using this
theorem posO_missed {l : List Of} {s : Int} (h : ¬ posO l s < l.length) : findO l s = none := by
  have h2 : posO l s = l.length := by have := posO_le l s; omega
  unfold posO at h2
  rw [List.findIdx_eq_length] at h2
  exact findO_none h2
def idxV (l : List Of) (s : Int) : Value := if posO l s < l.length then .int .i64 (posO l s : Nat) else .int .i64 (-1)
/-- What standing answers. -/
def standV (l : List Of) (s : Int) : Value := if posO l s < l.length then .tuple #[.int .i64 (posO l s : Nat), .int .i64 0] else .tuple #[.int .i64 0, .int .i64 7]

theorem stand1_any (x : Of) {c : Nat} {s : Int} {w : World} (hK : Blk w c #[.int .u64 s] 23) :
    Calls Try.prog 62 #[.agg #[.int .u64 x.se, .int .u8 x.ow, .int .u8 x.sl, .int .u8 x.bu, .int .i64 x.lf, .int .i64 x.nu, .int .i64 x.de], .pointer (some ⟨c, 0, none⟩)] w fun e w' => e = .returned (.bool (x.se == s)) ∧ Below w.heap.size w w' := by
  have B0 := Lib.hid ((Below.refl w.heap.size w).alloc (Nat.le_refl _) (.cells #[.int .u64 x.se, .int .u8 x.ow, .int .u8 x.sl, .int .u8 x.bu, .int .i64 x.lf, .int .i64 x.nu, .int .i64 x.de] 75))
  have k1 := hK.alloc (.cells #[.int .u64 x.se, .int .u8 x.ow, .int .u8 x.sl, .int .u8 x.bu, .int .i64 x.lf, .int .i64 x.nu, .int .i64 x.de] 75)
  have d0 := k1.cell 0
  simp at d0
  have hl := k1.lt
  clear k1 hK
  go_enter Try.func62, Try.ntmps62
  go_wp2_with fail
  go_ret
  exact ⟨rfl, B0.out⟩
def IdxAt (w : World) (l : List Of) (s : Int) (i : Value) (wr : World) : Prop :=
  ∃ k : Nat, k ≤ l.length ∧ i = .int .i64 k ∧ (∀ x ∈ l.take k, (x.se == s) = false) ∧ Below w.heap.size w wr
set_option maxHeartbeats 4000000 in
theorem pidx_any {w : World} {base c : Nat} {l : List Of} {s : Int} {v : Value} (h : w.ownsRow base 75 7 v l.length (ofCells l)) (hK : Blk w c #[.int .u64 s] 23) :
    Calls Try.prog 61 #[v, .func (.func 62) #[] #[.pointer (some ⟨c, 0, none⟩)]] w fun e w' => e = .returned (idxV l s) ∧ Below w.heap.size w w' := by
  obtain ⟨ao, cap, rfl, hc1, hc2, hc3, hc4⟩ := owns_open h
  have HC := Lib.hid hc4
  have KC := Lib.hid hK
  unfold maxLen at hc2
  clear hc3 hc4 h hK
  go_enter Try.func61, Try.ntmps61
  go_wp2_with fail
  go_loopw [5, 8] (fun _ i wr => IdxAt w l s i wr) (fun _ i _ => l.length - (intOf i).toNat)
  case atStart => exact ⟨0, Nat.zero_le _, rfl, by simp, Below.refl _ _⟩
  case round =>
    obtain ⟨k, hk, rfl, hn, hb⟩ := hrel
    by_cases hkl : k < l.length
    · obtain ⟨b, rfl, hb1, hb2, hcell, _⟩ := HC.out (by omega)
      obtain ⟨e0, e1, e2, e3, e4, e5, e6⟩ := of_cells (w := wr) (fun j hj => by rw [hb.cell (p := ⟨b, j, none⟩) hb2]; exact hcell j hj) hkl
      have FA := Lib.hid (fun hx => posO_at (s := s) hkl hn hx)
      have TN := Lib.hid (fun hx => take_all_next (q := fun x => (x.se == s) = false) hkl hn hx)
      have C1 := Lib.hid (stand1_any l[k] (KC.out.below hb KC.out.lt))
      have HB := Lib.hid hb
      clear hcell hn hb
      generalize l[k] = x at *
      by_cases hx : (x.se == s) = true
      · have E := Lib.hid (FA.out hx)
        rw [hx] at C1
        clear FA TN hx
        go_wp2_with fail
        refine C1.out.mono ?_
        rintro e w2 ⟨rfl, b2⟩
        have HB2 := Lib.hid (HB.out.trans (b2.mono HB.out.size))
        clear b2
        go_wp2_with fail
        go_ret
        refine ⟨?_, HB2.out⟩
        unfold idxV
        rw [E.out, if_pos hkl]
        rfl
      · have hx : (x.se == s) = false := by simpa using hx
        have E := Lib.hid (TN.out hx)
        rw [hx] at C1
        clear FA TN hx
        go_wp2_with fail
        refine C1.out.mono ?_
        rintro e w2 ⟨rfl, b2⟩
        have HB2 := Lib.hid (HB.out.trans (b2.mono HB.out.size))
        clear b2
        go_wp2_with fail
        go_roundw
        case rel => exact ⟨k + 1, by omega, by go_num, E.out, HB2.out⟩
        case measure => simp [intOf]; omega
    · have E : Hid (posO l s = l.length) := Lib.hid (posO_none (by have := hn; rwa [List.take_of_length_le (by omega)] at this))
      have HB := Lib.hid hb
      clear hn hb
      go_wp2_with fail
      go_ret
      refine ⟨?_, HB.out⟩
      unfold idxV
      rw [E.out, if_neg (by omega)]
      rfl
theorem pstand_void {w : World} {pv : Value} {s : Int} (hm : ∀ w', Below w.heap.size w w' → Calls Try.prog 39 #[pv] w' fun e w'' => e = .returned (.bool false) ∧ w' = w'') :
    Calls Try.prog 41 #[pv, .int .u64 s] w fun e w' => e = .returned (.tuple #[.int .i64 0, .int .i64 2]) ∧ Below w.heap.size w w' := by
  have B0 := Lib.hid ((Below.refl w.heap.size w).alloc (Nat.le_refl _) (.cells #[.int .u64 s] 23))
  have C := Lib.hid (hm _ B0.out)
  clear hm
  go_enter Try.func41, Try.ntmps41
  go_wp2_with fail
  refine C.out.mono ?_
  rintro e w1 ⟨rfl, rfl⟩
  go_wp2_with fail
  refine bodyPost_ret (v := .tuple #[.int .i64 0, .int .i64 2]) (by simp [results, Try.results41, go_sem]) rfl ?_
  exact ⟨rfl, B0.out⟩
set_option maxHeartbeats 2000000 in
theorem pstand_any {w : World} {base g : Nat} {l : List Of} {N : Int} {vl : Value} (h : PB w base g l N vl) (h1 : 1 ≤ N) (s : Int) :
    Calls Try.prog 41 #[.pointer (some ⟨g, 0, none⟩), .int .u64 s] w fun e w' => e = .returned (standV l s) ∧ Below w.heap.size w w' := by
  have bw := (Below.refl w.heap.size w).alloc (Nat.le_refl _) (.cells #[.int .u64 s] 23)
  have B0 := Lib.hid bw
  have h2 := h.below bw
  have C := Lib.hid (pmade_any h2.blk h1)
  have C2 := Lib.hid (pidx_any h2.row (Blk.new w #[.int .u64 s] 23))
  have hl := h2.blk.lt
  have d0 := h2.blk.cell 0
  simp at d0
  obtain ⟨ao, cap, rfl, _⟩ := owns_open h2.row
  clear bw h h2 h1
  by_cases hp : posO l s < l.length
  · rw [show idxV l s = .int .i64 (posO l s : Nat) by unfold idxV; rw [if_pos hp]] at C2
    rw [show standV l s = .tuple #[.int .i64 (posO l s : Nat), .int .i64 0] by unfold standV; rw [if_pos hp]]
    generalize posO l s = p at *
    clear hp
    go_enter Try.func41, Try.ntmps41
    go_wp2_with fail
    refine C.out.mono ?_
    rintro e w1 ⟨rfl, rfl⟩
    go_wp2_with fail
    refine C2.out.mono ?_
    rintro e w1 ⟨rfl, b1⟩
    have B1 := Lib.hid (B0.out.trans (b1.mono B0.out.size))
    clear b1 C C2
    go_wp2_with fail
    refine bodyPost_ret (v := .tuple #[.int .i64 (p : Nat), .int .i64 0]) (by simp [results, Try.results41, go_sem]) rfl ?_
    exact ⟨rfl, B1.out⟩
  · rw [show idxV l s = .int .i64 (-1) by unfold idxV; rw [if_neg hp]] at C2
    rw [show standV l s = .tuple #[.int .i64 0, .int .i64 7] by unfold standV; rw [if_neg hp]]
    clear hp
    go_enter Try.func41, Try.ntmps41
    go_wp2_with fail
    refine C.out.mono ?_
    rintro e w1 ⟨rfl, rfl⟩
    go_wp2_with fail
    refine C2.out.mono ?_
    rintro e w1 ⟨rfl, b1⟩
    have B1 := Lib.hid (B0.out.trans (b1.mono B0.out.size))
    clear b1 C C2
    go_wp2_with fail
    refine bodyPost_ret (v := .tuple #[.int .i64 0, .int .i64 7]) (by simp [results, Try.results41, go_sem]) rfl ?_
    exact ⟨rfl, B1.out⟩

end Go.Proofs.Ytdbdeodcldogmaa
