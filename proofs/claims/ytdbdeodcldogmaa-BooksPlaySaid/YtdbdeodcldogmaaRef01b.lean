/-
  The document's answers for layer 1, continued: whole numbers with a sign.
-/
import Derived.Test.YtdbdeodcldogmaaRef01
import Derived.Deep.MidRow
import Derived.Laws.Bits64b
namespace Go.Proofs.Ytdbdeodcldogmaa
open Go.RowKit
set_option linter.unusedSimpArgs false
set_option linter.unusedVariables false

/-- A sign and 192 bits, as cells. -/
def whole (neg : Bool) (f : Nat → Bool) : Array Value := #[Value.bool neg] ++ arr f
theorem whole_size (neg : Bool) (f : Nat → Bool) : (whole neg f).size = 193 := by simp [whole, arr_size]
theorem whole_get0 (neg : Bool) (f : Nat → Bool) : (whole neg f)[0]? = some (.bool neg) := by
  unfold whole
  rw [Array.getElem?_append_left (by simp)]; rfl
theorem whole_get (neg : Bool) (f : Nat → Bool) (i : Nat) (h : i < 192) : (whole neg f)[1 + i]? = some (.bool (f i)) := by
  unfold whole
  rw [Array.getElem?_append_right (by simp), show 1 + i - (#[Value.bool neg] : Array Value).size = i by simp, arr_get f i h]
theorem whole_set (neg : Bool) (f : Nat → Bool) (i : Nat) (b : Bool) : (whole neg f).setIfInBounds (1 + i) (.bool b) = whole neg (fun j => if j = i then b else f j) := by
  unfold whole
  rw [Array.setIfInBounds_append_right (by simp), show 1 + i - (#[Value.bool neg] : Array Value).size = i by simp, arr_set]
theorem whole_one (neg : Bool) (f : Nat → Bool) : (whole neg f).all (·.oneCell') = true := by
  unfold whole
  rw [Array.all_append, arr_one]
  simp [Value.oneCell']
theorem whole_congr {neg : Bool} {f g : Nat → Bool} (h : ∀ i, i < 192 → f i = g i) : whole neg f = whole neg g := by
  unfold whole; rw [arr_congr h]
theorem whole_ne (neg : Bool) (f : Nat → Bool) : (whole neg f = #[]) = False := by
  simp only [eq_iff_iff, iff_false]
  intro h
  have := congrArg Array.size h
  rw [whole_size] at this
  simp at this
theorem whole_set0 (neg b : Bool) (f : Nat → Bool) : (whole neg f).setIfInBounds 0 (.bool b) = whole b f := by
  unfold whole
  rw [Array.setIfInBounds_append_left (by simp)]
  rfl
/-- Cells set one by one, in a row. -/
def setList (cs : Array Value) : Nat → List Value → Array Value
  | _, [] => cs
  | o, v :: r => setList (cs.setIfInBounds o v) (o + 1) r
theorem setList_size : ∀ (vs : List Value) (cs : Array Value) (o : Nat), (setList cs o vs).size = cs.size
  | [], _, _ => rfl
  | v :: r, cs, o => by rw [setList, setList_size r]; simp
theorem setList_get : ∀ (vs : List Value) (cs : Array Value) (o j : Nat), o + vs.length ≤ cs.size →
    (setList cs o vs)[j]? = if o ≤ j ∧ j < o + vs.length then vs[j - o]? else cs[j]?
  | [], cs, o, j, _ => by rw [setList, if_neg (by simp)]
  | v :: r, cs, o, j, h => by
    simp only [List.length_cons] at h
    rw [setList, setList_get r _ _ _ (by simp; omega)]
    by_cases h1 : j = o
    · subst h1
      rw [if_neg (by omega), if_pos (by simp), Array.getElem?_setIfInBounds_self_of_lt (by omega)]
      simp
    · rw [Array.getElem?_setIfInBounds_ne (Ne.symm h1)]
      by_cases h2 : o + 1 ≤ j ∧ j < o + 1 + r.length
      · rw [if_pos h2, if_pos (by simp; omega), show j - o = (j - (o + 1)) + 1 by omega, List.getElem?_cons_succ]
      · rw [if_neg h2, if_neg (by simp; omega)]
theorem Blk.setCells {g : Nat} {t : TypeId} : ∀ (vs : List Value) {w : World} {cs : Array Value} (o : Nat), Blk w g cs t → Blk (w.setCells g o vs) g (setList cs o vs) t
  | [], _, _, _, h => h
  | v :: r, _, _, o, h => by
    rw [World.setCells, setList]
    exact Blk.setCells r (o + 1) (h.set o v)
theorem Blk.setCellsOther {g k : Nat} {t : TypeId} {cs : Array Value} (hk : g ≠ k) : ∀ (vs : List Value) {w : World} (o : Nat), Blk w g cs t → Blk (w.setCells k o vs) g cs t
  | [], _, _, h => h
  | v :: r, _, o, h => by
    rw [World.setCells]
    exact Blk.setCellsOther hk r (o + 1) (h.setOther hk v)
theorem below_setCells {B g : Nat} (hg : B ≤ g) : ∀ (vs : List Value) {w0 w : World} (o : Nat), Below B w0 w → Below B w0 (w.setCells g o vs)
  | [], _, _, _, h => h
  | v :: r, _, _, o, h => by
    rw [World.setCells]
    exact below_setCells hg r (o + 1) (h.setCell hg v)
theorem whole_setList (neg : Bool) (f h : Nat → Bool) : setList (whole neg f) 1 (arr h).toList = whole neg h := by
  apply Array.ext_getElem?
  intro j
  rw [setList_get _ _ _ _ (by rw [Array.length_toList, arr_size, whole_size]; omega), Array.length_toList, arr_size]
  by_cases hj : 1 ≤ j ∧ j < 1 + 192
  · rw [if_pos hj, Array.getElem?_toList, arr_get _ _ (by omega)]
    have := whole_get neg h (j - 1) (by omega)
    rw [show 1 + (j - 1) = j by omega] at this
    rw [this]
  · rw [if_neg hj]
    by_cases h0 : j = 0
    · subst h0; rw [whole_get0, whole_get0]
    · rw [Array.getElem?_eq_none (by rw [whole_size]; omega), Array.getElem?_eq_none (by rw [whole_size]; omega)]
theorem whole_there {w : World} {g : Nat} {neg : Bool} {f : Nat → Bool} {t : TypeId} (h : Blk w g (whole neg f) t) : w.there g 1 192 := fun j hj =>
  ⟨by rw [h.cell (1 + j), whole_get _ _ j hj]; rfl, h.frozen (1 + j)⟩

attribute [irreducible] whole

/-- A whole number: whether it is below 0, and its size. -/
def wholeV (neg : Bool) (x : Nat) : Value := .agg (whole neg x.testBit)

theorem not_arith (a : Nat) (ha : a < 18446744073709551616) : ((18446744073709551616 - 1 - a : Nat) : Int) % 18446744073709551616 = 18446744073709551615 - (a : Int) := by omega
theorem u64_not (a : Nat) (ha : a < 18446744073709551616) : bits .xor .u64 IntKind.u64.max (a : Int) = 18446744073709551615 - (a : Int) := by
  show IntKind.u64.wrap ((BitVec.ofInt 64 IntKind.u64.max ^^^ BitVec.ofInt 64 (a : Int)).toNat : Int) = _
  have h1 : BitVec.ofInt 64 IntKind.u64.max = BitVec.allOnes 64 := by decide
  rw [h1, BitVec.allOnes_xor, BitVec.toNat_not, ofInt_u64 a ha, wrap_u64]
  exact not_arith a ha
theorem abs_neg_u64 (a : Int) (h : In64 a) (hn : a < 0) : IntKind.u64.wrap (bits .xor .u64 IntKind.u64.max (IntKind.u64.wrap a) + 1) = (a.natAbs : Int) := by
  obtain ⟨n, rfl⟩ : ∃ n : Nat, a = -(n : Int) := ⟨a.natAbs, by omega⟩
  have hn2 : 0 < n ∧ n ≤ 9223372036854775808 := by unfold In64 at h; omega
  have e : IntKind.u64.wrap (-(n : Int)) = ((18446744073709551616 - n : Nat) : Int) := by rw [wrap_u64]; omega
  rw [e, u64_not _ (by omega), wrap_u64, Int.natAbs_neg, Int.natAbs_natCast]
  omega
set_option maxRecDepth 100000 in
theorem abs_pos_u64 (a : Int) (h : In64 a) (hn : ¬ a < 0) : IntKind.u64.wrap a = (a.natAbs : Int) := by
  unfold In64 at h
  rw [wrap_u64]; omega
/-- The test of a bit, as Go writes it. -/
theorem bit_test (U k : Nat) (hU : U < 18446744073709551616) : (bits .and .u64 ((U : Int) / 2 ^ k) 1 == 1) = U.testBit k := by
  have e : ((U : Int) / 2 ^ k) = ((U / 2 ^ k : Nat) : Int) := by simp
  have hl : U / 2 ^ k ≤ U := Nat.div_le_self _ _
  rw [e]
  have h := bits_and_u64_nat (U / 2 ^ k) 1 (by omega) (by omega)
  rw [Nat.and_one_is_mod] at h
  rw [show ((1 : Int)) = ((1 : Nat) : Int) from rfl, h, Nat.testBit_eq_decide_div_mod_eq]
  rw [Bool.eq_iff_iff]
  simp
  omega

/-- Of, at the head of its loop. -/
def OfAt (neg : Bool) (U : Nat) (w : World) (i : Value) (wr : World) : Prop :=
  ∃ k : Nat, k ≤ 64 ∧ i = .int .i64 k ∧ Blk wr w.heap.size (whole false fun _ => false) 110 ∧ Blk wr (w.heap.size + 1) (whole neg fun j => decide (j < k) && U.testBit j) 110 ∧ Below w.heap.size w wr
theorem of_store (neg : Bool) (U k : Nat) : (whole neg fun j => decide (j < k) && U.testBit j).setIfInBounds (1 + k) (.bool (U.testBit k)) = whole neg fun j => decide (j < k + 1) && U.testBit j := by
  rw [whole_set]
  refine whole_congr fun j hj => ?_
  by_cases h : j = k
  · subst h; simp
  · have : (j < k + 1) = (j < k) := by simp; omega
    simp [h, this]
theorem of_all (neg : Bool) (U : Nat) (hU : U < 18446744073709551616) : (whole neg fun j => decide (j < 64) && U.testBit j) = whole neg U.testBit := by
  refine whole_congr fun j hj => ?_
  by_cases h : j < 64
  · simp [h]
  · rw [Nat.testBit_lt_two_pow (Nat.lt_of_lt_of_le hU (Nat.pow_le_pow_right (n := 2) (by omega) (show 64 ≤ j by omega)))]
    simp
theorem zero_whole (w : World) : (zeroValue 110).run Try.prog w = .ok (.agg (whole false fun _ => false)) w := by
  have h : (zeroValue 110).run Try.prog = fun w => .ok (.agg (whole false fun _ => false)) w := by kernel_rfl
  rw [h]
theorem info_whole (neg : Bool) (f : Nat → Bool) : (Try.prog.info? 110).map (·.size) = some (whole neg f).size := by rw [whole_size]; kernel_rfl
theorem build_whole (b : Bool) (w : World) : (Instr.build 110 #[(0, .bool b)]).run Try.prog w = .ok (.agg (whole b fun _ => false)) w := by
  have h : ∀ b, (Instr.build 110 #[(0, .bool b)]).run Try.prog = fun w => .ok (.agg (whole b fun _ => false)) w := by
    intro b; cases b <;> kernel_rfl
  rw [h]

set_option maxHeartbeats 2000000 in
set_option maxRecDepth 100000 in
theorem of_any (a : Int) (w : World) (h : In64 a) :
    Calls Try.prog 68 #[.int .i64 a] w fun e w' => e = .returned (wholeV (decide (a < 0)) a.natAbs) ∧ Below w.heap.size w w' := by
  have hz := zero_whole
  obtain ⟨h1, h2⟩ := h
  have hne := whole_ne; have hs0 := whole_set0
  obtain ⟨U, hUe⟩ : ∃ U, a.natAbs = U := ⟨_, rfl⟩
  have hU : U < 18446744073709551616 := by omega
  have hUa := Lib.hid hUe
  clear hUe
  by_cases hneg : a < 0
  · have hk2 : Blk ((w.alloc (.cells (whole false fun _ => false) 110)).alloc (.cells (whole false fun _ => false) 110)) (w.heap.size + 1) (whole false fun _ => false) 110 := Blk.newAt _ _ _ (by simp)
    have r1 := abs_neg_u64 a ⟨h1, h2⟩ hneg
    have hd : decide (a < 0) = true := by simp; omega
    rw [hUa.out] at r1
    clear hd
    go_enter Try.func68, Try.ntmps68
    go_wp2_with ((with_reducible refine wpList_store_row ?_ 110 (.tmp 3) (.tmp 8) ?_ (w.heap.size + 1) (whole true fun _ => false) ?_ ?_ 110 _ hk2.out (info_whole _ _) (by simp only [whole_size]) (whole_one _ _) ?_); exact rfl; exact rfl; exact rfl; exact rfl)
    go_loopw [5] (OfAt true U w) (fun i _ => 64 - (intOf i).toNat)
    case atStart =>
      refine ⟨0, by omega, rfl, ((Blk.new _ _ _).alloc _).rowOther (by simp), ?_, below_setRow (((Below.refl _ _).alloc (Nat.le_refl _) _).alloc (by simp) _) (by omega) _⟩
      have e : (whole true fun j => decide (j < 0) && U.testBit j) = whole true fun _ => false := whole_congr fun i _ => by simp
      rw [e]; exact hk2.row
    case round =>
      obtain ⟨k, hk, rfl, k1, k2, hb⟩ := hrel
      by_cases hkl : (k : Int) < 64
      · have hcell : wr.cell? ⟨w.heap.size + 1, 1 + k, none⟩ = some (.bool false) := by rw [k2.cell (1 + k), whole_get _ _ k (by omega)]; simp
        have hf := k2.frozen (1 + k)
        have hs4 := Lib.hid (k2.set (1 + k) (.bool (U.testBit k)))
        rw [of_store] at hs4
        have hbt := bit_test U k hU
        go_wp2
        go_roundw
        case rel => exact ⟨k + 1, by omega, by go_num, k1.setOther (by simp) _, hs4.out, hb.setCell (by simp) _⟩
        case measure => simp [intOf] <;> omega
      · obtain rfl : k = 64 := by omega
        rw [of_all true U hU] at k2
        have hg2 := k1.lt
        go_wp2_with (first
          | ((with_reducible refine wpList_load_row ?_ 110 (.tmp 3) ?_ (w.heap.size + 1) ?_ 110 (whole true U.testBit) (0, 0) _ k2.out Try.underlying110 ?_ (info_whole _ _) ?_); exact rfl; exact rfl; exact rfl; exact rfl)
          | ((with_reducible refine wpList_store_row ?_ 110 (.tmp 2) (.tmp 28) ?_ w.heap.size (whole true U.testBit) ?_ ?_ 110 _ k1.out (info_whole _ _) (by simp only [whole_size]) (whole_one _ _) ?_); exact rfl; exact rfl; exact rfl; exact rfl))
        refine bodyPost_ret (v := wholeV true U) (results_cell_row rfl _ _ w.heap.size 110 (whole true U.testBit) (0, 0) _ rfl k1.row Try.underlying110 rfl (info_whole _ _)) rfl ⟨?_, below_setRow hb (Nat.le_refl _) _⟩
        rw [hUa.out]
  · have r1 := abs_pos_u64 a ⟨h1, h2⟩ hneg
    have hd : decide (a < 0) = false := by simp; omega
    rw [hUa.out] at r1
    have hk2 : Blk ((w.alloc (.cells (whole false fun _ => false) 110)).alloc (.cells (whole false fun _ => false) 110)) (w.heap.size + 1) (whole false fun _ => false) 110 := Blk.newAt _ _ _ (by simp)
    clear hd
    go_enter Try.func68, Try.ntmps68
    go_wp2_with ((with_reducible refine wpList_store_row ?_ 110 (.tmp 3) (.tmp 8) ?_ (w.heap.size + 1) (whole false fun _ => false) ?_ ?_ 110 _ hk2.out (info_whole _ _) (by simp only [whole_size]) (whole_one _ _) ?_); exact rfl; exact rfl; exact rfl; exact rfl)
    go_loopw [5] (OfAt false U w) (fun i _ => 64 - (intOf i).toNat)
    case atStart =>
      refine ⟨0, by omega, rfl, ((Blk.new _ _ _).alloc _).rowOther (by simp), ?_, below_setRow (((Below.refl _ _).alloc (Nat.le_refl _) _).alloc (by simp) _) (by omega) _⟩
      have e : (whole false fun j => decide (j < 0) && U.testBit j) = whole false fun _ => false := whole_congr fun i _ => by simp
      rw [e]; exact hk2.row
    case round =>
      obtain ⟨k, hk, rfl, k1, k2, hb⟩ := hrel
      by_cases hkl : (k : Int) < 64
      · have hcell : wr.cell? ⟨w.heap.size + 1, 1 + k, none⟩ = some (.bool false) := by rw [k2.cell (1 + k), whole_get _ _ k (by omega)]; simp
        have hf := k2.frozen (1 + k)
        have hs4 := Lib.hid (k2.set (1 + k) (.bool (U.testBit k)))
        rw [of_store] at hs4
        have hbt := bit_test U k hU
        go_wp2
        go_roundw
        case rel => exact ⟨k + 1, by omega, by go_num, k1.setOther (by simp) _, hs4.out, hb.setCell (by simp) _⟩
        case measure => simp [intOf] <;> omega
      · obtain rfl : k = 64 := by omega
        rw [of_all false U hU] at k2
        have hg2 := k1.lt
        go_wp2_with (first
          | ((with_reducible refine wpList_load_row ?_ 110 (.tmp 3) ?_ (w.heap.size + 1) ?_ 110 (whole false U.testBit) (0, 0) _ k2.out Try.underlying110 ?_ (info_whole _ _) ?_); exact rfl; exact rfl; exact rfl; exact rfl)
          | ((with_reducible refine wpList_store_row ?_ 110 (.tmp 2) (.tmp 28) ?_ w.heap.size (whole false U.testBit) ?_ ?_ 110 _ k1.out (info_whole _ _) (by simp only [whole_size]) (whole_one _ _) ?_); exact rfl; exact rfl; exact rfl; exact rfl))
        refine bodyPost_ret (v := wholeV false U) (results_cell_row rfl _ _ w.heap.size 110 (whole false U.testBit) (0, 0) _ rfl k1.row Try.underlying110 rfl (info_whole _ _)) rfl ⟨?_, below_setRow hb (Nat.le_refl _) _⟩
        rw [hUa.out, decide_eq_false (p := a < 0) (by omega)]

end Go.Proofs.Ytdbdeodcldogmaa
