/-
  The document's answers for layer 1: numbers as lists of bits. What each function answers, as whole numbers.
-/
import Derived.Test.YtdbdeodcldogmaaBitArr
import Derived.WalkSmall
namespace Go.Proofs.Ytdbdeodcldogmaa
open Go.RowKit
set_option linter.unusedSimpArgs false
set_option linter.unusedVariables false

theorem zero_arr (w : World) : (zeroValue 108).run Try.prog w = .ok (.agg (arr fun _ => false)) w := by
  have h : (zeroValue 108).run Try.prog = fun w => .ok (.agg (arr fun _ => false)) w := by kernel_rfl
  rw [h]
theorem info_arr (f : Nat → Bool) : (Try.prog.info? 108).map (·.size) = some (arr f).size := by rw [arr_size]; kernel_rfl

/-- Plus, at the head of its loop. -/
def PlusAt (x y : Nat) (w : World) (c i : Value) (wr : World) : Prop :=
  ∃ k : Nat, k ≤ 192 ∧ i = .int .i64 k ∧ c = .int .i64 (carryN x y k) ∧ Blk wr w.heap.size (arr x.testBit) 108 ∧ Blk wr (w.heap.size + 1) (arr y.testBit) 108 ∧
    Blk wr (w.heap.size + 1 + 1) (arr fun _ => false) 108 ∧ Blk wr (w.heap.size + 1 + 1 + 1) (arr fun j => decide (j < k) && (x + y).testBit j) 108 ∧ Below w.heap.size w wr
theorem plus_store (x y k : Nat) : (arr fun j => decide (j < k) && (x + y).testBit j).setIfInBounds k (.bool ((x + y).testBit k)) = arr fun j => decide (j < k + 1) && (x + y).testBit j := by
  rw [arr_set]
  refine arr_congr fun j hj => ?_
  by_cases h : j = k
  · subst h; simp
  · have : (j < k + 1) = (j < k) := by simp; omega
    simp [h, this]

set_option maxHeartbeats 2000000 in
set_option maxRecDepth 100000 in
theorem rplus_any (x y : Nat) (w : World) :
    Calls Try.prog 83 #[bitsV x, bitsV y] w fun e w' => e = .returned (bitsV (x + y)) ∧ Below w.heap.size w w' := by
  have hz := zero_arr
  rw [bitsV_eq, bitsV_eq]
  go_enter Try.func83, Try.ntmps83
  go_wp2
  go_loopw [6, 7] (PlusAt x y w) (fun _ i _ => 192 - (intOf i).toNat)
  case atStart =>
    have c0 : carryN x y 0 = 0 := by simp [carryN, Nat.mod_one]
    refine ⟨0, by omega, rfl, by rw [c0]; rfl, ?_, ?_, ?_, ?_, (((((Below.refl _ _).alloc (Nat.le_refl _) _).alloc (by simp) _).alloc (by simp; omega) _).alloc (by simp; omega) _)⟩
    · exact (((Blk.new _ _ _).alloc _).alloc _).alloc _
    · exact ((Blk.newAt _ _ _ (by simp)).alloc _).alloc _
    · exact (Blk.newAt _ _ _ (by simp)).alloc _
    · have e : (arr fun j => decide (j < 0) && (x + y).testBit j) = arr fun _ => false := arr_congr fun i _ => by simp
      rw [e]; exact Blk.newAt _ _ _ (by simp)
  case round =>
    obtain ⟨k, hk, rfl, rfl, k1, k2, k3, k4, hb⟩ := hrel
    by_cases hkl : k < 192
    · obtain ⟨c, hc, hcc, hbit, hcs⟩ := add_step x y k
      have hcell1 : wr.cell? ⟨w.heap.size, k, none⟩ = some (.bool (x.testBit k)) := by rw [k1.cell k]; exact arr_get _ k hkl
      have hcell2 : wr.cell? ⟨w.heap.size + 1, k, none⟩ = some (.bool (y.testBit k)) := by rw [k2.cell k]; exact arr_get _ k hkl
      have hcell4 : wr.cell? ⟨w.heap.size + 1 + 1 + 1, k, none⟩ = some (.bool false) := by rw [k4.cell k, arr_get _ k hkl]; simp
      have hf4 := k4.frozen k
      have HB := Lib.hid hbit; have HC := Lib.hid hcs
      rw [hcc]
      clear hbit hcs hcc
      have hs4 := Lib.hid (k4.set k (.bool ((x + y).testBit k)))
      rw [plus_store] at hs4
      have h01 : c = 0 ∨ c = 1 := by omega
      cases hx : x.testBit k <;> cases hy : y.testBit k
      all_goals
        rw [hx] at hcell1 HB HC
        rw [hy] at hcell2 HB HC
        clear hx hy
        rcases h01 with rfl | rfl
      all_goals
        go_wp2
        go_roundw
        case rel =>
          have e := HB.out
          have e2 := HC.out
          simp at e e2
          rw [e] at hs4
          exact ⟨k + 1, by omega, by go_num, by rw [e2]; rfl, k1.setOther (by simp; omega) _, k2.setOther (by simp) _, k3.setOther (by simp) _, hs4.out, hb.setCell (by simp; omega) _⟩
        case measure => simp [intOf]; omega
    · have e : (arr fun j => decide (j < k) && (x + y).testBit j) = arr (x + y).testBit := arr_congr fun j hj => by
        have : j < k := by omega
        simp [this]
      rw [e] at k4
      have hg2 := k3.lt
      clear e
      go_wp2_with (first
        | (refine wpList_load_row rfl 108 (.tmp 5) rfl (w.heap.size + 1 + 1 + 1) rfl 108 (arr (x + y).testBit) (0, 0) _ k4 Try.underlying108 rfl (info_arr _) ?_)
        | (refine wpList_store_row rfl 108 (.tmp 4) (.tmp 31) rfl (w.heap.size + 1 + 1) (arr (x + y).testBit) rfl rfl 108 _ k3 (info_arr _) (by simp only [arr_size]) (arr_one _) ?_))
      refine bodyPost_ret (v := bitsV (x + y)) (results_cell_row rfl _ _ (w.heap.size + 1 + 1) 108 (arr (x + y).testBit) (0, 0) _ rfl k3.row Try.underlying108 rfl (info_arr _)) rfl ⟨rfl, ?_⟩
      exact below_setRow hb (by omega) _

/-- Greater, at the head of its loop: above i all bits are the same. -/
def GreaterAt (x y : Nat) (i : Value) : Prop := (∃ k : Nat, k < 192 ∧ i = .int .i64 k ∧ x / 2 ^ (k + 1) = y / 2 ^ (k + 1)) ∨ (i = .int .i64 (-1) ∧ x = y)
theorem greater_next {x y : Nat} (k : Nat) (hk : k < 192) (h : x / 2 ^ k = y / 2 ^ k) : GreaterAt x y (.int .i64 ((k : Int) - 1)) := by
  rcases Nat.eq_zero_or_pos k with rfl | hp
  · right; simp at h; exact ⟨rfl, h⟩
  · left; refine ⟨k - 1, by omega, by congr 1; omega, ?_⟩
    rw [show k - 1 + 1 = k by omega]; exact h
set_option maxHeartbeats 2000000 in
set_option maxRecDepth 100000 in
theorem rgreater_any (x y : Nat) (w : World) (hx : x < 2 ^ 192) (hy : y < 2 ^ 192) :
    Calls Try.prog 69 #[bitsV x, bitsV y] w fun e w' => e = .returned (.bool (decide (y < x))) ∧ Below w.heap.size w w' := by
  have hx0 : x / 2 ^ (191 + 1) = y / 2 ^ (191 + 1) := by rw [Nat.div_eq_of_lt hx, Nat.div_eq_of_lt hy]
  clear hx hy
  have H0 := Lib.hid hx0
  clear hx0
  rw [bitsV_eq, bitsV_eq]
  go_enter Try.func69, Try.ntmps69
  go_wp2
  have k1 : Blk ((w.alloc (.cells (arr x.testBit) 108)).alloc (.cells (arr y.testBit) 108)) w.heap.size (arr x.testBit) 108 := (Blk.new _ _ _).alloc _
  have k2 : Blk ((w.alloc (.cells (arr x.testBit) 108)).alloc (.cells (arr y.testBit) 108)) (w.heap.size + 1) (arr y.testBit) 108 := Blk.newAt _ _ _ (by simp)
  have hb : Below w.heap.size w ((w.alloc (.cells (arr x.testBit) 108)).alloc (.cells (arr y.testBit) 108)) := ((Below.refl _ _).alloc (Nat.le_refl _) _).alloc (by simp) _
  generalize (w.alloc (.cells (arr x.testBit) 108)).alloc (.cells (arr y.testBit) 108) = W at *
  go_loopw [5] (fun i wr => GreaterAt x y i ∧ ∃ n, wr = W.drewN n) (fun i _ => (intOf i + 1).toNat)
  case atStart => exact ⟨.inl ⟨191, by omega, rfl, H0.out⟩, 0, rfl⟩
  case round =>
    obtain ⟨hat, n, rfl⟩ := hrel
    rcases hat with ⟨k, hk, rfl, heq⟩ | ⟨rfl, rfl⟩
    · have hst := greater_step x y k heq
      have h1 := Lib.hid hst.1; have h2 := Lib.hid hst.2
      clear hst heq
      have hcell1 : W.cell? ⟨w.heap.size, k, none⟩ = some (.bool (x.testBit k)) := by rw [k1.cell k]; exact arr_get _ k hk
      have hcell2 : W.cell? ⟨w.heap.size + 1, k, none⟩ = some (.bool (y.testBit k)) := by rw [k2.cell k]; exact arr_get _ k hk
      have hki : (k : Int) < 192 := by omega
      generalize hu : x.testBit k = u at hcell1
      generalize hv : y.testBit k = v at hcell2
      have HU := Lib.hid hu; have HV := Lib.hid hv
      clear hu hv
      cases u <;> cases v
      all_goals
        go_wp2
        go_quiet (fail)
        go_wp2
      · go_roundw
        case rel => exact ⟨greater_next k hk (h1.out (by rw [HU.out, HV.out])), _, rfl⟩
        case measure => simp [intOf] <;> omega
      · go_ret
        exact ⟨by rw [h2.out (by rw [HU.out, HV.out]; simp), HU.out]; rfl, below_drewN hb _⟩
      · go_ret
        exact ⟨by rw [h2.out (by rw [HU.out, HV.out]; simp), HU.out]; rfl, below_drewN hb _⟩
      · go_roundw
        case rel => exact ⟨greater_next k hk (h1.out (by rw [HU.out, HV.out])), _, rfl⟩
        case measure => simp [intOf] <;> omega
    · go_wp2
      go_ret
      exact ⟨by simp, below_drewN hb _⟩

theorem upto_store (z k : Nat) : (arr fun j => decide (j < k) && z.testBit j).setIfInBounds k (.bool (z.testBit k)) = arr fun j => decide (j < k + 1) && z.testBit j := by
  rw [arr_set]
  refine arr_congr fun j hj => ?_
  by_cases h : j = k
  · subst h; simp
  · have : (j < k + 1) = (j < k) := by simp; omega
    simp [h, this]
theorem upto_all (z k : Nat) (h : 192 ≤ k) : (arr fun j => decide (j < k) && z.testBit j) = arr z.testBit := arr_congr fun j hj => by
  have : j < k := by omega
  simp [this]

/-- Shifted, at the head of its loop. -/
def ShiftAt (x by' : Nat) (w : World) (i : Value) (wr : World) : Prop :=
  ∃ k : Nat, by' ≤ k ∧ k ≤ 192 ∧ i = .int .i64 k ∧ Blk wr w.heap.size (arr x.testBit) 108 ∧
    Blk wr (w.heap.size + 1) (arr fun _ => false) 108 ∧ Blk wr (w.heap.size + 1 + 1) (arr fun j => decide (j < k) && (x * 2 ^ by').testBit j) 108 ∧ Below w.heap.size w wr
theorem shift_bit (x n k : Nat) (h : n ≤ k) : (x * 2 ^ n).testBit k = x.testBit (k - n) := by
  rw [Nat.mul_comm, Nat.testBit_two_pow_mul]; simp [h]

set_option maxHeartbeats 4000000 in
set_option maxRecDepth 100000 in
theorem rshift_any (x n : Nat) (w : World) (hn : n < 192) :
    Calls Try.prog 84 #[bitsV x, .int .i64 n] w fun e w' => e = .returned (bitsV (x * 2 ^ n)) ∧ Below w.heap.size w w' := by
  have hz := zero_arr
  rw [bitsV_eq, bitsV_eq]
  go_enter Try.func84, Try.ntmps84
  go_wp2
  go_loopw [6] (ShiftAt x n w) (fun i _ => 192 - (intOf i).toNat)
  case atStart =>
    refine ⟨n, Nat.le_refl _, by omega, rfl, ?_, ?_, ?_, ((((Below.refl _ _).alloc (Nat.le_refl _) _).alloc (by simp) _).alloc (by simp; omega) _)⟩
    · exact ((Blk.new _ _ _).alloc _).alloc _
    · exact (Blk.newAt _ _ _ (by simp)).alloc _
    · have e : (arr fun j => decide (j < n) && (x * 2 ^ n).testBit j) = arr fun _ => false := arr_congr fun i _ => by
        rw [Nat.mul_comm, Nat.testBit_two_pow_mul]
        by_cases h : i < n
        · simp [h]; omega
        · simp [h]
      rw [e]; exact Blk.newAt _ _ _ (by simp)
  case round =>
    obtain ⟨k, hnk, hk, rfl, k1, k2, k3, hb⟩ := hrel
    by_cases hkl : k < 192
    · have hcell1 : wr.cell? ⟨w.heap.size, k - n, none⟩ = some (.bool (x.testBit (k - n))) := by rw [k1.cell (k - n)]; exact arr_get _ (k - n) (by omega)
      have hidx : ((k : Int) - (n : Int)).toNat = k - n := by omega
      have hcell1' : wr.cell? ⟨w.heap.size, ((k : Int) - (n : Int)).toNat, none⟩ = some (.bool (x.testBit (k - n))) := by rw [hidx]; exact hcell1
      have hcell4 : wr.cell? ⟨w.heap.size + 1 + 1, k, none⟩ = some (.bool false) := by rw [k3.cell k, arr_get _ k hkl]; simp
      have hf4 := k3.frozen k
      have hs4 := Lib.hid (k3.set k (.bool ((x * 2 ^ n).testBit k)))
      rw [upto_store, shift_bit x n k hnk] at hs4
      clear hidx
      generalize x.testBit (k - n) = b at hcell1 hcell1' hs4
      go_wp2
      go_roundw
      case rel =>
        exact ⟨k + 1, by omega, by omega, by go_num, k1.setOther (by simp; omega) _, k2.setOther (by simp) _, hs4.out, hb.setCell (by simp; omega) _⟩
      case measure => simp [intOf] <;> omega
    · rw [upto_all (x * 2 ^ n) k (by omega)] at k3
      have hg2 := k2.lt
      go_wp2_with (first
        | (refine wpList_load_row rfl 108 (.tmp 5) rfl (w.heap.size + 1 + 1) rfl 108 (arr (x * 2 ^ n).testBit) (0, 0) _ k3 Try.underlying108 rfl (info_arr _) ?_)
        | (refine wpList_store_row rfl 108 (.tmp 4) (.tmp 19) rfl (w.heap.size + 1) (arr (x * 2 ^ n).testBit) rfl rfl 108 _ k2 (info_arr _) (by simp only [arr_size]) (arr_one _) ?_))
      refine bodyPost_ret (v := bitsV (x * 2 ^ n)) (results_cell_row rfl _ _ (w.heap.size + 1) 108 (arr (x * 2 ^ n).testBit) (0, 0) _ rfl k2.row Try.underlying108 rfl (info_arr _)) rfl ⟨rfl, ?_⟩
      exact below_setRow hb (by omega) _

end Go.Proofs.Ytdbdeodcldogmaa
