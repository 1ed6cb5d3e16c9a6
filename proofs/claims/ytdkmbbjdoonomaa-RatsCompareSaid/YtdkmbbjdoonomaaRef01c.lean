/-
  The document's answers for layer 1, continued: a whole number as a number of 64 bits, sums and products.
-/
import Derived.Test.YtdkmbbjdoonomaaRef01b
import Derived.Test.YtdkmbbjdoonomaaLives01
import Derived.Test.YtdkmbbjdoonomaaRegion
namespace Go.Proofs.Ytdkmbbjdoonomaa
open Go.RowKit
set_option linter.unusedSimpArgs false
set_option linter.unusedVariables false

theorem half_bit (x k : Nat) : x / 2 ^ k = 2 * (x / 2 ^ (k + 1)) + (if x.testBit k then 1 else 0) := by
  rw [← bit_lt, Nat.pow_succ, ← Nat.div_div_eq_div_mul]; omega
theorem two_pow_64_le {k : Nat} (h : 64 ≤ k) : (18446744073709551616 : Nat) ≤ 2 ^ k := by
  have := Nat.pow_le_pow_right (n := 2) (by omega) h
  exact this

/-- Num, at the head of its loop, of a number below 2^64. -/
def NumAt (x : Nat) (u i : Value) : Prop := (∃ k : Nat, k < 192 ∧ i = .int .i64 k ∧ u = .int .u64 ((x / 2 ^ (k + 1) : Nat) : Int)) ∨ (i = .int .i64 (-1) ∧ u = .int .u64 x)
theorem num_next {x : Nat} (k : Nat) (hk : k < 192) {u : Int} (hu : u = ((x / 2 ^ k : Nat) : Int)) : NumAt x (.int .u64 u) (.int .i64 ((k : Int) - 1)) := by
  rcases Nat.eq_zero_or_pos k with rfl | hp
  · right; simp at hu; exact ⟨rfl, by rw [hu]⟩
  · left; refine ⟨k - 1, by omega, by rw [show (k : Int) - 1 = ((k - 1 : Nat) : Int) by omega], ?_⟩
    rw [show k - 1 + 1 = k by omega, hu]
theorem neg_back (x : Nat) (h : x ≤ 9223372036854775808) : wrap64 (IntKind.u64.wrap (bits .xor .u64 IntKind.u64.max (x : Int) + 1)) = -(x : Int) := by
  rw [u64_not _ (by omega), wrap_u64]
  obtain ⟨h1, h2⟩ := wrap64_def ((18446744073709551615 - (x : Int) + 1) % 18446744073709551616)
  unfold In64 at h1
  generalize wrap64 ((18446744073709551615 - (x : Int) + 1) % 18446744073709551616) = y at *
  omega
set_option maxHeartbeats 4000000 in
set_option maxRecDepth 100000 in
theorem num_small (neg : Bool) (x : Nat) (w : World) (hx : x < 18446744073709551616) :
    Calls Try.prog 47 #[wholeV neg x] w fun e w' => e = .returned (ans (if neg then -(x : Int) else x)) ∧ Below w.heap.size w w' := by
  have hhi : ∀ k, 64 ≤ k → x.testBit k = false := fun k hk => Nat.testBit_lt_two_pow (Nat.lt_of_lt_of_le hx (two_pow_64_le hk))
  have Hhi := Lib.hid hhi
  clear hhi
  have hx' : (x : Int) < 18446744073709551616 := by omega
  have HX := Lib.hid hx
  clear hx
  unfold wholeV
  go_enter Try.func47, Try.ntmps47
  go_wp2
  have k1 := Blk.new w (whole neg x.testBit) 49
  have hb : Below w.heap.size w (w.alloc (.cells (whole neg x.testBit) 49)) := (Below.refl _ _).alloc (Nat.le_refl _) _
  generalize w.alloc (.cells (whole neg x.testBit) 49) = W at *
  go_loop [4, 5] (NumAt x) (fun _ i => (intOf i + 1).toNat)
  case atStart => exact .inl ⟨191, by omega, rfl, by rw [Nat.div_eq_of_lt (Nat.lt_of_lt_of_le HX.out (two_pow_64_le (by omega)))]; rfl⟩
  case round =>
    rcases hrel with ⟨k, hk, rfl, rfl⟩ | ⟨rfl, rfl⟩
    · have hcell : W.cell? ⟨w.heap.size, 1 + k, none⟩ = some (.bool (x.testBit k)) := by rw [k1.cell (1 + k)]; exact whole_get _ _ k hk
      have hki : (k : Int) < 192 := by omega
      have hh := half_bit x k
      have hdl : x / 2 ^ k ≤ x := Nat.div_le_self _ _
      have hl2 : 2 * ((x / 2 ^ (k + 1) : Nat) : Int) < 18446744073709551616 := by omega
      have hl3 : (0 : Int) ≤ ((x / 2 ^ (k + 1) : Nat) : Int) := by omega
      have hbit := Hhi.out k
      have Hh := Lib.hid hh
      clear hh hdl
      generalize x / 2 ^ (k + 1) = v at *
      cases hb2 : x.testBit k
      · rw [hb2] at hcell Hh
        clear hbit hb2
        go_wp2
        go_round
        case rel => exact num_next k hk (by rw [Hh.out]; simp)
        case measure => simp [intOf] <;> omega
      · have hk64 : (k : Int) ≤ 63 := by
          rcases Nat.lt_or_ge k 64 with h | h
          · omega
          · rw [hbit h] at hb2; cases hb2
        rw [hb2] at hcell Hh
        clear hbit hb2
        have hl4 : 2 * ((v : Nat) : Int) + 1 < 18446744073709551616 := by
          have e : x / 2 ^ k = 2 * v + 1 := by rw [Hh.out, if_pos rfl]
          have hdl2 : x / 2 ^ k ≤ x := Nat.div_le_self _ _
          rw [e] at hdl2
          have hxo := HX.out
          clear hl2 hx' e Hh
          omega
        have e1 : IntKind.u64.wrap (2 * (v : Int)) = 2 * (v : Int) := u64_of _ (by unfold InU64; omega)
        have e2 : IntKind.u64.wrap (2 * (v : Int) + 1) = 2 * (v : Int) + 1 := u64_of _ (by unfold InU64; omega)
        have hg : decide ((63 : Int) < (k : Int)) = false := by simp; omega
        clear hl4 hl2 hl3
        go_wp2
        go_round
        case rel => exact num_next k hk (by rw [Hh.out]; simp)
        case measure => simp [intOf] <;> omega
    · have hcell : W.cell? ⟨w.heap.size, 0, none⟩ = some (.bool neg) := by rw [k1.cell 0]; exact whole_get0 _ _
      have hf0 := k1.frozen 0
      cases neg
      · by_cases hbig : (9223372036854775808 : Int) ≤ (x : Int)
        · have hA := Lib.hid (show ans (x : Int) = .tuple #[.int .i64 0, .int .i64 10] from ans_not _ (by unfold In64; omega))
          go_wp2
          go_ret2
          exact ⟨by rw [hA.out]; rfl, hb⟩
        · have hA := Lib.hid (show ans (x : Int) = .tuple #[.int .i64 (x : Int), .int .i64 0] from ans_of _ (by unfold In64; omega))
          go_wp2
          go_ret2
          exact ⟨by rw [hA.out]; rfl, hb⟩
      · have hv : (x : Int) ≤ 9223372036854775808 → wrap64 (IntKind.u64.wrap (bits .xor .u64 IntKind.u64.max (x : Int) + 1)) = -(x : Int) := fun h => neg_back x (by omega)
        have hx0 : (0 : Int) ≤ x := by omega
        generalize hz : (x : Int) = z at hx' hv hx0 ⊢
        have HZ := Lib.hid hz
        clear hz
        by_cases hbig : z ≤ 9223372036854775808
        · have hA := Lib.hid (show ans (-z) = .tuple #[.int .i64 (-z), .int .i64 0] from ans_of _ (by unfold In64; omega))
          have hv' := hv hbig
          clear hv
          go_wp2
          go_ret2
          exact ⟨by rw [HZ.out, hA.out]; rfl, hb⟩
        · have hbig2 : 9223372036854775808 ≤ z := by omega
          have hA := Lib.hid (show ans (-z) = .tuple #[.int .i64 0, .int .i64 10] from ans_not _ (by unfold In64; omega))
          clear hv
          go_wp2
          go_ret2
          exact ⟨by rw [HZ.out, hA.out]; rfl, hb⟩

/-- Num, at the head of its loop, of a number from 2^64 on: nothing has been met yet. -/
def NumBig (x : Nat) (i : Value) : Prop := ∃ k : Nat, 64 ≤ k ∧ k < 192 ∧ i = .int .i64 k ∧ x / 2 ^ (k + 1) = 0
set_option maxHeartbeats 4000000 in
set_option maxRecDepth 100000 in
theorem num_big (neg : Bool) (x : Nat) (w : World) (hx : 18446744073709551616 ≤ x) (hx2 : x < 2 ^ 192) :
    Calls Try.prog 47 #[wholeV neg x] w fun e w' => e = .returned (.tuple #[.int .i64 0, .int .i64 10]) ∧ Below w.heap.size w w' := by
  have HX := Lib.hid hx
  have H2 := Lib.hid hx2
  clear hx hx2
  unfold wholeV
  go_enter Try.func47, Try.ntmps47
  go_wp2
  have k1 := Blk.new w (whole neg x.testBit) 49
  have hb : Below w.heap.size w (w.alloc (.cells (whole neg x.testBit) 49)) := (Below.refl _ _).alloc (Nat.le_refl _) _
  generalize w.alloc (.cells (whole neg x.testBit) 49) = W at *
  go_loop [4, 5] (fun u i => u = .int .u64 0 ∧ NumBig x i) (fun _ i => (intOf i + 1).toNat)
  case atStart => exact ⟨rfl, 191, by omega, by omega, rfl, Nat.div_eq_of_lt H2.out⟩
  case round =>
    obtain ⟨rfl, k, hk64, hk, rfl, hz⟩ := hrel
    have hcell : W.cell? ⟨w.heap.size, 1 + k, none⟩ = some (.bool (x.testBit k)) := by rw [k1.cell (1 + k)]; exact whole_get _ _ k hk
    have hh := half_bit x k
    rw [hz] at hh
    have Hh := Lib.hid hh
    have HK := Lib.hid hk64
    have hki : (k : Int) < 192 := by omega
    have hk63 : (63 : Int) < (k : Int) := by omega
    clear hh hz hk64
    cases hb2 : x.testBit k
    · rw [hb2] at hcell Hh
      clear hb2
      have hne : k ≠ 64 := by
        rintro rfl
        have h := Hh.out
        simp at h
        have := HX.out
        omega
      have HN := Lib.hid hne
      clear hne
      go_wp2
      go_round
      case rel => exact ⟨rfl, k - 1, by have := HK.out; have := HN.out; omega, by omega, by rw [show (k : Int) - 1 = ((k - 1 : Nat) : Int) by have := HK.out; omega], by have := HK.out; rw [show k - 1 + 1 = k by omega, Hh.out]; simp⟩
      case measure => simp [intOf] <;> omega
    · rw [hb2] at hcell
      clear hb2
      go_wp2
      go_ret2
      exact ⟨rfl, hb⟩

theorem num_any (neg : Bool) (x : Nat) (w : World) (hx : x < 2 ^ 192) :
    Calls Try.prog 47 #[wholeV neg x] w fun e w' => e = .returned (ans (if neg then -(x : Int) else x)) ∧ Below w.heap.size w w' := by
  by_cases h : x < 18446744073709551616
  · exact num_small neg x w h
  · rw [ans_not _ (by unfold In64; cases neg <;> simp <;> omega)]
    exact num_big neg x w (by omega) hx

theorem build_whole2 (b : Bool) (f : Nat → Bool) (w : World) : (Instr.build 49 #[(0, .bool b), (1, .agg (arr f))]).run Try.prog w = .ok (.agg (whole b f)) w := by
  have h : (Instr.build 49 #[(0, .bool b), (1, .agg (arr f))]).run Try.prog = fun w => .ok (.agg (whole b f)) w := by
    kernel_rfl
  rw [h]
theorem whole_range {w : World} {g : Nat} {neg : Bool} {f : Nat → Bool} {t : TypeId} (h : Blk w g (whole neg f) t) : w.rangeAt g 1 (arr f).toList := by
  intro j v hv
  rw [h.cell (1 + j)]
  have hj : j < 192 := by
    rcases Nat.lt_or_ge j 192 with h | h
    · exact h
    · rw [List.getElem?_eq_none (by simp [arr_size]; omega)] at hv; cases hv
  rw [whole_get _ _ j hj]
  simpa [arr_get f j hj] using hv

theorem info_arr_l (f : Nat → Bool) : (Try.prog.info? 47).map (·.size) = some (arr f).toList.length := by rw [Array.length_toList]; exact info_arr f

/-- The sum of two whole numbers, as a sign and a size. -/
def togSign (na nb : Bool) (x y : Nat) : Bool := if na = nb then na else if x < y then nb else na
def togSize (na nb : Bool) (x y : Nat) : Nat := if na = nb then x + y else if x < y then y - x else x - y


end Go.Proofs.Ytdkmbbjdoonomaa
