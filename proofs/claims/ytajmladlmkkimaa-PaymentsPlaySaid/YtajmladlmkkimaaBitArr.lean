/-
  Arrays of 192 bits as values, and whole numbers as such bits: plain facts, and what the model does with such an array as a whole.
-/
import Derived.Test.YtajmladlmkkimaaLib
import Derived.Laws.Rows
import Derived.Laws.Tables
import Derived.Laws.CopyOwn
namespace Go.Proofs.Ytajmladlmkkimaa
open Go.RowKit
set_option linter.unusedSimpArgs false
set_option linter.unusedVariables false

/-- An array of 192 bits, as cells. -/
def arr (f : Nat → Bool) : Array Value := Array.ofFn (n := 192) fun i => Value.bool (f i)
theorem arr_size (f : Nat → Bool) : (arr f).size = 192 := by simp [arr]
theorem arr_get (f : Nat → Bool) (i : Nat) (h : i < 192) : (arr f)[i]? = some (.bool (f i)) := by simp [arr, h]
theorem arr_congr {f g : Nat → Bool} (h : ∀ i, i < 192 → f i = g i) : arr f = arr g := by
  unfold arr; congr 1; funext i; rw [h i i.2]
theorem arr_set (f : Nat → Bool) (i : Nat) (b : Bool) : (arr f).setIfInBounds i (.bool b) = arr (fun j => if j = i then b else f j) := by
  apply Array.ext_getElem?
  intro j
  by_cases hj : j < 192
  · rw [arr_get _ j hj]
    by_cases hi : i = j
    · subst hi
      rw [Array.getElem?_setIfInBounds_self_of_lt (by rw [arr_size]; exact hj)]
      simp
    · rw [Array.getElem?_setIfInBounds_ne hi, arr_get _ j hj, if_neg (Ne.symm hi)]
  · rw [Array.getElem?_eq_none (by simp [arr_size]; omega), Array.getElem?_eq_none (by rw [arr_size]; omega)]
theorem arr_one (f : Nat → Bool) : (arr f).all (·.oneCell') = true := by
  rw [Array.all_eq_true]
  intro i hi
  simp [arr, Value.oneCell']

attribute [irreducible] arr

/-- A number as 192 bits. -/
def bitsV (x : Nat) : Value := .agg (arr x.testBit)
theorem bitsV_eq (x : Nat) : bitsV x = .agg (arr x.testBit) := rfl
theorem bits_mod (x : Nat) : arr (x % 2 ^ 192).testBit = arr x.testBit := arr_congr fun i h => by rw [Nat.testBit_mod_two_pow]; simp [h]

/-- The carry that comes to bit k. -/
def carryN (x y k : Nat) : Nat := (x % 2 ^ k + y % 2 ^ k) / 2 ^ k
theorem bit_lt (x k : Nat) : (x / 2 ^ k) % 2 = if x.testBit k then 1 else 0 := by
  rw [Nat.testBit_eq_decide_div_mod_eq]
  by_cases h : x / 2 ^ k % 2 = 1
  · simp [h]
  · simp [h]; omega
theorem carryN_le (x y k : Nat) : carryN x y k ≤ 1 := by
  have hp := Nat.two_pow_pos k
  have h1 := Nat.mod_lt x hp
  have h2 := Nat.mod_lt y hp
  unfold carryN
  have : (x % 2 ^ k + y % 2 ^ k) / 2 ^ k < 2 := by rw [Nat.div_lt_iff_lt_mul hp]; omega
  omega
theorem mod_succ (x k : Nat) : x % 2 ^ (k + 1) = x % 2 ^ k + 2 ^ k * (x / 2 ^ k % 2) := by rw [Nat.pow_succ, Nat.mod_mul]
theorem carryN_succ (x y k : Nat) : carryN x y (k + 1) = (carryN x y k + x / 2 ^ k % 2 + y / 2 ^ k % 2) / 2 := by
  have hp := Nat.two_pow_pos k
  unfold carryN
  rw [mod_succ, mod_succ, Nat.pow_succ, ← Nat.div_div_eq_div_mul,
    show x % 2 ^ k + 2 ^ k * (x / 2 ^ k % 2) + (y % 2 ^ k + 2 ^ k * (y / 2 ^ k % 2)) = (x % 2 ^ k + y % 2 ^ k) + 2 ^ k * (x / 2 ^ k % 2 + y / 2 ^ k % 2) by rw [Nat.mul_add]; omega,
    Nat.add_mul_div_left _ _ hp, Nat.add_assoc]
theorem add_bit (x y k : Nat) : (x + y).testBit k = decide ((carryN x y k + x / 2 ^ k % 2 + y / 2 ^ k % 2) % 2 = 1) := by
  have hp := Nat.two_pow_pos k
  have e : (x + y) / 2 ^ k = x / 2 ^ k + y / 2 ^ k + carryN x y k := by
    unfold carryN
    rw [show x + y = (x % 2 ^ k + y % 2 ^ k) + 2 ^ k * (x / 2 ^ k + y / 2 ^ k) by
      have h1 := Nat.div_add_mod x (2 ^ k); have h2 := Nat.div_add_mod y (2 ^ k); rw [Nat.mul_add]; omega, Nat.add_mul_div_left _ _ hp]
    omega
  rw [Nat.testBit_eq_decide_div_mod_eq, e]
  congr 2
  omega
/-- One digit of a sum: what is written, and what is carried on. -/
theorem add_step (x y k : Nat) : ∃ c : Nat, c ≤ 1 ∧ carryN x y k = c ∧
    (x + y).testBit k = decide ((c + (if x.testBit k then 1 else 0) + (if y.testBit k then 1 else 0)) % 2 = 1) ∧
    carryN x y (k + 1) = (c + (if x.testBit k then 1 else 0) + (if y.testBit k then 1 else 0)) / 2 :=
  ⟨_, carryN_le x y k, rfl, by rw [← bit_lt, ← bit_lt]; exact add_bit x y k, by rw [← bit_lt, ← bit_lt]; exact carryN_succ x y k⟩

/-- What is borrowed at bit k. -/
def borrowN (x y k : Nat) : Nat := if x % 2 ^ k < y % 2 ^ k then 1 else 0
theorem bit_val (x k : Nat) : x % 2 ^ (k + 1) = x % 2 ^ k + 2 ^ k * (if x.testBit k then 1 else 0) := by rw [mod_succ, bit_lt]
/-- One digit of a difference. -/
theorem sub_step (x y k : Nat) (h : y ≤ x) :
    (x - y).testBit k = decide (((if x.testBit k then 1 else 0 : Int) - (if y.testBit k then 1 else 0) - borrowN x y k) % 2 = 1) ∧
    (borrowN x y (k + 1) : Int) = if (if x.testBit k then 1 else 0 : Int) - (if y.testBit k then 1 else 0) - borrowN x y k < 0 then 1 else 0 := by
  have hp := Nat.two_pow_pos k
  have h1 := Nat.div_add_mod x (2 ^ k)
  have h2 := Nat.div_add_mod y (2 ^ k)
  have h1l := Nat.mod_lt x hp
  have h2l := Nat.mod_lt y hp
  have e : (((x - y) / 2 ^ k : Nat) : Int) = (x / 2 ^ k : Nat) - (y / 2 ^ k : Nat) - borrowN x y k := by
    have e1 : ((x - y : Nat) : Int) = (2 ^ k : Nat) * ((x / 2 ^ k : Nat) - (y / 2 ^ k : Nat)) + ((x % 2 ^ k : Nat) - (y % 2 ^ k : Nat)) := by
      rw [Int.mul_sub, ← Int.natCast_mul, ← Int.natCast_mul]
      omega
    rw [Int.natCast_ediv, e1, Int.mul_add_ediv_left _ _ (by omega)]
    unfold borrowN
    split
    · rw [show ((x % 2 ^ k : Nat) : Int) - (y % 2 ^ k : Nat) = (2 ^ k + (x % 2 ^ k : Nat) - (y % 2 ^ k : Nat) : Nat) + ((2 ^ k : Nat) : Int) * (-1) by omega, Int.add_mul_ediv_left _ _ (by omega), Int.ediv_eq_zero_of_lt (by omega) (by omega)]
      omega
    · rw [Int.ediv_eq_zero_of_lt (by omega) (by omega)]; omega
  have bx := bit_lt x k
  have by' := bit_lt y k
  constructor
  · rw [Nat.testBit_eq_decide_div_mod_eq]
    rw [decide_eq_decide]
    clear h1 h2 h1l h2l h
    generalize (x - y) / 2 ^ k = q at e ⊢
    generalize x / 2 ^ k = X at e bx
    generalize y / 2 ^ k = Y at e by'
    generalize borrowN x y k = b at e ⊢
    generalize x.testBit k = u at bx ⊢
    generalize y.testBit k = v at by' ⊢
    cases u <;> cases v <;> simp only [Bool.false_eq_true, if_true, if_false] at bx by' ⊢ <;> omega
  · unfold borrowN at *
    rw [bit_val, bit_val]
    generalize x % 2 ^ k = a at *
    generalize y % 2 ^ k = b at *
    generalize 2 ^ k = p at *
    clear e h1 h2 bx by'
    cases x.testBit k <;> cases y.testBit k <;> simp <;> (repeat' split) <;> omega
theorem borrowN_le (x y k : Nat) : borrowN x y k ≤ 1 := by unfold borrowN; split <;> omega

/-- Which of two is greater, from the top bit down. -/
theorem greater_step (x y k : Nat) (h : x / 2 ^ (k + 1) = y / 2 ^ (k + 1)) :
    (x.testBit k = y.testBit k → x / 2 ^ k = y / 2 ^ k) ∧ (x.testBit k ≠ y.testBit k → decide (y < x) = x.testBit k) := by
  have hp := Nat.two_pow_pos k
  have ex : x / 2 ^ k = 2 * (x / 2 ^ (k + 1)) + (if x.testBit k then 1 else 0) := by
    rw [← bit_lt, Nat.pow_succ, ← Nat.div_div_eq_div_mul]; omega
  have ey : y / 2 ^ k = 2 * (y / 2 ^ (k + 1)) + (if y.testBit k then 1 else 0) := by
    rw [← bit_lt, Nat.pow_succ, ← Nat.div_div_eq_div_mul]; omega
  constructor
  · intro e; rw [ex, ey, h, e]
  · intro hne
    cases hx : x.testBit k <;> cases hy : y.testBit k <;> simp [hx, hy] at hne ex ey
    · have : x / 2 ^ k < y / 2 ^ k := by omega
      have := Nat.lt_of_div_lt_div this
      simp; omega
    · have : y / 2 ^ k < x / 2 ^ k := by omega
      have := Nat.lt_of_div_lt_div this
      simp; omega

/-- A composite value: what it comes to is known. -/
theorem wpList_build_of {P : Program} {ops : Array Oper} {rest : List Oper} {o : Oper} {a : Act} {w : World} {Q : Exit → Act → World → Prop} (hgd : o.guard = none) (t : TypeId) (parts : Array (Nat × Operand)) (ho : o.op = .build t parts)
    (ps : Array (Nat × Value)) (hp : (parts.map fun (i, x) => (i, a.eval x)) = ps) (cells : Array Value) (hrun : (Instr.build t ps).run P w = .ok (.agg cells) w)
    (h : wpList P ops Q rest (a.put o.dst (.agg cells)) w) : wpList P ops Q (o :: rest) a w :=
  wpList_plain hgd fun _ hK => by
    unfold Oper.wp execOp
    simp only [ho, hp, Sem.run_bind, hrun, Result.andThen_ok]
    exact hK _ _ h

theorem wp_build_of {P : Program} {o : Oper} {a : Act} {w : World} {K : Act → World → Prop} {Q : Exit → Act → World → Prop} (t : TypeId) (parts : Array (Nat × Operand)) (ho : o.op = .build t parts)
    (ps : Array (Nat × Value)) (hp : (parts.map fun (i, x) => (i, a.eval x)) = ps) (cells : Array Value) (hrun : (Instr.build t ps).run P w = .ok (.agg cells) w)
    (h : K (a.put o.dst (.agg cells)) w) : o.wp P a w K Q := by
  unfold Oper.wp execOp
  simp only [ho, hp, Sem.run_bind, hrun, Result.andThen_ok]
  exact h

theorem Blk.row {w : World} {g : Nat} {old cs : Array Value} {t : TypeId} (h : Blk w g old t) : Blk (w.setRow g cs) g cs t := setRow_heap w g old cs t (0, 0) h
theorem Blk.rowOther {w : World} {g k : Nat} {cs cs' : Array Value} {t : TypeId} (h : Blk w g cs t) (hk : g ≠ k) : Blk (w.setRow k cs') g cs t := by
  unfold Blk; rw [setRow_other w k g cs' hk]; exact h

end Go.Proofs.Ytajmladlmkkimaa
