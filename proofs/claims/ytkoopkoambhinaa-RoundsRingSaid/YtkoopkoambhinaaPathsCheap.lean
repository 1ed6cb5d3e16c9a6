/-
  PathsCheap: the walk, for every edges, over what the program's Round tells (written by gen_pcheap.py).
-/
import Derived.Test.YtkoopkoambhinaaCheapMath
import Derived.Test.YtkoopkoambhinaaEdg
import Derived.Test.YtkoopkoambhinaaPGrN
namespace Go.Proofs.Ytkoopkoambhinaa
open Go.RowKit
set_option linter.unusedSimpArgs false
set_option linter.unusedVariables false

theorem capA_set (f : Int → Int → Int) {p q : Nat} (hp : p < 17) (hq : q < 17) (n : Int) : (capA f).setIfInBounds (p * 17 + q) (.int .i64 n) = capA (updE f p q n) := by
  unfold capA
  rw [gridA_set _ hp hq]
  congr 1
  funext a b
  unfold updE
  split <;> rfl
theorem capA_congr {f g : Int → Int → Int} (h : ∀ p q : Nat, p < 17 → q < 17 → f p q = g p q) : capA f = capA g := by
  apply Array.ext_getElem?
  intro i
  by_cases hi : i < 289
  · rw [capA_get _ hi, capA_get _ hi, h _ _ (by omega) (by omega)]
  · rw [Array.getElem?_eq_none (by rw [capA_size]; omega), Array.getElem?_eq_none (by rw [capA_size]; omega)]
theorem CostI.upTo (es : List Ed) : ∀ k, k ≤ es.length → CostI es (es.take k) ((es.take k).foldl costE noneF)
  | 0, _ => by simpa using CostI.init es
  | k + 1, h => by
    rw [List.take_succ_eq_append_getElem (by omega), List.foldl_append]
    exact (CostI.upTo es k (by omega)).step (List.getElem_mem _)
def fillO (k : Nat) : Int → Int → Int := fun a _ => if a < (k : Int) then 1048576 else 0
def fillI (k j : Nat) : Int → Int → Int := fun a b => if a < (k : Int) ∨ (a = k ∧ b < (j : Int)) then 1048576 else 0
theorem fillI_next {k j : Nat} (hk : k < 17) (hj : j < 17) : capA (updE (fillI k j) k j 1048576) = capA (fillI k (j + 1)) := by
  refine capA_congr fun p q hp hq => ?_
  unfold updE fillI
  by_cases h1 : (p : Int) = k ∧ (q : Int) = j
  · rw [if_pos h1, if_pos (by omega)]
  · rw [if_neg h1]
    by_cases h2 : (p : Int) < k ∨ ((p : Int) = k ∧ (q : Int) < j)
    · rw [if_pos h2, if_pos (by omega)]
    · rw [if_neg h2, if_neg (by omega)]
theorem fillI_zero (k : Nat) : capA (fillI k 0) = capA (fillO k) := by
  refine capA_congr fun p q hp hq => ?_
  unfold fillI fillO
  by_cases h1 : (p : Int) < k
  · rw [if_pos h1, if_pos (.inl h1)]
  · rw [if_neg h1, if_neg (by omega)]
theorem fillI_all (k : Nat) : capA (fillI k 17) = capA (fillO (k + 1)) := by
  refine capA_congr fun p q hp hq => ?_
  unfold fillI fillO
  by_cases h1 : (p : Int) < ((k + 1 : Nat) : Int)
  · rw [if_pos h1, if_pos (by omega)]
  · rw [if_neg h1, if_neg (by omega)]
theorem fillO_zero : capA (fillO 0) = capA (fun _ _ => 0) := by
  refine capA_congr fun p q hp hq => ?_
  unfold fillO
  rw [if_neg (by omega)]
theorem fillO_all : capA (fillO 17) = capA noneF := by
  refine capA_congr fun p q hp hq => ?_
  unfold fillO noneF
  rw [if_pos (by omega)]

end Go.Proofs.Ytkoopkoambhinaa
