/-
  PathsLeast: the walk, for every edges and two parties, over what the program's Short tells (written by gen_pleast.py).
-/
import Derived.Test.YtajmladlmkkimaaLeastMath
import Derived.Test.YtajmladlmkkimaaRowed
import Derived.Test.YtajmladlmkkimaaRef06
import Derived.Test.YtajmladlmkkimaaPGrE
import Derived.Test.YtajmladlmkkimaaFlwIn
namespace Go.Proofs.Ytajmladlmkkimaa
open Go.RowKit
set_option linter.unusedSimpArgs false
set_option linter.unusedVariables false

/-- Seventeen numbers. -/
def ltA (left : Int → Int) : Array Value := rowA (fun _ q => .int .i64 (left q)) 0
theorem ltA_size (left : Int → Int) : (ltA left).size = 17 := rowA_size _ _
theorem ltA_get (left : Int → Int) {i : Nat} (h : i < 17) : (ltA left)[i]? = some (.int .i64 (left i)) := rowA_get _ _ h
theorem ltA_set (left : Int → Int) {i : Nat} (hi : i < 17) (n : Int) : (ltA left).setIfInBounds i (.int .i64 n) = ltA (upL left i n) := by
  unfold ltA
  rw [rowA_set _ _ hi]
  refine rowA_congr fun j hj => ?_
  unfold upL
  try dsimp only
  split <;> rfl
theorem ltA_congr {l m : Int → Int} (h : ∀ i : Nat, i < 17 → l i = m i) : ltA l = ltA m := rowA_congr fun i hi => by rw [h i hi]
theorem Blk.ltAt {w : World} {g : Nat} {l : Int → Int} {t : TypeId} (h : Blk w g (ltA l) t) {p : Int} (h0 : 0 ≤ p) (h1 : p < 17) : w.cell? ⟨g, p.toNat, none⟩ = some (.int .i64 (l p)) := by
  rw [h.cell, ltA_get l (by omega), Int.toNat_of_nonneg h0]
theorem Blk.ltSet {w : World} {g : Nat} {l : Int → Int} {t : TypeId} (h : Blk w g (ltA l) t) {p : Int} (h0 : 0 ≤ p) (h1 : p < 17) (n : Int) : Blk (w.setCell ⟨g, p.toNat, none⟩ (.int .i64 n)) g (ltA (upL l p n)) t := by
  have := h.set p.toNat (.int .i64 n)
  rw [ltA_set l (by omega), Int.toNat_of_nonneg h0] at this
  exact this
theorem shortW_zero (a b : Int) : shortW zeroF a b = [] := by
  unfold shortW
  rw [if_neg]
  rintro ⟨_, _, hne, hr⟩
  obtain ⟨m, _, hw⟩ := (inS_iff (GInv.zero (B := 0) (Int.le_refl _)) a 16 b).1 hr
  match m, hw with
  | 0, hw => exact hne hw
  | m + 1, ⟨r, h1, _⟩ => unfold zeroF at h1; omega
theorem zero_lt : (∀ w, (zeroValue 147).run Try.prog w = .ok (.agg (ltA fun _ => 0)) w) ∧ (Try.prog.info? 147).map (·.size) = some 17 :=
  zero_of_info (by kernel_rfl)
attribute [irreducible] ltA

end Go.Proofs.Ytajmladlmkkimaa
