/-
  countinghouseref06: Round (written by gen_ref06r.py).
-/
import Derived.Test.YtgebplplpenabaaRndWord
import Derived.Test.YtgebplplpenabaaPathsLeast
namespace Go.Proofs.Ytgebplplpenabaa
open Go.RowKit
set_option linter.unusedSimpArgs false
set_option linter.unusedVariables false

def Ed.vals (e : Ed) : List Value := [.int .u8 e.fr, .int .u8 e.tt, .int .i8 e.co]
theorem Ed.vals_len (x : Ed) : x.vals.length = 3 := rfl
def edCells (ls : List Ed) : List Value := ls.flatMap Ed.vals
theorem edCells_len (ls : List Ed) : (edCells ls).length = ls.length * 3 := flat_len _ 3 Ed.vals_len ls
theorem edCells_get (ls : List Ed) (i j : Nat) (hj : j < 3) (h : i < ls.length) : (edCells ls)[i * 3 + j]? = ls[i].vals[j]? := by
  unfold edCells
  rw [flat_get _ 3 Ed.vals_len ls i j hj, List.getElem?_eq_getElem h]
  rfl
structure Ed.Fits (x : Ed) : Prop where
  fr : In8 x.fr
  tt : In8 x.tt
  co : -128 ≤ x.co ∧ x.co ≤ 127
/-- Seventeen parties. -/
def ahA (g : Int → Int) : Array Value := rowA (fun _ q => .int .u8 (g q)) 0
theorem ahA_size (g : Int → Int) : (ahA g).size = 17 := rowA_size _ _
theorem ahA_get (g : Int → Int) {i : Nat} (h : i < 17) : (ahA g)[i]? = some (.int .u8 (g i)) := rowA_get _ _ h
theorem ahA_set (g : Int → Int) {i : Nat} (hi : i < 17) (n : Int) : (ahA g).setIfInBounds i (.int .u8 n) = ahA (upI g i n) := by
  unfold ahA
  rw [rowA_set _ _ hi]
  refine rowA_congr fun j hj => ?_
  unfold upI
  try dsimp only
  split <;> rfl
theorem Blk.ahAt {w : World} {g : Nat} {l : Int → Int} {t : TypeId} (h : Blk w g (ahA l) t) {p : Int} (h0 : 0 ≤ p) (h1 : p < 17) : w.cell? ⟨g, p.toNat, none⟩ = some (.int .u8 (l p)) := by
  rw [h.cell, ahA_get l (by omega), Int.toNat_of_nonneg h0]
theorem Blk.ahSet {w : World} {g : Nat} {l : Int → Int} {t : TypeId} (h : Blk w g (ahA l) t) {p : Int} (h0 : 0 ≤ p) (h1 : p < 17) (n : Int) : Blk (w.setCell ⟨g, p.toNat, none⟩ (.int .u8 n)) g (ahA (upI l p n)) t := by
  have := h.set p.toNat (.int .u8 n)
  rw [ahA_set l (by omega), Int.toNat_of_nonneg h0] at this
  exact this

end Go.Proofs.Ytgebplplpenabaa
