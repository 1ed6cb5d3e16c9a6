/-
  Lists of api.Offer: their cells; the statements' own 'same', 'twin', 'left' on them.
-/
import Derived.Test.YtajmladlmkkimaaSame
namespace Go.Proofs.Ytajmladlmkkimaa
open Go.RowKit
set_option linter.unusedSimpArgs false
set_option linter.unusedVariables false

structure Of where
  se : Int
  ow : Int
  sl : Int
  bu : Int
  lf : Int
  nu : Int
  de : Int
deriving DecidableEq
def Of.vals (x : Of) : List Value := [.int .u64 x.se, .int .u8 x.ow, .int .u8 x.sl, .int .u8 x.bu, .int .i64 x.lf, .int .i64 x.nu, .int .i64 x.de]
theorem Of.vals_len (x : Of) : x.vals.length = 7 := rfl
def ofCells (ls : List Of) : List Value := ls.flatMap Of.vals
def Of.val (x : Of) : Value := .agg #[.int .u64 x.se, .int .u8 x.ow, .int .u8 x.sl, .int .u8 x.bu, .int .i64 x.lf, .int .i64 x.nu, .int .i64 x.de]
theorem ofCells_len (ls : List Of) : (ofCells ls).length = ls.length * 7 := flat_len _ 7 Of.vals_len ls
theorem ofCells_get (ls : List Of) (i j : Nat) (hj : j < 7) (h : i < ls.length) : (ofCells ls)[i * 7 + j]? = ls[i].vals[j]? := by
  unfold ofCells
  rw [flat_get _ 7 Of.vals_len ls i j hj, List.getElem?_eq_getElem h]
  rfl
theorem ofCells_append (a b : List Of) : ofCells (a ++ b) = ofCells a ++ ofCells b := by unfold ofCells; exact List.flatMap_append
theorem ofCells_one (x : Of) : ofCells [x] = x.vals := by simp [ofCells]
/-- Numbers that fit. -/
structure Of.Fits (x : Of) : Prop where
  se : (0 ≤ x.se ∧ x.se ≤ 18446744073709551615)
  ow : In8 x.ow
  sl : In8 x.sl
  bu : In8 x.bu
  lf : In64 x.lf
  nu : In64 x.nu
  de : In64 x.de
theorem ofCells_oneCell (l : List Of) : ∀ u ∈ ofCells l, u.oneCell' = true := by
  intro u hu
  unfold ofCells at hu
  obtain ⟨x, _, hx⟩ := List.mem_flatMap.1 hu
  simp [Of.vals] at hx
  rcases hx with rfl | rfl | rfl | rfl | rfl | rfl | rfl <;> rfl
theorem of_parts (x y : Of) : (x = y) ∨ (x ≠ y ∧ (x.se == y.se) = false) ∨ (x ≠ y ∧ (x.se == y.se) = true ∧ (x.ow == y.ow) = false) ∨ (x ≠ y ∧ (x.se == y.se) = true ∧ (x.ow == y.ow) = true ∧ (x.sl == y.sl) = false) ∨ (x ≠ y ∧ (x.se == y.se) = true ∧ (x.ow == y.ow) = true ∧ (x.sl == y.sl) = true ∧ (x.bu == y.bu) = false) ∨ (x ≠ y ∧ (x.se == y.se) = true ∧ (x.ow == y.ow) = true ∧ (x.sl == y.sl) = true ∧ (x.bu == y.bu) = true ∧ (x.lf == y.lf) = false) ∨ (x ≠ y ∧ (x.se == y.se) = true ∧ (x.ow == y.ow) = true ∧ (x.sl == y.sl) = true ∧ (x.bu == y.bu) = true ∧ (x.lf == y.lf) = true ∧ (x.nu == y.nu) = false) ∨ (x ≠ y ∧ (x.se == y.se) = true ∧ (x.ow == y.ow) = true ∧ (x.sl == y.sl) = true ∧ (x.bu == y.bu) = true ∧ (x.lf == y.lf) = true ∧ (x.nu == y.nu) = true ∧ (x.de == y.de) = false) := by
  obtain ⟨a0, a1, a2, a3, a4, a5, a6⟩ := x
  obtain ⟨b0, b1, b2, b3, b4, b5, b6⟩ := y
  by_cases h0 : a0 = b0
  case neg => simp [h0]
  case pos =>
    by_cases h1 : a1 = b1
    case neg => simp [h0, h1]
    case pos =>
      by_cases h2 : a2 = b2
      case neg => simp [h0, h1, h2]
      case pos =>
        by_cases h3 : a3 = b3
        case neg => simp [h0, h1, h2, h3]
        case pos =>
          by_cases h4 : a4 = b4
          case neg => simp [h0, h1, h2, h3, h4]
          case pos =>
            by_cases h5 : a5 = b5
            case neg => simp [h0, h1, h2, h3, h4, h5]
            case pos =>
              by_cases h6 : a6 = b6
              case neg => simp [h0, h1, h2, h3, h4, h5, h6]
              case pos =>
                simp [h0, h1, h2, h3, h4, h5, h6]


end Go.Proofs.Ytajmladlmkkimaa
