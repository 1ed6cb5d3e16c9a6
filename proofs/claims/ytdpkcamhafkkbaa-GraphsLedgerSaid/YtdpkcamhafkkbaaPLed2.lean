/-
  The program's ledgers: Line.
-/
import Derived.Test.YtdpkcamhafkkbaaPLed
import Derived.Test.YtdpkcamhafkkbaaRef03h
namespace Go.Proofs.Ytdpkcamhafkkbaa
open Go.RowKit
set_option linter.unusedSimpArgs false
set_option linter.unusedVariables false

/-- A store of a whole block, in the walk. -/
theorem wpList_store_row {P : Program} {ops : Array Oper} {rest : List Oper} {o : Oper} {a : Act} {w : World} {Q : Exit → Act → World → Prop} (hgd : o.guard = none) (ty : TypeId) (x y : Operand) (ho : o.op = .store ty x y)
    (g : Nat) (cells : Array Value) (hx : a.eval x = .pointer (some ⟨g, 0, none⟩)) (hy : a.eval y = .agg cells)
    (t : TypeId) (old : Array Value) (hg : w.heap[g]? = some (.cells old t (0, 0))) (hi : (P.info? ty).map (·.size) = some cells.size)
    (hold : old.size = cells.size) (h1 : cells.all (·.oneCell') = true)
    (h : wpList P ops Q rest (a.put o.dst undef) (w.setRow g cells)) : wpList P ops Q (o :: rest) a w :=
  wpList_plain hgd fun _ hK => wp_store_row ty x y ho g cells hx hy t old hg hi hold h1 (hK _ _ h)
theorem MapIs.looks {w : World} {m : Nat} {ls : List Ln} (h : MapIs w m ls) (hI : Inv ls) {a b c : Int} (ha : In8 a) (hb : In8 b) (hc : In8 c) : ∀ w', Below w.heap.size w w' →
    (Instr.lookup 83 (.map (some m)) (.agg #[.int .u8 a, .int .u8 b, .int .u8 c]) true).run Try.prog w' = .ok (.tuple #[.agg #[.int .i64 (lnAt ls a b c).li, .int .i64 (lnAt ls a b c).db], .bool (lineL ls a b c).isSome]) w' ∧
    (Instr.lookup 83 (.map (some m)) (.agg #[.int .u8 a, .int .u8 b, .int .u8 c]) false).run Try.prog w' = .ok (.agg #[.int .i64 (lnAt ls a b c).li, .int .i64 (lnAt ls a b c).db]) w' :=
  fun w' k => (h.below k h.lt).look hI ha hb hc
theorem LedM.alls {w : World} {G M : Nat} {ps : List Int} {ls : List Ln} (h : LedM w G M ps ls) : ∀ w', Below w.heap.size w w' → Calls Try.prog 40 #[.pointer (some ⟨G, 0, none⟩)] w' fun e w'' => e = .returned (.map (some M)) ∧ w' = w'' :=
  fun w' k => all_any (h.blk.below k h.blk.lt)
theorem isSome_cases (o : Option Ln) : (o = none ∧ o.isSome = false) ∨ (∃ x, o = some x ∧ o.isSome = true) := by cases o <;> simp


end Go.Proofs.Ytdpkcamhafkkbaa
