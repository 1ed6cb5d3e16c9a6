/-
  countinghouseref03: New, Open.
-/
import Derived.Test.YtmfacfnbokadmaaRef03c
namespace Go.Proofs.Ytmfacfnbokadmaa
open Go.RowKit
set_option linter.unusedSimpArgs false
set_option linter.unusedVariables false



/-- The parties behind Open, those below number k. -/
def openTo (ps : List Int) (p : Int) (k : Nat) : List Int := ((List.range (k - 1)).map fun i : Nat => (i : Int) + 1).filter fun q => q == p || decide (q ∈ ps)
theorem openTo_next (ps : List Int) (p : Int) (k : Nat) (h : 1 ≤ k) : openTo ps p (k + 1) = openTo ps p k ++ (if ((k : Int) == p || decide ((k : Int) ∈ ps)) = true then [(k : Int)] else []) := by
  unfold openTo
  rw [show k + 1 - 1 = (k - 1) + 1 by omega, List.range_succ, List.map_append, List.filter_append]
  congr 1
  rw [List.map_singleton, show ((k - 1 : Nat) : Int) + 1 = (k : Int) by omega]
  simp only [List.filter_cons, List.filter_nil]
theorem openTo_len (ps : List Int) (p : Int) (k : Nat) : (openTo ps p k).length ≤ k := by
  unfold openTo
  refine Nat.le_trans (List.length_filter_le _ _) ?_
  simp
def openE (ps : List Int) (p : Int) : Int := if p < 1 ∨ 16 < p then 1 else if p ∈ ps then 8 else 0
def openP (ps : List Int) (p : Int) : List Int := if p < 1 ∨ 16 < p then ps else if p ∈ ps then ps else openTo ps p 17

theorem info_party : (Try.prog.info? 35).map (fun i => (i.zero, i.size, i.bytes)) = some (some (.int .u8 0), 1, 1) := by kernel_rfl
/-- 'append(out, q)', of one party. -/
theorem wpList_append_party (w : World) {ops : Array Oper} {rest : List Oper} {o : Oper} {a : Act} {Q : Exit → Act → World → Prop} (hgd : o.guard = none) (s x : Operand)
    (ho : o.op = .call { callee := .builtin .append, args := #[s, x], argTypes := #[42, 42] }) (base : Nat) (v : Value) (ps : List Int) (hs : a.eval s = v)
    (hown : w.ownsRow base 35 1 v ps.length (ps.map (.int .u8))) (g c : Nat) (y : Int) (hx : a.eval x = .slice (some ⟨g, 0, none⟩) 1 c) (hy : Blk w g #[.int .u8 y] 35) (hlen : ps.length ≤ 100000) (hbase : base ≤ w.heap.size)
    (h : ∀ v' w', w'.ownsRow base 35 1 v' (ps ++ [y]).length ((ps ++ [y]).map (.int .u8)) → w.grownBy w' v.ownBlock → wpList Try.prog ops Q rest (a.put o.dst v') w') : wpList Try.prog ops Q (o :: rest) a w := by
  obtain ⟨i0, hi, hz0, hz1, hz2⟩ := info_parts info_party
  refine wpList_append_own w hgd s x 42 ho base 35 i0 (.int .u8 0) 1 1 Try.underlying42 hi hz0 hz1 hz2 rfl (by decide) v ps.length (ps.map (.int .u8)) hs hown ⟨g, 0, none⟩ 1 c [.int .u8 y] hx rfl ?_ ?_ (by unfold maxLen; omega) (by omega) hbase ?_
  · intro j u hj
    have := hy.cell j
    rw [Go.WideShapes.add_plain]
    match j, hj with
    | 0, hj => simp at hj; subst hj; simpa using this
    | j + 1, hj => simp at hj
  · intro u hu
    simp at hu
    subst hu; rfl
  · intro v' w' h1 h2 _
    refine h v' w' ?_ h2
    rw [List.map_append, List.length_append]
    exact h1

end Go.Proofs.Ytmfacfnbokadmaa
