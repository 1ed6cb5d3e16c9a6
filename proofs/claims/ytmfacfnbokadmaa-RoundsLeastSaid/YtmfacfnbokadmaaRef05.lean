/-
  countinghouseref05: a graph as a list of edges: Cap, set, Push, Copy.
-/
import Derived.Test.YtmfacfnbokadmaaFlw
import Derived.Test.YtmfacfnbokadmaaAppends
namespace Go.Proofs.Ytmfacfnbokadmaa
open Go.RowKit
set_option linter.unusedSimpArgs false
set_option linter.unusedVariables false

def hitE (a b : Int) (x : Fw) : Bool := x.fr == a && x.tt == b
/-- What may go from a to b. -/
def capE (es : List Fw) (a b : Int) : Int := match es.find? (hitE a b) with | some x => x.am | none => 0
theorem capE_at {es : List Fw} {a b : Int} {k : Nat} (hk : k < es.length) (hn : ∀ x ∈ es.take k, hitE a b x = false) (hx : hitE a b es[k] = true) : capE es a b = es[k].am := by
  unfold capE
  rw [List.find?_eq_some_iff_getElem.2 ⟨hx, k, hk, rfl, fun j hj => by
    have := hn es[j] (by rw [List.mem_take_iff_getElem]; exact ⟨j, by omega, rfl⟩)
    simp [this]⟩]
theorem capE_none {es : List Fw} {a b : Int} (hn : ∀ x ∈ es, hitE a b x = false) : capE es a b = 0 := by
  unfold capE
  rw [List.find?_eq_none.2 (fun x hx => by simp [hn x hx])]
theorem take_all_nextF {q : Fw → Prop} {l : List Fw} {k : Nat} (h : k < l.length) (hn : ∀ x ∈ l.take k, q x) (hx : q l[k]) : ∀ x ∈ l.take (k + 1), q x := by
  rw [List.take_succ_eq_append_getElem h]
  intro x hx'
  rcases List.mem_append.1 hx' with h1 | h1
  · exact hn x h1
  · rw [List.mem_singleton] at h1; rw [h1]; exact hx
theorem fw_cells {w : World} {b : Nat} {ls : List Fw} (h : ∀ j, j < ls.length * 3 → w.cell? ⟨b, j, none⟩ = (fwCells ls)[j]?) {k : Nat} (hk : k < ls.length) :
    w.cell? ⟨b, k * 3, none⟩ = some (.int .u8 ls[k].fr) ∧ w.cell? ⟨b, k * 3 + 1, none⟩ = some (.int .u8 ls[k].tt) ∧ w.cell? ⟨b, k * 3 + 2, none⟩ = some (.int .i64 ls[k].am) := by
  refine ⟨?_, ?_, ?_⟩
  · exact (h (k * 3 + 0) (by omega)).trans (fwCells_get ls k 0 (by omega) hk)
  · exact (h (k * 3 + 1) (by omega)).trans (fwCells_get ls k 1 (by omega) hk)
  · exact (h (k * 3 + 2) (by omega)).trans (fwCells_get ls k 2 (by omega) hk)
/-- The edge of number m of all 256, and those of the first m that are there. -/
def edgeAt (f : Int → Int → Int) (m : Nat) : Fw := ⟨((m / 16 : Nat) : Int) + 1, ((m % 16 : Nat) : Int) + 1, f (((m / 16 : Nat) : Int) + 1) (((m % 16 : Nat) : Int) + 1)⟩
def prefE (f : Int → Int → Int) (m : Nat) : List Fw := ((List.range m).map (edgeAt f)).filter fun x => decide (0 < x.am)
def allE (f : Int → Int → Int) : List Fw := prefE f 256
theorem prefE_succ (f : Int → Int → Int) (m : Nat) : prefE f (m + 1) = prefE f m ++ (if 0 < (edgeAt f m).am then [edgeAt f m] else []) := by
  unfold prefE
  rw [List.range_succ, List.map_append, List.filter_append]
  congr 1
  simp only [List.map_cons, List.map_nil, List.filter_cons, List.filter_nil, decide_eq_true_eq]
theorem edge_at (f : Int → Int → Int) {p q : Nat} (hq : q < 16) : edgeAt f (p * 16 + q) = ⟨(p : Int) + 1, (q : Int) + 1, f ((p : Int) + 1) ((q : Int) + 1)⟩ := by
  unfold edgeAt
  rw [show (p * 16 + q) / 16 = p by omega, show (p * 16 + q) % 16 = q by omega]
theorem prefE_len (f : Int → Int → Int) (m : Nat) : (prefE f m).length ≤ m := by
  unfold prefE
  exact Nat.le_trans (List.length_filter_le _ _) (by simp)
/-- One capacity is n. -/
def capF (es : List Fw) (a b n : Int) (p q : Int) : Int := if p = a ∧ q = b then n else capE es p q
def setE (es : List Fw) (a b n : Int) : List Fw := allE (capF es a b n)
theorem setE_len (es : List Fw) (a b n : Int) : (setE es a b n).length ≤ 256 := prefE_len _ _
/-- 'append(y, x...)' whose run is known, in the walk. -/
theorem wpList_append_run {P : Program} {ops : Array Oper} {rest : List Oper} {w w' : World} {o : Oper} {a : Act} {Q : Exit → Act → World → Prop} (hgd : o.guard = none) (y x : Operand) (t : TypeId) {u v v' : Value}
    (ho : o.op = .call { callee := .builtin .append, args := #[y, x], argTypes := #[t, t] }) (hy : a.eval y = u) (hx : a.eval x = v)
    (hr : (Builtin.append_ #[t, t] o.type #[u, v]).run P w = .ok v' w') (h : wpList P ops Q rest (a.put o.dst v') w') : wpList P ops Q (o :: rest) a w :=
  wpList_plain hgd fun K hK => by
    unfold Oper.wp execOp
    simp only [ho, resolve, invoke, builtin, Sem.run_bind, Sem.run_pure, Result.andThen_ok, List.map_toArray, List.map_cons, List.map_nil, hy, hx, hr]
    exact hK _ _ h
def pushEE (es : List Fw) (a b n : Int) : Int := if n < 1 then 1 else if capE es a b < n then 11 else 0
/-- What stands behind a push. -/
def pushEL (es : List Fw) (a b n : Int) : List Fw := if pushEE es a b n = 0 then setE (setE es a b (capE es a b - n)) b a (capE es b a + n) else es
/-- Capacities that are no greater than this. -/
def CapB (es : List Fw) (B : Int) : Prop := ∀ x ∈ es, 0 < x.am ∧ x.am ≤ B
theorem capE_bd {es : List Fw} {B : Int} (h : CapB es B) (h0 : 0 ≤ B) (a b : Int) : 0 ≤ capE es a b ∧ capE es a b ≤ B := by
  unfold capE
  cases hf : es.find? (hitE a b) with
  | none => exact ⟨Int.le_refl _, h0⟩
  | some x => have := h x (List.mem_of_find?_eq_some hf); exact ⟨by show 0 ≤ x.am; omega, this.2⟩

end Go.Proofs.Ytmfacfnbokadmaa
