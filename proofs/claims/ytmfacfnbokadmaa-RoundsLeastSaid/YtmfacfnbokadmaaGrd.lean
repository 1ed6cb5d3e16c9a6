/-
  The program's graphs in memory: seventeen rows of seventeen numbers, and a mark; what the model does with such an array as a whole.
-/
import Derived.Test.YtmfacfnbokadmaaGraphMath
import Derived.Test.YtmfacfnbokadmaaHeap
import Derived.Test.YtmfacfnbokadmaaBitArr
import Derived.Deep.MidRow
import Derived.Deep.WholeRow
namespace Go.Proofs.Ytmfacfnbokadmaa
open Go.RowKit
set_option linter.unusedSimpArgs false
set_option linter.unusedVariables false

/-- Seventeen rows of seventeen cells. -/
def gridA (v : Int → Int → Value) : Array Value := Array.ofFn (n := 289) fun i => v ((i.val / 17 : Nat) : Int) ((i.val % 17 : Nat) : Int)
theorem gridA_size (v : Int → Int → Value) : (gridA v).size = 289 := by simp [gridA]
theorem gridA_get (v : Int → Int → Value) {i : Nat} (h : i < 289) : (gridA v)[i]? = some (v ((i / 17 : Nat) : Int) ((i % 17 : Nat) : Int)) := by simp [gridA, h]
theorem gridA_at (v : Int → Int → Value) {p q : Nat} (hp : p < 17) (hq : q < 17) : (gridA v)[p * 17 + q]? = some (v p q) := by
  rw [gridA_get _ (by omega), show (p * 17 + q) / 17 = p by omega, show (p * 17 + q) % 17 = q by omega]
theorem gridA_set (v : Int → Int → Value) {p q : Nat} (hp : p < 17) (hq : q < 17) (u : Value) : (gridA v).setIfInBounds (p * 17 + q) u = gridA fun a b => if a = p ∧ b = q then u else v a b := by
  apply Array.ext_getElem?
  intro j
  by_cases hj : j < 289
  · rw [gridA_get _ hj]
    by_cases hi : p * 17 + q = j
    · subst hi
      rw [Array.getElem?_setIfInBounds_self_of_lt (by rw [gridA_size]; omega), show (p * 17 + q) / 17 = p by omega, show (p * 17 + q) % 17 = q by omega, if_pos ⟨rfl, rfl⟩]
    · rw [Array.getElem?_setIfInBounds_ne hi, gridA_get _ hj, if_neg]
      rintro ⟨e1, e2⟩
      omega
  · rw [Array.getElem?_eq_none (by simp [gridA_size]; omega), Array.getElem?_eq_none (by rw [gridA_size]; omega)]
theorem gridA_one (v : Int → Int → Value) (h : ∀ p q, (v p q).oneCell' = true) : (gridA v).all (·.oneCell') = true := by
  rw [Array.all_eq_true]
  intro i hi
  simp only [gridA, Array.getElem_ofFn]
  exact h _ _
/-- One row of it. -/
def rowA (v : Int → Int → Value) (p : Int) : Array Value := Array.ofFn (n := 17) fun i => v p ((i.val : Nat) : Int)
theorem rowA_size (v : Int → Int → Value) (p : Int) : (rowA v p).size = 17 := by simp [rowA]
theorem rowA_get (v : Int → Int → Value) (p : Int) {i : Nat} (h : i < 17) : (rowA v p)[i]? = some (v p i) := by simp [rowA, h]
theorem gridA_row (v : Int → Int → Value) {p : Nat} (hp : p < 17) : (gridA v).extract (p * 17) (p * 17 + 17) = rowA v p := by
  apply Array.ext_getElem?
  intro j
  by_cases hj : j < 17
  · have e := gridA_at v hp hj
    rw [Array.getElem?_eq_getElem (by rw [gridA_size]; omega)] at e
    rw [rowA_get v p hj, Array.getElem?_extract_of_lt (by rw [gridA_size]; omega), e]
  · rw [Array.getElem?_eq_none (by simp [gridA_size]; omega), Array.getElem?_eq_none (by rw [rowA_size]; omega)]
/-- A graph's cells: its capacities, and whether a call made it. -/
def graC (f : Int → Int → Int) (b : Bool) : Array Value := Array.ofFn (n := 290) fun i => if i.val = 289 then .bool b else .int .i64 (f ((i.val / 17 : Nat) : Int) ((i.val % 17 : Nat) : Int))
theorem graC_size (f : Int → Int → Int) (b : Bool) : (graC f b).size = 290 := by simp [graC]
theorem graC_made (f : Int → Int → Int) (b : Bool) : (graC f b)[289]? = some (.bool b) := by simp [graC]
theorem graC_get (f : Int → Int → Int) (b : Bool) {i : Nat} (h : i < 289) : (graC f b)[i]? = some (.int .i64 (f ((i / 17 : Nat) : Int) ((i % 17 : Nat) : Int))) := by
  have h1 : i < 290 := by omega
  have h2 : i ≠ 289 := by omega
  simp [graC, h1, h2]
theorem graC_at (f : Int → Int → Int) (b : Bool) {p q : Nat} (hp : p < 17) (hq : q < 17) : (graC f b)[p * 17 + q]? = some (.int .i64 (f p q)) := by
  rw [graC_get _ _ (by omega), show (p * 17 + q) / 17 = p by omega, show (p * 17 + q) % 17 = q by omega]
theorem graC_set (f : Int → Int → Int) (b : Bool) {p q : Nat} (hp : p < 17) (hq : q < 17) (n : Int) : (graC f b).setIfInBounds (p * 17 + q) (.int .i64 n) = graC (updE f p q n) b := by
  apply Array.ext_getElem?
  intro j
  by_cases hj : j < 289
  · rw [graC_get _ _ hj]
    unfold updE
    by_cases hi : p * 17 + q = j
    · subst hi
      rw [Array.getElem?_setIfInBounds_self_of_lt (by rw [graC_size]; omega), show (p * 17 + q) / 17 = p by omega, show (p * 17 + q) % 17 = q by omega, if_pos ⟨rfl, rfl⟩]
    · rw [Array.getElem?_setIfInBounds_ne hi, graC_get _ _ hj, if_neg]
      rintro ⟨e1, e2⟩
      omega
  · by_cases h2 : j = 289
    · subst h2
      rw [Array.getElem?_setIfInBounds_ne (by omega), graC_made, graC_made]
    · rw [Array.getElem?_eq_none (by simp [graC_size]; omega), Array.getElem?_eq_none (by rw [graC_size]; omega)]
theorem graC_congr {f g : Int → Int → Int} (b : Bool) (h : ∀ p q : Nat, p < 17 → q < 17 → f p q = g p q) : graC f b = graC g b := by
  unfold graC
  congr 1
  funext i
  by_cases hi : i.val = 289
  · simp [hi]
  · rw [if_neg hi, if_neg hi, h _ _ (by omega) (by omega)]
/-- The capacities alone, as one value. -/
def capA (f : Int → Int → Int) : Array Value := gridA fun p q => .int .i64 (f p q)
theorem capA_size (f : Int → Int → Int) : (capA f).size = 289 := gridA_size _
theorem capA_one (f : Int → Int → Int) : (capA f).all (·.oneCell') = true := gridA_one _ fun _ _ => rfl
theorem capA_get (f : Int → Int → Int) {i : Nat} (h : i < 289) : (capA f)[i]? = some (.int .i64 (f ((i / 17 : Nat) : Int) ((i % 17 : Nat) : Int))) := gridA_get _ h
theorem cap_range {w : World} {g : Nat} {f : Int → Int → Int} {b : Bool} {t : TypeId} (h : Blk w g (graC f b) t) : w.rangeAt g 0 (capA f).toList := by
  intro j v hv
  have hj : j < 289 := by
    rcases Nat.lt_or_ge j 289 with h | h
    · exact h
    · rw [List.getElem?_eq_none (by simp [capA_size]; omega)] at hv; cases hv
  rw [Nat.zero_add, h.cell j, graC_get _ _ hj]
  rw [Array.getElem?_toList, capA_get _ hj] at hv
  exact hv
theorem Blk.cap {w : World} {g : Nat} {f : Int → Int → Int} {b : Bool} {t : TypeId} (h : Blk w g (graC f b) t) {p q : Int} (h0 : 0 ≤ p) (h1 : p < 17) (h2 : 0 ≤ q) (h3 : q < 17) : w.cell? ⟨g, p.toNat * 17 + q.toNat, none⟩ = some (.int .i64 (f p q)) := by
  rw [h.cell, graC_at f b (by omega) (by omega), Int.toNat_of_nonneg h0, Int.toNat_of_nonneg h2]
theorem Blk.capSet {w : World} {g : Nat} {f : Int → Int → Int} {b : Bool} {t : TypeId} (h : Blk w g (graC f b) t) {p q : Int} (h0 : 0 ≤ p) (h1 : p < 17) (h2 : 0 ≤ q) (h3 : q < 17) (n : Int) :
    Blk (w.setCell ⟨g, p.toNat * 17 + q.toNat, none⟩ (.int .i64 n)) g (graC (updE f p q n) b) t := by
  have := h.set (p.toNat * 17 + q.toNat) (.int .i64 n)
  rw [graC_set f b (by omega) (by omega), Int.toNat_of_nonneg h0, Int.toNat_of_nonneg h2] at this
  exact this
theorem Blk.madeG {w : World} {g : Nat} {f : Int → Int → Int} {b : Bool} {t : TypeId} (h : Blk w g (graC f b) t) : w.cell? ⟨g, 289, none⟩ = some (.bool b) := by rw [h.cell, graC_made]

/-- '==' on two arrays whose elements are arrays. -/
theorem run_equalIn_rows {P : Program} (d : Nat) (t e : TypeId) (n k : Nat) (ht : P.underlying t = some (.array n e)) (hsz : ∀ w, (sizeOf e).run P w = .ok k w)
    (hagg : ∀ w, (isAgg e).run P w = .ok true w) (xs ys : Array Value) (f : Nat → Bool)
    (heq : ∀ i w, i < n → (Op.equalIn d e (.agg (xs.extract (i * k) (i * k + k))) (.agg (ys.extract (i * k) (i * k + k)))).run P w = .ok (f i) w) (w : World) :
    (Op.equalIn (d + 1) t (.agg xs) (.agg ys)).run P w = .ok ((List.range n).all f) w := by
  simp only [Op.equalIn, Sem.run_bind, run_underlying ht, Result.andThen_ok, hsz]
  simp only [Std.Legacy.Range.forIn_eq_forIn_range', Std.Legacy.Range.size, Nat.sub_zero, Nat.add_one_sub_one, Nat.div_one]
  have key : ∀ is : List Nat, (∀ i ∈ is, i < n) → (forIn is ((none : Option Bool), ()) fun i __s => do
            let __do_lift ← part e xs (i * k)
            let __do_lift_1 ← part e ys (i * k)
            let __do_lift ← Op.equalIn d e __do_lift __do_lift_1
            if (!__do_lift) = true then pure (ForInStep.done (some false, ())) else pure (ForInStep.yield (none, ()))).run P w = .ok (if is.all f then ((none : Option Bool), ()) else (some false, ())) w := by
    intro is
    induction is with
    | nil => intro _; simp
    | cons j is ih =>
      intro hall
      have hj : j < n := hall j (by simp)
      have px : (part e xs (j * k)).run P w = .ok (.agg (xs.extract (j * k) (j * k + k))) w := by simp [part, hagg, hsz]
      have py : (part e ys (j * k)).run P w = .ok (.agg (ys.extract (j * k) (j * k + k))) w := by simp [part, hagg, hsz]
      have pe := heq j w hj
      simp only [List.forIn_cons, Sem.run_bind, px, py, pe, Result.andThen_ok]
      cases hf : f j
      · simp [hf]
      · simp only [Bool.not_true, Bool.false_eq_true, if_false, Sem.run_pure, Result.andThen_ok, ih (fun y hy => hall y (by simp [hy])), List.all_cons, hf, Bool.true_and]
  rw [key _ (by intro i hi; simpa [List.mem_range'] using hi), ← List.range_eq_range']
  cases (List.range n).all f <;> simp
/-- The same capacities? -/
def sameF (f g : Int → Int → Int) : Bool := (List.range 17).all fun i => (List.range 17).all fun j => f i j == g i j
theorem sameF_iff {f g : Int → Int → Int} : sameF f g = true ↔ ∀ p q : Nat, p < 17 → q < 17 → f p q = g p q := by
  unfold sameF
  simp only [List.all_eq_true, List.mem_range, beq_iff_eq]
  exact ⟨fun h p q hp hq => h p hp q hq, fun h p hp q hq => h p q hp hq⟩
theorem sameF_refl (f : Int → Int → Int) : sameF f f = true := sameF_iff.2 fun _ _ _ _ => rfl
theorem sameF_self {f g : Int → Int → Int} (h : ∀ p q : Nat, p < 17 → q < 17 → f p q = g p q) : sameF f g = true := sameF_iff.2 h
attribute [irreducible] graC capA rowA gridA

/-- An array's element, in the walk: what it comes to is known. -/
theorem wpList_index_of {P : Program} {ops : Array Oper} {rest : List Oper} {o : Oper} {a : Act} {w : World} {Q : Exit → Act → World → Prop} (hgd : o.guard = none) (t : TypeId) (x y : Operand) (ho : o.op = .index t x y)
    (u i v : Value) (hx : a.eval x = u) (hy : a.eval y = i) (hrun : (Instr.index t u i).run P w = .ok v w)
    (h : wpList P ops Q rest (a.put o.dst v) w) : wpList P ops Q (o :: rest) a w :=
  wpList_plain hgd fun _ hK => by
    unfold Oper.wp execOp
    simp only [ho, hx, hy, Sem.run_bind, hrun, Result.andThen_ok]
    exact hK _ _ h
theorem run_index_row {P : Program} (t e : TypeId) (n k : Nat) (ht : P.underlying t = some (.array n e)) (hsz : ∀ w, (sizeOf e).run P w = .ok k w) (hagg : ∀ w, (isAgg e).run P w = .ok true w) (xs : Array Value) (i : Nat) (hi : i < n) (w : World) :
    (Instr.index t (.agg xs) (.int .i64 i)).run P w = .ok (.agg (xs.extract (i * k) (i * k + k))) w := by
  simp only [Instr.index, asIntOf, Sem.run_bind, Sem.run_pure, Result.andThen_ok, run_underlying ht]
  rw [if_pos ⟨by omega, by omega⟩]
  simp [part, hsz, hagg]
theorem run_index_cell {P : Program} (t e : TypeId) (n : Nat) (ht : P.underlying t = some (.array n e)) (hsz : ∀ w, (sizeOf e).run P w = .ok 1 w) (hagg : ∀ w, (isAgg e).run P w = .ok false w) (xs : Array Value) (i : Nat) (hi : i < n) (v : Value) (hv : xs[i]? = some v) (w : World) :
    (Instr.index t (.agg xs) (.int .i64 i)).run P w = .ok v w := by
  simp only [Instr.index, asIntOf, Sem.run_bind, Sem.run_pure, Result.andThen_ok, run_underlying ht]
  rw [if_pos ⟨by omega, by omega⟩]
  simp [part, hsz, hagg, hv]

end Go.Proofs.Ytmfacfnbokadmaa
