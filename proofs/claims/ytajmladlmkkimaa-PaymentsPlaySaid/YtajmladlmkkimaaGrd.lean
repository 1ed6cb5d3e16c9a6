/-
  The program's graphs in memory: seventeen rows of seventeen numbers, and a mark; what the model does with such an array as a whole.
-/
import Derived.Test.YtajmladlmkkimaaGraphMath
import Derived.Test.YtajmladlmkkimaaHeap
import Derived.Test.YtajmladlmkkimaaBitArr
import Derived.Deep.MidRow
import Derived.Deep.WholeRow
import Derived.Test.YtajmladlmkkimaaLays
namespace Go.Proofs.Ytajmladlmkkimaa
open Go.RowKit
set_option linter.unusedSimpArgs false
set_option linter.unusedVariables false

/-- Seventeen rows of seventeen cells. -/
def gridA (v : Int → Int → Value) : Array Value := Array.ofFn (n := 289) fun i => v ((i.val / 17 : Nat) : Int) ((i.val % 17 : Nat) : Int)
theorem gridA_size (v : Int → Int → Value) : (gridA v).size = 289 := by simp [gridA]
theorem gridA_get (v : Int → Int → Value) {i : Nat} (h : i < 289) : (gridA v)[i]? = some (v ((i / 17 : Nat) : Int) ((i % 17 : Nat) : Int)) := by simp [gridA, h]
theorem gridA_at (v : Int → Int → Value) {p q : Nat} (hp : p < 17) (hq : q < 17) : (gridA v)[p * 17 + q]? = some (v p q) := by
  rw [gridA_get _ (by omega), show (p * 17 + q) / 17 = p by omega, show (p * 17 + q) % 17 = q by omega]
theorem gridA_set (v : Int → Int → Value) {p q : Nat} (hp : p < 17) (hq : q < 17) (u : Value) : (gridA v).setIfInBounds (p * 17 + q) u = gridA fun a b => if a = p ∧ b = q then u else v a b := by
  apply Array.ext_getElem?
  intro j
  by_cases hj : j < 289
  · rw [gridA_get _ hj]
    by_cases hi : p * 17 + q = j
    · subst hi
      rw [Array.getElem?_setIfInBounds_self_of_lt (by rw [gridA_size]; omega), show (p * 17 + q) / 17 = p by omega, show (p * 17 + q) % 17 = q by omega, if_pos ⟨rfl, rfl⟩]
    · rw [Array.getElem?_setIfInBounds_ne hi, gridA_get _ hj, if_neg]
      rintro ⟨e1, e2⟩
      omega
  · rw [Array.getElem?_eq_none (by simp [gridA_size]; omega), Array.getElem?_eq_none (by rw [gridA_size]; omega)]
theorem gridA_one (v : Int → Int → Value) (h : ∀ p q, (v p q).oneCell' = true) : (gridA v).all (·.oneCell') = true := by
  rw [Array.all_eq_true]
  intro i hi
  simp only [gridA, Array.getElem_ofFn]
  exact h _ _
/-- One row of it. -/
def rowA (v : Int → Int → Value) (p : Int) : Array Value := Array.ofFn (n := 17) fun i => v p ((i.val : Nat) : Int)
theorem rowA_size (v : Int → Int → Value) (p : Int) : (rowA v p).size = 17 := by simp [rowA]
theorem rowA_get (v : Int → Int → Value) (p : Int) {i : Nat} (h : i < 17) : (rowA v p)[i]? = some (v p i) := by simp [rowA, h]
theorem gridA_row (v : Int → Int → Value) {p : Nat} (hp : p < 17) : (gridA v).extract (p * 17) (p * 17 + 17) = rowA v p := by
  apply Array.ext_getElem?
  intro j
  by_cases hj : j < 17
  · have e := gridA_at v hp hj
    rw [Array.getElem?_eq_getElem (by rw [gridA_size]; omega)] at e
    rw [rowA_get v p hj, Array.getElem?_extract_of_lt (by rw [gridA_size]; omega), e]
  · rw [Array.getElem?_eq_none (by simp [gridA_size]; omega), Array.getElem?_eq_none (by rw [rowA_size]; omega)]
/-- A graph's cells: its capacities, and whether a call made it. -/
def graC (f : Int → Int → Int) (b : Bool) : Array Value := Array.ofFn (n := 290) fun i => if i.val = 289 then .bool b else .int .i64 (f ((i.val / 17 : Nat) : Int) ((i.val % 17 : Nat) : Int))
theorem graC_size (f : Int → Int → Int) (b : Bool) : (graC f b).size = 290 := by simp [graC]
theorem graC_made (f : Int → Int → Int) (b : Bool) : (graC f b)[289]? = some (.bool b) := by simp [graC]
theorem graC_get (f : Int → Int → Int) (b : Bool) {i : Nat} (h : i < 289) : (graC f b)[i]? = some (.int .i64 (f ((i / 17 : Nat) : Int) ((i % 17 : Nat) : Int))) := by
  have h1 : i < 290 := by omega
  have h2 : i ≠ 289 := by omega
  simp [graC, h1, h2]
theorem graC_at (f : Int → Int → Int) (b : Bool) {p q : Nat} (hp : p < 17) (hq : q < 17) : (graC f b)[p * 17 + q]? = some (.int .i64 (f p q)) := by
  rw [graC_get _ _ (by omega), show (p * 17 + q) / 17 = p by omega, show (p * 17 + q) % 17 = q by omega]
theorem graC_set (f : Int → Int → Int) (b : Bool) {p q : Nat} (hp : p < 17) (hq : q < 17) (n : Int) : (graC f b).setIfInBounds (p * 17 + q) (.int .i64 n) = graC (updE f p q n) b := by
  apply Array.ext_getElem?
  intro j
  by_cases hj : j < 289
  · rw [graC_get _ _ hj]
    unfold updE
    by_cases hi : p * 17 + q = j
    · subst hi
      rw [Array.getElem?_setIfInBounds_self_of_lt (by rw [graC_size]; omega), show (p * 17 + q) / 17 = p by omega, show (p * 17 + q) % 17 = q by omega, if_pos ⟨rfl, rfl⟩]
    · rw [Array.getElem?_setIfInBounds_ne hi, graC_get _ _ hj, if_neg]
      rintro ⟨e1, e2⟩
      omega
  · by_cases h2 : j = 289
    · subst h2
      rw [Array.getElem?_setIfInBounds_ne (by omega), graC_made, graC_made]
    · rw [Array.getElem?_eq_none (by simp [graC_size]; omega), Array.getElem?_eq_none (by rw [graC_size]; omega)]
theorem graC_congr {f g : Int → Int → Int} (b : Bool) (h : ∀ p q : Nat, p < 17 → q < 17 → f p q = g p q) : graC f b = graC g b := by
  unfold graC
  congr 1
  funext i
  by_cases hi : i.val = 289
  · simp [hi]
  · rw [if_neg hi, if_neg hi, h _ _ (by omega) (by omega)]
/-- The capacities alone, as one value. -/
def capA (f : Int → Int → Int) : Array Value := gridA fun p q => .int .i64 (f p q)
theorem capA_size (f : Int → Int → Int) : (capA f).size = 289 := gridA_size _
theorem capA_one (f : Int → Int → Int) : (capA f).all (·.oneCell') = true := gridA_one _ fun _ _ => rfl
theorem capA_get (f : Int → Int → Int) {i : Nat} (h : i < 289) : (capA f)[i]? = some (.int .i64 (f ((i / 17 : Nat) : Int) ((i % 17 : Nat) : Int))) := gridA_get _ h
theorem cap_range {w : World} {g : Nat} {f : Int → Int → Int} {b : Bool} {t : TypeId} (h : Blk w g (graC f b) t) : w.rangeAt g 0 (capA f).toList := by
  intro j v hv
  have hj : j < 289 := by
    rcases Nat.lt_or_ge j 289 with h | h
    · exact h
    · rw [List.getElem?_eq_none (by simp [capA_size]; omega)] at hv; cases hv
  rw [Nat.zero_add, h.cell j, graC_get _ _ hj]
  rw [Array.getElem?_toList, capA_get _ hj] at hv
  exact hv
theorem Blk.cap {w : World} {g : Nat} {f : Int → Int → Int} {b : Bool} {t : TypeId} (h : Blk w g (graC f b) t) {p q : Int} (h0 : 0 ≤ p) (h1 : p < 17) (h2 : 0 ≤ q) (h3 : q < 17) : w.cell? ⟨g, p.toNat * 17 + q.toNat, none⟩ = some (.int .i64 (f p q)) := by
  rw [h.cell, graC_at f b (by omega) (by omega), Int.toNat_of_nonneg h0, Int.toNat_of_nonneg h2]
theorem Blk.capSet {w : World} {g : Nat} {f : Int → Int → Int} {b : Bool} {t : TypeId} (h : Blk w g (graC f b) t) {p q : Int} (h0 : 0 ≤ p) (h1 : p < 17) (h2 : 0 ≤ q) (h3 : q < 17) (n : Int) :
    Blk (w.setCell ⟨g, p.toNat * 17 + q.toNat, none⟩ (.int .i64 n)) g (graC (updE f p q n) b) t := by
  have := h.set (p.toNat * 17 + q.toNat) (.int .i64 n)
  rw [graC_set f b (by omega) (by omega), Int.toNat_of_nonneg h0, Int.toNat_of_nonneg h2] at this
  exact this
theorem Blk.madeG {w : World} {g : Nat} {f : Int → Int → Int} {b : Bool} {t : TypeId} (h : Blk w g (graC f b) t) : w.cell? ⟨g, 289, none⟩ = some (.bool b) := by rw [h.cell, graC_made]

/-- '==' on two arrays whose elements are arrays. -/
theorem run_equalIn_rows {P : Program} (d : Nat) (t e : TypeId) (n k : Nat) (ht : P.underlying t = some (.array n e)) (hsz : ∀ w, (sizeOf e).run P w = .ok k w)
    (hagg : ∀ w, (isAgg e).run P w = .ok true w) (xs ys : Array Value) (f : Nat → Bool)
    (heq : ∀ i w, i < n → (Op.equalIn d e (.agg (xs.extract (i * k) (i * k + k))) (.agg (ys.extract (i * k) (i * k + k)))).run P w = .ok (f i) w) (w : World) :
    (Op.equalIn (d + 1) t (.agg xs) (.agg ys)).run P w = .ok ((List.range n).all f) w := by
  simp only [Op.equalIn, Sem.run_bind, run_underlying ht, Result.andThen_ok, hsz]
  simp only [Std.Legacy.Range.forIn_eq_forIn_range', Std.Legacy.Range.size, Nat.sub_zero, Nat.add_one_sub_one, Nat.div_one]
  have key : ∀ is : List Nat, (∀ i ∈ is, i < n) → (forIn is ((none : Option Bool), ()) fun i __s => do
            let __do_lift ← part e xs (i * k)
            let __do_lift_1 ← part e ys (i * k)
            let __do_lift ← Op.equalIn d e __do_lift __do_lift_1
            if (!__do_lift) = true then pure (ForInStep.done (some false, ())) else pure (ForInStep.yield (none, ()))).run P w = .ok (if is.all f then ((none : Option Bool), ()) else (some false, ())) w := by
    intro is
    induction is with
    | nil => intro _; simp
    | cons j is ih =>
      intro hall
      have hj : j < n := hall j (by simp)
      have px : (part e xs (j * k)).run P w = .ok (.agg (xs.extract (j * k) (j * k + k))) w := by simp [part, hagg, hsz]
      have py : (part e ys (j * k)).run P w = .ok (.agg (ys.extract (j * k) (j * k + k))) w := by simp [part, hagg, hsz]
      have pe := heq j w hj
      simp only [List.forIn_cons, Sem.run_bind, px, py, pe, Result.andThen_ok]
      cases hf : f j
      · simp [hf]
      · simp only [Bool.not_true, Bool.false_eq_true, if_false, Sem.run_pure, Result.andThen_ok, ih (fun y hy => hall y (by simp [hy])), List.all_cons, hf, Bool.true_and]
  rw [key _ (by intro i hi; simpa [List.mem_range'] using hi), ← List.range_eq_range']
  cases (List.range n).all f <;> simp
/-- The same capacities? -/
def sameF (f g : Int → Int → Int) : Bool := (List.range 17).all fun i => (List.range 17).all fun j => f i j == g i j
theorem sameF_iff {f g : Int → Int → Int} : sameF f g = true ↔ ∀ p q : Nat, p < 17 → q < 17 → f p q = g p q := by
  unfold sameF
  simp only [List.all_eq_true, List.mem_range, beq_iff_eq]
  exact ⟨fun h p q hp hq => h p hp q hq, fun h p hp q hq => h p q hp hq⟩
theorem sameF_refl (f : Int → Int → Int) : sameF f f = true := sameF_iff.2 fun _ _ _ _ => rfl
theorem sameF_self {f g : Int → Int → Int} (h : ∀ p q : Nat, p < 17 → q < 17 → f p q = g p q) : sameF f g = true := sameF_iff.2 h
theorem equal_caps (f g : Int → Int → Int) (w : World) : (Op.equalIn 10000 130 (.agg (capA f)) (.agg (capA g))).run Try.prog w = .ok (sameF f g) w := by
  refine run_equalIn_rows (P := Try.prog) 9999 130 128 17 17 Try.underlying130 (fun w => by kernel_rfl) (fun w => by kernel_rfl) (capA f) (capA g) (fun i => (List.range 17).all fun j => f i j == g i j) ?_ w
  intro i w hi
  unfold capA
  rw [gridA_row _ hi, gridA_row _ hi]
  refine run_equalIn_cells (P := Try.prog) 9998 128 2 17 Try.underlying128 (fun w => by kernel_rfl) (fun w => by kernel_rfl) _ _ (rowA_size _ _) (rowA_size _ _) _ ?_ w
  intro j x y w hx hy
  have hj : j < 17 := by
    rcases Nat.lt_or_ge j 17 with h | h
    · exact h
    · rw [Array.getElem?_eq_none (by rw [rowA_size]; exact h)] at hx; cases hx
  rw [rowA_get _ _ hj] at hx hy
  cases hx; cases hy
  exact run_equalIn_int w 9997 2 .i64 .i64 (f i j) (g i j) Try.underlying2
theorem build_gra0 (w : World) : (Instr.build 132 #[(1, .bool true)]).run Try.prog w = .ok (.agg (graC zeroF true)) w := by
  have h : (Instr.build 132 #[(1, .bool true)]).run Try.prog = fun w => .ok (.agg (graC zeroF true)) w := by kernel_rfl
  rw [h]
theorem build_caps0 (w : World) : (Instr.build 130 #[]).run Try.prog w = .ok (.agg (capA zeroF)) w := by
  have h : (Instr.build 130 #[]).run Try.prog = fun w => .ok (.agg (capA zeroF)) w := by kernel_rfl
  rw [h]
theorem build_gra (f : Int → Int → Int) (w : World) : (Instr.build 132 #[(0, .agg (capA f)), (1, .bool true)]).run Try.prog w = .ok (.agg (graC f true)) w := by
  have h : (Instr.build 132 #[(0, .agg (capA f)), (1, .bool true)]).run Try.prog = fun w => .ok (.agg (graC f true)) w := by kernel_rfl
  rw [h]
theorem zero_caps : (∀ w, (zeroValue 130).run Try.prog w = .ok (.agg (capA zeroF)) w) ∧ (Try.prog.info? 130).map (·.size) = some 289 :=
  zero_of_info (by kernel_rfl)
theorem zero_row : (∀ w, (zeroValue 128).run Try.prog w = .ok (.agg (rowA (fun _ _ => .int .i64 0) 0)) w) ∧ (Try.prog.info? 128).map (·.size) = some 17 :=
  zero_of_info (by kernel_rfl)
theorem info_caps (f : Int → Int → Int) : (Try.prog.info? 130).map (·.size) = some (capA f).size := by rw [capA_size]; exact zero_caps.2
theorem info_caps_l (f : Int → Int → Int) : (Try.prog.info? 130).map (·.size) = some (capA f).toList.length := by rw [Array.length_toList]; exact info_caps f
theorem zero_gra : (∀ w, (zeroValue 132).run Try.prog w = .ok (.agg (graC zeroF false)) w) ∧ (Try.prog.info? 132).map (·.size) = some 290 :=
  zero_of_info (by kernel_rfl)
attribute [irreducible] graC capA rowA gridA

/-- An array's element, in the walk: what it comes to is known. -/
theorem wpList_index_of {P : Program} {ops : Array Oper} {rest : List Oper} {o : Oper} {a : Act} {w : World} {Q : Exit → Act → World → Prop} (hgd : o.guard = none) (t : TypeId) (x y : Operand) (ho : o.op = .index t x y)
    (u i v : Value) (hx : a.eval x = u) (hy : a.eval y = i) (hrun : (Instr.index t u i).run P w = .ok v w)
    (h : wpList P ops Q rest (a.put o.dst v) w) : wpList P ops Q (o :: rest) a w :=
  wpList_plain hgd fun _ hK => by
    unfold Oper.wp execOp
    simp only [ho, hx, hy, Sem.run_bind, hrun, Result.andThen_ok]
    exact hK _ _ h
theorem run_index_row {P : Program} (t e : TypeId) (n k : Nat) (ht : P.underlying t = some (.array n e)) (hsz : ∀ w, (sizeOf e).run P w = .ok k w) (hagg : ∀ w, (isAgg e).run P w = .ok true w) (xs : Array Value) (i : Nat) (hi : i < n) (w : World) :
    (Instr.index t (.agg xs) (.int .i64 i)).run P w = .ok (.agg (xs.extract (i * k) (i * k + k))) w := by
  simp only [Instr.index, asIntOf, Sem.run_bind, Sem.run_pure, Result.andThen_ok, run_underlying ht]
  rw [if_pos ⟨by omega, by omega⟩]
  simp [part, hsz, hagg]
theorem run_index_cell {P : Program} (t e : TypeId) (n : Nat) (ht : P.underlying t = some (.array n e)) (hsz : ∀ w, (sizeOf e).run P w = .ok 1 w) (hagg : ∀ w, (isAgg e).run P w = .ok false w) (xs : Array Value) (i : Nat) (hi : i < n) (v : Value) (hv : xs[i]? = some v) (w : World) :
    (Instr.index t (.agg xs) (.int .i64 i)).run P w = .ok v w := by
  simp only [Instr.index, asIntOf, Sem.run_bind, Sem.run_pure, Result.andThen_ok, run_underlying ht]
  rw [if_pos ⟨by omega, by omega⟩]
  simp [part, hsz, hagg, hv]

end Go.Proofs.Ytajmladlmkkimaa

/-
  The program's graphs: partyMay, edgeMay, Cap, Push, all, Same, Copy.
-/
namespace Go.Proofs.Ytajmladlmkkimaa
open Go.RowKit
set_option linter.unusedSimpArgs false
set_option linter.unusedVariables false

def mayG (p : Int) : Bool := decide (1 ≤ p ∧ p ≤ 16)
theorem mayG_true {p : Int} (h : inP p) : mayG p = true := by unfold mayG; unfold inP at h; simp; omega
theorem mayG_false {p : Int} (h : ¬ inP p) : mayG p = false := by unfold mayG; unfold inP at h; simp; omega
theorem gmay_any (p : Int) (w : World) : Calls Try.prog 105 #[.int .u8 p] w fun e w' => e = .returned (.bool (mayG p)) ∧ w = w' := by
  have hs : (¬ 1 ≤ p ∧ mayG p = false) ∨ (1 ≤ p ∧ p ≤ 16 ∧ mayG p = true) ∨ (1 ≤ p ∧ ¬ p ≤ 16 ∧ mayG p = false) := by unfold mayG; simp; omega
  rcases hs with ⟨h1, h2⟩ | ⟨h1, h3, h2⟩ | ⟨h1, h3, h2⟩
  all_goals
    rw [h2]
    clear h2
    go_enter Try.func105, Try.ntmps105
    go_wp2
    go_ret
    exact ⟨rfl, rfl⟩


def outF (f : Int → Int → Int) : Prop := ∀ p q, ¬ (inP p ∧ inP q) → f p q = 0
theorem GInv.outF {f : Int → Int → Int} {B : Int} (h : GInv f B) : outF f := h.out
theorem outF_zero : outF zeroF := fun _ _ _ => rfl
set_option maxHeartbeats 2000000 in
theorem gcap_any {w : World} {g : Nat} {f : Int → Int → Int} {b : Bool} (h : Blk w g (graC f b) 132) (ho : outF f) (p q : Int) :
    Calls Try.prog 74 #[.pointer (some ⟨g, 0, none⟩), .int .u8 p, .int .u8 q] w fun e w' => e = .returned (.int .i64 (f p q)) ∧ w = w' := by
  have C1 := Lib.hid (gmay_any p w)
  have C2 := Lib.hid (gmay_any q w)
  have hlt := h.lt
  by_cases hp : inP p
  · by_cases hq : inP q
    · rw [mayG_true hp] at C1
      rw [mayG_true hq] at C2
      obtain ⟨p1, p2⟩ := hp
      obtain ⟨q1, q2⟩ := hq
      have d := h.cap (p := p) (q := q) (by omega) (by omega) (by omega) (by omega)
      have p3 : 0 ≤ p := by omega
      have p4 : p < 17 := by omega
      have q3 : 0 ≤ q := by omega
      have q4 : q < 17 := by omega
      clear h ho
      generalize f p q = n at *
      go_enter Try.func74, Try.ntmps74
      go_wp2_with fail
      refine C1.out.mono ?_
      rintro e w ⟨rfl, rfl⟩
      go_wp2_with fail
      refine C2.out.mono ?_
      rintro e w ⟨rfl, rfl⟩
      go_wp2_with fail
      go_ret
      exact ⟨rfl, rfl⟩
    · rw [mayG_true hp] at C1
      rw [mayG_false hq] at C2
      rw [ho p q (fun e => hq e.2)]
      clear h ho hp hq
      go_enter Try.func74, Try.ntmps74
      go_wp2_with fail
      refine C1.out.mono ?_
      rintro e w ⟨rfl, rfl⟩
      go_wp2_with fail
      refine C2.out.mono ?_
      rintro e w ⟨rfl, rfl⟩
      go_wp2_with fail
      go_ret
      exact ⟨rfl, rfl⟩
  · rw [mayG_false hp] at C1
    rw [ho p q (fun e => hp e.1)]
    clear h ho hp
    go_enter Try.func74, Try.ntmps74
    go_wp2_with fail
    refine C1.out.mono ?_
    rintro e w ⟨rfl, rfl⟩
    go_wp2_with fail
    go_ret
    exact ⟨rfl, rfl⟩
theorem gcap_nil (p q : Int) (w : World) : Calls Try.prog 74 #[.pointer none, .int .u8 p, .int .u8 q] w fun e w' => e = .returned (.int .i64 0) ∧ w = w' := by
  go_enter Try.func74, Try.ntmps74
  go_wp2
  go_ret
  exact ⟨rfl, rfl⟩

/-! Push, all, Same, Copy. -/

def gPushE (f : Int → Int → Int) (a b n : Int) : Int := if n < 1 then 1 else if f a b < n then 11 else 0
def gPushF (f : Int → Int → Int) (a b n : Int) : Int → Int → Int := if 1 ≤ n ∧ n ≤ f a b then pushF f a b n else f
theorem GInv.gpush {f : Int → Int → Int} {B : Int} (h : GInv f B) (a b n : Int) : GInv (gPushF f a b n) B := by
  unfold gPushF
  split
  · rename_i hc; exact h.push hc.1 hc.2
  · exact h
theorem gpush_nil (p q n : Int) (w : World) : Calls Try.prog 91 #[.pointer none, .int .u8 p, .int .u8 q, .int .i64 n] w fun e w' => e = .returned (.int .i64 2) ∧ w = w' := by
  go_enter Try.func91, Try.ntmps91
  go_wp2
  go_ret
  exact ⟨rfl, rfl⟩
theorem gpush_unmade {w : World} {g : Nat} {f : Int → Int → Int} (h : Blk w g (graC f false) 132) (p q n : Int) : Calls Try.prog 91 #[.pointer (some ⟨g, 0, none⟩), .int .u8 p, .int .u8 q, .int .i64 n] w fun e w' => e = .returned (.int .i64 2) ∧ w = w' := by
  have d := h.madeG
  have hlt := h.lt
  clear h
  go_enter Try.func91, Try.ntmps91
  go_wp2
  go_ret
  exact ⟨rfl, rfl⟩
set_option maxHeartbeats 8000000 in
set_option maxRecDepth 100000 in
theorem gpush_any {w : World} {g : Nat} {f : Int → Int → Int} {B : Int} (h : Blk w g (graC f true) 132) (hI : GInv f B) (hB : B ≤ 4611686018427387903) {a b n : Int} (hn : In64 n) :
    Calls Try.prog 91 #[.pointer (some ⟨g, 0, none⟩), .int .u8 a, .int .u8 b, .int .i64 n] w fun e w' => e = .returned (.int .i64 (gPushE f a b n)) ∧ Blk w' g (graC (gPushF f a b n) true) 132 ∧ Keep (· = g) w w' := by
  have KB := Lib.hid h
  have dm := h.madeG
  have hlt := h.lt
  have C := Lib.hid (gcap_any h hI.outF a b)
  obtain ⟨n0, n1⟩ := hn
  by_cases h1 : n < 1
  · have EE := Lib.hid (show gPushE f a b n = 1 ∧ gPushF f a b n = f from ⟨by unfold gPushE; rw [if_pos h1], by unfold gPushF; rw [if_neg (by omega)]⟩)
    clear h hI C
    go_enter Try.func91, Try.ntmps91
    go_wp2
    go_ret
    exact ⟨by rw [EE.out.1]; rfl, by rw [EE.out.2]; exact KB.out, Keep.refl _ _⟩
  by_cases h2 : f a b < n
  · have EE := Lib.hid (show gPushE f a b n = 11 ∧ gPushF f a b n = f from ⟨by unfold gPushE; rw [if_neg h1, if_pos h2], by unfold gPushF; rw [if_neg (by omega)]⟩)
    clear h hI
    obtain ⟨x, hx⟩ : ∃ x, f a b = x := ⟨_, rfl⟩
    rw [hx] at C h2
    clear hx
    go_enter Try.func91, Try.ntmps91
    go_wp2_with fail
    refine C.out.mono ?_
    rintro e w ⟨rfl, rfl⟩
    go_wp2_with fail
    go_ret
    exact ⟨by rw [EE.out.1]; rfl, by rw [EE.out.2]; exact KB.out, Keep.refl _ _⟩
  obtain ⟨⟨a1, a2⟩, ⟨b1, b2⟩, hab⟩ := hI.ends (p := a) (q := b) (by omega)
  have hbd := hI.pair a b
  have hnn := hI.nn b a
  have EE := Lib.hid (show gPushE f a b n = 0 ∧ gPushF f a b n = updE (updE f a b (f a b - n)) b a (f b a + n) from ⟨by unfold gPushE; rw [if_neg h1, if_neg h2], by unfold gPushF; rw [if_pos (by omega)]; rfl⟩)
  obtain ⟨x, hx⟩ : ∃ x, f a b = x := ⟨_, rfl⟩
  obtain ⟨y, hy⟩ : ∃ y, f b a = y := ⟨_, rfl⟩
  have hy2 : updE f a b (x - n) b a = y := by unfold updE; rw [if_neg (fun e => hab e.1.symm), hy]
  rw [hx, hy] at EE
  rw [hx] at C h2 hbd
  rw [hy] at hbd hnn
  have HX := Lib.hid hx
  have HY2 := Lib.hid hy2
  have HAB := Lib.hid hab
  clear h hI hx hy hy2 hab
  go_enter Try.func91, Try.ntmps91
  go_wp2_with fail
  refine C.out.mono ?_
  rintro e w ⟨rfl, rfl⟩
  go_wp2_with fail
  refine region_end (by kernel_rfl) 14 16 [(.pointer (some ⟨g, 0, none⟩)), (.int .u8 a), (.int .u8 b), (.pointer (some ⟨g, 0, none⟩)), (.pointer (some ⟨g, 0, none⟩)), (.pointer (some ⟨g, a.toNat * 17, none⟩)), (.pointer (some ⟨g, a.toNat * 17 + b.toNat, none⟩)), (.int .i64 x), (.int .i64 n), (.int .i64 (x - n)), (.pointer (some ⟨g, 0, none⟩)), (.pointer (some ⟨g, 0, none⟩)), (.pointer (some ⟨g, a.toNat * 17, none⟩)), (.pointer (some ⟨g, a.toNat * 17 + b.toNat, none⟩))]
    (fun w' => Below w.heap.size w w') (by kernel_rfl) rfl (by kernel_rfl) (Below.refl _ _).drew ?_
  intro af haf
  simp only [List.toList_toArray, List.append_eq, List.cons_append, List.nil_append, puts, Act.put, List.getD_cons_zero, List.getD_cons_succ, List.setIfInBounds_toArray, List.set_cons_succ, List.set_cons_zero] at haf
  subst haf
  refine ⟨?_, ?_⟩
  · simp only [List.toList_toArray, List.take_succ_cons, List.take_zero, EachTo]
    refine ⟨?_, ?_, ?_, ?_, ?_, ?_, ?_, ?_, ?_, ?_, ?_, ?_, ?_, ?_, trivial⟩
    · intro w' hS
      refine OpTo.plain ?_ ?_
      exact rfl
      have HS := Lib.hid hS
      clear hS
      go_wp2_with fail
      all_goals first | exact HS.out | exact ⟨rfl, HS.out⟩ | rfl | exact ⟨by omega, HS.out⟩
    · intro w' hS
      refine OpTo.plain ?_ ?_
      exact rfl
      have HS := Lib.hid hS
      clear hS
      go_wp2_with fail
      all_goals first | exact HS.out | exact ⟨rfl, HS.out⟩ | rfl | exact ⟨by omega, HS.out⟩
    · intro w' hS
      refine OpTo.plain ?_ ?_
      exact rfl
      have HS := Lib.hid hS
      clear hS
      go_wp2_with fail
      all_goals first | exact HS.out | exact ⟨rfl, HS.out⟩ | rfl | exact ⟨by omega, HS.out⟩
    · intro w' hS
      refine OpTo.plain ?_ ?_
      exact rfl
      have kb := KB.out.below hS KB.out.lt
      have hl := kb.lt
      have HS := Lib.hid hS
      clear hS
      go_wp2_with fail
      all_goals first | exact HS.out | exact ⟨rfl, HS.out⟩ | rfl | exact ⟨by omega, HS.out⟩
    · intro w' hS
      refine OpTo.plain ?_ ?_
      exact rfl
      have kb := KB.out.below hS KB.out.lt
      have hl := kb.lt
      have HS := Lib.hid hS
      clear hS
      go_wp2_with fail
      all_goals first | exact HS.out | exact ⟨rfl, HS.out⟩ | rfl | exact ⟨by omega, HS.out⟩
    · intro w' hS
      refine OpTo.plain ?_ ?_
      exact rfl
      have kb := KB.out.below hS KB.out.lt
      have hl := kb.lt
      have HS := Lib.hid hS
      clear hS
      go_wp2_with fail
      all_goals first | exact HS.out | exact ⟨rfl, HS.out⟩ | rfl | exact ⟨by omega, HS.out⟩
    · intro w' hS
      refine OpTo.plain ?_ ?_
      exact rfl
      have kb := KB.out.below hS KB.out.lt
      have hl := kb.lt
      have HS := Lib.hid hS
      clear hS
      go_wp2_with fail
      all_goals first | exact HS.out | exact ⟨rfl, HS.out⟩ | rfl | exact ⟨by omega, HS.out⟩
    · intro w' hS
      refine OpTo.plain ?_ ?_
      exact rfl
      have kb := KB.out.below hS KB.out.lt
      have hl := kb.lt
      have d := kb.cap (p := a) (q := b) (by omega) (by omega) (by omega) (by omega)
      rw [HX.out] at d
      have HS := Lib.hid hS
      clear hS
      go_wp2_with fail
      all_goals first | exact HS.out | exact ⟨rfl, HS.out⟩ | rfl | exact ⟨by omega, HS.out⟩
    · intro w' hS
      refine OpTo.plain ?_ ?_
      exact rfl
      have HS := Lib.hid hS
      clear hS
      go_wp2_with fail
      all_goals first | exact HS.out | exact ⟨rfl, HS.out⟩ | rfl | exact ⟨by omega, HS.out⟩
    · intro w' hS
      refine OpTo.plain ?_ ?_
      exact rfl
      have HS := Lib.hid hS
      clear hS
      go_wp2_with fail
      all_goals first | exact HS.out | exact ⟨rfl, HS.out⟩ | rfl | exact ⟨by omega, HS.out⟩
    · intro w' hS
      refine OpTo.plain ?_ ?_
      exact rfl
      have kb := KB.out.below hS KB.out.lt
      have hl := kb.lt
      have HS := Lib.hid hS
      clear hS
      go_wp2_with fail
      all_goals first | exact HS.out | exact ⟨rfl, HS.out⟩ | rfl | exact ⟨by omega, HS.out⟩
    · intro w' hS
      refine OpTo.plain ?_ ?_
      exact rfl
      have kb := KB.out.below hS KB.out.lt
      have hl := kb.lt
      have HS := Lib.hid hS
      clear hS
      go_wp2_with fail
      all_goals first | exact HS.out | exact ⟨rfl, HS.out⟩ | rfl | exact ⟨by omega, HS.out⟩
    · intro w' hS
      refine OpTo.plain ?_ ?_
      exact rfl
      have kb := KB.out.below hS KB.out.lt
      have hl := kb.lt
      have HS := Lib.hid hS
      clear hS
      go_wp2_with fail
      all_goals first | exact HS.out | exact ⟨rfl, HS.out⟩ | rfl | exact ⟨by omega, HS.out⟩
    · intro w' hS
      refine OpTo.plain ?_ ?_
      exact rfl
      have kb := KB.out.below hS KB.out.lt
      have hl := kb.lt
      have HS := Lib.hid hS
      clear hS
      go_wp2_with fail
      all_goals first | exact HS.out | exact ⟨rfl, HS.out⟩ | rfl | exact ⟨by omega, HS.out⟩
  simp only [List.getD_cons_succ, List.getD_cons_zero, List.toList_toArray]
  intro w' hS
  refine OpTo.plain ?_ ?_
  exact rfl
  have kb := Lib.hid ((KB.out.below hS KB.out.lt).capSet (p := a) (q := b) (by omega) (by omega) (by omega) (by omega) (x - n))
  have dm := (KB.out.below hS KB.out.lt).cap (p := a) (q := b) (by omega) (by omega) (by omega) (by omega)
  have fr := (KB.out.below hS KB.out.lt).frozen (a.toNat * 17 + b.toNat)
  have kk := Lib.hid ((Keep.of_below (S := (· = g)) hS).setCell (p := ⟨g, a.toNat * 17 + b.toNat, none⟩) (.inl rfl) (.int .i64 (x - n)))
  clear hS
  go_wp2_with fail
  generalize w'.setCell ⟨g, a.toNat * 17 + b.toNat, none⟩ (.int .i64 (x - n)) = w2 at *
  have KC := Lib.hid KB.out
  clear KB
  have KB := Lib.hid kb.out
  clear kb dm fr C
  refine region_end (by kernel_rfl) 14 16 [(.pointer (some ⟨g, 0, none⟩)), (.int .u8 b), (.int .u8 a), (.pointer (some ⟨g, 0, none⟩)), (.pointer (some ⟨g, 0, none⟩)), (.pointer (some ⟨g, b.toNat * 17, none⟩)), (.pointer (some ⟨g, b.toNat * 17 + a.toNat, none⟩)), (.int .i64 y), (.int .i64 n), (.int .i64 (y + n)), (.pointer (some ⟨g, 0, none⟩)), (.pointer (some ⟨g, 0, none⟩)), (.pointer (some ⟨g, b.toNat * 17, none⟩)), (.pointer (some ⟨g, b.toNat * 17 + a.toNat, none⟩))]
    (fun w' => Below w2.heap.size w2 w') (by kernel_rfl) rfl (by kernel_rfl) (Below.refl _ _).drew ?_
  intro af haf
  simp only [List.toList_toArray, List.append_eq, List.cons_append, List.nil_append, puts, Act.put, List.getD_cons_zero, List.getD_cons_succ, List.setIfInBounds_toArray, List.set_cons_succ, List.set_cons_zero] at haf
  subst haf
  refine ⟨?_, ?_⟩
  · simp only [List.toList_toArray, List.take_succ_cons, List.take_zero, EachTo]
    refine ⟨?_, ?_, ?_, ?_, ?_, ?_, ?_, ?_, ?_, ?_, ?_, ?_, ?_, ?_, trivial⟩
    · intro w' hS
      refine OpTo.plain ?_ ?_
      exact rfl
      have HS := Lib.hid hS
      clear hS
      go_wp2_with fail
      all_goals first | exact HS.out | exact ⟨rfl, HS.out⟩ | rfl | exact ⟨by omega, HS.out⟩
    · intro w' hS
      refine OpTo.plain ?_ ?_
      exact rfl
      have HS := Lib.hid hS
      clear hS
      go_wp2_with fail
      all_goals first | exact HS.out | exact ⟨rfl, HS.out⟩ | rfl | exact ⟨by omega, HS.out⟩
    · intro w' hS
      refine OpTo.plain ?_ ?_
      exact rfl
      have HS := Lib.hid hS
      clear hS
      go_wp2_with fail
      all_goals first | exact HS.out | exact ⟨rfl, HS.out⟩ | rfl | exact ⟨by omega, HS.out⟩
    · intro w' hS
      refine OpTo.plain ?_ ?_
      exact rfl
      have kb := KB.out.below hS KB.out.lt
      have hl := kb.lt
      have HS := Lib.hid hS
      clear hS
      go_wp2_with fail
      all_goals first | exact HS.out | exact ⟨rfl, HS.out⟩ | rfl | exact ⟨by omega, HS.out⟩
    · intro w' hS
      refine OpTo.plain ?_ ?_
      exact rfl
      have kb := KB.out.below hS KB.out.lt
      have hl := kb.lt
      have HS := Lib.hid hS
      clear hS
      go_wp2_with fail
      all_goals first | exact HS.out | exact ⟨rfl, HS.out⟩ | rfl | exact ⟨by omega, HS.out⟩
    · intro w' hS
      refine OpTo.plain ?_ ?_
      exact rfl
      have kb := KB.out.below hS KB.out.lt
      have hl := kb.lt
      have HS := Lib.hid hS
      clear hS
      go_wp2_with fail
      all_goals first | exact HS.out | exact ⟨rfl, HS.out⟩ | rfl | exact ⟨by omega, HS.out⟩
    · intro w' hS
      refine OpTo.plain ?_ ?_
      exact rfl
      have kb := KB.out.below hS KB.out.lt
      have hl := kb.lt
      have HS := Lib.hid hS
      clear hS
      go_wp2_with fail
      all_goals first | exact HS.out | exact ⟨rfl, HS.out⟩ | rfl | exact ⟨by omega, HS.out⟩
    · intro w' hS
      refine OpTo.plain ?_ ?_
      exact rfl
      have kb := KB.out.below hS KB.out.lt
      have hl := kb.lt
      have d := kb.cap (p := b) (q := a) (by omega) (by omega) (by omega) (by omega)
      rw [HY2.out] at d
      have HS := Lib.hid hS
      clear hS
      go_wp2_with fail
      all_goals first | exact HS.out | exact ⟨rfl, HS.out⟩ | rfl | exact ⟨by omega, HS.out⟩
    · intro w' hS
      refine OpTo.plain ?_ ?_
      exact rfl
      have HS := Lib.hid hS
      clear hS
      go_wp2_with fail
      all_goals first | exact HS.out | exact ⟨rfl, HS.out⟩ | rfl | exact ⟨by omega, HS.out⟩
    · intro w' hS
      refine OpTo.plain ?_ ?_
      exact rfl
      have HS := Lib.hid hS
      clear hS
      go_wp2_with fail
      all_goals first | exact HS.out | exact ⟨rfl, HS.out⟩ | rfl | exact ⟨by omega, HS.out⟩
    · intro w' hS
      refine OpTo.plain ?_ ?_
      exact rfl
      have kb := KB.out.below hS KB.out.lt
      have hl := kb.lt
      have HS := Lib.hid hS
      clear hS
      go_wp2_with fail
      all_goals first | exact HS.out | exact ⟨rfl, HS.out⟩ | rfl | exact ⟨by omega, HS.out⟩
    · intro w' hS
      refine OpTo.plain ?_ ?_
      exact rfl
      have kb := KB.out.below hS KB.out.lt
      have hl := kb.lt
      have HS := Lib.hid hS
      clear hS
      go_wp2_with fail
      all_goals first | exact HS.out | exact ⟨rfl, HS.out⟩ | rfl | exact ⟨by omega, HS.out⟩
    · intro w' hS
      refine OpTo.plain ?_ ?_
      exact rfl
      have kb := KB.out.below hS KB.out.lt
      have hl := kb.lt
      have HS := Lib.hid hS
      clear hS
      go_wp2_with fail
      all_goals first | exact HS.out | exact ⟨rfl, HS.out⟩ | rfl | exact ⟨by omega, HS.out⟩
    · intro w' hS
      refine OpTo.plain ?_ ?_
      exact rfl
      have kb := KB.out.below hS KB.out.lt
      have hl := kb.lt
      have HS := Lib.hid hS
      clear hS
      go_wp2_with fail
      all_goals first | exact HS.out | exact ⟨rfl, HS.out⟩ | rfl | exact ⟨by omega, HS.out⟩
  simp only [List.getD_cons_succ, List.getD_cons_zero, List.toList_toArray]
  intro w' hS
  refine OpTo.plain ?_ ?_
  exact rfl
  have kb := Lib.hid ((KB.out.below hS KB.out.lt).capSet (p := b) (q := a) (by omega) (by omega) (by omega) (by omega) (y + n))
  have dm := (KB.out.below hS KB.out.lt).cap (p := b) (q := a) (by omega) (by omega) (by omega) (by omega)
  have fr := (KB.out.below hS KB.out.lt).frozen (b.toNat * 17 + a.toNat)
  have k2 := Lib.hid ((kk.out.trans (Keep.of_below (S := (· = g)) hS)).setCell (p := ⟨g, b.toNat * 17 + a.toNat, none⟩) (.inl rfl) (.int .i64 (y + n)))
  clear hS
  go_wp2_with fail
  generalize w'.setCell ⟨g, b.toNat * 17 + a.toNat, none⟩ (.int .i64 (y + n)) = w3 at *
  go_ret
  exact ⟨by rw [EE.out.1]; rfl, by rw [EE.out.2]; exact kb.out, k2.out⟩

/-- A graph, or none, that has these capacities. -/
def IsG (w : World) (v : Value) (f : Int → Int → Int) : Prop := (v = .pointer none ∧ f = zeroF) ∨ ∃ g b, v = .pointer (some ⟨g, 0, none⟩) ∧ Blk w g (graC f b) 132
theorem IsG.below {w w' : World} {v : Value} {f : Int → Int → Int} (h : IsG w v f) (hb : Below w.heap.size w w') : IsG w' v f := by
  rcases h with h | ⟨g, b, h1, h2⟩
  · exact .inl h
  · exact .inr ⟨g, b, h1, h2.below hb h2.lt⟩
theorem IsG.of {w : World} {g : Nat} {f : Int → Int → Int} {b : Bool} (h : Blk w g (graC f b) 132) : IsG w (.pointer (some ⟨g, 0, none⟩)) f := .inr ⟨g, b, rfl, h⟩
theorem IsG.nil (w : World) : IsG w (.pointer none) zeroF := .inl ⟨rfl, rfl⟩


theorem gcopy_nil (w : World) : Calls Try.prog 88 #[.pointer none] w fun e w' => e = .returned (.pointer none) ∧ w = w' := by
  go_enter Try.func88, Try.ntmps88
  go_wp2
  go_ret
  exact ⟨rfl, rfl⟩
theorem gcopy_unmade {w : World} {g : Nat} {f : Int → Int → Int} (h : Blk w g (graC f false) 132) : Calls Try.prog 88 #[.pointer (some ⟨g, 0, none⟩)] w fun e w' => e = .returned (.pointer none) ∧ w = w' := by
  have d := h.madeG
  have hlt := h.lt
  clear h
  go_enter Try.func88, Try.ntmps88
  go_wp2
  go_ret
  exact ⟨rfl, rfl⟩
set_option maxHeartbeats 2000000 in
set_option maxRecDepth 100000 in
theorem gcopy_any {w : World} {g : Nat} {f : Int → Int → Int} (h : Blk w g (graC f true) 132) :
    Calls Try.prog 88 #[.pointer (some ⟨g, 0, none⟩)] w fun e w' => e = .returned (.pointer (some ⟨w.heap.size, 0, none⟩)) ∧ Blk w' w.heap.size (graC f true) 132 ∧ Below w.heap.size w w' := by
  have d := h.madeG
  have hlt := h.lt
  have R := Lib.hid (cap_range h)
  clear h
  go_enter Try.func88, Try.ntmps88
  go_wp2_with first
    | ((with_reducible refine wpList_load_mid ?_ 130 (.tmp 14) ?_ g 0 ?_ (capA f).toList _ R.out Try.underlying130 ?_ (info_caps_l _) ?_); exact rfl; exact rfl; exact rfl; exact rfl; rw [Array.toArray_toList])
    | ((with_reducible refine wpList_build_of ?_ 132 #[(0, .tmp 15), (1, .const (.bool true))] ?_ #[(0, .agg (capA f)), (1, .bool true)] ?_ (graC f true) (build_gra f _) ?_); exact rfl; exact rfl; simp [Act.eval, Act.put])
  go_ret
  exact ⟨rfl, Blk.new _ _ _, (Below.refl _ _).alloc (Nat.le_refl _) _⟩

end Go.Proofs.Ytajmladlmkkimaa
