/-
  Pieces of one proof, without what is not wanted: Lays, Grd.
-/
import Derived.Test.YtbieomgpfhloeaaGreatP01
import Derived.Test.YtbieomgpfhloeaaGreatP02
import Derived.Test.YtbieomgpfhloeaaGreatP03
import Derived.Test.YtbieomgpfhloeaaGreatP05
import Derived.Laws.Tables
import Derived.Laws.CopyOwn
import Derived.Deep.MidRow
import Derived.Deep.WholeRow
set_option linter.unusedSimpArgs false
set_option linter.unusedVariables false
namespace Go.Proofs.YtbieomgpfhloeaaGreat
open Go.RowKit
structure Spec where
 p : Nat
 q : Nat
 zero : Obj
 full : Obj
def upd (g : Nat → Nat) (p a : Nat) : Nat → Nat := fun i => if i = p then a else g i
theorem upd_same (g : Nat → Nat) (p a : Nat) : upd g p a p = a := by simp [upd]
theorem upd_other (g : Nat → Nat) {p i : Nat} (a : Nat) (h : i ≠ p) : upd g p a i = g i := by simp [upd, h]
def SpecOk (W w : World) (g : Nat → Nat) (D : Nat → Bool) (s : Spec) : Prop :=
 D s.p = true → W.heap.size ≤ g s.p ∧ w.heap[g s.p]? = some (if D s.q then s.full else s.zero)
def specsApart (bs : List Spec) : Bool := bs.all fun s => bs.all fun s' => s.p == s'.p || (s.p != s'.q && s.q != s'.p && s.q != s'.q)
structure Lays (W : World) (bs : List Spec) (g : Nat → Nat) (D : Nat → Bool) (w : World) : Prop where
 below : Below W.heap.size W w
 ok : ∀ s ∈ bs, SpecOk W w g D s
 apart : ∀ s ∈ bs, ∀ s' ∈ bs, D s.p = true → D s'.p = true → s.p ≠ s'.p → g s.p ≠ g s'.p
theorem Lays.start (W : World) (bs : List Spec) (g : Nat → Nat) : Lays W bs g (fun _ => false) W.drew :=
 ⟨(Below.refl _ _).drew, fun s _ h => by simp at h, fun s _ s' _ h => by simp at h⟩
theorem ins_ne {k i : Nat} (D : Nat → Bool) (h : i ≠ k) : ins k D i = D i := by simp [ins, h]
theorem ins_same (k : Nat) (D : Nat → Bool) : ins k D k = true := by simp [ins]
theorem Lays.step {W w w' : World} {bs : List Spec} {g : Nat → Nat} {D : Nat → Bool} {k : Nat} (h : Lays W bs g D w) (hb : Below w.heap.size w w') (hk : bs.all (fun s => s.p != k && s.q != k) = true) : Lays W bs g (ins k D) w' := by
 obtain ⟨h1, h2, h3⟩ := h
 have hk' : ∀ s ∈ bs, s.p ≠ k ∧ s.q ≠ k := fun s hs => by
  have := List.all_eq_true.1 hk s hs
  simpa using this
 refine ⟨h1.trans (hb.mono h1.size), fun s hs hd => ?_, fun s hs s' hs' hd hd' hne => ?_⟩
 ·rw [ins_ne D (hk' s hs).1] at hd
  obtain ⟨a, b⟩ := h2 s hs hd
  rw [ins_ne D (hk' s hs).2]
  exact ⟨a, by rw [hb.block _ (Array.getElem?_eq_some_iff.1 b).1]; exact b⟩
 ·rw [ins_ne D (hk' s hs).1] at hd
  rw [ins_ne D (hk' s' hs').1] at hd'
  exact h3 s hs s' hs' hd hd' hne
theorem Lays.lay {W w : World} {bs : List Spec} {g : Nat → Nat} {D : Nat → Bool} (h : Lays W bs g D w) (s : Spec) (hs : s ∈ bs) (ha : specsApart bs = true) (hq : s.q = s.p ∨ D s.q = false) (hone : bs.all (fun s' => s'.p != s.p || s'.q == s.q) = true)
  (hsame : ∀ s' ∈ bs, s'.p = s.p → s' = s) (o : Obj) (ho : o = if s.q = s.p then s.full else s.zero) : Lays W bs (upd g s.p w.heap.size) (ins s.p D) (w.alloc o) := by
 obtain ⟨h1, h2, h3⟩ := h
 have hap : ∀ s' ∈ bs, s'.p ≠ s.p → s'.q ≠ s.p := fun s' hs' hne => by
  have := List.all_eq_true.1 (List.all_eq_true.1 ha s' hs') s hs
  simp only [Bool.or_eq_true, beq_iff_eq, Bool.and_eq_true, bne_iff_ne, ne_eq] at this
  rcases this with e | e
  ·exact absurd e hne
  ·exact e.1.2
 refine ⟨h1.alloc h1.size _, fun s' hs' hd => ?_, fun s1 hs1 s2 hs2 hd1 hd2 hne => ?_⟩
 ·by_cases he : s'.p = s.p
  ·have := hsame s' hs' he
   subst this
   rw [upd_same]
   refine ⟨h1.size, ?_⟩
   have e1 : (w.alloc o).heap[w.heap.size]? = some o := by show (w.heap.push _)[w.heap.size]? = _; simp
   rw [e1, ho]
   by_cases hqp : s'.q = s'.p
   ·rw [if_pos hqp, hqp, ins_same]; rfl
   ·rw [if_neg hqp, ins_ne D hqp]
    rcases hq with e | e
    ·exact absurd e hqp
    ·rw [e]; rfl
  ·rw [ins_ne D he] at hd
   obtain ⟨a, b⟩ := h2 s' hs' hd
   rw [upd_other g _ he, ins_ne D (hap s' hs' he)]
   exact ⟨a, by rw [Below.heap_alloc _ _ _ (Array.getElem?_eq_some_iff.1 b).1]; exact b⟩
 ·have lt : ∀ s' ∈ bs, s'.p ≠ s.p → ins s.p D s'.p = true → g s'.p < w.heap.size := fun s' hs' he hd => by
   rw [ins_ne D he] at hd
   exact (Array.getElem?_eq_some_iff.1 (h2 s' hs' hd).2).1
  by_cases e1 : s1.p = s.p
  ·by_cases e2 : s2.p = s.p
   ·exact absurd (e1.trans e2.symm) hne
   ·have := lt s2 hs2 e2 hd2
    rw [e1, upd_same, upd_other g _ e2]
    omega
  ·by_cases e2 : s2.p = s.p
   ·have := lt s1 hs1 e1 hd1
    rw [e2, upd_same, upd_other g _ e1]
    omega
   ·rw [upd_other g _ e1, upd_other g _ e2]
    rw [ins_ne D e1] at hd1
    rw [ins_ne D e2] at hd2
    exact h3 s1 hs1 s2 hs2 hd1 hd2 hne
theorem Lays.fill {W w w' : World} {bs : List Spec} {g : Nat → Nat} {D : Nat → Bool} (h : Lays W bs g D w) (s : Spec) (hs : s ∈ bs) (ha : specsApart bs = true) (hqp : s.q ≠ s.p) (hsame : ∀ s' ∈ bs, s'.p = s.p → s' = s) (hd : D s.p = true)
  (hk : Keep (· = g s.p) w w') (hf : w'.heap[g s.p]? = some s.full) : Lays W bs g (ins s.q D) w' := by
 obtain ⟨h1, h2, h3⟩ := h
 have hg := (h2 s hs hd).1
 have hap : ∀ s' ∈ bs, s'.p ≠ s.p → s'.q ≠ s.q ∧ s'.p ≠ s.q := fun s' hs' hne => by
  have := List.all_eq_true.1 (List.all_eq_true.1 ha s' hs') s hs
  simp only [Bool.or_eq_true, beq_iff_eq, Bool.and_eq_true, bne_iff_ne, ne_eq] at this
  rcases this with e | e
  ·exact absurd e hne
  ·exact ⟨e.2, e.1.1⟩
 refine ⟨⟨hk.os.trans h1.os, hk.tape.trans h1.tape, hk.output.trans h1.output, Nat.le_trans h1.size hk.size, fun i hi => by rw [hk.block i (Nat.lt_of_lt_of_le hi h1.size) (by omega)]; exact h1.block i hi⟩, fun s' hs' hd' => ?_, fun s1 hs1 s2 hs2 hd1 hd2 hne => ?_⟩
 ·by_cases he : s'.p = s.p
  ·have := hsame s' hs' he
   subst this
   rw [ins_same]
   exact ⟨hg, hf⟩
  ·rw [ins_ne D (hap s' hs' he).2] at hd'
   obtain ⟨a, b⟩ := h2 s' hs' hd'
   rw [ins_ne D (hap s' hs' he).1]
   exact ⟨a, by rw [hk.block _ (Array.getElem?_eq_some_iff.1 b).1 (h3 s' hs' s hs hd' hd he)]; exact b⟩
 ·have pn : ∀ s' ∈ bs, s'.p ≠ s.q := fun s' hs' => by
   by_cases he : s'.p = s.p
   ·rw [he]; exact fun e => hqp e.symm
   ·exact (hap s' hs' he).2
  rw [ins_ne D (pn s1 hs1)] at hd1
  rw [ins_ne D (pn s2 hs2)] at hd2
  exact h3 s1 hs1 s2 hs2 hd1 hd2 hne
theorem Lays.full {W w : World} {bs : List Spec} {g : Nat → Nat} {D : Nat → Bool} (h : Lays W bs g D w) (s : Spec) (hs : s ∈ bs) (hp : D s.p = true) (hq : D s.q = true) : W.heap.size ≤ g s.p ∧ w.heap[g s.p]? = some s.full := by
 obtain ⟨a, b⟩ := h.ok s hs hp
 rw [hq] at b
 exact ⟨a, b⟩
theorem Lays.zeroed {W w : World} {bs : List Spec} {g : Nat → Nat} {D : Nat → Bool} (h : Lays W bs g D w) (s : Spec) (hs : s ∈ bs) (hp : D s.p = true) (hq : D s.q = false) : W.heap.size ≤ g s.p ∧ w.heap[g s.p]? = some s.zero := by
 obtain ⟨a, b⟩ := h.ok s hs hp
 rw [hq] at b
 exact ⟨a, b⟩
def waitsFor (ops : Array Oper) : Nat → Nat → Nat → Bool
 | 0, _, _ => false
 | d + 1, i, j => match ops[i]? with
  | some o => o.after.any fun e => Region.binds .any e && (e.on == j || waitsFor ops d e.on j)
  | none => false
theorem waits_not {ops : Array Oper} {D : Nat → Bool} (hC : Closed ops D) {j : Nat} (hj : D j = false) : ∀ (d i : Nat), waitsFor ops d i j = true → D i = false
 | 0, i, h => by simp [waitsFor] at h
 | d + 1, i, h => by
  unfold waitsFor at h
  split at h
  ·rename_i o ho
   obtain ⟨e, he, hb⟩ := Array.any_eq_true'.1 h
   simp only [Bool.and_eq_true, Bool.or_eq_true, beq_iff_eq] at hb
   by_cases hi : D i = true
   ·exfalso
    have hw := hC i o ho hi e he hb.1
    rcases hb.2 with h2 | h2
    ·rw [h2, hj] at hw; cases hw
    ·rw [waits_not hC hj d e.on h2] at hw; cases hw
   ·simpa using hi
  ·cases h
theorem waited_done {ops : Array Oper} {D : Nat → Bool} (hC : Closed ops D) {o : Oper} (hw : Waited D o) {d j : Nat} (h : (o.after.any fun e => Region.binds .any e && (e.on == j || waitsFor ops d e.on j)) = true) : D j = true := by
 obtain ⟨e, he, hb⟩ := Array.any_eq_true'.1 h
 simp only [Bool.and_eq_true, Bool.or_eq_true, beq_iff_eq] at hb
 have h1 := hw e he hb.1
 rcases hb.2 with h2 | h2
 ·rw [← h2]; exact h1
 ·by_cases hj : D j = true
  ·exact hj
  ·rw [waits_not hC (by simpa using hj) d e.on h2] at h1; cases h1
theorem vals_upd {n : Nat} (ops : Array Oper) (vals : (Nat → Nat) → List Value) (g : Nat → Nat) (p a d : Nat) {D : Nat → Bool} (hC : Closed ops D) (hp : D p = false)
  (h : ∀ j, j < n → (j = p ∨ waitsFor ops d j p = true) ∨ (vals g).getD j undef = (vals (upd g p a)).getD j undef) : ∀ j, j < n → D j = true → (vals g).getD j undef = (vals (upd g p a)).getD j undef := by
 intro j hj hD
 rcases h j hj with (rfl | h) | h
 ·rw [hp] at hD; cases hD
 ·rw [waits_not hC hp d j h] at hD; cases hD
 ·exact h
theorem below_keepRow {w : World} (g : Nat) (cs : Array Value) : Keep (· = g) w (w.setRow g cs) :=
 ⟨rfl, rfl, rfl, by simp [World.setRow], fun k _ hk => setRow_other w g k cs (fun e => hk e)⟩
section
variable {P : Program} {ops : Array Oper} {Q : Exit → Act → World → Prop} {a : Act}
theorem region_end {id : Nat} {w : World} (hm : P.follows .mixedOrders = true) (n d : Nat) (vals : List Value) (S : World → Prop) (hok : regionOk ops = true) (hsz : ops.size = n + 1)
  (hlast : (List.range n).all (fun j => waitsFor ops d n j) = true) (h0 : S w.drew)
  (h : ∀ af, puts (fun i => vals.getD i undef) 0 ops.toList a = af → EachTo P ops af S (ops.toList.take n) ∧ ∀ w', S w' → OpTo P ops af (ops.toList.getD n default) w' (fun w'' => Q .normal af w'')) :
  (Code.region id ops true).wp P Q a w := by
 obtain ⟨h1, h2⟩ := h _ rfl
 refine wp_region_any hm ?_
 have haf' : frOf ops (fun i => vals.getD i undef) (fun _ => true) a = puts (fun i => vals.getD i undef) 0 ops.toList a := frOf_puts hok
 have hfr := frOf_none ops (fun i => vals.getD i undef) a
 have hz : (fun i => (Array.replicate ops.size false).getD i false) = fun _ => false := by
  funext i; simp [Array.getD_eq_getD_getElem?, Array.getElem?_replicate]; split <;> rfl
 have key := region_any (P := P) (Q := Q) (val := fun i => vals.getD i undef) (a := a) (I := fun D w' => if D n = true then Q .normal (puts (fun i => vals.getD i undef) 0 ops.toList a) w' else S w') hm hok
  (fun i o ho D w' hDi hw hc hI => by
   rw [haf']
   have hi : i < ops.size := by
    rcases Nat.lt_or_ge i ops.size with h' | h'
    ·exact h'
    ·simp [Array.getElem?_eq_none h'] at ho
   by_cases hin : i = n
   ·subst hin
    rw [hDi] at hI
    simp only [ins, beq_self_eq_true, Bool.true_or, if_true]
    have h3 := h2 w' hI
    rwa [List.getD_eq_getElem?_getD, Array.getElem?_toList, ho] at h3
   ·have hDn : D n = false := waits_not hc hDi d n (List.all_eq_true.1 hlast i (by simp; omega))
    rw [hDn] at hI
    have : (ins i D) n = false := by simp [ins, hDn]; omega
    simp only [this]
    exact h1.at (i := i) (by rw [List.getElem?_take]; simp [show i < n by omega, ho]) w' hI)
  (fun D w' hall hI => by
   rw [haf']
   rwa [if_pos (hall n (by omega))] at hI)
  ops.size (Array.replicate ops.size false) w.drew (by simp) (by simp) (fun j o ho hj => by
   simp [Array.getD_eq_getD_getElem?, Array.getElem?_replicate] at hj
   split at hj <;> simp at hj) (by
   have : (Array.replicate ops.size false).getD n false = false := by simp [Array.getD_eq_getD_getElem?, Array.getElem?_replicate]; split <;> rfl
   show if (Array.replicate ops.size false).getD n false = true then _ else S w.drew
   rw [this]
   exact h0)
 rw [hz, hfr] at key
 exact key
end
theorem wp_mapUpdate_of {P : Program} {w w' : World} {o : Oper} {a : Act} {K : Act → World → Prop} {Q : Exit → Act → World → Prop} (t : TypeId) (m x v : Operand) (ho : o.op = .mapUpdate t m x v) {mv xv vv : Value}
  (hm : a.eval m = mv) (hx : a.eval x = xv) (hv : a.eval v = vv) (hr : (Instr.mapUpdate t mv xv vv).run P w = .ok () w') (h : K (a.put o.dst undef) w') : o.wp P a w K Q := by
 unfold Oper.wp
 simp only [execOp, ho, hm, hx, hv, Sem.run_bind, hr, Result.andThen_ok]
 exact h
theorem wp_delete_of {P : Program} {w w' : World} {o : Oper} {a : Act} {K : Act → World → Prop} {Q : Exit → Act → World → Prop} (m x : Operand) (t k : TypeId) {mv xv : Value}
  (ho : o.op = .call { callee := .builtin .delete, args := #[m, x], argTypes := #[t, k] }) (hm : a.eval m = mv) (hx : a.eval x = xv)
  (hr : (Builtin.delete_ #[t, k] o.type #[mv, xv]).run P w = .ok (.tuple #[]) w') (h : K (a.put o.dst (.tuple #[])) w') : o.wp P a w K Q := by
 unfold Oper.wp execOp
 simp only [ho, resolve, invoke, builtin, Sem.run_bind, Sem.run_pure, Result.andThen_ok, List.map_toArray, List.map_cons, List.map_nil, hm, hx, hr]
 exact h
end Go.Proofs.YtbieomgpfhloeaaGreat
namespace Go.Proofs.YtbieomgpfhloeaaGreat
open Go.RowKit
def gridA (v : Int → Int → Value) : Array Value := Array.ofFn (n := 289) fun i => v ((i.val / 17 : Nat) : Int) ((i.val % 17 : Nat) : Int)
theorem gridA_size (v : Int → Int → Value) : (gridA v).size = 289 := by simp [gridA]
theorem gridA_get (v : Int → Int → Value) {i : Nat} (h : i < 289) : (gridA v)[i]? = some (v ((i / 17 : Nat) : Int) ((i % 17 : Nat) : Int)) := by simp [gridA, h]
theorem gridA_at (v : Int → Int → Value) {p q : Nat} (hp : p < 17) (hq : q < 17) : (gridA v)[p * 17 + q]? = some (v p q) := by
 rw [gridA_get _ (by omega), show (p * 17 + q) / 17 = p by omega, show (p * 17 + q) % 17 = q by omega]
theorem gridA_set (v : Int → Int → Value) {p q : Nat} (hp : p < 17) (hq : q < 17) (u : Value) : (gridA v).setIfInBounds (p * 17 + q) u = gridA fun a b => if a = p ∧ b = q then u else v a b := by
 apply Array.ext_getElem?
 intro j
 by_cases hj : j < 289
 ·rw [gridA_get _ hj]
  by_cases hi : p * 17 + q = j
  ·subst hi
   rw [Array.getElem?_setIfInBounds_self_of_lt (by rw [gridA_size]; omega), show (p * 17 + q) / 17 = p by omega, show (p * 17 + q) % 17 = q by omega, if_pos ⟨rfl, rfl⟩]
  ·rw [Array.getElem?_setIfInBounds_ne hi, gridA_get _ hj, if_neg]
   rintro ⟨e1, e2⟩
   omega
 ·rw [Array.getElem?_eq_none (by simp [gridA_size]; omega), Array.getElem?_eq_none (by rw [gridA_size]; omega)]
def rowA (v : Int → Int → Value) (p : Int) : Array Value := Array.ofFn (n := 17) fun i => v p ((i.val : Nat) : Int)
theorem rowA_size (v : Int → Int → Value) (p : Int) : (rowA v p).size = 17 := by simp [rowA]
theorem rowA_get (v : Int → Int → Value) (p : Int) {i : Nat} (h : i < 17) : (rowA v p)[i]? = some (v p i) := by simp [rowA, h]
def graC (f : Int → Int → Int) (b : Bool) : Array Value := Array.ofFn (n := 290) fun i => if i.val = 289 then .bool b else .int .i64 (f ((i.val / 17 : Nat) : Int) ((i.val % 17 : Nat) : Int))
theorem graC_size (f : Int → Int → Int) (b : Bool) : (graC f b).size = 290 := by simp [graC]
theorem graC_made (f : Int → Int → Int) (b : Bool) : (graC f b)[289]? = some (.bool b) := by simp [graC]
theorem graC_get (f : Int → Int → Int) (b : Bool) {i : Nat} (h : i < 289) : (graC f b)[i]? = some (.int .i64 (f ((i / 17 : Nat) : Int) ((i % 17 : Nat) : Int))) := by
 have h1 : i < 290 := by omega
 have h2 : i ≠ 289 := by omega
 simp [graC, h1, h2]
theorem graC_at (f : Int → Int → Int) (b : Bool) {p q : Nat} (hp : p < 17) (hq : q < 17) : (graC f b)[p * 17 + q]? = some (.int .i64 (f p q)) := by
 rw [graC_get _ _ (by omega), show (p * 17 + q) / 17 = p by omega, show (p * 17 + q) % 17 = q by omega]
theorem graC_set (f : Int → Int → Int) (b : Bool) {p q : Nat} (hp : p < 17) (hq : q < 17) (n : Int) : (graC f b).setIfInBounds (p * 17 + q) (.int .i64 n) = graC (updE f p q n) b := by
 apply Array.ext_getElem?
 intro j
 by_cases hj : j < 289
 ·rw [graC_get _ _ hj]
  unfold updE
  by_cases hi : p * 17 + q = j
  ·subst hi
   rw [Array.getElem?_setIfInBounds_self_of_lt (by rw [graC_size]; omega), show (p * 17 + q) / 17 = p by omega, show (p * 17 + q) % 17 = q by omega, if_pos ⟨rfl, rfl⟩]
  ·rw [Array.getElem?_setIfInBounds_ne hi, graC_get _ _ hj, if_neg]
   rintro ⟨e1, e2⟩
   omega
 ·by_cases h2 : j = 289
  ·subst h2
   rw [Array.getElem?_setIfInBounds_ne (by omega), graC_made, graC_made]
  ·rw [Array.getElem?_eq_none (by simp [graC_size]; omega), Array.getElem?_eq_none (by rw [graC_size]; omega)]
theorem graC_congr {f g : Int → Int → Int} (b : Bool) (h : ∀ p q : Nat, p < 17 → q < 17 → f p q = g p q) : graC f b = graC g b := by
 unfold graC
 congr 1
 funext i
 by_cases hi : i.val = 289
 ·simp [hi]
 ·rw [if_neg hi, if_neg hi, h _ _ (by omega) (by omega)]
def capA (f : Int → Int → Int) : Array Value := gridA fun p q => .int .i64 (f p q)
theorem capA_size (f : Int → Int → Int) : (capA f).size = 289 := gridA_size _
theorem capA_get (f : Int → Int → Int) {i : Nat} (h : i < 289) : (capA f)[i]? = some (.int .i64 (f ((i / 17 : Nat) : Int) ((i % 17 : Nat) : Int))) := gridA_get _ h
theorem cap_range {w : World} {g : Nat} {f : Int → Int → Int} {b : Bool} {t : TypeId} (h : Blk w g (graC f b) t) : w.rangeAt g 0 (capA f).toList := by
 intro j v hv
 have hj : j < 289 := by
  rcases Nat.lt_or_ge j 289 with h | h
  ·exact h
  ·rw [List.getElem?_eq_none (by simp [capA_size]; omega)] at hv; cases hv
 rw [Nat.zero_add, h.cell j, graC_get _ _ hj]
 rw [Array.getElem?_toList, capA_get _ hj] at hv
 exact hv
theorem Blk.cap {w : World} {g : Nat} {f : Int → Int → Int} {b : Bool} {t : TypeId} (h : Blk w g (graC f b) t) {p q : Int} (h0 : 0 ≤ p) (h1 : p < 17) (h2 : 0 ≤ q) (h3 : q < 17) : w.cell? ⟨g, p.toNat * 17 + q.toNat, none⟩ = some (.int .i64 (f p q)) := by
 rw [h.cell, graC_at f b (by omega) (by omega), Int.toNat_of_nonneg h0, Int.toNat_of_nonneg h2]
theorem Blk.capSet {w : World} {g : Nat} {f : Int → Int → Int} {b : Bool} {t : TypeId} (h : Blk w g (graC f b) t) {p q : Int} (h0 : 0 ≤ p) (h1 : p < 17) (h2 : 0 ≤ q) (h3 : q < 17) (n : Int) :
  Blk (w.setCell ⟨g, p.toNat * 17 + q.toNat, none⟩ (.int .i64 n)) g (graC (updE f p q n) b) t := by
 have := h.set (p.toNat * 17 + q.toNat) (.int .i64 n)
 rw [graC_set f b (by omega) (by omega), Int.toNat_of_nonneg h0, Int.toNat_of_nonneg h2] at this
 exact this
theorem Blk.madeG {w : World} {g : Nat} {f : Int → Int → Int} {b : Bool} {t : TypeId} (h : Blk w g (graC f b) t) : w.cell? ⟨g, 289, none⟩ = some (.bool b) := by rw [h.cell, graC_made]
theorem build_gra0 (w : World) : (Instr.build 196 #[(1, .bool true)]).run Tryz.prog w = .ok (.agg (graC zeroF true)) w := by
 have h : (Instr.build 196 #[(1, .bool true)]).run Tryz.prog = fun w => .ok (.agg (graC zeroF true)) w := by kernel_rfl
 rw [h]
theorem build_gra (f : Int → Int → Int) (w : World) : (Instr.build 196 #[(0, .agg (capA f)), (1, .bool true)]).run Tryz.prog w = .ok (.agg (graC f true)) w := by
 have h : (Instr.build 196 #[(0, .agg (capA f)), (1, .bool true)]).run Tryz.prog = fun w => .ok (.agg (graC f true)) w := by kernel_rfl
 rw [h]
theorem zero_caps : (∀ w, (zeroValue 194).run Tryz.prog w = .ok (.agg (capA zeroF)) w) ∧ (Tryz.prog.info? 194).map (·.size) = some 289 :=
 zero_of_info (by kernel_rfl)
theorem info_caps (f : Int → Int → Int) : (Tryz.prog.info? 194).map (·.size) = some (capA f).size := by rw [capA_size]; exact zero_caps.2
theorem info_caps_l (f : Int → Int → Int) : (Tryz.prog.info? 194).map (·.size) = some (capA f).toList.length := by rw [Array.length_toList]; exact info_caps f
attribute [irreducible] graC capA rowA gridA
end Go.Proofs.YtbieomgpfhloeaaGreat
namespace Go.Proofs.YtbieomgpfhloeaaGreat
open Go.RowKit
def mayG (p : Int) : Bool := decide (1 ≤ p ∧ p ≤ 16)
theorem mayG_true {p : Int} (h : inP p) : mayG p = true := by unfold mayG; unfold inP at h; simp; omega
theorem mayG_false {p : Int} (h : ¬ inP p) : mayG p = false := by unfold mayG; unfold inP at h; simp; omega
theorem gmay_any (p : Int) (w : World) : Calls Tryz.prog 190 #[.int .u8 p] w fun e w' => e = .returned (.bool (mayG p)) ∧ w = w' := by
 have hs : (¬ 1 ≤ p ∧ mayG p = false) ∨ (1 ≤ p ∧ p ≤ 16 ∧ mayG p = true) ∨ (1 ≤ p ∧ ¬ p ≤ 16 ∧ mayG p = false) := by unfold mayG; simp; omega
 rcases hs with ⟨h1, h2⟩ | ⟨h1, h3, h2⟩ | ⟨h1, h3, h2⟩
 all_goals
  rw [h2]
  clear h2
  go_enter Tryz.func190, Tryz.ntmps190
  go_wp2
  go_ret
  exact ⟨rfl, rfl⟩
def outF (f : Int → Int → Int) : Prop := ∀ p q, ¬ (inP p ∧ inP q) → f p q = 0
theorem GInv.outF {f : Int → Int → Int} {B : Int} (h : GInv f B) : outF f := h.out
set_option maxHeartbeats 2000000 in
theorem gcap_any {w : World} {g : Nat} {f : Int → Int → Int} {b : Bool} (h : Blk w g (graC f b) 196) (ho : outF f) (p q : Int) :
  Calls Tryz.prog 168 #[.pointer (some ⟨g, 0, none⟩), .int .u8 p, .int .u8 q] w fun e w' => e = .returned (.int .i64 (f p q)) ∧ w = w' := by
 have C1 := Lib.hid (gmay_any p w)
 have C2 := Lib.hid (gmay_any q w)
 have hlt := h.lt
 by_cases hp : inP p
 ·by_cases hq : inP q
  ·rw [mayG_true hp] at C1
   rw [mayG_true hq] at C2
   obtain ⟨p1, p2⟩ := hp
   obtain ⟨q1, q2⟩ := hq
   have d := h.cap (p := p) (q := q) (by omega) (by omega) (by omega) (by omega)
   have p3 : 0 ≤ p := by omega
   have p4 : p < 17 := by omega
   have q3 : 0 ≤ q := by omega
   have q4 : q < 17 := by omega
   clear h ho
   generalize f p q = n at *
   go_enter Tryz.func168, Tryz.ntmps168
   go_wp2_with fail
   refine C1.out.mono ?_
   rintro e w ⟨rfl, rfl⟩
   go_wp2_with fail
   refine C2.out.mono ?_
   rintro e w ⟨rfl, rfl⟩
   go_wp2_with fail
   go_ret
   exact ⟨rfl, rfl⟩
  ·rw [mayG_true hp] at C1
   rw [mayG_false hq] at C2
   rw [ho p q (fun e => hq e.2)]
   clear h ho hp hq
   go_enter Tryz.func168, Tryz.ntmps168
   go_wp2_with fail
   refine C1.out.mono ?_
   rintro e w ⟨rfl, rfl⟩
   go_wp2_with fail
   refine C2.out.mono ?_
   rintro e w ⟨rfl, rfl⟩
   go_wp2_with fail
   go_ret
   exact ⟨rfl, rfl⟩
 ·rw [mayG_false hp] at C1
  rw [ho p q (fun e => hp e.1)]
  clear h ho hp
  go_enter Tryz.func168, Tryz.ntmps168
  go_wp2_with fail
  refine C1.out.mono ?_
  rintro e w ⟨rfl, rfl⟩
  go_wp2_with fail
  go_ret
  exact ⟨rfl, rfl⟩
theorem gcap_nil (p q : Int) (w : World) : Calls Tryz.prog 168 #[.pointer none, .int .u8 p, .int .u8 q] w fun e w' => e = .returned (.int .i64 0) ∧ w = w' := by
 go_enter Tryz.func168, Tryz.ntmps168
 go_wp2
 go_ret
 exact ⟨rfl, rfl⟩
def gPushE (f : Int → Int → Int) (a b n : Int) : Int := if n < 1 then 1 else if f a b < n then 11 else 0
def gPushF (f : Int → Int → Int) (a b n : Int) : Int → Int → Int := if 1 ≤ n ∧ n ≤ f a b then pushF f a b n else f
set_option maxHeartbeats 8000000 in
set_option maxRecDepth 100000 in
theorem gpush_any {w : World} {g : Nat} {f : Int → Int → Int} {B : Int} (h : Blk w g (graC f true) 196) (hI : GInv f B) (hB : B ≤ 4611686018427387903) {a b n : Int} (hn : In64 n) :
  Calls Tryz.prog 134 #[.pointer (some ⟨g, 0, none⟩), .int .u8 a, .int .u8 b, .int .i64 n] w fun e w' => e = .returned (.int .i64 (gPushE f a b n)) ∧ Blk w' g (graC (gPushF f a b n) true) 196 ∧ Keep (· = g) w w' := by
 have KB := Lib.hid h
 have dm := h.madeG
 have hlt := h.lt
 have C := Lib.hid (gcap_any h hI.outF a b)
 obtain ⟨n0, n1⟩ := hn
 by_cases h1 : n < 1
 ·have EE := Lib.hid (show gPushE f a b n = 1 ∧ gPushF f a b n = f from ⟨by unfold gPushE; rw [if_pos h1], by unfold gPushF; rw [if_neg (by omega)]⟩)
  clear h hI C
  go_enter Tryz.func134, Tryz.ntmps134
  go_wp2
  go_ret
  exact ⟨by rw [EE.out.1]; rfl, by rw [EE.out.2]; exact KB.out, Keep.refl _ _⟩
 by_cases h2 : f a b < n
 ·have EE := Lib.hid (show gPushE f a b n = 11 ∧ gPushF f a b n = f from ⟨by unfold gPushE; rw [if_neg h1, if_pos h2], by unfold gPushF; rw [if_neg (by omega)]⟩)
  clear h hI
  obtain ⟨x, hx⟩ : ∃ x, f a b = x := ⟨_, rfl⟩
  rw [hx] at C h2
  clear hx
  go_enter Tryz.func134, Tryz.ntmps134
  go_wp2_with fail
  refine C.out.mono ?_
  rintro e w ⟨rfl, rfl⟩
  go_wp2_with fail
  go_ret
  exact ⟨by rw [EE.out.1]; rfl, by rw [EE.out.2]; exact KB.out, Keep.refl _ _⟩
 obtain ⟨⟨a1, a2⟩, ⟨b1, b2⟩, hab⟩ := hI.ends (p := a) (q := b) (by omega)
 have hbd := hI.pair a b
 have hnn := hI.nn b a
 have EE := Lib.hid (show gPushE f a b n = 0 ∧ gPushF f a b n = updE (updE f a b (f a b - n)) b a (f b a + n) from ⟨by unfold gPushE; rw [if_neg h1, if_neg h2], by unfold gPushF; rw [if_pos (by omega)]; rfl⟩)
 obtain ⟨x, hx⟩ : ∃ x, f a b = x := ⟨_, rfl⟩
 obtain ⟨y, hy⟩ : ∃ y, f b a = y := ⟨_, rfl⟩
 have hy2 : updE f a b (x - n) b a = y := by unfold updE; rw [if_neg (fun e => hab e.1.symm), hy]
 rw [hx, hy] at EE
 rw [hx] at C h2 hbd
 rw [hy] at hbd hnn
 have HX := Lib.hid hx
 have HY2 := Lib.hid hy2
 have HAB := Lib.hid hab
 clear h hI hx hy hy2 hab
 go_enter Tryz.func134, Tryz.ntmps134
 go_wp2_with fail
 refine C.out.mono ?_
 rintro e w ⟨rfl, rfl⟩
 go_wp2_with fail
 refine region_end (by kernel_rfl) 14 16 [(.pointer (some ⟨g, 0, none⟩)), (.int .u8 a), (.int .u8 b), (.pointer (some ⟨g, 0, none⟩)), (.pointer (some ⟨g, 0, none⟩)), (.pointer (some ⟨g, a.toNat * 17, none⟩)), (.pointer (some ⟨g, a.toNat * 17 + b.toNat, none⟩)), (.int .i64 x), (.int .i64 n), (.int .i64 (x - n)), (.pointer (some ⟨g, 0, none⟩)), (.pointer (some ⟨g, 0, none⟩)), (.pointer (some ⟨g, a.toNat * 17, none⟩)), (.pointer (some ⟨g, a.toNat * 17 + b.toNat, none⟩))]
  (fun w' => Below w.heap.size w w') (by kernel_rfl) rfl (by kernel_rfl) (Below.refl _ _).drew ?_
 intro af haf
 simp only [List.toList_toArray, List.append_eq, List.cons_append, List.nil_append, puts, Act.put, List.getD_cons_zero, List.getD_cons_succ, List.setIfInBounds_toArray, List.set_cons_succ, List.set_cons_zero] at haf
 subst haf
 refine ⟨?_, ?_⟩
 ·simp only [List.toList_toArray, List.take_succ_cons, List.take_zero, EachTo]
  refine ⟨?_, ?_, ?_, ?_, ?_, ?_, ?_, ?_, ?_, ?_, ?_, ?_, ?_, ?_, trivial⟩
  ·intro w' hS
   refine OpTo.plain ?_ ?_
   exact rfl
   have HS := Lib.hid hS
   clear hS
   go_wp2_with fail
   all_goals first | exact HS.out | exact ⟨rfl, HS.out⟩ | rfl | exact ⟨by omega, HS.out⟩
  ·intro w' hS
   refine OpTo.plain ?_ ?_
   exact rfl
   have HS := Lib.hid hS
   clear hS
   go_wp2_with fail
   all_goals first | exact HS.out | exact ⟨rfl, HS.out⟩ | rfl | exact ⟨by omega, HS.out⟩
  ·intro w' hS
   refine OpTo.plain ?_ ?_
   exact rfl
   have HS := Lib.hid hS
   clear hS
   go_wp2_with fail
   all_goals first | exact HS.out | exact ⟨rfl, HS.out⟩ | rfl | exact ⟨by omega, HS.out⟩
  ·intro w' hS
   refine OpTo.plain ?_ ?_
   exact rfl
   have kb := KB.out.below hS KB.out.lt
   have hl := kb.lt
   have HS := Lib.hid hS
   clear hS
   go_wp2_with fail
   all_goals first | exact HS.out | exact ⟨rfl, HS.out⟩ | rfl | exact ⟨by omega, HS.out⟩
  ·intro w' hS
   refine OpTo.plain ?_ ?_
   exact rfl
   have kb := KB.out.below hS KB.out.lt
   have hl := kb.lt
   have HS := Lib.hid hS
   clear hS
   go_wp2_with fail
   all_goals first | exact HS.out | exact ⟨rfl, HS.out⟩ | rfl | exact ⟨by omega, HS.out⟩
  ·intro w' hS
   refine OpTo.plain ?_ ?_
   exact rfl
   have kb := KB.out.below hS KB.out.lt
   have hl := kb.lt
   have HS := Lib.hid hS
   clear hS
   go_wp2_with fail
   all_goals first | exact HS.out | exact ⟨rfl, HS.out⟩ | rfl | exact ⟨by omega, HS.out⟩
  ·intro w' hS
   refine OpTo.plain ?_ ?_
   exact rfl
   have kb := KB.out.below hS KB.out.lt
   have hl := kb.lt
   have HS := Lib.hid hS
   clear hS
   go_wp2_with fail
   all_goals first | exact HS.out | exact ⟨rfl, HS.out⟩ | rfl | exact ⟨by omega, HS.out⟩
  ·intro w' hS
   refine OpTo.plain ?_ ?_
   exact rfl
   have kb := KB.out.below hS KB.out.lt
   have hl := kb.lt
   have d := kb.cap (p := a) (q := b) (by omega) (by omega) (by omega) (by omega)
   rw [HX.out] at d
   have HS := Lib.hid hS
   clear hS
   go_wp2_with fail
   all_goals first | exact HS.out | exact ⟨rfl, HS.out⟩ | rfl | exact ⟨by omega, HS.out⟩
  ·intro w' hS
   refine OpTo.plain ?_ ?_
   exact rfl
   have HS := Lib.hid hS
   clear hS
   go_wp2_with fail
   all_goals first | exact HS.out | exact ⟨rfl, HS.out⟩ | rfl | exact ⟨by omega, HS.out⟩
  ·intro w' hS
   refine OpTo.plain ?_ ?_
   exact rfl
   have HS := Lib.hid hS
   clear hS
   go_wp2_with fail
   all_goals first | exact HS.out | exact ⟨rfl, HS.out⟩ | rfl | exact ⟨by omega, HS.out⟩
  ·intro w' hS
   refine OpTo.plain ?_ ?_
   exact rfl
   have kb := KB.out.below hS KB.out.lt
   have hl := kb.lt
   have HS := Lib.hid hS
   clear hS
   go_wp2_with fail
   all_goals first | exact HS.out | exact ⟨rfl, HS.out⟩ | rfl | exact ⟨by omega, HS.out⟩
  ·intro w' hS
   refine OpTo.plain ?_ ?_
   exact rfl
   have kb := KB.out.below hS KB.out.lt
   have hl := kb.lt
   have HS := Lib.hid hS
   clear hS
   go_wp2_with fail
   all_goals first | exact HS.out | exact ⟨rfl, HS.out⟩ | rfl | exact ⟨by omega, HS.out⟩
  ·intro w' hS
   refine OpTo.plain ?_ ?_
   exact rfl
   have kb := KB.out.below hS KB.out.lt
   have hl := kb.lt
   have HS := Lib.hid hS
   clear hS
   go_wp2_with fail
   all_goals first | exact HS.out | exact ⟨rfl, HS.out⟩ | rfl | exact ⟨by omega, HS.out⟩
  ·intro w' hS
   refine OpTo.plain ?_ ?_
   exact rfl
   have kb := KB.out.below hS KB.out.lt
   have hl := kb.lt
   have HS := Lib.hid hS
   clear hS
   go_wp2_with fail
   all_goals first | exact HS.out | exact ⟨rfl, HS.out⟩ | rfl | exact ⟨by omega, HS.out⟩
 simp only [List.getD_cons_succ, List.getD_cons_zero, List.toList_toArray]
 intro w' hS
 refine OpTo.plain ?_ ?_
 exact rfl
 have kb := Lib.hid ((KB.out.below hS KB.out.lt).capSet (p := a) (q := b) (by omega) (by omega) (by omega) (by omega) (x - n))
 have dm := (KB.out.below hS KB.out.lt).cap (p := a) (q := b) (by omega) (by omega) (by omega) (by omega)
 have fr := (KB.out.below hS KB.out.lt).frozen (a.toNat * 17 + b.toNat)
 have kk := Lib.hid ((Keep.of_below (S := (· = g)) hS).setCell (p := ⟨g, a.toNat * 17 + b.toNat, none⟩) (.inl rfl) (.int .i64 (x - n)))
 clear hS
 go_wp2_with fail
 generalize w'.setCell ⟨g, a.toNat * 17 + b.toNat, none⟩ (.int .i64 (x - n)) = w2 at *
 have KC := Lib.hid KB.out
 clear KB
 have KB := Lib.hid kb.out
 clear kb dm fr C
 refine region_end (by kernel_rfl) 14 16 [(.pointer (some ⟨g, 0, none⟩)), (.int .u8 b), (.int .u8 a), (.pointer (some ⟨g, 0, none⟩)), (.pointer (some ⟨g, 0, none⟩)), (.pointer (some ⟨g, b.toNat * 17, none⟩)), (.pointer (some ⟨g, b.toNat * 17 + a.toNat, none⟩)), (.int .i64 y), (.int .i64 n), (.int .i64 (y + n)), (.pointer (some ⟨g, 0, none⟩)), (.pointer (some ⟨g, 0, none⟩)), (.pointer (some ⟨g, b.toNat * 17, none⟩)), (.pointer (some ⟨g, b.toNat * 17 + a.toNat, none⟩))]
  (fun w' => Below w2.heap.size w2 w') (by kernel_rfl) rfl (by kernel_rfl) (Below.refl _ _).drew ?_
 intro af haf
 simp only [List.toList_toArray, List.append_eq, List.cons_append, List.nil_append, puts, Act.put, List.getD_cons_zero, List.getD_cons_succ, List.setIfInBounds_toArray, List.set_cons_succ, List.set_cons_zero] at haf
 subst haf
 refine ⟨?_, ?_⟩
 ·simp only [List.toList_toArray, List.take_succ_cons, List.take_zero, EachTo]
  refine ⟨?_, ?_, ?_, ?_, ?_, ?_, ?_, ?_, ?_, ?_, ?_, ?_, ?_, ?_, trivial⟩
  ·intro w' hS
   refine OpTo.plain ?_ ?_
   exact rfl
   have HS := Lib.hid hS
   clear hS
   go_wp2_with fail
   all_goals first | exact HS.out | exact ⟨rfl, HS.out⟩ | rfl | exact ⟨by omega, HS.out⟩
  ·intro w' hS
   refine OpTo.plain ?_ ?_
   exact rfl
   have HS := Lib.hid hS
   clear hS
   go_wp2_with fail
   all_goals first | exact HS.out | exact ⟨rfl, HS.out⟩ | rfl | exact ⟨by omega, HS.out⟩
  ·intro w' hS
   refine OpTo.plain ?_ ?_
   exact rfl
   have HS := Lib.hid hS
   clear hS
   go_wp2_with fail
   all_goals first | exact HS.out | exact ⟨rfl, HS.out⟩ | rfl | exact ⟨by omega, HS.out⟩
  ·intro w' hS
   refine OpTo.plain ?_ ?_
   exact rfl
   have kb := KB.out.below hS KB.out.lt
   have hl := kb.lt
   have HS := Lib.hid hS
   clear hS
   go_wp2_with fail
   all_goals first | exact HS.out | exact ⟨rfl, HS.out⟩ | rfl | exact ⟨by omega, HS.out⟩
  ·intro w' hS
   refine OpTo.plain ?_ ?_
   exact rfl
   have kb := KB.out.below hS KB.out.lt
   have hl := kb.lt
   have HS := Lib.hid hS
   clear hS
   go_wp2_with fail
   all_goals first | exact HS.out | exact ⟨rfl, HS.out⟩ | rfl | exact ⟨by omega, HS.out⟩
  ·intro w' hS
   refine OpTo.plain ?_ ?_
   exact rfl
   have kb := KB.out.below hS KB.out.lt
   have hl := kb.lt
   have HS := Lib.hid hS
   clear hS
   go_wp2_with fail
   all_goals first | exact HS.out | exact ⟨rfl, HS.out⟩ | rfl | exact ⟨by omega, HS.out⟩
  ·intro w' hS
   refine OpTo.plain ?_ ?_
   exact rfl
   have kb := KB.out.below hS KB.out.lt
   have hl := kb.lt
   have HS := Lib.hid hS
   clear hS
   go_wp2_with fail
   all_goals first | exact HS.out | exact ⟨rfl, HS.out⟩ | rfl | exact ⟨by omega, HS.out⟩
  ·intro w' hS
   refine OpTo.plain ?_ ?_
   exact rfl
   have kb := KB.out.below hS KB.out.lt
   have hl := kb.lt
   have d := kb.cap (p := b) (q := a) (by omega) (by omega) (by omega) (by omega)
   rw [HY2.out] at d
   have HS := Lib.hid hS
   clear hS
   go_wp2_with fail
   all_goals first | exact HS.out | exact ⟨rfl, HS.out⟩ | rfl | exact ⟨by omega, HS.out⟩
  ·intro w' hS
   refine OpTo.plain ?_ ?_
   exact rfl
   have HS := Lib.hid hS
   clear hS
   go_wp2_with fail
   all_goals first | exact HS.out | exact ⟨rfl, HS.out⟩ | rfl | exact ⟨by omega, HS.out⟩
  ·intro w' hS
   refine OpTo.plain ?_ ?_
   exact rfl
   have HS := Lib.hid hS
   clear hS
   go_wp2_with fail
   all_goals first | exact HS.out | exact ⟨rfl, HS.out⟩ | rfl | exact ⟨by omega, HS.out⟩
  ·intro w' hS
   refine OpTo.plain ?_ ?_
   exact rfl
   have kb := KB.out.below hS KB.out.lt
   have hl := kb.lt
   have HS := Lib.hid hS
   clear hS
   go_wp2_with fail
   all_goals first | exact HS.out | exact ⟨rfl, HS.out⟩ | rfl | exact ⟨by omega, HS.out⟩
  ·intro w' hS
   refine OpTo.plain ?_ ?_
   exact rfl
   have kb := KB.out.below hS KB.out.lt
   have hl := kb.lt
   have HS := Lib.hid hS
   clear hS
   go_wp2_with fail
   all_goals first | exact HS.out | exact ⟨rfl, HS.out⟩ | rfl | exact ⟨by omega, HS.out⟩
  ·intro w' hS
   refine OpTo.plain ?_ ?_
   exact rfl
   have kb := KB.out.below hS KB.out.lt
   have hl := kb.lt
   have HS := Lib.hid hS
   clear hS
   go_wp2_with fail
   all_goals first | exact HS.out | exact ⟨rfl, HS.out⟩ | rfl | exact ⟨by omega, HS.out⟩
  ·intro w' hS
   refine OpTo.plain ?_ ?_
   exact rfl
   have kb := KB.out.below hS KB.out.lt
   have hl := kb.lt
   have HS := Lib.hid hS
   clear hS
   go_wp2_with fail
   all_goals first | exact HS.out | exact ⟨rfl, HS.out⟩ | rfl | exact ⟨by omega, HS.out⟩
 simp only [List.getD_cons_succ, List.getD_cons_zero, List.toList_toArray]
 intro w' hS
 refine OpTo.plain ?_ ?_
 exact rfl
 have kb := Lib.hid ((KB.out.below hS KB.out.lt).capSet (p := b) (q := a) (by omega) (by omega) (by omega) (by omega) (y + n))
 have dm := (KB.out.below hS KB.out.lt).cap (p := b) (q := a) (by omega) (by omega) (by omega) (by omega)
 have fr := (KB.out.below hS KB.out.lt).frozen (b.toNat * 17 + a.toNat)
 have k2 := Lib.hid ((kk.out.trans (Keep.of_below (S := (· = g)) hS)).setCell (p := ⟨g, b.toNat * 17 + a.toNat, none⟩) (.inl rfl) (.int .i64 (y + n)))
 clear hS
 go_wp2_with fail
 generalize w'.setCell ⟨g, b.toNat * 17 + a.toNat, none⟩ (.int .i64 (y + n)) = w3 at *
 go_ret
 exact ⟨by rw [EE.out.1]; rfl, by rw [EE.out.2]; exact kb.out, k2.out⟩
def IsG (w : World) (v : Value) (f : Int → Int → Int) : Prop := (v = .pointer none ∧ f = zeroF) ∨ ∃ g b, v = .pointer (some ⟨g, 0, none⟩) ∧ Blk w g (graC f b) 196
theorem IsG.below {w w' : World} {v : Value} {f : Int → Int → Int} (h : IsG w v f) (hb : Below w.heap.size w w') : IsG w' v f := by
 rcases h with h | ⟨g, b, h1, h2⟩
 ·exact .inl h
 ·exact .inr ⟨g, b, h1, h2.below hb h2.lt⟩
theorem gcopy_nil (w : World) : Calls Tryz.prog 131 #[.pointer none] w fun e w' => e = .returned (.pointer none) ∧ w = w' := by
 go_enter Tryz.func131, Tryz.ntmps131
 go_wp2
 go_ret
 exact ⟨rfl, rfl⟩
set_option maxHeartbeats 2000000 in
set_option maxRecDepth 100000 in
theorem gcopy_any {w : World} {g : Nat} {f : Int → Int → Int} (h : Blk w g (graC f true) 196) :
  Calls Tryz.prog 131 #[.pointer (some ⟨g, 0, none⟩)] w fun e w' => e = .returned (.pointer (some ⟨w.heap.size, 0, none⟩)) ∧ Blk w' w.heap.size (graC f true) 196 ∧ Below w.heap.size w w' := by
 have d := h.madeG
 have hlt := h.lt
 have R := Lib.hid (cap_range h)
 clear h
 go_enter Tryz.func131, Tryz.ntmps131
 go_wp2_with first
  | ((with_reducible refine wpList_load_mid ?_ 194 (.tmp 14) ?_ g 0 ?_ (capA f).toList _ R.out Tryz.underlying194 ?_ (info_caps_l _) ?_); exact rfl; exact rfl; exact rfl; exact rfl; rw [Array.toArray_toList])
  | ((with_reducible refine wpList_build_of ?_ 196 #[(0, .tmp 15), (1, .const (.bool true))] ?_ #[(0, .agg (capA f)), (1, .bool true)] ?_ (graC f true) (build_gra f _) ?_); exact rfl; exact rfl; simp [Act.eval, Act.put])
 go_ret
 exact ⟨rfl, Blk.new _ _ _, (Below.refl _ _).alloc (Nat.le_refl _) _⟩
end Go.Proofs.YtbieomgpfhloeaaGreat
