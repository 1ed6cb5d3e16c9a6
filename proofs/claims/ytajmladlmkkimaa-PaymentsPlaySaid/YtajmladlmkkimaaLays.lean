/-
  A region whose order is open and that lays blocks of its own: each laid by one operation, filled by another one (or at once); where each lies hangs on the order.
-/
import Derived.Test.YtajmladlmkkimaaRegion
import Derived.Test.YtajmladlmkkimaaHeap
import Derived.Laws.Tables
import Derived.Laws.CopyOwn
namespace Go.Proofs.Ytajmladlmkkimaa
open Go.RowKit
set_option linter.unusedSimpArgs false
set_option linter.unusedVariables false

/-- A block that a region lays: by operation p, with 'zero'; filled by operation q, with 'full' (q = p: laid full). -/
structure Spec where
  p : Nat
  q : Nat
  zero : Obj
  full : Obj
def upd (g : Nat → Nat) (p a : Nat) : Nat → Nat := fun i => if i = p then a else g i
theorem upd_same (g : Nat → Nat) (p a : Nat) : upd g p a p = a := by simp [upd]
theorem upd_other (g : Nat → Nat) {p i : Nat} (a : Nat) (h : i ≠ p) : upd g p a i = g i := by simp [upd, h]
def SpecOk (W w : World) (g : Nat → Nat) (D : Nat → Bool) (s : Spec) : Prop :=
  D s.p = true → W.heap.size ≤ g s.p ∧ w.heap[g s.p]? = some (if D s.q then s.full else s.zero)
/-- No two blocks share an operation. -/
def specsApart (bs : List Spec) : Bool := bs.all fun s => bs.all fun s' => s.p == s'.p || (s.p != s'.q && s.q != s'.p && s.q != s'.q)
/-- What is held while a region lays such blocks. -/
structure Lays (W : World) (bs : List Spec) (g : Nat → Nat) (D : Nat → Bool) (w : World) : Prop where
  below : Below W.heap.size W w
  ok : ∀ s ∈ bs, SpecOk W w g D s
  apart : ∀ s ∈ bs, ∀ s' ∈ bs, D s.p = true → D s'.p = true → s.p ≠ s'.p → g s.p ≠ g s'.p

theorem Lays.start (W : World) (bs : List Spec) (g : Nat → Nat) : Lays W bs g (fun _ => false) W.drew :=
  ⟨(Below.refl _ _).drew, fun s _ h => by simp at h, fun s _ s' _ h => by simp at h⟩
theorem ins_ne {k i : Nat} (D : Nat → Bool) (h : i ≠ k) : ins k D i = D i := by simp [ins, h]
theorem ins_same (k : Nat) (D : Nat → Bool) : ins k D k = true := by simp [ins]
/-- An operation that lays none of them, and changes nothing that was there. -/
theorem Lays.step {W w w' : World} {bs : List Spec} {g : Nat → Nat} {D : Nat → Bool} {k : Nat} (h : Lays W bs g D w) (hb : Below w.heap.size w w') (hk : bs.all (fun s => s.p != k && s.q != k) = true) : Lays W bs g (ins k D) w' := by
  obtain ⟨h1, h2, h3⟩ := h
  have hk' : ∀ s ∈ bs, s.p ≠ k ∧ s.q ≠ k := fun s hs => by
    have := List.all_eq_true.1 hk s hs
    simpa using this
  refine ⟨h1.trans (hb.mono h1.size), fun s hs hd => ?_, fun s hs s' hs' hd hd' hne => ?_⟩
  · rw [ins_ne D (hk' s hs).1] at hd
    obtain ⟨a, b⟩ := h2 s hs hd
    rw [ins_ne D (hk' s hs).2]
    exact ⟨a, by rw [hb.block _ (Array.getElem?_eq_some_iff.1 b).1]; exact b⟩
  · rw [ins_ne D (hk' s hs).1] at hd
    rw [ins_ne D (hk' s' hs').1] at hd'
    exact h3 s hs s' hs' hd hd' hne
/-- The operation that lays one of them. -/
theorem Lays.lay {W w : World} {bs : List Spec} {g : Nat → Nat} {D : Nat → Bool} (h : Lays W bs g D w) (s : Spec) (hs : s ∈ bs) (ha : specsApart bs = true) (hq : s.q = s.p ∨ D s.q = false) (hone : bs.all (fun s' => s'.p != s.p || s'.q == s.q) = true)
    (hsame : ∀ s' ∈ bs, s'.p = s.p → s' = s) (o : Obj) (ho : o = if s.q = s.p then s.full else s.zero) : Lays W bs (upd g s.p w.heap.size) (ins s.p D) (w.alloc o) := by
  obtain ⟨h1, h2, h3⟩ := h
  have hap : ∀ s' ∈ bs, s'.p ≠ s.p → s'.q ≠ s.p := fun s' hs' hne => by
    have := List.all_eq_true.1 (List.all_eq_true.1 ha s' hs') s hs
    simp only [Bool.or_eq_true, beq_iff_eq, Bool.and_eq_true, bne_iff_ne, ne_eq] at this
    rcases this with e | e
    · exact absurd e hne
    · exact e.1.2
  refine ⟨h1.alloc h1.size _, fun s' hs' hd => ?_, fun s1 hs1 s2 hs2 hd1 hd2 hne => ?_⟩
  · by_cases he : s'.p = s.p
    · have := hsame s' hs' he
      subst this
      rw [upd_same]
      refine ⟨h1.size, ?_⟩
      have e1 : (w.alloc o).heap[w.heap.size]? = some o := by show (w.heap.push _)[w.heap.size]? = _; simp
      rw [e1, ho]
      by_cases hqp : s'.q = s'.p
      · rw [if_pos hqp, hqp, ins_same]; rfl
      · rw [if_neg hqp, ins_ne D hqp]
        rcases hq with e | e
        · exact absurd e hqp
        · rw [e]; rfl
    · rw [ins_ne D he] at hd
      obtain ⟨a, b⟩ := h2 s' hs' hd
      rw [upd_other g _ he, ins_ne D (hap s' hs' he)]
      exact ⟨a, by rw [Below.heap_alloc _ _ _ (Array.getElem?_eq_some_iff.1 b).1]; exact b⟩
  · have lt : ∀ s' ∈ bs, s'.p ≠ s.p → ins s.p D s'.p = true → g s'.p < w.heap.size := fun s' hs' he hd => by
      rw [ins_ne D he] at hd
      exact (Array.getElem?_eq_some_iff.1 (h2 s' hs' hd).2).1
    by_cases e1 : s1.p = s.p
    · by_cases e2 : s2.p = s.p
      · exact absurd (e1.trans e2.symm) hne
      · have := lt s2 hs2 e2 hd2
        rw [e1, upd_same, upd_other g _ e2]
        omega
    · by_cases e2 : s2.p = s.p
      · have := lt s1 hs1 e1 hd1
        rw [e2, upd_same, upd_other g _ e1]
        omega
      · rw [upd_other g _ e1, upd_other g _ e2]
        rw [ins_ne D e1] at hd1
        rw [ins_ne D e2] at hd2
        exact h3 s1 hs1 s2 hs2 hd1 hd2 hne
/-- The operation that fills one of them. -/
theorem Lays.fill {W w w' : World} {bs : List Spec} {g : Nat → Nat} {D : Nat → Bool} (h : Lays W bs g D w) (s : Spec) (hs : s ∈ bs) (ha : specsApart bs = true) (hqp : s.q ≠ s.p) (hsame : ∀ s' ∈ bs, s'.p = s.p → s' = s) (hd : D s.p = true)
    (hk : Keep (· = g s.p) w w') (hf : w'.heap[g s.p]? = some s.full) : Lays W bs g (ins s.q D) w' := by
  obtain ⟨h1, h2, h3⟩ := h
  have hg := (h2 s hs hd).1
  have hap : ∀ s' ∈ bs, s'.p ≠ s.p → s'.q ≠ s.q ∧ s'.p ≠ s.q := fun s' hs' hne => by
    have := List.all_eq_true.1 (List.all_eq_true.1 ha s' hs') s hs
    simp only [Bool.or_eq_true, beq_iff_eq, Bool.and_eq_true, bne_iff_ne, ne_eq] at this
    rcases this with e | e
    · exact absurd e hne
    · exact ⟨e.2, e.1.1⟩
  refine ⟨⟨hk.os.trans h1.os, hk.tape.trans h1.tape, hk.output.trans h1.output, Nat.le_trans h1.size hk.size, fun i hi => by rw [hk.block i (Nat.lt_of_lt_of_le hi h1.size) (by omega)]; exact h1.block i hi⟩, fun s' hs' hd' => ?_, fun s1 hs1 s2 hs2 hd1 hd2 hne => ?_⟩
  · by_cases he : s'.p = s.p
    · have := hsame s' hs' he
      subst this
      rw [ins_same]
      exact ⟨hg, hf⟩
    · rw [ins_ne D (hap s' hs' he).2] at hd'
      obtain ⟨a, b⟩ := h2 s' hs' hd'
      rw [ins_ne D (hap s' hs' he).1]
      exact ⟨a, by rw [hk.block _ (Array.getElem?_eq_some_iff.1 b).1 (h3 s' hs' s hs hd' hd he)]; exact b⟩
  · have pn : ∀ s' ∈ bs, s'.p ≠ s.q := fun s' hs' => by
      by_cases he : s'.p = s.p
      · rw [he]; exact fun e => hqp e.symm
      · exact (hap s' hs' he).2
    rw [ins_ne D (pn s1 hs1)] at hd1
    rw [ins_ne D (pn s2 hs2)] at hd2
    exact h3 s1 hs1 s2 hs2 hd1 hd2 hne
/-- A block that is filled, or laid. -/
theorem Lays.full {W w : World} {bs : List Spec} {g : Nat → Nat} {D : Nat → Bool} (h : Lays W bs g D w) (s : Spec) (hs : s ∈ bs) (hp : D s.p = true) (hq : D s.q = true) : W.heap.size ≤ g s.p ∧ w.heap[g s.p]? = some s.full := by
  obtain ⟨a, b⟩ := h.ok s hs hp
  rw [hq] at b
  exact ⟨a, b⟩
theorem Lays.zeroed {W w : World} {bs : List Spec} {g : Nat → Nat} {D : Nat → Bool} (h : Lays W bs g D w) (s : Spec) (hs : s ∈ bs) (hp : D s.p = true) (hq : D s.q = false) : W.heap.size ≤ g s.p ∧ w.heap[g s.p]? = some s.zero := by
  obtain ⟨a, b⟩ := h.ok s hs hp
  rw [hq] at b
  exact ⟨a, b⟩

/-- Does operation i wait for operation j, over whichever others? -/
def waitsFor (ops : Array Oper) : Nat → Nat → Nat → Bool
  | 0, _, _ => false
  | d + 1, i, j => match ops[i]? with
    | some o => o.after.any fun e => Region.binds .any e && (e.on == j || waitsFor ops d e.on j)
    | none => false
theorem waits_not {ops : Array Oper} {D : Nat → Bool} (hC : Closed ops D) {j : Nat} (hj : D j = false) : ∀ (d i : Nat), waitsFor ops d i j = true → D i = false
  | 0, i, h => by simp [waitsFor] at h
  | d + 1, i, h => by
    unfold waitsFor at h
    split at h
    · rename_i o ho
      obtain ⟨e, he, hb⟩ := Array.any_eq_true'.1 h
      simp only [Bool.and_eq_true, Bool.or_eq_true, beq_iff_eq] at hb
      by_cases hi : D i = true
      · exfalso
        have hw := hC i o ho hi e he hb.1
        rcases hb.2 with h2 | h2
        · rw [h2, hj] at hw; cases hw
        · rw [waits_not hC hj d e.on h2] at hw; cases hw
      · simpa using hi
    · cases h
theorem waited_done {ops : Array Oper} {D : Nat → Bool} (hC : Closed ops D) {o : Oper} (hw : Waited D o) {d j : Nat} (h : (o.after.any fun e => Region.binds .any e && (e.on == j || waitsFor ops d e.on j)) = true) : D j = true := by
  obtain ⟨e, he, hb⟩ := Array.any_eq_true'.1 h
  simp only [Bool.and_eq_true, Bool.or_eq_true, beq_iff_eq] at hb
  have h1 := hw e he hb.1
  rcases hb.2 with h2 | h2
  · rw [← h2]; exact h1
  · by_cases hj : D j = true
    · exact hj
    · rw [waits_not hC (by simpa using hj) d e.on h2] at h1; cases h1
/-- The table's values, but for those that wait for operation p, stay when its block's place is chosen. -/
theorem vals_upd {n : Nat} (ops : Array Oper) (vals : (Nat → Nat) → List Value) (g : Nat → Nat) (p a d : Nat) {D : Nat → Bool} (hC : Closed ops D) (hp : D p = false)
    (h : ∀ j, j < n → (j = p ∨ waitsFor ops d j p = true) ∨ (vals g).getD j undef = (vals (upd g p a)).getD j undef) : ∀ j, j < n → D j = true → (vals g).getD j undef = (vals (upd g p a)).getD j undef := by
  intro j hj hD
  rcases h j hj with (rfl | h) | h
  · rw [hp] at hD; cases hD
  · rw [waits_not hC hp d j h] at hD; cases hD
  · exact h
theorem below_keepRow {w : World} (g : Nat) (cs : Array Value) : Keep (· = g) w (w.setRow g cs) :=
  ⟨rfl, rfl, rfl, by simp [World.setRow], fun k _ hk => setRow_other w g k cs (fun e => hk e)⟩

section
variable {P : Program} {ops : Array Oper} {Q : Exit → Act → World → Prop} {a : Act}
/-- A region whose operations keep S, all but the last one (number n), which waits for all others, if only over others: that one is walked into what follows. -/
theorem region_end {id : Nat} {w : World} (hm : P.follows .mixedOrders = true) (n d : Nat) (vals : List Value) (S : World → Prop) (hok : regionOk ops = true) (hsz : ops.size = n + 1)
    (hlast : (List.range n).all (fun j => waitsFor ops d n j) = true) (h0 : S w.drew)
    (h : ∀ af, puts (fun i => vals.getD i undef) 0 ops.toList a = af → EachTo P ops af S (ops.toList.take n) ∧ ∀ w', S w' → OpTo P ops af (ops.toList.getD n default) w' (fun w'' => Q .normal af w'')) :
    (Code.region id ops true).wp P Q a w := by
  obtain ⟨h1, h2⟩ := h _ rfl
  refine wp_region_any hm ?_
  have haf' : frOf ops (fun i => vals.getD i undef) (fun _ => true) a = puts (fun i => vals.getD i undef) 0 ops.toList a := frOf_puts hok
  have hfr := frOf_none ops (fun i => vals.getD i undef) a
  have hz : (fun i => (Array.replicate ops.size false).getD i false) = fun _ => false := by
    funext i; simp [Array.getD_eq_getD_getElem?, Array.getElem?_replicate]; split <;> rfl
  have key := region_any (P := P) (Q := Q) (val := fun i => vals.getD i undef) (a := a) (I := fun D w' => if D n = true then Q .normal (puts (fun i => vals.getD i undef) 0 ops.toList a) w' else S w') hm hok
    (fun i o ho D w' hDi hw hc hI => by
      rw [haf']
      have hi : i < ops.size := by
        rcases Nat.lt_or_ge i ops.size with h' | h'
        · exact h'
        · simp [Array.getElem?_eq_none h'] at ho
      by_cases hin : i = n
      · subst hin
        rw [hDi] at hI
        simp only [ins, beq_self_eq_true, Bool.true_or, if_true]
        have h3 := h2 w' hI
        rwa [List.getD_eq_getElem?_getD, Array.getElem?_toList, ho] at h3
      · have hDn : D n = false := waits_not hc hDi d n (List.all_eq_true.1 hlast i (by simp; omega))
        rw [hDn] at hI
        have : (ins i D) n = false := by simp [ins, hDn]; omega
        simp only [this]
        exact h1.at (i := i) (by rw [List.getElem?_take]; simp [show i < n by omega, ho]) w' hI)
    (fun D w' hall hI => by
      rw [haf']
      rwa [if_pos (hall n (by omega))] at hI)
    ops.size (Array.replicate ops.size false) w.drew (by simp) (by simp) (fun j o ho hj => by
      simp [Array.getD_eq_getD_getElem?, Array.getElem?_replicate] at hj
      split at hj <;> simp at hj) (by
      have : (Array.replicate ops.size false).getD n false = false := by simp [Array.getD_eq_getD_getElem?, Array.getElem?_replicate]; split <;> rfl
      show if (Array.replicate ops.size false).getD n false = true then _ else S w.drew
      rw [this]
      exact h0)
  rw [hz, hfr] at key
  exact key
end

theorem wp_mapUpdate_of {P : Program} {w w' : World} {o : Oper} {a : Act} {K : Act → World → Prop} {Q : Exit → Act → World → Prop} (t : TypeId) (m x v : Operand) (ho : o.op = .mapUpdate t m x v) {mv xv vv : Value}
    (hm : a.eval m = mv) (hx : a.eval x = xv) (hv : a.eval v = vv) (hr : (Instr.mapUpdate t mv xv vv).run P w = .ok () w') (h : K (a.put o.dst undef) w') : o.wp P a w K Q := by
  unfold Oper.wp
  simp only [execOp, ho, hm, hx, hv, Sem.run_bind, hr, Result.andThen_ok]
  exact h
theorem wp_delete_of {P : Program} {w w' : World} {o : Oper} {a : Act} {K : Act → World → Prop} {Q : Exit → Act → World → Prop} (m x : Operand) (t k : TypeId) {mv xv : Value}
    (ho : o.op = .call { callee := .builtin .delete, args := #[m, x], argTypes := #[t, k] }) (hm : a.eval m = mv) (hx : a.eval x = xv)
    (hr : (Builtin.delete_ #[t, k] o.type #[mv, xv]).run P w = .ok (.tuple #[]) w') (h : K (a.put o.dst (.tuple #[])) w') : o.wp P a w K Q := by
  unfold Oper.wp execOp
  simp only [ho, resolve, invoke, builtin, Sem.run_bind, Sem.run_pure, Result.andThen_ok, List.map_toArray, List.map_cons, List.map_nil, hm, hx, hr]
  exact h
end Go.Proofs.Ytajmladlmkkimaa
