/-
  Pieces of one proof, without what is not wanted: Once, Same, Flw, Ref05, GraphMath.
-/
import Derived.Test.YtbieomgpfhloeaaGreatF01
import Derived.Test.YtbieomgpfhloeaaGreatF02
import Derived.OwnWalk
import Derived.BigQuiet
import Derived.Laws.AppendOwnNone
set_option linter.unusedSimpArgs false
set_option linter.unusedVariables false
namespace Go.Proofs.YtbieomgpfhloeaaGreat
open Go.RowKit
def Once (c : Nat) (S T : World → Prop) (D : Nat → Bool) (w : World) : Prop := (D c = false → S w) ∧ (D c = true → T w)
theorem Once.pre {c : Nat} {S T : World → Prop} {D : Nat → Bool} {w : World} (h : Once c S T D w) (hn : D c = false) : S w := h.1 hn
theorem Once.post {c : Nat} {S T : World → Prop} {D : Nat → Bool} {w : World} (h : Once c S T D w) (hn : D c = true) : T w := h.2 hn
def needStep (ops : Array Oper) (m i : Nat) : Nat := match m.testBit i with
 | true => match ops[i]? with
  | some o => o.after.foldl (fun m e => match Region.binds .any e with
   | true => m ||| 2 ^ e.on
   | false => m) m
  | none => m
 | false => m
def need (ops : Array Oper) (c : Nat) : Nat := (List.range (c + 1)).reverse.foldl (needStep ops) (2 ^ c)
theorem needStep_done {ops : Array Oper} {D : Nat → Bool} (hC : Closed ops D) {m : Nat} (i : Nat) (hm : ∀ j, m.testBit j = true → D j = true) : ∀ j, (needStep ops m i).testBit j = true → D j = true := by
 intro j hj
 unfold needStep at hj
 split at hj
 ·rename_i hi
  split at hj
  ·rename_i o ho
   have hw := hC i o ho (hm i hi)
   rw [← Array.foldl_toList] at hj
   have key : ∀ (l : List Edge) (m : Nat), (∀ e ∈ l, e ∈ o.after) → (∀ j, m.testBit j = true → D j = true) → ∀ j, (l.foldl (fun m e => match Region.binds .any e with | true => m ||| 2 ^ e.on | false => m) m).testBit j = true → D j = true := by
    intro l
    induction l with
    | nil => intro m _ h j hj; exact h j hj
    | cons e r ih =>
     intro m he h j hj
     rw [List.foldl_cons] at hj
     refine ih _ (fun e' h' => he e' (List.mem_cons_of_mem _ h')) ?_ j hj
     intro j' hj'
     split at hj'
     ·rename_i hb
      rw [Nat.testBit_or, Bool.or_eq_true] at hj'
      rcases hj' with hj' | hj'
      ·exact h j' hj'
      ·rw [Nat.testBit_two_pow, decide_eq_true_eq] at hj'
       subst hj'
       exact hw e (he e List.mem_cons_self) hb
     ·exact h j' hj'
   exact key _ m (fun e he => by simpa using he) hm j hj
  ·exact hm j hj
 ·exact hm j hj
theorem need_done {ops : Array Oper} {D : Nat → Bool} (hC : Closed ops D) {c : Nat} (hc : D c = true) : ∀ j, (need ops c).testBit j = true → D j = true := by
 have key : ∀ (l : List Nat) (m : Nat), (∀ j, m.testBit j = true → D j = true) → ∀ j, (l.foldl (needStep ops) m).testBit j = true → D j = true := by
  intro l
  induction l with
  | nil => intro m h j hj; exact h j hj
  | cons i r ih => intro m h j hj; exact ih _ (needStep_done hC i h) j hj
 refine key _ _ fun j hj => ?_
 rw [Nat.testBit_two_pow, decide_eq_true_eq] at hj
 subst hj; exact hc
theorem need_not {ops : Array Oper} {D : Nat → Bool} (hC : Closed ops D) {j : Nat} (hj : D j = false) (c : Nat) (h : (need ops c).testBit j = true) : D c = false := by
 cases hc : D c with
 | false => rfl
 | true => rw [need_done hC hc j h] at hj; cases hj
theorem need_waited {ops : Array Oper} {D : Nat → Bool} (hC : Closed ops D) {o : Oper} (hw : Waited D o) {c : Nat} (h : (o.after.any fun e => Region.binds .any e && (need ops e.on).testBit c) = true) : D c = true := by
 obtain ⟨e, he, hb⟩ := Array.any_eq_true'.1 h
 simp only [Bool.and_eq_true] at hb
 exact need_done hC (hw e he hb.1) c hb.2
end Go.Proofs.YtbieomgpfhloeaaGreat
namespace Go.Proofs.YtbieomgpfhloeaaGreat
open Go.RowKit
def regionNo (n : Nat) : Code → Option Code
 | .region i ops m => match i == n with
  | true => some (.region i ops m)
  | false => none
 | .seq a b => match regionNo n a with
  | some c => some c
  | none => regionNo n b
 | .cond _ a b => match regionNo n a with
  | some c => some c
  | none => regionNo n b
 | .block _ c => regionNo n c
 | .scope c => regionNo n c
 | .loop c => regionNo n c
 | _ => none
end Go.Proofs.YtbieomgpfhloeaaGreat
namespace Go.Proofs.YtbieomgpfhloeaaGreat
open Go.RowKit
section
variable {P : Program} {ops : Array Oper} {Q : Exit → Act → World → Prop} {a : Act}
theorem put_put_eq {val : Nat → Value} {D : Nat → Bool} {o : Oper} {v v' : Value} (h : (frOf ops val (fun _ => true) a).put o.dst v = (frOf ops val (fun _ => true) a).put o.dst v') : (frOf ops val D a).put o.dst v = (frOf ops val D a).put o.dst v' := by
 cases hd : o.dst with
 | none => rfl
 | some d =>
  rw [hd] at h
  simp only [Act.put] at h ⊢
  have h1 := congrArg Act.tmps h
  simp only at h1
  by_cases hs : d < a.tmps.size
  ·have h2 := congrArg (fun t => t[d]?) h1
   simp [frOf, hs] at h2
   rw [h2]
  ·have hz : (frOf ops val D a).tmps.size ≤ d := by simpa [frOf] using hs
   have e : ∀ x, (frOf ops val D a).tmps.setIfInBounds d x = (frOf ops val D a).tmps := fun x => Array.setIfInBounds_eq_of_size_le hz
   rw [e, e]
def LeftBy (af : Act) (o : Oper) (R : Value → World → Prop) (a' : Act) (w' : World) : Prop := ∃ v, a' = af.put o.dst v ∧ R v w'
def OpGets (P : Program) (ops : Array Oper) (af : Act) (o : Oper) (w : World) (R : Value → World → Prop) : Prop :=
 if Region.wanted o (yielded ops af.tmps) then o.wp P af w (fun a' w' => LeftBy af o R a' w') (fun _ _ _ => False) else R undef w
theorem OpGets.wanted {af : Act} {o : Oper} {w : World} {R : Value → World → Prop} (hw : Region.wanted o (yielded ops af.tmps) = true) (h : o.wp P af w (fun a' w' => LeftBy af o R a' w') (fun _ _ _ => False)) : OpGets P ops af o w R := by
 unfold OpGets
 rw [if_pos hw]
 exact h
theorem OpGets.wpOp {val : Nat → Value} {i : Nat} {o : Oper} {D : Nat → Bool} {w : World} {R : Value → World → Prop} (ho : ops[i]? = some o) (hok : opOk ops i o = true) (hwt : Waited D o)
  (h : OpGets P ops (frOf ops val (fun _ => true) a) o w R) {K : Act → World → Prop} (hK : ∀ v w', R v w' → K ((frOf ops val D a).put o.dst v) w') :
  Go.wpOp P ops Q i K (frOf ops val D a) w := by
 obtain ⟨he, hwd⟩ := frOf_exec (val := val) (a := a) hok hwt
 unfold OpGets at h
 unfold Go.wpOp
 simp only [ho, hwd]
 split
 ·rename_i hw
  rw [if_pos hw] at h
  refine .inl ?_
  unfold Oper.wp at h ⊢
  rw [he]
  generalize (execOp (frOf ops val (fun _ => true) a).eval o).run P w = r at h
  cases r with
  | ok n w' =>
   cases n <;> simp only [Oper.upon] at h ⊢
   case value v => obtain ⟨v', h1, h2⟩ := h; rw [put_put_eq h1]; exact hK _ _ h2
   case skip => obtain ⟨v', h1, h2⟩ := h; rw [put_put_eq h1]; exact hK _ _ h2
   case defer d =>
    obtain ⟨v', h1, h2⟩ := h
    have := congrArg Act.defers h1
    exfalso
    cases hdst : o.dst <;> rw [hdst] at this <;> simp only [Act.put] at this <;> exact absurd (congrArg List.length this) (by simp)
   case enter f args =>
    refine Calls.mono h fun e w'' hh => ?_
    cases e with
    | returned v => simp only at hh ⊢; obtain ⟨v', h1, h2⟩ := hh; rw [put_put_eq h1]; exact hK _ _ h2
    | panicked c => exact hh.elim
    | outgrown => obtain ⟨_, _, hh⟩ := hh; exact hh.elim
   case row row args =>
    refine Rows.mono h fun v w'' hh => ?_
    obtain ⟨v', h1, h2⟩ := hh; rw [put_put_eq h1]; exact hK _ _ h2
  | halt x w' =>
   cases x <;> simp only [Oper.upon] at h ⊢
 ·rename_i hw
  rw [if_neg hw] at h
  exact hK _ _ h
def OwesF {G : Type} (P : Program) (ops : Array Oper) (vals : G → Nat → Value) (AF : G → Act) (I : G → (Nat → Bool) → World → Prop) (k : Nat) (o : Oper) (g : G) (D : Nat → Bool) (w : World) : Prop :=
 (∃ g', (∀ j, j < ops.size → D j = true → vals g j = vals g' j) ∧ OpTo P ops (AF g') o w (I g' (ins k D))) ∨
  OpGets P ops (AF g) o w (fun v w' => ∃ g', (∀ j, j < ops.size → D j = true → vals g j = vals g' j) ∧ vals g' k = v ∧ I g' (ins k D) w')
theorem region_anyF {G : Type} {val : G → Nat → Value} {I : G → (Nat → Bool) → World → Prop} (hok : regionOk ops = true)
  (hop : ∀ (i : Nat) (o : Oper), ops[i]? = some o → ∀ g D w, D i = false → Waited D o → Closed ops D → I g D w → OwesF P ops val (fun g => frOf ops (val g) (fun _ => true) a) I i o g D w)
  (hend : ∀ g D w, (∀ i, i < ops.size → D i = true) → I g D w → Q .normal (frOf ops (val g) (fun _ => true) a) w) :
  ∀ (fuel : Nat) (listed : Array Bool) (g : G) (w : World), listed.size = ops.size → fuel = (listed.toList.filter (! ·)).length → Closed ops (fun i => listed.getD i false) → I g (fun i => listed.getD i false) w →
   wpAny P .any ops Q fuel listed (frOf ops (val g) (fun i => listed.getD i false) a) w := by
 have fin : ∀ (listed : Array Bool) (g : G) (w : World), listed.size = ops.size → I g (fun i => listed.getD i false) w → Region.ready .any ops listed = [] →
   Q .normal (frOf ops (val g) (fun i => listed.getD i false) a) w := by
  intro listed g w hsz hI hr
  have hall := ready_all hok hsz hr
  have hall' : ∀ i, i < ops.size → listed.getD i false = true := fun i hi => by
   have := hall i hi
   have h4 : i < listed.size := by omega
   simpa [Array.getD_eq_getD_getElem?, Array.getElem?_eq_getElem h4] using this
  rw [frOf_congr ops (val g) _ (fun _ => true) a (fun i hi => hall' i hi)]
  exact hend g _ w hall' hI
 intro fuel
 induction fuel with
 | zero =>
  intro listed g w hsz hf hc hI
  have hz : ∀ i, i < ops.size → listed.getD i true = true := by
   intro i hi
   have h4 : i < listed.size := by omega
   have h5 : listed[i] ∈ listed.toList := by simp
   have h6 := List.filter_eq_nil_iff.1 (List.length_eq_zero_iff.1 hf.symm) _ h5
   simp only [Array.getD_eq_getD_getElem?, Array.getElem?_eq_getElem h4, Option.getD_some]
   simpa using h6
  have hr : Region.ready .any ops listed = [] := by
   unfold Region.ready
   refine List.filter_eq_nil_iff.2 fun i hi => ?_
   have hi' : i < ops.size := by simpa using hi
   simp [hz i hi']
  exact ⟨hr, fin listed g w hsz hI hr⟩
 | succ fuel ih =>
  intro listed g w hsz hf hc hI
  refine ⟨fin listed g w hsz hI, fun i hi => ?_⟩
  obtain ⟨hun, o, ho, hall⟩ := mem_ready.1 hi
  have hisz : i < listed.size := by
   rcases Nat.lt_or_ge i listed.size with h' | h'
   ·exact h'
   ·simp [Array.getElem?_eq_none h'] at hun
  have hun' : listed.getD i false = false := by simpa [Array.getD_eq_getD_getElem?, Array.getElem?_eq_getElem hisz] using hun
  have hwt : Waited (fun i => listed.getD i false) o := fun e he hb => hall e he hb
  have heq : (ins i fun i => listed.getD i false) = fun j => (listed.setIfInBounds i true).getD j false := by
   funext j
   simp only [ins, Array.getD_eq_getD_getElem?]
   by_cases hji : j = i
   ·subst hji; simp [Array.getElem?_setIfInBounds_self_of_lt hisz]
   ·rw [Array.getElem?_setIfInBounds_ne (Ne.symm hji)]; simp [hji]
  have next : ∀ g' w', I g' (ins i fun i => listed.getD i false) w' → wpAny P .any ops Q fuel (listed.setIfInBounds i true) (frOf ops (val g') (ins i fun i => listed.getD i false) a) w' := by
   intro g' w' hw'
   rw [heq] at hw' ⊢
   refine ih _ g' w' (by simpa using hsz) ?_ ?_ hw'
   ·have hlen : ((listed.setIfInBounds i true).toList.filter (! ·)).length + 1 = (listed.toList.filter (! ·)).length := by
     simp only [Array.toList_setIfInBounds]
     have hfa : listed.toList[i]? = some false := by
      simp only [Array.getD_eq_getD_getElem?, Array.getElem?_eq_getElem hisz, Option.getD_some] at hun
      simp [hisz, hun]
     exact filter_set _ _ hfa
    omega
   ·intro j oj hoj hj e he hb
    rw [← heq] at hj ⊢
    simp only [ins, Bool.or_eq_true, beq_iff_eq] at hj ⊢
    rcases hj with rfl | hj
    ·rw [ho] at hoj; cases hoj
     exact .inr (hwt e he hb)
    ·exact .inr (hc j oj hoj hj e he hb)
  have hd : ∀ d, o.dst = some d → writerOf ops d = some i := by
   intro d hd
   have := regionOk_at hok ho
   simp only [opOk, Bool.and_eq_true, hd, beq_iff_eq] at this
   exact this.1.1.1
  rcases hop i o ho g _ w hun' hwt hc hI with ⟨g', hag, hop'⟩ | hop'
  ·rw [frOf_vals ops (val g) (val g') _ a hag]
   exact OpTo.wpOp ho (regionOk_at hok ho) hwt hop' fun w' hw' => next g' w' hw'
  ·refine OpGets.wpOp ho (regionOk_at hok ho) hwt hop' fun v w' hv => ?_
   obtain ⟨g', hag, hv, hI'⟩ := hv
   rw [frOf_vals ops (val g) (val g') _ a hag, ← hv, frOf_put ho hd (frOf_self hok ho)]
   exact next g' w' hI'
def EachF {G : Type} (P : Program) (ops : Array Oper) (vals : G → List Value) (AF : G → Act) (I : G → (Nat → Bool) → World → Prop) : Nat → List Oper → Prop
 | _, [] => True
 | k, o :: r => (∀ g D w', D k = false → Waited D o → Closed ops D → I g D w' → OwesF P ops (fun g i => (vals g).getD i undef) AF I k o g D w') ∧ EachF P ops vals AF I (k + 1) r
theorem EachF.at {G : Type} {vals : G → List Value} {AF : G → Act} {I : G → (Nat → Bool) → World → Prop} : ∀ {l : List Oper} {k : Nat}, EachF P ops vals AF I k l → ∀ {i : Nat} {o : Oper}, l[i]? = some o → ∀ g D w', D (k + i) = false → Waited D o → Closed ops D → I g D w' →
   OwesF P ops (fun g i => (vals g).getD i undef) AF I (k + i) o g D w'
 | [], _, _, i, o, h => by simp at h
 | o :: r, k, h, 0, o', ho => by simp at ho; subst ho; exact h.1
 | o :: r, k, h, i + 1, o', ho => by
  have := EachF.at h.2 (i := i) (by simpa using ho)
  rwa [show k + (i + 1) = k + 1 + i by omega]
theorem region_fresh {id : Nat} {w : World} (hm : P.follows .mixedOrders = true) {G : Type} (vals : G → List Value) (I : G → (Nat → Bool) → World → Prop) (hok : regionOk ops = true) (g0 : G) (h0 : I g0 (fun _ => false) w.drew)
  (h : ∀ AF : G → Act, (∀ g, puts (fun i => (vals g).getD i undef) 0 ops.toList a = AF g) →
   EachF P ops vals AF I 0 ops.toList ∧ ∀ g D w', (∀ i, i < ops.size → D i = true) → I g D w' → Q .normal (AF g) w') :
  (Code.region id ops true).wp P Q a w := by
 obtain ⟨h1, h2⟩ := h _ (fun _ => rfl)
 refine wp_region_any hm ?_
 have haf' : ∀ g, frOf ops (fun i => (vals g).getD i undef) (fun _ => true) a = puts (fun i => (vals g).getD i undef) 0 ops.toList a := fun g => frOf_puts hok
 have hz : (fun i => (Array.replicate ops.size false).getD i false) = fun _ => false := by
  funext i; simp [Array.getD_eq_getD_getElem?, Array.getElem?_replicate]; split <;> rfl
 have hfun : (fun g => frOf ops (fun i => (vals g).getD i undef) (fun _ => true) a) = fun g => puts (fun i => (vals g).getD i undef) 0 ops.toList a := funext haf'
 have key := region_anyF (P := P) (Q := Q) (val := fun g i => (vals g).getD i undef) (a := a) (I := I) hok
  (fun i o ho g D w' hDi hw hc hI => by
   have := h1.at (i := i) (o := o) (by simpa using ho) g D w' (by simpa using hDi) hw hc hI
   rw [hfun]
   simpa using this)
  (fun g D w' hall hI => by rw [haf' g]; exact h2 g D w' hall hI)
  ops.size (Array.replicate ops.size false) g0 w.drew (by simp) (by simp) (fun j o ho hj => by
   simp [Array.getD_eq_getD_getElem?, Array.getElem?_replicate] at hj
   split at hj <;> simp at hj) (by rw [hz]; exact h0)
 have hfr := frOf_none ops (fun i => (vals g0).getD i undef) a
 simp only [hz] at key
 rw [hfr] at key
 exact key
end
end Go.Proofs.YtbieomgpfhloeaaGreat
namespace Go.Proofs.YtbieomgpfhloeaaGreat
open Go.RowKit
def updV (s : Nat → Value) (p : Nat) (v : Value) : Nat → Value := fun j => match j == p with
 | true => v
 | false => s j
theorem updV_self (s : Nat → Value) (p : Nat) (v : Value) : updV s p v p = v := by simp [updV]
theorem updV_ne (s : Nat → Value) {p j : Nat} (v : Value) (h : j ≠ p) : updV s p v j = s j := by
 unfold updV
 have e : (j == p) = false := by simpa using h
 rw [e]
def Got (W : World) (l : List (Nat × (Value → World → Prop))) (s : Nat → Value) (D : Nat → Bool) (w : World) : Prop :=
 Below W.heap.size W w ∧ ∀ q ∈ l, D q.1 = true → q.2 (s q.1) w
def Lasts (P : Value → World → Prop) : Prop := ∀ v w w', P v w → Below w.heap.size w w' → P v w'
theorem Got.start (W : World) (l : List (Nat × (Value → World → Prop))) (s : Nat → Value) : Got W l s (fun _ => false) W.drew := ⟨(Below.refl _ _).drew, fun _ _ d => (Bool.false_ne_true d).elim⟩
theorem Got.below {W : World} {l : List (Nat × (Value → World → Prop))} {s : Nat → Value} {D : Nat → Bool} {w : World} (h : Got W l s D w) : Below W.heap.size W w := h.1
theorem Got.at {W : World} {l : List (Nat × (Value → World → Prop))} {s : Nat → Value} {D : Nat → Bool} {w : World} (h : Got W l s D w) (q : Nat × (Value → World → Prop)) (hq : q ∈ l) (hd : D q.1 = true) : q.2 (s q.1) w := h.2 q hq hd
theorem Got.step {W w w' : World} {l : List (Nat × (Value → World → Prop))} {s : Nat → Value} {D : Nat → Bool} (h : Got W l s D w) (hl : ∀ q ∈ l, Lasts q.2) (hb : Below w.heap.size w w') {k : Nat} (hk : ∀ q ∈ l, q.1 ≠ k) : Got W l s (ins k D) w' := by
 refine ⟨h.1.trans (hb.mono h.1.size), fun q hq d => hl q hq _ _ _ (h.2 q hq ?_) hb⟩
 simpa [ins, hk q hq] using d
theorem Got.put {W w w' : World} {l : List (Nat × (Value → World → Prop))} {s : Nat → Value} {D : Nat → Bool} (h : Got W l s D w) (hl : ∀ q ∈ l, Lasts q.2) (hb : Below w.heap.size w w') {p : Nat} {v : Value} (hv : ∀ q ∈ l, q.1 = p → q.2 v w') : Got W l (updV s p v) (ins p D) w' := by
 refine ⟨h.1.trans (hb.mono h.1.size), fun q hq d => ?_⟩
 by_cases e : q.1 = p
 ·rw [e, updV_self]; exact hv q hq e
 ·rw [updV_ne _ _ e]
  exact hl q hq _ _ _ (h.2 q hq (by simpa [ins, e] using d)) hb
theorem vals_put {n : Nat} (ops : Array Oper) (vals : (Nat → Value) → List Value) (s : Nat → Value) (p : Nat) (v : Value) {D : Nat → Bool} (hC : Closed ops D) (hp : D p = false)
  (h : ∀ j, j < n → (j = p ∨ (need ops j).testBit p = true) ∨ (vals s).getD j undef = (vals (updV s p v)).getD j undef) : ∀ j, j < n → D j = true → (vals s).getD j undef = (vals (updV s p v)).getD j undef := by
 intro j hj hD
 rcases h j hj with (rfl | h) | h
 ·rw [hp] at hD; cases hD
 ·rw [need_not hC hp j h] at hD; cases hD
 ·exact h
end Go.Proofs.YtbieomgpfhloeaaGreat
namespace Go.Proofs.YtbieomgpfhloeaaGreat
open Go.RowKit
def Reads (w : World) (v : Value) (size n : Nat) (xs : List Value) : Prop :=
 ∃ (ao : Option Addr) (cap : Nat), v = .slice ao n cap ∧ n ≤ 100000000 ∧ xs.length = n * size ∧ (0 < n → ∃ b off, ao = some ⟨b, off, none⟩ ∧ b < w.heap.size ∧ ∀ j, j < n * size → w.cell? ⟨b, off + j, none⟩ = xs[j]?)
theorem Reads.keep {S : Nat → Prop} {w w' : World} {v : Value} {size n : Nat} {xs : List Value} (h : Reads w v size n xs) (k : Keep S w w') (hs : ∀ b, v.ownBlock = some b → ¬ S b) : Reads w' v size n xs := by
 obtain ⟨ao, cap, rfl, h1, h2, h3⟩ := h
 refine ⟨ao, cap, rfl, h1, h2, fun hp => ?_⟩
 obtain ⟨b, off, rfl, hb, hc⟩ := h3 hp
 exact ⟨b, off, rfl, Nat.lt_of_lt_of_le hb k.size, fun j hj => by rw [k.cell (p := ⟨b, off + j, none⟩) hb (hs b rfl)]; exact hc j hj⟩
theorem Reads.below {w w' : World} {v : Value} {size n : Nat} {xs : List Value} (h : Reads w v size n xs) (k : Below w.heap.size w w') : Reads w' v size n xs :=
 h.keep (Keep.of_below (S := fun _ => False) k) (fun _ _ => id)
theorem take_eq_next {α : Type} {l m : List α} {k : Nat} (h : k < l.length) (hm : k < m.length) (he : l.take k = m.take k) (hx : l[k] = m[k]) : l.take (k + 1) = m.take (k + 1) := by
 rw [List.take_succ_eq_append_getElem h, List.take_succ_eq_append_getElem hm, he, hx]
theorem ln_parts (x y : Ln) : (x = y) ∨ (x ≠ y ∧ (x.cr == y.cr) = false) ∨ (x ≠ y ∧ (x.cr == y.cr) = true ∧ (x.de == y.de) = false) ∨ (x ≠ y ∧ (x.cr == y.cr) = true ∧ (x.de == y.de) = true ∧ (x.cu == y.cu) = false) ∨ (x ≠ y ∧ (x.cr == y.cr) = true ∧ (x.de == y.de) = true ∧ (x.cu == y.cu) = true ∧ (x.li == y.li) = false) ∨ (x ≠ y ∧ (x.cr == y.cr) = true ∧ (x.de == y.de) = true ∧ (x.cu == y.cu) = true ∧ (x.li == y.li) = true ∧ (x.db == y.db) = false) := by
 obtain ⟨a, b, c, d, e⟩ := x
 obtain ⟨a', b', c', d', e'⟩ := y
 by_cases h1 : a = a' <;> by_cases h2 : b = b' <;> by_cases h3 : c = c' <;> by_cases h4 : d = d' <;> by_cases h5 : e = e' <;> simp [h1, h2, h3, h4, h5]
set_option maxHeartbeats 4000000 in
theorem sameLine_any {w : World} {va vb : Value} {la lb : List Ln} (ha : Reads w va 5 la.length (lnCells la)) (hb : Reads w vb 5 lb.length (lnCells lb)) :
  Calls Tryz.prog 58 #[va, vb] w fun e w' => e = .returned (.bool (decide (la = lb))) ∧ Below w.heap.size w w' := by
 obtain ⟨ao, ca, rfl, a1, a2, a3⟩ := ha
 obtain ⟨bo, cb, rfl, b1, b2, b3⟩ := hb
 have HA := Lib.hid a3; have HB := Lib.hid b3
 clear a2 a3 b2 b3
 by_cases hlen : la.length = lb.length
 ·have L := Lib.hid hlen
  have hll : lb.length = la.length := hlen.symm
  rw [hll]
  clear hll hlen b1
  go_enter Tryz.func58, Tryz.ntmps58
  go_wp2
  go_loopw [5] (fun i wr => ∃ k : Nat, k ≤ la.length ∧ i = .int .i64 k ∧ Hid (la.take k = lb.take k) ∧ Below w.heap.size w wr) (fun i _ => la.length - (intOf i).toNat)
  case atStart => exact ⟨0, Nat.zero_le _, rfl, Lib.hid (by simp), Below.refl _ _⟩
  case round =>
   obtain ⟨k, hk, rfl, ht, hbl⟩ := hrel
   have BL := Lib.hid hbl
   by_cases hkl : k < la.length
   ·have hkb : k < lb.length := by have := L.out; omega
    obtain ⟨b1, o1, rfl, hlt1, hc1⟩ := HA.out (by omega)
    obtain ⟨b2, o2, rfl, hlt2, hc2⟩ := HB.out (by omega)
    have HC1 := Lib.hid (fun j (hj : j < la.length * 5) => (hbl.cell (p := ⟨b1, o1 + j, none⟩) hlt1).trans (hc1 j hj))
    have HC2 := Lib.hid (fun j (hj : j < lb.length * 5) => (hbl.cell (p := ⟨b2, o2 + j, none⟩) hlt2).trans (hc2 j hj))
    have d0 : wr.cell? ⟨b1, o1 + k * 5, none⟩ = some (.int .u8 la[k].cr) := by
     have q1 := HC1.out (k * 5 + 0) (by omega)
     rw [lnCells_get la k 0 (by omega) hkl] at q1
     first | exact q1 | (rw [← Nat.add_assoc] at q1; exact q1)
    have d1 : wr.cell? ⟨b1, o1 + k * 5 + 1, none⟩ = some (.int .u8 la[k].de) := by
     have q1 := HC1.out (k * 5 + 1) (by omega)
     rw [lnCells_get la k 1 (by omega) hkl] at q1
     first | exact q1 | (rw [← Nat.add_assoc] at q1; exact q1)
    have d2 : wr.cell? ⟨b1, o1 + k * 5 + 2, none⟩ = some (.int .u8 la[k].cu) := by
     have q1 := HC1.out (k * 5 + 2) (by omega)
     rw [lnCells_get la k 2 (by omega) hkl] at q1
     first | exact q1 | (rw [← Nat.add_assoc] at q1; exact q1)
    have d3 : wr.cell? ⟨b1, o1 + k * 5 + 3, none⟩ = some (.int .i64 la[k].li) := by
     have q1 := HC1.out (k * 5 + 3) (by omega)
     rw [lnCells_get la k 3 (by omega) hkl] at q1
     first | exact q1 | (rw [← Nat.add_assoc] at q1; exact q1)
    have d4 : wr.cell? ⟨b1, o1 + k * 5 + 4, none⟩ = some (.int .i64 la[k].db) := by
     have q1 := HC1.out (k * 5 + 4) (by omega)
     rw [lnCells_get la k 4 (by omega) hkl] at q1
     first | exact q1 | (rw [← Nat.add_assoc] at q1; exact q1)
    have f0 : wr.cell? ⟨b2, o2 + k * 5, none⟩ = some (.int .u8 lb[k].cr) := by
     have q1 := HC2.out (k * 5 + 0) (by omega)
     rw [lnCells_get lb k 0 (by omega) hkb] at q1
     first | exact q1 | (rw [← Nat.add_assoc] at q1; exact q1)
    have f1 : wr.cell? ⟨b2, o2 + k * 5 + 1, none⟩ = some (.int .u8 lb[k].de) := by
     have q1 := HC2.out (k * 5 + 1) (by omega)
     rw [lnCells_get lb k 1 (by omega) hkb] at q1
     first | exact q1 | (rw [← Nat.add_assoc] at q1; exact q1)
    have f2 : wr.cell? ⟨b2, o2 + k * 5 + 2, none⟩ = some (.int .u8 lb[k].cu) := by
     have q1 := HC2.out (k * 5 + 2) (by omega)
     rw [lnCells_get lb k 2 (by omega) hkb] at q1
     first | exact q1 | (rw [← Nat.add_assoc] at q1; exact q1)
    have f3 : wr.cell? ⟨b2, o2 + k * 5 + 3, none⟩ = some (.int .i64 lb[k].li) := by
     have q1 := HC2.out (k * 5 + 3) (by omega)
     rw [lnCells_get lb k 3 (by omega) hkb] at q1
     first | exact q1 | (rw [← Nat.add_assoc] at q1; exact q1)
    have f4 : wr.cell? ⟨b2, o2 + k * 5 + 4, none⟩ = some (.int .i64 lb[k].db) := by
     have q1 := HC2.out (k * 5 + 4) (by omega)
     rw [lnCells_get lb k 4 (by omega) hkb] at q1
     first | exact q1 | (rw [← Nat.add_assoc] at q1; exact q1)
    have hz1 : b1 < wr.heap.size := Nat.lt_of_lt_of_le hlt1 hbl.size
    have hz2 : b2 < wr.heap.size := Nat.lt_of_lt_of_le hlt2 hbl.size
    have NE := Lib.hid (fun (he : la[k] ≠ lb[k]) => show decide (la = lb) = false by
     rw [decide_eq_false_iff_not]; rintro rfl; exact he rfl)
    have EQ := Lib.hid (fun (he : la[k] = lb[k]) => take_eq_next hkl hkb ht.out he)
    clear hc1 hc2 HC1 HC2 hbl
    generalize la[k] = x at *
    generalize lb[k] = y at *
    have hs : (x = y) ∨ (x ≠ y ∧ (x.cr == y.cr) = false) ∨ (x ≠ y ∧ (x.cr == y.cr) = true ∧ (x.de == y.de) = false) ∨ (x ≠ y ∧ (x.cr == y.cr) = true ∧ (x.de == y.de) = true ∧ (x.cu == y.cu) = false) ∨ (x ≠ y ∧ (x.cr == y.cr) = true ∧ (x.de == y.de) = true ∧ (x.cu == y.cu) = true ∧ (x.li == y.li) = false) ∨ (x ≠ y ∧ (x.cr == y.cr) = true ∧ (x.de == y.de) = true ∧ (x.cu == y.cu) = true ∧ (x.li == y.li) = true ∧ (x.db == y.db) = false) := ln_parts x y
    rcases hs with rfl | ⟨he, s1⟩ | ⟨he, s1, s2⟩ | ⟨he, s1, s2, s3⟩ | ⟨he, s1, s2, s3, s4⟩ | ⟨he, s1, s2, s3, s4, s5⟩
    ·clear NE
     go_wp2
     go_region
     all_goals
      go_wp2
      go_roundw
      case rel => exact ⟨k + 1, by omega, by go_num, Lib.hid (EQ.out (by first | exact rfl | trivial)), by first | exact BL.out.drew | exact BL.out⟩
      case measure => simp [intOf]; omega
    ·have E := Lib.hid (NE.out he)
     clear he NE EQ
     go_wp2
     go_region
     all_goals
      go_wp2
      go_ret
      exact ⟨by rw [E.out]; rfl, by first | exact BL.out.drew | exact BL.out⟩
    ·have E := Lib.hid (NE.out he)
     clear he NE EQ
     go_wp2
     go_region
     all_goals
      go_wp2
      go_ret
      exact ⟨by rw [E.out]; rfl, by first | exact BL.out.drew | exact BL.out⟩
    ·have E := Lib.hid (NE.out he)
     clear he NE EQ
     go_wp2
     go_region
     all_goals
      go_wp2
      go_ret
      exact ⟨by rw [E.out]; rfl, by first | exact BL.out.drew | exact BL.out⟩
    ·have E := Lib.hid (NE.out he)
     clear he NE EQ
     go_wp2
     go_region
     all_goals
      go_wp2
      go_ret
      exact ⟨by rw [E.out]; rfl, by first | exact BL.out.drew | exact BL.out⟩
    ·have E := Lib.hid (NE.out he)
     clear he NE EQ
     go_wp2
     go_region
     all_goals
      go_wp2
      go_ret
      exact ⟨by rw [E.out]; rfl, by first | exact BL.out.drew | exact BL.out⟩
   ·have E := Lib.hid (show decide (la = lb) = true by
     have h1 := ht.out
     rw [List.take_of_length_le (by omega), List.take_of_length_le (by have := L.out; omega)] at h1
     rw [decide_eq_true_eq]; exact h1)
    go_wp2
    go_ret
    exact ⟨by rw [E.out]; rfl, BL.out⟩
 ·have E := Lib.hid (show decide (la = lb) = false by rw [decide_eq_false_iff_not]; rintro rfl; exact hlen rfl)
  have q : ((la.length : Int) == (lb.length : Int)) = false := by simp; omega
  clear hlen
  go_enter Tryz.func58, Tryz.ntmps58
  go_wp2
  go_ret
  exact ⟨by rw [E.out]; rfl, Below.refl _ _⟩
end Go.Proofs.YtbieomgpfhloeaaGreat
namespace Go.Proofs.YtbieomgpfhloeaaGreat
open Go.RowKit
theorem run_slice_clip {P : Program} (w : World) (t e : TypeId) (sz : Nat) (ht : P.underlying t = some (.slice e)) (hs : (sizeOf e).run P w = .ok sz w) (b n cap : Nat) (h : n ≤ cap) :
  (Instr.sliceAt t (.slice (some ⟨b, 0, none⟩) n cap) none (some (.int .i64 n)) (some (.int .i64 n))).run P w = .ok (.slice (some ⟨b, 0, none⟩) n n) w := by
 have he : P.elem t = e := by simp [Program.elem, ht]
 simp [Instr.sliceAt, Instr.slice, run_underlying ht, Instr.sliceBounds, run_sliceBound, hs, h, Result.andThen, Addr.add]
theorem run_slice_clip_none {P : Program} (w : World) (t e : TypeId) (sz : Nat) (ht : P.underlying t = some (.slice e)) (hs : (sizeOf e).run P w = .ok sz w) :
  (Instr.sliceAt t (.slice none 0 0) none (some (.int .i64 0)) (some (.int .i64 0))).run P w = .ok (.slice none 0 0) w := by
 simp [Instr.sliceAt, Instr.slice, run_underlying ht, Instr.sliceBounds, run_sliceBound, hs, Result.andThen, Addr.add]
def Rowed (w : World) (base : Nat) (e : TypeId) (size : Nat) (v : Value) (n : Nat) (xs : List Value) : Prop :=
 xs.length = n * size ∧ ((v = .slice none 0 0 ∧ n = 0) ∨ ∃ g cur, v = .slice (some ⟨g, 0, none⟩) n n ∧ base ≤ g ∧ w.heap[g]? = some (.cells cur e (0, 0)) ∧ n ≤ maxLen ∧ n * size ≤ cur.size ∧ cur.toList.take (n * size) = xs)
theorem Rowed.keep {S : Nat → Prop} {w w' : World} {base : Nat} {e : TypeId} {size : Nat} {v : Value} {n : Nat} {xs : List Value} (h : Rowed w base e size v n xs) (k : Keep S w w') (hs : ∀ b, v.ownBlock = some b → ¬ S b) : Rowed w' base e size v n xs := by
 obtain ⟨h1, h2⟩ := h
 refine ⟨h1, ?_⟩
 rcases h2 with h2 | ⟨g, cur, rfl, hb, hg, hr⟩
 ·exact .inl h2
 ·refine .inr ⟨g, cur, rfl, hb, ?_, hr⟩
  rw [k.block g (lt_of_block hg) (hs g rfl)]
  exact hg
theorem Rowed.below {w w' : World} {base : Nat} {e : TypeId} {size : Nat} {v : Value} {n : Nat} {xs : List Value} (h : Rowed w base e size v n xs) (k : Below w.heap.size w w') : Rowed w' base e size v n xs :=
 h.keep (Keep.of_below (S := fun _ => False) k) (fun _ _ => id)
theorem Rowed.base {w : World} {base b' : Nat} {e : TypeId} {size : Nat} {v : Value} {n : Nat} {xs : List Value} (h : Rowed w base e size v n xs) (hb : b' ≤ base) : Rowed w b' e size v n xs := by
 obtain ⟨h1, h2⟩ := h
 refine ⟨h1, ?_⟩
 rcases h2 with h2 | ⟨g, cur, hv, hg, hr⟩
 ·exact .inl h2
 ·exact .inr ⟨g, cur, hv, Nat.le_trans hb hg, hr⟩
theorem Rowed.reads {w : World} {base : Nat} {e : TypeId} {size : Nat} {v : Value} {n : Nat} {xs : List Value} (h : Rowed w base e size v n xs) (hn : n ≤ 100000000) : Reads w v size n xs := by
 obtain ⟨h1, h2⟩ := h
 rcases h2 with ⟨rfl, rfl⟩ | ⟨g, cur, rfl, _, hg, _, hc, ht⟩
 ·exact ⟨none, 0, rfl, by omega, h1, fun h => by omega⟩
 ·refine ⟨_, n, rfl, hn, h1, fun hp => ⟨g, 0, rfl, lt_of_block hg, fun j hj => ?_⟩⟩
  rw [Nat.zero_add]
  show w.cell? ⟨g, j, none⟩ = _
  simp only [World.cell?, hg, Option.isSome_none, Bool.false_eq_true, if_false]
  rw [← ht, List.getElem?_take_of_lt hj, Array.getElem?_toList]
def ClipPost (w : World) (base : Nat) (e : TypeId) (size n : Nat) (v : Value) (xs : List Value) (en : Ending) (w' : World) : Prop :=
 ∃ v', en = .returned v' ∧ Rowed w' base e size v' n xs ∧ v'.ownBlock = v.ownBlock ∧ w' = w
def ListPost (w : World) (e : TypeId) (size n : Nat) (xs : List Value) (en : Ending) (w' : World) : Prop :=
 ∃ v', en = .returned v' ∧ Rowed w' w.heap.size e size v' n xs ∧ Below w.heap.size w w'
end Go.Proofs.YtbieomgpfhloeaaGreat
namespace Go.Proofs.YtbieomgpfhloeaaGreat
open Go.RowKit
def Twinned (w : World) (base g : Nat) (e : TypeId) (size n : Nat) (xs marks : List Value) : Prop := w.ownsRow base e size (.slice (some ⟨g, 0, none⟩) (n + 2) (n + 2)) (n + 2) (xs ++ marks)
theorem Twinned.cells {w : World} {base g : Nat} {e : TypeId} {size n : Nat} {xs marks : List Value} (h : Twinned w base g e size n xs marks) : g < w.heap.size ∧ ∀ j, j < (n + 2) * size → w.cell? ⟨g, j, none⟩ = (xs ++ marks)[j]? := by
 obtain ⟨ao, cap, hv, _, _, _, hr⟩ := owns_open h
 cases hv
 obtain ⟨b, hb, _, hlt, hc, _⟩ := hr (by omega)
 cases hb
 exact ⟨hlt, hc⟩
theorem lnCells_set (ls : List Ln) {i c : Nat} (hi : i < ls.length) (hc : c < 5) {v : Value} {y : Ln} (hy : y.vals = ls[i].vals.set c v) : lnCells (ls.set i y) = (lnCells ls).set (i * 5 + c) v := by
 apply List.ext_getElem?
 intro j
 by_cases hj : j < ls.length * 5
 ·obtain ⟨a, b, hb, rfl⟩ : ∃ a b, b < 5 ∧ j = a * 5 + b := ⟨j / 5, j % 5, Nat.mod_lt _ (by decide), by omega⟩
  have ha : a < ls.length := by omega
  rw [lnCells_get _ a b hb (by simpa using ha), List.getElem?_set]
  by_cases hai : i = a
  ·subst hai
   rw [List.getElem_set_self, hy, List.getElem?_set, Ln.vals_len, lnCells_len]
   by_cases hbc : c = b
   ·subst hbc
    rw [if_pos rfl, if_pos rfl, if_pos hc, if_pos (by omega)]
   ·rw [if_neg hbc, if_neg (by omega), lnCells_get _ _ _ hb hi]
  ·rw [List.getElem_set_ne hai, if_neg (by omega), lnCells_get _ _ _ hb ha]
 ·rw [List.getElem?_eq_none (by rw [lnCells_len, List.length_set]; omega), List.getElem?_eq_none (by rw [List.length_set, lnCells_len]; omega)]
theorem Rowed.set {w : World} {base : Nat} {e : TypeId} {size : Nat} {g n cap : Nat} {xs : List Value} (h : Rowed w base e size (.slice (some ⟨g, 0, none⟩) n cap) n xs) {j : Nat} (hj : j < n * size) (v : Value) :
  Rowed (w.setCell ⟨g, j, none⟩ v) base e size (.slice (some ⟨g, 0, none⟩) n cap) n (xs.set j v) := by
 obtain ⟨h1, h2⟩ := h
 refine ⟨by simpa using h1, .inr ?_⟩
 rcases h2 with ⟨h2, _⟩ | ⟨g', cur, hv, hb, hg, hm, hc, ht⟩
 ·cases h2
 ·cases hv
  refine ⟨g, cur.setIfInBounds j v, rfl, hb, ?_, hm, by simpa using hc, ?_⟩
  ·exact Blk.set (t := e) hg j v
  ·rw [Array.toList_setIfInBounds, List.take_set, ht]
end Go.Proofs.YtbieomgpfhloeaaGreat
namespace Go.Proofs.YtbieomgpfhloeaaGreat
open Go.RowKit
structure Fw where
 fr : Int
 tt : Int
 am : Int
deriving DecidableEq
def Fw.vals (x : Fw) : List Value := [.int .u8 x.fr, .int .u8 x.tt, .int .i64 x.am]
theorem Fw.vals_len (x : Fw) : x.vals.length = 3 := rfl
def fwCells (ls : List Fw) : List Value := ls.flatMap Fw.vals
def Fw.val (x : Fw) : Value := .agg #[.int .u8 x.fr, .int .u8 x.tt, .int .i64 x.am]
theorem fwCells_len (ls : List Fw) : (fwCells ls).length = ls.length * 3 := flat_len _ 3 Fw.vals_len ls
theorem fwCells_get (ls : List Fw) (i j : Nat) (hj : j < 3) (h : i < ls.length) : (fwCells ls)[i * 3 + j]? = ls[i].vals[j]? := by
 unfold fwCells
 rw [flat_get _ 3 Fw.vals_len ls i j hj, List.getElem?_eq_getElem h]
 rfl
structure Fw.Fits (x : Fw) : Prop where
 fr : In8 x.fr
 tt : In8 x.tt
 am : In64 x.am
theorem info_fw : (Tryz.prog.info? 156).map (fun i => (i.zero, i.size, i.bytes)) = some (some (Fw.val ⟨0, 0, 0⟩), 3, 16) := by kernel_rfl
end Go.Proofs.YtbieomgpfhloeaaGreat
namespace Go.Proofs.YtbieomgpfhloeaaGreat
open Go.RowKit
def edgeAt (f : Int → Int → Int) (m : Nat) : Fw := ⟨((m / 16 : Nat) : Int) + 1, ((m % 16 : Nat) : Int) + 1, f (((m / 16 : Nat) : Int) + 1) (((m % 16 : Nat) : Int) + 1)⟩
def prefE (f : Int → Int → Int) (m : Nat) : List Fw := ((List.range m).map (edgeAt f)).filter fun x => decide (0 < x.am)
def allE (f : Int → Int → Int) : List Fw := prefE f 256
theorem edge_at (f : Int → Int → Int) {p q : Nat} (hq : q < 16) : edgeAt f (p * 16 + q) = ⟨(p : Int) + 1, (q : Int) + 1, f ((p : Int) + 1) ((q : Int) + 1)⟩ := by
 unfold edgeAt
 rw [show (p * 16 + q) / 16 = p by omega, show (p * 16 + q) % 16 = q by omega]
structure RefG (w : World) (base g : Nat) (es : List Fw) (vl : Value) : Prop where
 blk : Blk w g #[vl] 177
 ge : base ≤ g
 row : w.ownsRow base 156 3 vl es.length (fwCells es)
def CapB (es : List Fw) (B : Int) : Prop := ∀ x ∈ es, 0 < x.am ∧ x.am ≤ B
end Go.Proofs.YtbieomgpfhloeaaGreat
namespace Go.Proofs.YtbieomgpfhloeaaGreat
open Go.RowKit
end Go.Proofs.YtbieomgpfhloeaaGreat
namespace Go.Proofs.YtbieomgpfhloeaaGreat
theorem prefE_mem {f : Int → Int → Int} {m : Nat} {x : Fw} : x ∈ prefE f m ↔ ∃ i, i < m ∧ edgeAt f i = x ∧ 0 < x.am := by
 unfold prefE
 simp only [List.mem_filter, List.mem_map, List.mem_range, decide_eq_true_eq]
 constructor
 ·rintro ⟨⟨i, hi, he⟩, h⟩; exact ⟨i, hi, he, h⟩
 ·rintro ⟨i, hi, he, h⟩; exact ⟨⟨i, hi, he⟩, h⟩
def inP (p : Int) : Prop := 1 ≤ p ∧ p ≤ 16
theorem allE_mem {f : Int → Int → Int} {x : Fw} : x ∈ allE f ↔ inP x.fr ∧ inP x.tt ∧ x.am = f x.fr x.tt ∧ 0 < x.am := by
 unfold allE
 rw [prefE_mem]
 constructor
 ·rintro ⟨i, hi, he, h⟩
  unfold edgeAt at he
  subst he
  refine ⟨⟨?_, ?_⟩, ⟨?_, ?_⟩, rfl, h⟩ <;> dsimp only <;> omega
 ·rintro ⟨⟨h1, h2⟩, ⟨h3, h4⟩, h5, h6⟩
  refine ⟨(x.fr.toNat - 1) * 16 + (x.tt.toNat - 1), by omega, ?_, h6⟩
  rw [edge_at f (by omega)]
  have e1 : ((x.fr.toNat - 1 : Nat) : Int) + 1 = x.fr := by omega
  have e2 : ((x.tt.toNat - 1 : Nat) : Int) + 1 = x.tt := by omega
  rw [e1, e2, ← h5]
def updE (f : Int → Int → Int) (a b n p q : Int) : Int := if p = a ∧ q = b then n else f p q
theorem CapB.all {f : Int → Int → Int} {B : Int} (h : ∀ p q, inP p → inP q → f p q ≤ B) : CapB (allE f) B := by
 intro x hx
 have := allE_mem.1 hx
 exact ⟨this.2.2.2, by rw [this.2.2.1]; exact h _ _ this.1 this.2.1⟩
structure GInv (f : Int → Int → Int) (B : Int) : Prop where
 nn : ∀ p q, 0 ≤ f p q
 pair : ∀ p q, f p q + f q p ≤ B
 out : ∀ p q, ¬ (inP p ∧ inP q) → f p q = 0
 self : ∀ p, f p p = 0
theorem GInv.le {f : Int → Int → Int} {B : Int} (h : GInv f B) (p q : Int) : f p q ≤ B := by have := h.pair p q; have := h.nn q p; omega
theorem GInv.ends {f : Int → Int → Int} {B : Int} (h : GInv f B) {p q : Int} (h0 : 0 < f p q) : inP p ∧ inP q ∧ p ≠ q := by
 by_cases hi : inP p ∧ inP q
 ·refine ⟨hi.1, hi.2, ?_⟩
  rintro rfl
  have := h.self p
  omega
 ·have := h.out p q hi; omega
def zeroF (_ _ : Int) : Int := 0
theorem GInv.zero {B : Int} (h : 0 ≤ B) : GInv zeroF B := ⟨fun _ _ => Int.le_refl _, fun _ _ => by unfold zeroF; omega, fun _ _ _ => rfl, fun _ => rfl⟩
def pushF (f : Int → Int → Int) (a b n p q : Int) : Int := if p = b ∧ q = a then f b a + n else if p = a ∧ q = b then f a b - n else f p q
theorem GInv.push {f : Int → Int → Int} {B : Int} (h : GInv f B) {a b n : Int} (h1 : 1 ≤ n) (h2 : n ≤ f a b) : GInv (pushF f a b n) B := by
 obtain ⟨ha, hb, hne⟩ := h.ends (p := a) (q := b) (by omega)
 have hba := h.nn b a
 refine ⟨fun p q => ?_, fun p q => ?_, fun p q hi => ?_, fun p => ?_⟩
 ·unfold pushF
  have := h.nn p q
  split
  ·omega
  ·split <;> omega
 ·have hp := h.pair p q
  have hab := h.pair a b
  by_cases c1 : p = b ∧ q = a
  ·obtain ⟨rfl, rfl⟩ := c1
   have e1 : pushF f q p n p q = f p q + n := by unfold pushF; rw [if_pos ⟨rfl, rfl⟩]
   have e2 : pushF f q p n q p = f q p - n := by unfold pushF; rw [if_neg (fun e => hne e.1), if_pos ⟨rfl, rfl⟩]
   omega
  ·by_cases c2 : p = a ∧ q = b
   ·obtain ⟨rfl, rfl⟩ := c2
    have e1 : pushF f p q n p q = f p q - n := by unfold pushF; rw [if_neg (fun e => hne e.1), if_pos ⟨rfl, rfl⟩]
    have e2 : pushF f p q n q p = f q p + n := by unfold pushF; rw [if_pos ⟨rfl, rfl⟩]
    omega
   ·have e1 : pushF f a b n p q = f p q := by unfold pushF; rw [if_neg c1, if_neg c2]
    have e2 : pushF f a b n q p = f q p := by unfold pushF; rw [if_neg (fun e => c2 ⟨e.2, e.1⟩), if_neg (fun e => c1 ⟨e.2, e.1⟩)]
    omega
 ·unfold pushF
  rw [if_neg (fun e => hi ⟨by rw [e.1]; exact hb, by rw [e.2]; exact ha⟩), if_neg (fun e => hi ⟨by rw [e.1]; exact ha, by rw [e.2]; exact hb⟩)]
  exact h.out p q hi
 ·unfold pushF
  rw [if_neg (fun e => hne (e.2.symm.trans e.1)), if_neg (fun e => hne (e.1.symm.trans e.2))]
  exact h.self p
end Go.Proofs.YtbieomgpfhloeaaGreat
