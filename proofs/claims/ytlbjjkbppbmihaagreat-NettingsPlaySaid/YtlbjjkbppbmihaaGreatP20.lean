/-
  Pieces of one proof, without what is not wanted: Once, Both.
-/
import Derived.Test.YtlbjjkbppbmihaaGreatP01
import Derived.Test.YtlbjjkbppbmihaaGreatP02
import Derived.Test.YtlbjjkbppbmihaaGreatP04
import Derived.Test.YtlbjjkbppbmihaaGreatP05
import Derived.Test.YtlbjjkbppbmihaaGreatP15
import Derived.Test.YtlbjjkbppbmihaaGreatP16
import Derived.Laws.AppendOwnNone
set_option linter.unusedSimpArgs false
set_option linter.unusedVariables false
namespace Go.Proofs.YtlbjjkbppbmihaaGreat
open Go.RowKit
def Once (c:Nat) (S T:World→Prop) (D:Nat→Bool) (w:World):Prop:=(D c=false→S w)∧(D c=true→T w)
theorem Once.pre {c:Nat} {S T:World→Prop} {D:Nat→Bool} {w:World} (h:Once c S T D w) (hn:D c=false):S w:=h.1 hn
theorem Once.post {c:Nat} {S T:World→Prop} {D:Nat→Bool} {w:World} (h:Once c S T D w) (hn:D c=true):T w:=h.2 hn
def needStep (ops:Array Oper) (m i:Nat):Nat:=match m.testBit i with
 | true=>match ops[i]? with
  | some o=>o.after.foldl (fun m e=>match Region.binds .any e with
   | true=>m ||| 2 ^ e.on
   | false=>m) m
  | none=>m
 | false=>m
def need (ops:Array Oper) (c:Nat):Nat:=(List.range (c + 1)).reverse.foldl (needStep ops) (2 ^ c)
theorem needStep_done {ops:Array Oper} {D:Nat→Bool} (hC:Closed ops D) {m:Nat} (i:Nat) (hm:∀ j,m.testBit j=true→D j=true):∀ j,(needStep ops m i).testBit j=true→D j=true:=by
 intro j hj
 unfold needStep at hj
 split at hj
 ·rename_i hi
  split at hj
  ·rename_i o ho
   have hw:=hC i o ho (hm i hi)
   rw [← Array.foldl_toList] at hj
   have key:∀ (l:List Edge) (m:Nat),(∀ e ∈ l,e ∈ o.after)→(∀ j,m.testBit j=true→D j=true)→∀ j,(l.foldl (fun m e=>match Region.binds .any e with | true=>m ||| 2 ^ e.on | false=>m) m).testBit j=true→D j=true:=by
    intro l
    induction l with
    | nil=>intro m _ h j hj; exact h j hj
    | cons e r ih =>
     intro m he h j hj
     rw [List.foldl_cons] at hj
     refine ih _ (fun e' h'=>he e' (List.mem_cons_of_mem _ h')) ?_ j hj
     intro j' hj'
     split at hj'
     ·rename_i hb
      rw [Nat.testBit_or,Bool.or_eq_true] at hj'
      rcases hj' with hj' | hj'
      ·exact h j' hj'
      ·rw [Nat.testBit_two_pow,decide_eq_true_eq] at hj'
       subst hj'
       exact hw e (he e List.mem_cons_self) hb
     ·exact h j' hj'
   exact key _ m (fun e he=>by simpa using he) hm j hj
  ·exact hm j hj
 ·exact hm j hj
theorem need_done {ops:Array Oper} {D:Nat→Bool} (hC:Closed ops D) {c:Nat} (hc:D c=true):∀ j,(need ops c).testBit j=true→D j=true:=by
 have key:∀ (l:List Nat) (m:Nat),(∀ j,m.testBit j=true→D j=true)→∀ j,(l.foldl (needStep ops) m).testBit j=true→D j=true:=by
  intro l
  induction l with
  | nil=>intro m h j hj; exact h j hj
  | cons i r ih=>intro m h j hj; exact ih _ (needStep_done hC i h) j hj
 refine key _ _ fun j hj=>?_
 rw [Nat.testBit_two_pow,decide_eq_true_eq] at hj
 subst hj; exact hc
theorem need_not {ops:Array Oper} {D:Nat→Bool} (hC:Closed ops D) {j:Nat} (hj:D j=false) (c:Nat) (h:(need ops c).testBit j=true):D c=false:=by
 cases hc:D c with
 | false=>rfl
 | true=>rw [need_done hC hc j h] at hj; cases hj
theorem need_waited {ops:Array Oper} {D:Nat→Bool} (hC:Closed ops D) {o:Oper} (hw:Waited D o) {c:Nat} (h:(o.after.any fun e=>Region.binds .any e && (need ops e.on).testBit c)=true):D c=true:=by
 obtain ⟨e,he,hb⟩:=Array.any_eq_true'.1 h
 simp only [Bool.and_eq_true] at hb
 exact need_done hC (hw e he hb.1) c hb.2
end Go.Proofs.YtlbjjkbppbmihaaGreat
namespace Go.Proofs.YtlbjjkbppbmihaaGreat
open Go.RowKit
def regionNo (n:Nat):Code→Option Code
 | .region i ops m=>match i==n with
  | true=>some (.region i ops m)
  | false=>none
 | .seq a b=>match regionNo n a with
  | some c=>some c
  | none=>regionNo n b
 | .cond _ a b=>match regionNo n a with
  | some c=>some c
  | none=>regionNo n b
 | .block _ c=>regionNo n c
 | .scope c=>regionNo n c
 | .loop c=>regionNo n c
 | _=>none
end Go.Proofs.YtlbjjkbppbmihaaGreat
namespace Go.Proofs.YtlbjjkbppbmihaaGreat
open Go.RowKit
section
variable {P:Program} {ops:Array Oper} {Q:Exit→Act→World→Prop} {a:Act}
theorem put_put_eq {val:Nat→Value} {D:Nat→Bool} {o:Oper} {v v':Value} (h:(frOf ops val (fun _=>true) a).put o.dst v=(frOf ops val (fun _=>true) a).put o.dst v'):(frOf ops val D a).put o.dst v=(frOf ops val D a).put o.dst v':=by
 cases hd:o.dst with
 | none=>rfl
 | some d =>
  rw [hd] at h
  simp only [Act.put] at h ⊢
  have h1:=congrArg Act.tmps h
  simp only at h1
  by_cases hs:d<a.tmps.size
  ·have h2:=congrArg (fun t=>t[d]?) h1
   simp [frOf,hs] at h2
   rw [h2]
  ·have hz:(frOf ops val D a).tmps.size≤d:=by simpa [frOf] using hs
   have e:∀ x,(frOf ops val D a).tmps.setIfInBounds d x=(frOf ops val D a).tmps:=fun x=>Array.setIfInBounds_eq_of_size_le hz
   rw [e,e]
def LeftBy (af:Act) (o:Oper) (R:Value→World→Prop) (a':Act) (w':World):Prop:=∃ v,a'=af.put o.dst v∧R v w'
def OpGets (P:Program) (ops:Array Oper) (af:Act) (o:Oper) (w:World) (R:Value→World→Prop):Prop :=
 if Region.wanted o (yielded ops af.tmps) then o.wp P af w (fun a' w'=>LeftBy af o R a' w') (fun _ _ _=>False) else R undef w
theorem OpGets.plain {af:Act} {o:Oper} {w:World} {R:Value→World→Prop} (hg:o.guard=none) (h:o.wp P af w (fun a' w'=>LeftBy af o R a' w') (fun _ _ _=>False)):OpGets P ops af o w R:=by
 unfold OpGets
 rw [if_pos (by simp [Region.wanted,hg])]
 exact h
theorem OpGets.wanted {af:Act} {o:Oper} {w:World} {R:Value→World→Prop} (hw:Region.wanted o (yielded ops af.tmps)=true) (h:o.wp P af w (fun a' w'=>LeftBy af o R a' w') (fun _ _ _=>False)):OpGets P ops af o w R:=by
 unfold OpGets
 rw [if_pos hw]
 exact h
theorem OpGets.wpOp {val:Nat→Value} {i:Nat} {o:Oper} {D:Nat→Bool} {w:World} {R:Value→World→Prop} (ho:ops[i]? = some o) (hok:opOk ops i o=true) (hwt:Waited D o)
  (h:OpGets P ops (frOf ops val (fun _=>true) a) o w R) {K:Act→World→Prop} (hK:∀ v w',R v w'→K ((frOf ops val D a).put o.dst v) w') :
  Go.wpOp P ops Q i K (frOf ops val D a) w:=by
 obtain ⟨he,hwd⟩:=frOf_exec (val:=val) (a:=a) hok hwt
 unfold OpGets at h
 unfold Go.wpOp
 simp only [ho,hwd]
 split
 ·rename_i hw
  rw [if_pos hw] at h
  refine .inl ?_
  unfold Oper.wp at h ⊢
  rw [he]
  generalize (execOp (frOf ops val (fun _=>true) a).eval o).run P w=r at h
  cases r with
  | ok n w' =>
   cases n <;> simp only [Oper.upon] at h ⊢
   case value v=>obtain ⟨v',h1,h2⟩:=h; rw [put_put_eq h1]; exact hK _ _ h2
   case skip=>obtain ⟨v',h1,h2⟩:=h; rw [put_put_eq h1]; exact hK _ _ h2
   case defer d =>
    obtain ⟨v',h1,h2⟩:=h
    have:=congrArg Act.defers h1
    exfalso
    cases hdst:o.dst <;> rw [hdst] at this <;> simp only [Act.put] at this <;> exact absurd (congrArg List.length this) (by simp)
   case enter f args =>
    refine Calls.mono h fun e w'' hh=>?_
    cases e with
    | returned v=>simp only at hh ⊢; obtain ⟨v',h1,h2⟩:=hh; rw [put_put_eq h1]; exact hK _ _ h2
    | panicked c=>exact hh.elim
    | outgrown=>obtain ⟨_,_,hh⟩:=hh; exact hh.elim
   case row row args =>
    refine Rows.mono h fun v w'' hh=>?_
    obtain ⟨v',h1,h2⟩:=hh; rw [put_put_eq h1]; exact hK _ _ h2
  | halt x w' =>
   cases x <;> simp only [Oper.upon] at h ⊢
 ·rename_i hw
  rw [if_neg hw] at h
  exact hK _ _ h
def OwesF {G:Type} (P:Program) (ops:Array Oper) (vals:G→Nat→Value) (AF:G→Act) (I:G→(Nat→Bool)→World→Prop) (k:Nat) (o:Oper) (g:G) (D:Nat→Bool) (w:World):Prop :=
 (∃ g',(∀ j,j<ops.size→D j=true→vals g j=vals g' j)∧OpTo P ops (AF g') o w (I g' (ins k D))) ∨
  OpGets P ops (AF g) o w (fun v w'=>∃ g',(∀ j,j<ops.size→D j=true→vals g j=vals g' j)∧vals g' k=v∧I g' (ins k D) w')
theorem region_anyF {G:Type} {val:G→Nat→Value} {I:G→(Nat→Bool)→World→Prop} (hok:regionOk ops=true)
  (hop:∀ (i:Nat) (o:Oper),ops[i]? = some o→∀ g D w,D i=false→Waited D o→Closed ops D→I g D w→OwesF P ops val (fun g=>frOf ops (val g) (fun _=>true) a) I i o g D w)
  (hend:∀ g D w,(∀ i,i<ops.size→D i=true)→I g D w→Q .normal (frOf ops (val g) (fun _=>true) a) w) :
  ∀ (fuel:Nat) (listed:Array Bool) (g:G) (w:World),listed.size=ops.size→fuel=(listed.toList.filter (! ·)).length→Closed ops (fun i=>listed.getD i false)→I g (fun i=>listed.getD i false) w →
   wpAny P .any ops Q fuel listed (frOf ops (val g) (fun i=>listed.getD i false) a) w:=by
 have fin:∀ (listed:Array Bool) (g:G) (w:World),listed.size=ops.size→I g (fun i=>listed.getD i false) w→Region.ready .any ops listed=[] →
   Q .normal (frOf ops (val g) (fun i=>listed.getD i false) a) w:=by
  intro listed g w hsz hI hr
  have hall:=ready_all hok hsz hr
  have hall':∀ i,i<ops.size→listed.getD i false=true:=fun i hi=>by
   have:=hall i hi
   have h4:i<listed.size:=by omega
   simpa [Array.getD_eq_getD_getElem?,Array.getElem?_eq_getElem h4] using this
  rw [frOf_congr ops (val g) _ (fun _=>true) a (fun i hi=>hall' i hi)]
  exact hend g _ w hall' hI
 intro fuel
 induction fuel with
 | zero =>
  intro listed g w hsz hf hc hI
  have hz:∀ i,i<ops.size→listed.getD i true=true:=by
   intro i hi
   have h4:i<listed.size:=by omega
   have h5:listed[i] ∈ listed.toList:=by simp
   have h6:=List.filter_eq_nil_iff.1 (List.length_eq_zero_iff.1 hf.symm) _ h5
   simp only [Array.getD_eq_getD_getElem?,Array.getElem?_eq_getElem h4,Option.getD_some]
   simpa using h6
  have hr:Region.ready .any ops listed=[]:=by
   unfold Region.ready
   refine List.filter_eq_nil_iff.2 fun i hi=>?_
   have hi':i<ops.size:=by simpa using hi
   simp [hz i hi']
  exact ⟨hr,fin listed g w hsz hI hr⟩
 | succ fuel ih =>
  intro listed g w hsz hf hc hI
  refine ⟨fin listed g w hsz hI,fun i hi=>?_⟩
  obtain ⟨hun,o,ho,hall⟩:=mem_ready.1 hi
  have hisz:i<listed.size:=by
   rcases Nat.lt_or_ge i listed.size with h' | h'
   ·exact h'
   ·simp [Array.getElem?_eq_none h'] at hun
  have hun':listed.getD i false=false:=by simpa [Array.getD_eq_getD_getElem?,Array.getElem?_eq_getElem hisz] using hun
  have hwt:Waited (fun i=>listed.getD i false) o:=fun e he hb=>hall e he hb
  have heq:(ins i fun i=>listed.getD i false)=fun j=>(listed.setIfInBounds i true).getD j false:=by
   funext j
   simp only [ins,Array.getD_eq_getD_getElem?]
   by_cases hji:j=i
   ·subst hji; simp [Array.getElem?_setIfInBounds_self_of_lt hisz]
   ·rw [Array.getElem?_setIfInBounds_ne (Ne.symm hji)]; simp [hji]
  have next:∀ g' w',I g' (ins i fun i=>listed.getD i false) w'→wpAny P .any ops Q fuel (listed.setIfInBounds i true) (frOf ops (val g') (ins i fun i=>listed.getD i false) a) w':=by
   intro g' w' hw'
   rw [heq] at hw' ⊢
   refine ih _ g' w' (by simpa using hsz) ?_ ?_ hw'
   ·have hlen:((listed.setIfInBounds i true).toList.filter (! ·)).length + 1=(listed.toList.filter (! ·)).length:=by
     simp only [Array.toList_setIfInBounds]
     have hfa:listed.toList[i]? = some false:=by
      simp only [Array.getD_eq_getD_getElem?,Array.getElem?_eq_getElem hisz,Option.getD_some] at hun
      simp [hisz,hun]
     exact filter_set _ _ hfa
    omega
   ·intro j oj hoj hj e he hb
    rw [← heq] at hj ⊢
    simp only [ins,Bool.or_eq_true,beq_iff_eq] at hj ⊢
    rcases hj with rfl | hj
    ·rw [ho] at hoj; cases hoj
     exact .inr (hwt e he hb)
    ·exact .inr (hc j oj hoj hj e he hb)
  have hd:∀ d,o.dst=some d→writerOf ops d=some i:=by
   intro d hd
   have:=regionOk_at hok ho
   simp only [opOk,Bool.and_eq_true,hd,beq_iff_eq] at this
   exact this.1.1.1
  rcases hop i o ho g _ w hun' hwt hc hI with ⟨g',hag,hop'⟩ | hop'
  ·rw [frOf_vals ops (val g) (val g') _ a hag]
   exact OpTo.wpOp ho (regionOk_at hok ho) hwt hop' fun w' hw'=>next g' w' hw'
  ·refine OpGets.wpOp ho (regionOk_at hok ho) hwt hop' fun v w' hv=>?_
   obtain ⟨g',hag,hv,hI'⟩:=hv
   rw [frOf_vals ops (val g) (val g') _ a hag,← hv,frOf_put ho hd (frOf_self hok ho)]
   exact next g' w' hI'
def EachF {G:Type} (P:Program) (ops:Array Oper) (vals:G→List Value) (AF:G→Act) (I:G→(Nat→Bool)→World→Prop):Nat→List Oper→Prop
 | _,[]=>True
 | k,o::r=>(∀ g D w',D k=false→Waited D o→Closed ops D→I g D w'→OwesF P ops (fun g i=>(vals g).getD i undef) AF I k o g D w')∧EachF P ops vals AF I (k + 1) r
theorem EachF.at {G:Type} {vals:G→List Value} {AF:G→Act} {I:G→(Nat→Bool)→World→Prop}:∀ {l:List Oper} {k:Nat},EachF P ops vals AF I k l→∀ {i:Nat} {o:Oper},l[i]? = some o→∀ g D w',D (k + i)=false→Waited D o→Closed ops D→I g D w' →
   OwesF P ops (fun g i=>(vals g).getD i undef) AF I (k + i) o g D w'
 | [],_,_,i,o,h=>by simp at h
 | o::r,k,h,0,o',ho=>by simp at ho; subst ho; exact h.1
 | o::r,k,h,i + 1,o',ho=>by
  have:=EachF.at h.2 (i:=i) (by simpa using ho)
  rwa [show k + (i + 1)=k + 1 + i by omega]
theorem region_fresh {id:Nat} {w:World} (hm:P.follows .mixedOrders=true) {G:Type} (vals:G→List Value) (I:G→(Nat→Bool)→World→Prop) (hok:regionOk ops=true) (g0:G) (h0:I g0 (fun _=>false) w.drew)
  (h:∀ AF:G→Act,(∀ g,puts (fun i=>(vals g).getD i undef) 0 ops.toList a=AF g) →
   EachF P ops vals AF I 0 ops.toList∧∀ g D w',(∀ i,i<ops.size→D i=true)→I g D w'→Q .normal (AF g) w') :
  (Code.region id ops true).wp P Q a w:=by
 obtain ⟨h1,h2⟩:=h _ (fun _=>rfl)
 refine wp_region_any hm ?_
 have haf':∀ g,frOf ops (fun i=>(vals g).getD i undef) (fun _=>true) a=puts (fun i=>(vals g).getD i undef) 0 ops.toList a:=fun g=>frOf_puts hok
 have hz:(fun i=>(Array.replicate ops.size false).getD i false)=fun _=>false:=by
  funext i; simp [Array.getD_eq_getD_getElem?,Array.getElem?_replicate]; split <;> rfl
 have hfun:(fun g=>frOf ops (fun i=>(vals g).getD i undef) (fun _=>true) a)=fun g=>puts (fun i=>(vals g).getD i undef) 0 ops.toList a:=funext haf'
 have key:=region_anyF (P:=P) (Q:=Q) (val:=fun g i=>(vals g).getD i undef) (a:=a) (I:=I) hok
  (fun i o ho g D w' hDi hw hc hI=>by
   have:=h1.at (i:=i) (o:=o) (by simpa using ho) g D w' (by simpa using hDi) hw hc hI
   rw [hfun]
   simpa using this)
  (fun g D w' hall hI=>by rw [haf' g]; exact h2 g D w' hall hI)
  ops.size (Array.replicate ops.size false) g0 w.drew (by simp) (by simp) (fun j o ho hj=>by
   simp [Array.getD_eq_getD_getElem?,Array.getElem?_replicate] at hj
   split at hj <;> simp at hj) (by rw [hz]; exact h0)
 have hfr:=frOf_none ops (fun i=>(vals g0).getD i undef) a
 simp only [hz] at key
 rw [hfr] at key
 exact key
end
end Go.Proofs.YtlbjjkbppbmihaaGreat
namespace Go.Proofs.YtlbjjkbppbmihaaGreat
open Go.RowKit
def updV (s:Nat→Value) (p:Nat) (v:Value):Nat→Value:=fun j=>match j==p with
 | true=>v
 | false=>s j
theorem updV_self (s:Nat→Value) (p:Nat) (v:Value):updV s p v p=v:=by simp [updV]
theorem updV_ne (s:Nat→Value) {p j:Nat} (v:Value) (h:j≠p):updV s p v j=s j:=by
 unfold updV
 have e:(j==p)=false:=by simpa using h
 rw [e]
def Got (W:World) (l:List (Nat × (Value→World→Prop))) (s:Nat→Value) (D:Nat→Bool) (w:World):Prop :=
 Below W.heap.size W w∧∀ q ∈ l,D q.1=true→q.2 (s q.1) w
def Lasts (P:Value→World→Prop):Prop:=∀ v w w',P v w→Below w.heap.size w w'→P v w'
theorem Got.start (W:World) (l:List (Nat × (Value→World→Prop))) (s:Nat→Value):Got W l s (fun _=>false) W.drew:=⟨(Below.refl _ _).drew,fun _ _ d=>(Bool.false_ne_true d).elim⟩
theorem Got.below {W:World} {l:List (Nat × (Value→World→Prop))} {s:Nat→Value} {D:Nat→Bool} {w:World} (h:Got W l s D w):Below W.heap.size W w:=h.1
theorem Got.at {W:World} {l:List (Nat × (Value→World→Prop))} {s:Nat→Value} {D:Nat→Bool} {w:World} (h:Got W l s D w) (q:Nat × (Value→World→Prop)) (hq:q ∈ l) (hd:D q.1=true):q.2 (s q.1) w:=h.2 q hq hd
theorem Got.step {W w w':World} {l:List (Nat × (Value→World→Prop))} {s:Nat→Value} {D:Nat→Bool} (h:Got W l s D w) (hl:∀ q ∈ l,Lasts q.2) (hb:Below w.heap.size w w') {k:Nat} (hk:∀ q ∈ l,q.1≠k):Got W l s (ins k D) w':=by
 refine ⟨h.1.trans (hb.mono h.1.size),fun q hq d=>hl q hq _ _ _ (h.2 q hq ?_) hb⟩
 simpa [ins,hk q hq] using d
theorem Got.put {W w w':World} {l:List (Nat × (Value→World→Prop))} {s:Nat→Value} {D:Nat→Bool} (h:Got W l s D w) (hl:∀ q ∈ l,Lasts q.2) (hb:Below w.heap.size w w') {p:Nat} {v:Value} (hv:∀ q ∈ l,q.1=p→q.2 v w'):Got W l (updV s p v) (ins p D) w':=by
 refine ⟨h.1.trans (hb.mono h.1.size),fun q hq d=>?_⟩
 by_cases e:q.1=p
 ·rw [e,updV_self]; exact hv q hq e
 ·rw [updV_ne _ _ e]
  exact hl q hq _ _ _ (h.2 q hq (by simpa [ins,e] using d)) hb
theorem vals_put {n:Nat} (ops:Array Oper) (vals:(Nat→Value)→List Value) (s:Nat→Value) (p:Nat) (v:Value) {D:Nat→Bool} (hC:Closed ops D) (hp:D p=false)
  (h:∀ j,j<n→(j=p∨(need ops j).testBit p=true)∨(vals s).getD j undef=(vals (updV s p v)).getD j undef):∀ j,j<n→D j=true→(vals s).getD j undef=(vals (updV s p v)).getD j undef:=by
 intro j hj hD
 rcases h j hj with (rfl | h) | h
 ·rw [hp] at hD; cases hD
 ·rw [need_not hC hp j h] at hD; cases hD
 ·exact h
end Go.Proofs.YtlbjjkbppbmihaaGreat
namespace Go.Proofs.YtlbjjkbppbmihaaGreat
open Go.RowKit
theorem blk_ne {w:World} {g h:Nat} {cs ds:Array Value} {t u:TypeId} (a:Blk w g cs t) (b:Blk w h ds u) (hn:t≠u):g≠h:=by
 rintro rfl
 have e:=a.out
 rw [b.out] at e
 simp only [Option.some.injEq,Obj.cells.injEq] at e
 exact hn e.2.1.symm
theorem RefL.apart {w:World} {base r G M:Nat} {ps ps':List Int} {ls ls':List Ln} {vp vl:Value} (hL:LedM w G M ps ls) (hR:RefL w base r ps' ls' vp vl) :
  (r≠G∧r≠M)∧(∀ b,vp.ownBlock=some b→b≠G∧b≠M∧b≠r)∧(∀ b,vl.ownBlock=some b→b≠G∧b≠M∧b≠r):=by
 refine ⟨⟨blk_ne hR.blk hL.blk (by decide),fun e=>hL.map.ne_blk hR.blk e.symm⟩,fun b hb=>?_,fun b hb=>?_⟩
 ·obtain ⟨_,_,cur,hc⟩:=owns_type hR.p hb
  have hbk:Blk w b cur 30:=hc
  exact ⟨blk_ne hbk hL.blk (by decide),fun e=>hL.map.ne_blk hbk e.symm,blk_ne hbk hR.blk (by decide)⟩
 ·obtain ⟨_,_,cur,hc⟩:=owns_type hR.l hb
  have hbk:Blk w b cur 72:=hc
  exact ⟨blk_ne hbk hL.blk (by decide),fun e=>hL.map.ne_blk hbk e.symm,blk_ne hbk hR.blk (by decide)⟩
def Trio (G M r:Nat) (b:Nat):Prop:=b=G∨b=M∨b=r
structure Both (W:World) (G M base r X:Nat) (xs:Array Value) (ps P:List Int) (ls L:List Ln) (c1 c2:Nat) (D:Nat→Bool) (w:World):Prop where
 keep:Keep (Trio G M r) W w
 x:Blk w X xs 33
 led:LedM w G M (cond (D c1) P ps) (cond (D c1) L ls)
 ref:∃ vp vl,RefL w base r (cond (D c2) P ps) (cond (D c2) L ls) vp vl
def BothT (W:World) (G M base r:Nat) (P:List Int) (L:List Ln) (w:World):Prop:=Keep (Trio G M r) W w∧LedM w G M P L∧∃ vp vl,RefL w base r P L vp vl
theorem Both.start {W:World} {G M base r X:Nat} {xs:Array Value} {ps P:List Int} {ls L:List Ln} {c1 c2:Nat} {vp vl:Value} (hL:LedM W G M ps ls) (hR:RefL W base r ps ls vp vl) (hX:Blk W X xs 33) :
  Both W G M base r X xs ps P ls L c1 c2 (fun _=>false) W.drew:=by
 have bb:Below W.heap.size W W.drew:=(Below.refl _ _).drew
 exact ⟨Keep.of_below bb,hX.below bb hX.lt,hL.below bb,vp,vl,hR.below bb⟩
theorem Both.step {W w:World} {G M base r X:Nat} {xs:Array Value} {ps P:List Int} {ls L:List Ln} {c1 c2:Nat} {D:Nat→Bool} (h:Both W G M base r X xs ps P ls L c1 c2 D w) {k:Nat} (h1:k≠c1) (h2:k≠c2):Both W G M base r X xs ps P ls L c1 c2 (ins k D) w:=by
 have e1:ins k D c1=D c1:=by simp [ins,Ne.symm h1]
 have e2:ins k D c2=D c2:=by simp [ins,Ne.symm h2]
 exact ⟨h.keep,h.x,by rw [e1]; exact h.led,by rw [e2]; exact h.ref⟩
theorem Both.one {W w w':World} {G M base r X:Nat} {xs:Array Value} {ps P:List Int} {ls L:List Ln} {c1 c2:Nat} {D:Nat→Bool} (h:Both W G M base r X xs ps P ls L c1 c2 D w) (hc:c1≠c2) (hl:LedM w' G M P L) (hk:Keep (fun b=>b=G∨b=M) w w'):Both W G M base r X xs ps P ls L c1 c2 (ins c1 D) w':=by
 obtain ⟨vp,vl,hr⟩:=h.ref
 obtain ⟨⟨a1,a2⟩,a3,a4⟩:=RefL.apart h.led hr
 have e1:ins c1 D c1=true:=by simp [ins]
 have e2:ins c1 D c2=D c2:=by simp [ins,Ne.symm hc]
 refine ⟨h.keep.trans (hk.mono fun b _ hb=>?_),h.x.keep hk ?_,by rw [e1]; exact hl,vp,vl,?_⟩
 ·rcases hb with hb | hb
  ·exact .inl hb
  ·exact .inr (.inl hb)
 ·rintro (e | e)
  ·exact blk_ne h.x h.led.blk (by decide) e
  ·exact h.led.map.ne_blk h.x e.symm
 ·rw [e2]
  refine hr.keep hk ?_ (fun b hb e=>?_) (fun b hb e=>?_)
  ·rintro (e | e)
   ·exact a1 e
   ·exact a2 e
  ·rcases e with e | e
   ·exact (a3 b hb).1 e
   ·exact (a3 b hb).2.1 e
  ·rcases e with e | e
   ·exact (a4 b hb).1 e
   ·exact (a4 b hb).2.1 e
theorem Both.two {W w w':World} {G M base r X:Nat} {xs:Array Value} {ps P:List Int} {ls L:List Ln} {c1 c2:Nat} {D:Nat→Bool} (h:Both W G M base r X xs ps P ls L c1 c2 D w) (hc:c1≠c2) (hl:∃ vp vl,RefL w' base r P L vp vl) (hk:Keep (·=r) w w'):Both W G M base r X xs ps P ls L c1 c2 (ins c2 D) w':=by
 obtain ⟨vp,vl,hr⟩:=h.ref
 obtain ⟨⟨a1,a2⟩,a3,a4⟩:=RefL.apart h.led hr
 have e1:ins c2 D c1=D c1:=by simp [ins,hc]
 have e2:ins c2 D c2=true:=by simp [ins]
 refine ⟨h.keep.trans (hk.mono fun b _ hb=>.inr (.inr hb)),h.x.keep hk (fun e=>blk_ne h.x hr.blk (by decide) e),?_,by rw [e2]; exact hl⟩
 rw [e1]
 exact h.led.keep hk (fun e=>a1 e.symm) (fun e=>a2 e.symm)
theorem Both.led0 {W w:World} {G M base r X:Nat} {xs:Array Value} {ps P:List Int} {ls L:List Ln} {c1 c2:Nat} {D:Nat→Bool} (h:Both W G M base r X xs ps P ls L c1 c2 D w) (hD:D c1=false):LedM w G M ps ls:=by
 have:=h.led; rw [hD] at this; exact this
theorem Both.ref0 {W w:World} {G M base r X:Nat} {xs:Array Value} {ps P:List Int} {ls L:List Ln} {c1 c2:Nat} {D:Nat→Bool} (h:Both W G M base r X xs ps P ls L c1 c2 D w) (hD:D c2=false):∃ vp vl,RefL w base r ps ls vp vl:=by
 have:=h.ref; rw [hD] at this; exact this
theorem Both.done {W w:World} {G M base r X:Nat} {xs:Array Value} {ps P:List Int} {ls L:List Ln} {c1 c2:Nat} {D:Nat→Bool} (h:Both W G M base r X xs ps P ls L c1 c2 D w) (h1:D c1=true) (h2:D c2=true):BothT W G M base r P L w:=by
 have a:=h.led; rw [h1] at a
 have b:=h.ref; rw [h2] at b
 exact ⟨h.keep,a,b⟩
end Go.Proofs.YtlbjjkbppbmihaaGreat
