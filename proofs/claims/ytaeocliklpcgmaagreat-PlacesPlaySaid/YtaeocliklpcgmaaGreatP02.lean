/- Pieces of one proof. -/
import Derived.Test.YtaeocliklpcgmaaGreatP01
import Derived.Laws.Tables
import Derived.Laws.CopyOwn
import Derived.OwnWalk
import Derived.BigQuiet
import Derived.Laws.AppendOwnNone
set_option linter.all false
set_option maxHeartbeats 64000000
set_option maxRecDepth 100000
namespace Go.Proofs.YtaeocliklpcgmaaGreat
open Go.RowKit
structure Spec where
 p:Nat
 q:Nat
 zero:Obj
 full:Obj
def upd(g:Nat→Nat)(p a:Nat):Nat→Nat:=fun i=>if i=p then a else g i
theorem aNf(g:Nat→Nat)(p a:Nat):upd g p a p=a:=by simp[upd]
theorem aF8(g:Nat→Nat){p i:Nat}(a:Nat)(h:i≠p):upd g p a i=g i:=by simp[upd,h]
def SpecOk(W w:World)(g:Nat→Nat)(D:Nat→Bool)(s:Spec):Prop:=
 D s.p=true→W.heap.size≤g s.p∧w.heap[g s.p]? = some (if D s.q then s.full else s.zero)
def aMg(bs:List Spec):Bool:=bs.all fun s=>bs.all fun s'=>s.p==s'.p || (s.p != s'.q && s.q != s'.p && s.q != s'.q)
structure Lays(W:World)(bs:List Spec)(g:Nat→Nat)(D:Nat→Bool)(w:World):Prop where
 below:Below W.heap.size W w
 ok:∀s∈bs,SpecOk W w g D s
 apart:∀s∈bs,∀s'∈bs,D s.p=true→D s'.p=true→s.p≠s'.p→g s.p≠g s'.p
theorem Lays.start(W:World)(bs:List Spec)(g:Nat→Nat):Lays W bs g (fun _=>false) W.drew:=
 ⟨yZ.drew,fun s _ h=>by simp at h,fun s _ s' _ h=>by simp at h⟩
theorem aDd{k i:Nat}(D:Nat→Bool)(h:i≠k):ins k D i=D i:=by simp[ins,h]
theorem aH5(k:Nat)(D:Nat→Bool):ins k D k=true:=by simp[ins]
theorem Lays.step{W w w':World}{bs:List Spec}{g:Nat→Nat}{D:Nat→Bool}{k:Nat}(h:Lays W bs g D w)(hb:Below w.heap.size w w')(hk:bs.all (fun s=>s.p != k && s.q != k)=true):Lays W bs g (ins k D) w':=by
 obtain⟨h1,h2,h3⟩:=h
 have hk':∀s∈bs,s.p≠k∧s.q≠k:=fun s hs=>by
  have:=List.all_eq_true.1 hk s hs;simpa using this
 refine⟨h1.trans (hb.mono h1.size),fun s hs hd=>?_,fun s hs s' hs' hd hd' hne=>?_⟩
 ·rw[aDd D (hk' s hs).1]at hd;obtain⟨a,b⟩:=h2 s hs hd;rw[aDd D (hk' s hs).2];exact⟨a,by rw[hb.block _ (Array.getElem?_eq_some_iff.1 b).1];exact b⟩
 rw[aDd D (hk' s hs).1]at hd;rw[aDd D (hk' s' hs').1]at hd';exact h3 s hs s' hs' hd hd' hne
theorem Lays.lay{W w:World}{bs:List Spec}{g:Nat→Nat}{D:Nat→Bool}(h:Lays W bs g D w)(s:Spec)(hs:s∈bs)(ha:aMg bs=true)(hq:s.q=s.p∨D s.q=false)(hone:bs.all (fun s'=>s'.p != s.p || s'.q==s.q)=true)
  (hsame:∀s'∈bs,s'.p=s.p→s'=s)(o:Obj)(ho:o=if s.q=s.p then s.full else s.zero):Lays W bs (upd g s.p w.heap.size) (ins s.p D) (w.alloc o):=by
 obtain⟨h1,h2,h3⟩:=h
 have hap:∀s'∈bs,s'.p≠s.p→s'.q≠s.p:=fun s' hs' hne=>by
  have:=List.all_eq_true.1 (List.all_eq_true.1 ha s' hs') s hs;simp only[Bool.or_eq_true,beq_iff_eq,Bool.and_eq_true,bne_iff_ne,ne_eq]at this;rcases this with e|e
  ·exact absurd e hne
  exact e.1.2
 refine⟨h1.alloc h1.size _,fun s' hs' hd=>?_,fun s1 hs1 s2 hs2 hd1 hd2 hne=>?_⟩
 ·by_cases he:s'.p=s.p
  ·have:=hsame s' hs' he;subst this;rw[aNf];refine⟨h1.size,?_⟩;have e1:(w.alloc o).heap[w.heap.size]? = some o:=by show(w.heap.push _)[w.heap.size]? = _;simp
   rw[e1,ho]
   by_cases hqp:s'.q=s'.p
   ·rw[if_pos hqp,hqp,aH5];rfl
   rw[if_neg hqp,aDd D hqp];rcases hq with e|e
   ·exact absurd e hqp
   rw[e];rfl
  rw[aDd D he]at hd;obtain⟨a,b⟩:=h2 s' hs' hd;rw[aF8 g _ he,aDd D (hap s' hs' he)];exact⟨a,by rw[Below.heap_alloc _ _ _ (Array.getElem?_eq_some_iff.1 b).1];exact b⟩
 have lt:∀s'∈bs,s'.p≠s.p→ins s.p D s'.p=true→g s'.p<w.heap.size:=fun s' hs' he hd=>by
  rw[aDd D he]at hd;exact(Array.getElem?_eq_some_iff.1 (h2 s' hs' hd).2).1
 by_cases e1:s1.p=s.p
 ·by_cases e2:s2.p=s.p
  ·exact absurd (e1.trans e2.symm) hne
  have:=lt s2 hs2 e2 hd2;rw[e1,aNf,aF8 g _ e2];omega
 by_cases e2:s2.p=s.p
 ·have:=lt s1 hs1 e1 hd1;rw[e2,aNf,aF8 g _ e1];omega
 rw[aF8 g _ e1,aF8 g _ e2];rw[aDd D e1]at hd1;rw[aDd D e2]at hd2;exact h3 s1 hs1 s2 hs2 hd1 hd2 hne
theorem Lays.fill{W w w':World}{bs:List Spec}{g:Nat→Nat}{D:Nat→Bool}(h:Lays W bs g D w)(s:Spec)(hs:s∈bs)(ha:aMg bs=true)(hqp:s.q≠s.p)(hsame:∀s'∈bs,s'.p=s.p→s'=s)(hd:D s.p=true)
  (hk:Keep (·=g s.p) w w')(hf:w'.heap[g s.p]? = some s.full):Lays W bs g (ins s.q D) w':=by
 obtain⟨h1,h2,h3⟩:=h;have hg:=(h2 s hs hd).1
 have hap:∀s'∈bs,s'.p≠s.p→s'.q≠s.q∧s'.p≠s.q:=fun s' hs' hne=>by
  have:=List.all_eq_true.1 (List.all_eq_true.1 ha s' hs') s hs;simp only[Bool.or_eq_true,beq_iff_eq,Bool.and_eq_true,bne_iff_ne,ne_eq]at this;rcases this with e|e
  ·exact absurd e hne
  exact⟨e.2,e.1.1⟩
 refine⟨⟨hk.os.trans h1.os,hk.tape.trans h1.tape,hk.output.trans h1.output,Nat.le_trans h1.size hk.size,fun i hi=>by rw[hk.block i (yM hi h1.size) (by omega)];exact h1.block i hi⟩,fun s' hs' hd'=>?_,fun s1 hs1 s2 hs2 hd1 hd2 hne=>?_⟩
 ·by_cases he:s'.p=s.p
  ·have:=hsame s' hs' he;subst this;rw[aH5];exact⟨hg,hf⟩
  rw[aDd D (hap s' hs' he).2]at hd';obtain⟨a,b⟩:=h2 s' hs' hd';rw[aDd D (hap s' hs' he).1];exact⟨a,by rw[hk.block _ (Array.getElem?_eq_some_iff.1 b).1 (h3 s' hs' s hs hd' hd he)];exact b⟩
 have pn:∀s'∈bs,s'.p≠s.q:=fun s' hs'=>by
  by_cases he:s'.p=s.p
  ·rw[he];exact fun e=>hqp e.symm
  exact(hap s' hs' he).2
 rw[aDd D (pn s1 hs1)]at hd1;rw[aDd D (pn s2 hs2)]at hd2;exact h3 s1 hs1 s2 hs2 hd1 hd2 hne
theorem Lays.full{W w:World}{bs:List Spec}{g:Nat→Nat}{D:Nat→Bool}(h:Lays W bs g D w)(s:Spec)(hs:s∈bs)(hp:D s.p=true)(hq:D s.q=true):W.heap.size≤g s.p∧w.heap[g s.p]? = some s.full:=by
 obtain⟨a,b⟩:=h.ok s hs hp;rw[hq]at b;exact⟨a,b⟩
theorem Lays.zeroed{W w:World}{bs:List Spec}{g:Nat→Nat}{D:Nat→Bool}(h:Lays W bs g D w)(s:Spec)(hs:s∈bs)(hp:D s.p=true)(hq:D s.q=false):W.heap.size≤g s.p∧w.heap[g s.p]? = some s.zero:=by
 obtain⟨a,b⟩:=h.ok s hs hp;rw[hq]at b;exact⟨a,b⟩
def aFq(ops:Array Oper):Nat→Nat→Nat→Bool
 | 0,_,_=>false
 | d+1,i,j=>match ops[i]? with
  | some o=>o.after.any fun e=>Region.binds .any e && (e.on==j || aFq ops d e.on j)
  | none=>false
theorem aBx{ops:Array Oper}{D:Nat→Bool}(hC:aC6 ops D){j:Nat}(hj:D j=false):∀(d i:Nat),aFq ops d i j=true→D i=false
 | 0,i,h=>by simp[aFq]at h
 | d+1,i,h=>by
  unfold aFq at h;split at h
  ·rename_i o ho;obtain⟨e,he,hb⟩:=Array.any_eq_true'.1 h;simp only[Bool.and_eq_true,Bool.or_eq_true,beq_iff_eq]at hb
   by_cases hi:D i=true
   ·exfalso;have hw:=hC i o ho hi e he hb.1;rcases hb.2 with h2|h2
    ·rw[h2,hj]at hw;cases hw
    rw[aBx hC hj d e.on h2]at hw;cases hw
   simpa using hi
  cases h
theorem aBd{ops:Array Oper}{D:Nat→Bool}(hC:aC6 ops D){o:Oper}(hw:aDl D o){d j:Nat}(h:(o.after.any fun e=>Region.binds .any e && (e.on==j || aFq ops d e.on j))=true):D j=true:=by
 obtain⟨e,he,hb⟩:=Array.any_eq_true'.1 h;simp only[Bool.and_eq_true,Bool.or_eq_true,beq_iff_eq]at hb;have h1:=hw e he hb.1;rcases hb.2 with h2|h2
 ·rw[←h2];exact h1
 by_cases hj:D j=true
 ·exact hj
 rw[aBx hC (by simpa using hj) d e.on h2]at h1;cases h1
theorem aDm{n:Nat}(ops:Array Oper)(vals:(Nat→Nat)→List Value)(g:Nat→Nat)(p a d:Nat){D:Nat→Bool}(hC:aC6 ops D)(hp:D p=false)
  (h:∀j,j<n→(j=p∨aFq ops d j p=true)∨(vals g).getD j undef=(vals (upd g p a)).getD j undef):∀j,j<n→D j=true→(vals g).getD j undef=(vals (upd g p a)).getD j undef:=by
 intro j hj hD;rcases h j hj with(rfl|h)|h
 ·rw[hp]at hD;cases hD
 ·rw[aBx hC hp d j h]at hD;cases hD
 exact h
theorem aAf{w:World}(g:Nat)(cs:Array Value):Keep (·=g) w (w.setRow g cs):=
 ⟨rfl,rfl,rfl,by simp[World.setRow],fun k _ hk=>setRow_other w g k cs (fun e=>hk e)⟩
section
variable{P:Program}{ops:Array Oper}{Q:Exit→Act→World→Prop}{a:Act}
theorem aCi{id:Nat}{w:World}(hm:P.follows .mixedOrders=true)(n d:Nat)(vals:List Value)(S:World→Prop)(hok:aBz ops=true)(hsz:ops.size=n+1)
  (hlast:(List.range n).all (fun j=>aFq ops d n j)=true)(h0:S w.drew)
  (h:∀af,puts (fun i=>vals.getD i undef) 0 ops.toList a=af→aBe P ops af S (ops.toList.take n)∧∀w',S w'→OpTo P ops af (ops.toList.getD n default) w' (fun w''=>Q .normal af w'')):
  (Code.region id ops true).wp P Q a w:=by
 obtain⟨h1,h2⟩:=h _ rfl;refine wp_region_any hm ?_;have haf':frOf ops (fun i=>vals.getD i undef) (fun _=>true) a=puts (fun i=>vals.getD i undef) 0 ops.toList a:=aD1 hok;have hfr:=aDk ops (fun i=>vals.getD i undef) a
 have hz:(fun i=>(Array.replicate ops.size false).getD i false)=fun _=>false:=by
  funext i;simp[Array.getD_eq_getD_getElem?,Array.getElem?_replicate];split <;> rfl
 have key:=aE8 (P:=P) (Q:=Q) (val:=fun i=>vals.getD i undef) (a:=a) (I:=fun D w'=>if D n=true then Q .normal (puts (fun i=>vals.getD i undef) 0 ops.toList a) w' else S w') hm hok
  (fun i o ho D w' hDi hw hc hI=>by
   rw[haf']
   have hi:i<ops.size:=by
    rcases Nat.lt_or_ge i ops.size with h'|h'
    ·exact h'
    simp[Array.getElem?_eq_none h']at ho
   by_cases hin:i=n
   ·subst hin;rw[hDi]at hI;simp only[ins,beq_self_eq_true,Bool.true_or,if_true];have h3:=h2 w' hI
    rwa [List.getD_eq_getElem?_getD,Array.getElem?_toList,ho]at h3
   have hDn:D n=false:=aBx hc hDi d n (List.all_eq_true.1 hlast i (by simp;omega));rw[hDn]at hI;have:(ins i D) n=false:=by simp[ins,hDn];omega
   simp only[this];exact h1.at (i:=i) (by rw[List.getElem?_take];simp[show i<n by omega,ho]) w' hI)
  (fun D w' hall hI=>by
   rw[haf']
   rwa [if_pos (hall n (by omega))]at hI)
  ops.size (Array.replicate ops.size false) w.drew (by simp) (by simp) (fun j o ho hj=>by
   simp[Array.getD_eq_getD_getElem?,Array.getElem?_replicate]at hj;split at hj <;> simp at hj) (by
   have:(Array.replicate ops.size false).getD n false=false:=by simp[Array.getD_eq_getD_getElem?,Array.getElem?_replicate];split <;> rfl
   show if(Array.replicate ops.size false).getD n false=true then _ else S w.drew
   rw[this];exact h0)
 rw[hz,hfr]at key;exact key
end
theorem aEl{P:Program}{w w':World}{o:Oper}{a:Act}{K:Act→World→Prop}{Q:Exit→Act→World→Prop}(t:TypeId)(m x v:Operand)(ho:o.op=.mapUpdate t m x v){mv xv vv:Value}
  (hm:a.eval m=mv)(hx:a.eval x=xv)(hv:a.eval v=vv)(hr:(Instr.mapUpdate t mv xv vv).run P w=.ok () w')(h:K (a.put o.dst undef) w'):o.wp P a w K Q:=by
 unfold Oper.wp;simp only[execOp,ho,hm,hx,hv,Sem.run_bind,hr,Result.andThen_ok];exact h
theorem aJh{P:Program}{w w':World}{o:Oper}{a:Act}{K:Act→World→Prop}{Q:Exit→Act→World→Prop}(m x:Operand)(t k:TypeId){mv xv:Value}
  (ho:o.op=.call { callee:=.builtin .delete,args:=#[m,x],argTypes:=#[t,k] })(hm:a.eval m=mv)(hx:a.eval x=xv)
  (hr:(Builtin.delete_ #[t,k] o.type #[mv,xv]).run P w=.ok (.tuple #[]) w')(h:K (a.put o.dst (.tuple #[])) w'):o.wp P a w K Q:=by
 unfold Oper.wp execOp;simp only[ho,resolve,invoke,builtin,Sem.run_bind,Sem.run_pure,Result.andThen_ok,List.map_toArray,List.map_cons,List.map_nil,hm,hx,hr];exact h
def Once(c:Nat)(S T:World→Prop)(D:Nat→Bool)(w:World):Prop:=(D c=false→S w)∧(D c=true→T w)
theorem Once.pre{c:Nat}{S T:World→Prop}{D:Nat→Bool}{w:World}(h:Once c S T D w)(hn:D c=false):S w:=h.1 hn
theorem Once.post{c:Nat}{S T:World→Prop}{D:Nat→Bool}{w:World}(h:Once c S T D w)(hn:D c=true):T w:=h.2 hn
def aJ7(ops:Array Oper)(m i:Nat):Nat:=match m.testBit i with
 | true=>match ops[i]? with
  | some o=>o.after.foldl (fun m e=>match Region.binds .any e with
   | true=>m ||| 2 ^ e.on
   | false=>m) m
  | none=>m
 | false=>m
def need(ops:Array Oper)(c:Nat):Nat:=(List.range (c+1)).reverse.foldl (aJ7 ops) (2 ^ c)
theorem aNg{ops:Array Oper}{D:Nat→Bool}(hC:aC6 ops D){m:Nat}(i:Nat)(hm:∀j,m.testBit j=true→D j=true):∀j,(aJ7 ops m i).testBit j=true→D j=true:=by
 intro j hj;unfold aJ7 at hj;split at hj
 ·rename_i hi;split at hj
  ·rename_i o ho;have hw:=hC i o ho (hm i hi);rw[←Array.foldl_toList]at hj
   have key:∀(l:List Edge) (m:Nat),(∀e∈l,e∈o.after)→(∀j,m.testBit j=true→D j=true)→∀j,(l.foldl (fun m e=>match Region.binds .any e with|true=>m ||| 2 ^ e.on|false=>m) m).testBit j=true→D j=true:=by
    intro l
    induction l with
    | nil=>intro m _ h j hj;exact h j hj
    | cons e r ih=>
     intro m he h j hj;rw[List.foldl_cons]at hj;refine ih _ (fun e' h'=>he e' (List.mem_cons_of_mem _ h')) ?_ j hj;intro j' hj';split at hj'
     ·rename_i hb;rw[Nat.testBit_or,Bool.or_eq_true]at hj';rcases hj' with hj'|hj'
      ·exact h j' hj'
      rw[Nat.testBit_two_pow,decide_eq_true_eq]at hj';subst hj';exact hw e (he e List.mem_cons_self) hb
     exact h j' hj'
   exact key _ m (fun e he=>by simpa using he) hm j hj
  exact hm j hj
 exact hm j hj
theorem aOx{ops:Array Oper}{D:Nat→Bool}(hC:aC6 ops D){c:Nat}(hc:D c=true):∀j,(need ops c).testBit j=true→D j=true:=by
 have key:∀(l:List Nat) (m:Nat),(∀j,m.testBit j=true→D j=true)→∀j,(l.foldl (aJ7 ops) m).testBit j=true→D j=true:=by
  intro l
  induction l with
  | nil=>intro m h j hj;exact h j hj
  | cons i r ih=>intro m h j hj;exact ih _ (aNg hC i h) j hj
 refine key _ _ fun j hj=>?_
 rw[Nat.testBit_two_pow,decide_eq_true_eq]at hj;subst hj;exact hc
theorem aAg{ops:Array Oper}{D:Nat→Bool}(hC:aC6 ops D){j:Nat}(hj:D j=false)(c:Nat)(h:(need ops c).testBit j=true):D c=false:=by
 cases hc:D c with
 | false=>rfl
 | true=>rw[aOx hC hc j h]at hj;cases hj
theorem aA8{ops:Array Oper}{D:Nat→Bool}(hC:aC6 ops D){o:Oper}(hw:aDl D o){c:Nat}(h:(o.after.any fun e=>Region.binds .any e && (need ops e.on).testBit c)=true):D c=true:=by
 obtain⟨e,he,hb⟩:=Array.any_eq_true'.1 h;simp only[Bool.and_eq_true]at hb;exact aOx hC (hw e he hb.1) c hb.2
def aB9(n:Nat):Code→Option Code
 | .region i ops m=>match i==n with
  | true=>some (.region i ops m)
  | false=>none
 | .seq a b=>match aB9 n a with
  | some c=>some c
  | none=>aB9 n b
 | .cond _ a b=>match aB9 n a with
  | some c=>some c
  | none=>aB9 n b
 | .block _ c=>aB9 n c
 | .scope c=>aB9 n c
 | .loop c=>aB9 n c
 | _=>none
section
variable{P:Program}{ops:Array Oper}{Q:Exit→Act→World→Prop}{a:Act}
theorem aGv{val:Nat→Value}{D:Nat→Bool}{o:Oper}{v v':Value}(h:(frOf ops val (fun _=>true) a).put o.dst v=(frOf ops val (fun _=>true) a).put o.dst v'):(frOf ops val D a).put o.dst v=(frOf ops val D a).put o.dst v':=by
 cases hd:o.dst with
 | none=>rfl
 | some d=>
  rw[hd]at h;simp only[Act.put]at h ⊢;have h1:=congrArg Act.tmps h;simp only at h1
  by_cases hs:d<a.tmps.size
  ·have h2:=congrArg (fun t=>t[d]?) h1;simp[frOf,hs]at h2;rw[h2]
  have hz:(frOf ops val D a).tmps.size≤d:=by simpa [frOf]using hs
  have e:∀x,(frOf ops val D a).tmps.setIfInBounds d x=(frOf ops val D a).tmps:=fun x=>Array.setIfInBounds_eq_of_size_le hz
  rw[e,e]
def LeftBy(af:Act)(o:Oper)(R:Value→World→Prop)(a':Act)(w':World):Prop:=∃v,a'=af.put o.dst v∧R v w'
def aD2(P:Program)(ops:Array Oper)(af:Act)(o:Oper)(w:World)(R:Value→World→Prop):Prop:=
 if Region.wanted o (yielded ops af.tmps)then o.wp P af w (fun a' w'=>LeftBy af o R a' w') (fun _ _ _=>False)else R undef w
theorem aD2.plain{af:Act}{o:Oper}{w:World}{R:Value→World→Prop}(hg:o.guard=none)(h:o.wp P af w (fun a' w'=>LeftBy af o R a' w') (fun _ _ _=>False)):aD2 P ops af o w R:=by
 unfold aD2;rw[if_pos (by simp[Region.wanted,hg])];exact h
theorem aD2.wanted{af:Act}{o:Oper}{w:World}{R:Value→World→Prop}(hw:Region.wanted o (yielded ops af.tmps)=true)(h:o.wp P af w (fun a' w'=>LeftBy af o R a' w') (fun _ _ _=>False)):aD2 P ops af o w R:=by
 unfold aD2;rw[if_pos hw];exact h
theorem aD2.wpOp{val:Nat→Value}{i:Nat}{o:Oper}{D:Nat→Bool}{w:World}{R:Value→World→Prop}(ho:ops[i]? = some o)(hok:opOk ops i o=true)(hwt:aDl D o)
  (h:aD2 P ops (frOf ops val (fun _=>true) a) o w R){K:Act→World→Prop}(hK:∀v w',R v w'→K ((frOf ops val D a).put o.dst v) w'):
  Go.wpOp P ops Q i K (frOf ops val D a) w:=by
 obtain⟨he,hwd⟩:=aOv (val:=val) (a:=a) hok hwt;unfold aD2 at h;unfold Go.wpOp;simp only[ho,hwd];split
 ·rename_i hw;rw[if_pos hw]at h;refine .inl ?_;unfold Oper.wp at h ⊢;rw[he];generalize (execOp (frOf ops val (fun _=>true) a).eval o).run P w=r at h
  cases r with
  | ok n w'=>
   cases n <;> simp only[Oper.upon]at h ⊢
   case value v=>obtain⟨v',h1,h2⟩:=h;rw[aGv h1];exact hK _ _ h2
   case skip=>obtain⟨v',h1,h2⟩:=h;rw[aGv h1];exact hK _ _ h2
   case defer d=>
    obtain⟨v',h1,h2⟩:=h;have:=congrArg Act.defers h1;exfalso
    cases hdst:o.dst <;> rw[hdst]at this <;> simp only[Act.put]at this <;> exact absurd (congrArg List.length this) (by simp)
   case enter f args=>
    refine Calls.mono h fun e w'' hh=>?_
    cases e with
    | returned v=>simp only at hh ⊢;obtain⟨v',h1,h2⟩:=hh;rw[aGv h1];exact hK _ _ h2
    | panicked c=>exact hh.elim
    | outgrown=>obtain⟨_,_,hh⟩:=hh;exact hh.elim
   case row row args=>
    refine Rows.mono h fun v w'' hh=>?_
    obtain⟨v',h1,h2⟩:=hh;rw[aGv h1];exact hK _ _ h2
  | halt x w'=>
   cases x <;> simp only[Oper.upon]at h ⊢
 rename_i hw;rw[if_neg hw]at h;exact hK _ _ h
def OwesF{G:Type}(P:Program)(ops:Array Oper)(vals:G→Nat→Value)(AF:G→Act)(I:G→(Nat→Bool)→World→Prop)(k:Nat)(o:Oper)(g:G)(D:Nat→Bool)(w:World):Prop:=
 (∃g',(∀j,j<ops.size→D j=true→vals g j=vals g' j)∧OpTo P ops (AF g') o w (I g' (ins k D)))∨
  aD2 P ops (AF g) o w (fun v w'=>∃g',(∀j,j<ops.size→D j=true→vals g j=vals g' j)∧vals g' k=v∧I g' (ins k D) w')
theorem aQ3{G:Type}{val:G→Nat→Value}{I:G→(Nat→Bool)→World→Prop}(hok:aBz ops=true)
  (hop:∀(i:Nat) (o:Oper),ops[i]? = some o→∀g D w,D i=false→aDl D o→aC6 ops D→I g D w→OwesF P ops val (fun g=>frOf ops (val g) (fun _=>true) a) I i o g D w)
  (hend:∀g D w,(∀i,i<ops.size→D i=true)→I g D w→Q .normal (frOf ops (val g) (fun _=>true) a) w):
  ∀(fuel:Nat) (listed:Array Bool) (g:G) (w:World),listed.size=ops.size→fuel=(listed.toList.filter (! ·)).length→aC6 ops (fun i=>listed.getD i false)→I g (fun i=>listed.getD i false) w→
   wpAny P .any ops Q fuel listed (frOf ops (val g) (fun i=>listed.getD i false) a) w:=by
 have fin:∀(listed:Array Bool) (g:G) (w:World),listed.size=ops.size→I g (fun i=>listed.getD i false) w→Region.ready .any ops listed=[]→
   Q .normal (frOf ops (val g) (fun i=>listed.getD i false) a) w:=by
  intro listed g w hsz hI hr;have hall:=aKm hok hsz hr
  have hall':∀i,i<ops.size→listed.getD i false=true:=fun i hi=>by
   have:=hall i hi;have h4:i<listed.size:=by omega
   simpa [Array.getD_eq_getD_getElem?,Array.getElem?_eq_getElem h4]using this
  rw[aEi ops (val g) _ (fun _=>true) a (fun i hi=>hall' i hi)];exact hend g _ w hall' hI
 intro fuel
 induction fuel with
 | zero=>
  intro listed g w hsz hf hc hI
  have hz:∀i,i<ops.size→listed.getD i true=true:=by
   intro i hi;have h4:i<listed.size:=by omega
   have h5:listed[i]∈listed.toList:=by simp
   have h6:=List.filter_eq_nil_iff.1 (List.length_eq_zero_iff.1 hf.symm) _ h5;simp only[Array.getD_eq_getD_getElem?,Array.getElem?_eq_getElem h4,Option.getD_some];simpa using h6
  have hr:Region.ready .any ops listed=[]:=by
   unfold Region.ready;refine List.filter_eq_nil_iff.2 fun i hi=>?_
   have hi':i<ops.size:=by simpa using hi
   simp[hz i hi']
  exact⟨hr,fin listed g w hsz hI hr⟩
 | succ fuel ih=>
  intro listed g w hsz hf hc hI;refine⟨fin listed g w hsz hI,fun i hi=>?_⟩;obtain⟨hun,o,ho,hall⟩:=mem_ready.1 hi
  have hisz:i<listed.size:=by
   rcases Nat.lt_or_ge i listed.size with h'|h'
   ·exact h'
   simp[Array.getElem?_eq_none h']at hun
  have hun':listed.getD i false=false:=by simpa [Array.getD_eq_getD_getElem?,Array.getElem?_eq_getElem hisz]using hun
  have hwt:aDl (fun i=>listed.getD i false) o:=fun e he hb=>hall e he hb
  have heq:(ins i fun i=>listed.getD i false)=fun j=>(listed.setIfInBounds i true).getD j false:=by
   funext j
   simp only[ins,Array.getD_eq_getD_getElem?]
   by_cases hji:j=i
   ·subst hji;simp[Array.getElem?_setIfInBounds_self_of_lt hisz]
   rw[Array.getElem?_setIfInBounds_ne (Ne.symm hji)];simp[hji]
  have next:∀g' w',I g' (ins i fun i=>listed.getD i false) w'→wpAny P .any ops Q fuel (listed.setIfInBounds i true) (frOf ops (val g') (ins i fun i=>listed.getD i false) a) w':=by
   intro g' w' hw';rw[heq]at hw' ⊢;refine ih _ g' w' (by simpa using hsz) ?_ ?_ hw'
   ·have hlen:((listed.setIfInBounds i true).toList.filter (! ·)).length+1=(listed.toList.filter (! ·)).length:=by
     simp only[Array.toList_setIfInBounds]
     have hfa:listed.toList[i]? = some false:=by
      simp only[Array.getD_eq_getD_getElem?,Array.getElem?_eq_getElem hisz,Option.getD_some]at hun;simp[hisz,hun]
     exact aGu _ _ hfa
    omega
   intro j oj hoj hj e he hb;rw[←heq]at hj ⊢;simp only[ins,Bool.or_eq_true,beq_iff_eq]at hj ⊢;rcases hj with rfl|hj
   ·rw[ho]at hoj;cases hoj;exact .inr (hwt e he hb)
   exact .inr (hc j oj hoj hj e he hb)
  have hd:∀d,o.dst=some d→aDj ops d=some i:=by
   intro d hd;have:=aCr hok ho;simp only[opOk,Bool.and_eq_true,hd,beq_iff_eq]at this;exact this.1.1.1
  rcases hop i o ho g _ w hun' hwt hc hI with⟨g',hag,hop'⟩|hop'
  ·rw[aKo ops (val g) (val g') _ a hag];exact OpTo.wpOp ho (aCr hok ho) hwt hop' fun w' hw'=>next g' w' hw'
  refine aD2.wpOp ho (aCr hok ho) hwt hop' fun v w' hv=>?_
  obtain⟨g',hag,hv,hI'⟩:=hv;rw[aKo ops (val g) (val g') _ a hag,←hv,aFo ho hd (aOw hok ho)];exact next g' w' hI'
def aL4{G:Type}(P:Program)(ops:Array Oper)(vals:G→List Value)(AF:G→Act)(I:G→(Nat→Bool)→World→Prop):Nat→List Oper→Prop
 | _,[]=>True
 | k,o::r=>(∀g D w',D k=false→aDl D o→aC6 ops D→I g D w'→OwesF P ops (fun g i=>(vals g).getD i undef) AF I k o g D w')∧aL4 P ops vals AF I (k+1) r
theorem aL4.at{G:Type}{vals:G→List Value}{AF:G→Act}{I:G→(Nat→Bool)→World→Prop}:∀{l:List Oper} {k:Nat},aL4 P ops vals AF I k l→∀{i:Nat} {o:Oper},l[i]? = some o→∀g D w',D (k+i)=false→aDl D o→aC6 ops D→I g D w'→
   OwesF P ops (fun g i=>(vals g).getD i undef) AF I (k+i) o g D w'
 | [],_,_,i,o,h=>by simp at h
 | o::r,k,h,0,o',ho=>by simp at ho;subst ho;exact h.1
 | o::r,k,h,i+1,o',ho=>by
  have:=aL4.at h.2 (i:=i) (by simpa using ho)
  rwa [show k+(i+1)=k+1+i by omega]
theorem aD3{id:Nat}{w:World}(hm:P.follows .mixedOrders=true){G:Type}(vals:G→List Value)(I:G→(Nat→Bool)→World→Prop)(hok:aBz ops=true)(g0:G)(h0:I g0 (fun _=>false) w.drew)
  (h:∀AF:G→Act,(∀g,puts (fun i=>(vals g).getD i undef) 0 ops.toList a=AF g)→
   aL4 P ops vals AF I 0 ops.toList∧∀g D w',(∀i,i<ops.size→D i=true)→I g D w'→Q .normal (AF g) w'):
  (Code.region id ops true).wp P Q a w:=by
 obtain⟨h1,h2⟩:=h _ (fun _=>rfl);refine wp_region_any hm ?_;have haf':∀g,frOf ops (fun i=>(vals g).getD i undef) (fun _=>true) a=puts (fun i=>(vals g).getD i undef) 0 ops.toList a:=fun g=>aD1 hok
 have hz:(fun i=>(Array.replicate ops.size false).getD i false)=fun _=>false:=by
  funext i;simp[Array.getD_eq_getD_getElem?,Array.getElem?_replicate];split <;> rfl
 have hfun:(fun g=>frOf ops (fun i=>(vals g).getD i undef) (fun _=>true) a)=fun g=>puts (fun i=>(vals g).getD i undef) 0 ops.toList a:=funext haf'
 have key:=aQ3 (P:=P) (Q:=Q) (val:=fun g i=>(vals g).getD i undef) (a:=a) (I:=I) hok
  (fun i o ho g D w' hDi hw hc hI=>by
   have:=h1.at (i:=i) (o:=o) (by simpa using ho) g D w' (by simpa using hDi) hw hc hI;rw[hfun];simpa using this)
  (fun g D w' hall hI=>by rw[haf' g];exact h2 g D w' hall hI)
  ops.size (Array.replicate ops.size false) g0 w.drew (by simp) (by simp) (fun j o ho hj=>by
   simp[Array.getD_eq_getD_getElem?,Array.getElem?_replicate]at hj;split at hj <;> simp at hj) (by rw[hz];exact h0)
 have hfr:=aDk ops (fun i=>(vals g0).getD i undef) a;simp only[hz]at key;rw[hfr]at key;exact key
end
def updV(s:Nat→Value)(p:Nat)(v:Value):Nat→Value:=fun j=>match j==p with
 | true=>v
 | false=>s j
theorem updV_self(s:Nat→Value)(p:Nat)(v:Value):updV s p v p=v:=by simp[updV]
theorem updV_ne(s:Nat→Value){p j:Nat}(v:Value)(h:j≠p):updV s p v j=s j:=by
 unfold updV;have e:(j==p)=false:=by simpa using h
 rw[e]
def Got(W:World)(l:List (Nat×(Value→World→Prop)))(s:Nat→Value)(D:Nat→Bool)(w:World):Prop:=
 Below W.heap.size W w∧∀q∈l,D q.1=true→q.2 (s q.1) w
def Lasts(P:Value→World→Prop):Prop:=∀v w w',P v w→Below w.heap.size w w'→P v w'
theorem Got.start(W:World)(l:List (Nat×(Value→World→Prop)))(s:Nat→Value):Got W l s (fun _=>false) W.drew:=⟨yZ.drew,fun _ _ d=>(Bool.false_ne_true d).elim⟩
theorem Got.below{W:World}{l:List (Nat×(Value→World→Prop))}{s:Nat→Value}{D:Nat→Bool}{w:World}(h:Got W l s D w):Below W.heap.size W w:=h.1
theorem Got.at{W:World}{l:List (Nat×(Value→World→Prop))}{s:Nat→Value}{D:Nat→Bool}{w:World}(h:Got W l s D w)(q:Nat×(Value→World→Prop))(hq:q∈l)(hd:D q.1=true):q.2 (s q.1) w:=h.2 q hq hd
theorem Got.step{W w w':World}{l:List (Nat×(Value→World→Prop))}{s:Nat→Value}{D:Nat→Bool}(h:Got W l s D w)(hl:∀q∈l,Lasts q.2)(hb:Below w.heap.size w w'){k:Nat}(hk:∀q∈l,q.1≠k):Got W l s (ins k D) w':=by
 refine⟨h.1.trans (hb.mono h.1.size),fun q hq d=>hl q hq _ _ _ (h.2 q hq ?_) hb⟩;simpa [ins,hk q hq]using d
theorem Got.put{W w w':World}{l:List (Nat×(Value→World→Prop))}{s:Nat→Value}{D:Nat→Bool}(h:Got W l s D w)(hl:∀q∈l,Lasts q.2)(hb:Below w.heap.size w w'){p:Nat}{v:Value}(hv:∀q∈l,q.1=p→q.2 v w'):Got W l (updV s p v) (ins p D) w':=by
 refine⟨h.1.trans (hb.mono h.1.size),fun q hq d=>?_⟩
 by_cases e:q.1=p
 ·rw[e,updV_self];exact hv q hq e
 rw[updV_ne _ _ e];exact hl q hq _ _ _ (h.2 q hq (by simpa [ins,e]using d)) hb
theorem aJ8{n:Nat}(ops:Array Oper)(vals:(Nat→Value)→List Value)(s:Nat→Value)(p:Nat)(v:Value){D:Nat→Bool}(hC:aC6 ops D)(hp:D p=false)
  (h:∀j,j<n→(j=p∨(need ops j).testBit p=true)∨(vals s).getD j undef=(vals (updV s p v)).getD j undef):∀j,j<n→D j=true→(vals s).getD j undef=(vals (updV s p v)).getD j undef:=by
 intro j hj hD;rcases h j hj with(rfl|h)|h
 ·rw[hp]at hD;cases hD
 ·rw[aAg hC hp j h]at hD;cases hD
 exact h
def aC0(w:World)(v:Value)(size n:Nat)(xs:List Value):Prop:=
 ∃(ao:Option Addr) (cap:Nat),v=.slice ao n cap∧n≤100000000∧xs.length=n*size∧(0<n→∃b off,ao=some ⟨b,off,none⟩∧b<w.heap.size∧∀j,j<n*size→w.cell? ⟨b,off+j,none⟩=xs[j]?)
theorem pAF{w:World}{base:Nat}{e:TypeId}{size:Nat}{v:Value}{n:Nat}{xs:List Value}(h:w.ownsRow base e size v n xs)(hn:n≤100000000):aC0 w v size n xs:=by
 obtain⟨ao,cap,rfl,_,_,h3,h4⟩:=aAd h;refine⟨ao,cap,rfl,hn,h3,fun hp=>?_⟩;obtain⟨b,rfl,_,hb,hc,_⟩:=h4 hp;exact⟨b,0,rfl,hb,fun j hj=>by rw[Nat.zero_add];exact hc j hj⟩
theorem aC0.keep{S:Nat→Prop}{w w':World}{v:Value}{size n:Nat}{xs:List Value}(h:aC0 w v size n xs)(k:Keep S w w')(hs:∀b,v.ownBlock=some b→¬S b):aC0 w' v size n xs:=by
 obtain⟨ao,cap,rfl,h1,h2,h3⟩:=h;refine⟨ao,cap,rfl,h1,h2,fun hp=>?_⟩;obtain⟨b,off,rfl,hb,hc⟩:=h3 hp;exact⟨b,off,rfl,yM hb k.size,fun j hj=>by rw[k.cell (p:=⟨b,off+j,none⟩) hb (hs b rfl)];exact hc j hj⟩
theorem aC0.below{w w':World}{v:Value}{size n:Nat}{xs:List Value}(h:aC0 w v size n xs)(k:Below w.heap.size w w'):aC0 w' v size n xs:=
 h.keep (pAE (S:=fun _=>False) k) (fun _ _=>id)
theorem aF9{α:Type}{l m:List α}{k:Nat}(h:k<l.length)(hm:k<m.length)(he:l.take k=m.take k)(hx:l[k]=m[k]):l.take (k+1)=m.take (k+1):=by
 rw[List.take_succ_eq_append_getElem h,List.take_succ_eq_append_getElem hm,he,hx]
theorem aNh{w:World}{va vb:Value}{la lb:List Int}(ha:aC0 w va 1 la.length (la.map (.int .u8)))(hb:aC0 w vb 1 lb.length (lb.map (.int .u8))):
  Calls Tryz.prog 158 #[va,vb] w (yR w (.bool (decide (la=lb)))):=by
 obtain⟨ao,ca,rfl,a1,a2,a3⟩:=ha;obtain⟨bo,cb,rfl,b1,b2,b3⟩:=hb;have HA:=yH a3;have HB:=yH b3;clear a2 a3 b2 b3
 by_cases hlen:la.length=lb.length
 ·have L:=yH hlen;have hll:lb.length=la.length:=hlen.symm;rw[hll];clear hll hlen b1;go_enter Tryz.func158,Tryz.ntmps158;go_wp2
  go_loopw [5] (fun i wr=>∃k:Nat,k≤la.length∧i=.int .i64 k∧Hid (la.take k=lb.take k)∧Below w.heap.size w wr) (fun i _=>la.length - (intOf i).toNat)
  case atStart=>exact⟨0,Nat.zero_le _,rfl,yH (by simp),yZ⟩
  obtain⟨k,hk,rfl,ht,hbl⟩:=hrel;have BL:=yH hbl
  by_cases hkl:k<la.length
  ·have hkb:k<lb.length:=by have:=L.out;omega
   obtain⟨b1,o1,rfl,hlt1,hc1⟩:=HA.out (by omega);obtain⟨b2,o2,rfl,hlt2,hc2⟩:=HB.out (by omega);have HC1:=yH (fun j (hj:j<la.length*1)=>(hbl.cell (p:=⟨b1,o1+j,none⟩) hlt1).trans (hc1 j hj));have HC2:=yH (fun j (hj:j<lb.length*1)=>(hbl.cell (p:=⟨b2,o2+j,none⟩) hlt2).trans (hc2 j hj));have d1:wr.cell? ⟨b1,o1+k,none⟩=some (.int .u8 la[k]):=by rw[HC1.out k (by omega)];simp[hkl]
   have d2:wr.cell? ⟨b2,o2+k,none⟩=some (.int .u8 lb[k]):=by rw[HC2.out k (by omega)];simp[hkb]
   have NE:=yH (fun(he:la[k]≠lb[k])=>show decide (la=lb)=false by
    rw[decide_eq_false_iff_not];rintro rfl;exact he rfl)
   have EQ:=yH (fun(he:la[k]=lb[k])=>aF9 hkl hkb ht.out he);clear hc1 hc2 HC1 HC2 hbl;generalize la[k]=x at *;generalize lb[k]=y at *
   by_cases he:x=y
   ·subst he;go_wp2
    go_region
    all_goals
     go_wp2;go_roundw
     case rel=>exact⟨k+1,by omega,by go_num,yH (EQ.out (by first|exact rfl|trivial)),by first|exact BL.out.drew|exact BL.out⟩
     case measure=>simp[intOf];omega
   have q:(x==y)=false:=by simp[he]
   have E:=yH (NE.out he);clear he NE EQ;go_wp2
   go_region
   all_goals
    go_wp2;go_ret;exact⟨by rw[E.out];rfl,by first|exact BL.out.drew|exact BL.out⟩
  have E:=yH (show decide (la=lb)=true by
   have h1:=ht.out;rw[List.take_of_length_le (by omega),List.take_of_length_le (by have:=L.out;omega)]at h1;rw[decide_eq_true_eq];exact h1)
  go_wp2;go_ret;exact⟨by rw[E.out];rfl,BL.out⟩
 have E:=yH (show decide (la=lb)=false by rw[decide_eq_false_iff_not];rintro rfl;exact hlen rfl);have q:((la.length:Int)==(lb.length:Int))=false:=by simp;omega
 clear hlen;go_enter Tryz.func158,Tryz.ntmps158;go_wp2;go_ret;exact⟨by rw[E.out];rfl,yZ⟩
theorem ln_parts(x y:Ln):(x=y)∨(x≠y∧(x.cr==y.cr)=false)∨(x≠y∧(x.cr==y.cr)=true∧(x.de==y.de)=false)∨(x≠y∧(x.cr==y.cr)=true∧(x.de==y.de)=true∧(x.cu==y.cu)=false)∨(x≠y∧(x.cr==y.cr)=true∧(x.de==y.de)=true∧(x.cu==y.cu)=true∧(x.li==y.li)=false)∨(x≠y∧(x.cr==y.cr)=true∧(x.de==y.de)=true∧(x.cu==y.cu)=true∧(x.li==y.li)=true∧(x.db==y.db)=false):=by
 obtain⟨a,b,c,d,e⟩:=x;obtain⟨a',b',c',d',e'⟩:=y
 by_cases h1:a=a' <;> by_cases h2:b=b' <;> by_cases h3:c=c' <;> by_cases h4:d=d' <;> by_cases h5:e=e' <;> simp[h1,h2,h3,h4,h5]
theorem aOy{w:World}{va vb:Value}{la lb:List Ln}(ha:aC0 w va 5 la.length (aAz la))(hb:aC0 w vb 5 lb.length (aAz lb)):
  Calls Tryz.prog 57 #[va,vb] w (yR w (.bool (decide (la=lb)))):=by
 obtain⟨ao,ca,rfl,a1,a2,a3⟩:=ha;obtain⟨bo,cb,rfl,b1,b2,b3⟩:=hb;have HA:=yH a3;have HB:=yH b3;clear a2 a3 b2 b3
 by_cases hlen:la.length=lb.length
 ·have L:=yH hlen;have hll:lb.length=la.length:=hlen.symm;rw[hll];clear hll hlen b1;go_enter Tryz.func57,Tryz.ntmps57;go_wp2
  go_loopw [5] (fun i wr=>∃k:Nat,k≤la.length∧i=.int .i64 k∧Hid (la.take k=lb.take k)∧Below w.heap.size w wr) (fun i _=>la.length - (intOf i).toNat)
  case atStart=>exact⟨0,Nat.zero_le _,rfl,yH (by simp),yZ⟩
  obtain⟨k,hk,rfl,ht,hbl⟩:=hrel;have BL:=yH hbl
  by_cases hkl:k<la.length
  ·have hkb:k<lb.length:=by have:=L.out;omega
   obtain⟨b1,o1,rfl,hlt1,hc1⟩:=HA.out (by omega);obtain⟨b2,o2,rfl,hlt2,hc2⟩:=HB.out (by omega);have HC1:=yH (fun j (hj:j<la.length*5)=>(hbl.cell (p:=⟨b1,o1+j,none⟩) hlt1).trans (hc1 j hj));have HC2:=yH (fun j (hj:j<lb.length*5)=>(hbl.cell (p:=⟨b2,o2+j,none⟩) hlt2).trans (hc2 j hj))
   have d0:wr.cell? ⟨b1,o1+k*5,none⟩=some (.int .u8 la[k].cr):=by
    have q1:=HC1.out (k*5+0) (by omega);rw[aA7 la k 0 (by omega) hkl]at q1
    first|exact q1|(rw[←Nat.add_assoc]at q1;exact q1)
   have d1:wr.cell? ⟨b1,o1+k*5+1,none⟩=some (.int .u8 la[k].de):=by
    have q1:=HC1.out (k*5+1) (by omega);rw[aA7 la k 1 (by omega) hkl]at q1
    first|exact q1|(rw[←Nat.add_assoc]at q1;exact q1)
   have d2:wr.cell? ⟨b1,o1+k*5+2,none⟩=some (.int .u8 la[k].cu):=by
    have q1:=HC1.out (k*5+2) (by omega);rw[aA7 la k 2 (by omega) hkl]at q1
    first|exact q1|(rw[←Nat.add_assoc]at q1;exact q1)
   have d3:wr.cell? ⟨b1,o1+k*5+3,none⟩=some (.int .i64 la[k].li):=by
    have q1:=HC1.out (k*5+3) (by omega);rw[aA7 la k 3 (by omega) hkl]at q1
    first|exact q1|(rw[←Nat.add_assoc]at q1;exact q1)
   have d4:wr.cell? ⟨b1,o1+k*5+4,none⟩=some (.int .i64 la[k].db):=by
    have q1:=HC1.out (k*5+4) (by omega);rw[aA7 la k 4 (by omega) hkl]at q1
    first|exact q1|(rw[←Nat.add_assoc]at q1;exact q1)
   have f0:wr.cell? ⟨b2,o2+k*5,none⟩=some (.int .u8 lb[k].cr):=by
    have q1:=HC2.out (k*5+0) (by omega);rw[aA7 lb k 0 (by omega) hkb]at q1
    first|exact q1|(rw[←Nat.add_assoc]at q1;exact q1)
   have f1:wr.cell? ⟨b2,o2+k*5+1,none⟩=some (.int .u8 lb[k].de):=by
    have q1:=HC2.out (k*5+1) (by omega);rw[aA7 lb k 1 (by omega) hkb]at q1
    first|exact q1|(rw[←Nat.add_assoc]at q1;exact q1)
   have f2:wr.cell? ⟨b2,o2+k*5+2,none⟩=some (.int .u8 lb[k].cu):=by
    have q1:=HC2.out (k*5+2) (by omega);rw[aA7 lb k 2 (by omega) hkb]at q1
    first|exact q1|(rw[←Nat.add_assoc]at q1;exact q1)
   have f3:wr.cell? ⟨b2,o2+k*5+3,none⟩=some (.int .i64 lb[k].li):=by
    have q1:=HC2.out (k*5+3) (by omega);rw[aA7 lb k 3 (by omega) hkb]at q1
    first|exact q1|(rw[←Nat.add_assoc]at q1;exact q1)
   have f4:wr.cell? ⟨b2,o2+k*5+4,none⟩=some (.int .i64 lb[k].db):=by
    have q1:=HC2.out (k*5+4) (by omega);rw[aA7 lb k 4 (by omega) hkb]at q1
    first|exact q1|(rw[←Nat.add_assoc]at q1;exact q1)
   have NE:=yH (fun(he:la[k]≠lb[k])=>show decide (la=lb)=false by
    rw[decide_eq_false_iff_not];rintro rfl;exact he rfl)
   have EQ:=yH (fun(he:la[k]=lb[k])=>aF9 hkl hkb ht.out he);clear hc1 hc2 HC1 HC2 hbl;generalize la[k]=x at *;generalize lb[k]=y at *;have hs:(x=y)∨(x≠y∧(x.cr==y.cr)=false)∨(x≠y∧(x.cr==y.cr)=true∧(x.de==y.de)=false)∨(x≠y∧(x.cr==y.cr)=true∧(x.de==y.de)=true∧(x.cu==y.cu)=false)∨(x≠y∧(x.cr==y.cr)=true∧(x.de==y.de)=true∧(x.cu==y.cu)=true∧(x.li==y.li)=false)∨(x≠y∧(x.cr==y.cr)=true∧(x.de==y.de)=true∧(x.cu==y.cu)=true∧(x.li==y.li)=true∧(x.db==y.db)=false):=ln_parts x y;rcases hs with rfl|⟨he,s1⟩|⟨he,s1,s2⟩|⟨he,s1,s2,s3⟩|⟨he,s1,s2,s3,s4⟩|⟨he,s1,s2,s3,s4,s5⟩
   ·clear NE;go_wp2
    go_region
    all_goals
     go_wp2;go_roundw
     case rel=>exact⟨k+1,by omega,by go_num,yH (EQ.out (by first|exact rfl|trivial)),by first|exact BL.out.drew|exact BL.out⟩
     case measure=>simp[intOf];omega
   ·have E:=yH (NE.out he);clear he NE EQ;go_wp2
    go_region
    all_goals
     go_wp2;go_ret;exact⟨by rw[E.out];rfl,by first|exact BL.out.drew|exact BL.out⟩
   ·have E:=yH (NE.out he);clear he NE EQ;go_wp2
    go_region
    all_goals
     go_wp2;go_ret;exact⟨by rw[E.out];rfl,by first|exact BL.out.drew|exact BL.out⟩
   ·have E:=yH (NE.out he);clear he NE EQ;go_wp2
    go_region
    all_goals
     go_wp2;go_ret;exact⟨by rw[E.out];rfl,by first|exact BL.out.drew|exact BL.out⟩
   ·have E:=yH (NE.out he);clear he NE EQ;go_wp2
    go_region
    all_goals
     go_wp2;go_ret;exact⟨by rw[E.out];rfl,by first|exact BL.out.drew|exact BL.out⟩
   have E:=yH (NE.out he);clear he NE EQ;go_wp2
   go_region
   all_goals
    go_wp2;go_ret;exact⟨by rw[E.out];rfl,by first|exact BL.out.drew|exact BL.out⟩
  have E:=yH (show decide (la=lb)=true by
   have h1:=ht.out;rw[List.take_of_length_le (by omega),List.take_of_length_le (by have:=L.out;omega)]at h1;rw[decide_eq_true_eq];exact h1)
  go_wp2;go_ret;exact⟨by rw[E.out];rfl,BL.out⟩
 have E:=yH (show decide (la=lb)=false by rw[decide_eq_false_iff_not];rintro rfl;exact hlen rfl);have q:((la.length:Int)==(lb.length:Int))=false:=by simp;omega
 clear hlen;go_enter Tryz.func57,Tryz.ntmps57;go_wp2;go_ret;exact⟨by rw[E.out];rfl,yZ⟩
theorem aCj{P:Program}(w:World)(t e:TypeId)(sz:Nat)(ht:P.underlying t=some (.slice e))(hs:(sizeOf e).run P w=.ok sz w)(b n cap:Nat)(h:n≤cap):
  (Instr.sliceAt t (.slice (some ⟨b,0,none⟩) n cap) none (some (.int .i64 n)) (some (.int .i64 n))).run P w=.ok (.slice (some ⟨b,0,none⟩) n n) w:=by
 simp[Instr.sliceAt,Instr.slice,run_underlying ht,Instr.sliceBounds,run_sliceBound,hs,h,Result.andThen,Addr.add]
theorem aBn{P:Program}(w:World)(t e:TypeId)(sz:Nat)(ht:P.underlying t=some (.slice e))(hs:(sizeOf e).run P w=.ok sz w):
  (Instr.sliceAt t (.slice none 0 0) none (some (.int .i64 0)) (some (.int .i64 0))).run P w=.ok (.slice none 0 0) w:=by
 simp[Instr.sliceAt,Instr.slice,run_underlying ht,Instr.sliceBounds,run_sliceBound,hs,Result.andThen,Addr.add]
def aCl(w:World)(base:Nat)(e:TypeId)(size:Nat)(v:Value)(n:Nat)(xs:List Value):Prop:=
 xs.length=n*size∧((v=.slice none 0 0∧n=0)∨∃g cur,v=.slice (some ⟨g,0,none⟩) n n∧base≤g∧w.heap[g]? = some (.cells cur e (0,0))∧n≤maxLen∧n*size≤cur.size∧cur.toList.take (n*size)=xs)
theorem aCl.keep{S:Nat→Prop}{w w':World}{base:Nat}{e:TypeId}{size:Nat}{v:Value}{n:Nat}{xs:List Value}(h:aCl w base e size v n xs)(k:Keep S w w')(hs:∀b,v.ownBlock=some b→¬S b):aCl w' base e size v n xs:=by
 obtain⟨h1,h2⟩:=h;refine⟨h1,?_⟩;rcases h2 with h2|⟨g,cur,rfl,hb,hg,hr⟩
 ·exact .inl h2
 refine .inr ⟨g,cur,rfl,hb,?_,hr⟩;rw[k.block g (lt_of_block hg) (hs g rfl)];exact hg
theorem aCl.below{w w':World}{base:Nat}{e:TypeId}{size:Nat}{v:Value}{n:Nat}{xs:List Value}(h:aCl w base e size v n xs)(k:Below w.heap.size w w'):aCl w' base e size v n xs:=
 h.keep (pAE (S:=fun _=>False) k) (fun _ _=>id)
theorem aCl.base{w:World}{base b':Nat}{e:TypeId}{size:Nat}{v:Value}{n:Nat}{xs:List Value}(h:aCl w base e size v n xs)(hb:b'≤base):aCl w b' e size v n xs:=by
 obtain⟨h1,h2⟩:=h;refine⟨h1,?_⟩;rcases h2 with h2|⟨g,cur,hv,hg,hr⟩
 ·exact .inl h2
 exact .inr ⟨g,cur,hv,Nat.le_trans hb hg,hr⟩
theorem aCl.type{w:World}{base:Nat}{e:TypeId}{size:Nat}{v:Value}{n:Nat}{xs:List Value}(h:aCl w base e size v n xs){b:Nat}(hb:v.ownBlock=some b):base≤b∧b<w.heap.size∧∃cur,w.heap[b]? = some (.cells cur e (0,0)):=by
 obtain⟨_,h2⟩:=h;rcases h2 with⟨rfl,_⟩|⟨g,cur,rfl,hge,hg,_⟩
 ·cases hb
 cases hb;exact⟨hge,lt_of_block hg,cur,hg⟩
theorem aCl.reads{w:World}{base:Nat}{e:TypeId}{size:Nat}{v:Value}{n:Nat}{xs:List Value}(h:aCl w base e size v n xs)(hn:n≤100000000):aC0 w v size n xs:=by
 obtain⟨h1,h2⟩:=h;rcases h2 with⟨rfl,rfl⟩|⟨g,cur,rfl,_,hg,_,hc,ht⟩
 ·exact⟨none,0,rfl,by omega,h1,fun h=>by omega⟩
 refine⟨_,n,rfl,hn,h1,fun hp=>⟨g,0,rfl,lt_of_block hg,fun j hj=>?_⟩⟩;rw[Nat.zero_add];show w.cell? ⟨g,j,none⟩=_;simp only[World.cell?,hg,Option.isSome_none,Bool.false_eq_true,if_false];rw[←ht,List.getElem?_take_of_lt hj,Array.getElem?_toList]
def aGw(w:World)(base:Nat)(e:TypeId)(size n:Nat)(v:Value)(xs:List Value)(en:Ending)(w':World):Prop:=
 ∃v',en=.returned v'∧aCl w' base e size v' n xs∧v'.ownBlock=v.ownBlock∧w'=w
def aFr(w:World)(e:TypeId)(size n:Nat)(xs:List Value)(en:Ending)(w':World):Prop:=
 ∃v',en=.returned v'∧aCl w' w.heap.size e size v' n xs∧Below w.heap.size w w'
theorem aC0.src{w:World}{ao:Option Addr}{size n cap:Nat}{xs:List Value}(h:aC0 w (.slice ao n cap) size n xs):∀ad,ao=some ad→∀j u,xs[j]? = some u→w.cell? (ad.add j)=some u:=by
 rintro ad rfl j u hu;obtain⟨ao',cap',hv,_,hlen,h3⟩:=h
 cases hv
 have hj:j<xs.length:=by
  obtain⟨hj,_⟩:=List.getElem?_eq_some_iff.1 hu;exact hj
 have hn:0<n:=by
  rcases Nat.eq_zero_or_pos n with rfl|hn
  ·omega
  exact hn
 obtain⟨b,off,e,_,hc⟩:=h3 hn
 cases e
 rw[Go.WideShapes.add_plain,hc j (by omega)];exact hu
def Twinned(w:World)(base g:Nat)(e:TypeId)(size n:Nat)(xs marks:List Value):Prop:=w.ownsRow base e size (.slice (some ⟨g,0,none⟩) (n+2) (n+2)) (n+2) (xs++marks)
theorem Twinned.cells{w:World}{base g:Nat}{e:TypeId}{size n:Nat}{xs marks:List Value}(h:Twinned w base g e size n xs marks):g<w.heap.size∧∀j,j<(n+2)*size→w.cell? ⟨g,j,none⟩=(xs++marks)[j]? := by
 obtain⟨ao,cap,hv,_,_,_,hr⟩:=aAd h
 cases hv
 obtain⟨b,hb,_,hlt,hc,_⟩:=hr (by omega)
 cases hb
 exact⟨hlt,hc⟩
structure Fw where
 fr:Int
 tt:Int
 am:Int
deriving DecidableEq
def Fw.vals(x:Fw):List Value:=[.int .u8 x.fr,.int .u8 x.tt,.int .i64 x.am]
theorem Fw.vals_len(x:Fw):x.vals.length=3:=rfl
def aAp(ls:List Fw):List Value:=ls.flatMap Fw.vals
def Fw.val(x:Fw):Value:=.agg #[.int .u8 x.fr,.int .u8 x.tt,.int .i64 x.am]
theorem aQ4(ls:List Fw):(aAp ls).length=ls.length*3:=aJ5 _ 3 Fw.vals_len ls
theorem aB6(ls:List Fw)(i j:Nat)(hj:j<3)(h:i<ls.length):(aAp ls)[i*3+j]? = ls[i].vals[j]? := by
 unfold aAp;rw[aH3 _ 3 Fw.vals_len ls i j hj,List.getElem?_eq_getElem h];rfl
theorem aL5(a b:List Fw):aAp (a++b)=aAp a++aAp b:=by unfold aAp;exact List.flatMap_append
theorem aQ5(x:Fw):aAp [x]=x.vals:=by simp[aAp]
structure Fw.Fits(x:Fw):Prop where
 fr:In8 x.fr
 tt:In8 x.tt
 am:In64 x.am
theorem aKs(l:List Fw):∀u∈aAp l,u.oneCell'=true:=by
 intro u hu;unfold aAp at hu;obtain⟨x,_,hx⟩:=List.mem_flatMap.1 hu;simp[Fw.vals]at hx;rcases hx with rfl|rfl|rfl <;> rfl
theorem aNi:(Tryz.prog.info? 220).map (fun i=>(i.zero,i.size,i.bytes))=some (some (Fw.val ⟨0,0,0⟩),3,16):=by kernel_rfl
theorem aC8(w:World){ops:Array Oper}{rest:List Oper}{o:Oper}{a:Act}{Q:Exit→Act→World→Prop}(hgd:o.guard=none)(s x:Operand)
  (ho:o.op=.call { callee:=.builtin .append,args:=#[s,x],argTypes:=#[214,214] })(base:Nat)(v:Value)(ls:List Fw)(hs:a.eval s=v)
  (hown:w.ownsRow base 220 3 v ls.length (aAp ls))(g c:Nat)(y:Fw)(hx:a.eval x=.slice (some ⟨g,0,none⟩) 1 c)(hy:Blk w g #[.int .u8 y.fr,.int .u8 y.tt,.int .i64 y.am] 220)(hlen:ls.length≤100000)(hbase:base≤w.heap.size)
  (h:∀v' w',w'.ownsRow base 220 3 v' (ls++[y]).length (aAp (ls++[y]))→w.grownBy w' v.ownBlock→wpList Tryz.prog ops Q rest (a.put o.dst v') w'):wpList Tryz.prog ops Q (o::rest) a w:=by
 obtain⟨i0,hi,hz0,hz1,hz2⟩:=info_parts aNi;refine wpList_append_own w hgd s x 214 ho base 220 i0 (Fw.val ⟨0,0,0⟩) 3 16 Tryz.underlying214 hi hz0 hz1 hz2 rfl (by decide) v ls.length (aAp ls) hs hown ⟨g,0,none⟩ 1 c y.vals hx rfl ?_ ?_ (by unfold maxLen;omega) (by omega) hbase ?_
 ·intro j u hj;have:=hy.cell j;rw[Go.WideShapes.add_plain]
  match j,hj with
  | 0,hj=>simp[Fw.vals]at hj;subst hj;simpa using this
  | 1,hj=>simp[Fw.vals]at hj;subst hj;simpa using this
  | 2,hj=>simp[Fw.vals]at hj;subst hj;simpa using this
  | j+3,hj=>simp[Fw.vals]at hj
 ·intro u hu;simp[Fw.vals]at hu;rcases hu with rfl|rfl|rfl <;> rfl
 intro v' w' h1 h2 _;refine h v' w' ?_ h2;rw[aL5,aQ5,List.length_append];exact h1
theorem aCs{P:Program}{w:World}(t ty e:TypeId){z:Value}{size bytes:Nat}
  (hi:(P.info? e).map (fun i=>(i.zero,i.size,i.bytes))=some (some z,size,bytes))(ht:P.underlying t=some (.slice e))(hzs:z.cells.size=size)(hsz:0<size)(hbs:bytes≤1000)
  (base:Nat)(v:Value)(n:Nat)(xs:List Value)(hown:w.ownsRow base e size v n xs)(h1:∀u∈xs,u.oneCell'=true)(hn:n≤100000):
  ∃v' w',(Builtin.append_ #[t,t] ty #[.slice none 0 0,v]).run P w=.ok v' w'∧w'.ownsRow w.heap.size e size v' n xs∧Below w.heap.size w w':=by
 obtain⟨i,hi1,hi2,hi3,hi4⟩:=info_parts hi;have h0:=World.ownsRow_nil w w.heap.size e size;obtain⟨ao,cap,rfl,c1,c2,c3,c4⟩:=aAd hown
 cases ao with
 | none=>
  have hz:n=0:=by
   rcases Nat.eq_zero_or_pos n with e|e
   ·exact e
   obtain⟨b,hb,_⟩:=c4 e;cases hb
  have hcap:cap=0:=by
   rcases hown.2 with⟨e,_⟩|⟨g,cap',cur,e,_⟩
   ·cases e;rfl
   cases e
  subst hz;subst hcap;have hxs:xs=[]:=List.eq_nil_of_length_eq_zero (by simpa using c3);subst hxs;exact⟨_,_,run_append_owned_none (P:=P) (w:=w) w.heap.size t ty e i size ht hi1 (.slice none 0 0) 0 [] h0,h0,yZ⟩
 | some ad=>
  have hcells:∀j u,xs[j]? = some u→w.cell? (ad.add j)=some u:=by
   intro j u hj;have hjl:j<xs.length:=(List.getElem?_eq_some_iff.1 hj).1
   have hp:0<n:=by
    rcases Nat.eq_zero_or_pos n with e|e
    ·subst e;rw[c3]at hjl;omega
    exact e
   obtain⟨b,hb,_,_,hc,_⟩:=c4 hp
   cases hb
   rw[Go.WideShapes.add_plain,Nat.zero_add,hc j (by omega)];exact hj
  have hbb:=Nat.mul_le_mul hn hbs;obtain⟨v',w',hr,h2,h3,_⟩:=run_append_own (P:=P) w w.heap.size t ty e i z size bytes ht hi1 hi2 hi3 hi4 hzs hsz (.slice none 0 0) 0 [] h0 ad n cap xs c3 hcells h1 (by unfold maxLen;omega) (by rw[Nat.zero_add];omega) yL;simp only[Nat.zero_add,List.nil_append]at h2;exact⟨v',w',hr,h2,(Below.refl w.heap.size w).grown h3 yL (fun k hk=>by cases hk)⟩
theorem aEz{P:Program}{w w':World}{o:Oper}{a:Act}{K:Act→World→Prop}{Q:Exit→Act→World→Prop}(x:Operand)(t:TypeId){v v':Value}
  (ho:o.op=.call { callee:=.builtin .append,args:=#[.const (.slice none 0 0),x],argTypes:=#[t,t] })(hx:a.eval x=v)
  (hr:(Builtin.append_ #[t,t] o.type #[.slice none 0 0,v]).run P w=.ok v' w')(h:K (a.put o.dst v') w'):o.wp P a w K Q:=by
 have hc:a.eval (.const (.slice none 0 0))=.slice none 0 0:=rfl;unfold Oper.wp execOp;simp only[ho,resolve,invoke,builtin,Sem.run_bind,Sem.run_pure,Result.andThen_ok,List.map_toArray,List.map_cons,List.map_nil,hc,hx,hr];exact h
theorem aH6{ops:Array Oper}{D:Nat→Bool}(hC:aC6 ops D){j k:Nat}(hj:D j=false){o:Oper}(ho:ops[k]? = some o)(he:∃e∈o.after,Region.binds .any e=true∧e.on=j):D k=false:=by
 obtain⟨e,he,hb,hon⟩:=he
 by_cases h:D k=true
 ·have:=hC k o ho h e he hb;rw[hon,hj]at this;cases this
 simpa using h
end Go.Proofs.YtaeocliklpcgmaaGreat
