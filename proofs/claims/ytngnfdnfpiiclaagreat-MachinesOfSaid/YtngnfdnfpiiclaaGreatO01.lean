/- Pieces of one proof. -/
import Derived.Test.YtngnfdnfpiiclaaGreatRows
import Derived.WalkKit
import Derived.WalkSpells
import Derived.WalkLawsBesides
import Derived.Lib.Hide
import Derived.BigQuiet
import Derived.Deep.RegionHeld3
import Derived.Deep.QuietTactic
import Derived.Deep.DeepCutAuto
import Derived.Deep.DeepFit
import Derived.Orders
import Derived.Laws.Tables
import Derived.Laws.CopyOwn
import Derived.OwnWalk
import Derived.Laws.AppendOwnNone
set_option linter.all false
set_option maxHeartbeats 64000000
set_option maxRecDepth 100000
namespace Go.Proofs.YtngnfdnfpiiclaaGreat
open Go.RowKit
def Blk(w:World)(g:Nat)(cs:Array Value)(t:TypeId):Prop:=w.heap[g]? = some (.cells cs t (0,0))
theorem Blk.out{w:World}{g:Nat}{cs:Array Value}{t:TypeId}(h:Blk w g cs t):w.heap[g]? = some (.cells cs t (0,0)):=h
theorem Blk.lt{w:World}{g:Nat}{cs:Array Value}{t:TypeId}(h:Blk w g cs t):g<w.heap.size:=lt_of_block h
theorem Blk.cell{w:World}{g:Nat}{cs:Array Value}{t:TypeId}(h:Blk w g cs t)(i:Nat):w.cell? ⟨g,i,none⟩=cs[i]? := by
 unfold Blk at h;simp[World.cell?,h]
theorem Blk.frozen{w:World}{g:Nat}{cs:Array Value}{t:TypeId}(h:Blk w g cs t)(i:Nat):w.frozen? ⟨g,i,none⟩=false:=by
 unfold Blk at h;simp[World.frozen?,h]
theorem Blk.set{w:World}{g:Nat}{cs:Array Value}{t:TypeId}(h:Blk w g cs t)(i:Nat)(v:Value):Blk (w.setCell ⟨g,i,none⟩ v) g (cs.setIfInBounds i v) t:=by
 have hlt:=h.lt;have h':w.heap[g]=.cells cs t (0,0):=by unfold Blk at h;simpa [Array.getElem?_eq_getElem hlt]using h
 show(w.heap.modify g _)[g]? = _;rw[Array.getElem?_eq_getElem (by simpa using hlt),Array.getElem_modify_self,h'];rfl
theorem Blk.setOther{w:World}{g:Nat}{cs:Array Value}{t:TypeId}(h:Blk w g cs t){a:Addr}(ha:g≠a.block)(v:Value):Blk (w.setCell a v) g cs t:=by
 unfold Blk;rw[Below.heap_setCell _ _ _ _ ha];exact h
theorem Blk.alloc{w:World}{g:Nat}{cs:Array Value}{t:TypeId}(h:Blk w g cs t)(o:Obj):Blk (w.alloc o) g cs t:=by
 unfold Blk;rw[Below.heap_alloc _ _ _ h.lt];exact h
theorem Blk.drew{w:World}{g:Nat}{cs:Array Value}{t:TypeId}(h:Blk w g cs t):Blk w.drew g cs t:=h
theorem Blk.below{w w':World}{g B:Nat}{cs:Array Value}{t:TypeId}(h:Blk w g cs t)(hb:Below B w w')(hg:g<B):Blk w' g cs t:=by
 unfold Blk;rw[hb.block g hg];exact h
theorem Blk.new(w:World)(cs:Array Value)(t:TypeId):Blk (w.alloc (.cells cs t)) w.heap.size cs t:=by
 show(w.heap.push _)[w.heap.size]? = _;simp
theorem pAA{B:Nat}{w w':World}(h:Below B w.drew w'):Below B w w':=⟨h.os,h.tape,h.output,h.size,h.block⟩
theorem pAB(w:World)(cs:Array Value)(t:TypeId){g:Nat}(h:g=w.heap.size):Blk (w.alloc (.cells cs t)) g cs t:=by subst h;exact Blk.new w cs t
theorem andB{w w1 w2:World}(h:Below w.heap.size w w1)(k:Below w1.heap.size w1 w2):Below w.heap.size w w2:=
 h.trans (k.mono h.size)
def In64(n:Int):Prop := -9223372036854775808≤n∧n≤9223372036854775807
instance(n:Int):Decidable (In64 n):=inferInstanceAs (Decidable (_∧_))
def InU64(n:Int):Prop:=0≤n∧n<18446744073709551616
theorem aDy(n:Int)(h:In64 n):wrap64 n=n:=IntWalk.wrap64_in n h
theorem In64.of_wf{n:Int}(h:(Lit.int .i64 n).wf=true):In64 n:=by
 simp[Lit.wf,IntKind.min,IntKind.max,IntKind.signed,IntKind.bits]at h;unfold In64;omega
def IsRow(k:IntKind)(w:World)(a:Option Addr)(len cap:Nat)(zs:List Int):Prop:=
 (a=none∧len=0∧cap=0∧zs=[])∨
 ∃x,a=some x∧len≤cap∧cap≤maxLen∧zs.length=cap∧(∀i,i<zs.length→w.cell? (x.add i)=some (.int k (zs.getD i 0)))∧∀n∈zs,(Lit.int k n).wf=true
theorem aA5{P:Program}{fn:Func}{p u:Tmp}{ty:TypeId}(h:fn.results=#[.cell p ty,.tmp u])(tmps:Array Value)(w:World)(g:Nat)(t:TypeId)(cs:Array Value)(d:TypeDesc)(v:Value)
  (hp:tmps.getD p undef=.pointer (some ⟨g,0,none⟩))(hg:w.heap[g]? = some (.cells cs t (0,0)))
  (hu:P.underlying ty=some d)(hd:(match d with | .struct _ | .array _ _=>true|_=>false)=true)(hi:(P.info? ty).map (·.size)=some cs.size)(hv:tmps.getD u undef=v):
  (results fn tmps).run P w=.ok (.tuple #[.agg cs,v]) w:=by
 have h1:=results_cell_row (P:=P) (fn:={ fn with results:=#[.cell p ty] }) rfl tmps w g t cs (0,0) d hp hg hu hd hi;rw[results_cell_tmp h]
 have h2:((asAddr (tmps.getD p undef)).run P w).andThen (fun a w₁=>(loadVar ty a).run P w₁)=.ok (.agg cs) w:=by
  simpa [results,Sem.run_bind,Result.andThen]using h1
 rw[hp]at h2 ⊢;simp only[asAddr,Sem.run_pure,Result.andThen_ok]at h2 ⊢;rw[h2];simp only[Result.andThen_ok,hv]
abbrev yR(w:World)(X:Value)(e:Ending)(w':World):Prop:=e=.returned X∧Below w.heap.size w w'
abbrev yS(w:World)(X:Value)(e:Ending)(w':World):Prop:=e=.returned X∧w=w'
abbrev yV(w:World)(X:Value)(e:Ending)(w':World):Prop:=e=.returned X∧w'=w
theorem yH{p:Prop}(h:p):Hid p:=h
theorem _root_.Go.RowKit.Hid.o{p:Prop}(h:Go.RowKit.Hid p):p:=h
theorem yB{w w':World}{g:Nat}{cs:Array Value}{t:TypeId}(h:Hid (Blk w g cs t))(k:Below w.heap.size w w'):Hid (Blk w' g cs t):=Blk.below h k (Blk.lt h)
theorem yT{a w w':World}(h:Hid (Below a.heap.size a w))(k:Below w.heap.size w w'):Hid (Below a.heap.size a w'):=h.out.trans (k.mono h.out.size)
theorem yA{A:Type}{a d:A}{l:List A}:(a::l).getD 0 d=a:=List.getD_cons_zero
theorem yC{A:Type}{a d:A}{l:List A}{n:Nat}:(a::l).getD (n+1) d=l.getD n d:=List.getD_cons_succ
theorem yD{A:Type}{a x:A}{l:List A}{n:Nat}:(a::l).set (n+1) x=a::l.set n x:=List.set_cons_succ
theorem yE{A:Type}{a x:A}{l:List A}:(a::l).set 0 x=x::l:=List.set_cons_zero
theorem yF{A:Type}{a:A}{l:List A}{n:Nat}:l.toArray.setIfInBounds n a=(l.set n a).toArray:=List.setIfInBounds_toArray _ _ _
theorem yG{A:Type}{l:List A}:l.toArray.toList=l:=List.toList_toArray
theorem yI{A:Type}{a b:A}{l:List A}:a∈b::l↔a=b∨a∈l:=List.mem_cons
theorem yJ{A:Type}{a:A}:¬a∈([]:List A):=by simp
theorem yL{n:Nat}:n≤n:=Nat.le_refl n
theorem yM{a b c:Nat}(h:a<b)(k:b≤c):a<c:=Nat.lt_of_lt_of_le h k
theorem yZ{B:Nat}{w:World}:Below B w w:=Below.refl _ _
def aCo(ops:Array Oper)(s:Nat):Option Nat:=(List.range ops.size).find? fun i=>(ops[i]?).bind (·.dst)==some s
def frOf(ops:Array Oper)(val:Nat→Value)(D:Nat→Bool)(a:Act):Act:=
 { a with tmps:=Array.ofFn (n:=a.tmps.size) fun s=>match aCo ops s with|some i=>if D i then val i else a.tmps[s]|none=>a.tmps[s] }
def ins(i:Nat)(D:Nat→Bool):Nat→Bool:=fun j=>j==i || D j
theorem aDa{ops:Array Oper}{s i:Nat}(h:aCo ops s=some i):i<ops.size∧(ops[i]?).bind (·.dst)=some s:=by
 unfold aCo at h;have h1:=List.find?_some h;have h2:=List.mem_of_find?_eq_some h;exact⟨by simpa using h2,by simpa using h1⟩
theorem aC3(ops:Array Oper)(val:Nat→Value)(a:Act):frOf ops val (fun _=>false) a=a:=by
 obtain⟨t,d⟩:=a;simp only[frOf];congr 1;apply Array.ext
 ·simp
 intro i h1 h2;simp only[Array.getElem_ofFn,Bool.false_eq_true,if_false];split <;> rfl
theorem aDf(ops:Array Oper)(val:Nat→Value)(D D':Nat→Bool)(a:Act)(h:∀i,i<ops.size→D i=D' i):frOf ops val D a=frOf ops val D' a:=by
 simp only[frOf];congr 2
 funext s
 split
 ·rename_i i hi;rw[h i (aDa hi).1]
 rfl
theorem aD6{ops:Array Oper}{val:Nat→Value}{D:Nat→Bool}{a:Act}{i:Nat}{o:Oper}(ho:ops[i]? = some o)(hd:∀d,o.dst=some d→aCo ops d=some i)
  {v:Value}(hv:(frOf ops val (fun _=>true) a).put o.dst v=frOf ops val (fun _=>true) a):(frOf ops val D a).put o.dst v=frOf ops val (ins i D) a:=by
 cases hdst:o.dst with
 | none=>
  simp only[Act.put];refine(congrArg (fun t=>({ a with tmps:=t }:Act)) ?_);apply Array.ext
  ·simp
  ·intro s h1 h2;simp only[Array.getElem_ofFn];split
   ·rename_i j hj;have:=(aDa hj).2
    by_cases hji:j=i
    ·subst hji;simp[ho,hdst]at this
    simp[ins,hji]
   ·rfl
 | some d=>
  have hw:=hd d hdst;rw[hdst]at hv;simp only[Act.put,frOf]at hv ⊢;have hv2:=congrArg Act.tmps hv;simp only at hv2;congr 1;apply Array.ext
  ·simp
  intro s h1 h2;simp only[Array.size_setIfInBounds,Array.size_ofFn]at h1;rw[Array.getElem_setIfInBounds (by simpa using h1)];simp only[Array.getElem_ofFn]
  by_cases hds:d=s
  ·subst hds;have h3:=congrArg (fun t:Array Value=>t[d]?) hv2;simp only[Array.getElem?_setIfInBounds_self_of_lt (show d<(Array.ofFn (n:=a.tmps.size) _).size by simpa using h1)]at h3;rw[Array.getElem?_ofFn]at h3;simp only[h1,dif_pos,hw,if_true,Option.some.injEq]at h3;simp[hw,ins,h3]
  rw[if_neg hds];split
  ·rename_i j hj
   have hji:j≠i:=by
    rintro rfl;have:=(aDa hj).2;rw[ho]at this;simp[hdst]at this;exact hds this
   simp[ins,hji]
  rfl
def aMt(ops:Array Oper)(o:Oper)(t:Tmp):Bool:=
 match aCo ops t with
 | some j=>o.after.any fun e=>e.on==j && Region.binds .any e
 | none=>true
def notSelect:Op→Bool
 | .select ..=>false
 | _=>true
def opOk(ops:Array Oper)(i:Nat)(o:Oper):Bool:=
 (match o.dst with|some d=>aCo ops d==some i|none=>true) && notSelect o.op && ((o.looksAt ops).all (aMt ops o)) &&
  (o.after.all fun e=>!Region.binds .any e || decide (e.on<i))
def aBn(ops:Array Oper):Bool:=(List.range ops.size).all fun i=>match ops[i]? with|some o=>opOk ops i o|none=>true
theorem aB0{ops:Array Oper}(h:aBn ops=true){i:Nat}{o:Oper}(ho:ops[i]? = some o):opOk ops i o=true:=by
 have hi:i<ops.size:=by
  rcases Nat.lt_or_ge i ops.size with h'|h'
  ·exact h'
  simp[Array.getElem?_eq_none h']at ho
 have:=List.all_eq_true.1 h i (by simpa using hi);simpa [ho]using this
def aCp(D:Nat→Bool)(o:Oper):Prop:=∀e∈o.after,Region.binds .any e=true→D e.on=true
def aCj(ops:Array Oper)(D:Nat→Bool):Prop:=∀(j:Nat) (o:Oper),ops[j]? = some o→D j=true→aCp D o
theorem aLf{ops:Array Oper}{val:Nat→Value}{D:Nat→Bool}{a:Act}{o:Oper}{t:Tmp}(hl:aMt ops o t=true)(hw:aCp D o):
  (frOf ops val D a).tmps[t]? = (frOf ops val (fun _=>true) a).tmps[t]? := by
 simp only[frOf,Array.getElem?_ofFn];split
 ·rename_i ht;congr 1;unfold aMt at hl
  cases hwr:aCo ops t with
  | none=>rfl
  | some j=>
   rw[hwr]at hl;simp only[Array.any_eq_true',Bool.and_eq_true,beq_iff_eq]at hl;obtain⟨e,he,hj,hb⟩:=hl;have:=hw e he hb;rw[hj]at this;simp[this]
 rfl
theorem aLg{ops:Array Oper}{val:Nat→Value}{D:Nat→Bool}{a:Act}{i:Nat}{o:Oper}(hok:opOk ops i o=true)(hw:aCp D o):
  execOp (frOf ops val D a).eval o=execOp (frOf ops val (fun _=>true) a).eval o∧
  Region.wanted o (yielded ops (frOf ops val D a).tmps)=Region.wanted o (yielded ops (frOf ops val (fun _=>true) a).tmps):=by
 simp only[opOk,Bool.and_eq_true]at hok;obtain⟨⟨⟨_,hsel⟩,hlook⟩,_⟩:=hok;rw[List.all_eq_true]at hlook
 constructor
 ·refine execOp_congr o (fun cs b h=>by rw[h]at hsel;cases hsel) fun x hx=>?_
  cases x with
  | tmp t=>
   have:=aLf (val:=val) (a:=a) (hlook t (List.mem_append_left _ (List.mem_filterMap.2 ⟨.tmp t,by simpa using hx,rfl⟩))) hw;simp only[Act.eval,Act.tmps,Frame.eval]at *;simp only[Array.getD_eq_getD_getElem?,this]
  | _=>rfl
 unfold Region.wanted
 cases hg:o.guard with
 | none=>rfl
 | some gw=>
  obtain⟨g,want⟩:=gw
  have hy:yielded ops (frOf ops val D a).tmps g=yielded ops (frOf ops val (fun _=>true) a).tmps g:=by
   unfold yielded
   cases ht:(ops[g]?).bind (·.dst)with
   | none=>rfl
   | some t=>
    have:=aLf (val:=val) (a:=a) (hlook t (by simp[Oper.looksAt,hg,ht])) hw;simp only[Option.bind_some,this]
  simp only[hy]
def OpTo(P:Program)(ops:Array Oper)(af:Act)(o:Oper)(w:World)(R:World→Prop):Prop:=
 if Region.wanted o (yielded ops af.tmps)then o.wp P af w (fun a' w'=>a'=af∧R w') (fun _ _ _=>False)else af.put o.dst undef=af∧R w
theorem aH1{ops:Array Oper}(hok:aBn ops=true){listed:Array Bool}(hl:listed.size=ops.size)(h:Region.ready .any ops listed=[]):
  ∀i,i<ops.size→listed.getD i true=true:=by
 intro i
 induction i using Nat.strongRecOn with
 | _ i ih=>
  intro hi
  by_cases hd:listed.getD i true=true
  ·exact hd
  exfalso;have ho:ops[i]? = some ops[i]:=Array.getElem?_eq_getElem hi;have hk:=aB0 hok ho;simp only[opOk,Bool.and_eq_true]at hk
  have hmem:i∈Region.ready .any ops listed:=by
   unfold Region.ready;refine List.mem_filter.2 ⟨by simpa using hi,?_⟩;simp only[Bool.and_eq_true,ho,Option.map_some,Option.getD_some];refine⟨by simpa using hd,?_⟩;rw[Array.all_eq_true_iff_forall_mem];intro e he
   cases hb:Region.binds .any e with
   | false=>rfl
   | true=>
    have h2:=(Array.all_eq_true_iff_forall_mem.1 hk.2) e he;simp only[hb,Bool.not_true,Bool.false_or,decide_eq_true_eq]at h2;have h3:=ih e.on h2 (by omega);have h4:e.on<listed.size:=by omega
    simp only[Array.getD_eq_getD_getElem?,Array.getElem?_eq_getElem h4,Option.getD_some]at h3 ⊢;simp[h3]
  rw[h]at hmem
  cases hmem
section
variable{P:Program}{ops:Array Oper}{Q:Exit→Act→World→Prop}{val:Nat→Value}{a:Act}{I:(Nat→Bool)→World→Prop}
theorem OpTo.wpOp{i:Nat}{o:Oper}{D:Nat→Bool}{w:World}{R:World→Prop}(ho:ops[i]? = some o)(hok:opOk ops i o=true)(hwt:aCp D o)
  (h:OpTo P ops (frOf ops val (fun _=>true) a) o w R){K:Act→World→Prop}(hK:∀w',R w'→K (frOf ops val (ins i D) a) w'):
  wpOp P ops Q i K (frOf ops val D a) w:=by
 obtain⟨he,hwd⟩:=aLg (val:=val) (a:=a) hok hwt
 have hd:∀d,o.dst=some d→aCo ops d=some i:=by
  intro d hd;simp only[opOk,Bool.and_eq_true,hd,beq_iff_eq]at hok;exact hok.1.1.1
 unfold OpTo at h;unfold Go.wpOp;simp only[ho,hwd];split
 ·rename_i hw;rw[if_pos hw]at h;refine .inl ?_;unfold Oper.wp at h ⊢;rw[he];generalize (execOp (frOf ops val (fun _=>true) a).eval o).run P w=r at h
  cases r with
  | ok n w'=>
   cases n <;> simp only[Oper.upon]at h ⊢
   case value v=>rw[aD6 ho hd h.1];exact hK _ h.2
   case skip=>rw[aD6 ho hd h.1];exact hK _ h.2
   case defer d=>
    have:=congrArg Act.defers h.1;exfalso
    cases hdst:o.dst <;> rw[hdst]at this <;> simp only[Act.put]at this <;> exact absurd (congrArg List.length this) (by simp)
   case enter f args=>
    refine Calls.mono h fun e w'' hh=>?_
    cases e with
    | returned v=>simp only at hh ⊢;rw[aD6 ho hd hh.1];exact hK _ hh.2
    | panicked c=>exact hh.elim
    | outgrown=>obtain⟨_,_,hh⟩:=hh;exact hh.elim
   case row row args=>
    refine Rows.mono h fun v w'' hh=>?_
    rw[aD6 ho hd hh.1];exact hK _ hh.2
  | halt x w'=>
   cases x <;> simp only[Oper.upon]at h ⊢
 rename_i hw;rw[if_neg hw]at h;rw[aD6 ho hd h.1];exact hK _ h.2
theorem aE3:∀(l:List Bool) (i:Nat),l[i]? = some false→((l.set i true).filter (! ·)).length+1=(l.filter (! ·)).length
 | [],_,h=>by simp at h
 | b::l,0,h=>by simp at h;subst h;simp
 | b::l,i+1,h=>by
  simp only[List.getElem?_cons_succ]at h;have:=aE3 l i h;simp only[yD,List.filter_cons]
  cases b <;> simp <;> omega
theorem aE4(hm:P.follows .mixedOrders=true)(hok:aBn ops=true)
  (hop:∀(i:Nat) (o:Oper),ops[i]? = some o→∀D w,D i=false→aCp D o→aCj ops D→I D w→OpTo P ops (frOf ops val (fun _=>true) a) o w (I (ins i D)))
  (hend:∀D w,(∀i,i<ops.size→D i=true)→I D w→Q .normal (frOf ops val (fun _=>true) a) w):
  ∀(fuel:Nat) (listed:Array Bool) (w:World),listed.size=ops.size→fuel=(listed.toList.filter (! ·)).length→aCj ops (fun i=>listed.getD i false)→I (fun i=>listed.getD i false) w→
   wpAny P .any ops Q fuel listed (frOf ops val (fun i=>listed.getD i false) a) w:=by
 have fin:∀(listed:Array Bool) (w:World),listed.size=ops.size→I (fun i=>listed.getD i false) w→Region.ready .any ops listed=[]→
   Q .normal (frOf ops val (fun i=>listed.getD i false) a) w:=by
  intro listed w hsz hI hr;have hall:=aH1 hok hsz hr
  have hall':∀i,i<ops.size→listed.getD i false=true:=fun i hi=>by
   have:=hall i hi;have h4:i<listed.size:=by omega
   simpa [Array.getD_eq_getD_getElem?,Array.getElem?_eq_getElem h4]using this
  rw[aDf ops val _ (fun _=>true) a (fun i hi=>hall' i hi)];exact hend _ w hall' hI
 intro fuel
 induction fuel with
 | zero=>
  intro listed w hsz hf hc hI
  have hz:∀i,i<ops.size→listed.getD i true=true:=by
   intro i hi;have h4:i<listed.size:=by omega
   have h5:listed[i]∈listed.toList:=by simp
   have h6:=List.filter_eq_nil_iff.1 (List.length_eq_zero_iff.1 hf.symm) _ h5;simp only[Array.getD_eq_getD_getElem?,Array.getElem?_eq_getElem h4,Option.getD_some];simpa using h6
  have hr:Region.ready .any ops listed=[]:=by
   unfold Region.ready;refine List.filter_eq_nil_iff.2 fun i hi=>?_
   have hi':i<ops.size:=by simpa using hi
   simp[hz i hi']
  exact⟨hr,fin listed w hsz hI hr⟩
 | succ fuel ih=>
  intro listed w hsz hf hc hI;refine⟨fin listed w hsz hI,fun i hi=>?_⟩;obtain⟨hun,o,ho,hall⟩:=mem_ready.1 hi
  have hisz:i<listed.size:=by
   rcases Nat.lt_or_ge i listed.size with h'|h'
   ·exact h'
   simp[Array.getElem?_eq_none h']at hun
  have hun':listed.getD i false=false:=by simpa [Array.getD_eq_getD_getElem?,Array.getElem?_eq_getElem hisz]using hun
  have hwt:aCp (fun i=>listed.getD i false) o:=fun e he hb=>hall e he hb
  refine OpTo.wpOp ho (aB0 hok ho) hwt (hop i o ho _ w hun' hwt hc hI) fun w' hw'=>?_
  have heq:(ins i fun i=>listed.getD i false)=fun j=>(listed.setIfInBounds i true).getD j false:=by
   funext j
   simp only[ins,Array.getD_eq_getD_getElem?]
   by_cases hji:j=i
   ·subst hji;simp[Array.getElem?_setIfInBounds_self_of_lt hisz]
   rw[Array.getElem?_setIfInBounds_ne (Ne.symm hji)];simp[hji]
  rw[heq]at hw' ⊢;refine ih _ w' (by simpa using hsz) ?_ ?_ hw'
  ·have hlen:((listed.setIfInBounds i true).toList.filter (! ·)).length+1=(listed.toList.filter (! ·)).length:=by
    simp only[Array.toList_setIfInBounds]
    have hfa:listed.toList[i]? = some false:=by
     simp only[Array.getD_eq_getD_getElem?,Array.getElem?_eq_getElem hisz,Option.getD_some]at hun;simp[hisz,hun]
    exact aE3 _ _ hfa
   omega
  intro j oj hoj hj e he hb;rw[←heq]at hj ⊢;simp only[ins,Bool.or_eq_true,beq_iff_eq]at hj ⊢;rcases hj with rfl|hj
  ·rw[ho]at hoj;cases hoj;exact .inr (hwt e he hb)
  exact .inr (hc j oj hoj hj e he hb)
def puts(val:Nat→Value):Nat→List Oper→Act→Act
 | _,[],a=>a
 | i,o::r,a=>puts val (i+1) r (a.put o.dst (val i))
theorem puts_eq(hok:aBn ops=true)(hself:∀(i:Nat) (o:Oper),ops[i]? = some o→(frOf ops val (fun _=>true) a).put o.dst (val i)=frOf ops val (fun _=>true) a):
  ∀(k:Nat) (l:List Oper),(∀j,l[j]? = ops[k+j]?)→k+l.length=ops.size→puts val k l (frOf ops val (fun j=>decide (j<k)) a)=frOf ops val (fun _=>true) a
 | k,[],_,hk=>by
  simp only[puts];exact aDf ops val _ _ a fun i hi=>by simp at hk;simp;omega
 | k,o::r,h,hk=>by
  have ho:ops[k]? = some o:=by simpa using(h 0).symm
  simp only[puts]
  have hd:∀d,o.dst=some d→aCo ops d=some k:=by
   intro d hd;have:=aB0 hok ho;simp only[opOk,Bool.and_eq_true,hd,beq_iff_eq]at this;exact this.1.1.1
  rw[aD6 ho hd (hself k o ho),aDf ops val _ (fun j=>decide (j<k+1)) a (fun i _=>by simp only[ins];rw[Bool.eq_iff_iff];simp;omega)];exact puts_eq hok hself (k+1) r (fun j=>by have:=h (j+1);simpa [Nat.add_assoc,Nat.add_comm 1 j]using this) (by simp at hk;omega)
theorem aLh(hok:aBn ops=true){i:Nat}{o:Oper}(ho:ops[i]? = some o):(frOf ops val (fun _=>true) a).put o.dst (val i)=frOf ops val (fun _=>true) a:=by
 cases hdst:o.dst with
 | none=>rfl
 | some d=>
  have hw:aCo ops d=some i:=by
   have:=aB0 hok ho;simp only[opOk,Bool.and_eq_true,hdst,beq_iff_eq]at this;exact this.1.1.1
  simp only[Act.put];refine congrArg (fun t=>({ (frOf ops val (fun _=>true) a)with tmps:=t }:Act)) ?_;apply Array.ext
  ·simp[frOf]
  intro s h1 h2;rw[Array.getElem_setIfInBounds (by simpa using h1)]
  by_cases hds:d=s
  ·subst hds;simp[frOf,hw]
  rw[if_neg hds];simp[frOf]
theorem aDh(hok:aBn ops=true):frOf ops val (fun _=>true) a=puts val 0 ops.toList a:=by
 have:=puts_eq (val:=val) (a:=a) hok (fun i o ho=>aLh hok ho) 0 ops.toList (fun j=>by simp) (by simp);rw[←this];congr 1;rw[aDf ops val _ (fun _=>false) a (fun i _=>by simp),aC3]
theorem aMu{id:Nat}{w:World}(hm:P.follows .mixedOrders=true)(val:Nat→Value)(S:World→Prop)(hok:aBn ops=true)
  (h0:S w.drew)(af:Act)(haf:puts val 0 ops.toList a=af)
  (hop:∀(i:Nat) (o:Oper),ops[i]? = some o→∀w',S w'→OpTo P ops af o w' S)
  (hend:∀w',S w'→Q .normal af w'):(Code.region id ops true).wp P Q a w:=by
 refine wp_region_any hm ?_;have haf':frOf ops val (fun _=>true) a=af:=by rw[aDh hok,haf]
 have hfr:=aC3 ops val a
 have key:=aE4 (P:=P) (Q:=Q) (val:=val) (a:=a) (I:=fun _ w'=>S w') hm hok
  (fun i o ho D w' hDi hw hc hI=>by rw[haf'];exact hop i o ho w' hI)
  (fun D w' hall hI=>by rw[haf'];exact hend w' hI)
  ops.size (Array.replicate ops.size false) w.drew (by simp) (by simp) (fun j o ho hj=>by
   simp[Array.getD_eq_getD_getElem?,Array.getElem?_replicate]at hj;split at hj <;> simp at hj) h0
 have hz:(fun i=>(Array.replicate ops.size false).getD i false)=fun _=>false:=by
  funext i;simp[Array.getD_eq_getD_getElem?,Array.getElem?_replicate];split <;> rfl
 rw[hz,hfr]at key;exact key
def aAv(P:Program)(ops:Array Oper)(af:Act)(S:World→Prop):List Oper→Prop
 | []=>True
 | o::r=>(∀w',S w'→OpTo P ops af o w' S)∧aAv P ops af S r
theorem aAv.at{af:Act}{S:World→Prop}:∀{l:List Oper},aAv P ops af S l→∀{i:Nat} {o:Oper},l[i]? = some o→∀w',S w'→OpTo P ops af o w' S
 | [],_,i,o,h=>by simp at h
 | o::r,h,0,o',ho=>by simp at ho;subst ho;exact h.1
 | o::r,h,i+1,o',ho=>aAv.at h.2 (by simpa using ho)
theorem yO{af:Act}{o:Oper}{w:World}{R:World→Prop}(hg:o.guard=none)(h:o.wp P af w (fun a' w'=>a'=af∧R w') (fun _ _ _=>False)):OpTo P ops af o w R:=by
 unfold OpTo;rw[if_pos (by simp[Region.wanted,hg])];exact h
theorem aAg{id:Nat}{w:World}(hm:P.follows .mixedOrders=true)(vals:List Value)(S:World→Prop)(hok:aBn ops=true)(h0:S w.drew)
  (h:∀af,puts (fun i=>vals.getD i undef) 0 ops.toList a=af→aAv P ops af S ops.toList∧∀w',S w'→Q .normal af w'):
  (Code.region id ops true).wp P Q a w:=by
 obtain⟨h1,h2⟩:=h _ rfl;refine aMu hm (fun i=>vals.getD i undef) S hok h0 _ rfl ?_ h2;intro i o ho w' hS;exact h1.at (i:=i) (by simpa using ho) w' hS
def aCd(P:Program)(ops:Array Oper)(af:Act)(I:(Nat→Bool)→World→Prop):Nat→List Oper→Prop
 | _,[]=>True
 | k,o::r=>(∀D w',D k=false→aCp D o→aCj ops D→I D w'→OpTo P ops af o w' (I (ins k D)))∧aCd P ops af I (k+1) r
theorem aCd.at{af:Act}{I:(Nat→Bool)→World→Prop}:∀{l:List Oper} {k:Nat},aCd P ops af I k l→∀{i:Nat} {o:Oper},l[i]? = some o→∀D w',D (k+i)=false→aCp D o→aCj ops D→I D w'→OpTo P ops af o w' (I (ins (k+i) D))
 | [],_,_,i,o,h=>by simp at h
 | o::r,k,h,0,o',ho=>by simp at ho;subst ho;exact h.1
 | o::r,k,h,i+1,o',ho=>by
  have:=aCd.at h.2 (i:=i) (by simpa using ho)
  rwa [show k+(i+1)=k+1+i by omega]
theorem aA4{id:Nat}{w:World}(hm:P.follows .mixedOrders=true)(vals:List Value)(I:(Nat→Bool)→World→Prop)(hok:aBn ops=true)(h0:I (fun _=>false) w.drew)
  (h:∀af,puts (fun i=>vals.getD i undef) 0 ops.toList a=af→aCd P ops af I 0 ops.toList∧∀D w',(∀i,i<ops.size→D i=true)→I D w'→Q .normal af w'):
  (Code.region id ops true).wp P Q a w:=by
 obtain⟨h1,h2⟩:=h _ rfl;refine wp_region_any hm ?_;have haf':frOf ops (fun i=>vals.getD i undef) (fun _=>true) a=puts (fun i=>vals.getD i undef) 0 ops.toList a:=aDh hok;have hfr:=aC3 ops (fun i=>vals.getD i undef) a
 have hz:(fun i=>(Array.replicate ops.size false).getD i false)=fun _=>false:=by
  funext i;simp[Array.getD_eq_getD_getElem?,Array.getElem?_replicate];split <;> rfl
 have key:=aE4 (P:=P) (Q:=Q) (val:=fun i=>vals.getD i undef) (a:=a) (I:=I) hm hok
  (fun i o ho D w' hDi hw hc hI=>by
   rw[haf'];have:=h1.at (i:=i) (o:=o) (by simpa using ho) D w' (by simpa using hDi) hw hc hI;simpa using this)
  (fun D w' hall hI=>by rw[haf'];exact h2 D w' hall hI)
  ops.size (Array.replicate ops.size false) w.drew (by simp) (by simp) (fun j o ho hj=>by
   simp[Array.getD_eq_getD_getElem?,Array.getElem?_replicate]at hj;split at hj <;> simp at hj) (by rw[hz];exact h0)
 rw[hz,hfr]at key;exact key
end
theorem aH2(ops:Array Oper)(val val':Nat→Value)(D:Nat→Bool)(a:Act)(h:∀i,i<ops.size→D i=true→val i=val' i):frOf ops val D a=frOf ops val' D a:=by
 simp only[frOf];congr 2
 funext s
 split
 ·rename_i i hi
  by_cases hD:D i=true
  ·rw[if_pos hD,if_pos hD,h i (aDa hi).1 hD]
  rw[if_neg hD,if_neg hD]
 rfl
section
variable{P:Program}{ops:Array Oper}{Q:Exit→Act→World→Prop}{a:Act}
theorem aH3{G:Type}{val:G→Nat→Value}{I:G→(Nat→Bool)→World→Prop}(hok:aBn ops=true)
  (hop:∀(i:Nat) (o:Oper),ops[i]? = some o→∀g D w,D i=false→aCp D o→aCj ops D→I g D w→
   ∃g',(∀j,j<ops.size→D j=true→val g j=val g' j)∧OpTo P ops (frOf ops (val g') (fun _=>true) a) o w (I g' (ins i D)))
  (hend:∀g D w,(∀i,i<ops.size→D i=true)→I g D w→Q .normal (frOf ops (val g) (fun _=>true) a) w):
  ∀(fuel:Nat) (listed:Array Bool) (g:G) (w:World),listed.size=ops.size→fuel=(listed.toList.filter (! ·)).length→aCj ops (fun i=>listed.getD i false)→I g (fun i=>listed.getD i false) w→
   wpAny P .any ops Q fuel listed (frOf ops (val g) (fun i=>listed.getD i false) a) w:=by
 have fin:∀(listed:Array Bool) (g:G) (w:World),listed.size=ops.size→I g (fun i=>listed.getD i false) w→Region.ready .any ops listed=[]→
   Q .normal (frOf ops (val g) (fun i=>listed.getD i false) a) w:=by
  intro listed g w hsz hI hr;have hall:=aH1 hok hsz hr
  have hall':∀i,i<ops.size→listed.getD i false=true:=fun i hi=>by
   have:=hall i hi;have h4:i<listed.size:=by omega
   simpa [Array.getD_eq_getD_getElem?,Array.getElem?_eq_getElem h4]using this
  rw[aDf ops (val g) _ (fun _=>true) a (fun i hi=>hall' i hi)];exact hend g _ w hall' hI
 intro fuel
 induction fuel with
 | zero=>
  intro listed g w hsz hf hc hI
  have hz:∀i,i<ops.size→listed.getD i true=true:=by
   intro i hi;have h4:i<listed.size:=by omega
   have h5:listed[i]∈listed.toList:=by simp
   have h6:=List.filter_eq_nil_iff.1 (List.length_eq_zero_iff.1 hf.symm) _ h5;simp only[Array.getD_eq_getD_getElem?,Array.getElem?_eq_getElem h4,Option.getD_some];simpa using h6
  have hr:Region.ready .any ops listed=[]:=by
   unfold Region.ready;refine List.filter_eq_nil_iff.2 fun i hi=>?_
   have hi':i<ops.size:=by simpa using hi
   simp[hz i hi']
  exact⟨hr,fin listed g w hsz hI hr⟩
 | succ fuel ih=>
  intro listed g w hsz hf hc hI;refine⟨fin listed g w hsz hI,fun i hi=>?_⟩;obtain⟨hun,o,ho,hall⟩:=mem_ready.1 hi
  have hisz:i<listed.size:=by
   rcases Nat.lt_or_ge i listed.size with h'|h'
   ·exact h'
   simp[Array.getElem?_eq_none h']at hun
  have hun':listed.getD i false=false:=by simpa [Array.getD_eq_getD_getElem?,Array.getElem?_eq_getElem hisz]using hun
  have hwt:aCp (fun i=>listed.getD i false) o:=fun e he hb=>hall e he hb
  obtain⟨g',hag,hop'⟩:=hop i o ho g _ w hun' hwt hc hI;rw[aH2 ops (val g) (val g') _ a hag];refine OpTo.wpOp ho (aB0 hok ho) hwt hop' fun w' hw'=>?_
  have heq:(ins i fun i=>listed.getD i false)=fun j=>(listed.setIfInBounds i true).getD j false:=by
   funext j
   simp only[ins,Array.getD_eq_getD_getElem?]
   by_cases hji:j=i
   ·subst hji;simp[Array.getElem?_setIfInBounds_self_of_lt hisz]
   rw[Array.getElem?_setIfInBounds_ne (Ne.symm hji)];simp[hji]
  rw[heq]at hw' ⊢;refine ih _ g' w' (by simpa using hsz) ?_ ?_ hw'
  ·have hlen:((listed.setIfInBounds i true).toList.filter (! ·)).length+1=(listed.toList.filter (! ·)).length:=by
    simp only[Array.toList_setIfInBounds]
    have hfa:listed.toList[i]? = some false:=by
     simp only[Array.getD_eq_getD_getElem?,Array.getElem?_eq_getElem hisz,Option.getD_some]at hun;simp[hisz,hun]
    exact aE3 _ _ hfa
   omega
  intro j oj hoj hj e he hb;rw[←heq]at hj ⊢;simp only[ins,Bool.or_eq_true,beq_iff_eq]at hj ⊢;rcases hj with rfl|hj
  ·rw[ho]at hoj;cases hoj;exact .inr (hwt e he hb)
  exact .inr (hc j oj hoj hj e he hb)
def aFh{G:Type}(P:Program)(ops:Array Oper)(vals:G→List Value)(AF:G→Act)(I:G→(Nat→Bool)→World→Prop):Nat→List Oper→Prop
 | _,[]=>True
 | k,o::r=>(∀g D w',D k=false→aCp D o→aCj ops D→I g D w'→
   ∃g',(∀j,j<ops.size→D j=true→(vals g).getD j undef=(vals g').getD j undef)∧OpTo P ops (AF g') o w' (I g' (ins k D)))∧aFh P ops vals AF I (k+1) r
theorem aFh.at{G:Type}{vals:G→List Value}{AF:G→Act}{I:G→(Nat→Bool)→World→Prop}:∀{l:List Oper} {k:Nat},aFh P ops vals AF I k l→∀{i:Nat} {o:Oper},l[i]? = some o→∀g D w',D (k+i)=false→aCp D o→aCj ops D→I g D w'→
   ∃g',(∀j,j<ops.size→D j=true→(vals g).getD j undef=(vals g').getD j undef)∧OpTo P ops (AF g') o w' (I g' (ins (k+i) D))
 | [],_,_,i,o,h=>by simp at h
 | o::r,k,h,0,o',ho=>by simp at ho;subst ho;exact h.1
 | o::r,k,h,i+1,o',ho=>by
  have:=aFh.at h.2 (i:=i) (by simpa using ho)
  rwa [show k+(i+1)=k+1+i by omega]
theorem aBi{id:Nat}{w:World}(hm:P.follows .mixedOrders=true){G:Type}(vals:G→List Value)(I:G→(Nat→Bool)→World→Prop)(hok:aBn ops=true)(g0:G)(h0:I g0 (fun _=>false) w.drew)
  (h:∀AF:G→Act,(∀g,puts (fun i=>(vals g).getD i undef) 0 ops.toList a=AF g)→
   aFh P ops vals AF I 0 ops.toList∧∀g D w',(∀i,i<ops.size→D i=true)→I g D w'→Q .normal (AF g) w'):
  (Code.region id ops true).wp P Q a w:=by
 obtain⟨h1,h2⟩:=h _ (fun _=>rfl);refine wp_region_any hm ?_;have haf':∀g,frOf ops (fun i=>(vals g).getD i undef) (fun _=>true) a=puts (fun i=>(vals g).getD i undef) 0 ops.toList a:=fun g=>aDh hok
 have hz:(fun i=>(Array.replicate ops.size false).getD i false)=fun _=>false:=by
  funext i;simp[Array.getD_eq_getD_getElem?,Array.getElem?_replicate];split <;> rfl
 have key:=aH3 (P:=P) (Q:=Q) (val:=fun g i=>(vals g).getD i undef) (a:=a) (I:=I) hok
  (fun i o ho g D w' hDi hw hc hI=>by
   have:=h1.at (i:=i) (o:=o) (by simpa using ho) g D w' (by simpa using hDi) hw hc hI;obtain⟨g',hag,hop⟩:=this;refine⟨g',hag,?_⟩;rw[haf' g'];simpa using hop)
  (fun g D w' hall hI=>by rw[haf' g];exact h2 g D w' hall hI)
  ops.size (Array.replicate ops.size false) g0 w.drew (by simp) (by simp) (fun j o ho hj=>by
   simp[Array.getD_eq_getD_getElem?,Array.getElem?_replicate]at hj;split at hj <;> simp at hj) (by rw[hz];exact h0)
 have hfr:=aC3 ops (fun i=>(vals g0).getD i undef) a;simp only[hz]at key;rw[hfr]at key;exact key
end
theorem OpTo.wanted{P:Program}{ops:Array Oper}{af:Act}{o:Oper}{w:World}{R:World→Prop}(hw:Region.wanted o (yielded ops af.tmps)=true)(h:o.wp P af w (fun a' w'=>a'=af∧R w') (fun _ _ _=>False)):OpTo P ops af o w R:=by
 unfold OpTo;rw[if_pos hw];exact h
theorem pAC{P:Program}{ops:Array Oper}{af:Act}{o:Oper}{w:World}{R:World→Prop}(hw:Region.wanted o (yielded ops af.tmps)=false)(h:af.put o.dst undef=af)(hR:R w):OpTo P ops af o w R:=by
 unfold OpTo;rw[if_neg (by rw[hw];exact Bool.false_ne_true)];exact⟨h,hR⟩
structure Keep(S:Nat→Prop)(w w':World):Prop where
 os:w'.os=w.os
 tape:w'.tape=w.tape
 output:w'.output=w.output
 size:w.heap.size≤w'.heap.size
 block:∀k,k<w.heap.size→¬S k→w'.heap[k]? = w.heap[k]?
theorem Keep.refl(S:Nat→Prop)(w:World):Keep S w w:=⟨rfl,rfl,rfl,Nat.le_refl _,fun _ _ _=>rfl⟩
theorem Keep.trans{S:Nat→Prop}{a b c:World}(h:Keep S a b)(k:Keep S b c):Keep S a c:=
 ⟨k.os.trans h.os,k.tape.trans h.tape,k.output.trans h.output,Nat.le_trans h.size k.size,fun i hi hs=>(k.block i (yM hi h.size) hs).trans (h.block i hi hs)⟩
theorem Keep.mono{S S':Nat→Prop}{w w':World}(h:Keep S w w')(hS:∀k,k<w.heap.size→S k→S' k):Keep S' w w':=
 ⟨h.os,h.tape,h.output,h.size,fun i hi hs=>h.block i hi fun hk=>hs (hS i hi hk)⟩
theorem pAD{S:Nat→Prop}{w w':World}(h:Below w.heap.size w w'):Keep S w w':=⟨h.os,h.tape,h.output,h.size,fun i hi _=>h.block i hi⟩
theorem Keep.below{S:Nat→Prop}{w w':World}{B:Nat}(h:Keep S w w')(hB:B≤w.heap.size)(hS:∀k,k<B→¬S k):Below B w w':=
 ⟨h.os,h.tape,h.output,h.size,fun i hi=>h.block i (yM hi hB) (hS i hi)⟩
theorem Keep.cell{S:Nat→Prop}{w w':World}(h:Keep S w w'){p:Addr}(hp:p.block<w.heap.size)(hs:¬S p.block):w'.cell? p=w.cell? p:=World.cell?_of_block (w:=w) (h.block p.block hp hs)
theorem Keep.drew{S:Nat→Prop}{a w:World}(h:Keep S a w):Keep S a w.drew:=⟨h.os,h.tape,h.output,h.size,h.block⟩
theorem Keep.alloc{S:Nat→Prop}{a w:World}(h:Keep S a w)(o:Obj):Keep S a (w.alloc o):=
 ⟨h.os,h.tape,h.output,by have:=h.size;simp;omega,fun k hk hs=>by rw[Below.heap_alloc _ _ _ (yM hk h.size)];exact h.block k hk hs⟩
theorem Keep.setCell{S:Nat→Prop}{a w:World}(h:Keep S a w){p:Addr}(hp:S p.block∨a.heap.size≤p.block)(u:Value):Keep S a (w.setCell p u):=
 ⟨h.os,h.tape,h.output,by simpa using h.size,fun k hk hs=>by
  rw[Below.heap_setCell _ _ _ _ (by
                   rintro rfl;rcases hp with hp|hp;· exact hs hp
                   omega)]
  exact h.block k hk hs⟩
theorem Keep.setCells{S:Nat→Prop}{g:Nat}:∀(vs:List Value) {a w:World} (o:Nat),Keep S a w→(S g∨a.heap.size≤g)→Keep S a (w.setCells g o vs)
 | [],_,_,_,h,_=>h
 | v::r,_,_,o,h,hg=>by
  rw[World.setCells];exact Keep.setCells r (o+1) (h.setCell hg v) hg
theorem Keep.grown{S:Nat→Prop}{a w w':World}{row:Option Nat}(h:Keep S a w)(hg:w.grownBy w' row)(hr:∀k,row=some k→S k∨a.heap.size≤k):Keep S a w':=by
 have hb:Below 0 a a:=Below.refl 0 a;refine⟨hg.os.trans h.os,hg.tape.trans h.tape,hg.output.trans h.output,Nat.le_trans h.size hg.size,fun k hk hs=>?_⟩
 rw[hg.block k (yM hk h.size) (by
                          rintro e;rcases hr k e.symm with h'|h';· exact hs h'
                          omega)]
 exact h.block k hk hs
theorem Blk.keep{S:Nat→Prop}{w w':World}{g:Nat}{cs:Array Value}{t:TypeId}(h:Blk w g cs t)(k:Keep S w w')(hs:¬S g):Blk w' g cs t:=by
 unfold Blk;rw[k.block g h.lt hs];exact h
theorem aAw{S:Nat→Prop}{w w':World}{base:Nat}{e:TypeId}{size:Nat}{v:Value}{n:Nat}{xs:List Value}(h:w.ownsRow base e size v n xs)(k:Keep S w w')(hs:∀b,v.ownBlock=some b→¬S b):w'.ownsRow base e size v n xs:=by
 obtain⟨h1,h2⟩:=h;refine⟨h1,?_⟩;rcases h2 with h2|⟨g,cap,cur,rfl,hb,hg,hr⟩
 ·exact .inl h2
 refine .inr ⟨g,cap,cur,rfl,hb,?_,hr⟩;rw[k.block g (lt_of_block hg) (hs g rfl)];exact hg
theorem aAn{w:World}{base:Nat}{e:TypeId}{size:Nat}{v:Value}{n:Nat}{xs:List Value}(h:w.ownsRow base e size v n xs){b:Nat}(hb:v.ownBlock=some b):base≤b∧b<w.heap.size∧∃cur,w.heap[b]? = some (.cells cur e (0,0)):=by
 obtain⟨_,h2⟩:=h;rcases h2 with⟨rfl,_⟩|⟨g,cap,cur,rfl,hge,hg,_⟩
 ·cases hb
 cases hb;exact⟨hge,lt_of_block hg,cur,hg⟩
theorem aBz{w:World}{base:Nat}{e:TypeId}{size:Nat}{v:Value}{n:Nat}{xs:List Value}(h:w.ownsRow base e size v n xs){g:Nat}{cs:Array Value}{t:TypeId}(hg:Blk w g cs t)(hne:e≠t):∀b,v.ownBlock=some b→¬b=g:=by
 intro b hb e';obtain⟨_,_,cur,hc⟩:=aAn h hb;subst e';unfold Blk at hg;rw[hc]at hg;simp at hg;exact hne hg.2
theorem aAh{w:World}{base:Nat}{e:TypeId}{size:Nat}{v:Value}{n:Nat}{xs:List Value}(h:w.ownsRow base e size v n xs):
  ∃(ao:Option Addr) (cap:Nat),v=.slice ao n cap∧n≤cap∧cap≤maxLen∧xs.length=n*size∧(0<n→∃b,ao=some ⟨b,0,none⟩∧base≤b∧b<w.heap.size∧(∀j,j<n*size→w.cell? ⟨b,j,none⟩=xs[j]?)∧∀j,w.frozen? ⟨b,j,none⟩=false):=by
 have h':=h;obtain⟨h1,h2⟩:=h;rcases h2 with⟨rfl,rfl⟩|⟨g,cap,cur,rfl,hb,hg,hc1,hc2,hc3,hc4⟩
 ·exact⟨none,0,rfl,Nat.le_refl _,by decide,h1,fun h=>absurd h (by omega)⟩
 exact⟨some ⟨g,0,none⟩,cap,rfl,hc1,hc2,h1,fun _=>⟨g,rfl,hb,lt_of_block hg,fun j hj=>h'.cellAt j hj,fun j=>h'.frozenAt j⟩⟩
theorem Blk.grown{w w':World}{g:Nat}{cs:Array Value}{t:TypeId}{row:Option Nat}(h:Blk w g cs t)(hg:w.grownBy w' row)(hne:row≠some g):Blk w' g cs t:=by
 unfold Blk;rw[hg.block g h.lt (fun e=>hne e.symm)];exact h
theorem aAc{w w':World}{base:Nat}{e:TypeId}{size:Nat}{v:Value}{n:Nat}{xs:List Value}(h:w.ownsRow base e size v n xs)(k:Below w.heap.size w w'):w'.ownsRow base e size v n xs:=
 aAw h (pAD (S:=fun _=>False) k) (fun _ _=>id)
theorem aBo{w:World}{base base':Nat}{e:TypeId}{size:Nat}{v:Value}{n:Nat}{xs:List Value}(h:w.ownsRow base e size v n xs)(hb:base'≤base):w.ownsRow base' e size v n xs:=by
 obtain⟨h1,h2⟩:=h;refine⟨h1,?_⟩;rcases h2 with h2|⟨g,cap,cur,rfl,hge,hr⟩
 ·exact .inl h2
 exact .inr ⟨g,cap,cur,rfl,by omega,hr⟩
theorem aD7{α:Type}(f:α→List Value)(n:Nat)(hf:∀x,(f x).length=n):∀(l:List α) (i j:Nat),j<n→(l.flatMap f)[i*n+j]? = (l[i]?).bind fun x=>(f x)[j]?
 | [],i,j,_=>by simp
 | x::r,0,j,hj=>by simp[List.getElem?_append,hf,hj]
 | x::r,i+1,j,hj=>by
  rw[List.flatMap_cons,List.getElem?_append_right (by rw[hf,Nat.add_mul];omega),hf,show(i+1)*n+j - n=i*n+j by rw[Nat.add_mul];omega];rw[aD7 f n hf r i j hj];simp
theorem aE5{α:Type}(f:α→List Value)(n:Nat)(hf:∀x,(f x).length=n)(l:List α):(l.flatMap f).length=l.length*n:=by
 induction l with
 | nil=>simp
 | cons x r ih=>simp[hf,ih,Nat.add_mul];omega
structure Ln where
 cr:Int
 de:Int
 cu:Int
 li:Int
 db:Int
deriving DecidableEq
def Ln.vals(x:Ln):List Value:=[.int .u8 x.cr,.int .u8 x.de,.int .u8 x.cu,.int .i64 x.li,.int .i64 x.db]
theorem Ln.vals_len(x:Ln):x.vals.length=5:=rfl
def aAd(ls:List Ln):List Value:=ls.flatMap Ln.vals
def Ln.val(x:Ln):Value:=.agg #[.int .u8 x.cr,.int .u8 x.de,.int .u8 x.cu,.int .i64 x.li,.int .i64 x.db]
theorem aBa(ls:List Ln):(aAd ls).length=ls.length*5:=aE5 _ 5 Ln.vals_len ls
theorem aAp(ls:List Ln)(i j:Nat)(hj:j<5)(h:i<ls.length):(aAd ls)[i*5+j]? = ls[i].vals[j]? := by
 unfold aAd;rw[aD7 _ 5 Ln.vals_len ls i j hj,List.getElem?_eq_getElem h];rfl
def Ln.rank(x:Ln):Int:=x.cu*65536+x.cr*256+x.de
def In8(n:Int):Prop:=0≤n∧n≤255
structure Ln.Fits(x:Ln):Prop where
 cr:In8 x.cr
 de:In8 x.de
 cu:In8 x.cu
 li:In64 x.li
 db:In64 x.db
theorem aEs{a b c n d:Int}(h1:0≤a∧a≤255)(h2:0≤b∧b≤255)(h3:0≤c∧c≤255)(h4:0≤n∧n≤1099511627776)(h5:0≤d∧d≤1099511627776):(⟨a,b,c,n,d⟩:Ln).Fits:=
 ⟨h1,h2,h3,⟨Int.le_trans (by decide) h4.1,Int.le_trans h4.2 (by decide)⟩,⟨Int.le_trans (by decide) h5.1,Int.le_trans h5.2 (by decide)⟩⟩
def Ln.is(x:Ln)(a b c:Int):Bool:=x.cr==a && x.de==b && x.cu==c
def atL(ls:List Ln)(a b c:Int):Int:=match ls.findIdx? (fun x=>x.is a b c)with|some i=>i|none => -1
def aAl(ls:List Ln)(a b c:Int):Option Ln:=ls.find? fun x=>x.is a b c
def noLn:Ln:=⟨0,0,0,0,0⟩
def aA1(x:Ln)(s:List Ln×Bool)(y:Ln):List Ln×Bool:=
 if y.rank=x.rank then s else if s.2=false∧x.rank<y.rank then(s.1++[x,y],true)else(s.1++[y],s.2)
def aDi(ls:List Ln)(x:Ln):List Ln×Bool:=ls.foldl (aA1 x) ([],x.li==0)
def setL(ls:List Ln)(x:Ln):List Ln:=if(aDi ls x).2=false then(aDi ls x).1++[x]else(aDi ls x).1
theorem setTo_take(ls:List Ln)(x:Ln)(k:Nat)(h:k<ls.length):aDi (ls.take (k+1)) x=aA1 x (aDi (ls.take k) x) ls[k]:=by
 unfold aDi;rw[List.take_succ_eq_append_getElem h,List.foldl_append];rfl
theorem at_found{ls:List Ln}{a b c:Int}{k:Nat}(h:k<ls.length)(hn:∀x∈ls.take k,x.is a b c=false)(hx:ls[k].is a b c=true):atL ls a b c=k∧aAl ls a b c=some ls[k]:=by
 have e:ls=ls.take k++ls[k]::ls.drop (k+1):=by rw[List.getElem_cons_drop,List.take_append_drop]
 have h1:ls.findIdx? (fun x=>x.is a b c)=some k:=by
  rw[List.findIdx?_eq_some_iff_getElem];refine⟨h,hx,fun j hj=>?_⟩;have:=hn ls[j] (by rw[List.mem_take_iff_getElem];exact⟨j,by omega,rfl⟩);simp[this]
 refine⟨by unfold atL;rw[h1],?_⟩;unfold aAl;rw[List.find?_eq_some_iff_getElem];refine⟨hx,k,h,rfl,fun j hj=>?_⟩;have:=hn ls[j] (by rw[List.mem_take_iff_getElem];exact⟨j,by omega,rfl⟩);simp[this]
theorem aJ8{ls:List Ln}{a b c:Int}(hn:∀x∈ls,x.is a b c=false):atL ls a b c = -1∧aAl ls a b c=none:=by
 refine⟨?_,?_⟩
 ·unfold atL;rw[List.findIdx?_eq_none_iff.2 hn]
 unfold aAl;rw[List.find?_eq_none];intro x hx;simp[hn x hx]
theorem aJ9(ls:List Ln)(a b c:Int):(∃(k:Nat) (h:k<ls.length),atL ls a b c=k∧aAl ls a b c=some ls[k]∧ls[k].is a b c=true)∨(atL ls a b c = -1∧aAl ls a b c=none∧∀x∈ls,x.is a b c=false):=by
 by_cases h:∀x∈ls,x.is a b c=false
 ·exact .inr ⟨(aJ8 h).1,(aJ8 h).2,h⟩
 left
 cases hf:ls.findIdx? (fun x=>x.is a b c)with
 | none=>
  exact absurd (List.findIdx?_eq_none_iff.1 hf) h
 | some k=>
  obtain⟨hk,hx,hn⟩:=List.findIdx?_eq_some_iff_getElem.1 hf
  obtain⟨h1,h2⟩:=at_found hk (a:=a) (b:=b) (c:=c) (by
   intro x hx;obtain⟨j,hj,rfl⟩:=List.mem_take_iff_getElem.1 hx;have:=hn j (by omega);simpa using this) hx
  exact⟨k,hk,h1,h2,hx⟩
def aH4(b:Bool):Nat:=cond b 0 1
theorem unput_le(b:Bool):aH4 b≤1:=by cases b <;> simp[aH4]
theorem aH5(x:Ln)(s:List Ln×Bool)(y:Ln):(aA1 x s y).1.length+aH4 (aA1 x s y).2≤s.1.length+aH4 s.2+1:=by
 unfold aA1;split
 ·omega
 split
 ·rename_i h;have e1:(s.1++[x,y]).length=s.1.length+2:=by simp
  have e2:aH4 true=0:=rfl;have e3:aH4 false=1:=rfl;rw[h.1];dsimp only;omega
 have e1:(s.1++[y]).length=s.1.length+1:=by simp
 dsimp only;omega
theorem setTo_len(ls:List Ln)(x:Ln):(aDi ls x).1.length≤ls.length+1:=by
 have key:∀(l:List Ln) (s:List Ln×Bool),(l.foldl (aA1 x) s).1.length+aH4 (l.foldl (aA1 x) s).2≤s.1.length+aH4 s.2+l.length:=by
  intro l
  induction l with
  | nil=>intro s;exact Nat.le_refl _
  | cons y r ih=>
   intro s;have h1:=ih (aA1 x s y);have h2:=aH5 x s y;simp only[List.foldl_cons,List.length_cons];omega
 have:=key ls ([],x.li==0);unfold aDi;simp only[List.length_nil]at this;have h2:=unput_le (x.li==0);omega
theorem aJd(a b:List Ln):aAd (a++b)=aAd a++aAd b:=by unfold aAd;exact List.flatMap_append
theorem aMv(x:Ln):aAd [x]=x.vals:=by simp[aAd]
def lnAt(ls:List Ln)(a b c:Int):Ln:=(aAl ls a b c).getD noLn
structure Ln.Good(x:Ln):Prop where
 cr:1≤x.cr∧x.cr≤16
 de:1≤x.de∧x.de≤16
 cu:1≤x.cu∧x.cu≤8
 ne:x.cr≠x.de
 li:1≤x.li∧x.li≤1099511627776
 db:0≤x.db∧x.db≤x.li
theorem Ln.Good.fits{x:Ln}(h:x.Good):x.Fits:=by
 obtain⟨h1,h2,h3,_,h5,h6⟩:=h;exact⟨⟨by omega,by omega⟩,⟨by omega,by omega⟩,⟨by omega,by omega⟩,⟨by omega,by omega⟩,⟨by omega,by omega⟩⟩
theorem aAo{ls:List Ln}{a b c:Int}{x:Ln}(h:aAl ls a b c=some x):x∈ls∧x.cr=a∧x.de=b∧x.cu=c:=by
 unfold aAl at h;refine⟨List.mem_of_find?_eq_some h,?_⟩;have:=List.find?_some h;unfold Ln.is at this;simp only[Bool.and_eq_true,beq_iff_eq]at this;exact⟨this.1.1,this.1.2,this.2⟩
theorem aCq{ls:List Ln}(hg:∀y∈ls,y.Good)(a b c:Int):0≤(lnAt ls a b c).db∧(lnAt ls a b c).db≤(lnAt ls a b c).li∧(lnAt ls a b c).li≤1099511627776:=by
 unfold lnAt
 cases h:aAl ls a b c with
 | none=>simp[noLn]
 | some x=>have:=hg x (aAo h).1;have h5:=this.li;have h6:=this.db;simp;omega
def aBm(ps:List Int)(ls:List Ln)(a b c:Int):Int:=if a=b∨a∉ps∨b∉ps then 0 else(lnAt ls a b c).db+(lnAt ls b a c).li - (lnAt ls b a c).db
theorem aHr{ps:List Int}{ls:List Ln}(hg:∀y∈ls,y.Good)(a b c:Int):0≤aBm ps ls a b c∧aBm ps ls a b c≤2199023255552:=by
 unfold aBm;have h1:=aCq hg a b c;have h2:=aCq hg b a c;split <;> omega
def aAi(ps:List Int)(ls:List Ln)(a b c n:Int):Int:=
 if a<1∨16<a∨b<1∨16<b∨c<1∨8<c∨a=b∨n<0∨1099511627776<n then 1
 else if a∉ps∨b∉ps then 7
 else if n<(lnAt ls a b c).db then 14
 else if aAl ls a b c=none∧0<n∧64≤ls.length then 9 else 0
def aAj(ps:List Int)(ls:List Ln)(a b c n:Int):List Ln:=if aAi ps ls a b c n=0 then setL ls ⟨a,b,c,n,(lnAt ls a b c).db⟩else ls
def aKa(ls:List Ln)(a b c n:Int):Int:=if n<1 then 1 else if aAl ls a b c=none then 7 else if(lnAt ls a b c).db<n then 14 else 0
def Ln.owe(x:Ln)(d:Int):Ln:=⟨x.cr,x.de,x.cu,x.li,d⟩
def aKb(ls:List Ln)(a b c n:Int):List Ln:=if aKa ls a b c n=0 then setL ls ((lnAt ls a b c).owe ((lnAt ls a b c).db - n))else ls
def aDj(ps:List Int)(ls:List Ln)(a b c n:Int):Int:=if n<1 then 1 else if aBm ps ls a b c<n then 11 else 0
def aGo(ls:List Ln)(a b c n:Int):List Ln:=if(aAl ls a b c).isSome=true then setL ls ((lnAt ls a b c).owe ((lnAt ls a b c).db - min n (lnAt ls a b c).db))else ls
def push2(ls:List Ln)(a b c n:Int):Int:=if(aAl ls a b c).isSome=true then n - min n (lnAt ls a b c).db else n
def aB8(ls:List Ln)(a b c n:Int):List Ln:=
 if 0<push2 ls a b c n then setL (aGo ls a b c n) ((lnAt (aGo ls a b c n) b a c).owe ((lnAt (aGo ls a b c n) b a c).db+push2 ls a b c n))else aGo ls a b c n
def aDb(ps:List Int)(ls:List Ln)(a b c n:Int):List Ln:=if aDj ps ls a b c n=0 then aB8 ls a b c n else ls
theorem setL_mem{ls:List Ln}{x y:Ln}(h:y∈setL ls x):y∈ls∨(y=x∧x.li≠0):=by
 have key:∀(l:List Ln) (s:List Ln×Bool),(∀y∈s.1,y∈ls∨(y=x∧x.li≠0))→(s.2=false→x.li≠0)→(∀y∈l,y∈ls)→
   (∀y∈(l.foldl (aA1 x) s).1,y∈ls∨(y=x∧x.li≠0))∧((l.foldl (aA1 x) s).2=false→x.li≠0):=by
  intro l
  induction l with
  | nil=>intro s h1 h2 _;exact⟨h1,h2⟩
  | cons z r ih=>
   intro s h1 h2 h3;rw[List.foldl_cons];refine ih _ ?_ ?_ (fun y hy=>h3 y (by simp[hy]))
   ·intro y hy;unfold aA1 at hy;split at hy
    ·exact h1 y hy
    split at hy
    ·rename_i h4;simp only[List.mem_append,yI,yJ,or_false]at hy;rcases hy with hy|rfl|rfl
     ·exact h1 y hy
     ·exact .inr ⟨rfl,h2 h4.1⟩
     exact .inl (h3 _ (by simp))
    simp only[List.mem_append,List.mem_singleton]at hy;rcases hy with hy|rfl
    ·exact h1 y hy
    exact .inl (h3 _ (by simp))
   intro hf;unfold aA1 at hf;split at hf
   ·exact h2 hf
   split at hf
   ·cases hf
   exact h2 hf
 have k:=key ls ([],x.li==0) (by simp) (by intro h e;rw[e]at h;cases h) (fun y hy=>hy);unfold setL aDi at h;split at h
 ·rename_i h4;rcases List.mem_append.1 h with h|h
  ·exact k.1 y h
  rw[List.mem_singleton]at h;exact .inr ⟨h,k.2 h4⟩
 exact k.1 y h
theorem setL_len(ls:List Ln)(x:Ln):(setL ls x).length≤ls.length+1:=by
 have key:∀(l:List Ln) (s:List Ln×Bool),(l.foldl (aA1 x) s).1.length+aH4 (l.foldl (aA1 x) s).2≤s.1.length+aH4 s.2+l.length:=by
  intro l
  induction l with
  | nil=>intro s;exact Nat.le_refl _
  | cons y r ih=>
   intro s;have h1:=ih (aA1 x s y);have h2:=aH5 x s y;simp only[List.foldl_cons,List.length_cons];omega
 have h1:=key ls ([],x.li==0);have h2:=unput_le (x.li==0);simp only[List.length_nil]at h1;unfold setL aDi;split
 ·rename_i h;rw[h,show aH4 false=1 from rfl]at h1;simp;omega
 omega
def aCw(p c:Int)(x:Ln):Int:=if x.cu=c then(if x.cr=p then x.db else 0) - (if x.de=p then x.db else 0)else 0
def posL(ls:List Ln)(p c:Int):Int:=(ls.map (aCw p c)).sum
def totOf(c:Int)(x:Ln):Int:=if x.cu=c then x.db else 0
def totL(ls:List Ln)(c:Int):Int:=(ls.map (totOf c)).sum
theorem sum_le{α:Type}(f:α→Int)(m:Int):∀(l:List α),(∀x∈l,-m≤f x∧f x≤m) → -m*(l.length:Int)≤(l.map f).sum∧(l.map f).sum≤m*(l.length:Int)
 | [],_=>by simp
 | x::r,h=>by
  have h1:=h x (by simp);have h2:=sum_le f m r (fun y hy=>h y (by simp[hy]));simp only[List.map_cons,List.sum_cons,List.length_cons];rw[show((r.length+1:Nat):Int)=(r.length:Int)+1 by omega,Int.mul_add,Int.mul_add];omega
theorem posOf_bd{x:Ln}(h:x.Good)(p c:Int):-1099511627776≤aCw p c x∧aCw p c x≤1099511627776:=by
 have h5:=h.li;have h6:=h.db;unfold aCw
 (repeat' split) <;> omega
structure Spec where
 p:Nat
 q:Nat
 zero:Obj
 full:Obj
def upd(g:Nat→Nat)(p a:Nat):Nat→Nat:=fun i=>if i=p then a else g i
theorem aKc(g:Nat→Nat)(p a:Nat):upd g p a p=a:=by simp[upd]
theorem aEt(g:Nat→Nat){p i:Nat}(a:Nat)(h:i≠p):upd g p a i=g i:=by simp[upd,h]
def SpecOk(W w:World)(g:Nat→Nat)(D:Nat→Bool)(s:Spec):Prop:=
 D s.p=true→W.heap.size≤g s.p∧w.heap[g s.p]? = some (if D s.q then s.full else s.zero)
def aJm(bs:List Spec):Bool:=bs.all fun s=>bs.all fun s'=>s.p==s'.p || (s.p != s'.q && s.q != s'.p && s.q != s'.q)
structure Lays(W:World)(bs:List Spec)(g:Nat→Nat)(D:Nat→Bool)(w:World):Prop where
 below:Below W.heap.size W w
 ok:∀s∈bs,SpecOk W w g D s
 apart:∀s∈bs,∀s'∈bs,D s.p=true→D s'.p=true→s.p≠s'.p→g s.p≠g s'.p
theorem Lays.start(W:World)(bs:List Spec)(g:Nat→Nat):Lays W bs g (fun _=>false) W.drew:=
 ⟨yZ.drew,fun s _ h=>by simp at h,fun s _ s' _ h=>by simp at h⟩
theorem aCk{k i:Nat}(D:Nat→Bool)(h:i≠k):ins k D i=D i:=by simp[ins,h]
theorem aF3(k:Nat)(D:Nat→Bool):ins k D k=true:=by simp[ins]
theorem Lays.step{W w w':World}{bs:List Spec}{g:Nat→Nat}{D:Nat→Bool}{k:Nat}(h:Lays W bs g D w)(hb:Below w.heap.size w w')(hk:bs.all (fun s=>s.p != k && s.q != k)=true):Lays W bs g (ins k D) w':=by
 obtain⟨h1,h2,h3⟩:=h
 have hk':∀s∈bs,s.p≠k∧s.q≠k:=fun s hs=>by
  have:=List.all_eq_true.1 hk s hs;simpa using this
 refine⟨h1.trans (hb.mono h1.size),fun s hs hd=>?_,fun s hs s' hs' hd hd' hne=>?_⟩
 ·rw[aCk D (hk' s hs).1]at hd;obtain⟨a,b⟩:=h2 s hs hd;rw[aCk D (hk' s hs).2];exact⟨a,by rw[hb.block _ (Array.getElem?_eq_some_iff.1 b).1];exact b⟩
 rw[aCk D (hk' s hs).1]at hd;rw[aCk D (hk' s' hs').1]at hd';exact h3 s hs s' hs' hd hd' hne
theorem Lays.lay{W w:World}{bs:List Spec}{g:Nat→Nat}{D:Nat→Bool}(h:Lays W bs g D w)(s:Spec)(hs:s∈bs)(ha:aJm bs=true)(hq:s.q=s.p∨D s.q=false)(hone:bs.all (fun s'=>s'.p != s.p || s'.q==s.q)=true)
  (hsame:∀s'∈bs,s'.p=s.p→s'=s)(o:Obj)(ho:o=if s.q=s.p then s.full else s.zero):Lays W bs (upd g s.p w.heap.size) (ins s.p D) (w.alloc o):=by
 obtain⟨h1,h2,h3⟩:=h
 have hap:∀s'∈bs,s'.p≠s.p→s'.q≠s.p:=fun s' hs' hne=>by
  have:=List.all_eq_true.1 (List.all_eq_true.1 ha s' hs') s hs;simp only[Bool.or_eq_true,beq_iff_eq,Bool.and_eq_true,bne_iff_ne,ne_eq]at this;rcases this with e|e
  ·exact absurd e hne
  exact e.1.2
 refine⟨h1.alloc h1.size _,fun s' hs' hd=>?_,fun s1 hs1 s2 hs2 hd1 hd2 hne=>?_⟩
 ·by_cases he:s'.p=s.p
  ·have:=hsame s' hs' he;subst this;rw[aKc];refine⟨h1.size,?_⟩;have e1:(w.alloc o).heap[w.heap.size]? = some o:=by show(w.heap.push _)[w.heap.size]? = _;simp
   rw[e1,ho]
   by_cases hqp:s'.q=s'.p
   ·rw[if_pos hqp,hqp,aF3];rfl
   rw[if_neg hqp,aCk D hqp];rcases hq with e|e
   ·exact absurd e hqp
   rw[e];rfl
  rw[aCk D he]at hd;obtain⟨a,b⟩:=h2 s' hs' hd;rw[aEt g _ he,aCk D (hap s' hs' he)];exact⟨a,by rw[Below.heap_alloc _ _ _ (Array.getElem?_eq_some_iff.1 b).1];exact b⟩
 have lt:∀s'∈bs,s'.p≠s.p→ins s.p D s'.p=true→g s'.p<w.heap.size:=fun s' hs' he hd=>by
  rw[aCk D he]at hd;exact(Array.getElem?_eq_some_iff.1 (h2 s' hs' hd).2).1
 by_cases e1:s1.p=s.p
 ·by_cases e2:s2.p=s.p
  ·exact absurd (e1.trans e2.symm) hne
  have:=lt s2 hs2 e2 hd2;rw[e1,aKc,aEt g _ e2];omega
 by_cases e2:s2.p=s.p
 ·have:=lt s1 hs1 e1 hd1;rw[e2,aKc,aEt g _ e1];omega
 rw[aEt g _ e1,aEt g _ e2];rw[aCk D e1]at hd1;rw[aCk D e2]at hd2;exact h3 s1 hs1 s2 hs2 hd1 hd2 hne
theorem Lays.fill{W w w':World}{bs:List Spec}{g:Nat→Nat}{D:Nat→Bool}(h:Lays W bs g D w)(s:Spec)(hs:s∈bs)(ha:aJm bs=true)(hqp:s.q≠s.p)(hsame:∀s'∈bs,s'.p=s.p→s'=s)(hd:D s.p=true)
  (hk:Keep (·=g s.p) w w')(hf:w'.heap[g s.p]? = some s.full):Lays W bs g (ins s.q D) w':=by
 obtain⟨h1,h2,h3⟩:=h;have hg:=(h2 s hs hd).1
 have hap:∀s'∈bs,s'.p≠s.p→s'.q≠s.q∧s'.p≠s.q:=fun s' hs' hne=>by
  have:=List.all_eq_true.1 (List.all_eq_true.1 ha s' hs') s hs;simp only[Bool.or_eq_true,beq_iff_eq,Bool.and_eq_true,bne_iff_ne,ne_eq]at this;rcases this with e|e
  ·exact absurd e hne
  exact⟨e.2,e.1.1⟩
 refine⟨⟨hk.os.trans h1.os,hk.tape.trans h1.tape,hk.output.trans h1.output,Nat.le_trans h1.size hk.size,fun i hi=>by rw[hk.block i (yM hi h1.size) (by omega)];exact h1.block i hi⟩,fun s' hs' hd'=>?_,fun s1 hs1 s2 hs2 hd1 hd2 hne=>?_⟩
 ·by_cases he:s'.p=s.p
  ·have:=hsame s' hs' he;subst this;rw[aF3];exact⟨hg,hf⟩
  rw[aCk D (hap s' hs' he).2]at hd';obtain⟨a,b⟩:=h2 s' hs' hd';rw[aCk D (hap s' hs' he).1];exact⟨a,by rw[hk.block _ (Array.getElem?_eq_some_iff.1 b).1 (h3 s' hs' s hs hd' hd he)];exact b⟩
 have pn:∀s'∈bs,s'.p≠s.q:=fun s' hs'=>by
  by_cases he:s'.p=s.p
  ·rw[he];exact fun e=>hqp e.symm
  exact(hap s' hs' he).2
 rw[aCk D (pn s1 hs1)]at hd1;rw[aCk D (pn s2 hs2)]at hd2;exact h3 s1 hs1 s2 hs2 hd1 hd2 hne
theorem Lays.full{W w:World}{bs:List Spec}{g:Nat→Nat}{D:Nat→Bool}(h:Lays W bs g D w)(s:Spec)(hs:s∈bs)(hp:D s.p=true)(hq:D s.q=true):W.heap.size≤g s.p∧w.heap[g s.p]? = some s.full:=by
 obtain⟨a,b⟩:=h.ok s hs hp;rw[hq]at b;exact⟨a,b⟩
theorem Lays.zeroed{W w:World}{bs:List Spec}{g:Nat→Nat}{D:Nat→Bool}(h:Lays W bs g D w)(s:Spec)(hs:s∈bs)(hp:D s.p=true)(hq:D s.q=false):W.heap.size≤g s.p∧w.heap[g s.p]? = some s.zero:=by
 obtain⟨a,b⟩:=h.ok s hs hp;rw[hq]at b;exact⟨a,b⟩
def aD8(ops:Array Oper):Nat→Nat→Nat→Bool
 | 0,_,_=>false
 | d+1,i,j=>match ops[i]? with
  | some o=>o.after.any fun e=>Region.binds .any e && (e.on==j || aD8 ops d e.on j)
  | none=>false
theorem aBp{ops:Array Oper}{D:Nat→Bool}(hC:aCj ops D){j:Nat}(hj:D j=false):∀(d i:Nat),aD8 ops d i j=true→D i=false
 | 0,i,h=>by simp[aD8]at h
 | d+1,i,h=>by
  unfold aD8 at h;split at h
  ·rename_i o ho;obtain⟨e,he,hb⟩:=Array.any_eq_true'.1 h;simp only[Bool.and_eq_true,Bool.or_eq_true,beq_iff_eq]at hb
   by_cases hi:D i=true
   ·exfalso;have hw:=hC i o ho hi e he hb.1;rcases hb.2 with h2|h2
    ·rw[h2,hj]at hw;cases hw
    rw[aBp hC hj d e.on h2]at hw;cases hw
   simpa using hi
  cases h
theorem aBl{ops:Array Oper}{D:Nat→Bool}(hC:aCj ops D){o:Oper}(hw:aCp D o){d j:Nat}(h:(o.after.any fun e=>Region.binds .any e && (e.on==j || aD8 ops d e.on j))=true):D j=true:=by
 obtain⟨e,he,hb⟩:=Array.any_eq_true'.1 h;simp only[Bool.and_eq_true,Bool.or_eq_true,beq_iff_eq]at hb;have h1:=hw e he hb.1;rcases hb.2 with h2|h2
 ·rw[←h2];exact h1
 by_cases hj:D j=true
 ·exact hj
 rw[aBp hC (by simpa using hj) d e.on h2]at h1;cases h1
theorem aDr{n:Nat}(ops:Array Oper)(vals:(Nat→Nat)→List Value)(g:Nat→Nat)(p a d:Nat){D:Nat→Bool}(hC:aCj ops D)(hp:D p=false)
  (h:∀j,j<n→(j=p∨aD8 ops d j p=true)∨(vals g).getD j undef=(vals (upd g p a)).getD j undef):∀j,j<n→D j=true→(vals g).getD j undef=(vals (upd g p a)).getD j undef:=by
 intro j hj hD;rcases h j hj with(rfl|h)|h
 ·rw[hp]at hD;cases hD
 ·rw[aBp hC hp d j h]at hD;cases hD
 exact h
theorem aAq{w:World}(g:Nat)(cs:Array Value):Keep (·=g) w (w.setRow g cs):=
 ⟨rfl,rfl,rfl,by simp[World.setRow],fun k _ hk=>setRow_other w g k cs (fun e=>hk e)⟩
section
variable{P:Program}{ops:Array Oper}{Q:Exit→Act→World→Prop}{a:Act}
theorem aBq{id:Nat}{w:World}(hm:P.follows .mixedOrders=true)(n d:Nat)(vals:List Value)(S:World→Prop)(hok:aBn ops=true)(hsz:ops.size=n+1)
  (hlast:(List.range n).all (fun j=>aD8 ops d n j)=true)(h0:S w.drew)
  (h:∀af,puts (fun i=>vals.getD i undef) 0 ops.toList a=af→aAv P ops af S (ops.toList.take n)∧∀w',S w'→OpTo P ops af (ops.toList.getD n default) w' (fun w''=>Q .normal af w'')):
  (Code.region id ops true).wp P Q a w:=by
 obtain⟨h1,h2⟩:=h _ rfl;refine wp_region_any hm ?_;have haf':frOf ops (fun i=>vals.getD i undef) (fun _=>true) a=puts (fun i=>vals.getD i undef) 0 ops.toList a:=aDh hok;have hfr:=aC3 ops (fun i=>vals.getD i undef) a
 have hz:(fun i=>(Array.replicate ops.size false).getD i false)=fun _=>false:=by
  funext i;simp[Array.getD_eq_getD_getElem?,Array.getElem?_replicate];split <;> rfl
 have key:=aE4 (P:=P) (Q:=Q) (val:=fun i=>vals.getD i undef) (a:=a) (I:=fun D w'=>if D n=true then Q .normal (puts (fun i=>vals.getD i undef) 0 ops.toList a) w' else S w') hm hok
  (fun i o ho D w' hDi hw hc hI=>by
   rw[haf']
   have hi:i<ops.size:=by
    rcases Nat.lt_or_ge i ops.size with h'|h'
    ·exact h'
    simp[Array.getElem?_eq_none h']at ho
   by_cases hin:i=n
   ·subst hin;rw[hDi]at hI;simp only[ins,beq_self_eq_true,Bool.true_or,if_true];have h3:=h2 w' hI
    rwa [List.getD_eq_getElem?_getD,Array.getElem?_toList,ho]at h3
   have hDn:D n=false:=aBp hc hDi d n (List.all_eq_true.1 hlast i (by simp;omega));rw[hDn]at hI;have:(ins i D) n=false:=by simp[ins,hDn];omega
   simp only[this];exact h1.at (i:=i) (by rw[List.getElem?_take];simp[show i<n by omega,ho]) w' hI)
  (fun D w' hall hI=>by
   rw[haf']
   rwa [if_pos (hall n (by omega))]at hI)
  ops.size (Array.replicate ops.size false) w.drew (by simp) (by simp) (fun j o ho hj=>by
   simp[Array.getD_eq_getD_getElem?,Array.getElem?_replicate]at hj;split at hj <;> simp at hj) (by
   have:(Array.replicate ops.size false).getD n false=false:=by simp[Array.getD_eq_getD_getElem?,Array.getElem?_replicate];split <;> rfl
   show if(Array.replicate ops.size false).getD n false=true then _ else S w.drew
   rw[this];exact h0)
 rw[hz,hfr]at key;exact key
end
theorem aB1{P:Program}{w w':World}{o:Oper}{a:Act}{K:Act→World→Prop}{Q:Exit→Act→World→Prop}(t:TypeId)(m x v:Operand)(ho:o.op=.mapUpdate t m x v){mv xv vv:Value}
  (hm:a.eval m=mv)(hx:a.eval x=xv)(hv:a.eval v=vv)(hr:(Instr.mapUpdate t mv xv vv).run P w=.ok () w')(h:K (a.put o.dst undef) w'):o.wp P a w K Q:=by
 unfold Oper.wp;simp only[execOp,ho,hm,hx,hv,Sem.run_bind,hr,Result.andThen_ok];exact h
theorem aG6{P:Program}{w w':World}{o:Oper}{a:Act}{K:Act→World→Prop}{Q:Exit→Act→World→Prop}(m x:Operand)(t k:TypeId){mv xv:Value}
  (ho:o.op=.call { callee:=.builtin .delete,args:=#[m,x],argTypes:=#[t,k] })(hm:a.eval m=mv)(hx:a.eval x=xv)
  (hr:(Builtin.delete_ #[t,k] o.type #[mv,xv]).run P w=.ok (.tuple #[]) w')(h:K (a.put o.dst (.tuple #[])) w'):o.wp P a w K Q:=by
 unfold Oper.wp execOp;simp only[ho,resolve,invoke,builtin,Sem.run_bind,Sem.run_pure,Result.andThen_ok,List.map_toArray,List.map_cons,List.map_nil,hm,hx,hr];exact h
def Once(c:Nat)(S T:World→Prop)(D:Nat→Bool)(w:World):Prop:=(D c=false→S w)∧(D c=true→T w)
theorem Once.start{c:Nat}{S T:World→Prop}{w:World}(h:S w):Once c S T (fun _=>false) w:=⟨fun _=>h,fun h=>(Bool.false_ne_true h).elim⟩
theorem Once.pre{c:Nat}{S T:World→Prop}{D:Nat→Bool}{w:World}(h:Once c S T D w)(hn:D c=false):S w:=h.1 hn
theorem Once.post{c:Nat}{S T:World→Prop}{D:Nat→Bool}{w:World}(h:Once c S T D w)(hn:D c=true):T w:=h.2 hn
theorem pAE{c:Nat}{S T:World→Prop}{D:Nat→Bool}{w:World}{k:Nat}(hk:k≠c)(hn:D c=false)(h:S w):Once c S T (ins k D) w:=by
 have e:ins k D c=D c:=by simp[ins,Ne.symm hk]
 exact⟨fun _=>h,fun d=>(by rw[e,hn]at d;cases d)⟩
theorem pAF{c:Nat}{S T:World→Prop}{D:Nat→Bool}{w:World}{k:Nat}(hk:k≠c)(hn:D c=true)(h:T w):Once c S T (ins k D) w:=by
 have e:ins k D c=D c:=by simp[ins,Ne.symm hk]
 exact⟨fun d=>(by rw[e,hn]at d;cases d),fun _=>h⟩
theorem Once.done{c:Nat}{S T:World→Prop}{D:Nat→Bool}{w:World}(h:T w):Once c S T (ins c D) w:=by
 have e:ins c D c=true:=by simp[ins]
 exact⟨fun d=>(by rw[e]at d;cases d),fun _=>h⟩
def aHs(ops:Array Oper)(m i:Nat):Nat:=match m.testBit i with
 | true=>match ops[i]? with
  | some o=>o.after.foldl (fun m e=>match Region.binds .any e with
   | true=>m ||| 2 ^ e.on
   | false=>m) m
  | none=>m
 | false=>m
def need(ops:Array Oper)(c:Nat):Nat:=(List.range (c+1)).reverse.foldl (aHs ops) (2 ^ c)
theorem aKd{ops:Array Oper}{D:Nat→Bool}(hC:aCj ops D){m:Nat}(i:Nat)(hm:∀j,m.testBit j=true→D j=true):∀j,(aHs ops m i).testBit j=true→D j=true:=by
 intro j hj;unfold aHs at hj;split at hj
 ·rename_i hi;split at hj
  ·rename_i o ho;have hw:=hC i o ho (hm i hi);rw[←Array.foldl_toList]at hj
   have key:∀(l:List Edge) (m:Nat),(∀e∈l,e∈o.after)→(∀j,m.testBit j=true→D j=true)→∀j,(l.foldl (fun m e=>match Region.binds .any e with|true=>m ||| 2 ^ e.on|false=>m) m).testBit j=true→D j=true:=by
    intro l
    induction l with
    | nil=>intro m _ h j hj;exact h j hj
    | cons e r ih=>
     intro m he h j hj;rw[List.foldl_cons]at hj;refine ih _ (fun e' h'=>he e' (List.mem_cons_of_mem _ h')) ?_ j hj;intro j' hj';split at hj'
     ·rename_i hb;rw[Nat.testBit_or,Bool.or_eq_true]at hj';rcases hj' with hj'|hj'
      ·exact h j' hj'
      rw[Nat.testBit_two_pow,decide_eq_true_eq]at hj';subst hj';exact hw e (he e List.mem_cons_self) hb
     exact h j' hj'
   exact key _ m (fun e he=>by simpa using he) hm j hj
  exact hm j hj
 exact hm j hj
theorem aLi{ops:Array Oper}{D:Nat→Bool}(hC:aCj ops D){c:Nat}(hc:D c=true):∀j,(need ops c).testBit j=true→D j=true:=by
 have key:∀(l:List Nat) (m:Nat),(∀j,m.testBit j=true→D j=true)→∀j,(l.foldl (aHs ops) m).testBit j=true→D j=true:=by
  intro l
  induction l with
  | nil=>intro m h j hj;exact h j hj
  | cons i r ih=>intro m h j hj;exact ih _ (aKd hC i h) j hj
 refine key _ _ fun j hj=>?_
 rw[Nat.testBit_two_pow,decide_eq_true_eq]at hj;subst hj;exact hc
theorem aAa{ops:Array Oper}{D:Nat→Bool}(hC:aCj ops D){j:Nat}(hj:D j=false)(c:Nat)(h:(need ops c).testBit j=true):D c=false:=by
 cases hc:D c with
 | false=>rfl
 | true=>rw[aLi hC hc j h]at hj;cases hj
theorem aAk{ops:Array Oper}{D:Nat→Bool}(hC:aCj ops D){o:Oper}(hw:aCp D o){c:Nat}(h:(o.after.any fun e=>Region.binds .any e && (need ops e.on).testBit c)=true):D c=true:=by
 obtain⟨e,he,hb⟩:=Array.any_eq_true'.1 h;simp only[Bool.and_eq_true]at hb;exact aLi hC (hw e he hb.1) c hb.2
def aAr(n:Nat):Code→Option Code
 | .region i ops m=>match i==n with
  | true=>some (.region i ops m)
  | false=>none
 | .seq a b=>match aAr n a with
  | some c=>some c
  | none=>aAr n b
 | .cond _ a b=>match aAr n a with
  | some c=>some c
  | none=>aAr n b
 | .block _ c=>aAr n c
 | .scope c=>aAr n c
 | .loop c=>aAr n c
 | _=>none
section
variable{P:Program}{ops:Array Oper}{Q:Exit→Act→World→Prop}{a:Act}
theorem aE6{val:Nat→Value}{D:Nat→Bool}{o:Oper}{v v':Value}(h:(frOf ops val (fun _=>true) a).put o.dst v=(frOf ops val (fun _=>true) a).put o.dst v'):(frOf ops val D a).put o.dst v=(frOf ops val D a).put o.dst v':=by
 cases hd:o.dst with
 | none=>rfl
 | some d=>
  rw[hd]at h;simp only[Act.put]at h ⊢;have h1:=congrArg Act.tmps h;simp only at h1
  by_cases hs:d<a.tmps.size
  ·have h2:=congrArg (fun t=>t[d]?) h1;simp[frOf,hs]at h2;rw[h2]
  have hz:(frOf ops val D a).tmps.size≤d:=by simpa [frOf]using hs
  have e:∀x,(frOf ops val D a).tmps.setIfInBounds d x=(frOf ops val D a).tmps:=fun x=>Array.setIfInBounds_eq_of_size_le hz
  rw[e,e]
def LeftBy(af:Act)(o:Oper)(R:Value→World→Prop)(a':Act)(w':World):Prop:=∃v,a'=af.put o.dst v∧R v w'
def aF4(P:Program)(ops:Array Oper)(af:Act)(o:Oper)(w:World)(R:Value→World→Prop):Prop:=
 if Region.wanted o (yielded ops af.tmps)then o.wp P af w (fun a' w'=>LeftBy af o R a' w') (fun _ _ _=>False)else R undef w
theorem aF4.plain{af:Act}{o:Oper}{w:World}{R:Value→World→Prop}(hg:o.guard=none)(h:o.wp P af w (fun a' w'=>LeftBy af o R a' w') (fun _ _ _=>False)):aF4 P ops af o w R:=by
 unfold aF4;rw[if_pos (by simp[Region.wanted,hg])];exact h
theorem aF4.wpOp{val:Nat→Value}{i:Nat}{o:Oper}{D:Nat→Bool}{w:World}{R:Value→World→Prop}(ho:ops[i]? = some o)(hok:opOk ops i o=true)(hwt:aCp D o)
  (h:aF4 P ops (frOf ops val (fun _=>true) a) o w R){K:Act→World→Prop}(hK:∀v w',R v w'→K ((frOf ops val D a).put o.dst v) w'):
  Go.wpOp P ops Q i K (frOf ops val D a) w:=by
 obtain⟨he,hwd⟩:=aLg (val:=val) (a:=a) hok hwt;unfold aF4 at h;unfold Go.wpOp;simp only[ho,hwd];split
 ·rename_i hw;rw[if_pos hw]at h;refine .inl ?_;unfold Oper.wp at h ⊢;rw[he];generalize (execOp (frOf ops val (fun _=>true) a).eval o).run P w=r at h
  cases r with
  | ok n w'=>
   cases n <;> simp only[Oper.upon]at h ⊢
   case value v=>obtain⟨v',h1,h2⟩:=h;rw[aE6 h1];exact hK _ _ h2
   case skip=>obtain⟨v',h1,h2⟩:=h;rw[aE6 h1];exact hK _ _ h2
   case defer d=>
    obtain⟨v',h1,h2⟩:=h;have:=congrArg Act.defers h1;exfalso
    cases hdst:o.dst <;> rw[hdst]at this <;> simp only[Act.put]at this <;> exact absurd (congrArg List.length this) (by simp)
   case enter f args=>
    refine Calls.mono h fun e w'' hh=>?_
    cases e with
    | returned v=>simp only at hh ⊢;obtain⟨v',h1,h2⟩:=hh;rw[aE6 h1];exact hK _ _ h2
    | panicked c=>exact hh.elim
    | outgrown=>obtain⟨_,_,hh⟩:=hh;exact hh.elim
   case row row args=>
    refine Rows.mono h fun v w'' hh=>?_
    obtain⟨v',h1,h2⟩:=hh;rw[aE6 h1];exact hK _ _ h2
  | halt x w'=>
   cases x <;> simp only[Oper.upon]at h ⊢
 rename_i hw;rw[if_neg hw]at h;exact hK _ _ h
def OwesF{G:Type}(P:Program)(ops:Array Oper)(vals:G→Nat→Value)(AF:G→Act)(I:G→(Nat→Bool)→World→Prop)(k:Nat)(o:Oper)(g:G)(D:Nat→Bool)(w:World):Prop:=
 (∃g',(∀j,j<ops.size→D j=true→vals g j=vals g' j)∧OpTo P ops (AF g') o w (I g' (ins k D)))∨
  aF4 P ops (AF g) o w (fun v w'=>∃g',(∀j,j<ops.size→D j=true→vals g j=vals g' j)∧vals g' k=v∧I g' (ins k D) w')
theorem aMw{G:Type}{val:G→Nat→Value}{I:G→(Nat→Bool)→World→Prop}(hok:aBn ops=true)
  (hop:∀(i:Nat) (o:Oper),ops[i]? = some o→∀g D w,D i=false→aCp D o→aCj ops D→I g D w→OwesF P ops val (fun g=>frOf ops (val g) (fun _=>true) a) I i o g D w)
  (hend:∀g D w,(∀i,i<ops.size→D i=true)→I g D w→Q .normal (frOf ops (val g) (fun _=>true) a) w):
  ∀(fuel:Nat) (listed:Array Bool) (g:G) (w:World),listed.size=ops.size→fuel=(listed.toList.filter (! ·)).length→aCj ops (fun i=>listed.getD i false)→I g (fun i=>listed.getD i false) w→
   wpAny P .any ops Q fuel listed (frOf ops (val g) (fun i=>listed.getD i false) a) w:=by
 have fin:∀(listed:Array Bool) (g:G) (w:World),listed.size=ops.size→I g (fun i=>listed.getD i false) w→Region.ready .any ops listed=[]→
   Q .normal (frOf ops (val g) (fun i=>listed.getD i false) a) w:=by
  intro listed g w hsz hI hr;have hall:=aH1 hok hsz hr
  have hall':∀i,i<ops.size→listed.getD i false=true:=fun i hi=>by
   have:=hall i hi;have h4:i<listed.size:=by omega
   simpa [Array.getD_eq_getD_getElem?,Array.getElem?_eq_getElem h4]using this
  rw[aDf ops (val g) _ (fun _=>true) a (fun i hi=>hall' i hi)];exact hend g _ w hall' hI
 intro fuel
 induction fuel with
 | zero=>
  intro listed g w hsz hf hc hI
  have hz:∀i,i<ops.size→listed.getD i true=true:=by
   intro i hi;have h4:i<listed.size:=by omega
   have h5:listed[i]∈listed.toList:=by simp
   have h6:=List.filter_eq_nil_iff.1 (List.length_eq_zero_iff.1 hf.symm) _ h5;simp only[Array.getD_eq_getD_getElem?,Array.getElem?_eq_getElem h4,Option.getD_some];simpa using h6
  have hr:Region.ready .any ops listed=[]:=by
   unfold Region.ready;refine List.filter_eq_nil_iff.2 fun i hi=>?_
   have hi':i<ops.size:=by simpa using hi
   simp[hz i hi']
  exact⟨hr,fin listed g w hsz hI hr⟩
 | succ fuel ih=>
  intro listed g w hsz hf hc hI;refine⟨fin listed g w hsz hI,fun i hi=>?_⟩;obtain⟨hun,o,ho,hall⟩:=mem_ready.1 hi
  have hisz:i<listed.size:=by
   rcases Nat.lt_or_ge i listed.size with h'|h'
   ·exact h'
   simp[Array.getElem?_eq_none h']at hun
  have hun':listed.getD i false=false:=by simpa [Array.getD_eq_getD_getElem?,Array.getElem?_eq_getElem hisz]using hun
  have hwt:aCp (fun i=>listed.getD i false) o:=fun e he hb=>hall e he hb
  have heq:(ins i fun i=>listed.getD i false)=fun j=>(listed.setIfInBounds i true).getD j false:=by
   funext j
   simp only[ins,Array.getD_eq_getD_getElem?]
   by_cases hji:j=i
   ·subst hji;simp[Array.getElem?_setIfInBounds_self_of_lt hisz]
   rw[Array.getElem?_setIfInBounds_ne (Ne.symm hji)];simp[hji]
  have next:∀g' w',I g' (ins i fun i=>listed.getD i false) w'→wpAny P .any ops Q fuel (listed.setIfInBounds i true) (frOf ops (val g') (ins i fun i=>listed.getD i false) a) w':=by
   intro g' w' hw';rw[heq]at hw' ⊢;refine ih _ g' w' (by simpa using hsz) ?_ ?_ hw'
   ·have hlen:((listed.setIfInBounds i true).toList.filter (! ·)).length+1=(listed.toList.filter (! ·)).length:=by
     simp only[Array.toList_setIfInBounds]
     have hfa:listed.toList[i]? = some false:=by
      simp only[Array.getD_eq_getD_getElem?,Array.getElem?_eq_getElem hisz,Option.getD_some]at hun;simp[hisz,hun]
     exact aE3 _ _ hfa
    omega
   intro j oj hoj hj e he hb;rw[←heq]at hj ⊢;simp only[ins,Bool.or_eq_true,beq_iff_eq]at hj ⊢;rcases hj with rfl|hj
   ·rw[ho]at hoj;cases hoj;exact .inr (hwt e he hb)
   exact .inr (hc j oj hoj hj e he hb)
  have hd:∀d,o.dst=some d→aCo ops d=some i:=by
   intro d hd;have:=aB0 hok ho;simp only[opOk,Bool.and_eq_true,hd,beq_iff_eq]at this;exact this.1.1.1
  rcases hop i o ho g _ w hun' hwt hc hI with⟨g',hag,hop'⟩|hop'
  ·rw[aH2 ops (val g) (val g') _ a hag];exact OpTo.wpOp ho (aB0 hok ho) hwt hop' fun w' hw'=>next g' w' hw'
  refine aF4.wpOp ho (aB0 hok ho) hwt hop' fun v w' hv=>?_
  obtain⟨g',hag,hv,hI'⟩:=hv;rw[aH2 ops (val g) (val g') _ a hag,←hv,aD6 ho hd (aLh hok ho)];exact next g' w' hI'
def EachF{G:Type}(P:Program)(ops:Array Oper)(vals:G→List Value)(AF:G→Act)(I:G→(Nat→Bool)→World→Prop):Nat→List Oper→Prop
 | _,[]=>True
 | k,o::r=>(∀g D w',D k=false→aCp D o→aCj ops D→I g D w'→OwesF P ops (fun g i=>(vals g).getD i undef) AF I k o g D w')∧EachF P ops vals AF I (k+1) r
theorem EachF.at{G:Type}{vals:G→List Value}{AF:G→Act}{I:G→(Nat→Bool)→World→Prop}:∀{l:List Oper} {k:Nat},EachF P ops vals AF I k l→∀{i:Nat} {o:Oper},l[i]? = some o→∀g D w',D (k+i)=false→aCp D o→aCj ops D→I g D w'→
   OwesF P ops (fun g i=>(vals g).getD i undef) AF I (k+i) o g D w'
 | [],_,_,i,o,h=>by simp at h
 | o::r,k,h,0,o',ho=>by simp at ho;subst ho;exact h.1
 | o::r,k,h,i+1,o',ho=>by
  have:=EachF.at h.2 (i:=i) (by simpa using ho)
  rwa [show k+(i+1)=k+1+i by omega]
theorem aLj{id:Nat}{w:World}(hm:P.follows .mixedOrders=true){G:Type}(vals:G→List Value)(I:G→(Nat→Bool)→World→Prop)(hok:aBn ops=true)(g0:G)(h0:I g0 (fun _=>false) w.drew)
  (h:∀AF:G→Act,(∀g,puts (fun i=>(vals g).getD i undef) 0 ops.toList a=AF g)→
   EachF P ops vals AF I 0 ops.toList∧∀g D w',(∀i,i<ops.size→D i=true)→I g D w'→Q .normal (AF g) w'):
  (Code.region id ops true).wp P Q a w:=by
 obtain⟨h1,h2⟩:=h _ (fun _=>rfl);refine wp_region_any hm ?_;have haf':∀g,frOf ops (fun i=>(vals g).getD i undef) (fun _=>true) a=puts (fun i=>(vals g).getD i undef) 0 ops.toList a:=fun g=>aDh hok
 have hz:(fun i=>(Array.replicate ops.size false).getD i false)=fun _=>false:=by
  funext i;simp[Array.getD_eq_getD_getElem?,Array.getElem?_replicate];split <;> rfl
 have hfun:(fun g=>frOf ops (fun i=>(vals g).getD i undef) (fun _=>true) a)=fun g=>puts (fun i=>(vals g).getD i undef) 0 ops.toList a:=funext haf'
 have key:=aMw (P:=P) (Q:=Q) (val:=fun g i=>(vals g).getD i undef) (a:=a) (I:=I) hok
  (fun i o ho g D w' hDi hw hc hI=>by
   have:=h1.at (i:=i) (o:=o) (by simpa using ho) g D w' (by simpa using hDi) hw hc hI;rw[hfun];simpa using this)
  (fun g D w' hall hI=>by rw[haf' g];exact h2 g D w' hall hI)
  ops.size (Array.replicate ops.size false) g0 w.drew (by simp) (by simp) (fun j o ho hj=>by
   simp[Array.getD_eq_getD_getElem?,Array.getElem?_replicate]at hj;split at hj <;> simp at hj) (by rw[hz];exact h0)
 have hfr:=aC3 ops (fun i=>(vals g0).getD i undef) a;simp only[hz]at key;rw[hfr]at key;exact key
end
def aAs(w:World)(v:Value)(size n:Nat)(xs:List Value):Prop:=
 ∃(ao:Option Addr) (cap:Nat),v=.slice ao n cap∧n≤100000000∧xs.length=n*size∧(0<n→∃b off,ao=some ⟨b,off,none⟩∧b<w.heap.size∧∀j,j<n*size→w.cell? ⟨b,off+j,none⟩=xs[j]?)
theorem pAG{w:World}{base:Nat}{e:TypeId}{size:Nat}{v:Value}{n:Nat}{xs:List Value}(h:w.ownsRow base e size v n xs)(hn:n≤100000000):aAs w v size n xs:=by
 obtain⟨ao,cap,rfl,_,_,h3,h4⟩:=aAh h;refine⟨ao,cap,rfl,hn,h3,fun hp=>?_⟩;obtain⟨b,rfl,_,hb,hc,_⟩:=h4 hp;exact⟨b,0,rfl,hb,fun j hj=>by rw[Nat.zero_add];exact hc j hj⟩
theorem aAs.keep{S:Nat→Prop}{w w':World}{v:Value}{size n:Nat}{xs:List Value}(h:aAs w v size n xs)(k:Keep S w w')(hs:∀b,v.ownBlock=some b→¬S b):aAs w' v size n xs:=by
 obtain⟨ao,cap,rfl,h1,h2,h3⟩:=h;refine⟨ao,cap,rfl,h1,h2,fun hp=>?_⟩;obtain⟨b,off,rfl,hb,hc⟩:=h3 hp;exact⟨b,off,rfl,yM hb k.size,fun j hj=>by rw[k.cell (p:=⟨b,off+j,none⟩) hb (hs b rfl)];exact hc j hj⟩
theorem aAs.below{w w':World}{v:Value}{size n:Nat}{xs:List Value}(h:aAs w v size n xs)(k:Below w.heap.size w w'):aAs w' v size n xs:=
 h.keep (pAD (S:=fun _=>False) k) (fun _ _=>id)
theorem aDs{α:Type}{l m:List α}{k:Nat}(h:k<l.length)(hm:k<m.length)(he:l.take k=m.take k)(hx:l[k]=m[k]):l.take (k+1)=m.take (k+1):=by
 rw[List.take_succ_eq_append_getElem h,List.take_succ_eq_append_getElem hm,he,hx]
theorem aF5{w:World}{va vb:Value}{la lb:List Int}(ha:aAs w va 1 la.length (la.map (.int .u8)))(hb:aAs w vb 1 lb.length (lb.map (.int .u8))):
  Calls Tryz.prog 94 #[va,vb] w (yR w (.bool (decide (la=lb)))):=by
 obtain⟨ao,ca,rfl,a1,a2,a3⟩:=ha;obtain⟨bo,cb,rfl,b1,b2,b3⟩:=hb;have HA:=yH a3;have HB:=yH b3;clear a2 a3 b2 b3
 by_cases hlen:la.length=lb.length
 ·have L:=yH hlen;have hll:lb.length=la.length:=hlen.symm;rw[hll];clear hll hlen b1;go_enter Tryz.func94,Tryz.ntmps94;go_wp2
  go_loopw [5] (fun i wr=>∃k:Nat,k≤la.length∧i=.int .i64 k∧Hid (la.take k=lb.take k)∧Below w.heap.size w wr) (fun i _=>la.length - (intOf i).toNat)
  case atStart=>exact⟨0,Nat.zero_le _,rfl,yH (by simp),yZ⟩
  obtain⟨k,hk,rfl,ht,hbl⟩:=hrel;have BL:=yH hbl
  by_cases hkl:k<la.length
  ·have hkb:k<lb.length:=by have:=L.o;omega
   obtain⟨b1,o1,rfl,hlt1,hc1⟩:=HA.o (by omega);obtain⟨b2,o2,rfl,hlt2,hc2⟩:=HB.o (by omega);have HC1:=yH (fun j (hj:j<la.length*1)=>(hbl.cell (p:=⟨b1,o1+j,none⟩) hlt1).trans (hc1 j hj));have HC2:=yH (fun j (hj:j<lb.length*1)=>(hbl.cell (p:=⟨b2,o2+j,none⟩) hlt2).trans (hc2 j hj));have d1:wr.cell? ⟨b1,o1+k,none⟩=some (.int .u8 la[k]):=by rw[HC1.o k (by omega)];simp[hkl]
   have d2:wr.cell? ⟨b2,o2+k,none⟩=some (.int .u8 lb[k]):=by rw[HC2.o k (by omega)];simp[hkb]
   have hz1:b1<wr.heap.size:=yM hlt1 hbl.size;have hz2:b2<wr.heap.size:=yM hlt2 hbl.size
   have NE:=yH (fun(he:la[k]≠lb[k])=>show decide (la=lb)=false by
    rw[decide_eq_false_iff_not];rintro rfl;exact he rfl)
   have EQ:=yH (fun(he:la[k]=lb[k])=>aDs hkl hkb ht.out he);clear hc1 hc2 HC1 HC2 hbl;generalize la[k]=x at *;generalize lb[k]=y at *
   by_cases he:x=y
   ·subst he;go_wp2
    go_region
    all_goals
     go_wp2;go_roundw
     case rel=>exact⟨k+1,by omega,by go_num,yH (EQ.o (by first|exact rfl|trivial)),by first|exact BL.o.drew|exact BL.o⟩
     case measure=>simp[intOf];omega
   have q:(x==y)=false:=by simp[he]
   have E:=yH (NE.o he);clear he NE EQ;go_wp2
   go_region
   all_goals
    go_wp2;go_ret;exact⟨by rw[E.o];rfl,by first|exact BL.o.drew|exact BL.o⟩
  have E:=yH (show decide (la=lb)=true by
   have h1:=ht.out;rw[List.take_of_length_le (by omega),List.take_of_length_le (by have:=L.o;omega)]at h1;rw[decide_eq_true_eq];exact h1)
  go_wp2;go_ret;exact⟨by rw[E.o];rfl,BL.o⟩
 have E:=yH (show decide (la=lb)=false by rw[decide_eq_false_iff_not];rintro rfl;exact hlen rfl);have q:((la.length:Int)==(lb.length:Int))=false:=by simp;omega
 clear hlen;go_enter Tryz.func94,Tryz.ntmps94;go_wp2;go_ret;exact⟨by rw[E.o];rfl,yZ⟩
theorem ln_parts(x y:Ln):(x=y)∨(x≠y∧(x.cr==y.cr)=false)∨(x≠y∧(x.cr==y.cr)=true∧(x.de==y.de)=false)∨(x≠y∧(x.cr==y.cr)=true∧(x.de==y.de)=true∧(x.cu==y.cu)=false)∨(x≠y∧(x.cr==y.cr)=true∧(x.de==y.de)=true∧(x.cu==y.cu)=true∧(x.li==y.li)=false)∨(x≠y∧(x.cr==y.cr)=true∧(x.de==y.de)=true∧(x.cu==y.cu)=true∧(x.li==y.li)=true∧(x.db==y.db)=false):=by
 obtain⟨a,b,c,d,e⟩:=x;obtain⟨a',b',c',d',e'⟩:=y
 by_cases h1:a=a' <;> by_cases h2:b=b' <;> by_cases h3:c=c' <;> by_cases h4:d=d' <;> by_cases h5:e=e' <;> simp[h1,h2,h3,h4,h5]
theorem aG7{w:World}{va vb:Value}{la lb:List Ln}(ha:aAs w va 5 la.length (aAd la))(hb:aAs w vb 5 lb.length (aAd lb)):
  Calls Tryz.prog 95 #[va,vb] w (yR w (.bool (decide (la=lb)))):=by
 obtain⟨ao,ca,rfl,a1,a2,a3⟩:=ha;obtain⟨bo,cb,rfl,b1,b2,b3⟩:=hb;have HA:=yH a3;have HB:=yH b3;clear a2 a3 b2 b3
 by_cases hlen:la.length=lb.length
 ·have L:=yH hlen;have hll:lb.length=la.length:=hlen.symm;rw[hll];clear hll hlen b1;go_enter Tryz.func95,Tryz.ntmps95;go_wp2
  go_loopw [5] (fun i wr=>∃k:Nat,k≤la.length∧i=.int .i64 k∧Hid (la.take k=lb.take k)∧Below w.heap.size w wr) (fun i _=>la.length - (intOf i).toNat)
  case atStart=>exact⟨0,Nat.zero_le _,rfl,yH (by simp),yZ⟩
  obtain⟨k,hk,rfl,ht,hbl⟩:=hrel;have BL:=yH hbl
  by_cases hkl:k<la.length
  ·have hkb:k<lb.length:=by have:=L.o;omega
   obtain⟨b1,o1,rfl,hlt1,hc1⟩:=HA.o (by omega);obtain⟨b2,o2,rfl,hlt2,hc2⟩:=HB.o (by omega);have HC1:=yH (fun j (hj:j<la.length*5)=>(hbl.cell (p:=⟨b1,o1+j,none⟩) hlt1).trans (hc1 j hj));have HC2:=yH (fun j (hj:j<lb.length*5)=>(hbl.cell (p:=⟨b2,o2+j,none⟩) hlt2).trans (hc2 j hj))
   have d0:wr.cell? ⟨b1,o1+k*5,none⟩=some (.int .u8 la[k].cr):=by
    have q1:=HC1.o (k*5+0) (by omega);rw[aAp la k 0 (by omega) hkl]at q1
    first|exact q1|(rw[←Nat.add_assoc]at q1;exact q1)
   have d1:wr.cell? ⟨b1,o1+k*5+1,none⟩=some (.int .u8 la[k].de):=by
    have q1:=HC1.o (k*5+1) (by omega);rw[aAp la k 1 (by omega) hkl]at q1
    first|exact q1|(rw[←Nat.add_assoc]at q1;exact q1)
   have d2:wr.cell? ⟨b1,o1+k*5+2,none⟩=some (.int .u8 la[k].cu):=by
    have q1:=HC1.o (k*5+2) (by omega);rw[aAp la k 2 (by omega) hkl]at q1
    first|exact q1|(rw[←Nat.add_assoc]at q1;exact q1)
   have d3:wr.cell? ⟨b1,o1+k*5+3,none⟩=some (.int .i64 la[k].li):=by
    have q1:=HC1.o (k*5+3) (by omega);rw[aAp la k 3 (by omega) hkl]at q1
    first|exact q1|(rw[←Nat.add_assoc]at q1;exact q1)
   have d4:wr.cell? ⟨b1,o1+k*5+4,none⟩=some (.int .i64 la[k].db):=by
    have q1:=HC1.o (k*5+4) (by omega);rw[aAp la k 4 (by omega) hkl]at q1
    first|exact q1|(rw[←Nat.add_assoc]at q1;exact q1)
   have f0:wr.cell? ⟨b2,o2+k*5,none⟩=some (.int .u8 lb[k].cr):=by
    have q1:=HC2.o (k*5+0) (by omega);rw[aAp lb k 0 (by omega) hkb]at q1
    first|exact q1|(rw[←Nat.add_assoc]at q1;exact q1)
   have f1:wr.cell? ⟨b2,o2+k*5+1,none⟩=some (.int .u8 lb[k].de):=by
    have q1:=HC2.o (k*5+1) (by omega);rw[aAp lb k 1 (by omega) hkb]at q1
    first|exact q1|(rw[←Nat.add_assoc]at q1;exact q1)
   have f2:wr.cell? ⟨b2,o2+k*5+2,none⟩=some (.int .u8 lb[k].cu):=by
    have q1:=HC2.o (k*5+2) (by omega);rw[aAp lb k 2 (by omega) hkb]at q1
    first|exact q1|(rw[←Nat.add_assoc]at q1;exact q1)
   have f3:wr.cell? ⟨b2,o2+k*5+3,none⟩=some (.int .i64 lb[k].li):=by
    have q1:=HC2.o (k*5+3) (by omega);rw[aAp lb k 3 (by omega) hkb]at q1
    first|exact q1|(rw[←Nat.add_assoc]at q1;exact q1)
   have f4:wr.cell? ⟨b2,o2+k*5+4,none⟩=some (.int .i64 lb[k].db):=by
    have q1:=HC2.o (k*5+4) (by omega);rw[aAp lb k 4 (by omega) hkb]at q1
    first|exact q1|(rw[←Nat.add_assoc]at q1;exact q1)
   have hz1:b1<wr.heap.size:=yM hlt1 hbl.size;have hz2:b2<wr.heap.size:=yM hlt2 hbl.size
   have NE:=yH (fun(he:la[k]≠lb[k])=>show decide (la=lb)=false by
    rw[decide_eq_false_iff_not];rintro rfl;exact he rfl)
   have EQ:=yH (fun(he:la[k]=lb[k])=>aDs hkl hkb ht.out he);clear hc1 hc2 HC1 HC2 hbl;generalize la[k]=x at *;generalize lb[k]=y at *;have hs:(x=y)∨(x≠y∧(x.cr==y.cr)=false)∨(x≠y∧(x.cr==y.cr)=true∧(x.de==y.de)=false)∨(x≠y∧(x.cr==y.cr)=true∧(x.de==y.de)=true∧(x.cu==y.cu)=false)∨(x≠y∧(x.cr==y.cr)=true∧(x.de==y.de)=true∧(x.cu==y.cu)=true∧(x.li==y.li)=false)∨(x≠y∧(x.cr==y.cr)=true∧(x.de==y.de)=true∧(x.cu==y.cu)=true∧(x.li==y.li)=true∧(x.db==y.db)=false):=ln_parts x y;rcases hs with rfl|⟨he,s1⟩|⟨he,s1,s2⟩|⟨he,s1,s2,s3⟩|⟨he,s1,s2,s3,s4⟩|⟨he,s1,s2,s3,s4,s5⟩
   ·clear NE;go_wp2
    go_region
    all_goals
     go_wp2;go_roundw
     case rel=>exact⟨k+1,by omega,by go_num,yH (EQ.o (by first|exact rfl|trivial)),by first|exact BL.o.drew|exact BL.o⟩
     case measure=>simp[intOf];omega
   ·have E:=yH (NE.o he);clear he NE EQ;go_wp2
    go_region
    all_goals
     go_wp2;go_ret;exact⟨by rw[E.o];rfl,by first|exact BL.o.drew|exact BL.o⟩
   ·have E:=yH (NE.o he);clear he NE EQ;go_wp2
    go_region
    all_goals
     go_wp2;go_ret;exact⟨by rw[E.o];rfl,by first|exact BL.o.drew|exact BL.o⟩
   ·have E:=yH (NE.o he);clear he NE EQ;go_wp2
    go_region
    all_goals
     go_wp2;go_ret;exact⟨by rw[E.o];rfl,by first|exact BL.o.drew|exact BL.o⟩
   ·have E:=yH (NE.o he);clear he NE EQ;go_wp2
    go_region
    all_goals
     go_wp2;go_ret;exact⟨by rw[E.o];rfl,by first|exact BL.o.drew|exact BL.o⟩
   have E:=yH (NE.o he);clear he NE EQ;go_wp2
   go_region
   all_goals
    go_wp2;go_ret;exact⟨by rw[E.o];rfl,by first|exact BL.o.drew|exact BL.o⟩
  have E:=yH (show decide (la=lb)=true by
   have h1:=ht.out;rw[List.take_of_length_le (by omega),List.take_of_length_le (by have:=L.o;omega)]at h1;rw[decide_eq_true_eq];exact h1)
  go_wp2;go_ret;exact⟨by rw[E.o];rfl,BL.o⟩
 have E:=yH (show decide (la=lb)=false by rw[decide_eq_false_iff_not];rintro rfl;exact hlen rfl);have q:((la.length:Int)==(lb.length:Int))=false:=by simp;omega
 clear hlen;go_enter Tryz.func95,Tryz.ntmps95;go_wp2;go_ret;exact⟨by rw[E.o];rfl,yZ⟩
theorem aCe{P:Program}(w:World)(t e:TypeId)(sz:Nat)(ht:P.underlying t=some (.slice e))(hs:(sizeOf e).run P w=.ok sz w)(b n cap:Nat)(h:n≤cap):
  (Instr.sliceAt t (.slice (some ⟨b,0,none⟩) n cap) none (some (.int .i64 n)) (some (.int .i64 n))).run P w=.ok (.slice (some ⟨b,0,none⟩) n n) w:=by
 have he:P.elem t=e:=by simp[Program.elem,ht]
 simp[Instr.sliceAt,Instr.slice,run_underlying ht,Instr.sliceBounds,run_sliceBound,hs,h,Result.andThen,Addr.add]
theorem aBc{P:Program}(w:World)(t e:TypeId)(sz:Nat)(ht:P.underlying t=some (.slice e))(hs:(sizeOf e).run P w=.ok sz w):
  (Instr.sliceAt t (.slice none 0 0) none (some (.int .i64 0)) (some (.int .i64 0))).run P w=.ok (.slice none 0 0) w:=by
 simp[Instr.sliceAt,Instr.slice,run_underlying ht,Instr.sliceBounds,run_sliceBound,hs,Result.andThen,Addr.add]
def aCz(w:World)(base:Nat)(e:TypeId)(size:Nat)(v:Value)(n:Nat)(xs:List Value):Prop:=
 xs.length=n*size∧((v=.slice none 0 0∧n=0)∨∃g cur,v=.slice (some ⟨g,0,none⟩) n n∧base≤g∧w.heap[g]? = some (.cells cur e (0,0))∧n≤maxLen∧n*size≤cur.size∧cur.toList.take (n*size)=xs)
theorem aCz.keep{S:Nat→Prop}{w w':World}{base:Nat}{e:TypeId}{size:Nat}{v:Value}{n:Nat}{xs:List Value}(h:aCz w base e size v n xs)(k:Keep S w w')(hs:∀b,v.ownBlock=some b→¬S b):aCz w' base e size v n xs:=by
 obtain⟨h1,h2⟩:=h;refine⟨h1,?_⟩;rcases h2 with h2|⟨g,cur,rfl,hb,hg,hr⟩
 ·exact .inl h2
 refine .inr ⟨g,cur,rfl,hb,?_,hr⟩;rw[k.block g (lt_of_block hg) (hs g rfl)];exact hg
theorem aCz.below{w w':World}{base:Nat}{e:TypeId}{size:Nat}{v:Value}{n:Nat}{xs:List Value}(h:aCz w base e size v n xs)(k:Below w.heap.size w w'):aCz w' base e size v n xs:=
 h.keep (pAD (S:=fun _=>False) k) (fun _ _=>id)
theorem aCz.base{w:World}{base b':Nat}{e:TypeId}{size:Nat}{v:Value}{n:Nat}{xs:List Value}(h:aCz w base e size v n xs)(hb:b'≤base):aCz w b' e size v n xs:=by
 obtain⟨h1,h2⟩:=h;refine⟨h1,?_⟩;rcases h2 with h2|⟨g,cur,hv,hg,hr⟩
 ·exact .inl h2
 exact .inr ⟨g,cur,hv,Nat.le_trans hb hg,hr⟩
theorem aCz.reads{w:World}{base:Nat}{e:TypeId}{size:Nat}{v:Value}{n:Nat}{xs:List Value}(h:aCz w base e size v n xs)(hn:n≤100000000):aAs w v size n xs:=by
 obtain⟨h1,h2⟩:=h;rcases h2 with⟨rfl,rfl⟩|⟨g,cur,rfl,_,hg,_,hc,ht⟩
 ·exact⟨none,0,rfl,by omega,h1,fun h=>by omega⟩
 refine⟨_,n,rfl,hn,h1,fun hp=>⟨g,0,rfl,lt_of_block hg,fun j hj=>?_⟩⟩;rw[Nat.zero_add];show w.cell? ⟨g,j,none⟩=_;simp only[World.cell?,hg,Option.isSome_none,Bool.false_eq_true,if_false];rw[←ht,List.getElem?_take_of_lt hj,Array.getElem?_toList]
def aF6(w:World)(base:Nat)(e:TypeId)(size n:Nat)(v:Value)(xs:List Value)(en:Ending)(w':World):Prop:=
 ∃v',en=.returned v'∧aCz w' base e size v' n xs∧v'.ownBlock=v.ownBlock∧w'=w
def aF7(w:World)(e:TypeId)(size n:Nat)(xs:List Value)(en:Ending)(w':World):Prop:=
 ∃v',en=.returned v'∧aCz w' w.heap.size e size v' n xs∧Below w.heap.size w w'
theorem aAs.src{w:World}{ao:Option Addr}{size n cap:Nat}{xs:List Value}(h:aAs w (.slice ao n cap) size n xs):∀ad,ao=some ad→∀j u,xs[j]? = some u→w.cell? (ad.add j)=some u:=by
 rintro ad rfl j u hu;obtain⟨ao',cap',hv,_,hlen,h3⟩:=h
 cases hv
 have hj:j<xs.length:=by
  obtain⟨hj,_⟩:=List.getElem?_eq_some_iff.1 hu;exact hj
 have hn:0<n:=by
  rcases Nat.eq_zero_or_pos n with rfl|hn
  ·omega
  exact hn
 obtain⟨b,off,e,_,hc⟩:=h3 hn
 cases e
 rw[Go.WideShapes.add_plain,hc j (by omega)];exact hu
theorem aAs.ofNone{w:World}{ao:Option Addr}{size n cap:Nat}{xs:List Value}(h:aAs w (.slice ao n cap) size n xs)(h0:ao=none→cap=0):ao=none→n=0∧cap=0:=by
 intro e;refine⟨?_,h0 e⟩;obtain⟨ao',cap',hv,_,_,h3⟩:=h
 cases hv
 rcases Nat.eq_zero_or_pos n with hn|hn
 ·exact hn
 obtain⟨b,off,e',_⟩:=h3 hn;rw[e]at e';cases e'
def aBd(w:World)(base g:Nat)(e:TypeId)(size n:Nat)(xs marks:List Value):Prop:=w.ownsRow base e size (.slice (some ⟨g,0,none⟩) (n+2) (n+2)) (n+2) (xs++marks)
theorem aBd.keep{S:Nat→Prop}{w w':World}{base g:Nat}{e:TypeId}{size n:Nat}{xs marks:List Value}(h:aBd w base g e size n xs marks)(k:Keep S w w')(hs:¬S g):aBd w' base g e size n xs marks:=
 aAw h k (fun b hb=>by cases hb;exact hs)
theorem aBd.below{w w':World}{base g:Nat}{e:TypeId}{size n:Nat}{xs marks:List Value}(h:aBd w base g e size n xs marks)(k:Below w.heap.size w w'):aBd w' base g e size n xs marks:=aAc h k
theorem aBd.cells{w:World}{base g:Nat}{e:TypeId}{size n:Nat}{xs marks:List Value}(h:aBd w base g e size n xs marks):g<w.heap.size∧∀j,j<(n+2)*size→w.cell? ⟨g,j,none⟩=(xs++marks)[j]? := by
 obtain⟨ao,cap,hv,_,_,_,hr⟩:=aAh h
 cases hv
 obtain⟨b,hb,_,hlt,hc,_⟩:=hr (by omega)
 cases hb
 exact⟨hlt,hc⟩
theorem aBd.reads{w:World}{base g:Nat}{e:TypeId}{size n:Nat}{xs marks:List Value}(h:aBd w base g e size n xs marks)(hn:n≤100000000)(hx:xs.length=n*size):aAs w (.slice (some ⟨g,0,none⟩) n (n+2)) size n xs:=by
 obtain⟨hlt,hc⟩:=h.cells;refine⟨_,_,rfl,hn,hx,fun _=>⟨g,0,rfl,hlt,fun j hj=>?_⟩⟩;rw[Nat.zero_add,hc j (by rw[Nat.add_mul];omega),List.getElem?_append_left (by omega)]
def aE7(w:World)(e:TypeId)(size n:Nat)(xs marks:List Value)(en:Ending)(w':World):Prop:=
 ∃g,en=.returned (.slice (some ⟨g,0,none⟩) n (n+2))∧w.heap.size≤g∧aBd w' w.heap.size g e size n xs marks∧Below w.heap.size w w'
structure Fw where
 fr:Int
 tt:Int
 am:Int
deriving DecidableEq
def Fw.vals(x:Fw):List Value:=[.int .u8 x.fr,.int .u8 x.tt,.int .i64 x.am]
theorem Fw.vals_len(x:Fw):x.vals.length=3:=rfl
def aBr(ls:List Fw):List Value:=ls.flatMap Fw.vals
def Fw.val(x:Fw):Value:=.agg #[.int .u8 x.fr,.int .u8 x.tt,.int .i64 x.am]
theorem aMx(ls:List Fw):(aBr ls).length=ls.length*3:=aE5 _ 3 Fw.vals_len ls
theorem aD9(ls:List Fw)(i j:Nat)(hj:j<3)(h:i<ls.length):(aBr ls)[i*3+j]? = ls[i].vals[j]? := by
 unfold aBr;rw[aD7 _ 3 Fw.vals_len ls i j hj,List.getElem?_eq_getElem h];rfl
structure Fw.Fits(x:Fw):Prop where
 fr:In8 x.fr
 tt:In8 x.tt
 am:In64 x.am
theorem info_fw:(Tryz.prog.info? 209).map (fun i=>(i.zero,i.size,i.bytes))=some (some (Fw.val ⟨0,0,0⟩),3,16):=by kernel_rfl
theorem aDk{P:Program}{w:World}(t ty e:TypeId){z:Value}{size bytes:Nat}
  (hi:(P.info? e).map (fun i=>(i.zero,i.size,i.bytes))=some (some z,size,bytes))(ht:P.underlying t=some (.slice e))(hzs:z.cells.size=size)(hsz:0<size)(hbs:bytes≤1000)
  (base:Nat)(v:Value)(n:Nat)(xs:List Value)(hown:w.ownsRow base e size v n xs)(h1:∀u∈xs,u.oneCell'=true)(hn:n≤100000):
  ∃v' w',(Builtin.append_ #[t,t] ty #[.slice none 0 0,v]).run P w=.ok v' w'∧w'.ownsRow w.heap.size e size v' n xs∧Below w.heap.size w w':=by
 obtain⟨i,hi1,hi2,hi3,hi4⟩:=info_parts hi;have h0:=World.ownsRow_nil w w.heap.size e size;obtain⟨ao,cap,rfl,c1,c2,c3,c4⟩:=aAh hown
 cases ao with
 | none=>
  have hz:n=0:=by
   rcases Nat.eq_zero_or_pos n with e|e
   ·exact e
   obtain⟨b,hb,_⟩:=c4 e;cases hb
  have hcap:cap=0:=by
   rcases hown.2 with⟨e,_⟩|⟨g,cap',cur,e,_⟩
   ·cases e;rfl
   cases e
  subst hz;subst hcap;have hxs:xs=[]:=List.eq_nil_of_length_eq_zero (by simpa using c3);subst hxs;exact⟨_,_,run_append_owned_none (P:=P) (w:=w) w.heap.size t ty e i size ht hi1 (.slice none 0 0) 0 [] h0,h0,yZ⟩
 | some ad=>
  have hcells:∀j u,xs[j]? = some u→w.cell? (ad.add j)=some u:=by
   intro j u hj;have hjl:j<xs.length:=(List.getElem?_eq_some_iff.1 hj).1
   have hp:0<n:=by
    rcases Nat.eq_zero_or_pos n with e|e
    ·subst e;rw[c3]at hjl;omega
    exact e
   obtain⟨b,hb,_,_,hc,_⟩:=c4 hp
   cases hb
   rw[Go.WideShapes.add_plain,Nat.zero_add,hc j (by omega)];exact hj
  have hbb:=Nat.mul_le_mul hn hbs;obtain⟨v',w',hr,h2,h3,_⟩:=run_append_own (P:=P) w w.heap.size t ty e i z size bytes ht hi1 hi2 hi3 hi4 hzs hsz (.slice none 0 0) 0 [] h0 ad n cap xs c3 hcells h1 (by unfold maxLen;omega) (by rw[Nat.zero_add];omega) yL;simp only[Nat.zero_add,List.nil_append]at h2;exact⟨v',w',hr,h2,(Below.refl w.heap.size w).grown h3 yL (fun k hk=>by cases hk)⟩
theorem aDt{P:Program}{w w':World}{o:Oper}{a:Act}{K:Act→World→Prop}{Q:Exit→Act→World→Prop}(x:Operand)(t:TypeId){v v':Value}
  (ho:o.op=.call { callee:=.builtin .append,args:=#[.const (.slice none 0 0),x],argTypes:=#[t,t] })(hx:a.eval x=v)
  (hr:(Builtin.append_ #[t,t] o.type #[.slice none 0 0,v]).run P w=.ok v' w')(h:K (a.put o.dst v') w'):o.wp P a w K Q:=by
 have hc:a.eval (.const (.slice none 0 0))=.slice none 0 0:=rfl;unfold Oper.wp execOp;simp only[ho,resolve,invoke,builtin,Sem.run_bind,Sem.run_pure,Result.andThen_ok,List.map_toArray,List.map_cons,List.map_nil,hc,hx,hr];exact h
theorem aF8{ops:Array Oper}{D:Nat→Bool}(hC:aCj ops D){j k:Nat}(hj:D j=false){o:Oper}(ho:ops[k]? = some o)(he:∃e∈o.after,Region.binds .any e=true∧e.on=j):D k=false:=by
 obtain⟨e,he,hb,hon⟩:=he
 by_cases h:D k=true
 ·have:=hC k o ho h e he hb;rw[hon,hj]at this;cases this
 simpa using h
structure RefG(w:World)(base g:Nat)(es:List Fw)(vl:Value):Prop where
 blk:Blk w g #[vl] 248
 ge:base≤g
 row:w.ownsRow base 209 3 vl es.length (aBr es)
def inP(p:Int):Prop:=1≤p∧p≤16
def updE(f:Int→Int→Int)(a b n p q:Int):Int:=if p=a∧q=b then n else f p q
structure GInv(f:Int→Int→Int)(B:Int):Prop where
 nn:∀p q,0≤f p q
 pair:∀p q,f p q+f q p≤B
 out:∀p q,¬(inP p∧inP q)→f p q=0
 self:∀p,f p p=0
theorem GInv.le{f:Int→Int→Int}{B:Int}(h:GInv f B)(p q:Int):f p q≤B:=by have:=h.pair p q;have:=h.nn q p;omega
theorem GInv.ends{f:Int→Int→Int}{B:Int}(h:GInv f B){p q:Int}(h0:0<f p q):inP p∧inP q∧p≠q:=by
 by_cases hi:inP p∧inP q
 ·refine⟨hi.1,hi.2,?_⟩;rintro rfl;have:=h.self p;omega
 have:=h.out p q hi;omega
def aFi(_ _:Int):Int:=0
theorem GInv.zero{B:Int}(h:0≤B):GInv aFi B:=⟨fun _ _=>Int.le_refl _,fun _ _=>by unfold aFi;omega,fun _ _ _=>rfl,fun _=>rfl⟩
def aBu(f:Int→Int→Int)(a b n p q:Int):Int:=if p=b∧q=a then f b a+n else if p=a∧q=b then f a b - n else f p q
theorem GInv.push{f:Int→Int→Int}{B:Int}(h:GInv f B){a b n:Int}(h1:1≤n)(h2:n≤f a b):GInv (aBu f a b n) B:=by
 obtain⟨ha,hb,hne⟩:=h.ends (p:=a) (q:=b) (by omega);have hba:=h.nn b a;refine⟨fun p q=>?_,fun p q=>?_,fun p q hi=>?_,fun p=>?_⟩
 ·unfold aBu;have:=h.nn p q;split
  ·omega
  split <;> omega
 ·have hp:=h.pair p q;have hab:=h.pair a b
  by_cases c1:p=b∧q=a
  ·obtain⟨rfl,rfl⟩:=c1;have e1:aBu f q p n p q=f p q+n:=by unfold aBu;rw[if_pos ⟨rfl,rfl⟩]
   have e2:aBu f q p n q p=f q p - n:=by unfold aBu;rw[if_neg (fun e=>hne e.1),if_pos ⟨rfl,rfl⟩]
   omega
  by_cases c2:p=a∧q=b
  ·obtain⟨rfl,rfl⟩:=c2;have e1:aBu f p q n p q=f p q - n:=by unfold aBu;rw[if_neg (fun e=>hne e.1),if_pos ⟨rfl,rfl⟩]
   have e2:aBu f p q n q p=f q p+n:=by unfold aBu;rw[if_pos ⟨rfl,rfl⟩]
   omega
  have e1:aBu f a b n p q=f p q:=by unfold aBu;rw[if_neg c1,if_neg c2]
  have e2:aBu f a b n q p=f q p:=by unfold aBu;rw[if_neg (fun e=>c2 ⟨e.2,e.1⟩),if_neg (fun e=>c1 ⟨e.2,e.1⟩)]
  omega
 ·unfold aBu;rw[if_neg (fun e=>hi ⟨by rw[e.1];exact hb,by rw[e.2];exact ha⟩),if_neg (fun e=>hi ⟨by rw[e.1];exact ha,by rw[e.2];exact hb⟩)];exact h.out p q hi
 unfold aBu;rw[if_neg (fun e=>hne (e.2.symm.trans e.1)),if_neg (fun e=>hne (e.1.symm.trans e.2))];exact h.self p
end Go.Proofs.YtngnfdnfpiiclaaGreat
