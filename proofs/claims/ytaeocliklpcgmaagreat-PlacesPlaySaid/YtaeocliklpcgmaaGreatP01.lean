/- Pieces of one proof. -/
import Derived.Test.YtaeocliklpcgmaaGreatRows
import Derived.WalkKit
import Derived.WalkSpells
import Derived.WalkLawsBesides
import Derived.Lib.Hide
import Derived.BigQuiet
import Derived.Deep.RegionHeld3
import Derived.Deep.QuietTactic
import Derived.Deep.DeepCutAuto
import Derived.Deep.DeepFit
import Derived.Orders
set_option linter.all false
set_option maxHeartbeats 64000000
set_option maxRecDepth 100000
namespace Go.Proofs.YtaeocliklpcgmaaGreat
open Go.RowKit
def Blk(w:World)(g:Nat)(cs:Array Value)(t:TypeId):Prop:=w.heap[g]? = some (.cells cs t (0,0))
theorem Blk.out{w:World}{g:Nat}{cs:Array Value}{t:TypeId}(h:Blk w g cs t):w.heap[g]? = some (.cells cs t (0,0)):=h
theorem Blk.lt{w:World}{g:Nat}{cs:Array Value}{t:TypeId}(h:Blk w g cs t):g<w.heap.size:=lt_of_block h
theorem Blk.cell{w:World}{g:Nat}{cs:Array Value}{t:TypeId}(h:Blk w g cs t)(i:Nat):w.cell? ⟨g,i,none⟩=cs[i]? := by
 unfold Blk at h;simp[World.cell?,h]
theorem Blk.frozen{w:World}{g:Nat}{cs:Array Value}{t:TypeId}(h:Blk w g cs t)(i:Nat):w.frozen? ⟨g,i,none⟩=false:=by
 unfold Blk at h;simp[World.frozen?,h]
theorem Blk.set{w:World}{g:Nat}{cs:Array Value}{t:TypeId}(h:Blk w g cs t)(i:Nat)(v:Value):Blk (w.setCell ⟨g,i,none⟩ v) g (cs.setIfInBounds i v) t:=by
 have hlt:=h.lt;have h':w.heap[g]=.cells cs t (0,0):=by unfold Blk at h;simpa [Array.getElem?_eq_getElem hlt]using h
 show(w.heap.modify g _)[g]? = _;rw[Array.getElem?_eq_getElem (by simpa using hlt),Array.getElem_modify_self,h'];rfl
theorem Blk.setOther{w:World}{g:Nat}{cs:Array Value}{t:TypeId}(h:Blk w g cs t){a:Addr}(ha:g≠a.block)(v:Value):Blk (w.setCell a v) g cs t:=by
 unfold Blk;rw[Below.heap_setCell _ _ _ _ ha];exact h
theorem Blk.alloc{w:World}{g:Nat}{cs:Array Value}{t:TypeId}(h:Blk w g cs t)(o:Obj):Blk (w.alloc o) g cs t:=by
 unfold Blk;rw[Below.heap_alloc _ _ _ h.lt];exact h
theorem Blk.drew{w:World}{g:Nat}{cs:Array Value}{t:TypeId}(h:Blk w g cs t):Blk w.drew g cs t:=h
theorem Blk.below{w w':World}{g B:Nat}{cs:Array Value}{t:TypeId}(h:Blk w g cs t)(hb:Below B w w')(hg:g<B):Blk w' g cs t:=by
 unfold Blk;rw[hb.block g hg];exact h
theorem pAA(w:World)(cs:Array Value)(t:TypeId):Blk (w.alloc (.cells cs t)) w.heap.size cs t:=by
 show(w.heap.push _)[w.heap.size]? = _;simp
theorem pAB{B:Nat}{w w':World}(h:Below B w.drew w'):Below B w w':=⟨h.os,h.tape,h.output,h.size,h.block⟩
theorem bcell{W w1:World}(hb:Below W.heap.size W w1):(∀b o,b<W.heap.size→w1.cell? ⟨b,o,none⟩=W.cell? ⟨b,o,none⟩)∧(∀b o,b<W.heap.size→w1.frozen? ⟨b,o,none⟩=W.frozen? ⟨b,o,none⟩):=
 ⟨fun b o h=>hb.cell (p:=⟨b,o,none⟩) h,fun b o h=>hb.frozen (p:=⟨b,o,none⟩) h⟩
theorem pAC(w:World)(cs:Array Value)(t:TypeId){g:Nat}(h:g=w.heap.size):Blk (w.alloc (.cells cs t)) g cs t:=by subst h;exact pAA w cs t
theorem aE7{P:Program}(d:Nat)(t e:TypeId)(n:Nat)(ht:P.underlying t=some (.array n e))(hsz:∀w,(sizeOf e).run P w=.ok 1 w)
  (hagg:∀w,(isAgg e).run P w=.ok false w)(xs ys:Array Value)(hx:xs.size=n)(hy:ys.size=n)(f:Nat→Bool)
  (heq:∀i x y w,xs[i]? = some x→ys[i]? = some y→(Op.equalIn d e x y).run P w=.ok (f i) w)(w:World):
  (Op.equalIn (d+1) t (.agg xs) (.agg ys)).run P w=.ok ((List.range n).all f) w:=by
 simp only[Op.equalIn,Sem.run_bind,run_underlying ht,Result.andThen_ok,hsz];simp only[Std.Legacy.Range.forIn_eq_forIn_range',Std.Legacy.Range.size,Nat.sub_zero,Nat.add_one_sub_one,Nat.div_one]
 have key:∀is:List Nat,(∀i∈is,i<n)→(forIn is ((none:Option Bool),()) fun i __s=>do
      let __do_lift ←part e xs (i*1)
      let __do_lift_1 ←part e ys (i*1)
      let __do_lift ←Op.equalIn d e __do_lift __do_lift_1
      if(!__do_lift)=true then pure (ForInStep.done (some false,()))else pure (ForInStep.yield (none,()))).run P w=.ok (if is.all f then((none:Option Bool),())else(some false,())) w:=by
  intro is
  induction is with
  | nil=>intro _;simp
  | cons j is ih=>
   intro hall;have hj:j<n:=hall j (by simp);have px:(part e xs (j*1)).run P w=.ok xs[j] w:=by simp[part,hagg,Nat.mul_one,Array.getElem?_eq_getElem (show j<xs.size by omega)]
   have py:(part e ys (j*1)).run P w=.ok ys[j] w:=by simp[part,hagg,Nat.mul_one,Array.getElem?_eq_getElem (show j<ys.size by omega)]
   have pe:=heq j xs[j] ys[j] w (Array.getElem?_eq_getElem (by omega)) (Array.getElem?_eq_getElem (by omega));simp only[List.forIn_cons,Sem.run_bind,px,py,pe,Result.andThen_ok]
   cases hf:f j
   ·simp[hf]
   simp only[Bool.not_true,Bool.false_eq_true,if_false,Sem.run_pure,Result.andThen_ok,ih (fun y hy=>hall y (by simp[hy])),List.all_cons,hf,Bool.true_and]
 rw[key _ (by intro i hi;simpa [List.mem_range']using hi),←List.range_eq_range']
 cases (List.range n).all f <;> simp
theorem andB{w w1 w2:World}(h:Below w.heap.size w w1)(k:Below w1.heap.size w1 w2):Below w.heap.size w w2:=
 h.trans (k.mono h.size)
def In64(n:Int):Prop := -9223372036854775808≤n∧n≤9223372036854775807
instance(n:Int):Decidable (In64 n):=inferInstanceAs (Decidable (_∧_))
def aDu(n:Int):Prop:=0≤n∧n<18446744073709551616
theorem aBi(n:Int):IntKind.u64.wrap n=n%18446744073709551616:=by
 simp[IntKind.wrap,IntKind.signed,IntKind.bits]
theorem aIs(n:Int):In64 (wrap64 n)∧wrap64 n%18446744073709551616=n%18446744073709551616:=by
 unfold wrap64 In64;simp[IntKind.wrap,IntKind.signed,IntKind.bits];omega
theorem aB4(n:Int)(h:In64 n):wrap64 n=n:=IntWalk.wrap64_in n h
theorem aG8(n:Int)(h:aDu n):IntKind.u64.wrap n=n:=by rw[aBi];unfold aDu at h;omega
theorem In64.of_wf{n:Int}(h:(Lit.int .i64 n).wf=true):In64 n:=by
 simp[Lit.wf,IntKind.min,IntKind.max,IntKind.signed,IntKind.bits]at h;unfold In64;omega
theorem aAh{P:Program}{fn:Func}{p u:Tmp}{ty:TypeId}(h:fn.results=#[.cell p ty,.tmp u])(tmps:Array Value)(w:World)(g:Nat)(t:TypeId)(cs:Array Value)(d:TypeDesc)(v:Value)
  (hp:tmps.getD p undef=.pointer (some ⟨g,0,none⟩))(hg:w.heap[g]? = some (.cells cs t (0,0)))
  (hu:P.underlying ty=some d)(hd:(match d with | .struct _ | .array _ _=>true|_=>false)=true)(hi:(P.info? ty).map (·.size)=some cs.size)(hv:tmps.getD u undef=v):
  (results fn tmps).run P w=.ok (.tuple #[.agg cs,v]) w:=by
 have h1:=results_cell_row (P:=P) (fn:={ fn with results:=#[.cell p ty] }) rfl tmps w g t cs (0,0) d hp hg hu hd hi;rw[results_cell_tmp h]
 have h2:((asAddr (tmps.getD p undef)).run P w).andThen (fun a w₁=>(loadVar ty a).run P w₁)=.ok (.agg cs) w:=by
  simpa [results,Sem.run_bind,Result.andThen]using h1
 rw[hp]at h2 ⊢;simp only[asAddr,Sem.run_pure,Result.andThen_ok]at h2 ⊢;rw[h2];simp only[Result.andThen_ok,hv]
abbrev yR(w:World)(X:Value)(e:Ending)(w':World):Prop:=e=.returned X∧Below w.heap.size w w'
abbrev yS(w:World)(X:Value)(e:Ending)(w':World):Prop:=e=.returned X∧w=w'
abbrev yV(w:World)(X:Value)(e:Ending)(w':World):Prop:=e=.returned X∧w'=w
theorem yH{p:Prop}(h:p):Hid p:=h
theorem yB{w w':World}{g:Nat}{cs:Array Value}{t:TypeId}(h:Hid (Blk w g cs t))(k:Below w.heap.size w w'):Hid (Blk w' g cs t):=Blk.below h k (Blk.lt h)
theorem yT{a w w':World}(h:Hid (Below a.heap.size a w))(k:Below w.heap.size w w'):Hid (Below a.heap.size a w'):=h.out.trans (k.mono h.out.size)
theorem yA{A:Type}{a d:A}{l:List A}:(a::l).getD 0 d=a:=List.getD_cons_zero
theorem yC{A:Type}{a d:A}{l:List A}{n:Nat}:(a::l).getD (n+1) d=l.getD n d:=List.getD_cons_succ
theorem yD{A:Type}{a x:A}{l:List A}{n:Nat}:(a::l).set (n+1) x=a::l.set n x:=List.set_cons_succ
theorem yE{A:Type}{a x:A}{l:List A}:(a::l).set 0 x=x::l:=List.set_cons_zero
theorem yF{A:Type}{a:A}{l:List A}{n:Nat}:l.toArray.setIfInBounds n a=(l.set n a).toArray:=List.setIfInBounds_toArray _ _ _
theorem yG{A:Type}{l:List A}:l.toArray.toList=l:=List.toList_toArray
theorem yI{A:Type}{a b:A}{l:List A}:a∈b::l↔a=b∨a∈l:=List.mem_cons
theorem yJ{A:Type}{a:A}:¬a∈([]:List A):=by simp
theorem yL{n:Nat}:n≤n:=Nat.le_refl n
theorem yM{a b c:Nat}(h:a<b)(k:b≤c):a<c:=Nat.lt_of_lt_of_le h k
theorem yZ{B:Nat}{w:World}:Below B w w:=Below.refl _ _
def aDj(ops:Array Oper)(s:Nat):Option Nat:=(List.range ops.size).find? fun i=>(ops[i]?).bind (·.dst)==some s
def frOf(ops:Array Oper)(val:Nat→Value)(D:Nat→Bool)(a:Act):Act:=
 { a with tmps:=Array.ofFn (n:=a.tmps.size) fun s=>match aDj ops s with|some i=>if D i then val i else a.tmps[s]|none=>a.tmps[s] }
def ins(i:Nat)(D:Nat→Bool):Nat→Bool:=fun j=>j==i || D j
theorem aEa{ops:Array Oper}{s i:Nat}(h:aDj ops s=some i):i<ops.size∧(ops[i]?).bind (·.dst)=some s:=by
 unfold aDj at h;have h1:=List.find?_some h;have h2:=List.mem_of_find?_eq_some h;exact⟨by simpa using h2,by simpa using h1⟩
theorem aDk(ops:Array Oper)(val:Nat→Value)(a:Act):frOf ops val (fun _=>false) a=a:=by
 obtain⟨t,d⟩:=a;simp only[frOf];congr 1;apply Array.ext
 ·simp
 intro i h1 h2;simp only[Array.getElem_ofFn,Bool.false_eq_true,if_false];split <;> rfl
theorem aEi(ops:Array Oper)(val:Nat→Value)(D D':Nat→Bool)(a:Act)(h:∀i,i<ops.size→D i=D' i):frOf ops val D a=frOf ops val D' a:=by
 simp only[frOf];congr 2
 funext s
 split
 ·rename_i i hi;rw[h i (aEa hi).1]
 rfl
theorem aFo{ops:Array Oper}{val:Nat→Value}{D:Nat→Bool}{a:Act}{i:Nat}{o:Oper}(ho:ops[i]? = some o)(hd:∀d,o.dst=some d→aDj ops d=some i)
  {v:Value}(hv:(frOf ops val (fun _=>true) a).put o.dst v=frOf ops val (fun _=>true) a):(frOf ops val D a).put o.dst v=frOf ops val (ins i D) a:=by
 cases hdst:o.dst with
 | none=>
  simp only[Act.put];refine(congrArg (fun t=>({ a with tmps:=t }:Act)) ?_);apply Array.ext
  ·simp
  ·intro s h1 h2;simp only[Array.getElem_ofFn];split
   ·rename_i j hj;have:=(aEa hj).2
    by_cases hji:j=i
    ·subst hji;simp[ho,hdst]at this
    simp[ins,hji]
   ·rfl
 | some d=>
  have hw:=hd d hdst;rw[hdst]at hv;simp only[Act.put,frOf]at hv ⊢;have hv2:=congrArg Act.tmps hv;simp only at hv2;congr 1;apply Array.ext
  ·simp
  intro s h1 h2;simp only[Array.size_setIfInBounds,Array.size_ofFn]at h1;rw[Array.getElem_setIfInBounds (by simpa using h1)];simp only[Array.getElem_ofFn]
  by_cases hds:d=s
  ·subst hds;have h3:=congrArg (fun t:Array Value=>t[d]?) hv2;simp only[Array.getElem?_setIfInBounds_self_of_lt (show d<(Array.ofFn (n:=a.tmps.size) _).size by simpa using h1)]at h3;rw[Array.getElem?_ofFn]at h3;simp only[h1,dif_pos,hw,if_true,Option.some.injEq]at h3;simp[hw,ins,h3]
  rw[if_neg hds];split
  ·rename_i j hj
   have hji:j≠i:=by
    rintro rfl;have:=(aEa hj).2;rw[ho]at this;simp[hdst]at this;exact hds this
   simp[ins,hji]
  rfl
def aQy(ops:Array Oper)(o:Oper)(t:Tmp):Bool:=
 match aDj ops t with
 | some j=>o.after.any fun e=>e.on==j && Region.binds .any e
 | none=>true
def notSelect:Op→Bool
 | .select ..=>false
 | _=>true
def opOk(ops:Array Oper)(i:Nat)(o:Oper):Bool:=
 (match o.dst with|some d=>aDj ops d==some i|none=>true) && notSelect o.op && ((o.looksAt ops).all (aQy ops o)) &&
  (o.after.all fun e=>!Region.binds .any e || decide (e.on<i))
def aBz(ops:Array Oper):Bool:=(List.range ops.size).all fun i=>match ops[i]? with|some o=>opOk ops i o|none=>true
theorem aCr{ops:Array Oper}(h:aBz ops=true){i:Nat}{o:Oper}(ho:ops[i]? = some o):opOk ops i o=true:=by
 have hi:i<ops.size:=by
  rcases Nat.lt_or_ge i ops.size with h'|h'
  ·exact h'
  simp[Array.getElem?_eq_none h']at ho
 have:=List.all_eq_true.1 h i (by simpa using hi);simpa [ho]using this
def aDl(D:Nat→Bool)(o:Oper):Prop:=∀e∈o.after,Region.binds .any e=true→D e.on=true
def aC6(ops:Array Oper)(D:Nat→Bool):Prop:=∀(j:Nat) (o:Oper),ops[j]? = some o→D j=true→aDl D o
theorem aOu{ops:Array Oper}{val:Nat→Value}{D:Nat→Bool}{a:Act}{o:Oper}{t:Tmp}(hl:aQy ops o t=true)(hw:aDl D o):
  (frOf ops val D a).tmps[t]? = (frOf ops val (fun _=>true) a).tmps[t]? := by
 simp only[frOf,Array.getElem?_ofFn];split
 ·rename_i ht;congr 1;unfold aQy at hl
  cases hwr:aDj ops t with
  | none=>rfl
  | some j=>
   rw[hwr]at hl;simp only[Array.any_eq_true',Bool.and_eq_true,beq_iff_eq]at hl;obtain⟨e,he,hj,hb⟩:=hl;have:=hw e he hb;rw[hj]at this;simp[this]
 rfl
theorem aOv{ops:Array Oper}{val:Nat→Value}{D:Nat→Bool}{a:Act}{i:Nat}{o:Oper}(hok:opOk ops i o=true)(hw:aDl D o):
  execOp (frOf ops val D a).eval o=execOp (frOf ops val (fun _=>true) a).eval o∧
  Region.wanted o (yielded ops (frOf ops val D a).tmps)=Region.wanted o (yielded ops (frOf ops val (fun _=>true) a).tmps):=by
 simp only[opOk,Bool.and_eq_true]at hok;obtain⟨⟨⟨_,hsel⟩,hlook⟩,_⟩:=hok;rw[List.all_eq_true]at hlook
 constructor
 ·refine execOp_congr o (fun cs b h=>by rw[h]at hsel;cases hsel) fun x hx=>?_
  cases x with
  | tmp t=>
   have:=aOu (val:=val) (a:=a) (hlook t (List.mem_append_left _ (List.mem_filterMap.2 ⟨.tmp t,by simpa using hx,rfl⟩))) hw;simp only[Act.eval,Act.tmps,Frame.eval]at *;simp only[Array.getD_eq_getD_getElem?,this]
  | _=>rfl
 unfold Region.wanted
 cases hg:o.guard with
 | none=>rfl
 | some gw=>
  obtain⟨g,want⟩:=gw
  have hy:yielded ops (frOf ops val D a).tmps g=yielded ops (frOf ops val (fun _=>true) a).tmps g:=by
   unfold yielded
   cases ht:(ops[g]?).bind (·.dst)with
   | none=>rfl
   | some t=>
    have:=aOu (val:=val) (a:=a) (hlook t (by simp[Oper.looksAt,hg,ht])) hw;simp only[Option.bind_some,this]
  simp only[hy]
def OpTo(P:Program)(ops:Array Oper)(af:Act)(o:Oper)(w:World)(R:World→Prop):Prop:=
 if Region.wanted o (yielded ops af.tmps)then o.wp P af w (fun a' w'=>a'=af∧R w') (fun _ _ _=>False)else af.put o.dst undef=af∧R w
theorem aKm{ops:Array Oper}(hok:aBz ops=true){listed:Array Bool}(hl:listed.size=ops.size)(h:Region.ready .any ops listed=[]):
  ∀i,i<ops.size→listed.getD i true=true:=by
 intro i
 induction i using Nat.strongRecOn with
 | _ i ih=>
  intro hi
  by_cases hd:listed.getD i true=true
  ·exact hd
  exfalso;have ho:ops[i]? = some ops[i]:=Array.getElem?_eq_getElem hi;have hk:=aCr hok ho;simp only[opOk,Bool.and_eq_true]at hk
  have hmem:i∈Region.ready .any ops listed:=by
   unfold Region.ready;refine List.mem_filter.2 ⟨by simpa using hi,?_⟩;simp only[Bool.and_eq_true,ho,Option.map_some,Option.getD_some];refine⟨by simpa using hd,?_⟩;rw[Array.all_eq_true_iff_forall_mem];intro e he
   cases hb:Region.binds .any e with
   | false=>rfl
   | true=>
    have h2:=(Array.all_eq_true_iff_forall_mem.1 hk.2) e he;simp only[hb,Bool.not_true,Bool.false_or,decide_eq_true_eq]at h2;have h3:=ih e.on h2 (by omega);have h4:e.on<listed.size:=by omega
    simp only[Array.getD_eq_getD_getElem?,Array.getElem?_eq_getElem h4,Option.getD_some]at h3 ⊢;simp[h3]
  rw[h]at hmem
  cases hmem
section
variable{P:Program}{ops:Array Oper}{Q:Exit→Act→World→Prop}{val:Nat→Value}{a:Act}{I:(Nat→Bool)→World→Prop}
theorem OpTo.wpOp{i:Nat}{o:Oper}{D:Nat→Bool}{w:World}{R:World→Prop}(ho:ops[i]? = some o)(hok:opOk ops i o=true)(hwt:aDl D o)
  (h:OpTo P ops (frOf ops val (fun _=>true) a) o w R){K:Act→World→Prop}(hK:∀w',R w'→K (frOf ops val (ins i D) a) w'):
  wpOp P ops Q i K (frOf ops val D a) w:=by
 obtain⟨he,hwd⟩:=aOv (val:=val) (a:=a) hok hwt
 have hd:∀d,o.dst=some d→aDj ops d=some i:=by
  intro d hd;simp only[opOk,Bool.and_eq_true,hd,beq_iff_eq]at hok;exact hok.1.1.1
 unfold OpTo at h;unfold Go.wpOp;simp only[ho,hwd];split
 ·rename_i hw;rw[if_pos hw]at h;refine .inl ?_;unfold Oper.wp at h ⊢;rw[he];generalize (execOp (frOf ops val (fun _=>true) a).eval o).run P w=r at h
  cases r with
  | ok n w'=>
   cases n <;> simp only[Oper.upon]at h ⊢
   case value v=>rw[aFo ho hd h.1];exact hK _ h.2
   case skip=>rw[aFo ho hd h.1];exact hK _ h.2
   case defer d=>
    have:=congrArg Act.defers h.1;exfalso
    cases hdst:o.dst <;> rw[hdst]at this <;> simp only[Act.put]at this <;> exact absurd (congrArg List.length this) (by simp)
   case enter f args=>
    refine Calls.mono h fun e w'' hh=>?_
    cases e with
    | returned v=>simp only at hh ⊢;rw[aFo ho hd hh.1];exact hK _ hh.2
    | panicked c=>exact hh.elim
    | outgrown=>obtain⟨_,_,hh⟩:=hh;exact hh.elim
   case row row args=>
    refine Rows.mono h fun v w'' hh=>?_
    rw[aFo ho hd hh.1];exact hK _ hh.2
  | halt x w'=>
   cases x <;> simp only[Oper.upon]at h ⊢
 rename_i hw;rw[if_neg hw]at h;rw[aFo ho hd h.1];exact hK _ h.2
theorem aGu:∀(l:List Bool) (i:Nat),l[i]? = some false→((l.set i true).filter (! ·)).length+1=(l.filter (! ·)).length
 | [],_,h=>by simp at h
 | b::l,0,h=>by simp at h;subst h;simp
 | b::l,i+1,h=>by
  simp only[List.getElem?_cons_succ]at h;have:=aGu l i h;simp only[yD,List.filter_cons]
  cases b <;> simp <;> omega
theorem aE8(hm:P.follows .mixedOrders=true)(hok:aBz ops=true)
  (hop:∀(i:Nat) (o:Oper),ops[i]? = some o→∀D w,D i=false→aDl D o→aC6 ops D→I D w→OpTo P ops (frOf ops val (fun _=>true) a) o w (I (ins i D)))
  (hend:∀D w,(∀i,i<ops.size→D i=true)→I D w→Q .normal (frOf ops val (fun _=>true) a) w):
  ∀(fuel:Nat) (listed:Array Bool) (w:World),listed.size=ops.size→fuel=(listed.toList.filter (! ·)).length→aC6 ops (fun i=>listed.getD i false)→I (fun i=>listed.getD i false) w→
   wpAny P .any ops Q fuel listed (frOf ops val (fun i=>listed.getD i false) a) w:=by
 have fin:∀(listed:Array Bool) (w:World),listed.size=ops.size→I (fun i=>listed.getD i false) w→Region.ready .any ops listed=[]→
   Q .normal (frOf ops val (fun i=>listed.getD i false) a) w:=by
  intro listed w hsz hI hr;have hall:=aKm hok hsz hr
  have hall':∀i,i<ops.size→listed.getD i false=true:=fun i hi=>by
   have:=hall i hi;have h4:i<listed.size:=by omega
   simpa [Array.getD_eq_getD_getElem?,Array.getElem?_eq_getElem h4]using this
  rw[aEi ops val _ (fun _=>true) a (fun i hi=>hall' i hi)];exact hend _ w hall' hI
 intro fuel
 induction fuel with
 | zero=>
  intro listed w hsz hf hc hI
  have hz:∀i,i<ops.size→listed.getD i true=true:=by
   intro i hi;have h4:i<listed.size:=by omega
   have h5:listed[i]∈listed.toList:=by simp
   have h6:=List.filter_eq_nil_iff.1 (List.length_eq_zero_iff.1 hf.symm) _ h5;simp only[Array.getD_eq_getD_getElem?,Array.getElem?_eq_getElem h4,Option.getD_some];simpa using h6
  have hr:Region.ready .any ops listed=[]:=by
   unfold Region.ready;refine List.filter_eq_nil_iff.2 fun i hi=>?_
   have hi':i<ops.size:=by simpa using hi
   simp[hz i hi']
  exact⟨hr,fin listed w hsz hI hr⟩
 | succ fuel ih=>
  intro listed w hsz hf hc hI;refine⟨fin listed w hsz hI,fun i hi=>?_⟩;obtain⟨hun,o,ho,hall⟩:=mem_ready.1 hi
  have hisz:i<listed.size:=by
   rcases Nat.lt_or_ge i listed.size with h'|h'
   ·exact h'
   simp[Array.getElem?_eq_none h']at hun
  have hun':listed.getD i false=false:=by simpa [Array.getD_eq_getD_getElem?,Array.getElem?_eq_getElem hisz]using hun
  have hwt:aDl (fun i=>listed.getD i false) o:=fun e he hb=>hall e he hb
  refine OpTo.wpOp ho (aCr hok ho) hwt (hop i o ho _ w hun' hwt hc hI) fun w' hw'=>?_
  have heq:(ins i fun i=>listed.getD i false)=fun j=>(listed.setIfInBounds i true).getD j false:=by
   funext j
   simp only[ins,Array.getD_eq_getD_getElem?]
   by_cases hji:j=i
   ·subst hji;simp[Array.getElem?_setIfInBounds_self_of_lt hisz]
   rw[Array.getElem?_setIfInBounds_ne (Ne.symm hji)];simp[hji]
  rw[heq]at hw' ⊢;refine ih _ w' (by simpa using hsz) ?_ ?_ hw'
  ·have hlen:((listed.setIfInBounds i true).toList.filter (! ·)).length+1=(listed.toList.filter (! ·)).length:=by
    simp only[Array.toList_setIfInBounds]
    have hfa:listed.toList[i]? = some false:=by
     simp only[Array.getD_eq_getD_getElem?,Array.getElem?_eq_getElem hisz,Option.getD_some]at hun;simp[hisz,hun]
    exact aGu _ _ hfa
   omega
  intro j oj hoj hj e he hb;rw[←heq]at hj ⊢;simp only[ins,Bool.or_eq_true,beq_iff_eq]at hj ⊢;rcases hj with rfl|hj
  ·rw[ho]at hoj;cases hoj;exact .inr (hwt e he hb)
  exact .inr (hc j oj hoj hj e he hb)
def puts(val:Nat→Value):Nat→List Oper→Act→Act
 | _,[],a=>a
 | i,o::r,a=>puts val (i+1) r (a.put o.dst (val i))
theorem puts_eq(hok:aBz ops=true)(hself:∀(i:Nat) (o:Oper),ops[i]? = some o→(frOf ops val (fun _=>true) a).put o.dst (val i)=frOf ops val (fun _=>true) a):
  ∀(k:Nat) (l:List Oper),(∀j,l[j]? = ops[k+j]?)→k+l.length=ops.size→puts val k l (frOf ops val (fun j=>decide (j<k)) a)=frOf ops val (fun _=>true) a
 | k,[],_,hk=>by
  simp only[puts];exact aEi ops val _ _ a fun i hi=>by simp at hk;simp;omega
 | k,o::r,h,hk=>by
  have ho:ops[k]? = some o:=by simpa using(h 0).symm
  simp only[puts]
  have hd:∀d,o.dst=some d→aDj ops d=some k:=by
   intro d hd;have:=aCr hok ho;simp only[opOk,Bool.and_eq_true,hd,beq_iff_eq]at this;exact this.1.1.1
  rw[aFo ho hd (hself k o ho),aEi ops val _ (fun j=>decide (j<k+1)) a (fun i _=>by simp only[ins];rw[Bool.eq_iff_iff];simp;omega)];exact puts_eq hok hself (k+1) r (fun j=>by have:=h (j+1);simpa [Nat.add_assoc,Nat.add_comm 1 j]using this) (by simp at hk;omega)
theorem aOw(hok:aBz ops=true){i:Nat}{o:Oper}(ho:ops[i]? = some o):(frOf ops val (fun _=>true) a).put o.dst (val i)=frOf ops val (fun _=>true) a:=by
 cases hdst:o.dst with
 | none=>rfl
 | some d=>
  have hw:aDj ops d=some i:=by
   have:=aCr hok ho;simp only[opOk,Bool.and_eq_true,hdst,beq_iff_eq]at this;exact this.1.1.1
  simp only[Act.put];refine congrArg (fun t=>({ (frOf ops val (fun _=>true) a)with tmps:=t }:Act)) ?_;apply Array.ext
  ·simp[frOf]
  intro s h1 h2;rw[Array.getElem_setIfInBounds (by simpa using h1)]
  by_cases hds:d=s
  ·subst hds;simp[frOf,hw]
  rw[if_neg hds];simp[frOf]
theorem aD1(hok:aBz ops=true):frOf ops val (fun _=>true) a=puts val 0 ops.toList a:=by
 have:=puts_eq (val:=val) (a:=a) hok (fun i o ho=>aOw hok ho) 0 ops.toList (fun j=>by simp) (by simp);rw[←this];congr 1;rw[aEi ops val _ (fun _=>false) a (fun i _=>by simp),aDk]
theorem aQz{id:Nat}{w:World}(hm:P.follows .mixedOrders=true)(val:Nat→Value)(S T:World→Prop)(hok:aBz ops=true)(n:Nat)(hn:ops.size=n+1)
  (hlast:(List.range n).all (fun j=>match ops[n]? with|some o=>o.after.any fun e=>e.on==j && Region.binds .any e|none=>false)=true)
  (h0:S w.drew)(af:Act)(haf:puts val 0 ops.toList a=af)
  (hop:∀(i:Nat) (o:Oper),ops[i]? = some o→i<n→∀w',S w'→OpTo P ops af o w' S)(hopl:∀o,ops[n]? = some o→∀w',S w'→OpTo P ops af o w' T)
  (hend:∀w',T w'→Q .normal af w'):(Code.region id ops true).wp P Q a w:=by
 refine wp_region_any hm ?_;have haf':frOf ops val (fun _=>true) a=af:=by rw[aD1 hok,haf]
 have hfr:=aDk ops val a
 have key:=aE8 (P:=P) (Q:=Q) (val:=val) (a:=a) (I:=fun D w'=>if D n=true then T w' else S w') hm hok
  (fun i o ho D w' hDi hw hc hI=>by
   rw[haf']
   have hi:i<ops.size:=by
    rcases Nat.lt_or_ge i ops.size with h'|h'
    ·exact h'
    simp[Array.getElem?_eq_none h']at ho
   by_cases hin:i=n
   ·subst hin;rw[hDi]at hI;simp only[ins,beq_self_eq_true,Bool.true_or,if_true];exact hopl o ho w' hI
   have hDn:D n=false:=by
    cases hDn:D n with
    | false=>rfl
    | true=>
     exfalso;have ho2:ops[n]? = some ops[n]:=Array.getElem?_eq_getElem (by omega);have h2:=List.all_eq_true.1 hlast i (by simp;omega);rw[ho2]at h2;simp only[Array.any_eq_true',Bool.and_eq_true,beq_iff_eq]at h2;obtain⟨e,he,hei,hb⟩:=h2;have:=hc n _ ho2 hDn e he hb;rw[hei,hDi]at this
     cases this
   rw[hDn]at hI;have:(ins i D) n=false:=by simp[ins,hDn];omega
   simp only[this];exact hop i o ho (by omega) w' hI)
  (fun D w' hall hI=>by
   rw[haf'];rw[if_pos (hall n (by omega))]at hI;exact hend w' hI)
  ops.size (Array.replicate ops.size false) w.drew (by simp) (by simp) (fun j o ho hj=>by
   simp[Array.getD_eq_getD_getElem?,Array.getElem?_replicate]at hj;split at hj <;> simp at hj) (by
   have:(Array.replicate ops.size false).getD n false=false:=by simp[Array.getD_eq_getD_getElem?,Array.getElem?_replicate];split <;> rfl
   show if(Array.replicate ops.size false).getD n false=true then T w.drew else S w.drew
   rw[this];exact h0)
 have hz:(fun i=>(Array.replicate ops.size false).getD i false)=fun _=>false:=by
  funext i;simp[Array.getD_eq_getD_getElem?,Array.getElem?_replicate];split <;> rfl
 rw[hz,hfr]at key;exact key
theorem aQ0{id:Nat}{w:World}(hm:P.follows .mixedOrders=true)(val:Nat→Value)(S:World→Prop)(hok:aBz ops=true)
  (h0:S w.drew)(af:Act)(haf:puts val 0 ops.toList a=af)
  (hop:∀(i:Nat) (o:Oper),ops[i]? = some o→∀w',S w'→OpTo P ops af o w' S)
  (hend:∀w',S w'→Q .normal af w'):(Code.region id ops true).wp P Q a w:=by
 refine wp_region_any hm ?_;have haf':frOf ops val (fun _=>true) a=af:=by rw[aD1 hok,haf]
 have hfr:=aDk ops val a
 have key:=aE8 (P:=P) (Q:=Q) (val:=val) (a:=a) (I:=fun _ w'=>S w') hm hok
  (fun i o ho D w' hDi hw hc hI=>by rw[haf'];exact hop i o ho w' hI)
  (fun D w' hall hI=>by rw[haf'];exact hend w' hI)
  ops.size (Array.replicate ops.size false) w.drew (by simp) (by simp) (fun j o ho hj=>by
   simp[Array.getD_eq_getD_getElem?,Array.getElem?_replicate]at hj;split at hj <;> simp at hj) h0
 have hz:(fun i=>(Array.replicate ops.size false).getD i false)=fun _=>false:=by
  funext i;simp[Array.getD_eq_getD_getElem?,Array.getElem?_replicate];split <;> rfl
 rw[hz,hfr]at key;exact key
def aBe(P:Program)(ops:Array Oper)(af:Act)(S:World→Prop):List Oper→Prop
 | []=>True
 | o::r=>(∀w',S w'→OpTo P ops af o w' S)∧aBe P ops af S r
theorem aBe.at{af:Act}{S:World→Prop}:∀{l:List Oper},aBe P ops af S l→∀{i:Nat} {o:Oper},l[i]? = some o→∀w',S w'→OpTo P ops af o w' S
 | [],_,i,o,h=>by simp at h
 | o::r,h,0,o',ho=>by simp at ho;subst ho;exact h.1
 | o::r,h,i+1,o',ho=>aBe.at h.2 (by simpa using ho)
theorem yO{af:Act}{o:Oper}{w:World}{R:World→Prop}(hg:o.guard=none)(h:o.wp P af w (fun a' w'=>a'=af∧R w') (fun _ _ _=>False)):OpTo P ops af o w R:=by
 unfold OpTo;rw[if_pos (by simp[Region.wanted,hg])];exact h
theorem aKn{id:Nat}{w:World}(hm:P.follows .mixedOrders=true)(n:Nat)(vals:List Value)(S:World→Prop)(hok:aBz ops=true)(hsz:ops.size=n+1)
  (hlast:(List.range n).all (fun j=>match ops[n]? with|some o=>o.after.any fun e=>e.on==j && Region.binds .any e|none=>false)=true)(h0:S w.drew)
  (h:∀af,puts (fun i=>vals.getD i undef) 0 ops.toList a=af→aBe P ops af S (ops.toList.take n)∧∀w',S w'→OpTo P ops af (ops.toList.getD n default) w' (fun w''=>Q .normal af w'')):
  (Code.region id ops true).wp P Q a w:=by
 obtain⟨h1,h2⟩:=h _ rfl;refine aQz hm (fun i=>vals.getD i undef) S (fun w''=>Q .normal (puts (fun i=>vals.getD i undef) 0 ops.toList a) w'') hok n hsz hlast h0 _ rfl ?_ ?_ (fun w' hq=>hq)
 ·intro i o ho hi w' hS;exact h1.at (i:=i) (by rw[List.getElem?_take];simp[hi,ho]) w' hS
 intro o ho w' hS;have h3:=h2 w' hS
 rwa [List.getD_eq_getElem?_getD,Array.getElem?_toList,ho]at h3
theorem aA3{id:Nat}{w:World}(hm:P.follows .mixedOrders=true)(vals:List Value)(S:World→Prop)(hok:aBz ops=true)(h0:S w.drew)
  (h:∀af,puts (fun i=>vals.getD i undef) 0 ops.toList a=af→aBe P ops af S ops.toList∧∀w',S w'→Q .normal af w'):
  (Code.region id ops true).wp P Q a w:=by
 obtain⟨h1,h2⟩:=h _ rfl;refine aQ0 hm (fun i=>vals.getD i undef) S hok h0 _ rfl ?_ h2;intro i o ho w' hS;exact h1.at (i:=i) (by simpa using ho) w' hS
def aJg(P:Program)(ops:Array Oper)(af:Act)(I:(Nat→Bool)→World→Prop):Nat→List Oper→Prop
 | _,[]=>True
 | k,o::r=>(∀D w',D k=false→aDl D o→aC6 ops D→I D w'→OpTo P ops af o w' (I (ins k D)))∧aJg P ops af I (k+1) r
theorem aJg.at{af:Act}{I:(Nat→Bool)→World→Prop}:∀{l:List Oper} {k:Nat},aJg P ops af I k l→∀{i:Nat} {o:Oper},l[i]? = some o→∀D w',D (k+i)=false→aDl D o→aC6 ops D→I D w'→OpTo P ops af o w' (I (ins (k+i) D))
 | [],_,_,i,o,h=>by simp at h
 | o::r,k,h,0,o',ho=>by simp at ho;subst ho;exact h.1
 | o::r,k,h,i+1,o',ho=>by
  have:=aJg.at h.2 (i:=i) (by simpa using ho)
  rwa [show k+(i+1)=k+1+i by omega]
theorem aIt{id:Nat}{w:World}(hm:P.follows .mixedOrders=true)(vals:List Value)(I:(Nat→Bool)→World→Prop)(hok:aBz ops=true)(h0:I (fun _=>false) w.drew)
  (h:∀af,puts (fun i=>vals.getD i undef) 0 ops.toList a=af→aJg P ops af I 0 ops.toList∧∀D w',(∀i,i<ops.size→D i=true)→I D w'→Q .normal af w'):
  (Code.region id ops true).wp P Q a w:=by
 obtain⟨h1,h2⟩:=h _ rfl;refine wp_region_any hm ?_;have haf':frOf ops (fun i=>vals.getD i undef) (fun _=>true) a=puts (fun i=>vals.getD i undef) 0 ops.toList a:=aD1 hok;have hfr:=aDk ops (fun i=>vals.getD i undef) a
 have hz:(fun i=>(Array.replicate ops.size false).getD i false)=fun _=>false:=by
  funext i;simp[Array.getD_eq_getD_getElem?,Array.getElem?_replicate];split <;> rfl
 have key:=aE8 (P:=P) (Q:=Q) (val:=fun i=>vals.getD i undef) (a:=a) (I:=I) hm hok
  (fun i o ho D w' hDi hw hc hI=>by
   rw[haf'];have:=h1.at (i:=i) (o:=o) (by simpa using ho) D w' (by simpa using hDi) hw hc hI;simpa using this)
  (fun D w' hall hI=>by rw[haf'];exact h2 D w' hall hI)
  ops.size (Array.replicate ops.size false) w.drew (by simp) (by simp) (fun j o ho hj=>by
   simp[Array.getD_eq_getD_getElem?,Array.getElem?_replicate]at hj;split at hj <;> simp at hj) (by rw[hz];exact h0)
 rw[hz,hfr]at key;exact key
end
theorem aKo(ops:Array Oper)(val val':Nat→Value)(D:Nat→Bool)(a:Act)(h:∀i,i<ops.size→D i=true→val i=val' i):frOf ops val D a=frOf ops val' D a:=by
 simp only[frOf];congr 2
 funext s
 split
 ·rename_i i hi
  by_cases hD:D i=true
  ·rw[if_pos hD,if_pos hD,h i (aEa hi).1 hD]
  rw[if_neg hD,if_neg hD]
 rfl
section
variable{P:Program}{ops:Array Oper}{Q:Exit→Act→World→Prop}{a:Act}
theorem aKp{G:Type}{val:G→Nat→Value}{I:G→(Nat→Bool)→World→Prop}(hok:aBz ops=true)
  (hop:∀(i:Nat) (o:Oper),ops[i]? = some o→∀g D w,D i=false→aDl D o→aC6 ops D→I g D w→
   ∃g',(∀j,j<ops.size→D j=true→val g j=val g' j)∧OpTo P ops (frOf ops (val g') (fun _=>true) a) o w (I g' (ins i D)))
  (hend:∀g D w,(∀i,i<ops.size→D i=true)→I g D w→Q .normal (frOf ops (val g) (fun _=>true) a) w):
  ∀(fuel:Nat) (listed:Array Bool) (g:G) (w:World),listed.size=ops.size→fuel=(listed.toList.filter (! ·)).length→aC6 ops (fun i=>listed.getD i false)→I g (fun i=>listed.getD i false) w→
   wpAny P .any ops Q fuel listed (frOf ops (val g) (fun i=>listed.getD i false) a) w:=by
 have fin:∀(listed:Array Bool) (g:G) (w:World),listed.size=ops.size→I g (fun i=>listed.getD i false) w→Region.ready .any ops listed=[]→
   Q .normal (frOf ops (val g) (fun i=>listed.getD i false) a) w:=by
  intro listed g w hsz hI hr;have hall:=aKm hok hsz hr
  have hall':∀i,i<ops.size→listed.getD i false=true:=fun i hi=>by
   have:=hall i hi;have h4:i<listed.size:=by omega
   simpa [Array.getD_eq_getD_getElem?,Array.getElem?_eq_getElem h4]using this
  rw[aEi ops (val g) _ (fun _=>true) a (fun i hi=>hall' i hi)];exact hend g _ w hall' hI
 intro fuel
 induction fuel with
 | zero=>
  intro listed g w hsz hf hc hI
  have hz:∀i,i<ops.size→listed.getD i true=true:=by
   intro i hi;have h4:i<listed.size:=by omega
   have h5:listed[i]∈listed.toList:=by simp
   have h6:=List.filter_eq_nil_iff.1 (List.length_eq_zero_iff.1 hf.symm) _ h5;simp only[Array.getD_eq_getD_getElem?,Array.getElem?_eq_getElem h4,Option.getD_some];simpa using h6
  have hr:Region.ready .any ops listed=[]:=by
   unfold Region.ready;refine List.filter_eq_nil_iff.2 fun i hi=>?_
   have hi':i<ops.size:=by simpa using hi
   simp[hz i hi']
  exact⟨hr,fin listed g w hsz hI hr⟩
 | succ fuel ih=>
  intro listed g w hsz hf hc hI;refine⟨fin listed g w hsz hI,fun i hi=>?_⟩;obtain⟨hun,o,ho,hall⟩:=mem_ready.1 hi
  have hisz:i<listed.size:=by
   rcases Nat.lt_or_ge i listed.size with h'|h'
   ·exact h'
   simp[Array.getElem?_eq_none h']at hun
  have hun':listed.getD i false=false:=by simpa [Array.getD_eq_getD_getElem?,Array.getElem?_eq_getElem hisz]using hun
  have hwt:aDl (fun i=>listed.getD i false) o:=fun e he hb=>hall e he hb
  obtain⟨g',hag,hop'⟩:=hop i o ho g _ w hun' hwt hc hI;rw[aKo ops (val g) (val g') _ a hag];refine OpTo.wpOp ho (aCr hok ho) hwt hop' fun w' hw'=>?_
  have heq:(ins i fun i=>listed.getD i false)=fun j=>(listed.setIfInBounds i true).getD j false:=by
   funext j
   simp only[ins,Array.getD_eq_getD_getElem?]
   by_cases hji:j=i
   ·subst hji;simp[Array.getElem?_setIfInBounds_self_of_lt hisz]
   rw[Array.getElem?_setIfInBounds_ne (Ne.symm hji)];simp[hji]
  rw[heq]at hw' ⊢;refine ih _ g' w' (by simpa using hsz) ?_ ?_ hw'
  ·have hlen:((listed.setIfInBounds i true).toList.filter (! ·)).length+1=(listed.toList.filter (! ·)).length:=by
    simp only[Array.toList_setIfInBounds]
    have hfa:listed.toList[i]? = some false:=by
     simp only[Array.getD_eq_getD_getElem?,Array.getElem?_eq_getElem hisz,Option.getD_some]at hun;simp[hisz,hun]
    exact aGu _ _ hfa
   omega
  intro j oj hoj hj e he hb;rw[←heq]at hj ⊢;simp only[ins,Bool.or_eq_true,beq_iff_eq]at hj ⊢;rcases hj with rfl|hj
  ·rw[ho]at hoj;cases hoj;exact .inr (hwt e he hb)
  exact .inr (hc j oj hoj hj e he hb)
def aEb{G:Type}(P:Program)(ops:Array Oper)(vals:G→List Value)(AF:G→Act)(I:G→(Nat→Bool)→World→Prop):Nat→List Oper→Prop
 | _,[]=>True
 | k,o::r=>(∀g D w',D k=false→aDl D o→aC6 ops D→I g D w'→
   ∃g',(∀j,j<ops.size→D j=true→(vals g).getD j undef=(vals g').getD j undef)∧OpTo P ops (AF g') o w' (I g' (ins k D)))∧aEb P ops vals AF I (k+1) r
theorem aEb.at{G:Type}{vals:G→List Value}{AF:G→Act}{I:G→(Nat→Bool)→World→Prop}:∀{l:List Oper} {k:Nat},aEb P ops vals AF I k l→∀{i:Nat} {o:Oper},l[i]? = some o→∀g D w',D (k+i)=false→aDl D o→aC6 ops D→I g D w'→
   ∃g',(∀j,j<ops.size→D j=true→(vals g).getD j undef=(vals g').getD j undef)∧OpTo P ops (AF g') o w' (I g' (ins (k+i) D))
 | [],_,_,i,o,h=>by simp at h
 | o::r,k,h,0,o',ho=>by simp at ho;subst ho;exact h.1
 | o::r,k,h,i+1,o',ho=>by
  have:=aEb.at h.2 (i:=i) (by simpa using ho)
  rwa [show k+(i+1)=k+1+i by omega]
theorem aA0{id:Nat}{w:World}(hm:P.follows .mixedOrders=true){G:Type}(vals:G→List Value)(I:G→(Nat→Bool)→World→Prop)(hok:aBz ops=true)(g0:G)(h0:I g0 (fun _=>false) w.drew)
  (h:∀AF:G→Act,(∀g,puts (fun i=>(vals g).getD i undef) 0 ops.toList a=AF g)→
   aEb P ops vals AF I 0 ops.toList∧∀g D w',(∀i,i<ops.size→D i=true)→I g D w'→Q .normal (AF g) w'):
  (Code.region id ops true).wp P Q a w:=by
 obtain⟨h1,h2⟩:=h _ (fun _=>rfl);refine wp_region_any hm ?_;have haf':∀g,frOf ops (fun i=>(vals g).getD i undef) (fun _=>true) a=puts (fun i=>(vals g).getD i undef) 0 ops.toList a:=fun g=>aD1 hok
 have hz:(fun i=>(Array.replicate ops.size false).getD i false)=fun _=>false:=by
  funext i;simp[Array.getD_eq_getD_getElem?,Array.getElem?_replicate];split <;> rfl
 have key:=aKp (P:=P) (Q:=Q) (val:=fun g i=>(vals g).getD i undef) (a:=a) (I:=I) hok
  (fun i o ho g D w' hDi hw hc hI=>by
   have:=h1.at (i:=i) (o:=o) (by simpa using ho) g D w' (by simpa using hDi) hw hc hI;obtain⟨g',hag,hop⟩:=this;refine⟨g',hag,?_⟩;rw[haf' g'];simpa using hop)
  (fun g D w' hall hI=>by rw[haf' g];exact h2 g D w' hall hI)
  ops.size (Array.replicate ops.size false) g0 w.drew (by simp) (by simp) (fun j o ho hj=>by
   simp[Array.getD_eq_getD_getElem?,Array.getElem?_replicate]at hj;split at hj <;> simp at hj) (by rw[hz];exact h0)
 have hfr:=aDk ops (fun i=>(vals g0).getD i undef) a;simp only[hz]at key;rw[hfr]at key;exact key
end
theorem OpTo.wanted{P:Program}{ops:Array Oper}{af:Act}{o:Oper}{w:World}{R:World→Prop}(hw:Region.wanted o (yielded ops af.tmps)=true)(h:o.wp P af w (fun a' w'=>a'=af∧R w') (fun _ _ _=>False)):OpTo P ops af o w R:=by
 unfold OpTo;rw[if_pos hw];exact h
theorem pAD{P:Program}{ops:Array Oper}{af:Act}{o:Oper}{w:World}{R:World→Prop}(hw:Region.wanted o (yielded ops af.tmps)=false)(h:af.put o.dst undef=af)(hR:R w):OpTo P ops af o w R:=by
 unfold OpTo;rw[if_neg (by rw[hw];exact Bool.false_ne_true)];exact⟨h,hR⟩
def Laid(W:World)(p q:Nat)(zero full:Array Value)(t:TypeId)(g:Nat)(D:Nat→Bool)(w:World):Prop:=
 Below W.heap.size W w∧(D p=true→D q=false→W.heap.size≤g∧Blk w g zero t)∧(D q=true→W.heap.size≤g∧Blk w g full t)
theorem Laid.step{W w w':World}{p q k:Nat}{zero full:Array Value}{t:TypeId}{g:Nat}{D:Nat→Bool}(h:Laid W p q zero full t g D w)(hb:Below w.heap.size w w')(hp:k≠p)(hq:k≠q):Laid W p q zero full t g (ins k D) w':=by
 obtain⟨h1,h2,h3⟩:=h;have hp':¬p=k:=fun e=>hp e.symm
 have hq':¬q=k:=fun e=>hq e.symm
 refine⟨h1.trans (hb.mono h1.size),?_,?_⟩
 ·intro a b;simp[ins,hp']at a;simp[ins,hq']at b;obtain⟨c,d⟩:=h2 a b;exact⟨c,d.below hb d.lt⟩
 intro a;simp[ins,hq']at a;obtain⟨c,d⟩:=h3 a;exact⟨c,d.below hb d.lt⟩
theorem Laid.lay{W w:World}{p q:Nat}{zero full:Array Value}{t:TypeId}{g:Nat}{D:Nat→Bool}(h:Laid W p q zero full t g D w)(hq:D q=false)(hpq:p≠q):Laid W p q zero full t w.heap.size (ins p D) (w.alloc (.cells zero t)):=by
 obtain⟨h1,h2,h3⟩:=h;have hq':¬q=p:=fun e=>hpq e.symm
 refine⟨h1.alloc h1.size _,fun _ _=>⟨h1.size,pAA _ _ _⟩,?_⟩;intro a;simp[ins,hq',hq]at a
theorem Laid.fill{W w w':World}{p q:Nat}{zero full:Array Value}{t:TypeId}{g:Nat}{D:Nat→Bool}(h:Laid W p q zero full t g D w)(hb:Below W.heap.size W w')(hg:W.heap.size≤g)(hk:Blk w' g full t):Laid W p q zero full t g (ins q D) w':=by
 refine⟨hb,?_,fun _=>⟨hg,hk⟩⟩;intro _ a;simp[ins]at a
structure Keep(S:Nat→Prop)(w w':World):Prop where
 os:w'.os=w.os
 tape:w'.tape=w.tape
 output:w'.output=w.output
 size:w.heap.size≤w'.heap.size
 block:∀k,k<w.heap.size→¬S k→w'.heap[k]? = w.heap[k]?
theorem Keep.refl(S:Nat→Prop)(w:World):Keep S w w:=⟨rfl,rfl,rfl,Nat.le_refl _,fun _ _ _=>rfl⟩
theorem Keep.trans{S:Nat→Prop}{a b c:World}(h:Keep S a b)(k:Keep S b c):Keep S a c:=
 ⟨k.os.trans h.os,k.tape.trans h.tape,k.output.trans h.output,Nat.le_trans h.size k.size,fun i hi hs=>(k.block i (yM hi h.size) hs).trans (h.block i hi hs)⟩
theorem Keep.mono{S S':Nat→Prop}{w w':World}(h:Keep S w w')(hS:∀k,k<w.heap.size→S k→S' k):Keep S' w w':=
 ⟨h.os,h.tape,h.output,h.size,fun i hi hs=>h.block i hi fun hk=>hs (hS i hi hk)⟩
theorem pAE{S:Nat→Prop}{w w':World}(h:Below w.heap.size w w'):Keep S w w':=⟨h.os,h.tape,h.output,h.size,fun i hi _=>h.block i hi⟩
theorem Keep.below{S:Nat→Prop}{w w':World}{B:Nat}(h:Keep S w w')(hB:B≤w.heap.size)(hS:∀k,k<B→¬S k):Below B w w':=
 ⟨h.os,h.tape,h.output,h.size,fun i hi=>h.block i (yM hi hB) (hS i hi)⟩
theorem Keep.cell{S:Nat→Prop}{w w':World}(h:Keep S w w'){p:Addr}(hp:p.block<w.heap.size)(hs:¬S p.block):w'.cell? p=w.cell? p:=World.cell?_of_block (w:=w) (h.block p.block hp hs)
theorem Keep.drew{S:Nat→Prop}{a w:World}(h:Keep S a w):Keep S a w.drew:=⟨h.os,h.tape,h.output,h.size,h.block⟩
theorem Keep.alloc{S:Nat→Prop}{a w:World}(h:Keep S a w)(o:Obj):Keep S a (w.alloc o):=
 ⟨h.os,h.tape,h.output,by have:=h.size;simp;omega,fun k hk hs=>by rw[Below.heap_alloc _ _ _ (yM hk h.size)];exact h.block k hk hs⟩
theorem Keep.setCell{S:Nat→Prop}{a w:World}(h:Keep S a w){p:Addr}(hp:S p.block∨a.heap.size≤p.block)(u:Value):Keep S a (w.setCell p u):=
 ⟨h.os,h.tape,h.output,by simpa using h.size,fun k hk hs=>by
  rw[Below.heap_setCell _ _ _ _ (by
                   rintro rfl;rcases hp with hp|hp;· exact hs hp
                   omega)]
  exact h.block k hk hs⟩
theorem Keep.setCells{S:Nat→Prop}{g:Nat}:∀(vs:List Value) {a w:World} (o:Nat),Keep S a w→(S g∨a.heap.size≤g)→Keep S a (w.setCells g o vs)
 | [],_,_,_,h,_=>h
 | v::r,_,_,o,h,hg=>by
  rw[World.setCells];exact Keep.setCells r (o+1) (h.setCell hg v) hg
theorem Keep.grown{S:Nat→Prop}{a w w':World}{row:Option Nat}(h:Keep S a w)(hg:w.grownBy w' row)(hr:∀k,row=some k→S k∨a.heap.size≤k):Keep S a w':=by
 have hb:Below 0 a a:=Below.refl 0 a;refine⟨hg.os.trans h.os,hg.tape.trans h.tape,hg.output.trans h.output,Nat.le_trans h.size hg.size,fun k hk hs=>?_⟩
 rw[hg.block k (yM hk h.size) (by
                          rintro e;rcases hr k e.symm with h'|h';· exact hs h'
                          omega)]
 exact h.block k hk hs
theorem Blk.keep{S:Nat→Prop}{w w':World}{g:Nat}{cs:Array Value}{t:TypeId}(h:Blk w g cs t)(k:Keep S w w')(hs:¬S g):Blk w' g cs t:=by
 unfold Blk;rw[k.block g h.lt hs];exact h
theorem aAl{S:Nat→Prop}{w w':World}{base:Nat}{e:TypeId}{size:Nat}{v:Value}{n:Nat}{xs:List Value}(h:w.ownsRow base e size v n xs)(k:Keep S w w')(hs:∀b,v.ownBlock=some b→¬S b):w'.ownsRow base e size v n xs:=by
 obtain⟨h1,h2⟩:=h;refine⟨h1,?_⟩;rcases h2 with h2|⟨g,cap,cur,rfl,hb,hg,hr⟩
 ·exact .inl h2
 refine .inr ⟨g,cap,cur,rfl,hb,?_,hr⟩;rw[k.block g (lt_of_block hg) (hs g rfl)];exact hg
theorem aAe{w:World}{base:Nat}{e:TypeId}{size:Nat}{v:Value}{n:Nat}{xs:List Value}(h:w.ownsRow base e size v n xs){b:Nat}(hb:v.ownBlock=some b):base≤b∧b<w.heap.size∧∃cur,w.heap[b]? = some (.cells cur e (0,0)):=by
 obtain⟨_,h2⟩:=h;rcases h2 with⟨rfl,_⟩|⟨g,cap,cur,rfl,hge,hg,_⟩
 ·cases hb
 cases hb;exact⟨hge,lt_of_block hg,cur,hg⟩
theorem aAi{w:World}{base:Nat}{e:TypeId}{size:Nat}{v:Value}{n:Nat}{xs:List Value}(h:w.ownsRow base e size v n xs){g:Nat}{cs:Array Value}{t:TypeId}(hg:Blk w g cs t)(hne:e≠t):∀b,v.ownBlock=some b→¬b=g:=by
 intro b hb e';obtain⟨_,_,cur,hc⟩:=aAe h hb;subst e';unfold Blk at hg;rw[hc]at hg;simp at hg;exact hne hg.2
theorem aAd{w:World}{base:Nat}{e:TypeId}{size:Nat}{v:Value}{n:Nat}{xs:List Value}(h:w.ownsRow base e size v n xs):
  ∃(ao:Option Addr) (cap:Nat),v=.slice ao n cap∧n≤cap∧cap≤maxLen∧xs.length=n*size∧(0<n→∃b,ao=some ⟨b,0,none⟩∧base≤b∧b<w.heap.size∧(∀j,j<n*size→w.cell? ⟨b,j,none⟩=xs[j]?)∧∀j,w.frozen? ⟨b,j,none⟩=false):=by
 have h':=h;obtain⟨h1,h2⟩:=h;rcases h2 with⟨rfl,rfl⟩|⟨g,cap,cur,rfl,hb,hg,hc1,hc2,hc3,hc4⟩
 ·exact⟨none,0,rfl,Nat.le_refl _,by decide,h1,fun h=>absurd h (by omega)⟩
 exact⟨some ⟨g,0,none⟩,cap,rfl,hc1,hc2,h1,fun _=>⟨g,rfl,hb,lt_of_block hg,fun j hj=>h'.cellAt j hj,fun j=>h'.frozenAt j⟩⟩
theorem Blk.grown{w w':World}{g:Nat}{cs:Array Value}{t:TypeId}{row:Option Nat}(h:Blk w g cs t)(hg:w.grownBy w' row)(hne:row≠some g):Blk w' g cs t:=by
 unfold Blk;rw[hg.block g h.lt (fun e=>hne e.symm)];exact h
theorem aAc{w w':World}{base:Nat}{e:TypeId}{size:Nat}{v:Value}{n:Nat}{xs:List Value}(h:w.ownsRow base e size v n xs)(k:Below w.heap.size w w'):w'.ownsRow base e size v n xs:=
 aAl h (pAE (S:=fun _=>False) k) (fun _ _=>id)
theorem aA4{w:World}{base base':Nat}{e:TypeId}{size:Nat}{v:Value}{n:Nat}{xs:List Value}(h:w.ownsRow base e size v n xs)(hb:base'≤base):w.ownsRow base' e size v n xs:=by
 obtain⟨h1,h2⟩:=h;refine⟨h1,?_⟩;rcases h2 with h2|⟨g,cap,cur,rfl,hge,hr⟩
 ·exact .inl h2
 exact .inr ⟨g,cap,cur,rfl,by omega,hr⟩
theorem aH3{α:Type}(f:α→List Value)(n:Nat)(hf:∀x,(f x).length=n):∀(l:List α) (i j:Nat),j<n→(l.flatMap f)[i*n+j]? = (l[i]?).bind fun x=>(f x)[j]?
 | [],i,j,_=>by simp
 | x::r,0,j,hj=>by simp[List.getElem?_append,hf,hj]
 | x::r,i+1,j,hj=>by
  rw[List.flatMap_cons,List.getElem?_append_right (by rw[hf,Nat.add_mul];omega),hf,show(i+1)*n+j - n=i*n+j by rw[Nat.add_mul];omega];rw[aH3 f n hf r i j hj];simp
theorem aJ5{α:Type}(f:α→List Value)(n:Nat)(hf:∀x,(f x).length=n)(l:List α):(l.flatMap f).length=l.length*n:=by
 induction l with
 | nil=>simp
 | cons x r ih=>simp[hf,ih,Nat.add_mul];omega
structure Ln where
 cr:Int
 de:Int
 cu:Int
 li:Int
 db:Int
deriving DecidableEq
def Ln.vals(x:Ln):List Value:=[.int .u8 x.cr,.int .u8 x.de,.int .u8 x.cu,.int .i64 x.li,.int .i64 x.db]
theorem Ln.vals_len(x:Ln):x.vals.length=5:=rfl
def aAz(ls:List Ln):List Value:=ls.flatMap Ln.vals
def Ln.val(x:Ln):Value:=.agg #[.int .u8 x.cr,.int .u8 x.de,.int .u8 x.cu,.int .i64 x.li,.int .i64 x.db]
theorem aDw(ls:List Ln):(aAz ls).length=ls.length*5:=aJ5 _ 5 Ln.vals_len ls
theorem aA7(ls:List Ln)(i j:Nat)(hj:j<5)(h:i<ls.length):(aAz ls)[i*5+j]? = ls[i].vals[j]? := by
 unfold aAz;rw[aH3 _ 5 Ln.vals_len ls i j hj,List.getElem?_eq_getElem h];rfl
def Ln.rank(x:Ln):Int:=x.cu*65536+x.cr*256+x.de
def In8(n:Int):Prop:=0≤n∧n≤255
structure Ln.Fits(x:Ln):Prop where
 cr:In8 x.cr
 de:In8 x.de
 cu:In8 x.cu
 li:In64 x.li
 db:In64 x.db
theorem aFp{a b c n d:Int}(h1:0≤a∧a≤255)(h2:0≤b∧b≤255)(h3:0≤c∧c≤255)(h4:0≤n∧n≤1099511627776)(h5:0≤d∧d≤1099511627776):(⟨a,b,c,n,d⟩:Ln).Fits:=
 ⟨h1,h2,h3,⟨Int.le_trans (by decide) h4.1,Int.le_trans h4.2 (by decide)⟩,⟨Int.le_trans (by decide) h5.1,Int.le_trans h5.2 (by decide)⟩⟩
def Ln.is(x:Ln)(a b c:Int):Bool:=x.cr==a && x.de==b && x.cu==c
def atL(ls:List Ln)(a b c:Int):Int:=match ls.findIdx? (fun x=>x.is a b c)with|some i=>i|none => -1
def aAq(ls:List Ln)(a b c:Int):Option Ln:=ls.find? fun x=>x.is a b c
def noLn:Ln:=⟨0,0,0,0,0⟩
def aA9(x:Ln)(s:List Ln×Bool)(y:Ln):List Ln×Bool:=
 if y.rank=x.rank then s else if s.2=false∧x.rank<y.rank then(s.1++[x,y],true)else(s.1++[y],s.2)
def aEk(ls:List Ln)(x:Ln):List Ln×Bool:=ls.foldl (aA9 x) ([],x.li==0)
def setL(ls:List Ln)(x:Ln):List Ln:=if(aEk ls x).2=false then(aEk ls x).1++[x]else(aEk ls x).1
theorem setTo_take(ls:List Ln)(x:Ln)(k:Nat)(h:k<ls.length):aEk (ls.take (k+1)) x=aA9 x (aEk (ls.take k) x) ls[k]:=by
 unfold aEk;rw[List.take_succ_eq_append_getElem h,List.foldl_append];rfl
theorem at_found{ls:List Ln}{a b c:Int}{k:Nat}(h:k<ls.length)(hn:∀x∈ls.take k,x.is a b c=false)(hx:ls[k].is a b c=true):atL ls a b c=k∧aAq ls a b c=some ls[k]:=by
 have h1:ls.findIdx? (fun x=>x.is a b c)=some k:=by
  rw[List.findIdx?_eq_some_iff_getElem];refine⟨h,hx,fun j hj=>?_⟩;have:=hn ls[j] (by rw[List.mem_take_iff_getElem];exact⟨j,by omega,rfl⟩);simp[this]
 refine⟨by unfold atL;rw[h1],?_⟩;unfold aAq;rw[List.find?_eq_some_iff_getElem];refine⟨hx,k,h,rfl,fun j hj=>?_⟩;have:=hn ls[j] (by rw[List.mem_take_iff_getElem];exact⟨j,by omega,rfl⟩);simp[this]
theorem aQ1{ls:List Ln}{a b c:Int}(hn:∀x∈ls,x.is a b c=false):atL ls a b c = -1∧aAq ls a b c=none:=by
 refine⟨?_,?_⟩
 ·unfold atL;rw[List.findIdx?_eq_none_iff.2 hn]
 unfold aAq;rw[List.find?_eq_none];intro x hx;simp[hn x hx]
theorem aNe(ls:List Ln)(a b c:Int):(∃(k:Nat) (h:k<ls.length),atL ls a b c=k∧aAq ls a b c=some ls[k]∧ls[k].is a b c=true)∨(atL ls a b c = -1∧aAq ls a b c=none∧∀x∈ls,x.is a b c=false):=by
 by_cases h:∀x∈ls,x.is a b c=false
 ·exact .inr ⟨(aQ1 h).1,(aQ1 h).2,h⟩
 left
 cases hf:ls.findIdx? (fun x=>x.is a b c)with
 | none=>
  exact absurd (List.findIdx?_eq_none_iff.1 hf) h
 | some k=>
  obtain⟨hk,hx,hn⟩:=List.findIdx?_eq_some_iff_getElem.1 hf
  obtain⟨h1,h2⟩:=at_found hk (a:=a) (b:=b) (c:=c) (by
   intro x hx;obtain⟨j,hj,rfl⟩:=List.mem_take_iff_getElem.1 hx;have:=hn j (by omega);simpa using this) hx
  exact⟨k,hk,h1,h2,hx⟩
def aKq(b:Bool):Nat:=cond b 0 1
theorem unput_le(b:Bool):aKq b≤1:=by cases b <;> simp[aKq]
theorem aKr(x:Ln)(s:List Ln×Bool)(y:Ln):(aA9 x s y).1.length+aKq (aA9 x s y).2≤s.1.length+aKq s.2+1:=by
 unfold aA9;split
 ·omega
 split
 ·rename_i h;have e1:(s.1++[x,y]).length=s.1.length+2:=by simp
  have e2:aKq true=0:=rfl;have e3:aKq false=1:=rfl;rw[h.1];dsimp only;omega
 have e1:(s.1++[y]).length=s.1.length+1:=by simp
 dsimp only;omega
theorem setTo_len(ls:List Ln)(x:Ln):(aEk ls x).1.length≤ls.length+1:=by
 have key:∀(l:List Ln) (s:List Ln×Bool),(l.foldl (aA9 x) s).1.length+aKq (l.foldl (aA9 x) s).2≤s.1.length+aKq s.2+l.length:=by
  intro l
  induction l with
  | nil=>intro s;exact Nat.le_refl _
  | cons y r ih=>
   intro s;have h1:=ih (aA9 x s y);have h2:=aKr x s y;simp only[List.foldl_cons,List.length_cons];omega
 have:=key ls ([],x.li==0);unfold aEk;simp only[List.length_nil]at this;have h2:=unput_le (x.li==0);omega
theorem aL2(a b:List Ln):aAz (a++b)=aAz a++aAz b:=by unfold aAz;exact List.flatMap_append
theorem aQ2(x:Ln):aAz [x]=x.vals:=by simp[aAz]
def lnAt(ls:List Ln)(a b c:Int):Ln:=(aAq ls a b c).getD noLn
structure Ln.Good(x:Ln):Prop where
 cr:1≤x.cr∧x.cr≤16
 de:1≤x.de∧x.de≤16
 cu:1≤x.cu∧x.cu≤8
 ne:x.cr≠x.de
 li:1≤x.li∧x.li≤1099511627776
 db:0≤x.db∧x.db≤x.li
theorem Ln.Good.fits{x:Ln}(h:x.Good):x.Fits:=by
 obtain⟨h1,h2,h3,_,h5,h6⟩:=h;exact⟨⟨by omega,by omega⟩,⟨by omega,by omega⟩,⟨by omega,by omega⟩,⟨by omega,by omega⟩,⟨by omega,by omega⟩⟩
theorem aAy{ls:List Ln}{a b c:Int}{x:Ln}(h:aAq ls a b c=some x):x∈ls∧x.cr=a∧x.de=b∧x.cu=c:=by
 unfold aAq at h;refine⟨List.mem_of_find?_eq_some h,?_⟩;have:=List.find?_some h;unfold Ln.is at this;simp only[Bool.and_eq_true,beq_iff_eq]at this;exact⟨this.1.1,this.1.2,this.2⟩
theorem aC5{ls:List Ln}(hg:∀y∈ls,y.Good)(a b c:Int):0≤(lnAt ls a b c).db∧(lnAt ls a b c).db≤(lnAt ls a b c).li∧(lnAt ls a b c).li≤1099511627776:=by
 unfold lnAt
 cases h:aAq ls a b c with
 | none=>simp[noLn]
 | some x=>have:=hg x (aAy h).1;have h5:=this.li;have h6:=this.db;simp;omega
theorem aH4{ls:List Ln}(hg:∀y∈ls,y.Good)(a b c:Int):(lnAt ls a b c).Fits:=by
 unfold lnAt
 cases h:aAq ls a b c with
 | none=>exact⟨⟨by decide,by decide⟩,⟨by decide,by decide⟩,⟨by decide,by decide⟩,⟨by decide,by decide⟩,⟨by decide,by decide⟩⟩
 | some x=>exact(hg x (aAy h).1).fits
def aBm(ps:List Int)(ls:List Ln)(a b c:Int):Int:=if a=b∨a∉ps∨b∉ps then 0 else(lnAt ls a b c).db+(lnAt ls b a c).li - (lnAt ls b a c).db
theorem aJ6{ps:List Int}{ls:List Ln}(hg:∀y∈ls,y.Good)(a b c:Int):0≤aBm ps ls a b c∧aBm ps ls a b c≤2199023255552:=by
 unfold aBm;have h1:=aC5 hg a b c;have h2:=aC5 hg b a c;split <;> omega
def aAu(ps:List Int)(ls:List Ln)(a b c n:Int):Int:=
 if a<1∨16<a∨b<1∨16<b∨c<1∨8<c∨a=b∨n<0∨1099511627776<n then 1
 else if a∉ps∨b∉ps then 7
 else if n<(lnAt ls a b c).db then 14
 else if aAq ls a b c=none∧0<n∧64≤ls.length then 9 else 0
def aAw(ps:List Int)(ls:List Ln)(a b c n:Int):List Ln:=if aAu ps ls a b c n=0 then setL ls ⟨a,b,c,n,(lnAt ls a b c).db⟩else ls
def aA5(ls:List Ln)(a b c n:Int):Int:=if n<1 then 1 else if aAq ls a b c=none then 7 else if(lnAt ls a b c).db<n then 14 else 0
def Ln.owe(x:Ln)(d:Int):Ln:=⟨x.cr,x.de,x.cu,x.li,d⟩
def aBb(ls:List Ln)(a b c n:Int):List Ln:=if aA5 ls a b c n=0 then setL ls ((lnAt ls a b c).owe ((lnAt ls a b c).db - n))else ls
def aCz(ps:List Int)(ls:List Ln)(a b c n:Int):Int:=if n<1 then 1 else if aBm ps ls a b c<n then 11 else 0
def aF6(ls:List Ln)(a b c n:Int):List Ln:=if(aAq ls a b c).isSome=true then setL ls ((lnAt ls a b c).owe ((lnAt ls a b c).db - min n (lnAt ls a b c).db))else ls
def aL3(ls:List Ln)(a b c n:Int):Int:=if(aAq ls a b c).isSome=true then n - min n (lnAt ls a b c).db else n
def aB5(ls:List Ln)(a b c n:Int):List Ln:=
 if 0<aL3 ls a b c n then setL (aF6 ls a b c n) ((lnAt (aF6 ls a b c n) b a c).owe ((lnAt (aF6 ls a b c n) b a c).db+aL3 ls a b c n))else aF6 ls a b c n
def aCq(ps:List Int)(ls:List Ln)(a b c n:Int):List Ln:=if aCz ps ls a b c n=0 then aB5 ls a b c n else ls
theorem setL_mem{ls:List Ln}{x y:Ln}(h:y∈setL ls x):y∈ls∨(y=x∧x.li≠0):=by
 have key:∀(l:List Ln) (s:List Ln×Bool),(∀y∈s.1,y∈ls∨(y=x∧x.li≠0))→(s.2=false→x.li≠0)→(∀y∈l,y∈ls)→
   (∀y∈(l.foldl (aA9 x) s).1,y∈ls∨(y=x∧x.li≠0))∧((l.foldl (aA9 x) s).2=false→x.li≠0):=by
  intro l
  induction l with
  | nil=>intro s h1 h2 _;exact⟨h1,h2⟩
  | cons z r ih=>
   intro s h1 h2 h3;rw[List.foldl_cons];refine ih _ ?_ ?_ (fun y hy=>h3 y (by simp[hy]))
   ·intro y hy;unfold aA9 at hy;split at hy
    ·exact h1 y hy
    split at hy
    ·rename_i h4;simp only[List.mem_append,yI,yJ,or_false]at hy;rcases hy with hy|rfl|rfl
     ·exact h1 y hy
     ·exact .inr ⟨rfl,h2 h4.1⟩
     exact .inl (h3 _ (by simp))
    simp only[List.mem_append,List.mem_singleton]at hy;rcases hy with hy|rfl
    ·exact h1 y hy
    exact .inl (h3 _ (by simp))
   intro hf;unfold aA9 at hf;split at hf
   ·exact h2 hf
   split at hf
   ·cases hf
   exact h2 hf
 have k:=key ls ([],x.li==0) (by simp) (by intro h e;rw[e]at h;cases h) (fun y hy=>hy);unfold setL aEk at h;split at h
 ·rename_i h4;rcases List.mem_append.1 h with h|h
  ·exact k.1 y h
  rw[List.mem_singleton]at h;exact .inr ⟨h,k.2 h4⟩
 exact k.1 y h
theorem setL_len(ls:List Ln)(x:Ln):(setL ls x).length≤ls.length+1:=by
 have key:∀(l:List Ln) (s:List Ln×Bool),(l.foldl (aA9 x) s).1.length+aKq (l.foldl (aA9 x) s).2≤s.1.length+aKq s.2+l.length:=by
  intro l
  induction l with
  | nil=>intro s;exact Nat.le_refl _
  | cons y r ih=>
   intro s;have h1:=ih (aA9 x s y);have h2:=aKr x s y;simp only[List.foldl_cons,List.length_cons];omega
 have h1:=key ls ([],x.li==0);have h2:=unput_le (x.li==0);simp only[List.length_nil]at h1;unfold setL aEk;split
 ·rename_i h;rw[h,show aKq false=1 from rfl]at h1;simp;omega
 omega
def aIu(p c:Int)(x:Ln):Int:=if x.cu=c then(if x.cr=p then x.db else 0) - (if x.de=p then x.db else 0)else 0
def posL(ls:List Ln)(p c:Int):Int:=(ls.map (aIu p c)).sum
end Go.Proofs.YtaeocliklpcgmaaGreat
