/-
  Pieces of one proof, without what is not wanted: Lib, Region.
-/
import Derived.Test.YtngnfdnfpiiclaaGreatRows
import Derived.WalkKit
import Derived.WalkSpells
import Derived.WalkLawsBesides
import Derived.Lib.Hide
import Derived.BigQuiet
import Derived.Deep.RegionHeld3
import Derived.Deep.QuietTactic
import Derived.Deep.DeepCutAuto
import Derived.Deep.DeepFit
import Derived.Orders
set_option linter.unusedSimpArgs false
set_option linter.unusedVariables false
namespace Go.Proofs.YtngnfdnfpiiclaaGreat
open Go.RowKit
def Blk (w:World) (g:Nat) (cs:Array Value) (t:TypeId):Prop:=w.heap[g]? = some (.cells cs t (0,0))
theorem Blk.out {w:World} {g:Nat} {cs:Array Value} {t:TypeId} (h:Blk w g cs t):w.heap[g]? = some (.cells cs t (0,0)):=h
theorem Blk.lt {w:World} {g:Nat} {cs:Array Value} {t:TypeId} (h:Blk w g cs t):g<w.heap.size:=lt_of_block h
theorem Blk.cell {w:World} {g:Nat} {cs:Array Value} {t:TypeId} (h:Blk w g cs t) (i:Nat):w.cell? ⟨g,i,none⟩=cs[i]? := by
 unfold Blk at h; simp [World.cell?,h]
theorem Blk.frozen {w:World} {g:Nat} {cs:Array Value} {t:TypeId} (h:Blk w g cs t) (i:Nat):w.frozen? ⟨g,i,none⟩=false:=by
 unfold Blk at h; simp [World.frozen?,h]
theorem Blk.set {w:World} {g:Nat} {cs:Array Value} {t:TypeId} (h:Blk w g cs t) (i:Nat) (v:Value):Blk (w.setCell ⟨g,i,none⟩ v) g (cs.setIfInBounds i v) t:=by
 have hlt:=h.lt
 have h':w.heap[g]=.cells cs t (0,0):=by unfold Blk at h; simpa [Array.getElem?_eq_getElem hlt] using h
 show (w.heap.modify g _)[g]? = _
 rw [Array.getElem?_eq_getElem (by simpa using hlt),Array.getElem_modify_self,h']
 rfl
theorem Blk.setOther {w:World} {g:Nat} {cs:Array Value} {t:TypeId} (h:Blk w g cs t) {a:Addr} (ha:g≠a.block) (v:Value):Blk (w.setCell a v) g cs t:=by
 unfold Blk; rw [Below.heap_setCell _ _ _ _ ha]; exact h
theorem Blk.alloc {w:World} {g:Nat} {cs:Array Value} {t:TypeId} (h:Blk w g cs t) (o:Obj):Blk (w.alloc o) g cs t:=by
 unfold Blk; rw [Below.heap_alloc _ _ _ h.lt]; exact h
theorem Blk.drew {w:World} {g:Nat} {cs:Array Value} {t:TypeId} (h:Blk w g cs t):Blk w.drew g cs t:=h
theorem Blk.below {w w':World} {g B:Nat} {cs:Array Value} {t:TypeId} (h:Blk w g cs t) (hb:Below B w w') (hg:g<B):Blk w' g cs t:=by
 unfold Blk; rw [hb.block g hg]; exact h
theorem Blk.new (w:World) (cs:Array Value) (t:TypeId):Blk (w.alloc (.cells cs t)) w.heap.size cs t:=by
 show (w.heap.push _)[w.heap.size]? = _
 simp
theorem Below.undrew {B:Nat} {w w':World} (h:Below B w.drew w'):Below B w w':=⟨h.os,h.tape,h.output,h.size,h.block⟩
theorem bcell {W w1:World} (hb:Below W.heap.size W w1):(∀ b o,b<W.heap.size→w1.cell? ⟨b,o,none⟩=W.cell? ⟨b,o,none⟩)∧(∀ b o,b<W.heap.size→w1.frozen? ⟨b,o,none⟩=W.frozen? ⟨b,o,none⟩) :=
 ⟨fun b o h=>hb.cell (p:=⟨b,o,none⟩) h,fun b o h=>hb.frozen (p:=⟨b,o,none⟩) h⟩
theorem Blk.newAt (w:World) (cs:Array Value) (t:TypeId) {g:Nat} (h:g=w.heap.size):Blk (w.alloc (.cells cs t)) g cs t:=by subst h; exact Blk.new w cs t
theorem keepB {W w1:World} (hb:Below W.heap.size W w1) {g:Nat} (hg:g<W.heap.size) :
  (∀ o,w1.cell? ⟨g,o,none⟩=W.cell? ⟨g,o,none⟩)∧(∀ o,w1.frozen? ⟨g,o,none⟩=W.frozen? ⟨g,o,none⟩)∧g<w1.heap.size :=
 ⟨fun o=>hb.cell (p:=⟨g,o,none⟩) hg,fun o=>hb.frozen (p:=⟨g,o,none⟩) hg,Nat.lt_of_lt_of_le hg hb.size⟩
theorem run_equalIn_cells {P:Program} (d:Nat) (t e:TypeId) (n:Nat) (ht:P.underlying t=some (.array n e)) (hsz:∀ w,(sizeOf e).run P w=.ok 1 w)
  (hagg:∀ w,(isAgg e).run P w=.ok false w) (xs ys:Array Value) (hx:xs.size=n) (hy:ys.size=n) (f:Nat→Bool)
  (heq:∀ i x y w,xs[i]? = some x→ys[i]? = some y→(Op.equalIn d e x y).run P w=.ok (f i) w) (w:World) :
  (Op.equalIn (d + 1) t (.agg xs) (.agg ys)).run P w=.ok ((List.range n).all f) w:=by
 simp only [Op.equalIn,Sem.run_bind,run_underlying ht,Result.andThen_ok,hsz]
 simp only [Std.Legacy.Range.forIn_eq_forIn_range',Std.Legacy.Range.size,Nat.sub_zero,Nat.add_one_sub_one,Nat.div_one]
 have key:∀ is:List Nat,(∀ i ∈ is,i<n)→(forIn is ((none:Option Bool),()) fun i __s=>do
      let __do_lift ← part e xs (i * 1)
      let __do_lift_1 ← part e ys (i * 1)
      let __do_lift ← Op.equalIn d e __do_lift __do_lift_1
      if (!__do_lift)=true then pure (ForInStep.done (some false,())) else pure (ForInStep.yield (none,()))).run P w=.ok (if is.all f then ((none:Option Bool),()) else (some false,())) w:=by
  intro is
  induction is with
  | nil=>intro _; simp
  | cons j is ih =>
   intro hall
   have hj:j<n:=hall j (by simp)
   have px:(part e xs (j * 1)).run P w=.ok xs[j] w:=by simp [part,hagg,Nat.mul_one,Array.getElem?_eq_getElem (show j<xs.size by omega)]
   have py:(part e ys (j * 1)).run P w=.ok ys[j] w:=by simp [part,hagg,Nat.mul_one,Array.getElem?_eq_getElem (show j<ys.size by omega)]
   have pe:=heq j xs[j] ys[j] w (Array.getElem?_eq_getElem (by omega)) (Array.getElem?_eq_getElem (by omega))
   simp only [List.forIn_cons,Sem.run_bind,px,py,pe,Result.andThen_ok]
   cases hf:f j
   ·simp [hf]
   ·simp only [Bool.not_true,Bool.false_eq_true,if_false,Sem.run_pure,Result.andThen_ok,ih (fun y hy=>hall y (by simp [hy])),List.all_cons,hf,Bool.true_and]
 rw [key _ (by intro i hi; simpa [List.mem_range'] using hi),← List.range_eq_range']
 cases (List.range n).all f <;> simp
theorem andB {w w1 w2:World} (h:Below w.heap.size w w1) (k:Below w1.heap.size w1 w2):Below w.heap.size w w2 :=
 h.trans (k.mono h.size)
def In64 (n:Int):Prop := -9223372036854775808≤n∧n≤9223372036854775807
instance (n:Int):Decidable (In64 n):=inferInstanceAs (Decidable (_∧_))
def InU64 (n:Int):Prop:=0≤n∧n<18446744073709551616
theorem wrap_u64 (n:Int):IntKind.u64.wrap n=n % 18446744073709551616:=by
 simp [IntKind.wrap,IntKind.signed,IntKind.bits]
theorem wrap64_def (n:Int):In64 (wrap64 n)∧wrap64 n % 18446744073709551616=n % 18446744073709551616:=by
 unfold wrap64 In64; simp [IntKind.wrap,IntKind.signed,IntKind.bits]; omega
theorem wrap64_of (n:Int) (h:In64 n):wrap64 n=n:=IntWalk.wrap64_in n h
theorem u64_of (n:Int) (h:InU64 n):IntKind.u64.wrap n=n:=by rw [wrap_u64]; unfold InU64 at h; omega
theorem In64.of_wf {n:Int} (h:(Lit.int .i64 n).wf=true):In64 n:=by
 simp [Lit.wf,IntKind.min,IntKind.max,IntKind.signed,IntKind.bits] at h
 unfold In64
 omega
theorem results_cell_and {P:Program} {fn:Func} {p u:Tmp} {ty:TypeId} (h:fn.results=#[.cell p ty,.tmp u]) (tmps:Array Value) (w:World) (g:Nat) (t:TypeId) (cs:Array Value) (d:TypeDesc) (v:Value)
  (hp:tmps.getD p undef=.pointer (some ⟨g,0,none⟩)) (hg:w.heap[g]? = some (.cells cs t (0,0)))
  (hu:P.underlying ty=some d) (hd:(match d with | .struct _ | .array _ _=>true | _=>false)=true) (hi:(P.info? ty).map (·.size)=some cs.size) (hv:tmps.getD u undef=v) :
  (results fn tmps).run P w=.ok (.tuple #[.agg cs,v]) w:=by
 have h1:=results_cell_row (P:=P) (fn:={ fn with results:=#[.cell p ty] }) rfl tmps w g t cs (0,0) d hp hg hu hd hi
 rw [results_cell_tmp h]
 have h2:((asAddr (tmps.getD p undef)).run P w).andThen (fun a w₁=>(loadVar ty a).run P w₁)=.ok (.agg cs) w:=by
  simpa [results,Sem.run_bind,Result.andThen] using h1
 rw [hp] at h2 ⊢
 simp only [asAddr,Sem.run_pure,Result.andThen_ok] at h2 ⊢
 rw [h2]
 simp only [Result.andThen_ok,hv]
end Go.Proofs.YtngnfdnfpiiclaaGreat
namespace Go.Proofs.YtngnfdnfpiiclaaGreat
open Go.RowKit
def writerOf (ops:Array Oper) (s:Nat):Option Nat:=(List.range ops.size).find? fun i=>(ops[i]?).bind (·.dst)==some s
def frOf (ops:Array Oper) (val:Nat→Value) (D:Nat→Bool) (a:Act):Act :=
 { a with tmps:=Array.ofFn (n:=a.tmps.size) fun s=>match writerOf ops s with | some i=>if D i then val i else a.tmps[s] | none=>a.tmps[s] }
def ins (i:Nat) (D:Nat→Bool):Nat→Bool:=fun j=>j==i || D j
theorem writerOf_some {ops:Array Oper} {s i:Nat} (h:writerOf ops s=some i):i<ops.size∧(ops[i]?).bind (·.dst)=some s:=by
 unfold writerOf at h
 have h1:=List.find?_some h
 have h2:=List.mem_of_find?_eq_some h
 exact ⟨by simpa using h2,by simpa using h1⟩
theorem frOf_none (ops:Array Oper) (val:Nat→Value) (a:Act):frOf ops val (fun _=>false) a=a:=by
 obtain ⟨t,d⟩:=a
 simp only [frOf]
 congr 1
 apply Array.ext
 ·simp
 ·intro i h1 h2
  simp only [Array.getElem_ofFn,Bool.false_eq_true,if_false]
  split <;> rfl
theorem frOf_congr (ops:Array Oper) (val:Nat→Value) (D D':Nat→Bool) (a:Act) (h:∀ i,i<ops.size→D i=D' i):frOf ops val D a=frOf ops val D' a:=by
 simp only [frOf]
 congr 2
 funext s
 split
 ·rename_i i hi
  rw [h i (writerOf_some hi).1]
 ·rfl
theorem frOf_put {ops:Array Oper} {val:Nat→Value} {D:Nat→Bool} {a:Act} {i:Nat} {o:Oper} (ho:ops[i]? = some o) (hd:∀ d,o.dst=some d→writerOf ops d=some i)
  {v:Value} (hv:(frOf ops val (fun _=>true) a).put o.dst v=frOf ops val (fun _=>true) a):(frOf ops val D a).put o.dst v=frOf ops val (ins i D) a:=by
 cases hdst:o.dst with
 | none =>
  simp only [Act.put]
  refine (congrArg (fun t=>({ a with tmps:=t }:Act)) ?_)
  apply Array.ext
  ·simp
  ·intro s h1 h2
   simp only [Array.getElem_ofFn]
   split
   ·rename_i j hj
    have:=(writerOf_some hj).2
    by_cases hji:j=i
    ·subst hji; simp [ho,hdst] at this
    ·simp [ins,hji]
   ·rfl
 | some d =>
  have hw:=hd d hdst
  rw [hdst] at hv
  simp only [Act.put,frOf] at hv ⊢
  have hv2:=congrArg Act.tmps hv
  simp only at hv2
  congr 1
  apply Array.ext
  ·simp
  ·intro s h1 h2
   simp only [Array.size_setIfInBounds,Array.size_ofFn] at h1
   rw [Array.getElem_setIfInBounds (by simpa using h1)]
   simp only [Array.getElem_ofFn]
   by_cases hds:d=s
   ·subst hds
    have h3:=congrArg (fun t:Array Value=>t[d]?) hv2
    simp only [Array.getElem?_setIfInBounds_self_of_lt (show d<(Array.ofFn (n:=a.tmps.size) _).size by simpa using h1)] at h3
    rw [Array.getElem?_ofFn] at h3
    simp only [h1,dif_pos,hw,if_true,Option.some.injEq] at h3
    simp [hw,ins,h3]
   ·rw [if_neg hds]
    split
    ·rename_i j hj
     have hji:j≠i:=by
      rintro rfl
      have:=(writerOf_some hj).2
      rw [ho] at this
      simp [hdst] at this
      exact hds this
     simp [ins,hji]
    ·rfl
def looksOk (ops:Array Oper) (o:Oper) (t:Tmp):Bool :=
 match writerOf ops t with
 | some j=>o.after.any fun e=>e.on==j && Region.binds .any e
 | none=>true
def notSelect:Op→Bool
 | .select ..=>false
 | _=>true
def opOk (ops:Array Oper) (i:Nat) (o:Oper):Bool :=
 (match o.dst with | some d=>writerOf ops d==some i | none=>true) && notSelect o.op && ((o.looksAt ops).all (looksOk ops o)) &&
  (o.after.all fun e=>!Region.binds .any e || decide (e.on<i))
def regionOk (ops:Array Oper):Bool:=(List.range ops.size).all fun i=>match ops[i]? with | some o=>opOk ops i o | none=>true
theorem regionOk_at {ops:Array Oper} (h:regionOk ops=true) {i:Nat} {o:Oper} (ho:ops[i]? = some o):opOk ops i o=true:=by
 have hi:i<ops.size:=by
  rcases Nat.lt_or_ge i ops.size with h' | h'
  ·exact h'
  ·simp [Array.getElem?_eq_none h'] at ho
 have:=List.all_eq_true.1 h i (by simpa using hi)
 simpa [ho] using this
def Waited (D:Nat→Bool) (o:Oper):Prop:=∀ e ∈ o.after,Region.binds .any e=true→D e.on=true
def Closed (ops:Array Oper) (D:Nat→Bool):Prop:=∀ (j:Nat) (o:Oper),ops[j]? = some o→D j=true→Waited D o
theorem frOf_look {ops:Array Oper} {val:Nat→Value} {D:Nat→Bool} {a:Act} {o:Oper} {t:Tmp} (hl:looksOk ops o t=true) (hw:Waited D o) :
  (frOf ops val D a).tmps[t]? = (frOf ops val (fun _=>true) a).tmps[t]? := by
 simp only [frOf,Array.getElem?_ofFn]
 split
 ·rename_i ht
  congr 1
  unfold looksOk at hl
  cases hwr:writerOf ops t with
  | none=>rfl
  | some j =>
   rw [hwr] at hl
   simp only [Array.any_eq_true',Bool.and_eq_true,beq_iff_eq] at hl
   obtain ⟨e,he,hj,hb⟩:=hl
   have:=hw e he hb
   rw [hj] at this
   simp [this]
 ·rfl
theorem frOf_exec {ops:Array Oper} {val:Nat→Value} {D:Nat→Bool} {a:Act} {i:Nat} {o:Oper} (hok:opOk ops i o=true) (hw:Waited D o) :
  execOp (frOf ops val D a).eval o=execOp (frOf ops val (fun _=>true) a).eval o ∧
  Region.wanted o (yielded ops (frOf ops val D a).tmps)=Region.wanted o (yielded ops (frOf ops val (fun _=>true) a).tmps):=by
 simp only [opOk,Bool.and_eq_true] at hok
 obtain ⟨⟨⟨_,hsel⟩,hlook⟩,_⟩:=hok
 rw [List.all_eq_true] at hlook
 constructor
 ·refine execOp_congr o (fun cs b h=>by rw [h] at hsel; cases hsel) fun x hx=>?_
  cases x with
  | tmp t =>
   have:=frOf_look (val:=val) (a:=a) (hlook t (List.mem_append_left _ (List.mem_filterMap.2 ⟨.tmp t,by simpa using hx,rfl⟩))) hw
   simp only [Act.eval,Act.tmps,Frame.eval] at *
   simp only [Array.getD_eq_getD_getElem?,this]
  | _=>rfl
 ·unfold Region.wanted
  cases hg:o.guard with
  | none=>rfl
  | some gw =>
   obtain ⟨g,want⟩:=gw
   have hy:yielded ops (frOf ops val D a).tmps g=yielded ops (frOf ops val (fun _=>true) a).tmps g:=by
    unfold yielded
    cases ht:(ops[g]?).bind (·.dst) with
    | none=>rfl
    | some t =>
     have:=frOf_look (val:=val) (a:=a) (hlook t (by simp [Oper.looksAt,hg,ht])) hw
     simp only [Option.bind_some,this]
   simp only [hy]
def OpTo (P:Program) (ops:Array Oper) (af:Act) (o:Oper) (w:World) (R:World→Prop):Prop :=
 if Region.wanted o (yielded ops af.tmps) then o.wp P af w (fun a' w'=>a'=af∧R w') (fun _ _ _=>False) else af.put o.dst undef=af∧R w
theorem ready_all {ops:Array Oper} (hok:regionOk ops=true) {listed:Array Bool} (hl:listed.size=ops.size) (h:Region.ready .any ops listed=[]) :
  ∀ i,i<ops.size→listed.getD i true=true:=by
 intro i
 induction i using Nat.strongRecOn with
 | _ i ih =>
  intro hi
  by_cases hd:listed.getD i true=true
  ·exact hd
  ·exfalso
   have ho:ops[i]? = some ops[i]:=Array.getElem?_eq_getElem hi
   have hk:=regionOk_at hok ho
   simp only [opOk,Bool.and_eq_true] at hk
   have hmem:i ∈ Region.ready .any ops listed:=by
    unfold Region.ready
    refine List.mem_filter.2 ⟨by simpa using hi,?_⟩
    simp only [Bool.and_eq_true,ho,Option.map_some,Option.getD_some]
    refine ⟨by simpa using hd,?_⟩
    rw [Array.all_eq_true_iff_forall_mem]
    intro e he
    cases hb:Region.binds .any e with
    | false=>rfl
    | true =>
     have h2:=(Array.all_eq_true_iff_forall_mem.1 hk.2) e he
     simp only [hb,Bool.not_true,Bool.false_or,decide_eq_true_eq] at h2
     have h3:=ih e.on h2 (by omega)
     have h4:e.on<listed.size:=by omega
     simp only [Array.getD_eq_getD_getElem?,Array.getElem?_eq_getElem h4,Option.getD_some] at h3 ⊢
     simp [h3]
   rw [h] at hmem
   cases hmem
section
variable {P:Program} {ops:Array Oper} {Q:Exit→Act→World→Prop} {val:Nat→Value} {a:Act} {I:(Nat→Bool)→World→Prop}
theorem OpTo.wpOp {i:Nat} {o:Oper} {D:Nat→Bool} {w:World} {R:World→Prop} (ho:ops[i]? = some o) (hok:opOk ops i o=true) (hwt:Waited D o)
  (h:OpTo P ops (frOf ops val (fun _=>true) a) o w R) {K:Act→World→Prop} (hK:∀ w',R w'→K (frOf ops val (ins i D) a) w') :
  wpOp P ops Q i K (frOf ops val D a) w:=by
 obtain ⟨he,hwd⟩:=frOf_exec (val:=val) (a:=a) hok hwt
 have hd:∀ d,o.dst=some d→writerOf ops d=some i:=by
  intro d hd
  simp only [opOk,Bool.and_eq_true,hd,beq_iff_eq] at hok
  exact hok.1.1.1
 unfold OpTo at h
 unfold Go.wpOp
 simp only [ho,hwd]
 split
 ·rename_i hw
  rw [if_pos hw] at h
  refine .inl ?_
  unfold Oper.wp at h ⊢
  rw [he]
  generalize (execOp (frOf ops val (fun _=>true) a).eval o).run P w=r at h
  cases r with
  | ok n w' =>
   cases n <;> simp only [Oper.upon] at h ⊢
   case value v=>rw [frOf_put ho hd h.1]; exact hK _ h.2
   case skip=>rw [frOf_put ho hd h.1]; exact hK _ h.2
   case defer d =>
    have:=congrArg Act.defers h.1
    exfalso
    cases hdst:o.dst <;> rw [hdst] at this <;> simp only [Act.put] at this <;> exact absurd (congrArg List.length this) (by simp)
   case enter f args =>
    refine Calls.mono h fun e w'' hh=>?_
    cases e with
    | returned v=>simp only at hh ⊢; rw [frOf_put ho hd hh.1]; exact hK _ hh.2
    | panicked c=>exact hh.elim
    | outgrown=>obtain ⟨_,_,hh⟩:=hh; exact hh.elim
   case row row args =>
    refine Rows.mono h fun v w'' hh=>?_
    rw [frOf_put ho hd hh.1]; exact hK _ hh.2
  | halt x w' =>
   cases x <;> simp only [Oper.upon] at h ⊢
 ·rename_i hw
  rw [if_neg hw] at h
  rw [frOf_put ho hd h.1]
  exact hK _ h.2
theorem filter_set:∀ (l:List Bool) (i:Nat),l[i]? = some false→((l.set i true).filter (! ·)).length + 1=(l.filter (! ·)).length
 | [],_,h=>by simp at h
 | b::l,0,h=>by simp at h; subst h; simp
 | b::l,i + 1,h=>by
  simp only [List.getElem?_cons_succ] at h
  have:=filter_set l i h
  simp only [List.set_cons_succ,List.filter_cons]
  cases b <;> simp <;> omega
theorem region_any (hm:P.follows .mixedOrders=true) (hok:regionOk ops=true)
  (hop:∀ (i:Nat) (o:Oper),ops[i]? = some o→∀ D w,D i=false→Waited D o→Closed ops D→I D w→OpTo P ops (frOf ops val (fun _=>true) a) o w (I (ins i D)))
  (hend:∀ D w,(∀ i,i<ops.size→D i=true)→I D w→Q .normal (frOf ops val (fun _=>true) a) w) :
  ∀ (fuel:Nat) (listed:Array Bool) (w:World),listed.size=ops.size→fuel=(listed.toList.filter (! ·)).length→Closed ops (fun i=>listed.getD i false)→I (fun i=>listed.getD i false) w →
   wpAny P .any ops Q fuel listed (frOf ops val (fun i=>listed.getD i false) a) w:=by
 have fin:∀ (listed:Array Bool) (w:World),listed.size=ops.size→I (fun i=>listed.getD i false) w→Region.ready .any ops listed=[] →
   Q .normal (frOf ops val (fun i=>listed.getD i false) a) w:=by
  intro listed w hsz hI hr
  have hall:=ready_all hok hsz hr
  have hall':∀ i,i<ops.size→listed.getD i false=true:=fun i hi=>by
   have:=hall i hi
   have h4:i<listed.size:=by omega
   simpa [Array.getD_eq_getD_getElem?,Array.getElem?_eq_getElem h4] using this
  rw [frOf_congr ops val _ (fun _=>true) a (fun i hi=>hall' i hi)]
  exact hend _ w hall' hI
 intro fuel
 induction fuel with
 | zero =>
  intro listed w hsz hf hc hI
  have hz:∀ i,i<ops.size→listed.getD i true=true:=by
   intro i hi
   have h4:i<listed.size:=by omega
   have h5:listed[i] ∈ listed.toList:=by simp
   have h6:=List.filter_eq_nil_iff.1 (List.length_eq_zero_iff.1 hf.symm) _ h5
   simp only [Array.getD_eq_getD_getElem?,Array.getElem?_eq_getElem h4,Option.getD_some]
   simpa using h6
  have hr:Region.ready .any ops listed=[]:=by
   unfold Region.ready
   refine List.filter_eq_nil_iff.2 fun i hi=>?_
   have hi':i<ops.size:=by simpa using hi
   simp [hz i hi']
  exact ⟨hr,fin listed w hsz hI hr⟩
 | succ fuel ih =>
  intro listed w hsz hf hc hI
  refine ⟨fin listed w hsz hI,fun i hi=>?_⟩
  obtain ⟨hun,o,ho,hall⟩:=mem_ready.1 hi
  have hisz:i<listed.size:=by
   rcases Nat.lt_or_ge i listed.size with h' | h'
   ·exact h'
   ·simp [Array.getElem?_eq_none h'] at hun
  have hun':listed.getD i false=false:=by simpa [Array.getD_eq_getD_getElem?,Array.getElem?_eq_getElem hisz] using hun
  have hwt:Waited (fun i=>listed.getD i false) o:=fun e he hb=>hall e he hb
  refine OpTo.wpOp ho (regionOk_at hok ho) hwt (hop i o ho _ w hun' hwt hc hI) fun w' hw'=>?_
  have heq:(ins i fun i=>listed.getD i false)=fun j=>(listed.setIfInBounds i true).getD j false:=by
   funext j
   simp only [ins,Array.getD_eq_getD_getElem?]
   by_cases hji:j=i
   ·subst hji; simp [Array.getElem?_setIfInBounds_self_of_lt hisz]
   ·rw [Array.getElem?_setIfInBounds_ne (Ne.symm hji)]; simp [hji]
  rw [heq] at hw' ⊢
  refine ih _ w' (by simpa using hsz) ?_ ?_ hw'
  ·have hlen:((listed.setIfInBounds i true).toList.filter (! ·)).length + 1=(listed.toList.filter (! ·)).length:=by
    simp only [Array.toList_setIfInBounds]
    have hfa:listed.toList[i]? = some false:=by
     simp only [Array.getD_eq_getD_getElem?,Array.getElem?_eq_getElem hisz,Option.getD_some] at hun
     simp [hisz,hun]
    exact filter_set _ _ hfa
   omega
  ·intro j oj hoj hj e he hb
   rw [← heq] at hj ⊢
   simp only [ins,Bool.or_eq_true,beq_iff_eq] at hj ⊢
   rcases hj with rfl | hj
   ·rw [ho] at hoj; cases hoj
    exact .inr (hwt e he hb)
   ·exact .inr (hc j oj hoj hj e he hb)
def puts (val:Nat→Value):Nat→List Oper→Act→Act
 | _,[],a=>a
 | i,o::r,a=>puts val (i + 1) r (a.put o.dst (val i))
theorem puts_eq (hok:regionOk ops=true) (hself:∀ (i:Nat) (o:Oper),ops[i]? = some o→(frOf ops val (fun _=>true) a).put o.dst (val i)=frOf ops val (fun _=>true) a) :
  ∀ (k:Nat) (l:List Oper),(∀ j,l[j]? = ops[k + j]?)→k + l.length=ops.size→puts val k l (frOf ops val (fun j=>decide (j<k)) a)=frOf ops val (fun _=>true) a
 | k,[],_,hk=>by
  simp only [puts]
  exact frOf_congr ops val _ _ a fun i hi=>by simp at hk; simp; omega
 | k,o::r,h,hk=>by
  have ho:ops[k]? = some o:=by simpa using (h 0).symm
  simp only [puts]
  have hd:∀ d,o.dst=some d→writerOf ops d=some k:=by
   intro d hd
   have:=regionOk_at hok ho
   simp only [opOk,Bool.and_eq_true,hd,beq_iff_eq] at this
   exact this.1.1.1
  rw [frOf_put ho hd (hself k o ho),frOf_congr ops val _ (fun j=>decide (j<k + 1)) a (fun i _=>by simp only [ins]; rw [Bool.eq_iff_iff]; simp; omega)]
  exact puts_eq hok hself (k + 1) r (fun j=>by have:=h (j + 1); simpa [Nat.add_assoc,Nat.add_comm 1 j] using this) (by simp at hk; omega)
theorem frOf_self (hok:regionOk ops=true) {i:Nat} {o:Oper} (ho:ops[i]? = some o):(frOf ops val (fun _=>true) a).put o.dst (val i)=frOf ops val (fun _=>true) a:=by
 cases hdst:o.dst with
 | none=>rfl
 | some d =>
  have hw:writerOf ops d=some i:=by
   have:=regionOk_at hok ho
   simp only [opOk,Bool.and_eq_true,hdst,beq_iff_eq] at this
   exact this.1.1.1
  simp only [Act.put]
  refine congrArg (fun t=>({ (frOf ops val (fun _=>true) a) with tmps:=t }:Act)) ?_
  apply Array.ext
  ·simp [frOf]
  ·intro s h1 h2
   rw [Array.getElem_setIfInBounds (by simpa using h1)]
   by_cases hds:d=s
   ·subst hds
    simp [frOf,hw]
   ·rw [if_neg hds]
    simp [frOf]
theorem frOf_puts (hok:regionOk ops=true):frOf ops val (fun _=>true) a=puts val 0 ops.toList a:=by
 have:=puts_eq (val:=val) (a:=a) hok (fun i o ho=>frOf_self hok ho) 0 ops.toList (fun j=>by simp) (by simp)
 rw [← this]
 congr 1
 rw [frOf_congr ops val _ (fun _=>false) a (fun i _=>by simp),frOf_none]
theorem region_same {id:Nat} {w:World} (hm:P.follows .mixedOrders=true) (val:Nat→Value) (S:World→Prop) (hok:regionOk ops=true)
  (h0:S w.drew) (af:Act) (haf:puts val 0 ops.toList a=af)
  (hop:∀ (i:Nat) (o:Oper),ops[i]? = some o→∀ w',S w'→OpTo P ops af o w' S)
  (hend:∀ w',S w'→Q .normal af w'):(Code.region id ops true).wp P Q a w:=by
 refine wp_region_any hm ?_
 have haf':frOf ops val (fun _=>true) a=af:=by rw [frOf_puts hok,haf]
 have hfr:=frOf_none ops val a
 have key:=region_any (P:=P) (Q:=Q) (val:=val) (a:=a) (I:=fun _ w'=>S w') hm hok
  (fun i o ho D w' hDi hw hc hI=>by rw [haf']; exact hop i o ho w' hI)
  (fun D w' hall hI=>by rw [haf']; exact hend w' hI)
  ops.size (Array.replicate ops.size false) w.drew (by simp) (by simp) (fun j o ho hj=>by
   simp [Array.getD_eq_getD_getElem?,Array.getElem?_replicate] at hj
   split at hj <;> simp at hj) h0
 have hz:(fun i=>(Array.replicate ops.size false).getD i false)=fun _=>false:=by
  funext i; simp [Array.getD_eq_getD_getElem?,Array.getElem?_replicate]; split <;> rfl
 rw [hz,hfr] at key
 exact key
def EachTo (P:Program) (ops:Array Oper) (af:Act) (S:World→Prop):List Oper→Prop
 | []=>True
 | o::r=>(∀ w',S w'→OpTo P ops af o w' S)∧EachTo P ops af S r
theorem EachTo.at {af:Act} {S:World→Prop}:∀ {l:List Oper},EachTo P ops af S l→∀ {i:Nat} {o:Oper},l[i]? = some o→∀ w',S w'→OpTo P ops af o w' S
 | [],_,i,o,h=>by simp at h
 | o::r,h,0,o',ho=>by simp at ho; subst ho; exact h.1
 | o::r,h,i + 1,o',ho=>EachTo.at h.2 (by simpa using ho)
theorem OpTo.plain {af:Act} {o:Oper} {w:World} {R:World→Prop} (hg:o.guard=none) (h:o.wp P af w (fun a' w'=>a'=af∧R w') (fun _ _ _=>False)):OpTo P ops af o w R:=by
 unfold OpTo
 rw [if_pos (by simp [Region.wanted,hg])]
 exact h
theorem region_still {id:Nat} {w:World} (hm:P.follows .mixedOrders=true) (vals:List Value) (S:World→Prop) (hok:regionOk ops=true) (h0:S w.drew)
  (h:∀ af,puts (fun i=>vals.getD i undef) 0 ops.toList a=af→EachTo P ops af S ops.toList∧∀ w',S w'→Q .normal af w') :
  (Code.region id ops true).wp P Q a w:=by
 obtain ⟨h1,h2⟩:=h _ rfl
 refine region_same hm (fun i=>vals.getD i undef) S hok h0 _ rfl ?_ h2
 intro i o ho w' hS
 exact h1.at (i:=i) (by simpa using ho) w' hS
def EachIn (P:Program) (ops:Array Oper) (af:Act) (I:(Nat→Bool)→World→Prop):Nat→List Oper→Prop
 | _,[]=>True
 | k,o::r=>(∀ D w',D k=false→Waited D o→Closed ops D→I D w'→OpTo P ops af o w' (I (ins k D)))∧EachIn P ops af I (k + 1) r
theorem EachIn.at {af:Act} {I:(Nat→Bool)→World→Prop}:∀ {l:List Oper} {k:Nat},EachIn P ops af I k l→∀ {i:Nat} {o:Oper},l[i]? = some o→∀ D w',D (k + i)=false→Waited D o→Closed ops D→I D w'→OpTo P ops af o w' (I (ins (k + i) D))
 | [],_,_,i,o,h=>by simp at h
 | o::r,k,h,0,o',ho=>by simp at ho; subst ho; exact h.1
 | o::r,k,h,i + 1,o',ho=>by
  have:=EachIn.at h.2 (i:=i) (by simpa using ho)
  rwa [show k + (i + 1)=k + 1 + i by omega]
theorem region_inv {id:Nat} {w:World} (hm:P.follows .mixedOrders=true) (vals:List Value) (I:(Nat→Bool)→World→Prop) (hok:regionOk ops=true) (h0:I (fun _=>false) w.drew)
  (h:∀ af,puts (fun i=>vals.getD i undef) 0 ops.toList a=af→EachIn P ops af I 0 ops.toList∧∀ D w',(∀ i,i<ops.size→D i=true)→I D w'→Q .normal af w') :
  (Code.region id ops true).wp P Q a w:=by
 obtain ⟨h1,h2⟩:=h _ rfl
 refine wp_region_any hm ?_
 have haf':frOf ops (fun i=>vals.getD i undef) (fun _=>true) a=puts (fun i=>vals.getD i undef) 0 ops.toList a:=frOf_puts hok
 have hfr:=frOf_none ops (fun i=>vals.getD i undef) a
 have hz:(fun i=>(Array.replicate ops.size false).getD i false)=fun _=>false:=by
  funext i; simp [Array.getD_eq_getD_getElem?,Array.getElem?_replicate]; split <;> rfl
 have key:=region_any (P:=P) (Q:=Q) (val:=fun i=>vals.getD i undef) (a:=a) (I:=I) hm hok
  (fun i o ho D w' hDi hw hc hI=>by
   rw [haf']
   have:=h1.at (i:=i) (o:=o) (by simpa using ho) D w' (by simpa using hDi) hw hc hI
   simpa using this)
  (fun D w' hall hI=>by rw [haf']; exact h2 D w' hall hI)
  ops.size (Array.replicate ops.size false) w.drew (by simp) (by simp) (fun j o ho hj=>by
   simp [Array.getD_eq_getD_getElem?,Array.getElem?_replicate] at hj
   split at hj <;> simp at hj) (by rw [hz]; exact h0)
 rw [hz,hfr] at key
 exact key
end
end Go.Proofs.YtngnfdnfpiiclaaGreat
namespace Go.Proofs.YtngnfdnfpiiclaaGreat
open Go.RowKit
theorem frOf_vals (ops:Array Oper) (val val':Nat→Value) (D:Nat→Bool) (a:Act) (h:∀ i,i<ops.size→D i=true→val i=val' i):frOf ops val D a=frOf ops val' D a:=by
 simp only [frOf]
 congr 2
 funext s
 split
 ·rename_i i hi
  by_cases hD:D i=true
  ·rw [if_pos hD,if_pos hD,h i (writerOf_some hi).1 hD]
  ·rw [if_neg hD,if_neg hD]
 ·rfl
section
variable {P:Program} {ops:Array Oper} {Q:Exit→Act→World→Prop} {a:Act}
theorem region_anyG {G:Type} {val:G→Nat→Value} {I:G→(Nat→Bool)→World→Prop} (hok:regionOk ops=true)
  (hop:∀ (i:Nat) (o:Oper),ops[i]? = some o→∀ g D w,D i=false→Waited D o→Closed ops D→I g D w →
   ∃ g',(∀ j,j<ops.size→D j=true→val g j=val g' j)∧OpTo P ops (frOf ops (val g') (fun _=>true) a) o w (I g' (ins i D)))
  (hend:∀ g D w,(∀ i,i<ops.size→D i=true)→I g D w→Q .normal (frOf ops (val g) (fun _=>true) a) w) :
  ∀ (fuel:Nat) (listed:Array Bool) (g:G) (w:World),listed.size=ops.size→fuel=(listed.toList.filter (! ·)).length→Closed ops (fun i=>listed.getD i false)→I g (fun i=>listed.getD i false) w →
   wpAny P .any ops Q fuel listed (frOf ops (val g) (fun i=>listed.getD i false) a) w:=by
 have fin:∀ (listed:Array Bool) (g:G) (w:World),listed.size=ops.size→I g (fun i=>listed.getD i false) w→Region.ready .any ops listed=[] →
   Q .normal (frOf ops (val g) (fun i=>listed.getD i false) a) w:=by
  intro listed g w hsz hI hr
  have hall:=ready_all hok hsz hr
  have hall':∀ i,i<ops.size→listed.getD i false=true:=fun i hi=>by
   have:=hall i hi
   have h4:i<listed.size:=by omega
   simpa [Array.getD_eq_getD_getElem?,Array.getElem?_eq_getElem h4] using this
  rw [frOf_congr ops (val g) _ (fun _=>true) a (fun i hi=>hall' i hi)]
  exact hend g _ w hall' hI
 intro fuel
 induction fuel with
 | zero =>
  intro listed g w hsz hf hc hI
  have hz:∀ i,i<ops.size→listed.getD i true=true:=by
   intro i hi
   have h4:i<listed.size:=by omega
   have h5:listed[i] ∈ listed.toList:=by simp
   have h6:=List.filter_eq_nil_iff.1 (List.length_eq_zero_iff.1 hf.symm) _ h5
   simp only [Array.getD_eq_getD_getElem?,Array.getElem?_eq_getElem h4,Option.getD_some]
   simpa using h6
  have hr:Region.ready .any ops listed=[]:=by
   unfold Region.ready
   refine List.filter_eq_nil_iff.2 fun i hi=>?_
   have hi':i<ops.size:=by simpa using hi
   simp [hz i hi']
  exact ⟨hr,fin listed g w hsz hI hr⟩
 | succ fuel ih =>
  intro listed g w hsz hf hc hI
  refine ⟨fin listed g w hsz hI,fun i hi=>?_⟩
  obtain ⟨hun,o,ho,hall⟩:=mem_ready.1 hi
  have hisz:i<listed.size:=by
   rcases Nat.lt_or_ge i listed.size with h' | h'
   ·exact h'
   ·simp [Array.getElem?_eq_none h'] at hun
  have hun':listed.getD i false=false:=by simpa [Array.getD_eq_getD_getElem?,Array.getElem?_eq_getElem hisz] using hun
  have hwt:Waited (fun i=>listed.getD i false) o:=fun e he hb=>hall e he hb
  obtain ⟨g',hag,hop'⟩:=hop i o ho g _ w hun' hwt hc hI
  rw [frOf_vals ops (val g) (val g') _ a hag]
  refine OpTo.wpOp ho (regionOk_at hok ho) hwt hop' fun w' hw'=>?_
  have heq:(ins i fun i=>listed.getD i false)=fun j=>(listed.setIfInBounds i true).getD j false:=by
   funext j
   simp only [ins,Array.getD_eq_getD_getElem?]
   by_cases hji:j=i
   ·subst hji; simp [Array.getElem?_setIfInBounds_self_of_lt hisz]
   ·rw [Array.getElem?_setIfInBounds_ne (Ne.symm hji)]; simp [hji]
  rw [heq] at hw' ⊢
  refine ih _ g' w' (by simpa using hsz) ?_ ?_ hw'
  ·have hlen:((listed.setIfInBounds i true).toList.filter (! ·)).length + 1=(listed.toList.filter (! ·)).length:=by
    simp only [Array.toList_setIfInBounds]
    have hfa:listed.toList[i]? = some false:=by
     simp only [Array.getD_eq_getD_getElem?,Array.getElem?_eq_getElem hisz,Option.getD_some] at hun
     simp [hisz,hun]
    exact filter_set _ _ hfa
   omega
  ·intro j oj hoj hj e he hb
   rw [← heq] at hj ⊢
   simp only [ins,Bool.or_eq_true,beq_iff_eq] at hj ⊢
   rcases hj with rfl | hj
   ·rw [ho] at hoj; cases hoj
    exact .inr (hwt e he hb)
   ·exact .inr (hc j oj hoj hj e he hb)
def EachG {G:Type} (P:Program) (ops:Array Oper) (vals:G→List Value) (AF:G→Act) (I:G→(Nat→Bool)→World→Prop):Nat→List Oper→Prop
 | _,[]=>True
 | k,o::r=>(∀ g D w',D k=false→Waited D o→Closed ops D→I g D w' →
   ∃ g',(∀ j,j<ops.size→D j=true→(vals g).getD j undef=(vals g').getD j undef)∧OpTo P ops (AF g') o w' (I g' (ins k D)))∧EachG P ops vals AF I (k + 1) r
theorem EachG.at {G:Type} {vals:G→List Value} {AF:G→Act} {I:G→(Nat→Bool)→World→Prop}:∀ {l:List Oper} {k:Nat},EachG P ops vals AF I k l→∀ {i:Nat} {o:Oper},l[i]? = some o→∀ g D w',D (k + i)=false→Waited D o→Closed ops D→I g D w' →
   ∃ g',(∀ j,j<ops.size→D j=true→(vals g).getD j undef=(vals g').getD j undef)∧OpTo P ops (AF g') o w' (I g' (ins (k + i) D))
 | [],_,_,i,o,h=>by simp at h
 | o::r,k,h,0,o',ho=>by simp at ho; subst ho; exact h.1
 | o::r,k,h,i + 1,o',ho=>by
  have:=EachG.at h.2 (i:=i) (by simpa using ho)
  rwa [show k + (i + 1)=k + 1 + i by omega]
theorem region_ghost {id:Nat} {w:World} (hm:P.follows .mixedOrders=true) {G:Type} (vals:G→List Value) (I:G→(Nat→Bool)→World→Prop) (hok:regionOk ops=true) (g0:G) (h0:I g0 (fun _=>false) w.drew)
  (h:∀ AF:G→Act,(∀ g,puts (fun i=>(vals g).getD i undef) 0 ops.toList a=AF g) →
   EachG P ops vals AF I 0 ops.toList∧∀ g D w',(∀ i,i<ops.size→D i=true)→I g D w'→Q .normal (AF g) w') :
  (Code.region id ops true).wp P Q a w:=by
 obtain ⟨h1,h2⟩:=h _ (fun _=>rfl)
 refine wp_region_any hm ?_
 have haf':∀ g,frOf ops (fun i=>(vals g).getD i undef) (fun _=>true) a=puts (fun i=>(vals g).getD i undef) 0 ops.toList a:=fun g=>frOf_puts hok
 have hz:(fun i=>(Array.replicate ops.size false).getD i false)=fun _=>false:=by
  funext i; simp [Array.getD_eq_getD_getElem?,Array.getElem?_replicate]; split <;> rfl
 have key:=region_anyG (P:=P) (Q:=Q) (val:=fun g i=>(vals g).getD i undef) (a:=a) (I:=I) hok
  (fun i o ho g D w' hDi hw hc hI=>by
   have:=h1.at (i:=i) (o:=o) (by simpa using ho) g D w' (by simpa using hDi) hw hc hI
   obtain ⟨g',hag,hop⟩:=this
   refine ⟨g',hag,?_⟩
   rw [haf' g']
   simpa using hop)
  (fun g D w' hall hI=>by rw [haf' g]; exact h2 g D w' hall hI)
  ops.size (Array.replicate ops.size false) g0 w.drew (by simp) (by simp) (fun j o ho hj=>by
   simp [Array.getD_eq_getD_getElem?,Array.getElem?_replicate] at hj
   split at hj <;> simp at hj) (by rw [hz]; exact h0)
 have hfr:=frOf_none ops (fun i=>(vals g0).getD i undef) a
 simp only [hz] at key
 rw [hfr] at key
 exact key
end
theorem OpTo.wanted {P:Program} {ops:Array Oper} {af:Act} {o:Oper} {w:World} {R:World→Prop} (hw:Region.wanted o (yielded ops af.tmps)=true) (h:o.wp P af w (fun a' w'=>a'=af∧R w') (fun _ _ _=>False)):OpTo P ops af o w R:=by
 unfold OpTo
 rw [if_pos hw]
 exact h
end Go.Proofs.YtngnfdnfpiiclaaGreat
