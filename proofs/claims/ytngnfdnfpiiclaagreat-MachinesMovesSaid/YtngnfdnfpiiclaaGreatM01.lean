/- Pieces of one proof. -/
import Derived.Test.YtngnfdnfpiiclaaGreatRows
import Derived.WalkKit
import Derived.WalkSpells
import Derived.WalkLawsBesides
import Derived.Lib.Hide
import Derived.BigQuiet
import Derived.Deep.RegionHeld3
import Derived.Deep.QuietTactic
import Derived.Deep.DeepCutAuto
import Derived.Deep.DeepFit
import Derived.Orders
import Derived.Laws.Tables
import Derived.Laws.CopyOwn
import Derived.OwnWalk
import Derived.Laws.AppendOwnNone
set_option linter.all false
set_option maxHeartbeats 64000000
set_option maxRecDepth 100000
namespace Go.Proofs.YtngnfdnfpiiclaaGreat
open Go.RowKit
def Blk(w:World)(g:Nat)(cs:Array Value)(t:TypeId):Prop:=w.heap[g]? = some (.cells cs t (0,0))
theorem Blk.out{w:World}{g:Nat}{cs:Array Value}{t:TypeId}(h:Blk w g cs t):w.heap[g]? = some (.cells cs t (0,0)):=h
theorem Blk.lt{w:World}{g:Nat}{cs:Array Value}{t:TypeId}(h:Blk w g cs t):g<w.heap.size:=lt_of_block h
theorem Blk.cell{w:World}{g:Nat}{cs:Array Value}{t:TypeId}(h:Blk w g cs t)(i:Nat):w.cell? ⟨g,i,none⟩=cs[i]? := by
 unfold Blk at h;simp[World.cell?,h]
theorem Blk.frozen{w:World}{g:Nat}{cs:Array Value}{t:TypeId}(h:Blk w g cs t)(i:Nat):w.frozen? ⟨g,i,none⟩=false:=by
 unfold Blk at h;simp[World.frozen?,h]
theorem Blk.set{w:World}{g:Nat}{cs:Array Value}{t:TypeId}(h:Blk w g cs t)(i:Nat)(v:Value):Blk (w.setCell ⟨g,i,none⟩ v) g (cs.setIfInBounds i v) t:=by
 have hlt:=h.lt;have h':w.heap[g]=.cells cs t (0,0):=by unfold Blk at h;simpa [Array.getElem?_eq_getElem hlt]using h
 show(w.heap.modify g _)[g]? = _;rw[Array.getElem?_eq_getElem (by simpa using hlt),Array.getElem_modify_self,h'];rfl
theorem Blk.setOther{w:World}{g:Nat}{cs:Array Value}{t:TypeId}(h:Blk w g cs t){a:Addr}(ha:g≠a.block)(v:Value):Blk (w.setCell a v) g cs t:=by
 unfold Blk;rw[Below.heap_setCell _ _ _ _ ha];exact h
theorem Blk.alloc{w:World}{g:Nat}{cs:Array Value}{t:TypeId}(h:Blk w g cs t)(o:Obj):Blk (w.alloc o) g cs t:=by
 unfold Blk;rw[Below.heap_alloc _ _ _ h.lt];exact h
theorem Blk.drew{w:World}{g:Nat}{cs:Array Value}{t:TypeId}(h:Blk w g cs t):Blk w.drew g cs t:=h
theorem Blk.below{w w':World}{g B:Nat}{cs:Array Value}{t:TypeId}(h:Blk w g cs t)(hb:Below B w w')(hg:g<B):Blk w' g cs t:=by
 unfold Blk;rw[hb.block g hg];exact h
theorem Blk.new(w:World)(cs:Array Value)(t:TypeId):Blk (w.alloc (.cells cs t)) w.heap.size cs t:=by
 show(w.heap.push _)[w.heap.size]? = _;simp
theorem pAA{B:Nat}{w w':World}(h:Below B w.drew w'):Below B w w':=⟨h.os,h.tape,h.output,h.size,h.block⟩
theorem bcell{W w1:World}(hb:Below W.heap.size W w1):(∀b o,b<W.heap.size→w1.cell? ⟨b,o,none⟩=W.cell? ⟨b,o,none⟩)∧(∀b o,b<W.heap.size→w1.frozen? ⟨b,o,none⟩=W.frozen? ⟨b,o,none⟩):=
 ⟨fun b o h=>hb.cell (p:=⟨b,o,none⟩) h,fun b o h=>hb.frozen (p:=⟨b,o,none⟩) h⟩
theorem pAB(w:World)(cs:Array Value)(t:TypeId){g:Nat}(h:g=w.heap.size):Blk (w.alloc (.cells cs t)) g cs t:=by subst h;exact Blk.new w cs t
theorem keepB{W w1:World}(hb:Below W.heap.size W w1){g:Nat}(hg:g<W.heap.size):
  (∀o,w1.cell? ⟨g,o,none⟩=W.cell? ⟨g,o,none⟩)∧(∀o,w1.frozen? ⟨g,o,none⟩=W.frozen? ⟨g,o,none⟩)∧g<w1.heap.size:=
 ⟨fun o=>hb.cell (p:=⟨g,o,none⟩) hg,fun o=>hb.frozen (p:=⟨g,o,none⟩) hg,Nat.lt_of_lt_of_le hg hb.size⟩
theorem aJ7{P:Program}(d:Nat)(t e:TypeId)(n:Nat)(ht:P.underlying t=some (.array n e))(hsz:∀w,(sizeOf e).run P w=.ok 1 w)
  (hagg:∀w,(isAgg e).run P w=.ok false w)(xs ys:Array Value)(hx:xs.size=n)(hy:ys.size=n)(f:Nat→Bool)
  (heq:∀i x y w,xs[i]? = some x→ys[i]? = some y→(Op.equalIn d e x y).run P w=.ok (f i) w)(w:World):
  (Op.equalIn (d+1) t (.agg xs) (.agg ys)).run P w=.ok ((List.range n).all f) w:=by
 simp only[Op.equalIn,Sem.run_bind,run_underlying ht,Result.andThen_ok,hsz];simp only[Std.Legacy.Range.forIn_eq_forIn_range',Std.Legacy.Range.size,Nat.sub_zero,Nat.add_one_sub_one,Nat.div_one]
 have key:∀is:List Nat,(∀i∈is,i<n)→(forIn is ((none:Option Bool),()) fun i __s=>do
      let __do_lift ←part e xs (i*1)
      let __do_lift_1 ←part e ys (i*1)
      let __do_lift ←Op.equalIn d e __do_lift __do_lift_1
      if(!__do_lift)=true then pure (ForInStep.done (some false,()))else pure (ForInStep.yield (none,()))).run P w=.ok (if is.all f then((none:Option Bool),())else(some false,())) w:=by
  intro is
  induction is with
  | nil=>intro _;simp
  | cons j is ih=>
   intro hall;have hj:j<n:=hall j (by simp);have px:(part e xs (j*1)).run P w=.ok xs[j] w:=by simp[part,hagg,Nat.mul_one,Array.getElem?_eq_getElem (show j<xs.size by omega)]
   have py:(part e ys (j*1)).run P w=.ok ys[j] w:=by simp[part,hagg,Nat.mul_one,Array.getElem?_eq_getElem (show j<ys.size by omega)]
   have pe:=heq j xs[j] ys[j] w (Array.getElem?_eq_getElem (by omega)) (Array.getElem?_eq_getElem (by omega));simp only[List.forIn_cons,Sem.run_bind,px,py,pe,Result.andThen_ok]
   cases hf:f j
   ·simp[hf]
   simp only[Bool.not_true,Bool.false_eq_true,if_false,Sem.run_pure,Result.andThen_ok,ih (fun y hy=>hall y (by simp[hy])),List.all_cons,hf,Bool.true_and]
 rw[key _ (by intro i hi;simpa [List.mem_range']using hi),←List.range_eq_range']
 cases (List.range n).all f <;> simp
theorem andB{w w1 w2:World}(h:Below w.heap.size w w1)(k:Below w1.heap.size w1 w2):Below w.heap.size w w2:=
 h.trans (k.mono h.size)
def In64(n:Int):Prop := -9223372036854775808≤n∧n≤9223372036854775807
instance(n:Int):Decidable (In64 n):=inferInstanceAs (Decidable (_∧_))
def aD8(n:Int):Prop:=0≤n∧n<18446744073709551616
theorem aB1(n:Int):IntKind.u64.wrap n=n%18446744073709551616:=by
 simp[IntKind.wrap,IntKind.signed,IntKind.bits]
theorem aN6(n:Int):In64 (wrap64 n)∧wrap64 n%18446744073709551616=n%18446744073709551616:=by
 unfold wrap64 In64;simp[IntKind.wrap,IntKind.signed,IntKind.bits];omega
theorem aDk(n:Int)(h:In64 n):wrap64 n=n:=IntWalk.wrap64_in n h
theorem aKx(n:Int)(h:aD8 n):IntKind.u64.wrap n=n:=by rw[aB1];unfold aD8 at h;omega
theorem In64.of_wf{n:Int}(h:(Lit.int .i64 n).wf=true):In64 n:=by
 simp[Lit.wf,IntKind.min,IntKind.max,IntKind.signed,IntKind.bits]at h;unfold In64;omega
theorem aAj{P:Program}{fn:Func}{p u:Tmp}{ty:TypeId}(h:fn.results=#[.cell p ty,.tmp u])(tmps:Array Value)(w:World)(g:Nat)(t:TypeId)(cs:Array Value)(d:TypeDesc)(v:Value)
  (hp:tmps.getD p undef=.pointer (some ⟨g,0,none⟩))(hg:w.heap[g]? = some (.cells cs t (0,0)))
  (hu:P.underlying ty=some d)(hd:(match d with | .struct _ | .array _ _=>true|_=>false)=true)(hi:(P.info? ty).map (·.size)=some cs.size)(hv:tmps.getD u undef=v):
  (results fn tmps).run P w=.ok (.tuple #[.agg cs,v]) w:=by
 have h1:=results_cell_row (P:=P) (fn:={ fn with results:=#[.cell p ty] }) rfl tmps w g t cs (0,0) d hp hg hu hd hi;rw[results_cell_tmp h]
 have h2:((asAddr (tmps.getD p undef)).run P w).andThen (fun a w₁=>(loadVar ty a).run P w₁)=.ok (.agg cs) w:=by
  simpa [results,Sem.run_bind,Result.andThen]using h1
 rw[hp]at h2 ⊢;simp only[asAddr,Sem.run_pure,Result.andThen_ok]at h2 ⊢;rw[h2];simp only[Result.andThen_ok,hv]
abbrev yR(w:World)(X:Value)(e:Ending)(w':World):Prop:=e=.returned X∧Below w.heap.size w w'
abbrev yS(w:World)(X:Value)(e:Ending)(w':World):Prop:=e=.returned X∧w=w'
abbrev yV(w:World)(X:Value)(e:Ending)(w':World):Prop:=e=.returned X∧w'=w
theorem yH{p:Prop}(h:p):Hid p:=h
theorem _root_.Go.RowKit.Hid.o{p:Prop}(h:Go.RowKit.Hid p):p:=h
theorem yB{w w':World}{g:Nat}{cs:Array Value}{t:TypeId}(h:Hid (Blk w g cs t))(k:Below w.heap.size w w'):Hid (Blk w' g cs t):=Blk.below h k (Blk.lt h)
theorem yT{a w w':World}(h:Hid (Below a.heap.size a w))(k:Below w.heap.size w w'):Hid (Below a.heap.size a w'):=h.out.trans (k.mono h.out.size)
theorem yA{A:Type}{a d:A}{l:List A}:(a::l).getD 0 d=a:=List.getD_cons_zero
theorem yC{A:Type}{a d:A}{l:List A}{n:Nat}:(a::l).getD (n+1) d=l.getD n d:=List.getD_cons_succ
theorem yD{A:Type}{a x:A}{l:List A}{n:Nat}:(a::l).set (n+1) x=a::l.set n x:=List.set_cons_succ
theorem yE{A:Type}{a x:A}{l:List A}:(a::l).set 0 x=x::l:=List.set_cons_zero
theorem yF{A:Type}{a:A}{l:List A}{n:Nat}:l.toArray.setIfInBounds n a=(l.set n a).toArray:=List.setIfInBounds_toArray _ _ _
theorem yG{A:Type}{l:List A}:l.toArray.toList=l:=List.toList_toArray
theorem yI{A:Type}{a b:A}{l:List A}:a∈b::l↔a=b∨a∈l:=List.mem_cons
theorem yJ{A:Type}{a:A}:¬a∈([]:List A):=by simp
theorem yL{n:Nat}:n≤n:=Nat.le_refl n
theorem yM{a b c:Nat}(h:a<b)(k:b≤c):a<c:=Nat.lt_of_lt_of_le h k
theorem yZ{B:Nat}{w:World}:Below B w w:=Below.refl _ _
theorem zQ{P:Prop}(h:P:=by omega):P:=h
theorem zW{P:Prop}(h:P:=by kernel_rfl):P:=h
theorem zX{P:Prop}(h:P:=by decide):P:=h
theorem zV{P:Prop}(h:P:=by simp):P:=h
theorem zU{P:Prop}(h:P:=by simp;omega):P:=h
theorem zK{P:Prop}(h:P:=by simp[Value.oneCell']):P:=h
theorem zP{P:Prop}(h:P:=by rfl):P:=h
theorem zN{P:Prop}(h:P:=by simp[intOf];omega):P:=h
theorem zR{P:Prop}(h:P:=by simpa using h1):P:=h
theorem zS{P:Prop}(h:P:=by rw[EE.o.1];rfl):P:=h
theorem zT{P:Prop}(h:P:=by rw[E.o];rfl):P:=h
theorem zF{P:Prop}(h:P:=by simpa using h2):P:=h
theorem zG{P:Prop}(h:P:=by have:=GE.o;omega):P:=h
theorem zH{P:Prop}(h:P:=by have:=GE3.o;omega):P:=h
theorem zJ{P:Prop}(h:P:=by rw[EE.o.2];exact H3.o):P:=h
theorem zL{P:Prop}(h:P:=by simpa using B1.o.size):P:=h
theorem zM{P:Prop}(h:P:=by unfold aCl;simp):P:=h
theorem zZ{P:Prop}(h:P:=by show w.heap.size≤w.heap.size+3;omega):P:=h
theorem zA{P:Prop}(h:P:=by rw[List.mem_take_iff_getElem];exact⟨j,by omega,rfl⟩):P:=h
theorem zB{P:Prop}(h:P:=by have:=BB.o.size;simp;omega):P:=h
theorem zC{P:Prop}(h:P:=by unfold aA7;rw[k];rfl):P:=h
theorem zD{P:Prop}(h:P:=by unfold aAo;rw[if_neg (by omega),if_neg (not_or.2 ⟨fun k=>k pa,fun k=>k pb⟩),aAk hl,if_neg l3,if_neg (by intro k;rw[hl]at k;cases k.1)]):P:=h
theorem zE{P:Prop}(h:P:=by unfold maxLen;omega):P:=h
theorem zI{P:Prop}(h:P:=by rw[b1.cell (p:=⟨b,j,none⟩) hbl];exact HC.o j hj):P:=h
theorem zO{P:Prop}(h:P:=by rw[HN.o];omega):P:=h
theorem zY{P:Prop}(h:P:=by rw[List.map_append,List.map_cons,show lnKV y=(aE7 x.cr x.de x.cu,amtV y.li y.db) by unfold lnKV;rw[e1,e2,e3]]):P:=h
theorem yQ{P:Prop}(h:P:=by rw[HD.o];exact Bool.false_ne_true):P:=h
theorem yW{P:Prop}(h:P:=by simpa using ho):P:=h
theorem yX{P:Prop}(h:P:=by have:=(aAf OO3.o h).1;have:=GE.o;have:=HWS.o;omega):P:=h
theorem yU{P:Prop}(h:P:=by unfold aAo;rw[if_pos (by omega)]):P:=h
theorem yK{P:Prop}(h:P:=by simp[results,Tryz.results66,go_sem]):P:=h
theorem yP{P:Prop}(h:P:=by have:=HML.o;omega):P:=h
theorem yN{P:Prop}(h:P:=by unfold In64;omega):P:=h
theorem yY{P:Prop}(h:P:=by simp[intOf];have:=HKL.o;omega):P:=h
theorem y9{P:Prop}(h:P:=by simpa using hp):P:=h
theorem y8{P:Prop}(h:P:=by rw[aAy,List.length_take];omega):P:=h
theorem y7{P:Prop}(h:P:=by simpa using h):P:=h
theorem y6{P:Prop}(h:P:=by cases h):P:=h
theorem xQ{P:Prop}(h:P:=by simpa using hi):P:=h
theorem xW{P:Prop}(h:P:=by rw[←hd];exact decide_eq_false e):P:=h
theorem xX{P:Prop}(h:P:=by simp[go_sem]):P:=h
theorem xV{P:Prop}(h:P:=by rw[Bool.eq_false_iff];exact fun h=>hm ((aIs n d).1 h)):P:=h
theorem xU{P:Prop}(h:P:=by rw[←aBc,List.take_append_drop]):P:=h
theorem xK{P:Prop}(h:P:=by simp[results,Tryz.results260,go_sem]):P:=h
theorem xP{P:Prop}(h:P:=by simp[results,Tryz.results243,go_sem]):P:=h
theorem xN{P:Prop}(h:P:=by simp[results,Tryz.results158,go_sem]):P:=h
theorem xR{P:Prop}(h:P:=by simp[results,Tryz.results97,go_sem]):P:=h
theorem xS{P:Prop}(h:P:=by have:=(aAf OOf.o h).1;have:=GE.o;have:=HWS.o;omega):P:=h
theorem xT{P:Prop}(h:P:=by simpa using he):P:=h
theorem xF{P:Prop}(h:P:=by rw[←pAI D1.o st.out.2.1 st.out.2.2.1 st.out.2.2.2 (by omega)];congr 1;omega):P:=h
theorem xG{P:Prop}(h:P:=by rw[←pAI D2.o st.out.2.1 st.out.2.2.1 st.out.2.2.2 (by omega)];congr 1;omega):P:=h
theorem xH{P:Prop}(h:P:=by unfold loL;rw[List.filter_eq_nil_iff];intro y hy;have:=h.1 y hy;simp;omega):P:=h
theorem xJ{P:Prop}(h:P:=by have:=L.o;omega):P:=h
theorem xL{P:Prop}(h:P:=by have:=HSZ.o;omega):P:=h
theorem xM{P:Prop}(h:P:=by unfold mayE at hm1;simpa using hm1):P:=h
theorem xZ{P:Prop}(h:P:=by unfold aD2;omega):P:=h
theorem xA{P:Prop}(h:P:=by rw[ht,h15,if_pos rfl];exact pAB _ _ _ (by show _=W.heap.size;rw[HW.o])):P:=h
theorem xB{P:Prop}(h:P:=by cases hh):P:=h
theorem xC{P:Prop}(h:P:=by simp[hz]):P:=h
theorem xD{P:Prop}(h:P:=by have:=HKL.o;omega):P:=h
theorem xE{P:Prop}(h:P:=by simpa using hj):P:=h
theorem xI{P:Prop}(h:P:=by rw[EE.o.2];exact H.o.below B2.o):P:=h
theorem xO{P:Prop}(h:P:=by have:=aE4 (hJ.may o (aJq hJ ho).1).2.2.2.2.2;unfold In64;omega):P:=h
theorem xY{P:Prop}(h:P:=by unfold loL at *;rw[List.filter_cons,if_neg (by simp;omega),n1]):P:=h
theorem wQ{P:Prop}(h:P:=by unfold aCe;rw[if_neg (by rw[e2];decide)]):P:=h
theorem wW{P:Prop}(h:P:=by simp at ho;subst ho;exact h.1):P:=h
theorem wX{P:Prop}(h:P:=by unfold In8;omega):P:=h
theorem wV{P:Prop}(h:P:=by simp[results,Tryz.results157,go_sem]):P:=h
theorem wU{P:Prop}(h:P:=by obtain⟨j,e,a,b⟩:=kindLt p hp;exact⟨j,e,by omega,by omega⟩):P:=h
theorem wK{P:Prop}(h:P:=by simpa using hq):P:=h
theorem wP{P:Prop}(h:P:=by simpa using hz):P:=h
theorem wN{P:Prop}(h:P:=by unfold aCd;rw[if_neg (fun e=>hne e.1),if_pos ⟨rfl,rfl⟩]):P:=h
theorem wR{P:Prop}(h:P:=by unfold hiL;rw[List.filter_cons,if_neg (by simp;omega)]):P:=h
theorem wS{P:Prop}(h:P:=by simp[divV,aTq,okN,erN,hf]):P:=h
theorem wT{P:Prop}(h:P:=by rw[haf' g];exact h2 g D w' hall hI):P:=h
theorem wF{P:Prop}(h:P:=by have:=b1.size;simp at this;omega):P:=h
theorem wG{P:Prop}(h:P:=by have:=BR.o.size;have:=GE.o;omega):P:=h
theorem wH{P:Prop}(h:P:=by unfold loL at hy;simpa using(List.mem_filter.1 hy).2):P:=h
theorem wJ{P:Prop}(h:P:=by unfold hiL at hy;simpa using(List.mem_filter.1 hy).2):P:=h
theorem wL{P:Prop}(h:P:=by unfold eqL at hz;simpa using(List.mem_filter.1 hz).2):P:=h
theorem wM{P:Prop}(h:P:=by rw[Nat.le_div_iff_mul_le (by have:=D.u;omega)];omega):P:=h
theorem wZ{P:Prop}(h:P:=by simp[ins]):P:=h
theorem wA{P:Prop}(h:P:=by rw[←hx];exact Int.tdiv_eq_ediv_of_nonneg (by omega)):P:=h
theorem wB{P:Prop}(h:P:=by rw[←hy];exact Int.tdiv_eq_ediv_of_nonneg (by omega)):P:=h
theorem wC{P:Prop}(h:P:=by rw[aFj];omega):P:=h
theorem wD{P:Prop}(h:P:=by unfold aEw;rw[if_neg (by omega),if_neg (by omega)]):P:=h
theorem wE{P:Prop}(h:P:=by rw[EE.o];rfl):P:=h
theorem wI{P:Prop}(h:P:=by unfold aAo;rw[if_neg (by omega),if_pos (.inl pa)]):P:=h
theorem wO{P:Prop}(h:P:=by unfold aAo;rw[if_neg (by omega),if_pos (.inr pb)]):P:=h
theorem wY{P:Prop}(h:P:=by rw[EE.o.2];exact HE.o.1):P:=h
theorem vQ{P:Prop}(h:P:=by rw[HSN.o];exact HFS.o):P:=h
theorem vW{P:Prop}(h:P:=by rw[hb.cell (p:=⟨b,j,none⟩) hb2];exact hcell j hj):P:=h
theorem vX{P:Prop}(h:P:=by rw[if_pos h3];exact List.mem_singleton.2 rfl):P:=h
theorem vV{P:Prop}(h:P:=by simp at h):P:=h
theorem vU{P:Prop}(h:P:=by rw[List.take_take,Nat.min_eq_left (by omega)]):P:=h
theorem vK{P:Prop}(h:P:=by rw[HSN.o];exact hfs):P:=h
theorem vP{P:Prop}(h:P:=by have:=GB.o;omega):P:=h
theorem vN{P:Prop}(h:P:=by simpa using hk):P:=h
theorem vR{P:Prop}(h:P:=by have:=HL64.o;omega):P:=h
theorem vS{P:Prop}(h:P:=by simp[hy]):P:=h
theorem vT{P:Prop}(h:P:=by simpa using e2 (by omega)):P:=h
theorem vF{P:Prop}(h:P:=by rw[e2];decide):P:=h
theorem vG{P:Prop}(h:P:=by simpa using hkl):P:=h
theorem vH{P:Prop}(h:P:=by rw[NX.o];exact O3.o):P:=h
theorem vJ{P:Prop}(h:P:=by rw[←hs,Array.extract_size]):P:=h
theorem vL{P:Prop}(h:P:=by simpa using h0):P:=h
theorem vM{P:Prop}(h:P:=by simpa using k3):P:=h
theorem vZ{P:Prop}(h:P:=by show ¬(7:Int)=0;decide):P:=h
theorem vA{P:Prop}(h:P:=by simp[sortWorldK,putRowK]):P:=h
theorem vB{P:Prop}(h:P:=by simpa using hDi):P:=h
theorem vC{P:Prop}(h:P:=by rw[hz];exact h0):P:=h
theorem vD{P:Prop}(h:P:=by have:=HLT.o;omega):P:=h
theorem vE{P:Prop}(h:P:=by rw[HSN.o];omega):P:=h
theorem vI{P:Prop}(h:P:=by simp[Region.wanted,hg]):P:=h
theorem vO{P:Prop}(h:P:=by dsimp only;omega):P:=h
theorem vY{P:Prop}(h:P:=by simpa using hx):P:=h
theorem v7{P:Prop}(h:P:=by rw[hrec];simp):P:=h
theorem v6{Q0 P:Prop}(a0:Q0)(h:Q0→P:=by intro this;simpa using this):P:=h a0
theorem uQ{Q0 Q1 P:Prop}(a0:Q0)(a1:Q1)(h:Q0→Q1→P:=by intro _ _;omega):P:=h a0 a1
theorem uX{Q0 P:Prop}(a0:Q0)(h:Q0→P:=by intro this;rw[this];omega):P:=h a0
theorem uV{Q0 P:Prop}(a0:Q0)(h:Q0→P:=by intro this;omega):P:=h a0
def aDl(ops:Array Oper)(s:Nat):Option Nat:=(List.range ops.size).find? fun i=>(ops[i]?).bind (·.dst)==some s
def frOf(ops:Array Oper)(val:Nat→Value)(D:Nat→Bool)(a:Act):Act:=
 { a with tmps:=Array.ofFn (n:=a.tmps.size) fun s=>match aDl ops s with|some i=>if D i then val i else a.tmps[s]|none=>a.tmps[s] }
def ins(i:Nat)(D:Nat→Bool):Nat→Bool:=fun j=>j==i || D j
theorem aEm{ops:Array Oper}{s i:Nat}(h:aDl ops s=some i):i<ops.size∧(ops[i]?).bind (·.dst)=some s:=by
 unfold aDl at h;have h1:=List.find?_some h;have h2:=List.mem_of_find?_eq_some h;exact⟨zF,zR⟩
theorem aD9(ops:Array Oper)(val:Nat→Value)(a:Act):frOf ops val (fun _=>false) a=a:=by
 obtain⟨t,d⟩:=a;simp only[frOf];congr 1;apply Array.ext
 ·simp
 intro i h1 h2;simp only[Array.getElem_ofFn,Bool.false_eq_true,if_false];split <;> rfl
theorem aEr(ops:Array Oper)(val:Nat→Value)(D D':Nat→Bool)(a:Act)(h:∀i,i<ops.size→D i=D' i):frOf ops val D a=frOf ops val D' a:=by
 simp only[frOf];congr 2
 funext s
 split
 ·rename_i i hi;rw[h i (aEm hi).1]
 rfl
theorem aFz{ops:Array Oper}{val:Nat→Value}{D:Nat→Bool}{a:Act}{i:Nat}{o:Oper}(ho:ops[i]? = some o)(hd:∀d,o.dst=some d→aDl ops d=some i)
  {v:Value}(hv:(frOf ops val (fun _=>true) a).put o.dst v=frOf ops val (fun _=>true) a):(frOf ops val D a).put o.dst v=frOf ops val (ins i D) a:=by
 cases hdst:o.dst with
 | none=>
  simp only[Act.put];refine(congrArg (fun t=>({ a with tmps:=t }:Act)) ?_);apply Array.ext
  ·simp
  ·intro s h1 h2;simp only[Array.getElem_ofFn];split
   ·rename_i j hj;have:=(aEm hj).2
    by_cases hji:j=i
    ·subst hji;simp[ho,hdst]at this
    simp[ins,hji]
   ·rfl
 | some d=>
  have hw:=hd d hdst;rw[hdst]at hv;simp only[Act.put,frOf]at hv ⊢;have hv2:=congrArg Act.tmps hv;simp only at hv2;congr 1;apply Array.ext
  ·simp
  intro s h1 h2;simp only[Array.size_setIfInBounds,Array.size_ofFn]at h1;rw[Array.getElem_setIfInBounds zR];simp only[Array.getElem_ofFn]
  by_cases hds:d=s
  ·subst hds;have h3:=congrArg (fun t:Array Value=>t[d]?) hv2;simp only[Array.getElem?_setIfInBounds_self_of_lt (show d<(Array.ofFn (n:=a.tmps.size) _).size by simpa using h1)]at h3;rw[Array.getElem?_ofFn]at h3;simp only[h1,dif_pos,hw,if_true,Option.some.injEq]at h3;simp[hw,ins,h3]
  rw[if_neg hds];split
  ·rename_i j hj
   have hji:j≠i:=by
    rintro rfl;have:=(aEm hj).2;rw[ho]at this;simp[hdst]at this;exact hds this
   simp[ins,hji]
  rfl
def aSq(ops:Array Oper)(o:Oper)(t:Tmp):Bool:=
 match aDl ops t with
 | some j=>o.after.any fun e=>e.on==j && Region.binds .any e
 | none=>true
def notSelect:Op→Bool
 | .select ..=>false
 | _=>true
def opOk(ops:Array Oper)(i:Nat)(o:Oper):Bool:=
 (match o.dst with|some d=>aDl ops d==some i|none=>true) && notSelect o.op && ((o.looksAt ops).all (aSq ops o)) &&
  (o.after.all fun e=>!Region.binds .any e || decide (e.on<i))
def aB9(ops:Array Oper):Bool:=(List.range ops.size).all fun i=>match ops[i]? with|some o=>opOk ops i o|none=>true
theorem aCm{ops:Array Oper}(h:aB9 ops=true){i:Nat}{o:Oper}(ho:ops[i]? = some o):opOk ops i o=true:=by
 have hi:i<ops.size:=by
  rcases Nat.lt_or_ge i ops.size with h'|h'
  ·exact h'
  simp[Array.getElem?_eq_none h']at ho
 have:=List.all_eq_true.1 h i xQ;simpa [ho]using this
def aDm(D:Nat→Bool)(o:Oper):Prop:=∀e∈o.after,Region.binds .any e=true→D e.on=true
def aDn(ops:Array Oper)(D:Nat→Bool):Prop:=∀(j:Nat) (o:Oper),ops[j]? = some o→D j=true→aDm D o
theorem aQf{ops:Array Oper}{val:Nat→Value}{D:Nat→Bool}{a:Act}{o:Oper}{t:Tmp}(hl:aSq ops o t=true)(hw:aDm D o):
  (frOf ops val D a).tmps[t]? = (frOf ops val (fun _=>true) a).tmps[t]? := by
 simp only[frOf,Array.getElem?_ofFn];split
 ·rename_i ht;congr 1;unfold aSq at hl
  cases hwr:aDl ops t with
  | none=>rfl
  | some j=>
   rw[hwr]at hl;simp only[Array.any_eq_true',Bool.and_eq_true,beq_iff_eq]at hl;obtain⟨e,he,hj,hb⟩:=hl;have:=hw e he hb;rw[hj]at this;simp[this]
 rfl
theorem aQg{ops:Array Oper}{val:Nat→Value}{D:Nat→Bool}{a:Act}{i:Nat}{o:Oper}(hok:opOk ops i o=true)(hw:aDm D o):
  execOp (frOf ops val D a).eval o=execOp (frOf ops val (fun _=>true) a).eval o∧
  Region.wanted o (yielded ops (frOf ops val D a).tmps)=Region.wanted o (yielded ops (frOf ops val (fun _=>true) a).tmps):=by
 simp only[opOk,Bool.and_eq_true]at hok;obtain⟨⟨⟨_,hsel⟩,hlook⟩,_⟩:=hok;rw[List.all_eq_true]at hlook
 constructor
 ·refine execOp_congr o (fun cs b h=>by rw[h]at hsel;cases hsel) fun x hx=>?_
  cases x with
  | tmp t=>
   have:=aQf (val:=val) (a:=a) (hlook t (List.mem_append_left _ (List.mem_filterMap.2 ⟨.tmp t,vY,rfl⟩))) hw;simp only[Act.eval,Act.tmps,Frame.eval]at *;simp only[Array.getD_eq_getD_getElem?,this]
  | _=>rfl
 unfold Region.wanted
 cases hg:o.guard with
 | none=>rfl
 | some gw=>
  obtain⟨g,want⟩:=gw
  have hy:yielded ops (frOf ops val D a).tmps g=yielded ops (frOf ops val (fun _=>true) a).tmps g:=by
   unfold yielded
   cases ht:(ops[g]?).bind (·.dst)with
   | none=>rfl
   | some t=>
    have:=aQf (val:=val) (a:=a) (hlook t (by simp[Oper.looksAt,hg,ht])) hw;simp only[Option.bind_some,this]
  simp only[hy]
def OpTo(P:Program)(ops:Array Oper)(af:Act)(o:Oper)(w:World)(R:World→Prop):Prop:=
 if Region.wanted o (yielded ops af.tmps)then o.wp P af w (fun a' w'=>a'=af∧R w') (fun _ _ _=>False)else af.put o.dst undef=af∧R w
theorem aL2{ops:Array Oper}(hok:aB9 ops=true){listed:Array Bool}(hl:listed.size=ops.size)(h:Region.ready .any ops listed=[]):
  ∀i,i<ops.size→listed.getD i true=true:=by
 intro i
 induction i using Nat.strongRecOn with
 | _ i ih=>
  intro hi
  by_cases hd:listed.getD i true=true
  ·exact hd
  exfalso;have ho:ops[i]? = some ops[i]:=Array.getElem?_eq_getElem hi;have hk:=aCm hok ho;simp only[opOk,Bool.and_eq_true]at hk
  have hmem:i∈Region.ready .any ops listed:=by
   unfold Region.ready;refine List.mem_filter.2 ⟨xQ,?_⟩;simp only[Bool.and_eq_true,ho,Option.map_some,Option.getD_some];refine⟨v6 hd,?_⟩;rw[Array.all_eq_true_iff_forall_mem];intro e he
   cases hb:Region.binds .any e with
   | false=>rfl
   | true=>
    have h2:=(Array.all_eq_true_iff_forall_mem.1 hk.2) e he;simp only[hb,Bool.not_true,Bool.false_or,decide_eq_true_eq]at h2;have h3:=ih e.on h2 zQ;have h4:e.on<listed.size:=zQ
    simp only[Array.getD_eq_getD_getElem?,Array.getElem?_eq_getElem h4,Option.getD_some]at h3 ⊢;simp[h3]
  rw[h]at hmem
  cases hmem
section
variable{P:Program}{ops:Array Oper}{Q:Exit→Act→World→Prop}{val:Nat→Value}{a:Act}{I:(Nat→Bool)→World→Prop}
theorem OpTo.wpOp{i:Nat}{o:Oper}{D:Nat→Bool}{w:World}{R:World→Prop}(ho:ops[i]? = some o)(hok:opOk ops i o=true)(hwt:aDm D o)
  (h:OpTo P ops (frOf ops val (fun _=>true) a) o w R){K:Act→World→Prop}(hK:∀w',R w'→K (frOf ops val (ins i D) a) w'):
  wpOp P ops Q i K (frOf ops val D a) w:=by
 obtain⟨he,hwd⟩:=aQg (val:=val) (a:=a) hok hwt
 have hd:∀d,o.dst=some d→aDl ops d=some i:=by
  intro d hd;simp only[opOk,Bool.and_eq_true,hd,beq_iff_eq]at hok;exact hok.1.1.1
 unfold OpTo at h;unfold Go.wpOp;simp only[ho,hwd];split
 ·rename_i hw;rw[if_pos hw]at h;refine .inl ?_;unfold Oper.wp at h ⊢;rw[he];generalize (execOp (frOf ops val (fun _=>true) a).eval o).run P w=r at h
  cases r with
  | ok n w'=>
   cases n <;> simp only[Oper.upon]at h ⊢
   case value v=>rw[aFz ho hd h.1];exact hK _ h.2
   case skip=>rw[aFz ho hd h.1];exact hK _ h.2
   case defer d=>
    have:=congrArg Act.defers h.1;exfalso
    cases hdst:o.dst <;> rw[hdst]at this <;> simp only[Act.put]at this <;> exact absurd (congrArg List.length this) zV
   case enter f args=>
    refine Calls.mono h fun e w'' hh=>?_
    cases e with
    | returned v=>simp only at hh ⊢;rw[aFz ho hd hh.1];exact hK _ hh.2
    | panicked c=>exact hh.elim
    | outgrown=>obtain⟨_,_,hh⟩:=hh;exact hh.elim
   case row row args=>
    refine Rows.mono h fun v w'' hh=>?_
    rw[aFz ho hd hh.1];exact hK _ hh.2
  | halt x w'=>
   cases x <;> simp only[Oper.upon]at h ⊢
 rename_i hw;rw[if_neg hw]at h;rw[aFz ho hd h.1];exact hK _ h.2
theorem aHj:∀(l:List Bool) (i:Nat),l[i]? = some false→((l.set i true).filter (! ·)).length+1=(l.filter (! ·)).length
 | [],_,h=>vV
 | b::l,0,h=>by simp at h;subst h;simp
 | b::l,i+1,h=>by
  simp only[List.getElem?_cons_succ]at h;have:=aHj l i h;simp only[yD,List.filter_cons]
  cases b <;> simp <;> omega
theorem aHk(hm:P.follows .mixedOrders=true)(hok:aB9 ops=true)
  (hop:∀(i:Nat) (o:Oper),ops[i]? = some o→∀D w,D i=false→aDm D o→aDn ops D→I D w→OpTo P ops (frOf ops val (fun _=>true) a) o w (I (ins i D)))
  (hend:∀D w,(∀i,i<ops.size→D i=true)→I D w→Q .normal (frOf ops val (fun _=>true) a) w):
  ∀(fuel:Nat) (listed:Array Bool) (w:World),listed.size=ops.size→fuel=(listed.toList.filter (! ·)).length→aDn ops (fun i=>listed.getD i false)→I (fun i=>listed.getD i false) w→
   wpAny P .any ops Q fuel listed (frOf ops val (fun i=>listed.getD i false) a) w:=by
 have fin:∀(listed:Array Bool) (w:World),listed.size=ops.size→I (fun i=>listed.getD i false) w→Region.ready .any ops listed=[]→
   Q .normal (frOf ops val (fun i=>listed.getD i false) a) w:=by
  intro listed w hsz hI hr;have hall:=aL2 hok hsz hr
  have hall':∀i,i<ops.size→listed.getD i false=true:=fun i hi=>by
   have:=hall i hi;have h4:i<listed.size:=zQ
   simpa [Array.getD_eq_getD_getElem?,Array.getElem?_eq_getElem h4]using this
  rw[aEr ops val _ (fun _=>true) a (fun i hi=>hall' i hi)];exact hend _ w hall' hI
 intro fuel
 induction fuel with
 | zero=>
  intro listed w hsz hf hc hI
  have hz:∀i,i<ops.size→listed.getD i true=true:=by
   intro i hi;have h4:i<listed.size:=zQ
   have h5:listed[i]∈listed.toList:=zV
   have h6:=List.filter_eq_nil_iff.1 (List.length_eq_zero_iff.1 hf.symm) _ h5;simp only[Array.getD_eq_getD_getElem?,Array.getElem?_eq_getElem h4,Option.getD_some];simpa using h6
  have hr:Region.ready .any ops listed=[]:=by
   unfold Region.ready;refine List.filter_eq_nil_iff.2 fun i hi=>?_
   have hi':i<ops.size:=xQ
   simp[hz i hi']
  exact⟨hr,fin listed w hsz hI hr⟩
 | succ fuel ih=>
  intro listed w hsz hf hc hI;refine⟨fin listed w hsz hI,fun i hi=>?_⟩;obtain⟨hun,o,ho,hall⟩:=mem_ready.1 hi
  have hisz:i<listed.size:=by
   rcases Nat.lt_or_ge i listed.size with h'|h'
   ·exact h'
   simp[Array.getElem?_eq_none h']at hun
  have hun':listed.getD i false=false:=by simpa [Array.getD_eq_getD_getElem?,Array.getElem?_eq_getElem hisz]using hun
  have hwt:aDm (fun i=>listed.getD i false) o:=fun e he hb=>hall e he hb
  refine OpTo.wpOp ho (aCm hok ho) hwt (hop i o ho _ w hun' hwt hc hI) fun w' hw'=>?_
  have heq:(ins i fun i=>listed.getD i false)=fun j=>(listed.setIfInBounds i true).getD j false:=by
   funext j
   simp only[ins,Array.getD_eq_getD_getElem?]
   by_cases hji:j=i
   ·subst hji;simp[Array.getElem?_setIfInBounds_self_of_lt hisz]
   rw[Array.getElem?_setIfInBounds_ne (Ne.symm hji)];simp[hji]
  rw[heq]at hw' ⊢;refine ih _ w' (v6 hsz) ?_ ?_ hw'
  ·have hlen:((listed.setIfInBounds i true).toList.filter (! ·)).length+1=(listed.toList.filter (! ·)).length:=by
    simp only[Array.toList_setIfInBounds]
    have hfa:listed.toList[i]? = some false:=by
     simp only[Array.getD_eq_getD_getElem?,Array.getElem?_eq_getElem hisz,Option.getD_some]at hun;simp[hisz,hun]
    exact aHj _ _ hfa
   omega
  intro j oj hoj hj e he hb;rw[←heq]at hj ⊢;simp only[ins,Bool.or_eq_true,beq_iff_eq]at hj ⊢;rcases hj with rfl|hj
  ·rw[ho]at hoj;cases hoj;exact .inr (hwt e he hb)
  exact .inr (hc j oj hoj hj e he hb)
def puts(val:Nat→Value):Nat→List Oper→Act→Act
 | _,[],a=>a
 | i,o::r,a=>puts val (i+1) r (a.put o.dst (val i))
theorem puts_eq(hok:aB9 ops=true)(hself:∀(i:Nat) (o:Oper),ops[i]? = some o→(frOf ops val (fun _=>true) a).put o.dst (val i)=frOf ops val (fun _=>true) a):
  ∀(k:Nat) (l:List Oper),(∀j,l[j]? = ops[k+j]?)→k+l.length=ops.size→puts val k l (frOf ops val (fun j=>decide (j<k)) a)=frOf ops val (fun _=>true) a
 | k,[],_,hk=>by
  simp only[puts];exact aEr ops val _ _ a fun i hi=>by simp at hk;simp;omega
 | k,o::r,h,hk=>by
  have ho:ops[k]? = some o:=by simpa using(h 0).symm
  simp only[puts]
  have hd:∀d,o.dst=some d→aDl ops d=some k:=by
   intro d hd;have:=aCm hok ho;simp only[opOk,Bool.and_eq_true,hd,beq_iff_eq]at this;exact this.1.1.1
  rw[aFz ho hd (hself k o ho),aEr ops val _ (fun j=>decide (j<k+1)) a (fun i _=>by simp only[ins];rw[Bool.eq_iff_iff];simp;omega)];exact puts_eq hok hself (k+1) r (fun j=>by have:=h (j+1);simpa [Nat.add_assoc,Nat.add_comm 1 j]using this) (by simp at hk;omega)
theorem aQh(hok:aB9 ops=true){i:Nat}{o:Oper}(ho:ops[i]? = some o):(frOf ops val (fun _=>true) a).put o.dst (val i)=frOf ops val (fun _=>true) a:=by
 cases hdst:o.dst with
 | none=>rfl
 | some d=>
  have hw:aDl ops d=some i:=by
   have:=aCm hok ho;simp only[opOk,Bool.and_eq_true,hdst,beq_iff_eq]at this;exact this.1.1.1
  simp only[Act.put];refine congrArg (fun t=>({ (frOf ops val (fun _=>true) a)with tmps:=t }:Act)) ?_;apply Array.ext
  ·simp[frOf]
  intro s h1 h2;rw[Array.getElem_setIfInBounds zR]
  by_cases hds:d=s
  ·subst hds;simp[frOf,hw]
  rw[if_neg hds];simp[frOf]
theorem aEv(hok:aB9 ops=true):frOf ops val (fun _=>true) a=puts val 0 ops.toList a:=by
 have:=puts_eq (val:=val) (a:=a) hok (fun i o ho=>aQh hok ho) 0 ops.toList (fun j=>zV) zV;rw[←this];congr 1;rw[aEr ops val _ (fun _=>false) a (fun i _=>zV),aD9]
theorem aSr{id:Nat}{w:World}(hm:P.follows .mixedOrders=true)(val:Nat→Value)(S:World→Prop)(hok:aB9 ops=true)
  (h0:S w.drew)(af:Act)(haf:puts val 0 ops.toList a=af)
  (hop:∀(i:Nat) (o:Oper),ops[i]? = some o→∀w',S w'→OpTo P ops af o w' S)
  (hend:∀w',S w'→Q .normal af w'):(Code.region id ops true).wp P Q a w:=by
 refine wp_region_any hm ?_;have haf':frOf ops val (fun _=>true) a=af:=by rw[aEv hok,haf]
 have hfr:=aD9 ops val a
 have key:=aHk (P:=P) (Q:=Q) (val:=val) (a:=a) (I:=fun _ w'=>S w') hm hok
  (fun i o ho D w' hDi hw hc hI=>by rw[haf'];exact hop i o ho w' hI)
  (fun D w' hall hI=>by rw[haf'];exact hend w' hI)
  ops.size (Array.replicate ops.size false) w.drew zV zV (fun j o ho hj=>by
   simp[Array.getD_eq_getD_getElem?,Array.getElem?_replicate]at hj;split at hj <;> simp at hj) h0
 have hz:(fun i=>(Array.replicate ops.size false).getD i false)=fun _=>false:=by
  funext i;simp[Array.getD_eq_getD_getElem?,Array.getElem?_replicate];split <;> rfl
 rw[hz,hfr]at key;exact key
def aBd(P:Program)(ops:Array Oper)(af:Act)(S:World→Prop):List Oper→Prop
 | []=>True
 | o::r=>(∀w',S w'→OpTo P ops af o w' S)∧aBd P ops af S r
theorem aBd.at{af:Act}{S:World→Prop}:∀{l:List Oper},aBd P ops af S l→∀{i:Nat} {o:Oper},l[i]? = some o→∀w',S w'→OpTo P ops af o w' S
 | [],_,i,o,h=>vV
 | o::r,h,0,o',ho=>wW
 | o::r,h,i+1,o',ho=>aBd.at h.2 yW
theorem yO{af:Act}{o:Oper}{w:World}{R:World→Prop}(hg:o.guard=none)(h:o.wp P af w (fun a' w'=>a'=af∧R w') (fun _ _ _=>False)):OpTo P ops af o w R:=by
 unfold OpTo;rw[if_pos vI];exact h
theorem aAm{id:Nat}{w:World}(hm:P.follows .mixedOrders=true)(vals:List Value)(S:World→Prop)(hok:aB9 ops=true)(h0:S w.drew)
  (h:∀af,puts (fun i=>vals.getD i undef) 0 ops.toList a=af→aBd P ops af S ops.toList∧∀w',S w'→Q .normal af w'):
  (Code.region id ops true).wp P Q a w:=by
 obtain⟨h1,h2⟩:=h _ rfl;refine aSr hm (fun i=>vals.getD i undef) S hok h0 _ rfl ?_ h2;intro i o ho w' hS;exact h1.at (i:=i) yW w' hS
def aEa(P:Program)(ops:Array Oper)(af:Act)(I:(Nat→Bool)→World→Prop):Nat→List Oper→Prop
 | _,[]=>True
 | k,o::r=>(∀D w',D k=false→aDm D o→aDn ops D→I D w'→OpTo P ops af o w' (I (ins k D)))∧aEa P ops af I (k+1) r
theorem aEa.at{af:Act}{I:(Nat→Bool)→World→Prop}:∀{l:List Oper} {k:Nat},aEa P ops af I k l→∀{i:Nat} {o:Oper},l[i]? = some o→∀D w',D (k+i)=false→aDm D o→aDn ops D→I D w'→OpTo P ops af o w' (I (ins (k+i) D))
 | [],_,_,i,o,h=>vV
 | o::r,k,h,0,o',ho=>wW
 | o::r,k,h,i+1,o',ho=>by
  have:=aEa.at h.2 (i:=i) yW
  rwa [show k+(i+1)=k+1+i by omega]
theorem aBz{id:Nat}{w:World}(hm:P.follows .mixedOrders=true)(vals:List Value)(I:(Nat→Bool)→World→Prop)(hok:aB9 ops=true)(h0:I (fun _=>false) w.drew)
  (h:∀af,puts (fun i=>vals.getD i undef) 0 ops.toList a=af→aEa P ops af I 0 ops.toList∧∀D w',(∀i,i<ops.size→D i=true)→I D w'→Q .normal af w'):
  (Code.region id ops true).wp P Q a w:=by
 obtain⟨h1,h2⟩:=h _ rfl;refine wp_region_any hm ?_;have haf':frOf ops (fun i=>vals.getD i undef) (fun _=>true) a=puts (fun i=>vals.getD i undef) 0 ops.toList a:=aEv hok;have hfr:=aD9 ops (fun i=>vals.getD i undef) a
 have hz:(fun i=>(Array.replicate ops.size false).getD i false)=fun _=>false:=by
  funext i;simp[Array.getD_eq_getD_getElem?,Array.getElem?_replicate];split <;> rfl
 have key:=aHk (P:=P) (Q:=Q) (val:=fun i=>vals.getD i undef) (a:=a) (I:=I) hm hok
  (fun i o ho D w' hDi hw hc hI=>by
   rw[haf'];have:=h1.at (i:=i) (o:=o) yW D w' vB hw hc hI;simpa using this)
  (fun D w' hall hI=>by rw[haf'];exact h2 D w' hall hI)
  ops.size (Array.replicate ops.size false) w.drew zV zV (fun j o ho hj=>by
   simp[Array.getD_eq_getD_getElem?,Array.getElem?_replicate]at hj;split at hj <;> simp at hj) vC
 rw[hz,hfr]at key;exact key
end
theorem aL3(ops:Array Oper)(val val':Nat→Value)(D:Nat→Bool)(a:Act)(h:∀i,i<ops.size→D i=true→val i=val' i):frOf ops val D a=frOf ops val' D a:=by
 simp only[frOf];congr 2
 funext s
 split
 ·rename_i i hi
  by_cases hD:D i=true
  ·rw[if_pos hD,if_pos hD,h i (aEm hi).1 hD]
  rw[if_neg hD,if_neg hD]
 rfl
section
variable{P:Program}{ops:Array Oper}{Q:Exit→Act→World→Prop}{a:Act}
theorem aL4{G:Type}{val:G→Nat→Value}{I:G→(Nat→Bool)→World→Prop}(hok:aB9 ops=true)
  (hop:∀(i:Nat) (o:Oper),ops[i]? = some o→∀g D w,D i=false→aDm D o→aDn ops D→I g D w→
   ∃g',(∀j,j<ops.size→D j=true→val g j=val g' j)∧OpTo P ops (frOf ops (val g') (fun _=>true) a) o w (I g' (ins i D)))
  (hend:∀g D w,(∀i,i<ops.size→D i=true)→I g D w→Q .normal (frOf ops (val g) (fun _=>true) a) w):
  ∀(fuel:Nat) (listed:Array Bool) (g:G) (w:World),listed.size=ops.size→fuel=(listed.toList.filter (! ·)).length→aDn ops (fun i=>listed.getD i false)→I g (fun i=>listed.getD i false) w→
   wpAny P .any ops Q fuel listed (frOf ops (val g) (fun i=>listed.getD i false) a) w:=by
 have fin:∀(listed:Array Bool) (g:G) (w:World),listed.size=ops.size→I g (fun i=>listed.getD i false) w→Region.ready .any ops listed=[]→
   Q .normal (frOf ops (val g) (fun i=>listed.getD i false) a) w:=by
  intro listed g w hsz hI hr;have hall:=aL2 hok hsz hr
  have hall':∀i,i<ops.size→listed.getD i false=true:=fun i hi=>by
   have:=hall i hi;have h4:i<listed.size:=zQ
   simpa [Array.getD_eq_getD_getElem?,Array.getElem?_eq_getElem h4]using this
  rw[aEr ops (val g) _ (fun _=>true) a (fun i hi=>hall' i hi)];exact hend g _ w hall' hI
 intro fuel
 induction fuel with
 | zero=>
  intro listed g w hsz hf hc hI
  have hz:∀i,i<ops.size→listed.getD i true=true:=by
   intro i hi;have h4:i<listed.size:=zQ
   have h5:listed[i]∈listed.toList:=zV
   have h6:=List.filter_eq_nil_iff.1 (List.length_eq_zero_iff.1 hf.symm) _ h5;simp only[Array.getD_eq_getD_getElem?,Array.getElem?_eq_getElem h4,Option.getD_some];simpa using h6
  have hr:Region.ready .any ops listed=[]:=by
   unfold Region.ready;refine List.filter_eq_nil_iff.2 fun i hi=>?_
   have hi':i<ops.size:=xQ
   simp[hz i hi']
  exact⟨hr,fin listed g w hsz hI hr⟩
 | succ fuel ih=>
  intro listed g w hsz hf hc hI;refine⟨fin listed g w hsz hI,fun i hi=>?_⟩;obtain⟨hun,o,ho,hall⟩:=mem_ready.1 hi
  have hisz:i<listed.size:=by
   rcases Nat.lt_or_ge i listed.size with h'|h'
   ·exact h'
   simp[Array.getElem?_eq_none h']at hun
  have hun':listed.getD i false=false:=by simpa [Array.getD_eq_getD_getElem?,Array.getElem?_eq_getElem hisz]using hun
  have hwt:aDm (fun i=>listed.getD i false) o:=fun e he hb=>hall e he hb
  obtain⟨g',hag,hop'⟩:=hop i o ho g _ w hun' hwt hc hI;rw[aL3 ops (val g) (val g') _ a hag];refine OpTo.wpOp ho (aCm hok ho) hwt hop' fun w' hw'=>?_
  have heq:(ins i fun i=>listed.getD i false)=fun j=>(listed.setIfInBounds i true).getD j false:=by
   funext j
   simp only[ins,Array.getD_eq_getD_getElem?]
   by_cases hji:j=i
   ·subst hji;simp[Array.getElem?_setIfInBounds_self_of_lt hisz]
   rw[Array.getElem?_setIfInBounds_ne (Ne.symm hji)];simp[hji]
  rw[heq]at hw' ⊢;refine ih _ g' w' (v6 hsz) ?_ ?_ hw'
  ·have hlen:((listed.setIfInBounds i true).toList.filter (! ·)).length+1=(listed.toList.filter (! ·)).length:=by
    simp only[Array.toList_setIfInBounds]
    have hfa:listed.toList[i]? = some false:=by
     simp only[Array.getD_eq_getD_getElem?,Array.getElem?_eq_getElem hisz,Option.getD_some]at hun;simp[hisz,hun]
    exact aHj _ _ hfa
   omega
  intro j oj hoj hj e he hb;rw[←heq]at hj ⊢;simp only[ins,Bool.or_eq_true,beq_iff_eq]at hj ⊢;rcases hj with rfl|hj
  ·rw[ho]at hoj;cases hoj;exact .inr (hwt e he hb)
  exact .inr (hc j oj hoj hj e he hb)
def aFp{G:Type}(P:Program)(ops:Array Oper)(vals:G→List Value)(AF:G→Act)(I:G→(Nat→Bool)→World→Prop):Nat→List Oper→Prop
 | _,[]=>True
 | k,o::r=>(∀g D w',D k=false→aDm D o→aDn ops D→I g D w'→
   ∃g',(∀j,j<ops.size→D j=true→(vals g).getD j undef=(vals g').getD j undef)∧OpTo P ops (AF g') o w' (I g' (ins k D)))∧aFp P ops vals AF I (k+1) r
theorem aFp.at{G:Type}{vals:G→List Value}{AF:G→Act}{I:G→(Nat→Bool)→World→Prop}:∀{l:List Oper} {k:Nat},aFp P ops vals AF I k l→∀{i:Nat} {o:Oper},l[i]? = some o→∀g D w',D (k+i)=false→aDm D o→aDn ops D→I g D w'→
   ∃g',(∀j,j<ops.size→D j=true→(vals g).getD j undef=(vals g').getD j undef)∧OpTo P ops (AF g') o w' (I g' (ins (k+i) D))
 | [],_,_,i,o,h=>vV
 | o::r,k,h,0,o',ho=>wW
 | o::r,k,h,i+1,o',ho=>by
  have:=aFp.at h.2 (i:=i) yW
  rwa [show k+(i+1)=k+1+i by omega]
theorem aA9{id:Nat}{w:World}(hm:P.follows .mixedOrders=true){G:Type}(vals:G→List Value)(I:G→(Nat→Bool)→World→Prop)(hok:aB9 ops=true)(g0:G)(h0:I g0 (fun _=>false) w.drew)
  (h:∀AF:G→Act,(∀g,puts (fun i=>(vals g).getD i undef) 0 ops.toList a=AF g)→
   aFp P ops vals AF I 0 ops.toList∧∀g D w',(∀i,i<ops.size→D i=true)→I g D w'→Q .normal (AF g) w'):
  (Code.region id ops true).wp P Q a w:=by
 obtain⟨h1,h2⟩:=h _ (fun _=>rfl);refine wp_region_any hm ?_;have haf':∀g,frOf ops (fun i=>(vals g).getD i undef) (fun _=>true) a=puts (fun i=>(vals g).getD i undef) 0 ops.toList a:=fun g=>aEv hok
 have hz:(fun i=>(Array.replicate ops.size false).getD i false)=fun _=>false:=by
  funext i;simp[Array.getD_eq_getD_getElem?,Array.getElem?_replicate];split <;> rfl
 have key:=aL4 (P:=P) (Q:=Q) (val:=fun g i=>(vals g).getD i undef) (a:=a) (I:=I) hok
  (fun i o ho g D w' hDi hw hc hI=>by
   have:=h1.at (i:=i) (o:=o) yW g D w' vB hw hc hI;obtain⟨g',hag,hop⟩:=this;refine⟨g',hag,?_⟩;rw[haf' g'];simpa using hop)
  (fun g D w' hall hI=>wT)
  ops.size (Array.replicate ops.size false) g0 w.drew zV zV (fun j o ho hj=>by
   simp[Array.getD_eq_getD_getElem?,Array.getElem?_replicate]at hj;split at hj <;> simp at hj) vC
 have hfr:=aD9 ops (fun i=>(vals g0).getD i undef) a;simp only[hz]at key;rw[hfr]at key;exact key
end
theorem OpTo.wanted{P:Program}{ops:Array Oper}{af:Act}{o:Oper}{w:World}{R:World→Prop}(hw:Region.wanted o (yielded ops af.tmps)=true)(h:o.wp P af w (fun a' w'=>a'=af∧R w') (fun _ _ _=>False)):OpTo P ops af o w R:=by
 unfold OpTo;rw[if_pos hw];exact h
theorem pAC{P:Program}{ops:Array Oper}{af:Act}{o:Oper}{w:World}{R:World→Prop}(hw:Region.wanted o (yielded ops af.tmps)=false)(h:af.put o.dst undef=af)(hR:R w):OpTo P ops af o w R:=by
 unfold OpTo;rw[if_neg (by rw[hw];exact Bool.false_ne_true)];exact⟨h,hR⟩
structure Keep(S:Nat→Prop)(w w':World):Prop where
 os:w'.os=w.os
 tape:w'.tape=w.tape
 output:w'.output=w.output
 size:w.heap.size≤w'.heap.size
 block:∀k,k<w.heap.size→¬S k→w'.heap[k]? = w.heap[k]?
theorem Keep.refl(S:Nat→Prop)(w:World):Keep S w w:=⟨rfl,rfl,rfl,Nat.le_refl _,fun _ _ _=>rfl⟩
theorem Keep.trans{S:Nat→Prop}{a b c:World}(h:Keep S a b)(k:Keep S b c):Keep S a c:=
 ⟨k.os.trans h.os,k.tape.trans h.tape,k.output.trans h.output,Nat.le_trans h.size k.size,fun i hi hs=>(k.block i (yM hi h.size) hs).trans (h.block i hi hs)⟩
theorem Keep.mono{S S':Nat→Prop}{w w':World}(h:Keep S w w')(hS:∀k,k<w.heap.size→S k→S' k):Keep S' w w':=
 ⟨h.os,h.tape,h.output,h.size,fun i hi hs=>h.block i hi fun hk=>hs (hS i hi hk)⟩
theorem pAD{S:Nat→Prop}{w w':World}(h:Below w.heap.size w w'):Keep S w w':=⟨h.os,h.tape,h.output,h.size,fun i hi _=>h.block i hi⟩
theorem Keep.below{S:Nat→Prop}{w w':World}{B:Nat}(h:Keep S w w')(hB:B≤w.heap.size)(hS:∀k,k<B→¬S k):Below B w w':=
 ⟨h.os,h.tape,h.output,h.size,fun i hi=>h.block i (yM hi hB) (hS i hi)⟩
theorem Keep.cell{S:Nat→Prop}{w w':World}(h:Keep S w w'){p:Addr}(hp:p.block<w.heap.size)(hs:¬S p.block):w'.cell? p=w.cell? p:=World.cell?_of_block (w:=w) (h.block p.block hp hs)
theorem Keep.drew{S:Nat→Prop}{a w:World}(h:Keep S a w):Keep S a w.drew:=⟨h.os,h.tape,h.output,h.size,h.block⟩
theorem Keep.alloc{S:Nat→Prop}{a w:World}(h:Keep S a w)(o:Obj):Keep S a (w.alloc o):=
 ⟨h.os,h.tape,h.output,by have:=h.size;simp;omega,fun k hk hs=>by rw[Below.heap_alloc _ _ _ (yM hk h.size)];exact h.block k hk hs⟩
theorem Keep.setCell{S:Nat→Prop}{a w:World}(h:Keep S a w){p:Addr}(hp:S p.block∨a.heap.size≤p.block)(u:Value):Keep S a (w.setCell p u):=
 ⟨h.os,h.tape,h.output,v6 h.size,fun k hk hs=>by
  rw[Below.heap_setCell _ _ _ _ (by
                   rintro rfl;rcases hp with hp|hp;· exact hs hp
                   omega)]
  exact h.block k hk hs⟩
theorem Keep.setCells{S:Nat→Prop}{g:Nat}:∀(vs:List Value) {a w:World} (o:Nat),Keep S a w→(S g∨a.heap.size≤g)→Keep S a (w.setCells g o vs)
 | [],_,_,_,h,_=>h
 | v::r,_,_,o,h,hg=>by
  rw[World.setCells];exact Keep.setCells r (o+1) (h.setCell hg v) hg
theorem Keep.grown{S:Nat→Prop}{a w w':World}{row:Option Nat}(h:Keep S a w)(hg:w.grownBy w' row)(hr:∀k,row=some k→S k∨a.heap.size≤k):Keep S a w':=by
 have hb:Below 0 a a:=Below.refl 0 a;refine⟨hg.os.trans h.os,hg.tape.trans h.tape,hg.output.trans h.output,Nat.le_trans h.size hg.size,fun k hk hs=>?_⟩
 rw[hg.block k (yM hk h.size) (by
                          rintro e;rcases hr k e.symm with h'|h';· exact hs h'
                          omega)]
 exact h.block k hk hs
theorem Blk.keep{S:Nat→Prop}{w w':World}{g:Nat}{cs:Array Value}{t:TypeId}(h:Blk w g cs t)(k:Keep S w w')(hs:¬S g):Blk w' g cs t:=by
 unfold Blk;rw[k.block g h.lt hs];exact h
theorem aBr{S:Nat→Prop}{w w':World}{base:Nat}{e:TypeId}{size:Nat}{v:Value}{n:Nat}{xs:List Value}(h:w.ownsRow base e size v n xs)(k:Keep S w w')(hs:∀b,v.ownBlock=some b→¬S b):w'.ownsRow base e size v n xs:=by
 obtain⟨h1,h2⟩:=h;refine⟨h1,?_⟩;rcases h2 with h2|⟨g,cap,cur,rfl,hb,hg,hr⟩
 ·exact .inl h2
 refine .inr ⟨g,cap,cur,rfl,hb,?_,hr⟩;rw[k.block g (lt_of_block hg) (hs g rfl)];exact hg
theorem aAf{w:World}{base:Nat}{e:TypeId}{size:Nat}{v:Value}{n:Nat}{xs:List Value}(h:w.ownsRow base e size v n xs){b:Nat}(hb:v.ownBlock=some b):base≤b∧b<w.heap.size∧∃cur,w.heap[b]? = some (.cells cur e (0,0)):=by
 obtain⟨_,h2⟩:=h;rcases h2 with⟨rfl,_⟩|⟨g,cap,cur,rfl,hge,hg,_⟩
 ·cases hb
 cases hb;exact⟨hge,lt_of_block hg,cur,hg⟩
theorem aB3{w:World}{base:Nat}{e:TypeId}{size:Nat}{v:Value}{n:Nat}{xs:List Value}(h:w.ownsRow base e size v n xs){g:Nat}{cs:Array Value}{t:TypeId}(hg:Blk w g cs t)(hne:e≠t):∀b,v.ownBlock=some b→¬b=g:=by
 intro b hb e';obtain⟨_,_,cur,hc⟩:=aAf h hb;subst e';unfold Blk at hg;rw[hc]at hg;simp at hg;exact hne hg.2
theorem aAh{w:World}{base:Nat}{e:TypeId}{size:Nat}{v:Value}{n:Nat}{xs:List Value}(h:w.ownsRow base e size v n xs):
  ∃(ao:Option Addr) (cap:Nat),v=.slice ao n cap∧n≤cap∧cap≤maxLen∧xs.length=n*size∧(0<n→∃b,ao=some ⟨b,0,none⟩∧base≤b∧b<w.heap.size∧(∀j,j<n*size→w.cell? ⟨b,j,none⟩=xs[j]?)∧∀j,w.frozen? ⟨b,j,none⟩=false):=by
 have h':=h;obtain⟨h1,h2⟩:=h;rcases h2 with⟨rfl,rfl⟩|⟨g,cap,cur,rfl,hb,hg,hc1,hc2,hc3,hc4⟩
 ·exact⟨none,0,rfl,Nat.le_refl _,zX,h1,fun h=>absurd h zQ⟩
 exact⟨some ⟨g,0,none⟩,cap,rfl,hc1,hc2,h1,fun _=>⟨g,rfl,hb,lt_of_block hg,fun j hj=>h'.cellAt j hj,fun j=>h'.frozenAt j⟩⟩
theorem Blk.grown{w w':World}{g:Nat}{cs:Array Value}{t:TypeId}{row:Option Nat}(h:Blk w g cs t)(hg:w.grownBy w' row)(hne:row≠some g):Blk w' g cs t:=by
 unfold Blk;rw[hg.block g h.lt (fun e=>hne e.symm)];exact h
theorem aAg{w w':World}{base:Nat}{e:TypeId}{size:Nat}{v:Value}{n:Nat}{xs:List Value}(h:w.ownsRow base e size v n xs)(k:Below w.heap.size w w'):w'.ownsRow base e size v n xs:=
 aBr h (pAD (S:=fun _=>False) k) (fun _ _=>id)
theorem aJc{w:World}{base base':Nat}{e:TypeId}{size:Nat}{v:Value}{n:Nat}{xs:List Value}(h:w.ownsRow base e size v n xs)(hb:base'≤base):w.ownsRow base' e size v n xs:=by
 obtain⟨h1,h2⟩:=h;refine⟨h1,?_⟩;rcases h2 with h2|⟨g,cap,cur,rfl,hge,hr⟩
 ·exact .inl h2
 exact .inr ⟨g,cap,cur,rfl,zQ,hr⟩
theorem aFa{α:Type}(f:α→List Value)(n:Nat)(hf:∀x,(f x).length=n):∀(l:List α) (i j:Nat),j<n→(l.flatMap f)[i*n+j]? = (l[i]?).bind fun x=>(f x)[j]?
 | [],i,j,_=>zV
 | x::r,0,j,hj=>by simp[List.getElem?_append,hf,hj]
 | x::r,i+1,j,hj=>by
  rw[List.flatMap_cons,List.getElem?_append_right (by rw[hf,Nat.add_mul];omega),hf,show(i+1)*n+j - n=i*n+j by rw[Nat.add_mul];omega];rw[aFa f n hf r i j hj];simp
theorem aF0{α:Type}(f:α→List Value)(n:Nat)(hf:∀x,(f x).length=n)(l:List α):(l.flatMap f).length=l.length*n:=by
 induction l with
 | nil=>simp
 | cons x r ih=>simp[hf,ih,Nat.add_mul];omega
structure Ln where
 cr:Int
 de:Int
 cu:Int
 li:Int
 db:Int
deriving DecidableEq
def Ln.vals(x:Ln):List Value:=[.int .u8 x.cr,.int .u8 x.de,.int .u8 x.cu,.int .i64 x.li,.int .i64 x.db]
theorem Ln.vals_len(x:Ln):x.vals.length=5:=rfl
def aBg(ls:List Ln):List Value:=ls.flatMap Ln.vals
def Ln.val(x:Ln):Value:=.agg #[.int .u8 x.cr,.int .u8 x.de,.int .u8 x.cu,.int .i64 x.li,.int .i64 x.db]
theorem aDz(ls:List Ln):(aBg ls).length=ls.length*5:=aF0 _ 5 Ln.vals_len ls
theorem aAu(ls:List Ln)(i j:Nat)(hj:j<5)(h:i<ls.length):(aBg ls)[i*5+j]? = ls[i].vals[j]? := by
 unfold aBg;rw[aFa _ 5 Ln.vals_len ls i j hj,List.getElem?_eq_getElem h];rfl
def Ln.rank(x:Ln):Int:=x.cu*65536+x.cr*256+x.de
def In8(n:Int):Prop:=0≤n∧n≤255
structure Ln.Fits(x:Ln):Prop where
 cr:In8 x.cr
 de:In8 x.de
 cu:In8 x.cu
 li:In64 x.li
 db:In64 x.db
theorem aJ8{a b c n d:Int}(h1:0≤a∧a≤255)(h2:0≤b∧b≤255)(h3:0≤c∧c≤255)(h4:0≤n∧n≤1099511627776)(h5:0≤d∧d≤1099511627776):(⟨a,b,c,n,d⟩:Ln).Fits:=
 ⟨h1,h2,h3,⟨Int.le_trans zX h4.1,Int.le_trans h4.2 zX⟩,⟨Int.le_trans zX h5.1,Int.le_trans h5.2 zX⟩⟩
def Ln.is(x:Ln)(a b c:Int):Bool:=x.cr==a && x.de==b && x.cu==c
def atL(ls:List Ln)(a b c:Int):Int:=match ls.findIdx? (fun x=>x.is a b c)with|some i=>i|none => -1
def aAn(ls:List Ln)(a b c:Int):Option Ln:=ls.find? fun x=>x.is a b c
def noLn:Ln:=⟨0,0,0,0,0⟩
def aBs(x:Ln)(s:List Ln×Bool)(y:Ln):List Ln×Bool:=
 if y.rank=x.rank then s else if s.2=false∧x.rank<y.rank then(s.1++[x,y],true)else(s.1++[y],s.2)
def aSs(ls:List Ln)(x:Ln):List Ln×Bool:=ls.foldl (aBs x) ([],x.li==0)
def setL(ls:List Ln)(x:Ln):List Ln:=if(aSs ls x).2=false then(aSs ls x).1++[x]else(aSs ls x).1
theorem at_found{ls:List Ln}{a b c:Int}{k:Nat}(h:k<ls.length)(hn:∀x∈ls.take k,x.is a b c=false)(hx:ls[k].is a b c=true):atL ls a b c=k∧aAn ls a b c=some ls[k]:=by
 have h1:ls.findIdx? (fun x=>x.is a b c)=some k:=by
  rw[List.findIdx?_eq_some_iff_getElem];refine⟨h,hx,fun j hj=>?_⟩;have:=hn ls[j] zA;simp[this]
 refine⟨by unfold atL;rw[h1],?_⟩;unfold aAn;rw[List.find?_eq_some_iff_getElem];refine⟨hx,k,h,rfl,fun j hj=>?_⟩;have:=hn ls[j] zA;simp[this]
theorem at_none{ls:List Ln}{a b c:Int}(hn:∀x∈ls,x.is a b c=false):atL ls a b c = -1∧aAn ls a b c=none:=by
 refine⟨?_,?_⟩
 ·unfold atL;rw[List.findIdx?_eq_none_iff.2 hn]
 unfold aAn;rw[List.find?_eq_none];intro x hx;simp[hn x hx]
theorem at_cases(ls:List Ln)(a b c:Int):(∃(k:Nat) (h:k<ls.length),atL ls a b c=k∧aAn ls a b c=some ls[k]∧ls[k].is a b c=true)∨(atL ls a b c = -1∧aAn ls a b c=none∧∀x∈ls,x.is a b c=false):=by
 by_cases h:∀x∈ls,x.is a b c=false
 ·exact .inr ⟨(at_none h).1,(at_none h).2,h⟩
 left
 cases hf:ls.findIdx? (fun x=>x.is a b c)with
 | none=>
  exact absurd (List.findIdx?_eq_none_iff.1 hf) h
 | some k=>
  obtain⟨hk,hx,hn⟩:=List.findIdx?_eq_some_iff_getElem.1 hf
  obtain⟨h1,h2⟩:=at_found hk (a:=a) (b:=b) (c:=c) (by
   intro x hx;obtain⟨j,hj,rfl⟩:=List.mem_take_iff_getElem.1 hx;have:=hn j zQ;simpa using this) hx
  exact⟨k,hk,h1,h2,hx⟩
def aL5(b:Bool):Nat:=cond b 0 1
theorem unput_le(b:Bool):aL5 b≤1:=by cases b <;> simp[aL5]
theorem aL6(x:Ln)(s:List Ln×Bool)(y:Ln):(aBs x s y).1.length+aL5 (aBs x s y).2≤s.1.length+aL5 s.2+1:=by
 unfold aBs;split
 ·omega
 split
 ·rename_i h;have e1:(s.1++[x,y]).length=s.1.length+2:=zV
  have e2:aL5 true=0:=rfl;have e3:aL5 false=1:=rfl;rw[h.1];dsimp only;omega
 have e1:(s.1++[y]).length=s.1.length+1:=zV
 dsimp only;omega
theorem setTo_len(ls:List Ln)(x:Ln):(aSs ls x).1.length≤ls.length+1:=by
 have key:∀(l:List Ln) (s:List Ln×Bool),(l.foldl (aBs x) s).1.length+aL5 (l.foldl (aBs x) s).2≤s.1.length+aL5 s.2+l.length:=by
  intro l
  induction l with
  | nil=>intro s;exact Nat.le_refl _
  | cons y r ih=>
   intro s;have h1:=ih (aBs x s y);have h2:=aL6 x s y;simp only[List.foldl_cons,List.length_cons];omega
 have:=key ls ([],x.li==0);unfold aSs;simp only[List.length_nil]at this;have h2:=unput_le (x.li==0);omega
theorem aNw(a b:List Ln):aBg (a++b)=aBg a++aBg b:=by unfold aBg;exact List.flatMap_append
theorem aSt(x:Ln):aBg [x]=x.vals:=by simp[aBg]
def lnAt(ls:List Ln)(a b c:Int):Ln:=(aAn ls a b c).getD noLn
structure Ln.Good(x:Ln):Prop where
 cr:1≤x.cr∧x.cr≤16
 de:1≤x.de∧x.de≤16
 cu:1≤x.cu∧x.cu≤8
 ne:x.cr≠x.de
 li:1≤x.li∧x.li≤1099511627776
 db:0≤x.db∧x.db≤x.li
theorem Ln.Good.fits{x:Ln}(h:x.Good):x.Fits:=by
 obtain⟨h1,h2,h3,_,h5,h6⟩:=h;exact⟨⟨zQ,zQ⟩,⟨zQ,zQ⟩,⟨zQ,zQ⟩,⟨zQ,zQ⟩,⟨zQ,zQ⟩⟩
theorem aAq{ls:List Ln}{a b c:Int}{x:Ln}(h:aAn ls a b c=some x):x∈ls∧x.cr=a∧x.de=b∧x.cu=c:=by
 unfold aAn at h;refine⟨List.mem_of_find?_eq_some h,?_⟩;have:=List.find?_some h;unfold Ln.is at this;simp only[Bool.and_eq_true,beq_iff_eq]at this;exact⟨this.1.1,this.1.2,this.2⟩
theorem aEg{ls:List Ln}(hg:∀y∈ls,y.Good)(a b c:Int):0≤(lnAt ls a b c).db∧(lnAt ls a b c).db≤(lnAt ls a b c).li∧(lnAt ls a b c).li≤1099511627776:=by
 unfold lnAt
 cases h:aAn ls a b c with
 | none=>simp[noLn]
 | some x=>have:=hg x (aAq h).1;have h5:=this.li;have h6:=this.db;simp;omega
def aB7(ps:List Int)(ls:List Ln)(a b c:Int):Int:=if a=b∨a∉ps∨b∉ps then 0 else(lnAt ls a b c).db+(lnAt ls b a c).li - (lnAt ls b a c).db
theorem aO3{ps:List Int}{ls:List Ln}(hg:∀y∈ls,y.Good)(a b c:Int):0≤aB7 ps ls a b c∧aB7 ps ls a b c≤2199023255552:=by
 unfold aB7;have h1:=aEg hg a b c;have h2:=aEg hg b a c;split <;> omega
def aAo(ps:List Int)(ls:List Ln)(a b c n:Int):Int:=
 if a<1∨16<a∨b<1∨16<b∨c<1∨8<c∨a=b∨n<0∨1099511627776<n then 1
 else if a∉ps∨b∉ps then 7
 else if n<(lnAt ls a b c).db then 14
 else if aAn ls a b c=none∧0<n∧64≤ls.length then 9 else 0
def aA7(ps:List Int)(ls:List Ln)(a b c n:Int):List Ln:=if aAo ps ls a b c n=0 then setL ls ⟨a,b,c,n,(lnAt ls a b c).db⟩else ls
def aBh(ls:List Ln)(a b c n:Int):Int:=if n<1 then 1 else if aAn ls a b c=none then 7 else if(lnAt ls a b c).db<n then 14 else 0
def Ln.owe(x:Ln)(d:Int):Ln:=⟨x.cr,x.de,x.cu,x.li,d⟩
def aBe(ls:List Ln)(a b c n:Int):List Ln:=if aBh ls a b c n=0 then setL ls ((lnAt ls a b c).owe ((lnAt ls a b c).db - n))else ls
def aEw(ps:List Int)(ls:List Ln)(a b c n:Int):Int:=if n<1 then 1 else if aB7 ps ls a b c<n then 11 else 0
def aJ9(ls:List Ln)(a b c n:Int):List Ln:=if(aAn ls a b c).isSome=true then setL ls ((lnAt ls a b c).owe ((lnAt ls a b c).db - min n (lnAt ls a b c).db))else ls
def push2(ls:List Ln)(a b c n:Int):Int:=if(aAn ls a b c).isSome=true then n - min n (lnAt ls a b c).db else n
def aCz(ls:List Ln)(a b c n:Int):List Ln:=
 if 0<push2 ls a b c n then setL (aJ9 ls a b c n) ((lnAt (aJ9 ls a b c n) b a c).owe ((lnAt (aJ9 ls a b c n) b a c).db+push2 ls a b c n))else aJ9 ls a b c n
def aEn(ps:List Int)(ls:List Ln)(a b c n:Int):List Ln:=if aEw ps ls a b c n=0 then aCz ls a b c n else ls
theorem setL_len(ls:List Ln)(x:Ln):(setL ls x).length≤ls.length+1:=by
 have key:∀(l:List Ln) (s:List Ln×Bool),(l.foldl (aBs x) s).1.length+aL5 (l.foldl (aBs x) s).2≤s.1.length+aL5 s.2+l.length:=by
  intro l
  induction l with
  | nil=>intro s;exact Nat.le_refl _
  | cons y r ih=>
   intro s;have h1:=ih (aBs x s y);have h2:=aL6 x s y;simp only[List.foldl_cons,List.length_cons];omega
 have h1:=key ls ([],x.li==0);have h2:=unput_le (x.li==0);simp only[List.length_nil]at h1;unfold setL aSs;split
 ·rename_i h;rw[h,show aL5 false=1 from rfl]at h1;simp;omega
 omega
def aBb(p c:Int)(x:Ln):Int:=if x.cu=c then(if x.cr=p then x.db else 0) - (if x.de=p then x.db else 0)else 0
def posL(ls:List Ln)(p c:Int):Int:=(ls.map (aBb p c)).sum
def aGx(c:Int)(x:Ln):Int:=if x.cu=c then x.db else 0
def totL(ls:List Ln)(c:Int):Int:=(ls.map (aGx c)).sum
theorem sum_next{α:Type}(f:α→Int)(l:List α)(k:Nat)(h:k<l.length):((l.take (k+1)).map f).sum=((l.take k).map f).sum+f l[k]:=by
 rw[List.take_succ_eq_append_getElem h,List.map_append,List.sum_append];simp
theorem sum_le{α:Type}(f:α→Int)(m:Int):∀(l:List α),(∀x∈l,-m≤f x∧f x≤m) → -m*(l.length:Int)≤(l.map f).sum∧(l.map f).sum≤m*(l.length:Int)
 | [],_=>zV
 | x::r,h=>by
  have h1:=h x zV;have h2:=sum_le f m r (fun y hy=>h y vS);simp only[List.map_cons,List.sum_cons,List.length_cons];rw[show((r.length+1:Nat):Int)=(r.length:Int)+1 by omega,Int.mul_add,Int.mul_add];omega
theorem aO4{x:Ln}(h:x.Good)(p c:Int):-1099511627776≤aBb p c x∧aBb p c x≤1099511627776:=by
 have h5:=h.li;have h6:=h.db;unfold aBb
 (repeat' split) <;> omega
theorem totOf_bd{x:Ln}(h:x.Good)(c:Int):-1099511627776≤aGx c x∧aGx c x≤1099511627776:=by
 have h5:=h.li;have h6:=h.db;unfold aGx;split <;> omega
structure Spec where
 p:Nat
 q:Nat
 zero:Obj
 full:Obj
def upd(g:Nat→Nat)(p a:Nat):Nat→Nat:=fun i=>if i=p then a else g i
theorem aO5(g:Nat→Nat)(p a:Nat):upd g p a p=a:=by simp[upd]
theorem aG0(g:Nat→Nat){p i:Nat}(a:Nat)(h:i≠p):upd g p a i=g i:=by simp[upd,h]
def SpecOk(W w:World)(g:Nat→Nat)(D:Nat→Bool)(s:Spec):Prop:=
 D s.p=true→W.heap.size≤g s.p∧w.heap[g s.p]? = some (if D s.q then s.full else s.zero)
def aN7(bs:List Spec):Bool:=bs.all fun s=>bs.all fun s'=>s.p==s'.p || (s.p != s'.q && s.q != s'.p && s.q != s'.q)
structure Lays(W:World)(bs:List Spec)(g:Nat→Nat)(D:Nat→Bool)(w:World):Prop where
 below:Below W.heap.size W w
 ok:∀s∈bs,SpecOk W w g D s
 apart:∀s∈bs,∀s'∈bs,D s.p=true→D s'.p=true→s.p≠s'.p→g s.p≠g s'.p
theorem Lays.start(W:World)(bs:List Spec)(g:Nat→Nat):Lays W bs g (fun _=>false) W.drew:=
 ⟨yZ.drew,fun s _ h=>vV,fun s _ s' _ h=>vV⟩
theorem aC3{k i:Nat}(D:Nat→Bool)(h:i≠k):ins k D i=D i:=by simp[ins,h]
theorem aHl(k:Nat)(D:Nat→Bool):ins k D k=true:=wZ
theorem Lays.step{W w w':World}{bs:List Spec}{g:Nat→Nat}{D:Nat→Bool}{k:Nat}(h:Lays W bs g D w)(hb:Below w.heap.size w w')(hk:bs.all (fun s=>s.p != k && s.q != k)=true):Lays W bs g (ins k D) w':=by
 obtain⟨h1,h2,h3⟩:=h
 have hk':∀s∈bs,s.p≠k∧s.q≠k:=fun s hs=>by
  have:=List.all_eq_true.1 hk s hs;simpa using this
 refine⟨h1.trans (hb.mono h1.size),fun s hs hd=>?_,fun s hs s' hs' hd hd' hne=>?_⟩
 ·rw[aC3 D (hk' s hs).1]at hd;obtain⟨a,b⟩:=h2 s hs hd;rw[aC3 D (hk' s hs).2];exact⟨a,by rw[hb.block _ (Array.getElem?_eq_some_iff.1 b).1];exact b⟩
 rw[aC3 D (hk' s hs).1]at hd;rw[aC3 D (hk' s' hs').1]at hd';exact h3 s hs s' hs' hd hd' hne
theorem Lays.lay{W w:World}{bs:List Spec}{g:Nat→Nat}{D:Nat→Bool}(h:Lays W bs g D w)(s:Spec)(hs:s∈bs)(ha:aN7 bs=true)(hq:s.q=s.p∨D s.q=false)(hone:bs.all (fun s'=>s'.p != s.p || s'.q==s.q)=true)
  (hsame:∀s'∈bs,s'.p=s.p→s'=s)(o:Obj)(ho:o=if s.q=s.p then s.full else s.zero):Lays W bs (upd g s.p w.heap.size) (ins s.p D) (w.alloc o):=by
 obtain⟨h1,h2,h3⟩:=h
 have hap:∀s'∈bs,s'.p≠s.p→s'.q≠s.p:=fun s' hs' hne=>by
  have:=List.all_eq_true.1 (List.all_eq_true.1 ha s' hs') s hs;simp only[Bool.or_eq_true,beq_iff_eq,Bool.and_eq_true,bne_iff_ne,ne_eq]at this;rcases this with e|e
  ·exact absurd e hne
  exact e.1.2
 refine⟨h1.alloc h1.size _,fun s' hs' hd=>?_,fun s1 hs1 s2 hs2 hd1 hd2 hne=>?_⟩
 ·by_cases he:s'.p=s.p
  ·have:=hsame s' hs' he;subst this;rw[aO5];refine⟨h1.size,?_⟩;have e1:(w.alloc o).heap[w.heap.size]? = some o:=by show(w.heap.push _)[w.heap.size]? = _;simp
   rw[e1,ho]
   by_cases hqp:s'.q=s'.p
   ·rw[if_pos hqp,hqp,aHl];rfl
   rw[if_neg hqp,aC3 D hqp];rcases hq with e|e
   ·exact absurd e hqp
   rw[e];rfl
  rw[aC3 D he]at hd;obtain⟨a,b⟩:=h2 s' hs' hd;rw[aG0 g _ he,aC3 D (hap s' hs' he)];exact⟨a,by rw[Below.heap_alloc _ _ _ (Array.getElem?_eq_some_iff.1 b).1];exact b⟩
 have lt:∀s'∈bs,s'.p≠s.p→ins s.p D s'.p=true→g s'.p<w.heap.size:=fun s' hs' he hd=>by
  rw[aC3 D he]at hd;exact(Array.getElem?_eq_some_iff.1 (h2 s' hs' hd).2).1
 by_cases e1:s1.p=s.p
 ·by_cases e2:s2.p=s.p
  ·exact absurd (e1.trans e2.symm) hne
  have:=lt s2 hs2 e2 hd2;rw[e1,aO5,aG0 g _ e2];omega
 by_cases e2:s2.p=s.p
 ·have:=lt s1 hs1 e1 hd1;rw[e2,aO5,aG0 g _ e1];omega
 rw[aG0 g _ e1,aG0 g _ e2];rw[aC3 D e1]at hd1;rw[aC3 D e2]at hd2;exact h3 s1 hs1 s2 hs2 hd1 hd2 hne
theorem Lays.fill{W w w':World}{bs:List Spec}{g:Nat→Nat}{D:Nat→Bool}(h:Lays W bs g D w)(s:Spec)(hs:s∈bs)(ha:aN7 bs=true)(hqp:s.q≠s.p)(hsame:∀s'∈bs,s'.p=s.p→s'=s)(hd:D s.p=true)
  (hk:Keep (·=g s.p) w w')(hf:w'.heap[g s.p]? = some s.full):Lays W bs g (ins s.q D) w':=by
 obtain⟨h1,h2,h3⟩:=h;have hg:=(h2 s hs hd).1
 have hap:∀s'∈bs,s'.p≠s.p→s'.q≠s.q∧s'.p≠s.q:=fun s' hs' hne=>by
  have:=List.all_eq_true.1 (List.all_eq_true.1 ha s' hs') s hs;simp only[Bool.or_eq_true,beq_iff_eq,Bool.and_eq_true,bne_iff_ne,ne_eq]at this;rcases this with e|e
  ·exact absurd e hne
  exact⟨e.2,e.1.1⟩
 refine⟨⟨hk.os.trans h1.os,hk.tape.trans h1.tape,hk.output.trans h1.output,Nat.le_trans h1.size hk.size,fun i hi=>by rw[hk.block i (yM hi h1.size) zQ];exact h1.block i hi⟩,fun s' hs' hd'=>?_,fun s1 hs1 s2 hs2 hd1 hd2 hne=>?_⟩
 ·by_cases he:s'.p=s.p
  ·have:=hsame s' hs' he;subst this;rw[aHl];exact⟨hg,hf⟩
  rw[aC3 D (hap s' hs' he).2]at hd';obtain⟨a,b⟩:=h2 s' hs' hd';rw[aC3 D (hap s' hs' he).1];exact⟨a,by rw[hk.block _ (Array.getElem?_eq_some_iff.1 b).1 (h3 s' hs' s hs hd' hd he)];exact b⟩
 have pn:∀s'∈bs,s'.p≠s.q:=fun s' hs'=>by
  by_cases he:s'.p=s.p
  ·rw[he];exact fun e=>hqp e.symm
  exact(hap s' hs' he).2
 rw[aC3 D (pn s1 hs1)]at hd1;rw[aC3 D (pn s2 hs2)]at hd2;exact h3 s1 hs1 s2 hs2 hd1 hd2 hne
theorem Lays.full{W w:World}{bs:List Spec}{g:Nat→Nat}{D:Nat→Bool}(h:Lays W bs g D w)(s:Spec)(hs:s∈bs)(hp:D s.p=true)(hq:D s.q=true):W.heap.size≤g s.p∧w.heap[g s.p]? = some s.full:=by
 obtain⟨a,b⟩:=h.ok s hs hp;rw[hq]at b;exact⟨a,b⟩
theorem Lays.zeroed{W w:World}{bs:List Spec}{g:Nat→Nat}{D:Nat→Bool}(h:Lays W bs g D w)(s:Spec)(hs:s∈bs)(hp:D s.p=true)(hq:D s.q=false):W.heap.size≤g s.p∧w.heap[g s.p]? = some s.zero:=by
 obtain⟨a,b⟩:=h.ok s hs hp;rw[hq]at b;exact⟨a,b⟩
def aF1(ops:Array Oper):Nat→Nat→Nat→Bool
 | 0,_,_=>false
 | d+1,i,j=>match ops[i]? with
  | some o=>o.after.any fun e=>Region.binds .any e && (e.on==j || aF1 ops d e.on j)
  | none=>false
theorem aBm{ops:Array Oper}{D:Nat→Bool}(hC:aDn ops D){j:Nat}(hj:D j=false):∀(d i:Nat),aF1 ops d i j=true→D i=false
 | 0,i,h=>by simp[aF1]at h
 | d+1,i,h=>by
  unfold aF1 at h;split at h
  ·rename_i o ho;obtain⟨e,he,hb⟩:=Array.any_eq_true'.1 h;simp only[Bool.and_eq_true,Bool.or_eq_true,beq_iff_eq]at hb
   by_cases hi:D i=true
   ·exfalso;have hw:=hC i o ho hi e he hb.1;rcases hb.2 with h2|h2
    ·rw[h2,hj]at hw;cases hw
    rw[aBm hC hj d e.on h2]at hw;cases hw
   simpa using hi
  cases h
theorem aA4{ops:Array Oper}{D:Nat→Bool}(hC:aDn ops D){o:Oper}(hw:aDm D o){d j:Nat}(h:(o.after.any fun e=>Region.binds .any e && (e.on==j || aF1 ops d e.on j))=true):D j=true:=by
 obtain⟨e,he,hb⟩:=Array.any_eq_true'.1 h;simp only[Bool.and_eq_true,Bool.or_eq_true,beq_iff_eq]at hb;have h1:=hw e he hb.1;rcases hb.2 with h2|h2
 ·rw[←h2];exact h1
 by_cases hj:D j=true
 ·exact hj
 rw[aBm hC xE d e.on h2]at h1;cases h1
theorem aC7{n:Nat}(ops:Array Oper)(vals:(Nat→Nat)→List Value)(g:Nat→Nat)(p a d:Nat){D:Nat→Bool}(hC:aDn ops D)(hp:D p=false)
  (h:∀j,j<n→(j=p∨aF1 ops d j p=true)∨(vals g).getD j undef=(vals (upd g p a)).getD j undef):∀j,j<n→D j=true→(vals g).getD j undef=(vals (upd g p a)).getD j undef:=by
 intro j hj hD;rcases h j hj with(rfl|h)|h
 ·rw[hp]at hD;cases hD
 ·rw[aBm hC hp d j h]at hD;cases hD
 exact h
theorem aAc{w:World}(g:Nat)(cs:Array Value):Keep (·=g) w (w.setRow g cs):=
 ⟨rfl,rfl,rfl,by simp[World.setRow],fun k _ hk=>setRow_other w g k cs (fun e=>hk e)⟩
section
variable{P:Program}{ops:Array Oper}{Q:Exit→Act→World→Prop}{a:Act}
theorem aDe{id:Nat}{w:World}(hm:P.follows .mixedOrders=true)(n d:Nat)(vals:List Value)(S:World→Prop)(hok:aB9 ops=true)(hsz:ops.size=n+1)
  (hlast:(List.range n).all (fun j=>aF1 ops d n j)=true)(h0:S w.drew)
  (h:∀af,puts (fun i=>vals.getD i undef) 0 ops.toList a=af→aBd P ops af S (ops.toList.take n)∧∀w',S w'→OpTo P ops af (ops.toList.getD n default) w' (fun w''=>Q .normal af w'')):
  (Code.region id ops true).wp P Q a w:=by
 obtain⟨h1,h2⟩:=h _ rfl;refine wp_region_any hm ?_;have haf':frOf ops (fun i=>vals.getD i undef) (fun _=>true) a=puts (fun i=>vals.getD i undef) 0 ops.toList a:=aEv hok;have hfr:=aD9 ops (fun i=>vals.getD i undef) a
 have hz:(fun i=>(Array.replicate ops.size false).getD i false)=fun _=>false:=by
  funext i;simp[Array.getD_eq_getD_getElem?,Array.getElem?_replicate];split <;> rfl
 have key:=aHk (P:=P) (Q:=Q) (val:=fun i=>vals.getD i undef) (a:=a) (I:=fun D w'=>if D n=true then Q .normal (puts (fun i=>vals.getD i undef) 0 ops.toList a) w' else S w') hm hok
  (fun i o ho D w' hDi hw hc hI=>by
   rw[haf']
   have hi:i<ops.size:=by
    rcases Nat.lt_or_ge i ops.size with h'|h'
    ·exact h'
    simp[Array.getElem?_eq_none h']at ho
   by_cases hin:i=n
   ·subst hin;rw[hDi]at hI;simp only[ins,beq_self_eq_true,Bool.true_or,if_true];have h3:=h2 w' hI
    rwa [List.getD_eq_getElem?_getD,Array.getElem?_toList,ho]at h3
   have hDn:D n=false:=aBm hc hDi d n (List.all_eq_true.1 hlast i zU);rw[hDn]at hI;have:(ins i D) n=false:=by simp[ins,hDn];omega
   simp only[this];exact h1.at (i:=i) (by rw[List.getElem?_take];simp[show i<n by omega,ho]) w' hI)
  (fun D w' hall hI=>by
   rw[haf']
   rwa [if_pos (hall n zQ)]at hI)
  ops.size (Array.replicate ops.size false) w.drew zV zV (fun j o ho hj=>by
   simp[Array.getD_eq_getD_getElem?,Array.getElem?_replicate]at hj;split at hj <;> simp at hj) (by
   have:(Array.replicate ops.size false).getD n false=false:=by simp[Array.getD_eq_getD_getElem?,Array.getElem?_replicate];split <;> rfl
   show if(Array.replicate ops.size false).getD n false=true then _ else S w.drew
   rw[this];exact h0)
 rw[hz,hfr]at key;exact key
end
theorem aEx{P:Program}{w w':World}{o:Oper}{a:Act}{K:Act→World→Prop}{Q:Exit→Act→World→Prop}(t:TypeId)(m x v:Operand)(ho:o.op=.mapUpdate t m x v){mv xv vv:Value}
  (hm:a.eval m=mv)(hx:a.eval x=xv)(hv:a.eval v=vv)(hr:(Instr.mapUpdate t mv xv vv).run P w=.ok () w')(h:K (a.put o.dst undef) w'):o.wp P a w K Q:=by
 unfold Oper.wp;simp only[execOp,ho,hm,hx,hv,Sem.run_bind,hr,Result.andThen_ok];exact h
theorem aKy{P:Program}{w w':World}{o:Oper}{a:Act}{K:Act→World→Prop}{Q:Exit→Act→World→Prop}(m x:Operand)(t k:TypeId){mv xv:Value}
  (ho:o.op=.call { callee:=.builtin .delete,args:=#[m,x],argTypes:=#[t,k] })(hm:a.eval m=mv)(hx:a.eval x=xv)
  (hr:(Builtin.delete_ #[t,k] o.type #[mv,xv]).run P w=.ok (.tuple #[]) w')(h:K (a.put o.dst (.tuple #[])) w'):o.wp P a w K Q:=by
 unfold Oper.wp execOp;simp only[ho,resolve,invoke,builtin,Sem.run_bind,Sem.run_pure,Result.andThen_ok,List.map_toArray,List.map_cons,List.map_nil,hm,hx,hr];exact h
def Once(c:Nat)(S T:World→Prop)(D:Nat→Bool)(w:World):Prop:=(D c=false→S w)∧(D c=true→T w)
theorem Once.start{c:Nat}{S T:World→Prop}{w:World}(h:S w):Once c S T (fun _=>false) w:=⟨fun _=>h,fun h=>(Bool.false_ne_true h).elim⟩
theorem Once.pre{c:Nat}{S T:World→Prop}{D:Nat→Bool}{w:World}(h:Once c S T D w)(hn:D c=false):S w:=h.1 hn
theorem Once.post{c:Nat}{S T:World→Prop}{D:Nat→Bool}{w:World}(h:Once c S T D w)(hn:D c=true):T w:=h.2 hn
theorem Once.done{c:Nat}{S T:World→Prop}{D:Nat→Bool}{w:World}(h:T w):Once c S T (ins c D) w:=by
 have e:ins c D c=true:=wZ
 exact⟨fun d=>(by rw[e]at d;cases d),fun _=>h⟩
def aLl(ops:Array Oper)(m i:Nat):Nat:=match m.testBit i with
 | true=>match ops[i]? with
  | some o=>o.after.foldl (fun m e=>match Region.binds .any e with
   | true=>m ||| 2 ^ e.on
   | false=>m) m
  | none=>m
 | false=>m
def need(ops:Array Oper)(c:Nat):Nat:=(List.range (c+1)).reverse.foldl (aLl ops) (2 ^ c)
theorem aO6{ops:Array Oper}{D:Nat→Bool}(hC:aDn ops D){m:Nat}(i:Nat)(hm:∀j,m.testBit j=true→D j=true):∀j,(aLl ops m i).testBit j=true→D j=true:=by
 intro j hj;unfold aLl at hj;split at hj
 ·rename_i hi;split at hj
  ·rename_i o ho;have hw:=hC i o ho (hm i hi);rw[←Array.foldl_toList]at hj
   have key:∀(l:List Edge) (m:Nat),(∀e∈l,e∈o.after)→(∀j,m.testBit j=true→D j=true)→∀j,(l.foldl (fun m e=>match Region.binds .any e with|true=>m ||| 2 ^ e.on|false=>m) m).testBit j=true→D j=true:=by
    intro l
    induction l with
    | nil=>intro m _ h j hj;exact h j hj
    | cons e r ih=>
     intro m he h j hj;rw[List.foldl_cons]at hj;refine ih _ (fun e' h'=>he e' (List.mem_cons_of_mem _ h')) ?_ j hj;intro j' hj';split at hj'
     ·rename_i hb;rw[Nat.testBit_or,Bool.or_eq_true]at hj';rcases hj' with hj'|hj'
      ·exact h j' hj'
      rw[Nat.testBit_two_pow,decide_eq_true_eq]at hj';subst hj';exact hw e (he e List.mem_cons_self) hb
     exact h j' hj'
   exact key _ m (fun e he=>xT) hm j hj
  exact hm j hj
 exact hm j hj
theorem aQi{ops:Array Oper}{D:Nat→Bool}(hC:aDn ops D){c:Nat}(hc:D c=true):∀j,(need ops c).testBit j=true→D j=true:=by
 have key:∀(l:List Nat) (m:Nat),(∀j,m.testBit j=true→D j=true)→∀j,(l.foldl (aLl ops) m).testBit j=true→D j=true:=by
  intro l
  induction l with
  | nil=>intro m h j hj;exact h j hj
  | cons i r ih=>intro m h j hj;exact ih _ (aO6 hC i h) j hj
 refine key _ _ fun j hj=>?_
 rw[Nat.testBit_two_pow,decide_eq_true_eq]at hj;subst hj;exact hc
theorem aAd{ops:Array Oper}{D:Nat→Bool}(hC:aDn ops D){j:Nat}(hj:D j=false)(c:Nat)(h:(need ops c).testBit j=true):D c=false:=by
 cases hc:D c with
 | false=>rfl
 | true=>rw[aQi hC hc j h]at hj;cases hj
theorem aA8{ops:Array Oper}{D:Nat→Bool}(hC:aDn ops D){o:Oper}(hw:aDm D o){c:Nat}(h:(o.after.any fun e=>Region.binds .any e && (need ops e.on).testBit c)=true):D c=true:=by
 obtain⟨e,he,hb⟩:=Array.any_eq_true'.1 h;simp only[Bool.and_eq_true]at hb;exact aQi hC (hw e he hb.1) c hb.2
def aFb(n:Nat):Code→Option Code
 | .region i ops m=>match i==n with
  | true=>some (.region i ops m)
  | false=>none
 | .seq a b=>match aFb n a with
  | some c=>some c
  | none=>aFb n b
 | .cond _ a b=>match aFb n a with
  | some c=>some c
  | none=>aFb n b
 | .block _ c=>aFb n c
 | .scope c=>aFb n c
 | .loop c=>aFb n c
 | _=>none
section
variable{P:Program}{ops:Array Oper}{Q:Exit→Act→World→Prop}{a:Act}
theorem aHm{val:Nat→Value}{D:Nat→Bool}{o:Oper}{v v':Value}(h:(frOf ops val (fun _=>true) a).put o.dst v=(frOf ops val (fun _=>true) a).put o.dst v'):(frOf ops val D a).put o.dst v=(frOf ops val D a).put o.dst v':=by
 cases hd:o.dst with
 | none=>rfl
 | some d=>
  rw[hd]at h;simp only[Act.put]at h ⊢;have h1:=congrArg Act.tmps h;simp only at h1
  by_cases hs:d<a.tmps.size
  ·have h2:=congrArg (fun t=>t[d]?) h1;simp[frOf,hs]at h2;rw[h2]
  have hz:(frOf ops val D a).tmps.size≤d:=by simpa [frOf]using hs
  have e:∀x,(frOf ops val D a).tmps.setIfInBounds d x=(frOf ops val D a).tmps:=fun x=>Array.setIfInBounds_eq_of_size_le hz
  rw[e,e]
def LeftBy(af:Act)(o:Oper)(R:Value→World→Prop)(a':Act)(w':World):Prop:=∃v,a'=af.put o.dst v∧R v w'
def aGs(P:Program)(ops:Array Oper)(af:Act)(o:Oper)(w:World)(R:Value→World→Prop):Prop:=
 if Region.wanted o (yielded ops af.tmps)then o.wp P af w (fun a' w'=>LeftBy af o R a' w') (fun _ _ _=>False)else R undef w
theorem aGs.plain{af:Act}{o:Oper}{w:World}{R:Value→World→Prop}(hg:o.guard=none)(h:o.wp P af w (fun a' w'=>LeftBy af o R a' w') (fun _ _ _=>False)):aGs P ops af o w R:=by
 unfold aGs;rw[if_pos vI];exact h
theorem aGs.wpOp{val:Nat→Value}{i:Nat}{o:Oper}{D:Nat→Bool}{w:World}{R:Value→World→Prop}(ho:ops[i]? = some o)(hok:opOk ops i o=true)(hwt:aDm D o)
  (h:aGs P ops (frOf ops val (fun _=>true) a) o w R){K:Act→World→Prop}(hK:∀v w',R v w'→K ((frOf ops val D a).put o.dst v) w'):
  Go.wpOp P ops Q i K (frOf ops val D a) w:=by
 obtain⟨he,hwd⟩:=aQg (val:=val) (a:=a) hok hwt;unfold aGs at h;unfold Go.wpOp;simp only[ho,hwd];split
 ·rename_i hw;rw[if_pos hw]at h;refine .inl ?_;unfold Oper.wp at h ⊢;rw[he];generalize (execOp (frOf ops val (fun _=>true) a).eval o).run P w=r at h
  cases r with
  | ok n w'=>
   cases n <;> simp only[Oper.upon]at h ⊢
   case value v=>obtain⟨v',h1,h2⟩:=h;rw[aHm h1];exact hK _ _ h2
   case skip=>obtain⟨v',h1,h2⟩:=h;rw[aHm h1];exact hK _ _ h2
   case defer d=>
    obtain⟨v',h1,h2⟩:=h;have:=congrArg Act.defers h1;exfalso
    cases hdst:o.dst <;> rw[hdst]at this <;> simp only[Act.put]at this <;> exact absurd (congrArg List.length this) zV
   case enter f args=>
    refine Calls.mono h fun e w'' hh=>?_
    cases e with
    | returned v=>simp only at hh ⊢;obtain⟨v',h1,h2⟩:=hh;rw[aHm h1];exact hK _ _ h2
    | panicked c=>exact hh.elim
    | outgrown=>obtain⟨_,_,hh⟩:=hh;exact hh.elim
   case row row args=>
    refine Rows.mono h fun v w'' hh=>?_
    obtain⟨v',h1,h2⟩:=hh;rw[aHm h1];exact hK _ _ h2
  | halt x w'=>
   cases x <;> simp only[Oper.upon]at h ⊢
 rename_i hw;rw[if_neg hw]at h;exact hK _ _ h
def OwesF{G:Type}(P:Program)(ops:Array Oper)(vals:G→Nat→Value)(AF:G→Act)(I:G→(Nat→Bool)→World→Prop)(k:Nat)(o:Oper)(g:G)(D:Nat→Bool)(w:World):Prop:=
 (∃g',(∀j,j<ops.size→D j=true→vals g j=vals g' j)∧OpTo P ops (AF g') o w (I g' (ins k D)))∨
  aGs P ops (AF g) o w (fun v w'=>∃g',(∀j,j<ops.size→D j=true→vals g j=vals g' j)∧vals g' k=v∧I g' (ins k D) w')
theorem aSu{G:Type}{val:G→Nat→Value}{I:G→(Nat→Bool)→World→Prop}(hok:aB9 ops=true)
  (hop:∀(i:Nat) (o:Oper),ops[i]? = some o→∀g D w,D i=false→aDm D o→aDn ops D→I g D w→OwesF P ops val (fun g=>frOf ops (val g) (fun _=>true) a) I i o g D w)
  (hend:∀g D w,(∀i,i<ops.size→D i=true)→I g D w→Q .normal (frOf ops (val g) (fun _=>true) a) w):
  ∀(fuel:Nat) (listed:Array Bool) (g:G) (w:World),listed.size=ops.size→fuel=(listed.toList.filter (! ·)).length→aDn ops (fun i=>listed.getD i false)→I g (fun i=>listed.getD i false) w→
   wpAny P .any ops Q fuel listed (frOf ops (val g) (fun i=>listed.getD i false) a) w:=by
 have fin:∀(listed:Array Bool) (g:G) (w:World),listed.size=ops.size→I g (fun i=>listed.getD i false) w→Region.ready .any ops listed=[]→
   Q .normal (frOf ops (val g) (fun i=>listed.getD i false) a) w:=by
  intro listed g w hsz hI hr;have hall:=aL2 hok hsz hr
  have hall':∀i,i<ops.size→listed.getD i false=true:=fun i hi=>by
   have:=hall i hi;have h4:i<listed.size:=zQ
   simpa [Array.getD_eq_getD_getElem?,Array.getElem?_eq_getElem h4]using this
  rw[aEr ops (val g) _ (fun _=>true) a (fun i hi=>hall' i hi)];exact hend g _ w hall' hI
 intro fuel
 induction fuel with
 | zero=>
  intro listed g w hsz hf hc hI
  have hz:∀i,i<ops.size→listed.getD i true=true:=by
   intro i hi;have h4:i<listed.size:=zQ
   have h5:listed[i]∈listed.toList:=zV
   have h6:=List.filter_eq_nil_iff.1 (List.length_eq_zero_iff.1 hf.symm) _ h5;simp only[Array.getD_eq_getD_getElem?,Array.getElem?_eq_getElem h4,Option.getD_some];simpa using h6
  have hr:Region.ready .any ops listed=[]:=by
   unfold Region.ready;refine List.filter_eq_nil_iff.2 fun i hi=>?_
   have hi':i<ops.size:=xQ
   simp[hz i hi']
  exact⟨hr,fin listed g w hsz hI hr⟩
 | succ fuel ih=>
  intro listed g w hsz hf hc hI;refine⟨fin listed g w hsz hI,fun i hi=>?_⟩;obtain⟨hun,o,ho,hall⟩:=mem_ready.1 hi
  have hisz:i<listed.size:=by
   rcases Nat.lt_or_ge i listed.size with h'|h'
   ·exact h'
   simp[Array.getElem?_eq_none h']at hun
  have hun':listed.getD i false=false:=by simpa [Array.getD_eq_getD_getElem?,Array.getElem?_eq_getElem hisz]using hun
  have hwt:aDm (fun i=>listed.getD i false) o:=fun e he hb=>hall e he hb
  have heq:(ins i fun i=>listed.getD i false)=fun j=>(listed.setIfInBounds i true).getD j false:=by
   funext j
   simp only[ins,Array.getD_eq_getD_getElem?]
   by_cases hji:j=i
   ·subst hji;simp[Array.getElem?_setIfInBounds_self_of_lt hisz]
   rw[Array.getElem?_setIfInBounds_ne (Ne.symm hji)];simp[hji]
  have next:∀g' w',I g' (ins i fun i=>listed.getD i false) w'→wpAny P .any ops Q fuel (listed.setIfInBounds i true) (frOf ops (val g') (ins i fun i=>listed.getD i false) a) w':=by
   intro g' w' hw';rw[heq]at hw' ⊢;refine ih _ g' w' (v6 hsz) ?_ ?_ hw'
   ·have hlen:((listed.setIfInBounds i true).toList.filter (! ·)).length+1=(listed.toList.filter (! ·)).length:=by
     simp only[Array.toList_setIfInBounds]
     have hfa:listed.toList[i]? = some false:=by
      simp only[Array.getD_eq_getD_getElem?,Array.getElem?_eq_getElem hisz,Option.getD_some]at hun;simp[hisz,hun]
     exact aHj _ _ hfa
    omega
   intro j oj hoj hj e he hb;rw[←heq]at hj ⊢;simp only[ins,Bool.or_eq_true,beq_iff_eq]at hj ⊢;rcases hj with rfl|hj
   ·rw[ho]at hoj;cases hoj;exact .inr (hwt e he hb)
   exact .inr (hc j oj hoj hj e he hb)
  have hd:∀d,o.dst=some d→aDl ops d=some i:=by
   intro d hd;have:=aCm hok ho;simp only[opOk,Bool.and_eq_true,hd,beq_iff_eq]at this;exact this.1.1.1
  rcases hop i o ho g _ w hun' hwt hc hI with⟨g',hag,hop'⟩|hop'
  ·rw[aL3 ops (val g) (val g') _ a hag];exact OpTo.wpOp ho (aCm hok ho) hwt hop' fun w' hw'=>next g' w' hw'
  refine aGs.wpOp ho (aCm hok ho) hwt hop' fun v w' hv=>?_
  obtain⟨g',hag,hv,hI'⟩:=hv;rw[aL3 ops (val g) (val g') _ a hag,←hv,aFz ho hd (aQh hok ho)];exact next g' w' hI'
def aO7{G:Type}(P:Program)(ops:Array Oper)(vals:G→List Value)(AF:G→Act)(I:G→(Nat→Bool)→World→Prop):Nat→List Oper→Prop
 | _,[]=>True
 | k,o::r=>(∀g D w',D k=false→aDm D o→aDn ops D→I g D w'→OwesF P ops (fun g i=>(vals g).getD i undef) AF I k o g D w')∧aO7 P ops vals AF I (k+1) r
theorem aO7.at{G:Type}{vals:G→List Value}{AF:G→Act}{I:G→(Nat→Bool)→World→Prop}:∀{l:List Oper} {k:Nat},aO7 P ops vals AF I k l→∀{i:Nat} {o:Oper},l[i]? = some o→∀g D w',D (k+i)=false→aDm D o→aDn ops D→I g D w'→
   OwesF P ops (fun g i=>(vals g).getD i undef) AF I (k+i) o g D w'
 | [],_,_,i,o,h=>vV
 | o::r,k,h,0,o',ho=>wW
 | o::r,k,h,i+1,o',ho=>by
  have:=aO7.at h.2 (i:=i) yW
  rwa [show k+(i+1)=k+1+i by omega]
theorem aFc{id:Nat}{w:World}(hm:P.follows .mixedOrders=true){G:Type}(vals:G→List Value)(I:G→(Nat→Bool)→World→Prop)(hok:aB9 ops=true)(g0:G)(h0:I g0 (fun _=>false) w.drew)
  (h:∀AF:G→Act,(∀g,puts (fun i=>(vals g).getD i undef) 0 ops.toList a=AF g)→
   aO7 P ops vals AF I 0 ops.toList∧∀g D w',(∀i,i<ops.size→D i=true)→I g D w'→Q .normal (AF g) w'):
  (Code.region id ops true).wp P Q a w:=by
 obtain⟨h1,h2⟩:=h _ (fun _=>rfl);refine wp_region_any hm ?_;have haf':∀g,frOf ops (fun i=>(vals g).getD i undef) (fun _=>true) a=puts (fun i=>(vals g).getD i undef) 0 ops.toList a:=fun g=>aEv hok
 have hz:(fun i=>(Array.replicate ops.size false).getD i false)=fun _=>false:=by
  funext i;simp[Array.getD_eq_getD_getElem?,Array.getElem?_replicate];split <;> rfl
 have hfun:(fun g=>frOf ops (fun i=>(vals g).getD i undef) (fun _=>true) a)=fun g=>puts (fun i=>(vals g).getD i undef) 0 ops.toList a:=funext haf'
 have key:=aSu (P:=P) (Q:=Q) (val:=fun g i=>(vals g).getD i undef) (a:=a) (I:=I) hok
  (fun i o ho g D w' hDi hw hc hI=>by
   have:=h1.at (i:=i) (o:=o) yW g D w' vB hw hc hI;rw[hfun];simpa using this)
  (fun g D w' hall hI=>wT)
  ops.size (Array.replicate ops.size false) g0 w.drew zV zV (fun j o ho hj=>by
   simp[Array.getD_eq_getD_getElem?,Array.getElem?_replicate]at hj;split at hj <;> simp at hj) vC
 have hfr:=aD9 ops (fun i=>(vals g0).getD i undef) a;simp only[hz]at key;rw[hfr]at key;exact key
end
def aB4(w:World)(v:Value)(size n:Nat)(xs:List Value):Prop:=
 ∃(ao:Option Addr) (cap:Nat),v=.slice ao n cap∧n≤100000000∧xs.length=n*size∧(0<n→∃b off,ao=some ⟨b,off,none⟩∧b<w.heap.size∧∀j,j<n*size→w.cell? ⟨b,off+j,none⟩=xs[j]?)
theorem pAE{w:World}{base:Nat}{e:TypeId}{size:Nat}{v:Value}{n:Nat}{xs:List Value}(h:w.ownsRow base e size v n xs)(hn:n≤100000000):aB4 w v size n xs:=by
 obtain⟨ao,cap,rfl,_,_,h3,h4⟩:=aAh h;refine⟨ao,cap,rfl,hn,h3,fun hp=>?_⟩;obtain⟨b,rfl,_,hb,hc,_⟩:=h4 hp;exact⟨b,0,rfl,hb,fun j hj=>by rw[Nat.zero_add];exact hc j hj⟩
theorem aB4.keep{S:Nat→Prop}{w w':World}{v:Value}{size n:Nat}{xs:List Value}(h:aB4 w v size n xs)(k:Keep S w w')(hs:∀b,v.ownBlock=some b→¬S b):aB4 w' v size n xs:=by
 obtain⟨ao,cap,rfl,h1,h2,h3⟩:=h;refine⟨ao,cap,rfl,h1,h2,fun hp=>?_⟩;obtain⟨b,off,rfl,hb,hc⟩:=h3 hp;exact⟨b,off,rfl,yM hb k.size,fun j hj=>by rw[k.cell (p:=⟨b,off+j,none⟩) hb (hs b rfl)];exact hc j hj⟩
theorem aB4.below{w w':World}{v:Value}{size n:Nat}{xs:List Value}(h:aB4 w v size n xs)(k:Below w.heap.size w w'):aB4 w' v size n xs:=
 h.keep (pAD (S:=fun _=>False) k) (fun _ _=>id)
theorem aFd{α:Type}{l m:List α}{k:Nat}(h:k<l.length)(hm:k<m.length)(he:l.take k=m.take k)(hx:l[k]=m[k]):l.take (k+1)=m.take (k+1):=by
 rw[List.take_succ_eq_append_getElem h,List.take_succ_eq_append_getElem hm,he,hx]
theorem aO8{w:World}{va vb:Value}{la lb:List Int}(ha:aB4 w va 1 la.length (la.map (.int .u8)))(hb:aB4 w vb 1 lb.length (lb.map (.int .u8))):
  Calls Tryz.prog 94 #[va,vb] w (yR w (.bool (decide (la=lb)))):=by
 obtain⟨ao,ca,rfl,a1,a2,a3⟩:=ha;obtain⟨bo,cb,rfl,b1,b2,b3⟩:=hb;have HA:=yH a3;have HB:=yH b3;clear a2 a3 b2 b3
 by_cases hlen:la.length=lb.length
 ·have L:=yH hlen;have hll:lb.length=la.length:=hlen.symm;rw[hll];clear hll hlen b1;go_enter Tryz.func94,Tryz.ntmps94;go_wp2
  go_loopw [5] (fun i wr=>∃k:Nat,k≤la.length∧i=.int .i64 k∧Hid (la.take k=lb.take k)∧Below w.heap.size w wr) (fun i _=>la.length - (intOf i).toNat)
  case atStart=>exact⟨0,Nat.zero_le _,rfl,yH zV,yZ⟩
  obtain⟨k,hk,rfl,ht,hbl⟩:=hrel;have BL:=yH hbl
  by_cases hkl:k<la.length
  ·have hkb:k<lb.length:=xJ
   obtain⟨b1,o1,rfl,hlt1,hc1⟩:=HA.o zQ;obtain⟨b2,o2,rfl,hlt2,hc2⟩:=HB.o zQ;have HC1:=yH (fun j (hj:j<la.length*1)=>(hbl.cell (p:=⟨b1,o1+j,none⟩) hlt1).trans (hc1 j hj));have HC2:=yH (fun j (hj:j<lb.length*1)=>(hbl.cell (p:=⟨b2,o2+j,none⟩) hlt2).trans (hc2 j hj));have d1:wr.cell? ⟨b1,o1+k,none⟩=some (.int .u8 la[k]):=by rw[HC1.o k zQ];simp[hkl]
   have d2:wr.cell? ⟨b2,o2+k,none⟩=some (.int .u8 lb[k]):=by rw[HC2.o k zQ];simp[hkb]
   have NE:=yH (fun(he:la[k]≠lb[k])=>show decide (la=lb)=false by
    rw[decide_eq_false_iff_not];rintro rfl;exact he rfl)
   have EQ:=yH (fun(he:la[k]=lb[k])=>aFd hkl hkb ht.out he);clear hc1 hc2 HC1 HC2 hbl;generalize la[k]=x at *;generalize lb[k]=y at *
   by_cases he:x=y
   ·subst he;go_wp2
    go_region
    all_goals
     go_wp2;go_roundw
     case rel=>exact⟨k+1,zQ,by go_num,yH (EQ.o (by first|exact rfl|trivial)),by first|exact BL.o.drew|exact BL.o⟩
     case measure=>simp[intOf];omega
   have q:(x==y)=false:=by simp[he]
   have E:=yH (NE.o he);clear he NE EQ;go_wp2
   go_region
   all_goals
    go_wp2;go_ret;exact⟨zT,by first|exact BL.o.drew|exact BL.o⟩
  have E:=yH (show decide (la=lb)=true by
   have h1:=ht.out;rw[List.take_of_length_le zQ,List.take_of_length_le xJ]at h1;rw[decide_eq_true_eq];exact h1)
  go_wp2;go_ret;exact⟨zT,BL.o⟩
 have E:=yH (show decide (la=lb)=false by rw[decide_eq_false_iff_not];rintro rfl;exact hlen rfl);have q:((la.length:Int)==(lb.length:Int))=false:=zU
 clear hlen;go_enter Tryz.func94,Tryz.ntmps94;go_wp2;go_ret;exact⟨zT,yZ⟩
theorem ln_parts(x y:Ln):(x=y)∨(x≠y∧(x.cr==y.cr)=false)∨(x≠y∧(x.cr==y.cr)=true∧(x.de==y.de)=false)∨(x≠y∧(x.cr==y.cr)=true∧(x.de==y.de)=true∧(x.cu==y.cu)=false)∨(x≠y∧(x.cr==y.cr)=true∧(x.de==y.de)=true∧(x.cu==y.cu)=true∧(x.li==y.li)=false)∨(x≠y∧(x.cr==y.cr)=true∧(x.de==y.de)=true∧(x.cu==y.cu)=true∧(x.li==y.li)=true∧(x.db==y.db)=false):=by
 obtain⟨a,b,c,d,e⟩:=x;obtain⟨a',b',c',d',e'⟩:=y
 by_cases h1:a=a' <;> by_cases h2:b=b' <;> by_cases h3:c=c' <;> by_cases h4:d=d' <;> by_cases h5:e=e' <;> simp[h1,h2,h3,h4,h5]
theorem aQj{w:World}{va vb:Value}{la lb:List Ln}(ha:aB4 w va 5 la.length (aBg la))(hb:aB4 w vb 5 lb.length (aBg lb)):
  Calls Tryz.prog 95 #[va,vb] w (yR w (.bool (decide (la=lb)))):=by
 obtain⟨ao,ca,rfl,a1,a2,a3⟩:=ha;obtain⟨bo,cb,rfl,b1,b2,b3⟩:=hb;have HA:=yH a3;have HB:=yH b3;clear a2 a3 b2 b3
 by_cases hlen:la.length=lb.length
 ·have L:=yH hlen;have hll:lb.length=la.length:=hlen.symm;rw[hll];clear hll hlen b1;go_enter Tryz.func95,Tryz.ntmps95;go_wp2
  go_loopw [5] (fun i wr=>∃k:Nat,k≤la.length∧i=.int .i64 k∧Hid (la.take k=lb.take k)∧Below w.heap.size w wr) (fun i _=>la.length - (intOf i).toNat)
  case atStart=>exact⟨0,Nat.zero_le _,rfl,yH zV,yZ⟩
  obtain⟨k,hk,rfl,ht,hbl⟩:=hrel;have BL:=yH hbl
  by_cases hkl:k<la.length
  ·have hkb:k<lb.length:=xJ
   obtain⟨b1,o1,rfl,hlt1,hc1⟩:=HA.o zQ;obtain⟨b2,o2,rfl,hlt2,hc2⟩:=HB.o zQ;have HC1:=yH (fun j (hj:j<la.length*5)=>(hbl.cell (p:=⟨b1,o1+j,none⟩) hlt1).trans (hc1 j hj));have HC2:=yH (fun j (hj:j<lb.length*5)=>(hbl.cell (p:=⟨b2,o2+j,none⟩) hlt2).trans (hc2 j hj))
   have d0:wr.cell? ⟨b1,o1+k*5,none⟩=some (.int .u8 la[k].cr):=by
    have q1:=HC1.o (k*5+0) zQ;rw[aAu la k 0 zQ hkl]at q1
    first|exact q1|(rw[←Nat.add_assoc]at q1;exact q1)
   have d1:wr.cell? ⟨b1,o1+k*5+1,none⟩=some (.int .u8 la[k].de):=by
    have q1:=HC1.o (k*5+1) zQ;rw[aAu la k 1 zQ hkl]at q1
    first|exact q1|(rw[←Nat.add_assoc]at q1;exact q1)
   have d2:wr.cell? ⟨b1,o1+k*5+2,none⟩=some (.int .u8 la[k].cu):=by
    have q1:=HC1.o (k*5+2) zQ;rw[aAu la k 2 zQ hkl]at q1
    first|exact q1|(rw[←Nat.add_assoc]at q1;exact q1)
   have d3:wr.cell? ⟨b1,o1+k*5+3,none⟩=some (.int .i64 la[k].li):=by
    have q1:=HC1.o (k*5+3) zQ;rw[aAu la k 3 zQ hkl]at q1
    first|exact q1|(rw[←Nat.add_assoc]at q1;exact q1)
   have d4:wr.cell? ⟨b1,o1+k*5+4,none⟩=some (.int .i64 la[k].db):=by
    have q1:=HC1.o (k*5+4) zQ;rw[aAu la k 4 zQ hkl]at q1
    first|exact q1|(rw[←Nat.add_assoc]at q1;exact q1)
   have f0:wr.cell? ⟨b2,o2+k*5,none⟩=some (.int .u8 lb[k].cr):=by
    have q1:=HC2.o (k*5+0) zQ;rw[aAu lb k 0 zQ hkb]at q1
    first|exact q1|(rw[←Nat.add_assoc]at q1;exact q1)
   have f1:wr.cell? ⟨b2,o2+k*5+1,none⟩=some (.int .u8 lb[k].de):=by
    have q1:=HC2.o (k*5+1) zQ;rw[aAu lb k 1 zQ hkb]at q1
    first|exact q1|(rw[←Nat.add_assoc]at q1;exact q1)
   have f2:wr.cell? ⟨b2,o2+k*5+2,none⟩=some (.int .u8 lb[k].cu):=by
    have q1:=HC2.o (k*5+2) zQ;rw[aAu lb k 2 zQ hkb]at q1
    first|exact q1|(rw[←Nat.add_assoc]at q1;exact q1)
   have f3:wr.cell? ⟨b2,o2+k*5+3,none⟩=some (.int .i64 lb[k].li):=by
    have q1:=HC2.o (k*5+3) zQ;rw[aAu lb k 3 zQ hkb]at q1
    first|exact q1|(rw[←Nat.add_assoc]at q1;exact q1)
   have f4:wr.cell? ⟨b2,o2+k*5+4,none⟩=some (.int .i64 lb[k].db):=by
    have q1:=HC2.o (k*5+4) zQ;rw[aAu lb k 4 zQ hkb]at q1
    first|exact q1|(rw[←Nat.add_assoc]at q1;exact q1)
   have NE:=yH (fun(he:la[k]≠lb[k])=>show decide (la=lb)=false by
    rw[decide_eq_false_iff_not];rintro rfl;exact he rfl)
   have EQ:=yH (fun(he:la[k]=lb[k])=>aFd hkl hkb ht.out he);clear hc1 hc2 HC1 HC2 hbl;generalize la[k]=x at *;generalize lb[k]=y at *;have hs:(x=y)∨(x≠y∧(x.cr==y.cr)=false)∨(x≠y∧(x.cr==y.cr)=true∧(x.de==y.de)=false)∨(x≠y∧(x.cr==y.cr)=true∧(x.de==y.de)=true∧(x.cu==y.cu)=false)∨(x≠y∧(x.cr==y.cr)=true∧(x.de==y.de)=true∧(x.cu==y.cu)=true∧(x.li==y.li)=false)∨(x≠y∧(x.cr==y.cr)=true∧(x.de==y.de)=true∧(x.cu==y.cu)=true∧(x.li==y.li)=true∧(x.db==y.db)=false):=ln_parts x y;rcases hs with rfl|⟨he,s1⟩|⟨he,s1,s2⟩|⟨he,s1,s2,s3⟩|⟨he,s1,s2,s3,s4⟩|⟨he,s1,s2,s3,s4,s5⟩
   ·clear NE;go_wp2
    go_region
    all_goals
     go_wp2;go_roundw
     case rel=>exact⟨k+1,zQ,by go_num,yH (EQ.o (by first|exact rfl|trivial)),by first|exact BL.o.drew|exact BL.o⟩
     case measure=>simp[intOf];omega
   ·have E:=yH (NE.o he);clear he NE EQ;go_wp2
    go_region
    all_goals
     go_wp2;go_ret;exact⟨zT,by first|exact BL.o.drew|exact BL.o⟩
   ·have E:=yH (NE.o he);clear he NE EQ;go_wp2
    go_region
    all_goals
     go_wp2;go_ret;exact⟨zT,by first|exact BL.o.drew|exact BL.o⟩
   ·have E:=yH (NE.o he);clear he NE EQ;go_wp2
    go_region
    all_goals
     go_wp2;go_ret;exact⟨zT,by first|exact BL.o.drew|exact BL.o⟩
   ·have E:=yH (NE.o he);clear he NE EQ;go_wp2
    go_region
    all_goals
     go_wp2;go_ret;exact⟨zT,by first|exact BL.o.drew|exact BL.o⟩
   have E:=yH (NE.o he);clear he NE EQ;go_wp2
   go_region
   all_goals
    go_wp2;go_ret;exact⟨zT,by first|exact BL.o.drew|exact BL.o⟩
  have E:=yH (show decide (la=lb)=true by
   have h1:=ht.out;rw[List.take_of_length_le zQ,List.take_of_length_le xJ]at h1;rw[decide_eq_true_eq];exact h1)
  go_wp2;go_ret;exact⟨zT,BL.o⟩
 have E:=yH (show decide (la=lb)=false by rw[decide_eq_false_iff_not];rintro rfl;exact hlen rfl);have q:((la.length:Int)==(lb.length:Int))=false:=zU
 clear hlen;go_enter Tryz.func95,Tryz.ntmps95;go_wp2;go_ret;exact⟨zT,yZ⟩
theorem aCh{P:Program}(w:World)(t e:TypeId)(sz:Nat)(ht:P.underlying t=some (.slice e))(hs:(sizeOf e).run P w=.ok sz w)(b n cap:Nat)(h:n≤cap):
  (Instr.sliceAt t (.slice (some ⟨b,0,none⟩) n cap) none (some (.int .i64 n)) (some (.int .i64 n))).run P w=.ok (.slice (some ⟨b,0,none⟩) n n) w:=by
 simp[Instr.sliceAt,Instr.slice,run_underlying ht,Instr.sliceBounds,run_sliceBound,hs,h,Result.andThen,Addr.add]
theorem aBi{P:Program}(w:World)(t e:TypeId)(sz:Nat)(ht:P.underlying t=some (.slice e))(hs:(sizeOf e).run P w=.ok sz w):
  (Instr.sliceAt t (.slice none 0 0) none (some (.int .i64 0)) (some (.int .i64 0))).run P w=.ok (.slice none 0 0) w:=by
 simp[Instr.sliceAt,Instr.slice,run_underlying ht,Instr.sliceBounds,run_sliceBound,hs,Result.andThen,Addr.add]
def aBk(w:World)(base:Nat)(e:TypeId)(size:Nat)(v:Value)(n:Nat)(xs:List Value):Prop:=
 xs.length=n*size∧((v=.slice none 0 0∧n=0)∨∃g cur,v=.slice (some ⟨g,0,none⟩) n n∧base≤g∧w.heap[g]? = some (.cells cur e (0,0))∧n≤maxLen∧n*size≤cur.size∧cur.toList.take (n*size)=xs)
theorem aBk.keep{S:Nat→Prop}{w w':World}{base:Nat}{e:TypeId}{size:Nat}{v:Value}{n:Nat}{xs:List Value}(h:aBk w base e size v n xs)(k:Keep S w w')(hs:∀b,v.ownBlock=some b→¬S b):aBk w' base e size v n xs:=by
 obtain⟨h1,h2⟩:=h;refine⟨h1,?_⟩;rcases h2 with h2|⟨g,cur,rfl,hb,hg,hr⟩
 ·exact .inl h2
 refine .inr ⟨g,cur,rfl,hb,?_,hr⟩;rw[k.block g (lt_of_block hg) (hs g rfl)];exact hg
theorem aBk.below{w w':World}{base:Nat}{e:TypeId}{size:Nat}{v:Value}{n:Nat}{xs:List Value}(h:aBk w base e size v n xs)(k:Below w.heap.size w w'):aBk w' base e size v n xs:=
 h.keep (pAD (S:=fun _=>False) k) (fun _ _=>id)
theorem aBk.base{w:World}{base b':Nat}{e:TypeId}{size:Nat}{v:Value}{n:Nat}{xs:List Value}(h:aBk w base e size v n xs)(hb:b'≤base):aBk w b' e size v n xs:=by
 obtain⟨h1,h2⟩:=h;refine⟨h1,?_⟩;rcases h2 with h2|⟨g,cur,hv,hg,hr⟩
 ·exact .inl h2
 exact .inr ⟨g,cur,hv,Nat.le_trans hb hg,hr⟩
theorem aBk.type{w:World}{base:Nat}{e:TypeId}{size:Nat}{v:Value}{n:Nat}{xs:List Value}(h:aBk w base e size v n xs){b:Nat}(hb:v.ownBlock=some b):base≤b∧b<w.heap.size∧∃cur,w.heap[b]? = some (.cells cur e (0,0)):=by
 obtain⟨_,h2⟩:=h;rcases h2 with⟨rfl,_⟩|⟨g,cur,rfl,hge,hg,_⟩
 ·cases hb
 cases hb;exact⟨hge,lt_of_block hg,cur,hg⟩
theorem aBk.reads{w:World}{base:Nat}{e:TypeId}{size:Nat}{v:Value}{n:Nat}{xs:List Value}(h:aBk w base e size v n xs)(hn:n≤100000000):aB4 w v size n xs:=by
 obtain⟨h1,h2⟩:=h;rcases h2 with⟨rfl,rfl⟩|⟨g,cur,rfl,_,hg,_,hc,ht⟩
 ·exact⟨none,0,rfl,zQ,h1,fun h=>zQ⟩
 refine⟨_,n,rfl,hn,h1,fun hp=>⟨g,0,rfl,lt_of_block hg,fun j hj=>?_⟩⟩;rw[Nat.zero_add];show w.cell? ⟨g,j,none⟩=_;simp only[World.cell?,hg,Option.isSome_none,Bool.false_eq_true,if_false];rw[←ht,List.getElem?_take_of_lt hj,Array.getElem?_toList]
def aHn(w:World)(base:Nat)(e:TypeId)(size n:Nat)(v:Value)(xs:List Value)(en:Ending)(w':World):Prop:=
 ∃v',en=.returned v'∧aBk w' base e size v' n xs∧v'.ownBlock=v.ownBlock∧w'=w
def aFe(w:World)(e:TypeId)(size n:Nat)(xs:List Value)(en:Ending)(w':World):Prop:=
 ∃v',en=.returned v'∧aBk w' w.heap.size e size v' n xs∧Below w.heap.size w w'
def Twinned(w:World)(base g:Nat)(e:TypeId)(size n:Nat)(xs marks:List Value):Prop:=w.ownsRow base e size (.slice (some ⟨g,0,none⟩) (n+2) (n+2)) (n+2) (xs++marks)
theorem Twinned.cells{w:World}{base g:Nat}{e:TypeId}{size n:Nat}{xs marks:List Value}(h:Twinned w base g e size n xs marks):g<w.heap.size∧∀j,j<(n+2)*size→w.cell? ⟨g,j,none⟩=(xs++marks)[j]? := by
 obtain⟨ao,cap,hv,_,_,_,hr⟩:=aAh h
 cases hv
 obtain⟨b,hb,_,hlt,hc,_⟩:=hr zQ
 cases hb
 exact⟨hlt,hc⟩
structure Fw where
 fr:Int
 tt:Int
 am:Int
deriving DecidableEq
def Fw.vals(x:Fw):List Value:=[.int .u8 x.fr,.int .u8 x.tt,.int .i64 x.am]
theorem Fw.vals_len(x:Fw):x.vals.length=3:=rfl
def aAp(ls:List Fw):List Value:=ls.flatMap Fw.vals
def Fw.val(x:Fw):Value:=.agg #[.int .u8 x.fr,.int .u8 x.tt,.int .i64 x.am]
theorem aDa(ls:List Fw):(aAp ls).length=ls.length*3:=aF0 _ 3 Fw.vals_len ls
theorem aCn(ls:List Fw)(i j:Nat)(hj:j<3)(h:i<ls.length):(aAp ls)[i*3+j]? = ls[i].vals[j]? := by
 unfold aAp;rw[aFa _ 3 Fw.vals_len ls i j hj,List.getElem?_eq_getElem h];rfl
theorem aNx(a b:List Fw):aAp (a++b)=aAp a++aAp b:=by unfold aAp;exact List.flatMap_append
theorem aSv(x:Fw):aAp [x]=x.vals:=by simp[aAp]
structure Fw.Fits(x:Fw):Prop where
 fr:In8 x.fr
 tt:In8 x.tt
 am:In64 x.am
theorem info_fw:(Tryz.prog.info? 209).map (fun i=>(i.zero,i.size,i.bytes))=some (some (Fw.val ⟨0,0,0⟩),3,16):=zW
theorem aGt(w:World){ops:Array Oper}{rest:List Oper}{o:Oper}{a:Act}{Q:Exit→Act→World→Prop}(hgd:o.guard=none)(s x:Operand)
  (ho:o.op=.call { callee:=.builtin .append,args:=#[s,x],argTypes:=#[203,203] })(base:Nat)(v:Value)(ls:List Fw)(hs:a.eval s=v)
  (hown:w.ownsRow base 209 3 v ls.length (aAp ls))(g c:Nat)(y:Fw)(hx:a.eval x=.slice (some ⟨g,0,none⟩) 1 c)(hy:Blk w g #[.int .u8 y.fr,.int .u8 y.tt,.int .i64 y.am] 209)(hlen:ls.length≤100000)(hbase:base≤w.heap.size)
  (h:∀v' w',w'.ownsRow base 209 3 v' (ls++[y]).length (aAp (ls++[y]))→w.grownBy w' v.ownBlock→wpList Tryz.prog ops Q rest (a.put o.dst v') w'):wpList Tryz.prog ops Q (o::rest) a w:=by
 obtain⟨i0,hi,hz0,hz1,hz2⟩:=info_parts info_fw;refine wpList_append_own w hgd s x 203 ho base 209 i0 (Fw.val ⟨0,0,0⟩) 3 16 Tryz.underlying203 hi hz0 hz1 hz2 rfl zX v ls.length (aAp ls) hs hown ⟨g,0,none⟩ 1 c y.vals hx rfl ?_ ?_ zE zQ hbase ?_
 ·intro j u hj;have:=hy.cell j;rw[Go.WideShapes.add_plain]
  match j,hj with
  | 0,hj=>simp[Fw.vals]at hj;subst hj;simpa using this
  | 1,hj=>simp[Fw.vals]at hj;subst hj;simpa using this
  | 2,hj=>simp[Fw.vals]at hj;subst hj;simpa using this
  | j+3,hj=>simp[Fw.vals]at hj
 ·intro u hu;simp[Fw.vals]at hu;rcases hu with rfl|rfl|rfl <;> rfl
 intro v' w' h1 h2 _;refine h v' w' ?_ h2;rw[aNx,aSv,List.length_append];exact h1
structure RefG(w:World)(base g:Nat)(es:List Fw)(vl:Value):Prop where
 blk:Blk w g #[vl] 248
 ge:base≤g
 row:w.ownsRow base 209 3 vl es.length (aAp es)
def inP(p:Int):Prop:=1≤p∧p≤16
def updE(f:Int→Int→Int)(a b n p q:Int):Int:=if p=a∧q=b then n else f p q
structure GInv(f:Int→Int→Int)(B:Int):Prop where
 nn:∀p q,0≤f p q
 pair:∀p q,f p q+f q p≤B
 out:∀p q,¬(inP p∧inP q)→f p q=0
 self:∀p,f p p=0
theorem GInv.le{f:Int→Int→Int}{B:Int}(h:GInv f B)(p q:Int):f p q≤B:=uQ (h.pair p q) (h.nn q p)
theorem GInv.ends{f:Int→Int→Int}{B:Int}(h:GInv f B){p q:Int}(h0:0<f p q):inP p∧inP q∧p≠q:=by
 by_cases hi:inP p∧inP q
 ·refine⟨hi.1,hi.2,?_⟩;rintro rfl;have:=h.self p;omega
 have:=h.out p q hi;omega
def aH7(_ _:Int):Int:=0
theorem GInv.zero{B:Int}(h:0≤B):GInv aH7 B:=⟨fun _ _=>Int.le_refl _,fun _ _=>by unfold aH7;omega,fun _ _ _=>rfl,fun _=>rfl⟩
def aCd(f:Int→Int→Int)(a b n p q:Int):Int:=if p=b∧q=a then f b a+n else if p=a∧q=b then f a b - n else f p q
theorem GInv.push{f:Int→Int→Int}{B:Int}(h:GInv f B){a b n:Int}(h1:1≤n)(h2:n≤f a b):GInv (aCd f a b n) B:=by
 obtain⟨ha,hb,hne⟩:=h.ends (p:=a) (q:=b) zQ;have hba:=h.nn b a;refine⟨fun p q=>?_,fun p q=>?_,fun p q hi=>?_,fun p=>?_⟩
 ·unfold aCd;have:=h.nn p q;split
  ·omega
  split <;> omega
 ·have hp:=h.pair p q;have hab:=h.pair a b
  by_cases c1:p=b∧q=a
  ·obtain⟨rfl,rfl⟩:=c1;have e1:aCd f q p n p q=f p q+n:=by unfold aCd;rw[if_pos ⟨rfl,rfl⟩]
   have e2:aCd f q p n q p=f q p - n:=wN
   omega
  by_cases c2:p=a∧q=b
  ·obtain⟨rfl,rfl⟩:=c2;have e1:aCd f p q n p q=f p q - n:=wN
   have e2:aCd f p q n q p=f q p+n:=by unfold aCd;rw[if_pos ⟨rfl,rfl⟩]
   omega
  have e1:aCd f a b n p q=f p q:=by unfold aCd;rw[if_neg c1,if_neg c2]
  have e2:aCd f a b n q p=f q p:=by unfold aCd;rw[if_neg (fun e=>c2 ⟨e.2,e.1⟩),if_neg (fun e=>c1 ⟨e.2,e.1⟩)]
  omega
 ·unfold aCd;rw[if_neg (fun e=>hi ⟨by rw[e.1];exact hb,by rw[e.2];exact ha⟩),if_neg (fun e=>hi ⟨by rw[e.1];exact ha,by rw[e.2];exact hb⟩)];exact h.out p q hi
 unfold aCd;rw[if_neg (fun e=>hne (e.2.symm.trans e.1)),if_neg (fun e=>hne (e.1.symm.trans e.2))];exact h.self p
end Go.Proofs.YtngnfdnfpiiclaaGreat
