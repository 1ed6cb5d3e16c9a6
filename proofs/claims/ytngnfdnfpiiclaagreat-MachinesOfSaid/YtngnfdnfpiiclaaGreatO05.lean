/- Pieces of one proof. -/
import Derived.Test.YtngnfdnfpiiclaaGreatO04
import Derived.RangeFuncNested
import Derived.RangeFuncCalls
import Derived.RangeFuncLeaves
import Derived.OrdersIn
import Derived.Shelf.Abstract
import Derived.OwnWalkIn
import Derived.TacticsInMore
import Derived.LoopNIn
import Derived.LoopIn
set_option linter.all false
set_option maxHeartbeats 64000000
set_option maxRecDepth 100000
namespace Go.Proofs.YtngnfdnfpiiclaaGreat
open Go.RowKit
def aEw:Op→Bool
 | .defer _=>false
 | _=>true
theorem aNf{l:Nat}{ρ:Operand→Value}{o:Oper}(h:aEw o.op=true):o.semAt (some l) ρ=execOp ρ o:=
 Oper.semAt_some l ρ o (fun c hc=>by rw[hc]at h;cases h)
theorem rows_wide{n:Nat}{P:Program}{row:String}{args:Array Value}{w:World}{R:Value→World→Prop}(h:Rows P row args w R):RowsIn Fence.wide n P row args w R:=
 fun c cs _=>let ⟨v,w',r,s⟩:=h c cs;⟨v,w',r,stepsIn_wide.2 s⟩
theorem rows_round{n l:Nat}{P:Program}{row:String}{args:Array Value}{w:World}{R:Value→World→Prop}(h:RowsIn Fence.wide n P row args w R):RowsIn (Fence.wide.inRound l) n P row args w R:=h
def normQ(Q:Exit→Act→World→Prop):Exit→Act→World→Prop
 | .normal,a,w=>Q .normal a w
 | _,_,_=>False
theorem aLv{Q:Exit→Act→World→Prop}:¬LetsOut (normQ Q):=fun⟨_,_,h⟩=>h
section
variable{P:Program}{ops:Array Oper}{Q:Exit→Act→World→Prop}{n l:Nat}
theorem oper_in{o:Oper}{a:Act}{w:World}{K K':Act→World→Prop}(hd:aEw o.op=true)(hK:∀a w,K a w→K' a w)(h:o.wp P a w K (normQ Q)):o.wpIn (Fence.wide.inRound l) n P a w K' Q:=by
 unfold Oper.wp at h;refine⟨fun _ _=>trivial,?_⟩;rw[show(Fence.wide.inRound l).round=some l from rfl,aNf hd];generalize (execOp a.eval o).run P w=r at h
 cases r with
 | ok x w'=>
  cases x <;> simp only[Oper.upon,Oper.uponIn]at h ⊢
  case value v=>exact hK _ _ h
  case skip=>exact hK _ _ h
  case defer d=>exact hK _ _ h
  case enter f args=>
   refine⟨fun hh=>(by cases hh),CallsIn.inRound l (callsIn_wide.2 (h.mono fun e w'' he=>?_))⟩
   cases e with
   | returned v=>exact hK _ _ he
   | panicked c=>exact he.elim
   | outgrown=>exact(aLv he).elim
  case row row args=>exact⟨fun hh=>(by cases hh),rows_round (rows_wide (h.mono fun v w'' he=>hK _ _ he))⟩
 | halt x w'=>
  cases x <;> simp only[Oper.upon,Oper.uponIn]at h ⊢
  case panic v=>exact h.elim
theorem op_in{i:Nat}{a:Act}{w:World}{K K':Act→World→Prop}(hd:∀(i:Nat) (o:Oper),ops[i]? = some o→aEw o.op=true)(hK:∀a w,K a w→K' a w)(h:wpOp P ops (normQ Q) i K a w):wpOpIn (Fence.wide.inRound l) n P ops Q i K' a w:=by
 unfold wpOp at h;unfold wpOpIn
 cases ho:ops[i]? with
 | none=>
  rw[ho]at h;exact hK _ _ h
 | some o=>
  rw[ho]at h;simp only at h ⊢;split
  ·rename_i hw;rw[if_pos hw]at h;rcases h with h|h
   ·exact oper_in (hd i o ho) hK h
   exact absurd h.2 aLv
  rename_i hw;rw[if_neg hw]at h;exact⟨fun _ _=>trivial,hK _ _ h⟩
theorem any_in(hd:∀(i:Nat) (o:Oper),ops[i]? = some o→aEw o.op=true):∀(fuel:Nat) (listed:Array Bool) (a:Act) (w:World),wpAny P .any ops (normQ Q) fuel listed a w→wpAnyIn (Fence.wide.inRound l) n P .any ops Q fuel listed a w
 | 0,_,_,_,h=>h
 | fuel+1,_,_,_,h=>⟨h.1,fun i hi=>op_in hd (fun a w=>any_in hd fuel _ a w) (h.2 i hi)⟩
theorem aJs(h:ops.toList.all (fun o=>aEw o.op)=true)(i:Nat)(o:Oper)(ho:ops[i]? = some o):aEw o.op=true:=
 List.all_eq_true.1 h o (List.mem_of_getElem? (by simpa using ho))
theorem aKo{id:Nat}{a:Act}{w:World}(hm:P.follows .mixedOrders=true)(hd:ops.toList.all (fun o=>aEw o.op)=true){G:Type}(vals:G→List Value)(I:G→(Nat→Bool)→World→Prop)(hok:aBn ops=true)(g0:G)(h0:I g0 (fun _=>false) w.drew)
  (h:∀AF:G→Act,(∀g,puts (fun i=>(vals g).getD i undef) 0 ops.toList a=AF g)→
   aFh P ops vals AF I 0 ops.toList∧∀g D w',(∀i,i<ops.size→D i=true)→I g D w'→Q .normal (AF g) w'):
  (Code.region id ops true).wpIn (Fence.wide.inRound l) n P Q a w:=by
 obtain⟨h1,h2⟩:=h _ (fun _=>rfl);refine wpIn_region_any hm (any_in (aJs hd) _ _ _ _ ?_);have haf':∀g,frOf ops (fun i=>(vals g).getD i undef) (fun _=>true) a=puts (fun i=>(vals g).getD i undef) 0 ops.toList a:=fun g=>aDh hok
 have hz:(fun i=>(Array.replicate ops.size false).getD i false)=fun _=>false:=by
  funext i;simp[Array.getD_eq_getD_getElem?,Array.getElem?_replicate];split <;> rfl
 have key:=aH3 (P:=P) (Q:=normQ Q) (val:=fun g i=>(vals g).getD i undef) (a:=a) (I:=I) hok
  (fun i o ho g D w' hDi hw hc hI=>by
   have:=h1.at (i:=i) (o:=o) (by simpa using ho) g D w' (by simpa using hDi) hw hc hI;obtain⟨g',hag,hop⟩:=this;refine⟨g',hag,?_⟩;rw[haf' g'];simpa using hop)
  (fun g D w' hall hI=>by rw[haf' g];exact h2 g D w' hall hI)
  ops.size (Array.replicate ops.size false) g0 w.drew (by simp) (by simp) (fun j o ho hj=>by
   simp[Array.getD_eq_getD_getElem?,Array.getElem?_replicate]at hj;split at hj <;> simp at hj) (by rw[hz];exact h0)
 have hfr:=aC3 ops (fun i=>(vals g0).getD i undef) a;simp only[hz]at key;rw[hfr]at key;exact key
theorem aIi{id:Nat}{a:Act}{w:World}(hm:P.follows .mixedOrders=true)(hd:ops.toList.all (fun o=>aEw o.op)=true)(k:Nat)(vals:List Value)(S:World→Prop)(hok:aBn ops=true)(hsz:ops.size=k+1)
  (hlast:(List.range k).all (fun j=>(need ops k).testBit j)=true)(h0:S w.drew)
  (h:∀af,puts (fun i=>vals.getD i undef) 0 ops.toList a=af→aAv P ops af S (ops.toList.take k)∧∀w',S w'→OpTo P ops af (ops.toList.getD k default) w' (fun w''=>Q .normal af w'')):
  (Code.region id ops true).wpIn (Fence.wide.inRound l) n P Q a w:=by
 obtain⟨h1,h2⟩:=h _ rfl;refine wpIn_region_any hm (any_in (aJs hd) _ _ _ _ ?_);have haf':frOf ops (fun i=>vals.getD i undef) (fun _=>true) a=puts (fun i=>vals.getD i undef) 0 ops.toList a:=aDh hok;have hfr:=aC3 ops (fun i=>vals.getD i undef) a
 have hz:(fun i=>(Array.replicate ops.size false).getD i false)=fun _=>false:=by
  funext i;simp[Array.getD_eq_getD_getElem?,Array.getElem?_replicate];split <;> rfl
 have key:=aE4 (P:=P) (Q:=normQ Q) (val:=fun i=>vals.getD i undef) (a:=a) (I:=fun D w'=>if D k=true then Q .normal (puts (fun i=>vals.getD i undef) 0 ops.toList a) w' else S w') hm hok
  (fun i o ho D w' hDi hw hc hI=>by
   rw[haf']
   have hi:i<ops.size:=by
    rcases Nat.lt_or_ge i ops.size with h'|h'
    ·exact h'
    simp[Array.getElem?_eq_none h']at ho
   by_cases hin:i=k
   ·subst hin;rw[hDi]at hI;simp only[ins,beq_self_eq_true,Bool.true_or,if_true];have h3:=h2 w' hI
    rwa [List.getD_eq_getElem?_getD,Array.getElem?_toList,ho]at h3
   have hDn:D k=false:=aAa hc hDi k (List.all_eq_true.1 hlast i (by simp;omega));rw[hDn]at hI;have:(ins i D) k=false:=by simp[ins,hDn];omega
   simp only[this];exact h1.at (i:=i) (by rw[List.getElem?_take];simp[show i<k by omega,ho]) w' hI)
  (fun D w' hall hI=>by
   rw[haf']
   rwa [if_pos (hall k (by omega))]at hI)
  ops.size (Array.replicate ops.size false) w.drew (by simp) (by simp) (fun j o ho hj=>by
   simp[Array.getD_eq_getD_getElem?,Array.getElem?_replicate]at hj;split at hj <;> simp at hj) (by
   have:(Array.replicate ops.size false).getD k false=false:=by simp[Array.getD_eq_getD_getElem?,Array.getElem?_replicate];split <;> rfl
   show if(Array.replicate ops.size false).getD k false=true then _ else S w.drew
   rw[this];exact h0)
 rw[hz,hfr]at key;exact key
end
structure Fits(B:Nat)(I:World→Prop):Prop where
 grow:∀W W',I W→Below W.heap.size W W'→I W'
 turn:∀W l o o',I W→B≤l→W.heap[l]? = some o→o.isCells=false→I (W.putObj l o')
def SeqJ(P:Program)(gf:FuncId)(lb:Array Value){St:Type}(S:St→Prop)(Y:St→Array Value→World→Prop)(next:St→St→Prop)(I:St→World→Prop):Prop:=
 ∀(n l:Nat) (J:St→World→Prop) (Jx:World→Prop),(∀s W W',J s W→Below W.heap.size W W'→J s W')→(∀s W,J s W→I s W)→
  (∀m s vs W,J s W→Y s vs W→YieldAt Fence.wide m P l vs W fun e W'=>(e=.returned (.bool true)∧∃s',next s s'∧J s' W')∨(e=.returned (.bool false)∧Jx W'))→
  ∀s W,J s W→CallsIn Fence.wide n P gf (#[.func (.yield l) #[] #[]]++lb) W fun e W'=>(∃v,e=.returned v)∧((∃s,S s∧J s W')∨Jx W')
def roundEnd{St:Type}(B:Nat)(I:St→World→Prop)(Ix:Code→World→Prop)(next:St→St→Prop)(s:St)(W:World):Exit→Act→World→Prop
 | .normal,_,W'=>KeepsFrom B W W'∧∃s',next s s'∧I s' W'
 | .ret,_,W'=>KeepsFrom B W W'∧Ix .ret W'
 | .exit id,_,W'=>KeepsFrom B W W'∧Ix (.exit id) W'
 | .goto t,_,W'=>KeepsFrom B W W'∧Ix (.goto t) W'
 | .panic _,_,_=>False
 | .outgrown,_,_=>False
theorem wp_rounds{P:Program}{g:Operand}{ps:Array Tmp}{assign body:Code}{Q:Exit→Act→World→Prop}{a:Act}{w:World}{St:Type}{gf:FuncId}{lb:Array Value}
  (hg:a.eval g=.func (.func gf) #[] lb)(eg:∀args w,(callFunc gf args).run P w=.ok (.enter gf args) w)
  (I:St→World→Prop)(Y:St→Array Value→World→Prop)(Ix:Code→World→Prop)(S:St→Prop)(next:St→St→Prop)
  (hI:∀s,Fits w.heap.size (I s))(hIx:∀c,Fits w.heap.size (Ix c))(hY:∀s vs,Fits w.heap.size (Y s vs))(hps:∀s vs W,Y s vs W→vs.size=ps.size)
  (hseq:SeqJ P gf lb S Y next I)(s0:St)(h0:I s0 w)(a₁:Array Value→Act)
  (hassign:∀(m l:Nat) (s:St) (vs:Array Value) (W:World) (K:Act→World→Prop),I s W→Y s vs W→K (a₁ vs) W→
   assign.wpIn (Fence.wide.inRound l) m P (Exit.then K fun _ _ _=>False) { tmps:=(ps.zip vs).foldl (fun t (p,v)=>t.setIfInBounds p v) a.tmps,defers:=[] } W)
  (hbody:∀(m l:Nat) (s:St) (vs:Array Value) (W:World),I s W→Y s vs W→body.wpIn (Fence.wide.inRound l) m P (roundEnd w.heap.size I Ix next s W) (a₁ vs) W)
  (hdone:∀(D:Nat) (s:St) (W:World),w.heap.size≤D→S s→I s W→W.heap[D]? = some (.deferred (some []))→Q .normal { a with defers:={ target:=.collected D,args:=#[] }::a.defers } W)
  (hstop:∀(D:Nat) (c:Code) (W:World),w.heap.size≤D→Ix c W→W.heap[D]? = some (.deferred (some []))→c.wp P Q { a with defers:={ target:=.collected D,args:=#[] }::a.defers } W):
  (Code.rangeFunc g ps assign body).wp P Q a w:=by
 refine(wpIn_wide (n:=0)).1 (wpIn_rangeFunc fun fn hfn=>?_);obtain⟨rec,hrec⟩:∃rec:LoopState→Option Code→Loop,rec=fun st pe=>{ state:=st,pending:=pe,fn,tmps:=a.tmps,params:=ps,assign,body,defers:=w.heap.size }:=⟨_,rfl⟩
 obtain⟨W1,hW1⟩:∃W1,(w.alloc (.deferred (some []))).alloc (.loop (rec .ready none))=W1:=⟨_,rfl⟩
 have hl1:W1.heap[w.heap.size+1]? = some (.loop (rec .ready none)):=by
  have e:=World.alloc_heap_new (w.alloc (.deferred (some []))) (.loop (rec .ready none));rw[World.size_alloc,hW1]at e;exact e
 have hd1:W1.heap[w.heap.size]? = some (.deferred (some [])):=by
  rw[←hW1];exact(Below.heap_alloc _ _ _ (by simp)).trans (World.alloc_heap_new w _)
 have hb1:Below w.heap.size w W1:=by
  rw[←hW1];exact((Below.refl _ w).alloc yL _).alloc (by simp) _
 have hI1:I s0 W1:=(hI s0).grow _ _ h0 hb1
 refine⟨w.heap.size+1,[{ target:=.collected w.heap.size,args:=#[] }],W1,{ target:=.fn (.func gf) lb,args:=#[.func (.yield (w.heap.size+1)) #[] #[]] },W1,gf,
  #[.func (.yield (w.heap.size+1)) #[] #[]]++lb,W1,?_,?_,fun _ _=>trivial,?_,fun hh=>(by cases hh),?_⟩
 ·rw[←hW1,hrec];exact run_enterLoop_outer _ _ _ _ _
 ·simp only[resolve,hg];simp[go_sem]
 ·simp[invoke,go_sem,eg]
 refine(hseq (0 - 1) (w.heap.size+1) (fun s W=>I s W∧W.heap[w.heap.size+1]? = some (.loop (rec .ready none))∧W.heap[w.heap.size]? = some (.deferred (some [])))
  (fun W=>∃c,Ix c W∧W.heap[w.heap.size+1]? = some (.loop (rec .done (some c)))∧W.heap[w.heap.size]? = some (.deferred (some [])))
  (fun s W W' h hb=>⟨(hI s).grow _ _ h.1 hb,(hb.block _ (Array.getElem?_eq_some_iff.1 h.2.1).1).trans h.2.1,(hb.block _ (Array.getElem?_eq_some_iff.1 h.2.2).1).trans h.2.2⟩)
  (fun s W h=>h.1) ?_ s0 W1 ⟨hI1,hl1,hd1⟩).mono ?_
 ·rintro m s vs W ⟨hi,hl,hk⟩ hy;have hlt:=(Array.getElem?_eq_some_iff.1 hl).1;have hry:=run_yield (P:=P) (args:=vs) hl (by rw[hrec];exact hps s vs W hy);rw[hrec]at hry;refine⟨fn,_,assign,body,hry,roundIn_of_wpIn hfn (hassign m _ s vs W _ hi hy ?_)⟩;clear hry;refine⟨_,run_beginRound hl (by rw[hrec]),?_⟩;have hl2:(W.putObj (w.heap.size+1) (.loop { rec .ready none with state:=.busy })).heap[w.heap.size+1]? = some (.loop { rec .ready none with state:=.busy }):=World.putObj_heap_same hlt;have hk2:(W.putObj (w.heap.size+1) (.loop { rec .ready none with state:=.busy })).heap[w.heap.size]? = some (.deferred (some [])):=(World.putObj_heap_other (by omega)).trans hk;refine wpIn_mono (hbody m _ s vs _ ((hI s).turn _ _ _ _ hi (by omega) hl rfl) ((hY s vs).turn _ _ _ _ hy (by omega) hl rfl)) ?_
  have fin:∀(jump:Option Code) (W3:World),KeepsFrom w.heap.size (W.putObj (w.heap.size+1) (.loop { rec .ready none with state:=.busy })) W3→
    (Instr.endRound (w.heap.size+1) jump).run P W3=.ok (.bool jump.isNone) (W3.putObj (w.heap.size+1) (.loop (rec (if jump.isNone then .ready else .done) jump)))∧
    W3.heap[w.heap.size+1]? = some (.loop { rec .ready none with state:=.busy })∧
    (W3.putObj (w.heap.size+1) (.loop (rec (if jump.isNone then .ready else .done) jump))).heap[w.heap.size+1]? = some (.loop (rec (if jump.isNone then .ready else .done) jump))∧
    (W3.putObj (w.heap.size+1) (.loop (rec (if jump.isNone then .ready else .done) jump))).heap[w.heap.size]? = some (.deferred (some [])):=fun jump W3 hk3=>by
   have hl3:=hk3.same _ _ (by omega) hl2 rfl;have he:=run_endRound (P:=P) jump hl3;rw[hrec]at he ⊢;exact⟨he,by rw[hrec]at hl3;exact hl3,World.putObj_heap_same (Array.getElem?_eq_some_iff.1 hl3).1,(World.putObj_heap_other (by omega)).trans (hk3.same _ _ yL hk2 rfl)⟩
  rintro e a3 W3 hp
  cases e with
  | normal=>
   obtain⟨hk3,s',hn,hi3⟩:=hp;obtain⟨hr,hl3,hl4,hk4⟩:=fin none W3 hk3;exact⟨_,_,hr,.inl ⟨rfl,s',hn,(hI s').turn _ _ _ _ hi3 (by omega) hl3 rfl,hl4,hk4⟩⟩
  | ret=>
   obtain⟨hk3,hi3⟩:=hp;obtain⟨hr,hl3,hl4,hk4⟩:=fin (some .ret) W3 hk3;exact⟨_,_,hr,.inr ⟨rfl,.ret,(hIx _).turn _ _ _ _ hi3 (by omega) hl3 rfl,hl4,hk4⟩⟩
  | exit id=>
   obtain⟨hk3,hi3⟩:=hp;obtain⟨hr,hl3,hl4,hk4⟩:=fin (some (.exit id)) W3 hk3;exact⟨_,_,hr,.inr ⟨rfl,.exit id,(hIx _).turn _ _ _ _ hi3 (by omega) hl3 rfl,hl4,hk4⟩⟩
  | goto t=>
   obtain⟨hk3,hi3⟩:=hp;obtain⟨hr,hl3,hl4,hk4⟩:=fin (some (.goto t)) W3 hk3;exact⟨_,_,hr,.inr ⟨rfl,.goto t,(hIx _).turn _ _ _ _ hi3 (by omega) hl3 rfl,hl4,hk4⟩⟩
  | panic ch=>exact hp.elim
  | outgrown=>exact hp.elim
 rintro e W2 ⟨⟨v,rfl⟩,(⟨s,hS,hi,hl,hk⟩|⟨c,hi,hl,hk⟩)⟩
 ·have he:=run_endLoop (P:=P) hl (by rw[hrec];simp);rw[hrec]at he;exact⟨none,_,he,hdone _ s _ yL hS ((hI s).turn _ _ _ _ hi (by omega) hl rfl) ((World.putObj_heap_other (by omega)).trans hk)⟩
 have he:=run_endLoop (P:=P) hl (by rw[hrec];simp);rw[hrec]at he;exact⟨some c,_,he,wpIn_wide.2 (hstop _ c _ yL ((hIx c).turn _ _ _ _ hi (by omega) hl rfl) ((World.putObj_heap_other (by omega)).trans hk))⟩
theorem capX_min(f:Int→Int→Int)(x:Nat→Int)(a b:Int):∀m,capX f x (min a b) m=min (capX f x a m) b
 | 0=>rfl
 | m+1=>by
  rw[aIg,aIg,capX_min f x a b m];omega
def RoomAt(w:World)(f:Int→Int→Int)(x:Nat→Int)(m:Nat)(l i:Value)(wr:World):Prop:=
 ∃j:Nat,j≤m∧i=.int .i64 j∧l=.int .i64 (capX f x 9223372036854775807 j)∧wr=w
theorem roomW_any{w:World}{v:Value}{f:Int→Int→Int}{bl m N:Nat}{cs:Array Value}{x:Nat→Int}(hv:IsM w v f)(hI:GInv f 4398046511104)(hk:Blk w bl cs 68)
  (hx:∀i,i≤m→cs[i]? = some (.int .u8 (x i)))(hm:1≤m)(hm15:m≤15)(hN:N=m+1):
  Calls Tryz.prog 226 #[v,.slice (some ⟨bl,0,none⟩) N N] w (yS w (.int .i64 (capX f x 9223372036854775807 m))):=by
 have HV:=yH hv.isG;have HI:=yH hI;have HX:=yH hx;have HK:=yH hk;have hlt:=hk.lt;have hr:=aKn (P:=Tryz.prog) w 41 68 Tryz.underlying41 (Tryz.sizeOf68 w) bl 0 N N (by omega) yL;rw[show aJh bl 0 N=⟨bl,1,none⟩ by unfold aJh;rw[if_neg (by omega)]]at hr;have hN1:N - 1=m:=by omega
 rw[hN1]at hr;have HN:=yH hN;have NE:=yH hN1;clear hv hI hx hk hN hN1;go_enter Tryz.func226,Tryz.ntmps226;go_wp2_with fail
 go_loopw [5,11] (RoomAt w f x m) (fun _ i _=>m - (intOf i).toNat)
 case atStart=>exact⟨0,by omega,rfl,rfl,rfl⟩
 obtain⟨j,hj,rfl,rfl,rfl⟩:=hrel;clear hr
 by_cases hjm:j<m
 ·have q0:decide ((j:Int)<(m:Int))=true:=by simp;omega
  have i0:(0:Int)≤(j:Int):=by omega
  have i1:(j:Int)<(m:Int):=by omega
  have i2:(j:Int)<(N:Int):=by have:=HN.o;omega
  have e0:=(HK.o.cell j).trans (HX.o j (by omega));have e1:=(HK.o.cell (1+j)).trans (HX.o (1+j) (by omega));rw[show x (1+j)=x (j+1) by rw[Nat.add_comm]]at e1;have CP:=yH (gcapI HV.o HI.o.outF (x j) (x (j+1)));have NX:=yH (aIg f x 9223372036854775807 j);generalize capX f x 9223372036854775807 j=y at *;generalize hz:f (x j) (x (j+1))=z at *;generalize x j=u at *;generalize x (j+1)=v at *;clear hz;go_wp2_with fail;refine CP.o.mono ?_;rintro e w1 ⟨rfl,rfl⟩;rcases Int.lt_or_le z y with hc|hc
  ·rw[Int.min_eq_right (by omega)]at NX;go_wp2_with fail;go_roundw
   case rel=>exact⟨j+1,by omega,by go_num,by rw[NX.o],rfl⟩
   case measure=>simp[intOf];omega
  rw[Int.min_eq_left (by omega)]at NX;go_wp2_with fail;go_roundw
  case rel=>exact⟨j+1,by omega,by go_num,by rw[NX.o],rfl⟩
  case measure=>simp[intOf];omega
 have hjm2:j=m:=by omega
 subst hjm2;have q0:decide ((j:Int)<(j:Int))=false:=by simp
 go_wp2_with fail;go_ret;exact⟨rfl,rfl⟩
end Go.Proofs.YtngnfdnfpiiclaaGreat
namespace Go.Proofs.YtngnfdnfpiiclaaGreat
open Go.RowKit
attribute [local go_sem] Oper.semAt_some
open Classical in
noncomputable def lst(p:Nat→Prop):Nat→Nat
 | 0=>0
 | n+1=>if p 0 then 0 else lst (fun i=>p (i+1)) n+1
theorem aKp:∀{n:Nat} {p:Nat→Prop} {k:Nat},p k→k≤n→lst p n≤k∧p (lst p n)
 | 0,p,k,h,hk=>by
  have:k=0:=by omega
  subst this;exact⟨Nat.le_refl _,h⟩
 | n+1,p,k,h,hk=>by
  unfold lst
  by_cases h0:p 0
  ·rw[if_pos h0];exact⟨Nat.zero_le _,h0⟩
  rw[if_neg h0]
  match k,h with
  | 0,h=>exact absurd h h0
  | k+1,h=>
   obtain⟨h1,h2⟩:=aKp (n:=n) (p:=fun i=>p (i+1)) (k:=k) h (by omega);exact⟨by omega,h2⟩
theorem ways_any(w:World)(p:Option Addr)(s t:Int):
  Calls Tryz.prog 225 #[.pointer p,.int .u8 s,.int .u8 t] w fun e w'=>e=.returned (.func (.func 259) #[] #[.pointer (some ⟨w.heap.size,0,none⟩),.pointer (some ⟨w.heap.size+1,0,none⟩),.pointer (some ⟨w.heap.size+1+1,0,none⟩)])∧
   w'=((w.alloc (.cells #[.pointer p] 285)).alloc (.cells #[.int .u8 s] 68)).alloc (.cells #[.int .u8 t] 68):=by
 go_enter Tryz.func225,Tryz.ntmps225;go_wp2;go_ret;exact⟨rfl,rfl⟩
def WayY(s t:Int)(x:Nat×RS)(vs:Array Value)(W:World):Prop:=
 ∃bl cs m,vs=#[.slice (some ⟨bl,0,none⟩) (m+1) (m+1)]∧Blk W bl cs 68∧(∀i,i≤m→cs[i]? = some (.int .u8 (wayX x.2.f s t i)))∧(aAz x.2.f s t).length=m+1
theorem rowed_way{w:World}{base:Nat}{e:TypeId}{v:Value}{f:Int→Int→Int}{s t:Int}{m:Nat}(h:aCz w base e 1 v (aAz f s t).length ((aAz f s t).map (.int .u8)))(hm:(aAz f s t).length=m+1):
  ∃bl cs,v=.slice (some ⟨bl,0,none⟩) (m+1) (m+1)∧Blk w bl cs e∧base≤bl∧∀i,i≤m→cs[i]? = some (.int .u8 (wayX f s t i)):=by
 obtain⟨h1,⟨_,h2⟩|⟨g,cs,hv,hb,hg,_,hc,ht⟩⟩:=h
 ·omega
 refine⟨g,cs,by rw[hv,hm],hg,hb,fun i hi=>?_⟩;have h3:(cs.toList.take ((aAz f s t).length*1))[i]? = ((aAz f s t).map (Value.int .u8))[i]? := by rw[ht]
 rw[List.getElem?_take_of_lt (by omega),Array.getElem?_toList,List.getElem?_map]at h3;rw[h3,List.getElem?_eq_getElem (by omega)];simp[wayX,List.getElem?_eq_getElem (show i<(aAz f s t).length by omega)]
def WaysAt(J:(Nat×RS)→World→Prop)(u:Value)(wr:World):Prop:=∃x,J x wr
noncomputable def waysM(J:(Nat×RS)→World→Prop)(wr:World):Nat:=lst (fun k=>∃x,J x wr∧k=4114 - x.1) 5000
theorem ways_seq{I:(Nat×RS)→World→Prop}{b3 b4 b5:Nat}{p:Option Addr}{f0:Int→Int→Int}{s t want:Int}(hs:In8 s)(ht:In8 t)
  (hI:∀x W,I x W→IsM W (.pointer p) x.2.f∧RInv f0 4398046511104 s t want x.1 x.2∧Blk W b3 #[.pointer p] 285∧Blk W b4 #[.int .u8 s] 68∧Blk W b5 #[.int .u8 t] 68):
  SeqJ Tryz.prog 259 #[.pointer (some ⟨b3,0,none⟩),.pointer (some ⟨b4,0,none⟩),.pointer (some ⟨b5,0,none⟩)] (fun x=>aAz x.2.f s t=[]) (WayY s t) (fun x x'=>x'.1=x.1+1) I:=by
 intro n l J Jx hgrow hJI hY s0 W0 h0;have GR:=yH hgrow;have JI:=yH hJI;have HY:=yH hY;have HI:=yH hI;have HS:=yH hs;have HT:=yH ht;clear hgrow hJI hY hI hs ht;refine callsIn_of_wp Tryz.func259 rfl trivial ?_ rfl;simp only[Tryz.ntmps259,List.size_toArray,List.length_cons,List.length_nil,Nat.reduceAdd,Nat.reduceSub,Array.replicate_succ,Array.replicate_zero,List.push_toArray,List.append_toArray,List.nil_append,List.cons_append]
 gi_wp2_with fail
 gi_loopw [5] (WaysAt J) (fun _ wr=>waysM J wr)
 case atStart=>exact⟨s0,h0⟩
 have hm:∃x,J x wr∧waysM J wr=4114 - x.1:=by
  obtain⟨x,hx⟩:=hrel;exact(aKp (p:=fun k=>∃x,J x wr∧k=4114 - x.1) (k:=4114 - x.1) ⟨x,hx,rfl⟩ (by omega:4114 - x.1≤5000)).2
 obtain⟨x,hx,hmx⟩:=hm;have HX:=yH hx;have HM:=yH hmx;obtain⟨hv,hR,k3,k4,k5⟩:=HI.o x wr (JI.o x wr hx);have CS:=yH (pshort_any hv.isG hR.g HS.o HT.o);have c3:=k3.cell 0;have c4:=k4.cell 0;have c5:=k5.cell 0;simp at c3 c4 c5;clear hx hmx hrel h0 hv hR k3 k4 k5
 gi_wp2_with fail
 refine⟨trivial,(fun hh=>(by cases hh)),(callsIn_wide.2 CS.o).mono ?_⟩;rintro e w1 ⟨wv,rfl,hrow,hb⟩;have J1:=yH (GR.o x wr w1 HX.o hb);clear c3 c4 c5 CS hb
 by_cases hL:aAz x.2.f s t=[]
 ·have HL:=yH hL;obtain⟨ao,cap,rfl,_⟩:=hrow.look;rw[hL];clear hL hrow
  gi_wp2_with fail
  refine⟨fun _ h=>(by cases h),?_⟩
  gi_wp2_with fail
  refine bodyPost_ret (results_none rfl _ _ _) rfl ?_;exact⟨⟨_,rfl⟩,.inl ⟨x,HL.o,J1.o⟩⟩
 obtain⟨m,hm⟩:∃m,(aAz x.2.f s t).length=m+1:=by
  match h:aAz x.2.f s t with
  | []=>exact absurd h hL
  | a::r=>exact⟨r.length,rfl⟩
 obtain⟨bl,cs,rfl,hk,_,hcs⟩:=rowed_way hrow hm;obtain⟨fn,tmps,assign,body,hy,hR⟩:=HY.o (n - 1) x #[.slice (some ⟨bl,0,none⟩) (m+1) (m+1)] w1 J1.o ⟨bl,cs,m,rfl,hk,hcs,hm⟩;have RR:=yH hR;have q0:(((m+1:Nat):Int)==0)=false:=by simp;omega
 clear hL hm hrow hk hcs hR;generalize m+1=N at *
 gi_wp2_with fail
 refine⟨(fun hh=>(by cases hh)),RR.o.mono ?_⟩;rintro e W3 (⟨rfl,x',hn,hj⟩|⟨rfl,hjx⟩)
 ·have J3:=yH hj;have k5:=(HI.o x' W3 (JI.o x' W3 hj)).2.1.k5
  have hlt:waysM J W3<waysM J wr:=by
   have h1:=(aKp (n:=5000) (p:=fun k=>∃x,J x W3∧k=4114 - x.1) (k:=4114 - x'.1) ⟨x',hj,rfl⟩ (by omega)).1;have h2:=HM.o;show lst _ 5000<_;omega
  have HL:=yH hlt;clear hn hj k5 hlt
  gi_wp2_with fail
  go_roundw
  case rel=>exact⟨x',J3.o⟩
  case measure=>exact HL.o
 gi_wp2_with fail
 refine bodyPost_ret (results_none rfl _ _ _) rfl ?_;exact⟨⟨_,rfl⟩,.inr hjx⟩
end Go.Proofs.YtngnfdnfpiiclaaGreat
namespace Go.Proofs.YtngnfdnfpiiclaaGreat
open Go.RowKit
attribute [local go_sem] Oper.semAt_some
theorem gcopyM{w:World}{p:Option Addr}{f:Int→Int→Int}(h:IsM w (.pointer p) f):
  Calls Tryz.prog 224 #[.pointer p] w fun e w'=>∃q,e=.returned (.pointer q)∧IsM w' (.pointer q) f∧(∀a,q=some a→w.heap.size≤a.block)∧Below w.heap.size w w':=by
 rcases h with⟨h1,rfl⟩|⟨g,h1,h2⟩
 ·cases h1
  refine(gcopy_nil w).mono ?_;rintro e w' ⟨rfl,rfl⟩;exact⟨none,rfl,IsM.nil _,(fun a h=>(by cases h)),yZ⟩
 cases h1
 refine(gcopy_any h2).mono ?_;rintro e w' ⟨rfl,hk,hb⟩;exact⟨_,rfl,IsM.of hk,(fun a h=>(by cases h;exact Nat.le_refl _)),hb⟩
theorem aJt{n₀ l:Nat}(W:World)(o':Obj)(h:n₀≤l):Below n₀ W (W.putObj l o'):=
 ⟨rfl,rfl,rfl,by simp,fun k hk=>World.putObj_heap_other (by omega)⟩
theorem aLw{l:Nat}(W:World)(o':Obj):Keep (fun k=>k=l) W (W.putObj l o'):=
 ⟨rfl,rfl,rfl,by simp,fun k hk hn=>World.putObj_heap_other hn⟩
theorem Blk.turn{W:World}{g l:Nat}{cs:Array Value}{t:TypeId}{o:Obj}(h:Blk W g cs t)(hl:W.heap[l]? = some o)(ho:o.isCells=false)(o':Obj):Blk (W.putObj l o') g cs t:=by
 refine(World.putObj_heap_other (o:=o') ?_).trans h;rintro rfl;have e:=h.out;rw[hl]at e
 cases e
 cases ho
theorem IsM.turn{W:World}{v:Value}{f:Int→Int→Int}{l:Nat}{o:Obj}(h:IsM W v f)(hl:W.heap[l]? = some o)(ho:o.isCells=false)(o':Obj):IsM (W.putObj l o') v f:=by
 rcases h with h|⟨g,h1,h2⟩
 ·exact .inl h
 exact .inr ⟨g,h1,h2.turn hl ho o'⟩
theorem owns_turn{W:World}{base l n size:Nat}{e:TypeId}{v:Value}{xs:List Value}{o:Obj}(h:W.ownsRow base e size v n xs)(hl:W.heap[l]? = some o)(ho:o.isCells=false)(o':Obj):(W.putObj l o').ownsRow base e size v n xs:=by
 refine aAw h (aLw W o') fun b hb hbl=>?_
 subst hbl;obtain⟨_,_,cur,hc⟩:=aAn h hb;rw[hl]at hc
 cases hc
 cases ho
structure RtM(w:World)(p:Option Addr)(want s t:Int)(b:Nat)(f:Int→Int→Int)(got:Int)(out:List Fw)(W:World):Prop where
 below:Below w.heap.size w W
 gr:IsM W (.pointer p) f
 fresh:∀a,p=some a→w.heap.size≤a.block
 row:∃v,Blk W (w.heap.size+1) #[v] 203∧W.ownsRow w.heap.size 209 3 v out.length (aBr out)
 want:Blk W w.heap.size #[.int .i64 want] 2
 got:Blk W (w.heap.size+1+1) #[.int .i64 got] 2
 left:Blk W b #[.pointer p] 285
 c3:Blk W (b+1) #[.pointer p] 285
 c4:Blk W (b+1+1) #[.int .u8 s] 68
 c5:Blk W (b+1+1+1) #[.int .u8 t] 68
theorem aB7{S:Nat→Prop}{B:Nat}{W W':World}(k:Keep S W W')(hs:∀i,S i→i<W.heap.size→∃cs t,Blk W i cs t):KeepsFrom B W W':=
 ⟨k.size,fun i o _ hi ho=>by
  have hl:=(Array.getElem?_eq_some_iff.1 hi).1;refine(k.block i hl fun hS=>?_).trans hi;obtain⟨cs,t,hb⟩:=hs i hS hl;have e:=hb.out;rw[hi]at e
  cases e
  cases ho⟩
theorem aDo{B:Nat}{W W':World}(k:Below W.heap.size W W'):KeepsFrom B W W':=
 aB7 (pAD (S:=fun _=>False) k) (fun i h=>h.elim)
section
variable{w:World}{p:Option Addr}{want s t:Int}{b:Nat}{f:Int→Int→Int}{got:Int}{out:List Fw}{W W':World}
theorem RtM.push{g:Nat}{f':Int→Int→Int}(h:RtM w (some ⟨g,0,none⟩) want s t b f got out W)(hg:Blk W g (graC f true) 327)(hk:Blk W' g (graC f' true) 327)(kp:Keep (fun k=>k=g) W W'):
  RtM w (some ⟨g,0,none⟩) want s t b f' got out W'∧KeepsFrom 0 W W':=by
 obtain⟨v,h1,h2⟩:=h.row;have hf:=h.fresh _ rfl
 refine⟨⟨h.below.trans (kp.below h.below.size (fun k hk e=>by simp at hf;omega)),IsM.of hk,h.fresh,⟨v,h1.keep kp (aCs h1 hg (by decide)),aAw h2 kp (aBz h2 hg (by decide))⟩,h.want.keep kp (aCs h.want hg (by decide)),
  h.got.keep kp (aCs h.got hg (by decide)),h.left.keep kp (aCs h.left hg (by decide)),h.c3.keep kp (aCs h.c3 hg (by decide)),h.c4.keep kp (aCs h.c4 hg (by decide)),h.c5.keep kp (aCs h.c5 hg (by decide))⟩,aB7 kp (fun i hi _=>⟨_,_,hi ▸ hg⟩)⟩
theorem RtM.app{v v':Value}{y:Fw}(h:RtM w p want s t b f got out W)(hv:Blk W (w.heap.size+1) #[v] 203)(ho:W.ownsRow w.heap.size 209 3 v out.length (aBr out))
  (hr:W'.ownsRow w.heap.size 209 3 v' (out++[y]).length (aBr (out++[y])))(hgr:W.grownBy W' v.ownBlock):
  RtM w p want s t b f got (out++[y]) (W'.setCell ⟨w.heap.size+1,0,none⟩ v')∧Keep (fun k=>v.ownBlock=some k∨k=w.heap.size+1) W (W'.setCell ⟨w.heap.size+1,0,none⟩ v')∧KeepsFrom 0 W (W'.setCell ⟨w.heap.size+1,0,none⟩ v'):=by
 have kp:Keep (fun k=>v.ownBlock=some k∨k=w.heap.size+1) W (W'.setCell ⟨w.heap.size+1,0,none⟩ v'):=
  ((Keep.refl _ W).grown hgr (fun k hk=>.inl (.inl hk))).setCell (p:=⟨w.heap.size+1,0,none⟩) (.inl (.inr rfl)) v'
 have key:∀{g:Nat} {cs:Array Value} {u:TypeId},Blk W g cs u→209≠u→g≠w.heap.size+1→Blk (W'.setCell ⟨w.heap.size+1,0,none⟩ v') g cs u:=fun hg hu hn=>
  hg.keep kp (by rintro(e|e);exact aBz ho hg hu _ e rfl;exact hn e)
 have hv':Blk W' (w.heap.size+1) #[v] 203:=hv.grown hgr (fun e=>aBz ho hv (by decide) _ e rfl);refine⟨⟨h.below.trans (kp.below h.below.size ?_),?_,h.fresh,⟨v',hv'.set 0 v',?_⟩,key h.want (by decide) (by omega),key h.got (by decide) (by omega),key h.left (by decide) (aCs h.left hv (by decide)),key h.c3 (by decide) (aCs h.c3 hv (by decide)),key h.c4 (by decide) (aCs h.c4 hv (by decide)),key h.c5 (by decide) (aCs h.c5 hv (by decide))⟩,kp,aB7 kp ?_⟩
 ·rintro k hk (e|e)
  ·have:=(aAn ho e).1;omega
  omega
 ·rcases h.gr with h1|⟨g,h1,h2⟩
  ·exact .inl h1
  exact .inr ⟨g,h1,key h2 (by decide) (aCs h2 hv (by decide))⟩
 ·exact aAw hr ((Keep.refl (fun k=>k=w.heap.size+1) W').setCell (p:=⟨w.heap.size+1,0,none⟩) (.inl rfl) v') (aBz hr hv' (by decide))
 rintro i (e|e) _
 ·obtain⟨_,_,cur,hc⟩:=aAn ho e;exact⟨_,_,hc⟩
 exact⟨_,_,e ▸ hv⟩
theorem RtM.setGot(h:RtM w p want s t b f got out W)(n:Int):RtM w p want s t b f n out (W.setCell ⟨w.heap.size+1+1,0,none⟩ (.int .i64 n))∧KeepsFrom 0 W (W.setCell ⟨w.heap.size+1+1,0,none⟩ (.int .i64 n)):=by
 have kp:Keep (fun k=>k=w.heap.size+1+1) W (W.setCell ⟨w.heap.size+1+1,0,none⟩ (.int .i64 n)):=(Keep.refl (fun k=>k=w.heap.size+1+1) W).setCell (p:=⟨w.heap.size+1+1,0,none⟩) (.inl rfl) _;obtain⟨v,h1,h2⟩:=h.row;refine⟨⟨h.below.trans (kp.below h.below.size (fun k hk e=>by omega)),?_,h.fresh,⟨v,h1.keep kp (by omega),aAw h2 kp (aBz h2 h.got (by decide))⟩,h.want.keep kp (by omega),h.got.set 0 _,h.left.keep kp (aCs h.left h.got (by decide)),h.c3.keep kp (aCs h.c3 h.got (by decide)),h.c4.keep kp (aCs h.c4 h.got (by decide)),h.c5.keep kp (aCs h.c5 h.got (by decide))⟩,aB7 kp (fun i hi _=>⟨_,_,hi ▸ h.got⟩)⟩;rcases h.gr with h3|⟨g,h3,h4⟩
 ·exact .inl h3
 exact .inr ⟨g,h3,h4.keep kp (aCs h4 h.got (by decide))⟩
end
theorem KeepsFrom.up{B B':Nat}{W W':World}(h:KeepsFrom B W W')(hB:B≤B'):KeepsFrom B' W W':=⟨h.size,fun k o hk hi ho=>h.same k o (Nat.le_trans hB hk) hi ho⟩
theorem rt_end{w:World}{p:Option Addr}{want s t:Int}{b:Nat}{f:Int→Int→Int}{got:Int}{out:List Fw}{W:World}{D:Nat}{v':Value}(M:RtM w p want s t b f got out W)(hD:W.heap[D]? = some (.deferred (some [])))(hDw:w.heap.size≤D)
  (hro:aCz W w.heap.size 209 3 v' out.length (aBr out)){W9:World}(h9:W9=((W.setCell ⟨w.heap.size+1,0,none⟩ v').setCell ⟨w.heap.size+1+1,0,none⟩ (.int .i64 got)).drew):
  W9.heap[D]? = some (.deferred (some []))∧(W9.putObj D (.deferred none)).cell? ⟨w.heap.size+1,0,none⟩=some v'∧(W9.putObj D (.deferred none)).cell? ⟨w.heap.size+1+1,0,none⟩=some (.int .i64 got)∧
   RowA (W9.putObj D (.deferred none)) w.heap.size 209 3 v' out.length (aBr out)∧Below w.heap.size w (W9.putObj D (.deferred none)):=by
 subst h9;obtain⟨v,k8,ow⟩:=M.row
 have kp:Keep (fun k=>k=w.heap.size+1∨k=w.heap.size+1+1) W ((W.setCell ⟨w.heap.size+1,0,none⟩ v').setCell ⟨w.heap.size+1+1,0,none⟩ (.int .i64 got)).drew:=
  (((Keep.refl _ W).setCell (p:=⟨w.heap.size+1,0,none⟩) (.inl (.inl rfl)) v').setCell (p:=⟨w.heap.size+1+1,0,none⟩) (.inl (.inr rfl)) _).drew
 have ne1:¬D=w.heap.size+1:=by
  rintro rfl;have:=k8.out;rw[hD]at this
  cases this
 have ne2:¬D=w.heap.size+1+1:=by
  rintro rfl;have:=M.got.out;rw[hD]at this
  cases this
 have hlt:=(Array.getElem?_eq_some_iff.1 hD).1;have hD9:=(kp.block D hlt (by rintro(h|h);exact ne1 h;exact ne2 h)).trans hD;have a8:=((k8.set 0 v').setOther (a:=⟨w.heap.size+1+1,0,none⟩) (by simp) (.int .i64 got)).drew.turn hD9 rfl (.deferred none);have a9:=(M.got.setOther (a:=⟨w.heap.size+1,0,none⟩) (by simp) v').set 0 (.int .i64 got);have a9':=a9.drew.turn hD9 rfl (.deferred none);refine⟨hD9,by rw[a8.cell];rfl,by rw[a9'.cell];rfl,?_,?_⟩
 ·have r1:=pAH hro;refine(r1.keep kp fun b hb=>?_).keep (aLw _ (.deferred none)) fun b hb=>?_
  ·obtain⟨_,_,cur,hc⟩:=r1.type hb;rintro(rfl|rfl)
   ·have:=k8.out;rw[hc]at this;simp at this
   have:=M.got.out;rw[hc]at this;simp at this
  rintro rfl;obtain⟨_,_,cur,hc⟩:=r1.type hb;rw[hD]at hc
  cases hc
 exact(M.below.trans (kp.below M.below.size (fun k hk=>by omega))).trans (aJt _ _ hDw)
def RtI(w:World)(p:Option Addr)(f0:Int→Int→Int)(want s t:Int)(b:Nat)(x:Nat×RS)(W:World):Prop:=
 RInv f0 4398046511104 s t want x.1 x.2∧RtM w p want s t b x.2.f (want - x.2.left) x.2.out W
def RtX(w:World)(p:Option Addr)(f0:Int→Int→Int)(want s t:Int)(b:Nat)(c:Code)(W:World):Prop:=
 c=.exit 0∧∃x,RtI w p f0 want s t b x W∧aDe s t x.2
section
variable{w:World}{p:Option Addr}{want s t:Int}{b:Nat}{f:Int→Int→Int}{got:Int}{out:List Fw}{W W':World}
theorem RtM.grow(h:RtM w p want s t b f got out W)(k:Below W.heap.size W W'):RtM w p want s t b f got out W':=by
 obtain⟨v,h1,h2⟩:=h.row;exact⟨h.below.trans (k.mono h.below.size),h.gr.below k,h.fresh,⟨v,h1.below k h1.lt,aAc h2 k⟩,h.want.below k h.want.lt,h.got.below k h.got.lt,h.left.below k h.left.lt,h.c3.below k h.c3.lt,h.c4.below k h.c4.lt,h.c5.below k h.c5.lt⟩
theorem RtM.turn(h:RtM w p want s t b f got out W){l:Nat}{o:Obj}(hw:w.heap.size≤l)(hl:W.heap[l]? = some o)(ho:o.isCells=false)(o':Obj):RtM w p want s t b f got out (W.putObj l o'):=by
 obtain⟨v,h1,h2⟩:=h.row;exact⟨h.below.trans (aJt W o' hw),h.gr.turn hl ho o',h.fresh,⟨v,h1.turn hl ho o',owns_turn h2 hl ho o'⟩,h.want.turn hl ho o',h.got.turn hl ho o',h.left.turn hl ho o',h.c3.turn hl ho o',h.c4.turn hl ho o',h.c5.turn hl ho o'⟩
end
theorem fits_I{w:World}{p:Option Addr}{f0:Int→Int→Int}{want s t:Int}{b B:Nat}(hB:w.heap.size≤B)(x:Nat×RS):Fits B (RtI w p f0 want s t b x):=
 ⟨fun W W' h k=>⟨h.1,h.2.grow k⟩,fun W l o o' h hl hg ho=>⟨h.1,h.2.turn (Nat.le_trans hB hl) hg ho o'⟩⟩
theorem fits_X{w:World}{p:Option Addr}{f0:Int→Int→Int}{want s t:Int}{b B:Nat}(hB:w.heap.size≤B)(c:Code):Fits B (RtX w p f0 want s t b c):=
 ⟨fun W W' ⟨h1,x,h2,h3⟩ k=>⟨h1,x,(fits_I yL x).grow _ _ h2 k,h3⟩,fun W l o o' ⟨h1,x,h2,h3⟩ hl hg ho=>⟨h1,x,(fits_I hB x).turn _ _ _ _ h2 hl hg ho,h3⟩⟩
theorem fits_Y{s t:Int}{B:Nat}(x:Nat×RS)(vs:Array Value):Fits B (WayY s t x vs):=
 ⟨fun W W' ⟨bl,cs,m,h1,h2,h3,h4⟩ k=>⟨bl,cs,m,h1,h2.below k h2.lt,h3,h4⟩,fun W l o o' ⟨bl,cs,m,h1,h2,h3,h4⟩ hl hg ho=>⟨bl,cs,m,h1,h2.turn hg ho o',h3,h4⟩⟩
def aC6:Code→Option Code
 | .rangeFunc _ _ _ b=>some b
 | .seq a b=>match aC6 a with
  | some c=>some c
  | none=>aC6 b
 | .cond _ a b=>match aC6 a with
  | some c=>some c
  | none=>aC6 b
 | .block _ c=>aC6 c
 | .scope c=>aC6 c
 | .loop c=>aC6 c
 | _=>none
end Go.Proofs.YtngnfdnfpiiclaaGreat
namespace Go.Proofs.YtngnfdnfpiiclaaGreat
open Go.RowKit
attribute [local go_sem] Oper.semAt_some
def AppSt(w w5:World)(v8 v':Value)(o:List Fw)(wr:World):Prop:=
 ∃wa,Below w5.heap.size w5 wa∧wr.ownsRow w.heap.size 209 3 v' o.length (aBr o)∧wa.grownBy wr v8.ownBlock
def AppI(w w5:World)(v8:Value)(o:List Fw)(y:Fw)(s:Nat×Value)(D:Nat→Bool)(wr:World):Prop:=
 (D 9=false→Below w5.heap.size w5 wr∧(D 8=true→Blk wr s.1 #[.int .u8 y.fr,.int .u8 y.tt,.int .i64 y.am] 209))∧
  (D 9=true→D 10=false→AppSt w w5 v8 s.2 (o++[y]) wr)∧(D 10=true→∃wb,AppSt w w5 v8 s.2 (o++[y]) wb∧wr=wb.setCell ⟨w.heap.size+1,0,none⟩ s.2)
section
variable{w w5 wr wr':World}{v8:Value}{o:List Fw}{y:Fw}{s:Nat×Value}{D:Nat→Bool}
theorem AppI.start(o:List Fw)(y:Fw):AppI w w5 v8 o y s (fun _=>false) w5.drew:=
 ⟨fun _=>⟨yZ.drew,fun h=>(by cases h)⟩,fun h=>(by cases h),fun h=>(by cases h)⟩
theorem AppI.below(h:AppI w w5 v8 o y s D wr)(hN:D 9=false):Below w5.heap.size w5 wr:=(h.1 hN).1
theorem AppI.keep{k:Nat}(h:AppI w w5 v8 o y s D wr)(hN:D 9=false)(hk:k<8)(hT:D 10=false:=by assumption):AppI w w5 v8 o y s (ins k D) wr:=by
 have e8:ins k D 8=D 8:=by simp[ins];omega
 have e9:ins k D 9=D 9:=by simp[ins];omega
 have e10:ins k D 10=D 10:=by simp[ins];omega
 refine⟨fun _=>?_,fun h9=>?_,fun h10=>?_⟩
 ·rw[e8];exact h.1 hN
 ·rw[e9,hN]at h9;cases h9
 rw[e10,hT]at h10;cases h10
theorem AppI.lay(h:AppI w w5 v8 o y s D wr)(hN:D 9=false)(hT:D 10=false:=by assumption):AppI w w5 v8 o y (wr.heap.size,s.2) (ins 8 D) (wr.alloc (.cells #[.int .u8 y.fr,.int .u8 y.tt,.int .i64 y.am] 209)):=by
 have e9:ins 8 D 9=D 9:=by simp[ins]
 have e10:ins 8 D 10=D 10:=by simp[ins]
 refine⟨fun _=>⟨(h.1 hN).1.alloc (h.1 hN).1.size _,fun _=>Blk.new _ _ _⟩,fun h9=>?_,fun h10=>?_⟩
 ·rw[e9,hN]at h9;cases h9
 rw[e10,hT]at h10;cases h10
theorem AppI.app{s1:Nat}{v':Value}{wa:World}(ho:wr.ownsRow w.heap.size 209 3 v' (o++[y]).length (aBr (o++[y])))(hB:Below w5.heap.size w5 wa)(hg:wa.grownBy wr v8.ownBlock)(hT:D 10=false):AppI w w5 v8 o y (s1,v') (ins 9 D) wr:=by
 have e9:ins 9 D 9=true:=by simp[ins]
 have e10:ins 9 D 10=D 10:=by simp[ins]
 refine⟨fun h9=>?_,fun _ _=>⟨wa,hB,ho,hg⟩,fun h10=>?_⟩
 ·rw[e9]at h9;cases h9
 rw[e10,hT]at h10;cases h10
theorem AppI.fin{s1:Nat}{v':Value}(h:AppSt w w5 v8 v' (o++[y]) wr)(hP:D 9=true):AppI w w5 v8 o y (s1,v') (ins 10 D) (wr.setCell ⟨w.heap.size+1,0,none⟩ v'):=by
 have e9:ins 10 D 9=D 9:=by simp[ins]
 have e10:ins 10 D 10=true:=by simp[ins]
 refine⟨fun h9=>?_,fun _ h10=>?_,fun _=>⟨wr,h,rfl⟩⟩
 ·rw[e9,hP]at h9;cases h9
 rw[e10]at h10;cases h10
end
theorem app_run{w:World}{base g c:Nat}{v:Value}{l:List Fw}{y:Fw}(hown:w.ownsRow base 209 3 v l.length (aBr l))(hy:Blk w g #[.int .u8 y.fr,.int .u8 y.tt,.int .i64 y.am] 209)(hlen:l.length≤100000)(hbase:base≤w.heap.size):
  ∃v' w',(Builtin.append_ #[203,203] 203 #[v,.slice (some ⟨g,0,none⟩) 1 c]).run Tryz.prog w=.ok v' w'∧w'.ownsRow base 209 3 v' (l++[y]).length (aBr (l++[y]))∧w.grownBy w' v.ownBlock:=by
 obtain⟨i0,hi1,hi2,hi3,hi4⟩:=info_parts info_fw
 have hnews:∀j u,y.vals[j]? = some u→w.cell? ((⟨g,0,none⟩:Addr).add j)=some u:=fun j u hj=>by
  have:=hy.cell j;rw[Go.WideShapes.add_plain,Nat.zero_add,this]
  match j,hj with
  | 0,hj=>simpa [Fw.vals]using hj
  | 1,hj=>simpa [Fw.vals]using hj
  | 2,hj=>simpa [Fw.vals]using hj
  | j+3,hj=>simp[Fw.vals]at hj
 have hone:∀u∈y.vals,u.oneCell'=true:=by
  intro u hu;simp[Fw.vals]at hu;rcases hu with rfl|rfl|rfl <;> rfl
 obtain⟨v',w',hr,h2,h3,_⟩:=run_append_own_at (P:=Tryz.prog) w base 203 203 209 i0 _ 3 16 Tryz.underlying203 hi1 hi2 hi3 hi4 rfl (by decide) v l.length (aBr l) hown ⟨g,0,none⟩ 1 c y.vals rfl hnews hone (by unfold maxLen;omega) (by omega) hbase;refine⟨v',w',hr,?_,h3⟩;rw[List.length_append,show aBr (l++[y])=aBr l++y.vals by simp[aBr]];exact h2
theorem OpTo.append{P:Program}{ops:Array Oper}{af:Act}{o:Oper}{w w':World}{R:World→Prop}{s x:Operand}{t:TypeId}{v u v':Value}(hg:o.guard=none)(hop:o.op=Op.call { callee:=Callee.builtin Builtin.append,args:=#[s,x],argTypes:=#[t,t] })
  (hs:af.eval s=v)(hx:af.eval x=u)(hr:(Builtin.append_ #[t,t] o.type #[v,u]).run P w=.ok v' w')(hput:af.put o.dst v'=af)(hR:R w'):OpTo P ops af o w R:=by
 refine yO hg ?_;unfold Oper.wp execOp;simp only[hop,resolve,invoke,builtin,Sem.run_bind,Sem.run_pure,Result.andThen_ok,List.map_toArray,List.map_cons,List.map_nil,hs,hx,hr];exact⟨hput,hR⟩
def PushWAt(w:World)(p:Option Addr)(want s t:Int)(b:Nat)(f:Int→Int→Int)(got:Int)(out:List Fw)(x:Nat→Int)(n:Int)(m bl:Nat)(cs:Array Value)(W:World)(i:Value)(wr:World):Prop:=
 ∃j:Nat,j≤m∧i=.int .i64 j∧RtM w p want s t b (aC4 f x n j) got (out++flX x n j) wr∧Blk wr bl cs 68∧KeepsFrom 0 W wr
theorem rt_body{w:World}{q:Option Addr}{f:Int→Int→Int}{s t want:Int}{b B m0 l k:Nat}{σ:RS}{W:World}{bl m:Nat}{cs:Array Value}{way c0 c1 c2 c3 c4 c5 c6 c12 c13 c14 c15 c16 c17 c18 c19 c20 c21 c22 c23 c24 c25 c26 c27 c28 c29 c30 c31 c32 c33 c34 c35 c36 c37 c38 c39 c40 c41 c42 c43 c44 c45 c46 c47 c48 c49 c50 c51 c52 c53 c54 c55 c56 c57 c58 c59 c60 c61 c62 c63 c64:Value}
  (hw:In64 want)(hM:RtI w q f want s t b (k,σ) W)(hbl:Blk W bl cs 68)(hcs:∀i,i≤m→cs[i]? = some (.int .u8 (wayX σ.f s t i)))(hlen:(aAz σ.f s t).length=m+1)(hway:way=.slice (some ⟨bl,0,none⟩) (m+1) (m+1)):
  Code.wpIn (Fence.wide.inRound l) m0 Tryz.prog (((Tryz.f192.body).bind aC6).getD .skip) (roundEnd B (RtI w q f want s t b) (RtX w q f want s t b) (fun x x'=>x'.1=x.1+1) (k,σ) W) ⟨#[c0,c1,c2,c3,c4,c5,c6,(.pointer (some ⟨w.heap.size,0,none⟩)),(.pointer (some ⟨w.heap.size+1,0,none⟩)),(.pointer (some ⟨w.heap.size+1+1,0,none⟩)),(.pointer (some ⟨b,0,none⟩)),way,c12,c13,c14,c15,c16,c17,c18,c19,c20,c21,c22,c23,c24,c25,c26,c27,c28,c29,c30,c31,c32,c33,c34,c35,c36,c37,c38,c39,c40,c41,c42,c43,c44,c45,c46,c47,c48,c49,c50,c51,c52,c53,c54,c55,c56,c57,c58,c59,c60,c61,c62,c63,c64],[]⟩ W:=by
 conv=>arg 4;whnf
 have hR:RInv f 4398046511104 s t want k σ:=hM.1;have hMm:RtM w q want s t b σ.f (want - σ.left) σ.out W:=hM.2;obtain⟨w0,w9⟩:=hw;have SI:=yH hR;have hlo:=hR.lo;have hhi:=hR.hi;obtain⟨G,hG⟩:∃G,want - σ.left=G:=⟨_,rfl⟩;rw[hG]at hMm;have MM:=yH hMm;have KA:=yH hMm.want;have KB:=yH hMm.got;have KL:=yH hMm.left;have GG:=yH hG;have d7:=hMm.want.cell 0;have d9:=hMm.got.cell 0;simp at d7 d9;have hbW:=hbl.lt;have KW:=yH hbl;have XS:=yH hcs;have HL:=yH hlen;clear hR hM hMm hbl hcs hlen hG
 by_cases hpos:0<σ.left
 ·have hGl:=GG.o;have q0:decide (want≤G)=false:=by simp;omega
  have hne:aAz σ.f s t≠[]:=by
   intro e;have:=HL.o;rw[e]at this;simp at this
  have hnd:¬aDe s t σ:=fun hd=>by
   rcases hd with q|q
   ·omega
   exact hne q
  obtain⟨m2,n,hm,hwx,hn,n1,n2,n3,he⟩:=SI.o.way hnd;obtain rfl:m=m2:=by have:=HL.o;omega
  have hsn:=SI.o.step hnd;rw[he]at hsn;have SN:=yH hsn;have WX:=yH hwx;have NE:=yH n3;have hm15:=hwx.m15;have hm1:=hwx.m1;have hmin:=capX_min σ.f (wayX σ.f s t) 9223372036854775807 σ.left m;rw[Int.min_eq_right (by omega),←hn]at hmin
  obtain⟨g,hq,hk⟩:∃g,q=some ⟨g,0,none⟩∧Blk W g (graC σ.f true) 327:=by
   rcases MM.o.gr with⟨_,h0⟩|⟨g,h1,h2⟩
   ·exact absurd (by rw[h0];exact zero_short s t) hne
   exact⟨g,by cases h1;rfl,h2⟩
  subst hq;have KG:=yH hk;have hleft:σ.left=want - G:=by omega
  have NB:=yH (show n≤9223372036854775807∧G+n=want - (σ.left - n) by omega);obtain⟨N,hN⟩:∃N,N=m+1:=⟨_,rfl⟩;rw[←hN]at hway;have CR:=yH (fun w' (hS:Below W.heap.size W w')=>roomW_any (MM.o.gr.below hS) SI.o.g (KW.o.below hS hbW) XS.o hm1 hm15 hN);obtain⟨c,hc⟩:∃c,capX σ.f (wayX σ.f s t) 9223372036854775807 m=c:=⟨_,rfl⟩;rw[hc,hleft]at hmin;rw[hc]at CR;have HN:=yH hmin;have g0:0<want - G:=by omega
  have g1:want - G≤9223372036854775807:=by omega
  have n8:n≤9223372036854775807:=by omega
  have n9:n≤want - G:=by omega
  have HNN:=yH hN;generalize hx:wayX σ.f s t=x at *;clear hmin hc hsn hwx n3 he hk hnd hne hN hm hn hx n2 hGl hleft HL;subst hway
  gi_wp2_with fail
  refine aIi (by kernel_rfl) (by kernel_rfl) 7 [(.pointer (some ⟨g,0,none⟩)),(.slice (some ⟨bl,0,none⟩) N N),(.int .i64 c),(.int .i64 want),(.int .i64 G),(.int .i64 (want - G)),(.int .i64 n),(.int .i64 n)]
   (fun w'=>Below W.heap.size W w') (by kernel_rfl) rfl (by kernel_rfl) yZ.drew ?_
  intro af haf;simp only[yG,List.append_eq,List.cons_append,List.nil_append,puts,Act.put,yA,yC,yF,yD,yE]at haf;subst haf;refine⟨?_,?_⟩
  ·simp only[yG,List.take_succ_cons,List.take_zero,aAv];refine⟨?_,?z1,?_,?_,?_,?z2,?_,trivial⟩
   case z1|z2=>
    intro w' hS;refine yO rfl ?_;have HS:=yH hS;clear hS;go_wp2_with fail;all_goals first|exact HS|exact⟨rfl,HS⟩|rfl|exact⟨by omega,HS.o⟩
   ·intro w' hS;refine yO rfl ?_;have e:=(KL.o.below hS KL.o.lt).cell 0;simp at e;have hl:=yM KL.o.lt hS.size;have HS:=yH hS;clear hS;go_wp2_with fail;all_goals first|exact HS|exact⟨rfl,HS⟩|rfl|exact⟨by omega,HS.o⟩
   ·intro w' hS;refine yO rfl ?_;have HS:=yH hS;have HC:=yH (CR.o w' hS);clear hS;go_wp2_with fail;refine HC.o.mono ?_;rintro e w'' ⟨rfl,rfl⟩;exact⟨rfl,HS.o⟩
   ·intro w' hS;refine yO rfl ?_;have e:=(KA.o.below hS KA.o.lt).cell 0;simp at e;have hl:=yM KA.o.lt hS.size;have HS:=yH hS;clear hS;go_wp2_with fail;all_goals first|exact HS|exact⟨rfl,HS⟩|rfl|exact⟨by omega,HS.o⟩
   ·intro w' hS;refine yO rfl ?_;have e:=(KB.o.below hS KB.o.lt).cell 0;simp at e;have hl:=yM KB.o.lt hS.size;have HS:=yH hS;clear hS;go_wp2_with fail;all_goals first|exact HS|exact⟨rfl,HS⟩|rfl|exact⟨by omega,HS.o⟩
   intro w' hS;refine yO rfl ?_;have HS:=yH hS;clear hS;rcases Int.lt_or_le (want - G) c with hc|hc
   ·have hn':n=want - G:=by rw[HN.o];omega
    rw[hn'];clear hn';go_wp2_with fail;all_goals first|exact HS|exact⟨rfl,HS⟩
   have hn':n=c:=by rw[HN.o];omega
   rw[hn'];clear hn';go_wp2_with fail;all_goals first|exact HS|exact⟨rfl,HS⟩
  simp only[yC,yA,yG];intro w' hS;refine yO rfl ?_;have M5:=yH (MM.o.grow hS);have K5:=yH (KW.o.below hS hbW);have F5:=yH (aDo (B:=0) hS);have hNm:=HNN.o;have hr:=aKn (P:=Tryz.prog) w' 41 68 Tryz.underlying41 (Tryz.sizeOf68 w') bl 0 N N (by omega) yL;rw[show aJh bl 0 N=⟨bl,1,none⟩ by unfold aJh;rw[if_neg (by omega)],show N - 1=m by omega]at hr;clear hS CR hNm;go_wp2_with fail
  gi_wp2_with fail
  gi_loopw [35] (PushWAt w (some ⟨g,0,none⟩) want s t b σ.f G σ.out x n m bl cs W) (fun i _=>m - (intOf i).toNat)
  case atStart=>exact⟨0,by omega,rfl,by rw[show flX x n 0=[]from rfl,List.append_nil];exact M5.o,K5.o,F5.o⟩
  clear M5 K5 F5 hr KG KL KA KB MM KW hbW;obtain⟨j,hj,rfl,hM,hk,hkf⟩:=hrel;have MM:=yH hM;have KW:=yH hk;have KF:=yH hkf;have KL:=yH hM.left;have hbr:=hk.lt
  obtain⟨g',hq',hkg⟩:∃g',some (⟨g,0,none⟩:Addr)=some ⟨g',0,none⟩∧Blk wr g' (graC (aC4 σ.f x n j) true) 327:=by
   rcases hM.gr with⟨h0,_⟩|⟨g',h1,h2⟩
   ·cases h0
   exact⟨g',by cases h1;rfl,h2⟩
  obtain rfl:g=g':=by cases hq';rfl
  have KG:=yH hkg;have hNm:=HNN.o;clear hM hk hkf hkg hq'
  by_cases hjm:j<m
  ·have qj:decide ((j:Int)<(m:Int))=true:=by simp;omega
   have i0:(0:Int)≤(j:Int):=by omega
   have i1:(j:Int)<(m:Int):=by omega
   have i2:(j:Int)<(N:Int):=by omega
   have GI:=yH (aH8 SI.o.g WX.o n1 NE.o j (by omega));have hah:=aDl (n:=n) WX.o j j yL hjm;have hne:=NE.o j hjm
   have EE:Hid (aGb (aC4 σ.f x n j) (x j) (x (j+1)) n=0∧aEn (aC4 σ.f x n j) (x j) (x (j+1)) n=aC4 σ.f x n (j+1)):=yH (by
    unfold aGb aEn;rw[hah,if_neg (by omega),if_neg (by omega),if_pos ⟨n1,hne⟩];exact⟨rfl,rfl⟩)
   have FX:Hid (σ.out++flX x n (j+1)=(σ.out++flX x n j)++[⟨x j,x (j+1),n⟩]):=yH (by rw[show flX x n (j+1)=flX x n j++[⟨x j,x (j+1),n⟩]from rfl,List.append_assoc]);have CP:=yH (fun w' (hS:Below wr.heap.size wr w')=>gpush_any (KG.o.below hS KG.o.lt) GI.o (by decide) (a:=x j) (b:=x (j+1)) (n:=n) ⟨by omega,by omega⟩);have EU:=yH (XS.o j (by omega));have EV:=yH (XS.o (1+j) (by omega));rw[show x (1+j)=x (j+1) by rw[Nat.add_comm]]at EV;have e1:=(KW.o.cell (1+j)).trans EV.o
   have hlen:(σ.out++flX x n j).length≤90000:=by
    rw[List.length_append,aM1];have:=SI.o.len;have:=SI.o.k5;omega
   clear hNm hah hne GI;generalize hf2:aC4 σ.f x n (j+1)=f2 at *;have HF2:=yH hf2;clear hf2;generalize x j=u at *;generalize hv:x (j+1)=v at *;clear hv;generalize hout:σ.out++flX x n j=out0 at *;clear hout
   gi_wp2_with fail
   refine aIi (by kernel_rfl) (by kernel_rfl) 7 [(.pointer (some ⟨g,0,none⟩)),(.slice (some ⟨bl,0,none⟩) N N),(.int .i64 j),(.pointer (some ⟨bl,j,none⟩)),(.int .u8 u),(.int .u8 v),(.int .i64 n),(.int .i64 0)]
    (fun w'=>Below wr.heap.size wr w') (by kernel_rfl) rfl (by kernel_rfl) yZ.drew ?_
   intro af haf;simp only[yG,List.append_eq,List.cons_append,List.nil_append,puts,Act.put,yA,yC,yF,yD,yE]at haf;subst haf;refine⟨?_,?_⟩
   ·simp only[yG,List.take_succ_cons,List.take_zero,aAv];refine⟨?_,?z3,?z4,?z7,?z8,?z5,?z6,trivial⟩
    case z3|z4|z5|z6=>
     intro w' hS;refine yO rfl ?_;have HS:=yH hS;clear hS;go_wp2_with fail;all_goals first|exact HS|exact⟨rfl,HS⟩|rfl|exact⟨by omega,HS.o⟩
    case z7|z8=>
     intro w' hS;refine yO rfl ?_;have e:=(KW.o.below hS KW.o.lt).cell j;rw[EU.o]at e;have hl:=yM KW.o.lt hS.size;have HS:=yH hS;clear hS;go_wp2_with fail;all_goals first|exact HS|exact⟨rfl,HS⟩|rfl|exact⟨by omega,HS.o⟩
    intro w' hS;refine yO rfl ?_;have e:=(KL.o.below hS KL.o.lt).cell 0;simp at e;have hl:=yM KL.o.lt hS.size;have HS:=yH hS;clear hS;go_wp2_with fail;all_goals first|exact HS|exact⟨rfl,HS⟩|rfl|exact⟨by omega,HS.o⟩
   simp only[yC,yA,yG];intro w' hS;refine yO rfl ?_;have CQ:=yH (CP.o w' hS);have MS:=yH (MM.o.grow hS);have KS:=yB KW hS;have FS:=yH (KF.o.trans (aDo (B:=0) hS));have GS:=yB KG hS;clear hS CP;go_wp2_with fail;refine CQ.o.mono ?_;rintro e w5 ⟨he,hk5,kp5⟩;rw[EE.o.1]at he;subst he;rw[EE.o.2]at hk5;obtain⟨hM5,hF5⟩:=MS.o.push GS.o hk5 kp5;have M5:=yH hM5;have F5:=yH (FS.o.trans hF5);have K5:=yH (KS.o.keep kp5 (aCs KS.o GS.o (by decide)));obtain⟨v8,k8,ow⟩:=hM5.row;obtain⟨ao,cap,hv8,_⟩:=aAh ow;subst hv8;have K8:=yH k8;have OW:=yH ow;have hb5:=hM5.below.size;clear hk5 kp5 hM5 hF5 CQ MS KS FS GS k8 ow MM KW KF KL KG EE;go_wp2_with fail
   gi_wp2_with fail
   refine aKo (by kernel_rfl) (by kernel_rfl) (fun s:Nat×Value=>[(.slice ao out0.length cap),(.slice (some ⟨bl,0,none⟩) N N),(.int .i64 j),(.pointer (some ⟨bl,j,none⟩)),(.int .u8 u),(.int .u8 v),(.int .i64 n),(.agg #[.int .u8 u,.int .u8 v,.int .i64 n]),(.slice (some ⟨s.1,0,none⟩) 1 1),s.2,undef])
    (AppI w w5 (.slice ao out0.length cap) out0 ⟨u,v,n⟩) (by kernel_rfl) (0,undef) (AppI.start _ _) ?_
   intro AF hAF;simp only[yG,List.append_eq,List.cons_append,List.nil_append,puts,Act.put,yA,yC,yF,yD,yE]at hAF;have hAF2:_=AF:=funext hAF;subst hAF2;clear hAF;refine⟨?_,?_⟩
   ·simp only[yG,aFh];refine⟨?_,?_,?_,?_,?_,?_,?_,?_,?_,?_,?_,trivial⟩
    ·intro s D w' hD hW hC hI;refine⟨s,fun _ _ _=>rfl,?_⟩;have hN:D 9=false:=aAa hC hD 9 (by kernel_rfl);have hT:D 10=false:=aAa hC hN 10 (by kernel_rfl);have hS:=hI.below hN;refine yO rfl ?_;have e:=(K8.o.below hS K8.o.lt).cell 0;simp at e;have hl:=yM K8.o.lt hS.size;have HS:=yH (hI.keep (k:=0) hN (by decide));clear hI hS hN hC hW hD;go_wp2_with fail;all_goals first|exact HS|exact⟨rfl,HS⟩|rfl
    ·intro s D w' hD hW hC hI;refine⟨s,fun _ _ _=>rfl,?_⟩;have hN:D 9=false:=aAa hC hD 9 (by kernel_rfl);have hT:D 10=false:=aAa hC hN 10 (by kernel_rfl);have hS:=hI.below hN;refine yO rfl ?_;have HS:=yH (hI.keep (k:=1) hN (by decide));clear hI hS hN hC hW hD;go_wp2_with fail;all_goals first|exact HS|exact⟨rfl,HS⟩|rfl
    ·intro s D w' hD hW hC hI;refine⟨s,fun _ _ _=>rfl,?_⟩;have hN:D 9=false:=aAa hC hD 9 (by kernel_rfl);have hT:D 10=false:=aAa hC hN 10 (by kernel_rfl);have hS:=hI.below hN;refine yO rfl ?_;have HS:=yH (hI.keep (k:=2) hN (by decide));clear hI hS hN hC hW hD;go_wp2_with fail;all_goals first|exact HS|exact⟨rfl,HS⟩|rfl
    ·intro s D w' hD hW hC hI;refine⟨s,fun _ _ _=>rfl,?_⟩;have hN:D 9=false:=aAa hC hD 9 (by kernel_rfl);have hT:D 10=false:=aAa hC hN 10 (by kernel_rfl);have hS:=hI.below hN;refine yO rfl ?_;have e:=(K5.o.below hS K5.o.lt).cell j;rw[EU.o]at e;have hl:=yM K5.o.lt hS.size;have HS:=yH (hI.keep (k:=3) hN (by decide));clear hI hS hN hC hW hD;go_wp2_with fail;all_goals first|exact HS|exact⟨rfl,HS⟩|rfl
    ·intro s D w' hD hW hC hI;refine⟨s,fun _ _ _=>rfl,?_⟩;have hN:D 9=false:=aAa hC hD 9 (by kernel_rfl);have hT:D 10=false:=aAa hC hN 10 (by kernel_rfl);have hS:=hI.below hN;refine yO rfl ?_;have e:=(K5.o.below hS K5.o.lt).cell j;rw[EU.o]at e;have hl:=yM K5.o.lt hS.size;have HS:=yH (hI.keep (k:=4) hN (by decide));clear hI hS hN hC hW hD;go_wp2_with fail;all_goals first|exact HS|exact⟨rfl,HS⟩|rfl
    ·intro s D w' hD hW hC hI;refine⟨s,fun _ _ _=>rfl,?_⟩;have hN:D 9=false:=aAa hC hD 9 (by kernel_rfl);have hT:D 10=false:=aAa hC hN 10 (by kernel_rfl);have hS:=hI.below hN;refine yO rfl ?_;have HS:=yH (hI.keep (k:=5) hN (by decide));clear hI hS hN hC hW hD;go_wp2_with fail;all_goals first|exact HS|exact⟨rfl,HS⟩|rfl
    ·intro s D w' hD hW hC hI;refine⟨s,fun _ _ _=>rfl,?_⟩;have hN:D 9=false:=aAa hC hD 9 (by kernel_rfl);have hT:D 10=false:=aAa hC hN 10 (by kernel_rfl);have hS:=hI.below hN;refine yO rfl ?_;have HS:=yH (hI.keep (k:=6) hN (by decide));clear hI hS hN hC hW hD;go_wp2_with fail;all_goals first|exact HS|exact⟨rfl,HS⟩|rfl
    ·intro s D w' hD hW hC hI;refine⟨s,fun _ _ _=>rfl,?_⟩;have hN:D 9=false:=aAa hC hD 9 (by kernel_rfl);have hT:D 10=false:=aAa hC hN 10 (by kernel_rfl);have hS:=hI.below hN;refine yO rfl ?_;have HS:=yH (hI.keep (k:=7) hN (by decide));clear hI hS hN hC hW hD;go_wp2_with fail;all_goals first|exact HS|exact⟨rfl,HS⟩|rfl
    ·intro s D w' hD hW hC hI;have hN:D 9=false:=aAa hC hD 9 (by kernel_rfl);refine⟨(w'.heap.size,s.2),?_,?_⟩
     ·intro j' hj hd
      have hne:j'≠8:=by
       rintro rfl;rw[hD]at hd
       cases hd
      match j',hne with
      | 0,_=>rfl
      | 1,_=>rfl
      | 2,_=>rfl
      | 3,_=>rfl
      | 4,_=>rfl
      | 5,_=>rfl
      | 6,_=>rfl
      | 7,_=>rfl
      | 8,h=>exact absurd rfl h
      | 9,_=>rfl
      | 10,_=>rfl
      | j'+11,_=>rfl
     refine yO rfl ?_;have hT:D 10=false:=aAa hC hN 10 (by kernel_rfl);have HS:=yH (hI.lay hN);clear hI hN hC hW hD;go_wp2_with fail;all_goals first|exact HS|exact⟨rfl,HS⟩|rfl
    ·intro s D w' hD hW hC hI;have hP:D 8=true:=aAk hC hW (by kernel_rfl);obtain⟨hB,hA⟩:=hI.1 hD;have hK:=hA hP;obtain⟨v',w2,hr,ho,hgr⟩:=app_run (c:=1) (aAc OW.o hB) hK (by omega) (Nat.le_trans hb5 hB.size);refine⟨(s.1,v'),?_,?_⟩
     ·intro j' hj hd
      have hne:j'≠9:=by
       rintro rfl;rw[hD]at hd
       cases hd
      match j',hne with
      | 0,_=>rfl
      | 1,_=>rfl
      | 2,_=>rfl
      | 3,_=>rfl
      | 4,_=>rfl
      | 5,_=>rfl
      | 6,_=>rfl
      | 7,_=>rfl
      | 8,_=>rfl
      | 9,h=>exact absurd rfl h
      | 10,_=>rfl
      | j'+11,_=>rfl
     exact OpTo.append rfl rfl rfl rfl hr rfl (AppI.app ho hB hgr (aAa hC hD 10 (by kernel_rfl)))
    intro s D w' hD hW hC hI;have hP:D 9=true:=aAk hC hW (by kernel_rfl);obtain⟨wa,hwa,ho,hgr⟩:=hI.2.1 hP hD;refine⟨s,fun _ _ _=>rfl,?_⟩;obtain⟨s1,s2⟩:=s;obtain⟨ao2,cap2,hs2,_⟩:=aAh ho;simp only at hs2;subst hs2;have k8:=(K8.o.below hwa K8.o.lt).grown hgr (fun e=>aBz (aAc OW.o hwa) (K8.o.below hwa K8.o.lt) (by decide) _ e rfl);have d:=k8.cell 0;have fr:=k8.frozen 0;have hl:=k8.lt;simp at d;have HS:=yH (AppI.fin (s1:=s1) (D:=D) ⟨wa,hwa,ho,hgr⟩ hP);refine yO rfl ?_;clear hI hP hC hW hD hwa ho hgr;go_wp2_with fail;have h9:=HS.o;simp only[List.length_append,List.length_cons,List.length_nil,Nat.zero_add]at h9;exact h9
   intro s D w9 hall hI9;obtain⟨s1,s2⟩:=s;obtain⟨wb,⟨wa,hwa,ho,hgr⟩,hw9⟩:=hI9.2.2 (hall 10 (by decide));simp only at hw9 ho;obtain⟨m1,k1,f1⟩:=(M5.o.grow hwa).app (K8.o.below hwa K8.o.lt) (aAc OW.o hwa) ho hgr;rw[←hw9]at m1 k1 f1;have M9:=yH m1;have F9:=yH ((F5.o.trans (aDo (B:=0) hwa)).trans f1)
   have K9:=yH ((K5.o.below hwa K5.o.lt).keep k1 (by
    rintro(e|e)
    ·exact aBz (aAc OW.o hwa) (K5.o.below hwa K5.o.lt) (by decide) _ e rfl
    exact aCs K5.o K8.o (by decide) e))
   clear hI9 hall hwa ho hgr hw9 m1 k1 f1 M5 F5 K5 K8 OW EU EV e1 i1 i2
   gi_wp2_with fail
   go_roundw
   case rel=>exact⟨j+1,by omega,by go_num,by rw[HF2.o,FX.o];exact M9.o,K9.o,F9.o⟩
   case measure=>simp[intOf];omega
  obtain rfl:j=m:=by omega
  have qj:decide ((j:Int)<(j:Int))=false:=by simp
  have KB:=yH MM.o.got;have d9:=KB.o.cell 0;have f9:=KB.o.frozen 0;simp at d9;have hG0:0≤G:=by have:=GG.o;omega
  have hGn:G+n≤9223372036854775807:=by omega
  clear hNm
  gi_wp2_with fail
  obtain⟨m1,k1⟩:=MM.o.setGot (G+n);exact⟨KeepsFrom.up (KF.o.trans k1) (Nat.zero_le _),(k+1,⟨aC4 σ.f x n j,σ.left - n,σ.out++flX x n j⟩),rfl,SN.o,by rw[←NB.o.2];exact m1⟩
 have hGl:=GG.o;have q0:decide (want≤G)=true:=by simp;omega
 subst hway
 gi_wp2_with fail
 exact⟨KeepsFrom.refl _ _,rfl,(k,σ),⟨SI.o,by rw[GG.o];exact MM.o⟩,.inl (by show σ.left≤0;omega)⟩
end Go.Proofs.YtngnfdnfpiiclaaGreat
namespace Go.Proofs.YtngnfdnfpiiclaaGreat
open Go.RowKit
attribute [local go_sem] Oper.semAt_some
theorem aIj{w:World}{p:Option Addr}{f:Int→Int→Int}{s t want:Int}(hv:IsM w (.pointer p) f)(hI:GInv f 4398046511104)(hs:In8 s)(ht:In8 t)(hw:In64 want):
  Calls Tryz.prog 192 #[.pointer p,.int .u8 s,.int .u8 t,.int .i64 want] w (aJr f s t want 209 w):=by
 have HI:=yH hI;have HS:=yH hs;have HT:=yH ht;have HW:=yH hw;have B0:=yH ((((Below.refl w.heap.size w).alloc yL (.cells #[.int .i64 want] 2)).alloc (by simp) (.cells #[.slice none 0 0] 203)).alloc (by simp;omega) (.cells #[.int .i64 0] 2));have CC:=yH (gcopyM (hv.below B0.o));clear hv hI hs ht hw;refine(callsIn_wide (n:=0)).1 ?_;refine callsIn_of_wp_marks Tryz.func192 rfl trivial ?_ rfl;refine wpIn_wide.2 ?_;simp only[Tryz.ntmps192,List.size_toArray,List.length_cons,List.length_nil,Nat.reduceAdd,Nat.reduceSub,Array.replicate_succ,Array.replicate_zero,List.push_toArray,List.append_toArray,List.nil_append,List.cons_append];go_wp2_with fail;refine CC.o.mono ?_;rintro e w1 ⟨q,rfl,hq,hf,hb⟩;go_wp2_with fail;refine(ways_any _ _ _ _).mono ?_;rintro e w4 ⟨rfl,rfl⟩;have F1:=yH hf;have SG:=yH (RInv.start HI.o s t want);have B1:=yT B0 hb
 have hsz:w.heap.size+1+1+1≤w1.heap.size:=by
  have:=hb.size;simpa using this
 have K0:=yH (((Blk.new w #[.int .i64 want] 2).alloc (.cells #[.slice none 0 0] 203)).alloc (.cells #[.int .i64 0] 2));have K1:=yH ((Blk.new (w.alloc (.cells #[.int .i64 want] 2)) #[.slice none 0 0] 203).alloc (.cells #[.int .i64 0] 2));have K2:=yH (Blk.new ((w.alloc (.cells #[.int .i64 want] 2)).alloc (.cells #[.slice none 0 0] 203)) #[.int .i64 0] 2);simp only[World.size_alloc]at K1 K2
 have M4:RtI w q f want s t w1.heap.size (0,⟨f,want,[]⟩) ((((w1.alloc (.cells #[.pointer q] 285)).alloc (.cells #[.pointer q] 285)).alloc (.cells #[.int .u8 s] 68)).alloc (.cells #[.int .u8 t] 68)):=by
  have q1:=(Blk.new w1 #[.pointer q] 285)
  have b4:Below w1.heap.size w1 ((((w1.alloc (.cells #[.pointer q] 285)).alloc (.cells #[.pointer q] 285)).alloc (.cells #[.int .u8 s] 68)).alloc (.cells #[.int .u8 t] 68)):=
   ((((Below.refl _ w1).alloc yL _).alloc (by simp) _).alloc (by simp;omega) _).alloc (by simp;omega) _
  refine⟨SG.o,B1.o.trans (b4.mono (by omega)),hq.below b4,fun a ha=>by have:=F1.o a ha;simp at this;omega,⟨.slice none 0 0,?_,World.ownsRow_nil _ _ _ _⟩,?_,?_,?_,?_,?_,?_⟩
  ·exact(K1.o.below hb K1.o.lt).below b4 (by omega)
  ·exact(K0.o.below hb K0.o.lt).below b4 (by omega)
  ·rw[show want - (⟨f,want,[]⟩:RS).left=0 from Int.sub_self want];exact(K2.o.below hb K2.o.lt).below b4 (by omega)
  ·exact((q1.alloc _).alloc _).alloc _
  ·have:=((Blk.new (w1.alloc (.cells #[.pointer q] 285)) #[.pointer q] 285).alloc (.cells #[.int .u8 s] 68)).alloc (.cells #[.int .u8 t] 68);simpa only[World.size_alloc]using this
  ·have:=(Blk.new ((w1.alloc (.cells #[.pointer q] 285)).alloc (.cells #[.pointer q] 285)) #[.int .u8 s] 68).alloc (.cells #[.int .u8 t] 68);simpa only[World.size_alloc]using this
  have:=Blk.new (((w1.alloc (.cells #[.pointer q] 285)).alloc (.cells #[.pointer q] 285)).alloc (.cells #[.int .u8 s] 68)) #[.int .u8 t] 68;simpa only[World.size_alloc]using this
 have M:=yH M4;clear CC hq hf hb M4;go_wp2_with fail;generalize hX:(((w1.alloc (Obj.cells #[.pointer q] 285)).alloc (Obj.cells #[.pointer q] 285)).alloc (Obj.cells #[.int .u8 s] 68)).alloc (Obj.cells #[.int .u8 t] 68)=X at *
 refine wp_rounds (gf:=259) (lb:=#[.pointer (some ⟨w1.heap.size+1,0,none⟩),.pointer (some ⟨w1.heap.size+1+1,0,none⟩),.pointer (some ⟨w1.heap.size+1+1+1,0,none⟩)]) rfl (enters_of Tryz.func259 (by kernel_rfl) rfl)
  (RtI w q f want s t w1.heap.size) (WayY s t) (RtX w q f want s t w1.heap.size) (fun x=>aAz x.2.f s t=[]) (fun x x'=>x'.1=x.1+1)
  (fun x=>fits_I M.o.2.below.size x) (fun c=>fits_X M.o.2.below.size c) (fun x vs=>fits_Y x vs) (fun x vs W ⟨_,_,_,h,_⟩=>by rw[h];rfl)
  (ways_seq HS.o HT.o (fun x W h=>⟨h.2.gr,h.1,h.2.c3,h.2.c4,h.2.c5⟩)) (0,⟨f,want,[]⟩) M.o
  (fun vs=>{ tmps:=#[Value.pointer p,Value.int IntKind.u8 s,Value.int IntKind.u8 t,Value.int IntKind.i64 want,undef,undef,
     undef,Value.pointer (some { block:=w.heap.size,off:=0 }),
     Value.pointer (some { block:=w.heap.size+1,off:=0 }),
     Value.pointer (some { block:=w.heap.size+1+1,off:=0 }),
     Value.pointer (some { block:=w1.heap.size,off:=0 }),vs.getD 0 undef,undef,undef,undef,Value.pointer p,
     Value.pointer q,Value.pointer q,Value.int IntKind.u8 s,Value.int IntKind.u8 t,
     Value.func (Fn.func 259) #[]
      #[Value.pointer (some { block:=w1.heap.size+1,off:=0 }),
       Value.pointer (some { block:=w1.heap.size+1+1,off:=0 }),
       Value.pointer (some { block:=w1.heap.size+1+1+1,off:=0 })],
     vs.getD 0 undef,undef,undef,undef,undef,undef,undef,undef,undef,undef,undef,undef,undef,undef,undef,
     undef,undef,undef,undef,undef,undef,undef,undef,undef,undef,undef,undef,undef,undef,undef,undef,undef,undef,undef,undef,undef,undef,undef,undef,undef,undef,undef,undef,undef],defers:=[] }) ?assign ?body ?done ?stop
 case assign=>
  rintro m l x vs W K _ ⟨bl,cs,n,rfl,_⟩ hK
  gi_wp2_with fail
  exact hK
 case body=>
  rintro m0 l ⟨k,σ⟩ vs W hM ⟨bl,cs,m,rfl,hbl,hcs,hlen⟩;exact rt_body HW.o hM hbl hcs hlen rfl
 case done=>
  intro D x W hD hS hM hK;have SR:=yH (show aAm f 4398046511104 s t want x.2 from⟨x.1,hM.1,.inr hS⟩);obtain⟨v,k8,ow⟩:=hM.2.row;obtain⟨ao,cap,rfl,_⟩:=aAh ow;have CC:=yH (aLt (aAc ow yZ.drew));have d8:=k8.cell 0;have f8:=k8.frozen 0;have d9:=hM.2.got.cell 0;have f9:=hM.2.got.frozen 0;simp at d8 d9;have hDw:=Nat.le_trans M.o.2.below.size hD;have MM:=yH hM;have K8:=yH k8;have DK:=yH hK;clear hM k8 ow hK hS;go_wp2_with fail
  go_region_with ((refine CC.o.mono ?_;rintro e w5 ⟨v',rfl,hro,hob,rfl⟩;obtain⟨ao',cap',rfl,_⟩:=hro.look;have HRO:=yH hro;clear hro hob))
  all_goals
   obtain⟨W9,h9⟩:∃W9,W9=((W.setCell ⟨w.heap.size+1,0,none⟩ (.slice ao' x.2.out.length cap')).setCell ⟨w.heap.size+1+1,0,none⟩ (.int .i64 (want - x.2.left))).drew:=⟨_,rfl⟩;rw[←h9];obtain⟨e1,e2,e3,e4,e5⟩:=rt_end MM.o.2 DK.o hDw HRO.o h9;have R4:=yH e4;have R5:=yH e5;clear e4 e5 h9;go_wp2_with fail;refine⟨by simp,.inl ⟨_,_,rfl,run_takeDeferred e1,?_⟩⟩;exact⟨_,by simp[results,Tryz.f192,go_sem,e2,e3],x.2,_,rfl,SR.o,R4.o,R5.o⟩
 rintro D c W hD ⟨rfl,x,hM,hd⟩ hK;have SR:=yH (show aAm f 4398046511104 s t want x.2 from⟨x.1,hM.1,hd⟩);obtain⟨v,k8,ow⟩:=hM.2.row;obtain⟨ao,cap,rfl,_⟩:=aAh ow;have CC:=yH (aLt (aAc ow yZ.drew));have d8:=k8.cell 0;have f8:=k8.frozen 0;have d9:=hM.2.got.cell 0;have f9:=hM.2.got.frozen 0;simp at d8 d9;have hDw:=Nat.le_trans M.o.2.below.size hD;have MM:=yH hM;have K8:=yH k8;have DK:=yH hK;clear hM k8 ow hK hd;go_wp2_with fail
 go_region_with ((refine CC.o.mono ?_;rintro e w5 ⟨v',rfl,hro,hob,rfl⟩;obtain⟨ao',cap',rfl,_⟩:=hro.look;have HRO:=yH hro;clear hro hob))
 all_goals
  obtain⟨W9,h9⟩:∃W9,W9=((W.setCell ⟨w.heap.size+1,0,none⟩ (.slice ao' x.2.out.length cap')).setCell ⟨w.heap.size+1+1,0,none⟩ (.int .i64 (want - x.2.left))).drew:=⟨_,rfl⟩;rw[←h9];obtain⟨e1,e2,e3,e4,e5⟩:=rt_end MM.o.2 DK.o hDw HRO.o h9;have R4:=yH e4;have R5:=yH e5;clear e4 e5 h9;go_wp2_with fail;refine⟨by simp,.inl ⟨_,_,rfl,run_takeDeferred e1,?_⟩⟩;exact⟨_,by simp[results,Tryz.f192,go_sem,e2,e3],x.2,_,rfl,SR.o,R4.o,R5.o⟩
theorem routeProg:aD0:=by
 intro w v f s t want hv hI hs ht hw;rcases hv with⟨rfl,rfl⟩|⟨g,rfl,hk⟩
 ·exact aIj (IsM.nil _) hI hs ht hw
 exact aIj (IsM.of hk) hI hs ht hw
end Go.Proofs.YtngnfdnfpiiclaaGreat
