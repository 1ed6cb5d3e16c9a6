/- Pieces of one proof. -/
import Derived.Test.YtaeocliklpcgmaaGreatB04
import Derived.Deep.RegionLaw
import Derived.Maps.AppendAt
import Derived.StillTailTactics
import Derived.Deep.Slices
import Derived.Deep.Fields
import Derived.ChangeSame
import Derived.OpenShut
import Derived.Lib.SmallJoins
set_option linter.all false
set_option maxHeartbeats 64000000
set_option maxRecDepth 100000
namespace Go.Proofs.YtaeocliklpcgmaaGreat
open Go.RowKit
structure RefL(w:World)(base g:Nat)(ps:List Int)(ls:List Ln)(vp vl:Value):Prop where
 blk:Blk w g #[vp,vl] 157
 ge:base≤g
 p:w.ownsRow base 43 1 vp ps.length (ps.map (.int .u8))
 l:w.ownsRow base 115 5 vl ls.length (aAt ls)
theorem aL4:(Tryz.prog.info? 115).map (fun i=>(i.zero,i.size,i.bytes))=some (some noLn.val,5,24):=by kernel_rfl
theorem aGk(w:World){ops:Array Oper}{rest:List Oper}{o:Oper}{a:Act}{Q:Exit→Act→World→Prop}(hgd:o.guard=none)(s x:Operand)
  (ho:o.op=.call { callee:=.builtin .append,args:=#[s,x],argTypes:=#[68,68] })(base:Nat)(v:Value)(ls:List Ln)(hs:a.eval s=v)
  (hown:w.ownsRow base 115 5 v ls.length (aAt ls))(g c:Nat)(y:Ln)(hx:a.eval x=.slice (some ⟨g,0,none⟩) 1 c)(hy:Blk w g #[.int .u8 y.cr,.int .u8 y.de,.int .u8 y.cu,.int .i64 y.li,.int .i64 y.db] 115)(hlen:ls.length≤100000)(hbase:base≤w.heap.size)
  (h:∀v' w',w'.ownsRow base 115 5 v' (ls++[y]).length (aAt (ls++[y]))→w.grownBy w' v.ownBlock→wpList Tryz.prog ops Q rest (a.put o.dst v') w'):wpList Tryz.prog ops Q (o::rest) a w:=by
 obtain⟨i0,hi,hz0,hz1,hz2⟩:=info_parts aL4;refine wpList_append_own w hgd s x 68 ho base 115 i0 noLn.val 5 24 Tryz.underlying68 hi hz0 hz1 hz2 rfl (by decide) v ls.length (aAt ls) hs hown ⟨g,0,none⟩ 1 c y.vals hx rfl ?_ ?_ (by unfold maxLen;omega) (by omega) hbase ?_
 ·intro j u hj;have:=hy.cell j;rw[Go.WideShapes.add_plain]
  match j,hj with
  | 0,hj=>simp[Ln.vals]at hj;subst hj;simpa using this
  | 1,hj=>simp[Ln.vals]at hj;subst hj;simpa using this
  | 2,hj=>simp[Ln.vals]at hj;subst hj;simpa using this
  | 3,hj=>simp[Ln.vals]at hj;subst hj;simpa using this
  | 4,hj=>simp[Ln.vals]at hj;subst hj;simpa using this
  | j+5,hj=>simp[Ln.vals]at hj
 ·intro u hu;simp[Ln.vals]at hu;rcases hu with rfl|rfl|rfl|rfl|rfl <;> rfl
 intro v' w' h1 h2 _;refine h v' w' ?_ h2;rw[aJn,aNd,List.length_append];exact h1
def aHk(ps:List Int)(p:Int)(k:Nat):List Int:=((List.range (k - 1)).map fun i:Nat=>(i:Int)+1).filter fun q=>q==p || decide (q∈ps)
def aJo(ps:List Int)(p:Int):Int:=if p<1∨16<p then 1 else if p∈ps then 8 else 0
def aE2(ps:List Int)(p:Int):List Int:=if p<1∨16<p then ps else if p∈ps then ps else aHk ps p 17
theorem aJ1:(Tryz.prog.info? 43).map (fun i=>(i.zero,i.size,i.bytes))=some (some (.int .u8 0),1,1):=by kernel_rfl
theorem aF0(w:World){ops:Array Oper}{rest:List Oper}{o:Oper}{a:Act}{Q:Exit→Act→World→Prop}(hgd:o.guard=none)(s x:Operand)
  (ho:o.op=.call { callee:=.builtin .append,args:=#[s,x],argTypes:=#[155,155] })(base:Nat)(v:Value)(ps:List Int)(hs:a.eval s=v)
  (hown:w.ownsRow base 43 1 v ps.length (ps.map (.int .u8)))(g c:Nat)(y:Int)(hx:a.eval x=.slice (some ⟨g,0,none⟩) 1 c)(hy:Blk w g #[.int .u8 y] 43)(hlen:ps.length≤100000)(hbase:base≤w.heap.size)
  (h:∀v' w',w'.ownsRow base 43 1 v' (ps++[y]).length ((ps++[y]).map (.int .u8))→w.grownBy w' v.ownBlock→wpList Tryz.prog ops Q rest (a.put o.dst v') w'):wpList Tryz.prog ops Q (o::rest) a w:=by
 obtain⟨i0,hi,hz0,hz1,hz2⟩:=info_parts aJ1;refine wpList_append_own w hgd s x 155 ho base 43 i0 (.int .u8 0) 1 1 Tryz.underlying155 hi hz0 hz1 hz2 rfl (by decide) v ps.length (ps.map (.int .u8)) hs hown ⟨g,0,none⟩ 1 c [.int .u8 y] hx rfl ?_ ?_ (by unfold maxLen;omega) (by omega) hbase ?_
 ·intro j u hj;have:=hy.cell j;rw[Go.WideShapes.add_plain]
  match j,hj with
  | 0,hj=>simp at hj;subst hj;simpa using this
  | j+1,hj=>simp at hj
 ·intro u hu;simp at hu;subst hu;rfl
 intro v' w' h1 h2 _;refine h v' w' ?_ h2;rw[List.map_append,List.length_append];exact h1
theorem aL5{w:World}{base:Nat}{v:Value}{n:Nat}{xs:List Value}(h:w.ownsRow base 220 3 v n xs):
  Calls Tryz.prog 213 #[v] w (aGf w base 220 3 n v xs):=by
 rcases h.2 with⟨rfl,h0⟩|⟨g,cap,cur,rfl,hbase,hb,h1,h2,h3,h4⟩
 ·subst h0;have hr:=aBa (P:=Tryz.prog) w 214 220 3 Tryz.underlying214 (Tryz.sizeOf220 w);have hx:=h.1;have hx2:=yH hx;clear h hx;go_enter Tryz.func213,Tryz.ntmps213;go_wp2;refine bodyPost_ret (v:=.slice none 0 0) (by simp[results,Tryz.results213,go_sem]) rfl ?_;exact⟨_,rfl,⟨hx2.out,.inl ⟨rfl,rfl⟩⟩,rfl,rfl⟩
 have hr:=aB6 (P:=Tryz.prog) w 214 220 3 Tryz.underlying214 (Tryz.sizeOf220 w) g n cap h1;have HR:=yH (show aBu w base 220 3 (.slice (some ⟨g,0,none⟩) n n) n xs from⟨h.1,.inr ⟨g,cur,rfl,hbase,hb,by omega,by omega,h4⟩⟩);clear h hb h4 h3;unfold maxLen at h2;go_enter Tryz.func213,Tryz.ntmps213;go_wp2;refine bodyPost_ret (v:=.slice (some ⟨g,0,none⟩) n n) (by simp[results,Tryz.results213,go_sem]) rfl ?_;exact⟨_,rfl,HR.out,rfl,rfl⟩
theorem Blk.capSetN{w:World}{g:Nat}{f:Int→Int→Int}{b:Bool}{t:TypeId}(h:Blk w g (graC f b) t){p q:Nat}(hp:p<17)(hq:q<17)(n:Int):
  Blk (w.setCell ⟨g,p*17+q,none⟩ (.int .i64 n)) g (graC (updE f p q n) b) t:=by
 have:=h.set (p*17+q) (.int .i64 n);rw[graC_set f b hp hq]at this;exact this
theorem Blk.capN{w:World}{g:Nat}{f:Int→Int→Int}{b:Bool}{t:TypeId}(h:Blk w g (graC f b) t){p q:Nat}(hp:p<17)(hq:q<17):w.cell? ⟨g,p*17+q,none⟩=some (.int .i64 (f p q)):=by
 rw[h.cell,graC_at f b hp hq]
def aJp(rf:Int→Int→Int)(m:Nat)(a b:Int):Int:=if a*17+b<m then rf a b else 0
theorem partF_zero(rf:Int→Int→Int):graC (aJp rf 0) true=graC aFs true:=aGz true fun p q hp hq=>by unfold aJp aFs;rw[if_neg (by omega)]
theorem partF_next(rf:Int→Int→Int){p q:Nat}(hp:p<17)(hq:q<17):graC (updE (aJp rf (p*17+q)) p q (rf p q)) true=graC (aJp rf (p*17+(q+1))) true:=aGz true fun a b ha hb=>by
 unfold updE aJp
 by_cases h:(a:Int)=p∧(b:Int)=q
 ·rw[if_pos h,if_pos (by omega),h.1,h.2]
 rw[if_neg h]
 by_cases h2:(a:Int)*17+b<((p*17+q:Nat):Int)
 ·rw[if_pos h2,if_pos (by omega)]
 rw[if_neg h2,if_neg (by omega)]
theorem partF_all(rf:Int→Int→Int):graC (aJp rf (17*17)) true=graC rf true:=aGz true fun p q hp hq=>by unfold aJp;rw[if_pos (by omega)]
def GOfAt(w:World)(rf:Int→Int→Int)(i:Value)(wr:World):Prop:=
 ∃p:Nat,p≤17∧i=.int .i64 p∧Blk wr w.heap.size (graC (aJp rf (p*17)) true) 268∧Below w.heap.size w wr
def GOfIn(w:World)(rf:Int→Int→Int)(p:Nat)(i:Value)(wr:World):Prop:=
 ∃q:Nat,q≤17∧i=.int .i64 q∧Blk wr w.heap.size (graC (aJp rf (p*17+q)) true) 268∧Below w.heap.size w wr
theorem gof_any{w:World}{lv:Value}{c:Int}{rf:Int→Int→Int}
  (hr:∀w',Below w.heap.size w w'→∀p q:Int,In8 p→In8 q→Calls Tryz.prog 143 #[lv,.int .u8 p,.int .u8 q,.int .u8 c] w' fun e w''=>e=.returned (.int .i64 (rf p q))∧Below w'.heap.size w' w''):
  Calls Tryz.prog 184 #[lv,.int .u8 c] w fun e w'=>e=.returned (.pointer (some ⟨w.heap.size,0,none⟩))∧Blk w' w.heap.size (graC rf true) 268∧Below w.heap.size w w':=by
 have HR:=yH hr;clear hr;have B0:=yH ((Below.refl w.heap.size w).alloc yL (.cells (graC aFs true) 268));have K0:=pAA w (graC aFs true) 268
 have K0':=yH (show Blk (w.alloc (.cells (graC aFs true) 268)) w.heap.size (graC (aJp rf (0*17)) true) 268 from by
  rw[show 0*17=0 from rfl,partF_zero];exact K0)
 clear K0;go_enter Tryz.func184,Tryz.ntmps184;go_wp2_with ((with_reducible refine aDo ?_ 268 #[(1,.const (.bool true))] ?_ #[(1,.bool true)] ?_ (graC aFs true) (build_gra0 _) ?_);exact rfl;exact rfl;simp[Act.eval,Act.put])
 go_loopw [10] (GOfAt w rf) (fun i _=>17 - (intOf i).toNat)
 case atStart=>exact⟨0,by omega,rfl,K0'.out,B0.out⟩
 clear K0' B0;obtain⟨p,hp,rfl,hG,hB⟩:=hrel;have G1:=yH hG;have B1:=yH hB;clear hG hB
 by_cases hp2:p<17
 ·have hpi:(p:Int)<17:=by omega
  go_wp2_with fail
  go_loopw [13] (GOfIn w rf p) (fun i _=>17 - (intOf i).toNat)
  case atStart=>exact⟨0,by omega,rfl,G1.out,B1.out⟩
  clear G1 B1;obtain⟨q,hq,rfl,hG,hB⟩:=hrel;have G1:=yH hG;have B1:=yH hB;have hgl:=hG.lt;clear hG hB
  by_cases hq2:q<17
  ·have hqi:(q:Int)<17:=by omega
   have CR:=yH (fun w' (k:Below wr.heap.size wr w')=>HR.out w' (B1.out.trans (k.mono B1.out.size)) p q (by unfold In8;omega) (by unfold In8;omega));have NX:=yH (partF_next rf hp2 hq2);obtain⟨n,hn⟩:∃n,rf p q=n:=⟨_,rfl⟩;rw[hn]at CR NX;clear hn;go_wp2_with fail
   refine aCc (by kernel_rfl) 14 16 [(.pointer (some ⟨w.heap.size,0,none⟩)),(.int .i64 p),(.int .i64 q),lv,(.int .i64 p),(.int .u8 p),(.int .i64 q),(.int .u8 q),(.int .u8 c),(.int .i64 n),(.pointer (some ⟨w.heap.size,0,none⟩)),(.pointer (some ⟨w.heap.size,0,none⟩)),(.pointer (some ⟨w.heap.size,p*17,none⟩)),(.pointer (some ⟨w.heap.size,p*17+q,none⟩))]
    (fun w'=>Below wr.heap.size wr w') (by kernel_rfl) rfl (by kernel_rfl) yZ.drew ?_
   intro af haf;simp only[yG,List.append_eq,List.cons_append,List.nil_append,puts,Act.put,yA,yC,yF,yD,yE]at haf;subst haf;refine⟨?_,?_⟩
   ·simp only[yG,List.take_succ_cons,List.take_zero,aBp];refine⟨?z1,?z2,?z3,?z4,?z5,?z6,?z7,?z8,?z9,?_,?z10,?z11,?z12,?z13,trivial⟩
    case z1|z2|z3|z4|z5|z6|z7|z8|z9=>
     intro w' hS;refine yO rfl ?_;have HS:=yH hS;clear hS;go_wp2_with fail;all_goals first|exact HS|exact⟨rfl,HS⟩|rfl|exact⟨by omega,HS.out⟩
    case z10|z11|z12|z13=>
     intro w' hS;refine yO rfl ?_;have kg:=G1.out.below hS G1.out.lt;have hl:=kg.lt;have HS:=yH hS;clear hS;go_wp2_with fail;all_goals first|exact HS|exact⟨rfl,HS⟩|rfl|exact⟨by omega,HS.out⟩
    intro w' hS;refine yO rfl ?_;have HS:=yH hS;clear hS;go_wp2_with fail;refine(CR.out w' HS.out).mono ?_;rintro e w'' ⟨rfl,hb2⟩;exact⟨rfl,andB HS.out hb2⟩
   simp only[yC,yA,yG];intro w' hS;refine yO rfl ?_;have kb:=yH ((G1.out.below hS G1.out.lt).capSetN hp2 hq2 n);have dm:=(G1.out.below hS G1.out.lt).capN hp2 hq2;have fr:=(G1.out.below hS G1.out.lt).frozen (p*17+q);have k4:=yH (((B1.out.trans (hS.mono B1.out.size)).setCell (p:=⟨w.heap.size,p*17+q,none⟩) (by simp) (.int .i64 n)));clear hS;go_wp2_with fail;generalize w'.setCell ⟨w.heap.size,p*17+q,none⟩ (.int .i64 n)=w4 at *;go_roundw
   case rel=>exact⟨q+1,by omega,by go_num,by rw[←NX.out];exact kb.out,k4.out⟩
   case measure=>simp[intOf];omega
  have hq17:q=17:=by omega
  subst hq17;go_wp2_with fail;go_roundw
  case rel=>exact⟨p+1,by omega,by go_num,by rw[show(p+1)*17=p*17+17 by omega];exact G1.out,B1.out⟩
  case measure=>simp[intOf];omega
 have hp17:p=17:=by omega
 subst hp17;rw[partF_all]at G1;go_wp2_with fail;go_ret;exact⟨rfl,G1.out,B1.out⟩
theorem rowA_set(v:Int→Int→Value)(p:Int){i:Nat}(hi:i<17)(u:Value):(rowA v p).setIfInBounds i u=rowA (fun a q=>if q=(i:Int)then u else v a q) p:=by
 apply Array.ext_getElem?;intro j
 by_cases hj:j<17
 ·rw[aFn _ p hj]
  by_cases h:i=j
  ·subst h;rw[Array.getElem?_setIfInBounds_self_of_lt (by rw[aDp];exact hj),if_pos rfl]
  rw[Array.getElem?_setIfInBounds_ne h,aFn v p hj,if_neg (by omega)]
 rw[Array.getElem?_eq_none (by simp[aDp];omega),Array.getElem?_eq_none (by rw[aDp];omega)]
theorem aJ2{v u:Int→Int→Value}{p p':Int}(h:∀i:Nat,i<17→v p i=u p' i):rowA v p=rowA u p':=by
 apply Array.ext_getElem?;intro j
 by_cases hj:j<17
 ·rw[aFn v p hj,aFn u p' hj,h j hj]
 rw[Array.getElem?_eq_none (by rw[aDp];omega),Array.getElem?_eq_none (by rw[aDp];omega)]
def inA(b:Int→Bool):Array Value:=rowA (fun _ q=>.bool (b q)) 0
theorem aGl(b:Int→Bool):(inA b).size=17:=aDp _ _
theorem aNn(b:Int→Bool){i:Nat}(h:i<17):(inA b)[i]? = some (.bool (b i)):=aFn _ _ h
theorem inA_set(b:Int→Bool){i:Nat}(hi:i<17)(u:Bool):(inA b).setIfInBounds i (.bool u)=inA fun q=>if q=(i:Int)then u else b q:=by
 unfold inA;rw[rowA_set _ _ hi];refine aJ2 fun j hj=>?_
 dsimp only;split <;> rfl
theorem inA_one(b:Int→Bool):(inA b).all (·.oneCell')=true:=by
 rw[Array.all_eq_true];intro i hi;have h17:i<17:=by rw[aGl]at hi;exact hi
 have:=aNn b h17;rw[Array.getElem?_eq_getElem hi]at this;simp only[Option.some.injEq]at this;rw[this];rfl
theorem Blk.inAt{w:World}{g:Nat}{b:Int→Bool}{t:TypeId}(h:Blk w g (inA b) t){p:Int}(h0:0≤p)(h1:p<17):w.cell? ⟨g,p.toNat,none⟩=some (.bool (b p)):=by
 rw[h.cell,aNn b (by omega),Int.toNat_of_nonneg h0]
theorem Blk.inSet{w:World}{g:Nat}{b:Int→Bool}{t:TypeId}(h:Blk w g (inA b) t){p:Int}(h0:0≤p)(h1:p<17)(u:Bool):Blk (w.setCell ⟨g,p.toNat,none⟩ (.bool u)) g (inA fun q=>if q=p then u else b q) t:=by
 have:=h.set p.toNat (.bool u);rw[inA_set b (by omega),Int.toNat_of_nonneg h0]at this;exact this
attribute [irreducible] inA
theorem aBu.look{w:World}{base:Nat}{e:TypeId}{size:Nat}{v:Value}{n:Nat}{xs:List Value}(h:aBu w base e size v n xs):
  ∃(ao:Option Addr) (cap:Nat),v=.slice ao n cap∧n≤cap∧cap≤maxLen∧xs.length=n*size∧(0<n→∃b,ao=some ⟨b,0,none⟩∧base≤b∧b<w.heap.size∧(∀j,j<n*size→w.cell? ⟨b,j,none⟩=xs[j]?)∧∀j,w.frozen? ⟨b,j,none⟩=false):=by
 obtain⟨h1,h2⟩:=h;rcases h2 with⟨rfl,rfl⟩|⟨g,cur,rfl,hb,hg,hm,hc,ht⟩
 ·exact⟨none,0,rfl,Nat.le_refl _,by decide,h1,fun h=>absurd h (by omega)⟩
 have hB:Blk w g cur e:=hg;refine⟨some ⟨g,0,none⟩,n,rfl,Nat.le_refl _,hm,h1,fun _=>⟨g,rfl,hb,lt_of_block hg,fun j hj=>?_,fun j=>hB.frozen j⟩⟩;rw[hB.cell,←ht,List.getElem?_take_of_lt hj,Array.getElem?_toList]
def aNo(e:TypeId)(L:List Int)(w:World)(en:Ending)(w':World):Prop:=
 ∃v,en=.returned v∧aBu w' w.heap.size e 1 v L.length (L.map (.int .u8))∧Below w.heap.size w w'
def RowA(w:World)(base:Nat)(e:TypeId)(size:Nat)(v:Value)(n:Nat)(xs:List Value):Prop:=
 xs.length=n*size∧((v=.slice none 0 0∧n=0)∨∃g cap cur,v=.slice (some ⟨g,0,none⟩) n cap∧base≤g∧w.heap[g]? = some (.cells cur e (0,0))∧n≤cap∧cap≤maxLen∧cap*size≤cur.size∧cur.toList.take (n*size)=xs)
theorem pAF{w:World}{base:Nat}{e:TypeId}{size:Nat}{v:Value}{n:Nat}{xs:List Value}(h:aBu w base e size v n xs):RowA w base e size v n xs:=by
 obtain⟨h1,h2⟩:=h;refine⟨h1,?_⟩;rcases h2 with h2|⟨g,cur,hv,hb,hg,c1,c2,c3⟩
 ·exact .inl h2
 exact .inr ⟨g,n,cur,hv,hb,hg,Nat.le_refl _,c1,c2,c3⟩
section
variable{w w':World}{base:Nat}{e:TypeId}{size:Nat}{v:Value}{n:Nat}{xs:List Value}
theorem RowA.keep{S:Nat→Prop}(h:RowA w base e size v n xs)(k:Keep S w w')(hs:∀b,v.ownBlock=some b→¬S b):RowA w' base e size v n xs:=by
 obtain⟨h1,h2⟩:=h;refine⟨h1,?_⟩;rcases h2 with h2|⟨g,cap,cur,rfl,hb,hg,hr⟩
 ·exact .inl h2
 refine .inr ⟨g,cap,cur,rfl,hb,?_,hr⟩;rw[k.block g (lt_of_block hg) (hs g rfl)];exact hg
theorem RowA.below(h:RowA w base e size v n xs)(k:Below w.heap.size w w'):RowA w' base e size v n xs:=
 h.keep (pAE (S:=fun _=>False) k) (fun _ _=>id)
theorem RowA.type(h:RowA w base e size v n xs){b:Nat}(hb:v.ownBlock=some b):base≤b∧b<w.heap.size∧∃cur,w.heap[b]? = some (.cells cur e (0,0)):=by
 obtain⟨_,h2⟩:=h;rcases h2 with⟨rfl,_⟩|⟨g,cap,cur,rfl,hge,hg,_⟩
 ·cases hb
 cases hb;exact⟨hge,lt_of_block hg,cur,hg⟩
theorem RowA.look(h:RowA w base e size v n xs)(h2:1≤size):
  ∃(ao:Option Addr) (cap:Nat),v=.slice ao n cap∧n≤cap∧cap≤maxLen∧xs.length=n*size∧(0<n→∃b,ao=some ⟨b,0,none⟩∧base≤b∧b<w.heap.size∧(∀j,j<n*size→w.cell? ⟨b,j,none⟩=xs[j]?)∧∀j,w.frozen? ⟨b,j,none⟩=false):=by
 obtain⟨h1,h2⟩:=h;rcases h2 with⟨rfl,rfl⟩|⟨g,cap,cur,rfl,hb,hg,c1,c2,c3,c4⟩
 ·exact⟨none,0,rfl,Nat.le_refl _,by decide,h1,fun h=>absurd h (by omega)⟩
 have hB:Blk w g cur e:=hg;refine⟨some ⟨g,0,none⟩,cap,rfl,c1,c2,h1,fun _=>⟨g,rfl,hb,lt_of_block hg,fun j hj=>?_,fun j=>hB.frozen j⟩⟩;rw[hB.cell,←c4,List.getElem?_take_of_lt hj,Array.getElem?_toList]
end
theorem aIx(f:Int→Int→Int)(x:Nat→Int)(n:Int)(i:Nat):capX f x n (i+1)=min (capX f x n i) (f (x i) (x (i+1))):=rfl
theorem RefG.drewN{w:World}{base g k:Nat}{es:List Fw}{vl:Value}(h:RefG w base g es vl):RefG (w.drewN k) base g es vl:=⟨h.blk,h.ge,h.row⟩
theorem aCm{w:World}{g h:Nat}{cs ds:Array Value}{t u:TypeId}(a:Blk w g cs t)(b:Blk w h ds u)(hn:t≠u):g≠h:=by
 rintro rfl;have e:=a.out;rw[b.out]at e;simp only[Option.some.injEq,Obj.cells.injEq]at e;exact hn e.2.1.symm
def MostPost(f:Int→Int→Int)(s t:Int)(w:World)(en:Ending)(w':World):Prop:=
 ∃μ:RS,en=.returned (.int .i64 (aBd - μ.left))∧aAc f 4398046511104 s t aBd μ∧Below w.heap.size w w'
end Go.Proofs.YtaeocliklpcgmaaGreat
namespace Go.Proofs.YtaeocliklpcgmaaGreat
open Go.RowKit Go.ChangeShapes Go.WideShapes Go.Deep
section
variable{H:Type}{enc:TypeId×Value→H}{P:Program}{w:World}{base:Nat}{spare:Nat→Bool}{held:Bool}
theorem nums_read{t:TypeId}{fs:Array Field}{ks:List IntKind}(hu:P.underlying t=some (.struct fs))(hone:oneCellFields P fs=true)(hC:P.cellsOf t=ks.length)
  (hk:∀(j:Nat) (k:IntKind),ks[j]? = some k→∃f,fs[j]? = some f∧P.underlying f.type=some (.int k)){fuel:Nat}{cs:List Value}{x:DataW H×List MemPlace}(h:DataW.trod enc P w base spare held fuel t cs=some x):
  cs.length=ks.length∧∀(j:Nat) (k:IntKind),ks[j]? = some k→∃n,cs[j]? = some (.int k n)∧(Lit.int k n).wf=true:=by
 obtain⟨xs,n,_,_,hlen,hxl,hf⟩:=DataW.trod_struct hu h;rw[hC]at hlen;refine⟨hlen,fun j k hj=>?_⟩;have hjl:j<ks.length:=(List.getElem?_eq_some_iff.1 hj).1;obtain⟨f,hfj,hfk⟩:=hk j k hj;obtain⟨ho,hc⟩:=hone_of hone j f hfj;have h1:=hf j f hfj
 have hone':(cs.drop j).take 1=[cs[j]'(by omega)]:=by
  rw[List.drop_eq_getElem_cons (by omega)];rfl
 rw[ho,hc,hone']at h1;have hjf:j<fs.size:=(Array.getElem?_eq_some_iff.1 hfj).1;have h2:xs[j]? = some (xs[j]'(by omega)):=List.getElem?_eq_getElem (by omega);rw[h2]at h1;obtain⟨m,hm,_,hw⟩:=DataW.trod_int hfk h1;refine⟨m,?_,hw⟩;rw[List.getElem?_eq_getElem (by omega)];simpa using hm
end
structure Ac where
 k:Int
 a:Int
 b:Int
 c:Int
 n:Int
def Ac.vals(x:Ac):List Value:=[.int .u8 x.k,.int .u8 x.a,.int .u8 x.b,.int .u8 x.c,.int .i64 x.n]
structure Ac.Ok(x:Ac):Prop where
 k:In8 x.k
 a:In8 x.a
 b:In8 x.b
 c:In8 x.c
 n:In64 x.n
theorem In8.of_wf{n:Int}(h:(Lit.int .u8 n).wf=true):In8 n:=by
 simp[Lit.wf,IntKind.min,IntKind.max,IntKind.signed,IntKind.bits]at h;exact⟨by omega,by omega⟩
theorem ac_of{cs:List Value}(h1:cs.length=5)(h:∀(j:Nat) (k:IntKind),([.u8,.u8,.u8,.u8,.i64]:List IntKind)[j]? = some k→∃n,cs[j]? = some (.int k n)∧(Lit.int k n).wf=true):∃x:Ac,x.Ok∧cs=x.vals:=by
 obtain⟨n0,e0,w0⟩:=h 0 _ rfl;obtain⟨n1,e1,w1⟩:=h 1 _ rfl;obtain⟨n2,e2,w2⟩:=h 2 _ rfl;obtain⟨n3,e3,w3⟩:=h 3 _ rfl;obtain⟨n4,e4,w4⟩:=h 4 _ rfl
 match cs,h1 with
 | [c0,c1,c2,c3,c4],_=>
  simp at e0 e1 e2 e3 e4;subst e0 e1 e2 e3 e4;exact⟨⟨n0,n1,n2,n3,n4⟩,⟨In8.of_wf w0,In8.of_wf w1,In8.of_wf w2,In8.of_wf w3,In64.of_wf w4⟩,rfl⟩
theorem act_kinds:∃fs,Tryz.prog.underlying 99=some (.struct fs)∧oneCellFields Tryz.prog fs=true∧∀(j:Nat) (k:IntKind),([.u8,.u8,.u8,.u8,.i64]:List IntKind)[j]? = some k→∃f,fs[j]? = some f∧Tryz.prog.underlying f.type=some (.int k):=by
 refine⟨_,Tryz.underlying99,by kernel_rfl,?_⟩;intro j k hj
 match j,hj with
 | 0,hj=>cases hj;exact⟨_,rfl,Tryz.underlying5⟩
 | 1,hj=>cases hj;exact⟨_,rfl,Tryz.underlying43⟩
 | 2,hj=>cases hj;exact⟨_,rfl,Tryz.underlying43⟩
 | 3,hj=>cases hj;exact⟨_,rfl,Tryz.underlying44⟩
 | 4,hj=>cases hj;exact⟨_,rfl,Tryz.underlying2⟩
 | j+5,hj=>simp at hj
section
variable{H:Type}{enc:TypeId×Value→H}{w:World}{base:Nat}{spare:Nat→Bool}{held:Bool}
theorem act_read{fuel:Nat}{cs:List Value}{x:DataW H×List MemPlace}(h:DataW.trod enc Tryz.prog w base spare held fuel 99 cs=some x):∃x:Ac,x.Ok∧cs=x.vals:=by
 obtain⟨fs,hu,ho,hk⟩:=act_kinds;have hC:Tryz.prog.cellsOf 99=5:=by kernel_rfl
 generalize Tryz.prog=P at *;obtain⟨h1,h2⟩:=nums_read (ks:=[.u8,.u8,.u8,.u8,.i64]) hu ho hC hk h;exact ac_of h1 h2
def aGm(w:World)(a:Option Addr)(len cap:Nat)(xs:List Ac):Prop:=
 xs.length=len∧(∀x∈xs,x.Ok)∧len≤cap∧cap≤maxLen∧(0<len→∃b off,a=some ⟨b,off,none⟩∧b<w.heap.size∧∀i (h:i<xs.length) (j:Nat) (v:Value),xs[i].vals[j]? = some v→w.cell? ⟨b,off+i*5+j,none⟩=some v)
theorem acts_open{a:Option Addr}{len cap:Nat}{d:DataW H}{p:List MemPlace}(h:DataW.Trod enc Tryz.prog w base spare held 22 (.slice a len cap) d p):∃xs,aGm w a len cap xs:=by
 obtain⟨fuel,hf⟩:=h;rcases open_slice Tryz.underlying22 hf with⟨h0,_⟩|⟨ad,l,c,m,n,D,Pl,hcs,hb,hl,hm,hmm,hx,hi⟩
 ·simp[Value.cells]at h0;obtain⟨rfl,rfl,rfl⟩:=h0;exact⟨[],rfl,by simp,Nat.le_refl _,by unfold maxLen;omega,fun h=>by omega⟩
 simp[Value.cells]at hcs;obtain⟨rfl,rfl,rfl⟩:=hcs;have hC:Tryz.prog.cellsOf 99=5:=by kernel_rfl
 have hlm:len≤m:=by rw[hmm];split <;> omega
 have key:∀i,i<len→∃x:Ac,x.Ok∧∀(j:Nat) (v:Value),x.vals[j]? = some v→w.cell? ((ad.add (i*5)).add j)=some v:=by
  intro i hil;obtain⟨cs',hc,ht⟩:=hi i (by omega);rw[hC]at hc;obtain⟨x,hx,rfl⟩:=act_read ht;obtain⟨_,_,hat⟩:=World.cells?_some hc;refine⟨x,hx,fun j v hj=>?_⟩
  have hj5:j<5:=by
   have:=(List.getElem?_eq_some_iff.1 hj).1;exact this
  rw[hat j hj5,hj]
 have hex:∀k,k≤len→∃xs:List Ac,xs.length=k∧(∀x∈xs,x.Ok)∧∀i (h:i<xs.length) (j:Nat) (v:Value),xs[i].vals[j]? = some v→w.cell? ((ad.add (i*5)).add j)=some v:=by
  intro k
  induction k with
  | zero=>intro _;exact⟨[],rfl,by simp,fun i h=>by simp at h⟩
  | succ k ih=>
   intro hk;obtain⟨xs,h1,h2,h3⟩:=ih (by omega);obtain⟨x,hx,hxc⟩:=key k (by omega);refine⟨xs++[x],by simp[h1],?_,?_⟩
   ·intro y hy;rcases List.mem_append.1 hy with hy|hy
    ·exact h2 y hy
    rw[List.mem_singleton]at hy;rw[hy];exact hx
   intro i hi j v hv
   by_cases hik:i<xs.length
   ·rw[List.getElem_append_left hik]at hv;exact h3 i hik j v hv
   have:i=k:=by rw[List.length_append,List.length_singleton]at hi;omega
   subst this;rw[List.getElem_append_right (by omega)]at hv;simp[h1]at hv;exact hxc j v hv
 obtain⟨xs,h1,h2,h3⟩:=hex len yL;refine⟨xs,h1,h2,hl,hm,fun hp=>?_⟩;have h00:=h3 0 (by omega) 0 _ rfl
 have hsp:ad.spot=none:=by
  rcases hs:ad.spot with _|s
  ·rfl
  exfalso;rw[Go.Deep.add_add]at h00;have e:(ad.add (0*5+0)).spot=ad.spot:=by cases ad;simp[Addr.add]
  unfold World.cell? at h00;rw[e,hs]at h00;split at h00
  ·simp at h00
  cases h00
 obtain⟨b,off,sp⟩:=ad;simp only at hsp;subst hsp
 have hcell:∀i (h:i<xs.length) (j:Nat) (v:Value),xs[i].vals[j]? = some v→w.cell? ⟨b,off+i*5+j,none⟩=some v:=by
  intro i hi j v hv;have:=h3 i hi j v hv;rw[Go.Deep.add_add,Go.WideShapes.add_plain]at this;rw[Nat.add_assoc];exact this
 exact⟨b,off,rfl,World.block_lt_of_cell? _ _ (hcell 0 (by omega) 0 _ rfl),hcell⟩
end
theorem aGm.below{w w':World}{a:Option Addr}{len cap:Nat}{xs:List Ac}(h:aGm w a len cap xs)(k:Below w.heap.size w w'):aGm w' a len cap xs:=by
 obtain⟨h1,h2,h3,h4,h5⟩:=h;refine⟨h1,h2,h3,h4,fun hp=>?_⟩;obtain⟨b,off,rfl,hlt,hc⟩:=h5 hp;exact⟨b,off,rfl,yM hlt k.size,fun i hi j v hv=>by rw[k.cell (p:=⟨b,off+i*5+j,none⟩) hlt];exact hc i hi j v hv⟩
theorem aGm.at{w:World}{a:Option Addr}{len cap:Nat}{xs:List Ac}(h:aGm w a len cap xs){i:Nat}(hi:i<xs.length):∃b off,a=some ⟨b,off,none⟩∧b<w.heap.size∧
  w.cell? ⟨b,off+i*5,none⟩=some (.int .u8 xs[i].k)∧w.cell? ⟨b,off+i*5+1,none⟩=some (.int .u8 xs[i].a)∧w.cell? ⟨b,off+i*5+2,none⟩=some (.int .u8 xs[i].b)∧w.cell? ⟨b,off+i*5+3,none⟩=some (.int .u8 xs[i].c)∧w.cell? ⟨b,off+i*5+4,none⟩=some (.int .i64 xs[i].n):=by
 obtain⟨h1,h2,h3,h4,h5⟩:=h;obtain⟨b,off,rfl,hlt,hc⟩:=h5 (by omega);exact⟨b,off,rfl,hlt,by have:=hc i hi 0 _ rfl;simpa using this,hc i hi 1 _ rfl,hc i hi 2 _ rfl,hc i hi 3 _ rfl,hc i hi 4 _ rfl⟩
end Go.Proofs.YtaeocliklpcgmaaGreat
namespace Go.Proofs.YtaeocliklpcgmaaGreat
open Go.RowKit
structure Of where
 se:Int
 ow:Int
 sl:Int
 bu:Int
 lf:Int
 nu:Int
 de:Int
deriving DecidableEq
def Of.vals(x:Of):List Value:=[.int .u64 x.se,.int .u8 x.ow,.int .u8 x.sl,.int .u8 x.bu,.int .i64 x.lf,.int .i64 x.nu,.int .i64 x.de]
theorem Of.vals_len(x:Of):x.vals.length=7:=rfl
def aAa(ls:List Of):List Value:=ls.flatMap Of.vals
def Of.val(x:Of):Value:=.agg #[.int .u64 x.se,.int .u8 x.ow,.int .u8 x.sl,.int .u8 x.bu,.int .i64 x.lf,.int .i64 x.nu,.int .i64 x.de]
theorem aAo(ls:List Of):(aAa ls).length=ls.length*7:=aHy _ 7 Of.vals_len ls
theorem aAf(ls:List Of)(i j:Nat)(hj:j<7)(h:i<ls.length):(aAa ls)[i*7+j]? = ls[i].vals[j]? := by
 unfold aAa;rw[aGd _ 7 Of.vals_len ls i j hj,List.getElem?_eq_getElem h];rfl
theorem aAw(a b:List Of):aAa (a++b)=aAa a++aAa b:=by unfold aAa;exact List.flatMap_append
theorem aF1(x:Of):aAa [x]=x.vals:=by simp[aAa]
structure Of.Fits(x:Of):Prop where
 se:(0≤x.se∧x.se≤18446744073709551615)
 ow:In8 x.ow
 sl:In8 x.sl
 bu:In8 x.bu
 lf:In64 x.lf
 nu:In64 x.nu
 de:In64 x.de
theorem aE3(l:List Of):∀u∈aAa l,u.oneCell'=true:=by
 intro u hu;unfold aAa at hu;obtain⟨x,_,hx⟩:=List.mem_flatMap.1 hu;simp[Of.vals]at hx;rcases hx with rfl|rfl|rfl|rfl|rfl|rfl|rfl <;> rfl
theorem info_of:(Tryz.prog.info? 48).map (fun i=>(i.zero,i.size,i.bytes))=some (some (Of.val ⟨0,0,0,0,0,0,0⟩),7,40):=by kernel_rfl
theorem aHw(w:World){ops:Array Oper}{rest:List Oper}{o:Oper}{a:Act}{Q:Exit→Act→World→Prop}(hgd:o.guard=none)(s x:Operand)
  (ho:o.op=.call { callee:=.builtin .append,args:=#[s,x],argTypes:=#[23,23] })(base:Nat)(v:Value)(ls:List Of)(hs:a.eval s=v)
  (hown:w.ownsRow base 48 7 v ls.length (aAa ls))(g c:Nat)(y:Of)(hx:a.eval x=.slice (some ⟨g,0,none⟩) 1 c)(hy:Blk w g #[.int .u64 y.se,.int .u8 y.ow,.int .u8 y.sl,.int .u8 y.bu,.int .i64 y.lf,.int .i64 y.nu,.int .i64 y.de] 48)(hlen:ls.length≤100000)(hbase:base≤w.heap.size)
  (h:∀v' w',w'.ownsRow base 48 7 v' (ls++[y]).length (aAa (ls++[y]))→w.grownBy w' v.ownBlock→wpList Tryz.prog ops Q rest (a.put o.dst v') w'):wpList Tryz.prog ops Q (o::rest) a w:=by
 obtain⟨i0,hi,hz0,hz1,hz2⟩:=info_parts info_of;refine wpList_append_own w hgd s x 23 ho base 48 i0 (Of.val ⟨0,0,0,0,0,0,0⟩) 7 40 Tryz.underlying23 hi hz0 hz1 hz2 rfl (by decide) v ls.length (aAa ls) hs hown ⟨g,0,none⟩ 1 c y.vals hx rfl ?_ ?_ (by unfold maxLen;omega) (by omega) hbase ?_
 ·intro j u hj;have:=hy.cell j;rw[Go.WideShapes.add_plain]
  match j,hj with
  | 0,hj=>simp[Of.vals]at hj;subst hj;simpa using this
  | 1,hj=>simp[Of.vals]at hj;subst hj;simpa using this
  | 2,hj=>simp[Of.vals]at hj;subst hj;simpa using this
  | 3,hj=>simp[Of.vals]at hj;subst hj;simpa using this
  | 4,hj=>simp[Of.vals]at hj;subst hj;simpa using this
  | 5,hj=>simp[Of.vals]at hj;subst hj;simpa using this
  | 6,hj=>simp[Of.vals]at hj;subst hj;simpa using this
  | j+7,hj=>simp[Of.vals]at hj
 ·intro u hu;simp[Of.vals]at hu;rcases hu with rfl|rfl|rfl|rfl|rfl|rfl|rfl <;> rfl
 intro v' w' h1 h2 _;refine h v' w' ?_ h2;rw[aAw,aF1,List.length_append];exact h1
theorem of_parts(x y:Of):(x=y)∨(x≠y∧(x.se==y.se)=false)∨(x≠y∧(x.se==y.se)=true∧(x.ow==y.ow)=false)∨(x≠y∧(x.se==y.se)=true∧(x.ow==y.ow)=true∧(x.sl==y.sl)=false)∨(x≠y∧(x.se==y.se)=true∧(x.ow==y.ow)=true∧(x.sl==y.sl)=true∧(x.bu==y.bu)=false)∨(x≠y∧(x.se==y.se)=true∧(x.ow==y.ow)=true∧(x.sl==y.sl)=true∧(x.bu==y.bu)=true∧(x.lf==y.lf)=false)∨(x≠y∧(x.se==y.se)=true∧(x.ow==y.ow)=true∧(x.sl==y.sl)=true∧(x.bu==y.bu)=true∧(x.lf==y.lf)=true∧(x.nu==y.nu)=false)∨(x≠y∧(x.se==y.se)=true∧(x.ow==y.ow)=true∧(x.sl==y.sl)=true∧(x.bu==y.bu)=true∧(x.lf==y.lf)=true∧(x.nu==y.nu)=true∧(x.de==y.de)=false):=by
 obtain⟨a0,a1,a2,a3,a4,a5,a6⟩:=x;obtain⟨b0,b1,b2,b3,b4,b5,b6⟩:=y
 by_cases h0:a0=b0
 case neg=>simp[h0]
 by_cases h1:a1=b1
 case neg=>simp[h0,h1]
 by_cases h2:a2=b2
 case neg=>simp[h0,h1,h2]
 by_cases h3:a3=b3
 case neg=>simp[h0,h1,h2,h3]
 by_cases h4:a4=b4
 case neg=>simp[h0,h1,h2,h3,h4]
 by_cases h5:a5=b5
 case neg=>simp[h0,h1,h2,h3,h4,h5]
 by_cases h6:a6=b6
 case neg=>simp[h0,h1,h2,h3,h4,h5,h6]
 simp[h0,h1,h2,h3,h4,h5,h6]
theorem sameOf_any{w:World}{va vb:Value}{la lb:List Of}(ha:aCg w va 7 la.length (aAa la))(hb:aCg w vb 7 lb.length (aAa lb)):
  Calls Tryz.prog 63 #[va,vb] w (yR w (.bool (decide (la=lb)))):=by
 obtain⟨ao,ca,rfl,a1,a2,a3⟩:=ha;obtain⟨bo,cb,rfl,b1,b2,b3⟩:=hb;have HA:=yH a3;have HB:=yH b3;clear a2 a3 b2 b3
 by_cases hlen:la.length=lb.length
 ·have L:=yH hlen;have hll:lb.length=la.length:=hlen.symm;rw[hll];clear hll hlen b1;go_enter Tryz.func63,Tryz.ntmps63;go_wp2
  go_loopw [5] (fun i wr=>∃k:Nat,k≤la.length∧i=.int .i64 k∧Hid (la.take k=lb.take k)∧Below w.heap.size w wr) (fun i _=>la.length - (intOf i).toNat)
  case atStart=>exact⟨0,Nat.zero_le _,rfl,yH (by simp),yZ⟩
  obtain⟨k,hk,rfl,ht,hbl⟩:=hrel;have BL:=yH hbl
  by_cases hkl:k<la.length
  ·have hkb:k<lb.length:=by have:=L.out;omega
   obtain⟨b1,o1,rfl,hlt1,hc1⟩:=HA.out (by omega);obtain⟨b2,o2,rfl,hlt2,hc2⟩:=HB.out (by omega);have HC1:=yH (fun j (hj:j<la.length*7)=>(hbl.cell (p:=⟨b1,o1+j,none⟩) hlt1).trans (hc1 j hj));have HC2:=yH (fun j (hj:j<lb.length*7)=>(hbl.cell (p:=⟨b2,o2+j,none⟩) hlt2).trans (hc2 j hj))
   have d0:wr.cell? ⟨b1,o1+k*7,none⟩=some (.int .u64 la[k].se):=by
    have q1:=HC1.out (k*7+0) (by omega);rw[aAf la k 0 (by omega) hkl]at q1
    first|exact q1|(rw[←Nat.add_assoc]at q1;exact q1)
   have d1:wr.cell? ⟨b1,o1+k*7+1,none⟩=some (.int .u8 la[k].ow):=by
    have q1:=HC1.out (k*7+1) (by omega);rw[aAf la k 1 (by omega) hkl]at q1
    first|exact q1|(rw[←Nat.add_assoc]at q1;exact q1)
   have d2:wr.cell? ⟨b1,o1+k*7+2,none⟩=some (.int .u8 la[k].sl):=by
    have q1:=HC1.out (k*7+2) (by omega);rw[aAf la k 2 (by omega) hkl]at q1
    first|exact q1|(rw[←Nat.add_assoc]at q1;exact q1)
   have d3:wr.cell? ⟨b1,o1+k*7+3,none⟩=some (.int .u8 la[k].bu):=by
    have q1:=HC1.out (k*7+3) (by omega);rw[aAf la k 3 (by omega) hkl]at q1
    first|exact q1|(rw[←Nat.add_assoc]at q1;exact q1)
   have d4:wr.cell? ⟨b1,o1+k*7+4,none⟩=some (.int .i64 la[k].lf):=by
    have q1:=HC1.out (k*7+4) (by omega);rw[aAf la k 4 (by omega) hkl]at q1
    first|exact q1|(rw[←Nat.add_assoc]at q1;exact q1)
   have d5:wr.cell? ⟨b1,o1+k*7+5,none⟩=some (.int .i64 la[k].nu):=by
    have q1:=HC1.out (k*7+5) (by omega);rw[aAf la k 5 (by omega) hkl]at q1
    first|exact q1|(rw[←Nat.add_assoc]at q1;exact q1)
   have d6:wr.cell? ⟨b1,o1+k*7+6,none⟩=some (.int .i64 la[k].de):=by
    have q1:=HC1.out (k*7+6) (by omega);rw[aAf la k 6 (by omega) hkl]at q1
    first|exact q1|(rw[←Nat.add_assoc]at q1;exact q1)
   have f0:wr.cell? ⟨b2,o2+k*7,none⟩=some (.int .u64 lb[k].se):=by
    have q1:=HC2.out (k*7+0) (by omega);rw[aAf lb k 0 (by omega) hkb]at q1
    first|exact q1|(rw[←Nat.add_assoc]at q1;exact q1)
   have f1:wr.cell? ⟨b2,o2+k*7+1,none⟩=some (.int .u8 lb[k].ow):=by
    have q1:=HC2.out (k*7+1) (by omega);rw[aAf lb k 1 (by omega) hkb]at q1
    first|exact q1|(rw[←Nat.add_assoc]at q1;exact q1)
   have f2:wr.cell? ⟨b2,o2+k*7+2,none⟩=some (.int .u8 lb[k].sl):=by
    have q1:=HC2.out (k*7+2) (by omega);rw[aAf lb k 2 (by omega) hkb]at q1
    first|exact q1|(rw[←Nat.add_assoc]at q1;exact q1)
   have f3:wr.cell? ⟨b2,o2+k*7+3,none⟩=some (.int .u8 lb[k].bu):=by
    have q1:=HC2.out (k*7+3) (by omega);rw[aAf lb k 3 (by omega) hkb]at q1
    first|exact q1|(rw[←Nat.add_assoc]at q1;exact q1)
   have f4:wr.cell? ⟨b2,o2+k*7+4,none⟩=some (.int .i64 lb[k].lf):=by
    have q1:=HC2.out (k*7+4) (by omega);rw[aAf lb k 4 (by omega) hkb]at q1
    first|exact q1|(rw[←Nat.add_assoc]at q1;exact q1)
   have f5:wr.cell? ⟨b2,o2+k*7+5,none⟩=some (.int .i64 lb[k].nu):=by
    have q1:=HC2.out (k*7+5) (by omega);rw[aAf lb k 5 (by omega) hkb]at q1
    first|exact q1|(rw[←Nat.add_assoc]at q1;exact q1)
   have f6:wr.cell? ⟨b2,o2+k*7+6,none⟩=some (.int .i64 lb[k].de):=by
    have q1:=HC2.out (k*7+6) (by omega);rw[aAf lb k 6 (by omega) hkb]at q1
    first|exact q1|(rw[←Nat.add_assoc]at q1;exact q1)
   have hz1:b1<wr.heap.size:=yM hlt1 hbl.size;have hz2:b2<wr.heap.size:=yM hlt2 hbl.size
   have NE:=yH (fun(he:la[k]≠lb[k])=>show decide (la=lb)=false by
    rw[decide_eq_false_iff_not];rintro rfl;exact he rfl)
   have EQ:=yH (fun(he:la[k]=lb[k])=>aHh hkl hkb ht.out he);clear hc1 hc2 HC1 HC2 hbl;generalize la[k]=x at *;generalize lb[k]=y at *;rcases of_parts x y with rfl|⟨he,s0⟩|⟨he,s0,s1⟩|⟨he,s0,s1,s2⟩|⟨he,s0,s1,s2,s3⟩|⟨he,s0,s1,s2,s3,s4⟩|⟨he,s0,s1,s2,s3,s4,s5⟩|⟨he,s0,s1,s2,s3,s4,s5,s6⟩
   ·clear NE;go_wp2
    go_region
    all_goals
     go_wp2;go_roundw
     case rel=>exact⟨k+1,by omega,by go_num,yH (EQ.out (by first|exact rfl|trivial)),by first|exact BL.out.drew|exact BL.out⟩
     case measure=>simp[intOf];omega
   ·have E:=yH (NE.out he);clear he NE EQ;go_wp2
    go_region
    all_goals
     go_wp2;go_ret;exact⟨by rw[E.out];rfl,by first|exact BL.out.drew|exact BL.out⟩
   ·have E:=yH (NE.out he);clear he NE EQ;go_wp2
    go_region
    all_goals
     go_wp2;go_ret;exact⟨by rw[E.out];rfl,by first|exact BL.out.drew|exact BL.out⟩
   ·have E:=yH (NE.out he);clear he NE EQ;go_wp2
    go_region
    all_goals
     go_wp2;go_ret;exact⟨by rw[E.out];rfl,by first|exact BL.out.drew|exact BL.out⟩
   ·have E:=yH (NE.out he);clear he NE EQ;go_wp2
    go_region
    all_goals
     go_wp2;go_ret;exact⟨by rw[E.out];rfl,by first|exact BL.out.drew|exact BL.out⟩
   ·have E:=yH (NE.out he);clear he NE EQ;go_wp2
    go_region
    all_goals
     go_wp2;go_ret;exact⟨by rw[E.out];rfl,by first|exact BL.out.drew|exact BL.out⟩
   ·have E:=yH (NE.out he);clear he NE EQ;go_wp2
    go_region
    all_goals
     go_wp2;go_ret;exact⟨by rw[E.out];rfl,by first|exact BL.out.drew|exact BL.out⟩
   have E:=yH (NE.out he);clear he NE EQ;go_wp2
   go_region
   all_goals
    go_wp2;go_ret;exact⟨by rw[E.out];rfl,by first|exact BL.out.drew|exact BL.out⟩
  have E:=yH (show decide (la=lb)=true by
   have h1:=ht.out;rw[List.take_of_length_le (by omega),List.take_of_length_le (by have:=L.out;omega)]at h1;rw[decide_eq_true_eq];exact h1)
  go_wp2;go_ret;exact⟨by rw[E.out];rfl,BL.out⟩
 have E:=yH (show decide (la=lb)=false by rw[decide_eq_false_iff_not];rintro rfl;exact hlen rfl);have q:((la.length:Int)==(lb.length:Int))=false:=by simp;omega
 clear hlen;go_enter Tryz.func63,Tryz.ntmps63;go_wp2;go_ret;exact⟨by rw[E.out];rfl,yZ⟩
theorem aJq{w:World}{va vb:Value}{la lb:List Of}(ha:aCg w va 7 la.length (aAa la))(hb:aCg w vb 7 lb.length (aAa lb)):
  Calls Tryz.prog 20 #[va,vb] w (yR w (.bool (decide (la=lb)))):=by
 have C:=yH (sameOf_any ha hb);clear ha hb;generalize decide (la=lb)=r at *;go_enter Tryz.func20,Tryz.ntmps20;go_wp2_with fail;refine C.out.mono ?_;rintro e w1 ⟨rfl,b1⟩;go_wp2_with fail;go_ret;exact⟨rfl,b1⟩
end Go.Proofs.YtaeocliklpcgmaaGreat
namespace Go.Proofs.YtaeocliklpcgmaaGreat
open Go.RowKit Go.ChangeShapes Go.WideShapes Go.Deep
def SlIn{α:Type}(vals:α→List Value)(size:Nat)(Ok:α→Prop)(w:World)(a:Option Addr)(len cap:Nat)(xs:List α):Prop:=
 (a=none→cap=0)∧xs.length=len∧(∀x∈xs,Ok x)∧len≤cap∧cap≤maxLen∧(0<len→∃b off,a=some ⟨b,off,none⟩∧b<w.heap.size∧∀i (h:i<xs.length) (j:Nat) (v:Value),(vals xs[i])[j]? = some v→w.cell? ⟨b,off+i*size+j,none⟩=some v)
section
variable{H:Type}{enc:TypeId×Value→H}{P:Program}{w:World}{base:Nat}{spare:Nat→Bool}{held:Bool}
theorem sl_open{α:Type}{vals:α→List Value}{size:Nat}{Ok:α→Prop}{ts te:TypeId}(hu:P.underlying ts=some (.slice te))(hC:P.cellsOf te=size)(hlen:∀y,(vals y).length=size)(hsz:0<size)
  (hr:∀(fuel:Nat) (cs:List Value) (x:DataW H×List MemPlace),DataW.trod enc P w base spare held fuel te cs=some x→∃y:α,Ok y∧cs=vals y)
  {a:Option Addr}{len cap:Nat}{d:DataW H}{p:List MemPlace}(h:DataW.Trod enc P w base spare held ts (.slice a len cap) d p):∃xs,SlIn vals size Ok w a len cap xs:=by
 obtain⟨fuel,hf⟩:=h;rcases open_slice hu hf with⟨h0,_⟩|⟨ad,l,c,m,n,D,Pl,hcs,hb,hl,hm,hmm,hx,hi⟩
 ·simp[Value.cells]at h0;obtain⟨rfl,rfl,rfl⟩:=h0;exact⟨[],fun _=>rfl,rfl,by simp,Nat.le_refl _,by unfold maxLen;omega,fun h=>by omega⟩
 simp[Value.cells]at hcs;obtain⟨rfl,rfl,rfl⟩:=hcs;have hlm:len≤m:=by rw[hmm];split <;> omega
 have key:∀i,i<len→∃x:α,Ok x∧∀(j:Nat) (v:Value),(vals x)[j]? = some v→w.cell? ((ad.add (i*size)).add j)=some v:=by
  intro i hil;obtain⟨cs',hc,ht⟩:=hi i (by omega);rw[hC]at hc;obtain⟨x,hx,rfl⟩:=hr _ _ _ ht;obtain⟨_,_,hat⟩:=World.cells?_some hc;refine⟨x,hx,fun j v hj=>?_⟩
  have hj5:j<size:=by
   have:=(List.getElem?_eq_some_iff.1 hj).1;rw[hlen]at this;exact this
  rw[hat j hj5,hj]
 have hex:∀k,k≤len→∃xs:List α,xs.length=k∧(∀x∈xs,Ok x)∧∀i (h:i<xs.length) (j:Nat) (v:Value),(vals xs[i])[j]? = some v→w.cell? ((ad.add (i*size)).add j)=some v:=by
  intro k
  induction k with
  | zero=>intro _;exact⟨[],rfl,by simp,fun i h=>by simp at h⟩
  | succ k ih=>
   intro hk;obtain⟨xs,h1,h2,h3⟩:=ih (by omega);obtain⟨x,hx,hxc⟩:=key k (by omega);refine⟨xs++[x],by simp[h1],?_,?_⟩
   ·intro y hy;rcases List.mem_append.1 hy with hy|hy
    ·exact h2 y hy
    rw[List.mem_singleton]at hy;rw[hy];exact hx
   intro i hi j v hv
   by_cases hik:i<xs.length
   ·rw[List.getElem_append_left hik]at hv;exact h3 i hik j v hv
   have:i=k:=by rw[List.length_append,List.length_singleton]at hi;omega
   subst this;rw[List.getElem_append_right (by omega)]at hv;simp[h1]at hv;exact hxc j v hv
 obtain⟨xs,h1,h2,h3⟩:=hex len yL;refine⟨xs,fun h=>(by cases h),h1,h2,hl,hm,fun hp=>?_⟩;have hv0:(vals (xs[0]'(by omega)))[0]? = some ((vals (xs[0]'(by omega)))[0]'(by rw[hlen];exact hsz)):=List.getElem?_eq_getElem _;have h00:=h3 0 (by omega) 0 _ hv0
 have hsp:ad.spot=none:=by
  rcases hs:ad.spot with _|s
  ·rfl
  exfalso;rw[Go.Deep.add_add]at h00;have e:(ad.add (0*size+0)).spot=ad.spot:=by cases ad;simp[Addr.add]
  unfold World.cell? at h00;rw[e,hs]at h00;split at h00
  ·simp at h00
  cases h00
 obtain⟨b,off,sp⟩:=ad;simp only at hsp;subst hsp
 have hcell:∀i (h:i<xs.length) (j:Nat) (v:Value),(vals xs[i])[j]? = some v→w.cell? ⟨b,off+i*size+j,none⟩=some v:=by
  intro i hi j v hv;have:=h3 i hi j v hv;rw[Go.Deep.add_add,Go.WideShapes.add_plain]at this;rw[Nat.add_assoc];exact this
 exact⟨b,off,rfl,World.block_lt_of_cell? _ _ (hcell 0 (by omega) 0 _ hv0),hcell⟩
end
theorem SlIn.below{α:Type}{vals:α→List Value}{size:Nat}{Ok:α→Prop}{w w':World}{a:Option Addr}{len cap:Nat}{xs:List α}(h:SlIn vals size Ok w a len cap xs)(k:Below w.heap.size w w'):SlIn vals size Ok w' a len cap xs:=by
 obtain⟨h0,h1,h2,h3,h4,h5⟩:=h;refine⟨h0,h1,h2,h3,h4,fun hp=>?_⟩;obtain⟨b,off,rfl,hlt,hc⟩:=h5 hp;exact⟨b,off,rfl,yM hlt k.size,fun i hi j v hv=>by rw[k.cell (p:=⟨b,off+i*size+j,none⟩) hlt];exact hc i hi j v hv⟩
section
variable{H:Type}{enc:TypeId×Value→H}{P:Program}{w:World}{base:Nat}{spare:Nat→Bool}{held:Bool}
theorem aIy{fs:Array Field}{xs:List (DataW H×List MemPlace)}{n:Nat}{cs:List Value}(hxl:xs.length=fs.size)(hf:∀(j:Nat) (f:Field),fs[j]? = some f→DataW.trod enc P w base spare held n f.type ((cs.drop f.offset).take (P.cellsOf f.type))=xs[j]?){j o:Nat}{f:Field}{k:IntKind}(hj:fs[j]? = some f)(ho:f.offset=o)(hc:P.cellsOf f.type=1)(hk:P.underlying f.type=some (.int k))(hl:o<cs.length):
  ∃m,cs[o]? = some (.int k m)∧(Lit.int k m).wf=true:=by
 have h1:=hf j f hj;rw[ho,hc,List.drop_eq_getElem_cons hl]at h1;have hjf:j<fs.size:=(Array.getElem?_eq_some_iff.1 hj).1;rw[List.getElem?_eq_getElem (by omega:j<xs.length)]at h1;obtain⟨m,hm,_,hw⟩:=DataW.trod_int hk h1;refine⟨m,?_,hw⟩;rw[List.getElem?_eq_getElem hl];have hm':[cs[o]]=[Value.int k m]:=hm;exact congrArg some (List.cons.inj hm').1
end
theorem aCi.of_wf{n:Int}(h:(Lit.int .u64 n).wf=true):0≤n∧n≤18446744073709551615:=by
 simp[Lit.wf,IntKind.min,IntKind.max,IntKind.signed,IntKind.bits]at h;exact⟨by omega,by omega⟩
section
variable{H:Type}{enc:TypeId×Value→H}{P:Program}{w:World}{base:Nat}{spare:Nat→Bool}{held:Bool}
theorem pair_of{t:TypeId}{g0 g1:Field}{k0 k1:IntKind}(hu:P.underlying t=some (.struct #[g0,g1]))(hC:P.cellsOf t=2)(o0:g0.offset=0)(o1:g1.offset=1)(c0:P.cellsOf g0.type=1)(c1:P.cellsOf g1.type=1)
  (h0:P.underlying g0.type=some (.int k0))(h1:P.underlying g1.type=some (.int k1)){fuel:Nat}{cs:List Value}{x:DataW H×List MemPlace}(h:DataW.trod enc P w base spare held fuel t cs=some x):
  ∃m0 m1,cs=[.int k0 m0,.int k1 m1]∧(Lit.int k0 m0).wf=true∧(Lit.int k1 m1).wf=true:=by
 obtain⟨xs,n,_,_,hlen,hxl,hf⟩:=DataW.trod_struct hu h;rw[hC]at hlen;obtain⟨m0,e0,w0⟩:=aIy hxl hf (j:=0) rfl o0 c0 h0 (by omega);obtain⟨m1,e1,w1⟩:=aIy hxl hf (j:=1) rfl o1 c1 h1 (by omega)
 match cs,hlen with
 | [a,b],_=>
  simp at e0 e1;subst e0 e1;exact⟨m0,m1,rfl,w0,w1⟩
theorem offer_of{t:TypeId}{f0 f1 f2 f3 f4 f5 g0 g1:Field}(hu:P.underlying t=some (.struct #[f0,f1,f2,f3,f4,f5]))(hC:P.cellsOf t=7)
  (o:f0.offset=0∧f1.offset=1∧f2.offset=2∧f3.offset=3∧f4.offset=4∧f5.offset=5)(c:P.cellsOf f0.type=1∧P.cellsOf f1.type=1∧P.cellsOf f2.type=1∧P.cellsOf f3.type=1∧P.cellsOf f4.type=1∧P.cellsOf f5.type=2)
  (k:P.underlying f0.type=some (.int .u64)∧P.underlying f1.type=some (.int .u8)∧P.underlying f2.type=some (.int .u8)∧P.underlying f3.type=some (.int .u8)∧P.underlying f4.type=some (.int .i64))
  (hr:P.underlying f5.type=some (.struct #[g0,g1]))(og:g0.offset=0∧g1.offset=1)(cg:P.cellsOf g0.type=1∧P.cellsOf g1.type=1)(kg:P.underlying g0.type=some (.int .i64)∧P.underlying g1.type=some (.int .i64))
  {fuel:Nat}{cs:List Value}{x:DataW H×List MemPlace}(h:DataW.trod enc P w base spare held fuel t cs=some x):∃x:Of,x.Fits∧cs=x.vals:=by
 obtain⟨xs,n,_,_,hlen,hxl,hf⟩:=DataW.trod_struct hu h;rw[hC]at hlen;obtain⟨m0,e0,w0⟩:=aIy hxl hf (j:=0) rfl o.1 c.1 k.1 (by omega);obtain⟨m1,e1,w1⟩:=aIy hxl hf (j:=1) rfl o.2.1 c.2.1 k.2.1 (by omega);obtain⟨m2,e2,w2⟩:=aIy hxl hf (j:=2) rfl o.2.2.1 c.2.2.1 k.2.2.1 (by omega);obtain⟨m3,e3,w3⟩:=aIy hxl hf (j:=3) rfl o.2.2.2.1 c.2.2.2.1 k.2.2.2.1 (by omega);obtain⟨m4,e4,w4⟩:=aIy hxl hf (j:=4) rfl o.2.2.2.2.1 c.2.2.2.2.1 k.2.2.2.2 (by omega);have h5:=hf 5 f5 rfl;rw[o.2.2.2.2.2,c.2.2.2.2.2]at h5;rw[List.getElem?_eq_getElem (by rw[hxl];simp:5<xs.length)]at h5;obtain⟨m5,m6,e5,w5,w6⟩:=pair_of hr c.2.2.2.2.2 og.1 og.2 cg.1 cg.2 kg.1 kg.2 h5
 match cs,hlen with
 | [a0,a1,a2,a3,a4,a5,a6],_=>
  simp at e0 e1 e2 e3 e4 e5;obtain⟨e5,e6⟩:=e5;subst e0 e1 e2 e3 e4 e5 e6;exact⟨⟨m0,m1,m2,m3,m4,m5,m6⟩,⟨aCi.of_wf w0,In8.of_wf w1,In8.of_wf w2,In8.of_wf w3,In64.of_wf w4,In64.of_wf w5,In64.of_wf w6⟩,rfl⟩
end
section
variable{H:Type}{enc:TypeId×Value→H}{w:World}{base:Nat}{spare:Nat→Bool}{held:Bool}
theorem aJ3{fuel:Nat}{cs:List Value}{x:DataW H×List MemPlace}(h:DataW.trod enc Tryz.prog w base spare held fuel 48 cs=some x):∃x:Of,x.Fits∧cs=x.vals:=
 offer_of Tryz.underlying48 (by kernel_rfl) ⟨rfl,rfl,rfl,rfl,rfl,rfl⟩ ⟨by kernel_rfl,by kernel_rfl,by kernel_rfl,by kernel_rfl,by kernel_rfl,by kernel_rfl⟩ ⟨Tryz.underlying39,Tryz.underlying43,Tryz.underlying44,Tryz.underlying44,Tryz.underlying2⟩
  Tryz.underlying46 ⟨rfl,rfl⟩ ⟨by kernel_rfl,by kernel_rfl⟩ ⟨Tryz.underlying2,Tryz.underlying2⟩ h
theorem offer_open{r:Reach}{b0:Nat}{v:Value}{d:DataW H}{p:List MemPlace}(hv:Value.okWide Tryz.prog w r b0 48 v)(h:DataW.Trod enc Tryz.prog w base spare held 48 v d p):
  ∃x:Of,v=.agg #[.int .u64 x.se,.int .u8 x.ow,.int .u8 x.sl,.int .u8 x.bu,.int .i64 x.lf,.int .i64 x.nu,.int .i64 x.de]∧x.Fits:=by
 obtain⟨cs,rfl,_⟩:=okWide_struct Tryz.underlying48 hv;obtain⟨fuel,hf⟩:=h;obtain⟨x,hx,hc⟩:=aJ3 hf;refine⟨x,?_,hx⟩;have:cs.toList=x.vals:=by simpa [Value.cells]using hc
 rw[show cs=x.vals.toArray by rw[←this]];rfl
theorem aNp{a:Option Addr}{len cap:Nat}{d:DataW H}{p:List MemPlace}(h:DataW.Trod enc Tryz.prog w base spare held 23 (.slice a len cap) d p):∃xs:List Of,SlIn Of.vals 7 Of.Fits w a len cap xs:=
 sl_open Tryz.underlying23 (by kernel_rfl) Of.vals_len (by decide) (fun fuel cs x h=>aJ3 h) h
end
end Go.Proofs.YtaeocliklpcgmaaGreat
