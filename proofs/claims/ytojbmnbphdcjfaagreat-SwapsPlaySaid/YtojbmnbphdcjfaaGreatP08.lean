/- Pieces of one proof. -/
import Derived.Test.YtojbmnbphdcjfaaGreatP06
import Derived.Test.YtojbmnbphdcjfaaGreatP07
set_option linter.all false
set_option maxHeartbeats 64000000
set_option maxRecDepth 100000
namespace Go.Proofs.YtojbmnbphdcjfaaGreat
open Go.RowKit
theorem aPa{w:World}{base:Nat}{v:Value}{n:Nat}{xs:List Value}(h:w.ownsRow base 206 3 v n xs):
  Calls Tryz.prog 210 #[v] w (aG3 w base 206 3 n v xs):=by
 rcases h.2 with⟨rfl,h0⟩|⟨g,cap,cur,rfl,hbase,hb,h1,h2,h3,h4⟩
 ·subst h0;have hr:=aBr (P:=Tryz.prog) w 200 206 3 Tryz.underlying200 (Tryz.sizeOf206 w);have hx:=h.1;have hx2:=yH hx;clear h hx;go_enter Tryz.func210,Tryz.ntmps210;go_wp2;refine bodyPost_ret (v:=.slice none 0 0) (by simp[results,Tryz.results210,go_sem]) rfl ?_;exact⟨_,rfl,⟨hx2.out,.inl ⟨rfl,rfl⟩⟩,rfl,rfl⟩
 have hr:=aCm (P:=Tryz.prog) w 200 206 3 Tryz.underlying200 (Tryz.sizeOf206 w) g n cap h1;have HR:=yH (show aC8 w base 206 3 (.slice (some ⟨g,0,none⟩) n n) n xs from⟨h.1,.inr ⟨g,cur,rfl,hbase,hb,by omega,by omega,h4⟩⟩);clear h hb h4 h3;unfold maxLen at h2;go_enter Tryz.func210,Tryz.ntmps210;go_wp2;refine bodyPost_ret (v:=.slice (some ⟨g,0,none⟩) n n) (by simp[results,Tryz.results210,go_sem]) rfl ?_;exact⟨_,rfl,HR.out,rfl,rfl⟩
theorem Blk.capSetN{w:World}{g:Nat}{f:Int→Int→Int}{b:Bool}{t:TypeId}(h:Blk w g (graC f b) t){p q:Nat}(hp:p<17)(hq:q<17)(n:Int):
  Blk (w.setCell ⟨g,p*17+q,none⟩ (.int .i64 n)) g (graC (updE f p q n) b) t:=by
 have:=h.set (p*17+q) (.int .i64 n);rw[graC_set f b hp hq]at this;exact this
theorem Blk.capN{w:World}{g:Nat}{f:Int→Int→Int}{b:Bool}{t:TypeId}(h:Blk w g (graC f b) t){p q:Nat}(hp:p<17)(hq:q<17):w.cell? ⟨g,p*17+q,none⟩=some (.int .i64 (f p q)):=by
 rw[h.cell,graC_at f b hp hq]
def aL8(rf:Int→Int→Int)(m:Nat)(a b:Int):Int:=if a*17+b<m then rf a b else 0
theorem partF_zero(rf:Int→Int→Int):graC (aL8 rf 0) true=graC aHg true:=aI2 true fun p q hp hq=>by unfold aL8 aHg;rw[if_neg (by omega)]
theorem partF_next(rf:Int→Int→Int){p q:Nat}(hp:p<17)(hq:q<17):graC (updE (aL8 rf (p*17+q)) p q (rf p q)) true=graC (aL8 rf (p*17+(q+1))) true:=aI2 true fun a b ha hb=>by
 unfold updE aL8
 by_cases h:(a:Int)=p∧(b:Int)=q
 ·rw[if_pos h,if_pos (by omega),h.1,h.2]
 rw[if_neg h]
 by_cases h2:(a:Int)*17+b<((p*17+q:Nat):Int)
 ·rw[if_pos h2,if_pos (by omega)]
 rw[if_neg h2,if_neg (by omega)]
theorem partF_all(rf:Int→Int→Int):graC (aL8 rf (17*17)) true=graC rf true:=aI2 true fun p q hp hq=>by unfold aL8;rw[if_pos (by omega)]
def GOfAt(w:World)(rf:Int→Int→Int)(i:Value)(wr:World):Prop:=
 ∃p:Nat,p≤17∧i=.int .i64 p∧Blk wr w.heap.size (graC (aL8 rf (p*17)) true) 271∧Below w.heap.size w wr
def GOfIn(w:World)(rf:Int→Int→Int)(p:Nat)(i:Value)(wr:World):Prop:=
 ∃q:Nat,q≤17∧i=.int .i64 q∧Blk wr w.heap.size (graC (aL8 rf (p*17+q)) true) 271∧Below w.heap.size w wr
theorem gof_any{w:World}{lv:Value}{c:Int}{rf:Int→Int→Int}
  (hr:∀w',Below w.heap.size w w'→∀p q:Int,In8 p→In8 q→Calls Tryz.prog 131 #[lv,.int .u8 p,.int .u8 q,.int .u8 c] w' fun e w''=>e=.returned (.int .i64 (rf p q))∧Below w'.heap.size w' w''):
  Calls Tryz.prog 175 #[lv,.int .u8 c] w fun e w'=>e=.returned (.pointer (some ⟨w.heap.size,0,none⟩))∧Blk w' w.heap.size (graC rf true) 271∧Below w.heap.size w w':=by
 have HR:=yH hr;clear hr;have B0:=yH ((Below.refl w.heap.size w).alloc yL (.cells (graC aHg true) 271));have K0:=pAA w (graC aHg true) 271
 have K0':=yH (show Blk (w.alloc (.cells (graC aHg true) 271)) w.heap.size (graC (aL8 rf (0*17)) true) 271 from by
  rw[show 0*17=0 from rfl,partF_zero];exact K0)
 clear K0;go_enter Tryz.func175,Tryz.ntmps175;go_wp2_with ((with_reducible refine aCd ?_ 271 #[(1,.const (.bool true))] ?_ #[(1,.bool true)] ?_ (graC aHg true) (build_gra0 _) ?_);exact rfl;exact rfl;simp[Act.eval,Act.put])
 go_loopw [10] (GOfAt w rf) (fun i _=>17 - (intOf i).toNat)
 case atStart=>exact⟨0,by omega,rfl,K0'.out,B0.out⟩
 clear K0' B0;obtain⟨p,hp,rfl,hG,hB⟩:=hrel;have G1:=yH hG;have B1:=yH hB;clear hG hB
 by_cases hp2:p<17
 ·have hpi:(p:Int)<17:=by omega
  go_wp2_with fail
  go_loopw [13] (GOfIn w rf p) (fun i _=>17 - (intOf i).toNat)
  case atStart=>exact⟨0,by omega,rfl,G1.out,B1.out⟩
  clear G1 B1;obtain⟨q,hq,rfl,hG,hB⟩:=hrel;have G1:=yH hG;have B1:=yH hB;have hgl:=hG.lt;clear hG hB
  by_cases hq2:q<17
  ·have hqi:(q:Int)<17:=by omega
   have CR:=yH (fun w' (k:Below wr.heap.size wr w')=>HR.out w' (B1.out.trans (k.mono B1.out.size)) p q (by unfold In8;omega) (by unfold In8;omega));have NX:=yH (partF_next rf hp2 hq2);obtain⟨n,hn⟩:∃n,rf p q=n:=⟨_,rfl⟩;rw[hn]at CR NX;clear hn;go_wp2_with fail
   refine aCl (by kernel_rfl) 14 16 [(.pointer (some ⟨w.heap.size,0,none⟩)),(.int .i64 p),(.int .i64 q),lv,(.int .i64 p),(.int .u8 p),(.int .i64 q),(.int .u8 q),(.int .u8 c),(.int .i64 n),(.pointer (some ⟨w.heap.size,0,none⟩)),(.pointer (some ⟨w.heap.size,0,none⟩)),(.pointer (some ⟨w.heap.size,p*17,none⟩)),(.pointer (some ⟨w.heap.size,p*17+q,none⟩))]
    (fun w'=>Below wr.heap.size wr w') (by kernel_rfl) rfl (by kernel_rfl) yZ.drew ?_
   intro af haf;simp only[yG,List.append_eq,List.cons_append,List.nil_append,puts,Act.put,yA,yC,yF,yD,yE]at haf;subst haf;refine⟨?_,?_⟩
   ·simp only[yG,List.take_succ_cons,List.take_zero,aA8];refine⟨?z1,?z2,?z3,?z4,?z5,?z6,?z7,?z8,?z9,?_,?z10,?z11,?z12,?z13,trivial⟩
    case z1|z2|z3|z4|z5|z6|z7|z8|z9=>
     intro w' hS;refine yO rfl ?_;have HS:=yH hS;clear hS;go_wp2_with fail;all_goals first|exact HS|exact⟨rfl,HS⟩|rfl|exact⟨by omega,HS.out⟩
    case z10|z11|z12|z13=>
     intro w' hS;refine yO rfl ?_;have kg:=G1.out.below hS G1.out.lt;have hl:=kg.lt;have HS:=yH hS;clear hS;go_wp2_with fail;all_goals first|exact HS|exact⟨rfl,HS⟩|rfl|exact⟨by omega,HS.out⟩
    intro w' hS;refine yO rfl ?_;have HS:=yH hS;clear hS;go_wp2_with fail;refine(CR.out w' HS.out).mono ?_;rintro e w'' ⟨rfl,hb2⟩;exact⟨rfl,andB HS.out hb2⟩
   simp only[yC,yA,yG];intro w' hS;refine yO rfl ?_;have kb:=yH ((G1.out.below hS G1.out.lt).capSetN hp2 hq2 n);have dm:=(G1.out.below hS G1.out.lt).capN hp2 hq2;have fr:=(G1.out.below hS G1.out.lt).frozen (p*17+q);have k4:=yH (((B1.out.trans (hS.mono B1.out.size)).setCell (p:=⟨w.heap.size,p*17+q,none⟩) (by simp) (.int .i64 n)));clear hS;go_wp2_with fail;generalize w'.setCell ⟨w.heap.size,p*17+q,none⟩ (.int .i64 n)=w4 at *;go_roundw
   case rel=>exact⟨q+1,by omega,by go_num,by rw[←NX.out];exact kb.out,k4.out⟩
   case measure=>simp[intOf];omega
  have hq17:q=17:=by omega
  subst hq17;go_wp2_with fail;go_roundw
  case rel=>exact⟨p+1,by omega,by go_num,by rw[show(p+1)*17=p*17+17 by omega];exact G1.out,B1.out⟩
  case measure=>simp[intOf];omega
 have hp17:p=17:=by omega
 subst hp17;rw[partF_all]at G1;go_wp2_with fail;go_ret;exact⟨rfl,G1.out,B1.out⟩
theorem rowA_set(v:Int→Int→Value)(p:Int){i:Nat}(hi:i<17)(u:Value):(rowA v p).setIfInBounds i u=rowA (fun a q=>if q=(i:Int)then u else v a q) p:=by
 apply Array.ext_getElem?;intro j
 by_cases hj:j<17
 ·rw[aG6 _ p hj]
  by_cases h:i=j
  ·subst h;rw[Array.getElem?_setIfInBounds_self_of_lt (by rw[aEv];exact hj),if_pos rfl]
  rw[Array.getElem?_setIfInBounds_ne h,aG6 v p hj,if_neg (by omega)]
 rw[Array.getElem?_eq_none (by simp[aEv];omega),Array.getElem?_eq_none (by rw[aEv];omega)]
theorem aMl{v u:Int→Int→Value}{p p':Int}(h:∀i:Nat,i<17→v p i=u p' i):rowA v p=rowA u p':=by
 apply Array.ext_getElem?;intro j
 by_cases hj:j<17
 ·rw[aG6 v p hj,aG6 u p' hj,h j hj]
 rw[Array.getElem?_eq_none (by rw[aEv];omega),Array.getElem?_eq_none (by rw[aEv];omega)]
def inA(b:Int→Bool):Array Value:=rowA (fun _ q=>.bool (b q)) 0
theorem aE8(b:Int→Bool):(inA b).size=17:=aEv _ _
theorem aNr(b:Int→Bool){i:Nat}(h:i<17):(inA b)[i]? = some (.bool (b i)):=aG6 _ _ h
theorem aQ8(b:Int→Bool){i:Nat}(hi:i<17)(u:Bool):(inA b).setIfInBounds i (.bool u)=inA fun q=>if q=(i:Int)then u else b q:=by
 unfold inA;rw[rowA_set _ _ hi];refine aMl fun j hj=>?_
 dsimp only;split <;> rfl
theorem aQ9(b:Int→Bool):(inA b).all (·.oneCell')=true:=by
 rw[Array.all_eq_true];intro i hi;have h17:i<17:=by rw[aE8]at hi;exact hi
 have:=aNr b h17;rw[Array.getElem?_eq_getElem hi]at this;simp only[Option.some.injEq]at this;rw[this];rfl
theorem Blk.inAt{w:World}{g:Nat}{b:Int→Bool}{t:TypeId}(h:Blk w g (inA b) t){p:Int}(h0:0≤p)(h1:p<17):w.cell? ⟨g,p.toNat,none⟩=some (.bool (b p)):=by
 rw[h.cell,aNr b (by omega),Int.toNat_of_nonneg h0]
theorem Blk.inSet{w:World}{g:Nat}{b:Int→Bool}{t:TypeId}(h:Blk w g (inA b) t){p:Int}(h0:0≤p)(h1:p<17)(u:Bool):Blk (w.setCell ⟨g,p.toNat,none⟩ (.bool u)) g (inA fun q=>if q=p then u else b q) t:=by
 have:=h.set p.toNat (.bool u);rw[aQ8 b (by omega),Int.toNat_of_nonneg h0]at this;exact this
theorem zero_in:(∀w,(zeroValue 57).run Tryz.prog w=.ok (.agg (inA fun _=>false)) w)∧(Tryz.prog.info? 57).map (·.size)=some 17:=
 zero_of_info (by kernel_rfl)
theorem aK0(b:Int→Bool):(Tryz.prog.info? 57).map (·.size)=some (inA b).size:=by rw[aE8];exact zero_in.2
attribute [irreducible] inA
def aJ1(f:Int→Int→Int)(p:Int)(n:Nat)(es:List Fw)(q:Int):Bool:=inS f p n q || es.any fun e=>inS f p n e.fr && e.tt==q
theorem ledTo_next{f:Int→Int→Int}{p:Int}{n:Nat}{es:List Fw}{k:Nat}(hk:k<es.length)(q:Int):aJ1 f p n (es.take (k+1)) q=if inS f p n es[k].fr=true∧q=es[k].tt then true else aJ1 f p n (es.take k) q:=by
 unfold aJ1;rw[List.take_succ_eq_append_getElem hk,List.any_append];simp only[List.any_cons,List.any_nil,Bool.or_false]
 by_cases h:inS f p n es[k].fr=true∧q=es[k].tt
 ·rw[if_pos h,h.1,h.2];simp
 rw[if_neg h]
 have:(inS f p n es[k].fr && es[k].tt==q)=false:=by
  cases h1:inS f p n es[k].fr with
  | false=>rfl
  | true=>
   have:es[k].tt≠q:=fun e=>h ⟨h1,e.symm⟩
   simp[this]
 rw[this];simp
theorem ledTo_all{f:Int→Int→Int}{B:Int}(h:GInv f B)(p:Int)(n:Nat)(q:Int):aJ1 f p n (allE f) q=inS f p (n+1) q:=by
 show(inS f p n q || _)=(inS f p n q || parts.any fun r=>inS f p n r && decide (0<f r q));congr 1;rw[Bool.eq_iff_iff,List.any_eq_true,List.any_eq_true]
 constructor
 ·rintro⟨e,he,h1⟩;rw[Bool.and_eq_true,beq_iff_eq]at h1;obtain⟨e1,e2,e3,e4⟩:=aFv.1 he;refine⟨e.fr,aGh.2 e1,?_⟩;rw[Bool.and_eq_true,decide_eq_true_eq];refine⟨h1.1,?_⟩;rw[←h1.2,←e3];exact e4
 rintro⟨r,hr,h1⟩;rw[Bool.and_eq_true,decide_eq_true_eq]at h1;refine⟨⟨r,q,f r q⟩,aFv.2 ⟨aGh.1 hr,(h.ends h1.2).2.1,rfl,h1.2⟩,?_⟩;rw[Bool.and_eq_true,beq_iff_eq];exact⟨h1.1,rfl⟩
def ReachAt(w:World)(f:Int→Int→Int)(p:Int)(n:Nat)(i:Value)(wr:World):Prop:=
 ∃k:Nat,k≤n∧i=.int .i64 k∧Blk wr w.heap.size (inA fun _=>false) 57∧Blk wr (w.heap.size+1) (inA (inS f p k)) 57∧Below w.heap.size w wr
def ReachIn(w:World)(f:Int→Int→Int)(p:Int)(k W:Nat)(i:Value)(wr:World):Prop:=
 ∃j:Nat,j≤(allE f).length∧i=.int .i64 j∧Blk wr w.heap.size (inA fun _=>false) 57∧Blk wr (w.heap.size+1) (inA (aJ1 f p k ((allE f).take j))) 57∧Blk wr W (inA (inS f p k)) 57∧Below w.heap.size w wr
theorem reach_any{w:World}{base g:Nat}{f:Int→Int→Int}{B:Int}{vl:Value}(h:RefG w base g (allE f) vl)(hI:GInv f B){p:Int}(hp:inP p){n:Nat}(hn:n≤100):
  Calls Tryz.prog 215 #[.pointer (some ⟨g,0,none⟩),.int .u8 p,.int .i64 n] w (yR w (.agg (inA (inS f p n)))):=by
 obtain⟨ao,cap,rfl,hc1,hc2,hc3,hc4⟩:=aAd h.row;have HC:=yH hc4;have HI:=yH hI;have hg:=h.blk.lt;have dg0:=h.blk.cell 0;simp at dg0;have DG:=yH dg0;have hll:=aIb f 256;have hll2:(allE f).length≤256:=hll;unfold maxLen at hc2;have hz:=zero_in.1;obtain⟨p1,p2⟩:=hp
 have ES:(inA fun _=>false).setIfInBounds p.toNat (.bool true)=inA (inS f p 0):=by
  rw[aQ8 _ (by omega),Int.toNat_of_nonneg (by omega)];congr 1
 have B1:=yH (((Below.refl w.heap.size w).alloc yL (.cells (inA fun _=>false) 57)).alloc (by simp) (.cells (inA (inS f p 0)) 57));have R1:=yH ((pAA w (inA fun _=>false) 57).alloc (.cells (inA (inS f p 0)) 57));have K1:=yH (pAC (w.alloc (.cells (inA fun _=>false) 57)) (inA (inS f p 0)) 57 (g:=w.heap.size+1) (by simp));have K0:=pAC (w.alloc (.cells (inA fun _=>false) 57)) (inA fun _=>false) 57 (g:=w.heap.size+1) (by simp);have dk:=K0.inAt (p:=p) (by omega) (by omega);have fk:=K0.frozen p.toNat;clear hc3 hc4 h hI K0 hll dg0;go_enter Tryz.func215,Tryz.ntmps215;go_wp2_with fail;generalize (w.alloc (.cells (inA fun _=>false) 57)).alloc (.cells (inA (inS f p 0)) 57)=W1 at *;clear dk fk ES
 go_loopw [8] (ReachAt w f p n) (fun i _=>n - (intOf i).toNat)
 case atStart=>exact⟨0,by omega,rfl,R1.out,K1.out,B1.out⟩
 clear R1 K1 B1;obtain⟨k,hk,rfl,hR,hK,hB⟩:=hrel;have R1:=yH hR;have K1:=yH hK;have B1:=yH hB;clear hR hK hB
 by_cases hkn:k<n
 ·have hkl:=K1.out.lt;have Z:=yH (pAA wr (inA fun _=>false) 57);have E1:=World.setRow_alloc_new wr (inA fun _=>false) (inA (inS f p k)) 57;have B2:=yH (B1.out.alloc B1.out.size (.cells (inA (inS f p k)) 57));have R2:=yH (R1.out.alloc (.cells (inA (inS f p k)) 57));have K2:=yH (K1.out.alloc (.cells (inA (inS f p k)) 57));have S2:=yH (pAA wr (inA (inS f p k)) 57)
  go_wp2_with first
   | ((with_reducible refine wpList_load_row ?_ 57 (.tmp 7) ?_ (w.heap.size+1) ?_ 57 (inA (inS f p k)) (0,0) _ K1.out.out Tryz.underlying57 ?_ (aK0 _) ?_);exact rfl;exact rfl;exact rfl;exact rfl)
   | ((with_reducible refine wpList_store_row ?_ 57 (.tmp 9) (.tmp 18) ?_ wr.heap.size (inA (inS f p k)) ?_ ?_ 57 _ Z.out.out (aK0 _) (by simp only[aE8]) (aQ9 _) ?_);exact rfl;exact rfl;exact rfl;exact rfl;rw[E1])
  generalize hW:wr.alloc (.cells (inA (inS f p k)) 57)=W at *;generalize hX:wr.heap.size=X at *;clear hW hX E1 Z
  go_loopw [10] (ReachIn w f p k X) (fun i _=>(allE f).length - (intOf i).toNat)
  case atStart=>exact⟨0,by omega,rfl,R2.out,by rw[show aJ1 f p k ((allE f).take 0)=inS f p k by funext q;simp[aJ1]];exact K2.out,S2.out,B2.out⟩
  clear R2 K2 S2 B2 R1 K1 B1;obtain⟨j,hj,rfl,hR,hK,hS,hB⟩:=hrel;have R1:=yH hR;have K1:=yH hK;have S1:=yH hS;have B1:=yH hB;clear hR hK hS hB;have dg:=(B1.out.cell (p:=⟨g,0,none⟩) hg).trans DG.out;have hgr:=yM hg B1.out.size
  by_cases hjl:j<(allE f).length
  ·obtain⟨bl,rfl,hb1,hb2,hcell,_⟩:=HC.out (by omega);have hbr:=yM hb2 B1.out.size;obtain⟨e0,e1,_⟩:=fw_cells hcell hjl;have d0:=(B1.out.cell (p:=⟨bl,j*3,none⟩) hb2).trans e0;have d1:=(B1.out.cell (p:=⟨bl,j*3+1,none⟩) hb2).trans e1;have NX:=yH (ledTo_next (f:=f) (p:=p) (n:=k) hjl);obtain⟨⟨a1,a2⟩,⟨b1,b2⟩,_⟩:=aFv.1 (List.getElem_mem hjl);generalize (allE f)[j]=x at *;have ds:=S1.out.inAt (p:=x.fr) (by omega) (by omega);have hsl:=S1.out.lt;have hil:=K1.out.lt
   by_cases hin:inS f p k x.fr=true
   ·rw[hin]at ds;have dk:=K1.out.inAt (p:=x.tt) (by omega) (by omega);have fk:=K1.out.frozen x.tt.toNat;have K2:=yH (K1.out.inSet (p:=x.tt) (by omega) (by omega) true);have R2:=yH (R1.out.setOther (a:=⟨w.heap.size+1,x.tt.toNat,none⟩) (by simp) (.bool true));have S2:=yH (S1.out.setOther (a:=⟨w.heap.size+1,x.tt.toNat,none⟩) (by simp;omega) (.bool true));have B2:=yH (B1.out.setCell (p:=⟨w.heap.size+1,x.tt.toNat,none⟩) (by simp) (.bool true))
    have NE:Hid ((fun q=>if q=x.tt then true else aJ1 f p k ((allE f).take j) q)=aJ1 f p k ((allE f).take (j+1))):=yH (by
     funext q
     rw[NX.out q,hin];simp)
    go_wp2_with fail;go_roundw
    case rel=>exact⟨j+1,by omega,by go_num,R2.out,by rw[←NE.out];exact K2.out,S2.out,B2.out⟩
    case measure=>simp[intOf];omega
   have hin:inS f p k x.fr=false:=by simpa using hin
   rw[hin]at ds
   have NE:Hid (aJ1 f p k ((allE f).take j)=aJ1 f p k ((allE f).take (j+1))):=yH (by
    funext q
    rw[NX.out q,hin];simp)
   go_wp2_with fail;go_roundw
   case rel=>exact⟨j+1,by omega,by go_num,R1.out,by rw[←NE.out];exact K1.out,S1.out,B1.out⟩
   case measure=>simp[intOf];omega
  have hjj:(allE f).take j=allE f:=List.take_of_length_le (by omega);rw[hjj]at K1;have NE:Hid (aJ1 f p k (allE f)=inS f p (k+1)):=yH (funext fun q=>ledTo_all HI.out p k q);rw[NE.out]at K1;go_wp2_with fail;go_roundw
  case rel=>exact⟨k+1,by omega,by go_num,R1.out,K1.out,B1.out⟩
  case measure=>simp[intOf];omega
 have hkn2:k=n:=by omega
 subst hkn2
 go_wp2_with first
  | ((with_reducible refine wpList_load_row ?_ 57 (.tmp 7) ?_ (w.heap.size+1) ?_ 57 (inA (inS f p k)) (0,0) _ K1.out.out Tryz.underlying57 ?_ (aK0 _) ?_);exact rfl;exact rfl;exact rfl;exact rfl)
  | ((with_reducible refine wpList_store_row ?_ 57 (.tmp 6) (.tmp 47) ?_ w.heap.size (inA (inS f p k)) ?_ ?_ 57 _ R1.out.out (aK0 _) (by simp only[aE8]) (aQ9 _) ?_);exact rfl;exact rfl;exact rfl;exact rfl)
 have R2:=R1.out.row (cs:=inA (inS f p k));have B2:=below_setRow B1.out yL (inA (inS f p k));exact bodyPost_ret (v:=.agg (inA (inS f p k))) (results_cell_row rfl _ _ w.heap.size 57 (inA (inS f p k)) (0,0) _ rfl R2 Tryz.underlying57 rfl (aK0 _)) rfl ⟨rfl,B2⟩
theorem goS_dst{f:Int→Int→Int}{B:Int}(h:GInv f B){x b:Int}{n:Nat}(hd:dst f x b=n+1)(hr:inS f x 16 b=true):
  inP (nxt f b n x)∧0<f x (nxt f b n x)∧inS f (nxt f b n x) n b=true∧dst f (nxt f b n x) b=n∧inS f (nxt f b n x) 16 b=true∧(∀y,inP y→y<nxt f b n x→¬(0<f x y∧inS f y n b=true))∧goS f b (dst f x b) x=x::goS f b (dst f (nxt f b n x) b) (nxt f b n x):=by
 obtain⟨d1,d2,d3⟩:=aDf hr;rw[hd]at d1 d2 d3;obtain⟨n1,n2,n3,n4,n5⟩:=nxt_spec h d1 (d3 n (by omega)) (fun m hm=>d3 m (by omega));have hdn:=aKr (by omega) n3 n4;refine⟨n1,n2,n3,hdn,aEi (by omega) n3,n5,?_⟩;rw[hd,hdn];rfl
theorem dst_zero{f:Int→Int→Int}{x b:Int}(hr:inS f x 16 b=true):dst f x b=0↔x=b:=by
 obtain⟨d1,d2,d3⟩:=aDf hr
 constructor
 ·intro h;rw[h]at d1;have:(b==x)=true:=d1;exact(beq_iff_eq.1 this).symm
 rintro rfl;exact aKr (by omega) (by show(x==x)=true;simp) (fun m hm=>by omega)
theorem shortW_len(f:Int→Int→Int)(a b:Int):(aAt f a b).length≤17:=by
 unfold aAt;split
 ·rename_i h;rw[aDs];have:=(aDf h.2.2.2).2.1;omega
 simp
def ShortPost(L:List Int)(w:World)(e:Ending)(w':World):Prop:=
 ∃v,e=.returned v∧w'.ownsRow w.heap.size 39 1 v L.length (L.map (.int .u8))∧Below w.heap.size w w'
theorem idx_in(b:Int→Bool){q:Int}(h0:0≤q)(h1:q<17)(w:World):(Instr.index 57 (.agg (inA b)) (.int .u8 q)).run Tryz.prog w=.ok (.bool (b q)) w:=by
 have hsz:∀w,(sizeOf 4).run Tryz.prog w=.ok 1 w:=fun w=>by kernel_rfl
 have hagg:∀w,(isAgg 4).run Tryz.prog w=.ok false w:=fun w=>by kernel_rfl
 have hg:=aNr b (i:=q.toNat) (by omega);simp only[Instr.index,asIntOf,Sem.run_bind,Sem.run_pure,Result.andThen_ok,run_underlying Tryz.underlying57];rw[if_pos ⟨h0,by omega⟩];rw[Int.toNat_of_nonneg h0]at hg;simp[part,hsz,hagg,hg]
def ShortAt(w:World)(f:Int→Int→Int)(b:Int)(full:List Int)(xv v:Value)(wr:World):Prop:=
 ∃(x:Int) (done:List Int),xv=.int .u8 x∧inP x∧inS f x 16 b=true∧done++goS f b (dst f x b) x=full∧done.length≤20∧wr.ownsRow w.heap.size 39 1 v (done++[x]).length ((done++[x]).map (.int .u8))∧Below w.heap.size w wr
def LeftAt6(W:World)(f:Int→Int→Int)(x b:Int)(i:Value)(wr:World):Prop:=
 ∃l:Nat,l≤dst f x b∧i=.int .i64 l∧Below W.heap.size W wr
def NextAt(W:World)(f:Int→Int→Int)(x b:Int)(n:Nat)(xv i:Value)(wr:World):Prop:=
 xv=.int .u8 x∧∃p:Int,1≤p∧p≤nxt f b n x∧i=.int .u8 p∧Below W.heap.size W wr
theorem rshort_any{w:World}{base g:Nat}{f:Int→Int→Int}{B:Int}{vl:Value}(h:RefG w base g (allE f) vl)(hI:GInv f B){a b:Int}(ha:In8 a)(hb:In8 b):
  Calls Tryz.prog 184 #[.pointer (some ⟨g,0,none⟩),.int .u8 a,.int .u8 b] w (ShortPost (aAt f a b) w):=by
 have H:=yH h;have HI:=yH hI;have hg:=h.blk.lt;obtain⟨a0,a9⟩:=ha;obtain⟨b0,b9⟩:=hb;clear h hI
 by_cases c1:inP a
 ·have CR:=yH (fun w' (k:Below w.heap.size w w') (x:Int) (hx:inP x) (n:Nat) (hn:n≤100)=>reach_any (H.out.below k) HI.out hx hn);obtain⟨a1,a2⟩:=c1
  by_cases c2:inP b
  ·obtain⟨b1,b2⟩:=c2;have qa1:decide (a<1)=false:=by simp;omega
   have qa2:decide (16<a)=false:=by simp;omega
   have qb1:decide (b<1)=false:=by simp;omega
   have qb2:decide (16<b)=false:=by simp;omega
   have IX:=yH (fun(c:Int→Bool) (w:World)=>idx_in c (q:=b) (by omega) (by omega) w)
   by_cases c3:(a==b)=true
   ·have E:Hid (aAt f a b=[]):=yH (by unfold aAt;rw[if_neg (fun h=>h.2.2.1 (by simpa using c3))]);go_enter Tryz.func184,Tryz.ntmps184;go_wp2_with fail;refine bodyPost_ret (v:=.slice none 0 0) (by simp[results,Tryz.results184,go_sem]) rfl ?_;exact⟨_,rfl,by rw[E.out];exact World.ownsRow_nil _ _ _ _,yZ⟩
   have c3:(a==b)=false:=by simpa using c3
   have hab:a≠b:=by simpa using c3
   have C16:=yH (CR.out w yZ a ⟨a1,a2⟩ 16 (by omega))
   by_cases c4:inS f a 16 b=true
   ·have E:Hid (aAt f a b=goS f b (dst f a b) a):=yH (by unfold aAt;rw[if_pos ⟨⟨a1,a2⟩,⟨b1,b2⟩,hab,c4⟩]);clear hab;go_enter Tryz.func184,Tryz.ntmps184;go_wp2_with fail;refine C16.out.mono ?_;rintro e w1 ⟨rfl,hb1⟩;have B1:=yH hb1;have IX1:=IX.out (inS f a 16);rw[c4]at IX1
    have O1:=yH (show(w1.alloc (.cells #[.int .u8 a] 39)).ownsRow w.heap.size 39 1 (.slice (some ⟨w1.heap.size,0,none⟩) 1 1) ([]++[a]).length (([]++[a]).map (.int .u8))from
     ⟨rfl,.inr ⟨w1.heap.size,1,#[.int .u8 a],rfl,hb1.size,pAA _ _ _,by simp,by simp[maxLen],rfl,rfl⟩⟩)
    have B2:=yH (hb1.alloc hb1.size (.cells #[.int .u8 a] 39));clear hb1 C16;go_wp2_with fail
    go_loopw [1,7] (ShortAt w f b (aAt f a b)) (fun x _ _=>dst f (intOf x) b)
    case atStart=>exact⟨a,[],rfl,⟨a1,a2⟩,c4,by rw[E.out];rfl,by simp,O1.out,B2.out⟩
    clear O1 B2 IX1 c4 B1;obtain⟨x,done,rfl,hx,hr,hfull,hdl,hown,hB⟩:=hrel;have FU:=yH hfull;have OW:=yH hown;have BB:=yH hB;have HR:=yH hr;have hgr:=yM hg hB.size;clear hfull hown hB
    by_cases hxb:x=b
    ·have q1:(x==b)=true:=by simp[hxb]
     have hz:=(dst_zero hr).2 hxb;have FF:Hid (done++[x]=aAt f a b):=yH (by have:=FU.out;rw[hz]at this;exact this);clear hxb hr hz FU;obtain⟨ao,cp,hv,_⟩:=aAd OW.out;subst hv;go_wp2_with fail;refine bodyPost_ret (v:=.slice ao (done++[x]).length cp) (by simp[results,Tryz.results184,go_sem]) rfl ?_;exact⟨_,rfl,by rw[←FF.out];exact OW.out,BB.out⟩
    have q1:(x==b)=false:=by simpa using hxb
    have qn:(x != b)=true:=by simp[bne,q1]
    obtain⟨n,hn⟩:∃n,dst f x b=n+1:=⟨dst f x b - 1,by
     have:dst f x b≠0:=fun h=>hxb ((dst_zero hr).1 h)
     omega⟩
    have DS:=yH (aDf hr);have GS:=yH (goS_dst HI.out hn hr);have HN:=yH hn;have hn16:n+1≤16:=by rw[←hn];exact(aDf hr).2.1
    have HX:=yH hx;have hsz:=BB.out.size;clear hr hxb hn hx;obtain⟨W,hW⟩:∃W,W=wr:=⟨_,rfl⟩;subst hW;go_wp2_with fail
    go_loopw [8] (LeftAt6 W f x b) (fun i _=>dst f x b - (intOf i).toNat)
    case atStart=>exact⟨0,Nat.zero_le _,rfl,yZ⟩
    obtain⟨l,hl,rfl,hb⟩:=hrel;have BL:=yH (BB.out.trans (hb.mono hsz));have BW:=yH hb;have CL:=yH (CR.out wr BL.out x HX.out l (by have:=HN.out;omega));have IXL:=IX.out (inS f x l);have hl16:l≤16:=by have:=HN.out;omega
    clear hb
    by_cases hln:l<dst f x b
    ·rw[DS.out.2.2 l hln]at IXL;go_wp2_with fail;refine CL.out.mono ?_;rintro e w3 ⟨rfl,hb3⟩;have B3:=yH (andB BW.out hb3);clear hb3 CL;go_wp2_with fail;go_roundw
     case rel=>exact⟨l+1,by omega,by go_num,B3.out⟩
     case measure=>simp[intOf];omega
    have hl2:l=dst f x b:=by omega
    rw[hl2,DS.out.1]at IXL;rw[hl2]at CL;rw[HN.out]at hl2 IXL CL;subst hl2;clear hln hl;obtain⟨N1,N2,N3,N4,N5,N6,N7⟩:=GS.out;have HN1:=yH N1;have HN2:=yH N2;have HN3:=yH N3;have HN6:=yH N6;have REST:=yH (And.intro N5 (And.intro N4 N7));have hnx:=N1;obtain⟨nx1,nx2⟩:=hnx;clear N1 N2 N3 N4 N5 N6 N7 GS;go_wp2_with fail;refine CL.out.mono ?_;rintro e w3 ⟨rfl,hb3⟩;have B3:=yH (andB BW.out hb3);clear hb3 CL BW BL;go_wp2_with fail;clear IXL
    go_loopw [1,9] (NextAt W f x b n) (fun _ i _=>17 - (intOf i).toNat)
    case atStart=>exact⟨rfl,1,by omega,nx1,rfl,B3.out⟩
    obtain⟨rfl,p,hp1,hp2,rfl,hb⟩:=hrel;have BW:=yH hb;have BL:=yH (BB.out.trans (hb.mono hsz));have CC:=yH (aIc (H.out.below BL.out) x p);rw[HI.out.cap]at CC;have CL:=yH (fun w' (k:Below wr.heap.size wr w')=>CR.out w' (BL.out.trans (k.mono BL.out.size)) p ⟨hp1,by omega⟩ n (by omega));have IXL:=IX.out (inS f p n);have hp16:p≤16:=by omega
    clear hb B3
    by_cases hpn:p=nxt f b n x
    ·have cpos:decide (0<f x p)=true:=by rw[hpn];simpa using HN2.out
     have cin:inS f p n b=true:=by rw[hpn];exact HN3.out
     rw[cin]at IXL;have hr5:=REST.out.1;have hr7:=REST.out.2.2;have hr4:=REST.out.2.1;rw[←hpn]at hr5 hr7 hr4;have FU2:Hid ((done++[x])++goS f b (dst f p b) p=aAt f a b):=yH (by rw[←FU.out,hr7];simp);have HP:=yH (show inP p from⟨hp1,hp16⟩);have HR5:=yH hr5;have hd2:dst f p b=n:=hr4;clear hr5 hr7 hr4 hpn cin REST HN2 HN3 HN6 nx1 nx2 hp2;generalize f x p=y at *;go_wp2_with fail;refine CC.out.mono ?_;rintro e wr ⟨rfl,rfl⟩;go_wp2_with fail;refine(CL.out wr yZ).mono ?_;rintro e w4 ⟨rfl,hb4⟩;have B4:=yT BL hb4;have O4:=yH (aAc OW.out (andB BW.out hb4));clear hb4 CL CC;go_wp2_with (at_builtin;refine aB3 _ rfl (.tmp 70) (.tmp 72) rfl w.heap.size _ (done++[x]) rfl (O4.out.alloc _) _ _ p rfl (pAA _ _ _) (by simp;omega) (by simp;have:=B4.out.size;omega) ?_);intro v5 w5 hown5 hgr5;have R2:∀k,Value.ownBlock _=some k→w.heap.size≤k:=fun k hk=>(aAe O4.out hk).1
     have B5:=yH ((B4.out.alloc B4.out.size (.cells #[.int .u8 p] 39)).grown hgr5 (by simp;have:=B4.out.size;omega) (fun k hk=>R2 k hk));have O5:=yH (show w5.ownsRow w.heap.size 39 1 v5 ((done++[x])++[p]).length (((done++[x])++[p]).map (.int .u8)) by simpa using hown5);clear R2 hown5 hgr5;go_wp2_with fail;go_roundw
     case rel=>exact⟨p,done++[x],rfl,HP.out,HR5.out,FU2.out,by have h1:=congrArg List.length FU2.out;rw[List.length_append,aDs]at h1;have h2:=shortW_len f a b;omega,O5.out,B5.out⟩
     case measure=>simp only[intOf];have:=HN.out;omega
    have hlt:p<nxt f b n x:=by omega
    have hno:=HN6.out p ⟨hp1,hp16⟩ hlt
    by_cases hpos:0<f x p
    ·have cpos:decide (0<f x p)=true:=by simpa using hpos
     have cin:inS f p n b=false:=by
      cases hc:inS f p n b with
      | false=>rfl
      | true=>exact absurd ⟨hpos,hc⟩ hno
     rw[cin]at IXL;clear hpos hno cin hpn;generalize f x p=y at *;go_wp2_with fail;refine CC.out.mono ?_;rintro e wr ⟨rfl,rfl⟩;go_wp2_with fail;refine(CL.out wr yZ).mono ?_;rintro e w4 ⟨rfl,hb4⟩;have B4:=yH (andB BW.out hb4);clear hb4 CL CC;go_wp2_with fail;go_roundw
     case rel=>exact⟨rfl,p+1,by omega,by omega,by go_num,B4.out⟩
     case measure=>simp[intOf];omega
    have cpos:decide (0<f x p)=false:=by simpa using hpos
    clear hpos hno hpn;generalize f x p=y at *;go_wp2_with fail;refine CC.out.mono ?_;rintro e wr ⟨rfl,rfl⟩;clear CL CC;go_wp2_with fail;go_roundw
    case rel=>exact⟨rfl,p+1,by omega,by omega,by go_num,BW.out⟩
    case measure=>simp[intOf];omega
   have E:Hid (aAt f a b=[]):=yH (by unfold aAt;rw[if_neg (fun h=>c4 h.2.2.2)]);have c4:inS f a 16 b=false:=by simpa using c4
   have IX1:=IX.out (inS f a 16);rw[c4]at IX1;clear hab;go_enter Tryz.func184,Tryz.ntmps184;go_wp2_with fail;refine C16.out.mono ?_;rintro e w1 ⟨rfl,hb1⟩;have B1:=yH hb1;clear hb1;go_wp2_with fail;refine bodyPost_ret (v:=.slice none 0 0) (by simp[results,Tryz.results184,go_sem]) rfl ?_;exact⟨_,rfl,by rw[E.out];exact World.ownsRow_nil _ _ _ _,B1.out⟩
  have E:Hid (aAt f a b=[]):=yH (by unfold aAt;rw[if_neg (fun h=>c2 h.2.1)]);unfold inP at c2;have hs:b<1∨(1≤b∧16<b):=by omega
  rcases hs with h1|⟨h1,h2⟩
  all_goals
   go_enter Tryz.func184,Tryz.ntmps184;go_wp2_with fail;refine bodyPost_ret (v:=.slice none 0 0) (by simp[results,Tryz.results184,go_sem]) rfl ?_;exact⟨_,rfl,by rw[E.out];exact World.ownsRow_nil _ _ _ _,yZ⟩
 have E:Hid (aAt f a b=[]):=yH (by unfold aAt;rw[if_neg (fun h=>c1 h.1)]);unfold inP at c1;have hs:a<1∨(1≤a∧16<a):=by omega
 rcases hs with h1|⟨h1,h2⟩
 all_goals
  go_enter Tryz.func184,Tryz.ntmps184;go_wp2_with fail;refine bodyPost_ret (v:=.slice none 0 0) (by simp[results,Tryz.results184,go_sem]) rfl ?_;exact⟨_,rfl,by rw[E.out];exact World.ownsRow_nil _ _ _ _,yZ⟩
theorem aC8.look{w:World}{base:Nat}{e:TypeId}{size:Nat}{v:Value}{n:Nat}{xs:List Value}(h:aC8 w base e size v n xs):
  ∃(ao:Option Addr) (cap:Nat),v=.slice ao n cap∧n≤cap∧cap≤maxLen∧xs.length=n*size∧(0<n→∃b,ao=some ⟨b,0,none⟩∧base≤b∧b<w.heap.size∧(∀j,j<n*size→w.cell? ⟨b,j,none⟩=xs[j]?)∧∀j,w.frozen? ⟨b,j,none⟩=false):=by
 obtain⟨h1,h2⟩:=h;rcases h2 with⟨rfl,rfl⟩|⟨g,cur,rfl,hb,hg,hm,hc,ht⟩
 ·exact⟨none,0,rfl,Nat.le_refl _,by decide,h1,fun h=>absurd h (by omega)⟩
 have hB:Blk w g cur e:=hg;refine⟨some ⟨g,0,none⟩,n,rfl,Nat.le_refl _,hm,h1,fun _=>⟨g,rfl,hb,lt_of_block hg,fun j hj=>?_,fun j=>hB.frozen j⟩⟩;rw[hB.cell,←ht,List.getElem?_take_of_lt hj,Array.getElem?_toList]
def aRa(e:TypeId)(L:List Int)(w:World)(en:Ending)(w':World):Prop:=
 ∃v,en=.returned v∧aC8 w' w.heap.size e 1 v L.length (L.map (.int .u8))∧Below w.heap.size w w'
def RowA(w:World)(base:Nat)(e:TypeId)(size:Nat)(v:Value)(n:Nat)(xs:List Value):Prop:=
 xs.length=n*size∧((v=.slice none 0 0∧n=0)∨∃g cap cur,v=.slice (some ⟨g,0,none⟩) n cap∧base≤g∧w.heap[g]? = some (.cells cur e (0,0))∧n≤cap∧cap≤maxLen∧cap*size≤cur.size∧cur.toList.take (n*size)=xs)
theorem pAG{w:World}{base:Nat}{e:TypeId}{size:Nat}{v:Value}{n:Nat}{xs:List Value}(h:aC8 w base e size v n xs):RowA w base e size v n xs:=by
 obtain⟨h1,h2⟩:=h;refine⟨h1,?_⟩;rcases h2 with h2|⟨g,cur,hv,hb,hg,c1,c2,c3⟩
 ·exact .inl h2
 exact .inr ⟨g,n,cur,hv,hb,hg,Nat.le_refl _,c1,c2,c3⟩
section
variable{w w':World}{base:Nat}{e:TypeId}{size:Nat}{v:Value}{n:Nat}{xs:List Value}
theorem RowA.keep{S:Nat→Prop}(h:RowA w base e size v n xs)(k:Keep S w w')(hs:∀b,v.ownBlock=some b→¬S b):RowA w' base e size v n xs:=by
 obtain⟨h1,h2⟩:=h;refine⟨h1,?_⟩;rcases h2 with h2|⟨g,cap,cur,rfl,hb,hg,hr⟩
 ·exact .inl h2
 refine .inr ⟨g,cap,cur,rfl,hb,?_,hr⟩;rw[k.block g (lt_of_block hg) (hs g rfl)];exact hg
theorem RowA.below(h:RowA w base e size v n xs)(k:Below w.heap.size w w'):RowA w' base e size v n xs:=
 h.keep (pAE (S:=fun _=>False) k) (fun _ _=>id)
theorem RowA.type(h:RowA w base e size v n xs){b:Nat}(hb:v.ownBlock=some b):base≤b∧b<w.heap.size∧∃cur,w.heap[b]? = some (.cells cur e (0,0)):=by
 obtain⟨_,h2⟩:=h;rcases h2 with⟨rfl,_⟩|⟨g,cap,cur,rfl,hge,hg,_⟩
 ·cases hb
 cases hb;exact⟨hge,lt_of_block hg,cur,hg⟩
theorem RowA.look(h:RowA w base e size v n xs)(h2:1≤size):
  ∃(ao:Option Addr) (cap:Nat),v=.slice ao n cap∧n≤cap∧cap≤maxLen∧xs.length=n*size∧(0<n→∃b,ao=some ⟨b,0,none⟩∧base≤b∧b<w.heap.size∧(∀j,j<n*size→w.cell? ⟨b,j,none⟩=xs[j]?)∧∀j,w.frozen? ⟨b,j,none⟩=false):=by
 obtain⟨h1,h2⟩:=h;rcases h2 with⟨rfl,rfl⟩|⟨g,cap,cur,rfl,hb,hg,c1,c2,c3,c4⟩
 ·exact⟨none,0,rfl,Nat.le_refl _,by decide,h1,fun h=>absurd h (by omega)⟩
 have hB:Blk w g cur e:=hg;refine⟨some ⟨g,0,none⟩,cap,rfl,c1,c2,h1,fun _=>⟨g,rfl,hb,lt_of_block hg,fun j hj=>?_,fun j=>hB.frozen j⟩⟩;rw[hB.cell,←c4,List.getElem?_take_of_lt hj,Array.getElem?_toList]
end
end Go.Proofs.YtojbmnbphdcjfaaGreat
