/- Pieces of one proof. -/
import Derived.Test.YtaeocliklpcgmaaGreatP05
import Derived.Deep.RegionLaw
import Derived.Maps.AppendAt
import Derived.StillTailTactics
import Derived.Deep.Slices
import Derived.Deep.Fields
import Derived.ChangeSame
import Derived.OpenShut
import Derived.Lib.SmallJoins
set_option linter.all false
set_option maxHeartbeats 64000000
set_option maxRecDepth 100000
namespace Go.Proofs.YtaeocliklpcgmaaGreat
open Go.RowKit
theorem rowA_set(v:Int→Int→Value)(p:Int){i:Nat}(hi:i<17)(u:Value):(rowA v p).setIfInBounds i u=rowA (fun a q=>if q=(i:Int)then u else v a q) p:=by
 apply Array.ext_getElem?;intro j
 by_cases hj:j<17
 ·rw[aGz _ p hj]
  by_cases h:i=j
  ·subst h;rw[Array.getElem?_setIfInBounds_self_of_lt (by rw[aEm];exact hj),if_pos rfl]
  rw[Array.getElem?_setIfInBounds_ne h,aGz v p hj,if_neg (by omega)]
 rw[Array.getElem?_eq_none (by simp[aEm];omega),Array.getElem?_eq_none (by rw[aEm];omega)]
theorem aMj{v u:Int→Int→Value}{p p':Int}(h:∀i:Nat,i<17→v p i=u p' i):rowA v p=rowA u p':=by
 apply Array.ext_getElem?;intro j
 by_cases hj:j<17
 ·rw[aGz v p hj,aGz u p' hj,h j hj]
 rw[Array.getElem?_eq_none (by rw[aEm];omega),Array.getElem?_eq_none (by rw[aEm];omega)]
def inA(b:Int→Bool):Array Value:=rowA (fun _ q=>.bool (b q)) 0
theorem aE1(b:Int→Bool):(inA b).size=17:=aEm _ _
theorem aNs(b:Int→Bool){i:Nat}(h:i<17):(inA b)[i]? = some (.bool (b i)):=aGz _ _ h
theorem aRg(b:Int→Bool){i:Nat}(hi:i<17)(u:Bool):(inA b).setIfInBounds i (.bool u)=inA fun q=>if q=(i:Int)then u else b q:=by
 unfold inA;rw[rowA_set _ _ hi];refine aMj fun j hj=>?_
 dsimp only;split <;> rfl
theorem aRh(b:Int→Bool):(inA b).all (·.oneCell')=true:=by
 rw[Array.all_eq_true];intro i hi;have h17:i<17:=by rw[aE1]at hi;exact hi
 have:=aNs b h17;rw[Array.getElem?_eq_getElem hi]at this;simp only[Option.some.injEq]at this;rw[this];rfl
theorem Blk.inAt{w:World}{g:Nat}{b:Int→Bool}{t:TypeId}(h:Blk w g (inA b) t){p:Int}(h0:0≤p)(h1:p<17):w.cell? ⟨g,p.toNat,none⟩=some (.bool (b p)):=by
 rw[h.cell,aNs b (by omega),Int.toNat_of_nonneg h0]
theorem Blk.inSet{w:World}{g:Nat}{b:Int→Bool}{t:TypeId}(h:Blk w g (inA b) t){p:Int}(h0:0≤p)(h1:p<17)(u:Bool):Blk (w.setCell ⟨g,p.toNat,none⟩ (.bool u)) g (inA fun q=>if q=p then u else b q) t:=by
 have:=h.set p.toNat (.bool u);rw[aRg b (by omega),Int.toNat_of_nonneg h0]at this;exact this
theorem zero_in:(∀w,(zeroValue 57).run Tryz.prog w=.ok (.agg (inA fun _=>false)) w)∧(Tryz.prog.info? 57).map (·.size)=some 17:=
 zero_of_info (by kernel_rfl)
theorem aK5(b:Int→Bool):(Tryz.prog.info? 57).map (·.size)=some (inA b).size:=by rw[aE1];exact zero_in.2
attribute [irreducible] inA
def aJ0(f:Int→Int→Int)(p:Int)(n:Nat)(es:List Fw)(q:Int):Bool:=inS f p n q || es.any fun e=>inS f p n e.fr && e.tt==q
theorem ledTo_next{f:Int→Int→Int}{p:Int}{n:Nat}{es:List Fw}{k:Nat}(hk:k<es.length)(q:Int):aJ0 f p n (es.take (k+1)) q=if inS f p n es[k].fr=true∧q=es[k].tt then true else aJ0 f p n (es.take k) q:=by
 unfold aJ0;rw[List.take_succ_eq_append_getElem hk,List.any_append];simp only[List.any_cons,List.any_nil,Bool.or_false]
 by_cases h:inS f p n es[k].fr=true∧q=es[k].tt
 ·rw[if_pos h,h.1,h.2];simp
 rw[if_neg h]
 have:(inS f p n es[k].fr && es[k].tt==q)=false:=by
  cases h1:inS f p n es[k].fr with
  | false=>rfl
  | true=>
   have:es[k].tt≠q:=fun e=>h ⟨h1,e.symm⟩
   simp[this]
 rw[this];simp
theorem ledTo_all{f:Int→Int→Int}{B:Int}(h:GInv f B)(p:Int)(n:Nat)(q:Int):aJ0 f p n (allE f) q=inS f p (n+1) q:=by
 show(inS f p n q || _)=(inS f p n q || parts.any fun r=>inS f p n r && decide (0<f r q));congr 1;rw[Bool.eq_iff_iff,List.any_eq_true,List.any_eq_true]
 constructor
 ·rintro⟨e,he,h1⟩;rw[Bool.and_eq_true,beq_iff_eq]at h1;obtain⟨e1,e2,e3,e4⟩:=aFs.1 he;refine⟨e.fr,aGb.2 e1,?_⟩;rw[Bool.and_eq_true,decide_eq_true_eq];refine⟨h1.1,?_⟩;rw[←h1.2,←e3];exact e4
 rintro⟨r,hr,h1⟩;rw[Bool.and_eq_true,decide_eq_true_eq]at h1;refine⟨⟨r,q,f r q⟩,aFs.2 ⟨aGb.1 hr,(h.ends h1.2).2.1,rfl,h1.2⟩,?_⟩;rw[Bool.and_eq_true,beq_iff_eq];exact⟨h1.1,rfl⟩
def ReachAt(w:World)(f:Int→Int→Int)(p:Int)(n:Nat)(i:Value)(wr:World):Prop:=
 ∃k:Nat,k≤n∧i=.int .i64 k∧Blk wr w.heap.size (inA fun _=>false) 57∧Blk wr (w.heap.size+1) (inA (inS f p k)) 57∧Below w.heap.size w wr
def ReachIn(w:World)(f:Int→Int→Int)(p:Int)(k W:Nat)(i:Value)(wr:World):Prop:=
 ∃j:Nat,j≤(allE f).length∧i=.int .i64 j∧Blk wr w.heap.size (inA fun _=>false) 57∧Blk wr (w.heap.size+1) (inA (aJ0 f p k ((allE f).take j))) 57∧Blk wr W (inA (inS f p k)) 57∧Below w.heap.size w wr
theorem reach_any{w:World}{base g:Nat}{f:Int→Int→Int}{B:Int}{vl:Value}(h:RefG w base g (allE f) vl)(hI:GInv f B){p:Int}(hp:inP p){n:Nat}(hn:n≤100):
  Calls Tryz.prog 217 #[.pointer (some ⟨g,0,none⟩),.int .u8 p,.int .i64 n] w (yR w (.agg (inA (inS f p n)))):=by
 obtain⟨ao,cap,rfl,hc1,hc2,hc3,hc4⟩:=aAd h.row;have HC:=yH hc4;have HI:=yH hI;have hg:=h.blk.lt;have dg0:=h.blk.cell 0;simp at dg0;have DG:=yH dg0;have hll:=aH7 f 256;have hll2:(allE f).length≤256:=hll;unfold maxLen at hc2;have hz:=zero_in.1;obtain⟨p1,p2⟩:=hp
 have ES:(inA fun _=>false).setIfInBounds p.toNat (.bool true)=inA (inS f p 0):=by
  rw[aRg _ (by omega),Int.toNat_of_nonneg (by omega)];congr 1
 have B1:=yH (((Below.refl w.heap.size w).alloc yL (.cells (inA fun _=>false) 57)).alloc (by simp) (.cells (inA (inS f p 0)) 57));have R1:=yH ((pAA w (inA fun _=>false) 57).alloc (.cells (inA (inS f p 0)) 57));have K1:=yH (pAC (w.alloc (.cells (inA fun _=>false) 57)) (inA (inS f p 0)) 57 (g:=w.heap.size+1) (by simp));have K0:=pAC (w.alloc (.cells (inA fun _=>false) 57)) (inA fun _=>false) 57 (g:=w.heap.size+1) (by simp);have dk:=K0.inAt (p:=p) (by omega) (by omega);have fk:=K0.frozen p.toNat;clear hc3 hc4 h hI K0 hll dg0;go_enter Tryz.func217,Tryz.ntmps217;go_wp2_with fail;generalize (w.alloc (.cells (inA fun _=>false) 57)).alloc (.cells (inA (inS f p 0)) 57)=W1 at *;clear dk fk ES
 go_loopw [8] (ReachAt w f p n) (fun i _=>n - (intOf i).toNat)
 case atStart=>exact⟨0,by omega,rfl,R1.out,K1.out,B1.out⟩
 clear R1 K1 B1;obtain⟨k,hk,rfl,hR,hK,hB⟩:=hrel;have R1:=yH hR;have K1:=yH hK;have B1:=yH hB;clear hR hK hB
 by_cases hkn:k<n
 ·have hkl:=K1.out.lt;have Z:=yH (pAA wr (inA fun _=>false) 57);have E1:=World.setRow_alloc_new wr (inA fun _=>false) (inA (inS f p k)) 57;have B2:=yH (B1.out.alloc B1.out.size (.cells (inA (inS f p k)) 57));have R2:=yH (R1.out.alloc (.cells (inA (inS f p k)) 57));have K2:=yH (K1.out.alloc (.cells (inA (inS f p k)) 57));have S2:=yH (pAA wr (inA (inS f p k)) 57)
  go_wp2_with first
   | ((with_reducible refine wpList_load_row ?_ 57 (.tmp 7) ?_ (w.heap.size+1) ?_ 57 (inA (inS f p k)) (0,0) _ K1.out.out Tryz.underlying57 ?_ (aK5 _) ?_);exact rfl;exact rfl;exact rfl;exact rfl)
   | ((with_reducible refine wpList_store_row ?_ 57 (.tmp 9) (.tmp 18) ?_ wr.heap.size (inA (inS f p k)) ?_ ?_ 57 _ Z.out.out (aK5 _) (by simp only[aE1]) (aRh _) ?_);exact rfl;exact rfl;exact rfl;exact rfl;rw[E1])
  generalize hW:wr.alloc (.cells (inA (inS f p k)) 57)=W at *;generalize hX:wr.heap.size=X at *;clear hW hX E1 Z
  go_loopw [10] (ReachIn w f p k X) (fun i _=>(allE f).length - (intOf i).toNat)
  case atStart=>exact⟨0,by omega,rfl,R2.out,by rw[show aJ0 f p k ((allE f).take 0)=inS f p k by funext q;simp[aJ0]];exact K2.out,S2.out,B2.out⟩
  clear R2 K2 S2 B2 R1 K1 B1;obtain⟨j,hj,rfl,hR,hK,hS,hB⟩:=hrel;have R1:=yH hR;have K1:=yH hK;have S1:=yH hS;have B1:=yH hB;clear hR hK hS hB;have dg:=(B1.out.cell (p:=⟨g,0,none⟩) hg).trans DG.out
  by_cases hjl:j<(allE f).length
  ·obtain⟨bl,rfl,hb1,hb2,hcell,_⟩:=HC.out (by omega);obtain⟨e0,e1,_⟩:=fw_cells hcell hjl;have d0:=(B1.out.cell (p:=⟨bl,j*3,none⟩) hb2).trans e0;have d1:=(B1.out.cell (p:=⟨bl,j*3+1,none⟩) hb2).trans e1;have NX:=yH (ledTo_next (f:=f) (p:=p) (n:=k) hjl);obtain⟨⟨a1,a2⟩,⟨b1,b2⟩,_⟩:=aFs.1 (List.getElem_mem hjl);generalize (allE f)[j]=x at *;have ds:=S1.out.inAt (p:=x.fr) (by omega) (by omega)
   by_cases hin:inS f p k x.fr=true
   ·rw[hin]at ds;have dk:=K1.out.inAt (p:=x.tt) (by omega) (by omega);have fk:=K1.out.frozen x.tt.toNat;have K2:=yH (K1.out.inSet (p:=x.tt) (by omega) (by omega) true);have R2:=yH (R1.out.setOther (a:=⟨w.heap.size+1,x.tt.toNat,none⟩) (by simp) (.bool true));have S2:=yH (S1.out.setOther (a:=⟨w.heap.size+1,x.tt.toNat,none⟩) (by simp;omega) (.bool true));have B2:=yH (B1.out.setCell (p:=⟨w.heap.size+1,x.tt.toNat,none⟩) (by simp) (.bool true))
    have NE:Hid ((fun q=>if q=x.tt then true else aJ0 f p k ((allE f).take j) q)=aJ0 f p k ((allE f).take (j+1))):=yH (by
     funext q
     rw[NX.out q,hin];simp)
    go_wp2_with fail;go_roundw
    case rel=>exact⟨j+1,by omega,by go_num,R2.out,by rw[←NE.out];exact K2.out,S2.out,B2.out⟩
    case measure=>simp[intOf];omega
   have hin:inS f p k x.fr=false:=by simpa using hin
   rw[hin]at ds
   have NE:Hid (aJ0 f p k ((allE f).take j)=aJ0 f p k ((allE f).take (j+1))):=yH (by
    funext q
    rw[NX.out q,hin];simp)
   go_wp2_with fail;go_roundw
   case rel=>exact⟨j+1,by omega,by go_num,R1.out,by rw[←NE.out];exact K1.out,S1.out,B1.out⟩
   case measure=>simp[intOf];omega
  have hjj:(allE f).take j=allE f:=List.take_of_length_le (by omega);rw[hjj]at K1;have NE:Hid (aJ0 f p k (allE f)=inS f p (k+1)):=yH (funext fun q=>ledTo_all HI.out p k q);rw[NE.out]at K1;go_wp2_with fail;go_roundw
  case rel=>exact⟨k+1,by omega,by go_num,R1.out,K1.out,B1.out⟩
  case measure=>simp[intOf];omega
 have hkn2:k=n:=by omega
 subst hkn2
 go_wp2_with first
  | ((with_reducible refine wpList_load_row ?_ 57 (.tmp 7) ?_ (w.heap.size+1) ?_ 57 (inA (inS f p k)) (0,0) _ K1.out.out Tryz.underlying57 ?_ (aK5 _) ?_);exact rfl;exact rfl;exact rfl;exact rfl)
  | ((with_reducible refine wpList_store_row ?_ 57 (.tmp 6) (.tmp 47) ?_ w.heap.size (inA (inS f p k)) ?_ ?_ 57 _ R1.out.out (aK5 _) (by simp only[aE1]) (aRh _) ?_);exact rfl;exact rfl;exact rfl;exact rfl)
 have R2:=R1.out.row (cs:=inA (inS f p k));have B2:=below_setRow B1.out yL (inA (inS f p k));exact bodyPost_ret (v:=.agg (inA (inS f p k))) (results_cell_row rfl _ _ w.heap.size 57 (inA (inS f p k)) (0,0) _ rfl R2 Tryz.underlying57 rfl (aK5 _)) rfl ⟨rfl,B2⟩
theorem goS_dst{f:Int→Int→Int}{B:Int}(h:GInv f B){x b:Int}{n:Nat}(hd:dst f x b=n+1)(hr:inS f x 16 b=true):
  inP (nxt f b n x)∧0<f x (nxt f b n x)∧inS f (nxt f b n x) n b=true∧dst f (nxt f b n x) b=n∧inS f (nxt f b n x) 16 b=true∧(∀y,inP y→y<nxt f b n x→¬(0<f x y∧inS f y n b=true))∧goS f b (dst f x b) x=x::goS f b (dst f (nxt f b n x) b) (nxt f b n x):=by
 obtain⟨d1,d2,d3⟩:=aC9 hr;rw[hd]at d1 d2 d3;obtain⟨n1,n2,n3,n4,n5⟩:=nxt_spec h d1 (d3 n (by omega)) (fun m hm=>d3 m (by omega));have hdn:=aKw (by omega) n3 n4;refine⟨n1,n2,n3,hdn,aEd (by omega) n3,n5,?_⟩;rw[hd,hdn];rfl
theorem dst_zero{f:Int→Int→Int}{x b:Int}(hr:inS f x 16 b=true):dst f x b=0↔x=b:=by
 obtain⟨d1,d2,d3⟩:=aC9 hr
 constructor
 ·intro h;rw[h]at d1;have:(b==x)=true:=d1;exact(beq_iff_eq.1 this).symm
 rintro rfl;exact aKw (by omega) (by show(x==x)=true;simp) (fun m hm=>by omega)
theorem shortW_len(f:Int→Int→Int)(a b:Int):(aAs f a b).length≤17:=by
 unfold aAs;split
 ·rename_i h;rw[aDn];have:=(aC9 h.2.2.2).2.1;omega
 simp
def ShortPost(L:List Int)(w:World)(e:Ending)(w':World):Prop:=
 ∃v,e=.returned v∧w'.ownsRow w.heap.size 43 1 v L.length (L.map (.int .u8))∧Below w.heap.size w w'
theorem idx_in(b:Int→Bool){q:Int}(h0:0≤q)(h1:q<17)(w:World):(Instr.index 57 (.agg (inA b)) (.int .u8 q)).run Tryz.prog w=.ok (.bool (b q)) w:=by
 have hsz:∀w,(sizeOf 4).run Tryz.prog w=.ok 1 w:=fun w=>by kernel_rfl
 have hagg:∀w,(isAgg 4).run Tryz.prog w=.ok false w:=fun w=>by kernel_rfl
 have hg:=aNs b (i:=q.toNat) (by omega);simp only[Instr.index,asIntOf,Sem.run_bind,Sem.run_pure,Result.andThen_ok,run_underlying Tryz.underlying57];rw[if_pos ⟨h0,by omega⟩];rw[Int.toNat_of_nonneg h0]at hg;simp[part,hsz,hagg,hg]
def ShortAt(w:World)(f:Int→Int→Int)(b:Int)(full:List Int)(xv v:Value)(wr:World):Prop:=
 ∃(x:Int) (done:List Int),xv=.int .u8 x∧inP x∧inS f x 16 b=true∧done++goS f b (dst f x b) x=full∧done.length≤20∧wr.ownsRow w.heap.size 43 1 v (done++[x]).length ((done++[x]).map (.int .u8))∧Below w.heap.size w wr
def LeftAt6(W:World)(f:Int→Int→Int)(x b:Int)(i:Value)(wr:World):Prop:=
 ∃l:Nat,l≤dst f x b∧i=.int .i64 l∧Below W.heap.size W wr
def NextAt(W:World)(f:Int→Int→Int)(x b:Int)(n:Nat)(xv i:Value)(wr:World):Prop:=
 xv=.int .u8 x∧∃p:Int,1≤p∧p≤nxt f b n x∧i=.int .u8 p∧Below W.heap.size W wr
theorem rshort_any{w:World}{base g:Nat}{f:Int→Int→Int}{B:Int}{vl:Value}(h:RefG w base g (allE f) vl)(hI:GInv f B){a b:Int}(ha:In8 a)(hb:In8 b):
  Calls Tryz.prog 195 #[.pointer (some ⟨g,0,none⟩),.int .u8 a,.int .u8 b] w (ShortPost (aAs f a b) w):=by
 have H:=yH h;have HI:=yH hI;have hg:=h.blk.lt;obtain⟨a0,a9⟩:=ha;obtain⟨b0,b9⟩:=hb;clear h hI
 by_cases c1:inP a
 ·have CR:=yH (fun w' (k:Below w.heap.size w w') (x:Int) (hx:inP x) (n:Nat) (hn:n≤100)=>reach_any (H.out.below k) HI.out hx hn);obtain⟨a1,a2⟩:=c1
  by_cases c2:inP b
  ·obtain⟨b1,b2⟩:=c2;have qa1:decide (a<1)=false:=by simp;omega
   have qa2:decide (16<a)=false:=by simp;omega
   have qb1:decide (b<1)=false:=by simp;omega
   have qb2:decide (16<b)=false:=by simp;omega
   have IX:=yH (fun(c:Int→Bool) (w:World)=>idx_in c (q:=b) (by omega) (by omega) w)
   by_cases c3:(a==b)=true
   ·have E:Hid (aAs f a b=[]):=yH (by unfold aAs;rw[if_neg (fun h=>h.2.2.1 (by simpa using c3))]);go_enter Tryz.func195,Tryz.ntmps195;go_wp2_with fail;refine bodyPost_ret (v:=.slice none 0 0) (by simp[results,Tryz.results195,go_sem]) rfl ?_;exact⟨_,rfl,by rw[E.out];exact World.ownsRow_nil _ _ _ _,yZ⟩
   have c3:(a==b)=false:=by simpa using c3
   have hab:a≠b:=by simpa using c3
   have C16:=yH (CR.out w yZ a ⟨a1,a2⟩ 16 (by omega))
   by_cases c4:inS f a 16 b=true
   ·have E:Hid (aAs f a b=goS f b (dst f a b) a):=yH (by unfold aAs;rw[if_pos ⟨⟨a1,a2⟩,⟨b1,b2⟩,hab,c4⟩]);clear hab;go_enter Tryz.func195,Tryz.ntmps195;go_wp2_with fail;refine C16.out.mono ?_;rintro e w1 ⟨rfl,hb1⟩;have IX1:=IX.out (inS f a 16);rw[c4]at IX1
    have O1:=yH (show(w1.alloc (.cells #[.int .u8 a] 43)).ownsRow w.heap.size 43 1 (.slice (some ⟨w1.heap.size,0,none⟩) 1 1) ([]++[a]).length (([]++[a]).map (.int .u8))from
     ⟨rfl,.inr ⟨w1.heap.size,1,#[.int .u8 a],rfl,hb1.size,pAA _ _ _,by simp,by simp[maxLen],rfl,rfl⟩⟩)
    have B2:=yH (hb1.alloc hb1.size (.cells #[.int .u8 a] 43));clear hb1 C16;go_wp2_with fail
    go_loopw [1,7] (ShortAt w f b (aAs f a b)) (fun x _ _=>dst f (intOf x) b)
    case atStart=>exact⟨a,[],rfl,⟨a1,a2⟩,c4,by rw[E.out];rfl,by simp,O1.out,B2.out⟩
    clear O1 B2 IX1 c4;obtain⟨x,done,rfl,hx,hr,hfull,hdl,hown,hB⟩:=hrel;have FU:=yH hfull;have OW:=yH hown;have BB:=yH hB;have hgr:=yM hg hB.size;clear hfull hown hB
    by_cases hxb:x=b
    ·have q1:(x==b)=true:=by simp[hxb]
     have hz:=(dst_zero hr).2 hxb;have FF:Hid (done++[x]=aAs f a b):=yH (by have:=FU.out;rw[hz]at this;exact this);clear hxb hr hz FU;obtain⟨ao,cp,hv,_⟩:=aAd OW.out;subst hv;go_wp2_with fail;refine bodyPost_ret (v:=.slice ao (done++[x]).length cp) (by simp[results,Tryz.results195,go_sem]) rfl ?_;exact⟨_,rfl,by rw[←FF.out];exact OW.out,BB.out⟩
    have q1:(x==b)=false:=by simpa using hxb
    have qn:(x != b)=true:=by simp[bne,q1]
    obtain⟨n,hn⟩:∃n,dst f x b=n+1:=⟨dst f x b - 1,by
     have:dst f x b≠0:=fun h=>hxb ((dst_zero hr).1 h)
     omega⟩
    have DS:=yH (aC9 hr);have GS:=yH (goS_dst HI.out hn hr);have HN:=yH hn;have hn16:n+1≤16:=by rw[←hn];exact(aC9 hr).2.1
    have HX:=yH hx;have hsz:=BB.out.size;clear hr hxb hn hx;obtain⟨W,hW⟩:∃W,W=wr:=⟨_,rfl⟩;subst hW;go_wp2_with fail
    go_loopw [8] (LeftAt6 W f x b) (fun i _=>dst f x b - (intOf i).toNat)
    case atStart=>exact⟨0,Nat.zero_le _,rfl,yZ⟩
    obtain⟨l,hl,rfl,hb⟩:=hrel;have BL:=yH (BB.out.trans (hb.mono hsz));have BW:=yH hb;have CL:=yH (CR.out wr BL.out x HX.out l (by have:=HN.out;omega));have IXL:=IX.out (inS f x l);have hl16:l≤16:=by have:=HN.out;omega
    clear hb
    by_cases hln:l<dst f x b
    ·rw[DS.out.2.2 l hln]at IXL;go_wp2_with fail;refine CL.out.mono ?_;rintro e w3 ⟨rfl,hb3⟩;have B3:=yH (andB BW.out hb3);clear hb3 CL;go_wp2_with fail;go_roundw
     case rel=>exact⟨l+1,by omega,by go_num,B3.out⟩
     case measure=>simp[intOf];omega
    have hl2:l=dst f x b:=by omega
    rw[hl2,DS.out.1]at IXL;rw[hl2]at CL;rw[HN.out]at hl2 IXL CL;subst hl2;clear hln hl;obtain⟨N1,N2,N3,N4,N5,N6,N7⟩:=GS.out;have HN2:=yH N2;have HN3:=yH N3;have HN6:=yH N6;have REST:=yH (And.intro N5 (And.intro N4 N7));have hnx:=N1;obtain⟨nx1,nx2⟩:=hnx;clear N1 N2 N3 N4 N5 N6 N7 GS;go_wp2_with fail;refine CL.out.mono ?_;rintro e w3 ⟨rfl,hb3⟩;have B3:=yH (andB BW.out hb3);clear hb3 CL BW BL;go_wp2_with fail;clear IXL
    go_loopw [1,9] (NextAt W f x b n) (fun _ i _=>17 - (intOf i).toNat)
    case atStart=>exact⟨rfl,1,by omega,nx1,rfl,B3.out⟩
    obtain⟨rfl,p,hp1,hp2,rfl,hb⟩:=hrel;have BW:=yH hb;have BL:=yH (BB.out.trans (hb.mono hsz));have CC:=yH (aH8 (H.out.below BL.out) x p);rw[HI.out.cap]at CC;have CL:=yH (fun w' (k:Below wr.heap.size wr w')=>CR.out w' (BL.out.trans (k.mono BL.out.size)) p ⟨hp1,by omega⟩ n (by omega));have IXL:=IX.out (inS f p n);have hp16:p≤16:=by omega
    clear hb B3
    by_cases hpn:p=nxt f b n x
    ·have cpos:decide (0<f x p)=true:=by rw[hpn];simpa using HN2.out
     have cin:inS f p n b=true:=by rw[hpn];exact HN3.out
     rw[cin]at IXL;have hr5:=REST.out.1;have hr7:=REST.out.2.2;have hr4:=REST.out.2.1;rw[←hpn]at hr5 hr7 hr4;have FU2:Hid ((done++[x])++goS f b (dst f p b) p=aAs f a b):=yH (by rw[←FU.out,hr7];simp);have HP:=yH (show inP p from⟨hp1,hp16⟩);have HR5:=yH hr5;have hd2:dst f p b=n:=hr4;clear hr5 hr7 hr4 hpn cin REST HN2 HN3 HN6 nx1 nx2 hp2;generalize f x p=y at *;go_wp2_with fail;refine CC.out.mono ?_;rintro e wr ⟨rfl,rfl⟩;go_wp2_with fail;refine(CL.out wr yZ).mono ?_;rintro e w4 ⟨rfl,hb4⟩;have B4:=yT BL hb4;have O4:=yH (aAc OW.out (andB BW.out hb4));clear hb4 CL CC;go_wp2_with (at_builtin;refine aBy _ rfl (.tmp 70) (.tmp 72) rfl w.heap.size _ (done++[x]) rfl (O4.out.alloc _) _ _ p rfl (pAA _ _ _) (by simp;omega) (by simp;have:=B4.out.size;omega) ?_);intro v5 w5 hown5 hgr5;have R2:∀k,Value.ownBlock _=some k→w.heap.size≤k:=fun k hk=>(aAe O4.out hk).1
     have B5:=yH ((B4.out.alloc B4.out.size (.cells #[.int .u8 p] 43)).grown hgr5 (by simp;have:=B4.out.size;omega) (fun k hk=>R2 k hk));have O5:=yH (show w5.ownsRow w.heap.size 43 1 v5 ((done++[x])++[p]).length (((done++[x])++[p]).map (.int .u8)) by simpa using hown5);clear R2 hown5 hgr5;go_wp2_with fail;go_roundw
     case rel=>exact⟨p,done++[x],rfl,HP.out,HR5.out,FU2.out,by have h1:=congrArg List.length FU2.out;rw[List.length_append,aDn]at h1;have h2:=shortW_len f a b;omega,O5.out,B5.out⟩
     case measure=>simp only[intOf];have:=HN.out;omega
    have hlt:p<nxt f b n x:=by omega
    have hno:=HN6.out p ⟨hp1,hp16⟩ hlt
    by_cases hpos:0<f x p
    ·have cpos:decide (0<f x p)=true:=by simpa using hpos
     have cin:inS f p n b=false:=by
      cases hc:inS f p n b with
      | false=>rfl
      | true=>exact absurd ⟨hpos,hc⟩ hno
     rw[cin]at IXL;clear hpos hno cin hpn;generalize f x p=y at *;go_wp2_with fail;refine CC.out.mono ?_;rintro e wr ⟨rfl,rfl⟩;go_wp2_with fail;refine(CL.out wr yZ).mono ?_;rintro e w4 ⟨rfl,hb4⟩;have B4:=yH (andB BW.out hb4);clear hb4 CL CC;go_wp2_with fail;go_roundw
     case rel=>exact⟨rfl,p+1,by omega,by omega,by go_num,B4.out⟩
     case measure=>simp[intOf];omega
    have cpos:decide (0<f x p)=false:=by simpa using hpos
    clear hpos hno hpn;generalize f x p=y at *;go_wp2_with fail;refine CC.out.mono ?_;rintro e wr ⟨rfl,rfl⟩;clear CL CC;go_wp2_with fail;go_roundw
    case rel=>exact⟨rfl,p+1,by omega,by omega,by go_num,BW.out⟩
    case measure=>simp[intOf];omega
   have E:Hid (aAs f a b=[]):=yH (by unfold aAs;rw[if_neg (fun h=>c4 h.2.2.2)]);have c4:inS f a 16 b=false:=by simpa using c4
   have IX1:=IX.out (inS f a 16);rw[c4]at IX1;clear hab;go_enter Tryz.func195,Tryz.ntmps195;go_wp2_with fail;refine C16.out.mono ?_;rintro e w1 ⟨rfl,hb1⟩;have B1:=yH hb1;clear hb1;go_wp2_with fail;refine bodyPost_ret (v:=.slice none 0 0) (by simp[results,Tryz.results195,go_sem]) rfl ?_;exact⟨_,rfl,by rw[E.out];exact World.ownsRow_nil _ _ _ _,B1.out⟩
  have E:Hid (aAs f a b=[]):=yH (by unfold aAs;rw[if_neg (fun h=>c2 h.2.1)]);unfold inP at c2;have hs:b<1∨(1≤b∧16<b):=by omega
  rcases hs with h1|⟨h1,h2⟩
  all_goals
   go_enter Tryz.func195,Tryz.ntmps195;go_wp2_with fail;refine bodyPost_ret (v:=.slice none 0 0) (by simp[results,Tryz.results195,go_sem]) rfl ?_;exact⟨_,rfl,by rw[E.out];exact World.ownsRow_nil _ _ _ _,yZ⟩
 have E:Hid (aAs f a b=[]):=yH (by unfold aAs;rw[if_neg (fun h=>c1 h.1)]);unfold inP at c1;have hs:a<1∨(1≤a∧16<a):=by omega
 rcases hs with h1|⟨h1,h2⟩
 all_goals
  go_enter Tryz.func195,Tryz.ntmps195;go_wp2_with fail;refine bodyPost_ret (v:=.slice none 0 0) (by simp[results,Tryz.results195,go_sem]) rfl ?_;exact⟨_,rfl,by rw[E.out];exact World.ownsRow_nil _ _ _ _,yZ⟩
theorem aCl.look{w:World}{base:Nat}{e:TypeId}{size:Nat}{v:Value}{n:Nat}{xs:List Value}(h:aCl w base e size v n xs):
  ∃(ao:Option Addr) (cap:Nat),v=.slice ao n cap∧n≤cap∧cap≤maxLen∧xs.length=n*size∧(0<n→∃b,ao=some ⟨b,0,none⟩∧base≤b∧b<w.heap.size∧(∀j,j<n*size→w.cell? ⟨b,j,none⟩=xs[j]?)∧∀j,w.frozen? ⟨b,j,none⟩=false):=by
 obtain⟨h1,h2⟩:=h;rcases h2 with⟨rfl,rfl⟩|⟨g,cur,rfl,hb,hg,hm,hc,ht⟩
 ·exact⟨none,0,rfl,Nat.le_refl _,by decide,h1,fun h=>absurd h (by omega)⟩
 have hB:Blk w g cur e:=hg;refine⟨some ⟨g,0,none⟩,n,rfl,Nat.le_refl _,hm,h1,fun _=>⟨g,rfl,hb,lt_of_block hg,fun j hj=>?_,fun j=>hB.frozen j⟩⟩;rw[hB.cell,←ht,List.getElem?_take_of_lt hj,Array.getElem?_toList]
def aRi(e:TypeId)(L:List Int)(w:World)(en:Ending)(w':World):Prop:=
 ∃v,en=.returned v∧aCl w' w.heap.size e 1 v L.length (L.map (.int .u8))∧Below w.heap.size w w'
def RowA(w:World)(base:Nat)(e:TypeId)(size:Nat)(v:Value)(n:Nat)(xs:List Value):Prop:=
 xs.length=n*size∧((v=.slice none 0 0∧n=0)∨∃g cap cur,v=.slice (some ⟨g,0,none⟩) n cap∧base≤g∧w.heap[g]? = some (.cells cur e (0,0))∧n≤cap∧cap≤maxLen∧cap*size≤cur.size∧cur.toList.take (n*size)=xs)
theorem pAG{w:World}{base:Nat}{e:TypeId}{size:Nat}{v:Value}{n:Nat}{xs:List Value}(h:aCl w base e size v n xs):RowA w base e size v n xs:=by
 obtain⟨h1,h2⟩:=h;refine⟨h1,?_⟩;rcases h2 with h2|⟨g,cur,hv,hb,hg,c1,c2,c3⟩
 ·exact .inl h2
 exact .inr ⟨g,n,cur,hv,hb,hg,Nat.le_refl _,c1,c2,c3⟩
section
variable{w w':World}{base:Nat}{e:TypeId}{size:Nat}{v:Value}{n:Nat}{xs:List Value}
theorem RowA.keep{S:Nat→Prop}(h:RowA w base e size v n xs)(k:Keep S w w')(hs:∀b,v.ownBlock=some b→¬S b):RowA w' base e size v n xs:=by
 obtain⟨h1,h2⟩:=h;refine⟨h1,?_⟩;rcases h2 with h2|⟨g,cap,cur,rfl,hb,hg,hr⟩
 ·exact .inl h2
 refine .inr ⟨g,cap,cur,rfl,hb,?_,hr⟩;rw[k.block g (lt_of_block hg) (hs g rfl)];exact hg
theorem RowA.below(h:RowA w base e size v n xs)(k:Below w.heap.size w w'):RowA w' base e size v n xs:=
 h.keep (pAE (S:=fun _=>False) k) (fun _ _=>id)
theorem RowA.type(h:RowA w base e size v n xs){b:Nat}(hb:v.ownBlock=some b):base≤b∧b<w.heap.size∧∃cur,w.heap[b]? = some (.cells cur e (0,0)):=by
 obtain⟨_,h2⟩:=h;rcases h2 with⟨rfl,_⟩|⟨g,cap,cur,rfl,hge,hg,_⟩
 ·cases hb
 cases hb;exact⟨hge,lt_of_block hg,cur,hg⟩
theorem RowA.look(h:RowA w base e size v n xs)(h2:1≤size):
  ∃(ao:Option Addr) (cap:Nat),v=.slice ao n cap∧n≤cap∧cap≤maxLen∧xs.length=n*size∧(0<n→∃b,ao=some ⟨b,0,none⟩∧base≤b∧b<w.heap.size∧(∀j,j<n*size→w.cell? ⟨b,j,none⟩=xs[j]?)∧∀j,w.frozen? ⟨b,j,none⟩=false):=by
 obtain⟨h1,h2⟩:=h;rcases h2 with⟨rfl,rfl⟩|⟨g,cap,cur,rfl,hb,hg,c1,c2,c3,c4⟩
 ·exact⟨none,0,rfl,Nat.le_refl _,by decide,h1,fun h=>absurd h (by omega)⟩
 have hB:Blk w g cur e:=hg;refine⟨some ⟨g,0,none⟩,cap,rfl,c1,c2,h1,fun _=>⟨g,rfl,hb,lt_of_block hg,fun j hj=>?_,fun j=>hB.frozen j⟩⟩;rw[hB.cell,←c4,List.getElem?_take_of_lt hj,Array.getElem?_toList]
end
theorem aIe(f:Int→Int→Int)(x:Nat→Int)(n:Int)(i:Nat):capX f x n (i+1)=min (capX f x n i) (f (x i) (x (i+1))):=rfl
theorem RefG.drewN{w:World}{base g k:Nat}{es:List Fw}{vl:Value}(h:RefG w base g es vl):RefG (w.drewN k) base g es vl:=⟨h.blk,h.ge,h.row⟩
def RoutePost(f:Int→Int→Int)(s t want:Int)(e:TypeId)(w:World)(en:Ending)(w':World):Prop:=
 ∃(σ:RS) (v:Value),en=.returned (.tuple #[v,.int .i64 (want - σ.left)])∧aAk f 4398046511104 s t want σ∧w'.ownsRow w.heap.size e 3 v σ.out.length (aAp σ.out)∧Below w.heap.size w w'
theorem aPd{P:Program}{w w':World}{base:Nat}{t ty e:TypeId}{i:TypeInfo}{z:Value}{size bytes:Nat}(ht:P.underlying t=some (.slice e))(hi:P.info? e=some i)(hz:i.zero=some z)(hsize:i.size=size)(hby:i.bytes=bytes)
  {v v':Value}{n:Nat}{xs:List Value}(hown:w.ownsRow base e size v n xs){ad:Addr}{c:Nat}{news:List Value}(hl:news.length=1*size)(hnews:∀j u,news[j]? = some u→w.cell? (ad.add j)=some u)(h1:∀u∈news,u.oneCell'=true)
  (hn:n≤100000)(hb:bytes≤1000)(hr:(Builtin.append_ #[t,t] ty #[v,.slice (some ad) 1 c]).run P w=.ok v' w'):v'.ownBlock=v.ownBlock∨v'.ownBlock=some w.heap.size:=by
 subst hsize;subst hby;have hbb:=Nat.mul_le_mul (show n+1≤100001 by omega) hb;rcases hown.2 with⟨rfl,rfl⟩|⟨g,cap,cur,rfl,hbg,hg,hnc,hcm,hcs,htake⟩
 ·have h2:=run_append_nil (P:=P) w t ty e i z ht hi hz ad 1 c news hl hnews (by omega) (by omega) (by omega);rw[h2]at hr;simp only[Result.ok.injEq]at hr;rw[←hr.1];exact .inr rfl
 by_cases hroom:n+1≤cap
 ·have hfit:n*i.size+news.length≤cur.size:=by rw[hl,hcs,←Nat.add_mul];exact Nat.mul_le_mul_right _ hroom
  have h2:=run_append_room (P:=P) w t ty e i ht hi g n cap cur hg ad 1 c news hl hnews h1 hroom hfit;rw[h2]at hr;simp only[Result.ok.injEq]at hr;rw[←hr.1];exact .inl rfl
 have holds:∀j u,xs[j]? = some u→w.cell? ((⟨g,0,none⟩:Addr).add j)=some u:=hown.cells (g:=g) rfl;have h2:=run_append_grow (P:=P) w t ty e i z ht hi hz ⟨g,0,none⟩ n cap xs hown.1 holds ad 1 c news hl hnews (by omega) (by omega) (growslice_fits (by omega) (by omega));rw[h2]at hr;simp only[Result.ok.injEq]at hr;rw[←hr.1];exact .inr rfl
theorem aL8{P:Program}{ops:Array Oper}{o:Oper}{a:Act}{w:World}{K:Act→World→Prop}{Q:Exit→Act→World→Prop}{E:Prop}
  (hg:o.guard=none)(s x:Operand)(t:TypeId)(hop:o.op=Op.call { callee:=Callee.builtin Builtin.append,args:=#[s,x],argTypes:=#[t,t] })
  (base:Nat)(e:TypeId){z:Value}(ht:P.underlying t=some (.slice e))(hz0:z.cells.size=3)(hi:(P.info? e).map (fun i=>(i.zero,i.size,i.bytes))=some (some z,3,16))(v:Value)(l:List Fw)(hs:a.eval s=v)(hown:w.ownsRow base e 3 v l.length (aAp l))
  (g c:Nat)(y:Fw)(hx:a.eval x=.slice (some ⟨g,0,none⟩) 1 c)(hy:Blk w g #[.int .u8 y.fr,.int .u8 y.tt,.int .i64 y.am] e)(hlen:l.length≤100000)(hbase:base≤w.heap.size)
  (hK:∀v' w',w'.ownsRow base e 3 v' (l++[y]).length (aAp (l++[y]))→w.grownBy w' v.ownBlock→(v'.ownBlock=v.ownBlock∨v'.ownBlock=some w.heap.size)→K (a.put o.dst v') w'):
  if Region.wanted o (yielded ops a.tmps)=true then Oper.wp P o a w K Q else E:=by
 have hw:Region.wanted o (yielded ops a.tmps)=true:=by simp[Region.wanted,hg]
 rw[if_pos hw];obtain⟨i0,hi1,hi2,hi3,hi4⟩:=info_parts hi
 have hnews:∀j u,y.vals[j]? = some u→w.cell? ((⟨g,0,none⟩:Addr).add j)=some u:=fun j u hj=>by
   have:=hy.cell j;rw[Go.WideShapes.add_plain,Nat.zero_add,this]
   match j,hj with
   | 0,hj=>simpa [Fw.vals]using hj
   | 1,hj=>simpa [Fw.vals]using hj
   | 2,hj=>simpa [Fw.vals]using hj
   | j+3,hj=>simp[Fw.vals]at hj
 have hone:∀u∈y.vals,u.oneCell'=true:=by
   intro u hu;simp[Fw.vals]at hu;rcases hu with rfl|rfl|rfl <;> rfl
 obtain⟨v',w',hr,h2,h3,_⟩:=run_append_own_at (P:=P) w base t o.type e i0 z 3 16 ht hi1 hi2 hi3 hi4 hz0 (by decide) v l.length (aAp l) hown ⟨g,0,none⟩ 1 c y.vals rfl hnews hone (by unfold maxLen;omega) (by omega) hbase;have h4:=aPd ht hi1 hi2 hi3 hi4 hown (ad:=⟨g,0,none⟩) (c:=c) (news:=y.vals) rfl hnews hone (by omega) (by omega) hr
 have h2':w'.ownsRow base e 3 v' (l++[y]).length (aAp (l++[y])):=by
  rw[List.length_append,show aAp (l++[y])=aAp l++y.vals by simp[aAp]];exact h2
 unfold Oper.wp execOp;simp only[hop,resolve,invoke,builtin,Sem.run_bind,Sem.run_pure,Result.andThen_ok,List.map_toArray,List.map_cons,List.map_nil,hs,hx,hr];exact hK v' w' h2' h3 h4
theorem way_block{w:World}{base:Nat}{e:TypeId}{v:Value}{L:List Int}(h:w.ownsRow base e 1 v L.length (L.map (.int .u8)))(h0:0<L.length):
  ∃bl cap cs,v=.slice (some ⟨bl,0,none⟩) L.length cap∧base≤bl∧Blk w bl cs e∧L.length≤cap∧cap≤maxLen∧∀i,i<L.length→cs[i]? = some (.int .u8 (L.getD i 0)):=by
 obtain⟨_,⟨_,h2⟩|⟨g,cap,cur,rfl,hb,hg,h1,h2,h3,h4⟩⟩:=h
 ·omega
 refine⟨g,cap,cur,rfl,hb,hg,h1,h2,fun p hp=>?_⟩;have:(cur.toList.take (L.length*1))[p]? = (L.map (Value.int .u8))[p]? := by rw[h4]
 rw[List.getElem?_take_of_lt (by omega),Array.getElem?_toList,List.getElem?_map]at this;rw[this,List.getElem?_eq_getElem hp];simp[List.getElem?_eq_getElem hp]
theorem aDe{w:World}{g h:Nat}{cs ds:Array Value}{t u:TypeId}(a:Blk w g cs t)(b:Blk w h ds u)(hn:t≠u):g≠h:=by
 rintro rfl;have e:=a.out;rw[b.out]at e;simp only[Option.some.injEq,Obj.cells.injEq]at e;exact hn e.2.1.symm
def RtAt(w:World)(base g:Nat)(f:Int→Int→Int)(s t want:Int)(ov lv:Value)(wr:World):Prop:=
 ∃(k:Nat) (σ:RS) (vl:Value),RInv f 4398046511104 s t want k σ∧lv=.int .i64 σ.left∧wr.ownsRow w.heap.size 220 3 ov σ.out.length (aAp σ.out)∧RefG wr base g (allE σ.f) vl∧(∀b,vl.ownBlock=some b→¬ov.ownBlock=some b)∧Below w.heap.size w wr
def CapAt(W:World)(f:Int→Int→Int)(x:Nat→Int)(n:Int)(m:Nat)(nv i:Value)(wr:World):Prop:=
 ∃j:Nat,j≤m∧i=.int .i64 ((j:Int)+1)∧nv=.int .i64 (capX f x n j)∧Below W.heap.size W wr
def PshAt(w:World)(base g:Nat)(f:Int→Int→Int)(x:Nat→Int)(n:Int)(m:Nat)(out:List Fw)(bl:Nat)(ov i:Value)(wr:World):Prop:=
 ∃(j:Nat) (vl:Value),j≤m∧i=.int .i64 ((j:Int)+1)∧wr.ownsRow w.heap.size 220 3 ov (out++flX x n j).length (aAp (out++flX x n j))∧RefG wr base g (allE (aDh f x n j)) vl∧(∀b,vl.ownBlock=some b→¬ov.ownBlock=some b)∧
  bl<wr.heap.size∧(∃cs,Blk wr bl cs 43∧∀i,i≤m→cs[i]? = some (.int .u8 (x i)))∧Below w.heap.size w wr
theorem aMk{w:World}{base g:Nat}{f:Int→Int→Int}{vl:Value}{s t want:Int}(h:RefG w base g (allE f) vl)(hI:GInv f 4398046511104)(hs:In8 s)(ht:In8 t)(hw:In64 want):
  Calls Tryz.prog 155 #[.pointer (some ⟨g,0,none⟩),.int .u8 s,.int .u8 t,.int .i64 want] w (RoutePost f s t want 220 w):=by
 have CC:=yH (rcopyG_any h (by have:=aH7 f 256;unfold allE;omega));have HI:=yH hI;have HS:=yH hs;have HT:=yH ht;obtain⟨w0,w9⟩:=hw;clear h hI hs ht;go_enter Tryz.func155,Tryz.ntmps155;go_wp2_with fail;refine CC.out.mono ?_;rintro e w1 ⟨c,vc,rfl,hr1,hc,hvc,b1⟩;have R1:=yH hr1;have B1:=yH b1;have S1:=yH (RInv.start HI.out s t want);have hb1:=b1.size;clear hr1 b1 CC hvc;go_wp2_with fail
 go_loopw [11,12] (RtAt w base c f s t want) (fun _ l _=>(intOf l).toNat)
 case atStart=>exact⟨0,_,vc,S1.out,rfl,World.ownsRow_nil _ _ _ _,R1.out,(fun b _ h=>by cases h),B1.out⟩
 clear R1 B1 S1;obtain⟨k,σ,vl,hS,rfl,hown,hR,hsep,hB⟩:=hrel;have SI:=yH hS;have OW:=yH hown;have RG:=yH hR;have SP:=yH hsep;have BB:=yH hB;have hlo:=hS.lo;have hhi:=hS.hi;clear hS hown hR hsep hB
 by_cases hpos:0<σ.left
 ·have CS:=yH (rshort_any RG.out SI.out.g HS.out HT.out)
  by_cases hL:aAs σ.f s t=[]
  ·rw[hL]at CS;have DN:=yH (⟨k,SI.out,.inr hL⟩:aAk f 4398046511104 s t want σ);clear hL;obtain⟨oo,oc,hov,_⟩:=aAd OW.out;subst hov;go_wp2_with fail;refine CS.out.mono ?_;rintro e w2 ⟨wv,rfl,hwo,b2⟩;obtain⟨wa,wc,rfl,_⟩:=aAd hwo;have O2:=yH (aAc OW.out b2);have B2:=yT BB b2;clear hwo b2 CS;go_wp2_with fail;refine bodyPost_ret (v:=.tuple #[.slice oo σ.out.length oc,.int .i64 (want - σ.left)]) (by simp[results,Tryz.results155,go_sem]) rfl ?_;exact⟨σ,_,rfl,DN.out,O2.out,B2.out⟩
  have hnd:¬aDv s t σ:=fun hd=>by
   rcases hd with q|q
   ·omega
   exact hL q
  obtain⟨m,n,hm,hw,hn,n1,n2,n3,he⟩:=SI.out.way hnd;have hsn:=SI.out.step hnd;rw[he]at hsn;have SN:=yH hsn;have WX:=yH hw;have NE:=yH n3;have HN:=yH hn;have hm15:=hw.m15;have hm1:=hw.m1;have hm0:=yH hm;clear hL hnd hsn hw n3 he hm hn;go_wp2_with fail;refine CS.out.mono ?_;rintro e W ⟨wv,rfl,hwo,b2⟩;obtain⟨bl,wc,cs,rfl,hbl,hcs,hwc1,hwc2,hxs⟩:=way_block hwo (by rw[hm0.out];omega);have hbW:=hcs.lt;have KW:=yH hcs;have O2:=yH (aAc OW.out b2);have RG2:=yH (RG.out.below b2);have B2:=yT BB b2;rw[hm0.out]at hwc1 ⊢;have XS:=yH (show ∀i,i≤m→cs[i]? = some (.int .u8 (wayX σ.f s t i))from fun i hi=>hxs i (by rw[hm0.out];omega));clear hwo b2 CS hcs hxs OW RG BB hm0;generalize hx:wayX σ.f s t=x at *;clear hx;obtain⟨N,hN⟩:∃N,N=m+1:=⟨_,rfl⟩;rw[←hN]at hwc1 ⊢;have HNN:=yH hN;have qN:((N:Int)==0)=false:=by simp;omega
  clear hN;go_wp2_with fail
  go_loopw [14,15] (CapAt W σ.f x σ.left m) (fun _ i _=>m+1 - (intOf i).toNat)
  case atStart=>exact⟨0,by omega,rfl,rfl,yZ⟩
  obtain⟨j,hj,rfl,rfl,hb⟩:=hrel;have BW:=yH hb;have hbr:=yM hbW hb.size;clear hb;have hNm:=HNN.out
  by_cases hjm:j<m
  ·have i0:(0:Int)≤(j:Int):=by omega
   have i1:(j:Int)<(N:Int):=by omega
   have i2:(j:Int)+1<(N:Int):=by omega
   have e0:=(BW.out.cell (p:=⟨bl,j,none⟩) hbW).trans ((KW.out.cell j).trans (XS.out j (by omega)));have e1:=(BW.out.cell (p:=⟨bl,j+1,none⟩) hbW).trans ((KW.out.cell (j+1)).trans (XS.out (j+1) (by omega)));have RGr:=yH (RG2.out.below BW.out);have CP:=yH (fun k=>aH8 (RGr.out.drewN (k:=k)) (x j) (x (j+1)));rw[SI.out.g.cap]at CP;have NX:=yH (aIe σ.f x σ.left j);clear hNm;generalize capX σ.f x σ.left j=y at *;generalize hz:σ.f (x j) (x (j+1))=z at *;generalize x j=u at *;generalize x (j+1)=v at *;clear hz;rcases Int.lt_or_le z y with hc|hc
   ·rw[Int.min_eq_right (by omega)]at NX;go_wp2_with fail
    go_quiet (refine Calls.quiet_of_same (CP.out _))
    go_wp2;go_roundw
    case rel=>exact⟨j+1,by omega,by go_num,by rw[NX.out],⟨BW.out.os,BW.out.tape,BW.out.output,BW.out.size,BW.out.block⟩⟩
    case measure=>simp[intOf];omega
   rw[Int.min_eq_left (by omega)]at NX;go_wp2_with fail
   go_quiet (refine Calls.quiet_of_same (CP.out _))
   go_wp2;go_roundw
   case rel=>exact⟨j+1,by omega,by go_num,by rw[NX.out],⟨BW.out.os,BW.out.tape,BW.out.output,BW.out.size,BW.out.block⟩⟩
   case measure=>simp[intOf];omega
  have hjm2:j=m:=by omega
  subst hjm2;have qj:decide ((j:Int)+1<(N:Int))=false:=by simp;omega
  rw[←HN.out];have RG3:=yH (RG2.out.below BW.out);have O3:=yH (aAc O2.out BW.out);have KW3:=yH (KW.out.below BW.out hbW);have B3:=yH (B2.out.trans (BW.out.mono B2.out.size));clear hNm BW RG2 O2 KW B2 HN;go_wp2_with fail
  go_loopw [11,16] (PshAt w base c σ.f x n j σ.out bl) (fun _ i _=>j+1 - (intOf i).toNat)
  case atStart=>exact⟨0,vl,by omega,rfl,by rw[show flX x n 0=[]from rfl,List.append_nil];exact O3.out,RG3.out,SP.out,KW3.out.lt,⟨cs,KW3.out,XS.out⟩,B3.out⟩
  clear RG3 O3 KW3 B3 hbr SP;obtain⟨i,vl,hi,rfl,hown,hR,hsep,hbr,⟨cs',hk',hx'⟩,hB⟩:=hrel;have OW:=yH hown;have RG:=yH hR;have SP:=yH hsep;have KW:=yH hk';have XW:=yH hx';have BB:=yH hB;clear hown hR hsep hk' hx' hB;have hNm:=HNN.out
  by_cases him:i<j
  ·have i0:(0:Int)≤(i:Int):=by omega
   have i1:(i:Int)<(N:Int):=by omega
   have i2:(i:Int)+1<(N:Int):=by omega
   have GI:=aIa SI.out.g WX.out n1 NE.out i (by omega);have hah:=aDx (n:=n) WX.out i i yL him;have hne:=NE.out i him
   have EE:Hid (aGa (allE (aDh σ.f x n i)) (x i) (x (i+1)) n=0∧aG9 (allE (aDh σ.f x n i)) (x i) (x (i+1)) n=allE (aDh σ.f x n (i+1))):=yH (by
    rw[aKu GI,aQ7 GI,hah,if_neg (by omega),if_neg (by omega),if_pos ⟨n1,hne⟩];exact⟨rfl,rfl⟩)
   have FX:Hid (σ.out++flX x n (i+1)=(σ.out++flX x n i)++[⟨x i,x (i+1),n⟩]):=yH (by rw[show flX x n (i+1)=flX x n i++[⟨x i,x (i+1),n⟩]from rfl,List.append_assoc]);have CP:=yH (fun w' (hS:Below wr.heap.size wr w')=>aO0 (RG.out.below hS) GI.capB (by decide) (by decide) (x i) (x (i+1)) n);have EU:=yH (XW.out i (by omega));have EV:=yH (XW.out (i+1) (by omega))
   have hlen:(σ.out++flX x n i).length≤90000:=by
    rw[List.length_append,aNl];have:=SI.out.len;have:=SI.out.k5;omega
   clear hNm hah hne GI;generalize x i=u at *;generalize x (i+1)=v at *;generalize σ.out++flX x n i=out at *;go_wp2_with fail
   refine aCi (by kernel_rfl) 11 16 [(.pointer (some ⟨c,0,none⟩)),(.slice (some ⟨bl,0,none⟩) N wc),(.int .i64 ((i:Int)+1)),(.int .i64 i),(.pointer (some ⟨bl,i,none⟩)),(.int .u8 u),(.slice (some ⟨bl,0,none⟩) N wc),(.int .i64 ((i:Int)+1)),(.pointer (some ⟨bl,i+1,none⟩)),(.int .u8 v),(.int .i64 n),(.int .i64 0)]
    (fun w'=>Below wr.heap.size wr w') (by kernel_rfl) rfl (by kernel_rfl) yZ.drew ?_
   intro af haf;simp only[yG,List.append_eq,List.cons_append,List.nil_append,puts,Act.put,yA,yC,yF,yD,yE]at haf;subst haf;refine⟨?_,?_⟩
   ·simp only[yG,List.take_succ_cons,List.take_zero,aBe];refine⟨?z1,?z2,?z3,?z4,?z5,?_,?z6,?z7,?z8,?_,?z9,trivial⟩
    case z1|z2|z3|z4|z5|z6|z7|z8|z9=>
     intro w' hS;refine yO rfl ?_;have HS:=yH hS;clear hS;go_wp2_with fail;all_goals first|exact HS|exact⟨rfl,HS⟩|rfl|exact⟨by omega,HS.out⟩
    ·intro w' hS;refine yO rfl ?_;have e:=(hS.cell (p:=⟨bl,i,none⟩) hbr).trans ((KW.out.cell i).trans EU.out);have HS:=yH hS;clear hS;go_wp2_with fail;all_goals first|exact HS|exact⟨rfl,HS⟩|rfl|exact⟨by omega,HS.out⟩
    intro w' hS;refine yO rfl ?_;have e:=(hS.cell (p:=⟨bl,i+1,none⟩) hbr).trans ((KW.out.cell (i+1)).trans EV.out);have HS:=yH hS;clear hS;go_wp2_with fail;all_goals first|exact HS|exact⟨rfl,HS⟩|rfl|exact⟨by omega,HS.out⟩
   simp only[yC,yA,yG];intro w' hS;refine yO rfl ?_;have CQ:=yH (CP.out w' hS);have HB:=yH hS;clear hS CP;go_wp2_with fail;refine CQ.out.mono ?_;rintro e w5 ⟨he,vl5,hr5,k5,n5⟩;rw[EE.out.1]at he;subst he;rw[EE.out.2]at hr5;refine⟨rfl,?_⟩;have O5:=yH (aAl (aAc OW.out HB.out) k5 (aAi (aAc OW.out HB.out) (RG.out.below HB.out).blk (by decide)));have hbc:bl≠c:=aDe KW.out RG.out.blk (by decide);have K5:=yH (show Blk w5 bl cs' 43 from(k5.block bl (yM hbr HB.out.size) hbc).trans (KW.out.below HB.out hbr));have B5:=yH ((BB.out.trans (HB.out.mono BB.out.size)).trans (k5.below (Nat.le_trans BB.out.size HB.out.size) (fun q hq e=>by omega)))
   have S5:=yH (show ∀b,vl5.ownBlock=some b→¬u11.ownBlock=some b from fun b hb1 hb2=>by
    rcases n5 with q|q
    ·rw[q]at hb1;exact SP.out b hb1 hb2
    have a1:=q b hb1;have a2:=(aAe OW.out hb2).2.1;have a3:=HB.out.size;omega)
   have R5:=yH hr5;have E5:=yH (K5.out.cell i);have E6:=yH (K5.out.cell (i+1));rw[EU.out]at E5;rw[EV.out]at E6;have hb5:=K5.out.lt;have e5:=E5.out;have e6:=E6.out;clear hr5 k5 n5 CQ OW SP RG KW hbc HB;go_wp2_with fail;have i4:(0:Int)≤(i:Int)+1:=by omega
   have hwi:IntKind.i64.wrap (i:Int)=(i:Int):=by simp[IntKind.wrap,IntKind.signed,IntKind.bits];omega
   go_region_law (refine aL8 rfl (.tmp 67) (.tmp 79) 214 rfl w.heap.size 220 Tryz.underlying214 rfl aNi u11 out rfl (aAc O5.out (yZ.drew.alloc yL _)) w5.heap.size 1 ⟨u,v,n⟩ rfl (pAA w5.drew _ _) (by omega) (by have:=B5.out.size;simp;omega) ?_;intro v' w' ho hgr hvb;have HO:=yH ho;have HGR:=yH hgr;have HVB:=yH hvb;clear ho hgr hvb)
   all_goals
    have R2:∀k,Value.ownBlock u11=some k→w.heap.size≤k:=fun k hk=>(aAe O5.out hk).1
    have O6:=yH (show World.ownsRow _ w.heap.size 220 3 _ (out++[(⟨u,v,n⟩:Fw)]).length (aAp (out++[(⟨u,v,n⟩:Fw)]))from HO.out);have B6:=yH (((B5.out.trans ((Below.refl w5.heap.size w5).drew.mono B5.out.size)).alloc (by have:=B5.out.size;simpa using this) _).grown HGR.out (by have:=B5.out.size;simp;omega) (fun k hk=>R2 k hk))
    have RG6:=yH (show RefG _ base c _ vl5 from
     ⟨(HGR.out.block c (by have:=R5.out.blk.lt;simp;omega) (fun e=>aAi O5.out R5.out.blk (by decide) _ e.symm rfl)).trans (R5.out.blk.drew.alloc _).out,R5.out.ge,aAl (S:=fun b=>u11.ownBlock=some b) (R5.out.below ((Below.refl w5.heap.size w5).drew.alloc yL _)).row ⟨HGR.out.os,HGR.out.tape,HGR.out.output,HGR.out.size,fun k hk hn=>HGR.out.block k hk (fun e=>hn e.symm)⟩ (fun b hb=>S5.out b hb)⟩)
    have KW6:=yH (show Blk _ bl cs' 43 from(HGR.out.block bl (by have:=K5.out.lt;simp;omega) (fun e=>aAi O5.out K5.out (by decide) _ e.symm rfl)).trans (K5.out.drew.alloc _).out)
    have S6:=yH (show ∀b,vl5.ownBlock=some b→¬v'.ownBlock=some b from fun b hb1 hb2=>by
     have a0:=(aAe R5.out.row hb1).2.1;rcases HVB.out with q|q
     ·rw[q]at hb2;exact S5.out b hb1 hb2
     rw[q]at hb2;simp at hb2;omega)
    have hb6:=KW6.out.lt;clear R2 HO HGR HVB R5 S5 K5 B5 O5 E5 E6 e5 e6;go_wp2;go_roundw
    case rel=>exact⟨i+1,vl5,by omega,by go_num,by rw[FX.out];exact O6.out,RG6.out,S6.out,hb6,⟨cs',KW6.out,XW.out⟩,B6.out⟩
    case measure=>simp[intOf];omega
  have hij:i=j:=by omega
  subst hij;obtain⟨oo,oc,hov,_⟩:=aAd OW.out;subst hov;clear hNm;go_wp2_with fail;go_roundw
  case rel=>exact⟨k+1,_,vl,SN.out,rfl,OW.out,RG.out,SP.out,BB.out⟩
  case measure=>simp[intOf];omega
 have DN:=yH (⟨k,SI.out,.inl (by omega)⟩:aAk f 4398046511104 s t want σ);obtain⟨oo,oc,hov,_⟩:=aAd OW.out;subst hov;rcases Int.lt_or_le 0 want with hwp|hwp
 ·have hlz:σ.left=0:=by omega
  rw[hlz];clear hpos hlo hhi;go_wp2_with fail;refine bodyPost_ret (v:=.tuple #[.slice oo σ.out.length oc,.int .i64 (want - σ.left)]) (by rw[hlz];simp[results,Tryz.results155,go_sem]) rfl ?_;exact⟨σ,_,rfl,DN.out,OW.out,BB.out⟩
 have hlz:σ.left=want:=by omega
 have hw0:=yH (show want - σ.left=0 by omega);rw[hlz];clear hpos hlo hhi hlz;rcases Int.lt_or_le want 0 with hn|hn
 ·go_wp2_with fail;refine bodyPost_ret (v:=.tuple #[.slice oo σ.out.length oc,.int .i64 (want - σ.left)]) (by rw[hw0.out];simp[results,Tryz.results155,go_sem]) rfl ?_;exact⟨σ,_,rfl,DN.out,OW.out,BB.out⟩
 have hz:want=0:=by omega
 clear hwp hn w0 w9;subst hz;go_wp2_with fail;refine bodyPost_ret (v:=.tuple #[.slice oo σ.out.length oc,.int .i64 (0 - σ.left)]) (by rw[hw0.out];simp[results,Tryz.results155,go_sem]) rfl ?_;exact⟨σ,_,rfl,DN.out,OW.out,BB.out⟩
def MostPost(f:Int→Int→Int)(s t:Int)(w:World)(en:Ending)(w':World):Prop:=
 ∃μ:RS,en=.returned (.int .i64 (aBs - μ.left))∧aAk f 4398046511104 s t aBs μ∧Below w.heap.size w w'
theorem rmost_any{w:World}{base g:Nat}{f:Int→Int→Int}{vl:Value}{s t:Int}(h:RefG w base g (allE f) vl)(hI:GInv f 4398046511104)(hs:In8 s)(ht:In8 t):
  Calls Tryz.prog 190 #[.pointer (some ⟨g,0,none⟩),.int .u8 s,.int .u8 t] w (MostPost f s t w):=by
 have C:=yH (aMk h hI hs ht (want:=4611686018427387904) (by unfold In64;omega));clear h hI hs ht;go_enter Tryz.func190,Tryz.ntmps190;go_wp2_with fail;refine C.out.mono ?_;rintro e w1 ⟨σ,v,rfl,hR,hown,hb⟩;have HR:=yH (show aAk f 4398046511104 s t aBs σ from hR);have HB:=yH hb;obtain⟨z,hz⟩:∃z,(4611686018427387904:Int) - σ.left=z:=⟨_,rfl⟩;have HZ:=yH (show z=aBs - σ.left from hz.symm);rw[hz];clear hz hR hb hown C;go_wp2_with fail;refine bodyPost_ret (v:=.int .i64 z) (by simp[results,Tryz.results190,go_sem]) rfl ?_;exact⟨σ,by rw[HZ.out],HR.out,HB.out⟩
end Go.Proofs.YtaeocliklpcgmaaGreat
namespace Go.Proofs.YtaeocliklpcgmaaGreat
open Go.RowKit Go.ChangeShapes Go.WideShapes Go.Deep
section
variable{H:Type}{enc:TypeId×Value→H}{P:Program}{w:World}{base:Nat}{spare:Nat→Bool}{held:Bool}
theorem nums_read{t:TypeId}{fs:Array Field}{ks:List IntKind}(hu:P.underlying t=some (.struct fs))(hone:oneCellFields P fs=true)(hC:P.cellsOf t=ks.length)
  (hk:∀(j:Nat) (k:IntKind),ks[j]? = some k→∃f,fs[j]? = some f∧P.underlying f.type=some (.int k)){fuel:Nat}{cs:List Value}{x:DataW H×List MemPlace}(h:DataW.trod enc P w base spare held fuel t cs=some x):
  cs.length=ks.length∧∀(j:Nat) (k:IntKind),ks[j]? = some k→∃n,cs[j]? = some (.int k n)∧(Lit.int k n).wf=true:=by
 obtain⟨xs,n,_,_,hlen,hxl,hf⟩:=DataW.trod_struct hu h;rw[hC]at hlen;refine⟨hlen,fun j k hj=>?_⟩;have hjl:j<ks.length:=(List.getElem?_eq_some_iff.1 hj).1;obtain⟨f,hfj,hfk⟩:=hk j k hj;obtain⟨ho,hc⟩:=hone_of hone j f hfj;have h1:=hf j f hfj
 have hone':(cs.drop j).take 1=[cs[j]'(by omega)]:=by
  rw[List.drop_eq_getElem_cons (by omega)];rfl
 rw[ho,hc,hone']at h1;have hjf:j<fs.size:=(Array.getElem?_eq_some_iff.1 hfj).1;have h2:xs[j]? = some (xs[j]'(by omega)):=List.getElem?_eq_getElem (by omega);rw[h2]at h1;obtain⟨m,hm,_,hw⟩:=DataW.trod_int hfk h1;refine⟨m,?_,hw⟩;rw[List.getElem?_eq_getElem (by omega)];simpa using hm
end
structure Ac where
 k:Int
 a:Int
 b:Int
 c:Int
 n:Int
def Ac.vals(x:Ac):List Value:=[.int .u8 x.k,.int .u8 x.a,.int .u8 x.b,.int .u8 x.c,.int .i64 x.n]
structure Ac.Ok(x:Ac):Prop where
 k:In8 x.k
 a:In8 x.a
 b:In8 x.b
 c:In8 x.c
 n:In64 x.n
theorem In8.of_wf{n:Int}(h:(Lit.int .u8 n).wf=true):In8 n:=by
 simp[Lit.wf,IntKind.min,IntKind.max,IntKind.signed,IntKind.bits]at h;exact⟨by omega,by omega⟩
theorem ac_of{cs:List Value}(h1:cs.length=5)(h:∀(j:Nat) (k:IntKind),([.u8,.u8,.u8,.u8,.i64]:List IntKind)[j]? = some k→∃n,cs[j]? = some (.int k n)∧(Lit.int k n).wf=true):∃x:Ac,x.Ok∧cs=x.vals:=by
 obtain⟨n0,e0,w0⟩:=h 0 _ rfl;obtain⟨n1,e1,w1⟩:=h 1 _ rfl;obtain⟨n2,e2,w2⟩:=h 2 _ rfl;obtain⟨n3,e3,w3⟩:=h 3 _ rfl;obtain⟨n4,e4,w4⟩:=h 4 _ rfl
 match cs,h1 with
 | [c0,c1,c2,c3,c4],_=>
  simp at e0 e1 e2 e3 e4;subst e0 e1 e2 e3 e4;exact⟨⟨n0,n1,n2,n3,n4⟩,⟨In8.of_wf w0,In8.of_wf w1,In8.of_wf w2,In8.of_wf w3,In64.of_wf w4⟩,rfl⟩
theorem act_kinds:∃fs,Tryz.prog.underlying 99=some (.struct fs)∧oneCellFields Tryz.prog fs=true∧∀(j:Nat) (k:IntKind),([.u8,.u8,.u8,.u8,.i64]:List IntKind)[j]? = some k→∃f,fs[j]? = some f∧Tryz.prog.underlying f.type=some (.int k):=by
 refine⟨_,Tryz.underlying99,by kernel_rfl,?_⟩;intro j k hj
 match j,hj with
 | 0,hj=>cases hj;exact⟨_,rfl,Tryz.underlying5⟩
 | 1,hj=>cases hj;exact⟨_,rfl,Tryz.underlying43⟩
 | 2,hj=>cases hj;exact⟨_,rfl,Tryz.underlying43⟩
 | 3,hj=>cases hj;exact⟨_,rfl,Tryz.underlying44⟩
 | 4,hj=>cases hj;exact⟨_,rfl,Tryz.underlying2⟩
 | j+5,hj=>simp at hj
section
variable{H:Type}{enc:TypeId×Value→H}{w:World}{base:Nat}{spare:Nat→Bool}{held:Bool}
theorem act_read{fuel:Nat}{cs:List Value}{x:DataW H×List MemPlace}(h:DataW.trod enc Tryz.prog w base spare held fuel 99 cs=some x):∃x:Ac,x.Ok∧cs=x.vals:=by
 obtain⟨fs,hu,ho,hk⟩:=act_kinds;have hC:Tryz.prog.cellsOf 99=5:=by kernel_rfl
 generalize Tryz.prog=P at *;obtain⟨h1,h2⟩:=nums_read (ks:=[.u8,.u8,.u8,.u8,.i64]) hu ho hC hk h;exact ac_of h1 h2
def aHb(w:World)(a:Option Addr)(len cap:Nat)(xs:List Ac):Prop:=
 xs.length=len∧(∀x∈xs,x.Ok)∧len≤cap∧cap≤maxLen∧(0<len→∃b off,a=some ⟨b,off,none⟩∧b<w.heap.size∧∀i (h:i<xs.length) (j:Nat) (v:Value),xs[i].vals[j]? = some v→w.cell? ⟨b,off+i*5+j,none⟩=some v)
theorem acts_open{a:Option Addr}{len cap:Nat}{d:DataW H}{p:List MemPlace}(h:DataW.Trod enc Tryz.prog w base spare held 22 (.slice a len cap) d p):∃xs,aHb w a len cap xs:=by
 obtain⟨fuel,hf⟩:=h;rcases open_slice Tryz.underlying22 hf with⟨h0,_⟩|⟨ad,l,c,m,n,D,Pl,hcs,hb,hl,hm,hmm,hx,hi⟩
 ·simp[Value.cells]at h0;obtain⟨rfl,rfl,rfl⟩:=h0;exact⟨[],rfl,by simp,Nat.le_refl _,by unfold maxLen;omega,fun h=>by omega⟩
 simp[Value.cells]at hcs;obtain⟨rfl,rfl,rfl⟩:=hcs;have hC:Tryz.prog.cellsOf 99=5:=by kernel_rfl
 have hlm:len≤m:=by rw[hmm];split <;> omega
 have key:∀i,i<len→∃x:Ac,x.Ok∧∀(j:Nat) (v:Value),x.vals[j]? = some v→w.cell? ((ad.add (i*5)).add j)=some v:=by
  intro i hil;obtain⟨cs',hc,ht⟩:=hi i (by omega);rw[hC]at hc;obtain⟨x,hx,rfl⟩:=act_read ht;obtain⟨_,_,hat⟩:=World.cells?_some hc;refine⟨x,hx,fun j v hj=>?_⟩
  have hj5:j<5:=by
   have:=(List.getElem?_eq_some_iff.1 hj).1;exact this
  rw[hat j hj5,hj]
 have hex:∀k,k≤len→∃xs:List Ac,xs.length=k∧(∀x∈xs,x.Ok)∧∀i (h:i<xs.length) (j:Nat) (v:Value),xs[i].vals[j]? = some v→w.cell? ((ad.add (i*5)).add j)=some v:=by
  intro k
  induction k with
  | zero=>intro _;exact⟨[],rfl,by simp,fun i h=>by simp at h⟩
  | succ k ih=>
   intro hk;obtain⟨xs,h1,h2,h3⟩:=ih (by omega);obtain⟨x,hx,hxc⟩:=key k (by omega);refine⟨xs++[x],by simp[h1],?_,?_⟩
   ·intro y hy;rcases List.mem_append.1 hy with hy|hy
    ·exact h2 y hy
    rw[List.mem_singleton]at hy;rw[hy];exact hx
   intro i hi j v hv
   by_cases hik:i<xs.length
   ·rw[List.getElem_append_left hik]at hv;exact h3 i hik j v hv
   have:i=k:=by rw[List.length_append,List.length_singleton]at hi;omega
   subst this;rw[List.getElem_append_right (by omega)]at hv;simp[h1]at hv;exact hxc j v hv
 obtain⟨xs,h1,h2,h3⟩:=hex len yL;refine⟨xs,h1,h2,hl,hm,fun hp=>?_⟩;have h00:=h3 0 (by omega) 0 _ rfl
 have hsp:ad.spot=none:=by
  rcases hs:ad.spot with _|s
  ·rfl
  exfalso;rw[Go.Deep.add_add]at h00;have e:(ad.add (0*5+0)).spot=ad.spot:=by cases ad;simp[Addr.add]
  unfold World.cell? at h00;rw[e,hs]at h00;split at h00
  ·simp at h00
  cases h00
 obtain⟨b,off,sp⟩:=ad;simp only at hsp;subst hsp
 have hcell:∀i (h:i<xs.length) (j:Nat) (v:Value),xs[i].vals[j]? = some v→w.cell? ⟨b,off+i*5+j,none⟩=some v:=by
  intro i hi j v hv;have:=h3 i hi j v hv;rw[Go.Deep.add_add,Go.WideShapes.add_plain]at this;rw[Nat.add_assoc];exact this
 exact⟨b,off,rfl,World.block_lt_of_cell? _ _ (hcell 0 (by omega) 0 _ rfl),hcell⟩
end
theorem aHb.below{w w':World}{a:Option Addr}{len cap:Nat}{xs:List Ac}(h:aHb w a len cap xs)(k:Below w.heap.size w w'):aHb w' a len cap xs:=by
 obtain⟨h1,h2,h3,h4,h5⟩:=h;refine⟨h1,h2,h3,h4,fun hp=>?_⟩;obtain⟨b,off,rfl,hlt,hc⟩:=h5 hp;exact⟨b,off,rfl,yM hlt k.size,fun i hi j v hv=>by rw[k.cell (p:=⟨b,off+i*5+j,none⟩) hlt];exact hc i hi j v hv⟩
theorem aHb.at{w:World}{a:Option Addr}{len cap:Nat}{xs:List Ac}(h:aHb w a len cap xs){i:Nat}(hi:i<xs.length):∃b off,a=some ⟨b,off,none⟩∧b<w.heap.size∧
  w.cell? ⟨b,off+i*5,none⟩=some (.int .u8 xs[i].k)∧w.cell? ⟨b,off+i*5+1,none⟩=some (.int .u8 xs[i].a)∧w.cell? ⟨b,off+i*5+2,none⟩=some (.int .u8 xs[i].b)∧w.cell? ⟨b,off+i*5+3,none⟩=some (.int .u8 xs[i].c)∧w.cell? ⟨b,off+i*5+4,none⟩=some (.int .i64 xs[i].n):=by
 obtain⟨h1,h2,h3,h4,h5⟩:=h;obtain⟨b,off,rfl,hlt,hc⟩:=h5 (by omega);exact⟨b,off,rfl,hlt,by have:=hc i hi 0 _ rfl;simpa using this,hc i hi 1 _ rfl,hc i hi 2 _ rfl,hc i hi 3 _ rfl,hc i hi 4 _ rfl⟩
end Go.Proofs.YtaeocliklpcgmaaGreat
