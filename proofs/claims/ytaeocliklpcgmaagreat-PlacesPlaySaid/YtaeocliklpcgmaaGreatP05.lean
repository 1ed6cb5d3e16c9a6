/- Pieces of one proof. -/
import Derived.Test.YtaeocliklpcgmaaGreatP04
set_option linter.all false
set_option maxHeartbeats 64000000
set_option maxRecDepth 100000
namespace Go.Proofs.YtaeocliklpcgmaaGreat
open Go.RowKit
structure RefL(w:World)(base g:Nat)(ps:List Int)(ls:List Ln)(vp vl:Value):Prop where
 blk:Blk w g #[vp,vl] 157
 ge:base≤g
 p:w.ownsRow base 43 1 vp ps.length (ps.map (.int .u8))
 l:w.ownsRow base 115 5 vl ls.length (aAz ls)
theorem aC1{w:World}{base g:Nat}{ps:List Int}{ls:List Ln}{vp vl:Value}(h:RefL w base g ps ls vp vl)(p:Int):
  Calls Tryz.prog 48 #[.pointer (some ⟨g,0,none⟩),.int .u8 p] w (yV w (.bool (decide (p∈ps)))):=by
 have d0:=h.blk.cell 0;simp at d0;obtain⟨ao,cap,rfl,hc1,hc2,hc3,hc4⟩:=aAd h.p;have HC:=yH hc4;unfold maxLen at hc2;clear hc3 hc4 h;go_enter Tryz.func48,Tryz.ntmps48;go_wp2
 go_loop [5] (fun i=>∃k:Nat,k≤ps.length∧i=.int .i64 k∧Hid (p∉ps.take k)) (fun i=>ps.length - (intOf i).toNat)
 case atStart=>exact⟨0,Nat.zero_le _,rfl,yH (by simp)⟩
 obtain⟨k,hk,rfl,hn⟩:=hrel
 by_cases hkl:k<ps.length
 ·obtain⟨b,rfl,hb1,hb2,hcell,_⟩:=HC.out (by omega);have hck:w.cell? ⟨b,k,none⟩=some (.int .u8 ps[k]):=by rw[hcell k (by omega)];simp[hkl]
  clear hcell
  by_cases he:ps[k]=p
  ·have hq:(ps[k]==p)=true:=by simp[he]
   have hin:decide (p∈ps)=true:=by rw[decide_eq_true_eq,←he];exact List.getElem_mem hkl
   have HI:=yH hin;clear he hin;go_wp2;go_ret;exact⟨by rw[HI.out];rfl,rfl⟩
  have hq:(ps[k]==p)=false:=by simp[he]
  have HN:Hid (p∉ps.take (k+1)):=yH (by
   rw[List.take_succ_eq_append_getElem hkl];simp only[List.mem_append,List.mem_singleton,not_or];exact⟨hn.out,fun e=>he e.symm⟩)
  clear he;go_wp2
  go_round
  case rel=>exact⟨k+1,by omega,by go_num,HN⟩
  case measure=>simp[intOf];omega
 have hin:decide (p∈ps)=false:=by
  rw[decide_eq_false_iff_not];have:=hn.out
  rwa [List.take_of_length_le (by omega)]at this
 have HI:=yH hin;clear hin;go_wp2;go_ret;exact⟨by rw[HI.out];rfl,rfl⟩
theorem aPb(x:Ln)(w:World)(h:x.Fits):
  Calls Tryz.prog 146 #[x.val] w (yR w (.int .i64 x.rank)):=by
 obtain⟨⟨a1,a2⟩,⟨b1,b2⟩,⟨c1,c2⟩,_,_⟩:=h;have B0:=yH ((Below.refl w.heap.size w).alloc yL (.cells #[.int .u8 x.cr,.int .u8 x.de,.int .u8 x.cu,.int .i64 x.li,.int .i64 x.db] 115));unfold Ln.val Ln.rank;go_enter Tryz.func146,Tryz.ntmps146;go_wp2;go_ret;exact⟨rfl,B0.out⟩
theorem aNr{w:World}{b:Nat}{ls:List Ln}(h:∀j,j<ls.length*5→w.cell? ⟨b,j,none⟩=(aAz ls)[j]?){k:Nat}(hk:k<ls.length):
  w.cell? ⟨b,k*5,none⟩=some (.int .u8 ls[k].cr)∧w.cell? ⟨b,k*5+1,none⟩=some (.int .u8 ls[k].de)∧w.cell? ⟨b,k*5+2,none⟩=some (.int .u8 ls[k].cu)∧w.cell? ⟨b,k*5+3,none⟩=some (.int .i64 ls[k].li)∧w.cell? ⟨b,k*5+4,none⟩=some (.int .i64 ls[k].db):=by
 refine⟨?_,?_,?_,?_,?_⟩
 ·have:=aA7 ls k 0 (by omega) hk;rw[Nat.add_zero]at this;rw[h _ (by omega),this];rfl
 ·rw[h _ (by omega),aA7 ls k 1 (by omega) hk];rfl
 ·rw[h _ (by omega),aA7 ls k 2 (by omega) hk];rfl
 ·rw[h _ (by omega),aA7 ls k 3 (by omega) hk];rfl
 rw[h _ (by omega),aA7 ls k 4 (by omega) hk];rfl
theorem take_next{α:Type}{q:α→Prop}{l:List α}{k:Nat}(h:k<l.length)(hn:∀x∈l.take k,q x)(hx:q l[k]):∀x∈l.take (k+1),q x:=by
 rw[List.take_succ_eq_append_getElem h];intro x hx';rcases List.mem_append.1 hx' with h1|h1
 ·exact hn x h1
 rw[List.mem_singleton]at h1;rw[h1];exact hx
theorem rat_any{w:World}{base g:Nat}{ps:List Int}{ls:List Ln}{vp vl:Value}(h:RefL w base g ps ls vp vl)(p q c:Int):
  Calls Tryz.prog 145 #[.pointer (some ⟨g,0,none⟩),.int .u8 p,.int .u8 q,.int .u8 c] w (yV w (.int .i64 (atL ls p q c))):=by
 have d0:=h.blk.cell 1;simp at d0;obtain⟨ao,cap,rfl,hc1,hc2,hc3,hc4⟩:=aAd h.l;have HC:=yH hc4;unfold maxLen at hc2;clear hc3 hc4 h;go_enter Tryz.func145,Tryz.ntmps145;go_wp2
 go_loop [9] (fun i=>∃k:Nat,k≤ls.length∧i=.int .i64 k∧Hid (∀x∈ls.take k,x.is p q c=false)) (fun i=>ls.length - (intOf i).toNat)
 case atStart=>exact⟨0,Nat.zero_le _,rfl,yH (by simp)⟩
 obtain⟨k,hk,rfl,hn⟩:=hrel
 by_cases hkl:k<ls.length
 ·obtain⟨b,rfl,hb1,hb2,hcell,_⟩:=HC.out (by omega);obtain⟨e0,e1,e2,_,_⟩:=aNr hcell hkl
  have hs:((ls[k].cr==p)=true∧(ls[k].de==q)=true∧(ls[k].cu==c)=true∧ls[k].is p q c=true)∨((ls[k].cr==p)=false∧ls[k].is p q c=false)∨((ls[k].cr==p)=true∧(ls[k].de==q)=false∧ls[k].is p q c=false)∨((ls[k].cr==p)=true∧(ls[k].de==q)=true∧(ls[k].cu==c)=false∧ls[k].is p q c=false):=by
   unfold Ln.is
   cases ls[k].cr==p <;> cases ls[k].de==q <;> cases ls[k].cu==c <;> simp
  clear hcell;rcases hs with⟨s1,s2,s3,s4⟩|⟨s1,s4⟩|⟨s1,s2,s4⟩|⟨s1,s2,s3,s4⟩
  ·have HA:=yH (at_found hkl hn.out s4).1;clear s4;go_wp2;go_ret;exact⟨by rw[HA.out];rfl,rfl⟩
  all_goals
   have HN:=yH (take_next hkl hn.out s4);clear s4;go_wp2
   go_round
   case rel=>exact⟨k+1,by omega,by go_num,HN⟩
   case measure=>simp[intOf];omega
 have HA:=yH (aQ1 (ls:=ls) (a:=p) (b:=q) (c:=c) (by have:=hn.out;rwa [List.take_of_length_le (by omega)]at this)).1;go_wp2;go_ret;exact⟨by rw[HA.out];rfl,rfl⟩
def lineV(o:Option Ln):Value:=match o with|some x=>.tuple #[x.val,.bool true]|none=>.tuple #[noLn.val,.bool false]
theorem aEn{w:World}{base g:Nat}{ps:List Int}{ls:List Ln}{vp vl:Value}(h:RefL w base g ps ls vp vl)(p q c:Int):
  Calls Tryz.prog 98 #[.pointer (some ⟨g,0,none⟩),.int .u8 p,.int .u8 q,.int .u8 c] w (yR w (lineV (aAq ls p q c))):=by
 have bb:=yH ((Below.refl w.heap.size w).alloc yL (.cells #[.int .u8 0,.int .u8 0,.int .u8 0,.int .i64 0,.int .i64 0] 115));have kk:Keep (fun _=>False) w (w.alloc (.cells #[.int .u8 0,.int .u8 0,.int .u8 0,.int .i64 0,.int .i64 0] 115)):=pAE bb.out;have h2:RefL (w.alloc (.cells #[.int .u8 0,.int .u8 0,.int .u8 0,.int .i64 0,.int .i64 0] 115)) base g ps ls vp vl:=⟨h.blk.keep kk id,h.ge,aAl h.p kk (fun _ _=>id),aAl h.l kk (fun _ _=>id)⟩;have ca:=yH (rat_any h2 p q c);have d0:=h2.blk.cell 1;simp at d0;obtain⟨ao,cap,rfl,hc1,hc2,hc3,hc4⟩:=aAd h2.l;have HC:=yH hc4;unfold maxLen at hc2;clear hc3 hc4 h kk h2;rcases aNe ls p q c with⟨k,hk,ha,hl,_⟩|⟨ha,hl,_⟩
 ·rw[ha]at ca;rw[hl];obtain⟨b,rfl,hb1,hb2,hcell,_⟩:=HC.out (by omega);obtain⟨e0,e1,e2,e3,e4⟩:=aNr hcell hk;clear hcell ha hl;go_enter Tryz.func98,Tryz.ntmps98;go_wp2_with fail;refine ca.out.mono ?_;rintro e w1 ⟨rfl,rfl⟩;go_wp2;refine bodyPost_ret (v:=.tuple #[ls[k].val,.bool true]) (aAh rfl _ _ w.heap.size 115 #[.int .u8 ls[k].cr,.int .u8 ls[k].de,.int .u8 ls[k].cu,.int .i64 ls[k].li,.int .i64 ls[k].db] _ _ rfl (pAA w #[.int .u8 ls[k].cr,.int .u8 ls[k].de,.int .u8 ls[k].cu,.int .i64 ls[k].li,.int .i64 ls[k].db] 115).out Tryz.underlying115 rfl (by kernel_rfl) rfl) rfl ⟨rfl,yZ.alloc yL _⟩
 rw[ha]at ca;rw[hl];clear ha hl;go_enter Tryz.func98,Tryz.ntmps98;go_wp2_with fail;refine ca.out.mono ?_;rintro e w1 ⟨rfl,rfl⟩;go_wp2;refine bodyPost_ret (v:=.tuple #[noLn.val,.bool false]) (aAh rfl _ _ w.heap.size 115 #[.int .u8 0,.int .u8 0,.int .u8 0,.int .i64 0,.int .i64 0] _ _ rfl (pAA w #[.int .u8 0,.int .u8 0,.int .u8 0,.int .i64 0,.int .i64 0] 115).out Tryz.underlying115 rfl (by kernel_rfl) rfl) rfl ⟨rfl,yZ.alloc yL _⟩
theorem aJl:(Tryz.prog.info? 115).map (fun i=>(i.zero,i.size,i.bytes))=some (some noLn.val,5,24):=by kernel_rfl
theorem aBq(w:World){ops:Array Oper}{rest:List Oper}{o:Oper}{a:Act}{Q:Exit→Act→World→Prop}(hgd:o.guard=none)(s x:Operand)
  (ho:o.op=.call { callee:=.builtin .append,args:=#[s,x],argTypes:=#[68,68] })(base:Nat)(v:Value)(ls:List Ln)(hs:a.eval s=v)
  (hown:w.ownsRow base 115 5 v ls.length (aAz ls))(g c:Nat)(y:Ln)(hx:a.eval x=.slice (some ⟨g,0,none⟩) 1 c)(hy:Blk w g #[.int .u8 y.cr,.int .u8 y.de,.int .u8 y.cu,.int .i64 y.li,.int .i64 y.db] 115)(hlen:ls.length≤100000)(hbase:base≤w.heap.size)
  (h:∀v' w',w'.ownsRow base 115 5 v' (ls++[y]).length (aAz (ls++[y]))→w.grownBy w' v.ownBlock→wpList Tryz.prog ops Q rest (a.put o.dst v') w'):wpList Tryz.prog ops Q (o::rest) a w:=by
 obtain⟨i0,hi,hz0,hz1,hz2⟩:=info_parts aJl;refine wpList_append_own w hgd s x 68 ho base 115 i0 noLn.val 5 24 Tryz.underlying68 hi hz0 hz1 hz2 rfl (by decide) v ls.length (aAz ls) hs hown ⟨g,0,none⟩ 1 c y.vals hx rfl ?_ ?_ (by unfold maxLen;omega) (by omega) hbase ?_
 ·intro j u hj;have:=hy.cell j;rw[Go.WideShapes.add_plain]
  match j,hj with
  | 0,hj=>simp[Ln.vals]at hj;subst hj;simpa using this
  | 1,hj=>simp[Ln.vals]at hj;subst hj;simpa using this
  | 2,hj=>simp[Ln.vals]at hj;subst hj;simpa using this
  | 3,hj=>simp[Ln.vals]at hj;subst hj;simpa using this
  | 4,hj=>simp[Ln.vals]at hj;subst hj;simpa using this
  | j+5,hj=>simp[Ln.vals]at hj
 ·intro u hu;simp[Ln.vals]at hu;rcases hu with rfl|rfl|rfl|rfl|rfl <;> rfl
 intro v' w' h1 h2 _;refine h v' w' ?_ h2;rw[aL2,aQ2,List.length_append];exact h1
theorem set_done{w w1:World}{base g:Nat}{ps:List Int}{ls ls':List Ln}{vp vl v:Value}(h:RefL w base g ps ls vp vl)(hg:g<w.heap.size)(hb:Below w.heap.size w w1)(ho:w1.ownsRow (w.heap.size+1) 115 5 v ls'.length (aAz ls')):
  ∃vl',RefL (w1.setCell ⟨g,1,none⟩ v) base g ps ls' vp vl'∧Keep (·=g) w (w1.setCell ⟨g,1,none⟩ v):=by
 have k0:Keep (·=g) w1 (w1.setCell ⟨g,1,none⟩ v):=Keep.setCell (S:=(·=g)) (Keep.refl _ _) (p:=⟨g,1,none⟩) (.inl rfl) v;have hblk:=h.blk.below hb hg;refine⟨v,⟨?_,h.ge,?_,?_⟩,(Keep.setCell (S:=(·=g)) (pAE hb) (p:=⟨g,1,none⟩) (.inl rfl) v)⟩
 ·have:=hblk.set 1 v;simpa using this
 ·have hp:=aAc h.p hb;exact aAl hp k0 (aAi hp hblk (by decide))
 exact aAl (aA4 ho (by have:=h.ge;omega)) k0 (aAi ho hblk (by decide))
def SetAt(ls:List Ln)(x:Ln)(w:World)(v put i:Value)(wr:World):Prop:=
 ∃k:Nat,k≤ls.length∧i=.int .i64 k∧put=.bool (aEk (ls.take k) x).2∧wr.ownsRow (w.heap.size+1) 115 5 v (aEk (ls.take k) x).1.length (aAz (aEk (ls.take k) x).1)∧Below w.heap.size w wr∧Blk wr w.heap.size #[.int .u8 x.cr,.int .u8 x.de,.int .u8 x.cu,.int .i64 x.li,.int .i64 x.db] 115
theorem aE0{w:World}{base g:Nat}{ps:List Int}{ls:List Ln}{vp vl:Value}(h:RefL w base g ps ls vp vl)(x:Ln)(hx:x.Fits)(hfit:∀y∈ls,y.Fits)(hlen:ls.length≤1000):
  Calls Tryz.prog 99 #[.pointer (some ⟨g,0,none⟩),x.val] w fun e w'=>e=.returned (.tuple #[])∧∃vl',RefL w' base g ps (setL ls x) vp vl'∧Keep (·=g) w w':=by
 have cx:=yH (fun w=>aPb x w hx);have HF:=yH hfit;have KX:=yH (pAA w #[.int .u8 x.cr,.int .u8 x.de,.int .u8 x.cu,.int .i64 x.li,.int .i64 x.db] 115);have BI:=yH ((Below.refl w.heap.size w).alloc yL (.cells #[.int .u8 x.cr,.int .u8 x.de,.int .u8 x.cu,.int .i64 x.li,.int .i64 x.db] 115));have H:=yH h;obtain⟨ao,cap,rfl,hc1,hc2,hc3,hc4⟩:=aAd h.l;have HC:=yH hc4;have hg:=h.blk.lt;unfold maxLen at hc2;clear hc3 hc4 h hfit hx;unfold Ln.val at cx ⊢;go_enter Tryz.func99,Tryz.ntmps99;go_wp2_with fail
 go_loopw [4,5,6] (SetAt ls x w) (fun _ _ i _=>ls.length - (intOf i).toNat)
 case atStart=>exact⟨0,Nat.zero_le _,rfl,rfl,World.ownsRow_nil _ _ _ _,BI.out,KX.out⟩
 obtain⟨k,hk,rfl,rfl,hown,hb,hkx⟩:=hrel;have hlo:=setTo_len (ls.take k) x;have hlk:(ls.take k).length≤k:=List.length_take_le _ _;have dg:=(H.out.blk.below hb hg).cell 1;simp at dg
 by_cases hkl:k<ls.length
 ·have HS:=yH (setTo_take ls x k hkl);obtain⟨b,rfl,hb1,hb2,hcell,_⟩:=HC.out (by omega);obtain⟨e0,e1,e2,e3,e4⟩:=aNr (w:=wr) (fun j hj=>by rw[hb.cell (p:=⟨b,j,none⟩) hb2];exact hcell j hj) hkl;have hyf:=HF.out ls[k] (List.getElem_mem hkl);clear hcell;generalize ls[k]=y at *;generalize aEk (ls.take k) x=s at *;obtain⟨out,put⟩:=s;dsimp only at *;have cy:=yH (fun w=>aPb y w hyf);unfold Ln.val at cy;have KY0:=yH (pAA wr #[.int .u8 y.cr,.int .u8 y.de,.int .u8 y.cu,.int .i64 y.li,.int .i64 y.db] 115);have KX0:=yH (hkx.alloc (.cells #[.int .u8 y.cr,.int .u8 y.de,.int .u8 y.cu,.int .i64 y.li,.int .i64 y.db] 115));have hrow:∀k,Value.ownBlock _=some k→k<wr.heap.size:=fun k hk=>(aAe hown hk).2.1
  have B0:=yH (hb.alloc hb.size (.cells #[.int .u8 y.cr,.int .u8 y.de,.int .u8 y.cu,.int .i64 y.li,.int .i64 y.db] 115));have O0:=yH (hown.alloc (.cells #[.int .u8 y.cr,.int .u8 y.de,.int .u8 y.cu,.int .i64 y.li,.int .i64 y.db] 115));have hgy:w.heap.size+1≤wr.heap.size:=hkx.lt;clear hown hb hkx hyf
  have hs:(y.rank=x.rank)∨(y.rank≠x.rank∧put=true)∨(y.rank≠x.rank∧put=false∧x.rank<y.rank)∨(y.rank≠x.rank∧put=false∧¬x.rank<y.rank):=by
   cases put <;> simp <;> omega
  rcases hs with h1|⟨h1,rfl⟩|⟨h1,rfl,h2⟩|⟨h1,rfl,h2⟩
  ·have q1:(y.rank==x.rank)=true:=by simp[h1]
   have NX:Hid (aEk (ls.take (k+1)) x=(out,put)):=yH (by rw[HS.out];unfold aA9;rw[if_pos h1]);clear HS h1;go_wp2_with fail;generalize wr.alloc (.cells #[.int .u8 y.cr,.int .u8 y.de,.int .u8 y.cu,.int .i64 y.li,.int .i64 y.db] 115)=Wy at *;generalize wr.heap.size=gy at *
   refine aA3 (by kernel_rfl) [.agg #[.int .u8 y.cr,.int .u8 y.de,.int .u8 y.cu,.int .i64 y.li,.int .i64 y.db],.int .i64 y.rank,.agg #[.int .u8 x.cr,.int .u8 x.de,.int .u8 x.cu,.int .i64 x.li,.int .i64 x.db],.int .i64 x.rank,.bool true]
    (fun w'=>Below Wy.heap.size Wy w') (by kernel_rfl) yZ.drew ?_
   intro af haf;simp only[puts,Act.put,yA,yC,yF,yD,yE]at haf;subst haf;refine⟨?_,?_⟩
   ·simp only[aBe];refine⟨?_,?_,?_,?_,?_,trivial⟩
    ·intro w' hS;refine yO rfl ?_;have d0_0:=(KY0.out.below hS KY0.out.lt).cell 0;have d0_1:=(KY0.out.below hS KY0.out.lt).cell 1;have d0_2:=(KY0.out.below hS KY0.out.lt).cell 2;have d0_3:=(KY0.out.below hS KY0.out.lt).cell 3;have d0_4:=(KY0.out.below hS KY0.out.lt).cell 4;simp at d0_0 d0_1 d0_2 d0_3 d0_4;have HS:=yH hS;clear hS;go_wp2_with fail;all_goals first|exact HS|exact⟨rfl,HS⟩|rfl
    ·intro w' hS;refine yO rfl ?_;have HS:=yH hS;clear hS;go_wp2_with fail;refine(cy.out w').mono ?_;rintro e w'' ⟨rfl,hb2⟩;exact⟨rfl,andB HS.out hb2⟩
    ·intro w' hS;refine yO rfl ?_;have d0_0:=(KX0.out.below hS KX0.out.lt).cell 0;have d0_1:=(KX0.out.below hS KX0.out.lt).cell 1;have d0_2:=(KX0.out.below hS KX0.out.lt).cell 2;have d0_3:=(KX0.out.below hS KX0.out.lt).cell 3;have d0_4:=(KX0.out.below hS KX0.out.lt).cell 4;simp at d0_0 d0_1 d0_2 d0_3 d0_4;have HS:=yH hS;clear hS;go_wp2_with fail;all_goals first|exact HS|exact⟨rfl,HS⟩|rfl
    ·intro w' hS;refine yO rfl ?_;have HS:=yH hS;clear hS;go_wp2_with fail;refine(cx.out w').mono ?_;rintro e w'' ⟨rfl,hb2⟩;exact⟨rfl,andB HS.out hb2⟩
    intro w' hS;refine yO rfl ?_;have HS:=yH hS;clear hS;go_wp2_with fail;all_goals first|exact HS|exact⟨rfl,HS⟩|rfl
   intro w1 hS;have KX1:=yB KX0 hS;have B1:=yT B0 hS;have O1:=yH (aAc O0.out hS);clear hS;go_wp2_with fail;go_roundw
   case rel=>exact⟨k+1,by omega,by go_num,by rw[NX.out],by rw[NX.out];exact O1.out,B1.out,KX1.out⟩
   case measure=>simp[intOf];omega
  ·have q1:(y.rank==x.rank)=false:=by simp[h1]
   have NX:Hid (aEk (ls.take (k+1)) x=(out++[y],true)):=yH (by rw[HS.out];unfold aA9;rw[if_neg h1,if_neg (by simp)]);clear HS h1;have z0:w.heap.size+1≤(wr.alloc (.cells #[.int .u8 y.cr,.int .u8 y.de,.int .u8 y.cu,.int .i64 y.li,.int .i64 y.db] 115)).heap.size:=by simp;omega
   go_wp2_with fail;generalize wr.alloc (.cells #[.int .u8 y.cr,.int .u8 y.de,.int .u8 y.cu,.int .i64 y.li,.int .i64 y.db] 115)=Wy at *;generalize wr.heap.size=gy at *
   refine aA3 (by kernel_rfl) [.agg #[.int .u8 y.cr,.int .u8 y.de,.int .u8 y.cu,.int .i64 y.li,.int .i64 y.db],.int .i64 y.rank,.agg #[.int .u8 x.cr,.int .u8 x.de,.int .u8 x.cu,.int .i64 x.li,.int .i64 x.db],.int .i64 x.rank,.bool false]
    (fun w'=>Below Wy.heap.size Wy w') (by kernel_rfl) yZ.drew ?_
   intro af haf;simp only[puts,Act.put,yA,yC,yF,yD,yE]at haf;subst haf;refine⟨?_,?_⟩
   ·simp only[aBe];refine⟨?_,?_,?_,?_,?_,trivial⟩
    ·intro w' hS;refine yO rfl ?_;have d0_0:=(KY0.out.below hS KY0.out.lt).cell 0;have d0_1:=(KY0.out.below hS KY0.out.lt).cell 1;have d0_2:=(KY0.out.below hS KY0.out.lt).cell 2;have d0_3:=(KY0.out.below hS KY0.out.lt).cell 3;have d0_4:=(KY0.out.below hS KY0.out.lt).cell 4;simp at d0_0 d0_1 d0_2 d0_3 d0_4;have HS:=yH hS;clear hS;go_wp2_with fail;all_goals first|exact HS|exact⟨rfl,HS⟩|rfl
    ·intro w' hS;refine yO rfl ?_;have HS:=yH hS;clear hS;go_wp2_with fail;refine(cy.out w').mono ?_;rintro e w'' ⟨rfl,hb2⟩;exact⟨rfl,andB HS.out hb2⟩
    ·intro w' hS;refine yO rfl ?_;have d0_0:=(KX0.out.below hS KX0.out.lt).cell 0;have d0_1:=(KX0.out.below hS KX0.out.lt).cell 1;have d0_2:=(KX0.out.below hS KX0.out.lt).cell 2;have d0_3:=(KX0.out.below hS KX0.out.lt).cell 3;have d0_4:=(KX0.out.below hS KX0.out.lt).cell 4;simp at d0_0 d0_1 d0_2 d0_3 d0_4;have HS:=yH hS;clear hS;go_wp2_with fail;all_goals first|exact HS|exact⟨rfl,HS⟩|rfl
    ·intro w' hS;refine yO rfl ?_;have HS:=yH hS;clear hS;go_wp2_with fail;refine(cx.out w').mono ?_;rintro e w'' ⟨rfl,hb2⟩;exact⟨rfl,andB HS.out hb2⟩
    intro w' hS;refine yO rfl ?_;have HS:=yH hS;clear hS;go_wp2_with fail;all_goals first|exact HS|exact⟨rfl,HS⟩|rfl
   intro w1 hS;have z1:w.heap.size+1≤w1.heap.size:=Nat.le_trans z0 hS.size;have KX1:=yB KX0 hS;have KY1:=yB KY0 hS;have B1:=yT B0 hS;have O1:=yH (aAc O0.out hS);clear hS;go_wp2_with fail
   refine aA3 (by kernel_rfl) [.bool true,.bool false,.bool false,undef,undef,undef,undef,undef,.bool false]
    (fun w'=>Below w1.heap.size w1 w') (by kernel_rfl) yZ.drew ?_
   intro af haf;simp only[puts,Act.put,yA,yC,yF,yD,yE]at haf;subst haf;refine⟨?_,?_⟩
   ·simp only[aBe];refine⟨?z1,?z2,?z3,?z5,?z6,?z7,?z8,?z9,?z4,trivial⟩
    case z1|z2|z3|z4=>
     intro w' hS;refine yO rfl ?_;have HS:=yH hS;clear hS;go_wp2_with fail;all_goals first|exact HS|exact⟨rfl,HS⟩|rfl
    case z5|z6|z7|z8|z9=>
     intro w' hS;refine pAD (by kernel_rfl) rfl hS
   intro w2 hS;have z2:w.heap.size+1≤w2.heap.size:=Nat.le_trans z1 hS.size;have KX2:=yB KX1 hS;have KY2:=yB KY1 hS;have B2:=yT B1 hS;have O2:=yH (aAc O1.out hS);clear hS;have dy_0:=KY2.out.cell 0;have dy_1:=KY2.out.cell 1;have dy_2:=KY2.out.cell 2;have dy_3:=KY2.out.cell 3;have dy_4:=KY2.out.cell 4;simp at dy_0 dy_1 dy_2 dy_3 dy_4;have hl2:(out).length≤100000:=by first|omega|(simp;omega)
   go_wp2_with (at_builtin;refine aBq _ rfl (.tmp 45) (.tmp 47) rfl (w.heap.size+1) _ (out) rfl (O2.out.alloc _) _ _ y rfl (pAA _ _ _) hl2 (by simp;omega) ?_);intro v3 w3 hown3 hgr3;have R2:∀k,Value.ownBlock _=some k→w.heap.size+1≤k:=fun k hk=>(aAe O2.out hk).1
   have B3:=yH ((B2.out.alloc B2.out.size (.cells #[.int .u8 y.cr,.int .u8 y.de,.int .u8 y.cu,.int .i64 y.li,.int .i64 y.db] 115)).grown hgr3 (by simp;omega) (fun k hk=>by have:=R2 k hk;omega));have KX3:=yH ((KX2.out.alloc (.cells #[.int .u8 y.cr,.int .u8 y.de,.int .u8 y.cu,.int .i64 y.li,.int .i64 y.db] 115)).grown hgr3 (fun e=>by have:=R2 _ e;omega));have O3:=yH (show w3.ownsRow (w.heap.size+1) 115 5 v3 (out++[y]).length (aAz (out++[y])) by simpa using hown3);clear R2 hown3 hgr3;go_wp2_with fail;go_roundw
   case rel=>exact⟨k+1,by omega,by go_num,by rw[NX.out],by rw[NX.out];exact O3.out,B3.out,KX3.out⟩
   case measure=>simp[intOf];omega
  ·have q1:(y.rank==x.rank)=false:=by simp[h1]
   have NX:Hid (aEk (ls.take (k+1)) x=(out++[x,y],true)):=yH (by rw[HS.out];unfold aA9;rw[if_neg h1,if_pos ⟨rfl,h2⟩]);have q2:decide (x.rank<y.rank)=true:=by simpa using h2
   clear HS h1 h2;have z0:w.heap.size+1≤(wr.alloc (.cells #[.int .u8 y.cr,.int .u8 y.de,.int .u8 y.cu,.int .i64 y.li,.int .i64 y.db] 115)).heap.size:=by simp;omega
   go_wp2_with fail;generalize wr.alloc (.cells #[.int .u8 y.cr,.int .u8 y.de,.int .u8 y.cu,.int .i64 y.li,.int .i64 y.db] 115)=Wy at *;generalize wr.heap.size=gy at *
   refine aA3 (by kernel_rfl) [.agg #[.int .u8 y.cr,.int .u8 y.de,.int .u8 y.cu,.int .i64 y.li,.int .i64 y.db],.int .i64 y.rank,.agg #[.int .u8 x.cr,.int .u8 x.de,.int .u8 x.cu,.int .i64 x.li,.int .i64 x.db],.int .i64 x.rank,.bool false]
    (fun w'=>Below Wy.heap.size Wy w') (by kernel_rfl) yZ.drew ?_
   intro af haf;simp only[puts,Act.put,yA,yC,yF,yD,yE]at haf;subst haf;refine⟨?_,?_⟩
   ·simp only[aBe];refine⟨?_,?_,?_,?_,?_,trivial⟩
    ·intro w' hS;refine yO rfl ?_;have d0_0:=(KY0.out.below hS KY0.out.lt).cell 0;have d0_1:=(KY0.out.below hS KY0.out.lt).cell 1;have d0_2:=(KY0.out.below hS KY0.out.lt).cell 2;have d0_3:=(KY0.out.below hS KY0.out.lt).cell 3;have d0_4:=(KY0.out.below hS KY0.out.lt).cell 4;simp at d0_0 d0_1 d0_2 d0_3 d0_4;have HS:=yH hS;clear hS;go_wp2_with fail;all_goals first|exact HS|exact⟨rfl,HS⟩|rfl
    ·intro w' hS;refine yO rfl ?_;have HS:=yH hS;clear hS;go_wp2_with fail;refine(cy.out w').mono ?_;rintro e w'' ⟨rfl,hb2⟩;exact⟨rfl,andB HS.out hb2⟩
    ·intro w' hS;refine yO rfl ?_;have d0_0:=(KX0.out.below hS KX0.out.lt).cell 0;have d0_1:=(KX0.out.below hS KX0.out.lt).cell 1;have d0_2:=(KX0.out.below hS KX0.out.lt).cell 2;have d0_3:=(KX0.out.below hS KX0.out.lt).cell 3;have d0_4:=(KX0.out.below hS KX0.out.lt).cell 4;simp at d0_0 d0_1 d0_2 d0_3 d0_4;have HS:=yH hS;clear hS;go_wp2_with fail;all_goals first|exact HS|exact⟨rfl,HS⟩|rfl
    ·intro w' hS;refine yO rfl ?_;have HS:=yH hS;clear hS;go_wp2_with fail;refine(cx.out w').mono ?_;rintro e w'' ⟨rfl,hb2⟩;exact⟨rfl,andB HS.out hb2⟩
    intro w' hS;refine yO rfl ?_;have HS:=yH hS;clear hS;go_wp2_with fail;all_goals first|exact HS|exact⟨rfl,HS⟩|rfl
   intro w1 hS;have z1:w.heap.size+1≤w1.heap.size:=Nat.le_trans z0 hS.size;have KX1:=yB KX0 hS;have KY1:=yB KY0 hS;have B1:=yT B0 hS;have O1:=yH (aAc O0.out hS);clear hS;go_wp2_with fail
   refine aA3 (by kernel_rfl) [.bool false,.bool true,.bool true,.agg #[.int .u8 y.cr,.int .u8 y.de,.int .u8 y.cu,.int .i64 y.li,.int .i64 y.db],.int .i64 y.rank,.agg #[.int .u8 x.cr,.int .u8 x.de,.int .u8 x.cu,.int .i64 x.li,.int .i64 x.db],.int .i64 x.rank,.bool true,.bool true]
    (fun w'=>Below w1.heap.size w1 w') (by kernel_rfl) yZ.drew ?_
   intro af haf;simp only[puts,Act.put,yA,yC,yF,yD,yE]at haf;subst haf;refine⟨?_,?_⟩
   ·simp only[aBe];refine⟨?z10,?z11,?z12,?_,?_,?_,?_,?_,?z13,trivial⟩
    case z10|z11|z12|z13=>
     intro w' hS;refine yO rfl ?_;have HS:=yH hS;clear hS;go_wp2_with fail;all_goals first|exact HS|exact⟨rfl,HS⟩|rfl
    ·intro w' hS;refine OpTo.wanted ?_ ?_
     kernel_rfl
     have d0_0:=(KY1.out.below hS KY1.out.lt).cell 0;have d0_1:=(KY1.out.below hS KY1.out.lt).cell 1;have d0_2:=(KY1.out.below hS KY1.out.lt).cell 2;have d0_3:=(KY1.out.below hS KY1.out.lt).cell 3;have d0_4:=(KY1.out.below hS KY1.out.lt).cell 4;simp at d0_0 d0_1 d0_2 d0_3 d0_4;have HS:=yH hS;clear hS;go_wp2_with fail;all_goals first|exact HS|exact⟨rfl,HS⟩|rfl
    ·intro w' hS;refine OpTo.wanted ?_ ?_
     kernel_rfl
     have HS:=yH hS;clear hS;go_wp2_with fail;refine(cy.out w').mono ?_;rintro e w'' ⟨rfl,hb2⟩;exact⟨rfl,andB HS.out hb2⟩
    ·intro w' hS;refine OpTo.wanted ?_ ?_
     kernel_rfl
     have d0_0:=(KX1.out.below hS KX1.out.lt).cell 0;have d0_1:=(KX1.out.below hS KX1.out.lt).cell 1;have d0_2:=(KX1.out.below hS KX1.out.lt).cell 2;have d0_3:=(KX1.out.below hS KX1.out.lt).cell 3;have d0_4:=(KX1.out.below hS KX1.out.lt).cell 4;simp at d0_0 d0_1 d0_2 d0_3 d0_4;have HS:=yH hS;clear hS;go_wp2_with fail;all_goals first|exact HS|exact⟨rfl,HS⟩|rfl
    ·intro w' hS;refine OpTo.wanted ?_ ?_
     kernel_rfl
     have HS:=yH hS;clear hS;go_wp2_with fail;refine(cx.out w').mono ?_;rintro e w'' ⟨rfl,hb2⟩;exact⟨rfl,andB HS.out hb2⟩
    intro w' hS;refine OpTo.wanted ?_ ?_
    kernel_rfl
    have HS:=yH hS;clear hS;go_wp2_with fail;all_goals first|exact HS|exact⟨rfl,HS⟩|rfl
   intro w2 hS;have z2:w.heap.size+1≤w2.heap.size:=Nat.le_trans z1 hS.size;have KX2:=yB KX1 hS;have KY2:=yB KY1 hS;have B2:=yT B1 hS;have O2:=yH (aAc O1.out hS);clear hS;have dx_0:=KX2.out.cell 0;have dx_1:=KX2.out.cell 1;have dx_2:=KX2.out.cell 2;have dx_3:=KX2.out.cell 3;have dx_4:=KX2.out.cell 4;simp at dx_0 dx_1 dx_2 dx_3 dx_4;have hl2:out.length≤100000:=by omega
   go_wp2_with (at_builtin;refine aBq _ rfl (.tmp 41) (.tmp 43) rfl (w.heap.size+1) _ out rfl (O2.out.alloc _) _ _ x rfl (pAA _ _ _) hl2 (by simp;omega) ?_);intro v3 w3 hown3 hgr3;have R2:∀k,Value.ownBlock _=some k→w.heap.size+1≤k:=fun k hk=>(aAe O2.out hk).1
   have B3:=yH ((B2.out.alloc B2.out.size (.cells #[.int .u8 x.cr,.int .u8 x.de,.int .u8 x.cu,.int .i64 x.li,.int .i64 x.db] 115)).grown hgr3 (by simp;omega) (fun k hk=>by have:=R2 k hk;omega));have KX3:=yH ((KX2.out.alloc (.cells #[.int .u8 x.cr,.int .u8 x.de,.int .u8 x.cu,.int .i64 x.li,.int .i64 x.db] 115)).grown hgr3 (fun e=>by have:=R2 _ e;omega));have KY3:=yH ((KY2.out.alloc (.cells #[.int .u8 x.cr,.int .u8 x.de,.int .u8 x.cu,.int .i64 x.li,.int .i64 x.db] 115)).grown hgr3 (fun e=>by have:=hrow _ e;omega));have O3:=yH (show w3.ownsRow (w.heap.size+1) 115 5 v3 (out++[x]).length (aAz (out++[x])) by simpa using hown3);have z3:w.heap.size+1≤w3.heap.size:=by have:=hgr3.size;simp at this;omega
   clear R2 hown3 hgr3;have dy_0:=KY3.out.cell 0;have dy_1:=KY3.out.cell 1;have dy_2:=KY3.out.cell 2;have dy_3:=KY3.out.cell 3;have dy_4:=KY3.out.cell 4;simp at dy_0 dy_1 dy_2 dy_3 dy_4;have hl3:(out++[x]).length≤100000:=by first|omega|(simp;omega)
   go_wp2_with (at_builtin;refine aBq _ rfl (.tmp 45) (.tmp 47) rfl (w.heap.size+1) _ (out++[x]) rfl (O3.out.alloc _) _ _ y rfl (pAA _ _ _) hl3 (by simp;omega) ?_);intro v4 w4 hown4 hgr4;have R3:∀k,Value.ownBlock _=some k→w.heap.size+1≤k:=fun k hk=>(aAe O3.out hk).1
   have B4:=yH ((B3.out.alloc B3.out.size (.cells #[.int .u8 y.cr,.int .u8 y.de,.int .u8 y.cu,.int .i64 y.li,.int .i64 y.db] 115)).grown hgr4 (by simp;omega) (fun k hk=>by have:=R3 k hk;omega));have KX4:=yH ((KX3.out.alloc (.cells #[.int .u8 y.cr,.int .u8 y.de,.int .u8 y.cu,.int .i64 y.li,.int .i64 y.db] 115)).grown hgr4 (fun e=>by have:=R3 _ e;omega));have O4:=yH (show w4.ownsRow (w.heap.size+1) 115 5 v4 (out++[x,y]).length (aAz (out++[x,y])) by simpa using hown4);clear R3 hown4 hgr4;go_wp2_with fail;go_roundw
   case rel=>exact⟨k+1,by omega,by go_num,by rw[NX.out],by rw[NX.out];exact O4.out,B4.out,KX4.out⟩
   case measure=>simp[intOf];omega
  have q1:(y.rank==x.rank)=false:=by simp[h1]
  have NX:Hid (aEk (ls.take (k+1)) x=(out++[y],false)):=yH (by rw[HS.out];unfold aA9;rw[if_neg h1,if_neg (by simp;omega)]);have q2:decide (x.rank<y.rank)=false:=by simpa using h2
  clear HS h1 h2;have z0:w.heap.size+1≤(wr.alloc (.cells #[.int .u8 y.cr,.int .u8 y.de,.int .u8 y.cu,.int .i64 y.li,.int .i64 y.db] 115)).heap.size:=by simp;omega
  go_wp2_with fail;generalize wr.alloc (.cells #[.int .u8 y.cr,.int .u8 y.de,.int .u8 y.cu,.int .i64 y.li,.int .i64 y.db] 115)=Wy at *;generalize wr.heap.size=gy at *
  refine aA3 (by kernel_rfl) [.agg #[.int .u8 y.cr,.int .u8 y.de,.int .u8 y.cu,.int .i64 y.li,.int .i64 y.db],.int .i64 y.rank,.agg #[.int .u8 x.cr,.int .u8 x.de,.int .u8 x.cu,.int .i64 x.li,.int .i64 x.db],.int .i64 x.rank,.bool false]
   (fun w'=>Below Wy.heap.size Wy w') (by kernel_rfl) yZ.drew ?_
  intro af haf;simp only[puts,Act.put,yA,yC,yF,yD,yE]at haf;subst haf;refine⟨?_,?_⟩
  ·simp only[aBe];refine⟨?_,?_,?_,?_,?_,trivial⟩
   ·intro w' hS;refine yO rfl ?_;have d0_0:=(KY0.out.below hS KY0.out.lt).cell 0;have d0_1:=(KY0.out.below hS KY0.out.lt).cell 1;have d0_2:=(KY0.out.below hS KY0.out.lt).cell 2;have d0_3:=(KY0.out.below hS KY0.out.lt).cell 3;have d0_4:=(KY0.out.below hS KY0.out.lt).cell 4;simp at d0_0 d0_1 d0_2 d0_3 d0_4;have HS:=yH hS;clear hS;go_wp2_with fail;all_goals first|exact HS|exact⟨rfl,HS⟩|rfl
   ·intro w' hS;refine yO rfl ?_;have HS:=yH hS;clear hS;go_wp2_with fail;refine(cy.out w').mono ?_;rintro e w'' ⟨rfl,hb2⟩;exact⟨rfl,andB HS.out hb2⟩
   ·intro w' hS;refine yO rfl ?_;have d0_0:=(KX0.out.below hS KX0.out.lt).cell 0;have d0_1:=(KX0.out.below hS KX0.out.lt).cell 1;have d0_2:=(KX0.out.below hS KX0.out.lt).cell 2;have d0_3:=(KX0.out.below hS KX0.out.lt).cell 3;have d0_4:=(KX0.out.below hS KX0.out.lt).cell 4;simp at d0_0 d0_1 d0_2 d0_3 d0_4;have HS:=yH hS;clear hS;go_wp2_with fail;all_goals first|exact HS|exact⟨rfl,HS⟩|rfl
   ·intro w' hS;refine yO rfl ?_;have HS:=yH hS;clear hS;go_wp2_with fail;refine(cx.out w').mono ?_;rintro e w'' ⟨rfl,hb2⟩;exact⟨rfl,andB HS.out hb2⟩
   intro w' hS;refine yO rfl ?_;have HS:=yH hS;clear hS;go_wp2_with fail;all_goals first|exact HS|exact⟨rfl,HS⟩|rfl
  intro w1 hS;have z1:w.heap.size+1≤w1.heap.size:=Nat.le_trans z0 hS.size;have KX1:=yB KX0 hS;have KY1:=yB KY0 hS;have B1:=yT B0 hS;have O1:=yH (aAc O0.out hS);clear hS;go_wp2_with fail
  refine aA3 (by kernel_rfl) [.bool false,.bool true,.bool true,.agg #[.int .u8 y.cr,.int .u8 y.de,.int .u8 y.cu,.int .i64 y.li,.int .i64 y.db],.int .i64 y.rank,.agg #[.int .u8 x.cr,.int .u8 x.de,.int .u8 x.cu,.int .i64 x.li,.int .i64 x.db],.int .i64 x.rank,.bool false,.bool false]
   (fun w'=>Below w1.heap.size w1 w') (by kernel_rfl) yZ.drew ?_
  intro af haf;simp only[puts,Act.put,yA,yC,yF,yD,yE]at haf;subst haf;refine⟨?_,?_⟩
  ·simp only[aBe];refine⟨?z14,?z15,?z16,?_,?_,?_,?_,?_,?z17,trivial⟩
   case z14|z15|z16|z17=>
    intro w' hS;refine yO rfl ?_;have HS:=yH hS;clear hS;go_wp2_with fail;all_goals first|exact HS|exact⟨rfl,HS⟩|rfl
   ·intro w' hS;refine OpTo.wanted ?_ ?_
    kernel_rfl
    have d0_0:=(KY1.out.below hS KY1.out.lt).cell 0;have d0_1:=(KY1.out.below hS KY1.out.lt).cell 1;have d0_2:=(KY1.out.below hS KY1.out.lt).cell 2;have d0_3:=(KY1.out.below hS KY1.out.lt).cell 3;have d0_4:=(KY1.out.below hS KY1.out.lt).cell 4;simp at d0_0 d0_1 d0_2 d0_3 d0_4;have HS:=yH hS;clear hS;go_wp2_with fail;all_goals first|exact HS|exact⟨rfl,HS⟩|rfl
   ·intro w' hS;refine OpTo.wanted ?_ ?_
    kernel_rfl
    have HS:=yH hS;clear hS;go_wp2_with fail;refine(cy.out w').mono ?_;rintro e w'' ⟨rfl,hb2⟩;exact⟨rfl,andB HS.out hb2⟩
   ·intro w' hS;refine OpTo.wanted ?_ ?_
    kernel_rfl
    have d0_0:=(KX1.out.below hS KX1.out.lt).cell 0;have d0_1:=(KX1.out.below hS KX1.out.lt).cell 1;have d0_2:=(KX1.out.below hS KX1.out.lt).cell 2;have d0_3:=(KX1.out.below hS KX1.out.lt).cell 3;have d0_4:=(KX1.out.below hS KX1.out.lt).cell 4;simp at d0_0 d0_1 d0_2 d0_3 d0_4;have HS:=yH hS;clear hS;go_wp2_with fail;all_goals first|exact HS|exact⟨rfl,HS⟩|rfl
   ·intro w' hS;refine OpTo.wanted ?_ ?_
    kernel_rfl
    have HS:=yH hS;clear hS;go_wp2_with fail;refine(cx.out w').mono ?_;rintro e w'' ⟨rfl,hb2⟩;exact⟨rfl,andB HS.out hb2⟩
   intro w' hS;refine OpTo.wanted ?_ ?_
   kernel_rfl
   have HS:=yH hS;clear hS;go_wp2_with fail;all_goals first|exact HS|exact⟨rfl,HS⟩|rfl
  intro w2 hS;have z2:w.heap.size+1≤w2.heap.size:=Nat.le_trans z1 hS.size;have KX2:=yB KX1 hS;have KY2:=yB KY1 hS;have B2:=yT B1 hS;have O2:=yH (aAc O1.out hS);clear hS;have dy_0:=KY2.out.cell 0;have dy_1:=KY2.out.cell 1;have dy_2:=KY2.out.cell 2;have dy_3:=KY2.out.cell 3;have dy_4:=KY2.out.cell 4;simp at dy_0 dy_1 dy_2 dy_3 dy_4;have hl2:(out).length≤100000:=by first|omega|(simp;omega)
  go_wp2_with (at_builtin;refine aBq _ rfl (.tmp 45) (.tmp 47) rfl (w.heap.size+1) _ (out) rfl (O2.out.alloc _) _ _ y rfl (pAA _ _ _) hl2 (by simp;omega) ?_);intro v3 w3 hown3 hgr3;have R2:∀k,Value.ownBlock _=some k→w.heap.size+1≤k:=fun k hk=>(aAe O2.out hk).1
  have B3:=yH ((B2.out.alloc B2.out.size (.cells #[.int .u8 y.cr,.int .u8 y.de,.int .u8 y.cu,.int .i64 y.li,.int .i64 y.db] 115)).grown hgr3 (by simp;omega) (fun k hk=>by have:=R2 k hk;omega));have KX3:=yH ((KX2.out.alloc (.cells #[.int .u8 y.cr,.int .u8 y.de,.int .u8 y.cu,.int .i64 y.li,.int .i64 y.db] 115)).grown hgr3 (fun e=>by have:=R2 _ e;omega));have O3:=yH (show w3.ownsRow (w.heap.size+1) 115 5 v3 (out++[y]).length (aAz (out++[y])) by simpa using hown3);clear R2 hown3 hgr3;go_wp2_with fail;go_roundw
  case rel=>exact⟨k+1,by omega,by go_num,by rw[NX.out],by rw[NX.out];exact O3.out,B3.out,KX3.out⟩
  case measure=>simp[intOf];omega
 have hke:ls.take k=ls:=List.take_of_length_le (by omega);rw[hke]at hown hlo ⊢;have E:=yH (show setL ls x=if(aEk ls x).2=false then(aEk ls x).1++[x]else(aEk ls x).1 from rfl);clear hke hlk;generalize aEk ls x=s at *;obtain⟨out,put⟩:=s;dsimp only at *;have O0:=yH hown;have B0:=yH hb;have KX0:=yH hkx;have z0:w.heap.size+1≤wr.heap.size:=hkx.lt;have hf:=(H.out.blk.below hb hg).frozen;clear hown hb hkx
 cases put
 ·have E':=yH (show setL ls x=out++[x]from E.out);have hl0:out.length≤100000:=by omega
  have dx_0:=KX0.out.cell 0;have dx_1:=KX0.out.cell 1;have dx_2:=KX0.out.cell 2;have dx_3:=KX0.out.cell 3;have dx_4:=KX0.out.cell 4;simp at dx_0 dx_1 dx_2 dx_3 dx_4;go_wp2_with (at_builtin;refine aBq _ rfl (.tmp 51) (.tmp 53) rfl (w.heap.size+1) _ out rfl (O0.out.alloc _) _ _ x rfl (pAA _ _ _) hl0 (by simp;omega) ?_);intro v3 w3 hown3 hgr3;have R2:∀k,Value.ownBlock _=some k→w.heap.size+1≤k:=fun k hk=>(aAe O0.out hk).1
  have B3:=yH ((B0.out.alloc B0.out.size (.cells #[.int .u8 x.cr,.int .u8 x.de,.int .u8 x.cu,.int .i64 x.li,.int .i64 x.db] 115)).grown hgr3 (by simp;omega) (fun k hk=>by have:=R2 k hk;omega));have O3:=yH (show w3.ownsRow (w.heap.size+1) 115 5 v3 (out++[x]).length (aAz (out++[x])) by simpa using hown3);clear R2 hown3 hgr3;clear dg hf;have dg:=(H.out.blk.below B3.out hg).cell 1;simp at dg;have hf:=(H.out.blk.below B3.out hg).frozen;obtain⟨ao3,cap3,hv3,_⟩:=aAd O3.out;subst hv3;go_wp2;go_end0;exact⟨rfl,set_done H.out hg B3.out (by rw[E'.out];have q:=O3.out;simpa using q)⟩
 have E':=yH (show setL ls x=out from E.out);obtain⟨ao3,cap3,hv3,_⟩:=aAd O0.out;subst hv3;go_wp2;go_end0;exact⟨rfl,set_done H.out hg B0.out (by rw[E'.out];exact O0.out)⟩
theorem RefL.keep{S:Nat→Prop}{w w':World}{base g:Nat}{ps:List Int}{ls:List Ln}{vp vl:Value}(h:RefL w base g ps ls vp vl)(k:Keep S w w')(h1:¬S g)(h2:∀b,vp.ownBlock=some b→¬S b)(h3:∀b,vl.ownBlock=some b→¬S b):RefL w' base g ps ls vp vl:=
 ⟨h.blk.keep k h1,h.ge,aAl h.p k h2,aAl h.l k h3⟩
theorem RefL.below{w w':World}{base g:Nat}{ps:List Int}{ls:List Ln}{vp vl:Value}(h:RefL w base g ps ls vp vl)(k:Below w.heap.size w w'):RefL w' base g ps ls vp vl:=
 h.keep (pAE (S:=fun _=>False) k) id (fun _ _=>id) (fun _ _=>id)
theorem rnew_any(w:World)(base:Nat)(hb:base≤w.heap.size):
  Calls Tryz.prog 96 #[] w fun e w'=>e=.returned (.pointer (some ⟨w.heap.size,0,none⟩))∧RefL w' base w.heap.size [] [] (.slice none 0 0) (.slice none 0 0)∧Below w.heap.size w w':=by
 have K:=yH (pAA w #[.slice none 0 0,.slice none 0 0] 157);go_enter Tryz.func96,Tryz.ntmps96;go_wp2;go_ret;exact⟨rfl,⟨K.out,hb,World.ownsRow_nil _ _ _ _,World.ownsRow_nil _ _ _ _⟩,yZ.alloc yL _⟩
def aBr(ps:List Int)(p:Int)(k:Nat):List Int:=((List.range (k - 1)).map fun i:Nat=>(i:Int)+1).filter fun q=>q==p || decide (q∈ps)
theorem aK4(ps:List Int)(p:Int)(k:Nat)(h:1≤k):aBr ps p (k+1)=aBr ps p k++(if((k:Int)==p || decide ((k:Int)∈ps))=true then [(k:Int)]else []):=by
 unfold aBr;rw[show k+1 - 1=(k - 1)+1 by omega,List.range_succ,List.map_append,List.filter_append];congr 1;rw[List.map_singleton,show((k - 1:Nat):Int)+1=(k:Int) by omega];simp only[List.filter_cons,List.filter_nil]
theorem aIz(ps:List Int)(p:Int)(k:Nat):(aBr ps p k).length≤k:=by
 unfold aBr;refine Nat.le_trans (List.length_filter_le _ _) ?_;simp
def aFt(ps:List Int)(p:Int):Int:=if p<1∨16<p then 1 else if p∈ps then 8 else 0
def aDy(ps:List Int)(p:Int):List Int:=if p<1∨16<p then ps else if p∈ps then ps else aBr ps p 17
theorem aI0:(Tryz.prog.info? 43).map (fun i=>(i.zero,i.size,i.bytes))=some (some (.int .u8 0),1,1):=by kernel_rfl
theorem aBy(w:World){ops:Array Oper}{rest:List Oper}{o:Oper}{a:Act}{Q:Exit→Act→World→Prop}(hgd:o.guard=none)(s x:Operand)
  (ho:o.op=.call { callee:=.builtin .append,args:=#[s,x],argTypes:=#[155,155] })(base:Nat)(v:Value)(ps:List Int)(hs:a.eval s=v)
  (hown:w.ownsRow base 43 1 v ps.length (ps.map (.int .u8)))(g c:Nat)(y:Int)(hx:a.eval x=.slice (some ⟨g,0,none⟩) 1 c)(hy:Blk w g #[.int .u8 y] 43)(hlen:ps.length≤100000)(hbase:base≤w.heap.size)
  (h:∀v' w',w'.ownsRow base 43 1 v' (ps++[y]).length ((ps++[y]).map (.int .u8))→w.grownBy w' v.ownBlock→wpList Tryz.prog ops Q rest (a.put o.dst v') w'):wpList Tryz.prog ops Q (o::rest) a w:=by
 obtain⟨i0,hi,hz0,hz1,hz2⟩:=info_parts aI0;refine wpList_append_own w hgd s x 155 ho base 43 i0 (.int .u8 0) 1 1 Tryz.underlying155 hi hz0 hz1 hz2 rfl (by decide) v ps.length (ps.map (.int .u8)) hs hown ⟨g,0,none⟩ 1 c [.int .u8 y] hx rfl ?_ ?_ (by unfold maxLen;omega) (by omega) hbase ?_
 ·intro j u hj;have:=hy.cell j;rw[Go.WideShapes.add_plain]
  match j,hj with
  | 0,hj=>simp at hj;subst hj;simpa using this
  | j+1,hj=>simp at hj
 ·intro u hu;simp at hu;subst hu;rfl
 intro v' w' h1 h2 _;refine h v' w' ?_ h2;rw[List.map_append,List.length_append];exact h1
def OpenAt(ps:List Int)(p:Int)(w:World)(v q:Value)(wr:World):Prop:=
 ∃k:Nat,1≤k∧k≤17∧q=.int .u8 k∧wr.ownsRow w.heap.size 43 1 v (aBr ps p k).length ((aBr ps p k).map (.int .u8))∧Below w.heap.size w wr
theorem ropen_any{w:World}{base g:Nat}{ps:List Int}{ls:List Ln}{vp vl:Value}(h:RefL w base g ps ls vp vl)(p:Int):
  Calls Tryz.prog 39 #[.pointer (some ⟨g,0,none⟩),.int .u8 p] w fun e w'=>e=.returned (.int .i64 (aFt ps p))∧∃vp',RefL w' base g (aDy ps p) ls vp' vl∧Keep (·=g) w w':=by
 have H:=yH h;have c:=yH (fun(w':World) (k:Below w.heap.size w w') (q:Int)=>aC1 (h.below k) q);have hg:=h.blk.lt;clear h;have hs:p<1∨(1≤p∧16<p)∨(1≤p∧p≤16):=by omega
 rcases hs with h1|⟨h1,h2⟩|⟨h1,h2⟩
 ·have E:=yH (show aFt ps p=1∧aDy ps p=ps by unfold aFt aDy;rw[if_pos (.inl h1),if_pos (.inl h1)];exact⟨rfl,rfl⟩);go_enter Tryz.func39,Tryz.ntmps39;go_wp2_with fail;go_ret;exact⟨by rw[E.out.1];rfl,_,by rw[E.out.2];exact H.out,Keep.refl _ _⟩
 ·have E:=yH (show aFt ps p=1∧aDy ps p=ps by unfold aFt aDy;rw[if_pos (.inr h2),if_pos (.inr h2)];exact⟨rfl,rfl⟩);go_enter Tryz.func39,Tryz.ntmps39;go_wp2_with fail;go_ret;exact⟨by rw[E.out.1];rfl,_,by rw[E.out.2];exact H.out,Keep.refl _ _⟩
 by_cases hp:p∈ps
 ·have E:=yH (show aFt ps p=8∧aDy ps p=ps from⟨by unfold aFt;rw[if_neg (by omega),if_pos hp],by unfold aDy;rw[if_neg (by omega),if_pos hp]⟩);have c0:=yH (aC1 H.out p);rw[decide_eq_true hp]at c0;clear hp c;go_enter Tryz.func39,Tryz.ntmps39;go_wp2_with fail;refine c0.out.mono ?_;rintro e w1 ⟨rfl,rfl⟩;go_wp2_with fail;go_ret;exact⟨by rw[E.out.1];rfl,_,by rw[E.out.2];exact H.out,Keep.refl _ _⟩
 have E:=yH (show aFt ps p=0∧aDy ps p=aBr ps p 17 from⟨by unfold aFt;rw[if_neg (by omega),if_neg hp],by unfold aDy;rw[if_neg (by omega),if_neg hp]⟩);have c0:=yH (aC1 H.out p);rw[decide_eq_false hp]at c0;clear hp;go_enter Tryz.func39,Tryz.ntmps39;go_wp2_with fail;refine c0.out.mono ?_;rintro e w ⟨rfl,rfl⟩;go_wp2_with fail
 go_loopw [5,6] (OpenAt ps p w) (fun _ q _=>17 - (intOf q).toNat)
 case atStart=>exact⟨1,by omega,by omega,rfl,World.ownsRow_nil _ _ _ _,yZ⟩
 obtain⟨k,hk0,hk,rfl,hown,hb⟩:=hrel;have hl:=aIz ps p k;have O0:=yH hown;have B0:=yH hb;have hz:=hb.size;clear hown hb
 by_cases hkl:k≤16
 ·have N:=yH (aK4 ps p k hk0);have cq:=yH (c.out _ B0.out (k:Int))
  have hs:(((k:Int)==p)=true)∨(((k:Int)==p)=false∧(k:Int)∈ps)∨(((k:Int)==p)=false∧¬(k:Int)∈ps):=by
   cases ((k:Int)==p) <;> simp <;> exact Classical.em _
  rcases hs with s1|⟨s1,s2⟩|⟨s1,s2⟩
  ·have N2:Hid (aBr ps p (k+1)=aBr ps p k++[(k:Int)]):=yH (by rw[N.out,s1];rfl);clear N;generalize aBr ps p k=out at *;have hl2:out.length≤100000:=by omega
   go_wp2_with (at_builtin;refine aBy _ rfl (.tmp 28) (.tmp 30) rfl w.heap.size _ out rfl (O0.out.alloc _) _ _ (k:Int) rfl (pAA _ _ _) hl2 (by simp;omega) ?_);intro v3 w3 hown3 hgr3;have R2:∀k,Value.ownBlock _=some k→w.heap.size≤k:=fun k hk=>(aAe O0.out hk).1
   have B3:=yH ((B0.out.alloc B0.out.size (.cells #[.int .u8 (k:Int)] 43)).grown hgr3 (by simp;omega) (fun k hk=>R2 k hk));have O3:=yH (show w3.ownsRow w.heap.size 43 1 v3 (out++[(k:Int)]).length ((out++[(k:Int)]).map (.int .u8)) by simpa using hown3);clear R2 hown3 hgr3;go_wp2_with fail;go_roundw
   case rel=>exact⟨k+1,by omega,by omega,by go_num,by rw[N2.out];exact O3.out,B3.out⟩
   case measure=>simp[intOf];omega
  ·have N2:Hid (aBr ps p (k+1)=aBr ps p k++[(k:Int)]):=yH (by rw[N.out,s1,decide_eq_true s2];rfl);rw[decide_eq_true s2]at cq;clear N s2;generalize aBr ps p k=out at *;have hl2:out.length≤100000:=by omega
   go_wp2_with fail;refine cq.out.mono ?_;rintro e wr ⟨rfl,rfl⟩;go_wp2_with (at_builtin;refine aBy _ rfl (.tmp 28) (.tmp 30) rfl w.heap.size _ out rfl (O0.out.alloc _) _ _ (k:Int) rfl (pAA _ _ _) hl2 (by simp;omega) ?_);intro v3 w3 hown3 hgr3;have R2:∀k,Value.ownBlock _=some k→w.heap.size≤k:=fun k hk=>(aAe O0.out hk).1
   have B3:=yH ((B0.out.alloc B0.out.size (.cells #[.int .u8 (k:Int)] 43)).grown hgr3 (by simp;omega) (fun k hk=>R2 k hk));have O3:=yH (show w3.ownsRow w.heap.size 43 1 v3 (out++[(k:Int)]).length ((out++[(k:Int)]).map (.int .u8)) by simpa using hown3);clear R2 hown3 hgr3;go_wp2_with fail;go_roundw
   case rel=>exact⟨k+1,by omega,by omega,by go_num,by rw[N2.out];exact O3.out,B3.out⟩
   case measure=>simp[intOf];omega
  have N2:Hid (aBr ps p (k+1)=aBr ps p k):=yH (by rw[N.out,s1,decide_eq_false s2];simp);rw[decide_eq_false s2]at cq;clear N s2;go_wp2_with fail;refine cq.out.mono ?_;rintro e wr ⟨rfl,rfl⟩;go_wp2_with fail;go_roundw
  case rel=>exact⟨k+1,by omega,by omega,by go_num,by rw[N2.out];exact O0.out,B0.out⟩
  case measure=>simp[intOf];omega
 obtain rfl:k=17:=by omega
 have d0:=(H.out.blk.below B0.out hg).cell 0;simp at d0;have hf:=(H.out.blk.below B0.out hg).frozen;obtain⟨ao3,cap3,hv3,_⟩:=aAd O0.out;subst hv3;go_wp2;go_ret;refine⟨by rw[E.out.1];rfl,.slice ao3 (aBr ps p 17).length cap3,⟨?_,H.out.ge,?_,?_⟩,Keep.setCell (S:=(·=g)) (pAE B0.out) (p:=⟨g,0,none⟩) (.inl rfl) _⟩
 ·have:=(H.out.blk.below B0.out hg).set 0 (.slice ao3 (aBr ps p 17).length cap3);simpa using this
 ·rw[E.out.2];exact aAl (aA4 O0.out (by have:=H.out.ge;omega)) (Keep.setCell (S:=(·=g)) (Keep.refl _ _) (p:=⟨g,0,none⟩) (.inl rfl) _) (aAi O0.out (H.out.blk.below B0.out hg) (by decide))
 exact aAl (aAc H.out.l B0.out) (Keep.setCell (S:=(·=g)) (Keep.refl _ _) (p:=⟨g,0,none⟩) (.inl rfl) _) (aAi (aAc H.out.l B0.out) (H.out.blk.below B0.out hg) (by decide))
theorem aPc{w:World}{base:Nat}{v:Value}{n:Nat}{xs:List Value}(h:w.ownsRow base 220 3 v n xs):
  Calls Tryz.prog 213 #[v] w (aGw w base 220 3 n v xs):=by
 rcases h.2 with⟨rfl,h0⟩|⟨g,cap,cur,rfl,hbase,hb,h1,h2,h3,h4⟩
 ·subst h0;have hr:=aBn (P:=Tryz.prog) w 214 220 3 Tryz.underlying214 (Tryz.sizeOf220 w);have hx:=h.1;have hx2:=yH hx;clear h hx;go_enter Tryz.func213,Tryz.ntmps213;go_wp2;refine bodyPost_ret (v:=.slice none 0 0) (by simp[results,Tryz.results213,go_sem]) rfl ?_;exact⟨_,rfl,⟨hx2.out,.inl ⟨rfl,rfl⟩⟩,rfl,rfl⟩
 have hr:=aCj (P:=Tryz.prog) w 214 220 3 Tryz.underlying214 (Tryz.sizeOf220 w) g n cap h1;have HR:=yH (show aCl w base 220 3 (.slice (some ⟨g,0,none⟩) n n) n xs from⟨h.1,.inr ⟨g,cur,rfl,hbase,hb,by omega,by omega,h4⟩⟩);clear h hb h4 h3;unfold maxLen at h2;go_enter Tryz.func213,Tryz.ntmps213;go_wp2;refine bodyPost_ret (v:=.slice (some ⟨g,0,none⟩) n n) (by simp[results,Tryz.results213,go_sem]) rfl ?_;exact⟨_,rfl,HR.out,rfl,rfl⟩
theorem Blk.capSetN{w:World}{g:Nat}{f:Int→Int→Int}{b:Bool}{t:TypeId}(h:Blk w g (graC f b) t){p q:Nat}(hp:p<17)(hq:q<17)(n:Int):
  Blk (w.setCell ⟨g,p*17+q,none⟩ (.int .i64 n)) g (graC (updE f p q n) b) t:=by
 have:=h.set (p*17+q) (.int .i64 n);rw[graC_set f b hp hq]at this;exact this
theorem Blk.capN{w:World}{g:Nat}{f:Int→Int→Int}{b:Bool}{t:TypeId}(h:Blk w g (graC f b) t){p q:Nat}(hp:p<17)(hq:q<17):w.cell? ⟨g,p*17+q,none⟩=some (.int .i64 (f p q)):=by
 rw[h.cell,graC_at f b hp hq]
def aL7(rf:Int→Int→Int)(m:Nat)(a b:Int):Int:=if a*17+b<m then rf a b else 0
theorem partF_zero(rf:Int→Int→Int):graC (aL7 rf 0) true=graC aG7 true:=aIy true fun p q hp hq=>by unfold aL7 aG7;rw[if_neg (by omega)]
theorem partF_next(rf:Int→Int→Int){p q:Nat}(hp:p<17)(hq:q<17):graC (updE (aL7 rf (p*17+q)) p q (rf p q)) true=graC (aL7 rf (p*17+(q+1))) true:=aIy true fun a b ha hb=>by
 unfold updE aL7
 by_cases h:(a:Int)=p∧(b:Int)=q
 ·rw[if_pos h,if_pos (by omega),h.1,h.2]
 rw[if_neg h]
 by_cases h2:(a:Int)*17+b<((p*17+q:Nat):Int)
 ·rw[if_pos h2,if_pos (by omega)]
 rw[if_neg h2,if_neg (by omega)]
theorem partF_all(rf:Int→Int→Int):graC (aL7 rf (17*17)) true=graC rf true:=aIy true fun p q hp hq=>by unfold aL7;rw[if_pos (by omega)]
def GOfAt(w:World)(rf:Int→Int→Int)(i:Value)(wr:World):Prop:=
 ∃p:Nat,p≤17∧i=.int .i64 p∧Blk wr w.heap.size (graC (aL7 rf (p*17)) true) 268∧Below w.heap.size w wr
def GOfIn(w:World)(rf:Int→Int→Int)(p:Nat)(i:Value)(wr:World):Prop:=
 ∃q:Nat,q≤17∧i=.int .i64 q∧Blk wr w.heap.size (graC (aL7 rf (p*17+q)) true) 268∧Below w.heap.size w wr
theorem gof_any{w:World}{lv:Value}{c:Int}{rf:Int→Int→Int}
  (hr:∀w',Below w.heap.size w w'→∀p q:Int,In8 p→In8 q→Calls Tryz.prog 143 #[lv,.int .u8 p,.int .u8 q,.int .u8 c] w' fun e w''=>e=.returned (.int .i64 (rf p q))∧Below w'.heap.size w' w''):
  Calls Tryz.prog 184 #[lv,.int .u8 c] w fun e w'=>e=.returned (.pointer (some ⟨w.heap.size,0,none⟩))∧Blk w' w.heap.size (graC rf true) 268∧Below w.heap.size w w':=by
 have HR:=yH hr;clear hr;have B0:=yH ((Below.refl w.heap.size w).alloc yL (.cells (graC aG7 true) 268));have K0:=pAA w (graC aG7 true) 268
 have K0':=yH (show Blk (w.alloc (.cells (graC aG7 true) 268)) w.heap.size (graC (aL7 rf (0*17)) true) 268 from by
  rw[show 0*17=0 from rfl,partF_zero];exact K0)
 clear K0;go_enter Tryz.func184,Tryz.ntmps184;go_wp2_with ((with_reducible refine aCb ?_ 268 #[(1,.const (.bool true))] ?_ #[(1,.bool true)] ?_ (graC aG7 true) (build_gra0 _) ?_);exact rfl;exact rfl;simp[Act.eval,Act.put])
 go_loopw [10] (GOfAt w rf) (fun i _=>17 - (intOf i).toNat)
 case atStart=>exact⟨0,by omega,rfl,K0'.out,B0.out⟩
 clear K0' B0;obtain⟨p,hp,rfl,hG,hB⟩:=hrel;have G1:=yH hG;have B1:=yH hB;clear hG hB
 by_cases hp2:p<17
 ·have hpi:(p:Int)<17:=by omega
  go_wp2_with fail
  go_loopw [13] (GOfIn w rf p) (fun i _=>17 - (intOf i).toNat)
  case atStart=>exact⟨0,by omega,rfl,G1.out,B1.out⟩
  clear G1 B1;obtain⟨q,hq,rfl,hG,hB⟩:=hrel;have G1:=yH hG;have B1:=yH hB;clear hG hB
  by_cases hq2:q<17
  ·have hqi:(q:Int)<17:=by omega
   have CR:=yH (fun w' (k:Below wr.heap.size wr w')=>HR.out w' (B1.out.trans (k.mono B1.out.size)) p q (by unfold In8;omega) (by unfold In8;omega));have NX:=yH (partF_next rf hp2 hq2);obtain⟨n,hn⟩:∃n,rf p q=n:=⟨_,rfl⟩;rw[hn]at CR NX;clear hn;go_wp2_with fail
   refine aCi (by kernel_rfl) 14 16 [(.pointer (some ⟨w.heap.size,0,none⟩)),(.int .i64 p),(.int .i64 q),lv,(.int .i64 p),(.int .u8 p),(.int .i64 q),(.int .u8 q),(.int .u8 c),(.int .i64 n),(.pointer (some ⟨w.heap.size,0,none⟩)),(.pointer (some ⟨w.heap.size,0,none⟩)),(.pointer (some ⟨w.heap.size,p*17,none⟩)),(.pointer (some ⟨w.heap.size,p*17+q,none⟩))]
    (fun w'=>Below wr.heap.size wr w') (by kernel_rfl) rfl (by kernel_rfl) yZ.drew ?_
   intro af haf;simp only[yG,List.append_eq,List.cons_append,List.nil_append,puts,Act.put,yA,yC,yF,yD,yE]at haf;subst haf;refine⟨?_,?_⟩
   ·simp only[yG,List.take_succ_cons,List.take_zero,aBe];refine⟨?z1,?z2,?z3,?z4,?z5,?z6,?z7,?z8,?z9,?_,?z10,?z11,?z12,?z13,trivial⟩
    case z1|z2|z3|z4|z5|z6|z7|z8|z9|z10|z11|z12|z13=>
     intro w' hS;refine yO rfl ?_;have HS:=yH hS;clear hS;go_wp2_with fail;all_goals first|exact HS|exact⟨rfl,HS⟩|rfl|exact⟨by omega,HS.out⟩
    intro w' hS;refine yO rfl ?_;have HS:=yH hS;clear hS;go_wp2_with fail;refine(CR.out w' HS.out).mono ?_;rintro e w'' ⟨rfl,hb2⟩;exact⟨rfl,andB HS.out hb2⟩
   simp only[yC,yA,yG];intro w' hS;refine yO rfl ?_;have kb:=yH ((G1.out.below hS G1.out.lt).capSetN hp2 hq2 n);have dm:=(G1.out.below hS G1.out.lt).capN hp2 hq2;have fr:=(G1.out.below hS G1.out.lt).frozen (p*17+q);have k4:=yH (((B1.out.trans (hS.mono B1.out.size)).setCell (p:=⟨w.heap.size,p*17+q,none⟩) (by simp) (.int .i64 n)));clear hS;go_wp2_with fail;generalize w'.setCell ⟨w.heap.size,p*17+q,none⟩ (.int .i64 n)=w4 at *;go_roundw
   case rel=>exact⟨q+1,by omega,by go_num,by rw[←NX.out];exact kb.out,k4.out⟩
   case measure=>simp[intOf];omega
  have hq17:q=17:=by omega
  subst hq17;go_wp2_with fail;go_roundw
  case rel=>exact⟨p+1,by omega,by go_num,by rw[show(p+1)*17=p*17+17 by omega];exact G1.out,B1.out⟩
  case measure=>simp[intOf];omega
 have hp17:p=17:=by omega
 subst hp17;rw[partF_all]at G1;go_wp2_with fail;go_ret;exact⟨rfl,G1.out,B1.out⟩
end Go.Proofs.YtaeocliklpcgmaaGreat
