/- Pieces of one proof. -/
import Derived.Test.YtngnfdnfpiiclaaGreatO02
import Derived.Deep.RegionLaw
import Derived.Maps.AppendAt
import Derived.StillTailTactics
import Derived.Deep.Slices
import Derived.Deep.Fields
import Derived.ChangeSame
import Derived.OpenShut
import Derived.Lib.SmallJoins
set_option linter.all false
set_option maxHeartbeats 64000000
set_option maxRecDepth 100000
namespace Go.Proofs.YtngnfdnfpiiclaaGreat
open Go.RowKit
structure RefL(w:World)(base g:Nat)(ps:List Int)(ls:List Ln)(vp vl:Value):Prop where
 blk:Blk w g #[vp,vl] 120
 ge:base≤g
 p:w.ownsRow base 68 1 vp ps.length (ps.map (.int .u8))
 l:w.ownsRow base 71 5 vl ls.length (aAd ls)
theorem aE9{w:World}{base g:Nat}{ps:List Int}{ls:List Ln}{vp vl:Value}(h:RefL w base g ps ls vp vl)(p:Int):
  Calls Tryz.prog 70 #[.pointer (some ⟨g,0,none⟩),.int .u8 p] w (yV w (.bool (decide (p∈ps)))):=by
 have d0:=h.blk.cell 0;simp at d0;obtain⟨ao,cap,rfl,hc1,hc2,hc3,hc4⟩:=aAh h.p;have HC:=yH hc4;have hlt:=h.blk.lt;unfold maxLen at hc2;clear hc3 hc4 h;go_enter Tryz.func70,Tryz.ntmps70;go_wp2
 go_loop [5] (fun i=>∃k:Nat,k≤ps.length∧i=.int .i64 k∧Hid (p∉ps.take k)) (fun i=>ps.length - (intOf i).toNat)
 case atStart=>exact⟨0,Nat.zero_le _,rfl,yH (by simp)⟩
 obtain⟨k,hk,rfl,hn⟩:=hrel
 by_cases hkl:k<ps.length
 ·obtain⟨b,rfl,hb1,hb2,hcell,_⟩:=HC.o (by omega);have hck:w.cell? ⟨b,k,none⟩=some (.int .u8 ps[k]):=by rw[hcell k (by omega)];simp[hkl]
  clear hcell
  by_cases he:ps[k]=p
  ·have hq:(ps[k]==p)=true:=by simp[he]
   have hin:decide (p∈ps)=true:=by rw[decide_eq_true_eq,←he];exact List.getElem_mem hkl
   have HI:=yH hin;clear he hin;go_wp2;go_ret;exact⟨by rw[HI.o];rfl,rfl⟩
  have hq:(ps[k]==p)=false:=by simp[he]
  have HN:Hid (p∉ps.take (k+1)):=yH (by
   rw[List.take_succ_eq_append_getElem hkl];simp only[List.mem_append,List.mem_singleton,not_or];exact⟨hn.out,fun e=>he e.symm⟩)
  clear he;go_wp2
  go_round
  case rel=>exact⟨k+1,by omega,by go_num,HN⟩
  case measure=>simp[intOf];omega
 have hin:decide (p∈ps)=false:=by
  rw[decide_eq_false_iff_not];have:=hn.out
  rwa [List.take_of_length_le (by omega)]at this
 have HI:=yH hin;clear hin;go_wp2;go_ret;exact⟨by rw[HI.o];rfl,rfl⟩
theorem aBj(x:Ln)(w:World)(h:x.Fits):
  Calls Tryz.prog 109 #[x.val] w (yR w (.int .i64 x.rank)):=by
 obtain⟨⟨a1,a2⟩,⟨b1,b2⟩,⟨c1,c2⟩,_,_⟩:=h;have B0:=yH ((Below.refl w.heap.size w).alloc yL (.cells #[.int .u8 x.cr,.int .u8 x.de,.int .u8 x.cu,.int .i64 x.li,.int .i64 x.db] 71));unfold Ln.val Ln.rank;go_enter Tryz.func109,Tryz.ntmps109;go_wp2;go_ret;exact⟨rfl,B0.o⟩
theorem aKi{w:World}{b:Nat}{ls:List Ln}(h:∀j,j<ls.length*5→w.cell? ⟨b,j,none⟩=(aAd ls)[j]?){k:Nat}(hk:k<ls.length):
  w.cell? ⟨b,k*5,none⟩=some (.int .u8 ls[k].cr)∧w.cell? ⟨b,k*5+1,none⟩=some (.int .u8 ls[k].de)∧w.cell? ⟨b,k*5+2,none⟩=some (.int .u8 ls[k].cu)∧w.cell? ⟨b,k*5+3,none⟩=some (.int .i64 ls[k].li)∧w.cell? ⟨b,k*5+4,none⟩=some (.int .i64 ls[k].db):=by
 refine⟨?_,?_,?_,?_,?_⟩
 ·have:=aAp ls k 0 (by omega) hk;rw[Nat.add_zero]at this;rw[h _ (by omega),this];rfl
 ·rw[h _ (by omega),aAp ls k 1 (by omega) hk];rfl
 ·rw[h _ (by omega),aAp ls k 2 (by omega) hk];rfl
 ·rw[h _ (by omega),aAp ls k 3 (by omega) hk];rfl
 rw[h _ (by omega),aAp ls k 4 (by omega) hk];rfl
theorem take_next{α:Type}{q:α→Prop}{l:List α}{k:Nat}(h:k<l.length)(hn:∀x∈l.take k,q x)(hx:q l[k]):∀x∈l.take (k+1),q x:=by
 rw[List.take_succ_eq_append_getElem h];intro x hx';rcases List.mem_append.1 hx' with h1|h1
 ·exact hn x h1
 rw[List.mem_singleton]at h1;rw[h1];exact hx
theorem rat_any{w:World}{base g:Nat}{ps:List Int}{ls:List Ln}{vp vl:Value}(h:RefL w base g ps ls vp vl)(p q c:Int):
  Calls Tryz.prog 139 #[.pointer (some ⟨g,0,none⟩),.int .u8 p,.int .u8 q,.int .u8 c] w (yV w (.int .i64 (atL ls p q c))):=by
 have d0:=h.blk.cell 1;simp at d0;obtain⟨ao,cap,rfl,hc1,hc2,hc3,hc4⟩:=aAh h.l;have HC:=yH hc4;have hlt:=h.blk.lt;unfold maxLen at hc2;clear hc3 hc4 h;go_enter Tryz.func139,Tryz.ntmps139;go_wp2
 go_loop [9] (fun i=>∃k:Nat,k≤ls.length∧i=.int .i64 k∧Hid (∀x∈ls.take k,x.is p q c=false)) (fun i=>ls.length - (intOf i).toNat)
 case atStart=>exact⟨0,Nat.zero_le _,rfl,yH (by simp)⟩
 obtain⟨k,hk,rfl,hn⟩:=hrel
 by_cases hkl:k<ls.length
 ·obtain⟨b,rfl,hb1,hb2,hcell,_⟩:=HC.o (by omega);obtain⟨e0,e1,e2,_,_⟩:=aKi hcell hkl
  have hs:((ls[k].cr==p)=true∧(ls[k].de==q)=true∧(ls[k].cu==c)=true∧ls[k].is p q c=true)∨((ls[k].cr==p)=false∧ls[k].is p q c=false)∨((ls[k].cr==p)=true∧(ls[k].de==q)=false∧ls[k].is p q c=false)∨((ls[k].cr==p)=true∧(ls[k].de==q)=true∧(ls[k].cu==c)=false∧ls[k].is p q c=false):=by
   unfold Ln.is
   cases ls[k].cr==p <;> cases ls[k].de==q <;> cases ls[k].cu==c <;> simp
  clear hcell;rcases hs with⟨s1,s2,s3,s4⟩|⟨s1,s4⟩|⟨s1,s2,s4⟩|⟨s1,s2,s3,s4⟩
  ·have HA:=yH (at_found hkl hn.out s4).1;clear s4;go_wp2;go_ret;exact⟨by rw[HA.o];rfl,rfl⟩
  all_goals
   have HN:=yH (take_next hkl hn.out s4);clear s4;go_wp2
   go_round
   case rel=>exact⟨k+1,by omega,by go_num,HN⟩
   case measure=>simp[intOf];omega
 have HA:=yH (aJ8 (ls:=ls) (a:=p) (b:=q) (c:=c) (by have:=hn.out;rwa [List.take_of_length_le (by omega)]at this)).1;go_wp2;go_ret;exact⟨by rw[HA.o];rfl,rfl⟩
def lineV(o:Option Ln):Value:=match o with|some x=>.tuple #[x.val,.bool true]|none=>.tuple #[noLn.val,.bool false]
theorem rline_any{w:World}{base g:Nat}{ps:List Int}{ls:List Ln}{vp vl:Value}(h:RefL w base g ps ls vp vl)(p q c:Int):
  Calls Tryz.prog 89 #[.pointer (some ⟨g,0,none⟩),.int .u8 p,.int .u8 q,.int .u8 c] w (yR w (lineV (aAl ls p q c))):=by
 have ob:=yH (Blk.new w #[.int .u8 0,.int .u8 0,.int .u8 0,.int .i64 0,.int .i64 0] 71);have bb:=yH ((Below.refl w.heap.size w).alloc yL (.cells #[.int .u8 0,.int .u8 0,.int .u8 0,.int .i64 0,.int .i64 0] 71));have kk:Keep (fun _=>False) w (w.alloc (.cells #[.int .u8 0,.int .u8 0,.int .u8 0,.int .i64 0,.int .i64 0] 71)):=pAD bb.out;have h2:RefL (w.alloc (.cells #[.int .u8 0,.int .u8 0,.int .u8 0,.int .i64 0,.int .i64 0] 71)) base g ps ls vp vl:=⟨h.blk.keep kk id,h.ge,aAw h.p kk (fun _ _=>id),aAw h.l kk (fun _ _=>id)⟩;have ca:=yH (rat_any h2 p q c);have d0:=h2.blk.cell 1;simp at d0;obtain⟨ao,cap,rfl,hc1,hc2,hc3,hc4⟩:=aAh h2.l;have HC:=yH hc4;have hlt:=h2.blk.lt;unfold maxLen at hc2;clear hc3 hc4 h kk h2;rcases aJ9 ls p q c with⟨k,hk,ha,hl,_⟩|⟨ha,hl,_⟩
 ·rw[ha]at ca;rw[hl];obtain⟨b,rfl,hb1,hb2,hcell,_⟩:=HC.o (by omega);obtain⟨e0,e1,e2,e3,e4⟩:=aKi hcell hk;clear hcell ha hl;go_enter Tryz.func89,Tryz.ntmps89;go_wp2_with fail;refine ca.out.mono ?_;rintro e w1 ⟨rfl,rfl⟩;go_wp2;refine bodyPost_ret (v:=.tuple #[ls[k].val,.bool true]) (aA5 rfl _ _ w.heap.size 71 #[.int .u8 ls[k].cr,.int .u8 ls[k].de,.int .u8 ls[k].cu,.int .i64 ls[k].li,.int .i64 ls[k].db] _ _ rfl (Blk.new w #[.int .u8 ls[k].cr,.int .u8 ls[k].de,.int .u8 ls[k].cu,.int .i64 ls[k].li,.int .i64 ls[k].db] 71).out Tryz.underlying71 rfl (by kernel_rfl) rfl) rfl ⟨rfl,yZ.alloc yL _⟩
 rw[ha]at ca;rw[hl];clear ha hl;go_enter Tryz.func89,Tryz.ntmps89;go_wp2_with fail;refine ca.out.mono ?_;rintro e w1 ⟨rfl,rfl⟩;go_wp2;refine bodyPost_ret (v:=.tuple #[noLn.val,.bool false]) (aA5 rfl _ _ w.heap.size 71 #[.int .u8 0,.int .u8 0,.int .u8 0,.int .i64 0,.int .i64 0] _ _ rfl (Blk.new w #[.int .u8 0,.int .u8 0,.int .u8 0,.int .i64 0,.int .i64 0] 71).out Tryz.underlying71 rfl (by kernel_rfl) rfl) rfl ⟨rfl,yZ.alloc yL _⟩
theorem aEv:(Tryz.prog.info? 71).map (fun i=>(i.zero,i.size,i.bytes))=some (some noLn.val,5,24):=by kernel_rfl
theorem aA9(w:World){ops:Array Oper}{rest:List Oper}{o:Oper}{a:Act}{Q:Exit→Act→World→Prop}(hgd:o.guard=none)(s x:Operand)
  (ho:o.op=.call { callee:=.builtin .append,args:=#[s,x],argTypes:=#[42,42] })(base:Nat)(v:Value)(ls:List Ln)(hs:a.eval s=v)
  (hown:w.ownsRow base 71 5 v ls.length (aAd ls))(g c:Nat)(y:Ln)(hx:a.eval x=.slice (some ⟨g,0,none⟩) 1 c)(hy:Blk w g #[.int .u8 y.cr,.int .u8 y.de,.int .u8 y.cu,.int .i64 y.li,.int .i64 y.db] 71)(hlen:ls.length≤100000)(hbase:base≤w.heap.size)
  (h:∀v' w',w'.ownsRow base 71 5 v' (ls++[y]).length (aAd (ls++[y]))→w.grownBy w' v.ownBlock→wpList Tryz.prog ops Q rest (a.put o.dst v') w'):wpList Tryz.prog ops Q (o::rest) a w:=by
 obtain⟨i0,hi,hz0,hz1,hz2⟩:=info_parts aEv;refine wpList_append_own w hgd s x 42 ho base 71 i0 noLn.val 5 24 Tryz.underlying42 hi hz0 hz1 hz2 rfl (by decide) v ls.length (aAd ls) hs hown ⟨g,0,none⟩ 1 c y.vals hx rfl ?_ ?_ (by unfold maxLen;omega) (by omega) hbase ?_
 ·intro j u hj;have:=hy.cell j;rw[Go.WideShapes.add_plain]
  match j,hj with
  | 0,hj=>simp[Ln.vals]at hj;subst hj;simpa using this
  | 1,hj=>simp[Ln.vals]at hj;subst hj;simpa using this
  | 2,hj=>simp[Ln.vals]at hj;subst hj;simpa using this
  | 3,hj=>simp[Ln.vals]at hj;subst hj;simpa using this
  | 4,hj=>simp[Ln.vals]at hj;subst hj;simpa using this
  | j+5,hj=>simp[Ln.vals]at hj
 ·intro u hu;simp[Ln.vals]at hu;rcases hu with rfl|rfl|rfl|rfl|rfl <;> rfl
 intro v' w' h1 h2 _;refine h v' w' ?_ h2;rw[aJd,aMv,List.length_append];exact h1
theorem set_done{w w1:World}{base g:Nat}{ps:List Int}{ls ls':List Ln}{vp vl v:Value}(h:RefL w base g ps ls vp vl)(hg:g<w.heap.size)(hb:Below w.heap.size w w1)(ho:w1.ownsRow (w.heap.size+1) 71 5 v ls'.length (aAd ls')):
  ∃vl',RefL (w1.setCell ⟨g,1,none⟩ v) base g ps ls' vp vl'∧Keep (·=g) w (w1.setCell ⟨g,1,none⟩ v):=by
 have k0:Keep (·=g) w1 (w1.setCell ⟨g,1,none⟩ v):=Keep.setCell (S:=(·=g)) (Keep.refl _ _) (p:=⟨g,1,none⟩) (.inl rfl) v;have hblk:=h.blk.below hb hg;refine⟨v,⟨?_,h.ge,?_,?_⟩,(Keep.setCell (S:=(·=g)) (pAD hb) (p:=⟨g,1,none⟩) (.inl rfl) v)⟩
 ·have:=hblk.set 1 v;simpa using this
 ·have hp:=aAc h.p hb;exact aAw hp k0 (aBz hp hblk (by decide))
 exact aAw (aBo ho (by have:=h.ge;omega)) k0 (aBz ho hblk (by decide))
def SetAt(ls:List Ln)(x:Ln)(w:World)(v put i:Value)(wr:World):Prop:=
 ∃k:Nat,k≤ls.length∧i=.int .i64 k∧put=.bool (aDi (ls.take k) x).2∧wr.ownsRow (w.heap.size+1) 71 5 v (aDi (ls.take k) x).1.length (aAd (aDi (ls.take k) x).1)∧Below w.heap.size w wr∧Blk wr w.heap.size #[.int .u8 x.cr,.int .u8 x.de,.int .u8 x.cu,.int .i64 x.li,.int .i64 x.db] 71
theorem aGc{w:World}{base g:Nat}{ps:List Int}{ls:List Ln}{vp vl:Value}(h:RefL w base g ps ls vp vl)(x:Ln)(hx:x.Fits)(hfit:∀y∈ls,y.Fits)(hlen:ls.length≤1000):
  Calls Tryz.prog 110 #[.pointer (some ⟨g,0,none⟩),x.val] w fun e w'=>e=.returned (.tuple #[])∧∃vl',RefL w' base g ps (setL ls x) vp vl'∧Keep (·=g) w w':=by
 have cx:=yH (fun w=>aBj x w hx);have HF:=yH hfit;have KX:=yH (Blk.new w #[.int .u8 x.cr,.int .u8 x.de,.int .u8 x.cu,.int .i64 x.li,.int .i64 x.db] 71);have BI:=yH ((Below.refl w.heap.size w).alloc yL (.cells #[.int .u8 x.cr,.int .u8 x.de,.int .u8 x.cu,.int .i64 x.li,.int .i64 x.db] 71));have H:=yH h;obtain⟨ao,cap,rfl,hc1,hc2,hc3,hc4⟩:=aAh h.l;have HC:=yH hc4;have hg:=h.blk.lt;unfold maxLen at hc2;clear hc3 hc4 h hfit hx;have hz:∀b:Bool,(x.li==0)=b→Hid ((x.li==0)=b):=fun b h=>h
 unfold Ln.val at cx ⊢;go_enter Tryz.func110,Tryz.ntmps110;go_wp2_with fail
 go_loopw [4,5,6] (SetAt ls x w) (fun _ _ i _=>ls.length - (intOf i).toNat)
 case atStart=>exact⟨0,Nat.zero_le _,rfl,rfl,World.ownsRow_nil _ _ _ _,BI.o,KX.o⟩
 obtain⟨k,hk,rfl,rfl,hown,hb,hkx⟩:=hrel;have hlo:=setTo_len (ls.take k) x;have hlk:(ls.take k).length≤k:=List.length_take_le _ _;have dg:=(H.o.blk.below hb hg).cell 1;simp at dg;have hgr:=(H.o.blk.below hb hg).lt
 by_cases hkl:k<ls.length
 ·have HS:=yH (setTo_take ls x k hkl);obtain⟨b,rfl,hb1,hb2,hcell,_⟩:=HC.o (by omega);obtain⟨e0,e1,e2,e3,e4⟩:=aKi (w:=wr) (fun j hj=>by rw[hb.cell (p:=⟨b,j,none⟩) hb2];exact hcell j hj) hkl;have hyf:=HF.o ls[k] (List.getElem_mem hkl);have hbr:b<wr.heap.size:=yM hb2 hb.size;clear hcell;generalize ls[k]=y at *;generalize aDi (ls.take k) x=s at *;obtain⟨out,put⟩:=s;dsimp only at *;have cy:=yH (fun w=>aBj y w hyf);unfold Ln.val at cy;have KY0:=yH (Blk.new wr #[.int .u8 y.cr,.int .u8 y.de,.int .u8 y.cu,.int .i64 y.li,.int .i64 y.db] 71);have KX0:=yH (hkx.alloc (.cells #[.int .u8 y.cr,.int .u8 y.de,.int .u8 y.cu,.int .i64 y.li,.int .i64 y.db] 71));have hrow:∀k,Value.ownBlock _=some k→k<wr.heap.size:=fun k hk=>(aAn hown hk).2.1
  have B0:=yH (hb.alloc hb.size (.cells #[.int .u8 y.cr,.int .u8 y.de,.int .u8 y.cu,.int .i64 y.li,.int .i64 y.db] 71));have O0:=yH (hown.alloc (.cells #[.int .u8 y.cr,.int .u8 y.de,.int .u8 y.cu,.int .i64 y.li,.int .i64 y.db] 71));have hgy:w.heap.size+1≤wr.heap.size:=hkx.lt;clear hown hb hkx hyf
  have hs:(y.rank=x.rank)∨(y.rank≠x.rank∧put=true)∨(y.rank≠x.rank∧put=false∧x.rank<y.rank)∨(y.rank≠x.rank∧put=false∧¬x.rank<y.rank):=by
   cases put <;> simp <;> omega
  rcases hs with h1|⟨h1,rfl⟩|⟨h1,rfl,h2⟩|⟨h1,rfl,h2⟩
  ·have q1:(y.rank==x.rank)=true:=by simp[h1]
   have NX:Hid (aDi (ls.take (k+1)) x=(out,put)):=yH (by rw[HS.o];unfold aA1;rw[if_pos h1]);clear HS h1;have z0:w.heap.size+1≤(wr.alloc (.cells #[.int .u8 y.cr,.int .u8 y.de,.int .u8 y.cu,.int .i64 y.li,.int .i64 y.db] 71)).heap.size:=by simp;omega
   go_wp2_with fail;generalize wr.alloc (.cells #[.int .u8 y.cr,.int .u8 y.de,.int .u8 y.cu,.int .i64 y.li,.int .i64 y.db] 71)=Wy at *;generalize wr.heap.size=gy at *
   refine aAg (by kernel_rfl) [.agg #[.int .u8 y.cr,.int .u8 y.de,.int .u8 y.cu,.int .i64 y.li,.int .i64 y.db],.int .i64 y.rank,.agg #[.int .u8 x.cr,.int .u8 x.de,.int .u8 x.cu,.int .i64 x.li,.int .i64 x.db],.int .i64 x.rank,.bool true]
    (fun w'=>Below Wy.heap.size Wy w') (by kernel_rfl) yZ.drew ?_
   intro af haf;simp only[puts,Act.put,yA,yC,yF,yD,yE]at haf;subst haf;refine⟨?_,?_⟩
   ·simp only[aAv];refine⟨?_,?_,?_,?_,?_,trivial⟩
    ·intro w' hS;refine yO rfl ?_;have d0_0:=(KY0.o.below hS KY0.o.lt).cell 0;have d0_1:=(KY0.o.below hS KY0.o.lt).cell 1;have d0_2:=(KY0.o.below hS KY0.o.lt).cell 2;have d0_3:=(KY0.o.below hS KY0.o.lt).cell 3;have d0_4:=(KY0.o.below hS KY0.o.lt).cell 4;simp at d0_0 d0_1 d0_2 d0_3 d0_4;have HS:=yH hS;clear hS;go_wp2_with fail;all_goals first|exact HS|exact⟨rfl,HS⟩|rfl
    ·intro w' hS;refine yO rfl ?_;have HS:=yH hS;clear hS;go_wp2_with fail;refine(cy.out w').mono ?_;rintro e w'' ⟨rfl,hb2⟩;exact⟨rfl,andB HS.o hb2⟩
    ·intro w' hS;refine yO rfl ?_;have d0_0:=(KX0.o.below hS KX0.o.lt).cell 0;have d0_1:=(KX0.o.below hS KX0.o.lt).cell 1;have d0_2:=(KX0.o.below hS KX0.o.lt).cell 2;have d0_3:=(KX0.o.below hS KX0.o.lt).cell 3;have d0_4:=(KX0.o.below hS KX0.o.lt).cell 4;simp at d0_0 d0_1 d0_2 d0_3 d0_4;have HS:=yH hS;clear hS;go_wp2_with fail;all_goals first|exact HS|exact⟨rfl,HS⟩|rfl
    ·intro w' hS;refine yO rfl ?_;have HS:=yH hS;clear hS;go_wp2_with fail;refine(cx.out w').mono ?_;rintro e w'' ⟨rfl,hb2⟩;exact⟨rfl,andB HS.o hb2⟩
    intro w' hS;refine yO rfl ?_;have HS:=yH hS;clear hS;go_wp2_with fail;all_goals first|exact HS|exact⟨rfl,HS⟩|rfl
   intro w1 hS;have z1:w.heap.size+1≤w1.heap.size:=Nat.le_trans z0 hS.size;have KX1:=yB KX0 hS;have KY1:=yB KY0 hS;have B1:=yT B0 hS;have O1:=yH (aAc O0.o hS);clear hS;go_wp2_with fail;go_roundw
   case rel=>exact⟨k+1,by omega,by go_num,by rw[NX.o],by rw[NX.o];exact O1.o,B1.o,KX1.o⟩
   case measure=>simp[intOf];omega
  ·have q1:(y.rank==x.rank)=false:=by simp[h1]
   have NX:Hid (aDi (ls.take (k+1)) x=(out++[y],true)):=yH (by rw[HS.o];unfold aA1;rw[if_neg h1,if_neg (by simp)]);clear HS h1;have z0:w.heap.size+1≤(wr.alloc (.cells #[.int .u8 y.cr,.int .u8 y.de,.int .u8 y.cu,.int .i64 y.li,.int .i64 y.db] 71)).heap.size:=by simp;omega
   go_wp2_with fail;generalize wr.alloc (.cells #[.int .u8 y.cr,.int .u8 y.de,.int .u8 y.cu,.int .i64 y.li,.int .i64 y.db] 71)=Wy at *;generalize wr.heap.size=gy at *
   refine aAg (by kernel_rfl) [.agg #[.int .u8 y.cr,.int .u8 y.de,.int .u8 y.cu,.int .i64 y.li,.int .i64 y.db],.int .i64 y.rank,.agg #[.int .u8 x.cr,.int .u8 x.de,.int .u8 x.cu,.int .i64 x.li,.int .i64 x.db],.int .i64 x.rank,.bool false]
    (fun w'=>Below Wy.heap.size Wy w') (by kernel_rfl) yZ.drew ?_
   intro af haf;simp only[puts,Act.put,yA,yC,yF,yD,yE]at haf;subst haf;refine⟨?_,?_⟩
   ·simp only[aAv];refine⟨?_,?_,?_,?_,?_,trivial⟩
    ·intro w' hS;refine yO rfl ?_;have d0_0:=(KY0.o.below hS KY0.o.lt).cell 0;have d0_1:=(KY0.o.below hS KY0.o.lt).cell 1;have d0_2:=(KY0.o.below hS KY0.o.lt).cell 2;have d0_3:=(KY0.o.below hS KY0.o.lt).cell 3;have d0_4:=(KY0.o.below hS KY0.o.lt).cell 4;simp at d0_0 d0_1 d0_2 d0_3 d0_4;have HS:=yH hS;clear hS;go_wp2_with fail;all_goals first|exact HS|exact⟨rfl,HS⟩|rfl
    ·intro w' hS;refine yO rfl ?_;have HS:=yH hS;clear hS;go_wp2_with fail;refine(cy.out w').mono ?_;rintro e w'' ⟨rfl,hb2⟩;exact⟨rfl,andB HS.o hb2⟩
    ·intro w' hS;refine yO rfl ?_;have d0_0:=(KX0.o.below hS KX0.o.lt).cell 0;have d0_1:=(KX0.o.below hS KX0.o.lt).cell 1;have d0_2:=(KX0.o.below hS KX0.o.lt).cell 2;have d0_3:=(KX0.o.below hS KX0.o.lt).cell 3;have d0_4:=(KX0.o.below hS KX0.o.lt).cell 4;simp at d0_0 d0_1 d0_2 d0_3 d0_4;have HS:=yH hS;clear hS;go_wp2_with fail;all_goals first|exact HS|exact⟨rfl,HS⟩|rfl
    ·intro w' hS;refine yO rfl ?_;have HS:=yH hS;clear hS;go_wp2_with fail;refine(cx.out w').mono ?_;rintro e w'' ⟨rfl,hb2⟩;exact⟨rfl,andB HS.o hb2⟩
    intro w' hS;refine yO rfl ?_;have HS:=yH hS;clear hS;go_wp2_with fail;all_goals first|exact HS|exact⟨rfl,HS⟩|rfl
   intro w1 hS;have z1:w.heap.size+1≤w1.heap.size:=Nat.le_trans z0 hS.size;have KX1:=yB KX0 hS;have KY1:=yB KY0 hS;have B1:=yT B0 hS;have O1:=yH (aAc O0.o hS);clear hS;go_wp2_with fail
   refine aAg (by kernel_rfl) [.bool true,.bool false,.bool false,undef,undef,undef,undef,undef,.bool false]
    (fun w'=>Below w1.heap.size w1 w') (by kernel_rfl) yZ.drew ?_
   intro af haf;simp only[puts,Act.put,yA,yC,yF,yD,yE]at haf;subst haf;refine⟨?_,?_⟩
   ·simp only[aAv];refine⟨?z1,?z2,?z3,?z5,?z6,?z7,?z8,?z9,?z4,trivial⟩
    case z1|z2|z3|z4=>
     intro w' hS;refine yO rfl ?_;have HS:=yH hS;clear hS;go_wp2_with fail;all_goals first|exact HS|exact⟨rfl,HS⟩|rfl
    case z5|z6|z7|z8|z9=>
     intro w' hS;refine pAC (by kernel_rfl) rfl hS
   intro w2 hS;have z2:w.heap.size+1≤w2.heap.size:=Nat.le_trans z1 hS.size;have KX2:=yB KX1 hS;have KY2:=yB KY1 hS;have B2:=yT B1 hS;have O2:=yH (aAc O1.o hS);clear hS;have dy_0:=KY2.o.cell 0;have dy_1:=KY2.o.cell 1;have dy_2:=KY2.o.cell 2;have dy_3:=KY2.o.cell 3;have dy_4:=KY2.o.cell 4;simp at dy_0 dy_1 dy_2 dy_3 dy_4;have hl2:(out).length≤100000:=by first|omega|(simp;omega)
   go_wp2_with (at_builtin;refine aA9 _ rfl (.tmp 45) (.tmp 47) rfl (w.heap.size+1) _ (out) rfl (O2.o.alloc _) _ _ y rfl (Blk.new _ _ _) hl2 (by simp;omega) ?_);intro v3 w3 hown3 hgr3;have R2:∀k,Value.ownBlock _=some k→w.heap.size+1≤k:=fun k hk=>(aAn O2.o hk).1
   have B3:=yH ((B2.o.alloc B2.o.size (.cells #[.int .u8 y.cr,.int .u8 y.de,.int .u8 y.cu,.int .i64 y.li,.int .i64 y.db] 71)).grown hgr3 (by simp;omega) (fun k hk=>by have:=R2 k hk;omega));have KX3:=yH ((KX2.o.alloc (.cells #[.int .u8 y.cr,.int .u8 y.de,.int .u8 y.cu,.int .i64 y.li,.int .i64 y.db] 71)).grown hgr3 (fun e=>by have:=R2 _ e;omega));have O3:=yH (show w3.ownsRow (w.heap.size+1) 71 5 v3 (out++[y]).length (aAd (out++[y])) by simpa using hown3);clear R2 hown3 hgr3;go_wp2_with fail;go_roundw
   case rel=>exact⟨k+1,by omega,by go_num,by rw[NX.o],by rw[NX.o];exact O3.o,B3.o,KX3.o⟩
   case measure=>simp[intOf];omega
  ·have q1:(y.rank==x.rank)=false:=by simp[h1]
   have NX:Hid (aDi (ls.take (k+1)) x=(out++[x,y],true)):=yH (by rw[HS.o];unfold aA1;rw[if_neg h1,if_pos ⟨rfl,h2⟩]);have q2:decide (x.rank<y.rank)=true:=by simpa using h2
   clear HS h1 h2;have z0:w.heap.size+1≤(wr.alloc (.cells #[.int .u8 y.cr,.int .u8 y.de,.int .u8 y.cu,.int .i64 y.li,.int .i64 y.db] 71)).heap.size:=by simp;omega
   go_wp2_with fail;generalize wr.alloc (.cells #[.int .u8 y.cr,.int .u8 y.de,.int .u8 y.cu,.int .i64 y.li,.int .i64 y.db] 71)=Wy at *;generalize wr.heap.size=gy at *
   refine aAg (by kernel_rfl) [.agg #[.int .u8 y.cr,.int .u8 y.de,.int .u8 y.cu,.int .i64 y.li,.int .i64 y.db],.int .i64 y.rank,.agg #[.int .u8 x.cr,.int .u8 x.de,.int .u8 x.cu,.int .i64 x.li,.int .i64 x.db],.int .i64 x.rank,.bool false]
    (fun w'=>Below Wy.heap.size Wy w') (by kernel_rfl) yZ.drew ?_
   intro af haf;simp only[puts,Act.put,yA,yC,yF,yD,yE]at haf;subst haf;refine⟨?_,?_⟩
   ·simp only[aAv];refine⟨?_,?_,?_,?_,?_,trivial⟩
    ·intro w' hS;refine yO rfl ?_;have d0_0:=(KY0.o.below hS KY0.o.lt).cell 0;have d0_1:=(KY0.o.below hS KY0.o.lt).cell 1;have d0_2:=(KY0.o.below hS KY0.o.lt).cell 2;have d0_3:=(KY0.o.below hS KY0.o.lt).cell 3;have d0_4:=(KY0.o.below hS KY0.o.lt).cell 4;simp at d0_0 d0_1 d0_2 d0_3 d0_4;have HS:=yH hS;clear hS;go_wp2_with fail;all_goals first|exact HS|exact⟨rfl,HS⟩|rfl
    ·intro w' hS;refine yO rfl ?_;have HS:=yH hS;clear hS;go_wp2_with fail;refine(cy.out w').mono ?_;rintro e w'' ⟨rfl,hb2⟩;exact⟨rfl,andB HS.o hb2⟩
    ·intro w' hS;refine yO rfl ?_;have d0_0:=(KX0.o.below hS KX0.o.lt).cell 0;have d0_1:=(KX0.o.below hS KX0.o.lt).cell 1;have d0_2:=(KX0.o.below hS KX0.o.lt).cell 2;have d0_3:=(KX0.o.below hS KX0.o.lt).cell 3;have d0_4:=(KX0.o.below hS KX0.o.lt).cell 4;simp at d0_0 d0_1 d0_2 d0_3 d0_4;have HS:=yH hS;clear hS;go_wp2_with fail;all_goals first|exact HS|exact⟨rfl,HS⟩|rfl
    ·intro w' hS;refine yO rfl ?_;have HS:=yH hS;clear hS;go_wp2_with fail;refine(cx.out w').mono ?_;rintro e w'' ⟨rfl,hb2⟩;exact⟨rfl,andB HS.o hb2⟩
    intro w' hS;refine yO rfl ?_;have HS:=yH hS;clear hS;go_wp2_with fail;all_goals first|exact HS|exact⟨rfl,HS⟩|rfl
   intro w1 hS;have z1:w.heap.size+1≤w1.heap.size:=Nat.le_trans z0 hS.size;have KX1:=yB KX0 hS;have KY1:=yB KY0 hS;have B1:=yT B0 hS;have O1:=yH (aAc O0.o hS);clear hS;go_wp2_with fail
   refine aAg (by kernel_rfl) [.bool false,.bool true,.bool true,.agg #[.int .u8 y.cr,.int .u8 y.de,.int .u8 y.cu,.int .i64 y.li,.int .i64 y.db],.int .i64 y.rank,.agg #[.int .u8 x.cr,.int .u8 x.de,.int .u8 x.cu,.int .i64 x.li,.int .i64 x.db],.int .i64 x.rank,.bool true,.bool true]
    (fun w'=>Below w1.heap.size w1 w') (by kernel_rfl) yZ.drew ?_
   intro af haf;simp only[puts,Act.put,yA,yC,yF,yD,yE]at haf;subst haf;refine⟨?_,?_⟩
   ·simp only[aAv];refine⟨?z10,?z11,?z12,?_,?_,?_,?_,?_,?z13,trivial⟩
    case z10|z11|z12|z13=>
     intro w' hS;refine yO rfl ?_;have HS:=yH hS;clear hS;go_wp2_with fail;all_goals first|exact HS|exact⟨rfl,HS⟩|rfl
    ·intro w' hS;refine OpTo.wanted ?_ ?_
     kernel_rfl
     have d0_0:=(KY1.o.below hS KY1.o.lt).cell 0;have d0_1:=(KY1.o.below hS KY1.o.lt).cell 1;have d0_2:=(KY1.o.below hS KY1.o.lt).cell 2;have d0_3:=(KY1.o.below hS KY1.o.lt).cell 3;have d0_4:=(KY1.o.below hS KY1.o.lt).cell 4;simp at d0_0 d0_1 d0_2 d0_3 d0_4;have HS:=yH hS;clear hS;go_wp2_with fail;all_goals first|exact HS|exact⟨rfl,HS⟩|rfl
    ·intro w' hS;refine OpTo.wanted ?_ ?_
     kernel_rfl
     have HS:=yH hS;clear hS;go_wp2_with fail;refine(cy.out w').mono ?_;rintro e w'' ⟨rfl,hb2⟩;exact⟨rfl,andB HS.o hb2⟩
    ·intro w' hS;refine OpTo.wanted ?_ ?_
     kernel_rfl
     have d0_0:=(KX1.o.below hS KX1.o.lt).cell 0;have d0_1:=(KX1.o.below hS KX1.o.lt).cell 1;have d0_2:=(KX1.o.below hS KX1.o.lt).cell 2;have d0_3:=(KX1.o.below hS KX1.o.lt).cell 3;have d0_4:=(KX1.o.below hS KX1.o.lt).cell 4;simp at d0_0 d0_1 d0_2 d0_3 d0_4;have HS:=yH hS;clear hS;go_wp2_with fail;all_goals first|exact HS|exact⟨rfl,HS⟩|rfl
    ·intro w' hS;refine OpTo.wanted ?_ ?_
     kernel_rfl
     have HS:=yH hS;clear hS;go_wp2_with fail;refine(cx.out w').mono ?_;rintro e w'' ⟨rfl,hb2⟩;exact⟨rfl,andB HS.o hb2⟩
    intro w' hS;refine OpTo.wanted ?_ ?_
    kernel_rfl
    have HS:=yH hS;clear hS;go_wp2_with fail;all_goals first|exact HS|exact⟨rfl,HS⟩|rfl
   intro w2 hS;have z2:w.heap.size+1≤w2.heap.size:=Nat.le_trans z1 hS.size;have KX2:=yB KX1 hS;have KY2:=yB KY1 hS;have B2:=yT B1 hS;have O2:=yH (aAc O1.o hS);clear hS;have dx_0:=KX2.o.cell 0;have dx_1:=KX2.o.cell 1;have dx_2:=KX2.o.cell 2;have dx_3:=KX2.o.cell 3;have dx_4:=KX2.o.cell 4;simp at dx_0 dx_1 dx_2 dx_3 dx_4;have hl2:out.length≤100000:=by omega
   go_wp2_with (at_builtin;refine aA9 _ rfl (.tmp 41) (.tmp 43) rfl (w.heap.size+1) _ out rfl (O2.o.alloc _) _ _ x rfl (Blk.new _ _ _) hl2 (by simp;omega) ?_);intro v3 w3 hown3 hgr3;have R2:∀k,Value.ownBlock _=some k→w.heap.size+1≤k:=fun k hk=>(aAn O2.o hk).1
   have B3:=yH ((B2.o.alloc B2.o.size (.cells #[.int .u8 x.cr,.int .u8 x.de,.int .u8 x.cu,.int .i64 x.li,.int .i64 x.db] 71)).grown hgr3 (by simp;omega) (fun k hk=>by have:=R2 k hk;omega));have KX3:=yH ((KX2.o.alloc (.cells #[.int .u8 x.cr,.int .u8 x.de,.int .u8 x.cu,.int .i64 x.li,.int .i64 x.db] 71)).grown hgr3 (fun e=>by have:=R2 _ e;omega));have KY3:=yH ((KY2.o.alloc (.cells #[.int .u8 x.cr,.int .u8 x.de,.int .u8 x.cu,.int .i64 x.li,.int .i64 x.db] 71)).grown hgr3 (fun e=>by have:=hrow _ e;omega));have O3:=yH (show w3.ownsRow (w.heap.size+1) 71 5 v3 (out++[x]).length (aAd (out++[x])) by simpa using hown3);have z3:w.heap.size+1≤w3.heap.size:=by have:=hgr3.size;simp at this;omega
   clear R2 hown3 hgr3;have dy_0:=KY3.o.cell 0;have dy_1:=KY3.o.cell 1;have dy_2:=KY3.o.cell 2;have dy_3:=KY3.o.cell 3;have dy_4:=KY3.o.cell 4;simp at dy_0 dy_1 dy_2 dy_3 dy_4;have hl3:(out++[x]).length≤100000:=by first|omega|(simp;omega)
   go_wp2_with (at_builtin;refine aA9 _ rfl (.tmp 45) (.tmp 47) rfl (w.heap.size+1) _ (out++[x]) rfl (O3.o.alloc _) _ _ y rfl (Blk.new _ _ _) hl3 (by simp;omega) ?_);intro v4 w4 hown4 hgr4;have R3:∀k,Value.ownBlock _=some k→w.heap.size+1≤k:=fun k hk=>(aAn O3.o hk).1
   have B4:=yH ((B3.o.alloc B3.o.size (.cells #[.int .u8 y.cr,.int .u8 y.de,.int .u8 y.cu,.int .i64 y.li,.int .i64 y.db] 71)).grown hgr4 (by simp;omega) (fun k hk=>by have:=R3 k hk;omega));have KX4:=yH ((KX3.o.alloc (.cells #[.int .u8 y.cr,.int .u8 y.de,.int .u8 y.cu,.int .i64 y.li,.int .i64 y.db] 71)).grown hgr4 (fun e=>by have:=R3 _ e;omega));have O4:=yH (show w4.ownsRow (w.heap.size+1) 71 5 v4 (out++[x,y]).length (aAd (out++[x,y])) by simpa using hown4);clear R3 hown4 hgr4;go_wp2_with fail;go_roundw
   case rel=>exact⟨k+1,by omega,by go_num,by rw[NX.o],by rw[NX.o];exact O4.o,B4.o,KX4.o⟩
   case measure=>simp[intOf];omega
  have q1:(y.rank==x.rank)=false:=by simp[h1]
  have NX:Hid (aDi (ls.take (k+1)) x=(out++[y],false)):=yH (by rw[HS.o];unfold aA1;rw[if_neg h1,if_neg (by simp;omega)]);have q2:decide (x.rank<y.rank)=false:=by simpa using h2
  clear HS h1 h2;have z0:w.heap.size+1≤(wr.alloc (.cells #[.int .u8 y.cr,.int .u8 y.de,.int .u8 y.cu,.int .i64 y.li,.int .i64 y.db] 71)).heap.size:=by simp;omega
  go_wp2_with fail;generalize wr.alloc (.cells #[.int .u8 y.cr,.int .u8 y.de,.int .u8 y.cu,.int .i64 y.li,.int .i64 y.db] 71)=Wy at *;generalize wr.heap.size=gy at *
  refine aAg (by kernel_rfl) [.agg #[.int .u8 y.cr,.int .u8 y.de,.int .u8 y.cu,.int .i64 y.li,.int .i64 y.db],.int .i64 y.rank,.agg #[.int .u8 x.cr,.int .u8 x.de,.int .u8 x.cu,.int .i64 x.li,.int .i64 x.db],.int .i64 x.rank,.bool false]
   (fun w'=>Below Wy.heap.size Wy w') (by kernel_rfl) yZ.drew ?_
  intro af haf;simp only[puts,Act.put,yA,yC,yF,yD,yE]at haf;subst haf;refine⟨?_,?_⟩
  ·simp only[aAv];refine⟨?_,?_,?_,?_,?_,trivial⟩
   ·intro w' hS;refine yO rfl ?_;have d0_0:=(KY0.o.below hS KY0.o.lt).cell 0;have d0_1:=(KY0.o.below hS KY0.o.lt).cell 1;have d0_2:=(KY0.o.below hS KY0.o.lt).cell 2;have d0_3:=(KY0.o.below hS KY0.o.lt).cell 3;have d0_4:=(KY0.o.below hS KY0.o.lt).cell 4;simp at d0_0 d0_1 d0_2 d0_3 d0_4;have HS:=yH hS;clear hS;go_wp2_with fail;all_goals first|exact HS|exact⟨rfl,HS⟩|rfl
   ·intro w' hS;refine yO rfl ?_;have HS:=yH hS;clear hS;go_wp2_with fail;refine(cy.out w').mono ?_;rintro e w'' ⟨rfl,hb2⟩;exact⟨rfl,andB HS.o hb2⟩
   ·intro w' hS;refine yO rfl ?_;have d0_0:=(KX0.o.below hS KX0.o.lt).cell 0;have d0_1:=(KX0.o.below hS KX0.o.lt).cell 1;have d0_2:=(KX0.o.below hS KX0.o.lt).cell 2;have d0_3:=(KX0.o.below hS KX0.o.lt).cell 3;have d0_4:=(KX0.o.below hS KX0.o.lt).cell 4;simp at d0_0 d0_1 d0_2 d0_3 d0_4;have HS:=yH hS;clear hS;go_wp2_with fail;all_goals first|exact HS|exact⟨rfl,HS⟩|rfl
   ·intro w' hS;refine yO rfl ?_;have HS:=yH hS;clear hS;go_wp2_with fail;refine(cx.out w').mono ?_;rintro e w'' ⟨rfl,hb2⟩;exact⟨rfl,andB HS.o hb2⟩
   intro w' hS;refine yO rfl ?_;have HS:=yH hS;clear hS;go_wp2_with fail;all_goals first|exact HS|exact⟨rfl,HS⟩|rfl
  intro w1 hS;have z1:w.heap.size+1≤w1.heap.size:=Nat.le_trans z0 hS.size;have KX1:=yB KX0 hS;have KY1:=yB KY0 hS;have B1:=yT B0 hS;have O1:=yH (aAc O0.o hS);clear hS;go_wp2_with fail
  refine aAg (by kernel_rfl) [.bool false,.bool true,.bool true,.agg #[.int .u8 y.cr,.int .u8 y.de,.int .u8 y.cu,.int .i64 y.li,.int .i64 y.db],.int .i64 y.rank,.agg #[.int .u8 x.cr,.int .u8 x.de,.int .u8 x.cu,.int .i64 x.li,.int .i64 x.db],.int .i64 x.rank,.bool false,.bool false]
   (fun w'=>Below w1.heap.size w1 w') (by kernel_rfl) yZ.drew ?_
  intro af haf;simp only[puts,Act.put,yA,yC,yF,yD,yE]at haf;subst haf;refine⟨?_,?_⟩
  ·simp only[aAv];refine⟨?z14,?z15,?z16,?_,?_,?_,?_,?_,?z17,trivial⟩
   case z14|z15|z16|z17=>
    intro w' hS;refine yO rfl ?_;have HS:=yH hS;clear hS;go_wp2_with fail;all_goals first|exact HS|exact⟨rfl,HS⟩|rfl
   ·intro w' hS;refine OpTo.wanted ?_ ?_
    kernel_rfl
    have d0_0:=(KY1.o.below hS KY1.o.lt).cell 0;have d0_1:=(KY1.o.below hS KY1.o.lt).cell 1;have d0_2:=(KY1.o.below hS KY1.o.lt).cell 2;have d0_3:=(KY1.o.below hS KY1.o.lt).cell 3;have d0_4:=(KY1.o.below hS KY1.o.lt).cell 4;simp at d0_0 d0_1 d0_2 d0_3 d0_4;have HS:=yH hS;clear hS;go_wp2_with fail;all_goals first|exact HS|exact⟨rfl,HS⟩|rfl
   ·intro w' hS;refine OpTo.wanted ?_ ?_
    kernel_rfl
    have HS:=yH hS;clear hS;go_wp2_with fail;refine(cy.out w').mono ?_;rintro e w'' ⟨rfl,hb2⟩;exact⟨rfl,andB HS.o hb2⟩
   ·intro w' hS;refine OpTo.wanted ?_ ?_
    kernel_rfl
    have d0_0:=(KX1.o.below hS KX1.o.lt).cell 0;have d0_1:=(KX1.o.below hS KX1.o.lt).cell 1;have d0_2:=(KX1.o.below hS KX1.o.lt).cell 2;have d0_3:=(KX1.o.below hS KX1.o.lt).cell 3;have d0_4:=(KX1.o.below hS KX1.o.lt).cell 4;simp at d0_0 d0_1 d0_2 d0_3 d0_4;have HS:=yH hS;clear hS;go_wp2_with fail;all_goals first|exact HS|exact⟨rfl,HS⟩|rfl
   ·intro w' hS;refine OpTo.wanted ?_ ?_
    kernel_rfl
    have HS:=yH hS;clear hS;go_wp2_with fail;refine(cx.out w').mono ?_;rintro e w'' ⟨rfl,hb2⟩;exact⟨rfl,andB HS.o hb2⟩
   intro w' hS;refine OpTo.wanted ?_ ?_
   kernel_rfl
   have HS:=yH hS;clear hS;go_wp2_with fail;all_goals first|exact HS|exact⟨rfl,HS⟩|rfl
  intro w2 hS;have z2:w.heap.size+1≤w2.heap.size:=Nat.le_trans z1 hS.size;have KX2:=yB KX1 hS;have KY2:=yB KY1 hS;have B2:=yT B1 hS;have O2:=yH (aAc O1.o hS);clear hS;have dy_0:=KY2.o.cell 0;have dy_1:=KY2.o.cell 1;have dy_2:=KY2.o.cell 2;have dy_3:=KY2.o.cell 3;have dy_4:=KY2.o.cell 4;simp at dy_0 dy_1 dy_2 dy_3 dy_4;have hl2:(out).length≤100000:=by first|omega|(simp;omega)
  go_wp2_with (at_builtin;refine aA9 _ rfl (.tmp 45) (.tmp 47) rfl (w.heap.size+1) _ (out) rfl (O2.o.alloc _) _ _ y rfl (Blk.new _ _ _) hl2 (by simp;omega) ?_);intro v3 w3 hown3 hgr3;have R2:∀k,Value.ownBlock _=some k→w.heap.size+1≤k:=fun k hk=>(aAn O2.o hk).1
  have B3:=yH ((B2.o.alloc B2.o.size (.cells #[.int .u8 y.cr,.int .u8 y.de,.int .u8 y.cu,.int .i64 y.li,.int .i64 y.db] 71)).grown hgr3 (by simp;omega) (fun k hk=>by have:=R2 k hk;omega));have KX3:=yH ((KX2.o.alloc (.cells #[.int .u8 y.cr,.int .u8 y.de,.int .u8 y.cu,.int .i64 y.li,.int .i64 y.db] 71)).grown hgr3 (fun e=>by have:=R2 _ e;omega));have O3:=yH (show w3.ownsRow (w.heap.size+1) 71 5 v3 (out++[y]).length (aAd (out++[y])) by simpa using hown3);clear R2 hown3 hgr3;go_wp2_with fail;go_roundw
  case rel=>exact⟨k+1,by omega,by go_num,by rw[NX.o],by rw[NX.o];exact O3.o,B3.o,KX3.o⟩
  case measure=>simp[intOf];omega
 have hke:ls.take k=ls:=List.take_of_length_le (by omega);rw[hke]at hown hlo ⊢;have E:=yH (show setL ls x=if(aDi ls x).2=false then(aDi ls x).1++[x]else(aDi ls x).1 from rfl);have FR:=yH hb.size;clear hke hlk;generalize aDi ls x=s at *;obtain⟨out,put⟩:=s;dsimp only at *;have O0:=yH hown;have B0:=yH hb;have KX0:=yH hkx;have z0:w.heap.size+1≤wr.heap.size:=hkx.lt;have hf:=(H.o.blk.below hb hg).frozen;clear hown hb hkx
 cases put
 ·have E':=yH (show setL ls x=out++[x]from E.o);have hl0:out.length≤100000:=by omega
  have dx_0:=KX0.o.cell 0;have dx_1:=KX0.o.cell 1;have dx_2:=KX0.o.cell 2;have dx_3:=KX0.o.cell 3;have dx_4:=KX0.o.cell 4;simp at dx_0 dx_1 dx_2 dx_3 dx_4;go_wp2_with (at_builtin;refine aA9 _ rfl (.tmp 51) (.tmp 53) rfl (w.heap.size+1) _ out rfl (O0.o.alloc _) _ _ x rfl (Blk.new _ _ _) hl0 (by simp;omega) ?_);intro v3 w3 hown3 hgr3;have R2:∀k,Value.ownBlock _=some k→w.heap.size+1≤k:=fun k hk=>(aAn O0.o hk).1
  have B3:=yH ((B0.o.alloc B0.o.size (.cells #[.int .u8 x.cr,.int .u8 x.de,.int .u8 x.cu,.int .i64 x.li,.int .i64 x.db] 71)).grown hgr3 (by simp;omega) (fun k hk=>by have:=R2 k hk;omega));have O3:=yH (show w3.ownsRow (w.heap.size+1) 71 5 v3 (out++[x]).length (aAd (out++[x])) by simpa using hown3);clear R2 hown3 hgr3;clear dg hf;have dg:=(H.o.blk.below B3.o hg).cell 1;simp at dg;have hf:=(H.o.blk.below B3.o hg).frozen;have hg3:=(H.o.blk.below B3.o hg).lt;obtain⟨ao3,cap3,hv3,_⟩:=aAh O3.o;subst hv3;go_wp2;go_end0;exact⟨rfl,set_done H.o hg B3.o (by rw[E'.o];have q:=O3.o;simpa using q)⟩
 have E':=yH (show setL ls x=out from E.o);obtain⟨ao3,cap3,hv3,_⟩:=aAh O0.o;subst hv3;go_wp2;go_end0;exact⟨rfl,set_done H.o hg B0.o (by rw[E'.o];exact O0.o)⟩
theorem RefL.keep{S:Nat→Prop}{w w':World}{base g:Nat}{ps:List Int}{ls:List Ln}{vp vl:Value}(h:RefL w base g ps ls vp vl)(k:Keep S w w')(h1:¬S g)(h2:∀b,vp.ownBlock=some b→¬S b)(h3:∀b,vl.ownBlock=some b→¬S b):RefL w' base g ps ls vp vl:=
 ⟨h.blk.keep k h1,h.ge,aAw h.p k h2,aAw h.l k h3⟩
theorem RefL.below{w w':World}{base g:Nat}{ps:List Int}{ls:List Ln}{vp vl:Value}(h:RefL w base g ps ls vp vl)(k:Below w.heap.size w w'):RefL w' base g ps ls vp vl:=
 h.keep (pAD (S:=fun _=>False) k) id (fun _ _=>id) (fun _ _=>id)
def aA7(ps:List Int)(p:Int)(k:Nat):List Int:=((List.range (k - 1)).map fun i:Nat=>(i:Int)+1).filter fun q=>q==p || decide (q∈ps)
theorem aIf(ps:List Int)(p:Int)(k:Nat)(h:1≤k):aA7 ps p (k+1)=aA7 ps p k++(if((k:Int)==p || decide ((k:Int)∈ps))=true then [(k:Int)]else []):=by
 unfold aA7;rw[show k+1 - 1=(k - 1)+1 by omega,List.range_succ,List.map_append,List.filter_append];congr 1;rw[List.map_singleton,show((k - 1:Nat):Int)+1=(k:Int) by omega];simp only[List.filter_cons,List.filter_nil]
theorem aGr(ps:List Int)(p:Int)(k:Nat):(aA7 ps p k).length≤k:=by
 unfold aA7;refine Nat.le_trans (List.length_filter_le _ _) ?_;simp
def aCa(ps:List Int)(p:Int):Int:=if p<1∨16<p then 1 else if p∈ps then 8 else 0
def aCb(ps:List Int)(p:Int):List Int:=if p<1∨16<p then ps else if p∈ps then ps else aA7 ps p 17
theorem aFa:(Tryz.prog.info? 68).map (fun i=>(i.zero,i.size,i.bytes))=some (some (.int .u8 0),1,1):=by kernel_rfl
theorem aBv(w:World){ops:Array Oper}{rest:List Oper}{o:Oper}{a:Act}{Q:Exit→Act→World→Prop}(hgd:o.guard=none)(s x:Operand)
  (ho:o.op=.call { callee:=.builtin .append,args:=#[s,x],argTypes:=#[41,41] })(base:Nat)(v:Value)(ps:List Int)(hs:a.eval s=v)
  (hown:w.ownsRow base 68 1 v ps.length (ps.map (.int .u8)))(g c:Nat)(y:Int)(hx:a.eval x=.slice (some ⟨g,0,none⟩) 1 c)(hy:Blk w g #[.int .u8 y] 68)(hlen:ps.length≤100000)(hbase:base≤w.heap.size)
  (h:∀v' w',w'.ownsRow base 68 1 v' (ps++[y]).length ((ps++[y]).map (.int .u8))→w.grownBy w' v.ownBlock→wpList Tryz.prog ops Q rest (a.put o.dst v') w'):wpList Tryz.prog ops Q (o::rest) a w:=by
 obtain⟨i0,hi,hz0,hz1,hz2⟩:=info_parts aFa;refine wpList_append_own w hgd s x 41 ho base 68 i0 (.int .u8 0) 1 1 Tryz.underlying41 hi hz0 hz1 hz2 rfl (by decide) v ps.length (ps.map (.int .u8)) hs hown ⟨g,0,none⟩ 1 c [.int .u8 y] hx rfl ?_ ?_ (by unfold maxLen;omega) (by omega) hbase ?_
 ·intro j u hj;have:=hy.cell j;rw[Go.WideShapes.add_plain]
  match j,hj with
  | 0,hj=>simp at hj;subst hj;simpa using this
  | j+1,hj=>simp at hj
 ·intro u hu;simp at hu;subst hu;rfl
 intro v' w' h1 h2 _;refine h v' w' ?_ h2;rw[List.map_append,List.length_append];exact h1
def OpenAt(ps:List Int)(p:Int)(w:World)(v q:Value)(wr:World):Prop:=
 ∃k:Nat,1≤k∧k≤17∧q=.int .u8 k∧wr.ownsRow w.heap.size 68 1 v (aA7 ps p k).length ((aA7 ps p k).map (.int .u8))∧Below w.heap.size w wr
theorem ropen_any{w:World}{base g:Nat}{ps:List Int}{ls:List Ln}{vp vl:Value}(h:RefL w base g ps ls vp vl)(p:Int):
  Calls Tryz.prog 81 #[.pointer (some ⟨g,0,none⟩),.int .u8 p] w fun e w'=>e=.returned (.int .i64 (aCa ps p))∧∃vp',RefL w' base g (aCb ps p) ls vp' vl∧Keep (·=g) w w':=by
 have H:=yH h;have c:=yH (fun(w':World) (k:Below w.heap.size w w') (q:Int)=>aE9 (h.below k) q);have hg:=h.blk.lt;clear h;have hs:p<1∨(1≤p∧16<p)∨(1≤p∧p≤16):=by omega
 rcases hs with h1|⟨h1,h2⟩|⟨h1,h2⟩
 ·have E:=yH (show aCa ps p=1∧aCb ps p=ps by unfold aCa aCb;rw[if_pos (.inl h1),if_pos (.inl h1)];exact⟨rfl,rfl⟩);go_enter Tryz.func81,Tryz.ntmps81;go_wp2_with fail;go_ret;exact⟨by rw[E.o.1];rfl,_,by rw[E.o.2];exact H.o,Keep.refl _ _⟩
 ·have E:=yH (show aCa ps p=1∧aCb ps p=ps by unfold aCa aCb;rw[if_pos (.inr h2),if_pos (.inr h2)];exact⟨rfl,rfl⟩);go_enter Tryz.func81,Tryz.ntmps81;go_wp2_with fail;go_ret;exact⟨by rw[E.o.1];rfl,_,by rw[E.o.2];exact H.o,Keep.refl _ _⟩
 by_cases hp:p∈ps
 ·have E:=yH (show aCa ps p=8∧aCb ps p=ps from⟨by unfold aCa;rw[if_neg (by omega),if_pos hp],by unfold aCb;rw[if_neg (by omega),if_pos hp]⟩);have c0:=yH (aE9 H.o p);rw[decide_eq_true hp]at c0;clear hp c;go_enter Tryz.func81,Tryz.ntmps81;go_wp2_with fail;refine c0.out.mono ?_;rintro e w1 ⟨rfl,rfl⟩;go_wp2_with fail;go_ret;exact⟨by rw[E.o.1];rfl,_,by rw[E.o.2];exact H.o,Keep.refl _ _⟩
 have E:=yH (show aCa ps p=0∧aCb ps p=aA7 ps p 17 from⟨by unfold aCa;rw[if_neg (by omega),if_neg hp],by unfold aCb;rw[if_neg (by omega),if_neg hp]⟩);have c0:=yH (aE9 H.o p);rw[decide_eq_false hp]at c0;clear hp;go_enter Tryz.func81,Tryz.ntmps81;go_wp2_with fail;refine c0.out.mono ?_;rintro e w ⟨rfl,rfl⟩;go_wp2_with fail
 go_loopw [5,6] (OpenAt ps p w) (fun _ q _=>17 - (intOf q).toNat)
 case atStart=>exact⟨1,by omega,by omega,rfl,World.ownsRow_nil _ _ _ _,yZ⟩
 obtain⟨k,hk0,hk,rfl,hown,hb⟩:=hrel;have hl:=aGr ps p k;have O0:=yH hown;have B0:=yH hb;have hz:=hb.size;clear hown hb
 by_cases hkl:k≤16
 ·have N:=yH (aIf ps p k hk0);have cq:=yH (c.out _ B0.o (k:Int))
  have hs:(((k:Int)==p)=true)∨(((k:Int)==p)=false∧(k:Int)∈ps)∨(((k:Int)==p)=false∧¬(k:Int)∈ps):=by
   cases ((k:Int)==p) <;> simp <;> exact Classical.em _
  rcases hs with s1|⟨s1,s2⟩|⟨s1,s2⟩
  ·have N2:Hid (aA7 ps p (k+1)=aA7 ps p k++[(k:Int)]):=yH (by rw[N.o,s1];rfl);clear N;generalize aA7 ps p k=out at *;have hl2:out.length≤100000:=by omega
   go_wp2_with (at_builtin;refine aBv _ rfl (.tmp 28) (.tmp 30) rfl w.heap.size _ out rfl (O0.o.alloc _) _ _ (k:Int) rfl (Blk.new _ _ _) hl2 (by simp;omega) ?_);intro v3 w3 hown3 hgr3;have R2:∀k,Value.ownBlock _=some k→w.heap.size≤k:=fun k hk=>(aAn O0.o hk).1
   have B3:=yH ((B0.o.alloc B0.o.size (.cells #[.int .u8 (k:Int)] 68)).grown hgr3 (by simp;omega) (fun k hk=>R2 k hk));have O3:=yH (show w3.ownsRow w.heap.size 68 1 v3 (out++[(k:Int)]).length ((out++[(k:Int)]).map (.int .u8)) by simpa using hown3);clear R2 hown3 hgr3;go_wp2_with fail;go_roundw
   case rel=>exact⟨k+1,by omega,by omega,by go_num,by rw[N2.o];exact O3.o,B3.o⟩
   case measure=>simp[intOf];omega
  ·have N2:Hid (aA7 ps p (k+1)=aA7 ps p k++[(k:Int)]):=yH (by rw[N.o,s1,decide_eq_true s2];rfl);rw[decide_eq_true s2]at cq;clear N s2;generalize aA7 ps p k=out at *;have hl2:out.length≤100000:=by omega
   go_wp2_with fail;refine cq.out.mono ?_;rintro e wr ⟨rfl,rfl⟩;go_wp2_with (at_builtin;refine aBv _ rfl (.tmp 28) (.tmp 30) rfl w.heap.size _ out rfl (O0.o.alloc _) _ _ (k:Int) rfl (Blk.new _ _ _) hl2 (by simp;omega) ?_);intro v3 w3 hown3 hgr3;have R2:∀k,Value.ownBlock _=some k→w.heap.size≤k:=fun k hk=>(aAn O0.o hk).1
   have B3:=yH ((B0.o.alloc B0.o.size (.cells #[.int .u8 (k:Int)] 68)).grown hgr3 (by simp;omega) (fun k hk=>R2 k hk));have O3:=yH (show w3.ownsRow w.heap.size 68 1 v3 (out++[(k:Int)]).length ((out++[(k:Int)]).map (.int .u8)) by simpa using hown3);clear R2 hown3 hgr3;go_wp2_with fail;go_roundw
   case rel=>exact⟨k+1,by omega,by omega,by go_num,by rw[N2.o];exact O3.o,B3.o⟩
   case measure=>simp[intOf];omega
  have N2:Hid (aA7 ps p (k+1)=aA7 ps p k):=yH (by rw[N.o,s1,decide_eq_false s2];simp);rw[decide_eq_false s2]at cq;clear N s2;go_wp2_with fail;refine cq.out.mono ?_;rintro e wr ⟨rfl,rfl⟩;go_wp2_with fail;go_roundw
  case rel=>exact⟨k+1,by omega,by omega,by go_num,by rw[N2.o];exact O0.o,B0.o⟩
  case measure=>simp[intOf];omega
 obtain rfl:k=17:=by omega
 have d0:=(H.o.blk.below B0.o hg).cell 0;simp at d0;have hf:=(H.o.blk.below B0.o hg).frozen;have hg3:=(H.o.blk.below B0.o hg).lt;obtain⟨ao3,cap3,hv3,_⟩:=aAh O0.o;subst hv3;go_wp2;go_ret;refine⟨by rw[E.o.1];rfl,.slice ao3 (aA7 ps p 17).length cap3,⟨?_,H.o.ge,?_,?_⟩,Keep.setCell (S:=(·=g)) (pAD B0.o) (p:=⟨g,0,none⟩) (.inl rfl) _⟩
 ·have:=(H.o.blk.below B0.o hg).set 0 (.slice ao3 (aA7 ps p 17).length cap3);simpa using this
 ·rw[E.o.2];exact aAw (aBo O0.o (by have:=H.o.ge;omega)) (Keep.setCell (S:=(·=g)) (Keep.refl _ _) (p:=⟨g,0,none⟩) (.inl rfl) _) (aBz O0.o (H.o.blk.below B0.o hg) (by decide))
 exact aAw (aAc H.o.l B0.o) (Keep.setCell (S:=(·=g)) (Keep.refl _ _) (p:=⟨g,0,none⟩) (.inl rfl) _) (aBz (aAc H.o.l B0.o) (H.o.blk.below B0.o hg) (by decide))
theorem aLt{w:World}{base:Nat}{v:Value}{n:Nat}{xs:List Value}(h:w.ownsRow base 209 3 v n xs):
  Calls Tryz.prog 228 #[v] w (aF6 w base 209 3 n v xs):=by
 rcases h.2 with⟨rfl,h0⟩|⟨g,cap,cur,rfl,hbase,hb,h1,h2,h3,h4⟩
 ·subst h0;have hr:=aBc (P:=Tryz.prog) w 203 209 3 Tryz.underlying203 (Tryz.sizeOf209 w);have hx:=h.1;have hx2:=yH hx;clear h hx;go_enter Tryz.func228,Tryz.ntmps228;go_wp2;refine bodyPost_ret (v:=.slice none 0 0) (by simp[results,Tryz.results228,go_sem]) rfl ?_;exact⟨_,rfl,⟨hx2.out,.inl ⟨rfl,rfl⟩⟩,rfl,rfl⟩
 have hr:=aCe (P:=Tryz.prog) w 203 209 3 Tryz.underlying203 (Tryz.sizeOf209 w) g n cap h1;have HR:=yH (show aCz w base 209 3 (.slice (some ⟨g,0,none⟩) n n) n xs from⟨h.1,.inr ⟨g,cur,rfl,hbase,hb,by omega,by omega,h4⟩⟩);clear h hb h4 h3;unfold maxLen at h2;go_enter Tryz.func228,Tryz.ntmps228;go_wp2;refine bodyPost_ret (v:=.slice (some ⟨g,0,none⟩) n n) (by simp[results,Tryz.results228,go_sem]) rfl ?_;exact⟨_,rfl,HR.o,rfl,rfl⟩
theorem Blk.capSetN{w:World}{g:Nat}{f:Int→Int→Int}{b:Bool}{t:TypeId}(h:Blk w g (graC f b) t){p q:Nat}(hp:p<17)(hq:q<17)(n:Int):
  Blk (w.setCell ⟨g,p*17+q,none⟩ (.int .i64 n)) g (graC (updE f p q n) b) t:=by
 have:=h.set (p*17+q) (.int .i64 n);rw[graC_set f b hp hq]at this;exact this
theorem Blk.capN{w:World}{g:Nat}{f:Int→Int→Int}{b:Bool}{t:TypeId}(h:Blk w g (graC f b) t){p q:Nat}(hp:p<17)(hq:q<17):w.cell? ⟨g,p*17+q,none⟩=some (.int .i64 (f p q)):=by
 rw[h.cell,graC_at f b hp hq]
def aJe(rf:Int→Int→Int)(m:Nat)(a b:Int):Int:=if a*17+b<m then rf a b else 0
theorem partF_zero(rf:Int→Int→Int):graC (aJe rf 0) true=graC aFi true:=aGq true fun p q hp hq=>by unfold aJe aFi;rw[if_neg (by omega)]
theorem partF_next(rf:Int→Int→Int){p q:Nat}(hp:p<17)(hq:q<17):graC (updE (aJe rf (p*17+q)) p q (rf p q)) true=graC (aJe rf (p*17+(q+1))) true:=aGq true fun a b ha hb=>by
 unfold updE aJe
 by_cases h:(a:Int)=p∧(b:Int)=q
 ·rw[if_pos h,if_pos (by omega),h.1,h.2]
 rw[if_neg h]
 by_cases h2:(a:Int)*17+b<((p*17+q:Nat):Int)
 ·rw[if_pos h2,if_pos (by omega)]
 rw[if_neg h2,if_neg (by omega)]
theorem partF_all(rf:Int→Int→Int):graC (aJe rf (17*17)) true=graC rf true:=aGq true fun p q hp hq=>by unfold aJe;rw[if_pos (by omega)]
def GOfAt(w:World)(rf:Int→Int→Int)(i:Value)(wr:World):Prop:=
 ∃p:Nat,p≤17∧i=.int .i64 p∧Blk wr w.heap.size (graC (aJe rf (p*17)) true) 327∧Below w.heap.size w wr
def GOfIn(w:World)(rf:Int→Int→Int)(p:Nat)(i:Value)(wr:World):Prop:=
 ∃q:Nat,q≤17∧i=.int .i64 q∧Blk wr w.heap.size (graC (aJe rf (p*17+q)) true) 327∧Below w.heap.size w wr
theorem gof_any{w:World}{lv:Value}{c:Int}{rf:Int→Int→Int}
  (hr:∀w',Below w.heap.size w w'→∀p q:Int,In8 p→In8 q→Calls Tryz.prog 229 #[lv,.int .u8 p,.int .u8 q,.int .u8 c] w' fun e w''=>e=.returned (.int .i64 (rf p q))∧Below w'.heap.size w' w''):
  Calls Tryz.prog 193 #[lv,.int .u8 c] w fun e w'=>e=.returned (.pointer (some ⟨w.heap.size,0,none⟩))∧Blk w' w.heap.size (graC rf true) 327∧Below w.heap.size w w':=by
 have HR:=yH hr;clear hr;have B0:=yH ((Below.refl w.heap.size w).alloc yL (.cells (graC aFi true) 327));have K0:=Blk.new w (graC aFi true) 327
 have K0':=yH (show Blk (w.alloc (.cells (graC aFi true) 327)) w.heap.size (graC (aJe rf (0*17)) true) 327 from by
  rw[show 0*17=0 from rfl,partF_zero];exact K0)
 clear K0;go_enter Tryz.func193,Tryz.ntmps193;go_wp2_with ((with_reducible refine aDm ?_ 327 #[(1,.const (.bool true))] ?_ #[(1,.bool true)] ?_ (graC aFi true) (build_gra0 _) ?_);exact rfl;exact rfl;simp[Act.eval,Act.put])
 go_loopw [10] (GOfAt w rf) (fun i _=>17 - (intOf i).toNat)
 case atStart=>exact⟨0,by omega,rfl,K0'.o,B0.o⟩
 clear K0' B0;obtain⟨p,hp,rfl,hG,hB⟩:=hrel;have G1:=yH hG;have B1:=yH hB;clear hG hB
 by_cases hp2:p<17
 ·have hpi:(p:Int)<17:=by omega
  go_wp2_with fail
  go_loopw [13] (GOfIn w rf p) (fun i _=>17 - (intOf i).toNat)
  case atStart=>exact⟨0,by omega,rfl,G1.o,B1.o⟩
  clear G1 B1;obtain⟨q,hq,rfl,hG,hB⟩:=hrel;have G1:=yH hG;have B1:=yH hB;have hgl:=hG.lt;clear hG hB
  by_cases hq2:q<17
  ·have hqi:(q:Int)<17:=by omega
   have CR:=yH (fun w' (k:Below wr.heap.size wr w')=>HR.o w' (B1.o.trans (k.mono B1.o.size)) p q (by unfold In8;omega) (by unfold In8;omega));have NX:=yH (partF_next rf hp2 hq2);obtain⟨n,hn⟩:∃n,rf p q=n:=⟨_,rfl⟩;rw[hn]at CR NX;clear hn;go_wp2_with fail
   refine aBq (by kernel_rfl) 14 16 [(.pointer (some ⟨w.heap.size,0,none⟩)),(.int .i64 p),(.int .i64 q),lv,(.int .i64 p),(.int .u8 p),(.int .i64 q),(.int .u8 q),(.int .u8 c),(.int .i64 n),(.pointer (some ⟨w.heap.size,0,none⟩)),(.pointer (some ⟨w.heap.size,0,none⟩)),(.pointer (some ⟨w.heap.size,p*17,none⟩)),(.pointer (some ⟨w.heap.size,p*17+q,none⟩))]
    (fun w'=>Below wr.heap.size wr w') (by kernel_rfl) rfl (by kernel_rfl) yZ.drew ?_
   intro af haf;simp only[yG,List.append_eq,List.cons_append,List.nil_append,puts,Act.put,yA,yC,yF,yD,yE]at haf;subst haf;refine⟨?_,?_⟩
   ·simp only[yG,List.take_succ_cons,List.take_zero,aAv];refine⟨?z1,?z2,?z3,?z4,?z5,?z6,?z7,?z8,?z9,?_,?z10,?z11,?z12,?z13,trivial⟩
    case z1|z2|z3|z4|z5|z6|z7|z8|z9=>
     intro w' hS;refine yO rfl ?_;have HS:=yH hS;clear hS;go_wp2_with fail;all_goals first|exact HS|exact⟨rfl,HS⟩|rfl|exact⟨by omega,HS.o⟩
    case z10|z11|z12|z13=>
     intro w' hS;refine yO rfl ?_;have kg:=G1.o.below hS G1.o.lt;have hl:=kg.lt;have HS:=yH hS;clear hS;go_wp2_with fail;all_goals first|exact HS|exact⟨rfl,HS⟩|rfl|exact⟨by omega,HS.o⟩
    intro w' hS;refine yO rfl ?_;have HS:=yH hS;clear hS;go_wp2_with fail;refine(CR.o w' HS.o).mono ?_;rintro e w'' ⟨rfl,hb2⟩;exact⟨rfl,andB HS.o hb2⟩
   simp only[yC,yA,yG];intro w' hS;refine yO rfl ?_;have kb:=yH ((G1.o.below hS G1.o.lt).capSetN hp2 hq2 n);have dm:=(G1.o.below hS G1.o.lt).capN hp2 hq2;have fr:=(G1.o.below hS G1.o.lt).frozen (p*17+q);have k4:=yH (((B1.o.trans (hS.mono B1.o.size)).setCell (p:=⟨w.heap.size,p*17+q,none⟩) (by simp) (.int .i64 n)));clear hS;go_wp2_with fail;generalize w'.setCell ⟨w.heap.size,p*17+q,none⟩ (.int .i64 n)=w4 at *;go_roundw
   case rel=>exact⟨q+1,by omega,by go_num,by rw[←NX.o];exact kb.out,k4.out⟩
   case measure=>simp[intOf];omega
  have hq17:q=17:=by omega
  subst hq17;go_wp2_with fail;go_roundw
  case rel=>exact⟨p+1,by omega,by go_num,by rw[show(p+1)*17=p*17+17 by omega];exact G1.o,B1.o⟩
  case measure=>simp[intOf];omega
 have hp17:p=17:=by omega
 subst hp17;rw[partF_all]at G1;go_wp2_with fail;go_ret;exact⟨rfl,G1.o,B1.o⟩
theorem rowA_set(v:Int→Int→Value)(p:Int){i:Nat}(hi:i<17)(u:Value):(rowA v p).setIfInBounds i u=rowA (fun a q=>if q=(i:Int)then u else v a q) p:=by
 apply Array.ext_getElem?;intro j
 by_cases hj:j<17
 ·rw[aE8 _ p hj]
  by_cases h:i=j
  ·subst h;rw[Array.getElem?_setIfInBounds_self_of_lt (by rw[aDn];exact hj),if_pos rfl]
  rw[Array.getElem?_setIfInBounds_ne h,aE8 v p hj,if_neg (by omega)]
 rw[Array.getElem?_eq_none (by simp[aDn];omega),Array.getElem?_eq_none (by rw[aDn];omega)]
theorem aJp{v u:Int→Int→Value}{p p':Int}(h:∀i:Nat,i<17→v p i=u p' i):rowA v p=rowA u p':=by
 apply Array.ext_getElem?;intro j
 by_cases hj:j<17
 ·rw[aE8 v p hj,aE8 u p' hj,h j hj]
 rw[Array.getElem?_eq_none (by rw[aDn];omega),Array.getElem?_eq_none (by rw[aDn];omega)]
def inA(b:Int→Bool):Array Value:=rowA (fun _ q=>.bool (b q)) 0
theorem aGd(b:Int→Bool):(inA b).size=17:=aDn _ _
theorem aM6(b:Int→Bool){i:Nat}(h:i<17):(inA b)[i]? = some (.bool (b i)):=aE8 _ _ h
theorem inA_set(b:Int→Bool){i:Nat}(hi:i<17)(u:Bool):(inA b).setIfInBounds i (.bool u)=inA fun q=>if q=(i:Int)then u else b q:=by
 unfold inA;rw[rowA_set _ _ hi];refine aJp fun j hj=>?_
 dsimp only;split <;> rfl
theorem inA_one(b:Int→Bool):(inA b).all (·.oneCell')=true:=by
 rw[Array.all_eq_true];intro i hi;have h17:i<17:=by rw[aGd]at hi;exact hi
 have:=aM6 b h17;rw[Array.getElem?_eq_getElem hi]at this;simp only[Option.some.injEq]at this;rw[this];rfl
theorem Blk.inAt{w:World}{g:Nat}{b:Int→Bool}{t:TypeId}(h:Blk w g (inA b) t){p:Int}(h0:0≤p)(h1:p<17):w.cell? ⟨g,p.toNat,none⟩=some (.bool (b p)):=by
 rw[h.cell,aM6 b (by omega),Int.toNat_of_nonneg h0]
theorem Blk.inSet{w:World}{g:Nat}{b:Int→Bool}{t:TypeId}(h:Blk w g (inA b) t){p:Int}(h0:0≤p)(h1:p<17)(u:Bool):Blk (w.setCell ⟨g,p.toNat,none⟩ (.bool u)) g (inA fun q=>if q=p then u else b q) t:=by
 have:=h.set p.toNat (.bool u);rw[inA_set b (by omega),Int.toNat_of_nonneg h0]at this;exact this
attribute [irreducible] inA
theorem aM7{w:World}{base:Nat}{e:TypeId}{size:Nat}{v:Value}{n:Nat}{xs:List Value}(h:aCz w base e size v n xs):
  ∃(ao:Option Addr),v=.slice ao n n∧(0<n→∃g,ao=some ⟨g,0,none⟩∧base≤g∧g<w.heap.size∧∀j,j<n*size→w.cell? ⟨g,j,none⟩=xs[j]?):=by
 obtain⟨h1,h2⟩:=h;rcases h2 with⟨rfl,rfl⟩|⟨g,cur,rfl,hb,hg,h3,h4,h5⟩
 ·exact⟨none,rfl,fun h=>absurd h (by omega)⟩
 refine⟨some ⟨g,0,none⟩,rfl,fun _=>⟨g,rfl,hb,lt_of_block hg,fun j hj=>?_⟩⟩;have:w.cell? ⟨g,j,none⟩=cur[j]? := by simp[World.cell?,hg]
 rw[this,←h5,List.getElem?_take_of_lt hj,Array.getElem?_toList]
theorem aCz.look{w:World}{base:Nat}{e:TypeId}{size:Nat}{v:Value}{n:Nat}{xs:List Value}(h:aCz w base e size v n xs):
  ∃(ao:Option Addr) (cap:Nat),v=.slice ao n cap∧n≤cap∧cap≤maxLen∧xs.length=n*size∧(0<n→∃b,ao=some ⟨b,0,none⟩∧base≤b∧b<w.heap.size∧(∀j,j<n*size→w.cell? ⟨b,j,none⟩=xs[j]?)∧∀j,w.frozen? ⟨b,j,none⟩=false):=by
 obtain⟨h1,h2⟩:=h;rcases h2 with⟨rfl,rfl⟩|⟨g,cur,rfl,hb,hg,hm,hc,ht⟩
 ·exact⟨none,0,rfl,Nat.le_refl _,by decide,h1,fun h=>absurd h (by omega)⟩
 have hB:Blk w g cur e:=hg;refine⟨some ⟨g,0,none⟩,n,rfl,Nat.le_refl _,hm,h1,fun _=>⟨g,rfl,hb,lt_of_block hg,fun j hj=>?_,fun j=>hB.frozen j⟩⟩;rw[hB.cell,←ht,List.getElem?_take_of_lt hj,Array.getElem?_toList]
def aM8(e:TypeId)(L:List Int)(w:World)(en:Ending)(w':World):Prop:=
 ∃v,en=.returned v∧aCz w' w.heap.size e 1 v L.length (L.map (.int .u8))∧Below w.heap.size w w'
def RowA(w:World)(base:Nat)(e:TypeId)(size:Nat)(v:Value)(n:Nat)(xs:List Value):Prop:=
 xs.length=n*size∧((v=.slice none 0 0∧n=0)∨∃g cap cur,v=.slice (some ⟨g,0,none⟩) n cap∧base≤g∧w.heap[g]? = some (.cells cur e (0,0))∧n≤cap∧cap≤maxLen∧cap*size≤cur.size∧cur.toList.take (n*size)=xs)
theorem pAH{w:World}{base:Nat}{e:TypeId}{size:Nat}{v:Value}{n:Nat}{xs:List Value}(h:aCz w base e size v n xs):RowA w base e size v n xs:=by
 obtain⟨h1,h2⟩:=h;refine⟨h1,?_⟩;rcases h2 with h2|⟨g,cur,hv,hb,hg,c1,c2,c3⟩
 ·exact .inl h2
 exact .inr ⟨g,n,cur,hv,hb,hg,Nat.le_refl _,c1,c2,c3⟩
section
variable{w w':World}{base:Nat}{e:TypeId}{size:Nat}{v:Value}{n:Nat}{xs:List Value}
theorem RowA.keep{S:Nat→Prop}(h:RowA w base e size v n xs)(k:Keep S w w')(hs:∀b,v.ownBlock=some b→¬S b):RowA w' base e size v n xs:=by
 obtain⟨h1,h2⟩:=h;refine⟨h1,?_⟩;rcases h2 with h2|⟨g,cap,cur,rfl,hb,hg,hr⟩
 ·exact .inl h2
 refine .inr ⟨g,cap,cur,rfl,hb,?_,hr⟩;rw[k.block g (lt_of_block hg) (hs g rfl)];exact hg
theorem RowA.below(h:RowA w base e size v n xs)(k:Below w.heap.size w w'):RowA w' base e size v n xs:=
 h.keep (pAD (S:=fun _=>False) k) (fun _ _=>id)
theorem RowA.type(h:RowA w base e size v n xs){b:Nat}(hb:v.ownBlock=some b):base≤b∧b<w.heap.size∧∃cur,w.heap[b]? = some (.cells cur e (0,0)):=by
 obtain⟨_,h2⟩:=h;rcases h2 with⟨rfl,_⟩|⟨g,cap,cur,rfl,hge,hg,_⟩
 ·cases hb
 cases hb;exact⟨hge,lt_of_block hg,cur,hg⟩
theorem RowA.look(h:RowA w base e size v n xs)(h2:1≤size):
  ∃(ao:Option Addr) (cap:Nat),v=.slice ao n cap∧n≤cap∧cap≤maxLen∧xs.length=n*size∧(0<n→∃b,ao=some ⟨b,0,none⟩∧base≤b∧b<w.heap.size∧(∀j,j<n*size→w.cell? ⟨b,j,none⟩=xs[j]?)∧∀j,w.frozen? ⟨b,j,none⟩=false):=by
 obtain⟨h1,h2⟩:=h;rcases h2 with⟨rfl,rfl⟩|⟨g,cap,cur,rfl,hb,hg,c1,c2,c3,c4⟩
 ·exact⟨none,0,rfl,Nat.le_refl _,by decide,h1,fun h=>absurd h (by omega)⟩
 have hB:Blk w g cur e:=hg;refine⟨some ⟨g,0,none⟩,cap,rfl,c1,c2,h1,fun _=>⟨g,rfl,hb,lt_of_block hg,fun j hj=>?_,fun j=>hB.frozen j⟩⟩;rw[hB.cell,←c4,List.getElem?_take_of_lt hj,Array.getElem?_toList]
end
theorem aIg(f:Int→Int→Int)(x:Nat→Int)(n:Int)(i:Nat):capX f x n (i+1)=min (capX f x n i) (f (x i) (x (i+1))):=rfl
theorem RefG.drewN{w:World}{base g k:Nat}{es:List Fw}{vl:Value}(h:RefG w base g es vl):RefG (w.drewN k) base g es vl:=⟨h.blk,h.ge,h.row⟩
theorem aCs{w:World}{g h:Nat}{cs ds:Array Value}{t u:TypeId}(a:Blk w g cs t)(b:Blk w h ds u)(hn:t≠u):g≠h:=by
 rintro rfl;have e:=a.out;rw[b.out]at e;simp only[Option.some.injEq,Obj.cells.injEq]at e;exact hn e.2.1.symm
end Go.Proofs.YtngnfdnfpiiclaaGreat
namespace Go.Proofs.YtngnfdnfpiiclaaGreat
open Go.RowKit Go.ChangeShapes Go.WideShapes Go.Deep
section
variable{H:Type}{enc:TypeId×Value→H}{P:Program}{w:World}{base:Nat}{spare:Nat→Bool}{held:Bool}
theorem nums_read{t:TypeId}{fs:Array Field}{ks:List IntKind}(hu:P.underlying t=some (.struct fs))(hone:oneCellFields P fs=true)(hC:P.cellsOf t=ks.length)
  (hk:∀(j:Nat) (k:IntKind),ks[j]? = some k→∃f,fs[j]? = some f∧P.underlying f.type=some (.int k)){fuel:Nat}{cs:List Value}{x:DataW H×List MemPlace}(h:DataW.trod enc P w base spare held fuel t cs=some x):
  cs.length=ks.length∧∀(j:Nat) (k:IntKind),ks[j]? = some k→∃n,cs[j]? = some (.int k n)∧(Lit.int k n).wf=true:=by
 obtain⟨xs,n,_,_,hlen,hxl,hf⟩:=DataW.trod_struct hu h;rw[hC]at hlen;refine⟨hlen,fun j k hj=>?_⟩;have hjl:j<ks.length:=(List.getElem?_eq_some_iff.1 hj).1;obtain⟨f,hfj,hfk⟩:=hk j k hj;obtain⟨ho,hc⟩:=hone_of hone j f hfj;have h1:=hf j f hfj
 have hone':(cs.drop j).take 1=[cs[j]'(by omega)]:=by
  rw[List.drop_eq_getElem_cons (by omega)];rfl
 rw[ho,hc,hone']at h1;have hjf:j<fs.size:=(Array.getElem?_eq_some_iff.1 hfj).1;have h2:xs[j]? = some (xs[j]'(by omega)):=List.getElem?_eq_getElem (by omega);rw[h2]at h1;obtain⟨m,hm,_,hw⟩:=DataW.trod_int hfk h1;refine⟨m,?_,hw⟩;rw[List.getElem?_eq_getElem (by omega)];simpa using hm
end
theorem In8.of_wf{n:Int}(h:(Lit.int .u8 n).wf=true):In8 n:=by
 simp[Lit.wf,IntKind.min,IntKind.max,IntKind.signed,IntKind.bits]at h;exact⟨by omega,by omega⟩
end Go.Proofs.YtngnfdnfpiiclaaGreat
namespace Go.Proofs.YtngnfdnfpiiclaaGreat
open Go.RowKit
structure Of where
 se:Int
 ow:Int
 sl:Int
 bu:Int
 lf:Int
 nu:Int
 de:Int
deriving DecidableEq
def Of.vals(x:Of):List Value:=[.int .u64 x.se,.int .u8 x.ow,.int .u8 x.sl,.int .u8 x.bu,.int .i64 x.lf,.int .i64 x.nu,.int .i64 x.de]
theorem Of.vals_len(x:Of):x.vals.length=7:=rfl
def aAe(ls:List Of):List Value:=ls.flatMap Of.vals
def Of.val(x:Of):Value:=.agg #[.int .u64 x.se,.int .u8 x.ow,.int .u8 x.sl,.int .u8 x.bu,.int .i64 x.lf,.int .i64 x.nu,.int .i64 x.de]
theorem aCh(ls:List Of):(aAe ls).length=ls.length*7:=aE5 _ 7 Of.vals_len ls
theorem aAf(ls:List Of)(i j:Nat)(hj:j<7)(h:i<ls.length):(aAe ls)[i*7+j]? = ls[i].vals[j]? := by
 unfold aAe;rw[aD7 _ 7 Of.vals_len ls i j hj,List.getElem?_eq_getElem h];rfl
theorem aFl(a b:List Of):aAe (a++b)=aAe a++aAe b:=by unfold aAe;exact List.flatMap_append
theorem aIh(x:Of):aAe [x]=x.vals:=by simp[aAe]
structure Of.Fits(x:Of):Prop where
 se:(0≤x.se∧x.se≤18446744073709551615)
 ow:In8 x.ow
 sl:In8 x.sl
 bu:In8 x.bu
 lf:In64 x.lf
 nu:In64 x.nu
 de:In64 x.de
theorem aB2(l:List Of):∀u∈aAe l,u.oneCell'=true:=by
 intro u hu;unfold aAe at hu;obtain⟨x,_,hx⟩:=List.mem_flatMap.1 hu;simp[Of.vals]at hx;rcases hx with rfl|rfl|rfl|rfl|rfl|rfl|rfl <;> rfl
theorem aKj:(Tryz.prog.info? 75).map (fun i=>(i.zero,i.size,i.bytes))=some (some (Of.val ⟨0,0,0,0,0,0,0⟩),7,40):=by kernel_rfl
theorem aHl(w:World){ops:Array Oper}{rest:List Oper}{o:Oper}{a:Act}{Q:Exit→Act→World→Prop}(hgd:o.guard=none)(s x:Operand)
  (ho:o.op=.call { callee:=.builtin .append,args:=#[s,x],argTypes:=#[43,43] })(base:Nat)(v:Value)(ls:List Of)(hs:a.eval s=v)
  (hown:w.ownsRow base 75 7 v ls.length (aAe ls))(g c:Nat)(y:Of)(hx:a.eval x=.slice (some ⟨g,0,none⟩) 1 c)(hy:Blk w g #[.int .u64 y.se,.int .u8 y.ow,.int .u8 y.sl,.int .u8 y.bu,.int .i64 y.lf,.int .i64 y.nu,.int .i64 y.de] 75)(hlen:ls.length≤100000)(hbase:base≤w.heap.size)
  (h:∀v' w',w'.ownsRow base 75 7 v' (ls++[y]).length (aAe (ls++[y]))→w.grownBy w' v.ownBlock→wpList Tryz.prog ops Q rest (a.put o.dst v') w'):wpList Tryz.prog ops Q (o::rest) a w:=by
 obtain⟨i0,hi,hz0,hz1,hz2⟩:=info_parts aKj;refine wpList_append_own w hgd s x 43 ho base 75 i0 (Of.val ⟨0,0,0,0,0,0,0⟩) 7 40 Tryz.underlying43 hi hz0 hz1 hz2 rfl (by decide) v ls.length (aAe ls) hs hown ⟨g,0,none⟩ 1 c y.vals hx rfl ?_ ?_ (by unfold maxLen;omega) (by omega) hbase ?_
 ·intro j u hj;have:=hy.cell j;rw[Go.WideShapes.add_plain]
  match j,hj with
  | 0,hj=>simp[Of.vals]at hj;subst hj;simpa using this
  | 1,hj=>simp[Of.vals]at hj;subst hj;simpa using this
  | 2,hj=>simp[Of.vals]at hj;subst hj;simpa using this
  | 3,hj=>simp[Of.vals]at hj;subst hj;simpa using this
  | 4,hj=>simp[Of.vals]at hj;subst hj;simpa using this
  | 5,hj=>simp[Of.vals]at hj;subst hj;simpa using this
  | 6,hj=>simp[Of.vals]at hj;subst hj;simpa using this
  | j+7,hj=>simp[Of.vals]at hj
 ·intro u hu;simp[Of.vals]at hu;rcases hu with rfl|rfl|rfl|rfl|rfl|rfl|rfl <;> rfl
 intro v' w' h1 h2 _;refine h v' w' ?_ h2;rw[aFl,aIh,List.length_append];exact h1
theorem of_parts(x y:Of):(x=y)∨(x≠y∧(x.se==y.se)=false)∨(x≠y∧(x.se==y.se)=true∧(x.ow==y.ow)=false)∨(x≠y∧(x.se==y.se)=true∧(x.ow==y.ow)=true∧(x.sl==y.sl)=false)∨(x≠y∧(x.se==y.se)=true∧(x.ow==y.ow)=true∧(x.sl==y.sl)=true∧(x.bu==y.bu)=false)∨(x≠y∧(x.se==y.se)=true∧(x.ow==y.ow)=true∧(x.sl==y.sl)=true∧(x.bu==y.bu)=true∧(x.lf==y.lf)=false)∨(x≠y∧(x.se==y.se)=true∧(x.ow==y.ow)=true∧(x.sl==y.sl)=true∧(x.bu==y.bu)=true∧(x.lf==y.lf)=true∧(x.nu==y.nu)=false)∨(x≠y∧(x.se==y.se)=true∧(x.ow==y.ow)=true∧(x.sl==y.sl)=true∧(x.bu==y.bu)=true∧(x.lf==y.lf)=true∧(x.nu==y.nu)=true∧(x.de==y.de)=false):=by
 obtain⟨a0,a1,a2,a3,a4,a5,a6⟩:=x;obtain⟨b0,b1,b2,b3,b4,b5,b6⟩:=y
 by_cases h0:a0=b0
 case neg=>simp[h0]
 by_cases h1:a1=b1
 case neg=>simp[h0,h1]
 by_cases h2:a2=b2
 case neg=>simp[h0,h1,h2]
 by_cases h3:a3=b3
 case neg=>simp[h0,h1,h2,h3]
 by_cases h4:a4=b4
 case neg=>simp[h0,h1,h2,h3,h4]
 by_cases h5:a5=b5
 case neg=>simp[h0,h1,h2,h3,h4,h5]
 by_cases h6:a6=b6
 case neg=>simp[h0,h1,h2,h3,h4,h5,h6]
 simp[h0,h1,h2,h3,h4,h5,h6]
theorem aJq{w:World}{va vb:Value}{la lb:List Of}(ha:aAs w va 7 la.length (aAe la))(hb:aAs w vb 7 lb.length (aAe lb)):
  Calls Tryz.prog 96 #[va,vb] w (yR w (.bool (decide (la=lb)))):=by
 obtain⟨ao,ca,rfl,a1,a2,a3⟩:=ha;obtain⟨bo,cb,rfl,b1,b2,b3⟩:=hb;have HA:=yH a3;have HB:=yH b3;clear a2 a3 b2 b3
 by_cases hlen:la.length=lb.length
 ·have L:=yH hlen;have hll:lb.length=la.length:=hlen.symm;rw[hll];clear hll hlen b1;go_enter Tryz.func96,Tryz.ntmps96;go_wp2
  go_loopw [5] (fun i wr=>∃k:Nat,k≤la.length∧i=.int .i64 k∧Hid (la.take k=lb.take k)∧Below w.heap.size w wr) (fun i _=>la.length - (intOf i).toNat)
  case atStart=>exact⟨0,Nat.zero_le _,rfl,yH (by simp),yZ⟩
  obtain⟨k,hk,rfl,ht,hbl⟩:=hrel;have BL:=yH hbl
  by_cases hkl:k<la.length
  ·have hkb:k<lb.length:=by have:=L.o;omega
   obtain⟨b1,o1,rfl,hlt1,hc1⟩:=HA.o (by omega);obtain⟨b2,o2,rfl,hlt2,hc2⟩:=HB.o (by omega);have HC1:=yH (fun j (hj:j<la.length*7)=>(hbl.cell (p:=⟨b1,o1+j,none⟩) hlt1).trans (hc1 j hj));have HC2:=yH (fun j (hj:j<lb.length*7)=>(hbl.cell (p:=⟨b2,o2+j,none⟩) hlt2).trans (hc2 j hj))
   have d0:wr.cell? ⟨b1,o1+k*7,none⟩=some (.int .u64 la[k].se):=by
    have q1:=HC1.o (k*7+0) (by omega);rw[aAf la k 0 (by omega) hkl]at q1
    first|exact q1|(rw[←Nat.add_assoc]at q1;exact q1)
   have d1:wr.cell? ⟨b1,o1+k*7+1,none⟩=some (.int .u8 la[k].ow):=by
    have q1:=HC1.o (k*7+1) (by omega);rw[aAf la k 1 (by omega) hkl]at q1
    first|exact q1|(rw[←Nat.add_assoc]at q1;exact q1)
   have d2:wr.cell? ⟨b1,o1+k*7+2,none⟩=some (.int .u8 la[k].sl):=by
    have q1:=HC1.o (k*7+2) (by omega);rw[aAf la k 2 (by omega) hkl]at q1
    first|exact q1|(rw[←Nat.add_assoc]at q1;exact q1)
   have d3:wr.cell? ⟨b1,o1+k*7+3,none⟩=some (.int .u8 la[k].bu):=by
    have q1:=HC1.o (k*7+3) (by omega);rw[aAf la k 3 (by omega) hkl]at q1
    first|exact q1|(rw[←Nat.add_assoc]at q1;exact q1)
   have d4:wr.cell? ⟨b1,o1+k*7+4,none⟩=some (.int .i64 la[k].lf):=by
    have q1:=HC1.o (k*7+4) (by omega);rw[aAf la k 4 (by omega) hkl]at q1
    first|exact q1|(rw[←Nat.add_assoc]at q1;exact q1)
   have d5:wr.cell? ⟨b1,o1+k*7+5,none⟩=some (.int .i64 la[k].nu):=by
    have q1:=HC1.o (k*7+5) (by omega);rw[aAf la k 5 (by omega) hkl]at q1
    first|exact q1|(rw[←Nat.add_assoc]at q1;exact q1)
   have d6:wr.cell? ⟨b1,o1+k*7+6,none⟩=some (.int .i64 la[k].de):=by
    have q1:=HC1.o (k*7+6) (by omega);rw[aAf la k 6 (by omega) hkl]at q1
    first|exact q1|(rw[←Nat.add_assoc]at q1;exact q1)
   have f0:wr.cell? ⟨b2,o2+k*7,none⟩=some (.int .u64 lb[k].se):=by
    have q1:=HC2.o (k*7+0) (by omega);rw[aAf lb k 0 (by omega) hkb]at q1
    first|exact q1|(rw[←Nat.add_assoc]at q1;exact q1)
   have f1:wr.cell? ⟨b2,o2+k*7+1,none⟩=some (.int .u8 lb[k].ow):=by
    have q1:=HC2.o (k*7+1) (by omega);rw[aAf lb k 1 (by omega) hkb]at q1
    first|exact q1|(rw[←Nat.add_assoc]at q1;exact q1)
   have f2:wr.cell? ⟨b2,o2+k*7+2,none⟩=some (.int .u8 lb[k].sl):=by
    have q1:=HC2.o (k*7+2) (by omega);rw[aAf lb k 2 (by omega) hkb]at q1
    first|exact q1|(rw[←Nat.add_assoc]at q1;exact q1)
   have f3:wr.cell? ⟨b2,o2+k*7+3,none⟩=some (.int .u8 lb[k].bu):=by
    have q1:=HC2.o (k*7+3) (by omega);rw[aAf lb k 3 (by omega) hkb]at q1
    first|exact q1|(rw[←Nat.add_assoc]at q1;exact q1)
   have f4:wr.cell? ⟨b2,o2+k*7+4,none⟩=some (.int .i64 lb[k].lf):=by
    have q1:=HC2.o (k*7+4) (by omega);rw[aAf lb k 4 (by omega) hkb]at q1
    first|exact q1|(rw[←Nat.add_assoc]at q1;exact q1)
   have f5:wr.cell? ⟨b2,o2+k*7+5,none⟩=some (.int .i64 lb[k].nu):=by
    have q1:=HC2.o (k*7+5) (by omega);rw[aAf lb k 5 (by omega) hkb]at q1
    first|exact q1|(rw[←Nat.add_assoc]at q1;exact q1)
   have f6:wr.cell? ⟨b2,o2+k*7+6,none⟩=some (.int .i64 lb[k].de):=by
    have q1:=HC2.o (k*7+6) (by omega);rw[aAf lb k 6 (by omega) hkb]at q1
    first|exact q1|(rw[←Nat.add_assoc]at q1;exact q1)
   have hz1:b1<wr.heap.size:=yM hlt1 hbl.size;have hz2:b2<wr.heap.size:=yM hlt2 hbl.size
   have NE:=yH (fun(he:la[k]≠lb[k])=>show decide (la=lb)=false by
    rw[decide_eq_false_iff_not];rintro rfl;exact he rfl)
   have EQ:=yH (fun(he:la[k]=lb[k])=>aDs hkl hkb ht.out he);clear hc1 hc2 HC1 HC2 hbl;generalize la[k]=x at *;generalize lb[k]=y at *;rcases of_parts x y with rfl|⟨he,s0⟩|⟨he,s0,s1⟩|⟨he,s0,s1,s2⟩|⟨he,s0,s1,s2,s3⟩|⟨he,s0,s1,s2,s3,s4⟩|⟨he,s0,s1,s2,s3,s4,s5⟩|⟨he,s0,s1,s2,s3,s4,s5,s6⟩
   ·clear NE;go_wp2
    go_region
    all_goals
     go_wp2;go_roundw
     case rel=>exact⟨k+1,by omega,by go_num,yH (EQ.o (by first|exact rfl|trivial)),by first|exact BL.o.drew|exact BL.o⟩
     case measure=>simp[intOf];omega
   ·have E:=yH (NE.o he);clear he NE EQ;go_wp2
    go_region
    all_goals
     go_wp2;go_ret;exact⟨by rw[E.o];rfl,by first|exact BL.o.drew|exact BL.o⟩
   ·have E:=yH (NE.o he);clear he NE EQ;go_wp2
    go_region
    all_goals
     go_wp2;go_ret;exact⟨by rw[E.o];rfl,by first|exact BL.o.drew|exact BL.o⟩
   ·have E:=yH (NE.o he);clear he NE EQ;go_wp2
    go_region
    all_goals
     go_wp2;go_ret;exact⟨by rw[E.o];rfl,by first|exact BL.o.drew|exact BL.o⟩
   ·have E:=yH (NE.o he);clear he NE EQ;go_wp2
    go_region
    all_goals
     go_wp2;go_ret;exact⟨by rw[E.o];rfl,by first|exact BL.o.drew|exact BL.o⟩
   ·have E:=yH (NE.o he);clear he NE EQ;go_wp2
    go_region
    all_goals
     go_wp2;go_ret;exact⟨by rw[E.o];rfl,by first|exact BL.o.drew|exact BL.o⟩
   ·have E:=yH (NE.o he);clear he NE EQ;go_wp2
    go_region
    all_goals
     go_wp2;go_ret;exact⟨by rw[E.o];rfl,by first|exact BL.o.drew|exact BL.o⟩
   have E:=yH (NE.o he);clear he NE EQ;go_wp2
   go_region
   all_goals
    go_wp2;go_ret;exact⟨by rw[E.o];rfl,by first|exact BL.o.drew|exact BL.o⟩
  have E:=yH (show decide (la=lb)=true by
   have h1:=ht.out;rw[List.take_of_length_le (by omega),List.take_of_length_le (by have:=L.o;omega)]at h1;rw[decide_eq_true_eq];exact h1)
  go_wp2;go_ret;exact⟨by rw[E.o];rfl,BL.o⟩
 have E:=yH (show decide (la=lb)=false by rw[decide_eq_false_iff_not];rintro rfl;exact hlen rfl);have q:((la.length:Int)==(lb.length:Int))=false:=by simp;omega
 clear hlen;go_enter Tryz.func96,Tryz.ntmps96;go_wp2;go_ret;exact⟨by rw[E.o];rfl,yZ⟩
theorem aJf{w:World}{va vb:Value}{la lb:List Of}(ha:aAs w va 7 la.length (aAe la))(hb:aAs w vb 7 lb.length (aAe lb)):
  Calls Tryz.prog 56 #[va,vb] w (yR w (.bool (decide (la=lb)))):=by
 have C:=yH (aJq ha hb);clear ha hb;generalize decide (la=lb)=r at *;go_enter Tryz.func56,Tryz.ntmps56;go_wp2_with fail;refine C.o.mono ?_;rintro e w1 ⟨rfl,b1⟩;go_wp2_with fail;go_ret;exact⟨rfl,b1⟩
theorem twinOf_any{ao:Option Addr}{cap:Nat}{l:List Of}(x:Of){w:World}(hr:aAs w (.slice ao l.length cap) 7 l.length (aAe l))(h0:ao=none→cap=0)(hl:l.length≤10000000):
  Calls Tryz.prog 64 #[.slice ao l.length cap,.agg #[.int .u64 x.se,.int .u8 x.ow,.int .u8 x.sl,.int .u8 x.bu,.int .i64 x.lf,.int .i64 x.nu,.int .i64 x.de]] w (aE7 w 75 7 l.length (aAe l) (aAe [x,x])):=by
 obtain⟨i0,hi,hz0,hz1,hz2⟩:=info_parts aKj;have HR:=yH hr;have HX:=yH (Blk.new w #[.int .u64 x.se,.int .u8 x.ow,.int .u8 x.sl,.int .u8 x.bu,.int .i64 x.lf,.int .i64 x.nu,.int .i64 x.de] 75);have HN:=yH (hr.ofNone h0);have bx:=(Below.refl w.heap.size w).alloc yL (.cells #[.int .u64 x.se,.int .u8 x.ow,.int .u8 x.sl,.int .u8 x.bu,.int .i64 x.lf,.int .i64 x.nu,.int .i64 x.de] 75);clear hr h0;go_enter Tryz.func64,Tryz.ntmps64;go_wp2_with (at_make;refine wpList_make_own _ rfl _ _ 43 rfl (w.heap.size+1) 75 i0 (Of.val ⟨0,0,0,0,0,0,0⟩) 7 Tryz.underlying43 hi hz0 hz1 _ _ _ (l.length+2) rfl rfl (by first|omega|go_num|(simp;omega)) (by rw[hz2];omega) (by unfold maxLen;omega) (by simp) ?_);intro w1 hown1 hgrow1;have X1:=yH (HX.o.grown hgrow1 (by simp));have b1:Below w.heap.size w w1:=bx.grown hgrow1 (by simp) (fun k h=>by cases h);have HA1:=yH (HR.o.below b1);go_wp2_with (at_builtin;refine wpList_append_fits_any _ rfl (.tmp 10) (.tmp 11) 43 rfl (w.heap.size+1) 75 i0 7 Tryz.underlying43 hi hz1 (w.heap.size+1) 0 (l.length+2) _ rfl hown1 _ _ _ (aAe l) rfl (aCh l) HN.o HA1.o.src (aB2 l) (by omega) ?_);intro w2 hown2 hgrow2;have b2:=b1.grown hgrow2 b1.size (fun k h=>by cases h;omega);have hX2:=X1.o.grown hgrow2 (by simp);have x0:=hX2.cell 0;have x1:=hX2.cell 1;have x2:=hX2.cell 2;have x3:=hX2.cell 3;have x4:=hX2.cell 4;have x5:=hX2.cell 5;have x6:=hX2.cell 6;simp at x0 x1 x2 x3 x4 x5 x6;have hxl:=hX2.lt;clear hX2;go_wp2_with (at_builtin;refine wpList_append_fits _ rfl (.tmp 13) (.tmp 16) 43 rfl (w.heap.size+1) 75 i0 7 Tryz.underlying43 hi hz1 (w.heap.size+1) l.length (l.length+2) _ (by simp[go_sem]) (hown2.alloc _) ⟨w2.heap.size,0,none⟩ 2 2 (aAe [x,x]) rfl rfl ?_ (aB2 [x,x]) (by omega) ?_)
 ·intro j u hj;rw[Go.WideShapes.add_plain,Nat.zero_add];refine((Blk.new w2 _ 75).cell j).trans ?_;simpa [aAe,Of.vals]using hj
 intro w3 hown3 hgrow3;have b3:Below w.heap.size w w3:=(b2.alloc b2.size _).grown hgrow3 (by simp;have:=b2.size;omega) (fun k h=>by cases h;omega);have H3:=yH (show aBd w3 w.heap.size (w.heap.size+1) 75 7 l.length (aAe l) (aAe [x,x])from aBo (by simpa using hown3) (Nat.le_succ _));clear hown1 hown2 hown3;go_wp2;go_ret;exact⟨w.heap.size+1,rfl,Nat.le_succ _,H3.o,b3⟩
theorem leftOf_any{base g:Nat}{v:Value}{l m:List Of}{x:Of}{w:World}(hl:l.length≤10000000)(ht:aBd w base g 75 7 l.length (aAe l) (aAe [x,x]))(hr:aAs w v 7 m.length (aAe m)):
  Calls Tryz.prog 73 #[.slice (some ⟨g,0,none⟩) l.length (l.length+2),v,.agg #[.int .u64 x.se,.int .u8 x.ow,.int .u8 x.sl,.int .u8 x.bu,.int .i64 x.lf,.int .i64 x.nu,.int .i64 x.de]] w (yR w (.bool (decide (l=m)))):=by
 have HR:=yH hr;have HT:=yH (ht.reads (by omega) (aCh l));have b0:=(Below.refl w.heap.size w).alloc yL (.cells #[.int .u64 x.se,.int .u8 x.ow,.int .u8 x.sl,.int .u8 x.bu,.int .i64 x.lf,.int .i64 x.nu,.int .i64 x.de] 75);have hs:=yH (aJq (HT.o.below b0) (HR.o.below b0));have B0:=yH b0;have KX:=yH (Blk.new w #[.int .u64 x.se,.int .u8 x.ow,.int .u8 x.sl,.int .u8 x.bu,.int .i64 x.lf,.int .i64 x.nu,.int .i64 x.de] 75);have hg:=ht.cells.1
 have MC:Hid (∀j,j<14→w.cell? ⟨g,l.length*7+j,none⟩=(aAe [x,x])[j]?):=yH fun j hj=>by
  have:=ht.cells.2 (l.length*7+j) (by omega)
  rwa [List.getElem?_append_right (by rw[aCh];omega),aCh,Nat.add_sub_cancel_left]at this
 obtain⟨ao,cap,rfl,_⟩:=hr;clear ht b0 HT HR;go_enter Tryz.func73,Tryz.ntmps73;go_wp2_with fail;refine hs.out.mono ?_;rintro e w1 ⟨rfl,b1⟩;have B1:=yT B0 b1;have KX1:=yB KX b1;clear b1 B0 KX hs
 by_cases he:l=m
 ·subst he;have hg1:g<w1.heap.size:=yM hg B1.o.size;have M1:Hid (∀j,j<14→w1.cell? ⟨g,l.length*7+j,none⟩=(aAe [x,x])[j]?):=yH fun j hj=>(B1.o.cell (p:=⟨g,l.length*7+j,none⟩) hg).trans (MC.o j hj)
  have m0:w1.cell? ⟨g,l.length*7,none⟩=some (.int .u64 x.se):=M1.o 0 (by omega);have m1:w1.cell? ⟨g,l.length*7+1,none⟩=some (.int .u8 x.ow):=M1.o 1 (by omega);have m2:w1.cell? ⟨g,l.length*7+2,none⟩=some (.int .u8 x.sl):=M1.o 2 (by omega);have m3:w1.cell? ⟨g,l.length*7+3,none⟩=some (.int .u8 x.bu):=M1.o 3 (by omega);have m4:w1.cell? ⟨g,l.length*7+4,none⟩=some (.int .i64 x.lf):=M1.o 4 (by omega);have m5:w1.cell? ⟨g,l.length*7+5,none⟩=some (.int .i64 x.nu):=M1.o 5 (by omega);have m6:w1.cell? ⟨g,l.length*7+6,none⟩=some (.int .i64 x.de):=M1.o 6 (by omega);have n0:w1.cell? ⟨g,l.length*7+7,none⟩=some (.int .u64 x.se):=M1.o 7 (by omega);have n1:w1.cell? ⟨g,l.length*7+7+1,none⟩=some (.int .u8 x.ow):=M1.o 8 (by omega);have n2:w1.cell? ⟨g,l.length*7+7+2,none⟩=some (.int .u8 x.sl):=M1.o 9 (by omega);have n3:w1.cell? ⟨g,l.length*7+7+3,none⟩=some (.int .u8 x.bu):=M1.o 10 (by omega);have n4:w1.cell? ⟨g,l.length*7+7+4,none⟩=some (.int .i64 x.lf):=M1.o 11 (by omega);have n5:w1.cell? ⟨g,l.length*7+7+5,none⟩=some (.int .i64 x.nu):=M1.o 12 (by omega);have n6:w1.cell? ⟨g,l.length*7+7+6,none⟩=some (.int .i64 x.de):=M1.o 13 (by omega);have k0:=KX1.o.cell 0;have k1:=KX1.o.cell 1;have k2:=KX1.o.cell 2;have k3:=KX1.o.cell 3;have k4:=KX1.o.cell 4;have k5:=KX1.o.cell 5;have k6:=KX1.o.cell 6;have kl:=KX1.o.lt;simp at k0 k1 k2 k3 k4 k5 k6;rw[decide_eq_true rfl];clear M1 MC;go_wp2_with fail;rw[show l.length+2 - l.length=2 by omega]
  go_quiet (fail)
  all_goals
   go_wp2_with fail;go_ret;exact⟨rfl,below_drewN B1.o _⟩
 rw[decide_eq_false he];go_wp2;go_ret;exact⟨by rw[decide_eq_false he];rfl,B1.o⟩
theorem aJg{ao:Option Addr}{cap:Nat}{l:List Of}{w:World}(hr:aAs w (.slice ao l.length cap) 7 l.length (aAe l))(h0:ao=none→cap=0)(hl:l.length≤10000000):
  Calls Tryz.prog 31 #[.slice ao l.length cap] w (aE7 w 75 7 l.length (aAe l) (aAe [⟨0,0,0,0,-77,0,0⟩,⟨0,0,0,0,-77,0,0⟩])):=by
 have c:=yH (twinOf_any ⟨0,0,0,0,-77,0,0⟩ hr h0 hl);clear hr h0;dsimp only at c;go_enter Tryz.func31,Tryz.ntmps31;go_wp2_with fail;refine c.out.mono ?_;rintro e w' ⟨g,rfl,h1,h2,h3⟩;have T:=yH h2;clear h2;go_wp2;go_ret;exact⟨g,rfl,h1,T.o,h3⟩
theorem aFm{base g:Nat}{v:Value}{l m:List Of}{w:World}(hl:l.length≤10000000)(ht:aBd w base g 75 7 l.length (aAe l) (aAe [⟨0,0,0,0,-77,0,0⟩,⟨0,0,0,0,-77,0,0⟩]))(hr:aAs w v 7 m.length (aAe m)):
  Calls Tryz.prog 36 #[.slice (some ⟨g,0,none⟩) l.length (l.length+2),v] w (yR w (.bool (decide (l=m)))):=by
 have c:=yH (leftOf_any hl ht hr);clear ht hr;dsimp only at c;go_enter Tryz.func36,Tryz.ntmps36;go_wp2_with fail;refine c.out.mono ?_;rintro e w' ⟨rfl,h⟩;go_wp2;go_ret;exact⟨rfl,h⟩
end Go.Proofs.YtngnfdnfpiiclaaGreat
namespace Go.Proofs.YtngnfdnfpiiclaaGreat
open Go.RowKit Go.ChangeShapes Go.WideShapes Go.Deep
def SlIn{α:Type}(vals:α→List Value)(size:Nat)(Ok:α→Prop)(w:World)(a:Option Addr)(len cap:Nat)(xs:List α):Prop:=
 (a=none→cap=0)∧xs.length=len∧(∀x∈xs,Ok x)∧len≤cap∧cap≤maxLen∧(0<len→∃b off,a=some ⟨b,off,none⟩∧b<w.heap.size∧∀i (h:i<xs.length) (j:Nat) (v:Value),(vals xs[i])[j]? = some v→w.cell? ⟨b,off+i*size+j,none⟩=some v)
section
variable{H:Type}{enc:TypeId×Value→H}{P:Program}{w:World}{base:Nat}{spare:Nat→Bool}{held:Bool}
theorem sl_open{α:Type}{vals:α→List Value}{size:Nat}{Ok:α→Prop}{ts te:TypeId}(hu:P.underlying ts=some (.slice te))(hC:P.cellsOf te=size)(hlen:∀y,(vals y).length=size)(hsz:0<size)
  (hr:∀(fuel:Nat) (cs:List Value) (x:DataW H×List MemPlace),DataW.trod enc P w base spare held fuel te cs=some x→∃y:α,Ok y∧cs=vals y)
  {a:Option Addr}{len cap:Nat}{d:DataW H}{p:List MemPlace}(h:DataW.Trod enc P w base spare held ts (.slice a len cap) d p):∃xs,SlIn vals size Ok w a len cap xs:=by
 obtain⟨fuel,hf⟩:=h;rcases open_slice hu hf with⟨h0,_⟩|⟨ad,l,c,m,n,D,Pl,hcs,hb,hl,hm,hmm,hx,hi⟩
 ·simp[Value.cells]at h0;obtain⟨rfl,rfl,rfl⟩:=h0;exact⟨[],fun _=>rfl,rfl,by simp,Nat.le_refl _,by unfold maxLen;omega,fun h=>by omega⟩
 simp[Value.cells]at hcs;obtain⟨rfl,rfl,rfl⟩:=hcs;have hlm:len≤m:=by rw[hmm];split <;> omega
 have key:∀i,i<len→∃x:α,Ok x∧∀(j:Nat) (v:Value),(vals x)[j]? = some v→w.cell? ((ad.add (i*size)).add j)=some v:=by
  intro i hil;obtain⟨cs',hc,ht⟩:=hi i (by omega);rw[hC]at hc;obtain⟨x,hx,rfl⟩:=hr _ _ _ ht;obtain⟨_,_,hat⟩:=World.cells?_some hc;refine⟨x,hx,fun j v hj=>?_⟩
  have hj5:j<size:=by
   have:=(List.getElem?_eq_some_iff.1 hj).1;rw[hlen]at this;exact this
  rw[hat j hj5,hj]
 have hex:∀k,k≤len→∃xs:List α,xs.length=k∧(∀x∈xs,Ok x)∧∀i (h:i<xs.length) (j:Nat) (v:Value),(vals xs[i])[j]? = some v→w.cell? ((ad.add (i*size)).add j)=some v:=by
  intro k
  induction k with
  | zero=>intro _;exact⟨[],rfl,by simp,fun i h=>by simp at h⟩
  | succ k ih=>
   intro hk;obtain⟨xs,h1,h2,h3⟩:=ih (by omega);obtain⟨x,hx,hxc⟩:=key k (by omega);refine⟨xs++[x],by simp[h1],?_,?_⟩
   ·intro y hy;rcases List.mem_append.1 hy with hy|hy
    ·exact h2 y hy
    rw[List.mem_singleton]at hy;rw[hy];exact hx
   intro i hi j v hv
   by_cases hik:i<xs.length
   ·rw[List.getElem_append_left hik]at hv;exact h3 i hik j v hv
   have:i=k:=by rw[List.length_append,List.length_singleton]at hi;omega
   subst this;rw[List.getElem_append_right (by omega)]at hv;simp[h1]at hv;exact hxc j v hv
 obtain⟨xs,h1,h2,h3⟩:=hex len yL;refine⟨xs,fun h=>(by cases h),h1,h2,hl,hm,fun hp=>?_⟩;have hv0:(vals (xs[0]'(by omega)))[0]? = some ((vals (xs[0]'(by omega)))[0]'(by rw[hlen];exact hsz)):=List.getElem?_eq_getElem _;have h00:=h3 0 (by omega) 0 _ hv0
 have hsp:ad.spot=none:=by
  rcases hs:ad.spot with _|s
  ·rfl
  exfalso;rw[Go.Deep.add_add]at h00;have e:(ad.add (0*size+0)).spot=ad.spot:=by cases ad;simp[Addr.add]
  unfold World.cell? at h00;rw[e,hs]at h00;split at h00
  ·simp at h00
  cases h00
 obtain⟨b,off,sp⟩:=ad;simp only at hsp;subst hsp
 have hcell:∀i (h:i<xs.length) (j:Nat) (v:Value),(vals xs[i])[j]? = some v→w.cell? ⟨b,off+i*size+j,none⟩=some v:=by
  intro i hi j v hv;have:=h3 i hi j v hv;rw[Go.Deep.add_add,Go.WideShapes.add_plain]at this;rw[Nat.add_assoc];exact this
 exact⟨b,off,rfl,World.block_lt_of_cell? _ _ (hcell 0 (by omega) 0 _ hv0),hcell⟩
end
theorem SlIn.below{α:Type}{vals:α→List Value}{size:Nat}{Ok:α→Prop}{w w':World}{a:Option Addr}{len cap:Nat}{xs:List α}(h:SlIn vals size Ok w a len cap xs)(k:Below w.heap.size w w'):SlIn vals size Ok w' a len cap xs:=by
 obtain⟨h0,h1,h2,h3,h4,h5⟩:=h;refine⟨h0,h1,h2,h3,h4,fun hp=>?_⟩;obtain⟨b,off,rfl,hlt,hc⟩:=h5 hp;exact⟨b,off,rfl,yM hlt k.size,fun i hi j v hv=>by rw[k.cell (p:=⟨b,off+i*size+j,none⟩) hlt];exact hc i hi j v hv⟩
section
variable{H:Type}{enc:TypeId×Value→H}{P:Program}{w:World}{base:Nat}{spare:Nat→Bool}{held:Bool}
theorem aHc{fs:Array Field}{xs:List (DataW H×List MemPlace)}{n:Nat}{cs:List Value}(hxl:xs.length=fs.size)(hf:∀(j:Nat) (f:Field),fs[j]? = some f→DataW.trod enc P w base spare held n f.type ((cs.drop f.offset).take (P.cellsOf f.type))=xs[j]?){j o:Nat}{f:Field}{k:IntKind}(hj:fs[j]? = some f)(ho:f.offset=o)(hc:P.cellsOf f.type=1)(hk:P.underlying f.type=some (.int k))(hl:o<cs.length):
  ∃m,cs[o]? = some (.int k m)∧(Lit.int k m).wf=true:=by
 have h1:=hf j f hj;rw[ho,hc,List.drop_eq_getElem_cons hl]at h1;have hjf:j<fs.size:=(Array.getElem?_eq_some_iff.1 hj).1;rw[List.getElem?_eq_getElem (by omega:j<xs.length)]at h1;obtain⟨m,hm,_,hw⟩:=DataW.trod_int hk h1;refine⟨m,?_,hw⟩;rw[List.getElem?_eq_getElem hl];have hm':[cs[o]]=[Value.int k m]:=hm;exact congrArg some (List.cons.inj hm').1
end
theorem InU64.of_wf{n:Int}(h:(Lit.int .u64 n).wf=true):0≤n∧n≤18446744073709551615:=by
 simp[Lit.wf,IntKind.min,IntKind.max,IntKind.signed,IntKind.bits]at h;exact⟨by omega,by omega⟩
section
variable{H:Type}{enc:TypeId×Value→H}{P:Program}{w:World}{base:Nat}{spare:Nat→Bool}{held:Bool}
theorem pair_of{t:TypeId}{g0 g1:Field}{k0 k1:IntKind}(hu:P.underlying t=some (.struct #[g0,g1]))(hC:P.cellsOf t=2)(o0:g0.offset=0)(o1:g1.offset=1)(c0:P.cellsOf g0.type=1)(c1:P.cellsOf g1.type=1)
  (h0:P.underlying g0.type=some (.int k0))(h1:P.underlying g1.type=some (.int k1)){fuel:Nat}{cs:List Value}{x:DataW H×List MemPlace}(h:DataW.trod enc P w base spare held fuel t cs=some x):
  ∃m0 m1,cs=[.int k0 m0,.int k1 m1]∧(Lit.int k0 m0).wf=true∧(Lit.int k1 m1).wf=true:=by
 obtain⟨xs,n,_,_,hlen,hxl,hf⟩:=DataW.trod_struct hu h;rw[hC]at hlen;obtain⟨m0,e0,w0⟩:=aHc hxl hf (j:=0) rfl o0 c0 h0 (by omega);obtain⟨m1,e1,w1⟩:=aHc hxl hf (j:=1) rfl o1 c1 h1 (by omega)
 match cs,hlen with
 | [a,b],_=>
  simp at e0 e1;subst e0 e1;exact⟨m0,m1,rfl,w0,w1⟩
theorem offer_of{t:TypeId}{f0 f1 f2 f3 f4 f5 g0 g1:Field}(hu:P.underlying t=some (.struct #[f0,f1,f2,f3,f4,f5]))(hC:P.cellsOf t=7)
  (o:f0.offset=0∧f1.offset=1∧f2.offset=2∧f3.offset=3∧f4.offset=4∧f5.offset=5)(c:P.cellsOf f0.type=1∧P.cellsOf f1.type=1∧P.cellsOf f2.type=1∧P.cellsOf f3.type=1∧P.cellsOf f4.type=1∧P.cellsOf f5.type=2)
  (k:P.underlying f0.type=some (.int .u64)∧P.underlying f1.type=some (.int .u8)∧P.underlying f2.type=some (.int .u8)∧P.underlying f3.type=some (.int .u8)∧P.underlying f4.type=some (.int .i64))
  (hr:P.underlying f5.type=some (.struct #[g0,g1]))(og:g0.offset=0∧g1.offset=1)(cg:P.cellsOf g0.type=1∧P.cellsOf g1.type=1)(kg:P.underlying g0.type=some (.int .i64)∧P.underlying g1.type=some (.int .i64))
  {fuel:Nat}{cs:List Value}{x:DataW H×List MemPlace}(h:DataW.trod enc P w base spare held fuel t cs=some x):∃x:Of,x.Fits∧cs=x.vals:=by
 obtain⟨xs,n,_,_,hlen,hxl,hf⟩:=DataW.trod_struct hu h;rw[hC]at hlen;obtain⟨m0,e0,w0⟩:=aHc hxl hf (j:=0) rfl o.1 c.1 k.1 (by omega);obtain⟨m1,e1,w1⟩:=aHc hxl hf (j:=1) rfl o.2.1 c.2.1 k.2.1 (by omega);obtain⟨m2,e2,w2⟩:=aHc hxl hf (j:=2) rfl o.2.2.1 c.2.2.1 k.2.2.1 (by omega);obtain⟨m3,e3,w3⟩:=aHc hxl hf (j:=3) rfl o.2.2.2.1 c.2.2.2.1 k.2.2.2.1 (by omega);obtain⟨m4,e4,w4⟩:=aHc hxl hf (j:=4) rfl o.2.2.2.2.1 c.2.2.2.2.1 k.2.2.2.2 (by omega);have h5:=hf 5 f5 rfl;rw[o.2.2.2.2.2,c.2.2.2.2.2]at h5;rw[List.getElem?_eq_getElem (by rw[hxl];simp:5<xs.length)]at h5;obtain⟨m5,m6,e5,w5,w6⟩:=pair_of hr c.2.2.2.2.2 og.1 og.2 cg.1 cg.2 kg.1 kg.2 h5
 match cs,hlen with
 | [a0,a1,a2,a3,a4,a5,a6],_=>
  simp at e0 e1 e2 e3 e4 e5;obtain⟨e5,e6⟩:=e5;subst e0 e1 e2 e3 e4 e5 e6;exact⟨⟨m0,m1,m2,m3,m4,m5,m6⟩,⟨InU64.of_wf w0,In8.of_wf w1,In8.of_wf w2,In8.of_wf w3,In64.of_wf w4,In64.of_wf w5,In64.of_wf w6⟩,rfl⟩
end
section
variable{H:Type}{enc:TypeId×Value→H}{w:World}{base:Nat}{spare:Nat→Bool}{held:Bool}
theorem offer_read{fuel:Nat}{cs:List Value}{x:DataW H×List MemPlace}(h:DataW.trod enc Tryz.prog w base spare held fuel 75 cs=some x):∃x:Of,x.Fits∧cs=x.vals:=
 offer_of Tryz.underlying75 (by kernel_rfl) ⟨rfl,rfl,rfl,rfl,rfl,rfl⟩ ⟨by kernel_rfl,by kernel_rfl,by kernel_rfl,by kernel_rfl,by kernel_rfl,by kernel_rfl⟩ ⟨Tryz.underlying44,Tryz.underlying68,Tryz.underlying69,Tryz.underlying69,Tryz.underlying2⟩
  Tryz.underlying73 ⟨rfl,rfl⟩ ⟨by kernel_rfl,by kernel_rfl⟩ ⟨Tryz.underlying2,Tryz.underlying2⟩ h
theorem aM9{a:Option Addr}{len cap:Nat}{d:DataW H}{p:List MemPlace}(h:DataW.Trod enc Tryz.prog w base spare held 43 (.slice a len cap) d p):∃xs:List Of,SlIn Of.vals 7 Of.Fits w a len cap xs:=
 sl_open Tryz.underlying43 (by kernel_rfl) Of.vals_len (by decide) (fun fuel cs x h=>offer_read h) h
end
theorem SlIn.reads{w:World}{a:Option Addr}{len cap:Nat}{xs:List Of}(h:SlIn Of.vals 7 Of.Fits w a len cap xs)(hn:len≤100000000):aAs w (.slice a xs.length cap) 7 xs.length (aAe xs):=by
 obtain⟨h0,h1,h2,h3,h4,h5⟩:=h;subst h1;refine⟨a,cap,rfl,hn,aCh xs,fun hp=>?_⟩;obtain⟨b,off,rfl,hlt,hc⟩:=h5 hp;refine⟨b,off,rfl,hlt,fun j hj=>?_⟩;have hi:j/7<xs.length:=by omega
 have hm:j%7<7:=Nat.mod_lt _ (by decide);have e:j=j/7*7+j%7:=by omega
 have hv:xs[j/7].vals[j%7]? = some (xs[j/7].vals[j%7]'(by rw[Of.vals_len];omega)):=List.getElem?_eq_getElem _;have:=hc (j/7) hi (j%7) _ hv;rw[Nat.add_assoc,←e]at this;rw[this,←hv,←aAf xs (j/7) (j%7) hm hi,←e]
section
variable{H:Type}{enc:TypeId×Value→H}{P:Program}{w:World}{base:Nat}{spare:Nat→Bool}{held:Bool}
end
section
variable{H:Type}{enc:TypeId×Value→H}{w:World}{base:Nat}{spare:Nat→Bool}{held:Bool}
end
theorem SlIn.flows{w:World}{a:Option Addr}{len cap:Nat}{xs:List Fw}(h:SlIn Fw.vals 3 Fw.Fits w a len cap xs)(hn:len≤100000000):aAs w (.slice a xs.length cap) 3 xs.length (aBr xs):=by
 obtain⟨h0,hl,hk,h1,h2,h3⟩:=h;subst hl;refine⟨a,cap,rfl,hn,aMx xs,fun hp=>?_⟩;obtain⟨b,off,ha,hb,hc⟩:=h3 hp;refine⟨b,off,ha,hb,fun j hj=>?_⟩;have hjd:j/3<xs.length:=by omega
 have h4:=aD9 xs (j/3) (j%3) (by omega) hjd;rw[show j/3*3+j%3=j by omega]at h4;have hv:(xs[j/3].vals)[j%3]? = some (xs[j/3].vals[j%3]'(by rw[Fw.vals_len];omega)):=List.getElem?_eq_getElem _;have h5:=hc (j/3) hjd (j%3) _ hv;rw[show off+j/3*3+j%3=off+j by omega]at h5;rw[h5,h4,hv]
end Go.Proofs.YtngnfdnfpiiclaaGreat
namespace Go.Proofs.YtngnfdnfpiiclaaGreat
open Go.RowKit Go.ChangeShapes Go.WideShapes
theorem aGs{f0:Int→Int→Int}{B:Int}(h:GInv f0 B)(s t want:Int):∃σ,aAm f0 B s t want σ:=by
 have key:∀n:Nat,(∃σ,aAm f0 B s t want σ)∨(∃σ,RInv f0 B s t want n σ∧¬aDe s t σ):=by
  intro n
  induction n with
  | zero=>
   by_cases hd:aDe s t ⟨f0,want,[]⟩
   ·exact .inl ⟨_,0,RInv.start h s t want,hd⟩
   ·exact .inr ⟨_,RInv.start h s t want,hd⟩
  | succ n ih=>
   rcases ih with h1|⟨σ,h1,h2⟩
   ·exact .inl h1
   have h3:=h1.step h2
   by_cases hd:aDe s t (wayR s t σ)
   ·exact .inl ⟨_,n+1,h3,hd⟩
   exact .inr ⟨_,h3,hd⟩
 rcases key 4114 with h1|⟨σ,h1,_⟩
 ·exact h1
 have:=h1.k5;omega
theorem aAm.len{f0:Int→Int→Int}{B s t want:Int}{σ:RS}(h:aAm f0 B s t want σ):σ.out.length≤70000:=by
 obtain⟨k,h,_⟩:=h;have h1:=h.len;have h2:=h.k5;omega
theorem zero_short(a b:Int):aAz aFi a b=[]:=by
 unfold aAz;rw[if_neg];rintro⟨_,_,hne,hr⟩;obtain⟨m,_,hw⟩:=(aBb (GInv.zero (B:=0) (Int.le_refl _)) a 16 b).1 hr
 match m,hw with
 | 0,hw=>exact hne hw
 | m+1,⟨r,h1,_⟩=>unfold aFi at h1;omega
theorem route_out{f:Int→Int→Int}{B s t want:Int}{σ:RS}(h0:GInv f B)(hn:¬(inP s∧inP t∧s≠t))(h:aAm f B s t want σ):σ=⟨f,want,[]⟩:=by
 refine h.eq ⟨0,RInv.start h0 s t want,.inr ?_⟩;show aAz f s t=[];unfold aAz;rw[if_neg (fun h=>hn ⟨h.1,h.2.1,h.2.2.1⟩)]
def aJr(f:Int→Int→Int)(s t want:Int)(e:TypeId)(w:World)(en:Ending)(w':World):Prop:=
 ∃(σ:RS) (v:Value),en=.returned (.tuple #[v,.int .i64 (want - σ.left)])∧aAm f 4398046511104 s t want σ∧RowA w' w.heap.size e 3 v σ.out.length (aBr σ.out)∧Below w.heap.size w w'
def IsM(w:World)(v:Value)(f:Int→Int→Int):Prop:=(v=.pointer none∧f=aFi)∨∃g,v=.pointer (some ⟨g,0,none⟩)∧Blk w g (graC f true) 327
theorem IsM.isG{w:World}{v:Value}{f:Int→Int→Int}(h:IsM w v f):IsG w v f:=by
 rcases h with h|⟨g,h1,h2⟩
 ·exact .inl h
 exact .inr ⟨g,true,h1,h2⟩
theorem IsM.below{w w':World}{v:Value}{f:Int→Int→Int}(h:IsM w v f)(hb:Below w.heap.size w w'):IsM w' v f:=by
 rcases h with h|⟨g,h1,h2⟩
 ·exact .inl h
 exact .inr ⟨g,h1,h2.below hb h2.lt⟩
theorem IsM.of{w:World}{g:Nat}{f:Int→Int→Int}(h:Blk w g (graC f true) 327):IsM w (.pointer (some ⟨g,0,none⟩)) f:=.inr ⟨g,rfl,h⟩
theorem IsM.nil(w:World):IsM w (.pointer none) aFi:=.inl ⟨rfl,rfl⟩
def aD0:Prop:=∀(w:World) (v:Value) (f:Int→Int→Int) (s t want:Int),IsM w v f→GInv f 4398046511104→In8 s→In8 t→In64 want→
 Calls Tryz.prog 192 #[v,.int .u8 s,.int .u8 t,.int .i64 want] w (aJr f s t want 209 w)
theorem aD0.at_(h:aD0){w:World}{v:Value}{f:Int→Int→Int}{s t want:Int}{σ:RS}(hv:IsM w v f)(h0:GInv f 4398046511104)(hs:In8 s)(ht:In8 t)(hw:In64 want)(hσ:aAm f 4398046511104 s t want σ):
  Calls Tryz.prog 192 #[v,.int .u8 s,.int .u8 t,.int .i64 want] w fun e w'=>∃v',e=.returned (.tuple #[v',.int .i64 (want - σ.left)])∧RowA w' w.heap.size 209 3 v' σ.out.length (aBr σ.out)∧Below w.heap.size w w':=by
 refine(h w v f s t want hv h0 hs ht hw).mono ?_;rintro e w' ⟨ν,v',rfl,hν,hr,hb⟩;rw[hν.eq hσ]at hr ⊢;exact⟨v',rfl,hr,hb⟩
end Go.Proofs.YtngnfdnfpiiclaaGreat
