/- Pieces of one proof. -/
import Derived.Test.YtaeocliklpcgmaaGreatW17
set_option linter.all false
set_option maxHeartbeats 64000000
set_option maxRecDepth 100000
namespace Go.Proofs.YtaeocliklpcgmaaGreat
open Go.RowKit
theorem aIj{ps:List Int}{ls:List Ln}(h:LInv ps ls)(p c:Int):-70368744177664≤posL ls p c∧posL ls p c≤70368744177664:=
 sum_part (fun x hx=>posOf_bd (h.inv.good x hx) p c) (fun x hx=>hx) h.len
theorem moved_any{w:World}{G M G2 M2:Nat}{ps ps2:List Int}{ls ls2:List Ln}(hL:LedM w G M ps ls)(hI:LInv ps ls)(hC:LedM w G2 M2 ps2 ls2)(hJ:LInv ps2 ls2)(p c:Int){n:Int}(n1:-1099511627776≤n)(n2:n≤1099511627776):
  Calls Tryz.prog 29 #[.pointer (some ⟨G,0,none⟩),.pointer (some ⟨G2,0,none⟩),.int .u8 p,.int .u8 c,.int .i64 n] w (yR w (.bool (decide (posL ls p c=posL ls2 p c+n)))):=by
 have C1:=yH (aIg hL hI p c);have C2:=yH (fun w' (k:Below w.heap.size w w')=>aIg (hC.below k) hJ p c);have h1:=aIj hI p c;have h2:=aIj hJ p c;generalize posL ls p c=x at *;generalize posL ls2 p c=y at *;obtain⟨x0,x1⟩:=h1;obtain⟨y0,y1⟩:=h2;obtain⟨r,hr⟩:∃r,decide (x=y+n)=r:=⟨_,rfl⟩;have hr2:(x==y+n)=r:=by rw[←hr];by_cases h:x=y+n <;> simp[h]
 rw[hr];clear hL hI hC hJ hr;go_enter Tryz.func29,Tryz.ntmps29;go_wp2_with fail;refine C1.out.mono ?_;rintro e w1 ⟨rfl,b1⟩;have B1:=yH b1;clear b1;go_wp2_with fail;refine(C2.out w1 B1.out).mono ?_;rintro e w2 ⟨rfl,b2⟩;have B2:=yT B1 b2;clear b2;go_wp2_with fail;go_ret;exact⟨rfl,B2.out⟩
def aF0(ls:List Ln)(k:Nat):List Ln:=(ls.take k).map (fun x=>x.owe 0)++ls.drop k
theorem aFk(ls:List Ln)(k:Nat):(aF0 ls k).length=ls.length:=by unfold aF0;simp;omega
theorem aKk(ls:List Ln):aF0 ls 0=ls:=by unfold aF0;simp
theorem aMs{ls:List Ln}{k:Nat}(h:k<ls.length):(aF0 ls k)[k]'(by rw[aFk];exact h)=ls[k]:=by
 unfold aF0;rw[List.getElem_append_right (by simp;omega)];simp[Nat.min_eq_left (Nat.le_of_lt h)]
theorem aKl{ls:List Ln}{k:Nat}(h:k<ls.length):aF0 ls (k+1)=(aF0 ls k).set k (ls[k].owe 0):=by
 unfold aF0;rw[List.take_succ_eq_append_getElem h,List.map_append,List.append_assoc,List.set_append_right _ _ (by simp;omega)];congr 1;rw[show ls.drop k=ls[k]::ls.drop (k+1)from List.drop_eq_getElem_cons h];simp only[List.length_map,List.length_take,Nat.min_eq_left (Nat.le_of_lt h),Nat.sub_self,yE,List.map_cons,List.map_nil,List.singleton_append]
theorem aB6{ls:List Ln}{k j:Nat}(hk:k<ls.length)(hj:j<5):(aAh (aF0 ls k))[k*5+j]? = ls[k].vals[j]? := by
 rw[aAt _ _ _ hj (by rw[aFk];exact hk),aMs hk]
theorem half_set{ls:List Ln}{k:Nat}(hk:k<ls.length):aAh (aF0 ls (k+1))=(aAh (aF0 ls k)).set (k*5+4) (.int .i64 0):=by
 rw[aKl hk];refine aNj _ (by rw[aFk];exact hk) (by decide) ?_;rw[aMs hk];rfl
theorem halfL_got{ls:List Ln}{k:Nat}(h:k<ls.length):(aF0 ls (k+1))[k]'(by rw[aFk];exact h)=ls[k].owe 0:=by
 simp only[aKl h,List.getElem_set_self]
theorem half_got{ls:List Ln}{k j:Nat}(hk:k<ls.length)(hj:j<5):(aAh (aF0 ls (k+1)))[k*5+j]? = (ls[k].owe 0).vals[j]? := by
 rw[aAt _ _ _ hj (by rw[aFk];exact hk),halfL_got hk]
theorem aBb.frozen{w:World}{base:Nat}{e:TypeId}{size:Nat}{g n cap:Nat}{xs:List Value}(h:aBb w base e size (.slice (some ⟨g,0,none⟩) n cap) n xs)(j:Nat):w.frozen? ⟨g,j,none⟩=false:=by
 obtain⟨_,h2⟩:=h;rcases h2 with⟨h2,_⟩|⟨g',cur,hv,hb,hg,hm,hc,ht⟩
 ·cases h2
 cases hv
 have hB:Blk w g cur e:=hg;exact hB.frozen j
def SoundAt(w:World)(b1 b2:Nat)(va vb:Value)(ls ls2:List Ln)(i:Value)(wr:World):Prop:=
 ∃k:Nat,k≤ls.length∧i=.int .i64 k∧aBb wr b1 115 5 va ls.length (aAh (aF0 ls k))∧aBb wr b2 115 5 vb ls.length (aAh (aF0 ls2 k))∧Below w.heap.size w wr
theorem sound_any{w:World}{G M G2 M2:Nat}{ps ps2:List Int}{ls ls2:List Ln}(hL:LedM w G M ps ls)(hI:LInv ps ls)(hC:LedM w G2 M2 ps2 ls2)(hJ:LInv ps2 ls2)(he:limL ls=limL ls2):
  Calls Tryz.prog 73 #[.pointer (some ⟨G,0,none⟩),.pointer (some ⟨G2,0,none⟩)] w (yR w (.bool true)):=by
 have C1:=yH (aDh hL hI);have C2:=yH (fun w' (k:Below w.heap.size w w')=>aDh (hC.below k) hJ);have hlen:ls2.length=ls.length:=by have:=congrArg List.length he;unfold limL at this;simpa using this.symm
 have HG:=yH hI.inv.good
 have HX:Hid (∀k (h:k<ls.length),∃db,ls2[k]'(by omega)=ls[k].owe db):=yH (fun k h=>by
  have h1:(limL ls)[k]? = (limL ls2)[k]? := by rw[he]
  unfold limL at h1;rw[List.getElem?_map,List.getElem?_map,List.getElem?_eq_getElem h,List.getElem?_eq_getElem (by omega)]at h1;simp only[Option.map_some,Option.some.injEq]at h1;refine⟨(ls2[k]'(by omega)).db,?_⟩;have a:=congrArg Ln.cr h1;have b:=congrArg Ln.de h1;have c:=congrArg Ln.cu h1;have d:=congrArg Ln.li h1;simp only[Ln.owe]at a b c d ⊢;rw[a,b,c,d])
 have hl64:=hI.len;clear hL hI hC hJ he;go_enter Tryz.func73,Tryz.ntmps73;go_wp2_with fail;refine C1.out.mono ?_;rintro e w1 ⟨va,rfl,ra,b1⟩;obtain⟨aa,rfl,ha⟩:=aCx ra
 have HA:Hid (0<ls.length→∃g,aa=some ⟨g,0,none⟩∧g<w1.heap.size∧w.heap.size≤g):=yH (fun h=>by
  obtain⟨g,h1,h3,h2,_⟩:=ha h;exact⟨g,h1,h2,h3⟩)
 have RA:=yH ra;have B1:=yH b1;clear ra ha b1 C1;go_wp2_with fail;refine(C2.out w1 B1.out).mono ?_;rintro e w2 ⟨vb,rfl,rb,b2⟩;rw[hlen]at rb;obtain⟨ab,rfl,hb⟩:=aCx rb
 have HB:Hid (0<ls.length→∃g,ab=some ⟨g,0,none⟩∧w1.heap.size≤g):=yH (fun h=>by
  obtain⟨g,h1,h2,_⟩:=hb h;exact⟨g,h1,h2⟩)
 have RA2:=yH (RA.out.below b2);have RB2:=yH rb;have B2:=yT B1 b2;have hw12:=b2.size;have hww1:=B1.out.size;clear rb hb b2 C2 RA B1;go_wp2_with fail
 go_loopw [7] (SoundAt w w.heap.size w1.heap.size (.slice aa ls.length ls.length) (.slice ab ls.length ls.length) ls ls2) (fun i _=>ls.length - (intOf i).toNat)
 case atStart=>exact⟨0,by omega,rfl,by rw[aKk];exact RA2.out,by rw[aKk];exact RB2.out,B2.out⟩
 clear RA2 RB2 B2;obtain⟨k,hk,rfl,hRA,hRB,hB⟩:=hrel;have BB:=yH hB;clear hB
 by_cases hkl:k<ls.length
 ·have hki:(k:Int)<(ls.length:Int):=by omega
  have hk0:(0:Int)≤(k:Int):=by omega
  have q0:decide ((k:Int)<(ls.length:Int))=true:=by simpa using hkl
  obtain⟨ga,rfl,hga,hgaw⟩:=HA.out (by omega);obtain⟨gb,rfl,hgb⟩:=HB.out (by omega);obtain⟨aa',hva,hra⟩:=aCx hRA;obtain⟨ab',hvb,hrb⟩:=aCx hRB;simp only[Value.slice.injEq,and_true]at hva hvb;subst hva;subst hvb;obtain⟨_,e1,_,hal,hac⟩:=hra (by omega)
  cases e1
  obtain⟨_,e1,_,hbl,hbc⟩:=hrb (by omega)
  cases e1
  have hl2:k<ls2.length:=by omega
  have a0:=(hac (k*5+0) (by omega)).trans (aB6 hkl (j:=0) (by omega));have a1:=(hac (k*5+1) (by omega)).trans (aB6 hkl (j:=1) (by omega));have a2:=(hac (k*5+2) (by omega)).trans (aB6 hkl (j:=2) (by omega));have a3:=(hac (k*5+3) (by omega)).trans (aB6 hkl (j:=3) (by omega));have a4:=(hac (k*5+4) (by omega)).trans (aB6 hkl (j:=4) (by omega));have c0:=(hbc (k*5+0) (by omega)).trans (aB6 hl2 (j:=0) (by omega));have c1:=(hbc (k*5+1) (by omega)).trans (aB6 hl2 (j:=1) (by omega));have c2:=(hbc (k*5+2) (by omega)).trans (aB6 hl2 (j:=2) (by omega));have c3:=(hbc (k*5+3) (by omega)).trans (aB6 hl2 (j:=3) (by omega));have c4:=(hbc (k*5+4) (by omega)).trans (aB6 hl2 (j:=4) (by omega));have SA:=yH (half_set hkl);have SB:=yH (half_set hl2);have hg:=HG.out ls[k] (List.getElem_mem _);obtain⟨db2,hx2⟩:=HX.out k hkl;rw[hx2]at c0 c1 c2 c3 c4;have GA:=yH (fun j (hj:j<5)=>half_got hkl hj);have GB:=yH (fun j (hj:j<5)=>half_got hl2 hj);rw[hx2]at GB;obtain⟨x,hx⟩:∃x,ls[k]=x:=⟨_,rfl⟩;rw[hx]at a0 a1 a2 a3 a4 c0 c1 c2 c3 c4 hg GA GB;clear hx hx2 hra hrb hac hbc;obtain⟨cr,de,cu,li,db⟩:=x;have g1:=hg.db.1;have g2:=hg.db.2;dsimp only at g1 g2;simp only[Ln.vals,Ln.owe,List.getElem?_cons_zero,List.getElem?_cons_succ,Nat.add_zero]at a0 a1 a2 a3 a4 c0 c1 c2 c3 c4;have q1:decide (db<0)=false:=by simp;omega
  have q2:decide (li<db)=false:=by simp;omega
  have HK:=yH hkl;have RA:=yH hRA;have RB:=yH hRB;clear hRA hRB hg g1 g2;go_wp2_with fail
  go_quiet (fail)
  have RA1:=yH (show aBb (wr.drewN nq) w.heap.size 115 5 _ ls.length _ from RA.out);have RB1:=yH (show aBb (wr.drewN nq) w1.heap.size 115 5 _ ls.length _ from RB.out);have BB1:=yH (show Below w.heap.size w (wr.drewN nq)from⟨BB.out.os,BB.out.tape,BB.out.output,BB.out.size,BB.out.block⟩)
  replace a4:(wr.drewN nq).cell? ⟨ga,k*5+4,none⟩=_:=a4
  replace c4:(wr.drewN nq).cell? ⟨gb,k*5+4,none⟩=_:=c4
  replace hal:ga<(wr.drewN nq).heap.size:=hal
  replace hbl:gb<(wr.drewN nq).heap.size:=hbl
  clear RA RB BB a0 a1 a2 a3 c0 c1 c2 c3;generalize wr.drewN nq=W1 at *;have fa:=RA1.out.frozen (k*5+4);have fb:=RB1.out.frozen (k*5+4);have hgn:ga≠gb:=by omega
  have RA3:=yH ((RA1.out.set (j:=k*5+4) (by omega) (.int .i64 0)).keep ((Keep.refl (·=gb) _).setCell (p:=⟨gb,k*5+4,none⟩) (.inl rfl) (.int .i64 0)) (fun b hb=>by cases hb;exact hgn));have RB3:=yH ((RB1.out.keep ((Keep.refl (·=ga) W1).setCell (p:=⟨ga,k*5+4,none⟩) (.inl rfl) (.int .i64 0)) (fun b hb=>by cases hb;exact fun e=>hgn e.symm)).set (j:=k*5+4) (by omega) (.int .i64 0));rw[←SA.out]at RA3;rw[←SB.out]at RB3
  go_upto_region 12 with fail
  have BB3:=yH ((BB1.out.setCell (p:=⟨ga,k*5+4,none⟩) hgaw (.int .i64 0)).setCell (p:=⟨gb,k*5+4,none⟩) (by show w.heap.size≤gb;omega) (.int .i64 0));clear RA1 RB1 BB1 a4 c4 fa fb hal hbl;generalize (W1.setCell ⟨ga,k*5+4,none⟩ (.int .i64 0)).setCell ⟨gb,k*5+4,none⟩ (.int .i64 0)=W3 at *;obtain⟨aa',hva,hra⟩:=aCx RA3.out;obtain⟨ab',hvb,hrb⟩:=aCx RB3.out;simp only[Value.slice.injEq,and_true]at hva hvb;subst hva;subst hvb;obtain⟨_,e1,_,hal,hac⟩:=hra (by have:=HK.out;omega)
  cases e1
  obtain⟨_,e1,_,hbl,hbc⟩:=hrb (by have:=HK.out;omega)
  cases e1
  have a0:=(hac (k*5+0) (by omega)).trans (GA.out 0 (by omega));have a1:=(hac (k*5+1) (by omega)).trans (GA.out 1 (by omega));have a2:=(hac (k*5+2) (by omega)).trans (GA.out 2 (by omega));have a3:=(hac (k*5+3) (by omega)).trans (GA.out 3 (by omega));have a4:=(hac (k*5+4) (by omega)).trans (GA.out 4 (by omega));have c0:=(hbc (k*5+0) (by omega)).trans (GB.out 0 (by omega));have c1:=(hbc (k*5+1) (by omega)).trans (GB.out 1 (by omega));have c2:=(hbc (k*5+2) (by omega)).trans (GB.out 2 (by omega));have c3:=(hbc (k*5+3) (by omega)).trans (GB.out 3 (by omega));have c4:=(hbc (k*5+4) (by omega)).trans (GB.out 4 (by omega));simp only[Ln.vals,Ln.owe,List.getElem?_cons_zero,List.getElem?_cons_succ,Nat.add_zero]at a0 a1 a2 a3 a4 c0 c1 c2 c3 c4;clear hra hrb hac hbc GA GB;go_wp2_with fail
  go_quiet (fail)
  have RA4:=yH (show aBb (W3.drewN nq) w.heap.size 115 5 _ ls.length _ from RA3.out);have RB4:=yH (show aBb (W3.drewN nq) w1.heap.size 115 5 _ ls.length _ from RB3.out);have BB4:=yH (show Below w.heap.size w (W3.drewN nq)from⟨BB3.out.os,BB3.out.tape,BB3.out.output,BB3.out.size,BB3.out.block⟩);clear RA3 RB3 BB3 a0 a1 a2 a3 a4 c0 c1 c2 c3 c4 hal hbl;generalize W3.drewN nq=W4 at *;go_wp2_with fail;exact⟨⟨k+1,by have:=HK.out;omega,by go_num,RA4.out,RB4.out,BB4.out⟩,by simp[intOf];have:=HK.out;omega⟩
 have hkn:k=ls.length:=by omega
 subst hkn;have q0:decide (((ls.length:Nat):Int)<(ls.length:Int))=false:=by simp
 clear hRA hRB;go_wp2_with fail;go_ret;exact⟨rfl,BB.out⟩
def aDu(f:Nat→Bool):Array Value:=((List.range 17).map fun i=>Value.bool (f i)).toArray
theorem aLd(f:Nat→Bool){i:Nat}(h:i<17):(aDu f)[i]? = some (.bool (f i)):=by
 unfold aDu;rw[List.getElem?_toArray,List.getElem?_map,List.getElem?_range h];rfl
theorem aMt(f:Nat→Bool){i:Nat}(h:i<17):(aDu f).setIfInBounds i (.bool true)=aDu (fun j=>j==i || f j):=by
 apply Array.ext_getElem?;intro j
 by_cases hj:j<17
 ·rw[aLd _ hj]
  by_cases e:j=i
  ·subst e;rw[Array.getElem?_setIfInBounds_self_of_lt (by unfold aDu;simpa using h)];simp
  rw[Array.getElem?_setIfInBounds_ne (fun q=>e q.symm),aLd _ hj];simp[e]
 rw[Array.getElem?_eq_none (by unfold aDu;simp;omega),Array.getElem?_eq_none (by unfold aDu;simp;omega)]
def sumP(ls:List Ln)(c:Int):Nat→Int
 | 0=>0
 | k+1=>sumP ls c k+posL ls ((k+1:Nat):Int) c
theorem aLe{ls:List Ln}(h:∀x∈ls,x.Good){p:Int}(hp:p<1∨16<p)(c:Int):posL ls p c=0:=by
 unfold posL
 have hz:∀l:List Ln,(∀x∈l,x.Good)→(l.map (aBw p c)).sum=0:=by
  intro l
  induction l with
  | nil=>intro _;rfl
  | cons x l ih=>
   intro hx;have g:=hx x List.mem_cons_self;have g1:=g.cr;have g2:=g.de;rw[List.map_cons,List.sum_cons,ih (fun y hy=>hx y (List.mem_cons_of_mem _ hy))];unfold aBw;split <;> (try split) <;> omega
 exact hz ls h
theorem sumP_all{ls:List Ln}(h:∀x∈ls,x.Good)(c:Int):sumP ls c 16=0:=by
 have h0:=pos_zero h c;have e0:=aLe h (p:=((0:Nat):Int)) (.inl (by decide)) c;have e1:=aLe h (p:=((17:Nat):Int)) (.inr (by decide)) c;have e2:=aLe h (p:=((18:Nat):Int)) (.inr (by decide)) c;have e3:=aLe h (p:=((19:Nat):Int)) (.inr (by decide)) c;simp only[List.range_succ,List.range_zero,List.map_append,List.map_cons,List.map_nil,List.sum_append,List.sum_cons,List.sum_nil,List.nil_append]at h0;simp only[sumP,Nat.zero_add,Nat.reduceAdd];omega
theorem sumP_bd{ps:List Int}{ls:List Ln}(h:LInv ps ls)(c:Int):∀k:Nat,k≤16 → -70368744177664*(k:Int)≤sumP ls c k∧sumP ls c k≤70368744177664*(k:Int)
 | 0,_=>by simp[sumP]
 | k+1,hk=>by
  have h1:=sumP_bd h c k (by omega);have h2:=aIj h ((k+1:Nat):Int) c;simp only[sumP];omega
theorem Blk.bitP{w:World}{g:Nat}{f:Nat→Bool}{t:TypeId}(h:Blk w g (aDu f) t){p:Int}(h0:0≤p)(h1:p<17):w.cell? ⟨g,p.toNat,none⟩=some (.bool (f p.toNat)):=by
 rw[h.cell p.toNat,aLd f (by omega)]
def EvC(W:World)(c:Value)(wr:World):Prop:=∃q:Int,1≤q∧q≤9∧c=.int .u8 q∧Below W.heap.size W wr
def EvP(W:World)(ls:List Ln)(c:Int)(s p:Value)(wr:World):Prop:=∃k:Nat,k≤16∧p=.int .u8 ((k+1:Nat):Int)∧s=.int .i64 (sumP ls c k)∧Below W.heap.size W wr
theorem even_any{w:World}{G M G2 M2:Nat}{gb gb2:Option Addr}{ps ps2:List Int}{ls ls2:List Ln}{f:Nat→Bool}(hL:LedM w G M ps ls)(hI:LInv ps ls)(hC:LedM w G2 M2 ps2 ls2)(hJ:LInv ps2 ls2)(hl:limL ls=limL ls2)
  (hp:∀(k:Nat) (c:Int),k≤16→f k=false→posL ls (k:Int) c=posL ls2 (k:Int) c):
  Calls Tryz.prog 28 #[.agg #[.pointer (some ⟨G,0,none⟩),.pointer gb],.agg #[.pointer (some ⟨G2,0,none⟩),.pointer gb2],.agg (aDu f)] w (yR w (.bool true)):=by
 have hone:(aDu f).all (·.oneCell')=true:=by
  unfold aDu;simp[Value.oneCell']
 have k0:=pAC w #[.pointer (some ⟨G,0,none⟩),.pointer gb] 31 (g:=w.heap.size) (by simp);have k1:=pAC (w.alloc (.cells #[.pointer (some ⟨G,0,none⟩),.pointer gb] 31)) #[.pointer (some ⟨G2,0,none⟩),.pointer gb2] 31 (g:=w.heap.size+1) (by simp);have k2:=pAC ((w.alloc (.cells #[.pointer (some ⟨G,0,none⟩),.pointer gb] 31)).alloc (.cells #[.pointer (some ⟨G2,0,none⟩),.pointer gb2] 31)) (aDu f) 57 (g:=w.heap.size+2) (by simp);have b0:=(Below.refl w.heap.size w).alloc yL (.cells #[.pointer (some ⟨G,0,none⟩),.pointer gb] 31);have b1:=b0.alloc b0.size (.cells #[.pointer (some ⟨G2,0,none⟩),.pointer gb2] 31);have b2:=b1.alloc b1.size (.cells (aDu f) 57);have K0:=yH ((k0.alloc (.cells #[.pointer (some ⟨G2,0,none⟩),.pointer gb2] 31)).alloc (.cells (aDu f) 57));have K1:=yH (k1.alloc (.cells (aDu f) 57));have K2:=yH k2;have L0:=yH (hL.below b2);have D0:=yH (hC.below b2);have II:=yH hI;have JJ:=yH hJ;have LI:=yH hl;have POS:=yH hp;have B0:=yH b2;have ZS:=yH (fun c=>sumP_all hI.inv.good c);clear b0 b1 b2 k0 k1 k2 hL hI hC hJ hl hp;generalize hbits:aDu f=bs at *;have HBS:=yH hbits;clear hbits;go_enter Tryz.func28,Tryz.ntmps28;go_wp2_with fail;generalize hWW:((w.alloc (.cells #[.pointer (some ⟨G,0,none⟩),.pointer gb] 31)).alloc (.cells #[.pointer (some ⟨G2,0,none⟩),.pointer gb2] 31)).alloc (.cells bs 57)=W at *;clear hWW
 go_loopw [7,8,9,10] (fun c _ _ _ wr=>EvC W c wr) (fun c _ _ _ _=>9 - (intOf c).toNat)
 case atStart=>exact⟨1,by omega,by omega,rfl,yZ⟩
 obtain⟨q,q1,q2,rfl,hB⟩:=hrel;have BR:=yH hB;clear hB
 by_cases hq:q≤8
 ·go_wp2_with fail
  go_loopw [8,9,10] (fun s p _ wr=>EvP W ls q s p wr) (fun _ p _ _=>17 - (intOf p).toNat)
  case atStart=>exact⟨0,by omega,rfl,rfl,BR.out⟩
  clear BR;obtain⟨k,hk,rfl,rfl,hB⟩:=hrel;have BR:=yH hB;clear hB;have SB:=yH (sumP_bd II.out q k hk)
  by_cases hk16:k<16
  ·have LR:=yH (L0.out.below BR.out);have CR:=yH (D0.out.below BR.out);have c0:=(K0.out.below BR.out K0.out.lt).cell 0;have l0:=(K0.out.below BR.out K0.out.lt).lt;simp at c0;obtain⟨n,hn⟩:∃n,posL ls ((k+1:Nat):Int) q=n:=⟨_,rfl⟩;have C1:=yH (aIg LR.out II.out ((k+1:Nat):Int) q);rw[hn]at C1;have HN:=yH hn;have hnb:=aIj II.out ((k+1:Nat):Int) q;rw[hn]at hnb;have NB:=yH hnb;have SN:Hid (sumP ls q (k+1)=sumP ls q k+n):=yH (by rw[←hn];rfl);clear hn hnb;generalize sumP ls q k=sk at *;have z1:((k+1:Nat):Int)≤16:=by omega
   have z2:(0:Int)≤((k+1:Nat):Int):=by omega
   have z3:((k+1:Nat):Int)<17:=by omega
   have z4:decide (((k+1:Nat):Int)≤16)=true:=decide_eq_true z1;have HK:=yH hk16;clear hk16;obtain⟨pp,hpp⟩:∃pp,((k+1:Nat):Int)=pp:=⟨_,rfl⟩;rw[hpp]at z1 z2 z3 z4 C1 HN ⊢;have HPP:=yH hpp;clear hpp;go_wp2_with fail;refine C1.out.mono ?_;rintro e w5 ⟨rfl,b5⟩;have B5:=yT BR b5;clear b5 c0 l0 C1 LR;obtain⟨sb1,sb2⟩:=SB.out;obtain⟨nb1,nb2⟩:=NB.out;have k2:=(K2.out.below B5.out K2.out.lt);rw[←HBS.out]at k2;have cb:=k2.bitP (p:=pp) (by omega) (by omega);have lb:=k2.lt;clear k2
   cases hf:f pp.toNat with
   | true=>
    rw[hf]at cb;clear hf;go_wp2_with fail;exact⟨⟨k+1,by have:=HK.out;omega,by rw[←HPP.out];go_num,by rw[SN.out],B5.out⟩,by simp[intOf];have:=HPP.out;have:=HK.out;omega⟩
   | false=>
    rw[hf]at cb;have hps:=POS.out (k+1) q (by have:=HK.out;omega) (by have h1:=HPP.out;rw[←h1]at hf;simpa using hf);rw[HPP.out,HN.out]at hps;have C2:=yH (aIg (D0.out.below B5.out) JJ.out pp q);rw[←hps]at C2;have d0:=(K1.out.below B5.out K1.out.lt).cell 0;have l1:=(K1.out.below B5.out K1.out.lt).lt;simp at d0;have qn:(n != n)=false:=by simp
    clear hf hps;go_wp2_with fail;refine C2.out.mono ?_;rintro e w6 ⟨rfl,b6⟩;have B6:=yT B5 b6;clear b6 cb lb d0 l1 C2;go_wp2_with fail;exact⟨⟨k+1,by have:=HK.out;omega,by rw[←HPP.out];go_num,by rw[SN.out],B6.out⟩,by simp[intOf];have:=HPP.out;have:=HK.out;omega⟩
  have hk2:k=16:=by omega
  subst hk2;have hz:=ZS.out q;rw[hz];clear hz hk16;go_wp2_with fail;exact⟨⟨q+1,by omega,by omega,by go_num,BR.out⟩,by simp[intOf];omega⟩
 have CS:=yH (sound_any (L0.out.below BR.out) II.out (D0.out.below BR.out) JJ.out LI.out);have c0:=(K0.out.below BR.out K0.out.lt).cell 0;have l0:=(K0.out.below BR.out K0.out.lt).lt;have d0:=(K1.out.below BR.out K1.out.lt).cell 0;have l1:=(K1.out.below BR.out K1.out.lt).lt;simp at c0 d0;go_wp2_with fail;refine CS.out.mono ?_;rintro e w6 ⟨rfl,b6⟩;have B6:=yH (B0.out.trans ((BR.out.trans (b6.mono BR.out.size)).mono B0.out.size));clear b6 CS c0 l0 d0 l1;go_wp2_with fail;go_ret;exact⟨rfl,B6.out⟩
def aBq(x y:Of):Bool:=decide (cmpR y.nu y.de x.nu x.de≤0)
def insO(out:List Of)(x:Of):List Of:=out.takeWhile (aBq x)++x::out.dropWhile (aBq x)
def aEs(s b:Int)(out:List Of)(x:Of):List Of:=if x.sl=s∧x.bu=b then insO out x else out
def aGm(l:List Of)(s b:Int):List Of:=l.foldl (aEs s b) []
def ltO(x y:Of):Prop:=x.nu*y.de<y.nu*x.de∨(x.nu*y.de=y.nu*x.de∧x.se<y.se)
def ordO(x y:Of):Int:=orI (cmpR x.nu x.de y.nu y.de) (cmpI x.se y.se)
theorem aIk{an ad bn bd:Int}(h1:mayB an ad=true)(h2:mayB bn bd=true):cmpR an ad bn bd=cmpI (an*bd) (bn*ad):=by unfold cmpR;rw[if_pos ⟨h1,h2⟩]
theorem ordO_lt{x y:Of}(hx:x.may)(hy:y.may):ordO x y<0↔ltO x y:=by
 unfold ordO;rw[aIk hx.2.2.2.2.2 hy.2.2.2.2.2];unfold ltO orI cmpI;generalize x.nu*y.de=p;generalize y.nu*x.de=q
 (repeat' split) <;> omega
theorem sgn3{a1 d1 a2 d2 a3 d3:Int}(h1:1≤d1)(h2:1≤d2)(h3:1≤d3):d2*(a1*d3 - a3*d1)=d3*(a1*d2 - a2*d1)+d1*(a2*d3 - a3*d2):=by
 simp only[Int.mul_sub];have e1:d2*(a1*d3)=d3*(a1*d2):=by rw[←Int.mul_assoc,Int.mul_comm d2 a1,Int.mul_comm d3,Int.mul_assoc]
 have e2:d2*(a3*d1)=d1*(a3*d2):=by rw[←Int.mul_assoc,Int.mul_comm d2 a3,Int.mul_comm d1,Int.mul_assoc]
 have e3:d3*(a2*d1)=d1*(a2*d3):=by rw[←Int.mul_assoc,Int.mul_comm d3 a2,Int.mul_comm d1,Int.mul_assoc]
 omega
theorem aMu{d1 d2 d3 u v t:Int}(h1:1≤d1)(h2:1≤d2)(h3:1≤d3)(h:d2*t=d3*u+d1*v):(u<0→v≤0→t<0)∧(u≤0→v<0→t<0)∧(u=0→v=0→t=0)∧(0<u→0≤v→0<t)∧(0≤u→0<v→0<t):=by
 refine⟨fun a b=>?_,fun a b=>?_,fun a b=>?_,fun a b=>?_,fun a b=>?_⟩
 ·have p:=Int.mul_neg_of_pos_of_neg (show 0<d3 by omega) a;have q:=Int.mul_nonpos_of_nonneg_of_nonpos (show 0≤d1 by omega) b
  by_cases c:0≤t
  ·have:=Int.mul_nonneg (show 0≤d2 by omega) c;omega
  omega
 ·have p:=Int.mul_neg_of_pos_of_neg (show 0<d1 by omega) b;have q:=Int.mul_nonpos_of_nonneg_of_nonpos (show 0≤d3 by omega) a
  by_cases c:0≤t
  ·have:=Int.mul_nonneg (show 0≤d2 by omega) c;omega
  omega
 ·subst a b;rw[Int.mul_zero,Int.mul_zero,Int.add_zero]at h;rcases Int.mul_eq_zero.1 h with e|e <;> omega
 ·have p:=Int.mul_pos (show 0<d3 by omega) a;have q:=Int.mul_nonneg (show 0≤d1 by omega) b
  by_cases c:t≤0
  ·have:=Int.mul_nonpos_of_nonneg_of_nonpos (show 0≤d2 by omega) c;omega
  omega
 have p:=Int.mul_pos (show 0<d1 by omega) b;have q:=Int.mul_nonneg (show 0≤d3 by omega) a
 by_cases c:t≤0
 ·have:=Int.mul_nonpos_of_nonneg_of_nonpos (show 0≤d2 by omega) c;omega
 omega
theorem Of.may.de{x:Of}(h:x.may):1≤x.de:=(aC3 h.2.2.2.2.2).2.1
theorem aMv{x y z:Of}(hx:x.may)(hy:y.may)(hz:z.may)(h1:ltO x y)(h2:ltO y z):ltO x z:=by
 have k:=aMu hx.de hy.de hz.de (sgn3 (a1:=x.nu) (a2:=y.nu) (a3:=z.nu) hx.de hy.de hz.de);unfold ltO at *;generalize x.nu*y.de=a at *;generalize y.nu*x.de=b at *;generalize y.nu*z.de=c at *;generalize z.nu*y.de=d at *;generalize x.nu*z.de=e at *;generalize z.nu*x.de=f at *;obtain⟨k1,k2,k3,k4,k5⟩:=k;rcases h1 with h1|⟨h1,s1⟩
 ·have:=k1 (by omega) (by omega);omega
 rcases h2 with h2|⟨h2,s2⟩
 ·have:=k2 (by omega) (by omega);omega
 have:=k3 (by omega) (by omega);omega
theorem ltO_ntrans{x y z:Of}(hx:x.may)(hy:y.may)(hz:z.may)(h1:¬ltO x y)(h2:¬ltO y z):¬ltO x z:=by
 have k:=aMu hx.de hy.de hz.de (sgn3 (a1:=x.nu) (a2:=y.nu) (a3:=z.nu) hx.de hy.de hz.de);unfold ltO at *;generalize x.nu*y.de=a at *;generalize y.nu*x.de=b at *;generalize y.nu*z.de=c at *;generalize z.nu*y.de=d at *;generalize x.nu*z.de=e at *;generalize z.nu*x.de=f at *;obtain⟨k1,k2,k3,k4,k5⟩:=k
 by_cases u:b<a
 ·have:=k4 (by omega) (by omega);omega
 have ue:a=b:=by omega
 by_cases v:d<c
 ·have:=k5 (by omega) (by omega);omega
 have:=k3 (by omega) (by omega);omega
theorem ltO_irrefl(x:Of):¬ltO x x:=by unfold ltO;omega
theorem ltO_total{x y:Of}(h:x.se≠y.se)(h1:¬ltO x y):ltO y x:=by
 unfold ltO at *;generalize x.nu*y.de=a at *;generalize y.nu*x.de=b at *;omega
theorem ltO_asymm{x y:Of}(h1:ltO x y)(h2:ltO y x):False:=by
 unfold ltO at *;generalize x.nu*y.de=a at *;generalize y.nu*x.de=b at *;omega
theorem noWorse_lt{x y:Of}(hx:x.may)(hy:y.may)(hs:y.se<x.se)(h:aBq x y=true):ltO y x:=by
 unfold aBq at h;rw[aIk hy.2.2.2.2.2 hx.2.2.2.2.2]at h;unfold ltO;generalize x.nu*y.de=a at *;generalize y.nu*x.de=b at *;unfold cmpI at h;split at h
 ·omega
 split at h
 ·simp at h
 omega
theorem worse_lt{x y:Of}(hx:x.may)(hy:y.may)(h:aBq x y=false):ltO x y:=by
 unfold aBq at h;rw[aIk hy.2.2.2.2.2 hx.2.2.2.2.2]at h;unfold ltO;generalize x.nu*y.de=a at *;generalize y.nu*x.de=b at *;unfold cmpI at h;split at h
 ·simp at h
 split at h
 ·omega
 simp at h
theorem insO_perm(out:List Of)(x:Of):(insO out x).Perm (out++[x]):=by
 unfold insO;have h1:(out.takeWhile (aBq x)++x::out.dropWhile (aBq x)).Perm (x::(out.takeWhile (aBq x)++out.dropWhile (aBq x))):=List.perm_middle;rw[List.takeWhile_append_dropWhile]at h1;exact h1.trans (List.perm_append_singleton x out).symm
theorem aEt{p:Of→Bool}:∀{l:List Of} {y:Of},y∈l.takeWhile p→p y=true
 | x::r,y,h=>by
  rw[List.takeWhile_cons]at h;split at h
  ·rcases List.mem_cons.1 h with rfl|h
   ·assumption
   exact aEt h
  simp at h
theorem aOm{out:List Of}{x:Of}(hm:∀y∈out,y.may)(hx:x.may)(hs:∀y∈out,y.se<x.se)(ho:out.Pairwise ltO):(insO out x).Pairwise ltO:=by
 unfold insO;have hsplit:out.takeWhile (aBq x)++out.dropWhile (aBq x)=out:=List.takeWhile_append_dropWhile;have h1:∀y∈out.takeWhile (aBq x),y∈out∧aBq x y=true:=fun y hy=>⟨by rw[←hsplit];exact List.mem_append_left _ hy,aEt hy⟩
 have h2:∀y∈out.dropWhile (aBq x),y∈out:=fun y hy=>by rw[←hsplit];exact List.mem_append_right _ hy
 rw[←hsplit,List.pairwise_append]at ho;obtain⟨o1,o2,o3⟩:=ho
 have h3:∀y∈out.dropWhile (aBq x),ltO x y:=by
  cases hd:out.dropWhile (aBq x)with
  | nil=>simp
  | cons z r=>
   rw[hd]at o2 h2
   have hz:aBq x z=false:=by
    have:=List.head_dropWhile_not (aBq x) (l:=out) (by rw[hd];simp);simpa [hd]using this
   have hz2:=worse_lt hx (hm z (h2 z (by simp))) hz;intro y hy;rcases List.mem_cons.1 hy with rfl|hy
   ·exact hz2
   exact aMv hx (hm z (h2 z (by simp))) (hm y (h2 y (by simp[hy]))) hz2 ((List.pairwise_cons.1 o2).1 y hy)
 rw[List.pairwise_append];refine⟨o1,List.pairwise_cons.2 ⟨h3,o2⟩,fun y hy z hz=>?_⟩;obtain⟨hyo,hyn⟩:=h1 y hy;have hyx:=noWorse_lt hx (hm y hyo) (hs y hyo) hyn;rcases List.mem_cons.1 hz with rfl|hz
 ·exact hyx
 exact o3 y hy z hz
def aAx(s b:Int)(x:Of):Bool:=decide (x.sl=s∧x.bu=b)
theorem aHj{s b:Int}:∀(l out:List Of),(∀x∈l,x.may)→(∀x∈out,x.may)→l.Pairwise (fun x y=>x.se<y.se)→(∀y∈out,∀x∈l,y.se<x.se)→out.Pairwise ltO→
  (l.foldl (aEs s b) out).Perm (out++l.filter (aAx s b))∧(l.foldl (aEs s b) out).Pairwise ltO
 | [],out,_,_,_,_,ho=>by simpa using ho
 | x::r,out,h1,h2,h3,h4,ho=>by
  obtain⟨h3a,h3b⟩:=List.pairwise_cons.1 h3;rw[List.foldl_cons]
  by_cases hp:x.sl=s∧x.bu=b
  ·have e:aEs s b out x=insO out x:=by unfold aEs;rw[if_pos hp]
   have hi:=insO_perm out x
   have hmem:∀y∈insO out x,y∈out∨y=x:=fun y hy=>by
    have:=hi.mem_iff.1 hy;simpa using this
   rw[e]
   obtain⟨p,q⟩:=aHj r (insO out x) (fun y hy=>h1 y (by simp[hy])) (fun y hy=>by rcases hmem y hy with h|rfl;exact h2 y h;exact h1 y (by simp)) h3b
    (fun y hy z hz=>by rcases hmem y hy with h|rfl;exact h4 y h z (by simp[hz]);exact h3a z hz) (aOm h2 (h1 x (by simp)) (fun y hy=>h4 y hy x (by simp)) ho)
   refine⟨p.trans ?_,q⟩;rw[List.filter_cons,if_pos (by unfold aAx;simpa using hp)];exact(hi.append_right _).trans (by simp)
  have e:aEs s b out x=out:=by unfold aEs;rw[if_neg hp]
  rw[e];obtain⟨p,q⟩:=aHj r out (fun y hy=>h1 y (by simp[hy])) h2 h3b (fun y hy z hz=>h4 y hy z (by simp[hz])) ho;refine⟨?_,q⟩;rw[List.filter_cons,if_neg (by unfold aAx;simpa using hp)];exact p
theorem bestO_is{l:List Of}(h1:∀x∈l,x.may)(h3:l.Pairwise (fun x y=>x.se<y.se))(s b:Int):(aGm l s b).Perm (l.filter (aAx s b))∧(aGm l s b).Pairwise ltO:=by
 have:=aHj (s:=s) (b:=b) l [] h1 (by simp) h3 (by simp) List.Pairwise.nil;simpa [aGm]using this
noncomputable def routeS(f:Int→Int→Int)(a b n:Int):RS:=@Classical.epsilon RS ⟨⟨f,n,[]⟩⟩ (fun μ=>aAc f 4398046511104 a b n μ)
theorem aB7{f:Int→Int→Int}(h:GInv f 4398046511104)(a b n:Int):aAc f 4398046511104 a b n (routeS f a b n):=
 @Classical.epsilon_spec RS (fun μ=>aAc f 4398046511104 a b n μ) (aCw h a b n)
noncomputable def aDz(ps:List Int)(ls:List Ln)(c a b:Int):Int:=aBg - (routeS (aBr ps ls c) a b aBg).left
theorem goesS{ps:List Int}{ls:List Ln}(h:LInv ps ls)(o:Of)(tk pt:Int):Goes ps ls o tk pt (aDz ps ls o.sl o.ow pt) (aDz ps ls o.bu tk o.ow):=
 ⟨⟨_,aB7 (aAr h _) _ _ _,rfl⟩,_,aB7 (aAr h _) _ _ _,rfl⟩
theorem Goes.eqS{ps:List Int}{ls:List Ln}{o:Of}{tk pt m1 m2:Int}(h:LInv ps ls)(g:Goes ps ls o tk pt m1 m2):m1=aDz ps ls o.sl o.ow pt∧m2=aDz ps ls o.bu tk o.ow:=by
 obtain⟨⟨μ,h1,rfl⟩,ν,h2,rfl⟩:=g;unfold aDz;rw[h1.eq (aB7 (aAr h _) _ _ _),h2.eq (aB7 (aAr h _) _ _ _)];exact⟨rfl,rfl⟩
theorem mostS_bd{ps:List Int}{ls:List Ln}(h:LInv ps ls)(c a b:Int):0≤aDz ps ls c a b∧aDz ps ls c a b≤1125899906842624:=
 aGl (aAr h c) (aB7 (aAr h c) a b aBg)
noncomputable def mayS(ps:List Int)(ls:List Ln)(l:List Of)(tk pt want most s:Int):Int:=match aA4 l s with
 | none=>0
 | some o=>mayO o ps tk pt want most (aDz ps ls o.sl o.ow pt) (aDz ps ls o.bu tk o.ow)
theorem aLf{ps:List Int}{ls:List Ln}(h:LInv ps ls){l:List Of}{tk pt want most s m1 m2:Int}(g:∀o,aA4 l s=some o→Goes ps ls o tk pt m1 m2):mayV l ps s tk pt want most m1 m2=mayS ps ls l tk pt want most s:=by
 unfold mayV mayS
 cases hf:aA4 l s with
 | none=>rfl
 | some o=>
  obtain⟨e1,e2⟩:=(g o hf).eqS h;simp only[];rw[e1,e2]
noncomputable def aHk(ps:List Int)(ls:List Ln)(a b c n:Int):List Ln:=payL ps ls a b c n (routeS (aBr ps ls c) a b n)
noncomputable def aB9(ps:List Int)(ls:List Ln)(o:Of)(tk pt n x:Int):List Ln:=aHk ps (if pt=o.ow then ls else aHk ps ls o.ow pt o.sl n) tk o.ow o.bu x
theorem aFl{ps:List Int}{ls:List Ln}(h:LInv ps ls)(a b c n:Int):LInv ps (aHk ps ls a b c n):=aIh h _ _ _ _ _
theorem aHl{ps:List Int}{ls:List Ln}(h:LInv ps ls)(o:Of)(tk pt n x:Int):aHz ps ls o tk pt n x (aB9 ps ls o tk pt n x):=by
 unfold aB9
 by_cases e:pt=o.ow
 ·rw[if_pos e];exact⟨ls,_,.inl ⟨e,rfl⟩,aB7 (aAr h _) _ _ _,rfl⟩
 rw[if_neg e];exact⟨_,_,.inr ⟨e,_,aB7 (aAr h _) _ _ _,rfl⟩,aB7 (aAr (aFl h _ _ _ _) _) _ _ _,rfl⟩
theorem aOn{ps:List Int}{ls:List Ln}(h:LInv ps ls)(o:Of)(tk pt n x:Int):LInv ps (aB9 ps ls o tk pt n x):=(aHl h o tk pt n x).inv h
def okS(ps:List Int)(ls:List Ln)(l:List Of)(tk pt n s:Int):Prop:=1≤n∧n≤mayS ps ls l tk pt n 1099511627776 s
theorem aLg{ps:List Int}{ls:List Ln}(h:LInv ps ls){l:List Of}{tk pt n s m1 m2:Int}(g:∀o,aA4 l s=some o→Goes ps ls o tk pt m1 m2):doOk l ps s tk pt n m1 m2↔okS ps ls l tk pt n s:=by
 unfold doOk okS;rw[aLf h g]
theorem may_okS{ps:List Int}{ls:List Ln}(h:LInv ps ls){l:List Of}{tk pt want most s k:Int}(hk:k=mayS ps ls l tk pt want most s)(h1:1≤k):okS ps ls l tk pt k s∧k≤want:=by
 obtain⟨m1,m2,g,b1,b2⟩:=aJl h l s tk pt;have e:mayV l ps s tk pt want most m1 m2=k:=by rw[aLf h g,hk]
 obtain⟨a,b,_⟩:=may_do b1 b2 e h1;exact⟨(aLg h g).1 a,b⟩
noncomputable def aA6(ps:List Int)(ls:List Ln)(l:List Of)(tk pt want most:Int):List Of→Option (Int×Int)
 | []=>none
 | o::os=>if 0<mayS ps ls l tk pt want most o.se then some (o.se,mayS ps ls l tk pt want most o.se)else aA6 ps ls l tk pt want most os
theorem aJm{ps:List Int}{ls:List Ln}{l:List Of}{tk pt want most:Int}:∀{os:List Of} {s k:Int},aA6 ps ls l tk pt want most os=some (s,k)→0<k∧k=mayS ps ls l tk pt want most s∧∃o∈os,o.se=s
 | [],s,k,h=>by simp[aA6]at h
 | o::os,s,k,h=>by
  unfold aA6 at h;split at h
  ·rename_i hp;simp only[Option.some.injEq,Prod.mk.injEq]at h;obtain⟨rfl,rfl⟩:=h;exact⟨hp,rfl,o,List.mem_cons_self,rfl⟩
  obtain⟨h1,h2,o',h3,h4⟩:=aJm h;exact⟨h1,h2,o',List.mem_cons_of_mem _ h3,h4⟩
structure Fl where
 se:Int
 got:Int
 gi:Int
structure SwS where
 ls:List Ln
 l:List Of
 fs:List Fl
 n:Int
def swMay(fr pt get give n most:Int):Prop:=(1≤fr∧fr≤16)∧(1≤pt∧pt≤16)∧(1≤get∧get≤8)∧(1≤give∧give≤8)∧get≠give∧(1≤n∧n≤1099511627776)∧1≤most∧most≤1099511627776
instance(fr pt get give n most:Int):Decidable (swMay fr pt get give n most):=by unfold swMay;infer_instance
theorem aLh{l:List Of}{N:Int}(h:BInv l N){s b:Int}{o:Of}(ho:o∈aGm l s b):o∈l∧o.sl=s∧o.bu=b:=by
 have h1:=((bestO_is h.may h.rise s b).1.mem_iff).1 ho;rw[List.mem_filter]at h1;obtain⟨h2,h3⟩:=h1;simp[aAx]at h3;exact⟨h2,h3.1,h3.2⟩
theorem aOo{l:List Of}{N:Int}(h:BInv l N){o:Of}(ho:o∈l):aA4 l o.se=some o:=by
 cases hf:aA4 l o.se with
 | none=>
  unfold aA4 at hf;rw[List.find?_eq_none]at hf;exact absurd (by simp) (hf o ho)
 | some o'=>
  obtain⟨h1,h2⟩:=aCq hf
  have key:∀{m:List Of},m.Pairwise (fun x y=>x.se<y.se)→o∈m→o'∈m→o=o':=by
   intro m hm
   induction m with
   | nil=>intro a;cases a
   | cons z m ih=>
    intro a b;have hz:=(List.pairwise_cons.1 hm).1;rcases List.mem_cons.1 a with ea|a
    ·rcases List.mem_cons.1 b with eb|b
     ·rw[ea,eb]
     have:=hz _ b;rw[←ea]at this;omega
    rcases List.mem_cons.1 b with eb|b
    ·have:=hz _ a;rw[←eb]at this;omega
    exact ih (List.pairwise_cons.1 hm).2 a b
  rw[key h.rise ho h1]
def likeO(a b:Of):Prop:=a.ow=b.ow∧a.sl=b.sl∧a.bu=b.bu∧a.nu=b.nu∧a.de=b.de
theorem take_like{l:List Of}{N:Int}(h:BInv l N){s n:Int}{o:Of}(hf:aA4 l s=some o)(h1:1≤n)(h2:n≤o.lf){t:Int}{x:Of}(hx:aA4 (aC4 l s n) t=some x):∃y,aA4 l t=some y∧likeO y x:=by
 obtain⟨hm,hs⟩:=aCq hx;rw[take_facts h hf h1 h2]at hm;obtain⟨_,y,hy,hor⟩:=aK9 hm;rcases hor with rfl|⟨_,rfl⟩
 ·exact⟨x,by rw[←hs];exact aOo h hy,rfl,rfl,rfl,rfl,rfl⟩
 exact⟨y,by rw[←hs];exact aOo h hy,rfl,rfl,rfl,rfl,rfl⟩
def flBy(l0:List Of)(tk pt:Int)(f:Fl)(p c:Int):Int:=match aA4 l0 f.se with
 | none=>0
 | some o=>aJk o tk pt f.got f.gi p c
theorem flBy_none{l0:List Of}{tk pt:Int}{f:Fl}{p c:Int}{o:Of}(hf:aA4 l0 f.se=some o)(h1:p≠tk)(h2:p≠pt)(h3:p≠o.ow):flBy l0 tk pt f p c=0:=by
 unfold flBy;simp only[hf];unfold aJk;rw[if_neg (fun e=>h3 e.2),if_neg (fun e=>h2 e.2),if_neg (fun e=>h1 e.2),if_neg (fun e=>h3 e.2)];rfl
theorem flBy_taker{l0:List Of}{tk pt:Int}{f:Fl}{get give:Int}{o:Of}(hf:aA4 l0 f.se=some o)(h1:o.sl=get)(h2:o.bu=give)(h3:o.ow≠tk)(hg:get≠give):flBy l0 tk pt f tk give = -f.gi:=by
 unfold flBy;simp only[hf];unfold aJk;rw[if_neg (fun e=>hg (h1.symm.trans e.1.symm)),if_neg (fun e=>hg (h1.symm.trans e.1.symm)),if_pos ⟨h2.symm,rfl⟩,if_neg (fun e=>h3 e.2.symm)];omega
theorem sum_zero{α:Type}{g:α→Int}:∀(l:List α),(∀x∈l,g x=0)→(l.map g).sum=0
 | [],_=>rfl
 | x::l,h=>by
  rw[List.map_cons,List.sum_cons,h x List.mem_cons_self,sum_zero l (fun y hy=>h y (List.mem_cons_of_mem _ hy))];rfl
theorem sum_neg{α:Type}{g k:α→Int}:∀(l:List α),(∀x∈l,g x = -k x)→(l.map g).sum = -(l.map k).sum
 | [],_=>rfl
 | x::l,h=>by
  rw[List.map_cons,List.sum_cons,List.map_cons,List.sum_cons,h x List.mem_cons_self,sum_neg l (fun y hy=>h y (List.mem_cons_of_mem _ hy))];omega
end Go.Proofs.YtaeocliklpcgmaaGreat
