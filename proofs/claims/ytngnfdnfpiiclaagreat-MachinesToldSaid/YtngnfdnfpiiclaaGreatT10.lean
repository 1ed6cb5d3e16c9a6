/- Pieces of one proof. -/
import Derived.Test.YtngnfdnfpiiclaaGreatT09
set_option linter.all false
set_option maxHeartbeats 64000000
set_option maxRecDepth 100000
namespace Go.Proofs.YtngnfdnfpiiclaaGreat
open Go.RowKit
def cmpD(x y:Int):Int:=if x<y then -1 else if y<x then 1 else 0
def orD(p q:Int):Int:=if p=0 then q else p
def ordF(a b:Fw):Int:=orD (cmpD a.fr b.fr) (cmpD a.tt b.tt)
theorem aPk{a b:Fw}(h1:0≤a.tt∧a.tt≤255)(h2:0≤b.tt∧b.tt≤255):ordF a b=cmpD (keyD a) (keyD b):=by
 unfold ordF orD cmpD keyD
 repeat' split
 all_goals omega
def inPB(x:Int):Bool:=decide (1≤x) && decide (x≤16)
theorem aOj(x:Int)(w:World):
  Calls Tryz.prog 308 #[.int .u8 x] w (yV w (.bool (inPB x))):=by
 unfold inPB
 by_cases h1:1≤x
 ·have q1:decide (1≤x)=true:=zN
  by_cases h2:x≤16
  ·have q2:decide (x≤16)=true:=zF
   rw[q1,q2];go_enter Tryz.func308,Tryz.ntmps308;go_wp2_with fail;go_ret;exact⟨rfl,rfl⟩
  have q2:decide (x≤16)=false:=zF
  rw[q1,q2];go_enter Tryz.func308,Tryz.ntmps308;go_wp2_with fail;go_ret;exact⟨rfl,rfl⟩
 have q1:decide (1≤x)=false:=zN
 rw[q1];go_enter Tryz.func308,Tryz.ntmps308;go_wp2_with fail;go_ret;exact⟨rfl,rfl⟩
theorem isnan_q(x:Int)(w:World):
  Calls Tryz.prog 189 #[.int .u8 x] w (yV w (.bool false)):=by
 go_enter Tryz.func189,Tryz.ntmps189;go_wp2;go_ret;exact⟨rfl,rfl⟩
theorem aJk(x y:Int)(w:World):
  Calls Tryz.prog 144 #[.int .u8 x,.int .u8 y] w (yV w (.int .i64 (cmpD x y))):=by
 have c1:=yH (fun w=>isnan_q x w);have c2:=yH (fun w=>isnan_q y w);rcases Int.lt_trichotomy x y with h|h|h
 ·rw[show cmpD x y = -1 by unfold cmpD;rw[if_pos h]];go_enter Tryz.func144,Tryz.ntmps144;go_wp2_with fail;refine(c1.out _).mono ?_;rintro e w1 ⟨rfl,rfl⟩;go_wp2_with fail;refine(c2.out _).mono ?_;rintro e w1 ⟨rfl,rfl⟩;go_wp2_with fail;go_ret;exact⟨rfl,rfl⟩
 ·rw[show cmpD x y=0 by unfold cmpD;rw[if_neg zQ,if_neg zQ]];subst h;go_enter Tryz.func144,Tryz.ntmps144;go_wp2_with fail;refine(c1.out _).mono ?_;rintro e w1 ⟨rfl,rfl⟩;go_wp2_with fail;refine(c2.out _).mono ?_;rintro e w1 ⟨rfl,rfl⟩;go_wp2_with fail;go_ret;exact⟨rfl,rfl⟩
 rw[show cmpD x y=1 by unfold cmpD;rw[if_neg zQ,if_pos h]];go_enter Tryz.func144,Tryz.ntmps144;go_wp2_with fail;refine(c1.out _).mono ?_;rintro e w1 ⟨rfl,rfl⟩;go_wp2_with fail;refine(c2.out _).mono ?_;rintro e w1 ⟨rfl,rfl⟩;go_wp2_with fail;go_ret;exact⟨rfl,rfl⟩
theorem or_pair(b cap:Nat)(p q:Int)(w:World)(hlt:b<w.heap.size)(h0:w.cell? ⟨b,0,none⟩=some (.int .i64 p))(h1:w.cell? ⟨b,1,none⟩=some (.int .i64 q)):
  Calls Tryz.prog 142 #[.slice (some ⟨b,0,none⟩) 2 cap] w (yV w (.int .i64 (orD p q))):=by
 unfold orD
 by_cases hp:p=0
 ·rw[if_pos hp];subst hp
  by_cases hq:q=0
  ·subst hq;go_enter Tryz.func142,Tryz.ntmps142;go_wp2;refine wp_loop_rounds 3 ?_;rw[rounds_succ];go_wp2;rw[rounds_succ];go_wp2;rw[rounds_succ];go_wp2;go_ret;exact⟨rfl,rfl⟩
  have hb:(q==0)=false:=by simp[hq]
  go_enter Tryz.func142,Tryz.ntmps142;go_wp2;refine wp_loop_rounds 2 ?_;rw[rounds_succ];go_wp2;rw[rounds_succ];go_wp2;go_ret;exact⟨rfl,rfl⟩
 rw[if_neg hp];have hb:(p==0)=false:=by simp[hp]
 go_enter Tryz.func142,Tryz.ntmps142;go_wp2;refine wp_loop_rounds 1 ?_;rw[rounds_succ];go_wp2;go_ret;exact⟨rfl,rfl⟩
def aJl(W:World)(o:Obj)(D:Nat→Bool)(w:World):Prop:=∃q,w=if D 10 then(W.drewN q).alloc o else W.drewN q
theorem aJl.step{W w:World}{o:Obj}{D:Nat→Bool}{k:Nat}(h:aJl W o D w)(hk:k≠10):aJl W o (ins k D) w:=by
 obtain⟨q,hq⟩:=h;refine⟨q,?_⟩;rw[aC3 D (Ne.symm hk)];exact hq
theorem aJl.below{W w:World}{o:Obj}{D:Nat→Bool}(h:aJl W o D w):Below W.heap.size W w:=by
 obtain⟨q,hq⟩:=h;subst hq;split
 ·exact(⟨rfl,rfl,rfl,Nat.le_refl _,fun _ _=>rfl⟩:Below W.heap.size W (W.drewN q)).alloc yL _
 exact⟨rfl,rfl,rfl,Nat.le_refl _,fun _ _=>rfl⟩
theorem aOk(a b:Fw)(w:World):
  Calls Tryz.prog 282 #[.agg #[.int .u8 a.fr,.int .u8 a.tt,.int .i64 a.am],.agg #[.int .u8 b.fr,.int .u8 b.tt,.int .i64 b.am]] w (yR w (.int .i64 (ordF a b))):=by
 unfold ordF;have c1:=yH (fun w=>aJk a.fr b.fr w);have c2:=yH (fun w=>aJk a.tt b.tt w);generalize cmpD a.fr b.fr=p at *;generalize cmpD a.tt b.tt=q at *;go_enter Tryz.func282,Tryz.ntmps282;go_wp2_with fail;have hW:((w.alloc (.cells #[.int .u8 a.fr,.int .u8 a.tt,.int .i64 a.am] 209)).alloc (.cells #[.int .u8 b.fr,.int .u8 b.tt,.int .i64 b.am] 209)).heap.size=w.heap.size+2:=zV
 have KX:=yH ((Blk.new w #[.int .u8 a.fr,.int .u8 a.tt,.int .i64 a.am] 209).alloc (.cells #[.int .u8 b.fr,.int .u8 b.tt,.int .i64 b.am] 209));have KY:=yH (pAB (w.alloc (.cells #[.int .u8 a.fr,.int .u8 a.tt,.int .i64 a.am] 209)) #[.int .u8 b.fr,.int .u8 b.tt,.int .i64 b.am] 209 (g:=w.heap.size+1) zV);have HB:=yH (((Below.refl w.heap.size w).alloc yL (.cells #[.int .u8 a.fr,.int .u8 a.tt,.int .i64 a.am] 209)).alloc zV (.cells #[.int .u8 b.fr,.int .u8 b.tt,.int .i64 b.am] 209));have HW:=yH hW;generalize ((w.alloc (.cells #[.int .u8 a.fr,.int .u8 a.tt,.int .i64 a.am] 209)).alloc (.cells #[.int .u8 b.fr,.int .u8 b.tt,.int .i64 b.am] 209))=W at KX KY HW HB ⊢;clear hW
 -- REGION
 refine aBv zW [(.pointer (some ⟨w.heap.size,0,none⟩)),(.int .u8 a.fr),(.pointer (some ⟨w.heap.size+1,0,none⟩)),(.int .u8 b.fr),(.int .i64 p),(.pointer (some ⟨w.heap.size,1,none⟩)),(.int .u8 a.tt),(.pointer (some ⟨w.heap.size+1,1,none⟩)),(.int .u8 b.tt),(.int .i64 q),(.slice (some ⟨w.heap.size+2,0,none⟩) 2 2),(.int .i64 (orD p q)),(.int .i64 (orD p q))]
  (aJl W (.cells #[.int .i64 p,.int .i64 q] 3)) zW ⟨1,rfl⟩ ?_
 intro af haf;simp only[puts,Act.put,yA,yC,yF,yD,yE]at haf;subst haf;refine⟨?_,?_⟩
 ·simp only[aD9];refine⟨?_,?_,?_,?_,?_,?_,?_,?_,?_,?_,?_,?_,?_,trivial⟩
  ·intro D w' hD hWt hC hI;have HI:=yH (hI.step (k:=0) zX);clear hI hC hWt hD;refine yO rfl ?_;go_wp2_with fail;all_goals first|exact HI|exact⟨rfl,HI⟩|rfl
  ·intro D w' hD hWt hC hI;have hS:=hI.below;have HI:=yH (hI.step (k:=1) zX);have kk:=KX.o.below hS KX.o.lt;have d0:=kk.cell 0;have d1:=kk.cell 1;have d2:=kk.cell 2;simp at d0 d1 d2;clear kk;clear hS hI hC hWt hD;refine yO rfl ?_;go_wp2_with fail;all_goals first|exact HI|exact⟨rfl,HI⟩|rfl
  ·intro D w' hD hWt hC hI;have HI:=yH (hI.step (k:=2) zX);clear hI hC hWt hD;refine yO rfl ?_;go_wp2_with fail;all_goals first|exact HI|exact⟨rfl,HI⟩|rfl
  ·intro D w' hD hWt hC hI;have hS:=hI.below;have HI:=yH (hI.step (k:=3) zX);have kk:=KY.o.below hS KY.o.lt;have d0:=kk.cell 0;have d1:=kk.cell 1;have d2:=kk.cell 2;simp at d0 d1 d2;clear kk;clear hS hI hC hWt hD;refine yO rfl ?_;go_wp2_with fail;all_goals first|exact HI|exact⟨rfl,HI⟩|rfl
  ·intro D w' hD hWt hC hI;have HI:=yH (hI.step (k:=4) zX);clear hI hC hWt hD;refine yO rfl ?_;go_wp2_with fail;refine(c1.out w').mono ?_;rintro e w'' ⟨rfl,rfl⟩;exact⟨rfl,HI.o⟩
  ·intro D w' hD hWt hC hI;have HI:=yH (hI.step (k:=5) zX);clear hI hC hWt hD;refine yO rfl ?_;go_wp2_with fail;all_goals first|exact HI|exact⟨rfl,HI⟩|rfl
  ·intro D w' hD hWt hC hI;have hS:=hI.below;have HI:=yH (hI.step (k:=6) zX);have kk:=KX.o.below hS KX.o.lt;have d0:=kk.cell 0;have d1:=kk.cell 1;have d2:=kk.cell 2;simp at d0 d1 d2;clear kk;clear hS hI hC hWt hD;refine yO rfl ?_;go_wp2_with fail;all_goals first|exact HI|exact⟨rfl,HI⟩|rfl
  ·intro D w' hD hWt hC hI;have HI:=yH (hI.step (k:=7) zX);clear hI hC hWt hD;refine yO rfl ?_;go_wp2_with fail;all_goals first|exact HI|exact⟨rfl,HI⟩|rfl
  ·intro D w' hD hWt hC hI;have hS:=hI.below;have HI:=yH (hI.step (k:=8) zX);have kk:=KY.o.below hS KY.o.lt;have d0:=kk.cell 0;have d1:=kk.cell 1;have d2:=kk.cell 2;simp at d0 d1 d2;clear kk;clear hS hI hC hWt hD;refine yO rfl ?_;go_wp2_with fail;all_goals first|exact HI|exact⟨rfl,HI⟩|rfl
  ·intro D w' hD hWt hC hI;have HI:=yH (hI.step (k:=9) zX);clear hI hC hWt hD;refine yO rfl ?_;go_wp2_with fail;refine(c2.out w').mono ?_;rintro e w'' ⟨rfl,rfl⟩;exact⟨rfl,HI.o⟩
  ·intro D w' hD hWt hC hI;obtain⟨t,ht⟩:=hI;rw[hD]at ht;have hz:w'.heap.size=w.heap.size+2:=by rw[ht,←HW.o];rfl
   have HI:=yH (show aJl W (.cells #[.int .i64 p,.int .i64 q] 3) (ins 10 D) (w'.alloc (.cells #[.int .i64 p,.int .i64 q] 3))from⟨t,by rw[aHg,if_pos rfl,ht];rfl⟩);clear ht hC hWt hD;refine yO rfl ?_;go_wp2_with fail;all_goals first|exact HI|exact⟨rfl,HI⟩|exact⟨by rw[hz],HI.o⟩
  ·intro D w' hD hWt hC hI;have h15:D 10=true:=aA1 hC hWt (d:=12) zW;obtain⟨t,ht⟩:=hI;have KB:Blk w' (w.heap.size+2) #[.int .i64 p,.int .i64 q] 3:=xB
   have HI:=yH (aJl.step (k:=11) (show aJl W (.cells #[.int .i64 p,.int .i64 q] 3) D w' from⟨t,ht⟩) zX);have HO:=yH (or_pair (w.heap.size+2) 2 p q w' KB.lt (KB.cell 0) (KB.cell 1));clear ht KB hC hWt hD h15;refine yO rfl ?_;go_wp2_with fail;refine HO.o.mono ?_;rintro e w'' ⟨rfl,rfl⟩;exact⟨rfl,HI.o⟩
  intro D w' hD hWt hC hI;have HI:=yH (hI.step (k:=12) zX);clear hI hC hWt hD;refine yO rfl ?_;go_wp2_with fail;all_goals first|exact HI|exact⟨rfl,HI⟩|rfl
 -- END
 intro D w2 hall hI;have HE:=yH (HB.o.trans (hI.below.mono (uF HW.o)));clear hI hall;go_wp2_with fail;go_ret;exact⟨rfl,HE.o⟩
theorem aLj(x:Int):inPB x=true↔inP x:=by unfold inPB inP;simp
theorem aTl(x:Fw)(w:World):
  Calls Tryz.prog 281 #[.agg #[.int .u8 x.fr,.int .u8 x.tt,.int .i64 x.am]] w (yR w (.bool (decide (okD x)))):=by
 have CF:=yH (fun w=>aOj x.fr w);have CT:=yH (fun w=>aOj x.tt w);have NF:¬inPB x.fr=true→¬okD x:=fun h o=>h ((aLj _).2 o.1)
 have NT:¬inPB x.tt=true→¬okD x:=fun h o=>h ((aLj _).2 o.2.1)
 have YY:inPB x.fr=true→inPB x.tt=true→x.fr≠x.tt→1≤x.am→x.am≤1099511627776→okD x:=fun a b c d e=>⟨(aLj _).1 a,(aLj _).1 b,c,d,e⟩
 have ND:x.fr=x.tt→¬okD x:=fun h o=>o.2.2.1 h
 have NA:¬1≤x.am→¬okD x:=fun h o=>h o.2.2.2.1
 have NB:¬x.am≤1099511627776→¬okD x:=fun h o=>h o.2.2.2.2
 have BX:=yH ((Below.refl w.heap.size w).alloc yL (.cells #[.int .u8 x.fr,.int .u8 x.tt,.int .i64 x.am] 209));generalize hd:decide (okD x)=d
 by_cases c1:inPB x.fr=true
 case neg=>
  have e:=NF c1;have hd':d=false:=xV
  have q1:inPB x.fr=false:=uN c1
  subst hd';rw[q1]at CF;clear NF NT YY ND NA NB c1 e hd q1;go_enter Tryz.func281,Tryz.ntmps281;go_wp2_with fail;refine(CF.o _).mono ?_;rintro e w1 ⟨rfl,rfl⟩;go_wp2_with fail;go_ret;exact⟨rfl,BX.o⟩
 rw[c1]at CF
 by_cases c2:inPB x.tt=true
 case neg=>
  have e:=NT c2;have hd':d=false:=xV
  have q1:inPB x.tt=false:=uN c2
  subst hd';rw[q1]at CT;clear NF NT YY ND NA NB c1 c2 e hd q1;go_enter Tryz.func281,Tryz.ntmps281;go_wp2_with fail;refine(CF.o _).mono ?_;rintro e w1 ⟨rfl,rfl⟩;go_wp2_with fail;refine(CT.o _).mono ?_;rintro e w1 ⟨rfl,rfl⟩;go_wp2_with fail;go_ret;exact⟨rfl,BX.o⟩
 rw[c2]at CT
 by_cases c3:x.fr=x.tt
 case pos=>
  have e:=ND c3;have hd':d=false:=xV
  have q1:(x.fr != x.tt)=false:=uN c3
  subst hd';clear NF NT YY ND NA NB c1 c2 c3 e hd;go_enter Tryz.func281,Tryz.ntmps281;go_wp2_with fail;refine(CF.o _).mono ?_;rintro e w1 ⟨rfl,rfl⟩;go_wp2_with fail;refine(CT.o _).mono ?_;rintro e w1 ⟨rfl,rfl⟩;go_wp2_with fail;go_ret;exact⟨rfl,BX.o⟩
 have q3:(x.fr != x.tt)=true:=uN c3
 by_cases c4:1≤x.am
 case neg=>
  have e:=NA c4;have hd':d=false:=xV
  have q1:decide (1≤x.am)=false:=uN c4
  subst hd';clear NF NT YY ND NA NB c1 c2 c3 c4 e hd;go_enter Tryz.func281,Tryz.ntmps281;go_wp2_with fail;refine(CF.o _).mono ?_;rintro e w1 ⟨rfl,rfl⟩;go_wp2_with fail;refine(CT.o _).mono ?_;rintro e w1 ⟨rfl,rfl⟩;go_wp2_with fail;go_ret;exact⟨rfl,BX.o⟩
 have q4:decide (1≤x.am)=true:=uN c4
 by_cases c5:x.am≤1099511627776
 case neg=>
  have e:=NB c5;have hd':d=false:=xV
  have q1:decide (x.am≤1099511627776)=false:=uN c5
  subst hd';clear NF NT YY ND NA NB c1 c2 c3 c4 c5 e hd;go_enter Tryz.func281,Tryz.ntmps281;go_wp2_with fail;refine(CF.o _).mono ?_;rintro e w1 ⟨rfl,rfl⟩;go_wp2_with fail;refine(CT.o _).mono ?_;rintro e w1 ⟨rfl,rfl⟩;go_wp2_with fail;go_ret;exact⟨rfl,BX.o⟩
 have q5:decide (x.am≤1099511627776)=true:=uN c5
 have hd':d=true:=by rw[←hd];exact decide_eq_true (YY c1 c2 c3 c4 c5)
 subst hd';clear NF NT YY ND NA NB c1 c2 c3 c4 c5 hd;go_enter Tryz.func281,Tryz.ntmps281;go_wp2_with fail;refine(CF.o _).mono ?_;rintro e w1 ⟨rfl,rfl⟩;go_wp2_with fail;refine(CT.o _).mono ?_;rintro e w1 ⟨rfl,rfl⟩;go_wp2_with fail;go_ret;exact⟨rfl,BX.o⟩
def DMayAt(w:World)(l:List Fw)(i:Value)(wr:World):Prop:=∃k:Nat,k≤l.length∧i=.int .i64 k∧Hid (mayN l k=true)∧Below w.heap.size w wr
theorem aQ7{w:World}{ao:Option Addr}{cap:Nat}{l:List Fw}(hr:aFm w ao l)(hfit:aJj l)(hln:l.length≤300):
  Calls Tryz.prog 249 #[.slice ao l.length cap] w (yR w (.bool (mayN l l.length))):=by
 have HC:=yH hr;have HF:=yH hfit;clear hr hfit;go_enter Tryz.func249,Tryz.ntmps249;go_wp2_with fail
 go_loopw [7] (DMayAt w l) (fun i _=>l.length - (intOf i).toNat)
 case atStart=>exact⟨0,zQ,rfl,yH rfl,yZ⟩
 obtain⟨k,hk,rfl,HM,hB⟩:=hrel;have BB:=yH hB;clear hB
 by_cases hkl:k<l.length
 ·have qk:decide ((k:Int)<(l.length:Int))=true:=vA
  have k0:(0:Int)≤(k:Int):=zQ
  have k1:(k:Int)<(l.length:Int):=zQ
  obtain⟨b,off,rfl,hbw,hcell⟩:=HC.o zQ;obtain⟨e0,e1,e2⟩:=hcell k hkl;have d0:=(BB.o.cell (p:=⟨b,off+k*3,none⟩) hbw).trans e0;have d1:=(BB.o.cell (p:=⟨b,off+k*3+1,none⟩) hbw).trans e1;have d2:=(BB.o.cell (p:=⟨b,off+k*3+2,none⟩) hbw).trans e2;have HCELL:=yH hcell;obtain⟨⟨f0,f9⟩,⟨t0,t9⟩,⟨a0,a9⟩⟩:=HF.o k hkl;obtain⟨N,hN⟩:∃N,l.length=N:=⟨_,rfl⟩;have HN:=yH hN;obtain⟨x,hx⟩:∃x,dbt l k=x:=⟨_,rfl⟩;have HX:=yH hx;rw[hx]at d0 d1 d2 f0 f9 t0 t9 a0 a9;rw[hN]at k1 qk hkl ⊢;have CM:=yH (fun w=>aTl x w);have KX:=yH (Blk.new wr #[.int .u8 x.fr,.int .u8 x.tt,.int .i64 x.am] 209);have B0:=yH (BB.o.alloc BB.o.size (.cells #[.int .u8 x.fr,.int .u8 x.tt,.int .i64 x.am] 209));obtain⟨fr,tt,am⟩:=x;dsimp only at d0 d1 d2 f0 f9 t0 t9 a0 a9 CM KX B0;clear hcell e0 e1 e2 hx hN
  by_cases hok:okD ⟨fr,tt,am⟩
  ·have hd:decide (okD ⟨fr,tt,am⟩)=true:=decide_eq_true hok;simp only[hd]at CM
   by_cases hk0:k=0
   ·have NX:Hid (mayN l (k+1)=true):=yH (by rw[aHb,HM.o,HX.o,hd,decide_eq_true hk0];rfl);have q6n:decide (0<k)=false:=zU
    clear hk0 hd hok;go_wp2_with fail;generalize hX:wr.heap.size=X at KX ⊢;generalize (wr.alloc (.cells #[.int .u8 fr,.int .u8 tt,.int .i64 am] 209))=W at KX B0 ⊢;clear hX d0 d1 d2
    refine aAl zW [(.agg #[.int .u8 fr,.int .u8 tt,.int .i64 am]),(.bool true),(.bool false),(.bool false),(.int .i64 ((k:Nat):Int)),(.bool false),(.bool false),undef,undef,undef,undef,undef,undef,undef,undef,(.bool false),(.bool false)]
     (fun w'=>Below W.heap.size W w') zW yZ.drew ?_
    intro af haf;simp only[yG,List.append_eq,List.cons_append,List.nil_append,puts,Act.put,yA,yC,yF,yD,yE]at haf;subst haf;refine⟨?_,?_⟩
    ·simp only[yG,List.append_eq,List.cons_append,List.nil_append,aA6];refine⟨?_,?_,?z1,?z2,?z4,?z5,?z6,?z8,?z9,?z10,?z11,?z12,?z13,?z14,?z15,?z7,?z3,trivial⟩
     case z1|z2|z3=>
      intro w' hS;refine yO rfl ?_;have HS:=yH hS;clear hS;go_wp2_with fail;all_goals first|exact HS|exact⟨rfl,HS⟩|rfl|exact⟨zQ,HS.o⟩
     case z4|z5|z6|z7=>
      intro w' hS;refine OpTo.wanted ?_ ?_
      kernel_rfl
      have HS:=yH hS;clear hS;go_wp2_with fail;all_goals first|exact HS|exact⟨rfl,HS⟩|rfl|exact⟨zQ,HS.o⟩
     case z8|z9|z10|z11|z12|z13|z14|z15=>
      intro w' hS;refine pAC zW rfl hS
     ·intro w' hS;refine yO rfl ?_;have d0_0:=(KX.o.below hS KX.o.lt).cell 0;have d0_1:=(KX.o.below hS KX.o.lt).cell 1;have d0_2:=(KX.o.below hS KX.o.lt).cell 2;simp at d0_0 d0_1 d0_2;have HS:=yH hS;clear hS;go_wp2_with fail;all_goals first|exact HS|exact⟨rfl,HS⟩|rfl|exact⟨zQ,HS.o⟩
     intro w' hS;refine yO rfl ?_;have HS:=yH hS;clear hS;go_wp2_with fail;refine(CM.o w').mono ?_;rintro e w'' ⟨rfl,hb2⟩;exact⟨rfl,andB HS.o hb2⟩
    intro w2 hb;have B2:=yT B0 hb;clear hb;go_wp2_with fail;exact⟨⟨k+1,zO,by go_num,NX,B2.o⟩,zS⟩
   have q6n:decide (0<k)=true:=zU
   obtain⟨j,hj⟩:∃j,k=j+1:=⟨k - 1,zQ⟩;have hkj:k - 1=j:=zQ
   have hT:((k:Int) - 1).toNat=k - 1:=zQ
   obtain⟨p0,p1,p2⟩:=HCELL.o (k - 1) zQ;obtain⟨⟨u0,u9⟩,⟨v0,v9⟩,_⟩:=HF.o (k - 1) zQ;obtain⟨y,hy⟩:∃y,dbt l (k - 1)=y:=⟨_,rfl⟩;have HY:=yH hy;rw[hy]at p0 p1 p2 u0 u9 v0 v9;obtain⟨yf,yt,ya⟩:=y;dsimp only at p0 p1 p2 u0 u9 v0 v9;have g0:(wr.alloc (.cells #[.int .u8 fr,.int .u8 tt,.int .i64 am] 209)).cell? ⟨b,off+(k - 1)*3,none⟩=some (.int .u8 yf):=by exact(B0.o.cell (p:=⟨b,off+(k - 1)*3,none⟩) hbw).trans p0
   have g1:(wr.alloc (.cells #[.int .u8 fr,.int .u8 tt,.int .i64 am] 209)).cell? ⟨b,off+(k - 1)*3+1,none⟩=some (.int .u8 yt):=by exact(B0.o.cell (p:=⟨b,off+(k - 1)*3+1,none⟩) hbw).trans p1
   have g2:(wr.alloc (.cells #[.int .u8 fr,.int .u8 tt,.int .i64 am] 209)).cell? ⟨b,off+(k - 1)*3+2,none⟩=some (.int .i64 ya):=by exact(B0.o.cell (p:=⟨b,off+(k - 1)*3+2,none⟩) hbw).trans p2
   have hbW:=yM hbw B0.o.size;clear hT;have CO:=yH (fun w=>aOk ⟨yf,yt,ya⟩ ⟨fr,tt,am⟩ w);have HO:=yH (aPk (a:=⟨yf,yt,ya⟩) (b:=⟨fr,tt,am⟩) ⟨v0,v9⟩ ⟨t0,t9⟩);dsimp only at CO;have hji:(0:Int)≤(k:Int) - 1:=zQ
   have HK0:=yH hk0;clear hy hk0 hj hkj p0 p1 p2 hok
   by_cases hkey:256*yf+yt<256*fr+tt
   ·have ho:ordF ⟨yf,yt,ya⟩ ⟨fr,tt,am⟩ = -1:=by
     rw[HO.o];unfold cmpD keyD;exact if_pos hkey
    rw[ho]at CO;have NX:Hid (mayN l (k+1)=true):=yH (by rw[aHb,HM.o,HX.o,hd,HY.o,show decide (keyD ⟨yf,yt,ya⟩<keyD ⟨fr,tt,am⟩)=true from decide_eq_true hkey,Bool.or_true];rfl);clear hkey ho hd HO;go_wp2_with fail;clear d0 d1 d2;generalize hX:wr.heap.size=X at KX ⊢;generalize (wr.alloc (.cells #[.int .u8 fr,.int .u8 tt,.int .i64 am] 209))=W at KX B0 g0 g1 g2 hbW ⊢;clear hX
    refine aAl zW [(.agg #[.int .u8 fr,.int .u8 tt,.int .i64 am]),(.bool true),(.bool false),(.bool false),(.int .i64 ((k:Nat):Int)),(.bool true),(.bool true),(.slice (some ⟨b,off,none⟩) N cap),(.int .i64 ((k:Nat):Int)),(.int .i64 ((k:Int) - 1)),(.pointer (some ⟨b,off+(k - 1)*3,none⟩)),(.agg #[.int .u8 yf,.int .u8 yt,.int .i64 ya]),(.agg #[.int .u8 fr,.int .u8 tt,.int .i64 am]),(.int .i64 (-1)),(.bool false),(.bool false),(.bool false)]
     (fun w'=>Below W.heap.size W w') zW yZ.drew ?_
    intro af haf;simp only[yG,List.append_eq,List.cons_append,List.nil_append,puts,Act.put,yA,yC,yF,yD,yE]at haf;subst haf;refine⟨?_,?_⟩
    ·simp only[yG,List.append_eq,List.cons_append,List.nil_append,aA6];refine⟨?_,?_,?z16,?z17,?z19,?z20,?z21,?z22,?z23,?z24,?z25,?_,?_,?_,?z26,?z27,?z18,trivial⟩
     case z16|z17|z18=>
      intro w' hS;refine yO rfl ?_;have HS:=yH hS;clear hS;go_wp2_with fail;all_goals first|exact HS|exact⟨rfl,HS⟩|rfl|exact⟨zQ,HS.o⟩
     case z19|z20|z21|z22|z23|z24|z25|z26|z27=>
      intro w' hS;refine OpTo.wanted ?_ ?_
      kernel_rfl
      have HS:=yH hS;clear hS;go_wp2_with fail;all_goals first|exact HS|exact⟨rfl,HS⟩|rfl|exact⟨zQ,HS.o⟩
     ·intro w' hS;refine yO rfl ?_;have d0_0:=(KX.o.below hS KX.o.lt).cell 0;have d0_1:=(KX.o.below hS KX.o.lt).cell 1;have d0_2:=(KX.o.below hS KX.o.lt).cell 2;simp at d0_0 d0_1 d0_2;have HS:=yH hS;clear hS;go_wp2_with fail;all_goals first|exact HS|exact⟨rfl,HS⟩|rfl|exact⟨zQ,HS.o⟩
     ·intro w' hS;refine yO rfl ?_;have HS:=yH hS;clear hS;go_wp2_with fail;refine(CM.o w').mono ?_;rintro e w'' ⟨rfl,hb2⟩;exact⟨rfl,andB HS.o hb2⟩
     ·intro w' hS;refine OpTo.wanted ?_ ?_
      kernel_rfl
      have r0:=(hS.cell (p:=⟨b,off+(k - 1)*3,none⟩) hbW).trans g0;have r1:=(hS.cell (p:=⟨b,off+(k - 1)*3+1,none⟩) hbW).trans g1;have r2:=(hS.cell (p:=⟨b,off+(k - 1)*3+2,none⟩) hbW).trans g2;have HS:=yH hS;clear hS;go_wp2_with fail;all_goals first|exact HS|exact⟨rfl,HS⟩|rfl|exact⟨zQ,HS.o⟩
     ·intro w' hS;refine OpTo.wanted ?_ ?_
      kernel_rfl
      have d0_0:=(KX.o.below hS KX.o.lt).cell 0;have d0_1:=(KX.o.below hS KX.o.lt).cell 1;have d0_2:=(KX.o.below hS KX.o.lt).cell 2;simp at d0_0 d0_1 d0_2;have HS:=yH hS;clear hS;go_wp2_with fail;all_goals first|exact HS|exact⟨rfl,HS⟩|rfl|exact⟨zQ,HS.o⟩
     intro w' hS;refine OpTo.wanted ?_ ?_
     kernel_rfl
     have HS:=yH hS;clear hS;go_wp2_with fail;refine(CO.o w').mono ?_;rintro e w'' ⟨rfl,hb2⟩;exact⟨rfl,andB HS.o hb2⟩
    intro w2 hb;have B2:=yT B0 hb;clear hb;go_wp2_with fail;exact⟨⟨k+1,zO,by go_num,NX,B2.o⟩,zS⟩
   have ho:0≤ordF ⟨yf,yt,ya⟩ ⟨fr,tt,am⟩:=by
    rw[HO.o];unfold cmpD keyD;dsimp only;rw[if_neg hkey];split <;> decide
   generalize ordF ⟨yf,yt,ya⟩ ⟨fr,tt,am⟩=oo at *;have q7:decide (0≤oo)=true:=yX
   have R:Hid (mayN l l.length=false):=yH (aMw (k+1) zO (by rw[aHb,HX.o,HY.o,show decide (keyD ⟨yf,yt,ya⟩<keyD ⟨fr,tt,am⟩)=false from decide_eq_false hkey,show decide (k=0)=false from decide_eq_false HK0.o,Bool.or_false,Bool.and_false]));clear hkey ho hd HO;go_wp2_with fail;clear d0 d1 d2;generalize hX:wr.heap.size=X at KX ⊢;generalize (wr.alloc (.cells #[.int .u8 fr,.int .u8 tt,.int .i64 am] 209))=W at KX B0 g0 g1 g2 hbW ⊢;clear hX
   refine aAl zW [(.agg #[.int .u8 fr,.int .u8 tt,.int .i64 am]),(.bool true),(.bool false),(.bool false),(.int .i64 ((k:Nat):Int)),(.bool true),(.bool true),(.slice (some ⟨b,off,none⟩) N cap),(.int .i64 ((k:Nat):Int)),(.int .i64 ((k:Int) - 1)),(.pointer (some ⟨b,off+(k - 1)*3,none⟩)),(.agg #[.int .u8 yf,.int .u8 yt,.int .i64 ya]),(.agg #[.int .u8 fr,.int .u8 tt,.int .i64 am]),(.int .i64 oo),(.bool true),(.bool true),(.bool true)]
    (fun w'=>Below W.heap.size W w') zW yZ.drew ?_
   intro af haf;simp only[yG,List.append_eq,List.cons_append,List.nil_append,puts,Act.put,yA,yC,yF,yD,yE]at haf;subst haf;refine⟨?_,?_⟩
   ·simp only[yG,List.append_eq,List.cons_append,List.nil_append,aA6];refine⟨?_,?_,?z28,?z29,?z31,?z32,?z33,?z34,?z35,?z36,?z37,?_,?_,?_,?z38,?z39,?z30,trivial⟩
    case z28|z29|z30=>
     intro w' hS;refine yO rfl ?_;have HS:=yH hS;clear hS;go_wp2_with fail;all_goals first|exact HS|exact⟨rfl,HS⟩|rfl|exact⟨zQ,HS.o⟩
    case z31|z32|z33|z34|z35|z36|z37|z38|z39=>
     intro w' hS;refine OpTo.wanted ?_ ?_
     kernel_rfl
     have HS:=yH hS;clear hS;go_wp2_with fail;all_goals first|exact HS|exact⟨rfl,HS⟩|rfl|exact⟨zQ,HS.o⟩
    ·intro w' hS;refine yO rfl ?_;have d0_0:=(KX.o.below hS KX.o.lt).cell 0;have d0_1:=(KX.o.below hS KX.o.lt).cell 1;have d0_2:=(KX.o.below hS KX.o.lt).cell 2;simp at d0_0 d0_1 d0_2;have HS:=yH hS;clear hS;go_wp2_with fail;all_goals first|exact HS|exact⟨rfl,HS⟩|rfl|exact⟨zQ,HS.o⟩
    ·intro w' hS;refine yO rfl ?_;have HS:=yH hS;clear hS;go_wp2_with fail;refine(CM.o w').mono ?_;rintro e w'' ⟨rfl,hb2⟩;exact⟨rfl,andB HS.o hb2⟩
    ·intro w' hS;refine OpTo.wanted ?_ ?_
     kernel_rfl
     have r0:=(hS.cell (p:=⟨b,off+(k - 1)*3,none⟩) hbW).trans g0;have r1:=(hS.cell (p:=⟨b,off+(k - 1)*3+1,none⟩) hbW).trans g1;have r2:=(hS.cell (p:=⟨b,off+(k - 1)*3+2,none⟩) hbW).trans g2;have HS:=yH hS;clear hS;go_wp2_with fail;all_goals first|exact HS|exact⟨rfl,HS⟩|rfl|exact⟨zQ,HS.o⟩
    ·intro w' hS;refine OpTo.wanted ?_ ?_
     kernel_rfl
     have d0_0:=(KX.o.below hS KX.o.lt).cell 0;have d0_1:=(KX.o.below hS KX.o.lt).cell 1;have d0_2:=(KX.o.below hS KX.o.lt).cell 2;simp at d0_0 d0_1 d0_2;have HS:=yH hS;clear hS;go_wp2_with fail;all_goals first|exact HS|exact⟨rfl,HS⟩|rfl|exact⟨zQ,HS.o⟩
    intro w' hS;refine OpTo.wanted ?_ ?_
    kernel_rfl
    have HS:=yH hS;clear hS;go_wp2_with fail;refine(CO.o w').mono ?_;rintro e w'' ⟨rfl,hb2⟩;exact⟨rfl,andB HS.o hb2⟩
   intro w2 hb;have B2:=yT B0 hb;clear hb;go_wp2_with fail;go_ret;exact⟨by rw[←HN.o,R.o];rfl,B2.o⟩
  have hd:decide (okD ⟨fr,tt,am⟩)=false:=decide_eq_false hok;simp only[hd]at CM;have R:Hid (mayN l l.length=false):=yH (aMw (k+1) zO (by rw[aHb,HX.o,hd,Bool.and_false,Bool.false_and]));clear hd hok;go_wp2_with fail;clear d0 d1 d2;generalize hX:wr.heap.size=X at KX ⊢;generalize (wr.alloc (.cells #[.int .u8 fr,.int .u8 tt,.int .i64 am] 209))=W at KX B0 ⊢;clear hX
  refine aAl zW [(.agg #[.int .u8 fr,.int .u8 tt,.int .i64 am]),(.bool false),(.bool true),(.bool true),undef,undef,undef,undef,undef,undef,undef,undef,undef,undef,undef,undef,(.bool true)]
   (fun w'=>Below W.heap.size W w') zW yZ.drew ?_
  intro af haf;simp only[yG,List.append_eq,List.cons_append,List.nil_append,puts,Act.put,yA,yC,yF,yD,yE]at haf;subst haf;refine⟨?_,?_⟩
  ·simp only[yG,List.append_eq,List.cons_append,List.nil_append,aA6];refine⟨?_,?_,?z40,?z41,?z43,?z44,?z45,?z46,?z47,?z48,?z49,?z50,?z51,?z52,?z53,?z54,?z42,trivial⟩
   case z40|z41|z42=>
    intro w' hS;refine yO rfl ?_;have HS:=yH hS;clear hS;go_wp2_with fail;all_goals first|exact HS|exact⟨rfl,HS⟩|rfl|exact⟨zQ,HS.o⟩
   case z43|z44|z45|z46|z47|z48|z49|z50|z51|z52|z53|z54=>
    intro w' hS;refine pAC zW rfl hS
   ·intro w' hS;refine yO rfl ?_;have d0_0:=(KX.o.below hS KX.o.lt).cell 0;have d0_1:=(KX.o.below hS KX.o.lt).cell 1;have d0_2:=(KX.o.below hS KX.o.lt).cell 2;simp at d0_0 d0_1 d0_2;have HS:=yH hS;clear hS;go_wp2_with fail;all_goals first|exact HS|exact⟨rfl,HS⟩|rfl|exact⟨zQ,HS.o⟩
   intro w' hS;refine yO rfl ?_;have HS:=yH hS;clear hS;go_wp2_with fail;refine(CM.o w').mono ?_;rintro e w'' ⟨rfl,hb2⟩;exact⟨rfl,andB HS.o hb2⟩
  intro w2 hb;have B2:=yT B0 hb;clear hb;go_wp2_with fail;go_ret;exact⟨by rw[←HN.o,R.o];rfl,B2.o⟩
 have hkn:k=l.length:=zQ
 subst hkn;go_wp2_with fail;go_ret;exact⟨by rw[HM.o];rfl,BB.o⟩
def aKw(l:List Fw)(L:Nat→Int)(i:Nat):List Value:=[.int .u8 (dbt l i).fr,.int .u8 (dbt l i).tt,.int .i64 (L i),.int .i64 ((dbt l i).am - L i)]
def aBu(l:List Fw)(L:Nat→Int):Nat→List Value
 | 0=>[]
 | k+1=>aBu l L k++aKw l L k
theorem aDb(l:List Fw)(L:Nat→Int):∀n,(aBu l L n).length=n*4
 | 0=>rfl
 | n+1=>by
  show(aBu l L n++aKw l L n).length=_;rw[List.length_append,aDb l L n];show n*4+4=_;omega
theorem aDc(l:List Fw)(L:Nat→Int){i j:Nat}(hj:j<4):∀n,i<n→(aBu l L n)[i*4+j]? = (aKw l L i)[j]?
 | 0,h=>zQ
 | n+1,h=>by
  show(aBu l L n++aKw l L n)[i*4+j]? = _
  by_cases hi:i=n
  ·subst hi;rw[List.getElem?_append_right (uT aDb),aDb];congr 1;omega
  rw[List.getElem?_append_left (uT aDb)];exact aDc l L hj n zQ
theorem aTm(l:List Fw)(L:Nat→Int){i n:Nat}(hi:i<n)(v:Int):((aBu l L n).set (i*4+2) (.int .i64 v)).set (i*4+3) (.int .i64 ((dbt l i).am - v))=aBu l (updL L i v) n:=by
 apply List.ext_getElem?;intro j;rcases Nat.lt_or_ge j (n*4)with hj|hj
 ·obtain⟨a,b,hb,rfl⟩:∃a b,b<4∧j=a*4+b:=⟨j/4,j%4,Nat.mod_lt _ zX,zQ⟩;have ha:a<n:=zQ
  rw[aDc l _ hb n ha,List.getElem?_set,List.getElem?_set,List.length_set,aDb,aDc l L hb n ha]
  by_cases hai:i=a
  ·subst hai;rcases(by omega:b=0∨b=1∨b=2∨b=3)with rfl|rfl|rfl|rfl
   ·rw[if_neg zQ,if_neg zQ];rfl
   ·rw[if_neg zQ,if_neg zQ];rfl
   ·rw[if_neg zQ,if_pos rfl,if_pos zQ];show _=some (Value.int .i64 (updL L i v i));unfold updL;rw[if_pos rfl]
   rw[if_pos rfl,if_pos zQ];show _=some (Value.int .i64 ((dbt l i).am - updL L i v i));unfold updL;rw[if_pos rfl]
  rw[if_neg zQ,if_neg zQ];have:updL L i v a=L a:=by unfold updL;exact if_neg (fun h=>hai h.symm)
  unfold aKw;rw[this]
 rw[List.getElem?_eq_none (by rw[List.length_set,List.length_set,aDb];omega),List.getElem?_eq_none (uT aDb)]
def aIv(l:List Fw)(L:Nat→Int):Nat→List Fw
 | 0=>[]
 | k+1=>aIv l L k++if 0<L k then [⟨(dbt l k).fr,(dbt l k).tt,L k⟩]else []
def aMx(l:List Fw)(L:Nat→Int):List Fw:=aIv l L l.length
theorem aMy(l:List Fw)(L:Nat→Int):∀n,(aIv l L n).length≤n
 | 0=>Nat.le_refl _
 | n+1=>by
  have:=aMy l L n;show(aIv l L n++_).length≤_;rw[List.length_append];split <;> simp <;> omega
def dcVal(a b n m:Int):Value:=.agg #[.int .u8 a,.int .u8 b,.int .i64 n,.int .i64 m]
theorem info_dc:(Tryz.prog.info? 375).map (fun i=>(i.zero,i.size,i.bytes))=some (some (dcVal 0 0 0 0),4,24):=zW
def BegAt(w:World)(l:List Fw)(c i:Value)(wr:World):Prop:=
 ∃k:Nat,k≤l.length∧i=.int .i64 k∧wr.ownsRow w.heap.size 375 4 c k (aBu l (amD l) k)∧Below w.heap.size w wr
def BegPost(l:List Fw)(w:World)(e:Ending)(w':World):Prop:=
 ∃c,e=.returned c∧w'.ownsRow w.heap.size 375 4 c l.length (aBu l (amD l) l.length)∧Below w.heap.size w w'
theorem begin_any{w:World}{ao:Option Addr}{cap:Nat}{l:List Fw}(hr:aFm w ao l)(hln:l.length≤300):
  Calls Tryz.prog 250 #[.slice ao l.length cap] w (BegPost l w):=by
 have HC:=yH hr;clear hr;go_enter Tryz.func250,Tryz.ntmps250;go_wp2_with fail
 go_loopw [3,8] (BegAt w l) (fun _ i _=>l.length - (intOf i).toNat)
 case atStart=>exact⟨0,zQ,rfl,World.ownsRow_nil _ _ _ _,yZ⟩
 obtain⟨k,hk,rfl,hO,hB⟩:=hrel;have BB:=yH hB;have OO:=yH hO;obtain⟨aoc,capc,rfl,_⟩:=aAg hO;clear hB hO
 by_cases hkl:k<l.length
 ·have qk:decide ((k:Int)<(l.length:Int))=true:=vA
  have k0:(0:Int)≤(k:Int):=zQ
  have k1:(k:Int)<(l.length:Int):=zQ
  obtain⟨b,off,rfl,hbw,hcell⟩:=HC.o zQ;obtain⟨e0,e1,e2⟩:=hcell k hkl;have d0:=(BB.o.cell (p:=⟨b,off+k*3,none⟩) hbw).trans e0;have d1:=(BB.o.cell (p:=⟨b,off+k*3+1,none⟩) hbw).trans e1;have d2:=(BB.o.cell (p:=⟨b,off+k*3+2,none⟩) hbw).trans e2;obtain⟨N,hN⟩:∃N,l.length=N:=⟨_,rfl⟩;have HN:=yH hN;obtain⟨x,hx⟩:∃x,dbt l k=x:=⟨_,rfl⟩
  have NX:Hid (aKw l (amD l) k=[.int .u8 x.fr,.int .u8 x.tt,.int .i64 x.am,.int .i64 0]):=yH (by
   unfold aKw amD;rw[hx,Int.sub_self])
  rw[hx]at d0 d1 d2;rw[hN]at k1 qk hkl ⊢;obtain⟨fr,tt,am⟩:=x;dsimp only at d0 d1 d2 NX;clear hcell e0 e1 e2 hx hN;go_wp2_with (at_builtin;refine aAz _ rfl (.tmp 12) (.tmp 15) 352 375 rfl Tryz.underlying352 info_dc rfl zX zX w.heap.size _ k _ rfl ((aAf OO.o (yZ.alloc yL _)).alloc _) (wr.heap.size+1) 1 [.int .u8 fr,.int .u8 tt,.int .i64 am,.int .i64 0] rfl xU ?_ (by intro u hu;simp at hu;rcases hu with rfl|rfl|rfl|rfl <;> rfl) zQ zB ?_)
  ·exact pAB _ _ _ zV
  intro v w2 hown hgr;have B2:=yH (((BB.o.alloc BB.o.size (.cells #[.int .u8 fr,.int .u8 tt,.int .i64 am] 209)).alloc zB _).grown hgr zB (fun k' h=>(aAe OO.o h).1));have O2:=yH hown;clear hown hgr;go_wp2_with fail;refine⟨⟨k+1,zO,by go_num,?_,B2.o⟩,zS⟩;have:=O2.o;show World.ownsRow _ _ _ _ _ _ (aBu l (amD l) k++aKw l (amD l) k);rw[NX.o];exact this
 have hkn:k=l.length:=zQ
 subst hkn;go_wp2_with fail;refine bodyPost_ret (v:=.slice aoc l.length capc) (by simp[results,Tryz.results250,go_sem]) rfl ?_;exact⟨_,rfl,OO.o,BB.o⟩
theorem rdE_next(l:List Fw)(L:Nat→Int)(k:Nat):rdE l L (k+1)=rdE l L k++((if 0<L k then [⟨(dbt l k).fr,(dbt l k).tt,-1⟩]else [])++(if L k<(dbt l k).am then [⟨(dbt l k).tt,(dbt l k).fr,1⟩]else [])):=rfl
theorem rdE_fits{l:List Fw}(L:Nat→Int)(h:aJj l):∀e∈rdE l L l.length,e.Fits:=by
 intro e he;obtain⟨i,hi,⟨_,rfl⟩|⟨_,rfl⟩⟩:=(aJ9 _).1 he
 ·obtain⟨h1,h2,_⟩:=h i hi;exact⟨h1,h2,uV⟩
 obtain⟨h1,h2,_⟩:=h i hi;exact⟨h2,h1,uV⟩
theorem aJm{w:World}{base:Nat}{l:List Fw}{L:Nat→Int}{b n cap:Nat}(h:w.ownsRow base 375 4 (.slice (some ⟨b,0,none⟩) n cap) n (aBu l L n)){k:Nat}(hk:k<n):
  w.cell? ⟨b,k*4,none⟩=some (.int .u8 (dbt l k).fr)∧w.cell? ⟨b,k*4+1,none⟩=some (.int .u8 (dbt l k).tt)∧w.cell? ⟨b,k*4+2,none⟩=some (.int .i64 (L k))∧w.cell? ⟨b,k*4+3,none⟩=some (.int .i64 ((dbt l k).am - L k)):=by
 refine⟨?_,?_,?_,?_⟩
 ·have:=h.cellAt (k*4+0) zQ;rw[aDc l L zQ n hk]at this;exact this
 ·have:=h.cellAt (k*4+1) zQ;rw[aDc l L zQ n hk]at this;exact this
 ·have:=h.cellAt (k*4+2) zQ;rw[aDc l L zQ n hk]at this;exact this
 have:=h.cellAt (k*4+3) zQ;rw[aDc l L zQ n hk]at this;exact this
def CRndAt(w:World)(l:List Fw)(L:Nat→Int)(c i:Value)(wr:World):Prop:=
 ∃k:Nat,k≤l.length∧i=.int .i64 k∧wr.ownsRow w.heap.size 377 3 c (rdE l L k).length (aCo (rdE l L k))∧Below w.heap.size w wr
theorem aOl{w:World}{base:Nat}{c:Value}{l:List Fw}{L:Nat→Int}(hO:w.ownsRow base 375 4 c l.length (aBu l L l.length))(hfit:aJj l)(hln:l.length≤300):
  Calls Tryz.prog 251 #[c] w (aL5 68 (aDm (rdE l L l.length)) w):=by
 obtain⟨ao,cap,rfl,_,_,_,hown⟩:=aAg hO;have HO:=yH hO;have HF:=yH hfit;have HW:=yH hown;clear hO hfit hown;go_enter Tryz.func251,Tryz.ntmps251;go_wp2_with fail
 go_loopw [3,8] (CRndAt w l L) (fun _ i _=>l.length - (intOf i).toNat)
 case atStart=>exact⟨0,zQ,rfl,World.ownsRow_nil _ _ _ _,yZ⟩
 obtain⟨k,hk,rfl,hE,hB⟩:=hrel;have BB:=yH hB;have OE:=yH hE;obtain⟨aoc,capc,rfl,_⟩:=aAg hE;have hel:=rdE_len l L k;clear hB hE
 by_cases hkl:k<l.length
 ·have qk:decide ((k:Int)<(l.length:Int))=true:=vA
  have k0:(0:Int)≤(k:Int):=zQ
  have k1:(k:Int)<(l.length:Int):=zQ
  obtain⟨b,rfl,hbb,hbw,_,_⟩:=HW.o zQ;obtain⟨e0,e1,e2,e3⟩:=aJm HO.o hkl;have d0:=(BB.o.cell (p:=⟨b,k*4,none⟩) hbw).trans e0;have d1:=(BB.o.cell (p:=⟨b,k*4+1,none⟩) hbw).trans e1;have d2:=(BB.o.cell (p:=⟨b,k*4+2,none⟩) hbw).trans e2;have d3:=(BB.o.cell (p:=⟨b,k*4+3,none⟩) hbw).trans e3;obtain⟨N,hN⟩:∃N,l.length=N:=⟨_,rfl⟩;have HN:=yH hN;have NX:=yH (rdE_next l L k);obtain⟨x,hx⟩:∃x,dbt l k=x:=⟨_,rfl⟩;rw[hx]at d0 d1 d3 NX;obtain⟨n,hn⟩:∃n,L k=n:=⟨_,rfl⟩;rw[hn]at d2 d3 NX;rw[hN]at k1 qk hkl ⊢;obtain⟨fr,tt,am⟩:=x;dsimp only at d0 d1 d2 d3 NX;clear e0 e1 e2 e3 hx hN hn hbb;have hel2:(rdE l L k).length≤600:=zQ
  have HEL:=yH hel2;clear hel2;generalize hEs:rdE l L k=es at OE NX hel HEL ⊢;clear hEs;have KD:=yH (Blk.new wr #[.int .u8 fr,.int .u8 tt,.int .i64 n,.int .i64 (am - n)] 375);have BD:=yH (BB.o.alloc BB.o.size (.cells #[.int .u8 fr,.int .u8 tt,.int .i64 n,.int .i64 (am - n)] 375));have OD:=yH (aAf OE.o (yZ.alloc yL (.cells #[.int .u8 fr,.int .u8 tt,.int .i64 n,.int .i64 (am - n)] 375)))
  by_cases hp:0<n
  ·have qp:decide (0<n)=true:=y8
   rw[if_pos hp]at NX
   by_cases hq:n<am
   ·have qr:decide (n<am)=true:=zU
    rw[if_pos hq]at NX;rw[←List.append_assoc]at NX;clear hp hq;go_wp2_with (at_builtin;refine aAz _ rfl (.tmp 16) (.tmp 24) 376 377 rfl Tryz.underlying376 aPj rfl zX zX w.heap.size _ es.length _ rfl (OD.o.alloc _) (wr.heap.size+1) 1 [.int .u8 fr,.int .u8 tt,.int .i8 (-1)] rfl xU ?_ (by intro u hu;simp at hu;rcases hu with rfl|rfl|rfl <;> rfl) (uF HEL.o) zB ?_)
    ·exact pAB _ _ _ zV
    intro v w2 hown hgr;have O2:=yH (show w2.ownsRow w.heap.size 377 3 v (es++[(⟨fr,tt,-1⟩:Ed)]).length (aCo (es++[(⟨fr,tt,-1⟩:Ed)]))from by rw[aD4,aGc,List.length_append];exact hown);have B2:=yH (aGb BD.o BD.o.size hgr (fun k' h=>(aAe OE.o h).1));have K2:=yH ((KD.o.alloc (.cells #[.int .u8 fr,.int .u8 tt,.int .i8 (-1)] 377)).grown hgr (fun e=>by have:=(aAe OE.o e).2.1;omega));have c0:=K2.o.cell 0;have c1:=K2.o.cell 1;have c2:=K2.o.cell 2;have c3:=K2.o.cell 3;simp at c0 c1 c2 c3;clear hown hgr;obtain⟨ao2,cap2,hv2,_⟩:=aAg O2.o;subst hv2;go_wp2_with (at_builtin;refine aAz _ rfl (.tmp 29) (.tmp 37) 376 377 rfl Tryz.underlying376 aPj rfl zX zX w.heap.size _ (es++[(⟨fr,tt,-1⟩:Ed)]).length _ rfl (O2.o.alloc _) w2.heap.size 1 [.int .u8 tt,.int .u8 fr,.int .i8 1] rfl xU ?_ (by intro u hu;simp at hu;rcases hu with rfl|rfl|rfl <;> rfl) (by have:=HEL.o;simp;omega) (by have:=B2.o.size;simp;omega) ?_)
    ·exact pAB _ _ _ zV
    intro v3 w3 hown hgr;have O3:=yH (show w3.ownsRow w.heap.size 377 3 v3 ((es++[(⟨fr,tt,-1⟩:Ed)])++[(⟨tt,fr,1⟩:Ed)]).length (aCo ((es++[(⟨fr,tt,-1⟩:Ed)])++[(⟨tt,fr,1⟩:Ed)]))from by rw[show((es++[(⟨fr,tt,-1⟩:Ed)])++[(⟨tt,fr,1⟩:Ed)]).length=es.length+2 from by simp,aD4,aGc];exact hown);have B3:=yH (aGb B2.o B2.o.size hgr (fun k' h=>(aAe O2.o y7).1));clear hown hgr;go_wp2_with fail;exact⟨⟨k+1,zO,by go_num,vC,B3.o⟩,zS⟩
   have qr:decide (n<am)=false:=zU
   rw[if_neg hq]at NX;rw[List.append_nil]at NX;clear hp hq;go_wp2_with (at_builtin;refine aAz _ rfl (.tmp 16) (.tmp 24) 376 377 rfl Tryz.underlying376 aPj rfl zX zX w.heap.size _ es.length _ rfl (OD.o.alloc _) (wr.heap.size+1) 1 [.int .u8 fr,.int .u8 tt,.int .i8 (-1)] rfl xU ?_ (by intro u hu;simp at hu;rcases hu with rfl|rfl|rfl <;> rfl) (uF HEL.o) zB ?_)
   ·exact pAB _ _ _ zV
   intro v w2 hown hgr;have O2:=yH (show w2.ownsRow w.heap.size 377 3 v (es++[(⟨fr,tt,-1⟩:Ed)]).length (aCo (es++[(⟨fr,tt,-1⟩:Ed)]))from by rw[aD4,aGc,List.length_append];exact hown);have B2:=yH (aGb BD.o BD.o.size hgr (fun k' h=>(aAe OE.o h).1));have K2:=yH ((KD.o.alloc (.cells #[.int .u8 fr,.int .u8 tt,.int .i8 (-1)] 377)).grown hgr (fun e=>by have:=(aAe OE.o e).2.1;omega));have c0:=K2.o.cell 0;have c1:=K2.o.cell 1;have c2:=K2.o.cell 2;have c3:=K2.o.cell 3;simp at c0 c1 c2 c3;clear hown hgr;go_wp2_with fail;exact⟨⟨k+1,zO,by go_num,by rw[NX.o];exact O2.o,B2.o⟩,zS⟩
  have qp:decide (0<n)=false:=y8
  rw[if_neg hp]at NX
  by_cases hq:n<am
  ·have qr:decide (n<am)=true:=zU
   rw[if_pos hq]at NX;rw[List.nil_append]at NX;clear hp hq;go_wp2_with (at_builtin;refine aAz _ rfl (.tmp 29) (.tmp 37) 376 377 rfl Tryz.underlying376 aPj rfl zX zX w.heap.size _ es.length _ rfl (OD.o.alloc _) (wr.heap.size+1) 1 [.int .u8 tt,.int .u8 fr,.int .i8 1] rfl xU ?_ (by intro u hu;simp at hu;rcases hu with rfl|rfl|rfl <;> rfl) (uF HEL.o) zB ?_)
   ·exact pAB _ _ _ zV
   intro v3 w3 hown hgr;have O3:=yH (show w3.ownsRow w.heap.size 377 3 v3 (es++[(⟨tt,fr,1⟩:Ed)]).length (aCo (es++[(⟨tt,fr,1⟩:Ed)]))from by rw[show(es++[(⟨tt,fr,1⟩:Ed)]).length=es.length+1 from by simp,aD4,aGc];exact hown);have B3:=yH (aGb BD.o BD.o.size hgr (fun k' h=>(aAe OE.o y7).1));clear hown hgr;go_wp2_with fail;exact⟨⟨k+1,zO,by go_num,vC,B3.o⟩,zS⟩
  have qr:decide (n<am)=false:=zU
  rw[if_neg hq]at NX;rw[List.append_nil,List.append_nil]at NX;clear hp hq;go_wp2_with fail;exact⟨⟨k+1,zO,by go_num,by rw[NX.o];exact OD.o,BD.o⟩,zS⟩
 have hkn:k=l.length:=zQ
 subst hkn;have HE2:aBm wr (.slice aoc (rdE l L l.length).length capc) 3 (rdE l L l.length).length (aCo (rdE l L l.length)):=pAE OE.o zQ;have CR:=yH (pround_any HE2 (rdE_fits L HF.o) zQ);clear HE2;go_wp2_with fail;refine CR.o.mono ?_;rintro e w1 ⟨v,rfl,hv,hb⟩;have BF:=yH (andB BB.o hb);have HV:=yH hv;obtain⟨aov,capv,rfl,_⟩:=hv.look;clear hb hv CR;go_wp2_with fail;refine bodyPost_ret (v:=.slice aov (aDm (rdE l L l.length)).length capv) (by simp[results,Tryz.results251,go_sem]) rfl ?_;exact⟨_,rfl,HV.o.base BB.o.size,BF.o⟩
def LeftAt(w:World)(l:List Fw)(L:Nat→Int)(c i:Value)(wr:World):Prop:=
 ∃k:Nat,k≤l.length∧i=.int .i64 k∧wr.ownsRow w.heap.size 209 3 c (aIv l L k).length (aAn (aIv l L k))∧Below w.heap.size w wr
theorem leftN_next(l:List Fw)(L:Nat→Int)(k:Nat):aIv l L (k+1)=aIv l L k++if 0<L k then [⟨(dbt l k).fr,(dbt l k).tt,L k⟩]else []:=rfl
def LeftPost(l:List Fw)(L:Nat→Int)(w:World)(e:Ending)(w':World):Prop:=
 ∃v,e=.returned v∧aBk w' w.heap.size 209 3 v (aMx l L).length (aAn (aMx l L))∧Below w.heap.size w w'
theorem cleft_any{w:World}{base:Nat}{c:Value}{l:List Fw}{L:Nat→Int}(hO:w.ownsRow base 375 4 c l.length (aBu l L l.length))(hln:l.length≤300):
  Calls Tryz.prog 253 #[c] w (LeftPost l L w):=by
 obtain⟨ao,cap,rfl,_,_,_,hown⟩:=aAg hO;have HO:=yH hO;have HW:=yH hown;clear hO hown;go_enter Tryz.func253,Tryz.ntmps253;go_wp2_with fail
 go_loopw [3,8] (LeftAt w l L) (fun _ i _=>l.length - (intOf i).toNat)
 case atStart=>exact⟨0,zQ,rfl,World.ownsRow_nil _ _ _ _,yZ⟩
 obtain⟨k,hk,rfl,hE,hB⟩:=hrel;have BB:=yH hB;have OE:=yH hE;obtain⟨aoc,capc,rfl,_⟩:=aAg hE;have hel:=aMy l L k;clear hB hE
 by_cases hkl:k<l.length
 ·have qk:decide ((k:Int)<(l.length:Int))=true:=vA
  have k0:(0:Int)≤(k:Int):=zQ
  have k1:(k:Int)<(l.length:Int):=zQ
  obtain⟨b,rfl,hbb,hbw,_,_⟩:=HW.o zQ;obtain⟨e0,e1,e2,e3⟩:=aJm HO.o hkl;have d0:=(BB.o.cell (p:=⟨b,k*4,none⟩) hbw).trans e0;have d1:=(BB.o.cell (p:=⟨b,k*4+1,none⟩) hbw).trans e1;have d2:=(BB.o.cell (p:=⟨b,k*4+2,none⟩) hbw).trans e2;have d3:=(BB.o.cell (p:=⟨b,k*4+3,none⟩) hbw).trans e3;obtain⟨N,hN⟩:∃N,l.length=N:=⟨_,rfl⟩;have HN:=yH hN;have NX:=yH (leftN_next l L k);obtain⟨x,hx⟩:∃x,dbt l k=x:=⟨_,rfl⟩;rw[hx]at d0 d1 d3 NX;obtain⟨n,hn⟩:∃n,L k=n:=⟨_,rfl⟩;rw[hn]at d2 d3 NX;rw[hN]at k1 qk hkl ⊢;obtain⟨fr,tt,am⟩:=x;dsimp only at d0 d1 d2 d3 NX;clear e0 e1 e2 e3 hx hN hn hbb;have HEL:=yH hel;generalize hEs:aIv l L k=es at OE NX hel HEL ⊢;clear hEs;have BD:=yH (BB.o.alloc BB.o.size (.cells #[.int .u8 fr,.int .u8 tt,.int .i64 n,.int .i64 (am - n)] 375));have OD:=yH (aAf OE.o (yZ.alloc yL (.cells #[.int .u8 fr,.int .u8 tt,.int .i64 n,.int .i64 (am - n)] 375)))
  by_cases hp:0<n
  ·have qp:decide (0<n)=true:=y8
   rw[if_pos hp]at NX;clear hp;go_wp2_with (at_builtin;refine aGp _ rfl (.tmp 16) (.tmp 19) rfl w.heap.size _ es rfl (OD.o.alloc _) (wr.heap.size+1) 1 ⟨fr,tt,n⟩ xU ?_ zQ zB ?_)
   ·exact pAB _ _ _ zV
   intro v w2 hown hgr;have O2:=yH hown;have B2:=yH (aGb BD.o BD.o.size hgr (fun k' h=>(aAe OE.o h).1));clear hown hgr;go_wp2_with fail;exact⟨⟨k+1,zO,by go_num,by rw[NX.o,List.length_append];exact O2.o,B2.o⟩,zS⟩
  have qp:decide (0<n)=false:=y8
  rw[if_neg hp,List.append_nil]at NX;clear hp;go_wp2_with fail;exact⟨⟨k+1,zO,by go_num,by rw[NX.o];exact OD.o,BD.o⟩,zS⟩
 have hkn:k=l.length:=zQ
 subst hkn;have CR:=yH (aI8 OE.o);go_wp2_with fail;refine CR.o.mono ?_;rintro e w1 ⟨v,rfl,hv,hb,rfl⟩;have HV:=yH hv;obtain⟨aov,capv,rfl,_⟩:=hv.look;clear hb hv CR;go_wp2_with fail;refine bodyPost_ret (v:=.slice aov (aIv l L l.length).length capv) (by simp[results,Tryz.results253,go_sem]) rfl ?_;exact⟨_,rfl,HV.o,BB.o⟩
theorem of1_any(x y:Fw)(m:Int)(w:World):
  Calls Tryz.prog 331 #[.agg #[.int .u8 x.fr,.int .u8 x.tt,.int .i64 x.am,.int .i64 m],.agg #[.int .u8 y.fr,.int .u8 y.tt,.int .i64 y.am]] w (yR w (.int .i64 (ordF x y))):=by
 have CO:=yH (fun w=>aOk x y w);have B0:=yH (((Below.refl w.heap.size w).alloc yL (.cells #[.int .u8 x.fr,.int .u8 x.tt,.int .i64 x.am,.int .i64 m] 375)).alloc zV (.cells #[.int .u8 y.fr,.int .u8 y.tt,.int .i64 y.am] 209));go_enter Tryz.func331,Tryz.ntmps331;go_wp2_with fail;refine(CO.o _).mono ?_;rintro e w1 ⟨rfl,b1⟩;have B1:=yH (B0.o.trans (b1.mono zU));clear b1;go_wp2_with fail;go_ret;exact⟨rfl,B1.o⟩
def BsAt(w:World)(l:List Fw)(key:Int)(i j:Value)(wr:World):Prop:=
 ∃p q:Nat,p≤q∧q≤l.length∧i=.int .i64 p∧j=.int .i64 q∧Hid (∀m,m<p→keyD (dbt l m)<key)∧Hid (∀m,q≤m→m<l.length→key≤keyD (dbt l m))∧Below w.heap.size w wr
def BsPost(l:List Fw)(key:Int)(w:World)(e:Ending)(w':World):Prop:=
 Below w.heap.size w w'∧∃(p:Nat) (f:Bool),e=.returned (.tuple #[.int .i64 p,.bool f])∧(f=true→p<l.length∧keyD (dbt l p)=key)∧(f=false→∀m,m<l.length→keyD (dbt l m)≠key)
theorem bs_any{w:World}{base:Nat}{c:Value}{l:List Fw}{L:Nat→Int}(hO:w.ownsRow base 375 4 c l.length (aBu l L l.length))(hM:MayD l)(hln:l.length≤300)(a b:Int)(hb:0≤b∧b≤255):
  Calls Tryz.prog 330 #[c,.agg #[.int .u8 a,.int .u8 b,.int .i64 0],.func (.func 331) #[] #[]] w (BsPost l (keyD ⟨a,b,0⟩) w):=by
 obtain⟨ao,cap,rfl,_,_,_,hown⟩:=aAg hO;have HO:=yH hO;have HW:=yH hown;have HM:=yH hM;have HB:=yH hb;have B0:=yH ((Below.refl w.heap.size w).alloc yL (.cells #[.int .u8 a,.int .u8 b,.int .i64 0] 209));have K0:=yH (Blk.new w #[.int .u8 a,.int .u8 b,.int .i64 0] 209);clear hO hown hM hb;go_enter Tryz.func330,Tryz.ntmps330;go_wp2_with fail;generalize hW0:(w.alloc (.cells #[.int .u8 a,.int .u8 b,.int .i64 0] 209))=w0 at B0 K0 ⊢;have hsz:w0.heap.size=w.heap.size+1:=by rw[←hW0];simp
 have HSZ:=yH hsz;clear hW0 hsz
 go_loopw [9,10,11] (fun i j _ wr=>BsAt w0 l (keyD ⟨a,b,0⟩) i j wr) (fun i j _ _=>(intOf j).toNat - (intOf i).toNat)
 case atStart=>exact⟨0,l.length,zQ,zQ,rfl,rfl,yH (fun m h=>zQ),yH (fun m h g=>zQ),yZ⟩
 obtain⟨p,q,hpq,hq,rfl,rfl,HL,HR,hB⟩:=hrel;have BB:=yH hB;clear hB
 by_cases hlt:p<q
 ·have p1:(p:Int)<(q:Int):=zQ
  have p2:(q:Int)≤300:=zQ
  obtain⟨m,hm⟩:∃m,(p+q)/2=m:=⟨_,rfl⟩;have hml:m<l.length:=zQ
  have hm1:p≤m:=zQ
  have hm2:m<q:=zQ
  have HPQ:=yH hm;obtain⟨g,rfl,_,hgw,_,_⟩:=HW.o zQ;obtain⟨e0,e1,e2,e3⟩:=aJm HO.o hml;have hg0:g<w0.heap.size:=xM
  have BW:=yH (B0.o.trans (BB.o.mono xM));have d0:=(BW.o.cell (p:=⟨g,m*4,none⟩) hgw).trans e0;have d1:=(BW.o.cell (p:=⟨g,m*4+1,none⟩) hgw).trans e1;have d2:=(BW.o.cell (p:=⟨g,m*4+2,none⟩) hgw).trans e2;have d3:=(BW.o.cell (p:=⟨g,m*4+3,none⟩) hgw).trans e3;have hbr:g<wr.heap.size:=yM hg0 BB.o.size;have hok:=HM.o.ok m hml;have HK:=yH (aPk (a:=dbt l m) (b:=⟨a,b,0⟩) ⟨uF hok.2.1.1,uF hok.2.1.2⟩ HB.o);have CO:=yH (fun w=>of1_any ⟨(dbt l m).fr,(dbt l m).tt,L m⟩ ⟨a,b,0⟩ ((dbt l m).am - L m) w);rw[show ordF ⟨(dbt l m).fr,(dbt l m).tt,L m⟩ ⟨a,b,0⟩=ordF (dbt l m) ⟨a,b,0⟩from rfl]at CO;dsimp only at CO;have KW:=yH (K0.o.below BB.o K0.o.lt);obtain⟨oo,hoo⟩:∃oo,ordF (dbt l m) ⟨a,b,0⟩=oo:=⟨_,rfl⟩;rw[hoo]at HK CO;obtain⟨fr,hfr⟩:∃x,(dbt l m).fr=x:=⟨_,rfl⟩;obtain⟨tt,htt⟩:∃x,(dbt l m).tt=x:=⟨_,rfl⟩;obtain⟨tk,htk⟩:∃x,(dbt l m).am - L m=x:=⟨_,rfl⟩;obtain⟨n,hn⟩:∃x,L m=x:=⟨_,rfl⟩;rw[hfr]at d0 CO;rw[htt]at d1 CO;rw[htk]at d3 CO;rw[hn]at d2 CO;obtain⟨N,hN⟩:∃N,l.length=N:=⟨_,rfl⟩;have HN:=yH hN;have HML:=yH hml;rw[hN]at hml ⊢;have i0:(0:Int)≤(m:Int):=zQ
  have i1:(m:Int)<(N:Int):=zQ
  have hmi:((p:Int)+(q:Int))/2=(m:Int):=zQ
  have HMI:=yH hmi;clear e0 e1 e2 e3 hok hfr htt htk hn hN hm hmi hoo hgw;go_wp2_with fail;rw[HMI.o]
  by_cases hless:keyD (dbt l m)<keyD ⟨a,b,0⟩
  ·have ho:oo = -1:=by rw[HK.o];unfold cmpD;rw[if_pos hless]
   have NL:Hid (∀x,x<m+1→keyD (dbt l x)<keyD ⟨a,b,0⟩):=yH (fun x hx=>by
    by_cases e:x=m
    ·subst e;exact hless
    have:=HM.o.lt (i:=x) (m - x - 1) yY;rw[show x+(m - x - 1)+1=m by omega]at this;omega)
   rw[ho]at CO;clear ho hless HK
   -- A
   refine aAl zW [(.func (.func 331) #[] #[]),(.slice (some ⟨g,0,none⟩) N cap),(.int .i64 (m:Nat)),(.pointer (some ⟨g,m*4,none⟩)),(.agg #[.int .u8 fr,.int .u8 tt,.int .i64 n,.int .i64 tk]),(.agg #[.int .u8 a,.int .u8 b,.int .i64 0]),(.int .i64 (-1)),(.bool true)]
    (fun w'=>Below wr.heap.size wr w') zW yZ.drew ?_
   intro af haf;simp only[yG,List.append_eq,List.cons_append,List.nil_append,puts,Act.put,yA,yC,yF,yD,yE]at haf;subst haf;refine⟨?_,?_⟩
   ·simp only[yG,List.append_eq,List.cons_append,List.nil_append,aA6];refine⟨?z1,?z2,?z3,?z4,?_,?_,?_,?z5,trivial⟩
    case z1|z2|z3|z4|z5=>
     intro w' hS;refine yO rfl ?_;have HS:=yH hS;clear hS;go_wp2_with fail;all_goals first|exact HS|exact⟨rfl,HS⟩|rfl|exact⟨zQ,HS.o⟩
    ·intro w' hS;refine yO rfl ?_;have r0:=(hS.cell (p:=⟨g,m*4,none⟩) hbr).trans d0;have r1:=(hS.cell (p:=⟨g,m*4+1,none⟩) hbr).trans d1;have r2:=(hS.cell (p:=⟨g,m*4+2,none⟩) hbr).trans d2;have r3:=(hS.cell (p:=⟨g,m*4+3,none⟩) hbr).trans d3;have HS:=yH hS;clear hS;go_wp2_with fail;all_goals first|exact HS|exact⟨rfl,HS⟩|rfl|exact⟨zQ,HS.o⟩
    ·intro w' hS;refine yO rfl ?_;have d0_0:=(KW.o.below hS KW.o.lt).cell 0;have d0_1:=(KW.o.below hS KW.o.lt).cell 1;have d0_2:=(KW.o.below hS KW.o.lt).cell 2;simp at d0_0 d0_1 d0_2;have HS:=yH hS;clear hS;go_wp2_with fail;all_goals first|exact HS|exact⟨rfl,HS⟩|rfl|exact⟨zQ,HS.o⟩
    intro w' hS;refine yO rfl ?_;have HS:=yH hS;clear hS;go_wp2_with fail;refine(CO.o w').mono ?_;rintro e w'' ⟨rfl,hb2⟩;exact⟨rfl,andB HS.o hb2⟩
   -- END
   intro w2 hb;have B2:=yH (andB BB.o hb);clear hb;go_wp2_with fail;exact⟨⟨m+1,q,zQ,zQ,by go_num,rfl,NL,HR,B2.o⟩,zS⟩
  have ho:0≤oo:=by rw[HK.o];unfold cmpD;rw[if_neg hless];split <;> decide
  have ho2:decide (oo<0)=false:=zU
  have NR:Hid (∀x,m≤x→x<l.length→keyD ⟨a,b,0⟩≤keyD (dbt l x)):=yH (fun x hx hxl=>by
   by_cases e:x=m
   ·subst e;omega
   have:=HM.o.lt (i:=m) (x - m - 1) zQ;rw[show m+(x - m - 1)+1=x by omega]at this;omega)
  clear ho hless HK
  -- B
  refine aAl zW [(.func (.func 331) #[] #[]),(.slice (some ⟨g,0,none⟩) N cap),(.int .i64 (m:Nat)),(.pointer (some ⟨g,m*4,none⟩)),(.agg #[.int .u8 fr,.int .u8 tt,.int .i64 n,.int .i64 tk]),(.agg #[.int .u8 a,.int .u8 b,.int .i64 0]),(.int .i64 oo),(.bool false)]
   (fun w'=>Below wr.heap.size wr w') zW yZ.drew ?_
  intro af haf;simp only[yG,List.append_eq,List.cons_append,List.nil_append,puts,Act.put,yA,yC,yF,yD,yE]at haf;subst haf;refine⟨?_,?_⟩
  ·simp only[yG,List.append_eq,List.cons_append,List.nil_append,aA6];refine⟨?z6,?z7,?z8,?z9,?_,?_,?_,?z10,trivial⟩
   case z6|z7|z8|z9|z10=>
    intro w' hS;refine yO rfl ?_;have HS:=yH hS;clear hS;go_wp2_with fail;all_goals first|exact HS|exact⟨rfl,HS⟩|rfl|exact⟨zQ,HS.o⟩
   ·intro w' hS;refine yO rfl ?_;have r0:=(hS.cell (p:=⟨g,m*4,none⟩) hbr).trans d0;have r1:=(hS.cell (p:=⟨g,m*4+1,none⟩) hbr).trans d1;have r2:=(hS.cell (p:=⟨g,m*4+2,none⟩) hbr).trans d2;have r3:=(hS.cell (p:=⟨g,m*4+3,none⟩) hbr).trans d3;have HS:=yH hS;clear hS;go_wp2_with fail;all_goals first|exact HS|exact⟨rfl,HS⟩|rfl|exact⟨zQ,HS.o⟩
   ·intro w' hS;refine yO rfl ?_;have d0_0:=(KW.o.below hS KW.o.lt).cell 0;have d0_1:=(KW.o.below hS KW.o.lt).cell 1;have d0_2:=(KW.o.below hS KW.o.lt).cell 2;simp at d0_0 d0_1 d0_2;have HS:=yH hS;clear hS;go_wp2_with fail;all_goals first|exact HS|exact⟨rfl,HS⟩|rfl|exact⟨zQ,HS.o⟩
   intro w' hS;refine yO rfl ?_;have HS:=yH hS;clear hS;go_wp2_with fail;refine(CO.o w').mono ?_;rintro e w'' ⟨rfl,hb2⟩;exact⟨rfl,andB HS.o hb2⟩
  -- END
  intro w2 hb;have B2:=yH (andB BB.o hb);clear hb;go_wp2_with fail;exact⟨⟨p,m,zQ,zO,rfl,rfl,HL,NR,B2.o⟩,zS⟩
 have hpe:p=q:=zQ
 subst hpe;have q0:decide ((p:Int)<(p:Int))=false:=zV
 by_cases hml:p<l.length
 ·obtain⟨m,hm⟩:∃m,p=m:=⟨_,rfl⟩;subst hm;obtain⟨g,rfl,_,hgw,_,_⟩:=HW.o zQ;obtain⟨e0,e1,e2,e3⟩:=aJm HO.o hml;have hg0:g<w0.heap.size:=xM
  have BW:=yH (B0.o.trans (BB.o.mono xM));have d0:=(BW.o.cell (p:=⟨g,p*4,none⟩) hgw).trans e0;have d1:=(BW.o.cell (p:=⟨g,p*4+1,none⟩) hgw).trans e1;have d2:=(BW.o.cell (p:=⟨g,p*4+2,none⟩) hgw).trans e2;have d3:=(BW.o.cell (p:=⟨g,p*4+3,none⟩) hgw).trans e3;have hbr:g<wr.heap.size:=yM hg0 BB.o.size;have hok:=HM.o.ok p hml;have HK:=yH (aPk (a:=dbt l p) (b:=⟨a,b,0⟩) ⟨uF hok.2.1.1,uF hok.2.1.2⟩ HB.o);have CO:=yH (fun w=>of1_any ⟨(dbt l p).fr,(dbt l p).tt,L p⟩ ⟨a,b,0⟩ ((dbt l p).am - L p) w);rw[show ordF ⟨(dbt l p).fr,(dbt l p).tt,L p⟩ ⟨a,b,0⟩=ordF (dbt l p) ⟨a,b,0⟩from rfl]at CO;dsimp only at CO;have KW:=yH (K0.o.below BB.o K0.o.lt);obtain⟨oo,hoo⟩:∃oo,ordF (dbt l p) ⟨a,b,0⟩=oo:=⟨_,rfl⟩;rw[hoo]at HK CO;obtain⟨fr,hfr⟩:∃x,(dbt l p).fr=x:=⟨_,rfl⟩;obtain⟨tt,htt⟩:∃x,(dbt l p).tt=x:=⟨_,rfl⟩;obtain⟨tk,htk⟩:∃x,(dbt l p).am - L p=x:=⟨_,rfl⟩;obtain⟨n,hn⟩:∃x,L p=x:=⟨_,rfl⟩;rw[hfr]at d0 CO;rw[htt]at d1 CO;rw[htk]at d3 CO;rw[hn]at d2 CO;obtain⟨N,hN⟩:∃N,l.length=N:=⟨_,rfl⟩;have HML:=yH hml;rw[hN]at hml ⊢;have i0:(0:Int)≤(p:Int):=zQ
  have i1:(p:Int)<(N:Int):=zQ
  have i2:decide ((p:Int)<(N:Int))=true:=uN hml
  clear e0 e1 e2 e3 hok hfr htt htk hn hN hoo hgw
  by_cases heq:keyD (dbt l p)=keyD ⟨a,b,0⟩
  ·have ho:oo=0:=by rw[HK.o,heq];unfold cmpD;rw[if_neg zQ,if_neg zQ]
   have HEQ:=yH heq;rw[ho]at CO;clear ho heq HK;go_wp2_with fail
   -- C
   refine aAl zW [(.int .i64 (p:Nat)),(.int .i64 (p:Nat)),(.int .i64 (N:Nat)),(.bool true),(.bool true),(.func (.func 331) #[] #[]),(.slice (some ⟨g,0,none⟩) N cap),(.int .i64 (p:Nat)),(.pointer (some ⟨g,p*4,none⟩)),(.agg #[.int .u8 fr,.int .u8 tt,.int .i64 n,.int .i64 tk]),(.agg #[.int .u8 a,.int .u8 b,.int .i64 0]),(.int .i64 0),(.bool true),(.bool true),(.int .i64 (p:Nat)),(.bool true)]
    (fun w'=>Below wr.heap.size wr w') zW yZ.drew ?_
   intro af haf;simp only[yG,List.append_eq,List.cons_append,List.nil_append,puts,Act.put,yA,yC,yF,yD,yE]at haf;subst haf;refine⟨?_,?_⟩
   ·simp only[yG,List.append_eq,List.cons_append,List.nil_append,aA6];refine⟨?z11,?z12,?z13,?z14,?z15,?z19,?z20,?z21,?z22,?_,?_,?_,?z23,?z16,?z17,?z18,trivial⟩
    case z11|z12|z13|z14|z15|z16|z17|z18=>
     intro w' hS;refine yO rfl ?_;have HS:=yH hS;clear hS;go_wp2_with fail;all_goals first|exact HS|exact⟨rfl,HS⟩|rfl|exact⟨zQ,HS.o⟩
    case z19|z20|z21|z22|z23=>
     intro w' hS;refine OpTo.wanted ?_ ?_
     kernel_rfl
     have HS:=yH hS;clear hS;go_wp2_with fail;all_goals first|exact HS|exact⟨rfl,HS⟩|rfl|exact⟨zQ,HS.o⟩
    ·intro w' hS;refine OpTo.wanted ?_ ?_
     kernel_rfl
     have r0:=(hS.cell (p:=⟨g,p*4,none⟩) hbr).trans d0;have r1:=(hS.cell (p:=⟨g,p*4+1,none⟩) hbr).trans d1;have r2:=(hS.cell (p:=⟨g,p*4+2,none⟩) hbr).trans d2;have r3:=(hS.cell (p:=⟨g,p*4+3,none⟩) hbr).trans d3;have HS:=yH hS;clear hS;go_wp2_with fail;all_goals first|exact HS|exact⟨rfl,HS⟩|rfl|exact⟨zQ,HS.o⟩
    ·intro w' hS;refine OpTo.wanted ?_ ?_
     kernel_rfl
     have d0_0:=(KW.o.below hS KW.o.lt).cell 0;have d0_1:=(KW.o.below hS KW.o.lt).cell 1;have d0_2:=(KW.o.below hS KW.o.lt).cell 2;simp at d0_0 d0_1 d0_2;have HS:=yH hS;clear hS;go_wp2_with fail;all_goals first|exact HS|exact⟨rfl,HS⟩|rfl|exact⟨zQ,HS.o⟩
    intro w' hS;refine OpTo.wanted ?_ ?_
    kernel_rfl
    have HS:=yH hS;clear hS;go_wp2_with fail;refine(CO.o w').mono ?_;rintro e w'' ⟨rfl,hb2⟩;exact⟨rfl,andB HS.o hb2⟩
   -- END
   intro w2 hb;have B2:=yH (B0.o.trans ((andB BB.o hb).mono xM));clear hb;go_wp2_with fail;go_ret2;exact⟨B2.o,p,true,rfl,fun _=>⟨HML.o,HEQ.o⟩,fun h=>xW⟩
  have hgt:keyD ⟨a,b,0⟩<keyD (dbt l p):=uF (HR.o p yL HML.o)
  have ho:oo=1:=by rw[HK.o];unfold cmpD;rw[if_neg zQ,if_pos hgt]
  have NN:Hid (∀x,x<l.length→keyD (dbt l x)≠keyD ⟨a,b,0⟩):=yH (fun x hx=>by
   rcases Nat.lt_trichotomy x p with e|e|e
   ·have:=HL.o x e;omega
   ·subst e;exact heq
   have:=HR.o p yL HML.o;have:=HM.o.lt (i:=p) (x - p - 1) zQ;rw[show p+(x - p - 1)+1=x by omega]at this;omega)
  rw[ho]at CO;clear ho heq HK hgt;go_wp2_with fail
  -- D
  refine aAl zW [(.int .i64 (p:Nat)),(.int .i64 (p:Nat)),(.int .i64 (N:Nat)),(.bool true),(.bool true),(.func (.func 331) #[] #[]),(.slice (some ⟨g,0,none⟩) N cap),(.int .i64 (p:Nat)),(.pointer (some ⟨g,p*4,none⟩)),(.agg #[.int .u8 fr,.int .u8 tt,.int .i64 n,.int .i64 tk]),(.agg #[.int .u8 a,.int .u8 b,.int .i64 0]),(.int .i64 1),(.bool false),(.bool false),(.int .i64 (p:Nat)),(.bool false)]
   (fun w'=>Below wr.heap.size wr w') zW yZ.drew ?_
  intro af haf;simp only[yG,List.append_eq,List.cons_append,List.nil_append,puts,Act.put,yA,yC,yF,yD,yE]at haf;subst haf;refine⟨?_,?_⟩
  ·simp only[yG,List.append_eq,List.cons_append,List.nil_append,aA6];refine⟨?z24,?z25,?z26,?z27,?z28,?z32,?z33,?z34,?z35,?_,?_,?_,?z36,?z29,?z30,?z31,trivial⟩
   case z24|z25|z26|z27|z28|z29|z30|z31=>
    intro w' hS;refine yO rfl ?_;have HS:=yH hS;clear hS;go_wp2_with fail;all_goals first|exact HS|exact⟨rfl,HS⟩|rfl|exact⟨zQ,HS.o⟩
   case z32|z33|z34|z35|z36=>
    intro w' hS;refine OpTo.wanted ?_ ?_
    kernel_rfl
    have HS:=yH hS;clear hS;go_wp2_with fail;all_goals first|exact HS|exact⟨rfl,HS⟩|rfl|exact⟨zQ,HS.o⟩
   ·intro w' hS;refine OpTo.wanted ?_ ?_
    kernel_rfl
    have r0:=(hS.cell (p:=⟨g,p*4,none⟩) hbr).trans d0;have r1:=(hS.cell (p:=⟨g,p*4+1,none⟩) hbr).trans d1;have r2:=(hS.cell (p:=⟨g,p*4+2,none⟩) hbr).trans d2;have r3:=(hS.cell (p:=⟨g,p*4+3,none⟩) hbr).trans d3;have HS:=yH hS;clear hS;go_wp2_with fail;all_goals first|exact HS|exact⟨rfl,HS⟩|rfl|exact⟨zQ,HS.o⟩
   ·intro w' hS;refine OpTo.wanted ?_ ?_
    kernel_rfl
    have d0_0:=(KW.o.below hS KW.o.lt).cell 0;have d0_1:=(KW.o.below hS KW.o.lt).cell 1;have d0_2:=(KW.o.below hS KW.o.lt).cell 2;simp at d0_0 d0_1 d0_2;have HS:=yH hS;clear hS;go_wp2_with fail;all_goals first|exact HS|exact⟨rfl,HS⟩|rfl|exact⟨zQ,HS.o⟩
   intro w' hS;refine OpTo.wanted ?_ ?_
   kernel_rfl
   have HS:=yH hS;clear hS;go_wp2_with fail;refine(CO.o w').mono ?_;rintro e w'' ⟨rfl,hb2⟩;exact⟨rfl,andB HS.o hb2⟩
  -- END
  intro w2 hb;have B2:=yH (B0.o.trans ((andB BB.o hb).mono xM));clear hb;go_wp2_with fail;go_ret2;exact⟨B2.o,p,false,rfl,(fun h=>xW),fun _=>NN.o⟩
 have hpN:p=l.length:=zQ
 have NN:Hid (∀x,x<l.length→keyD (dbt l x)≠keyD ⟨a,b,0⟩):=yH (fun x hx=>by
  have:=HL.o x zQ;omega)
 subst hpN;go_wp2_with fail
 -- E
 refine aAl zW [(.int .i64 (l.length:Nat)),(.int .i64 (l.length:Nat)),(.int .i64 (l.length:Nat)),(.bool false),(.bool false),undef,undef,undef,undef,undef,undef,undef,undef,(.bool false),(.int .i64 (l.length:Nat)),(.bool false)]
  (fun w'=>Below wr.heap.size wr w') zW yZ.drew ?_
 intro af haf;simp only[yG,List.append_eq,List.cons_append,List.nil_append,puts,Act.put,yA,yC,yF,yD,yE]at haf;subst haf;refine⟨?_,?_⟩
 ·simp only[yG,List.append_eq,List.cons_append,List.nil_append,aA6];refine⟨?z37,?z38,?z39,?z40,?z41,?z45,?z46,?z47,?z48,?z49,?z50,?z51,?z52,?z42,?z43,?z44,trivial⟩
  case z37|z38|z39|z40|z41|z42|z43|z44=>
   intro w' hS;refine yO rfl ?_;have HS:=yH hS;clear hS;go_wp2_with fail;all_goals first|exact HS|exact⟨rfl,HS⟩|rfl|exact⟨zQ,HS.o⟩
  case z45|z46|z47|z48|z49|z50|z51|z52=>
   intro w' hS;refine pAC zW rfl hS
 -- END
 intro w2 hb;have B2:=yH (B0.o.trans ((andB BB.o hb).mono xM));clear hb;go_wp2_with fail;go_ret2;exact⟨B2.o,l.length,false,rfl,(fun h=>xW),fun _=>NN.o⟩
theorem key_ends{x y:Fw}(h1:0≤x.tt∧x.tt≤255)(h2:0≤y.tt∧y.tt≤255):keyD x=keyD y↔x.fr=y.fr∧x.tt=y.tt:=by
 unfold keyD
 constructor
 ·intro h;constructor <;> omega
 rintro⟨h,g⟩;rw[h,g]
theorem MayD.tt8{l:List Fw}(h:MayD l){i:Nat}(hi:i<l.length):0≤(dbt l i).tt∧(dbt l i).tt≤255:=by
 have:=(h.ok i hi).2.1;unfold inP at this;omega
def ofPost(t:TypeId)(l:List Fw)(B:Nat)(a b:Int)(w:World)(e:Ending)(w':World):Prop:=
 Below w.heap.size w w'∧((∃i,i<l.length∧(dbt l i).fr=a∧(dbt l i).tt=b∧e=.returned (.pointer (some ⟨B,i*4,none⟩)))∨
  ((∀i,i<l.length→¬((dbt l i).fr=a∧(dbt l i).tt=b))∧∃g,e=.returned (.pointer (some ⟨g,0,none⟩))∧w.heap.size≤g∧Blk w' g #[.int .u8 0,.int .u8 0,.int .i64 0,.int .i64 0] t))
theorem cof_any{w:World}{base B cap:Nat}{l:List Fw}{L:Nat→Int}(hO:w.ownsRow base 375 4 (.slice (some ⟨B,0,none⟩) l.length cap) l.length (aBu l L l.length))(hM:MayD l)(hln:l.length≤300)(a b:Int)(hb:0≤b∧b≤255):
  Calls Tryz.prog 311 #[.slice (some ⟨B,0,none⟩) l.length cap,.int .u8 a,.int .u8 b] w (ofPost 375 l B a b w):=by
 have CB:=yH (bs_any hO hM hln a b hb);have HM:=yH hM;have HB:=yH hb;clear hO hM hb;go_enter Tryz.func311,Tryz.ntmps311;go_wp2_with fail;refine CB.o.mono ?_;rintro e w1 ⟨hb1,p,f,rfl,h1,h2⟩;have B1:=yH hb1;clear hb1 CB
 cases f with
 | true=>
  obtain⟨h3,h4⟩:=h1 rfl;have HP:Hid (p<l.length∧(dbt l p).fr=a∧(dbt l p).tt=b):=yH ⟨h3,(key_ends (HM.o.tt8 h3) HB.o).1 h4⟩;have p0:(0:Int)≤(p:Int):=zQ
  have p1:(p:Int)<(l.length:Int):=zQ
  clear h1 h2 h4;go_wp2_with fail;go_ret;exact⟨B1.o,.inl ⟨p,HP.o.1,HP.o.2.1,HP.o.2.2,rfl⟩⟩
 | false=>
  have HN:Hid (∀i,i<l.length→¬((dbt l i).fr=a∧(dbt l i).tt=b)):=yH fun i hi h=>h2 rfl i hi ((key_ends (HM.o.tt8 hi) HB.o).2 h)
  clear h1 h2;go_wp2_with fail;go_ret;exact⟨B1.o.alloc B1.o.size _,.inr ⟨HN.o,w1.heap.size,rfl,B1.o.size,Blk.new _ _ _⟩⟩
def sgS(l:List Fw)(L:Nat→Int)(a b:Int):Int:=if bkS l L a b then -1 else 1
def aHu(l:List Fw)(L:Nat→Int)(B:Nat)(a b:Int)(w:World)(e:Ending)(w':World):Prop:=
 e=.returned (.agg #[.pointer (some ⟨B,ixS l L a b*4,none⟩),.int .i64 (sgS l L a b)])∧Below w.heap.size w w'
theorem pA_ix{l:List Fw}{L:Nat→Int}(hM:MayD l){a b:Int}{i:Nat}(hi:i<l.length)(h1:(dbt l i).fr=a)(h2:(dbt l i).tt=b)(h3:0<L i):bkS l L a b=false∧ixS l L a b=i:=by
 have hp:pA l L a b i=true:=by unfold pA;simp[h1,h2,h3]
 have:=aKb hi hp (fun j hj hq=>by
  unfold pA at hq;simp only[Bool.and_eq_true,beq_iff_eq,decide_eq_true_eq]at hq;exact hM.inj hj hi (by rw[hq.1.1,h1]) (by rw[hq.1.2,h2]))
 unfold bkS ixS;rw[this];exact⟨rfl,rfl⟩
theorem cstep_any{w:World}{base B cap:Nat}{l:List Fw}{L:Nat→Int}(hO:w.ownsRow base 375 4 (.slice (some ⟨B,0,none⟩) l.length cap) l.length (aBu l L l.length))(hM:MayD l)(hln:l.length≤300)(hL:RdOk l L){a b:Int}(hb:0≤b∧b≤255)(ha:0≤a∧a≤255){c:Int→Int→Int}(hS:StD l L c a b)(hBl:B<w.heap.size):
  Calls Tryz.prog 284 #[.slice (some ⟨B,0,none⟩) l.length cap,.int .u8 a,.int .u8 b] w (aHu l L B a b w):=by
 have B0:=yH ((Below.refl w.heap.size w).alloc yL (.cells #[.pointer none,.int .i64 0] 382));have K0:=yH (Blk.new w #[.pointer none,.int .i64 0] 382);have O0:=yH (aAf hO ((Below.refl w.heap.size w).alloc yL (.cells #[.pointer none,.int .i64 0] 382)));have CA:=yH (cof_any O0.o hM hln a b hb);have HM:=yH hM;have HS:=yH hS;have HAB:=yH (And.intro ha hb);clear hO hM hb ha hS hL;go_enter Tryz.func284,Tryz.ntmps284;go_wp2_with fail;generalize (w.alloc (.cells #[.pointer none,.int .i64 0] 382))=w0 at B0 K0 O0 CA ⊢;refine CA.o.mono ?_;rintro e w1 ⟨hb1,hcase⟩;have B1:=yT B0 hb1;have K1:=yB K0 hb1;have O1:=yH (aAf O0.o hb1);clear CA hb1
 -- the second look
 have second:Hid (bkS l L a b=true→Calls Tryz.prog 311 #[.slice (some ⟨B,0,none⟩) l.length cap,.int .u8 b,.int .u8 a] w1 (yR w1 (.pointer (some ⟨B,ixS l L a b*4,none⟩)))):=yH (fun hbk=>by
  refine(cof_any O1.o HM.o hln b a HAB.o.1).mono ?_;rintro e w2 ⟨hb2,⟨i,hi,h1,h2,rfl⟩|⟨hn,_⟩⟩
  ·refine⟨?_,hb2⟩;rcases HS.o.is with⟨q,_⟩|⟨_,q1,q2,_⟩
   ·rw[q]at hbk
    cases hbk
   rw[HM.o.inj hi HS.o.ix (by rw[h1,q1]) (by rw[h2,q2])]
  rcases HS.o.is with⟨q,_⟩|⟨_,q1,q2,_⟩
  ·rw[q]at hbk
   cases hbk
  exact absurd ⟨q1,q2⟩ (hn _ HS.o.ix))
 rcases hcase with⟨i,hi,h1,h2,rfl⟩|⟨hn,g,rfl,hg,hk⟩
 ·obtain⟨e0,e1,e2,e3⟩:=aJm O1.o hi
  by_cases hp:0<L i
  ·obtain⟨q1,q2⟩:=pA_ix HM.o hi h1 h2 hp;have HQ:Hid (aHu l L B a b w (.returned (.agg #[.pointer (some ⟨B,i*4,none⟩),.int .i64 1])) ((w1.setCell ⟨w.heap.size,0,none⟩ (.pointer (some ⟨B,i*4,none⟩))).setCell ⟨w.heap.size,1,none⟩ (.int .i64 1))):=yH ⟨by unfold sgS;rw[q1,q2];rfl,(B1.o.setCell yL _).setCell yL _⟩;have d0:=K1.o.cell 0;have d1:=K1.o.cell 1;have f0:=K1.o.frozen 0;have f1:=K1.o.frozen 1;simp at d0 d1;clear second h1 h2 q1 q2;go_wp2_with fail;refine bodyPost_ret (v:=.agg #[.pointer (some ⟨B,i*4,none⟩),.int .i64 1]) (results_cell_row rfl _ _ w.heap.size 382 #[.pointer (some ⟨B,i*4,none⟩),.int .i64 1] (0,0) _ rfl ((K1.o.set 0 (.pointer (some ⟨B,i*4,none⟩))).set 1 (.int .i64 1)).out Tryz.underlying382 rfl zW) rfl HQ.o
  have hbk:bkS l L a b=true:=by
   rcases HS.o.is with⟨_,q1,q2,q3,_⟩|⟨q,_⟩
   ·have:=HM.o.inj hi HS.o.ix (by rw[h1,q1]) (by rw[h2,q2]);rw[←this]at q3;exact absurd q3 hp
   exact q
  have hp':decide (0<L i)=false:=y8
  have CS:=yH (second.out hbk);have HBK:=yH hbk;clear second h1 h2 hbk;go_wp2_with fail;refine CS.o.mono ?_;rintro e w2 ⟨rfl,hb2⟩;have K2:=K1.o.below hb2 K1.o.lt;have d0:=K2.cell 0;have d1:=K2.cell 1;have f0:=K2.frozen 0;have f1:=K2.frozen 1;have HK2:=yH K2;have HQ:Hid (aHu l L B a b w (.returned (.agg #[.pointer (some ⟨B,ixS l L a b*4,none⟩),.int .i64 (-1)])) ((w2.setCell ⟨w.heap.size,0,none⟩ (.pointer (some ⟨B,ixS l L a b*4,none⟩))).setCell ⟨w.heap.size,1,none⟩ (.int .i64 (-1)))):=yH ⟨by unfold sgS;rw[HBK.o];rfl,((B1.o.trans (hb2.mono B1.o.size)).setCell yL _).setCell yL _⟩;simp at d0 d1;clear K2 hb2 CS e0 e1 e2 e3;go_wp2_with fail;refine bodyPost_ret (v:=.agg #[.pointer (some ⟨B,ixS l L a b*4,none⟩),.int .i64 (-1)]) (results_cell_row rfl _ _ w.heap.size 382 #[.pointer (some ⟨B,ixS l L a b*4,none⟩),.int .i64 (-1)] (0,0) _ rfl ((HK2.o.set 0 (.pointer (some ⟨B,ixS l L a b*4,none⟩))).set 1 (.int .i64 (-1))).out Tryz.underlying382 rfl zW) rfl HQ.o
 have hbk:bkS l L a b=true:=by
  rcases HS.o.is with⟨_,q1,q2,q3,_⟩|⟨q,_⟩
  ·exact absurd ⟨q1,q2⟩ (hn _ HS.o.ix)
  exact q
 have CS:=yH (second.out hbk);have HBK:=yH hbk;have e2:=hk.cell 2;simp at e2;clear second hbk hn hk;go_wp2_with fail;refine CS.o.mono ?_;rintro e w2 ⟨rfl,hb2⟩;have K2:=K1.o.below hb2 K1.o.lt;have d0:=K2.cell 0;have d1:=K2.cell 1;have f0:=K2.frozen 0;have f1:=K2.frozen 1;have HK2:=yH K2;have HQ:Hid (aHu l L B a b w (.returned (.agg #[.pointer (some ⟨B,ixS l L a b*4,none⟩),.int .i64 (-1)])) ((w2.setCell ⟨w.heap.size,0,none⟩ (.pointer (some ⟨B,ixS l L a b*4,none⟩))).setCell ⟨w.heap.size,1,none⟩ (.int .i64 (-1)))):=yH ⟨by unfold sgS;rw[HBK.o];rfl,((B1.o.trans (hb2.mono B1.o.size)).setCell yL _).setCell yL _⟩;simp at d0 d1;clear K2 hb2 CS e2;go_wp2_with fail;refine bodyPost_ret (v:=.agg #[.pointer (some ⟨B,ixS l L a b*4,none⟩),.int .i64 (-1)]) (results_cell_row rfl _ _ w.heap.size 382 #[.pointer (some ⟨B,ixS l L a b*4,none⟩),.int .i64 (-1)] (0,0) _ rfl ((HK2.o.set 0 (.pointer (some ⟨B,ixS l L a b*4,none⟩))).set 1 (.int .i64 (-1))).out Tryz.underlying382 rfl zW) rfl HQ.o
theorem aLk{w:World}{base:Nat}{e:TypeId}{size:Nat}{g n cap:Nat}{xs:List Value}(h:w.ownsRow base e size (.slice (some ⟨g,0,none⟩) n cap) n xs)(j:Nat)(v:Value):
  (w.setCell ⟨g,j,none⟩ v).ownsRow base e size (.slice (some ⟨g,0,none⟩) n cap) n (xs.set j v):=by
 obtain⟨h1,h2⟩:=h;refine⟨zN,.inr ?_⟩;rcases h2 with⟨h2,_⟩|⟨g',cap',cur,hv,hb,hg,hm,hc,hs,ht⟩
 ·cases h2
 cases hv
 refine⟨g,cap,cur.setIfInBounds j v,rfl,hb,?_,hm,hc,uN hs,?_⟩
 ·exact Blk.set (t:=e) hg j v
 rw[Array.toList_setIfInBounds,List.take_set,ht]
theorem chas_any{w:World}{base B cap:Nat}{l:List Fw}{L:Nat→Int}(hO:w.ownsRow base 375 4 (.slice (some ⟨B,0,none⟩) l.length cap) l.length (aBu l L l.length)){i:Nat}(hi:i<l.length)(hB:B<w.heap.size)(bk:Bool):
  Calls Tryz.prog 285 #[.agg #[.pointer (some ⟨B,i*4,none⟩),.int .i64 (if bk then -1 else 1)]] w fun e w'=>e=.returned (.int .i64 (if bk then(dbt l i).am - L i else L i))∧Below w.heap.size w w':=by
 cases bk with
 | true=>
  have B0:=yH ((Below.refl w.heap.size w).alloc yL (.cells #[.pointer (some ⟨B,i*4,none⟩),.int .i64 (-1)] 382));obtain⟨e0,e1,e2,e3⟩:=aJm hO hi;clear hO e0 e1;simp only[if_true];go_enter Tryz.func285,Tryz.ntmps285;go_wp2_with fail;go_ret;exact⟨rfl,B0.o⟩
 | false=>
  have B0:=yH ((Below.refl w.heap.size w).alloc yL (.cells #[.pointer (some ⟨B,i*4,none⟩),.int .i64 1] 382));obtain⟨e0,e1,e2,e3⟩:=aJm hO hi;clear hO e0 e1;simp only[Bool.false_eq_true,if_false];go_enter Tryz.func285,Tryz.ntmps285;go_wp2_with fail;go_ret;exact⟨rfl,B0.o⟩
def aLl(t:TypeId)(base:Nat)(c:Value)(l:List Fw)(M:Nat→Int)(B:Nat)(w:World)(e:Ending)(w':World):Prop:=
 e=.returned (.tuple #[])∧w'.ownsRow base t 4 c l.length (aBu l M l.length)∧Keep (fun b=>b=B) w w'
theorem cmove_any{w:World}{base B cap:Nat}{l:List Fw}{L:Nat→Int}(hO:w.ownsRow base 375 4 (.slice (some ⟨B,0,none⟩) l.length cap) l.length (aBu l L l.length)){i:Nat}(hi:i<l.length)(hB:B<w.heap.size)(bk:Bool){n:Int}
  (hn:0≤n∧n≤1099511627776)(hl:0≤L i∧L i≤1099511627776)(ha:0≤(dbt l i).am - L i∧(dbt l i).am - L i≤1099511627776):
  Calls Tryz.prog 286 #[.agg #[.pointer (some ⟨B,i*4,none⟩),.int .i64 (if bk then -1 else 1)],.int .i64 n] w (aLl 375 base (.slice (some ⟨B,0,none⟩) l.length cap) l (updL L i (L i+if bk then n else -n)) B w):=by
 obtain⟨n0,n9⟩:=hn;obtain⟨l0,l9⟩:=hl;obtain⟨t0,t9⟩:=ha;have HSET:=yH (fun v=>aTm l L hi v);have O0:=yH hO
 cases bk with
 | true=>
  obtain⟨e0,e1,e2,e3⟩:=aJm hO hi;have hfz:=fun j=>hO.frozenAt j
  have f2:=hfz (i*4+2);have f3:=hfz (i*4+3);clear hO e0 e1 hfz;generalize hx:(dbt l i).am - L i=tk at *;generalize hy:L i=z at *;have HV:Hid ((dbt l i).am - (z+n)=(tk + -n)):=yH zQ;clear hx hy;have hm:(-1:Int)*n = -n:=zQ
  simp only[if_true];go_enter Tryz.func286,Tryz.ntmps286;go_wp2_with fail
  go_region
  go_wp2_with fail
  go_region
  go_wp2_with fail;go_end0;refine⟨rfl,?_,?_⟩
  ·have h1:=aAf (aLk (aLk O0.o (i*4+2) (.int .i64 (z+n))) (i*4+3) (.int .i64 (tk + -n))) (yZ.alloc yL (.cells #[.pointer (some ⟨B,i*4,none⟩),.int .i64 (-1)] 382));have h2:=HSET.o (z+n);rw[HV.o]at h2;rw[h2]at h1;exact h1
  ·exact((((Keep.refl (fun b=>b=B) w).setCell (p:=⟨B,i*4+2,none⟩) (.inl rfl) _).setCell (p:=⟨B,i*4+3,none⟩) (.inl rfl) _).alloc _).drew.drew
 | false=>
  obtain⟨e0,e1,e2,e3⟩:=aJm hO hi;have hfz:=fun j=>hO.frozenAt j
  have f2:=hfz (i*4+2);have f3:=hfz (i*4+3);clear hO e0 e1 hfz;generalize hx:(dbt l i).am - L i=tk at *;generalize hy:L i=z at *;have HV:Hid ((dbt l i).am - (z - n)=(tk+n)):=yH zQ;clear hx hy;have hm:(1:Int)*n=n:=zQ
  have hz:z + -n=z - n:=zQ
  simp only[Bool.false_eq_true,if_false];rw[hz];go_enter Tryz.func286,Tryz.ntmps286;go_wp2_with fail
  go_region
  go_wp2_with fail
  go_region
  go_wp2_with fail;go_end0;refine⟨rfl,?_,?_⟩
  ·have h1:=aAf (aLk (aLk O0.o (i*4+2) (.int .i64 (z - n))) (i*4+3) (.int .i64 (tk+n))) (yZ.alloc yL (.cells #[.pointer (some ⟨B,i*4,none⟩),.int .i64 (1)] 382));have h2:=HSET.o (z - n);rw[HV.o]at h2;rw[h2]at h1;exact h1
  exact((((Keep.refl (fun b=>b=B) w).setCell (p:=⟨B,i*4+2,none⟩) (.inl rfl) _).setCell (p:=⟨B,i*4+3,none⟩) (.inl rfl) _).alloc _).drew.drew
def aQ8(B:Nat)(l:List Fw)(L:Nat→Int)(v:Nat→Int)(k:Nat):List Value:=[.pointer (some ⟨B,ixS l L (v k) (v (k+1))*4,none⟩),.int .i64 (sgS l L (v k) (v (k+1)))]
def aGe(B:Nat)(l:List Fw)(L:Nat→Int)(v:Nat→Int):Nat→List Value
 | 0=>[]
 | k+1=>aGe B l L v k++aQ8 B l L v k
theorem aGf(B:Nat)(l:List Fw)(L:Nat→Int)(v:Nat→Int):∀n,(aGe B l L v n).length=n*2
 | 0=>rfl
 | n+1=>by
  show(aGe B l L v n++aQ8 B l L v n).length=_;rw[List.length_append,aGf B l L v n];show n*2+2=_;omega
theorem aIw(B:Nat)(l:List Fw)(L:Nat→Int)(v:Nat→Int){i j:Nat}(hj:j<2):∀n,i<n→(aGe B l L v n)[i*2+j]? = (aQ8 B l L v i)[j]?
 | 0,h=>zQ
 | n+1,h=>by
  show(aGe B l L v n++aQ8 B l L v n)[i*2+j]? = _
  by_cases hi:i=n
  ·subst hi;rw[List.getElem?_append_right (uT aGf),aGf];congr 1;omega
  rw[List.getElem?_append_left (uT aGf)];exact aIw B l L v hj n zQ
theorem info_st:(Tryz.prog.info? 382).map (fun i=>(i.zero,i.size,i.bytes))=some (some (.agg #[.pointer none,.int .i64 0]),2,16):=zW
def lstK(l:List Fw)(L:Nat→Int)(v:Nat→Int)(k:Nat):Int:=if k=0 then 9223372036854775807 else minK l L v k
theorem lstK_next{l:List Fw}{L:Nat→Int}{v:Nat→Int}{k:Nat}(h:avS l L (v k) (v (k+1))≤1099511627776):min (lstK l L v k) (avS l L (v k) (v (k+1)))=lstK l L v (k+1):=by
 unfold lstK;rw[if_neg (show ¬k+1=0 by omega)]
 by_cases hk:k=0
 ·subst hk;rw[if_pos rfl];show _=min (1099511627776:Int) (avS l L (v 0) (v (0+1)));generalize avS l L (v 0) (v (0+1))=x at *;rw[Int.min_eq_right zQ,Int.min_eq_right zQ]
 rw[if_neg hk];rfl
def CanAt(w:World)(B:Nat)(l:List Fw)(L:Nat→Int)(v:Nat→Int)(K:Nat)(sv lv fv i:Value)(wr:World):Prop:=
 ∃k:Nat,k≤K∧i=.int .i64 k∧lv=.int .i64 (lstK l L v k)∧fv=.int .u8 (v k)∧wr.ownsRow w.heap.size 382 2 sv k (aGe B l L v k)∧Below w.heap.size w wr
def CanAt2(w w1:World)(base:Nat)(c:Value)(B:Nat)(l:List Fw)(L:Nat→Int)(v:Nat→Int)(n:Int)(K:Nat)(i:Value)(wr:World):Prop:=
 ∃k:Nat,k≤K∧i=.int .i64 k∧wr.ownsRow base 375 4 c l.length (aBu l (tkK l L v n k) l.length)∧Keep (fun b=>b=B) w wr∧Keep (fun b=>b=B) w1 wr
theorem cancel_any{w:World}{base B cap:Nat}{l:List Fw}{L:Nat→Int}(hO:w.ownsRow base 375 4 (.slice (some ⟨B,0,none⟩) l.length cap) l.length (aBu l L l.length))(hM:MayD l)(hln:l.length≤300)(hL:RdOk l L)(hB:B<w.heap.size){W:List Int}{c:Int→Int→Int}{n:Int}(hI:CanI l L c W n)
  {rv:Value}{rb:Nat}(hR:aBk w rb 68 1 rv W.length (W.map (.int .u8))):
  Calls Tryz.prog 252 #[.slice (some ⟨B,0,none⟩) l.length cap,rv] w (aLl 375 base (.slice (some ⟨B,0,none⟩) l.length cap) l (aKc l L) B w):=by
 obtain⟨ro,rcap,rfl,_,_,_,hrow⟩:=hR.look;obtain⟨g,rfl,_,hgw,hcell,_⟩:=hrow (uF hI.k1)
 have HC:Hid (∀k,(hk:k<W.length)→w.cell? ⟨g,k,none⟩=some (.int .u8 W[k])):=yH fun k hk=>by
  rw[hcell k zQ,List.getElem?_map,List.getElem?_eq_getElem hk];rfl
 have HI:=yH hI;have HO:=yH hO;have HM:=yH hM;have HL:=yH hL;obtain⟨K,hK⟩:∃K,W.length=K:=⟨_,rfl⟩;have HK:=yH hK;obtain⟨v,hv⟩:∃v,uR W=v:=⟨_,rfl⟩;have HV:=yH hv;have k1:=hI.k1;have k16:=hI.k16;have e0:=HC.o (W.length - 1) zQ;rw[hI.last zQ,hv,hK]at e0;rw[hK]at k1 k16 ⊢
 have CS:Hid (∀k,k<K→∀w',Below w.heap.size w w'→Calls Tryz.prog 284 #[.slice (some ⟨B,0,none⟩) l.length cap,.int .u8 (v k),.int .u8 (v (k+1))] w' (aHu l L B (v k) (v (k+1)) w')):=yH fun k hk w' hb=>by
  rw[←hv];have h1:=hI.ends k;have h2:=hI.ends (k+1);exact cstep_any (aAf HO.o hb) HM.o hln HL.o ⟨zQ,zQ⟩ ⟨zQ,zQ⟩ (hI.st k (by rw[hK];exact hk)) (yM hB hb.size)
 have CH:Hid (∀k,k<K→∀w',Below w.heap.size w w'→Calls Tryz.prog 285 #[.agg #[.pointer (some ⟨B,ixS l L (v k) (v (k+1))*4,none⟩),.int .i64 (sgS l L (v k) (v (k+1)))]] w' fun e w2=>e=.returned (.int .i64 (avS l L (v k) (v (k+1))))∧Below w'.heap.size w' w2):=yH fun k hk w' hb=>by
  rw[←hv];exact chas_any (aAf HO.o hb) (hI.st k (by rw[hK];exact hk)).ix (yM hB hb.size) (bkS l L (uR W k) (uR W (k+1)))
 have AV:Hid (∀k,k<K→1≤avS l L (v k) (v (k+1))∧avS l L (v k) (v (k+1))≤1099511627776):=yH fun k hk=>by
  rw[←hv];have hs:=hI.st k (by rw[hK];exact hk);refine⟨hs.av,?_⟩;have h1:=hL.lo _ hs.ix;have h2:=hL.hi _ hs.ix;have h3:=(hM.ok _ hs.ix).2.2.2.2;unfold avS;split <;> omega
 have HLS:Hid (∀k,k≤K→0≤lstK l L v k∧lstK l L v k≤9223372036854775807):=yH fun k hk=>by
  unfold lstK
  by_cases h0:k=0
  ·rw[if_pos h0];omega
  rw[if_neg h0];have h1:=(aKd l L v k).1;have h2:=aPi l L v k (fun j hj=>(AV.o j zQ).1);omega
 have ki0:(0:Int)≤(K:Int) - 1:=zQ
 have ki1:(K:Int) - 1<(K:Int):=zQ
 clear hR hrow hcell hI hO hM hL hK hv;go_enter Tryz.func252,Tryz.ntmps252;go_wp2_with fail
 go_loopw [4,5,6,20] (CanAt w B l L v K) (fun _ _ _ i _=>K - (intOf i).toNat)
 case atStart=>exact⟨0,zQ,rfl,rfl,rfl,World.ownsRow_nil _ _ _ _,yZ⟩
 clear e0;obtain⟨k,hk,rfl,rfl,rfl,hs,hb⟩:=hrel;have BB:=yH hb;have OS:=yH hs;obtain⟨aos,caps,rfl,_⟩:=aAg hs;clear hs hb
 by_cases hkK:k<K
 ·have i0:(0:Int)≤(k:Int):=zQ
  have i1:(k:Int)<(K:Int):=zQ
  have d0:=(BB.o.cell (p:=⟨g,k,none⟩) hgw).trans (HC.o k (by rw[HK.o];exact hkK));rw[HI.o.at_ k (by rw[HK.o];exact hkK),HV.o]at d0;have CS1:=yH (CS.o k hkK wr BB.o);have CH1:=yH (CH.o k hkK);have NX:=yH (lstK_next (AV.o k hkK).2);obtain⟨hl0,hl9⟩:=HLS.o k hk;obtain⟨ha0,ha9⟩:=AV.o k hkK;have NC:Hid (aGe B l L v (k+1)=aGe B l L v k++[.pointer (some ⟨B,ixS l L (v k) (v (k+1))*4,none⟩),.int .i64 (sgS l L (v k) (v (k+1)))]):=yH rfl;unfold aHu at CS1;generalize ixS l L (v k) (v (k+1))*4=ix at CS1 CH1 NC;generalize sgS l L (v k) (v (k+1))=sg at CS1 CH1 NC;generalize avS l L (v k) (v (k+1))=av at *;generalize lstK l L v k=lst at *;go_wp2_with fail;refine CS1.o.mono ?_;rintro e w2 ⟨rfl,hb2⟩;have B2:=yH (andB BB.o hb2);have O2:=yH (aAf OS.o hb2);have B3:=yH (B2.o.alloc B2.o.size (.cells #[.pointer (some ⟨B,ix,none⟩),.int .i64 sg] 382));have O3:=yH (aAf O2.o ((Below.refl w2.heap.size w2).alloc yL (.cells #[.pointer (some ⟨B,ix,none⟩),.int .i64 sg] 382)));have K3:=yH (Blk.new w2 #[.pointer (some ⟨B,ix,none⟩),.int .i64 sg] 382);clear CS1 hb2 d0;go_wp2_with (at_builtin;refine aAz _ rfl (.tmp 28) (.tmp 30) 379 382 rfl Tryz.underlying379 info_st rfl zX zX w.heap.size _ k _ rfl (O3.o.alloc _) (w2.heap.size+1) 1 [.pointer (some ⟨B,ix,none⟩),.int .i64 sg] rfl xU ?_ (by intro u hu;simp at hu;rcases hu with rfl|rfl <;> rfl) zQ (by have:=B2.o.size;simp;omega) ?_)
  ·exact pAB _ _ _ zV
  intro v4 w4 hown hgr4;have O4:=yH (show w4.ownsRow w.heap.size 382 2 v4 (k+1) (aGe B l L v (k+1))from by rw[NC.o];exact hown);have B4:=yH (aGb B3.o B3.o.size hgr4 (fun k' h=>(aAe O3.o h).1));have K4:=yH ((K3.o.alloc (.cells #[.pointer (some ⟨B,ix,none⟩),.int .i64 sg] 382)).grown hgr4 (fun e=>by have:=(aAe O2.o e).2.1;omega));have c0:=K4.o.cell 0;have c1:=K4.o.cell 1;simp at c0 c1;clear hown hgr4;go_wp2_with fail;refine(CH1.o w4 B4.o).mono ?_;rintro e w5 ⟨rfl,hb5⟩;have B5:=yH (andB B4.o hb5);have O5:=yH (aAf O4.o hb5);clear hb5 CH1 c0 c1;go_wp2_with fail;have HKL:=yH hkK;refine⟨⟨k+1,xE,by go_num,?_,rfl,O5.o,B5.o⟩,y6⟩;rw[←NX.o]
 have hkn:k=K:=zQ
 subst hkn
 have hls:lstK l L v k=n:=by
  unfold lstK;rw[if_neg zQ,←HV.o,←HK.o];exact HI.o.least
 rw[hls];have n1:=HI.o.n1;have n9:=HI.o.n9;have OB:=yH (aAf HO.o BB.o);have OSZ:=yH BB.o.size;go_wp2_with fail;obtain⟨wf,rfl⟩:∃x,x=wr:=⟨_,rfl⟩
 go_loopw [11,40] (fun _ i wz=>CanAt2 w wf base (.slice (some ⟨B,0,none⟩) l.length cap) B l L v n k i wz) (fun _ i _=>k - (intOf i).toNat)
 case atStart=>exact⟨0,zQ,rfl,OB.o,pAD BB.o,Keep.refl _ _⟩
 obtain⟨j,hj,rfl,hO2,hk1,hk2⟩:=hrel;have OD:=yH hO2;have K1:=yH hk1;have K2:=yH hk2;clear hO2 hk1 hk2
 by_cases hjk:j<k
 ·have i0:(0:Int)≤(j:Int):=zQ
  have i1:(j:Int)<(k:Int):=zQ
  obtain⟨ao,cp,hvv,_,_,_,hx⟩:=aAg OS.o
  cases hvv
  obtain⟨gs,rfl,hgs0,hgs1,hgs2,_⟩:=hx zQ;have hne:gs≠B:=fun e=>zQ
  have d0:=(K2.o.cell (p:=⟨gs,j*2,none⟩) hgs1 hne).trans ((hgs2 (j*2+0) zQ).trans (aIw B l L v zQ k hjk));have d1:=(K2.o.cell (p:=⟨gs,j*2+1,none⟩) hgs1 hne).trans ((hgs2 (j*2+1) zQ).trans (aIw B l L v zQ k hjk));simp only[aQ8,List.getElem?_cons_zero,List.getElem?_cons_succ]at d0 d1;have hst:=HI.o.st j (by rw[HK.o];exact hjk);rw[HV.o]at hst;have hoff:=(tk_gen (n:=n) (s:=v) (K:=k) (fun a b h1 h2=>by rw[←HV.o];exact HI.o.apart a b h1 (by rw[HK.o];exact h2)) j zQ).1 _ (fun a ha=>by rw[←HV.o];exact HI.o.apart a j ha (by rw[HK.o];exact hjk));rw[HV.o]at hoff;have hlo:=HL.o.lo _ hst.ix;have hhi:=HL.o.hi _ hst.ix;have hmx:=(HM.o.ok _ hst.ix).2.2.2.2;have O3:=yH (aAf OD.o ((Below.refl wr.heap.size wr).alloc yL (.cells #[.pointer (some ⟨B,ixS l L (v j) (v (j+1))*4,none⟩),.int .i64 (sgS l L (v j) (v (j+1)))] 382)));have CM:=yH (cmove_any O3.o hst.ix (by have:=K1.o.size;simp;omega) (bkS l L (v j) (v (j+1))) ⟨zQ,n9⟩ (uT hoff) (uT hoff));have K3:=yH (K1.o.alloc (.cells #[.pointer (some ⟨B,ixS l L (v j) (v (j+1))*4,none⟩),.int .i64 (sgS l L (v j) (v (j+1)))] 382));have K4:=yH (K2.o.alloc (.cells #[.pointer (some ⟨B,ixS l L (v j) (v (j+1))*4,none⟩),.int .i64 (sgS l L (v j) (v (j+1)))] 382));have NT:Hid (tkK l L v n (j+1)=updL (tkK l L v n j) (ixS l L (v j) (v (j+1))) (tkK l L v n j (ixS l L (v j) (v (j+1)))+if bkS l L (v j) (v (j+1))then n else -n)):=yH rfl;rw[show(if bkS l L (v j) (v (j+1))=true then(-1:Int)else 1)=sgS l L (v j) (v (j+1))from rfl,←NT.o]at CM;unfold aLl at CM;clear NT hoff hlo hhi hmx hst hgs2 hx;generalize ixS l L (v j) (v (j+1))*4=ix at d0 CM O3 K3 K4;generalize sgS l L (v j) (v (j+1))=sg at d1 CM O3 K3 K4;have HJK:=yH hjk;go_wp2_with fail;refine CM.o.mono ?_;rintro e w6 ⟨rfl,hO6,hk6⟩;have O6:=yH hO6;have K5:=yH (K3.o.trans hk6);have K6:=yH (K4.o.trans hk6);clear hO6 hk6 CM d0 d1;go_wp2_with fail;exact⟨⟨j+1,uF HJK.o,by go_num,O6.o,K5.o,K6.o⟩,by simp[intOf];have:=HJK.o;omega⟩
 have hjn:j=k:=zQ
 subst hjn
 have hnx:tkK l L v n j=aKc l L:=by
  rw[←HV.o,←HI.o.next,HK.o]
 rw[hnx]at OD;go_wp2_with fail;go_end0;exact⟨rfl,OD.o,K1.o⟩
theorem wayD_nil{l:List Fw}{L:Nat→Int}(h:l.length=0):wayD l L=[]:=by
 unfold wayD;rw[h];exact round_free (es:=[]) (fun e he=>by cases he) (fun _=>0) (fun e he=>by cases he)
theorem roundW_16(es:List Ed)(hco:∀e∈es,-128≤e.co∧e.co≤127):(aDm es).length≤16:=by
 by_cases h:aDm es=[]
 ·rw[h];simp
 obtain⟨c,hC⟩:=aTg es;obtain⟨K,u,hu⟩:=aIt hC hco h;rw[hu.len];exact hu.k16
theorem quota_out{l:List Fw}{L:Nat→Int}{k:Nat}(hM:MayD l)(h:aJi l k L)(hn:wayD l L≠[]):∃M j,aG9 l M j∧k<j:=by
 obtain⟨M,j,hj⟩:=aOh hM;refine⟨M,j,hj,?_⟩;rcases Nat.lt_trichotomy k j with q|q|q
 ·exact q
 ·subst q;rw[h.at_,←hj.inv.at_]at hn;exact absurd hj.done hn
 have:=h.go j q;rw[←hj.inv.at_]at this;exact absurd hj.done this
def LeastOut(t:TypeId)(l:List Fw)(q:Int)(base:Nat)(e:Ending)(w':World):Prop:=
 (¬(MayD l∧0≤q)∧e=.returned (.tuple #[.slice none 0 0,.int .i64 0,.int .i64 1]))∨
 (MayD l∧0≤q∧∃L k,aG9 l L k∧(((k:Int)≤q∧∃v,e=.returned (.tuple #[v,.int .i64 k,.int .i64 0])∧aBk w' base t 3 v (aMx l L).length (aAn (aMx l L)))∨
  (q<(k:Int)∧e=.returned (.tuple #[.slice none 0 0,.int .i64 0,.int .i64 13]))))
def aQ9(t:TypeId)(l:List Fw)(q:Int)(w:World)(e:Ending)(w':World):Prop:=Below w.heap.size w w'∧LeastOut t l q w.heap.size e w'
def LstAt(w:World)(l:List Fw)(q:Int)(c:Value)(i rv:Value)(wr:World):Prop:=
 ∃(k:Nat) (L:Nat→Int),aJi l k L∧(k:Int)≤q∧i=.int .i64 k∧wr.ownsRow w.heap.size 375 4 c l.length (aBu l L l.length)∧aBk wr w.heap.size 68 1 rv (wayD l L).length ((wayD l L).map (.int .u8))∧Below w.heap.size w wr
theorem pleast_any{w:World}{ao:Option Addr}{cap:Nat}{l:List Fw}(hr:aFm w ao l)(hfit:aJj l)(hln:l.length≤240)(q:Int):
  Calls Tryz.prog 207 #[.slice ao l.length cap,.int .i64 q] w (aQ9 209 l q w):=by
 have HC:=yH hr;have HF:=yH hfit;have CM:=yH (aQ7 (cap:=cap) hr hfit zQ);clear hr hfit
 by_cases hm:mayN l l.length=true
 case neg=>
  have hm':mayN l l.length=false:=vB
  have HN:Hid (¬(MayD l∧0≤q)):=yH fun h=>hm ((mayD_iff l).2 h.1)
  rw[hm']at CM;clear hm hm';go_enter Tryz.func207,Tryz.ntmps207;go_wp2_with fail;refine CM.o.mono ?_;rintro e w1 ⟨rfl,b1⟩;have B1:=yH b1;clear b1 CM;go_wp2_with fail
  go_ret3
  exact⟨B1.o,.inl ⟨HN.o,rfl⟩⟩
 rw[hm]at CM;have HM:=yH ((mayD_iff l).1 hm);clear hm
 by_cases hq:q<0
 case pos=>
  have hq':decide (q<0)=true:=wX
  have HN:Hid (¬(MayD l∧0≤q)):=yH fun h=>zQ
  clear hq;go_enter Tryz.func207,Tryz.ntmps207;go_wp2_with fail;refine CM.o.mono ?_;rintro e w1 ⟨rfl,b1⟩;have B1:=yH b1;clear b1 CM;go_wp2_with fail
  go_ret3
  exact⟨B1.o,.inl ⟨HN.o,rfl⟩⟩
 have hq':decide (q<0)=false:=wX
 have HQ:Hid (0≤q):=yH zQ;have CB:=yH (fun w' (hb:Below w.heap.size w w')=>begin_any (cap:=cap) (HC.o.below hb) zQ);clear hq;go_enter Tryz.func207,Tryz.ntmps207;go_wp2_with fail;refine CM.o.mono ?_;rintro e w1 ⟨rfl,b1⟩;have B1:=yH b1;have CB1:=yH (CB.o w1 b1);clear b1 CM CB;go_wp2_with fail;refine CB1.o.mono ?_;rintro e w2 ⟨c,rfl,hO,hb⟩;have B2:=yH (andB B1.o hb);have O2:=yH (aI2 hO B1.o.size);obtain⟨aoc,capc,rfl,_⟩:=aAg hO;clear hO hb CB1;have CR:=yH (aOl O2.o HF.o zQ);go_wp2_with fail;refine CR.o.mono ?_;rintro e w3 ⟨rv,rfl,hrv,hb⟩;have B3:=yH (andB B2.o hb);have O3:=yH (aAf O2.o hb);have R3:=yH (show aBk w3 w.heap.size 68 1 rv (wayD l (amD l)).length ((wayD l (amD l)).map (.int .u8))from hrv.base B2.o.size);obtain⟨aor,capr,rfl,_⟩:=hrv.look;clear hrv hb CR;have S0:=yH (am_bd HM.o);obtain⟨S,hS⟩:∃S,sumN (amD l) l.length=S:=⟨_,rfl⟩;have HS:=yH hS;clear hS;go_wp2_with fail
 go_loopw [5,8] (LstAt w l q (.slice aoc l.length capc)) (fun i _ _=>(S+1).toNat - (intOf i).toNat)
 case atStart=>exact⟨0,amD l,aJi.start HM.o,HQ.o,rfl,O3.o,R3.o,B3.o⟩
 clear R3 O3 B3 O2 B2 B1;obtain⟨k,L,hI,hkq,rfl,hO,hR,hB⟩:=hrel;have BB:=yH hB;have OO:=yH hO;have RR:=yH hR;have HI:=yH hI;have hkS:=hI.k_le;obtain⟨s0,s9⟩:=S0.o;rw[HS.o]at hkS s0 s9;obtain⟨aow,capw,rfl,_⟩:=hR.look;have hW16:=roundW_16 (rdE l L l.length) (rdE_co l L l.length)
 by_cases hd:wayD l L=[]
 ·have HD:=yH hd;have CL:=yH (cleft_any OO.o zQ);rw[hd];clear hd hI hO hR hB;simp only[List.length_nil];go_wp2_with fail;refine CL.o.mono ?_;rintro e w4 ⟨v,rfl,hv,hb⟩;have B4:=yH (andB BB.o hb);have V4:=yH (hv.base BB.o.size);obtain⟨aov,capv,rfl,_⟩:=hv.look;have HKQ:=yH hkq;clear hv hb CL;go_wp2_with fail
  go_ret3
  exact⟨B4.o,.inr ⟨HM.o,HQ.o,L,k,⟨HI.o,HD.o⟩,.inl ⟨HKQ.o,_,rfl,V4.o⟩⟩⟩
 have hlp:0<(wayD l L).length:=List.length_pos_iff.2 hd;have hlen16:(wayD l L).length≤16:=hW16
 have hln0:0<l.length:=by
  rcases Nat.eq_zero_or_pos l.length with h|h
  ·exact absurd (wayD_nil h) hd
  exact h
 obtain⟨ao2,cp2,hvv,_,_,_,hx⟩:=aAg hO
 cases hvv
 obtain⟨B,rfl,hbb,hBw,_,_⟩:=hx hln0;obtain⟨c,hci⟩:=can_of HM.o hI.ok hd;have CC:=yH (cancel_any OO.o HM.o zQ hI.ok hBw hci RR.o);have HBB:=yH hbb;generalize hwl:(wayD l L).length=m at *;have hm1:(0:Int)<(m:Int):=zQ
 by_cases hkq2:(k:Int)=q
 ·have qe:((k:Int)==q)=true:=uN hkq2
  obtain⟨M,j,hj,hkj⟩:=quota_out HM.o hI hd;have HE:Hid (aQ9 209 l q w (.returned (.tuple #[.slice none 0 0,.int .i64 0,.int .i64 13])) wr):=yH ⟨BB.o,.inr ⟨HM.o,HQ.o,M,j,hj,.inr ⟨zQ,rfl⟩⟩⟩;clear hd hI hO hR hB hkq2 hj hkj hci CC hwl hx hlp hlen16 hW16;go_wp2_with fail
  go_ret3
  exact HE.o
 have qe:((k:Int)==q)=false:=uN hkq2
 have hstep:=hI.step HM.o hd;have hk1:=hstep.k_le;rw[HS.o]at hk1;have HST:=yH hstep;have hkq3:((k+1:Nat):Int)≤q:=zQ
 have HK3:=yH hkq3;have HK1:=yH hk1;clear hd hI hO hR hB hkq2 hci hwl hx hlp hlen16 hW16 hstep hkq3 hk1;unfold aLl at CC;go_wp2_with fail;refine CC.o.mono ?_;rintro e w4 ⟨rfl,hO4,hk4⟩;have hb4:Below w.heap.size w w4:=BB.o.trans (hk4.below BB.o.size (fun x hx e=>uF HBB.o));have B4:=yH hb4;have O4:=yH hO4;have CR:=yH (aOl O4.o HF.o zQ);clear hO4 hk4 hb4 CC;go_wp2_with fail;refine CR.o.mono ?_;rintro e w5 ⟨rv,rfl,hrv,hb⟩;have B5:=yH (andB B4.o hb);have O5:=yH (aAf O4.o hb);have R5:=yH (show aBk w5 w.heap.size 68 1 rv (wayD l (aKc l L)).length ((wayD l (aKc l L)).map (.int .u8))from hrv.base B4.o.size);obtain⟨aor,capr,rfl,_⟩:=hrv.look;clear hrv hb CR;go_wp2_with fail;refine⟨⟨k+1,aKc l L,HST.o,HK3.o,by go_num,O5.o,R5.o,B5.o⟩,?_⟩;have:=HK1.o;simp[intOf];omega
end Go.Proofs.YtngnfdnfpiiclaaGreat
