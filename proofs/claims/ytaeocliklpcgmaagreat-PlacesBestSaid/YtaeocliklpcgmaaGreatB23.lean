/- Pieces of one proof. -/
import Derived.Test.YtaeocliklpcgmaaGreatB08
import Derived.Test.YtaeocliklpcgmaaGreatB19
import Derived.Test.YtaeocliklpcgmaaGreatB22
set_option linter.all false
set_option maxHeartbeats 64000000
set_option maxRecDepth 100000
namespace Go.Proofs.YtaeocliklpcgmaaGreat
open Go.RowKit
theorem cmade_of{w:World}{a b:Option Addr}{er:Int}(h:∀w',Below w.heap.size w w'→Calls Tryz.prog 87 #[.agg #[.pointer a,.pointer b],.int .u64 0,.int .u8 0,.int .u8 0,.int .i64 0] w' fun e w''=>e=.returned (.tuple #[aHp,.int .i64 er])∧Below w'.heap.size w' w''):
  Calls Tryz.prog 101 #[.agg #[.pointer a,.pointer b]] w (yR w (.bool (er != 2))):=by
 have b0:=(Below.refl w.heap.size w).alloc yL (.cells #[.pointer a,.pointer b] 31);have K:=yH (pAA w #[.pointer a,.pointer b] 31);have B:=yH b0;have C:=yH (h _ b0);clear b0 h;obtain⟨q,hq⟩:∃q,(er != 2)=q:=⟨_,rfl⟩;rw[hq];unfold aHp at C;generalize hW:w.alloc (.cells #[.pointer a,.pointer b] 31)=W at *;have HW:=yH hW;clear hW;have c0:=K.out.cell 0;have c1:=K.out.cell 1;have cl:=K.out.lt;simp at c0 c1;clear K;go_enter Tryz.func101,Tryz.ntmps101
 go_upto_region 1 with fail
 rw[HW.out];go_wp2_with fail;refine C.out.mono ?_;rintro e w1 ⟨rfl,b1⟩;have B1:=yH ((B.out.trans (b1.mono B.out.size)).alloc (Nat.le_trans B.out.size b1.size) (.cells #[.int .u64 0,.int .u8 0,.int .u8 0,.int .i64 0,.int .i64 0] 73));clear b1 c0 c1 cl C B;go_wp2_with fail;go_ret;exact⟨rfl,B1.out⟩
theorem cmade_any(HD:aEq){w:World}{base G M gb:Nat}{ps:List Int}{ls:List Ln}{l:List Of}{N:Int}{vb:Value}(hL:LedM w G M ps ls)(hI:LInv ps ls)(hP:PB w base gb l N vb)(hJ:BInv l N):
  Calls Tryz.prog 101 #[.agg #[.pointer (some ⟨G,0,none⟩),.pointer (some ⟨gb,0,none⟩)]] w (yR w (.bool true)):=
 cmade_of (er:=1) (fun w' b=>(aId HD (hL.below b) hI (hP.below b) hJ 0 0 0 0 (by omega) (by unfold In8;omega) (by unfold In8;omega) (by unfold In64;omega)).mono (by
  rintro e w'' (⟨_,h1,h2⟩|⟨h,_⟩)
  ·exact⟨h1,h2⟩
  exact absurd h.1 (by omega)))
theorem may_one(x:Of):(okO 2 [(⟨1,x.ow,x.sl,x.bu,x.lf,x.nu,x.de⟩:Of)]∧(2:Int)≠0)↔x.may:=by
 constructor
 ·rintro⟨⟨_,h⟩,_⟩;exact(h _ List.mem_cons_self).1
 intro h;refine⟨⟨List.pairwise_singleton _ _,fun y hy=>?_⟩,by decide⟩;rw[List.mem_singleton]at hy;subst hy;exact⟨h,by show(1:Int)≠0;decide,by show(1:Int)<2;decide⟩
theorem cmay_any(x:Of)(hx:x.Fits)(w:World):Calls Tryz.prog 102 #[.agg #[.int .u64 x.se,.int .u8 x.ow,.int .u8 x.sl,.int .u8 x.bu,.int .i64 x.lf,.int .i64 x.nu,.int .i64 x.de]] w (yR w (.bool (decide x.may))):=by
 have b0:=(Below.refl w.heap.size w).alloc yL (.cells #[.int .u64 x.se,.int .u8 x.ow,.int .u8 x.sl,.int .u8 x.bu,.int .i64 x.lf,.int .i64 x.nu,.int .i64 x.de] 100);have K:=yH (pAA w #[.int .u64 x.se,.int .u8 x.ow,.int .u8 x.sl,.int .u8 x.bu,.int .i64 x.lf,.int .i64 x.nu,.int .i64 x.de] 100);have B:=yH b0;have HX:=yH hx;obtain⟨q,hq⟩:∃q,decide x.may=q:=⟨_,rfl⟩;have HQ:=yH hq;rw[hq];clear b0 hx hq;generalize hW:w.alloc (.cells #[.int .u64 x.se,.int .u8 x.ow,.int .u8 x.sl,.int .u8 x.bu,.int .i64 x.lf,.int .i64 x.nu,.int .i64 x.de] 100)=W at *;have HW:=yH hW;clear hW;have fz:=K.out.frozen 0;have cl:=K.out.lt;have z0:=K.out.cell 0;simp at z0;have K2:=yH (K.out.set 0 (.int .u64 1));go_enter Tryz.func102,Tryz.ntmps102
 go_upto_region 1 with fail
 rw[HW.out]
 go_upto_region 2 with fail
 have B2:=yH (B.out.setCell (p:=⟨w.heap.size,0,none⟩) (by show w.heap.size≤w.heap.size;omega) (.int .u64 1));clear fz cl z0 K B;generalize W.setCell ⟨w.heap.size,0,none⟩ (.int .u64 1)=W2 at *;have c0:=K2.out.cell 0;have c1:=K2.out.cell 1;have c2:=K2.out.cell 2;have c3:=K2.out.cell 3;have c4:=K2.out.cell 4;have c5:=K2.out.cell 5;have c6:=K2.out.cell 6;have cl:=K2.out.lt;simp at c0 c1 c2 c3 c4 c5 c6;have bl:=(Below.refl W2.heap.size W2).alloc yL (.cells #[.int .u64 1,.int .u8 x.ow,.int .u8 x.sl,.int .u8 x.bu,.int .i64 x.lf,.int .i64 x.nu,.int .i64 x.de] 48);have KL:=yH (pAA W2 #[.int .u64 1,.int .u8 x.ow,.int .u8 x.sl,.int .u8 x.bu,.int .i64 x.lf,.int .i64 x.nu,.int .i64 x.de] 48);have B3:=yT B2 bl
 have RD:Hid (aCg (W2.alloc (.cells #[.int .u64 1,.int .u8 x.ow,.int .u8 x.sl,.int .u8 x.bu,.int .i64 x.lf,.int .i64 x.nu,.int .i64 x.de] 48)) (.slice (some ⟨W2.heap.size,0,none⟩) 1 1) 7 [(⟨1,x.ow,x.sl,x.bu,x.lf,x.nu,x.de⟩:Of)].length (aAa [(⟨1,x.ow,x.sl,x.bu,x.lf,x.nu,x.de⟩:Of)])):=yH (by
  refine⟨_,1,rfl,by show(1:Nat)≤100000000;decide,rfl,fun _=>⟨W2.heap.size,0,rfl,KL.out.lt,fun j hj=>?_⟩⟩;rw[Nat.zero_add,KL.out.cell j];have hj7:j<7:=hj;rcases(by omega:j=0∨j=1∨j=2∨j=3∨j=4∨j=5∨j=6)with rfl|rfl|rfl|rfl|rfl|rfl|rfl <;> rfl)
 have CO:=yH (pofB_any (nx:=2) RD.out (fun y hy=>by rw[List.mem_singleton]at hy;subst hy;exact⟨by show(0:Int)≤1∧(1:Int)≤18446744073709551615;decide,HX.out.ow,HX.out.sl,HX.out.bu,HX.out.lf,HX.out.nu,HX.out.de⟩) (by decide) (by decide));have QY:Hid ((okO 2 [(⟨1,x.ow,x.sl,x.bu,x.lf,x.nu,x.de⟩:Of)]∧(2:Int)≠0)↔x.may):=yH (may_one x);clear bl RD;go_wp2_with fail;generalize W2.alloc (.cells #[.int .u64 1,.int .u8 x.ow,.int .u8 x.sl,.int .u8 x.bu,.int .i64 x.lf,.int .i64 x.nu,.int .i64 x.de] 48)=W3 at *;refine CO.out.mono ?_;rintro e w1 ⟨b1,hp⟩;have B4:=yT B3 b1;clear b1 c0 c1 c2 c3 c4 c5 c6 cl CO KL K2 B2;rcases hp with⟨_,h1,h2,g,vl,rfl,_⟩|⟨rfl,h⟩|⟨rfl,_,h⟩
 ·obtain rfl:true=q:=by rw[←HQ.out,decide_eq_true (QY.out.1 ⟨h1,h2⟩)]
  clear h1 h2;go_wp2_with fail;go_ret;exact⟨rfl,B4.out⟩
 ·exact absurd h (by show ¬32<1;decide)
 obtain rfl:false=q:=by rw[←HQ.out,decide_eq_false (fun q=>h (QY.out.2 q))]
 clear h;go_wp2_with fail;go_ret;exact⟨rfl,B4.out⟩
def aFv(ps:List Int)(x:Of):Int:=if ¬x.may then 1 else if x.ow∉ps then 7 else 0
theorem aOt{w:World}{a b:Option Addr}(x:Of)(h:∀w',Below w.heap.size w w'→Calls Tryz.prog 101 #[.agg #[.pointer a,.pointer b]] w' fun e w''=>e=.returned (.bool false)∧Below w'.heap.size w' w''):
  Calls Tryz.prog 44 #[.agg #[.int .u64 x.se,.int .u8 x.ow,.int .u8 x.sl,.int .u8 x.bu,.int .i64 x.lf,.int .i64 x.nu,.int .i64 x.de],.agg #[.pointer a,.pointer b]] w (yR w (.int .i64 2)):=by
 have b0:=((Below.refl w.heap.size w).alloc yL (.cells #[.int .u64 x.se,.int .u8 x.ow,.int .u8 x.sl,.int .u8 x.bu,.int .i64 x.lf,.int .i64 x.nu,.int .i64 x.de] 100));have b1:=b0.alloc b0.size (.cells #[.pointer a,.pointer b] 31);have K:=yH (pAC (w.alloc (.cells #[.int .u64 x.se,.int .u8 x.ow,.int .u8 x.sl,.int .u8 x.bu,.int .i64 x.lf,.int .i64 x.nu,.int .i64 x.de] 100)) #[.pointer a,.pointer b] 31 (g:=w.heap.size+1) (by simp));have B:=yH b1;have C:=yH (h _ b1);clear b0 b1 h;generalize hW:(w.alloc (.cells #[.int .u64 x.se,.int .u8 x.ow,.int .u8 x.sl,.int .u8 x.bu,.int .i64 x.lf,.int .i64 x.nu,.int .i64 x.de] 100)).alloc (.cells #[.pointer a,.pointer b] 31)=W at *;have HW:=yH hW;clear hW;have c0:=K.out.cell 0;have c1:=K.out.cell 1;have cl:=K.out.lt;simp at c0 c1;clear K;go_enter Tryz.func44,Tryz.ntmps44
 go_upto_region 1 with fail
 rw[HW.out];go_wp2_with fail;refine C.out.mono ?_;rintro e w1 ⟨rfl,b1⟩;have B1:=yT B b1;clear b1 c0 c1 cl C B;go_wp2_with fail;go_ret;exact⟨rfl,B1.out⟩
theorem cwrong_any(HD:aEq){w:World}{base G M gb:Nat}{ps:List Int}{ls:List Ln}{l:List Of}{N:Int}{vb:Value}(hL:LedM w G M ps ls)(hI:LInv ps ls)(hP:PB w base gb l N vb)(hJ:BInv l N)(x:Of)(hx:x.Fits):
  Calls Tryz.prog 44 #[.agg #[.int .u64 x.se,.int .u8 x.ow,.int .u8 x.sl,.int .u8 x.bu,.int .i64 x.lf,.int .i64 x.nu,.int .i64 x.de],.agg #[.pointer (some ⟨G,0,none⟩),.pointer (some ⟨gb,0,none⟩)]] w (yR w (.int .i64 (aFv ps x))):=by
 have b0:=((Below.refl w.heap.size w).alloc yL (.cells #[.int .u64 x.se,.int .u8 x.ow,.int .u8 x.sl,.int .u8 x.bu,.int .i64 x.lf,.int .i64 x.nu,.int .i64 x.de] 100));have b1:=b0.alloc b0.size (.cells #[.pointer (some ⟨G,0,none⟩),.pointer (some ⟨gb,0,none⟩)] 31);have KS:=yH ((pAA w #[.int .u64 x.se,.int .u8 x.ow,.int .u8 x.sl,.int .u8 x.bu,.int .i64 x.lf,.int .i64 x.nu,.int .i64 x.de] 100).alloc (.cells #[.pointer (some ⟨G,0,none⟩),.pointer (some ⟨gb,0,none⟩)] 31));have KH:=yH (pAC (w.alloc (.cells #[.int .u64 x.se,.int .u8 x.ow,.int .u8 x.sl,.int .u8 x.bu,.int .i64 x.lf,.int .i64 x.nu,.int .i64 x.de] 100)) #[.pointer (some ⟨G,0,none⟩),.pointer (some ⟨gb,0,none⟩)] 31 (g:=w.heap.size+1) (by simp));have HL:=yH (hL.below b1);have C:=yH (cmade_any HD (hL.below b1) hI (hP.below b1) hJ);have B:=yH b1;have HB:=yH hI.bd;have CM:=yH (fun w=>cmay_any x hx w);obtain⟨R,hR⟩:∃R,aFv ps x=R:=⟨_,rfl⟩;rw[hR];have HR:=yH hR;clear b0 b1 hL hI hP hJ hR hx;generalize hW:(w.alloc (.cells #[.int .u64 x.se,.int .u8 x.ow,.int .u8 x.sl,.int .u8 x.bu,.int .i64 x.lf,.int .i64 x.nu,.int .i64 x.de] 100)).alloc (.cells #[.pointer (some ⟨G,0,none⟩),.pointer (some ⟨gb,0,none⟩)] 31)=W at *;have HW:=yH hW;clear hW;have c0:=KH.out.cell 0;have c1:=KH.out.cell 1;have cl:=KH.out.lt;simp at c0 c1;go_enter Tryz.func44,Tryz.ntmps44
 go_upto_region 1 with fail
 rw[HW.out];go_wp2_with fail;refine C.out.mono ?_;rintro e w1 ⟨rfl,b1⟩;have HL1:=yH (HL.out.below b1);have KS1:=yB KS b1;have KH1:=yB KH b1;have B1:=yT B b1;clear b1 c0 c1 cl C B HL KS KH;have s0:=KS1.out.cell 0;have s1:=KS1.out.cell 1;have s2:=KS1.out.cell 2;have s3:=KS1.out.cell 3;have s4:=KS1.out.cell 4;have s5:=KS1.out.cell 5;have s6:=KS1.out.cell 6;have sl:=KS1.out.lt;simp at s0 s1 s2 s3 s4 s5 s6
 by_cases hm:x.may
 ·rw[decide_eq_true hm]at CM;have HMY:=yH hm;clear hm;go_wp2_with fail;refine(CM.out _).mono ?_;rintro e w2 ⟨rfl,b2⟩;have HL2:=yH (HL1.out.below b2);have KS2:=yB KS1 b2;have KH2:=yB KH1 b2;have B2:=yT B1 b2;clear b2 s0 s1 s2 s3 s4 s5 s6 sl CM B1 HL1 KS1 KH1;have s1:=KS2.out.cell 1;have sl:=KS2.out.lt;have c0:=KH2.out.cell 0;have c1:=KH2.out.cell 1;have cl:=KH2.out.lt;simp at s1 c0 c1;have CF:=yH (aG6 HL2.out.blk HB.out x.ow)
  by_cases hf:x.ow∈ps
  ·rw[decide_eq_true hf]at CF;have EE:Hid (R=0):=yH (by rw[←HR.out];unfold aFv;rw[if_neg (fun h=>h HMY.out),if_neg (fun h=>h hf)]);clear hf;go_wp2_with fail;refine CF.out.mono ?_;rintro e w3 ⟨rfl,rfl⟩;go_wp2_with fail;go_ret;exact⟨by rw[EE.out];rfl,B2.out⟩
  rw[decide_eq_false hf]at CF;have EE:Hid (R=7):=yH (by rw[←HR.out];unfold aFv;rw[if_neg (fun h=>h HMY.out),if_pos hf]);clear hf;go_wp2_with fail;refine CF.out.mono ?_;rintro e w3 ⟨rfl,rfl⟩;go_wp2_with fail;go_ret;exact⟨by rw[EE.out];rfl,B2.out⟩
 rw[decide_eq_false hm]at CM;have EE:Hid (R=1):=yH (by rw[←HR.out];unfold aFv;rw[if_pos hm]);clear hm;go_wp2_with fail;refine(CM.out _).mono ?_;rintro e w2 ⟨rfl,b2⟩;have B2:=yT B1 b2;clear b2 s0 s1 s2 s3 s4 s5 s6 sl CM B1;go_wp2_with fail;go_ret;exact⟨by rw[EE.out];rfl,B2.out⟩
theorem crest_none(x:Of)(hn:x.lf<1)(b:Option Addr)(w:World):
  Calls Tryz.prog 46 #[.agg #[.int .u64 x.se,.int .u8 x.ow,.int .u8 x.sl,.int .u8 x.bu,.int .i64 x.lf,.int .i64 x.nu,.int .i64 x.de],.pointer b] w (yR w (.tuple #[.int .u64 0,.int .i64 0])):=by
 have b0:=((Below.refl w.heap.size w).alloc yL (.cells #[.int .u64 x.se,.int .u8 x.ow,.int .u8 x.sl,.int .u8 x.bu,.int .i64 x.lf,.int .i64 x.nu,.int .i64 x.de] 100));have KS:=yH (pAA w #[.int .u64 x.se,.int .u8 x.ow,.int .u8 x.sl,.int .u8 x.bu,.int .i64 x.lf,.int .i64 x.nu,.int .i64 x.de] 100);have B:=yH b0;have q0:decide (x.lf<1)=true:=by simpa using hn
 clear b0 hn;generalize hW:w.alloc (.cells #[.int .u64 x.se,.int .u8 x.ow,.int .u8 x.sl,.int .u8 x.bu,.int .i64 x.lf,.int .i64 x.nu,.int .i64 x.de] 100)=W at *;have HW:=yH hW;clear hW;have s4:=KS.out.cell 4;have sl:=KS.out.lt;simp at s4;go_enter Tryz.func46,Tryz.ntmps46
 go_upto_region 1 with fail
 rw[HW.out];go_wp2_with fail;go_ret2;exact⟨rfl,B.out⟩
theorem crest_any{w:World}{base g:Nat}{l:List Of}{N:Int}{vl:Value}(h:PB w base g l N vl)(hI:BInv l N)(x:Of)(hx:x.Fits)(hn:¬x.lf<1):
  Calls Tryz.prog 46 #[.agg #[.int .u64 x.se,.int .u8 x.ow,.int .u8 x.sl,.int .u8 x.bu,.int .i64 x.lf,.int .i64 x.nu,.int .i64 x.de],.pointer (some ⟨g,0,none⟩)] w fun e w'=>e=.returned (.tuple #[.int .u64 (aC9 l ⟨N,x.ow,x.sl,x.bu,x.lf,x.nu,x.de⟩),.int .i64 (aBs l ⟨N,x.ow,x.sl,x.bu,x.lf,x.nu,x.de⟩)])∧
   ∃vl',PB w' base g (aCf l ⟨N,x.ow,x.sl,x.bu,x.lf,x.nu,x.de⟩) (aBt l ⟨N,x.ow,x.sl,x.bu,x.lf,x.nu,x.de⟩) vl'∧Keep (Foot g vl) w w'∧aDf w vl vl':=by
 have b0:=((Below.refl w.heap.size w).alloc yL (.cells #[.int .u64 x.se,.int .u8 x.ow,.int .u8 x.sl,.int .u8 x.bu,.int .i64 x.lf,.int .i64 x.nu,.int .i64 x.de] 100));have KS:=yH (pAA w #[.int .u64 x.se,.int .u8 x.ow,.int .u8 x.sl,.int .u8 x.bu,.int .i64 x.lf,.int .i64 x.nu,.int .i64 x.de] 100);have B:=yH b0;have q0:decide (x.lf<1)=false:=by simpa using hn
 have CP:=yH (aFr (x:=⟨N,x.ow,x.sl,x.bu,x.lf,x.nu,x.de⟩) (h.below b0) hI ⟨⟨by have:=hI.n1;show 0≤N;omega,hI.n2⟩,hx.ow,hx.sl,hx.bu,hx.lf,hx.nu,hx.de⟩);obtain⟨rs,hrs⟩:∃rs,aC9 l ⟨N,x.ow,x.sl,x.bu,x.lf,x.nu,x.de⟩=rs:=⟨_,rfl⟩;obtain⟨re,hre⟩:∃re,aBs l ⟨N,x.ow,x.sl,x.bu,x.lf,x.nu,x.de⟩=re:=⟨_,rfl⟩;rw[hrs,hre]at CP ⊢;dsimp only at CP;clear b0 hn h hI hx hrs hre;generalize hW:w.alloc (.cells #[.int .u64 x.se,.int .u8 x.ow,.int .u8 x.sl,.int .u8 x.bu,.int .i64 x.lf,.int .i64 x.nu,.int .i64 x.de] 100)=W at *;have HW:=yH hW;clear hW;have s1:=KS.out.cell 1;have s2:=KS.out.cell 2;have s3:=KS.out.cell 3;have s4:=KS.out.cell 4;have s5:=KS.out.cell 5;have s6:=KS.out.cell 6;have sl:=KS.out.lt;simp at s1 s2 s3 s4 s5 s6;go_enter Tryz.func46,Tryz.ntmps46
 go_upto_region 1 with fail
 rw[HW.out];go_wp2_with fail;refine CP.out.mono ?_;rintro e w1 ⟨rfl,vl',hP,k1,hm⟩;have HP:=yH hP;have K1:=yH ((pAE (S:=Foot g vl) B.out).trans k1);have M1:=yH (show aDf w vl vl' from fun b hb=>(hm b hb).imp id (fun h=>Nat.le_trans B.out.size h));clear hP k1 hm CP s1 s2 s3 s4 s5 s6 sl;go_wp2_with fail;go_ret2;exact⟨rfl,vl',HP.out,K1.out,M1.out⟩
structure aLm(B l:Nat)(W W':World):Prop where
 size:W.heap.size≤W'.heap.size
 same:∀k,B≤k→k≠l→k<W.heap.size→W'.heap[k]? = W.heap[k]?
structure aHt(B:Nat)(W W':World):Prop where
 size:W.heap.size≤W'.heap.size
 same:∀k,B≤k→k<W.heap.size→W'.heap[k]? = W.heap[k]?
theorem pAO{S:Nat→Prop}{B:Nat}{W W':World}(h:Keep S W W')(hS:∀k,B≤k→¬S k):aHt B W W':=
 ⟨h.size,fun k hB hk=>h.block k hk (hS k hB)⟩
theorem Blk.old{W W':World}{B l g:Nat}{cs:Array Value}{t:TypeId}(h:Blk W g cs t)(k:aLm B l W W')(hB:B≤g)(hl:g≠l):Blk W' g cs t:=(k.same g hB hl h.lt).trans h
def SeqK(P:Program)(gf:FuncId)(lb:Array Value){St:Type}(s0:St)(S:St→Prop)(Y:St→Array Value→World→Prop)(next:St→St→Prop)(I:St→World→Prop):Prop:=
 ∀(n l B:Nat) (J:St→World→Prop) (Jx:World→Prop),(∀s W W',J s W→Below W.heap.size W W'→J s W')→(∀s W,J s W→I s W)→
  (∀m s vs W,J s W→Y s vs W→YieldAt Fence.wide m P l vs W fun e W'=>aLm B l W W'∧((e=.returned (.bool true)∧∃s',next s s'∧J s' W')∨(e=.returned (.bool false)∧Jx W')))→
  ∀W,J s0 W→B≤W.heap.size→l<W.heap.size→CallsIn Fence.wide n P gf (#[.func (.yield l) #[] #[]]++lb) W fun e W'=>(∃v,e=.returned v)∧((∃s,S s∧J s W')∨Jx W')
def aM5{St:Type}(B:Nat)(I:St→World→Prop)(Ix:Code→World→Prop)(next:St→St→Prop)(s:St)(W:World):Exit→Act→World→Prop
 | .normal,_,W'=>aHt B W W'∧∃s',next s s'∧I s' W'
 | .ret,_,W'=>aHt B W W'∧Ix .ret W'
 | .exit id,_,W'=>aHt B W W'∧Ix (.exit id) W'
 | .goto t,_,W'=>aHt B W W'∧Ix (.goto t) W'
 | .panic _,_,_=>False
 | .outgrown,_,_=>False
theorem wp_roundsK{P:Program}{g:Operand}{ps:Array Tmp}{assign body:Code}{Q:Exit→Act→World→Prop}{a:Act}{w:World}{St:Type}{gf:FuncId}{lb:Array Value}
  (hg:a.eval g=.func (.func gf) #[] lb)(eg:∀args w,(callFunc gf args).run P w=.ok (.enter gf args) w)
  (I:St→World→Prop)(Y:St→Array Value→World→Prop)(Ix:Code→World→Prop)(S:St→Prop)(next:St→St→Prop)(A:St→Array Value→Act→World→Prop)
  (hI:∀s,Fits w.heap.size (I s))(hIx:∀c,Fits w.heap.size (Ix c))(hA:∀s vs a,Fits w.heap.size (A s vs a))(hps:∀s vs W,Y s vs W→vs.size=ps.size)
  (s0:St)(hseq:SeqK P gf lb s0 S Y next I)(h0:I s0 w)
  (hassign:∀(m l:Nat) (s:St) (vs:Array Value) (W:World) (K:Act→World→Prop),I s W→Y s vs W→(∀a' W',Below W.heap.size W W'→A s vs a' W'→K a' W')→
   assign.wpIn (Fence.wide.inRound l) m P (Exit.then K fun _ _ _=>False) { tmps:=(ps.zip vs).foldl (fun t (p,v)=>t.setIfInBounds p v) a.tmps,defers:=[] } W)
  (hbody:∀(m l:Nat) (s:St) (vs:Array Value) (a':Act) (W:World),w.heap.size≤W.heap.size→I s W→A s vs a' W→body.wpIn (Fence.wide.inRound l) m P (aM5 w.heap.size I Ix next s W) a' W)
  (hdone:∀(D:Nat) (s:St) (W:World),w.heap.size≤D→S s→I s W→W.heap[D]? = some (.deferred (some []))→Q .normal { a with defers:={ target:=.collected D,args:=#[] }::a.defers } W)
  (hstop:∀(D:Nat) (c:Code) (W:World),w.heap.size≤D→Ix c W→W.heap[D]? = some (.deferred (some []))→c.wp P Q { a with defers:={ target:=.collected D,args:=#[] }::a.defers } W):
  (Code.rangeFunc g ps assign body).wp P Q a w:=by
 refine(wpIn_wide (n:=0)).1 (wpIn_rangeFunc fun fn hfn=>?_);obtain⟨rec,hrec⟩:∃rec:LoopState→Option Code→Loop,rec=fun st pe=>{ state:=st,pending:=pe,fn,tmps:=a.tmps,params:=ps,assign,body,defers:=w.heap.size }:=⟨_,rfl⟩
 obtain⟨W1,hW1⟩:∃W1,(w.alloc (.deferred (some []))).alloc (.loop (rec .ready none))=W1:=⟨_,rfl⟩
 have hl1:W1.heap[w.heap.size+1]? = some (.loop (rec .ready none)):=by
  have e:=World.alloc_heap_new (w.alloc (.deferred (some []))) (.loop (rec .ready none));rw[World.size_alloc,hW1]at e;exact e
 have hd1:W1.heap[w.heap.size]? = some (.deferred (some [])):=by
  rw[←hW1];exact(Below.heap_alloc _ _ _ (by simp)).trans (World.alloc_heap_new w _)
 have hb1:Below w.heap.size w W1:=by
  rw[←hW1];exact((Below.refl _ w).alloc yL _).alloc (by simp) _
 have hI1:I s0 W1:=(hI s0).grow _ _ h0 hb1
 refine⟨w.heap.size+1,[{ target:=.collected w.heap.size,args:=#[] }],W1,{ target:=.fn (.func gf) lb,args:=#[.func (.yield (w.heap.size+1)) #[] #[]] },W1,gf,
  #[.func (.yield (w.heap.size+1)) #[] #[]]++lb,W1,?_,?_,fun _ _=>trivial,?_,fun hh=>(by cases hh),?_⟩
 ·rw[←hW1,hrec];exact run_enterLoop_outer _ _ _ _ _
 ·simp only[resolve,hg];simp[go_sem]
 ·simp[invoke,go_sem,eg]
 refine(hseq (0 - 1) (w.heap.size+1) w.heap.size (fun s W=>I s W∧W.heap[w.heap.size+1]? = some (.loop (rec .ready none))∧W.heap[w.heap.size]? = some (.deferred (some [])))
  (fun W=>∃c,Ix c W∧W.heap[w.heap.size+1]? = some (.loop (rec .done (some c)))∧W.heap[w.heap.size]? = some (.deferred (some [])))
  (fun s W W' h hb=>⟨(hI s).grow _ _ h.1 hb,(hb.block _ (Array.getElem?_eq_some_iff.1 h.2.1).1).trans h.2.1,(hb.block _ (Array.getElem?_eq_some_iff.1 h.2.2).1).trans h.2.2⟩)
  (fun s W h=>h.1) ?_ W1 ⟨hI1,hl1,hd1⟩ hb1.size (Array.getElem?_eq_some_iff.1 hl1).1).mono ?_
 ·rintro m s vs V ⟨hiV,hlV,hkV⟩ hy;have hry:=run_yield (P:=P) (args:=vs) hlV (by rw[hrec];exact hps s vs V hy);rw[hrec]at hry;refine⟨fn,_,assign,body,hry,roundIn_of_wpIn hfn (hassign m _ s vs V _ hiV hy (fun a1 W hb hAx=>?_))⟩;clear hry;have hi:=(hI s).grow _ _ hiV hb;have hl:=(hb.block _ (Array.getElem?_eq_some_iff.1 hlV).1).trans hlV;have hk:=(hb.block _ (Array.getElem?_eq_some_iff.1 hkV).1).trans hkV;have hlt:=(Array.getElem?_eq_some_iff.1 hl).1;have hltV:=(Array.getElem?_eq_some_iff.1 hlV).1;refine⟨_,run_beginRound hl (by rw[hrec]),?_⟩;obtain⟨W2,hW2⟩:∃W2,W.putObj (w.heap.size+1) (.loop { rec .ready none with state:=.busy })=W2:=⟨_,rfl⟩;have hl2:W2.heap[w.heap.size+1]? = some (.loop { rec .ready none with state:=.busy }):=by rw[←hW2];exact World.putObj_heap_same hlt
  have hk2:W2.heap[w.heap.size]? = some (.deferred (some [])):=by rw[←hW2];exact(World.putObj_heap_other (by omega)).trans hk
  have hs2:W2.heap.size=W.heap.size:=by rw[←hW2];simp[World.putObj]
  have ho2:∀k,k≠w.heap.size+1→W2.heap[k]? = W.heap[k]? := fun k hk=>by rw[←hW2];exact World.putObj_heap_other (by omega)
  have hi2:I s W2:=by rw[←hW2];exact(hI s).turn _ _ _ _ hi (by omega) hl rfl
  have hA2:A s vs a1 W2:=by rw[←hW2];exact(hA s vs a1).turn _ _ _ _ hAx (by omega) hl rfl
  rw[hW2];refine wpIn_mono (hbody m _ s vs a1 W2 (by omega) hi2 hA2) ?_
  have fin:∀(jump:Option Code) (W3:World),aHt w.heap.size W2 W3→
    (Instr.endRound (w.heap.size+1) jump).run P W3=.ok (.bool jump.isNone) (W3.putObj (w.heap.size+1) (.loop (rec (if jump.isNone then .ready else .done) jump)))∧
    W3.heap[w.heap.size+1]? = some (.loop { rec .ready none with state:=.busy })∧
    (W3.putObj (w.heap.size+1) (.loop (rec (if jump.isNone then .ready else .done) jump))).heap[w.heap.size+1]? = some (.loop (rec (if jump.isNone then .ready else .done) jump))∧
    (W3.putObj (w.heap.size+1) (.loop (rec (if jump.isNone then .ready else .done) jump))).heap[w.heap.size]? = some (.deferred (some []))∧
    aLm w.heap.size (w.heap.size+1) V (W3.putObj (w.heap.size+1) (.loop (rec (if jump.isNone then .ready else .done) jump))):=fun jump W3 hk3=>by
   have hl3:=(hk3.same (w.heap.size+1) (by omega) (by omega)).trans hl2;have he:=run_endRound (P:=P) jump hl3;rw[hrec]at he ⊢;refine⟨he,by rw[hrec]at hl3;exact hl3,World.putObj_heap_same (Array.getElem?_eq_some_iff.1 hl3).1,(World.putObj_heap_other (by omega)).trans ((hk3.same w.heap.size yL (by omega)).trans hk2),?_,fun k hB hkl hks=>?_⟩
   ·have h1:=hk3.size;have h2:=hb.size;simp[World.putObj];omega
   have h2:=hb.size;rw[World.putObj_heap_other (by omega),hk3.same k hB (by omega),ho2 k hkl];exact hb.block k hks
  rintro e a3 W3 hp
  cases e with
  | normal=>
   obtain⟨hk3,s',hn,hi3⟩:=hp;obtain⟨hr,hl3,hl4,hk4,hof⟩:=fin none W3 hk3;exact⟨_,_,hr,hof,.inl ⟨rfl,s',hn,(hI s').turn _ _ _ _ hi3 (by omega) hl3 rfl,hl4,hk4⟩⟩
  | ret=>
   obtain⟨hk3,hi3⟩:=hp;obtain⟨hr,hl3,hl4,hk4,hof⟩:=fin (some .ret) W3 hk3;exact⟨_,_,hr,hof,.inr ⟨rfl,.ret,(hIx _).turn _ _ _ _ hi3 (by omega) hl3 rfl,hl4,hk4⟩⟩
  | exit id=>
   obtain⟨hk3,hi3⟩:=hp;obtain⟨hr,hl3,hl4,hk4,hof⟩:=fin (some (.exit id)) W3 hk3;exact⟨_,_,hr,hof,.inr ⟨rfl,.exit id,(hIx _).turn _ _ _ _ hi3 (by omega) hl3 rfl,hl4,hk4⟩⟩
  | goto t=>
   obtain⟨hk3,hi3⟩:=hp;obtain⟨hr,hl3,hl4,hk4,hof⟩:=fin (some (.goto t)) W3 hk3;exact⟨_,_,hr,hof,.inr ⟨rfl,.goto t,(hIx _).turn _ _ _ _ hi3 (by omega) hl3 rfl,hl4,hk4⟩⟩
  | panic ch=>exact hp.elim
  | outgrown=>exact hp.elim
 rintro e W2 ⟨⟨v,rfl⟩,(⟨s,hS,hi,hl,hk⟩|⟨c,hi,hl,hk⟩)⟩
 ·have he:=run_endLoop (P:=P) hl (by rw[hrec];simp);rw[hrec]at he;exact⟨none,_,he,hdone _ s _ yL hS ((hI s).turn _ _ _ _ hi (by omega) hl rfl) ((World.putObj_heap_other (by omega)).trans hk)⟩
 have he:=run_endLoop (P:=P) hl (by rw[hrec];simp);rw[hrec]at he;exact⟨some c,_,he,wpIn_wide.2 (hstop _ c _ yL ((hIx c).turn _ _ _ _ hi (by omega) hl rfl) ((World.putObj_heap_other (by omega)).trans hk))⟩
end Go.Proofs.YtaeocliklpcgmaaGreat
namespace Go.Proofs.YtaeocliklpcgmaaGreat
open Go.RowKit
attribute [local go_sem] Oper.semAt_some
theorem aFw{p:Of→Bool}:∀{l:List Of} {k:Nat} (hk:k<l.length),k≤(l.takeWhile p).length→(p l[k]=true→k<(l.takeWhile p).length∧(l.takeWhile p)[k]? = some l[k])∧(p l[k]=false→(l.takeWhile p).length≤k)
 | [],k,hk,_=>absurd hk (by simp)
 | z::l,0,hk,_=>by
  constructor
  ·intro h;have h':p z=true:=h;rw[List.takeWhile_cons,if_pos h'];simp
  ·intro h;have h':p z=false:=h;rw[List.takeWhile_cons,if_neg (by simp[h'])];simp
 | z::l,k+1,hk,h1=>by
  rw[List.takeWhile_cons]at h1 ⊢
  by_cases h:p z=true
  ·rw[if_pos h]at h1 ⊢;have hk':k<l.length:=by simpa using hk
   obtain⟨a,b⟩:=aFw (p:=p) hk' (by simpa using h1);exact⟨fun q=>by obtain⟨a1,a2⟩:=a q;exact⟨by simpa using a1,by simpa using a2⟩,fun q=>by have:=b q;simpa using this⟩
  rw[if_neg h]at h1;simp at h1
theorem aHu(p:Of→Bool):∀l:List Of,(l.takeWhile p).length≤l.length
 | []=>by simp
 | z::l=>by
  rw[List.takeWhile_cons];have:=aHu p l;split
  ·simp only[List.length_cons];omega
  simp
theorem aOu(x:Of)(b:Option Addr)(w:World):
  Calls Tryz.prog 148 #[.agg #[.int .u64 x.se,.int .u8 x.ow,.int .u8 x.sl,.int .u8 x.bu,.int .i64 x.lf,.int .i64 x.nu,.int .i64 x.de],.pointer b] w fun e w'=>e=.returned (.func (.func 189) #[] #[(.pointer (some ⟨w.heap.size,0,none⟩)),(.pointer (some ⟨w.heap.size+1,0,none⟩))])∧w'=(w.alloc (.cells #[.int .u64 x.se,.int .u8 x.ow,.int .u8 x.sl,.int .u8 x.bu,.int .i64 x.lf,.int .i64 x.nu,.int .i64 x.de] 100)).alloc (.cells #[.pointer b] 29):=by
 go_enter Tryz.func148,Tryz.ntmps148;go_wp2;go_ret;exact⟨rfl,rfl⟩
theorem aBu.old{w w':World}{B l base size n:Nat}{e:TypeId}{v:Value}{xs:List Value}(h:aBu w base e size v n xs)(k:aLm B l w w')(hB:B≤base)(hl:l<base):aBu w' base e size v n xs:=by
 obtain⟨h1,h2|⟨g,cs,hv,hg,hb,h3,h4,h5⟩⟩:=h
 ·exact⟨h1,.inl h2⟩
 exact⟨h1,.inr ⟨g,cs,hv,hg,Blk.old hb k (by omega) (by omega),h3,h4,h5⟩⟩
def AgIt(J:Nat→World→Prop)(W0:World)(g:Nat)(nu de:Int)(os:List Of)(m:Nat)(v i:Value)(wr:World):Prop:=
 ∃k:Nat,i=.int .i64 k∧k≤m∧J k wr∧Blk wr g #[.int .i64 de,.int .i64 nu] 46∧aBu wr W0.heap.size 48 7 v os.length (aAa os)∧W0.heap.size≤wr.heap.size
theorem aOv{I:Nat→World→Prop}{b1 b2 base gb:Nat}{l:List Of}{N:Int}{vb:Value}(x:Of)(hx:x.Fits)(hm:mayB x.nu x.de=true)(hJ:BInv l N)
  (hI:∀k W,I k W→PB W base gb l N vb∧Blk W b1 #[.int .u64 x.se,.int .u8 x.ow,.int .u8 x.sl,.int .u8 x.bu,.int .i64 x.lf,.int .i64 x.nu,.int .i64 x.de] 100∧Blk W b2 #[(.pointer (some ⟨gb,0,none⟩))] 29):
  SeqK Tryz.prog 189 #[(.pointer (some ⟨b1,0,none⟩)),(.pointer (some ⟨b2,0,none⟩))] 0 (fun k=>(agO l x.sl x.bu x.nu x.de).length≤k) (fun k vs _=>∃o:Of,(agO l x.sl x.bu x.nu x.de)[k]? = some o∧vs=#[.agg #[.int .u64 o.se,.int .u8 o.ow,.int .u8 o.sl,.int .u8 o.bu,.int .i64 o.lf,.int .i64 o.nu,.int .i64 o.de]]) (fun k k'=>k'=k+1) I:=by
 intro n lb B J Jx hgrow hJI hY W0 h0 hB hlb;obtain⟨hP,k1,k2⟩:=hI 0 W0 (hJI 0 W0 h0);have GR:=yH hgrow;have JI:=yH hJI;have HY:=yH hY;have HI:=yH hI;have J0:=yH h0;have HP:=yH hP;have HB:=yH (And.intro hB hlb);have CI:=yH (fun w=>aF7 x.nu x.de w hx.nu hx.de);rw[show alN x.nu x.de=x.nu by unfold alN;rw[if_pos hm],show alD x.nu x.de=x.de by unfold alD;rw[if_pos hm]]at CI;have CC:=yH (fun(o:Of) w (ho:o∈aC6 l x.bu x.sl)=>aI8 o.nu o.de x.de x.nu w (by have:=aCe (hJ.may o (aD4 hJ ho).1).2.2.2.2.2;unfold In64;omega) (by have:=aCe (hJ.may o (aD4 hJ ho).1).2.2.2.2.2;unfold In64;omega) hx.de hx.nu);have CB:=yH (fun w' (h:PB w' base gb l N vb)=>aJj h hJ x.bu x.sl);obtain⟨m,hmm⟩:∃m,(agO l x.sl x.bu x.nu x.de).length=m:=⟨_,rfl⟩;have TW:=yH (fun(k:Nat) (hk:k<(aC6 l x.bu x.sl).length) (h:k≤m)=>aFw (p:=fun o:Of=>decide (cmpR o.nu o.de x.de x.nu≤0)) hk (by rw[←hmm]at h;exact h));have TL:=yH (show m≤(aC6 l x.bu x.sl).length by rw[←hmm];exact aHu _ _);have AG:=yH (show(aC6 l x.bu x.sl).takeWhile (fun o:Of=>decide (cmpR o.nu o.de x.de x.nu≤0))=agO l x.sl x.bu x.nu x.de from rfl);rw[AG.out,hmm]at TW;rw[hmm];obtain⟨ag,hag⟩:∃ag,agO l x.sl x.bu x.nu x.de=ag:=⟨_,rfl⟩;rw[hag]at TW HY;generalize hos:aC6 l x.bu x.sl=os at *;have d2:=k1.cell 2;have d3:=k1.cell 3;have d5:=k1.cell 5;have d6:=k1.cell 6;have dl:=k1.lt;have e0:=k2.cell 0;have el:=k2.lt;simp at d2 d3 d5 d6 e0;have K1:=yH k1;have K2:=yH k2;clear hgrow hJI hY hI h0 hP hB hlb hx hm hJ k1 k2 hmm AG hag hos;refine callsIn_of_wp Tryz.func189 rfl trivial ?_ rfl;simp only[Tryz.ntmps189,List.size_toArray,List.length_cons,List.length_nil,Nat.reduceAdd,Nat.reduceSub,Array.replicate_succ,Array.replicate_zero,List.push_toArray,List.append_toArray,List.nil_append,List.cons_append]
 gi_wp2_with fail
 refine⟨trivial,(fun hh=>(by cases hh)),(callsIn_wide.2 (CI.out _)).mono ?_⟩;rintro e w1 ⟨rfl,hb1⟩;have J1:=yH (GR.out 0 W0 w1 J0.out hb1);have bg:=(Below.refl w1.heap.size w1).alloc yL (.cells #[.int .i64 x.de,.int .i64 x.nu] 46);have KG:=yH (pAA w1 #[.int .i64 x.de,.int .i64 x.nu] 46);have J2:=yH (GR.out 0 w1 _ J1.out bg);have bw:=hb1.trans (bg.mono hb1.size);have SZ:=yH (show W0.heap.size≤w1.heap.size∧W0.heap.size≤(w1.alloc (.cells #[.int .i64 x.de,.int .i64 x.nu] 46)).heap.size from⟨hb1.size,bw.size⟩);have K1b:=yB K1 bw;have K2b:=yB K2 bw;have CB2:=yH (CB.out _ (HP.out.below bw));clear hb1 bg bw d2 d3 d5 d6 dl e0 el J0 J1 K1 K2 CB HP CI;have d2:=K1b.out.cell 2;have d3:=K1b.out.cell 3;have dl:=K1b.out.lt;have e0:=K2b.out.cell 0;have el:=K2b.out.lt;simp at d2 d3 e0
 gi_wp2_with fail
 generalize w1.alloc (.cells #[.int .i64 x.de,.int .i64 x.nu] 46)=w2 at *;refine⟨trivial,(fun hh=>(by cases hh)),(callsIn_wide.2 CB2.out).mono ?_⟩;rintro e w3 ⟨v,rfl,hv,hb3⟩;have J3:=yH (GR.out 0 w2 w3 J2.out hb3);have KG3:=yB KG hb3;have RW:=yH (hv.base SZ.out.2);have SZ3:=yH (Nat.le_trans SZ.out.2 hb3.size);obtain⟨ao,cap,rfl,hc1,hc2,_,_⟩:=hv.look;unfold maxLen at hc2;clear hv hb3 d2 d3 dl e0 el J2 KG K1b K2b CB2
 gi_wp2_with fail
 gi_loopw [6,17,19,20,21,22,23,24,25,26,27,28,29,30,31,32] (fun _ i _ _ _ _ _ _ _ _ _ _ _ _ _ _ wr=>AgIt J W0 w1.heap.size x.nu x.de os m (.slice ao os.length cap) i wr) (fun _ i _ _ _ _ _ _ _ _ _ _ _ _ _ _ _=>os.length - (intOf i).toNat)
 case atStart=>exact⟨0,rfl,Nat.zero_le _,J3.out,KG3.out,RW.out,SZ3.out⟩
 obtain⟨k,rfl,hkm,hj,hg,hr,hs⟩:=hrel;have JR:=yH hj;have KR:=yH hg;have RR:=yH hr;have HS:=yH hs;have HKM:=yH hkm
 by_cases hkl:k<os.length
 ·have q0:decide ((k:Int)<(os.length:Int))=true:=by simpa using hkl
  have hki:(k:Int)<(os.length:Int):=by omega
  have hk0:(0:Int)≤(k:Int):=by omega
  obtain⟨_,_,hvv,_,_,_,hcc⟩:=hr.look
  cases hvv
  obtain⟨b,rfl,_,hb,hc,_⟩:=hcc (by omega);obtain⟨e0,e1,e2,e3,e4,e5,e6⟩:=aB0 (w:=wr) hc hkl;have T:=yH (TW.out k hkl hkm);have CC1:=yH (fun w=>CC.out os[k] w (List.getElem_mem hkl));have HKL:=yH hkl;clear hj hg hr hs hkm hcc hc;generalize os[k]=o at *;clear hkl;have bo:=(Below.refl wr.heap.size wr).alloc yL (.cells #[.int .u64 o.se,.int .u8 o.ow,.int .u8 o.sl,.int .u8 o.bu,.int .i64 o.lf,.int .i64 o.nu,.int .i64 o.de] 48);have KO:=yH (pAA wr #[.int .u64 o.se,.int .u8 o.ow,.int .u8 o.sl,.int .u8 o.bu,.int .i64 o.lf,.int .i64 o.nu,.int .i64 o.de] 48);have JR4:=yH (GR.out k wr _ JR.out bo);have KR4:=yB KR bo;have RR4:=yH (RR.out.below bo);have HS4:=yH (Nat.le_trans HS.out bo.size);clear bo JR KR RR HS;obtain⟨c,hcv⟩:∃c,cmpR o.nu o.de x.de x.nu=c:=⟨_,rfl⟩;rw[hcv]at T CC1;clear hcv;have g0:=KR4.out.cell 0;have g1:=KR4.out.cell 1;have gl:=KR4.out.lt;have o0:=KO.out.cell 0;have o1:=KO.out.cell 1;have o2:=KO.out.cell 2;have o3:=KO.out.cell 3;have o4:=KO.out.cell 4;have o5:=KO.out.cell 5;have o6:=KO.out.cell 6;have ol:=KO.out.lt;simp at g0 g1 o0 o1 o2 o3 o4 o5 o6
  gi_wp2_with fail
  generalize wr.alloc (.cells #[.int .u64 o.se,.int .u8 o.ow,.int .u8 o.sl,.int .u8 o.bu,.int .i64 o.lf,.int .i64 o.nu,.int .i64 o.de] 48)=w4 at *;refine⟨trivial,(fun hh=>(by cases hh)),(callsIn_wide.2 (CC1.out _)).mono ?_⟩;rintro e w5 ⟨rfl,hb5⟩;have JR5:=yH (GR.out k w4 _ JR4.out hb5);have KR5:=yB KR4 hb5;have RR5:=yH (RR4.out.below hb5);have HS5:=yH (Nat.le_trans HS4.out hb5.size);have KO5:=yB KO hb5;clear hb5 g0 g1 gl o0 o1 o2 o3 o4 o5 o6 ol e0 e1 e2 e3 e4 e5 e6 JR4 KR4 RR4 HS4 KO CC1 hb;have o0:=KO5.out.cell 0;have o1:=KO5.out.cell 1;have o2:=KO5.out.cell 2;have o3:=KO5.out.cell 3;have o4:=KO5.out.cell 4;have o5:=KO5.out.cell 5;have o6:=KO5.out.cell 6;have ol:=KO5.out.lt;simp at o0 o1 o2 o3 o4 o5 o6
  by_cases hle:c≤0
  ·have q1:decide (c > 0)=false:=by simp;omega
   have q2:decide (0<c)=false:=by simp;omega
   obtain⟨t1,t2⟩:=T.out.1 (by simpa using hle);obtain⟨fn,tmps,assign,body,hy,hR⟩:=HY.out (n - 1) k #[.agg #[.int .u64 o.se,.int .u8 o.ow,.int .u8 o.sl,.int .u8 o.bu,.int .i64 o.lf,.int .i64 o.nu,.int .i64 o.de]] w5 JR5.out ⟨o,t2,rfl⟩;have RY:=yH hR;have HT1:=yH t1;clear hle t1 t2 hR T
   gi_wp2_with fail
   refine⟨(fun hh=>(by cases hh)),RY.out.mono ?_⟩;rintro e W6 ⟨hof,(⟨rfl,k',rfl,hj⟩|⟨rfl,hjx⟩)⟩
   ·have JN:=yH hj;have KN:=yH (Blk.old KR5.out hof (by have:=HB.out;have:=SZ.out;omega) (by have:=HB.out;have:=SZ.out;omega));have RN:=yH (RR5.out.old hof (by have:=HB.out;omega) (by have:=HB.out;omega));have HN:=yH (Nat.le_trans HS5.out hof.size);clear hj hof RY o0 o1 o2 o3 o4 o5 o6 ol hy
    gi_wp2_with fail
    go_roundw
    case rel=>exact⟨k+1,by go_num,HT1.out,JN.out,KN.out,RN.out,HN.out⟩
    case measure=>simp[intOf];have:=HKL.out;omega
   have HX:=yH hjx;clear hjx hof RY o0 o1 o2 o3 o4 o5 o6 ol hy
   gi_wp2_with fail
   refine bodyPost_ret (results_none rfl _ _ _) rfl ?_;exact⟨⟨_,rfl⟩,.inr HX.out⟩
  have q1:decide (c > 0)=true:=by simp;omega
  have q2:decide (0<c)=true:=by simp;omega
  have HE:=yH (T.out.2 (by simpa using hle));clear hle T
  gi_wp2_with fail
  refine⟨fun _ h=>(by cases h),?_⟩
  gi_wp2_with fail
  refine bodyPost_ret (results_none rfl _ _ _) rfl ?_;exact⟨⟨_,rfl⟩,.inl ⟨k,HE.out,JR5.out⟩⟩
 have q0:decide ((k:Int)<(os.length:Int))=false:=by simpa using hkl
 have q1:decide (k<os.length)=false:=by simpa using hkl
 have HE:=yH (show m≤k by have:=TL.out;omega);clear hj hg hr hs hkm hkl
 gi_wp2_with fail
 go_end0;exact⟨⟨_,rfl⟩,.inl ⟨k,HE.out,JR.out⟩⟩
end Go.Proofs.YtaeocliklpcgmaaGreat
