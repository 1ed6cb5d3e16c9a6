/- Pieces of one proof. -/
import Derived.Test.YtaeocliklpcgmaaGreatP09
import Derived.Test.YtaeocliklpcgmaaGreatP25
import Derived.Shelf.SlSortCmp.NoneTotal
import Derived.Sort.Grow
set_option linter.all false
set_option maxHeartbeats 64000000
set_option maxRecDepth 100000
namespace Go.Proofs.YtaeocliklpcgmaaGreat
open Go.RowKit
theorem cmade_of{w:World}{a b:Option Addr}{er:Int}(h:∀w',Below w.heap.size w w'→Calls Tryz.prog 87 #[.agg #[.pointer a,.pointer b],.int .u64 0,.int .u8 0,.int .u8 0,.int .i64 0] w' fun e w''=>e=.returned (.tuple #[aF3,.int .i64 er])∧Below w'.heap.size w' w''):
  Calls Tryz.prog 101 #[.agg #[.pointer a,.pointer b]] w (yR w (.bool (er != 2))):=by
 have b0:=(Below.refl w.heap.size w).alloc yL (.cells #[.pointer a,.pointer b] 31);have K:=yH (pAA w #[.pointer a,.pointer b] 31);have B:=yH b0;have C:=yH (h _ b0);clear b0 h;obtain⟨q,hq⟩:∃q,(er != 2)=q:=⟨_,rfl⟩;rw[hq];unfold aF3 at C;generalize hW:w.alloc (.cells #[.pointer a,.pointer b] 31)=W at *;have HW:=yH hW;clear hW;have c0:=K.out.cell 0;have c1:=K.out.cell 1;simp at c0 c1;clear K;go_enter Tryz.func101,Tryz.ntmps101
 go_upto_region 1 with fail
 rw[HW.out];go_wp2_with fail;refine C.out.mono ?_;rintro e w1 ⟨rfl,b1⟩;have B1:=yH ((B.out.trans (b1.mono B.out.size)).alloc (Nat.le_trans B.out.size b1.size) (.cells #[.int .u64 0,.int .u8 0,.int .u8 0,.int .i64 0,.int .i64 0] 73));clear b1 c0 c1 C B;go_wp2_with fail;go_ret;exact⟨rfl,B1.out⟩
theorem cmade_any(HD:aGq){w:World}{base G M gb:Nat}{ps:List Int}{ls:List Ln}{l:List Of}{N:Int}{vb:Value}(hL:LedM w G M ps ls)(hI:LInv ps ls)(hP:PB w base gb l N vb)(hJ:BInv l N):
  Calls Tryz.prog 101 #[.agg #[.pointer (some ⟨G,0,none⟩),.pointer (some ⟨gb,0,none⟩)]] w (yR w (.bool true)):=
 cmade_of (er:=1) (fun w' b=>(aOk HD (hL.below b) hI (hP.below b) hJ 0 0 0 0 (by omega) (by unfold In8;omega) (by unfold In8;omega) (by unfold In64;omega)).mono (by
  rintro e w'' (⟨_,h1,h2⟩|⟨h,_⟩)
  ·exact⟨h1,h2⟩
  exact absurd h.1 (by omega)))
theorem may_one(x:Of):(okO 2 [(⟨1,x.ow,x.sl,x.bu,x.lf,x.nu,x.de⟩:Of)]∧(2:Int)≠0)↔x.may:=by
 constructor
 ·rintro⟨⟨_,h⟩,_⟩;exact(h _ List.mem_cons_self).1
 intro h;refine⟨⟨List.pairwise_singleton _ _,fun y hy=>?_⟩,by decide⟩;rw[List.mem_singleton]at hy;subst hy;exact⟨h,by show(1:Int)≠0;decide,by show(1:Int)<2;decide⟩
theorem cmay_any(x:Of)(hx:x.Fits)(w:World):Calls Tryz.prog 102 #[.agg #[.int .u64 x.se,.int .u8 x.ow,.int .u8 x.sl,.int .u8 x.bu,.int .i64 x.lf,.int .i64 x.nu,.int .i64 x.de]] w (yR w (.bool (decide x.may))):=by
 have b0:=(Below.refl w.heap.size w).alloc yL (.cells #[.int .u64 x.se,.int .u8 x.ow,.int .u8 x.sl,.int .u8 x.bu,.int .i64 x.lf,.int .i64 x.nu,.int .i64 x.de] 100);have K:=yH (pAA w #[.int .u64 x.se,.int .u8 x.ow,.int .u8 x.sl,.int .u8 x.bu,.int .i64 x.lf,.int .i64 x.nu,.int .i64 x.de] 100);have B:=yH b0;have HX:=yH hx;obtain⟨q,hq⟩:∃q,decide x.may=q:=⟨_,rfl⟩;have HQ:=yH hq;rw[hq];clear b0 hx hq;generalize hW:w.alloc (.cells #[.int .u64 x.se,.int .u8 x.ow,.int .u8 x.sl,.int .u8 x.bu,.int .i64 x.lf,.int .i64 x.nu,.int .i64 x.de] 100)=W at *;have HW:=yH hW;clear hW;have fz:=K.out.frozen 0;have z0:=K.out.cell 0;simp at z0;have K2:=yH (K.out.set 0 (.int .u64 1));go_enter Tryz.func102,Tryz.ntmps102
 go_upto_region 1 with fail
 rw[HW.out]
 go_upto_region 2 with fail
 have B2:=yH (B.out.setCell (p:=⟨w.heap.size,0,none⟩) (by show w.heap.size≤w.heap.size;omega) (.int .u64 1));clear fz z0 K B;generalize W.setCell ⟨w.heap.size,0,none⟩ (.int .u64 1)=W2 at *;have c0:=K2.out.cell 0;have c1:=K2.out.cell 1;have c2:=K2.out.cell 2;have c3:=K2.out.cell 3;have c4:=K2.out.cell 4;have c5:=K2.out.cell 5;have c6:=K2.out.cell 6;simp at c0 c1 c2 c3 c4 c5 c6;have bl:=(Below.refl W2.heap.size W2).alloc yL (.cells #[.int .u64 1,.int .u8 x.ow,.int .u8 x.sl,.int .u8 x.bu,.int .i64 x.lf,.int .i64 x.nu,.int .i64 x.de] 48);have KL:=yH (pAA W2 #[.int .u64 1,.int .u8 x.ow,.int .u8 x.sl,.int .u8 x.bu,.int .i64 x.lf,.int .i64 x.nu,.int .i64 x.de] 48);have B3:=yT B2 bl
 have RD:Hid (aC0 (W2.alloc (.cells #[.int .u64 1,.int .u8 x.ow,.int .u8 x.sl,.int .u8 x.bu,.int .i64 x.lf,.int .i64 x.nu,.int .i64 x.de] 48)) (.slice (some ⟨W2.heap.size,0,none⟩) 1 1) 7 [(⟨1,x.ow,x.sl,x.bu,x.lf,x.nu,x.de⟩:Of)].length (aAa [(⟨1,x.ow,x.sl,x.bu,x.lf,x.nu,x.de⟩:Of)])):=yH (by
  refine⟨_,1,rfl,by show(1:Nat)≤100000000;decide,rfl,fun _=>⟨W2.heap.size,0,rfl,KL.out.lt,fun j hj=>?_⟩⟩;rw[Nat.zero_add,KL.out.cell j];have hj7:j<7:=hj;rcases(by omega:j=0∨j=1∨j=2∨j=3∨j=4∨j=5∨j=6)with rfl|rfl|rfl|rfl|rfl|rfl|rfl <;> rfl)
 have CO:=yH (pofB_any (nx:=2) RD.out (fun y hy=>by rw[List.mem_singleton]at hy;subst hy;exact⟨by show(0:Int)≤1∧(1:Int)≤18446744073709551615;decide,HX.out.ow,HX.out.sl,HX.out.bu,HX.out.lf,HX.out.nu,HX.out.de⟩) (by decide) (by decide));have QY:Hid ((okO 2 [(⟨1,x.ow,x.sl,x.bu,x.lf,x.nu,x.de⟩:Of)]∧(2:Int)≠0)↔x.may):=yH (may_one x);clear bl RD;go_wp2_with fail;generalize W2.alloc (.cells #[.int .u64 1,.int .u8 x.ow,.int .u8 x.sl,.int .u8 x.bu,.int .i64 x.lf,.int .i64 x.nu,.int .i64 x.de] 48)=W3 at *;refine CO.out.mono ?_;rintro e w1 ⟨b1,hp⟩;have B4:=yT B3 b1;clear b1 c0 c1 c2 c3 c4 c5 c6 CO KL K2 B2;rcases hp with⟨_,h1,h2,g,vl,rfl,_⟩|⟨rfl,h⟩|⟨rfl,_,h⟩
 ·obtain rfl:true=q:=by rw[←HQ.out,decide_eq_true (QY.out.1 ⟨h1,h2⟩)]
  clear h1 h2;go_wp2_with fail;go_ret;exact⟨rfl,B4.out⟩
 ·exact absurd h (by show ¬32<1;decide)
 obtain rfl:false=q:=by rw[←HQ.out,decide_eq_false (fun q=>h (QY.out.2 q))]
 clear h;go_wp2_with fail;go_ret;exact⟨rfl,B4.out⟩
def aHh(ps:List Int)(x:Of):Int:=if ¬x.may then 1 else if x.ow∉ps then 7 else 0
theorem aSt{w:World}{a b:Option Addr}(x:Of)(h:∀w',Below w.heap.size w w'→Calls Tryz.prog 101 #[.agg #[.pointer a,.pointer b]] w' fun e w''=>e=.returned (.bool false)∧Below w'.heap.size w' w''):
  Calls Tryz.prog 44 #[.agg #[.int .u64 x.se,.int .u8 x.ow,.int .u8 x.sl,.int .u8 x.bu,.int .i64 x.lf,.int .i64 x.nu,.int .i64 x.de],.agg #[.pointer a,.pointer b]] w (yR w (.int .i64 2)):=by
 have b0:=((Below.refl w.heap.size w).alloc yL (.cells #[.int .u64 x.se,.int .u8 x.ow,.int .u8 x.sl,.int .u8 x.bu,.int .i64 x.lf,.int .i64 x.nu,.int .i64 x.de] 100));have b1:=b0.alloc b0.size (.cells #[.pointer a,.pointer b] 31);have K:=yH (pAC (w.alloc (.cells #[.int .u64 x.se,.int .u8 x.ow,.int .u8 x.sl,.int .u8 x.bu,.int .i64 x.lf,.int .i64 x.nu,.int .i64 x.de] 100)) #[.pointer a,.pointer b] 31 (g:=w.heap.size+1) (by simp));have B:=yH b1;have C:=yH (h _ b1);clear b0 b1 h;generalize hW:(w.alloc (.cells #[.int .u64 x.se,.int .u8 x.ow,.int .u8 x.sl,.int .u8 x.bu,.int .i64 x.lf,.int .i64 x.nu,.int .i64 x.de] 100)).alloc (.cells #[.pointer a,.pointer b] 31)=W at *;have HW:=yH hW;clear hW;have c0:=K.out.cell 0;have c1:=K.out.cell 1;simp at c0 c1;clear K;go_enter Tryz.func44,Tryz.ntmps44
 go_upto_region 1 with fail
 rw[HW.out];go_wp2_with fail;refine C.out.mono ?_;rintro e w1 ⟨rfl,b1⟩;have B1:=yT B b1;clear b1 c0 c1 C B;go_wp2_with fail;go_ret;exact⟨rfl,B1.out⟩
theorem cwrong_any(HD:aGq){w:World}{base G M gb:Nat}{ps:List Int}{ls:List Ln}{l:List Of}{N:Int}{vb:Value}(hL:LedM w G M ps ls)(hI:LInv ps ls)(hP:PB w base gb l N vb)(hJ:BInv l N)(x:Of)(hx:x.Fits):
  Calls Tryz.prog 44 #[.agg #[.int .u64 x.se,.int .u8 x.ow,.int .u8 x.sl,.int .u8 x.bu,.int .i64 x.lf,.int .i64 x.nu,.int .i64 x.de],.agg #[.pointer (some ⟨G,0,none⟩),.pointer (some ⟨gb,0,none⟩)]] w (yR w (.int .i64 (aHh ps x))):=by
 have b0:=((Below.refl w.heap.size w).alloc yL (.cells #[.int .u64 x.se,.int .u8 x.ow,.int .u8 x.sl,.int .u8 x.bu,.int .i64 x.lf,.int .i64 x.nu,.int .i64 x.de] 100));have b1:=b0.alloc b0.size (.cells #[.pointer (some ⟨G,0,none⟩),.pointer (some ⟨gb,0,none⟩)] 31);have KS:=yH ((pAA w #[.int .u64 x.se,.int .u8 x.ow,.int .u8 x.sl,.int .u8 x.bu,.int .i64 x.lf,.int .i64 x.nu,.int .i64 x.de] 100).alloc (.cells #[.pointer (some ⟨G,0,none⟩),.pointer (some ⟨gb,0,none⟩)] 31));have KH:=yH (pAC (w.alloc (.cells #[.int .u64 x.se,.int .u8 x.ow,.int .u8 x.sl,.int .u8 x.bu,.int .i64 x.lf,.int .i64 x.nu,.int .i64 x.de] 100)) #[.pointer (some ⟨G,0,none⟩),.pointer (some ⟨gb,0,none⟩)] 31 (g:=w.heap.size+1) (by simp));have HL:=yH (hL.below b1);have C:=yH (cmade_any HD (hL.below b1) hI (hP.below b1) hJ);have B:=yH b1;have HB:=yH hI.bd;have CM:=yH (fun w=>cmay_any x hx w);obtain⟨R,hR⟩:∃R,aHh ps x=R:=⟨_,rfl⟩;rw[hR];have HR:=yH hR;clear b0 b1 hL hI hP hJ hR hx;generalize hW:(w.alloc (.cells #[.int .u64 x.se,.int .u8 x.ow,.int .u8 x.sl,.int .u8 x.bu,.int .i64 x.lf,.int .i64 x.nu,.int .i64 x.de] 100)).alloc (.cells #[.pointer (some ⟨G,0,none⟩),.pointer (some ⟨gb,0,none⟩)] 31)=W at *;have HW:=yH hW;clear hW;have c0:=KH.out.cell 0;have c1:=KH.out.cell 1;simp at c0 c1;go_enter Tryz.func44,Tryz.ntmps44
 go_upto_region 1 with fail
 rw[HW.out];go_wp2_with fail;refine C.out.mono ?_;rintro e w1 ⟨rfl,b1⟩;have HL1:=yH (HL.out.below b1);have KS1:=yB KS b1;have KH1:=yB KH b1;have B1:=yT B b1;clear b1 c0 c1 C B HL KS KH;have s0:=KS1.out.cell 0;have s1:=KS1.out.cell 1;have s2:=KS1.out.cell 2;have s3:=KS1.out.cell 3;have s4:=KS1.out.cell 4;have s5:=KS1.out.cell 5;have s6:=KS1.out.cell 6;simp at s0 s1 s2 s3 s4 s5 s6
 by_cases hm:x.may
 ·rw[decide_eq_true hm]at CM;have HMY:=yH hm;clear hm;go_wp2_with fail;refine(CM.out _).mono ?_;rintro e w2 ⟨rfl,b2⟩;have HL2:=yH (HL1.out.below b2);have KS2:=yB KS1 b2;have KH2:=yB KH1 b2;have B2:=yT B1 b2;clear b2 s0 s1 s2 s3 s4 s5 s6 CM B1 HL1 KS1 KH1;have s1:=KS2.out.cell 1;have c0:=KH2.out.cell 0;have c1:=KH2.out.cell 1;simp at s1 c0 c1;have CF:=yH (aHp HL2.out.blk HB.out x.ow)
  by_cases hf:x.ow∈ps
  ·rw[decide_eq_true hf]at CF;have EE:Hid (R=0):=yH (by rw[←HR.out];unfold aHh;rw[if_neg (fun h=>h HMY.out),if_neg (fun h=>h hf)]);clear hf;go_wp2_with fail;refine CF.out.mono ?_;rintro e w3 ⟨rfl,rfl⟩;go_wp2_with fail;go_ret;exact⟨by rw[EE.out];rfl,B2.out⟩
  rw[decide_eq_false hf]at CF;have EE:Hid (R=7):=yH (by rw[←HR.out];unfold aHh;rw[if_neg (fun h=>h HMY.out),if_pos hf]);clear hf;go_wp2_with fail;refine CF.out.mono ?_;rintro e w3 ⟨rfl,rfl⟩;go_wp2_with fail;go_ret;exact⟨by rw[EE.out];rfl,B2.out⟩
 rw[decide_eq_false hm]at CM;have EE:Hid (R=1):=yH (by rw[←HR.out];unfold aHh;rw[if_pos hm]);clear hm;go_wp2_with fail;refine(CM.out _).mono ?_;rintro e w2 ⟨rfl,b2⟩;have B2:=yT B1 b2;clear b2 s0 s1 s2 s3 s4 s5 s6 CM B1;go_wp2_with fail;go_ret;exact⟨by rw[EE.out];rfl,B2.out⟩
theorem crest_none(x:Of)(hn:x.lf<1)(b:Option Addr)(w:World):
  Calls Tryz.prog 46 #[.agg #[.int .u64 x.se,.int .u8 x.ow,.int .u8 x.sl,.int .u8 x.bu,.int .i64 x.lf,.int .i64 x.nu,.int .i64 x.de],.pointer b] w (yR w (.tuple #[.int .u64 0,.int .i64 0])):=by
 have b0:=((Below.refl w.heap.size w).alloc yL (.cells #[.int .u64 x.se,.int .u8 x.ow,.int .u8 x.sl,.int .u8 x.bu,.int .i64 x.lf,.int .i64 x.nu,.int .i64 x.de] 100));have KS:=yH (pAA w #[.int .u64 x.se,.int .u8 x.ow,.int .u8 x.sl,.int .u8 x.bu,.int .i64 x.lf,.int .i64 x.nu,.int .i64 x.de] 100);have B:=yH b0;have q0:decide (x.lf<1)=true:=by simpa using hn
 clear b0 hn;generalize hW:w.alloc (.cells #[.int .u64 x.se,.int .u8 x.ow,.int .u8 x.sl,.int .u8 x.bu,.int .i64 x.lf,.int .i64 x.nu,.int .i64 x.de] 100)=W at *;have HW:=yH hW;clear hW;have s4:=KS.out.cell 4;simp at s4;go_enter Tryz.func46,Tryz.ntmps46
 go_upto_region 1 with fail
 rw[HW.out];go_wp2_with fail;go_ret2;exact⟨rfl,B.out⟩
theorem crest_any{w:World}{base g:Nat}{l:List Of}{N:Int}{vl:Value}(h:PB w base g l N vl)(hI:BInv l N)(x:Of)(hx:x.Fits)(hn:¬x.lf<1):
  Calls Tryz.prog 46 #[.agg #[.int .u64 x.se,.int .u8 x.ow,.int .u8 x.sl,.int .u8 x.bu,.int .i64 x.lf,.int .i64 x.nu,.int .i64 x.de],.pointer (some ⟨g,0,none⟩)] w fun e w'=>e=.returned (.tuple #[.int .u64 (aCo l ⟨N,x.ow,x.sl,x.bu,x.lf,x.nu,x.de⟩),.int .i64 (aBw l ⟨N,x.ow,x.sl,x.bu,x.lf,x.nu,x.de⟩)])∧
   ∃vl',PB w' base g (aB8 l ⟨N,x.ow,x.sl,x.bu,x.lf,x.nu,x.de⟩) (aBo l ⟨N,x.ow,x.sl,x.bu,x.lf,x.nu,x.de⟩) vl'∧Keep (Foot g vl) w w'∧aEt w vl vl':=by
 have b0:=((Below.refl w.heap.size w).alloc yL (.cells #[.int .u64 x.se,.int .u8 x.ow,.int .u8 x.sl,.int .u8 x.bu,.int .i64 x.lf,.int .i64 x.nu,.int .i64 x.de] 100));have KS:=yH (pAA w #[.int .u64 x.se,.int .u8 x.ow,.int .u8 x.sl,.int .u8 x.bu,.int .i64 x.lf,.int .i64 x.nu,.int .i64 x.de] 100);have B:=yH b0;have q0:decide (x.lf<1)=false:=by simpa using hn
 have CP:=yH (aG5 (x:=⟨N,x.ow,x.sl,x.bu,x.lf,x.nu,x.de⟩) (h.below b0) hI ⟨⟨by have:=hI.n1;show 0≤N;omega,hI.n2⟩,hx.ow,hx.sl,hx.bu,hx.lf,hx.nu,hx.de⟩);obtain⟨rs,hrs⟩:∃rs,aCo l ⟨N,x.ow,x.sl,x.bu,x.lf,x.nu,x.de⟩=rs:=⟨_,rfl⟩;obtain⟨re,hre⟩:∃re,aBw l ⟨N,x.ow,x.sl,x.bu,x.lf,x.nu,x.de⟩=re:=⟨_,rfl⟩;rw[hrs,hre]at CP ⊢;dsimp only at CP;clear b0 hn h hI hx hrs hre;generalize hW:w.alloc (.cells #[.int .u64 x.se,.int .u8 x.ow,.int .u8 x.sl,.int .u8 x.bu,.int .i64 x.lf,.int .i64 x.nu,.int .i64 x.de] 100)=W at *;have HW:=yH hW;clear hW;have s1:=KS.out.cell 1;have s2:=KS.out.cell 2;have s3:=KS.out.cell 3;have s4:=KS.out.cell 4;have s5:=KS.out.cell 5;have s6:=KS.out.cell 6;simp at s1 s2 s3 s4 s5 s6;go_enter Tryz.func46,Tryz.ntmps46
 go_upto_region 1 with fail
 rw[HW.out];go_wp2_with fail;refine CP.out.mono ?_;rintro e w1 ⟨rfl,vl',hP,k1,hm⟩;have HP:=yH hP;have K1:=yH ((pAE (S:=Foot g vl) B.out).trans k1);have M1:=yH (show aEt w vl vl' from fun b hb=>(hm b hb).imp id (fun h=>Nat.le_trans B.out.size h));clear hP k1 hm CP s1 s2 s3 s4 s5 s6;go_wp2_with fail;go_ret2;exact⟨rfl,vl',HP.out,K1.out,M1.out⟩
structure aOm(B l:Nat)(W W':World):Prop where
 size:W.heap.size≤W'.heap.size
 same:∀k,B≤k→k≠l→k<W.heap.size→W'.heap[k]? = W.heap[k]?
structure aJx(B:Nat)(W W':World):Prop where
 size:W.heap.size≤W'.heap.size
 same:∀k,B≤k→k<W.heap.size→W'.heap[k]? = W.heap[k]?
theorem pAP{S:Nat→Prop}{B:Nat}{W W':World}(h:Keep S W W')(hS:∀k,B≤k→¬S k):aJx B W W':=
 ⟨h.size,fun k hB hk=>h.block k hk (hS k hB)⟩
theorem Blk.old{W W':World}{B l g:Nat}{cs:Array Value}{t:TypeId}(h:Blk W g cs t)(k:aOm B l W W')(hB:B≤g)(hl:g≠l):Blk W' g cs t:=(k.same g hB hl h.lt).trans h
def SeqK(P:Program)(gf:FuncId)(lb:Array Value){St:Type}(s0:St)(S:St→Prop)(Y:St→Array Value→World→Prop)(next:St→St→Prop)(I:St→World→Prop):Prop:=
 ∀(n l B:Nat) (J:St→World→Prop) (Jx:World→Prop),(∀s W W',J s W→Below W.heap.size W W'→J s W')→(∀s W,J s W→I s W)→
  (∀m s vs W,J s W→Y s vs W→YieldAt Fence.wide m P l vs W fun e W'=>aOm B l W W'∧((e=.returned (.bool true)∧∃s',next s s'∧J s' W')∨(e=.returned (.bool false)∧Jx W')))→
  ∀W,J s0 W→B≤W.heap.size→l<W.heap.size→CallsIn Fence.wide n P gf (#[.func (.yield l) #[] #[]]++lb) W fun e W'=>(∃v,e=.returned v)∧((∃s,S s∧J s W')∨Jx W')
def aQo{St:Type}(B:Nat)(I:St→World→Prop)(Ix:Code→World→Prop)(next:St→St→Prop)(s:St)(W:World):Exit→Act→World→Prop
 | .normal,_,W'=>aJx B W W'∧∃s',next s s'∧I s' W'
 | .ret,_,W'=>aJx B W W'∧Ix .ret W'
 | .exit id,_,W'=>aJx B W W'∧Ix (.exit id) W'
 | .goto t,_,W'=>aJx B W W'∧Ix (.goto t) W'
 | .panic _,_,_=>False
 | .outgrown,_,_=>False
theorem wp_roundsK{P:Program}{g:Operand}{ps:Array Tmp}{assign body:Code}{Q:Exit→Act→World→Prop}{a:Act}{w:World}{St:Type}{gf:FuncId}{lb:Array Value}
  (hg:a.eval g=.func (.func gf) #[] lb)(eg:∀args w,(callFunc gf args).run P w=.ok (.enter gf args) w)
  (I:St→World→Prop)(Y:St→Array Value→World→Prop)(Ix:Code→World→Prop)(S:St→Prop)(next:St→St→Prop)(A:St→Array Value→Act→World→Prop)
  (hI:∀s,Fits w.heap.size (I s))(hIx:∀c,Fits w.heap.size (Ix c))(hA:∀s vs a,Fits w.heap.size (A s vs a))(hps:∀s vs W,Y s vs W→vs.size=ps.size)
  (s0:St)(hseq:SeqK P gf lb s0 S Y next I)(h0:I s0 w)
  (hassign:∀(m l:Nat) (s:St) (vs:Array Value) (W:World) (K:Act→World→Prop),I s W→Y s vs W→(∀a' W',Below W.heap.size W W'→A s vs a' W'→K a' W')→
   assign.wpIn (Fence.wide.inRound l) m P (Exit.then K fun _ _ _=>False) { tmps:=(ps.zip vs).foldl (fun t (p,v)=>t.setIfInBounds p v) a.tmps,defers:=[] } W)
  (hbody:∀(m l:Nat) (s:St) (vs:Array Value) (a':Act) (W:World),w.heap.size≤W.heap.size→I s W→A s vs a' W→body.wpIn (Fence.wide.inRound l) m P (aQo w.heap.size I Ix next s W) a' W)
  (hdone:∀(D:Nat) (s:St) (W:World),w.heap.size≤D→S s→I s W→W.heap[D]? = some (.deferred (some []))→Q .normal { a with defers:={ target:=.collected D,args:=#[] }::a.defers } W)
  (hstop:∀(D:Nat) (c:Code) (W:World),w.heap.size≤D→Ix c W→W.heap[D]? = some (.deferred (some []))→c.wp P Q { a with defers:={ target:=.collected D,args:=#[] }::a.defers } W):
  (Code.rangeFunc g ps assign body).wp P Q a w:=by
 refine(wpIn_wide (n:=0)).1 (wpIn_rangeFunc fun fn hfn=>?_);obtain⟨rec,hrec⟩:∃rec:LoopState→Option Code→Loop,rec=fun st pe=>{ state:=st,pending:=pe,fn,tmps:=a.tmps,params:=ps,assign,body,defers:=w.heap.size }:=⟨_,rfl⟩
 obtain⟨W1,hW1⟩:∃W1,(w.alloc (.deferred (some []))).alloc (.loop (rec .ready none))=W1:=⟨_,rfl⟩
 have hl1:W1.heap[w.heap.size+1]? = some (.loop (rec .ready none)):=by
  have e:=World.alloc_heap_new (w.alloc (.deferred (some []))) (.loop (rec .ready none));rw[World.size_alloc,hW1]at e;exact e
 have hd1:W1.heap[w.heap.size]? = some (.deferred (some [])):=by
  rw[←hW1];exact(Below.heap_alloc _ _ _ (by simp)).trans (World.alloc_heap_new w _)
 have hb1:Below w.heap.size w W1:=by
  rw[←hW1];exact((Below.refl _ w).alloc yL _).alloc (by simp) _
 have hI1:I s0 W1:=(hI s0).grow _ _ h0 hb1
 refine⟨w.heap.size+1,[{ target:=.collected w.heap.size,args:=#[] }],W1,{ target:=.fn (.func gf) lb,args:=#[.func (.yield (w.heap.size+1)) #[] #[]] },W1,gf,
  #[.func (.yield (w.heap.size+1)) #[] #[]]++lb,W1,?_,?_,fun _ _=>trivial,?_,fun hh=>(by cases hh),?_⟩
 ·rw[←hW1,hrec];exact run_enterLoop_outer _ _ _ _ _
 ·simp only[resolve,hg];simp[go_sem]
 ·simp[invoke,go_sem,eg]
 refine(hseq (0 - 1) (w.heap.size+1) w.heap.size (fun s W=>I s W∧W.heap[w.heap.size+1]? = some (.loop (rec .ready none))∧W.heap[w.heap.size]? = some (.deferred (some [])))
  (fun W=>∃c,Ix c W∧W.heap[w.heap.size+1]? = some (.loop (rec .done (some c)))∧W.heap[w.heap.size]? = some (.deferred (some [])))
  (fun s W W' h hb=>⟨(hI s).grow _ _ h.1 hb,(hb.block _ (Array.getElem?_eq_some_iff.1 h.2.1).1).trans h.2.1,(hb.block _ (Array.getElem?_eq_some_iff.1 h.2.2).1).trans h.2.2⟩)
  (fun s W h=>h.1) ?_ W1 ⟨hI1,hl1,hd1⟩ hb1.size (Array.getElem?_eq_some_iff.1 hl1).1).mono ?_
 ·rintro m s vs V ⟨hiV,hlV,hkV⟩ hy;have hry:=run_yield (P:=P) (args:=vs) hlV (by rw[hrec];exact hps s vs V hy);rw[hrec]at hry;refine⟨fn,_,assign,body,hry,roundIn_of_wpIn hfn (hassign m _ s vs V _ hiV hy (fun a1 W hb hAx=>?_))⟩;clear hry;have hi:=(hI s).grow _ _ hiV hb;have hl:=(hb.block _ (Array.getElem?_eq_some_iff.1 hlV).1).trans hlV;have hk:=(hb.block _ (Array.getElem?_eq_some_iff.1 hkV).1).trans hkV;have hlt:=(Array.getElem?_eq_some_iff.1 hl).1;refine⟨_,run_beginRound hl (by rw[hrec]),?_⟩;obtain⟨W2,hW2⟩:∃W2,W.putObj (w.heap.size+1) (.loop { rec .ready none with state:=.busy })=W2:=⟨_,rfl⟩;have hl2:W2.heap[w.heap.size+1]? = some (.loop { rec .ready none with state:=.busy }):=by rw[←hW2];exact World.putObj_heap_same hlt
  have hk2:W2.heap[w.heap.size]? = some (.deferred (some [])):=by rw[←hW2];exact(World.putObj_heap_other (by omega)).trans hk
  have hs2:W2.heap.size=W.heap.size:=by rw[←hW2];simp[World.putObj]
  have ho2:∀k,k≠w.heap.size+1→W2.heap[k]? = W.heap[k]? := fun k hk=>by rw[←hW2];exact World.putObj_heap_other (by omega)
  have hi2:I s W2:=by rw[←hW2];exact(hI s).turn _ _ _ _ hi (by omega) hl rfl
  have hA2:A s vs a1 W2:=by rw[←hW2];exact(hA s vs a1).turn _ _ _ _ hAx (by omega) hl rfl
  rw[hW2];refine wpIn_mono (hbody m _ s vs a1 W2 (by omega) hi2 hA2) ?_
  have fin:∀(jump:Option Code) (W3:World),aJx w.heap.size W2 W3→
    (Instr.endRound (w.heap.size+1) jump).run P W3=.ok (.bool jump.isNone) (W3.putObj (w.heap.size+1) (.loop (rec (if jump.isNone then .ready else .done) jump)))∧
    W3.heap[w.heap.size+1]? = some (.loop { rec .ready none with state:=.busy })∧
    (W3.putObj (w.heap.size+1) (.loop (rec (if jump.isNone then .ready else .done) jump))).heap[w.heap.size+1]? = some (.loop (rec (if jump.isNone then .ready else .done) jump))∧
    (W3.putObj (w.heap.size+1) (.loop (rec (if jump.isNone then .ready else .done) jump))).heap[w.heap.size]? = some (.deferred (some []))∧
    aOm w.heap.size (w.heap.size+1) V (W3.putObj (w.heap.size+1) (.loop (rec (if jump.isNone then .ready else .done) jump))):=fun jump W3 hk3=>by
   have hl3:=(hk3.same (w.heap.size+1) (by omega) (by omega)).trans hl2;have he:=run_endRound (P:=P) jump hl3;rw[hrec]at he ⊢;refine⟨he,by rw[hrec]at hl3;exact hl3,World.putObj_heap_same (Array.getElem?_eq_some_iff.1 hl3).1,(World.putObj_heap_other (by omega)).trans ((hk3.same w.heap.size yL (by omega)).trans hk2),?_,fun k hB hkl hks=>?_⟩
   ·have h1:=hk3.size;have h2:=hb.size;simp[World.putObj];omega
   have h2:=hb.size;rw[World.putObj_heap_other (by omega),hk3.same k hB (by omega),ho2 k hkl];exact hb.block k hks
  rintro e a3 W3 hp
  cases e with
  | normal=>
   obtain⟨hk3,s',hn,hi3⟩:=hp;obtain⟨hr,hl3,hl4,hk4,hof⟩:=fin none W3 hk3;exact⟨_,_,hr,hof,.inl ⟨rfl,s',hn,(hI s').turn _ _ _ _ hi3 (by omega) hl3 rfl,hl4,hk4⟩⟩
  | ret=>
   obtain⟨hk3,hi3⟩:=hp;obtain⟨hr,hl3,hl4,hk4,hof⟩:=fin (some .ret) W3 hk3;exact⟨_,_,hr,hof,.inr ⟨rfl,.ret,(hIx _).turn _ _ _ _ hi3 (by omega) hl3 rfl,hl4,hk4⟩⟩
  | exit id=>
   obtain⟨hk3,hi3⟩:=hp;obtain⟨hr,hl3,hl4,hk4,hof⟩:=fin (some (.exit id)) W3 hk3;exact⟨_,_,hr,hof,.inr ⟨rfl,.exit id,(hIx _).turn _ _ _ _ hi3 (by omega) hl3 rfl,hl4,hk4⟩⟩
  | goto t=>
   obtain⟨hk3,hi3⟩:=hp;obtain⟨hr,hl3,hl4,hk4,hof⟩:=fin (some (.goto t)) W3 hk3;exact⟨_,_,hr,hof,.inr ⟨rfl,.goto t,(hIx _).turn _ _ _ _ hi3 (by omega) hl3 rfl,hl4,hk4⟩⟩
  | panic ch=>exact hp.elim
  | outgrown=>exact hp.elim
 rintro e W2 ⟨⟨v,rfl⟩,(⟨s,hS,hi,hl,hk⟩|⟨c,hi,hl,hk⟩)⟩
 ·have he:=run_endLoop (P:=P) hl (by rw[hrec];simp);rw[hrec]at he;exact⟨none,_,he,hdone _ s _ yL hS ((hI s).turn _ _ _ _ hi (by omega) hl rfl) ((World.putObj_heap_other (by omega)).trans hk)⟩
 have he:=run_endLoop (P:=P) hl (by rw[hrec];simp);rw[hrec]at he;exact⟨some c,_,he,wpIn_wide.2 (hstop _ c _ yL ((hIx c).turn _ _ _ _ hi (by omega) hl rfl) ((World.putObj_heap_other (by omega)).trans hk))⟩
end Go.Proofs.YtaeocliklpcgmaaGreat
namespace Go.Proofs.YtaeocliklpcgmaaGreat
open Go.RowKit Go.Shelf
def sortO_ren:Go.Shelf.Ren:=⟨fun|6=>78|15=>120|14=>132|28=>169|29=>170|20=>175|21=>176|22=>177|23=>178|24=>179|25=>180|26=>181|27=>182|46=>203|47=>199|48=>200|49=>204|50=>205|57=>220|n=>n,fun|22=>61|24=>129|25=>143|3=>3|39=>133|0=>0|53=>233|55=>39|4=>4|46=>226|45=>225|50=>230|5=>5|9=>9|66=>257|70=>260|76=>288|77=>289|n=>n,fun|n=>n⟩
theorem sortO:Go.Proofs.SlLaysF0.n6 Tryz.prog sortO_ren:={
 mixed:=by kernel_rfl
 f6:=⟨Tryz.f78.name,by decide,Tryz.func78.trans (congrArg some (by kernel_rfl))⟩
 f14:=⟨Tryz.f132.name,by decide,Tryz.func132.trans (congrArg some (by kernel_rfl))⟩
 f15:=Tryz.func120.trans (congrArg some (by kernel_rfl))
 f20:=⟨Tryz.f175.name,by decide,Tryz.func175.trans (congrArg some (by kernel_rfl))⟩
 f21:=⟨Tryz.f176.name,by decide,Tryz.func176.trans (congrArg some (by kernel_rfl))⟩
 f22:=⟨Tryz.f177.name,by decide,Tryz.func177.trans (congrArg some (by kernel_rfl))⟩
 f23:=⟨Tryz.f178.name,by decide,Tryz.func178.trans (congrArg some (by kernel_rfl))⟩
 f24:=⟨Tryz.f179.name,by decide,Tryz.func179.trans (congrArg some (by kernel_rfl))⟩
 f25:=⟨Tryz.f180.name,by decide,Tryz.func180.trans (congrArg some (by kernel_rfl))⟩
 f26:=⟨Tryz.f181.name,by decide,Tryz.func181.trans (congrArg some (by kernel_rfl))⟩
 f27:=⟨Tryz.f182.name,by decide,Tryz.func182.trans (congrArg some (by kernel_rfl))⟩
 f28:=Tryz.func169.trans (congrArg some (by kernel_rfl))
 f29:=Tryz.func170.trans (congrArg some (by kernel_rfl))
 f46:=⟨Tryz.f203.name,by decide,Tryz.func203.trans (congrArg some (by kernel_rfl))⟩
 f47:=Tryz.func199.trans (congrArg some (by kernel_rfl))
 f48:=Tryz.func200.trans (congrArg some (by kernel_rfl))
 f49:=⟨Tryz.f204.name,by decide,Tryz.func204.trans (congrArg some (by kernel_rfl))⟩
 f50:=⟨Tryz.f205.name,by decide,Tryz.func205.trans (congrArg some (by kernel_rfl))⟩
 f57:=⟨Tryz.f220.name,by decide,Tryz.func220.trans (congrArg some (by kernel_rfl))⟩
 t0:=Tryz.underlying0
 a0:=Tryz.isAgg0
 z0:=Tryz.sizeOf0
 v0:=Tryz.zeroValue0
 t3:=Tryz.underlying3
 a3:=Tryz.isAgg3
 z3:=Tryz.sizeOf3
 v3:=Tryz.zeroValue3
 t4:=Tryz.underlying4
 a4:=Tryz.isAgg4
 z4:=Tryz.sizeOf4
 v4:=Tryz.zeroValue4
 t5:=Tryz.underlying5
 a5:=Tryz.isAgg5
 z5:=Tryz.sizeOf5
 v5:=Tryz.zeroValue5
 t9:=Tryz.underlying9
 a9:=Tryz.isAgg9
 z9:=Tryz.sizeOf9
 v9:=Tryz.zeroValue9
 t22:=Tryz.underlying61
 a22:=Tryz.isAgg61
 z22:=Tryz.sizeOf61
 v22:=Tryz.zeroValue61
 t25:=Tryz.underlying143
 a25:=Tryz.isAgg143
 z25:=Tryz.sizeOf143
 v25:=Tryz.zeroValue143
 t39:=Tryz.underlying133
 a39:=Tryz.isAgg133
 z39:=Tryz.sizeOf133
 v39:=Tryz.zeroValue133
 t45:=Tryz.underlying225
 a45:=Tryz.isAgg225
 z45:=Tryz.sizeOf225
 v45:=Tryz.zeroValue225
 t46:=Tryz.underlying226
 a46:=Tryz.isAgg226
 z46:=Tryz.sizeOf226
 v46:=Tryz.zeroValue226
 t50:=Tryz.underlying230
 a50:=Tryz.isAgg230
 z50:=Tryz.sizeOf230
 v50:=Tryz.zeroValue230
 t53:=Tryz.underlying233
 a53:=Tryz.isAgg233
 z53:=Tryz.sizeOf233
 v53:=Tryz.zeroValue233
 t55:=Tryz.underlying39
 a55:=Tryz.isAgg39
 z55:=Tryz.sizeOf39
 v55:=Tryz.zeroValue39
 t66:=Tryz.underlying257
 a66:=Tryz.isAgg257
 z66:=Tryz.sizeOf257
 v66:=Tryz.zeroValue257
 t70:=Tryz.underlying260
 a70:=Tryz.isAgg260
 z70:=Tryz.sizeOf260
 v70:=Tryz.zeroValue260
 t76:=Tryz.underlying288
 a76:=Tryz.isAgg288
 z76:=Tryz.sizeOf288
 v76:=Tryz.zeroValue288
 t77:=Tryz.underlying289
 a77:=Tryz.isAgg289
 z77:=Tryz.sizeOf289
 v77:=Tryz.zeroValue289 }
end Go.Proofs.YtaeocliklpcgmaaGreat
namespace Go.Proofs.YtaeocliklpcgmaaGreat
open Go.RowKit
structure aA2(B:Nat)(w w':World):Prop extends Below B w w' where
 dr:w.drawn≤w'.drawn
theorem aA2.refl(B:Nat)(w:World):aA2 B w w:=⟨Below.refl B w,Nat.le_refl _⟩
theorem aA2.trans{B:Nat}{a b c:World}(h:aA2 B a b)(k:aA2 B b c):aA2 B a c:=⟨h.toBelow.trans k.toBelow,Nat.le_trans h.dr k.dr⟩
theorem aA2.mono{B B':Nat}{w w':World}(h:aA2 B w w')(hb:B'≤B):aA2 B' w w':=⟨h.toBelow.mono hb,h.dr⟩
theorem aA2.alloc{B:Nat}{a w:World}(h:aA2 B a w)(hb:B≤w.heap.size)(o:Obj):aA2 B a (w.alloc o):=⟨h.toBelow.alloc hb o,h.dr⟩
theorem aA2.drew{B:Nat}{a w:World}(h:aA2 B a w):aA2 B a w.drew:=⟨h.toBelow.drew,Nat.le_trans h.dr (Nat.le_succ _)⟩
theorem aA2.setCell{B:Nat}{a w:World}(h:aA2 B a w){p:Addr}(hp:B≤p.block)(u:Value):aA2 B a (w.setCell p u):=⟨h.toBelow.setCell hp u,h.dr⟩
theorem aA2.grown{w w':World}(h:aA2 w.heap.size w w'):∃q os',w'=Go.Sort.grow (w.drewN q) os':=by
 refine⟨w'.drawn - w.drawn,w'.heap.extract w.heap.size w'.heap.size,?_⟩;have hd:=h.dr
 have hh:w'.heap=w.heap++w'.heap.extract w.heap.size w'.heap.size:=by
  apply Array.ext_getElem?;intro i
  by_cases hi:i<w.heap.size
  ·rw[h.block i hi,Array.getElem?_append_left hi]
  rw[Array.getElem?_append_right (by omega),Array.getElem?_extract]
  by_cases hi2:i<w'.heap.size
  ·rw[if_pos (by simp;omega)];congr 1;omega
  rw[if_neg (by simp;omega),Array.getElem?_eq_none (by omega)]
 obtain⟨h0,h1,h2,h3,h4⟩:=w';obtain⟨g0,g1,g2,g3,g4⟩:=w;have e1:=h.os;have e2:=h.tape;have e3:=h.output;simp only at hh e1 e2 e3 hd;subst e1 e2 e3;simp only[Go.Sort.grow,World.drewN];rw[←hh];congr 1;omega
theorem aOn(a b:Int)(w:World)(ha:In64 a)(hb:In64 b)(h1:1≤a)(h2:1≤b):
  Calls Tryz.prog 173 #[.int .i64 a,.int .i64 b] w fun e w'=>e=.returned (.int .i64 (Int.gcd a b))∧aA2 w.heap.size w w':=by
 have HB:=yH hb;clear ha hb;go_enter Tryz.func173,Tryz.ntmps173;go_wp2;refine wp_scope_jumps 0 (fun a' w'=>aA2 w.heap.size w w'∧∃(x y:Int) (u2 u3 u4 u5 u6 u7 u8 u9 u10 u11:Value),a'={ tmps:=#[.int .i64 x,.int .i64 y,u2,u3,u4,u5,u6,u7,u8,u9,u10,u11],defers:=[] }∧1≤x∧0≤y∧x≤9223372036854775807∧y≤9223372036854775807∧Int.gcd x y=Int.gcd a b) (fun a' _=>(intOf (a'.tmps.getD 1 undef)).toNat) rfl ?_ ?_
 ·by_cases hb:b=0
  ·omega
  have hnb:(b==0)=false:=by simp;omega
  have HG:=yH (aN7 a b);have HLT:=yH (Int.emod_lt_of_pos a (show 0<b by omega));have HGE:=yH (Int.emod_nonneg a hb);go_wp2
  go_step3
  go_wp2
  go_region
  all_goals
   go_wp2
   go_step3
   exact⟨rfl,(aA2.refl _ _).drew,b,_,_,_,_,_,_,_,_,_,_,_,rfl,h2,HGE.out,HB.out.2,by have:=HLT.out;have:=HB.out.2;omega,HG.out⟩
 rintro a' w' ⟨bel,x,y,u2,u3,u4,u5,u6,u7,u8,u9,u10,u11,rfl,hx,hy,hx2,hy2,hg⟩;have HG:=yH hg;clear hg
 by_cases hb:y=0
 ·subst hb;have e:((Int.gcd x 0:Nat):Int)=x:=by rw[Int.gcd_zero_right];omega
  go_wp2;simp only[Exit.jump];go_ret;exact⟨by rw[←HG.out,e];rfl,bel⟩
 have hnb:(y==0)=false:=by simp;omega
 have HS:=yH (aN7 x y);have HLT:=yH (Int.emod_lt_of_pos x (show 0<y by omega));have HGE:=yH (Int.emod_nonneg x hb);go_wp2
 go_region
 all_goals
  go_wp2
  go_step3
  refine⟨rfl,⟨bel.drew,y,_,_,_,_,_,_,_,_,_,_,_,rfl,by omega,HGE.out,hy2,by have:=HLT.out;omega,by rw[HS.out];exact HG.out⟩,?_⟩;have:=HLT.out;have:=HGE.out;simp[intOf];omega
theorem of_arg_d(n d:Int)(w:World)(h:n<1∨d<1):
  Calls Tryz.prog 127 #[.int .i64 n,.int .i64 d] w fun e w'=>e=.returned (ofV n d)∧aA2 w.heap.size w w':=by
 rw[ofV_arg h];have hs:n<1∨(1≤n∧d<1):=by omega
 clear h;rcases hs with h1|⟨h1,h2⟩
 all_goals
  go_enter Tryz.func127,Tryz.ntmps127;go_wp2;refine bodyPost_ret (v:=.tuple #[.agg #[.int .i64 0,.int .i64 0],.int .i64 1]) (aAh rfl _ _ w.heap.size 46 #[.int .i64 0,.int .i64 0] _ _ rfl (pAA w #[.int .i64 0,.int .i64 0] 46).out Tryz.underlying46 rfl (by kernel_rfl) rfl) rfl ⟨rfl,?_⟩;exact((aA2.refl _ _).alloc yL _)
theorem of_two_d(n d g x y:Int)(w:World)(h1:1≤n)(h2:1≤d)(hn:In64 n)(hd:In64 d)(hg:(Int.gcd n d:Int)=g)(hx:n/g=x)(hy:d/g=y)(hx0:0≤x)(hy0:0≤y)(hxn:x≤n)(hyd:y≤d)(hg0:1≤g):
  Calls Tryz.prog 127 #[.int .i64 n,.int .i64 d] w fun e w'=>e=.returned (if 1099511627776<x∨1099511627776<y then .tuple #[.agg #[.int .i64 0,.int .i64 0],.int .i64 10]else .tuple #[.agg #[.int .i64 x,.int .i64 y],.int .i64 0])∧aA2 w.heap.size w w':=by
 have c:=yH (fun w=>aOn n d w hn hd h1 h2);rw[hg]at c;have e1:Int.tdiv n g=x:=by rw[←hx];exact Int.tdiv_eq_ediv_of_nonneg (by omega)
 have e2:Int.tdiv d g=y:=by rw[←hy];exact Int.tdiv_eq_ediv_of_nonneg (by omega)
 have ew1:wrap64 x=x:=aB4 x ⟨by omega,by have:=hn.2;omega⟩;have ew2:wrap64 y=y:=aB4 y ⟨by omega,by have:=hd.2;omega⟩;have q2:Blk (w.alloc (.cells #[.int .i64 0,.int .i64 0] 46)) w.heap.size #[.int .i64 0,.int .i64 0] 46:=pAA _ _ _;have b0:aA2 w.heap.size w (w.alloc (.cells #[.int .i64 0,.int .i64 0] 46)):=(aA2.refl _ _).alloc yL _;have Q2:=yH q2;have B0:=yH b0;have hs:1099511627776<x∨(x≤1099511627776∧1099511627776<y)∨(x≤1099511627776∧y≤1099511627776):=by omega
 clear q2 b0 hn hd;rcases hs with o1|⟨o1,o2⟩|⟨o1,o2⟩
 ·rw[if_pos (.inl o1)];go_enter Tryz.func127,Tryz.ntmps127;go_wp2_with fail;refine(c.out _).mono ?_;rintro e w1 ⟨rfl,bw⟩;have k1:=Q2.out.below bw.toBelow Q2.out.lt;have B1:=yH (B0.out.trans (bw.mono (by simp)));have d0:=k1.cell 0;have d1:=k1.cell 1;simp at d0 d1;have f1:=k1.frozen;have hz:=k1.lt;have K1:=yH k1;clear k1 bw;go_wp2
  go_region
  all_goals
   go_wp2;refine bodyPost_ret (v:=.tuple #[.agg #[.int .i64 0,.int .i64 0],.int .i64 10]) (aAh rfl _ _ w.heap.size 46 #[.int .i64 0,.int .i64 0] _ _ rfl (Blk.drew (((K1.out.set 0 (.int .i64 0)).set 1 (.int .i64 0)).alloc _)).out Tryz.underlying46 rfl (by kernel_rfl) rfl) rfl ⟨rfl,?_⟩
   first
   | exact((((B1.out.alloc B1.out.size _).drew).setCell yL _).setCell yL _)
   | exact((((B1.out.setCell yL _).setCell yL _).alloc (by simpa using B1.out.size) _).drew)
 ·rw[if_pos (.inr o2)];go_enter Tryz.func127,Tryz.ntmps127;go_wp2_with fail;refine(c.out _).mono ?_;rintro e w1 ⟨rfl,bw⟩;have k1:=Q2.out.below bw.toBelow Q2.out.lt;have B1:=yH (B0.out.trans (bw.mono (by simp)));have d0:=k1.cell 0;have d1:=k1.cell 1;simp at d0 d1;have f1:=k1.frozen;have hz:=k1.lt;have K1:=yH k1;clear k1 bw;go_wp2
  go_region
  all_goals
   go_wp2;refine bodyPost_ret (v:=.tuple #[.agg #[.int .i64 0,.int .i64 0],.int .i64 10]) (aAh rfl _ _ w.heap.size 46 #[.int .i64 0,.int .i64 0] _ _ rfl (Blk.drew (((K1.out.set 0 (.int .i64 0)).set 1 (.int .i64 0)).alloc _)).out Tryz.underlying46 rfl (by kernel_rfl) rfl) rfl ⟨rfl,?_⟩
   first
   | exact((((B1.out.alloc B1.out.size _).drew).setCell yL _).setCell yL _)
   | exact((((B1.out.setCell yL _).setCell yL _).alloc (by simpa using B1.out.size) _).drew)
 rw[if_neg (by omega)];go_enter Tryz.func127,Tryz.ntmps127;go_wp2_with fail;refine(c.out _).mono ?_;rintro e w1 ⟨rfl,bw⟩;have k1:=Q2.out.below bw.toBelow Q2.out.lt;have B1:=yH (B0.out.trans (bw.mono (by simp)));have d0:=k1.cell 0;have d1:=k1.cell 1;simp at d0 d1;have f1:=k1.frozen;have hz:=k1.lt;have K1:=yH k1;clear k1 bw;go_wp2
 go_region
 all_goals
  go_wp2;refine bodyPost_ret (v:=.tuple #[.agg #[.int .i64 x,.int .i64 y],.int .i64 0]) (aAh rfl _ _ w.heap.size 46 #[.int .i64 x,.int .i64 y] _ _ rfl (Blk.drew (((K1.out.set 0 (.int .i64 x)).set 1 (.int .i64 y)).alloc _)).out Tryz.underlying46 rfl (by kernel_rfl) rfl) rfl ⟨rfl,?_⟩
  first
  | exact((((B1.out.alloc B1.out.size _).drew).setCell yL _).setCell yL _)
  | exact((((B1.out.setCell yL _).setCell yL _).alloc (by simpa using B1.out.size) _).drew)
theorem of_rat_d(n d:Int)(w:World)(hn:In64 n)(hd:In64 d):
  Calls Tryz.prog 127 #[.int .i64 n,.int .i64 d] w fun e w'=>e=.returned (ofV n d)∧aA2 w.heap.size w w':=by
 by_cases h:n<1∨d<1
 ·exact of_arg_d n d w h
 obtain⟨g0,x0,xn,y0,yd⟩:=gcd_bd (n:=n) (d:=d) (by omega) (by omega);have:=of_two_d n d _ _ _ w (by omega) (by omega) hn hd rfl rfl rfl x0 y0 xn yd g0;refine this.mono fun e w' ⟨he,hb⟩=>⟨?_,hb⟩
 rw[he]
 by_cases ho:1099511627776<n/Int.gcd n d∨1099511627776<d/Int.gcd n d
 ·rw[if_pos ho,ofV_over (by omega) (by omega) rfl ho]
 rw[if_neg ho,ofV_good (by omega) (by omega) rfl ho]
theorem aOo(n d:Int)(w:World)(hn:In64 n)(hd:In64 d):
  Calls Tryz.prog 70 #[.agg #[.int .i64 n,.int .i64 d]] w fun e w'=>e=.returned (.agg #[.int .i64 (alN n d),.int .i64 (alD n d)])∧aA2 w.heap.size w w':=by
 have c:=yH (fun w=>of_rat_d n d w hn hd);unfold ofV at c
 have hs:(ofRN n d=n∧ofD n d=d∧alN n d=n∧alD n d=d)∨(ofRN n d≠n∧alN n d=0∧alD n d=0)∨(ofRN n d=n∧ofD n d≠d∧alN n d=0∧alD n d=0):=by
  unfold alN alD
  by_cases hm:MayN n d
  ·rw[(aHu n d).2 hm];obtain⟨a,b⟩:=of_self hm;exact .inl ⟨a,b,rfl,rfl⟩
  have e:mayB n d=false:=by rw[Bool.eq_false_iff];exact fun h=>hm ((aHu n d).1 h)
  rw[e];rcases of_not hm with⟨a,b,rfl,rfl⟩|h|h
  ·exact .inl ⟨a,b,rfl,rfl⟩
  ·exact .inr (.inl ⟨h,rfl,rfl⟩)
  by_cases h':ofRN n d=n
  ·exact .inr (.inr ⟨h',h,rfl,rfl⟩)
  exact .inr (.inl ⟨h',rfl,rfl⟩)
 generalize ofRN n d=x at *;generalize ofD n d=y at *;generalize ofE n d=z at *;have k1:Blk ((w.alloc (.cells #[.int .i64 n,.int .i64 d] 46)).alloc (.cells #[.int .i64 0,.int .i64 0] 46)) w.heap.size #[.int .i64 n,.int .i64 d] 46:=(pAA _ _ _).alloc _;have k2:Blk ((w.alloc (.cells #[.int .i64 n,.int .i64 d] 46)).alloc (.cells #[.int .i64 0,.int .i64 0] 46)) (w.heap.size+1) #[.int .i64 0,.int .i64 0] 46:=pAC _ _ _ (by simp);have b0:aA2 w.heap.size w ((w.alloc (.cells #[.int .i64 n,.int .i64 d] 46)).alloc (.cells #[.int .i64 0,.int .i64 0] 46)):=((aA2.refl _ _).alloc yL _).alloc (by simp) _;have K1:=yH k1;have K2:=yH k2;have B0:=yH b0;clear k1 k2 b0 hn hd;rcases hs with⟨e1,e2,e3,e4⟩|⟨e1,e3,e4⟩|⟨e1,e2,e3,e4⟩
 ·rw[e3,e4];subst e1 e2;clear e3 e4;go_enter Tryz.func70,Tryz.ntmps70;go_wp2_with fail;refine(c.out _).mono ?_;rintro e w1 ⟨rfl,bw⟩;have q1:=K1.out.below bw.toBelow K1.out.lt;have q2:=K2.out.below bw.toBelow K2.out.lt;have B1:=yH (B0.out.trans (bw.mono (by simp;omega)));have d0:=q1.cell 0;have d1:=q1.cell 1;have e0:=q2.cell 0;have e1:=q2.cell 1;simp at d0 d1 e0 e1;have f2:=q2.frozen;have hz:=q1.lt;have hz2:=q2.lt;have Q2:=yH q2;clear q1 q2 bw;go_wp2;refine bodyPost_ret (v:=.agg #[.int .i64 x,.int .i64 y]) (results_cell_row rfl _ _ (w.heap.size+1) 46 #[.int .i64 x,.int .i64 y] (0,0) _ rfl (((Q2.out.set 0 (.int .i64 x)).set 1 (.int .i64 y)).alloc _).out Tryz.underlying46 rfl (by kernel_rfl)) rfl ⟨by simp,?_⟩;exact(((B1.out.setCell (by simp) _).setCell (by simp) _).alloc (by simpa using B1.out.size) _)
 ·rw[e3,e4];have e5:(x==n)=false:=by simp[e1]
  clear e1 e3 e4;go_enter Tryz.func70,Tryz.ntmps70;go_wp2_with fail;refine(c.out _).mono ?_;rintro e w1 ⟨rfl,bw⟩;have q1:=K1.out.below bw.toBelow K1.out.lt;have q2:=K2.out.below bw.toBelow K2.out.lt;have B1:=yH (B0.out.trans (bw.mono (by simp;omega)));have d0:=q1.cell 0;have d1:=q1.cell 1;have e0:=q2.cell 0;have e1:=q2.cell 1;simp at d0 d1 e0 e1;have f2:=q2.frozen;have hz:=q1.lt;have hz2:=q2.lt;have Q2:=yH q2;clear q1 q2 bw;go_wp2;refine bodyPost_ret (v:=.agg #[.int .i64 0,.int .i64 0]) (results_cell_row rfl _ _ (w.heap.size+1) 46 #[.int .i64 0,.int .i64 0] (0,0) _ rfl (((Q2.out.set 0 (.int .i64 0)).set 1 (.int .i64 0)).alloc _).out Tryz.underlying46 rfl (by kernel_rfl)) rfl ⟨by simp,?_⟩;exact(((B1.out.setCell (by simp) _).setCell (by simp) _).alloc (by simpa using B1.out.size) _)
 rw[e3,e4];subst e1;have e5:(y==d)=false:=by simp[e2]
 clear e2 e3 e4;go_enter Tryz.func70,Tryz.ntmps70;go_wp2_with fail;refine(c.out _).mono ?_;rintro e w1 ⟨rfl,bw⟩;have q1:=K1.out.below bw.toBelow K1.out.lt;have q2:=K2.out.below bw.toBelow K2.out.lt;have B1:=yH (B0.out.trans (bw.mono (by simp;omega)));have d0:=q1.cell 0;have d1:=q1.cell 1;have e0:=q2.cell 0;have e1:=q2.cell 1;simp at d0 d1 e0 e1;have f2:=q2.frozen;have hz:=q1.lt;have hz2:=q2.lt;have Q2:=yH q2;clear q1 q2 bw;go_wp2;refine bodyPost_ret (v:=.agg #[.int .i64 0,.int .i64 0]) (results_cell_row rfl _ _ (w.heap.size+1) 46 #[.int .i64 0,.int .i64 0] (0,0) _ rfl (((Q2.out.set 0 (.int .i64 0)).set 1 (.int .i64 0)).alloc _).out Tryz.underlying46 rfl (by kernel_rfl)) rfl ⟨by simp,?_⟩;exact(((B1.out.setCell (by simp) _).setCell (by simp) _).alloc (by simpa using B1.out.size) _)
theorem aQp(n d:Int)(w:World)(hn:In64 n)(hd:In64 d):
  Calls Tryz.prog 67 #[.agg #[.int .i64 n,.int .i64 d]] w fun e w'=>e=.returned (.bool (mayB n d))∧aA2 w.heap.size w w':=by
 have c:=yH (fun w=>aOo n d w hn hd);have B0:=yH ((aA2.refl w.heap.size w).alloc yL (.cells #[.int .i64 n,.int .i64 d] 46));clear hn hd;rcases aN8 n d with⟨hm,h1,h2,h3,h4,h5,h6⟩|⟨hm,h1,h2⟩
 ·rw[h1,h2]at c;rw[hm];have e1:(n==0)=false:=by simp;omega
  clear h1 h2 h4 h5 h6 h3;go_enter Tryz.func67,Tryz.ntmps67;go_wp2_with fail;refine(c.out _).mono ?_;rintro e w1 ⟨rfl,b1⟩;go_wp2_with fail;go_ret;exact⟨rfl,B0.out.trans (b1.mono (by simp))⟩
 rw[h1,h2]at c;rw[hm];clear h1 h2;go_enter Tryz.func67,Tryz.ntmps67;go_wp2_with fail;refine(c.out _).mono ?_;rintro e w1 ⟨rfl,b1⟩;go_wp2_with fail;go_ret;exact⟨rfl,B0.out.trans (b1.mono (by simp))⟩
theorem aOp(an ad bn bd:Int)(w:World)(h1:In64 an)(h2:In64 ad)(h3:In64 bn)(h4:In64 bd):
  Calls Tryz.prog 23 #[.agg #[.int .i64 an,.int .i64 ad],.agg #[.int .i64 bn,.int .i64 bd]] w fun e w'=>e=.returned (.int .i64 (cmpR an ad bn bd))∧aA2 w.heap.size w w':=by
 have c1:=yH (fun w=>aQp an ad w h1 h2);have c2:=yH (fun w=>aQp bn bd w h3 h4);have k1:Blk ((w.alloc (.cells #[.int .i64 an,.int .i64 ad] 46)).alloc (.cells #[.int .i64 bn,.int .i64 bd] 46)) w.heap.size #[.int .i64 an,.int .i64 ad] 46:=(pAA _ _ _).alloc _;have k2:Blk ((w.alloc (.cells #[.int .i64 an,.int .i64 ad] 46)).alloc (.cells #[.int .i64 bn,.int .i64 bd] 46)) (w.heap.size+1) #[.int .i64 bn,.int .i64 bd] 46:=pAC _ _ _ (by simp);have b0:aA2 w.heap.size w ((w.alloc (.cells #[.int .i64 an,.int .i64 ad] 46)).alloc (.cells #[.int .i64 bn,.int .i64 bd] 46)):=((aA2.refl _ _).alloc yL _).alloc (by simp) _;have K1:=yH k1;have K2:=yH k2;have B0:=yH b0;clear k1 k2 b0 h1 h2 h3 h4
 by_cases hm:mayB an ad=true
 ·by_cases hm2:mayB bn bd=true
  ·rw[show cmpR an ad bn bd=cmpI (an*bd) (bn*ad) by unfold cmpR;rw[if_pos ⟨hm,hm2⟩],←aPw];obtain⟨p1,p2,p3,p4,_⟩:=aC4 hm;obtain⟨q1,q2,q3,q4,_⟩:=aC4 hm2;rw[hm]at c1;rw[hm2]at c2;have u1:IntKind.u64.wrap an=an:=aG8 _ ⟨by omega,by omega⟩;have u2:IntKind.u64.wrap ad=ad:=aG8 _ ⟨by omega,by omega⟩;have u3:IntKind.u64.wrap bn=bn:=aG8 _ ⟨by omega,by omega⟩;have u4:IntKind.u64.wrap bd=bd:=aG8 _ ⟨by omega,by omega⟩;have cm1:=yH (fun w=>aGk an bd w ⟨by omega,by omega⟩ ⟨by omega,by omega⟩);have cm2:=yH (fun w=>aGk bn ad w ⟨by omega,by omega⟩ ⟨by omega,by omega⟩);have cc:=yH aHv;generalize an*bd=x at *;generalize bn*ad=y at *;clear hm hm2 p1 p2 p3 p4 q1 q2 q3 q4;go_enter Tryz.func23,Tryz.ntmps23;go_wp2_with fail;refine(c1.out _).mono ?_;rintro e w1 ⟨rfl,b1⟩;have B1:=yH (B0.out.trans (b1.mono (by simp;omega)));have r1:=K1.out.below b1.toBelow K1.out.lt;have r2:=K2.out.below b1.toBelow K2.out.lt;have d0:=r1.cell 0;have d1:=r1.cell 1;have e0:=r2.cell 0;have e1:=r2.cell 1;simp at d0 d1 e0 e1;have R1:=yH r1;have R2:=yH r2;clear r1 r2 b1;go_wp2_with fail;refine(c2.out _).mono ?_;rintro e w2 ⟨rfl,b2⟩;have B2:=yH (B1.out.trans (b2.mono B1.out.size));have r1:=R1.out.below b2.toBelow R1.out.lt;have r2:=R2.out.below b2.toBelow R2.out.lt;clear d0 d1 e0 e1;have d0:=r1.cell 0;have d1:=r1.cell 1;have e0:=r2.cell 0;have e1:=r2.cell 1;simp at d0 d1 e0 e1;clear r1 r2 b2;go_wp2_with fail;refine(cm1.out _).mono ?_;rintro e w2 ⟨rfl,rfl⟩;go_wp2_with fail;refine(cm2.out _).mono ?_;rintro e w2 ⟨rfl,rfl⟩;go_wp2_with fail;refine(cc.out _ _ _).mono ?_;rintro e w2 ⟨rfl,rfl⟩;go_wp2_with fail;refine(cc.out _ _ _).mono ?_;rintro e w2 ⟨rfl,rfl⟩;go_wp2_with fail;refine(or_two w2.heap.size _ (cmpI (x/18446744073709551616) (y/18446744073709551616)) (cmpI (x%18446744073709551616) (y%18446744073709551616)) _ (by simp) (by simp) (by simp)).mono ?_;rintro e w2 ⟨rfl,rfl⟩;go_wp2_with fail;go_ret;exact⟨rfl,B2.out.alloc B2.out.size _⟩
  rw[show cmpR an ad bn bd=0 by unfold cmpR;rw[if_neg (by simp[hm2])]];simp only[Bool.not_eq_true]at hm2;rw[hm]at c1;rw[hm2]at c2;clear hm hm2;go_enter Tryz.func23,Tryz.ntmps23;go_wp2_with fail;refine(c1.out _).mono ?_;rintro e w1 ⟨rfl,b1⟩;have B1:=yH (B0.out.trans (b1.mono (by simp;omega)));have r2:=K2.out.below b1.toBelow K2.out.lt;have e0:=r2.cell 0;have e1:=r2.cell 1;simp at e0 e1;clear r2 b1;go_wp2_with fail;refine(c2.out _).mono ?_;rintro e w2 ⟨rfl,b2⟩;go_wp2_with fail;go_ret;exact⟨rfl,B1.out.trans (b2.mono B1.out.size)⟩
 rw[show cmpR an ad bn bd=0 by unfold cmpR;rw[if_neg (by simp[hm])]];simp only[Bool.not_eq_true]at hm;rw[hm]at c1;clear hm;go_enter Tryz.func23,Tryz.ntmps23;go_wp2_with fail;refine(c1.out _).mono ?_;rintro e w1 ⟨rfl,b1⟩;go_wp2_with fail;go_ret;exact⟨rfl,B0.out.trans (b1.mono (by simp;omega))⟩
end Go.Proofs.YtaeocliklpcgmaaGreat
namespace Go.Proofs.YtaeocliklpcgmaaGreat
open Go.RowKit Go.Shelf Go.Sort Go.Lib
def OrdI(W:World)(p q:Int)(g:Nat)(D:Nat→Bool)(w:World):Prop:=aA2 W.heap.size W w∧(D 10=true→W.heap.size≤g∧Blk w g #[.int .i64 p,.int .i64 q] 3)
theorem OrdI.step{W w w':World}{p q:Int}{g:Nat}{D:Nat→Bool}{k:Nat}(h:OrdI W p q g D w)(hb:aA2 w.heap.size w w')(hk:k≠10):OrdI W p q g (ins k D) w':=by
 have e:¬10=k:=fun e=>hk e.symm
 refine⟨h.1.trans (hb.mono h.1.size),fun d=>?_⟩;simp[ins,e]at d;exact⟨(h.2 d).1,(h.2 d).2.below hb.toBelow (h.2 d).2.lt⟩
theorem porder_any(x y:Of)(w:World)(hx:x.Fits)(hy:y.Fits):Calls Tryz.prog 79 #[.agg #[.int .u64 x.se,.int .u8 x.ow,.int .u8 x.sl,.int .u8 x.bu,.int .i64 x.lf,.int .i64 x.nu,.int .i64 x.de],.agg #[.int .u64 y.se,.int .u8 y.ow,.int .u8 y.sl,.int .u8 y.bu,.int .i64 y.lf,.int .i64 y.nu,.int .i64 y.de]] w fun e w'=>e=.returned (.int .i64 (ordO x y))∧aA2 w.heap.size w w':=by
 unfold ordO;have c1:=yH (fun w=>aOp x.nu x.de y.nu y.de w hx.nu hx.de hy.nu hy.de);have c2:=yH (fun w=>aHv x.se y.se w);clear hx hy;generalize cmpR x.nu x.de y.nu y.de=p at *;generalize cmpI x.se y.se=q at *;go_enter Tryz.func79,Tryz.ntmps79;go_wp2_with fail;have KX:=yH ((pAA w #[.int .u64 x.se,.int .u8 x.ow,.int .u8 x.sl,.int .u8 x.bu,.int .i64 x.lf,.int .i64 x.nu,.int .i64 x.de] 129).alloc (.cells #[.int .u64 y.se,.int .u8 y.ow,.int .u8 y.sl,.int .u8 y.bu,.int .i64 y.lf,.int .i64 y.nu,.int .i64 y.de] 129));have KY:=yH (pAC (w.alloc (.cells #[.int .u64 x.se,.int .u8 x.ow,.int .u8 x.sl,.int .u8 x.bu,.int .i64 x.lf,.int .i64 x.nu,.int .i64 x.de] 129)) #[.int .u64 y.se,.int .u8 y.ow,.int .u8 y.sl,.int .u8 y.bu,.int .i64 y.lf,.int .i64 y.nu,.int .i64 y.de] 129 (g:=w.heap.size+1) (by simp));have B0:=yH (((aA2.refl w.heap.size w).alloc yL (.cells #[.int .u64 x.se,.int .u8 x.ow,.int .u8 x.sl,.int .u8 x.bu,.int .i64 x.lf,.int .i64 x.nu,.int .i64 x.de] 129)).alloc (by simp) (.cells #[.int .u64 y.se,.int .u8 y.ow,.int .u8 y.sl,.int .u8 y.bu,.int .i64 y.lf,.int .i64 y.nu,.int .i64 y.de] 129));generalize ((w.alloc (.cells #[.int .u64 x.se,.int .u8 x.ow,.int .u8 x.sl,.int .u8 x.bu,.int .i64 x.lf,.int .i64 x.nu,.int .i64 x.de] 129)).alloc (.cells #[.int .u64 y.se,.int .u8 y.ow,.int .u8 y.sl,.int .u8 y.bu,.int .i64 y.lf,.int .i64 y.nu,.int .i64 y.de] 129))=W at KX KY B0 ⊢
 refine aA0 (by kernel_rfl) (fun g:Nat=>[(.pointer (some ⟨w.heap.size,5,none⟩)),(.agg #[.int .i64 x.nu,.int .i64 x.de]),(.pointer (some ⟨w.heap.size+1,5,none⟩)),(.agg #[.int .i64 y.nu,.int .i64 y.de]),(.int .i64 p),(.pointer (some ⟨w.heap.size,0,none⟩)),(.int .u64 x.se),(.pointer (some ⟨w.heap.size+1,0,none⟩)),(.int .u64 y.se),(.int .i64 q),(.slice (some ⟨g,0,none⟩) 2 2),(.int .i64 (orI p q)),(.int .i64 (orI p q))])
  (OrdI W p q) (by kernel_rfl) 0 ⟨(aA2.refl _ _).drew,by simp⟩ ?_
 intro AF hAF;simp only[yG,puts,Act.put,yA,yC,yF,yD,yE]at hAF;have hAF2:_=AF:=funext hAF;subst hAF2;clear hAF;refine⟨?_,?_⟩
 ·simp only[yG,aEb];refine⟨?_,?_,?_,?_,?_,?_,?_,?_,?_,?_,?_,?_,?_,trivial⟩
  ·intro g D w' hD hW hC hI;refine⟨g,fun _ _ _=>rfl,?_⟩;with_reducible refine yO rfl ?_
   have HS:=yH (hI.step (aA2.refl _ _) (k:=0) (by decide));clear hI hC hW hD;go_wp2_with fail;all_goals first|exact HS|exact⟨rfl,HS⟩|rfl
  ·intro g D w' hD hW hC hI;refine⟨g,fun _ _ _=>rfl,?_⟩;with_reducible refine yO rfl ?_
   have HS:=yH (hI.step (aA2.refl _ _) (k:=1) (by decide));have hB:=hI.1.toBelow;have kk:=KX.out.below hB KX.out.lt;have d0:=kk.cell 0;have d5:=kk.cell 5;have d6:=kk.cell 6;simp at d0 d5 d6;clear kk;clear hI hC hW hD hB;go_wp2_with fail;all_goals first|exact HS|exact⟨rfl,HS⟩|rfl
  ·intro g D w' hD hW hC hI;refine⟨g,fun _ _ _=>rfl,?_⟩;with_reducible refine yO rfl ?_
   have HS:=yH (hI.step (aA2.refl _ _) (k:=2) (by decide));clear hI hC hW hD;go_wp2_with fail;all_goals first|exact HS|exact⟨rfl,HS⟩|rfl
  ·intro g D w' hD hW hC hI;refine⟨g,fun _ _ _=>rfl,?_⟩;with_reducible refine yO rfl ?_
   have HS:=yH (hI.step (aA2.refl _ _) (k:=3) (by decide));have hB:=hI.1.toBelow;have kk:=KY.out.below hB KY.out.lt;have d0:=kk.cell 0;have d5:=kk.cell 5;have d6:=kk.cell 6;simp at d0 d5 d6;clear kk;clear hI hC hW hD hB;go_wp2_with fail;all_goals first|exact HS|exact⟨rfl,HS⟩|rfl
  ·intro g D w' hD hW hC hI;refine⟨g,fun _ _ _=>rfl,?_⟩;with_reducible refine yO rfl ?_
   have HI:=yH hI;clear hI hC hW hD;go_wp2_with fail;refine(c1.out w').mono ?_;rintro e w'' ⟨rfl,hb⟩;exact⟨rfl,HI.out.step hb (by decide)⟩
  ·intro g D w' hD hW hC hI;refine⟨g,fun _ _ _=>rfl,?_⟩;with_reducible refine yO rfl ?_
   have HS:=yH (hI.step (aA2.refl _ _) (k:=5) (by decide));clear hI hC hW hD;go_wp2_with fail;all_goals first|exact HS|exact⟨rfl,HS⟩|rfl
  ·intro g D w' hD hW hC hI;refine⟨g,fun _ _ _=>rfl,?_⟩;with_reducible refine yO rfl ?_
   have HS:=yH (hI.step (aA2.refl _ _) (k:=6) (by decide));have hB:=hI.1.toBelow;have kk:=KX.out.below hB KX.out.lt;have d0:=kk.cell 0;have d5:=kk.cell 5;have d6:=kk.cell 6;simp at d0 d5 d6;clear kk;clear hI hC hW hD hB;go_wp2_with fail;all_goals first|exact HS|exact⟨rfl,HS⟩|rfl
  ·intro g D w' hD hW hC hI;refine⟨g,fun _ _ _=>rfl,?_⟩;with_reducible refine yO rfl ?_
   have HS:=yH (hI.step (aA2.refl _ _) (k:=7) (by decide));clear hI hC hW hD;go_wp2_with fail;all_goals first|exact HS|exact⟨rfl,HS⟩|rfl
  ·intro g D w' hD hW hC hI;refine⟨g,fun _ _ _=>rfl,?_⟩;with_reducible refine yO rfl ?_
   have HS:=yH (hI.step (aA2.refl _ _) (k:=8) (by decide));have hB:=hI.1.toBelow;have kk:=KY.out.below hB KY.out.lt;have d0:=kk.cell 0;have d5:=kk.cell 5;have d6:=kk.cell 6;simp at d0 d5 d6;clear kk;clear hI hC hW hD hB;go_wp2_with fail;all_goals first|exact HS|exact⟨rfl,HS⟩|rfl
  ·intro g D w' hD hW hC hI;refine⟨g,fun _ _ _=>rfl,?_⟩;with_reducible refine yO rfl ?_
   have HI:=yH hI;clear hI hC hW hD;go_wp2_with fail;refine(c2.out w').mono ?_;rintro e w'' ⟨rfl,rfl⟩;exact⟨rfl,HI.out.step (aA2.refl _ _) (by decide)⟩
  ·intro g D w' hD hW hC hI;have hN:D 11=false:=aAg hC hD 11 (by kernel_rfl);have hN2:D 12=false:=aAg hC hD 12 (by kernel_rfl);refine⟨w'.heap.size,?_,?_⟩
   ·intro j hj hDj
    match j,hj,hDj with
    | 0,_,_=>rfl
    | 1,_,_=>rfl
    | 2,_,_=>rfl
    | 3,_,_=>rfl
    | 4,_,_=>rfl
    | 5,_,_=>rfl
    | 6,_,_=>rfl
    | 7,_,_=>rfl
    | 8,_,_=>rfl
    | 9,_,_=>rfl
    | 10,_,h=>simp_all
    | 11,_,h=>simp_all
    | 12,_,h=>simp_all
    | j+13,_,_=>rfl
   with_reducible refine yO rfl ?_
   have HS:Hid (OrdI W p q w'.heap.size (ins 10 D) (w'.alloc (.cells #[.int .i64 p,.int .i64 q] 3))):=yH ⟨hI.1.alloc hI.1.size _,fun _=>⟨hI.1.size,pAA _ _ _⟩⟩;clear hI hC hW hD hN hN2;go_wp2_with fail;all_goals first|exact HS|exact⟨rfl,HS⟩|rfl
  ·intro g D w' hD hW hC hI;refine⟨g,fun _ _ _=>rfl,?_⟩;with_reducible refine yO rfl ?_
   have hP:D 10=true:=aA8 hC hW (by kernel_rfl);have KB:=(hI.2 hP).2;have HO:=yH (or_two g 2 p q w' KB.lt (KB.cell 0) (KB.cell 1));have HI:=yH hI;clear hI hC hW hD KB hP;go_wp2_with fail;refine HO.out.mono ?_;rintro e w'' ⟨rfl,rfl⟩;exact⟨rfl,HI.out.step (aA2.refl _ _) (by decide)⟩
  intro g D w' hD hW hC hI;refine⟨g,fun _ _ _=>rfl,?_⟩;with_reducible refine yO rfl ?_
  have HS:=yH (hI.step (aA2.refl _ _) (k:=12) (by decide));clear hI hC hW hD;go_wp2_with fail;all_goals first|exact HS|exact⟨rfl,HS⟩|rfl
 intro g D w2 hall hI;have HE:=yH (B0.out.trans (hI.1.mono B0.out.size));clear hI hall;dsimp only;go_wp2_with fail;go_ret;exact⟨rfl,HE.out⟩
def aJf:={ x:Of // x.may∧0≤x.se∧x.se≤18446744073709551615 }
instance:Inhabited aJf:=⟨⟨⟨1,1,1,2,1,1,1⟩,by decide⟩⟩
def pAQ(x:aJf):List Value:=x.1.vals
def ordG(x y:aJf):Int:=ordO x.1 y.1
theorem ordG_lt(x y:aJf):ltOf ordG x y=true↔ltO x.1 y.1:=by unfold ltOf ordG;rw[decide_eq_true_eq];exact ordO_lt x.2.1 y.2.1
theorem aOq(x y:aJf):ltOf ordG x y=false↔¬ltO x.1 y.1:=by rw[←ordG_lt];simp
theorem swoO:SWO (ltOf ordG) where
 irrefl x:=by rw[aOq];exact ltO_irrefl x.1
 trans x y z h1 h2:=by rw[ordG_lt]at *;exact aQa x.2.1 y.2.1 z.2.1 h1 h2
 ntrans x y z h1 h2:=by rw[aOq]at *;exact ltO_ntrans x.2.1 y.2.1 z.2.1 h1 h2
theorem aQq(ls:List aJf){j:Nat}(h:j<ls.length*7):(flatK pAQ 7 ls.toArray)[j]! = (aAa (ls.map (·.1)))[j]'(by rw[aAn,List.length_map];exact h):=by
 rw[get_flatK _ _ _ j (by simpa using h)];have h1:j/7<ls.length:=by omega
 have h2:j%7<7:=Nat.mod_lt _ (by omega);have h3:=aAm (ls.map (·.1)) (j/7) (j%7) h2 (by simpa using h1);rw[show j/7*7+j%7=j by omega]at h3;rw[List.getElem?_eq_getElem (by rw[aAn,List.length_map];exact h)]at h3;have h4:(ls.toArray)[j/7]! = ls[j/7]:=by simp[h1]
 rw[h4,List.getElem!_eq_getElem?_getD];unfold pAQ;rw[List.getElem_map]at h3;rw[←h3];rfl
theorem holds_offs{w:World}{g:Nat}{cur:Array Value}{e:TypeId}{ls:List aJf}(hb:w.heap[g]? = some (.cells cur e (0,0)))(ht:cur.toList.take (ls.length*7)=aAa (ls.map (·.1))):HoldsK pAQ 7 w g 0 ls.toArray:=by
 intro j hj;have hj':j<ls.length*7:=by simpa using hj
 refine⟨?_,by simp[World.frozen?,hb]⟩;rw[aQq ls hj'];have h1:(cur.toList.take (ls.length*7))[j]? = (aAa (ls.map (·.1)))[j]? := by rw[ht]
 rw[List.getElem?_take_of_lt hj']at h1;simp only[World.cell?,hb,Nat.zero_add];simp only[Option.isSome_none,Bool.false_eq_true,if_false];rw[←Array.getElem?_toList,h1,List.getElem?_eq_getElem (by rw[aAn,List.length_map];exact hj')];rfl
theorem heap_offs{w:World}{g n:Nat}{os:Array Obj}{cur:Array Value}{e:TypeId}(d:Array aJf)(hb:w.heap[g]? = some (.cells cur e (0,0))):
  (sortWorldK pAQ 7 w g 0 n d os).heap[g]? = some (.cells (putCells id 0 (flatK pAQ 7 d) cur) e (0,0)):=by
 have hg:g<w.heap.size:=(Array.getElem?_eq_some_iff.1 hb).1;unfold sortWorldK putRowK;rw[heap_grow_old _ _ (by simpa using hg)];simp[putRow,mapBlock,Go.Sort.ahead,Array.getElem?_modify,hb,onCells]
theorem keep_offs{w:World}{g n:Nat}{os:Array Obj}(d:Array aJf):Keep (·=g) w (sortWorldK pAQ 7 w g 0 n d os):=by
 refine⟨rfl,rfl,rfl,by simp[sortWorldK,putRowK],fun k hk hne=>?_⟩;unfold sortWorldK putRowK;rw[heap_grow_old _ _ (by simpa using hk)];have:g≠k:=fun e=>hne e.symm
 simp[putRow,mapBlock,Go.Sort.ahead,Array.getElem?_modify,this]
theorem take_offs(cur:Array Value)(ls:List aJf)(h:ls.length*7≤cur.size):(putCells id 0 (flatK pAQ 7 ls.toArray) cur).toList.take (ls.length*7)=aAa (ls.map (·.1)):=by
 apply List.ext_getElem?;intro j
 by_cases hj:j<ls.length*7
 ·have hf:=aQq ls hj;rw[List.getElem?_take_of_lt hj,Array.getElem?_toList,List.getElem?_eq_getElem (by rw[aAn,List.length_map];exact hj),←hf];simp[putCells,hj,show j<cur.size by omega]
 rw[List.getElem?_take_eq_none (by omega),List.getElem?_eq_none (by rw[aAn,List.length_map];omega)]
theorem aSu{f m:List Of}{d:Array aJf}{ls:List aJf}(hf:ls.map (·.1)=f)(hm:m.Perm f)(hms:m.Pairwise ltO)(hne:f.Pairwise fun x y=>x.se≠y.se)
  (h1:PermIn 0 ls.toArray.size ls.toArray d)(h2:SortedIn (ltOf ordG) 0 ls.toArray.size d):d.toList.map (·.1)=m∧d.size=ls.length:=by
 obtain⟨hs,_,hperm⟩:=h1
 have hpd:d.toList.Perm ls:=by
  have e1:d.extract 0 ls.toArray.size=d:=by rw[←hs,Array.extract_size]
  rw[e1,Array.extract_size]at hperm;simpa using hperm
 have hpm:(d.toList.map (·.1)).Perm f:=by rw[←hf];exact hpd.map _
 have hse:(d.toList.map (·.1)).Pairwise fun x y=>x.se≠y.se:=(hpm.symm.pairwise_iff (fun{a b} (h:a.se≠b.se)=>h.symm)).1 hne
 have hso:(d.toList.map (·.1)).Pairwise ltO:=by
  rw[List.pairwise_iff_getElem]at hse ⊢;intro i j hi hj hij;have hi':i<d.size:=by simpa using hi
  have hj':j<d.size:=by simpa using hj
  have h3:=h2 i j (Nat.zero_le _) hij (by rw[←hs];exact hj');rw[getElem!_pos d i hi',getElem!_pos d j hj',aOq]at h3;have h4:=hse i j hi hj hij;simp only[List.getElem_map,Array.getElem_toList]at h4 ⊢;exact ltO_total (fun e=>h4 e.symm) h3
 refine⟨List.Perm.eq_of_pairwise (fun a b _ _ h1 h2=>(ltO_asymm h1 h2).elim) hso hms (hpm.trans hm.symm),by simpa using hs⟩
theorem aQr:∀{f:List Of},(∀x∈f,x.may∧0≤x.se∧x.se≤18446744073709551615)→∃ls:List aJf,ls.map (·.1)=f
 | [],_=>⟨[],rfl⟩
 | x::r,h=>by
  obtain⟨ls,hl⟩:=aQr (f:=r) (fun y hy=>h y (by simp[hy]));exact⟨⟨x,h x (by simp)⟩::ls,congrArg (List.cons x) hl⟩
theorem sortO_any{w:World}{base:Nat}{v:Value}{f m:List Of}(hg:∀x∈f,x.may∧0≤x.se∧x.se≤18446744073709551615)(hm:m.Perm f)(hms:m.Pairwise ltO)(hne:f.Pairwise fun x y=>x.se≠y.se)(hl:f.length≤1000)(h:w.ownsRow base 129 7 v f.length (aAa f)):
  Calls Tryz.prog 78 #[v,.func (.func 79) #[] #[]] w fun e w'=>e=.returned (.tuple #[])∧w'.ownsRow base 129 7 v m.length (aAa m)∧Keep (fun b=>v.ownBlock=some b) w w':=by
 have hlen:=hm.length_eq;rcases h.2 with⟨rfl,h0⟩|⟨g,cap,cur,rfl,hbase,hb,h1,h2,h3,h4⟩
 ·rw[h0]at hlen;have:m=[]:=List.eq_nil_of_length_eq_zero hlen;subst this;refine(AnyF.slices_SortFunc_none { sortO with } none 0 (.func (.func 79) #[] #[]) w).mono ?_;rintro e w' ⟨rfl,rfl⟩;exact⟨rfl,World.ownsRow_nil _ _ _ _,Keep.refl _ _⟩
 have hgl:g<w.heap.size:=(Array.getElem?_eq_some_iff.1 hb).1;obtain⟨ls,hls⟩:=aQr hg;have hll:ls.length=f.length:=by rw[←hls,List.length_map]
 have eg:∀args w,(callFunc 79 args).run Tryz.prog w=.ok (.enter 79 args) w:=enters_of Tryz.func79 (by kernel_rfl) rfl;have hcmp:CmpLays Tryz.prog 79 #[] pAQ 7 ordG g 0 ls.toArray.size w:=fun m os dk _ x y=>(porder_any x.1 y.1 _ (x.2.1.fits x.2.2) (y.2.1.fits y.2.2)).mono fun e w' ⟨he,hb⟩=>⟨he,hb.grown⟩
 have hc:=AnyQ.slices_SortFunc (P:=Tryz.prog) sortO 7 Tryz.isAgg129 Tryz.sizeOf129 pAQ (fun _=>rfl) (fun x u hu=>by simp[pAQ,Of.vals]at hu;rcases hu with rfl|rfl|rfl|rfl|rfl|rfl|rfl <;> rfl) ordG swoO 79 #[] g 0 cap ls.toArray w eg hcmp (holds_offs hb (by rw[hll,hls];exact h4)) hgl (by simp;omega);have hsz:ls.toArray.size=f.length:=by simp[hll]
 rw[hsz]at hc;refine Calls.mono hc ?_;rintro e w' ⟨rfl,d,n,os,hp1,hs1,rfl⟩;obtain⟨hd,hds⟩:=aSu hls hm hms hne (by rw[hsz];exact hp1) (by rw[hsz];exact hs1)
 have hcells:(putCells id 0 (flatK pAQ 7 d) cur).toList.take (f.length*7)=aAa m:=by
  have:=take_offs cur d.toList (by rw[Array.length_toList,hds,hll,h3];omega);rw[hd]at this;simpa [hds,hll]using this
 refine⟨rfl,⟨aAn m,.inr ⟨g,cap,_,by rw[hlen],hbase,heap_offs _ hb,by omega,h2,by simp[putCells,h3],by rw[hlen];exact hcells⟩⟩,(keep_offs _).mono fun k _ hk=>by rw[hk];rfl⟩
end Go.Proofs.YtaeocliklpcgmaaGreat
