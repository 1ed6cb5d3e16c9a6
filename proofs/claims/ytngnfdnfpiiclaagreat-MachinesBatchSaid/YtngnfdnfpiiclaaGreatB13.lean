/- Pieces of one proof. -/
import Derived.Test.YtngnfdnfpiiclaaGreatB04
import Derived.Test.YtngnfdnfpiiclaaGreatB12
import Derived.Sort.Grow
set_option linter.all false
set_option maxHeartbeats 64000000
set_option maxRecDepth 100000
namespace Go.Proofs.YtngnfdnfpiiclaaGreat
open Go.RowKit
theorem cmade_of{w:World}{a b:Option Addr}{er:Int}(h:∀w',Below w.heap.size w w'→Calls Tryz.prog 235 #[.agg #[.pointer a,.pointer b],.int .u64 0,.int .u8 0,.int .u8 0,.int .i64 0] w' fun e w''=>e=.returned (.tuple #[aH3,.int .i64 er])∧Below w'.heap.size w' w''):
  Calls Tryz.prog 240 #[.agg #[.pointer a,.pointer b]] w (yR w (.bool (er != 2))):=by
 have b0:=(Below.refl w.heap.size w).alloc yL (.cells #[.pointer a,.pointer b] 80);have K:=yH (Blk.new w #[.pointer a,.pointer b] 80);have B:=yH b0;have C:=yH (h _ b0);clear b0 h;obtain⟨q,hq⟩:∃q,(er != 2)=q:=⟨_,rfl⟩;rw[hq];unfold aH3 at C;generalize hW:w.alloc (.cells #[.pointer a,.pointer b] 80)=W at *;have HW:=yH hW;clear hW;have c0:=K.out.cell 0;have c1:=K.out.cell 1;simp at c0 c1;clear K;go_enter Tryz.func240,Tryz.ntmps240
 go_upto_region 1 with fail
 rw[HW.out];go_wp2_with fail;refine C.out.mono ?_;rintro e w1 ⟨rfl,b1⟩;have B1:=yH ((B.out.trans (b1.mono B.out.size)).alloc (Nat.le_trans B.out.size b1.size) (.cells #[.int .u64 0,.int .u8 0,.int .u8 0,.int .i64 0,.int .i64 0] 241));clear b1 c0 c1 C B;go_wp2_with fail;go_ret;exact⟨rfl,B1.out⟩
theorem cmade_any(HD:aD1){w:World}{base G M gb:Nat}{ps:List Int}{ls:List Ln}{l:List Of}{N:Int}{vb:Value}(hL:LedM w G M ps ls)(hI:LInv ps ls)(hP:PB w base gb l N vb)(hJ:BInv l N):
  Calls Tryz.prog 240 #[.agg #[.pointer (some ⟨G,0,none⟩),.pointer (some ⟨gb,0,none⟩)]] w (yR w (.bool true)):=
 cmade_of (er:=1) (fun w' b=>(aJq HD (hL.below b) hI (hP.below b) hJ 0 0 0 0 (by omega) (by unfold In8;omega) (by unfold In8;omega) (by unfold In64;omega)).mono (by
  rintro e w'' (⟨_,h1,h2⟩|⟨h,_⟩)
  ·exact⟨h1,h2⟩
  exact absurd h.1 (by omega)))
theorem may_one(x:Of):(okO 2 [(⟨1,x.ow,x.sl,x.bu,x.lf,x.nu,x.de⟩:Of)]∧(2:Int)≠0)↔x.may:=by
 constructor
 ·rintro⟨⟨_,h⟩,_⟩;exact(h _ List.mem_cons_self).1
 intro h;refine⟨⟨List.pairwise_singleton _ _,fun y hy=>?_⟩,by decide⟩;rw[List.mem_singleton]at hy;subst hy;exact⟨h,by show(1:Int)≠0;decide,by show(1:Int)<2;decide⟩
theorem cmay_any(x:Of)(hx:x.Fits)(w:World):Calls Tryz.prog 241 #[.agg #[.int .u64 x.se,.int .u8 x.ow,.int .u8 x.sl,.int .u8 x.bu,.int .i64 x.lf,.int .i64 x.nu,.int .i64 x.de]] w (yR w (.bool (decide x.may))):=by
 have b0:=(Below.refl w.heap.size w).alloc yL (.cells #[.int .u64 x.se,.int .u8 x.ow,.int .u8 x.sl,.int .u8 x.bu,.int .i64 x.lf,.int .i64 x.nu,.int .i64 x.de] 294);have K:=yH (Blk.new w #[.int .u64 x.se,.int .u8 x.ow,.int .u8 x.sl,.int .u8 x.bu,.int .i64 x.lf,.int .i64 x.nu,.int .i64 x.de] 294);have B:=yH b0;have HX:=yH hx;obtain⟨q,hq⟩:∃q,decide x.may=q:=⟨_,rfl⟩;have HQ:=yH hq;rw[hq];clear b0 hx hq;generalize hW:w.alloc (.cells #[.int .u64 x.se,.int .u8 x.ow,.int .u8 x.sl,.int .u8 x.bu,.int .i64 x.lf,.int .i64 x.nu,.int .i64 x.de] 294)=W at *;have HW:=yH hW;clear hW;have fz:=K.out.frozen 0;have z0:=K.out.cell 0;simp at z0;have K2:=yH (K.out.set 0 (.int .u64 1));go_enter Tryz.func241,Tryz.ntmps241
 go_upto_region 1 with fail
 rw[HW.out]
 go_upto_region 2 with fail
 have B2:=yH (B.out.setCell (p:=⟨w.heap.size,0,none⟩) (by show w.heap.size≤w.heap.size;omega) (.int .u64 1));clear fz z0 K B;generalize W.setCell ⟨w.heap.size,0,none⟩ (.int .u64 1)=W2 at *;have c0:=K2.out.cell 0;have c1:=K2.out.cell 1;have c2:=K2.out.cell 2;have c3:=K2.out.cell 3;have c4:=K2.out.cell 4;have c5:=K2.out.cell 5;have c6:=K2.out.cell 6;simp at c0 c1 c2 c3 c4 c5 c6;have bl:=(Below.refl W2.heap.size W2).alloc yL (.cells #[.int .u64 1,.int .u8 x.ow,.int .u8 x.sl,.int .u8 x.bu,.int .i64 x.lf,.int .i64 x.nu,.int .i64 x.de] 75);have KL:=yH (Blk.new W2 #[.int .u64 1,.int .u8 x.ow,.int .u8 x.sl,.int .u8 x.bu,.int .i64 x.lf,.int .i64 x.nu,.int .i64 x.de] 75);have B3:=yT B2 bl
 have RD:Hid (aB7 (W2.alloc (.cells #[.int .u64 1,.int .u8 x.ow,.int .u8 x.sl,.int .u8 x.bu,.int .i64 x.lf,.int .i64 x.nu,.int .i64 x.de] 75)) (.slice (some ⟨W2.heap.size,0,none⟩) 1 1) 7 [(⟨1,x.ow,x.sl,x.bu,x.lf,x.nu,x.de⟩:Of)].length (aAb [(⟨1,x.ow,x.sl,x.bu,x.lf,x.nu,x.de⟩:Of)])):=yH (by
  refine⟨_,1,rfl,by show(1:Nat)≤100000000;decide,rfl,fun _=>⟨W2.heap.size,0,rfl,KL.out.lt,fun j hj=>?_⟩⟩;rw[Nat.zero_add,KL.out.cell j];have hj7:j<7:=hj;rcases(by omega:j=0∨j=1∨j=2∨j=3∨j=4∨j=5∨j=6)with rfl|rfl|rfl|rfl|rfl|rfl|rfl <;> rfl)
 have CO:=yH (pofB_any (nx:=2) RD.out (fun y hy=>by rw[List.mem_singleton]at hy;subst hy;exact⟨by show(0:Int)≤1∧(1:Int)≤18446744073709551615;decide,HX.out.ow,HX.out.sl,HX.out.bu,HX.out.lf,HX.out.nu,HX.out.de⟩) (by decide) (by decide));have QY:Hid ((okO 2 [(⟨1,x.ow,x.sl,x.bu,x.lf,x.nu,x.de⟩:Of)]∧(2:Int)≠0)↔x.may):=yH (may_one x);clear bl RD;go_wp2_with fail;generalize W2.alloc (.cells #[.int .u64 1,.int .u8 x.ow,.int .u8 x.sl,.int .u8 x.bu,.int .i64 x.lf,.int .i64 x.nu,.int .i64 x.de] 75)=W3 at *;refine CO.out.mono ?_;rintro e w1 ⟨b1,hp⟩;have B4:=yT B3 b1;clear b1 c0 c1 c2 c3 c4 c5 c6 CO KL K2 B2;rcases hp with⟨_,h1,h2,g,vl,rfl,_⟩|⟨rfl,h⟩|⟨rfl,_,h⟩
 ·obtain rfl:true=q:=by rw[←HQ.out,decide_eq_true (QY.out.1 ⟨h1,h2⟩)]
  clear h1 h2;go_wp2_with fail;go_ret;exact⟨rfl,B4.out⟩
 ·exact absurd h (by show ¬32<1;decide)
 obtain rfl:false=q:=by rw[←HQ.out,decide_eq_false (fun q=>h (QY.out.2 q))]
 clear h;go_wp2_with fail;go_ret;exact⟨rfl,B4.out⟩
def aH4(ps:List Int)(x:Of):Int:=if ¬x.may then 1 else if x.ow∉ps then 7 else 0
theorem aTp{w:World}{a b:Option Addr}(x:Of)(h:∀w',Below w.heap.size w w'→Calls Tryz.prog 240 #[.agg #[.pointer a,.pointer b]] w' fun e w''=>e=.returned (.bool false)∧Below w'.heap.size w' w''):
  Calls Tryz.prog 200 #[.agg #[.int .u64 x.se,.int .u8 x.ow,.int .u8 x.sl,.int .u8 x.bu,.int .i64 x.lf,.int .i64 x.nu,.int .i64 x.de],.agg #[.pointer a,.pointer b]] w (yR w (.int .i64 2)):=by
 have b0:=((Below.refl w.heap.size w).alloc yL (.cells #[.int .u64 x.se,.int .u8 x.ow,.int .u8 x.sl,.int .u8 x.bu,.int .i64 x.lf,.int .i64 x.nu,.int .i64 x.de] 294));have b1:=b0.alloc b0.size (.cells #[.pointer a,.pointer b] 80);have K:=yH (pAB (w.alloc (.cells #[.int .u64 x.se,.int .u8 x.ow,.int .u8 x.sl,.int .u8 x.bu,.int .i64 x.lf,.int .i64 x.nu,.int .i64 x.de] 294)) #[.pointer a,.pointer b] 80 (g:=w.heap.size+1) (by simp));have B:=yH b1;have C:=yH (h _ b1);clear b0 b1 h;generalize hW:(w.alloc (.cells #[.int .u64 x.se,.int .u8 x.ow,.int .u8 x.sl,.int .u8 x.bu,.int .i64 x.lf,.int .i64 x.nu,.int .i64 x.de] 294)).alloc (.cells #[.pointer a,.pointer b] 80)=W at *;have HW:=yH hW;clear hW;have c0:=K.out.cell 0;have c1:=K.out.cell 1;simp at c0 c1;clear K;go_enter Tryz.func200,Tryz.ntmps200
 go_upto_region 1 with fail
 rw[HW.out];go_wp2_with fail;refine C.out.mono ?_;rintro e w1 ⟨rfl,b1⟩;have B1:=yT B b1;clear b1 c0 c1 C B;go_wp2_with fail;go_ret;exact⟨rfl,B1.out⟩
theorem cwrong_any(HD:aD1){w:World}{base G M gb:Nat}{ps:List Int}{ls:List Ln}{l:List Of}{N:Int}{vb:Value}(hL:LedM w G M ps ls)(hI:LInv ps ls)(hP:PB w base gb l N vb)(hJ:BInv l N)(x:Of)(hx:x.Fits):
  Calls Tryz.prog 200 #[.agg #[.int .u64 x.se,.int .u8 x.ow,.int .u8 x.sl,.int .u8 x.bu,.int .i64 x.lf,.int .i64 x.nu,.int .i64 x.de],.agg #[.pointer (some ⟨G,0,none⟩),.pointer (some ⟨gb,0,none⟩)]] w (yR w (.int .i64 (aH4 ps x))):=by
 have b0:=((Below.refl w.heap.size w).alloc yL (.cells #[.int .u64 x.se,.int .u8 x.ow,.int .u8 x.sl,.int .u8 x.bu,.int .i64 x.lf,.int .i64 x.nu,.int .i64 x.de] 294));have b1:=b0.alloc b0.size (.cells #[.pointer (some ⟨G,0,none⟩),.pointer (some ⟨gb,0,none⟩)] 80);have KS:=yH ((Blk.new w #[.int .u64 x.se,.int .u8 x.ow,.int .u8 x.sl,.int .u8 x.bu,.int .i64 x.lf,.int .i64 x.nu,.int .i64 x.de] 294).alloc (.cells #[.pointer (some ⟨G,0,none⟩),.pointer (some ⟨gb,0,none⟩)] 80));have KH:=yH (pAB (w.alloc (.cells #[.int .u64 x.se,.int .u8 x.ow,.int .u8 x.sl,.int .u8 x.bu,.int .i64 x.lf,.int .i64 x.nu,.int .i64 x.de] 294)) #[.pointer (some ⟨G,0,none⟩),.pointer (some ⟨gb,0,none⟩)] 80 (g:=w.heap.size+1) (by simp));have HL:=yH (hL.below b1);have C:=yH (cmade_any HD (hL.below b1) hI (hP.below b1) hJ);have B:=yH b1;have HB:=yH hI.bd;have CM:=yH (fun w=>cmay_any x hx w);obtain⟨R,hR⟩:∃R,aH4 ps x=R:=⟨_,rfl⟩;rw[hR];have HR:=yH hR;clear b0 b1 hL hI hP hJ hR hx;generalize hW:(w.alloc (.cells #[.int .u64 x.se,.int .u8 x.ow,.int .u8 x.sl,.int .u8 x.bu,.int .i64 x.lf,.int .i64 x.nu,.int .i64 x.de] 294)).alloc (.cells #[.pointer (some ⟨G,0,none⟩),.pointer (some ⟨gb,0,none⟩)] 80)=W at *;have HW:=yH hW;clear hW;have c0:=KH.out.cell 0;have c1:=KH.out.cell 1;simp at c0 c1;go_enter Tryz.func200,Tryz.ntmps200
 go_upto_region 1 with fail
 rw[HW.out];go_wp2_with fail;refine C.out.mono ?_;rintro e w1 ⟨rfl,b1⟩;have HL1:=yH (HL.out.below b1);have KS1:=yB KS b1;have KH1:=yB KH b1;have B1:=yT B b1;clear b1 c0 c1 C B HL KS KH;have s0:=KS1.out.cell 0;have s1:=KS1.out.cell 1;have s2:=KS1.out.cell 2;have s3:=KS1.out.cell 3;have s4:=KS1.out.cell 4;have s5:=KS1.out.cell 5;have s6:=KS1.out.cell 6;simp at s0 s1 s2 s3 s4 s5 s6
 by_cases hm:x.may
 ·rw[decide_eq_true hm]at CM;have HMY:=yH hm;clear hm;go_wp2_with fail;refine(CM.out _).mono ?_;rintro e w2 ⟨rfl,b2⟩;have HL2:=yH (HL1.out.below b2);have KS2:=yB KS1 b2;have KH2:=yB KH1 b2;have B2:=yT B1 b2;clear b2 s0 s1 s2 s3 s4 s5 s6 CM B1 HL1 KS1 KH1;have s1:=KS2.out.cell 1;have c0:=KH2.out.cell 0;have c1:=KH2.out.cell 1;simp at s1 c0 c1;have CF:=yH (aF2 HL2.out.blk HB.out x.ow)
  by_cases hf:x.ow∈ps
  ·rw[decide_eq_true hf]at CF;have EE:Hid (R=0):=yH (by rw[←HR.out];unfold aH4;rw[if_neg (fun h=>h HMY.out),if_neg (fun h=>h hf)]);clear hf;go_wp2_with fail;refine CF.out.mono ?_;rintro e w3 ⟨rfl,rfl⟩;go_wp2_with fail;go_ret;exact⟨by rw[EE.out];rfl,B2.out⟩
  rw[decide_eq_false hf]at CF;have EE:Hid (R=7):=yH (by rw[←HR.out];unfold aH4;rw[if_neg (fun h=>h HMY.out),if_pos hf]);clear hf;go_wp2_with fail;refine CF.out.mono ?_;rintro e w3 ⟨rfl,rfl⟩;go_wp2_with fail;go_ret;exact⟨by rw[EE.out];rfl,B2.out⟩
 rw[decide_eq_false hm]at CM;have EE:Hid (R=1):=yH (by rw[←HR.out];unfold aH4;rw[if_pos hm]);clear hm;go_wp2_with fail;refine(CM.out _).mono ?_;rintro e w2 ⟨rfl,b2⟩;have B2:=yT B1 b2;clear b2 s0 s1 s2 s3 s4 s5 s6 CM B1;go_wp2_with fail;go_ret;exact⟨by rw[EE.out];rfl,B2.out⟩
theorem crest_none(x:Of)(hn:x.lf<1)(b:Option Addr)(w:World):
  Calls Tryz.prog 202 #[.agg #[.int .u64 x.se,.int .u8 x.ow,.int .u8 x.sl,.int .u8 x.bu,.int .i64 x.lf,.int .i64 x.nu,.int .i64 x.de],.pointer b] w (yR w (.tuple #[.int .u64 0,.int .i64 0])):=by
 have b0:=((Below.refl w.heap.size w).alloc yL (.cells #[.int .u64 x.se,.int .u8 x.ow,.int .u8 x.sl,.int .u8 x.bu,.int .i64 x.lf,.int .i64 x.nu,.int .i64 x.de] 294));have KS:=yH (Blk.new w #[.int .u64 x.se,.int .u8 x.ow,.int .u8 x.sl,.int .u8 x.bu,.int .i64 x.lf,.int .i64 x.nu,.int .i64 x.de] 294);have B:=yH b0;have q0:decide (x.lf<1)=true:=by simpa using hn
 clear b0 hn;generalize hW:w.alloc (.cells #[.int .u64 x.se,.int .u8 x.ow,.int .u8 x.sl,.int .u8 x.bu,.int .i64 x.lf,.int .i64 x.nu,.int .i64 x.de] 294)=W at *;have HW:=yH hW;clear hW;have s4:=KS.out.cell 4;simp at s4;go_enter Tryz.func202,Tryz.ntmps202
 go_upto_region 1 with fail
 rw[HW.out];go_wp2_with fail;go_ret2;exact⟨rfl,B.out⟩
theorem crest_any{w:World}{base g:Nat}{l:List Of}{N:Int}{vl:Value}(h:PB w base g l N vl)(hI:BInv l N)(x:Of)(hx:x.Fits)(hn:¬x.lf<1):
  Calls Tryz.prog 202 #[.agg #[.int .u64 x.se,.int .u8 x.ow,.int .u8 x.sl,.int .u8 x.bu,.int .i64 x.lf,.int .i64 x.nu,.int .i64 x.de],.pointer (some ⟨g,0,none⟩)] w fun e w'=>e=.returned (.tuple #[.int .u64 (aFs l ⟨N,x.ow,x.sl,x.bu,x.lf,x.nu,x.de⟩),.int .i64 (aC2 l ⟨N,x.ow,x.sl,x.bu,x.lf,x.nu,x.de⟩)])∧
   ∃vl',PB w' base g (aFd l ⟨N,x.ow,x.sl,x.bu,x.lf,x.nu,x.de⟩) (aE2 l ⟨N,x.ow,x.sl,x.bu,x.lf,x.nu,x.de⟩) vl'∧Keep (Foot g vl) w w'∧aEg w vl vl':=by
 have b0:=((Below.refl w.heap.size w).alloc yL (.cells #[.int .u64 x.se,.int .u8 x.ow,.int .u8 x.sl,.int .u8 x.bu,.int .i64 x.lf,.int .i64 x.nu,.int .i64 x.de] 294));have KS:=yH (Blk.new w #[.int .u64 x.se,.int .u8 x.ow,.int .u8 x.sl,.int .u8 x.bu,.int .i64 x.lf,.int .i64 x.nu,.int .i64 x.de] 294);have B:=yH b0;have q0:decide (x.lf<1)=false:=by simpa using hn
 have CP:=yH (pplace_any (x:=⟨N,x.ow,x.sl,x.bu,x.lf,x.nu,x.de⟩) (h.below b0) hI ⟨⟨by have:=hI.n1;show 0≤N;omega,hI.n2⟩,hx.ow,hx.sl,hx.bu,hx.lf,hx.nu,hx.de⟩);obtain⟨rs,hrs⟩:∃rs,aFs l ⟨N,x.ow,x.sl,x.bu,x.lf,x.nu,x.de⟩=rs:=⟨_,rfl⟩;obtain⟨re,hre⟩:∃re,aC2 l ⟨N,x.ow,x.sl,x.bu,x.lf,x.nu,x.de⟩=re:=⟨_,rfl⟩;rw[hrs,hre]at CP ⊢;dsimp only at CP;clear b0 hn h hI hx hrs hre;generalize hW:w.alloc (.cells #[.int .u64 x.se,.int .u8 x.ow,.int .u8 x.sl,.int .u8 x.bu,.int .i64 x.lf,.int .i64 x.nu,.int .i64 x.de] 294)=W at *;have HW:=yH hW;clear hW;have s1:=KS.out.cell 1;have s2:=KS.out.cell 2;have s3:=KS.out.cell 3;have s4:=KS.out.cell 4;have s5:=KS.out.cell 5;have s6:=KS.out.cell 6;simp at s1 s2 s3 s4 s5 s6;go_enter Tryz.func202,Tryz.ntmps202
 go_upto_region 1 with fail
 rw[HW.out];go_wp2_with fail;refine CP.out.mono ?_;rintro e w1 ⟨rfl,vl',hP,k1,hm⟩;have HP:=yH hP;have K1:=yH ((pAD (S:=Foot g vl) B.out).trans k1);have M1:=yH (show aEg w vl vl' from fun b hb=>(hm b hb).imp id (fun h=>Nat.le_trans B.out.size h));clear hP k1 hm CP s1 s2 s3 s4 s5 s6;go_wp2_with fail;go_ret2;exact⟨rfl,vl',HP.out,K1.out,M1.out⟩
structure aPm(B l:Nat)(W W':World):Prop where
 size:W.heap.size≤W'.heap.size
 same:∀k,B≤k→k≠l→k<W.heap.size→W'.heap[k]? = W.heap[k]?
structure aKx(B:Nat)(W W':World):Prop where
 size:W.heap.size≤W'.heap.size
 same:∀k,B≤k→k<W.heap.size→W'.heap[k]? = W.heap[k]?
theorem pAM{S:Nat→Prop}{B:Nat}{W W':World}(h:Keep S W W')(hS:∀k,B≤k→¬S k):aKx B W W':=
 ⟨h.size,fun k hB hk=>h.block k hk (hS k hB)⟩
theorem Blk.old{W W':World}{B l g:Nat}{cs:Array Value}{t:TypeId}(h:Blk W g cs t)(k:aPm B l W W')(hB:B≤g)(hl:g≠l):Blk W' g cs t:=(k.same g hB hl h.lt).trans h
def SeqK(P:Program)(gf:FuncId)(lb:Array Value){St:Type}(s0:St)(S:St→Prop)(Y:St→Array Value→World→Prop)(next:St→St→Prop)(I:St→World→Prop):Prop:=
 ∀(n l B:Nat) (J:St→World→Prop) (Jx:World→Prop),(∀s W W',J s W→Below W.heap.size W W'→J s W')→(∀s W,J s W→I s W)→
  (∀m s vs W,J s W→Y s vs W→YieldAt Fence.wide m P l vs W fun e W'=>aPm B l W W'∧((e=.returned (.bool true)∧∃s',next s s'∧J s' W')∨(e=.returned (.bool false)∧Jx W')))→
  ∀W,J s0 W→B≤W.heap.size→l<W.heap.size→CallsIn Fence.wide n P gf (#[.func (.yield l) #[] #[]]++lb) W fun e W'=>(∃v,e=.returned v)∧((∃s,S s∧J s W')∨Jx W')
def aRj{St:Type}(B:Nat)(I:St→World→Prop)(Ix:Code→World→Prop)(next:St→St→Prop)(s:St)(W:World):Exit→Act→World→Prop
 | .normal,_,W'=>aKx B W W'∧∃s',next s s'∧I s' W'
 | .ret,_,W'=>aKx B W W'∧Ix .ret W'
 | .exit id,_,W'=>aKx B W W'∧Ix (.exit id) W'
 | .goto t,_,W'=>aKx B W W'∧Ix (.goto t) W'
 | .panic _,_,_=>False
 | .outgrown,_,_=>False
theorem wp_roundsK{P:Program}{g:Operand}{ps:Array Tmp}{assign body:Code}{Q:Exit→Act→World→Prop}{a:Act}{w:World}{St:Type}{gf:FuncId}{lb:Array Value}
  (hg:a.eval g=.func (.func gf) #[] lb)(eg:∀args w,(callFunc gf args).run P w=.ok (.enter gf args) w)
  (I:St→World→Prop)(Y:St→Array Value→World→Prop)(Ix:Code→World→Prop)(S:St→Prop)(next:St→St→Prop)(A:St→Array Value→Act→World→Prop)
  (hI:∀s,Fits w.heap.size (I s))(hIx:∀c,Fits w.heap.size (Ix c))(hA:∀s vs a,Fits w.heap.size (A s vs a))(hps:∀s vs W,Y s vs W→vs.size=ps.size)
  (s0:St)(hseq:SeqK P gf lb s0 S Y next I)(h0:I s0 w)
  (hassign:∀(m l:Nat) (s:St) (vs:Array Value) (W:World) (K:Act→World→Prop),I s W→Y s vs W→(∀a' W',Below W.heap.size W W'→A s vs a' W'→K a' W')→
   assign.wpIn (Fence.wide.inRound l) m P (Exit.then K fun _ _ _=>False) { tmps:=(ps.zip vs).foldl (fun t (p,v)=>t.setIfInBounds p v) a.tmps,defers:=[] } W)
  (hbody:∀(m l:Nat) (s:St) (vs:Array Value) (a':Act) (W:World),w.heap.size≤W.heap.size→I s W→A s vs a' W→body.wpIn (Fence.wide.inRound l) m P (aRj w.heap.size I Ix next s W) a' W)
  (hdone:∀(D:Nat) (s:St) (W:World),w.heap.size≤D→S s→I s W→W.heap[D]? = some (.deferred (some []))→Q .normal { a with defers:={ target:=.collected D,args:=#[] }::a.defers } W)
  (hstop:∀(D:Nat) (c:Code) (W:World),w.heap.size≤D→Ix c W→W.heap[D]? = some (.deferred (some []))→c.wp P Q { a with defers:={ target:=.collected D,args:=#[] }::a.defers } W):
  (Code.rangeFunc g ps assign body).wp P Q a w:=by
 refine(wpIn_wide (n:=0)).1 (wpIn_rangeFunc fun fn hfn=>?_);obtain⟨rec,hrec⟩:∃rec:LoopState→Option Code→Loop,rec=fun st pe=>{ state:=st,pending:=pe,fn,tmps:=a.tmps,params:=ps,assign,body,defers:=w.heap.size }:=⟨_,rfl⟩
 obtain⟨W1,hW1⟩:∃W1,(w.alloc (.deferred (some []))).alloc (.loop (rec .ready none))=W1:=⟨_,rfl⟩
 have hl1:W1.heap[w.heap.size+1]? = some (.loop (rec .ready none)):=by
  have e:=World.alloc_heap_new (w.alloc (.deferred (some []))) (.loop (rec .ready none));rw[World.size_alloc,hW1]at e;exact e
 have hd1:W1.heap[w.heap.size]? = some (.deferred (some [])):=by
  rw[←hW1];exact(Below.heap_alloc _ _ _ (by simp)).trans (World.alloc_heap_new w _)
 have hb1:Below w.heap.size w W1:=by
  rw[←hW1];exact((Below.refl _ w).alloc yL _).alloc (by simp) _
 have hI1:I s0 W1:=(hI s0).grow _ _ h0 hb1
 refine⟨w.heap.size+1,[{ target:=.collected w.heap.size,args:=#[] }],W1,{ target:=.fn (.func gf) lb,args:=#[.func (.yield (w.heap.size+1)) #[] #[]] },W1,gf,
  #[.func (.yield (w.heap.size+1)) #[] #[]]++lb,W1,?_,?_,fun _ _=>trivial,?_,fun hh=>(by cases hh),?_⟩
 ·rw[←hW1,hrec];exact run_enterLoop_outer _ _ _ _ _
 ·simp only[resolve,hg];simp[go_sem]
 ·simp[invoke,go_sem,eg]
 refine(hseq (0 - 1) (w.heap.size+1) w.heap.size (fun s W=>I s W∧W.heap[w.heap.size+1]? = some (.loop (rec .ready none))∧W.heap[w.heap.size]? = some (.deferred (some [])))
  (fun W=>∃c,Ix c W∧W.heap[w.heap.size+1]? = some (.loop (rec .done (some c)))∧W.heap[w.heap.size]? = some (.deferred (some [])))
  (fun s W W' h hb=>⟨(hI s).grow _ _ h.1 hb,(hb.block _ (Array.getElem?_eq_some_iff.1 h.2.1).1).trans h.2.1,(hb.block _ (Array.getElem?_eq_some_iff.1 h.2.2).1).trans h.2.2⟩)
  (fun s W h=>h.1) ?_ W1 ⟨hI1,hl1,hd1⟩ hb1.size (Array.getElem?_eq_some_iff.1 hl1).1).mono ?_
 ·rintro m s vs V ⟨hiV,hlV,hkV⟩ hy;have hry:=run_yield (P:=P) (args:=vs) hlV (by rw[hrec];exact hps s vs V hy);rw[hrec]at hry;refine⟨fn,_,assign,body,hry,roundIn_of_wpIn hfn (hassign m _ s vs V _ hiV hy (fun a1 W hb hAx=>?_))⟩;clear hry;have hi:=(hI s).grow _ _ hiV hb;have hl:=(hb.block _ (Array.getElem?_eq_some_iff.1 hlV).1).trans hlV;have hk:=(hb.block _ (Array.getElem?_eq_some_iff.1 hkV).1).trans hkV;have hlt:=(Array.getElem?_eq_some_iff.1 hl).1;refine⟨_,run_beginRound hl (by rw[hrec]),?_⟩;obtain⟨W2,hW2⟩:∃W2,W.putObj (w.heap.size+1) (.loop { rec .ready none with state:=.busy })=W2:=⟨_,rfl⟩;have hl2:W2.heap[w.heap.size+1]? = some (.loop { rec .ready none with state:=.busy }):=by rw[←hW2];exact World.putObj_heap_same hlt
  have hk2:W2.heap[w.heap.size]? = some (.deferred (some [])):=by rw[←hW2];exact(World.putObj_heap_other (by omega)).trans hk
  have hs2:W2.heap.size=W.heap.size:=by rw[←hW2];simp[World.putObj]
  have ho2:∀k,k≠w.heap.size+1→W2.heap[k]? = W.heap[k]? := fun k hk=>by rw[←hW2];exact World.putObj_heap_other (by omega)
  have hi2:I s W2:=by rw[←hW2];exact(hI s).turn _ _ _ _ hi (by omega) hl rfl
  have hA2:A s vs a1 W2:=by rw[←hW2];exact(hA s vs a1).turn _ _ _ _ hAx (by omega) hl rfl
  rw[hW2];refine wpIn_mono (hbody m _ s vs a1 W2 (by omega) hi2 hA2) ?_
  have fin:∀(jump:Option Code) (W3:World),aKx w.heap.size W2 W3→
    (Instr.endRound (w.heap.size+1) jump).run P W3=.ok (.bool jump.isNone) (W3.putObj (w.heap.size+1) (.loop (rec (if jump.isNone then .ready else .done) jump)))∧
    W3.heap[w.heap.size+1]? = some (.loop { rec .ready none with state:=.busy })∧
    (W3.putObj (w.heap.size+1) (.loop (rec (if jump.isNone then .ready else .done) jump))).heap[w.heap.size+1]? = some (.loop (rec (if jump.isNone then .ready else .done) jump))∧
    (W3.putObj (w.heap.size+1) (.loop (rec (if jump.isNone then .ready else .done) jump))).heap[w.heap.size]? = some (.deferred (some []))∧
    aPm w.heap.size (w.heap.size+1) V (W3.putObj (w.heap.size+1) (.loop (rec (if jump.isNone then .ready else .done) jump))):=fun jump W3 hk3=>by
   have hl3:=(hk3.same (w.heap.size+1) (by omega) (by omega)).trans hl2;have he:=run_endRound (P:=P) jump hl3;rw[hrec]at he ⊢;refine⟨he,by rw[hrec]at hl3;exact hl3,World.putObj_heap_same (Array.getElem?_eq_some_iff.1 hl3).1,(World.putObj_heap_other (by omega)).trans ((hk3.same w.heap.size yL (by omega)).trans hk2),?_,fun k hB hkl hks=>?_⟩
   ·have h1:=hk3.size;have h2:=hb.size;simp[World.putObj];omega
   have h2:=hb.size;rw[World.putObj_heap_other (by omega),hk3.same k hB (by omega),ho2 k hkl];exact hb.block k hks
  rintro e a3 W3 hp
  cases e with
  | normal=>
   obtain⟨hk3,s',hn,hi3⟩:=hp;obtain⟨hr,hl3,hl4,hk4,hof⟩:=fin none W3 hk3;exact⟨_,_,hr,hof,.inl ⟨rfl,s',hn,(hI s').turn _ _ _ _ hi3 (by omega) hl3 rfl,hl4,hk4⟩⟩
  | ret=>
   obtain⟨hk3,hi3⟩:=hp;obtain⟨hr,hl3,hl4,hk4,hof⟩:=fin (some .ret) W3 hk3;exact⟨_,_,hr,hof,.inr ⟨rfl,.ret,(hIx _).turn _ _ _ _ hi3 (by omega) hl3 rfl,hl4,hk4⟩⟩
  | exit id=>
   obtain⟨hk3,hi3⟩:=hp;obtain⟨hr,hl3,hl4,hk4,hof⟩:=fin (some (.exit id)) W3 hk3;exact⟨_,_,hr,hof,.inr ⟨rfl,.exit id,(hIx _).turn _ _ _ _ hi3 (by omega) hl3 rfl,hl4,hk4⟩⟩
  | goto t=>
   obtain⟨hk3,hi3⟩:=hp;obtain⟨hr,hl3,hl4,hk4,hof⟩:=fin (some (.goto t)) W3 hk3;exact⟨_,_,hr,hof,.inr ⟨rfl,.goto t,(hIx _).turn _ _ _ _ hi3 (by omega) hl3 rfl,hl4,hk4⟩⟩
  | panic ch=>exact hp.elim
  | outgrown=>exact hp.elim
 rintro e W2 ⟨⟨v,rfl⟩,(⟨s,hS,hi,hl,hk⟩|⟨c,hi,hl,hk⟩)⟩
 ·have he:=run_endLoop (P:=P) hl (by rw[hrec];simp);rw[hrec]at he;exact⟨none,_,he,hdone _ s _ yL hS ((hI s).turn _ _ _ _ hi (by omega) hl rfl) ((World.putObj_heap_other (by omega)).trans hk)⟩
 have he:=run_endLoop (P:=P) hl (by rw[hrec];simp);rw[hrec]at he;exact⟨some c,_,he,wpIn_wide.2 (hstop _ c _ yL ((hIx c).turn _ _ _ _ hi (by omega) hl rfl) ((World.putObj_heap_other (by omega)).trans hk))⟩
end Go.Proofs.YtngnfdnfpiiclaaGreat
namespace Go.Proofs.YtngnfdnfpiiclaaGreat
open Go.RowKit Go.Shelf
def sortO_ren:Go.Shelf.Ren:=⟨fun|6=>295|15=>141|14=>313|28=>186|29=>187|20=>332|21=>333|22=>334|23=>335|24=>336|25=>337|26=>338|27=>339|46=>348|47=>219|48=>220|49=>349|50=>350|57=>354|n=>n,fun|22=>156|24=>197|25=>392|3=>3|39=>227|0=>0|53=>278|55=>44|4=>4|46=>271|45=>270|50=>275|5=>5|9=>9|66=>310|70=>313|76=>358|77=>359|n=>n,fun|n=>n⟩
theorem sortO:Go.Proofs.SlLaysF0.n6 Tryz.prog sortO_ren:={
 mixed:=by kernel_rfl
 f6:=⟨Tryz.f295.name,by decide,Tryz.func295.trans (congrArg some (by kernel_rfl))⟩
 f14:=⟨Tryz.f313.name,by decide,Tryz.func313.trans (congrArg some (by kernel_rfl))⟩
 f15:=Tryz.func141.trans (congrArg some (by kernel_rfl))
 f20:=⟨Tryz.f332.name,by decide,Tryz.func332.trans (congrArg some (by kernel_rfl))⟩
 f21:=⟨Tryz.f333.name,by decide,Tryz.func333.trans (congrArg some (by kernel_rfl))⟩
 f22:=⟨Tryz.f334.name,by decide,Tryz.func334.trans (congrArg some (by kernel_rfl))⟩
 f23:=⟨Tryz.f335.name,by decide,Tryz.func335.trans (congrArg some (by kernel_rfl))⟩
 f24:=⟨Tryz.f336.name,by decide,Tryz.func336.trans (congrArg some (by kernel_rfl))⟩
 f25:=⟨Tryz.f337.name,by decide,Tryz.func337.trans (congrArg some (by kernel_rfl))⟩
 f26:=⟨Tryz.f338.name,by decide,Tryz.func338.trans (congrArg some (by kernel_rfl))⟩
 f27:=⟨Tryz.f339.name,by decide,Tryz.func339.trans (congrArg some (by kernel_rfl))⟩
 f28:=Tryz.func186.trans (congrArg some (by kernel_rfl))
 f29:=Tryz.func187.trans (congrArg some (by kernel_rfl))
 f46:=⟨Tryz.f348.name,by decide,Tryz.func348.trans (congrArg some (by kernel_rfl))⟩
 f47:=Tryz.func219.trans (congrArg some (by kernel_rfl))
 f48:=Tryz.func220.trans (congrArg some (by kernel_rfl))
 f49:=⟨Tryz.f349.name,by decide,Tryz.func349.trans (congrArg some (by kernel_rfl))⟩
 f50:=⟨Tryz.f350.name,by decide,Tryz.func350.trans (congrArg some (by kernel_rfl))⟩
 f57:=⟨Tryz.f354.name,by decide,Tryz.func354.trans (congrArg some (by kernel_rfl))⟩
 t0:=Tryz.underlying0
 a0:=Tryz.isAgg0
 z0:=Tryz.sizeOf0
 v0:=Tryz.zeroValue0
 t3:=Tryz.underlying3
 a3:=Tryz.isAgg3
 z3:=Tryz.sizeOf3
 v3:=Tryz.zeroValue3
 t4:=Tryz.underlying4
 a4:=Tryz.isAgg4
 z4:=Tryz.sizeOf4
 v4:=Tryz.zeroValue4
 t5:=Tryz.underlying5
 a5:=Tryz.isAgg5
 z5:=Tryz.sizeOf5
 v5:=Tryz.zeroValue5
 t9:=Tryz.underlying9
 a9:=Tryz.isAgg9
 z9:=Tryz.sizeOf9
 v9:=Tryz.zeroValue9
 t22:=Tryz.underlying156
 a22:=Tryz.isAgg156
 z22:=Tryz.sizeOf156
 v22:=Tryz.zeroValue156
 t25:=Tryz.underlying392
 a25:=Tryz.isAgg392
 z25:=Tryz.sizeOf392
 v25:=Tryz.zeroValue392
 t39:=Tryz.underlying227
 a39:=Tryz.isAgg227
 z39:=Tryz.sizeOf227
 v39:=Tryz.zeroValue227
 t45:=Tryz.underlying270
 a45:=Tryz.isAgg270
 z45:=Tryz.sizeOf270
 v45:=Tryz.zeroValue270
 t46:=Tryz.underlying271
 a46:=Tryz.isAgg271
 z46:=Tryz.sizeOf271
 v46:=Tryz.zeroValue271
 t50:=Tryz.underlying275
 a50:=Tryz.isAgg275
 z50:=Tryz.sizeOf275
 v50:=Tryz.zeroValue275
 t53:=Tryz.underlying278
 a53:=Tryz.isAgg278
 z53:=Tryz.sizeOf278
 v53:=Tryz.zeroValue278
 t55:=Tryz.underlying44
 a55:=Tryz.isAgg44
 z55:=Tryz.sizeOf44
 v55:=Tryz.zeroValue44
 t66:=Tryz.underlying310
 a66:=Tryz.isAgg310
 z66:=Tryz.sizeOf310
 v66:=Tryz.zeroValue310
 t70:=Tryz.underlying313
 a70:=Tryz.isAgg313
 z70:=Tryz.sizeOf313
 v70:=Tryz.zeroValue313
 t76:=Tryz.underlying358
 a76:=Tryz.isAgg358
 z76:=Tryz.sizeOf358
 v76:=Tryz.zeroValue358
 t77:=Tryz.underlying359
 a77:=Tryz.isAgg359
 z77:=Tryz.sizeOf359
 v77:=Tryz.zeroValue359 }
end Go.Proofs.YtngnfdnfpiiclaaGreat
namespace Go.Proofs.YtngnfdnfpiiclaaGreat
open Go.RowKit
structure aAp(B:Nat)(w w':World):Prop extends Below B w w' where
 dr:w.drawn≤w'.drawn
theorem aAp.refl(B:Nat)(w:World):aAp B w w:=⟨Below.refl B w,Nat.le_refl _⟩
theorem aAp.trans{B:Nat}{a b c:World}(h:aAp B a b)(k:aAp B b c):aAp B a c:=⟨h.toBelow.trans k.toBelow,Nat.le_trans h.dr k.dr⟩
theorem aAp.mono{B B':Nat}{w w':World}(h:aAp B w w')(hb:B'≤B):aAp B' w w':=⟨h.toBelow.mono hb,h.dr⟩
theorem aAp.alloc{B:Nat}{a w:World}(h:aAp B a w)(hb:B≤w.heap.size)(o:Obj):aAp B a (w.alloc o):=⟨h.toBelow.alloc hb o,h.dr⟩
theorem aAp.drew{B:Nat}{a w:World}(h:aAp B a w):aAp B a w.drew:=⟨h.toBelow.drew,Nat.le_trans h.dr (Nat.le_succ _)⟩
theorem aAp.setCell{B:Nat}{a w:World}(h:aAp B a w){p:Addr}(hp:B≤p.block)(u:Value):aAp B a (w.setCell p u):=⟨h.toBelow.setCell hp u,h.dr⟩
theorem aAp.grown{w w':World}(h:aAp w.heap.size w w'):∃q os',w'=Go.Sort.grow (w.drewN q) os':=by
 refine⟨w'.drawn - w.drawn,w'.heap.extract w.heap.size w'.heap.size,?_⟩;have hd:=h.dr
 have hh:w'.heap=w.heap++w'.heap.extract w.heap.size w'.heap.size:=by
  apply Array.ext_getElem?;intro i
  by_cases hi:i<w.heap.size
  ·rw[h.block i hi,Array.getElem?_append_left hi]
  rw[Array.getElem?_append_right (by omega),Array.getElem?_extract]
  by_cases hi2:i<w'.heap.size
  ·rw[if_pos (by simp;omega)];congr 1;omega
  rw[if_neg (by simp;omega),Array.getElem?_eq_none (by omega)]
 obtain⟨h0,h1,h2,h3,h4⟩:=w';obtain⟨g0,g1,g2,g3,g4⟩:=w;have e1:=h.os;have e2:=h.tape;have e3:=h.output;simp only at hh e1 e2 e3 hd;subst e1 e2 e3;simp only[Go.Sort.grow,World.drewN];rw[←hh];congr 1;omega
theorem aPn(a b:Int)(w:World)(ha:In64 a)(hb:In64 b)(h1:1≤a)(h2:1≤b):
  Calls Tryz.prog 258 #[.int .i64 a,.int .i64 b] w fun e w'=>e=.returned (.int .i64 (Int.gcd a b))∧aAp w.heap.size w w':=by
 have HB:=yH hb;clear ha hb;go_enter Tryz.func258,Tryz.ntmps258;go_wp2;refine wp_scope_jumps 0 (fun a' w'=>aAp w.heap.size w w'∧∃(x y:Int) (u2 u3 u4 u5 u6 u7 u8 u9 u10 u11:Value),a'={ tmps:=#[.int .i64 x,.int .i64 y,u2,u3,u4,u5,u6,u7,u8,u9,u10,u11],defers:=[] }∧1≤x∧0≤y∧x≤9223372036854775807∧y≤9223372036854775807∧Int.gcd x y=Int.gcd a b) (fun a' _=>(intOf (a'.tmps.getD 1 undef)).toNat) rfl ?_ ?_
 ·by_cases hb:b=0
  ·omega
  have hnb:(b==0)=false:=by simp;omega
  have HG:=yH (aO8 a b);have HLT:=yH (Int.emod_lt_of_pos a (show 0<b by omega));have HGE:=yH (Int.emod_nonneg a hb);go_wp2
  go_step3
  go_wp2
  go_region
  all_goals
   go_wp2
   go_step3
   exact⟨rfl,(aAp.refl _ _).drew,b,_,_,_,_,_,_,_,_,_,_,_,rfl,h2,HGE.out,HB.out.2,by have:=HLT.out;have:=HB.out.2;omega,HG.out⟩
 rintro a' w' ⟨bel,x,y,u2,u3,u4,u5,u6,u7,u8,u9,u10,u11,rfl,hx,hy,hx2,hy2,hg⟩;have HG:=yH hg;clear hg
 by_cases hb:y=0
 ·subst hb;have e:((Int.gcd x 0:Nat):Int)=x:=by rw[Int.gcd_zero_right];omega
  go_wp2;simp only[Exit.jump];go_ret;exact⟨by rw[←HG.out,e];rfl,bel⟩
 have hnb:(y==0)=false:=by simp;omega
 have HS:=yH (aO8 x y);have HLT:=yH (Int.emod_lt_of_pos x (show 0<y by omega));have HGE:=yH (Int.emod_nonneg x hb);go_wp2
 go_region
 all_goals
  go_wp2
  go_step3
  refine⟨rfl,⟨bel.drew,y,_,_,_,_,_,_,_,_,_,_,_,rfl,by omega,HGE.out,hy2,by have:=HLT.out;omega,by rw[HS.out];exact HG.out⟩,?_⟩;have:=HLT.out;have:=HGE.out;simp[intOf];omega
theorem of_arg_d(n d:Int)(w:World)(h:n<1∨d<1):
  Calls Tryz.prog 223 #[.int .i64 n,.int .i64 d] w fun e w'=>e=.returned (ofV n d)∧aAp w.heap.size w w':=by
 rw[ofV_arg h];have hs:n<1∨(1≤n∧d<1):=by omega
 clear h;rcases hs with h1|⟨h1,h2⟩
 all_goals
  go_enter Tryz.func223,Tryz.ntmps223;go_wp2;refine bodyPost_ret (v:=.tuple #[.agg #[.int .i64 0,.int .i64 0],.int .i64 1]) (aAh rfl _ _ w.heap.size 73 #[.int .i64 0,.int .i64 0] _ _ rfl (Blk.new w #[.int .i64 0,.int .i64 0] 73).out Tryz.underlying73 rfl (by kernel_rfl) rfl) rfl ⟨rfl,?_⟩;exact((aAp.refl _ _).alloc yL _)
theorem of_two_d(n d g x y:Int)(w:World)(h1:1≤n)(h2:1≤d)(hn:In64 n)(hd:In64 d)(hg:(Int.gcd n d:Int)=g)(hx:n/g=x)(hy:d/g=y)(hx0:0≤x)(hy0:0≤y)(hxn:x≤n)(hyd:y≤d)(hg0:1≤g):
  Calls Tryz.prog 223 #[.int .i64 n,.int .i64 d] w fun e w'=>e=.returned (if 1099511627776<x∨1099511627776<y then .tuple #[.agg #[.int .i64 0,.int .i64 0],.int .i64 10]else .tuple #[.agg #[.int .i64 x,.int .i64 y],.int .i64 0])∧aAp w.heap.size w w':=by
 have c:=yH (fun w=>aPn n d w hn hd h1 h2);rw[hg]at c;have e1:Int.tdiv n g=x:=by rw[←hx];exact Int.tdiv_eq_ediv_of_nonneg (by omega)
 have e2:Int.tdiv d g=y:=by rw[←hy];exact Int.tdiv_eq_ediv_of_nonneg (by omega)
 have ew1:wrap64 x=x:=aDh x ⟨by omega,by have:=hn.2;omega⟩;have ew2:wrap64 y=y:=aDh y ⟨by omega,by have:=hd.2;omega⟩;have q2:Blk (w.alloc (.cells #[.int .i64 0,.int .i64 0] 73)) w.heap.size #[.int .i64 0,.int .i64 0] 73:=Blk.new _ _ _;have b0:aAp w.heap.size w (w.alloc (.cells #[.int .i64 0,.int .i64 0] 73)):=(aAp.refl _ _).alloc yL _;have Q2:=yH q2;have B0:=yH b0;have hs:1099511627776<x∨(x≤1099511627776∧1099511627776<y)∨(x≤1099511627776∧y≤1099511627776):=by omega
 clear q2 b0 hn hd;rcases hs with o1|⟨o1,o2⟩|⟨o1,o2⟩
 ·rw[if_pos (.inl o1)];go_enter Tryz.func223,Tryz.ntmps223;go_wp2_with fail;refine(c.out _).mono ?_;rintro e w1 ⟨rfl,bw⟩;have k1:=Q2.out.below bw.toBelow Q2.out.lt;have B1:=yH (B0.out.trans (bw.mono (by simp)));have d0:=k1.cell 0;have d1:=k1.cell 1;simp at d0 d1;have f1:=k1.frozen;have hz:=k1.lt;have K1:=yH k1;clear k1 bw;go_wp2
  go_region
  all_goals
   go_wp2;refine bodyPost_ret (v:=.tuple #[.agg #[.int .i64 0,.int .i64 0],.int .i64 10]) (aAh rfl _ _ w.heap.size 73 #[.int .i64 0,.int .i64 0] _ _ rfl (Blk.drew (((K1.out.set 0 (.int .i64 0)).set 1 (.int .i64 0)).alloc _)).out Tryz.underlying73 rfl (by kernel_rfl) rfl) rfl ⟨rfl,?_⟩
   first
   | exact((((B1.out.alloc B1.out.size _).drew).setCell yL _).setCell yL _)
   | exact((((B1.out.setCell yL _).setCell yL _).alloc (by simpa using B1.out.size) _).drew)
 ·rw[if_pos (.inr o2)];go_enter Tryz.func223,Tryz.ntmps223;go_wp2_with fail;refine(c.out _).mono ?_;rintro e w1 ⟨rfl,bw⟩;have k1:=Q2.out.below bw.toBelow Q2.out.lt;have B1:=yH (B0.out.trans (bw.mono (by simp)));have d0:=k1.cell 0;have d1:=k1.cell 1;simp at d0 d1;have f1:=k1.frozen;have hz:=k1.lt;have K1:=yH k1;clear k1 bw;go_wp2
  go_region
  all_goals
   go_wp2;refine bodyPost_ret (v:=.tuple #[.agg #[.int .i64 0,.int .i64 0],.int .i64 10]) (aAh rfl _ _ w.heap.size 73 #[.int .i64 0,.int .i64 0] _ _ rfl (Blk.drew (((K1.out.set 0 (.int .i64 0)).set 1 (.int .i64 0)).alloc _)).out Tryz.underlying73 rfl (by kernel_rfl) rfl) rfl ⟨rfl,?_⟩
   first
   | exact((((B1.out.alloc B1.out.size _).drew).setCell yL _).setCell yL _)
   | exact((((B1.out.setCell yL _).setCell yL _).alloc (by simpa using B1.out.size) _).drew)
 rw[if_neg (by omega)];go_enter Tryz.func223,Tryz.ntmps223;go_wp2_with fail;refine(c.out _).mono ?_;rintro e w1 ⟨rfl,bw⟩;have k1:=Q2.out.below bw.toBelow Q2.out.lt;have B1:=yH (B0.out.trans (bw.mono (by simp)));have d0:=k1.cell 0;have d1:=k1.cell 1;simp at d0 d1;have f1:=k1.frozen;have hz:=k1.lt;have K1:=yH k1;clear k1 bw;go_wp2
 go_region
 all_goals
  go_wp2;refine bodyPost_ret (v:=.tuple #[.agg #[.int .i64 x,.int .i64 y],.int .i64 0]) (aAh rfl _ _ w.heap.size 73 #[.int .i64 x,.int .i64 y] _ _ rfl (Blk.drew (((K1.out.set 0 (.int .i64 x)).set 1 (.int .i64 y)).alloc _)).out Tryz.underlying73 rfl (by kernel_rfl) rfl) rfl ⟨rfl,?_⟩
  first
  | exact((((B1.out.alloc B1.out.size _).drew).setCell yL _).setCell yL _)
  | exact((((B1.out.setCell yL _).setCell yL _).alloc (by simpa using B1.out.size) _).drew)
theorem of_rat_d(n d:Int)(w:World)(hn:In64 n)(hd:In64 d):
  Calls Tryz.prog 223 #[.int .i64 n,.int .i64 d] w fun e w'=>e=.returned (ofV n d)∧aAp w.heap.size w w':=by
 by_cases h:n<1∨d<1
 ·exact of_arg_d n d w h
 obtain⟨g0,x0,xn,y0,yd⟩:=gcd_bd (n:=n) (d:=d) (by omega) (by omega);have:=of_two_d n d _ _ _ w (by omega) (by omega) hn hd rfl rfl rfl x0 y0 xn yd g0;refine this.mono fun e w' ⟨he,hb⟩=>⟨?_,hb⟩
 rw[he]
 by_cases ho:1099511627776<n/Int.gcd n d∨1099511627776<d/Int.gcd n d
 ·rw[if_pos ho,ofV_over (by omega) (by omega) rfl ho]
 rw[if_neg ho,ofV_good (by omega) (by omega) rfl ho]
theorem aPo(n d:Int)(w:World)(hn:In64 n)(hd:In64 d):
  Calls Tryz.prog 190 #[.agg #[.int .i64 n,.int .i64 d]] w fun e w'=>e=.returned (.agg #[.int .i64 (alN n d),.int .i64 (alD n d)])∧aAp w.heap.size w w':=by
 have c:=yH (fun w=>of_rat_d n d w hn hd);unfold ofV at c
 have hs:(ofRN n d=n∧ofD n d=d∧alN n d=n∧alD n d=d)∨(ofRN n d≠n∧alN n d=0∧alD n d=0)∨(ofRN n d=n∧ofD n d≠d∧alN n d=0∧alD n d=0):=by
  unfold alN alD
  by_cases hm:MayN n d
  ·rw[(aIh n d).2 hm];obtain⟨a,b⟩:=of_self hm;exact .inl ⟨a,b,rfl,rfl⟩
  have e:mayB n d=false:=by rw[Bool.eq_false_iff];exact fun h=>hm ((aIh n d).1 h)
  rw[e];rcases of_not hm with⟨a,b,rfl,rfl⟩|h|h
  ·exact .inl ⟨a,b,rfl,rfl⟩
  ·exact .inr (.inl ⟨h,rfl,rfl⟩)
  by_cases h':ofRN n d=n
  ·exact .inr (.inr ⟨h',h,rfl,rfl⟩)
  exact .inr (.inl ⟨h',rfl,rfl⟩)
 generalize ofRN n d=x at *;generalize ofD n d=y at *;generalize ofE n d=z at *;have k1:Blk ((w.alloc (.cells #[.int .i64 n,.int .i64 d] 73)).alloc (.cells #[.int .i64 0,.int .i64 0] 73)) w.heap.size #[.int .i64 n,.int .i64 d] 73:=(Blk.new _ _ _).alloc _;have k2:Blk ((w.alloc (.cells #[.int .i64 n,.int .i64 d] 73)).alloc (.cells #[.int .i64 0,.int .i64 0] 73)) (w.heap.size+1) #[.int .i64 0,.int .i64 0] 73:=pAB _ _ _ (by simp);have b0:aAp w.heap.size w ((w.alloc (.cells #[.int .i64 n,.int .i64 d] 73)).alloc (.cells #[.int .i64 0,.int .i64 0] 73)):=((aAp.refl _ _).alloc yL _).alloc (by simp) _;have K1:=yH k1;have K2:=yH k2;have B0:=yH b0;clear k1 k2 b0 hn hd;rcases hs with⟨e1,e2,e3,e4⟩|⟨e1,e3,e4⟩|⟨e1,e2,e3,e4⟩
 ·rw[e3,e4];subst e1 e2;clear e3 e4;go_enter Tryz.func190,Tryz.ntmps190;go_wp2_with fail;refine(c.out _).mono ?_;rintro e w1 ⟨rfl,bw⟩;have q1:=K1.out.below bw.toBelow K1.out.lt;have q2:=K2.out.below bw.toBelow K2.out.lt;have B1:=yH (B0.out.trans (bw.mono (by simp;omega)));have d0:=q1.cell 0;have d1:=q1.cell 1;have e0:=q2.cell 0;have e1:=q2.cell 1;simp at d0 d1 e0 e1;have f2:=q2.frozen;have hz:=q1.lt;have hz2:=q2.lt;have Q2:=yH q2;clear q1 q2 bw;go_wp2;refine bodyPost_ret (v:=.agg #[.int .i64 x,.int .i64 y]) (results_cell_row rfl _ _ (w.heap.size+1) 73 #[.int .i64 x,.int .i64 y] (0,0) _ rfl (((Q2.out.set 0 (.int .i64 x)).set 1 (.int .i64 y)).alloc _).out Tryz.underlying73 rfl (by kernel_rfl)) rfl ⟨by simp,?_⟩;exact(((B1.out.setCell (by simp) _).setCell (by simp) _).alloc (by simpa using B1.out.size) _)
 ·rw[e3,e4];have e5:(x==n)=false:=by simp[e1]
  clear e1 e3 e4;go_enter Tryz.func190,Tryz.ntmps190;go_wp2_with fail;refine(c.out _).mono ?_;rintro e w1 ⟨rfl,bw⟩;have q1:=K1.out.below bw.toBelow K1.out.lt;have q2:=K2.out.below bw.toBelow K2.out.lt;have B1:=yH (B0.out.trans (bw.mono (by simp;omega)));have d0:=q1.cell 0;have d1:=q1.cell 1;have e0:=q2.cell 0;have e1:=q2.cell 1;simp at d0 d1 e0 e1;have f2:=q2.frozen;have hz:=q1.lt;have hz2:=q2.lt;have Q2:=yH q2;clear q1 q2 bw;go_wp2;refine bodyPost_ret (v:=.agg #[.int .i64 0,.int .i64 0]) (results_cell_row rfl _ _ (w.heap.size+1) 73 #[.int .i64 0,.int .i64 0] (0,0) _ rfl (((Q2.out.set 0 (.int .i64 0)).set 1 (.int .i64 0)).alloc _).out Tryz.underlying73 rfl (by kernel_rfl)) rfl ⟨by simp,?_⟩;exact(((B1.out.setCell (by simp) _).setCell (by simp) _).alloc (by simpa using B1.out.size) _)
 rw[e3,e4];subst e1;have e5:(y==d)=false:=by simp[e2]
 clear e2 e3 e4;go_enter Tryz.func190,Tryz.ntmps190;go_wp2_with fail;refine(c.out _).mono ?_;rintro e w1 ⟨rfl,bw⟩;have q1:=K1.out.below bw.toBelow K1.out.lt;have q2:=K2.out.below bw.toBelow K2.out.lt;have B1:=yH (B0.out.trans (bw.mono (by simp;omega)));have d0:=q1.cell 0;have d1:=q1.cell 1;have e0:=q2.cell 0;have e1:=q2.cell 1;simp at d0 d1 e0 e1;have f2:=q2.frozen;have hz:=q1.lt;have hz2:=q2.lt;have Q2:=yH q2;clear q1 q2 bw;go_wp2;refine bodyPost_ret (v:=.agg #[.int .i64 0,.int .i64 0]) (results_cell_row rfl _ _ (w.heap.size+1) 73 #[.int .i64 0,.int .i64 0] (0,0) _ rfl (((Q2.out.set 0 (.int .i64 0)).set 1 (.int .i64 0)).alloc _).out Tryz.underlying73 rfl (by kernel_rfl)) rfl ⟨by simp,?_⟩;exact(((B1.out.setCell (by simp) _).setCell (by simp) _).alloc (by simpa using B1.out.size) _)
theorem aRk(n d:Int)(w:World)(hn:In64 n)(hd:In64 d):
  Calls Tryz.prog 148 #[.agg #[.int .i64 n,.int .i64 d]] w fun e w'=>e=.returned (.bool (mayB n d))∧aAp w.heap.size w w':=by
 have c:=yH (fun w=>aPo n d w hn hd);have B0:=yH ((aAp.refl w.heap.size w).alloc yL (.cells #[.int .i64 n,.int .i64 d] 73));clear hn hd;rcases aO9 n d with⟨hm,h1,h2,h3,h4,h5,h6⟩|⟨hm,h1,h2⟩
 ·rw[h1,h2]at c;rw[hm];have e1:(n==0)=false:=by simp;omega
  clear h1 h2 h4 h5 h6 h3;go_enter Tryz.func148,Tryz.ntmps148;go_wp2_with fail;refine(c.out _).mono ?_;rintro e w1 ⟨rfl,b1⟩;go_wp2_with fail;go_ret;exact⟨rfl,B0.out.trans (b1.mono (by simp))⟩
 rw[h1,h2]at c;rw[hm];clear h1 h2;go_enter Tryz.func148,Tryz.ntmps148;go_wp2_with fail;refine(c.out _).mono ?_;rintro e w1 ⟨rfl,b1⟩;go_wp2_with fail;go_ret;exact⟨rfl,B0.out.trans (b1.mono (by simp))⟩
theorem aPp(an ad bn bd:Int)(w:World)(h1:In64 an)(h2:In64 ad)(h3:In64 bn)(h4:In64 bd):
  Calls Tryz.prog 306 #[.agg #[.int .i64 an,.int .i64 ad],.agg #[.int .i64 bn,.int .i64 bd]] w fun e w'=>e=.returned (.int .i64 (cmpR an ad bn bd))∧aAp w.heap.size w w':=by
 have c1:=yH (fun w=>aRk an ad w h1 h2);have c2:=yH (fun w=>aRk bn bd w h3 h4);have k1:Blk ((w.alloc (.cells #[.int .i64 an,.int .i64 ad] 73)).alloc (.cells #[.int .i64 bn,.int .i64 bd] 73)) w.heap.size #[.int .i64 an,.int .i64 ad] 73:=(Blk.new _ _ _).alloc _;have k2:Blk ((w.alloc (.cells #[.int .i64 an,.int .i64 ad] 73)).alloc (.cells #[.int .i64 bn,.int .i64 bd] 73)) (w.heap.size+1) #[.int .i64 bn,.int .i64 bd] 73:=pAB _ _ _ (by simp);have b0:aAp w.heap.size w ((w.alloc (.cells #[.int .i64 an,.int .i64 ad] 73)).alloc (.cells #[.int .i64 bn,.int .i64 bd] 73)):=((aAp.refl _ _).alloc yL _).alloc (by simp) _;have K1:=yH k1;have K2:=yH k2;have B0:=yH b0;clear k1 k2 b0 h1 h2 h3 h4
 by_cases hm:mayB an ad=true
 ·by_cases hm2:mayB bn bd=true
  ·rw[show cmpR an ad bn bd=cmpI (an*bd) (bn*ad) by unfold cmpR;rw[if_pos ⟨hm,hm2⟩],←aQn];obtain⟨p1,p2,p3,p4,_⟩:=aE0 hm;obtain⟨q1,q2,q3,q4,_⟩:=aE0 hm2;rw[hm]at c1;rw[hm2]at c2;have u1:IntKind.u64.wrap an=an:=aKh _ ⟨by omega,by omega⟩;have u2:IntKind.u64.wrap ad=ad:=aKh _ ⟨by omega,by omega⟩;have u3:IntKind.u64.wrap bn=bn:=aKh _ ⟨by omega,by omega⟩;have u4:IntKind.u64.wrap bd=bd:=aKh _ ⟨by omega,by omega⟩;have cm1:=yH (fun w=>aG1 an bd w ⟨by omega,by omega⟩ ⟨by omega,by omega⟩);have cm2:=yH (fun w=>aG1 bn ad w ⟨by omega,by omega⟩ ⟨by omega,by omega⟩);have cc:=yH aIi;generalize an*bd=x at *;generalize bn*ad=y at *;clear hm hm2 p1 p2 p3 p4 q1 q2 q3 q4;go_enter Tryz.func306,Tryz.ntmps306;go_wp2_with fail;refine(c1.out _).mono ?_;rintro e w1 ⟨rfl,b1⟩;have B1:=yH (B0.out.trans (b1.mono (by simp;omega)));have r1:=K1.out.below b1.toBelow K1.out.lt;have r2:=K2.out.below b1.toBelow K2.out.lt;have d0:=r1.cell 0;have d1:=r1.cell 1;have e0:=r2.cell 0;have e1:=r2.cell 1;simp at d0 d1 e0 e1;have R1:=yH r1;have R2:=yH r2;clear r1 r2 b1;go_wp2_with fail;refine(c2.out _).mono ?_;rintro e w2 ⟨rfl,b2⟩;have B2:=yH (B1.out.trans (b2.mono B1.out.size));have r1:=R1.out.below b2.toBelow R1.out.lt;have r2:=R2.out.below b2.toBelow R2.out.lt;clear d0 d1 e0 e1;have d0:=r1.cell 0;have d1:=r1.cell 1;have e0:=r2.cell 0;have e1:=r2.cell 1;simp at d0 d1 e0 e1;clear r1 r2 b2;go_wp2_with fail;refine(cm1.out _).mono ?_;rintro e w2 ⟨rfl,rfl⟩;go_wp2_with fail;refine(cm2.out _).mono ?_;rintro e w2 ⟨rfl,rfl⟩;go_wp2_with fail;refine(cc.out _ _ _).mono ?_;rintro e w2 ⟨rfl,rfl⟩;go_wp2_with fail;refine(cc.out _ _ _).mono ?_;rintro e w2 ⟨rfl,rfl⟩;go_wp2_with fail;refine(or_two w2.heap.size _ (cmpI (x/18446744073709551616) (y/18446744073709551616)) (cmpI (x%18446744073709551616) (y%18446744073709551616)) _ (by simp) (by simp) (by simp)).mono ?_;rintro e w2 ⟨rfl,rfl⟩;go_wp2_with fail;go_ret;exact⟨rfl,B2.out.alloc B2.out.size _⟩
  rw[show cmpR an ad bn bd=0 by unfold cmpR;rw[if_neg (by simp[hm2])]];simp only[Bool.not_eq_true]at hm2;rw[hm]at c1;rw[hm2]at c2;clear hm hm2;go_enter Tryz.func306,Tryz.ntmps306;go_wp2_with fail;refine(c1.out _).mono ?_;rintro e w1 ⟨rfl,b1⟩;have B1:=yH (B0.out.trans (b1.mono (by simp;omega)));have r2:=K2.out.below b1.toBelow K2.out.lt;have e0:=r2.cell 0;have e1:=r2.cell 1;simp at e0 e1;clear r2 b1;go_wp2_with fail;refine(c2.out _).mono ?_;rintro e w2 ⟨rfl,b2⟩;go_wp2_with fail;go_ret;exact⟨rfl,B1.out.trans (b2.mono B1.out.size)⟩
 rw[show cmpR an ad bn bd=0 by unfold cmpR;rw[if_neg (by simp[hm])]];simp only[Bool.not_eq_true]at hm;rw[hm]at c1;clear hm;go_enter Tryz.func306,Tryz.ntmps306;go_wp2_with fail;refine(c1.out _).mono ?_;rintro e w1 ⟨rfl,b1⟩;go_wp2_with fail;go_ret;exact⟨rfl,B0.out.trans (b1.mono (by simp;omega))⟩
end Go.Proofs.YtngnfdnfpiiclaaGreat
namespace Go.Proofs.YtngnfdnfpiiclaaGreat
open Go.RowKit Go.Shelf Go.Sort Go.Lib
def OrdI(W:World)(p q:Int)(g:Nat)(D:Nat→Bool)(w:World):Prop:=aAp W.heap.size W w∧(D 10=true→W.heap.size≤g∧Blk w g #[.int .i64 p,.int .i64 q] 3)
theorem OrdI.step{W w w':World}{p q:Int}{g:Nat}{D:Nat→Bool}{k:Nat}(h:OrdI W p q g D w)(hb:aAp w.heap.size w w')(hk:k≠10):OrdI W p q g (ins k D) w':=by
 have e:¬10=k:=fun e=>hk e.symm
 refine⟨h.1.trans (hb.mono h.1.size),fun d=>?_⟩;simp[ins,e]at d;exact⟨(h.2 d).1,(h.2 d).2.below hb.toBelow (h.2 d).2.lt⟩
theorem porder_any(x y:Of)(w:World)(hx:x.Fits)(hy:y.Fits):Calls Tryz.prog 296 #[.agg #[.int .u64 x.se,.int .u8 x.ow,.int .u8 x.sl,.int .u8 x.bu,.int .i64 x.lf,.int .i64 x.nu,.int .i64 x.de],.agg #[.int .u64 y.se,.int .u8 y.ow,.int .u8 y.sl,.int .u8 y.bu,.int .i64 y.lf,.int .i64 y.nu,.int .i64 y.de]] w fun e w'=>e=.returned (.int .i64 (ordO x y))∧aAp w.heap.size w w':=by
 unfold ordO;have c1:=yH (fun w=>aPp x.nu x.de y.nu y.de w hx.nu hx.de hy.nu hy.de);have c2:=yH (fun w=>aIi x.se y.se w);clear hx hy;generalize cmpR x.nu x.de y.nu y.de=p at *;generalize cmpI x.se y.se=q at *;go_enter Tryz.func296,Tryz.ntmps296;go_wp2_with fail;have KX:=yH ((Blk.new w #[.int .u64 x.se,.int .u8 x.ow,.int .u8 x.sl,.int .u8 x.bu,.int .i64 x.lf,.int .i64 x.nu,.int .i64 x.de] 197).alloc (.cells #[.int .u64 y.se,.int .u8 y.ow,.int .u8 y.sl,.int .u8 y.bu,.int .i64 y.lf,.int .i64 y.nu,.int .i64 y.de] 197));have KY:=yH (pAB (w.alloc (.cells #[.int .u64 x.se,.int .u8 x.ow,.int .u8 x.sl,.int .u8 x.bu,.int .i64 x.lf,.int .i64 x.nu,.int .i64 x.de] 197)) #[.int .u64 y.se,.int .u8 y.ow,.int .u8 y.sl,.int .u8 y.bu,.int .i64 y.lf,.int .i64 y.nu,.int .i64 y.de] 197 (g:=w.heap.size+1) (by simp));have B0:=yH (((aAp.refl w.heap.size w).alloc yL (.cells #[.int .u64 x.se,.int .u8 x.ow,.int .u8 x.sl,.int .u8 x.bu,.int .i64 x.lf,.int .i64 x.nu,.int .i64 x.de] 197)).alloc (by simp) (.cells #[.int .u64 y.se,.int .u8 y.ow,.int .u8 y.sl,.int .u8 y.bu,.int .i64 y.lf,.int .i64 y.nu,.int .i64 y.de] 197));generalize ((w.alloc (.cells #[.int .u64 x.se,.int .u8 x.ow,.int .u8 x.sl,.int .u8 x.bu,.int .i64 x.lf,.int .i64 x.nu,.int .i64 x.de] 197)).alloc (.cells #[.int .u64 y.se,.int .u8 y.ow,.int .u8 y.sl,.int .u8 y.bu,.int .i64 y.lf,.int .i64 y.nu,.int .i64 y.de] 197))=W at KX KY B0 ⊢
 refine aA5 (by kernel_rfl) (fun g:Nat=>[(.pointer (some ⟨w.heap.size,5,none⟩)),(.agg #[.int .i64 x.nu,.int .i64 x.de]),(.pointer (some ⟨w.heap.size+1,5,none⟩)),(.agg #[.int .i64 y.nu,.int .i64 y.de]),(.int .i64 p),(.pointer (some ⟨w.heap.size,0,none⟩)),(.int .u64 x.se),(.pointer (some ⟨w.heap.size+1,0,none⟩)),(.int .u64 y.se),(.int .i64 q),(.slice (some ⟨g,0,none⟩) 2 2),(.int .i64 (orI p q)),(.int .i64 (orI p q))])
  (OrdI W p q) (by kernel_rfl) 0 ⟨(aAp.refl _ _).drew,by simp⟩ ?_
 intro AF hAF;simp only[yG,puts,Act.put,yA,yC,yF,yD,yE]at hAF;have hAF2:_=AF:=funext hAF;subst hAF2;clear hAF;refine⟨?_,?_⟩
 ·simp only[yG,aFm];refine⟨?_,?_,?_,?_,?_,?_,?_,?_,?_,?_,?_,?_,?_,trivial⟩
  ·intro g D w' hD hW hC hI;refine⟨g,fun _ _ _=>rfl,?_⟩;with_reducible refine yO rfl ?_
   have HS:=yH (hI.step (aAp.refl _ _) (k:=0) (by decide));clear hI hC hW hD;go_wp2_with fail;all_goals first|exact HS|exact⟨rfl,HS⟩|rfl
  ·intro g D w' hD hW hC hI;refine⟨g,fun _ _ _=>rfl,?_⟩;with_reducible refine yO rfl ?_
   have HS:=yH (hI.step (aAp.refl _ _) (k:=1) (by decide));have hB:=hI.1.toBelow;have kk:=KX.out.below hB KX.out.lt;have d0:=kk.cell 0;have d5:=kk.cell 5;have d6:=kk.cell 6;simp at d0 d5 d6;clear kk;clear hI hC hW hD hB;go_wp2_with fail;all_goals first|exact HS|exact⟨rfl,HS⟩|rfl
  ·intro g D w' hD hW hC hI;refine⟨g,fun _ _ _=>rfl,?_⟩;with_reducible refine yO rfl ?_
   have HS:=yH (hI.step (aAp.refl _ _) (k:=2) (by decide));clear hI hC hW hD;go_wp2_with fail;all_goals first|exact HS|exact⟨rfl,HS⟩|rfl
  ·intro g D w' hD hW hC hI;refine⟨g,fun _ _ _=>rfl,?_⟩;with_reducible refine yO rfl ?_
   have HS:=yH (hI.step (aAp.refl _ _) (k:=3) (by decide));have hB:=hI.1.toBelow;have kk:=KY.out.below hB KY.out.lt;have d0:=kk.cell 0;have d5:=kk.cell 5;have d6:=kk.cell 6;simp at d0 d5 d6;clear kk;clear hI hC hW hD hB;go_wp2_with fail;all_goals first|exact HS|exact⟨rfl,HS⟩|rfl
  ·intro g D w' hD hW hC hI;refine⟨g,fun _ _ _=>rfl,?_⟩;with_reducible refine yO rfl ?_
   have HI:=yH hI;clear hI hC hW hD;go_wp2_with fail;refine(c1.out w').mono ?_;rintro e w'' ⟨rfl,hb⟩;exact⟨rfl,HI.out.step hb (by decide)⟩
  ·intro g D w' hD hW hC hI;refine⟨g,fun _ _ _=>rfl,?_⟩;with_reducible refine yO rfl ?_
   have HS:=yH (hI.step (aAp.refl _ _) (k:=5) (by decide));clear hI hC hW hD;go_wp2_with fail;all_goals first|exact HS|exact⟨rfl,HS⟩|rfl
  ·intro g D w' hD hW hC hI;refine⟨g,fun _ _ _=>rfl,?_⟩;with_reducible refine yO rfl ?_
   have HS:=yH (hI.step (aAp.refl _ _) (k:=6) (by decide));have hB:=hI.1.toBelow;have kk:=KX.out.below hB KX.out.lt;have d0:=kk.cell 0;have d5:=kk.cell 5;have d6:=kk.cell 6;simp at d0 d5 d6;clear kk;clear hI hC hW hD hB;go_wp2_with fail;all_goals first|exact HS|exact⟨rfl,HS⟩|rfl
  ·intro g D w' hD hW hC hI;refine⟨g,fun _ _ _=>rfl,?_⟩;with_reducible refine yO rfl ?_
   have HS:=yH (hI.step (aAp.refl _ _) (k:=7) (by decide));clear hI hC hW hD;go_wp2_with fail;all_goals first|exact HS|exact⟨rfl,HS⟩|rfl
  ·intro g D w' hD hW hC hI;refine⟨g,fun _ _ _=>rfl,?_⟩;with_reducible refine yO rfl ?_
   have HS:=yH (hI.step (aAp.refl _ _) (k:=8) (by decide));have hB:=hI.1.toBelow;have kk:=KY.out.below hB KY.out.lt;have d0:=kk.cell 0;have d5:=kk.cell 5;have d6:=kk.cell 6;simp at d0 d5 d6;clear kk;clear hI hC hW hD hB;go_wp2_with fail;all_goals first|exact HS|exact⟨rfl,HS⟩|rfl
  ·intro g D w' hD hW hC hI;refine⟨g,fun _ _ _=>rfl,?_⟩;with_reducible refine yO rfl ?_
   have HI:=yH hI;clear hI hC hW hD;go_wp2_with fail;refine(c2.out w').mono ?_;rintro e w'' ⟨rfl,rfl⟩;exact⟨rfl,HI.out.step (aAp.refl _ _) (by decide)⟩
  ·intro g D w' hD hW hC hI;have hN:D 11=false:=aAd hC hD 11 (by kernel_rfl);have hN2:D 12=false:=aAd hC hD 12 (by kernel_rfl);refine⟨w'.heap.size,?_,?_⟩
   ·intro j hj hDj
    match j,hj,hDj with
    | 0,_,_=>rfl
    | 1,_,_=>rfl
    | 2,_,_=>rfl
    | 3,_,_=>rfl
    | 4,_,_=>rfl
    | 5,_,_=>rfl
    | 6,_,_=>rfl
    | 7,_,_=>rfl
    | 8,_,_=>rfl
    | 9,_,_=>rfl
    | 10,_,h=>simp_all
    | 11,_,h=>simp_all
    | 12,_,h=>simp_all
    | j+13,_,_=>rfl
   with_reducible refine yO rfl ?_
   have HS:Hid (OrdI W p q w'.heap.size (ins 10 D) (w'.alloc (.cells #[.int .i64 p,.int .i64 q] 3))):=yH ⟨hI.1.alloc hI.1.size _,fun _=>⟨hI.1.size,Blk.new _ _ _⟩⟩;clear hI hC hW hD hN hN2;go_wp2_with fail;all_goals first|exact HS|exact⟨rfl,HS⟩|rfl
  ·intro g D w' hD hW hC hI;refine⟨g,fun _ _ _=>rfl,?_⟩;with_reducible refine yO rfl ?_
   have hP:D 10=true:=aA1 hC hW (by kernel_rfl);have KB:=(hI.2 hP).2;have HO:=yH (or_two g 2 p q w' KB.lt (KB.cell 0) (KB.cell 1));have HI:=yH hI;clear hI hC hW hD KB hP;go_wp2_with fail;refine HO.out.mono ?_;rintro e w'' ⟨rfl,rfl⟩;exact⟨rfl,HI.out.step (aAp.refl _ _) (by decide)⟩
  intro g D w' hD hW hC hI;refine⟨g,fun _ _ _=>rfl,?_⟩;with_reducible refine yO rfl ?_
  have HS:=yH (hI.step (aAp.refl _ _) (k:=12) (by decide));clear hI hC hW hD;go_wp2_with fail;all_goals first|exact HS|exact⟨rfl,HS⟩|rfl
 intro g D w2 hall hI;have HE:=yH (B0.out.trans (hI.1.mono B0.out.size));clear hI hall;dsimp only;go_wp2_with fail;go_ret;exact⟨rfl,HE.out⟩
def aKg:={ x:Of // x.may∧0≤x.se∧x.se≤18446744073709551615 }
instance:Inhabited aKg:=⟨⟨⟨1,1,1,2,1,1,1⟩,by decide⟩⟩
def pAN(x:aKg):List Value:=x.1.vals
def ordG(x y:aKg):Int:=ordO x.1 y.1
theorem ordG_lt(x y:aKg):ltOf ordG x y=true↔ltO x.1 y.1:=by unfold ltOf ordG;rw[decide_eq_true_eq];exact ordO_lt x.2.1 y.2.1
theorem aPq(x y:aKg):ltOf ordG x y=false↔¬ltO x.1 y.1:=by rw[←ordG_lt];simp
theorem swoO:SWO (ltOf ordG) where
 irrefl x:=by rw[aPq];exact ltO_irrefl x.1
 trans x y z h1 h2:=by rw[ordG_lt]at *;exact aQt x.2.1 y.2.1 z.2.1 h1 h2
 ntrans x y z h1 h2:=by rw[aPq]at *;exact ltO_ntrans x.2.1 y.2.1 z.2.1 h1 h2
theorem aRl(ls:List aKg){j:Nat}(h:j<ls.length*7):(flatK pAN 7 ls.toArray)[j]! = (aAb (ls.map (·.1)))[j]'(by rw[aAs,List.length_map];exact h):=by
 rw[get_flatK _ _ _ j (by simpa using h)];have h1:j/7<ls.length:=by omega
 have h2:j%7<7:=Nat.mod_lt _ (by omega);have h3:=aAl (ls.map (·.1)) (j/7) (j%7) h2 (by simpa using h1);rw[show j/7*7+j%7=j by omega]at h3;rw[List.getElem?_eq_getElem (by rw[aAs,List.length_map];exact h)]at h3;have h4:(ls.toArray)[j/7]! = ls[j/7]:=by simp[h1]
 rw[h4,List.getElem!_eq_getElem?_getD];unfold pAN;rw[List.getElem_map]at h3;rw[←h3];rfl
theorem holds_offs{w:World}{g:Nat}{cur:Array Value}{e:TypeId}{ls:List aKg}(hb:w.heap[g]? = some (.cells cur e (0,0)))(ht:cur.toList.take (ls.length*7)=aAb (ls.map (·.1))):HoldsK pAN 7 w g 0 ls.toArray:=by
 intro j hj;have hj':j<ls.length*7:=by simpa using hj
 refine⟨?_,by simp[World.frozen?,hb]⟩;rw[aRl ls hj'];have h1:(cur.toList.take (ls.length*7))[j]? = (aAb (ls.map (·.1)))[j]? := by rw[ht]
 rw[List.getElem?_take_of_lt hj']at h1;simp only[World.cell?,hb,Nat.zero_add];simp only[Option.isSome_none,Bool.false_eq_true,if_false];rw[←Array.getElem?_toList,h1,List.getElem?_eq_getElem (by rw[aAs,List.length_map];exact hj')];rfl
theorem heap_offs{w:World}{g n:Nat}{os:Array Obj}{cur:Array Value}{e:TypeId}(d:Array aKg)(hb:w.heap[g]? = some (.cells cur e (0,0))):
  (sortWorldK pAN 7 w g 0 n d os).heap[g]? = some (.cells (putCells id 0 (flatK pAN 7 d) cur) e (0,0)):=by
 have hg:g<w.heap.size:=(Array.getElem?_eq_some_iff.1 hb).1;unfold sortWorldK putRowK;rw[heap_grow_old _ _ (by simpa using hg)];simp[putRow,mapBlock,Go.Sort.ahead,Array.getElem?_modify,hb,onCells]
theorem keep_offs{w:World}{g n:Nat}{os:Array Obj}(d:Array aKg):Keep (·=g) w (sortWorldK pAN 7 w g 0 n d os):=by
 refine⟨rfl,rfl,rfl,by simp[sortWorldK,putRowK],fun k hk hne=>?_⟩;unfold sortWorldK putRowK;rw[heap_grow_old _ _ (by simpa using hk)];have:g≠k:=fun e=>hne e.symm
 simp[putRow,mapBlock,Go.Sort.ahead,Array.getElem?_modify,this]
theorem take_offs(cur:Array Value)(ls:List aKg)(h:ls.length*7≤cur.size):(putCells id 0 (flatK pAN 7 ls.toArray) cur).toList.take (ls.length*7)=aAb (ls.map (·.1)):=by
 apply List.ext_getElem?;intro j
 by_cases hj:j<ls.length*7
 ·have hf:=aRl ls hj;rw[List.getElem?_take_of_lt hj,Array.getElem?_toList,List.getElem?_eq_getElem (by rw[aAs,List.length_map];exact hj),←hf];simp[putCells,hj,show j<cur.size by omega]
 rw[List.getElem?_take_eq_none (by omega),List.getElem?_eq_none (by rw[aAs,List.length_map];omega)]
theorem aTq{f m:List Of}{d:Array aKg}{ls:List aKg}(hf:ls.map (·.1)=f)(hm:m.Perm f)(hms:m.Pairwise ltO)(hne:f.Pairwise fun x y=>x.se≠y.se)
  (h1:PermIn 0 ls.toArray.size ls.toArray d)(h2:SortedIn (ltOf ordG) 0 ls.toArray.size d):d.toList.map (·.1)=m∧d.size=ls.length:=by
 obtain⟨hs,_,hperm⟩:=h1
 have hpd:d.toList.Perm ls:=by
  have e1:d.extract 0 ls.toArray.size=d:=by rw[←hs,Array.extract_size]
  rw[e1,Array.extract_size]at hperm;simpa using hperm
 have hpm:(d.toList.map (·.1)).Perm f:=by rw[←hf];exact hpd.map _
 have hse:(d.toList.map (·.1)).Pairwise fun x y=>x.se≠y.se:=(hpm.symm.pairwise_iff (fun{a b} (h:a.se≠b.se)=>h.symm)).1 hne
 have hso:(d.toList.map (·.1)).Pairwise ltO:=by
  rw[List.pairwise_iff_getElem]at hse ⊢;intro i j hi hj hij;have hi':i<d.size:=by simpa using hi
  have hj':j<d.size:=by simpa using hj
  have h3:=h2 i j (Nat.zero_le _) hij (by rw[←hs];exact hj');rw[getElem!_pos d i hi',getElem!_pos d j hj',aPq]at h3;have h4:=hse i j hi hj hij;simp only[List.getElem_map,Array.getElem_toList]at h4 ⊢;exact ltO_total (fun e=>h4 e.symm) h3
 refine⟨List.Perm.eq_of_pairwise (fun a b _ _ h1 h2=>(ltO_asymm h1 h2).elim) hso hms (hpm.trans hm.symm),by simpa using hs⟩
theorem aRm:∀{f:List Of},(∀x∈f,x.may∧0≤x.se∧x.se≤18446744073709551615)→∃ls:List aKg,ls.map (·.1)=f
 | [],_=>⟨[],rfl⟩
 | x::r,h=>by
  obtain⟨ls,hl⟩:=aRm (f:=r) (fun y hy=>h y (by simp[hy]));exact⟨⟨x,h x (by simp)⟩::ls,congrArg (List.cons x) hl⟩
theorem sortO_any{w:World}{base:Nat}{v:Value}{f m:List Of}(hg:∀x∈f,x.may∧0≤x.se∧x.se≤18446744073709551615)(hm:m.Perm f)(hms:m.Pairwise ltO)(hne:f.Pairwise fun x y=>x.se≠y.se)(hl:f.length≤1000)(h:w.ownsRow base 197 7 v f.length (aAb f)):
  Calls Tryz.prog 295 #[v,.func (.func 296) #[] #[]] w fun e w'=>e=.returned (.tuple #[])∧w'.ownsRow base 197 7 v m.length (aAb m)∧Keep (fun b=>v.ownBlock=some b) w w':=by
 have hlen:=hm.length_eq;rcases h.2 with⟨rfl,h0⟩|⟨g,cap,cur,rfl,hbase,hb,h1,h2,h3,h4⟩
 ·rw[h0]at hlen;have:m=[]:=List.eq_nil_of_length_eq_zero hlen;subst this;refine(AnyF.slices_SortFunc_none { sortO with } none 0 (.func (.func 296) #[] #[]) w).mono ?_;rintro e w' ⟨rfl,rfl⟩;exact⟨rfl,World.ownsRow_nil _ _ _ _,Keep.refl _ _⟩
 have hgl:g<w.heap.size:=(Array.getElem?_eq_some_iff.1 hb).1;obtain⟨ls,hls⟩:=aRm hg;have hll:ls.length=f.length:=by rw[←hls,List.length_map]
 have eg:∀args w,(callFunc 296 args).run Tryz.prog w=.ok (.enter 296 args) w:=enters_of Tryz.func296 (by kernel_rfl) rfl;have hcmp:CmpLays Tryz.prog 296 #[] pAN 7 ordG g 0 ls.toArray.size w:=fun m os dk _ x y=>(porder_any x.1 y.1 _ (x.2.1.fits x.2.2) (y.2.1.fits y.2.2)).mono fun e w' ⟨he,hb⟩=>⟨he,hb.grown⟩
 have hc:=AnyQ.slices_SortFunc (P:=Tryz.prog) sortO 7 Tryz.isAgg197 Tryz.sizeOf197 pAN (fun _=>rfl) (fun x u hu=>by simp[pAN,Of.vals]at hu;rcases hu with rfl|rfl|rfl|rfl|rfl|rfl|rfl <;> rfl) ordG swoO 296 #[] g 0 cap ls.toArray w eg hcmp (holds_offs hb (by rw[hll,hls];exact h4)) hgl (by simp;omega);have hsz:ls.toArray.size=f.length:=by simp[hll]
 rw[hsz]at hc;refine Calls.mono hc ?_;rintro e w' ⟨rfl,d,n,os,hp1,hs1,rfl⟩;obtain⟨hd,hds⟩:=aTq hls hm hms hne (by rw[hsz];exact hp1) (by rw[hsz];exact hs1)
 have hcells:(putCells id 0 (flatK pAN 7 d) cur).toList.take (f.length*7)=aAb m:=by
  have:=take_offs cur d.toList (by rw[Array.length_toList,hds,hll,h3];omega);rw[hd]at this;simpa [hds,hll]using this
 refine⟨rfl,⟨aAs m,.inr ⟨g,cap,_,by rw[hlen],hbase,heap_offs _ hb,by omega,h2,by simp[putCells,h3],by rw[hlen];exact hcells⟩⟩,(keep_offs _).mono fun k _ hk=>by rw[hk];rfl⟩
end Go.Proofs.YtngnfdnfpiiclaaGreat
namespace Go.Proofs.YtngnfdnfpiiclaaGreat
open Go.RowKit
theorem aRn(x:Of){c1 c2:Nat}{s b:Int}{w:World}(h1:Blk w c1 #[.int .u8 s] 69)(h2:Blk w c2 #[.int .u8 b] 69):
  Calls Tryz.prog 294 #[.agg #[.int .u64 x.se,.int .u8 x.ow,.int .u8 x.sl,.int .u8 x.bu,.int .i64 x.lf,.int .i64 x.nu,.int .i64 x.de],.pointer (some ⟨c1,0,none⟩),.pointer (some ⟨c2,0,none⟩)] w (yR w (.bool (!aBc s b x))):=by
 have B0:=yH ((Below.refl w.heap.size w).alloc yL (.cells #[.int .u64 x.se,.int .u8 x.ow,.int .u8 x.sl,.int .u8 x.bu,.int .i64 x.lf,.int .i64 x.nu,.int .i64 x.de] 197));have k1:=h1.alloc (.cells #[.int .u64 x.se,.int .u8 x.ow,.int .u8 x.sl,.int .u8 x.bu,.int .i64 x.lf,.int .i64 x.nu,.int .i64 x.de] 197);have k2:=h2.alloc (.cells #[.int .u64 x.se,.int .u8 x.ow,.int .u8 x.sl,.int .u8 x.bu,.int .i64 x.lf,.int .i64 x.nu,.int .i64 x.de] 197);have d0:=k1.cell 0;have e0:=k2.cell 0;simp at d0 e0;clear k1 k2 h1 h2;unfold aBc
 by_cases q1:x.sl=s
 ·have p2:(x.sl != s)=false:=by simpa using q1
  by_cases q2:x.bu=b
  ·have p4:(x.bu != b)=false:=by simpa using q2
   rw[decide_eq_true (And.intro q1 q2)];clear q1 q2;go_enter Tryz.func294,Tryz.ntmps294;go_wp2_with fail;go_ret;exact⟨rfl,B0.out⟩
  have p4:(x.bu != b)=true:=by simpa using q2
  rw[decide_eq_false (fun k=>q2 k.2)];clear q1 q2;go_enter Tryz.func294,Tryz.ntmps294;go_wp2_with fail;go_ret;exact⟨rfl,B0.out⟩
 have p2:(x.sl != s)=true:=by simpa using q1
 rw[decide_eq_false (fun k=>q1 k.1)];clear q1;go_enter Tryz.func294,Tryz.ntmps294;go_wp2_with fail;go_ret;exact⟨rfl,B0.out⟩
def aEh(l:List Of)(s b:Int):Nat:=l.findIdx fun x=>!aBc s b x
theorem posB_le(l:List Of)(s b:Int):aEh l s b≤l.length:=List.findIdx_le_length
theorem posB_at{l:List Of}{s b:Int}{k:Nat}(hk:k<l.length)(hn:∀x∈l.take k,aBc s b x=true)(hx:aBc s b l[k]=false):aEh l s b=k:=by
 unfold aEh;rw[List.findIdx_eq hk];refine⟨by simp[hx],fun j hj=>?_⟩;have:=hn l[j] (by rw[List.mem_take_iff_getElem];exact⟨j,by omega,rfl⟩);simp[this]
theorem posB_none{l:List Of}{s b:Int}(hn:∀x∈l,aBc s b x=true):aEh l s b=l.length:=by
 unfold aEh;rw[List.findIdx_eq_length];intro x hx;simp[hn x hx]
theorem aRo{l:List Of}{s b:Int}{j:Nat}(hj:j<aEh l s b):aBc s b (l[j]'(yM hj (posB_le l s b)))=true:=by
 have:=List.not_of_lt_findIdx (p:=fun x=>!aBc s b x) (xs:=l) (i:=j) hj;simpa using this
theorem posB_hit{l:List Of}{s b:Int}(h:aEh l s b<l.length):aBc s b l[aEh l s b]=false:=by
 have:=List.findIdx_getElem (p:=fun x=>!aBc s b x) (xs:=l) (w:=h);rw[Bool.not_eq_true']at this;exact this
def idxB(l:List Of)(s b:Int):Value:=if aEh l s b<l.length then .int .i64 (aEh l s b:Nat)else .int .i64 (-1)
def IdxBAt(w:World)(l:List Of)(s b:Int)(i:Value)(wr:World):Prop:=
 ∃k:Nat,k≤l.length∧i=.int .i64 k∧(∀x∈l.take k,aBc s b x=true)∧Below w.heap.size w wr
theorem pidxB_any{w:World}{base c1 c2:Nat}{l:List Of}{s b:Int}{v:Value}(h:w.ownsRow base 197 7 v l.length (aAb l))(h1:Blk w c1 #[.int .u8 s] 69)(h2:Blk w c2 #[.int .u8 b] 69):
  Calls Tryz.prog 244 #[v,.func (.func 294) #[] #[.pointer (some ⟨c1,0,none⟩),.pointer (some ⟨c2,0,none⟩)]] w (yR w (idxB l s b)):=by
 obtain⟨ao,cap,rfl,hc1,hc2,hc3,hc4⟩:=aAg h;have HC:=yH hc4;have K1:=yH h1;have K2:=yH h2;unfold maxLen at hc2;clear hc3 hc4 h h1 h2;go_enter Tryz.func244,Tryz.ntmps244;go_wp2_with fail
 go_loopw [5,8] (fun _ i wr=>IdxBAt w l s b i wr) (fun _ i _=>l.length - (intOf i).toNat)
 case atStart=>exact⟨0,Nat.zero_le _,rfl,by simp,yZ⟩
 obtain⟨k,hk,rfl,hn,hb⟩:=hrel
 by_cases hkl:k<l.length
 ·obtain⟨g,rfl,hb1,hb2,hcell,_⟩:=HC.out (by omega);obtain⟨e0,e1,e2,e3,e4,e5,e6⟩:=aCs (w:=wr) (fun j hj=>by rw[hb.cell (p:=⟨g,j,none⟩) hb2];exact hcell j hj) hkl;have FA:=yH (fun hx=>posB_at (s:=s) (b:=b) hkl hn hx);have TN:=yH (fun hx=>aI8 (q:=fun x=>aBc s b x=true) hkl hn hx);have C1:=yH (aRn l[k] (K1.out.below hb K1.out.lt) (K2.out.below hb K2.out.lt));have HB:=yH hb;clear hcell hn hb;generalize l[k]=x at *
  cases hx:aBc s b x with
  | false=>
   have E:=yH (FA.out hx);rw[hx]at C1;clear FA TN hx;go_wp2_with fail;refine C1.out.mono ?_;rintro e w2 ⟨rfl,b2⟩;have HB2:=yT HB b2;clear b2;go_wp2_with fail;go_ret;refine⟨?_,HB2.out⟩;unfold idxB;rw[E.out,if_pos hkl];rfl
  | true=>
   have E:=yH (TN.out hx);rw[hx]at C1;clear FA TN hx;go_wp2_with fail;refine C1.out.mono ?_;rintro e w2 ⟨rfl,b2⟩;have HB2:=yT HB b2;clear b2;go_wp2_with fail;go_roundw
   case rel=>exact⟨k+1,by omega,by go_num,E.out,HB2.out⟩
   case measure=>simp[intOf];omega
 have E:Hid (aEh l s b=l.length):=yH (posB_none (by have:=hn;rwa [List.take_of_length_le (by omega)]at this));have HB:=yH hb;clear hn hb;go_wp2_with fail;go_ret;refine⟨?_,HB.out⟩;unfold idxB;rw[E.out,if_neg (by omega)];rfl
theorem aTr:∀(l:List Of) (k:Nat) (x:Of),k<l.length→(aAb l).take (k*7)++x.vals++(aAb l).drop (k*7+7)=aAb (l.set k x):=by
 intro l k x h;have e0:aAb l=aAb (l.take k)++aAb (l.drop k):=by rw[←aA9,List.take_append_drop]
 have e1:aAb l=aAb (l.take (k+1))++aAb (l.drop (k+1)):=by rw[←aA9,List.take_append_drop]
 have h1:(aAb l).take (k*7)=aAb (l.take k):=by rw[e0,List.take_left' (by rw[aAs,List.length_take];omega)]
 have h2:(aAb l).drop (k*7+7)=aAb (l.drop (k+1)):=by rw[e1,List.drop_left' (by rw[aAs,List.length_take];omega)]
 rw[h1,h2,List.set_eq_take_append_cons_drop,if_pos h,aA9,show x::l.drop (k+1)=[x]++l.drop (k+1)from rfl,aA9,aIb,List.append_assoc]
theorem owns_store{w:World}{base g n cap k:Nat}{e:TypeId}{d:List Of}(h:w.ownsRow base e 7 (.slice (some ⟨g,0,none⟩) n cap) n (aAb d))(hd:d.length=n)(hk:k<n)(x:Of):
  (w.setCells g (k*7) x.vals).ownsRow base e 7 (.slice (some ⟨g,0,none⟩) n cap) n (aAb (d.set k x)):=by
 obtain⟨_,hx⟩:=h;rcases hx with⟨hx,_⟩|⟨g',cap',cur,hv,hbase,hb,h1,h2,h3,h4⟩
 ·cases hx
 cases hv
 obtain⟨cur',hb',hc'⟩:=aCt (w:=w) (e:=e) x.vals (k*7) cur hb (by rw[Of.vals_len,h3];omega);refine⟨by rw[aAs,List.length_set,hd],.inr ⟨g,cap,cur',rfl,hbase,hb',h1,h2,?_,?_⟩⟩
 ·rw[←Array.length_toList,hc'];simp only[List.length_append,List.length_take,List.length_drop,Array.length_toList,Of.vals_len,h3];omega
 rw[hc',←aTr d k x (by omega),←h4,Of.vals_len];have hcl:cur.toList.length=cap*7:=by rw[Array.length_toList,h3]
 rw[List.take_take,Nat.min_eq_left (by omega),List.take_append,List.length_append,List.length_take,Of.vals_len,hcl,Nat.min_eq_left (by omega)];rw[List.take_of_length_le (l:=cur.toList.take (k*7)++x.vals) (by rw[List.length_append,List.length_take,Of.vals_len,hcl];omega),List.drop_take]
theorem zero_one(n:Nat):∀u∈(Builtin.zeroCells zOff.cells n).toList,u.oneCell'=true:=by
 intro u hu;unfold Builtin.zeroCells at hu;simp at hu;obtain⟨i,hi,rfl⟩:=hu;have h7:zOff.cells.size=7:=rfl;rw[h7];have h:=Nat.mod_lt i (show 7 > 0 by omega);generalize i%7=m at *
 match m,h with
 | 0,_=>rfl
 | 1,_=>rfl
 | 2,_=>rfl
 | 3,_=>rfl
 | 4,_=>rfl
 | 5,_=>rfl
 | 6,_=>rfl
theorem aPr(n:Nat):(Builtin.zeroCells zOff.cells n).toList.length=n*7:=by
 unfold Builtin.zeroCells;simp;rfl
theorem owns_cut{w:World}{base g n cap i:Nat}{e:TypeId}{d f:List Of}(h:w.ownsRow base e 7 (.slice (some ⟨g,0,none⟩) n cap) n (aAb d))(hd:d.length=n)(hi:i≤n)(hf:d.take i=f)(hfl:f.length=i)(zs:List Value)(hz:zs.length=(n - i)*7):
  (w.setCells g (i*7) zs).ownsRow base e 7 (.slice (some ⟨g,0,none⟩) i cap) i (aAb f):=by
 obtain⟨_,hx⟩:=h;rcases hx with⟨hx,_⟩|⟨g',cap',cur,hv,hbase,hb,h1,h2,h3,h4⟩
 ·cases hx
 cases hv
 obtain⟨cur',hb',hc'⟩:=aCt (w:=w) (e:=e) zs (i*7) cur hb (by rw[hz,h3];omega);refine⟨by rw[aAs,hfl],.inr ⟨g,cap,cur',rfl,hbase,hb',by omega,h2,?_,?_⟩⟩
 ·rw[←Array.length_toList,hc'];simp only[List.length_append,List.length_take,List.length_drop,Array.length_toList,hz,h3];omega
 have hcl:cur.toList.length=cap*7:=by rw[Array.length_toList,h3]
 rw[hc',List.append_assoc,List.take_append_of_le_length (by rw[List.length_take,hcl];omega),List.take_take,Nat.min_self];have e1:cur.toList.take (i*7)=(cur.toList.take (n*7)).take (i*7):=by rw[List.take_take,Nat.min_eq_left (by omega)]
 rw[e1,h4,←hf];have e0:aAb d=aAb (d.take i)++aAb (d.drop i):=by rw[←aA9,List.take_append_drop]
 rw[e0,List.take_left' (by rw[aAs,List.length_take];omega)]
theorem aIv{w:World}{base g n cap o:Nat}{e:TypeId}{xs:List Value}(h:w.ownsRow base e 7 (.slice (some ⟨g,0,none⟩) n cap) n xs)(ho:o<n*7):(w.cell? ⟨g,o,none⟩).isSome=true∧w.frozen? ⟨g,o,none⟩=false:=by
 obtain⟨_,hx⟩:=h;rcases hx with⟨hx,_⟩|⟨g',cap',cur,hv,hbase,hb,h1,h2,h3,h4⟩
 ·cases hx
 cases hv
 refine⟨?_,Blk.frozen (show Blk w g cur e from hb) o⟩;rw[Blk.cell (show Blk w g cur e from hb),Array.getElem?_eq_getElem (by rw[h3];omega)];rfl
theorem owns_there{w:World}{base g n cap k:Nat}{e:TypeId}{xs:List Value}(h:w.ownsRow base e 7 (.slice (some ⟨g,0,none⟩) n cap) n xs)(hk:k<n):w.there g (k*7) 7:=fun j hj=>aIv h (by omega)
theorem aNr{P:Program}(w:World)(t e:TypeId)(ht:P.underlying t=some (.slice e))(hs:(sizeOf e).run P w=.ok 7 w)(g n cap j:Nat)(h:j<n)(h2:n≤cap):
  (Instr.sliceAt t (.slice (some ⟨g,0,none⟩) n cap) (some (.int .i64 (j:Int))) none none).run P w=.ok (.slice (some ⟨g,j*7,none⟩) (n - j) (cap - j)) w:=by
 have:=aH2 (P:=P) w t e ht hs g n cap j (by omega) h2 (j:Int) rfl;unfold aKo at this;rw[if_neg (by omega)]at this;exact this
def aCu(l:List Of)(s b:Int)(j:Nat):Nat:=((l.take j).filter (aBc s b)).length
theorem aOl(l:List Of)(s b:Int){j:Nat}(h:j<l.length):aCu l s b (j+1)=aCu l s b j+(if aBc s b l[j]=true then 1 else 0):=by
 unfold aCu;rw[List.take_succ_eq_append_getElem h,List.filter_append,List.length_append];congr 1
 by_cases q:aBc s b l[j]=true <;> simp[List.filter_cons,q]
theorem keptN_le(l:List Of)(s b:Int)(j:Nat):aCu l s b j≤j:=by
 unfold aCu;exact Nat.le_trans (List.length_filter_le _ _) (List.length_take_le _ _)
structure aGp(l d:List Of)(s b:Int)(j:Nat):Prop where
 len:d.length=l.length
 lt:aCu l s b j<j
 low:d.take (aCu l s b j)=(l.take j).filter (aBc s b)
 high:d.drop j=l.drop j
theorem aGp.start{l:List Of}{s b:Int}(h:aEh l s b<l.length):aGp l l s b (aEh l s b+1)∧aCu l s b (aEh l s b+1)=aEh l s b:=by
 have hall:(l.take (aEh l s b)).filter (aBc s b)=l.take (aEh l s b):=by
  rw[List.filter_eq_self];intro x hx;obtain⟨j,hj,rfl⟩:=List.mem_take_iff_getElem.1 hx;exact aRo (by omega)
 have hf:(l.take (aEh l s b+1)).filter (aBc s b)=l.take (aEh l s b):=by
  rw[List.take_succ_eq_append_getElem h,List.filter_append,hall];simp[List.filter_cons,posB_hit h]
 have hk:aCu l s b (aEh l s b+1)=aEh l s b:=by
  unfold aCu;rw[hf,List.length_take];omega
 exact⟨⟨rfl,by omega,by rw[hk,hf],rfl⟩,hk⟩
theorem aGp.get{l d:List Of}{s b:Int}{j:Nat}(h:aGp l d s b j)(hj:j<l.length):d[j]'(by rw[h.len];exact hj)=l[j]:=by
 have h1:d.drop j=l.drop j:=h.high;have h2:(d.drop j)[0]? = (l.drop j)[0]? := by rw[h1]
 rw[List.getElem?_drop,List.getElem?_drop,Nat.add_zero,List.getElem?_eq_getElem (by rw[h.len];exact hj),List.getElem?_eq_getElem hj]at h2;exact Option.some.inj h2
theorem aGp.skip{l d:List Of}{s b:Int}{j:Nat}(h:aGp l d s b j)(hj:j<l.length)(hq:aBc s b l[j]=false):aGp l d s b (j+1)∧aCu l s b (j+1)=aCu l s b j:=by
 have hk:aCu l s b (j+1)=aCu l s b j:=by rw[aOl l s b hj,hq];simp
 refine⟨⟨h.len,by have:=h.lt;omega,?_,?_⟩,hk⟩
 ·rw[hk,h.low,List.take_succ_eq_append_getElem hj,List.filter_append];simp[List.filter_cons,hq]
 rw[←List.drop_drop,h.high,List.drop_drop]
theorem aGp.keep{l d:List Of}{s b:Int}{j:Nat}(h:aGp l d s b j)(hj:j<l.length)(hq:aBc s b l[j]=true):aGp l (d.set (aCu l s b j) l[j]) s b (j+1)∧aCu l s b (j+1)=aCu l s b j+1:=by
 have hk:aCu l s b (j+1)=aCu l s b j+1:=by rw[aOl l s b hj,hq];simp
 have hlt:=h.lt;refine⟨⟨by rw[List.length_set];exact h.len,by omega,?_,?_⟩,hk⟩
 ·have hl:aCu l s b j<d.length:=by rw[h.len];omega
  rw[hk,List.take_succ_eq_append_getElem (by rw[List.length_set];exact hl),List.take_set_of_le yL,h.low,List.getElem_set_self,List.take_succ_eq_append_getElem hj,List.filter_append];simp[List.filter_cons,hq]
 rw[List.drop_set_of_lt (by omega),←List.drop_drop,h.high,List.drop_drop]
def DelAt(w:World)(base g cap:Nat)(l:List Of)(s b:Int)(s5 s6:Value)(wr:World):Prop:=
 ∃(j:Nat) (d:List Of),j≤l.length∧s5=.int .i64 (aCu l s b j:Nat)∧s6=.int .i64 j∧aGp l d s b j∧wr.ownsRow base 197 7 (.slice (some ⟨g,0,none⟩) l.length cap) l.length (aAb d)∧Keep (·=g) w wr
theorem pdelf_any{w:World}{base c1 c2:Nat}{l:List Of}{s b:Int}{v:Value}(h:w.ownsRow base 197 7 v l.length (aAb l))(hl:l.length≤1000)(h1:Blk w c1 #[.int .u8 s] 69)(h2:Blk w c2 #[.int .u8 b] 69):
  Calls Tryz.prog 293 #[v,.func (.func 294) #[] #[.pointer (some ⟨c1,0,none⟩),.pointer (some ⟨c2,0,none⟩)]] w fun e w'=>∃v',e=.returned v'∧w'.ownsRow base 197 7 v' (l.filter (aBc s b)).length (aAb (l.filter (aBc s b)))∧Keep (fun k=>v.ownBlock=some k) w w'∧v'.ownBlock=v.ownBlock:=by
 have CI:=yH (pidxB_any h h1 h2)
 by_cases hp:aEh l s b<l.length
 ·rw[show idxB l s b=.int .i64 (aEh l s b:Nat) by unfold idxB;rw[if_pos hp]]at CI;obtain⟨D0,kp⟩:=aGp.start hp;obtain⟨ao,cap,rfl,hc1,hc2,hc3,hc4⟩:=aAg h;obtain⟨g,rfl,hb1,hb2,_,_⟩:=hc4 (by omega);have hne1:c1≠g:=fun e=>(aB0 h h1 (by decide)) g rfl e.symm
  have hne2:c2≠g:=fun e=>(aB0 h h2 (by decide)) g rfl e.symm
  have HO:=yH h;have K1:=yH h1;have K2:=yH h2;have HD0:=yH D0;have HKP:=yH kp;have HN:=yH (And.intro hne1 hne2);have e1:((aEh l s b:Int) == -1)=false:=by simp <;> omega
  unfold maxLen at hc2;generalize hpk:aEh l s b=k0 at *;clear hc3 hc4 h h1 h2 D0 kp hne1 hne2 hpk;go_enter Tryz.func293,Tryz.ntmps293;go_wp2_with fail;refine CI.out.mono ?_;rintro e w1 ⟨rfl,b1⟩;have HO1:=yH (aAf HO.out b1);have K11:=yB K1 b1;have K21:=yB K2 b1;have HB1:=yH b1;clear b1 CI HO K1 K2;go_wp2_with fail
  go_loopw [5,6] (DelAt w1 base g cap l s b) (fun _ j _=>l.length - (intOf j).toNat)
  case atStart=>exact⟨k0+1,l,by omega,by rw[HKP.out],by go_num,HD0.out,HO1.out,Keep.refl _ _⟩
  obtain⟨j,d,hj,rfl,rfl,hD,hown,hk⟩:=hrel
  by_cases hjl:j<l.length
  ·have hdl:j<d.length:=by rw[hD.len];exact hjl
   have hget:=hD.get hjl;obtain⟨ao',cap',hv,_,_,_,hr⟩:=aAg hown
   cases hv
   obtain⟨g',hg',_,_,hcell,hfr⟩:=hr (by omega)
   cases hg'
   obtain⟨e0,e1,e2,e3,e4,e5,e6⟩:=aCs (w:=wr) (ls:=d) (fun t ht=>hcell t (by rw[←hD.len];exact ht)) hdl;rw[hget]at e0 e1 e2 e3 e4 e5 e6;have HDv:=yH hD;have HW:=yH hown;have HK:=yH hk;have K12:=yH (K11.out.keep hk HN.out.1);have K22:=yH (K21.out.keep hk HN.out.2);have hkl:=keptN_le l s b j;have DS:=yH (fun hq=>hD.skip hjl hq);have DK:=yH (fun hq=>hD.keep hjl hq);clear hget hr hcell hfr hown hk hD hdl;generalize l[j]=x at *;generalize hkn:aCu l s b j=m at *;clear hkn;have bw:=(Below.refl wr.heap.size wr).alloc yL (.cells #[.int .u64 x.se,.int .u8 x.ow,.int .u8 x.sl,.int .u8 x.bu,.int .i64 x.lf,.int .i64 x.nu,.int .i64 x.de] 197);have CB:=yH (aRn x (K12.out.below bw K12.out.lt) (K22.out.below bw K22.out.lt));have KX:=yH (Blk.new wr #[.int .u64 x.se,.int .u8 x.ow,.int .u8 x.sl,.int .u8 x.bu,.int .i64 x.lf,.int .i64 x.nu,.int .i64 x.de] 197);have HBW:=yH bw;clear bw
   cases hq:aBc s b x with
   | false=>
    have E:=yH (DS.out hq);rw[hq]at CB;clear DS DK hq;go_wp2_with fail;refine CB.out.mono ?_;rintro e w2 ⟨rfl,b2⟩;have HB2:=yT HBW b2;clear b2;go_wp2_with fail;go_roundw
    case rel=>exact⟨j+1,d,by omega,by rw[E.out.2],by go_num,E.out.1,aAf HW.out HB2.out,HK.out.trans (pAD HB2.out)⟩
    case measure=>simp[intOf];omega
   | true=>
    have E:=yH (DK.out hq);rw[hq]at CB;clear DS DK hq;go_wp2_with fail;refine CB.out.mono ?_;rintro e w2 ⟨rfl,b2⟩;have HB2:=yT HBW b2;have KX2:=KX.out.below b2 KX.out.lt;have d0:=KX2.cell 0;have d1:=KX2.cell 1;have d2:=KX2.cell 2;have d3:=KX2.cell 3;have d4:=KX2.cell 4;have d5:=KX2.cell 5;have d6:=KX2.cell 6;simp at d0 d1 d2 d3 d4 d5 d6;have HW2:=yH (aAf HW.out HB2.out);have HT:=yH (owns_there HW2.out (k:=m) (by omega));obtain⟨W3,hW3⟩:∃W3,W3=w2.setCells g (m*7) [.int .u64 x.se,.int .u8 x.ow,.int .u8 x.sl,.int .u8 x.bu,.int .i64 x.lf,.int .i64 x.nu,.int .i64 x.de]:=⟨_,rfl⟩;have HW3:=yH hW3;have HO3:=yH (show W3.ownsRow base 197 7 (.slice (some ⟨g,0,none⟩) l.length cap) l.length (aAb (d.set m x)) by rw[hW3];exact owns_store HW2.out HDv.out.len (by omega) x);have HK3:=yH (show Keep (·=g) w1 W3 by rw[hW3];exact Keep.setCells _ _ (HK.out.trans (pAD HB2.out)) (.inl rfl));clear b2 KX2 hW3;go_wp2_with (refine wpList_store_mid rfl 197 (.tmp 33) (.tmp 32) rfl g (m*7) #[.int .u64 x.se,.int .u8 x.ow,.int .u8 x.sl,.int .u8 x.bu,.int .i64 x.lf,.int .i64 x.nu,.int .i64 x.de] rfl rfl HT.out (by kernel_rfl) (by simp[Value.oneCell']) ?_;rw[←HW3.out]);go_roundw
    case rel=>exact⟨j+1,d.set m x,by omega,by rw[E.out.2];go_num,by go_num,E.out.1,HO3.out,HK3.out⟩
    case measure=>simp[intOf];omega
  have hje:j=l.length:=by omega
  subst hje;have hkl:=hD.lt;have hlo:=hD.low;have hdn:=hD.len;rw[List.take_of_length_le yL]at hlo;have hfl:(l.filter (aBc s b)).length=aCu l s b l.length:=by unfold aCu;rw[List.take_of_length_le yL]
  have HK:=yH hk;have HC:=yH (owns_cut hown hdn (by omega) hlo hfl (Builtin.zeroCells zOff.cells (l.length - aCu l s b l.length)).toList (by rw[aPr]))
  have hcl:∀ty,(Builtin.clear_ #[156] ty #[.slice (some ⟨g,aCu l s b l.length*7,none⟩) (l.length - aCu l s b l.length) (cap - aCu l s b l.length)]).run Tryz.prog wr=.ok (.tuple #[]) (wr.setCells g (aCu l s b l.length*7) (Builtin.zeroCells zOff.cells (l.length - aCu l s b l.length)).toList):=fun ty=>
   aG5 wr 156 197 ty zOff Tryz.underlying156 (Tryz.zeroValue197) g (aCu l s b l.length*7) _ _ (by omega) (zero_one _)
    (fun t ht=>(aIv hown (by rw[aPr]at ht;omega)).1) (fun t ht=>(aIv hown (by rw[aPr]at ht;omega)).2)
  have hr:=aNr (P:=Tryz.prog) wr 156 197 Tryz.underlying156 (Tryz.sizeOf197 _) g l.length cap (aCu l s b l.length) hkl (by omega);obtain⟨W3,hW3⟩:∃W3,W3=wr.setCells g (aCu l s b l.length*7) (Builtin.zeroCells zOff.cells (l.length - aCu l s b l.length)).toList:=⟨_,rfl⟩;have HK3:=yH (show Keep (·=g) w1 W3 by rw[hW3];exact Keep.setCells _ _ HK.out (.inl rfl));simp only[←hW3]at hcl HC;rw[←hfl]at HC hcl hr hkl ⊢;obtain⟨m,hm⟩:∃m,(l.filter (aBc s b)).length=m:=⟨_,rfl⟩;rw[hm]at HC hcl hr hkl ⊢;have HM:=yH hm;clear hm;have hic:m≤cap:=by omega
  clear hW3 hfl hlo hdn hown hk hD;go_wp2_with fail;refine bodyPost_ret (v:=.slice (some ⟨g,0,none⟩) m cap) (by simp[results,Tryz.results293,go_sem]) rfl ?_;exact⟨_,rfl,by rw[HM.out];exact HC.out,((pAD HB1.out).trans HK3.out).mono (fun k _ (hk:k=g)=>by rw[hk];rfl),rfl⟩
 rw[show idxB l s b=.int .i64 (-1) by unfold idxB;rw[if_neg hp]]at CI
 have hfe:l.filter (aBc s b)=l:=by
  rw[List.filter_eq_self];intro x hx;obtain⟨j,hj,rfl⟩:=List.mem_iff_getElem.1 hx;exact aRo (by have:=posB_le l s b;omega)
 rw[hfe];obtain⟨ao,cap,rfl,_⟩:=aAg h;have HO:=yH h;clear h h1 h2 hp hfe;go_enter Tryz.func293,Tryz.ntmps293;go_wp2_with fail;refine CI.out.mono ?_;rintro e w1 ⟨rfl,b1⟩;have HB1:=yH b1;clear b1 CI;go_wp2_with fail;refine bodyPost_ret (v:=.slice ao l.length cap) (by simp[results,Tryz.results293,go_sem]) rfl ?_;exact⟨_,rfl,aAf HO.out HB1.out,pAD HB1.out,rfl⟩
theorem pbest_of{w:World}{base:Nat}{pv v:Value}{l:List Of}{N:Int}{s b:Int}(hc:∀w',Below w.heap.size w w'→Calls Tryz.prog 104 #[pv] w' fun e w''=>e=.returned v∧w'=w'')(h:w.ownsRow base 197 7 v l.length (aAb l))(hI:BInv l N):
  Calls Tryz.prog 270 #[pv,.int .u8 s,.int .u8 b] w (aE9 w 75 7 (aC1 l s b).length (aAb (aC1 l s b))):=by
 have hlen:=hI.len;have hbw:=((Below.refl w.heap.size w).alloc yL (.cells #[.int .u8 s] 69)).alloc (by simp) (.cells #[.int .u8 b] 69);have HB:=yH hbw;have K1:=yH ((Blk.new w #[.int .u8 s] 69).alloc (.cells #[.int .u8 b] 69));have K2:=yH (pAB (w.alloc (.cells #[.int .u8 s] 69)) #[.int .u8 b] 69 (g:=w.heap.size+1) (by simp));have C1:=yH (hc _ hbw);have C2:=yH (aN9 (aAf h hbw) (by omega));obtain⟨bp,bs⟩:=bestO_is hI.may hI.rise s b
 have hgood:∀x∈l.filter (aBc s b),x.may∧0≤x.se∧x.se≤18446744073709551615:=fun x hx=>by
  have hx:=(List.mem_filter.1 hx).1;have:=hI.bd x hx;have:=hI.n2;exact⟨hI.may x hx,by omega,by omega⟩
 have hne:(l.filter (aBc s b)).Pairwise fun x y=>x.se≠y.se:=(hI.rise.filter _).imp fun h=>by omega
 have hfl:(l.filter (aBc s b)).length≤1000:=Nat.le_trans (List.length_filter_le _ _) (by omega);have HS:=yH (fun(w:World) (base:Nat) (v:Value) (h:w.ownsRow base 197 7 v (l.filter (aBc s b)).length (aAb (l.filter (aBc s b))))=>sortO_any hgood bp bs hne hfl h);have HM:=yH (show(aC1 l s b).length≤1000 by rw[bp.length_eq];exact hfl);clear hbw hc h hI bp bs hgood hne hfl;go_enter Tryz.func270,Tryz.ntmps270;go_wp2_with fail;generalize hWW:(w.alloc (.cells #[.int .u8 s] 69)).alloc (.cells #[.int .u8 b] 69)=W at *;have HWs:=yH (show W.heap.size=w.heap.size+2 by rw[←hWW];simp);clear hWW;refine C1.out.mono ?_;rintro e W ⟨rfl,rfl⟩;go_wp2_with fail;refine C2.out.mono ?_;rintro e w1 ⟨v1,rfl,o1,b1⟩;have CD:=yH (pdelf_any o1 (by omega) (K1.out.below b1 K1.out.lt) (K2.out.below b1 K2.out.lt));have HB1:=yT HB b1;have HO1:=yH o1;clear o1 b1 C2 C1;go_wp2_with fail;refine CD.out.mono ?_;rintro e w2 ⟨v2,rfl,o2,k2,e2⟩;have CS:=yH (HS.out _ _ _ o2);have HE:=yH e2;have hv2:∃ao c,v2=.slice ao (l.filter (aBc s b)).length c:=by obtain⟨ao,c,hv,_⟩:=aAg o2;exact⟨ao,c,hv⟩
 have HB2:=yH (HB1.out.trans (k2.below HB1.out.size (fun k hk e=>by have:=(aAe HO1.out e).1;have:=HWs.out;omega)));have HO2:=yH o2;clear o2 k2 e2 CD;obtain⟨ao,c,rfl⟩:=hv2;go_wp2_with fail;refine CS.out.mono ?_;rintro e w3 ⟨rfl,o3,k3⟩;have CT:=yH (told_any o3 HM.out);have HB3:=yH (HB2.out.trans (k3.below HB2.out.size (fun k hk e=>by have:=(aAe HO2.out e).1;have:=HWs.out;omega)));clear o3 k3 CS;go_wp2_with fail;refine CT.out.mono ?_;rintro e w4 ⟨v',rfl,h1,b4⟩;have H1:=yH h1;have HB4:=yT HB3 b4;clear h1 b4 CT;go_wp2_with fail;refine bodyPost_ret (v:=v') (by simp[results,Tryz.results270,go_sem]) rfl ?_;exact⟨v',rfl,H1.out.base HB3.out.size,HB4.out⟩
theorem aRp{w:World}{base g:Nat}{l:List Of}{N:Int}{vl:Value}(h:PB w base g l N vl)(hI:BInv l N)(s b:Int):
  Calls Tryz.prog 270 #[.pointer (some ⟨g,0,none⟩),.int .u8 s,.int .u8 b] w (aE9 w 75 7 (aC1 l s b).length (aAb (aC1 l s b))):=by
 obtain⟨ao,cap,rfl,_⟩:=aAg h.row;exact pbest_of (fun w' k=>ball_any (h.below k).blk) h.row hI
end Go.Proofs.YtngnfdnfpiiclaaGreat
namespace Go.Proofs.YtngnfdnfpiiclaaGreat
open Go.RowKit
attribute [local go_sem] Oper.semAt_some
theorem aH5{p:Of→Bool}:∀{l:List Of} {k:Nat} (hk:k<l.length),k≤(l.takeWhile p).length→(p l[k]=true→k<(l.takeWhile p).length∧(l.takeWhile p)[k]? = some l[k])∧(p l[k]=false→(l.takeWhile p).length≤k)
 | [],k,hk,_=>absurd hk (by simp)
 | z::l,0,hk,_=>by
  constructor
  ·intro h;have h':p z=true:=h;rw[List.takeWhile_cons,if_pos h'];simp
  ·intro h;have h':p z=false:=h;rw[List.takeWhile_cons,if_neg (by simp[h'])];simp
 | z::l,k+1,hk,h1=>by
  rw[List.takeWhile_cons]at h1 ⊢
  by_cases h:p z=true
  ·rw[if_pos h]at h1 ⊢;have hk':k<l.length:=by simpa using hk
   obtain⟨a,b⟩:=aH5 (p:=p) hk' (by simpa using h1);exact⟨fun q=>by obtain⟨a1,a2⟩:=a q;exact⟨by simpa using a1,by simpa using a2⟩,fun q=>by have:=b q;simpa using this⟩
  rw[if_neg h]at h1;simp at h1
theorem aKy(p:Of→Bool):∀l:List Of,(l.takeWhile p).length≤l.length
 | []=>by simp
 | z::l=>by
  rw[List.takeWhile_cons];have:=aKy p l;split
  ·simp only[List.length_cons];omega
  simp
theorem aTs(x:Of)(b:Option Addr)(w:World):
  Calls Tryz.prog 278 #[.agg #[.int .u64 x.se,.int .u8 x.ow,.int .u8 x.sl,.int .u8 x.bu,.int .i64 x.lf,.int .i64 x.nu,.int .i64 x.de],.pointer b] w fun e w'=>e=.returned (.func (.func 304) #[] #[(.pointer (some ⟨w.heap.size,0,none⟩)),(.pointer (some ⟨w.heap.size+1,0,none⟩))])∧w'=(w.alloc (.cells #[.int .u64 x.se,.int .u8 x.ow,.int .u8 x.sl,.int .u8 x.bu,.int .i64 x.lf,.int .i64 x.nu,.int .i64 x.de] 294)).alloc (.cells #[.pointer b] 78):=by
 go_enter Tryz.func278,Tryz.ntmps278;go_wp2;go_ret;exact⟨rfl,rfl⟩
theorem aBj.old{w w':World}{B l base size n:Nat}{e:TypeId}{v:Value}{xs:List Value}(h:aBj w base e size v n xs)(k:aPm B l w w')(hB:B≤base)(hl:l<base):aBj w' base e size v n xs:=by
 obtain⟨h1,h2|⟨g,cs,hv,hg,hb,h3,h4,h5⟩⟩:=h
 ·exact⟨h1,.inl h2⟩
 exact⟨h1,.inr ⟨g,cs,hv,hg,Blk.old hb k (by omega) (by omega),h3,h4,h5⟩⟩
def AgIt(J:Nat→World→Prop)(W0:World)(g:Nat)(nu de:Int)(os:List Of)(m:Nat)(v i:Value)(wr:World):Prop:=
 ∃k:Nat,i=.int .i64 k∧k≤m∧J k wr∧Blk wr g #[.int .i64 de,.int .i64 nu] 73∧aBj wr W0.heap.size 75 7 v os.length (aAb os)∧W0.heap.size≤wr.heap.size
theorem aTt{I:Nat→World→Prop}{b1 b2 base gb:Nat}{l:List Of}{N:Int}{vb:Value}(x:Of)(hx:x.Fits)(hm:mayB x.nu x.de=true)(hJ:BInv l N)
  (hI:∀k W,I k W→PB W base gb l N vb∧Blk W b1 #[.int .u64 x.se,.int .u8 x.ow,.int .u8 x.sl,.int .u8 x.bu,.int .i64 x.lf,.int .i64 x.nu,.int .i64 x.de] 294∧Blk W b2 #[(.pointer (some ⟨gb,0,none⟩))] 78):
  SeqK Tryz.prog 304 #[(.pointer (some ⟨b1,0,none⟩)),(.pointer (some ⟨b2,0,none⟩))] 0 (fun k=>(agO l x.sl x.bu x.nu x.de).length≤k) (fun k vs _=>∃o:Of,(agO l x.sl x.bu x.nu x.de)[k]? = some o∧vs=#[.agg #[.int .u64 o.se,.int .u8 o.ow,.int .u8 o.sl,.int .u8 o.bu,.int .i64 o.lf,.int .i64 o.nu,.int .i64 o.de]]) (fun k k'=>k'=k+1) I:=by
 intro n lb B J Jx hgrow hJI hY W0 h0 hB hlb;obtain⟨hP,k1,k2⟩:=hI 0 W0 (hJI 0 W0 h0);have GR:=yH hgrow;have HY:=yH hY;have J0:=yH h0;have HP:=yH hP;have HB:=yH (And.intro hB hlb);have CI:=yH (fun w=>aMi x.nu x.de w hx.nu hx.de);rw[show alN x.nu x.de=x.nu by unfold alN;rw[if_pos hm],show alD x.nu x.de=x.de by unfold alD;rw[if_pos hm]]at CI;have CC:=yH (fun(o:Of) w (ho:o∈aC1 l x.bu x.sl)=>aS4 o.nu o.de x.de x.nu w (by have:=aE0 (hJ.may o (aJd hJ ho).1).2.2.2.2.2;unfold In64;omega) (by have:=aE0 (hJ.may o (aJd hJ ho).1).2.2.2.2.2;unfold In64;omega) hx.de hx.nu);have CB:=yH (fun w' (h:PB w' base gb l N vb)=>aRp h hJ x.bu x.sl);obtain⟨m,hmm⟩:∃m,(agO l x.sl x.bu x.nu x.de).length=m:=⟨_,rfl⟩;have TW:=yH (fun(k:Nat) (hk:k<(aC1 l x.bu x.sl).length) (h:k≤m)=>aH5 (p:=fun o:Of=>decide (cmpR o.nu o.de x.de x.nu≤0)) hk (by rw[←hmm]at h;exact h));have TL:=yH (show m≤(aC1 l x.bu x.sl).length by rw[←hmm];exact aKy _ _);have AG:=yH (show(aC1 l x.bu x.sl).takeWhile (fun o:Of=>decide (cmpR o.nu o.de x.de x.nu≤0))=agO l x.sl x.bu x.nu x.de from rfl);rw[AG.out,hmm]at TW;rw[hmm];obtain⟨ag,hag⟩:∃ag,agO l x.sl x.bu x.nu x.de=ag:=⟨_,rfl⟩;rw[hag]at TW HY;generalize hos:aC1 l x.bu x.sl=os at *;have d2:=k1.cell 2;have d3:=k1.cell 3;have d5:=k1.cell 5;have d6:=k1.cell 6;have e0:=k2.cell 0;simp at d2 d3 d5 d6 e0;have K1:=yH k1;have K2:=yH k2;clear hgrow hJI hY hI h0 hP hB hlb hx hm hJ k1 k2 hmm AG hag hos;refine callsIn_of_wp Tryz.func304 rfl trivial ?_ rfl;simp only[Tryz.ntmps304,List.size_toArray,List.length_cons,List.length_nil,Nat.reduceAdd,Nat.reduceSub,Array.replicate_succ,Array.replicate_zero,List.push_toArray,List.append_toArray,List.nil_append,List.cons_append]
 gi_wp2_with fail
 refine⟨trivial,(fun hh=>(by cases hh)),(callsIn_wide.2 (CI.out _)).mono ?_⟩;rintro e w1 ⟨rfl,hb1⟩;have J1:=yH (GR.out 0 W0 w1 J0.out hb1);have bg:=(Below.refl w1.heap.size w1).alloc yL (.cells #[.int .i64 x.de,.int .i64 x.nu] 73);have KG:=yH (Blk.new w1 #[.int .i64 x.de,.int .i64 x.nu] 73);have J2:=yH (GR.out 0 w1 _ J1.out bg);have bw:=hb1.trans (bg.mono hb1.size);have SZ:=yH (show W0.heap.size≤w1.heap.size∧W0.heap.size≤(w1.alloc (.cells #[.int .i64 x.de,.int .i64 x.nu] 73)).heap.size from⟨hb1.size,bw.size⟩);have K1b:=yB K1 bw;have K2b:=yB K2 bw;have CB2:=yH (CB.out _ (HP.out.below bw));clear hb1 bg bw d2 d3 d5 d6 e0 J0 J1 K1 K2 CB HP CI;have d2:=K1b.out.cell 2;have d3:=K1b.out.cell 3;have e0:=K2b.out.cell 0;simp at d2 d3 e0
 gi_wp2_with fail
 generalize w1.alloc (.cells #[.int .i64 x.de,.int .i64 x.nu] 73)=w2 at *;refine⟨trivial,(fun hh=>(by cases hh)),(callsIn_wide.2 CB2.out).mono ?_⟩;rintro e w3 ⟨v,rfl,hv,hb3⟩;have J3:=yH (GR.out 0 w2 w3 J2.out hb3);have KG3:=yB KG hb3;have RW:=yH (hv.base SZ.out.2);have SZ3:=yH (Nat.le_trans SZ.out.2 hb3.size);obtain⟨ao,cap,rfl,hc1,hc2,_,_⟩:=hv.look;unfold maxLen at hc2;clear hv hb3 d2 d3 e0 J2 KG K1b K2b CB2
 gi_wp2_with fail
 gi_loopw [6,17,19,20,21,22,23,24,25,26,27,28,29,30,31,32] (fun _ i _ _ _ _ _ _ _ _ _ _ _ _ _ _ wr=>AgIt J W0 w1.heap.size x.nu x.de os m (.slice ao os.length cap) i wr) (fun _ i _ _ _ _ _ _ _ _ _ _ _ _ _ _ _=>os.length - (intOf i).toNat)
 case atStart=>exact⟨0,rfl,Nat.zero_le _,J3.out,KG3.out,RW.out,SZ3.out⟩
 obtain⟨k,rfl,hkm,hj,hg,hr,hs⟩:=hrel;have JR:=yH hj;have KR:=yH hg;have RR:=yH hr;have HS:=yH hs
 by_cases hkl:k<os.length
 ·have hki:(k:Int)<(os.length:Int):=by omega
  have hk0:(0:Int)≤(k:Int):=by omega
  obtain⟨_,_,hvv,_,_,_,hcc⟩:=hr.look
  cases hvv
  obtain⟨b,rfl,_,hb,hc,_⟩:=hcc (by omega);obtain⟨e0,e1,e2,e3,e4,e5,e6⟩:=aCs (w:=wr) hc hkl;have T:=yH (TW.out k hkl hkm);have CC1:=yH (fun w=>CC.out os[k] w (List.getElem_mem hkl));have HKL:=yH hkl;clear hj hg hr hs hkm hcc hc;generalize os[k]=o at *;clear hkl;have bo:=(Below.refl wr.heap.size wr).alloc yL (.cells #[.int .u64 o.se,.int .u8 o.ow,.int .u8 o.sl,.int .u8 o.bu,.int .i64 o.lf,.int .i64 o.nu,.int .i64 o.de] 75);have KO:=yH (Blk.new wr #[.int .u64 o.se,.int .u8 o.ow,.int .u8 o.sl,.int .u8 o.bu,.int .i64 o.lf,.int .i64 o.nu,.int .i64 o.de] 75);have JR4:=yH (GR.out k wr _ JR.out bo);have KR4:=yB KR bo;have RR4:=yH (RR.out.below bo);have HS4:=yH (Nat.le_trans HS.out bo.size);clear bo JR KR RR HS;obtain⟨c,hcv⟩:∃c,cmpR o.nu o.de x.de x.nu=c:=⟨_,rfl⟩;rw[hcv]at T CC1;clear hcv;have g0:=KR4.out.cell 0;have g1:=KR4.out.cell 1;have o0:=KO.out.cell 0;have o1:=KO.out.cell 1;have o2:=KO.out.cell 2;have o3:=KO.out.cell 3;have o4:=KO.out.cell 4;have o5:=KO.out.cell 5;have o6:=KO.out.cell 6;simp at g0 g1 o0 o1 o2 o3 o4 o5 o6
  gi_wp2_with fail
  generalize wr.alloc (.cells #[.int .u64 o.se,.int .u8 o.ow,.int .u8 o.sl,.int .u8 o.bu,.int .i64 o.lf,.int .i64 o.nu,.int .i64 o.de] 75)=w4 at *;refine⟨trivial,(fun hh=>(by cases hh)),(callsIn_wide.2 (CC1.out _)).mono ?_⟩;rintro e w5 ⟨rfl,hb5⟩;have JR5:=yH (GR.out k w4 _ JR4.out hb5);have KR5:=yB KR4 hb5;have RR5:=yH (RR4.out.below hb5);have HS5:=yH (Nat.le_trans HS4.out hb5.size);have KO5:=yB KO hb5;clear hb5 g0 g1 o0 o1 o2 o3 o4 o5 o6 e0 e1 e2 e3 e4 e5 e6 JR4 KR4 RR4 HS4 KO CC1 hb;have o0:=KO5.out.cell 0;have o1:=KO5.out.cell 1;have o2:=KO5.out.cell 2;have o3:=KO5.out.cell 3;have o4:=KO5.out.cell 4;have o5:=KO5.out.cell 5;have o6:=KO5.out.cell 6;simp at o0 o1 o2 o3 o4 o5 o6
  by_cases hle:c≤0
  ·have q1:decide (c > 0)=false:=by simp;omega
   obtain⟨t1,t2⟩:=T.out.1 (by simpa using hle);obtain⟨fn,tmps,assign,body,hy,hR⟩:=HY.out (n - 1) k #[.agg #[.int .u64 o.se,.int .u8 o.ow,.int .u8 o.sl,.int .u8 o.bu,.int .i64 o.lf,.int .i64 o.nu,.int .i64 o.de]] w5 JR5.out ⟨o,t2,rfl⟩;have RY:=yH hR;have HT1:=yH t1;clear hle t1 t2 hR T
   gi_wp2_with fail
   refine⟨(fun hh=>(by cases hh)),RY.out.mono ?_⟩;rintro e W6 ⟨hof,(⟨rfl,k',rfl,hj⟩|⟨rfl,hjx⟩)⟩
   ·have JN:=yH hj;have KN:=yH (Blk.old KR5.out hof (by have:=HB.out;have:=SZ.out;omega) (by have:=HB.out;have:=SZ.out;omega));have RN:=yH (RR5.out.old hof (by have:=HB.out;omega) (by have:=HB.out;omega));have HN:=yH (Nat.le_trans HS5.out hof.size);clear hj hof RY o0 o1 o2 o3 o4 o5 o6 hy
    gi_wp2_with fail
    go_roundw
    case rel=>exact⟨k+1,by go_num,HT1.out,JN.out,KN.out,RN.out,HN.out⟩
    case measure=>simp[intOf];have:=HKL.out;omega
   have HX:=yH hjx;clear hjx hof RY o0 o1 o2 o3 o4 o5 o6 hy
   gi_wp2_with fail
   refine bodyPost_ret (results_none rfl _ _ _) rfl ?_;exact⟨⟨_,rfl⟩,.inr HX.out⟩
  have q1:decide (c > 0)=true:=by simp;omega
  have HE:=yH (T.out.2 (by simpa using hle));clear hle T
  gi_wp2_with fail
  refine⟨fun _ h=>(by cases h),?_⟩
  gi_wp2_with fail
  refine bodyPost_ret (results_none rfl _ _ _) rfl ?_;exact⟨⟨_,rfl⟩,.inl ⟨k,HE.out,JR5.out⟩⟩
 have q1:decide (k<os.length)=false:=by simpa using hkl
 have HE:=yH (show m≤k by have:=TL.out;omega);clear hj hg hr hs hkm hkl
 gi_wp2_with fail
 go_end0;exact⟨⟨_,rfl⟩,.inl ⟨k,HE.out,JR.out⟩⟩
end Go.Proofs.YtngnfdnfpiiclaaGreat
