/- Pieces of one proof. -/
import Derived.Test.YtaeocliklpcgmaaGreatP28
set_option linter.all false
set_option maxHeartbeats 64000000
set_option maxRecDepth 100000
namespace Go.Proofs.YtaeocliklpcgmaaGreat
open Go.RowKit
theorem pl_inj{σ τ:SwS}{a b c d e f:Int}(h:(e,σ,a,b)=(f,τ,c,d)):σ=τ∧a=c∧b=d:=by
 simp only[Prod.mk.injEq]at h;exact h.2
def Lives12:Prop:=∀w:World,Calls Tryz.prog 8 #[] w fun e w'=>e=.returned (.bool true)∧Below w.heap.size w w'
theorem aS0(HMy:aE2)(HD:aGq)(HCp:aIq):Lives12:=fun w=>by
 go_enter Tryz.func8,Tryz.ntmps8;go_wp2_with fail;refine(new_any w).mono ?_;rintro e w0 ⟨G,M,rfl,h0,hG,hM,hb0⟩;have H0:=yH h0;have B0:=yH hb0;have I0:=yH LInv.nil;clear h0 hb0;have c1:=yH (aKg H0.out I0.out.bd 1);rw[show aFt [] 1=0 by decide,show aDy [] 1=[1] by decide]at c1;have I1:Hid (LInv [1] []):=yH (by have:=pAL I0.out 1;rwa [show aDy [] 1=[1] by decide]at this);go_wp2_with fail;refine c1.out.mono ?_;rintro e w1 ⟨rfl,h1,k1⟩;have H1:=yH h1;have B1:=yH (B0.out.trans (k1.below B0.out.size (fun b hb e=>by omega)));clear h1 k1 c1 H0 B0 I0;have c2:=yH (aKg H1.out I1.out.bd 2);rw[show aFt [1] 2=0 by decide,show aDy [1] 2=[1,2] by decide]at c2;have I2:Hid (LInv [1,2] []):=yH (by have:=pAL I1.out 2;rwa [show aDy [1] 2=[1,2] by decide]at this);go_wp2_with fail;refine c2.out.mono ?_;rintro e w2 ⟨rfl,h2,k2⟩;have H2:=yH h2;have B2:=yH (B1.out.trans (k2.below B1.out.size (fun b hb e=>by omega)));clear h2 k2 c2 H1 B1 I1;have c3:=yH (aKg H2.out I2.out.bd 3);rw[show aFt [1,2] 3=0 by decide,show aDy [1,2] 3=[1,2,3] by decide]at c3;have I3:Hid (LInv [1,2,3] []):=yH (by have:=pAL I2.out 3;rwa [show aDy [1,2] 3=[1,2,3] by decide]at this);go_wp2_with fail;refine c3.out.mono ?_;rintro e w3 ⟨rfl,h3,k3⟩;have H3:=yH h3;have B3:=yH (B2.out.trans (k3.below B2.out.size (fun b hb e=>by omega)));clear h3 k3 c3 H2 B2 I2;have c4:=yH (aFh (a:=3) (b:=2) (c:=1) (n:=9) H3.out I3.out (by unfold In8;decide) (by unfold In8;decide) (by unfold In8;decide));rw[show aAu [1,2,3] [] 3 2 1 9=0 by decide,show aAw [1,2,3] [] 3 2 1 9=[⟨3,2,1,9,0⟩] by decide]at c4;have I4:Hid (LInv [1,2,3] [⟨3,2,1,9,0⟩]):=yH (by have:=pAK I3.out 3 2 1 9;rwa [show aAw [1,2,3] [] 3 2 1 9=[⟨3,2,1,9,0⟩] by decide]at this);go_wp2_with fail;refine c4.out.mono ?_;rintro e w4 ⟨rfl,h4,k4⟩;have H4:=yH h4;have B4:=yH (B3.out.trans (k4.below B3.out.size (fun b hb e=>by omega)));clear h4 k4 c4 H3 B3 I3;have c5:=yH (aFh (a:=2) (b:=1) (c:=2) (n:=7) H4.out I4.out (by unfold In8;decide) (by unfold In8;decide) (by unfold In8;decide));rw[show aAu [1,2,3] [⟨3,2,1,9,0⟩] 2 1 2 7=0 by decide,show aAw [1,2,3] [⟨3,2,1,9,0⟩] 2 1 2 7=[⟨3,2,1,9,0⟩,⟨2,1,2,7,0⟩] by decide]at c5;have I5:Hid (LInv [1,2,3] [⟨3,2,1,9,0⟩,⟨2,1,2,7,0⟩]):=yH (by have:=pAK I4.out 2 1 2 7;rwa [show aAw [1,2,3] [⟨3,2,1,9,0⟩] 2 1 2 7=[⟨3,2,1,9,0⟩,⟨2,1,2,7,0⟩] by decide]at this);go_wp2_with fail;refine c5.out.mono ?_;rintro e w5a ⟨rfl,h5,k5⟩;have H5a:=yH h5;have B5a:=yH (B4.out.trans (k5.below B4.out.size (fun b hb e=>by omega)));clear h5 k5 c5 H4 B4 I4;have c6:=yH (aFh (a:=1) (b:=2) (c:=1) (n:=9) H5a.out I5.out (by unfold In8;decide) (by unfold In8;decide) (by unfold In8;decide));rw[show aAu [1,2,3] [⟨3,2,1,9,0⟩,⟨2,1,2,7,0⟩] 1 2 1 9=0 by decide,show aAw [1,2,3] [⟨3,2,1,9,0⟩,⟨2,1,2,7,0⟩] 1 2 1 9=l12 by decide]at c6;have II:Hid (LInv p10 l12):=yH (by have:=pAK I5.out 1 2 1 9;rwa [show aAw [1,2,3] [⟨3,2,1,9,0⟩,⟨2,1,2,7,0⟩] 1 2 1 9=l12 by decide]at this);go_wp2_with fail;refine c6.out.mono ?_;rintro e w5 ⟨rfl,h6,k6⟩;have L5:Hid (LedM w5 G M p10 l12):=yH h6;have B5:=yH (B5a.out.trans (k6.below B5a.out.size (fun b hb e=>by omega)));clear h6 k6 c6 H5a B5a I5;go_wp2_with fail;refine(pnew_any w5 w.heap.size B5.out.size).mono ?_;rintro e w6 ⟨rfl,h6,b6⟩;have L6:=yH (L5.out.below b6);have P6:=yH h6;have B6:=yT B5 b6;clear h6 b6 L5 B5;have C7:=yH (aG5 (x:=⟨1,2,1,2,5,3,2⟩) P6.out (BInv.nil (N:=1) (by omega) (by omega)) ⟨by decide,by unfold In8;decide,by unfold In8;decide,by unfold In8;decide,by unfold In64;decide,by unfold In64;decide,by unfold In64;decide⟩);have J7:Hid (BInv o10 2):=yH (by have:=BInv.place (x:=⟨1,2,1,2,5,3,2⟩) (BInv.nil (N:=1) (by omega) (by omega));rwa [show aB8 [] ⟨1,2,1,2,5,3,2⟩=o10 by decide +kernel,show aBo [] ⟨1,2,1,2,5,3,2⟩=2 by decide +kernel]at this);rw[show aCo [] ⟨1,2,1,2,5,3,2⟩=1 by decide +kernel,show aBw [] ⟨1,2,1,2,5,3,2⟩=0 by decide +kernel,show aB8 [] ⟨1,2,1,2,5,3,2⟩=o10 by decide +kernel,show aBo [] ⟨1,2,1,2,5,3,2⟩=2 by decide +kernel]at C7;dsimp only at C7;obtain⟨gb,hgb⟩:∃gb,w5.heap.size=gb:=⟨_,rfl⟩;rw[hgb]at P6 C7 ⊢;clear hgb;go_wp2_with fail;refine C7.out.mono ?_;rintro e w7 ⟨rfl,vb,h7,k7,_⟩;have AP:=(P6.out.ne_map L6.out).2;have L7:=yH (L6.out.keep k7 AP.1 AP.2);have P7:=yH h7;have B7:=yH (B6.out.trans (k7.below B6.out.size (fun b hb e=>by have:=(P6.out.lt e).1;omega)));clear h7 k7 AP L6 P6 B6 C7;have C8:=yH (aG5 (x:=⟨2,2,1,2,5,1,1⟩) P7.out J7.out ⟨by decide,by unfold In8;decide,by unfold In8;decide,by unfold In8;decide,by unfold In64;decide,by unfold In64;decide,by unfold In64;decide⟩);have J8:Hid (BInv ov0 3):=yH (by have:=BInv.place (x:=⟨2,2,1,2,5,1,1⟩) J7.out;rwa [show aB8 o10 ⟨2,2,1,2,5,1,1⟩=ov0 by decide +kernel,show aBo o10 ⟨2,2,1,2,5,1,1⟩=3 by decide +kernel]at this);rw[show aCo o10 ⟨2,2,1,2,5,1,1⟩=2 by decide +kernel,show aBw o10 ⟨2,2,1,2,5,1,1⟩=0 by decide +kernel,show aB8 o10 ⟨2,2,1,2,5,1,1⟩=ov0 by decide +kernel,show aBo o10 ⟨2,2,1,2,5,1,1⟩=3 by decide +kernel]at C8;dsimp only at C8;go_wp2_with fail;refine C8.out.mono ?_;rintro e w8 ⟨rfl,vb8,h8,k8,_⟩;have AP:=(P7.out.ne_map L7.out).2;have L8:=yH (L7.out.keep k8 AP.1 AP.2);have P8:=yH h8;have B8:=yH (B7.out.trans (k8.below B7.out.size (fun b hb e=>by have:=(P7.out.lt e).1;omega)));clear h8 k8 AP L7 P7 B7 C8;have bh:=(Below.refl w8.heap.size w8).alloc yL (.cells #[.pointer (some ⟨G,0,none⟩),.pointer (some ⟨gb,0,none⟩)] 31);have KH9:=yH (pAA w8 #[.pointer (some ⟨G,0,none⟩),.pointer (some ⟨gb,0,none⟩)] 31);have L9:=yH (L8.out.below bh);have P9:=yH (P8.out.below bh);have B9:=yT B8 bh;have S1:=yH (fun u (h:LedM u G M p10 l12) (k:PB u w.heap.size gb ov0 3 vb8)=>aOt HMy HD HCp h II.out k J8.out ⟨0,1,2,1,7,1,1⟩ ⟨by decide,by unfold In8;decide,by unfold In8;decide,by unfold In8;decide,by unfold In64;decide,by unfold In64;decide,by unfold In64;decide⟩);have S2:=yH (fun u (h:LedM u G M p10 l12) (k:PB u w.heap.size gb ov0 3 vb8)=>aOt HMy HD HCp h II.out k J8.out ⟨0,1,2,1,7,2,3⟩ ⟨by decide,by unfold In8;decide,by unfold In8;decide,by unfold In8;decide,by unfold In64;decide,by unfold In64;decide,by unfold In64;decide⟩);clear bh L8 P8 B8;have e0:=KH9.out.cell 0;have e1:=KH9.out.cell 1;simp at e0 e1;go_wp2_with fail;generalize w8.alloc (.cells #[.pointer (some ⟨G,0,none⟩),.pointer (some ⟨gb,0,none⟩)] 31)=w9 at *;refine(S1.out _ L9.out P9.out).mono ?_;rintro e w10 (⟨er,hne,her,_⟩|⟨G2,M2,gb2,vb2,a1,c1,σ,N',sq,hσ,rfl,_,hP2,hR,_,_,b10⟩)
 ·exact absurd ((congrArg Prod.fst (lp_pl1 II.out)).symm.trans her).symm hne
 obtain⟨rfl,rfl,rfl⟩:=pl_inj ((lp_pl1 II.out).symm.trans hσ);have bf:=(Below.refl w10.heap.size w10).alloc yL (.cells #[.pointer (some ⟨G2,0,none⟩),.pointer (some ⟨gb2,0,none⟩)] 31);have bb:=b10.trans (bf.mono b10.size);have L10:=yH (L9.out.below bb);have P10:=yH (P9.out.below bb);have KH10:=yB KH9 bb;have KC10:=yH (pAA w10 #[.pointer (some ⟨G2,0,none⟩),.pointer (some ⟨gb2,0,none⟩)] 31);have B10:=yT B9 bb;have HR10:=yH (hR.below bf);have P2:=yH (hP2.below bf);clear b10 bf bb L9 P9 KH9 B9 e0 e1 hσ hP2 hR S1;have e0:=KH10.out.cell 0;have e1:=KH10.out.cell 1;simp at e0 e1;dsimp only[List.length_cons,List.length_nil];go_wp2_with fail;generalize w10.alloc (.cells #[.pointer (some ⟨G2,0,none⟩),.pointer (some ⟨gb2,0,none⟩)] 31)=w11 at *;refine(S2.out _ L10.out P10.out).mono ?_;rintro e w12 (⟨er,hne,her,_⟩|⟨G3,M3,gb3,vb3,a2,c2,σ,N',sq,hσ,rfl,_,_,hR,_,_,b12⟩)
 ·exact absurd ((congrArg Prod.fst (lp_pl2 II.out)).symm.trans her).symm hne
 obtain⟨rfl,rfl,rfl⟩:=pl_inj ((lp_pl2 II.out).symm.trans hσ);have bf:=(Below.refl w12.heap.size w12).alloc yL (.cells #[.pointer (some ⟨G3,0,none⟩),.pointer (some ⟨gb3,0,none⟩)] 31);have bb:=b12.trans (bf.mono b12.size);have KC12:=yB KC10 bb;have B12:=yT B10 bb;have HR12:=yH (HR10.out.below bb);have HS12:=yH (hR.below bf);have P12:=yH (P2.out.below bb);clear b12 bf bb L10 P10 KH10 KC10 B10 HR10 P2 e0 e1 hσ hR S2;dsimp only[List.length_cons,List.length_nil]
 go_upto_region 14 with fail
 generalize w12.alloc (.cells #[.pointer (some ⟨G3,0,none⟩),.pointer (some ⟨gb3,0,none⟩)] 31)=w13 at *;have e0:=KC12.out.cell 0;have e1:=KC12.out.cell 1;simp at e0 e1;have CF:=yH (aIo P12.out (by decide) 3);rw[show aGn (aBg ov3 3)=.tuple #[.agg #[.int .u64 3,.int .u8 1,.int .u8 2,.int .u8 1,.int .i64 2,.int .i64 1,.int .i64 1],.bool true]from rfl]at CF;go_wp2_with fail;refine CF.out.mono ?_;rintro e w14 ⟨rfl,b14⟩;have bf:=(Below.refl w14.heap.size w14).alloc yL (.cells #[.int .u64 3,.int .u8 1,.int .u8 2,.int .u8 1,.int .i64 2,.int .i64 1,.int .i64 1] 48);have bb:=b14.trans (bf.mono b14.size);have KO:=yH (pAA w14 #[.int .u64 3,.int .u8 1,.int .u8 2,.int .u8 1,.int .i64 2,.int .i64 1,.int .i64 1] 48);have HR14:=yH (HR12.out.below bb);have HS14:=yH (HS12.out.below bb);have B14:=yT B12 bb;clear b14 bf bb CF KC12 HR12 HS12 P12 B12 e0 e1
 go_upto_region 15 with fail
 generalize w14.alloc (.cells #[.int .u64 3,.int .u8 1,.int .u8 2,.int .u8 1,.int .i64 2,.int .i64 1,.int .i64 1] 48)=w15 at *;obtain⟨_,_,hv,hc1,hc2,_,hcc⟩:=HR14.out.look
 cases hv
 obtain⟨b,rfl,_,hb,hc,_⟩:=hcc (by decide);have d0:=hc 0 (by decide);have d1:=hc 1 (by decide);have d2:=hc 2 (by decide);have d3:=hc 3 (by decide);have d4:=hc 4 (by decide);obtain⟨_,_,hv,hf1,hf2,_,hff⟩:=HS14.out.look
 cases hv
 obtain⟨b2,rfl,_,hb2,hg,_⟩:=hff (by decide);have f0:=hg 0 (by decide);have f1:=hg 1 (by decide);have f2:=hg 2 (by decide);have f3:=hg 3 (by decide);have f4:=hg 4 (by decide);have f5:=hg 5 (by decide);have f6:=hg 6 (by decide);have f7:=hg 7 (by decide);have f8:=hg 8 (by decide);have f9:=hg 9 (by decide);have o4:=KO.out.cell 4;simp[aCm,Fl.vals,fv1,fv2]at d0 d1 d2 d3 d4 f0 f1 f2 f3 f4 f5 f6 f7 f8 f9 o4;unfold maxLen at hc2 hf2;clear hc hcc hg hff;go_wp2_with fail
 go_quiet (fail)
 have BZ:=yH (B14.out.trans ((below_drewN yZ nq).mono B14.out.size));clear d0 d1 d2 d3 d4 f0 f1 f2 f3 f4 f5 f6 f7 f8 f9 o4;go_wp2_with fail;go_ret;exact⟨rfl,BZ.out⟩
structure Fz where
 a:Nat
 p:Option Addr
 q:Option Addr
 x:Value
 y:Int
 z:Int
abbrev FzP:=Option Addr→Option Addr→Value→Int→Int→World→Prop
def FrI(W:World)(T:TypeId)(P:FzP)(g:Fz)(D:Nat→Bool)(w':World):Prop:=
 Below W.heap.size W w'∧(D 5=true→P g.p g.q g.x g.y g.z w')∧(D 11=true→W.heap.size≤g.a∧(D 12=false→Blk w' g.a #[.pointer none,.pointer none] T)∧(D 12=true→Blk w' g.a #[.pointer g.p,.pointer g.q] T))
def FzL(P:FzP)(T:TypeId):Prop:=(∀p q x y z w w',P p q x y z w→Below w.heap.size w w'→P p q x y z w')∧(∀p q x y z (w:World) a cs,P p q x y z w→Blk w a #[.pointer none,.pointer none] T→P p q x y z (w.setRow a cs))
section
variable{W w' w'':World}{T:TypeId}{P:FzP}{g:Fz}{D:Nat→Bool}
theorem FrI.start(W:World)(T:TypeId)(P:FzP)(g:Fz):FrI W T P g (fun _=>false) W.drew:=⟨yZ.drew,fun h=>(Bool.false_ne_true h).elim,fun h=>(Bool.false_ne_true h).elim⟩
theorem FrI.keep(k:Nat)(h:FrI W T P g D w')(hk:(k==5 || k==11 || k==12)=false):FrI W T P g (ins k D) w':=by
 simp only[Bool.or_eq_false_iff,beq_eq_false_iff_ne]at hk;unfold FrI at h ⊢;rw[show ins k D 5=D 5 by simp[ins];omega,show ins k D 11=D 11 by simp[ins];omega,show ins k D 12=D 12 by simp[ins];omega];exact h
theorem FrI.lay(hP:FzL P T)(h:FrI W T P g D w')(h12:D 12=false):FrI W T P { g with a:=w'.heap.size } (ins 11 D) (w'.alloc (.cells #[.pointer none,.pointer none] T)):=by
 have b:=(Below.refl w'.heap.size w').alloc yL (.cells #[.pointer none,.pointer none] T);obtain⟨a1,a2,_⟩:=h;refine⟨a1.trans (b.mono a1.size),fun q=>?_,fun _=>⟨a1.size,fun _=>pAA _ _ _,fun q=>?_⟩⟩
 ·exact hP.1 _ _ _ _ _ _ _ (a2 (by simpa [ins]using q)) b
 rw[show ins 11 D 12=D 12 by simp[ins],h12]at q
 cases q
theorem FrI.call(h:FrI W T P g D w')(h12:D 12=false)(b:Below w'.heap.size w' w''){p q:Option Addr}{x:Value}{y z:Int}(hp:P p q x y z w''):FrI W T P { g with p:=p,q:=q,x:=x,y:=y,z:=z } (ins 5 D) w'':=by
 obtain⟨a1,_,a3⟩:=h;refine⟨a1.trans (b.mono a1.size),fun _=>hp,fun k=>?_⟩;obtain⟨c1,c2,_⟩:=a3 (by simpa [ins]using k);refine⟨c1,fun _=>(c2 h12).below b (c2 h12).lt,fun k=>?_⟩;rw[show ins 5 D 12=D 12 by simp[ins],h12]at k
 cases k
theorem FrI.fill(hP:FzL P T)(h:FrI W T P g D w')(h11:D 11=true)(h12:D 12=false):FrI W T P g (ins 12 D) (w'.setRow g.a #[.pointer g.p,.pointer g.q]):=by
 obtain⟨a1,a2,a3⟩:=h;obtain⟨c1,c2,_⟩:=a3 h11;have hb:=c2 h12;refine⟨below_setRow a1 c1 _,fun k=>?_,fun _=>⟨c1,fun k=>?_,fun _=>setRow_heap _ g.a _ _ _ (0,0) hb⟩⟩
 ·exact hP.2 _ _ _ _ _ _ _ _ (a2 (by simpa [ins]using k)) hb
 simp[ins]at k
end
def P8(W:World)(ps:List Int)(ls:List Ln)(l:List Of)(N:Int)(y:Of):FzP:=fun p q x s z w'=>
 (z≠0∧(aB0 ps ls l N y.ow y.sl y.bu y.lf y.nu y.de).1=z∧p=none∧q=none∧x=.slice none 0 0∧s=0)∨
 (z=0∧∃(G M gb:Nat) (vb:Value) (a:Option Addr) (c:Nat) (σ:SwS) (N':Int),aB0 ps ls l N y.ow y.sl y.bu y.lf y.nu y.de=(0,σ,N',s)∧p=some ⟨G,0,none⟩∧q=some ⟨gb,0,none⟩∧x=.slice a σ.fs.length c∧LedM w' G M ps σ.ls∧PB w' W.heap.size gb σ.l N' vb∧
  aCl w' W.heap.size 73 5 (.slice a σ.fs.length c) σ.fs.length (aCm y.ow y.ow σ.fs)∧W.heap.size≤G∧W.heap.size≤M)
theorem P8.lasts(W:World)(ps:List Int)(ls:List Ln)(l:List Of)(N:Int)(y:Of):FzL (P8 W ps ls l N y) 31:=by
 refine⟨fun p q x s z w w' h b=>?_,fun p q x s z w a cs h hb=>?_⟩
 ·rcases h with h|⟨hz,G,M,gb,vb,a,c,σ,N',h1,h2,h3,h4,h5,h6,h7,h8⟩
  ·exact .inl h
  exact .inr ⟨hz,G,M,gb,vb,a,c,σ,N',h1,h2,h3,h4,h5.below b,h6.below b,h7.below b,h8⟩
 rcases h with h|⟨hz,G,M,gb,vb,ao,c,σ,N',h1,h2,h3,h4,h5,h6,h7,h8⟩
 ·exact .inl h
 have kk:=aAf (w:=w) a cs
 exact .inr ⟨hz,G,M,gb,vb,ao,c,σ,N',h1,h2,h3,h4,h5.keep kk (aFn h5.blk hb (by decide)) (h5.map.ne_blk hb),h6.keep kk (aFn h6.blk hb (by decide)) (fun b hb'=>aAi h6.row hb (by decide) b hb'),
  h7.keep kk (fun b hb' e=>by
   obtain⟨_,_,cu,hcu⟩:=h7.type hb';subst e;exact absurd (hb.out.symm.trans hcu) (by simp)),h8⟩
theorem P8.of{W w w':World}{ps:List Int}{ls:List Ln}{l:List Of}{N:Int}{y:Of}{e:Ending}(hW:W.heap.size≤w.heap.size)(h:PPlc w ps ls l N y e w'):
  ∃p q x s z,e=.returned (.tuple #[.agg #[.pointer p,.pointer q],x,.int .u64 s,.int .i64 z])∧Below w.heap.size w w'∧P8 W ps ls l N y p q x s z w':=by
 rcases h with⟨er,h1,h2,rfl,b⟩|⟨G,M,gb,vb,a,c,σ,N',s,h1,rfl,h2,h3,h4,h5,h6,b⟩
 ·exact⟨none,none,_,0,er,rfl,b,.inl ⟨h1,h2,rfl,rfl,rfl,rfl⟩⟩
 exact⟨_,_,_,s,0,rfl,b,.inr ⟨rfl,G,M,gb,vb,a,c,σ,N',h1,rfl,rfl,rfl,h2,h3.down12 hW,h4.base hW,Nat.le_trans hW h5,Nat.le_trans hW h6⟩⟩
def P9(W:World)(bl bb:Nat)(ps:List Int)(ls:List Ln)(l:List Of)(N:Int)(y:Of):FzP:=fun p q x s z w'=>
 (z≠0∧(aB0 ps ls l N y.ow y.sl y.bu y.lf y.nu y.de).1=z∧p=none∧q=none∧x=.slice none 0 0∧s=0)∨
 (z=0∧∃(cl cb:Nat) (vp vl vb:Value) (σ:SwS) (N':Int),aB0 ps ls l N y.ow y.sl y.bu y.lf y.nu y.de=(0,σ,N',s)∧p=some ⟨cl,0,none⟩∧q=some ⟨cb,0,none⟩∧RefL w' bl cl ps σ.ls vp vl∧RefB w' bb cb σ.l N' vb∧
  w'.ownsRow W.heap.size 109 5 x σ.fs.length (aCm y.ow y.ow σ.fs)∧W.heap.size≤cl∧W.heap.size≤cb)
theorem P9.lasts(W:World)(bl bb:Nat)(ps:List Int)(ls:List Ln)(l:List Of)(N:Int)(y:Of):FzL (P9 W bl bb ps ls l N y) 36:=by
 refine⟨fun p q x s z w w' h b=>?_,fun p q x s z w a cs h hb=>?_⟩
 ·rcases h with h|⟨hz,cl,cb,vp,vl,vb,σ,N',h1,h2,h3,h4,h5,h6,h7⟩
  ·exact .inl h
  exact .inr ⟨hz,cl,cb,vp,vl,vb,σ,N',h1,h2,h3,h4.below b,h5.below b,aAc h6 b,h7⟩
 rcases h with h|⟨hz,cl,cb,vp,vl,vb,σ,N',h1,h2,h3,h4,h5,h6,h7⟩
 ·exact .inl h
 have kk:=aAf (w:=w) a cs
 exact .inr ⟨hz,cl,cb,vp,vl,vb,σ,N',h1,h2,h3,h4.keep kk (aFn h4.blk hb (by decide)) (fun b hb'=>aAi h4.p hb (by decide) b hb') (fun b hb'=>aAi h4.l hb (by decide) b hb'),h5.keep kk (aFn h5.blk hb (by decide)) (fun b hb'=>aAi h5.row hb (by decide) b hb'),
  aAl h6 kk (fun b hb'=>aAi h6 hb (by decide) b hb'),h7⟩
theorem P9.of{W w w':World}{bl bb:Nat}{ps:List Int}{ls:List Ln}{l:List Of}{N:Int}{y:Of}{e:Ending}(hW:W.heap.size≤w.heap.size)(h:RPlace w bl bb ps ls l N y e w'):
  ∃p q x s z,e=.returned (.tuple #[.agg #[.pointer p,.pointer q],x,.int .u64 s,.int .i64 z])∧Below w.heap.size w w'∧P9 W bl bb ps ls l N y p q x s z w':=by
 rcases h with⟨er,h1,h2,rfl,b⟩|⟨cl,cb,vp,vl,vb,v,σ,N',s,h1,rfl,h2,h3,h4,h5,h6,b⟩
 ·exact⟨none,none,_,0,er,rfl,b,.inl ⟨h1,h2,rfl,rfl,rfl,rfl⟩⟩
 exact⟨_,_,v,s,0,rfl,b,.inr ⟨rfl,cl,cb,vp,vl,vb,σ,N',h1,rfl,rfl,h2,h3,aA4 h4 hW,Nat.le_trans hW h5,Nat.le_trans hW h6⟩⟩
def SP12(W:World)(H Mb len:Nat)(i:Value)(wr:World):Prop:=
 ∃k:Nat,k≤len∧i=.int .i64 k∧∃(G M gb:Nat) (ps:List Int) (ls:List Ln) (l:List Of) (N:Int) (vb:Value) (rl rb:Nat) (vp vl vm:Value) (b1 b2 b3:Nat),LedM wr G M ps ls∧LInv ps ls∧PB wr b1 gb l N vb∧BInv l N∧RefL wr b2 rl ps ls vp vl∧RefB wr b3 rb l N vm∧
  Blk wr H #[.pointer (some ⟨G,0,none⟩),.pointer (some ⟨gb,0,none⟩)] 31∧Blk wr Mb #[.pointer (some ⟨rl,0,none⟩),.pointer (some ⟨rb,0,none⟩)] 36∧Keep (fun j=>j=H∨j=Mb) W wr
theorem aQw(HMy:aE2)(HD:aGq)(HC:aIq)(HL:Lives12)(x:Wd)(a:Option Addr)(len cap:Nat)(zs:List Of)(w:World)(h0:x.In w)(h2:SlIn Of.vals 7 Of.Fits w a len cap zs):
  Calls Tryz.prog 3 #[.agg #[.slice x.a1 x.n1 x.c1,.slice x.a2 x.n2 x.c2],.slice a len cap] w (yR w (.bool true)):=by
 obtain⟨a1,n1,c1,xs,a2,n2,c2,os⟩:=x;obtain⟨hA,hO⟩:=h0;dsimp only at hA hO ⊢;have hcap:=h2.2.2.2.1;have hmax:=h2.2.2.2.2.1;have hz:=h2.2.1;have m1:n1≤maxLen:=Nat.le_trans hA.2.2.1 hA.2.2.2.1;have m2:n2≤maxLen:=Nat.le_trans hO.2.2.2.1 hO.2.2.2.2.1;have b1:=(Below.refl w.heap.size w).alloc yL (.cells #[.slice a1 n1 c1,.slice a2 n2 c2] 25);have KX:=yH (pAA w #[.slice a1 n1 c1,.slice a2 n2 c2] 25);have HA:=yH (hA.below b1);have HO:=yH (hO.below b1);have HZ0:=yH h2;have B1:=yH b1;have HLo:=yH HL;have HGt:=yH (fun w=>aSk (w:=w) a1 a2 n1 n2 c1 c2 m1 m2);unfold maxLen at hmax;clear b1 hA hO h2 m1 m2 HL;go_enter Tryz.func3,Tryz.ntmps3
 go_upto_region 1 with fail
 generalize w.alloc (.cells #[.slice a1 n1 c1,.slice a2 n2 c2] 25)=W at *;have x0:=KX.out.cell 0;have x1:=KX.out.cell 1;simp at x0 x1;go_wp2_with fail;refine(HGt.out _).mono ?_;rintro e w_1 ⟨rfl,b⟩;clear x0 x1;have X_2:=yB KX b;have I_3:=yH (HA.out.below b);have J_4:=yH (HO.out.below b);have B_5:=yT B1 b;clear KX HA HO B1;clear b;clear HGt
 by_cases hgt:120<n1∨40<n2
 ·rw[decide_eq_true hgt];go_wp2_with fail;refine(HLo.out _).mono ?_;rintro e w_6 ⟨rfl,b⟩;have B_10:=yT B_5 b;clear X_2 I_3 J_4 B_5;clear b;go_wp2_with fail;go_ret;exact⟨rfl,B_10.out⟩
 rw[decide_eq_false hgt]
 by_cases hlen:8<len
 ·have q1:decide ((8:Int)<(len:Int))=true:=by simp;omega
  go_wp2_with fail;refine(HLo.out _).mono ?_;rintro e w_11 ⟨rfl,b⟩;have B_15:=yT B_5 b;clear X_2 I_3 J_4 B_5;clear b;go_wp2_with fail;go_ret;exact⟨rfl,B_15.out⟩
 have q1:decide ((8:Int)<(len:Int))=false:=by simp;omega
 have CM:=yH (made10_any I_3.out J_4.out (by omega) (by omega));have x0:=X_2.out.cell 0;have x1:=X_2.out.cell 1;simp at x0 x1;go_wp2_with fail;refine CM.out.mono ?_;rintro e w2 ⟨G,M,gb,ps,ls,l,N,vl,rfl,hL,hI,hG1,hM1,hP,hJ,hN,hgG,hgM,hvl,b2,hac,hof⟩;have GH:=yH (Nat.le_trans B_5.out.size b2.size);clear x0 x1;have X_16:=yB X_2 b2;have I_17:=yH (I_3.out.below b2);have J_18:=yH (J_4.out.below b2);have B_19:=yT B_5 b2;clear X_2 I_3 J_4 B_5;have L0:=yH hL;have P0:=yH hP;have II:=yH hI;have JJ:=yH hJ;have AC:=yH hac;have OC:=yH hof;clear hL hI hG1 hM1 hP hJ hN hgG hgM hvl hac hof b2 CM;have bf:=(Below.refl w2.heap.size w2).alloc yL (.cells #[.pointer (some ⟨G,0,none⟩),.pointer (some ⟨gb,0,none⟩)] 31);have H0:=yH (pAA w2 #[.pointer (some ⟨G,0,none⟩),.pointer (some ⟨gb,0,none⟩)] 31);have X_20:=yB X_16 bf;have I_21:=yH (I_17.out.below bf);have J_22:=yH (J_18.out.below bf);have B_23:=yT B_19 bf;have L_24:=yH (L0.out.below bf);have P_25:=yH (P0.out.below bf);clear X_16 I_17 J_18 B_19 L0 P0;clear bf;have CD:=yH (aSm I_21.out J_22.out (by omega) (by omega));have x0:=X_20.out.cell 0;have x1:=X_20.out.cell 1;simp at x0 x1;go_wp2_with fail;refine CD.out.mono ?_;rintro e w3 ⟨rl,rb,ps',ls',vp,vm,l',N',vr,rfl,hR,_,hE,_,b3,hac,hof⟩;obtain⟨rfl,rfl⟩:=Prod.mk.inj (AC.out.symm.trans hac);obtain⟨rfl,rfl⟩:=Prod.mk.inj (OC.out.symm.trans hof);have GM:=yH (Nat.le_trans B_23.out.size b3.size);clear x0 x1;have B_26:=yT B_23 b3;have L_27:=yH (L_24.out.below b3);have P_28:=yH (P_25.out.below b3);have H_29:=yB H0 b3;clear X_20 I_21 J_22 B_23 L_24 P_25 H0;have R0:=yH hR;have E0:=yH hE;clear hR hE hac hof b3 CD AC OC;have bf:=(Below.refl w3.heap.size w3).alloc yL (.cells #[.pointer (some ⟨rl,0,none⟩),.pointer (some ⟨rb,0,none⟩)] 36);have M0:=yH (pAA w3 #[.pointer (some ⟨rl,0,none⟩),.pointer (some ⟨rb,0,none⟩)] 36);have B_30:=yT B_26 bf;have L_31:=yH (L_27.out.below bf);have P_32:=yH (P_28.out.below bf);have H_33:=yB H_29 bf;have R_34:=yH (R0.out.below bf);have E_35:=yH (E0.out.below bf);clear B_26 L_27 P_28 H_29 R0 E0;clear bf;have NE:Hid (w2.heap.size≠w3.heap.size):=yH (fun e=>by have h1:=H_33.out;have h2:=M0.out;rw[e]at h1;have h3:=aFn h1 h2 (by decide);exact h3 rfl);go_wp2_with fail;generalize w3.alloc (.cells #[.pointer (some ⟨rl,0,none⟩),.pointer (some ⟨rb,0,none⟩)] 36)=W6 at *
 go_loopw [7,8,9,10,11,12,13,14,15] (fun i _ _ _ _ _ _ _ _ wr=>SP12 W6 w2.heap.size w3.heap.size len i wr) (fun i _ _ _ _ _ _ _ _ _=>len - (intOf i).toNat)
 case atStart=>exact⟨0,Nat.zero_le _,rfl,G,M,gb,ps,ls,l,N,vl,rl,rb,vp,vm,vr,_,_,_,L_31.out,II.out,P_32.out,JJ.out,R_34.out,E_35.out,H_33.out,M0.out,Keep.refl _ _⟩
 clear L_31 P_32 R_34 E_35 H_33 M0 II JJ;obtain⟨k,hk,rfl,G,M,gb,ps,ls,l,N,vb,rl,rb,vp,vl,vm,b1,b2,b3,hL,hI,hP,hJ,hR,hE,hH,hM,hK⟩:=hrel;have BW:=yH (B_30.out.trans (hK.below B_30.out.size (fun j hj h=>by have:=GH.out;have:=GM.out;omega)));have L1:=yH hL;have P1:=yH hP;have R1:=yH hR;have E1:=yH hE;have H1:=yH hH;have M1:=yH hM;have KK1:=yH hK;have I1:=yH hI;have J1:=yH hJ;clear hL hI hP hJ hR hE hH hM hK B_30
 by_cases hkl:k<len
 ·skip
  have hki:(k:Int)<(len:Int):=by omega
  have hk0:(0:Int)≤(k:Int):=by omega
  have hzr:=HZ0.out.below BW.out;obtain⟨ob,off,rfl,hbl,d0,d1,d2,d3,d4,d5,d6⟩:=hzr.off (i:=k) (by omega)
  have HZF:=yH (show ∀w',Below wr.heap.size wr w'→ob<w'.heap.size∧w'.cell? ⟨ob,off+k*7,none⟩=some (.int .u64 zs[k].se)∧w'.cell? ⟨ob,off+k*7+1,none⟩=some (.int .u8 zs[k].ow)∧w'.cell? ⟨ob,off+k*7+2,none⟩=some (.int .u8 zs[k].sl)∧w'.cell? ⟨ob,off+k*7+3,none⟩=some (.int .u8 zs[k].bu)∧w'.cell? ⟨ob,off+k*7+4,none⟩=some (.int .i64 zs[k].lf)∧w'.cell? ⟨ob,off+k*7+5,none⟩=some (.int .i64 zs[k].nu)∧w'.cell? ⟨ob,off+k*7+6,none⟩=some (.int .i64 zs[k].de)from fun w' h=>by
   have kk:=pAE (S:=fun _=>False) h;refine⟨yM hbl h.size,?_,?_,?_,?_,?_,?_,?_⟩
   ·rw[kk.cell (p:=⟨ob,off+k*7,none⟩) hbl id];exact d0
   ·rw[kk.cell (p:=⟨ob,off+k*7+1,none⟩) hbl id];exact d1
   ·rw[kk.cell (p:=⟨ob,off+k*7+2,none⟩) hbl id];exact d2
   ·rw[kk.cell (p:=⟨ob,off+k*7+3,none⟩) hbl id];exact d3
   ·rw[kk.cell (p:=⟨ob,off+k*7+4,none⟩) hbl id];exact d4
   ·rw[kk.cell (p:=⟨ob,off+k*7+5,none⟩) hbl id];exact d5
   ·rw[kk.cell (p:=⟨ob,off+k*7+6,none⟩) hbl id];exact d6
   )
  have hy:=HZ0.out.2.2.1 zs[k] (List.getElem_mem _);clear hzr hbl d0 d1 d2 d3 d4 d5 d6;generalize hye:zs[k]=y at *;clear hye;have HY:=yH hy;have HK:=yH hkl;clear hy hkl;have LT0:=yH (And.intro H1.out.lt M1.out.lt);have LA8:=yH (P8.lasts wr ps ls l N y);have CA:=yH (fun w' (h:Below wr.heap.size wr w')=>aOt HMy HD HC (L1.out.below h) I1.out (P1.out.below h) J1.out y HY.out);go_wp2_with fail
  refine aD3 (by kernel_rfl) (fun g:Fz=>[(.agg #[.pointer (some ⟨G,0,none⟩),.pointer (some ⟨gb,0,none⟩)]),(.slice (some ⟨ob,off,none⟩) len cap),(.int .i64 k),(.pointer (some ⟨ob,off+k*7,none⟩)),(.agg #[.int .u64 y.se,.int .u8 y.ow,.int .u8 y.sl,.int .u8 y.bu,.int .i64 y.lf,.int .i64 y.nu,.int .i64 y.de]),(.tuple #[.agg #[.pointer g.p,.pointer g.q],g.x,.int .u64 g.y,.int .i64 g.z]),(.tuple #[.agg #[.pointer g.p,.pointer g.q],g.x,.int .u64 g.y,.int .i64 g.z]),(.agg #[.pointer g.p,.pointer g.q]),g.x,(.int .u64 g.y),(.int .i64 g.z),(.pointer (some ⟨g.a,0,none⟩)),undef,g.x,(.int .u64 g.y),(.int .i64 g.z)])
   (FrI wr 31 (P8 wr ps ls l N y)) (by kernel_rfl) ⟨0,none,none,undef,0,0⟩ (FrI.start _ _ _ _) ?_
  intro AF hAF;simp only[yG,List.append_eq,List.cons_append,List.nil_append,puts,Act.put,yA,yC,yF,yD,yE]at hAF;have hAF2:_=AF:=funext hAF;subst hAF2;clear hAF;refine⟨?_,?_⟩
  ·simp only[yG,List.append_eq,List.cons_append,List.nil_append,aL4];refine⟨?_,?_,?_,?_,?_,?_,?_,?_,?_,?_,?_,?_,?_,?_,?_,?_,trivial⟩
   ·intro g D w' hD hW hC hI;refine .inl ⟨g,fun _ _ _=>rfl,?_⟩;with_reducible refine yO rfl ?_
    have hk:=H1.out.below hI.1 H1.out.lt;have e0:=hk.cell 0;have e1:=hk.cell 1;simp at e0 e1;clear hk;have HS:=yH (hI.keep 0 rfl);clear hI hC hW hD;go_wp2_with fail;all_goals first|exact HS|exact⟨rfl,HS⟩|rfl
   ·intro g D w' hD hW hC hI;refine .inl ⟨g,fun _ _ _=>rfl,?_⟩;with_reducible refine yO rfl ?_
    have HS:=yH (hI.keep 1 rfl);clear hI hC hW hD;go_wp2_with fail;all_goals first|exact HS|exact⟨rfl,HS⟩|rfl
   ·intro g D w' hD hW hC hI;refine .inl ⟨g,fun _ _ _=>rfl,?_⟩;with_reducible refine yO rfl ?_
    have HS:=yH (hI.keep 2 rfl);clear hI hC hW hD;go_wp2_with fail;all_goals first|exact HS|exact⟨rfl,HS⟩|rfl
   ·intro g D w' hD hW hC hI;refine .inl ⟨g,fun _ _ _=>rfl,?_⟩;with_reducible refine yO rfl ?_
    have ob:=HZF.out w' hI.1;obtain⟨hbl,e0,e1,e2,e3,e4,e5,e6⟩:=ob;have HS:=yH (hI.keep 3 rfl);clear hI hC hW hD;go_wp2_with fail;all_goals first|exact HS|exact⟨rfl,HS⟩|rfl
   ·intro g D w' hD hW hC hI;refine .inl ⟨g,fun _ _ _=>rfl,?_⟩;with_reducible refine yO rfl ?_
    have ob:=HZF.out w' hI.1;obtain⟨hbl,e0,e1,e2,e3,e4,e5,e6⟩:=ob;have HS:=yH (hI.keep 4 rfl);clear hI hC hW hD;go_wp2_with fail;all_goals first|exact HS|exact⟨rfl,HS⟩|rfl
   ·intro g D w' hD hW hC hI;have h12:=aAg hC hD 12 (by kernel_rfl);have n6:=aAg hC hD 6 (by kernel_rfl);have n7:=aAg hC hD 7 (by kernel_rfl);have n8:=aAg hC hD 8 (by kernel_rfl);have n9:=aAg hC hD 9 (by kernel_rfl);have n10:=aAg hC hD 10 (by kernel_rfl);have n13:=aAg hC hD 13 (by kernel_rfl);have n14:=aAg hC hD 14 (by kernel_rfl);have n15:=aAg hC hD 15 (by kernel_rfl);refine .inr ?_;with_reducible refine aD2.plain ?_ ?_
    exact rfl;have HI:=yH hI;have HC:=yH (CA.out w' hI.1);have NN_:=yH (And.intro hD (And.intro h12 (And.intro n6 (And.intro n7 (And.intro n8 (And.intro n9 (And.intro n10 (And.intro n13 (And.intro n14 n15)))))))));have SZ_:=yH hI.1.size;clear hI hC hW hD h12 n6 n7 n8 n9 n10 n13 n14 n15;go_wp2_with fail;refine HC.out.mono ?_;rintro e w'' hpp;obtain⟨p,q,x,s,z,rfl,hb2,hp⟩:=P8.of SZ_.out hpp;refine⟨_,rfl,{ g with p:=p,q:=q,x:=x,y:=s,z:=z },fun j hj hjD=>?_,rfl,HI.out.call NN_.out.2.1 hb2 hp⟩;obtain⟨hD,h12,n6,n7,n8,n9,n10,n13,n14,n15⟩:=NN_.out;rcases(by have:j<16:=hj;omega:j=0∨j=1∨j=2∨j=3∨j=4∨j=5∨j=6∨j=7∨j=8∨j=9∨j=10∨j=11∨j=12∨j=13∨j=14∨j=15)with rfl|rfl|rfl|rfl|rfl|rfl|rfl|rfl|rfl|rfl|rfl|rfl|rfl|rfl|rfl|rfl
    all_goals first|rfl|exact absurd (hD.symm.trans hjD) (by decide)|exact absurd (n6.symm.trans hjD) (by decide)|exact absurd (n7.symm.trans hjD) (by decide)|exact absurd (n8.symm.trans hjD) (by decide)|exact absurd (n9.symm.trans hjD) (by decide)|exact absurd (n10.symm.trans hjD) (by decide)|exact absurd (n13.symm.trans hjD) (by decide)|exact absurd (n14.symm.trans hjD) (by decide)|exact absurd (n15.symm.trans hjD) (by decide)
   ·intro g D w' hD hW hC hI;refine .inl ⟨g,fun _ _ _=>rfl,?_⟩;with_reducible refine yO rfl ?_
    have HS:=yH (hI.keep 6 rfl);clear hI hC hW hD;go_wp2_with fail;all_goals first|exact HS|exact⟨rfl,HS⟩|rfl
   ·intro g D w' hD hW hC hI;refine .inl ⟨g,fun _ _ _=>rfl,?_⟩;with_reducible refine yO rfl ?_
    have HS:=yH (hI.keep 7 rfl);clear hI hC hW hD;go_wp2_with fail;all_goals first|exact HS|exact⟨rfl,HS⟩|rfl
   ·intro g D w' hD hW hC hI;refine .inl ⟨g,fun _ _ _=>rfl,?_⟩;with_reducible refine yO rfl ?_
    have HS:=yH (hI.keep 8 rfl);clear hI hC hW hD;go_wp2_with fail;all_goals first|exact HS|exact⟨rfl,HS⟩|rfl
   ·intro g D w' hD hW hC hI;refine .inl ⟨g,fun _ _ _=>rfl,?_⟩;with_reducible refine yO rfl ?_
    have HS:=yH (hI.keep 9 rfl);clear hI hC hW hD;go_wp2_with fail;all_goals first|exact HS|exact⟨rfl,HS⟩|rfl
   ·intro g D w' hD hW hC hI;refine .inl ⟨g,fun _ _ _=>rfl,?_⟩;with_reducible refine yO rfl ?_
    have HS:=yH (hI.keep 10 rfl);clear hI hC hW hD;go_wp2_with fail;all_goals first|exact HS|exact⟨rfl,HS⟩|rfl
   ·intro g D w' hD hW hC hI;have h12:=aAg hC hD 12 (by kernel_rfl);refine .inl ⟨{ g with a:=w'.heap.size },fun j hj hjD=>?_,?_⟩
    ·rcases(by have:j<16:=hj;omega:j=0∨j=1∨j=2∨j=3∨j=4∨j=5∨j=6∨j=7∨j=8∨j=9∨j=10∨j=11∨j=12∨j=13∨j=14∨j=15)with rfl|rfl|rfl|rfl|rfl|rfl|rfl|rfl|rfl|rfl|rfl|rfl|rfl|rfl|rfl|rfl
     all_goals first|rfl|exact absurd (hD.symm.trans hjD) (by decide)
    with_reducible refine yO rfl ?_
    have HS:=yH (hI.lay LA8.out h12);clear hI hC hW hD h12;go_wp2_with fail;all_goals first|exact HS|exact⟨rfl,HS⟩|rfl
   ·intro g D w' hD hW hC hI;refine .inl ⟨g,fun _ _ _=>rfl,?_⟩;with_reducible refine yO rfl ?_
    have h11:D 11=true:=aA8 hC hW (by kernel_rfl);have HS:=yH (hI.fill LA8.out h11 hD);have hk:=(hI.2.2 h11).2.1 hD;refine wp_store_row 31 (.tmp 8) (.tmp 41) rfl g.a #[.pointer g.p,.pointer g.q] rfl rfl 31 _ hk (by kernel_rfl) rfl (by simp[Value.oneCell']) ⟨rfl,?_⟩;exact HS.out
   ·intro g D w' hD hW hC hI;refine .inl ⟨g,fun _ _ _=>rfl,?_⟩;with_reducible refine yO rfl ?_
    have HS:=yH (hI.keep 13 rfl);clear hI hC hW hD;go_wp2_with fail;all_goals first|exact HS|exact⟨rfl,HS⟩|rfl
   ·intro g D w' hD hW hC hI;refine .inl ⟨g,fun _ _ _=>rfl,?_⟩;with_reducible refine yO rfl ?_
    have HS:=yH (hI.keep 14 rfl);clear hI hC hW hD;go_wp2_with fail;all_goals first|exact HS|exact⟨rfl,HS⟩|rfl
   intro g D w' hD hW hC hI;refine .inl ⟨g,fun _ _ _=>rfl,?_⟩;with_reducible refine yO rfl ?_
   have HS:=yH (hI.keep 15 rfl);clear hI hC hW hD;go_wp2_with fail;all_goals first|exact HS|exact⟨rfl,HS⟩|rfl
  intro g8 D8 w8 hall hI8;obtain⟨b8,hp8,hq8⟩:=hI8;have HP8:=yH (hp8 (hall 5 (by decide)));have KF:=yH ((hq8 (hall 11 (by decide))).2.2 (hall 12 (by decide)));have GA8:=yH ((hq8 (hall 11 (by decide))).1);obtain⟨a8,p8,q8,x8,y8,z8⟩:=g8;dsimp only at HP8 KF GA8 ⊢;have S8:=yH b8.size;have HZ8:=yH (fun w' (h:Below w8.heap.size w8 w')=>HZF.out w' (andB b8 h));clear hp8 hq8 hall HZF CA LA8;have L_36:=yH (L1.out.below b8);have P_37:=yH (P1.out.below b8);have R_38:=yH (R1.out.below b8);have E_39:=yH (E1.out.below b8);have H_40:=yB H1 b8;have M_41:=yB M1 b8;have K_42:=yH (KK1.out.trans (pAE b8));clear L1 P1 R1 E1 H1 M1 KK1 BW;clear b8;have HZF:=HZ8;clear HZ8;have LA9:=yH (P9.lasts w8 b2 b3 ps ls l N y);have LA8:=yH (P8.lasts wr ps ls l N y);have CB:=yH (fun w' (h:Below w8.heap.size w8 w')=>aQh (R_38.out.below h) I1.out (E_39.out.below h) J1.out y HY.out.ow HY.out.lf (by have:=I1.out.len10;omega));go_wp2_with fail
  refine aD3 (by kernel_rfl) (fun g:Fz=>[(.agg #[.pointer (some ⟨rl,0,none⟩),.pointer (some ⟨rb,0,none⟩)]),(.slice (some ⟨ob,off,none⟩) len cap),(.int .i64 k),(.pointer (some ⟨ob,off+k*7,none⟩)),(.agg #[.int .u64 y.se,.int .u8 y.ow,.int .u8 y.sl,.int .u8 y.bu,.int .i64 y.lf,.int .i64 y.nu,.int .i64 y.de]),(.tuple #[.agg #[.pointer g.p,.pointer g.q],g.x,.int .u64 g.y,.int .i64 g.z]),(.tuple #[.agg #[.pointer g.p,.pointer g.q],g.x,.int .u64 g.y,.int .i64 g.z]),(.agg #[.pointer g.p,.pointer g.q]),g.x,(.int .u64 g.y),(.int .i64 g.z),(.pointer (some ⟨g.a,0,none⟩)),undef,g.x,(.int .u64 g.y),(.int .i64 g.z)])
   (FrI w8 36 (P9 w8 b2 b3 ps ls l N y)) (by kernel_rfl) ⟨0,none,none,undef,0,0⟩ (FrI.start _ _ _ _) ?_
  intro AF hAF;simp only[yG,List.append_eq,List.cons_append,List.nil_append,puts,Act.put,yA,yC,yF,yD,yE]at hAF;have hAF2:_=AF:=funext hAF;subst hAF2;clear hAF;refine⟨?_,?_⟩
  ·simp only[yG,List.append_eq,List.cons_append,List.nil_append,aL4];refine⟨?_,?_,?_,?_,?_,?_,?_,?_,?_,?_,?_,?_,?_,?_,?_,?_,trivial⟩
   ·intro g D w' hD hW hC hI;refine .inl ⟨g,fun _ _ _=>rfl,?_⟩;with_reducible refine yO rfl ?_
    have hk:=M_41.out.below hI.1 M_41.out.lt;have e0:=hk.cell 0;have e1:=hk.cell 1;simp at e0 e1;clear hk;have HS:=yH (hI.keep 0 rfl);clear hI hC hW hD;go_wp2_with fail;all_goals first|exact HS|exact⟨rfl,HS⟩|rfl
   ·intro g D w' hD hW hC hI;refine .inl ⟨g,fun _ _ _=>rfl,?_⟩;with_reducible refine yO rfl ?_
    have HS:=yH (hI.keep 1 rfl);clear hI hC hW hD;go_wp2_with fail;all_goals first|exact HS|exact⟨rfl,HS⟩|rfl
   ·intro g D w' hD hW hC hI;refine .inl ⟨g,fun _ _ _=>rfl,?_⟩;with_reducible refine yO rfl ?_
    have HS:=yH (hI.keep 2 rfl);clear hI hC hW hD;go_wp2_with fail;all_goals first|exact HS|exact⟨rfl,HS⟩|rfl
   ·intro g D w' hD hW hC hI;refine .inl ⟨g,fun _ _ _=>rfl,?_⟩;with_reducible refine yO rfl ?_
    have ob:=HZF.out w' hI.1;obtain⟨hbl,e0,e1,e2,e3,e4,e5,e6⟩:=ob;have HS:=yH (hI.keep 3 rfl);clear hI hC hW hD;go_wp2_with fail;all_goals first|exact HS|exact⟨rfl,HS⟩|rfl
   ·intro g D w' hD hW hC hI;refine .inl ⟨g,fun _ _ _=>rfl,?_⟩;with_reducible refine yO rfl ?_
    have ob:=HZF.out w' hI.1;obtain⟨hbl,e0,e1,e2,e3,e4,e5,e6⟩:=ob;have HS:=yH (hI.keep 4 rfl);clear hI hC hW hD;go_wp2_with fail;all_goals first|exact HS|exact⟨rfl,HS⟩|rfl
   ·intro g D w' hD hW hC hI;have h12:=aAg hC hD 12 (by kernel_rfl);have n6:=aAg hC hD 6 (by kernel_rfl);have n7:=aAg hC hD 7 (by kernel_rfl);have n8:=aAg hC hD 8 (by kernel_rfl);have n9:=aAg hC hD 9 (by kernel_rfl);have n10:=aAg hC hD 10 (by kernel_rfl);have n13:=aAg hC hD 13 (by kernel_rfl);have n14:=aAg hC hD 14 (by kernel_rfl);have n15:=aAg hC hD 15 (by kernel_rfl);refine .inr ?_;with_reducible refine aD2.plain ?_ ?_
    exact rfl;have HI:=yH hI;have HC:=yH (CB.out w' hI.1);have NN_:=yH (And.intro hD (And.intro h12 (And.intro n6 (And.intro n7 (And.intro n8 (And.intro n9 (And.intro n10 (And.intro n13 (And.intro n14 n15)))))))));have SZ_:=yH hI.1.size;clear hI hC hW hD h12 n6 n7 n8 n9 n10 n13 n14 n15;go_wp2_with fail;refine HC.out.mono ?_;rintro e w'' hpp;obtain⟨p,q,x,s,z,rfl,hb2,hp⟩:=P9.of SZ_.out hpp;refine⟨_,rfl,{ g with p:=p,q:=q,x:=x,y:=s,z:=z },fun j hj hjD=>?_,rfl,HI.out.call NN_.out.2.1 hb2 hp⟩;obtain⟨hD,h12,n6,n7,n8,n9,n10,n13,n14,n15⟩:=NN_.out;rcases(by have:j<16:=hj;omega:j=0∨j=1∨j=2∨j=3∨j=4∨j=5∨j=6∨j=7∨j=8∨j=9∨j=10∨j=11∨j=12∨j=13∨j=14∨j=15)with rfl|rfl|rfl|rfl|rfl|rfl|rfl|rfl|rfl|rfl|rfl|rfl|rfl|rfl|rfl|rfl
    all_goals first|rfl|exact absurd (hD.symm.trans hjD) (by decide)|exact absurd (n6.symm.trans hjD) (by decide)|exact absurd (n7.symm.trans hjD) (by decide)|exact absurd (n8.symm.trans hjD) (by decide)|exact absurd (n9.symm.trans hjD) (by decide)|exact absurd (n10.symm.trans hjD) (by decide)|exact absurd (n13.symm.trans hjD) (by decide)|exact absurd (n14.symm.trans hjD) (by decide)|exact absurd (n15.symm.trans hjD) (by decide)
   ·intro g D w' hD hW hC hI;refine .inl ⟨g,fun _ _ _=>rfl,?_⟩;with_reducible refine yO rfl ?_
    have HS:=yH (hI.keep 6 rfl);clear hI hC hW hD;go_wp2_with fail;all_goals first|exact HS|exact⟨rfl,HS⟩|rfl
   ·intro g D w' hD hW hC hI;refine .inl ⟨g,fun _ _ _=>rfl,?_⟩;with_reducible refine yO rfl ?_
    have HS:=yH (hI.keep 7 rfl);clear hI hC hW hD;go_wp2_with fail;all_goals first|exact HS|exact⟨rfl,HS⟩|rfl
   ·intro g D w' hD hW hC hI;refine .inl ⟨g,fun _ _ _=>rfl,?_⟩;with_reducible refine yO rfl ?_
    have HS:=yH (hI.keep 8 rfl);clear hI hC hW hD;go_wp2_with fail;all_goals first|exact HS|exact⟨rfl,HS⟩|rfl
   ·intro g D w' hD hW hC hI;refine .inl ⟨g,fun _ _ _=>rfl,?_⟩;with_reducible refine yO rfl ?_
    have HS:=yH (hI.keep 9 rfl);clear hI hC hW hD;go_wp2_with fail;all_goals first|exact HS|exact⟨rfl,HS⟩|rfl
   ·intro g D w' hD hW hC hI;refine .inl ⟨g,fun _ _ _=>rfl,?_⟩;with_reducible refine yO rfl ?_
    have HS:=yH (hI.keep 10 rfl);clear hI hC hW hD;go_wp2_with fail;all_goals first|exact HS|exact⟨rfl,HS⟩|rfl
   ·intro g D w' hD hW hC hI;have h12:=aAg hC hD 12 (by kernel_rfl);refine .inl ⟨{ g with a:=w'.heap.size },fun j hj hjD=>?_,?_⟩
    ·rcases(by have:j<16:=hj;omega:j=0∨j=1∨j=2∨j=3∨j=4∨j=5∨j=6∨j=7∨j=8∨j=9∨j=10∨j=11∨j=12∨j=13∨j=14∨j=15)with rfl|rfl|rfl|rfl|rfl|rfl|rfl|rfl|rfl|rfl|rfl|rfl|rfl|rfl|rfl|rfl
     all_goals first|rfl|exact absurd (hD.symm.trans hjD) (by decide)
    with_reducible refine yO rfl ?_
    have HS:=yH (hI.lay LA9.out h12);clear hI hC hW hD h12;go_wp2_with fail;all_goals first|exact HS|exact⟨rfl,HS⟩|rfl
   ·intro g D w' hD hW hC hI;refine .inl ⟨g,fun _ _ _=>rfl,?_⟩;with_reducible refine yO rfl ?_
    have h11:D 11=true:=aA8 hC hW (by kernel_rfl);have HS:=yH (hI.fill LA9.out h11 hD);have hk:=(hI.2.2 h11).2.1 hD;refine wp_store_row 36 (.tmp 12) (.tmp 52) rfl g.a #[.pointer g.p,.pointer g.q] rfl rfl 36 _ hk (by kernel_rfl) rfl (by simp[Value.oneCell']) ⟨rfl,?_⟩;exact HS.out
   ·intro g D w' hD hW hC hI;refine .inl ⟨g,fun _ _ _=>rfl,?_⟩;with_reducible refine yO rfl ?_
    have HS:=yH (hI.keep 13 rfl);clear hI hC hW hD;go_wp2_with fail;all_goals first|exact HS|exact⟨rfl,HS⟩|rfl
   ·intro g D w' hD hW hC hI;refine .inl ⟨g,fun _ _ _=>rfl,?_⟩;with_reducible refine yO rfl ?_
    have HS:=yH (hI.keep 14 rfl);clear hI hC hW hD;go_wp2_with fail;all_goals first|exact HS|exact⟨rfl,HS⟩|rfl
   intro g D w' hD hW hC hI;refine .inl ⟨g,fun _ _ _=>rfl,?_⟩;with_reducible refine yO rfl ?_
   have HS:=yH (hI.keep 15 rfl);clear hI hC hW hD;go_wp2_with fail;all_goals first|exact HS|exact⟨rfl,HS⟩|rfl
  intro g9 D9 w9 hall hI9;obtain⟨b9,hp9,hq9⟩:=hI9;have HP9:=yH (hp9 (hall 5 (by decide)));have KG:=yH ((hq9 (hall 11 (by decide))).2.2 (hall 12 (by decide)));have GA9:=yH ((hq9 (hall 11 (by decide))).1);obtain⟨a9,p9,q9,x9,y9,z9⟩:=g9;dsimp only at HP9 KG GA9 ⊢;have S9:=yH b9.size;have HP8b:=yH (LA8.out.1 _ _ _ _ _ _ _ HP8.out b9);clear hp9 hq9 hall HZF CB LA8 LA9 HP8;have L_44:=yH (L_36.out.below b9);have P_45:=yH (P_37.out.below b9);have R_46:=yH (R_38.out.below b9);have E_47:=yH (E_39.out.below b9);have H_48:=yB H_40 b9;have M_49:=yB M_41 b9;have K_50:=yH (K_42.out.trans (pAE b9));have F_52:=yB KF b9;clear L_36 P_37 R_38 E_39 H_40 M_41 K_42 KF;clear b9;obtain⟨t1,t2⟩:=LT0.out;have t3:=S8.out;have t4:=S9.out;have t5:=GA8.out;have t6:=GA9.out;have FLT:=yH (show w2.heap.size<wr.heap.size∧w3.heap.size<wr.heap.size∧wr.heap.size≤a8∧w8.heap.size≤a9∧wr.heap.size≤w8.heap.size∧a8<w9.heap.size∧a9<w9.heap.size from⟨t1,t2,t5,t6,t3,F_52.out.lt,KG.out.lt⟩);clear t1 t2 t3 t4 t5 t6 LT0 S8 S9 GA8 GA9;have hl3:l.length≤1000:=by have:=J1.out.len;omega
  have hp3:ps.length≤100000:=by have:=I1.out.len10;omega
  rcases HP8b.out with⟨hz,her,rfl,rfl,rfl,rfl⟩|⟨rfl,G2,M2,gb2,vb2,sa,sk,σ,N2,hσ,rfl,rfl,rfl,hL2,hP2,hR2,hg2,hm2⟩
  ·skip
   rcases HP9.out with⟨hz2,her2,rfl,rfl,rfl,rfl⟩|⟨rfl,_,_,_,_,_,σ,N2,hσ,_⟩
   rotate_left
   ·rw[hσ]at her;exact absurd her.symm hz
   obtain rfl:=her.symm.trans her2;have HNE:=yH hz;clear hz hz2 her her2 HP8b HP9;have qn:(z8 != 0)=true:=by have:=HNE.out;simpa using this
   have CS:=yH (fun w=>aIr (w:=w) (ao:=none) (bo:=none) (c1:=0) (c2:=0) (tk:=0) (pt:=0) (fs:=[]) (fun k hk=>absurd hk (by simp)) (fun k hk=>absurd hk (by simp)) (by decide));simp only[List.length_nil]at CS;go_wp2_with fail;refine(CS.out _).mono ?_;rintro e w_53 ⟨rfl,b⟩;have L_54:=yH (L_44.out.below b);have P_55:=yH (P_45.out.below b);have R_56:=yH (R_46.out.below b);have E_57:=yH (E_47.out.below b);have H_58:=yB H_48 b;have M_59:=yB M_49 b;have K_60:=yH (K_50.out.trans (pAE b));have F_62:=yB F_52 b;clear L_44 P_45 R_46 E_47 H_48 M_49 K_50 F_52 KG;clear b;clear CS;have CC:=yH (aJb L_54.out I1.out P_55.out R_56.out E_57.out hp3 hl3);have h0:=H_58.out.cell 0;have h1:=H_58.out.cell 1;simp at h0 h1;have m0:=M_59.out.cell 0;have m1:=M_59.out.cell 1;simp at m0 m1;go_wp2_with fail;refine(CC.out).mono ?_;rintro e w_64 ⟨rfl,b⟩;clear h0 h1 m0 m1;have L_65:=yH (L_54.out.below b);have P_66:=yH (P_55.out.below b);have R_67:=yH (R_56.out.below b);have E_68:=yH (E_57.out.below b);have H_69:=yB H_58 b;have M_70:=yB M_59 b;have K_71:=yH (K_60.out.trans (pAE b));have F_73:=yB F_62 b;clear L_54 P_55 R_56 E_57 H_58 M_59 K_60 F_62;clear b;clear CC hl3 hp3;have f0:=F_73.out.cell 0;have f1:=F_73.out.cell 1;simp at f0 f1;go_wp2_with fail;exact⟨⟨k+1,by have:=HK.out;omega,by go_num,G,M,gb,ps,ls,l,N,vb,rl,rb,vp,vl,vm,_,_,_,L_65.out,I1.out,P_66.out,J1.out,R_67.out,E_68.out,H_69.out,M_70.out,K_71.out⟩,by simp[intOf];have:=HK.out;omega⟩
  skip
  rcases HP9.out with⟨hz2,her2,_⟩|⟨rfl,cl,cb,vp2,vl2,vm2,σ2,N3,hσ2,rfl,rfl,hRL,hRB,hO,hcl,hcb⟩
  ·rw[hσ]at her2;exact absurd her2.symm hz2
  obtain⟨rfl,rfl,rfl⟩:=pl_inj (hσ.symm.trans hσ2);clear hσ2 HP8b HP9;obtain⟨τ,hdn⟩:=aSq I1.out J1.out hσ;obtain⟨hI2,hJ2,hfs⟩:=hdn.next;have DN:=yH hdn;have I2:=yH hI2;have J2:=yH hJ2;have FS:=yH hfs;have L2:=yH hL2;have P2:=yH hP2;have RW:=yH hR2;have R2:=yH hRL;have E2:=yH hRB;have OW:=yH hO;have GE2:=yH (And.intro hg2 hm2);have GE3:=yH (And.intro hcl hcb);clear hσ hdn hI2 hJ2 hfs hL2 hP2 hR2 hRL hRB hO hg2 hm2 hcl hcb;obtain⟨ta,tc,rfl,q1,q2,_,_⟩:=aAd OW.out;obtain⟨_,_,hvv,q3,q4,_,_⟩:=RW.out.look
  cases hvv
  clear q1 q2 q3 q4;have HLN:=yH (show σ.fs.length≤1000 from by rw[FS.out];have:=DN.out.inv.len;omega);have CS:=yH (aIr (c1:=sk) (c2:=tc) (aSz RW.out) (fun k hk=>own_cell5 OW.out hk) HLN.out);go_wp2_with fail;refine(CS.out).mono ?_;rintro e w_75 ⟨rfl,b⟩;have L_76:=yH (L_44.out.below b);have P_77:=yH (P_45.out.below b);have R_78:=yH (R_46.out.below b);have E_79:=yH (E_47.out.below b);have H_80:=yB H_48 b;have M_81:=yB M_49 b;have K_82:=yH (K_50.out.trans (pAE b));have F_84:=yB F_52 b;have G_85:=yB KG b;have l_86:=yH (L2.out.below b);have p_87:=yH (P2.out.below b);have r_89:=yH (R2.out.below b);have e_90:=yH (E2.out.below b);clear L_44 P_45 R_46 E_47 H_48 M_49 K_50 F_52 KG L2 P2 RW R2 E2 OW;clear b;clear CS;have CC:=yH (aJb L_76.out I1.out P_77.out R_78.out E_79.out hp3 hl3);have h0:=H_80.out.cell 0;have h1:=H_80.out.cell 1;simp at h0 h1;have m0:=M_81.out.cell 0;have m1:=M_81.out.cell 1;simp at m0 m1;go_wp2_with fail;refine(CC.out).mono ?_;rintro e w_92 ⟨rfl,b⟩;clear h0 h1 m0 m1;have H_97:=yB H_80 b;have M_98:=yB M_81 b;have K_99:=yH (K_82.out.trans (pAE b));have F_101:=yB F_84 b;have G_102:=yB G_85 b;have l_103:=yH (l_86.out.below b);have p_104:=yH (p_87.out.below b);have r_106:=yH (r_89.out.below b);have e_107:=yH (e_90.out.below b);clear L_76 P_77 R_78 E_79 H_80 M_81 K_82 F_84 G_85 l_86 p_87 r_89 e_90;clear b;clear CC hl3;have hl3:σ.l.length≤1000:=by have:=J2.out.len;omega
  have CC:=yH (aJb l_103.out I2.out p_104.out r_106.out e_107.out hp3 hl3);have f0:=F_101.out.cell 0;have f1:=F_101.out.cell 1;simp at f0 f1;have g0:=G_102.out.cell 0;have g1:=G_102.out.cell 1;simp at g0 g1;go_wp2_with fail;refine(CC.out).mono ?_;rintro e w_109 ⟨rfl,b⟩;clear f0 f1 g0 g1;have H_114:=yB H_97 b;have M_115:=yB M_98 b;have K_116:=yH (K_99.out.trans (pAE b));have F_118:=yB F_101 b;have G_119:=yB G_102 b;have l_120:=yH (l_103.out.below b);have p_121:=yH (p_104.out.below b);have r_123:=yH (r_106.out.below b);have e_124:=yH (e_107.out.below b);clear H_97 M_98 K_99 F_101 G_102 l_103 p_104 r_106 e_107;clear b;clear CC hl3 hp3;obtain⟨t1,t2,t3,t4,t5,t11,t12⟩:=FLT.out;obtain⟨t7,t8⟩:=GE2.out;obtain⟨t9,t10⟩:=GE3.out;have f0:=F_118.out.cell 0;have f1:=F_118.out.cell 1;simp at f0 f1;have g0:=G_119.out.cell 0;have g1:=G_119.out.cell 1;simp at g0 g1;have kk:=aAf (w:=w_109) w2.heap.size #[.pointer (some ⟨G2,0,none⟩),.pointer (some ⟨gb2,0,none⟩)];have H_126:=yH (show Blk (w_109.setRow w2.heap.size #[.pointer (some ⟨G2,0,none⟩),.pointer (some ⟨gb2,0,none⟩)]) w2.heap.size #[.pointer (some ⟨G2,0,none⟩),.pointer (some ⟨gb2,0,none⟩)] 31 from setRow_heap _ w2.heap.size _ _ _ (0,0) H_114.out);have M_127:=yH (M_115.out.keep kk (fun e=>NE.out e.symm));have G_128:=yH (G_119.out.keep kk (by omega));have l_129:=yH (l_120.out.keep kk (by omega) (by omega));have p_130:=yH (p_121.out.keep kk (by have:=p_121.out.ge;omega) (fun b hb e=>by have:=(p_121.out.lt (.inr hb)).1;omega));have r_131:=yH (r_123.out.keep kk (by omega) (fun b hb=>aAi r_123.out.p H_114.out (by decide) b hb) (fun b hb=>aAi r_123.out.l H_114.out (by decide) b hb));have e_132:=yH (e_124.out.keep kk (by omega) (fun b hb=>aAi e_124.out.row H_114.out (by decide) b hb));have K_133:=yH (K_116.out.trans (kk.mono (fun j _ h=>.inl h)))
  go_upto_region 18 with(refine aAb rfl 31 (.tmp 5) (.tmp 90) rfl w2.heap.size #[.pointer (some ⟨G2,0,none⟩),.pointer (some ⟨gb2,0,none⟩)] rfl rfl 31 _ H_114.out.out (by kernel_rfl) rfl (by simp[Value.oneCell']) ?_)
  clear f0 f1 g0 g1;clear kk H_114 M_115 G_119 l_120 p_121 r_123 e_124 K_116;generalize w_109.setRow w2.heap.size #[.pointer (some ⟨G2,0,none⟩),.pointer (some ⟨gb2,0,none⟩)]=wy at *;have g0:=G_128.out.cell 0;have g1:=G_128.out.cell 1;simp at g0 g1;have kk:=aAf (w:=wy) w3.heap.size #[.pointer (some ⟨cl,0,none⟩),.pointer (some ⟨cb,0,none⟩)];have M_134:=yH (show Blk (wy.setRow w3.heap.size #[.pointer (some ⟨cl,0,none⟩),.pointer (some ⟨cb,0,none⟩)]) w3.heap.size #[.pointer (some ⟨cl,0,none⟩),.pointer (some ⟨cb,0,none⟩)] 36 from setRow_heap _ w3.heap.size _ _ _ (0,0) M_127.out);have H_135:=yH (H_126.out.keep kk (NE.out));have l_137:=yH (l_129.out.keep kk (by omega) (by omega));have p_138:=yH (p_130.out.keep kk (by have:=p_130.out.ge;omega) (fun b hb e=>by have:=(p_130.out.lt (.inr hb)).1;omega));have r_139:=yH (r_131.out.keep kk (by omega) (fun b hb=>aAi r_131.out.p M_127.out (by decide) b hb) (fun b hb=>aAi r_131.out.l M_127.out (by decide) b hb));have e_140:=yH (e_132.out.keep kk (by omega) (fun b hb=>aAi e_132.out.row M_127.out (by decide) b hb));have K_141:=yH (K_133.out.trans (kk.mono (fun j _ h=>.inr h)))
  go_upto_region 7 with(refine aAb rfl 36 (.tmp 6) (.tmp 91) rfl w3.heap.size #[.pointer (some ⟨cl,0,none⟩),.pointer (some ⟨cb,0,none⟩)] rfl rfl 36 _ M_127.out.out (by kernel_rfl) rfl (by simp[Value.oneCell']) ?_)
  clear g0 g1;clear kk M_127 H_126 G_128 l_129 p_130 r_131 e_132 K_133;generalize wy.setRow w3.heap.size #[.pointer (some ⟨cl,0,none⟩),.pointer (some ⟨cb,0,none⟩)]=wz at *;go_wp2_with fail;exact⟨⟨k+1,by have:=HK.out;omega,by go_num,G2,M2,gb2,ps,σ.ls,σ.l,N2,vb2,cl,cb,vp2,vl2,vm2,_,_,_,l_137.out,I2.out,p_138.out,J2.out,r_139.out,e_140.out,H_135.out,M_134.out,K_141.out⟩,by simp[intOf];have:=HK.out;omega⟩
 have hkn:k=len:=by omega
 subst hkn;go_wp2_with fail;refine(HLo.out _).mono ?_;rintro e w_142 ⟨rfl,b⟩;have B_150:=yT BW b;clear L1 P1 R1 E1 H1 M1 KK1 BW;clear b;go_wp2_with fail;go_ret;exact⟨rfl,B_150.out⟩
def BCopyPost(base:Nat)(l:List Of)(N:Int)(w:World)(e:Ending)(w':World):Prop:=
 ∃g' vl',e=.returned (.pointer (some ⟨g',0,none⟩))∧PB w' base g' l N vl'∧w.heap.size≤g'∧(∀b,vl'.ownBlock=some b→w.heap.size≤b)∧Below w.heap.size w w'
theorem pcopyB_any{w:World}{base g:Nat}{l:List Of}{N:Int}{vl:Value}(h:PB w base g l N vl)(h1:1≤N)(hl:l.length≤1000):
  Calls Tryz.prog 56 #[.pointer (some ⟨g,0,none⟩)] w (BCopyPost base l N w):=by
 have CM:=yH (aLq h.blk h1);have H:=yH h;obtain⟨ao,cap,rfl,_⟩:=aAd h.row;have hgl:=h.blk.lt;have d0:=h.blk.cell 0;have d1:=h.blk.cell 1;simp at d0 d1;have CC:=yH (aM4 (w:=w.drew) (aAc h.row yZ.drew) hl);have hbs:=Nat.le_trans h.ge (Nat.le_of_lt hgl);clear h h1;go_enter Tryz.func56,Tryz.ntmps56;go_wp2_with fail;refine CM.out.mono ?_;rintro e w ⟨rfl,rfl⟩;go_wp2_with fail
 go_region_with ((refine CC.out.mono ?_;rintro e w1 ⟨v',rfl,o1,b1⟩;have HO:=yH o1;have HB:=yH b1;have k1:=(H.out.blk.drew).below b1 hgl;have c1:=k1.cell 1;have l1:=k1.lt;simp at c1;obtain⟨ao',cap',hv',_⟩:=aAd o1;subst hv';clear o1 b1 k1))
 all_goals
  go_wp2;refine bodyPost_ret (v:=.pointer (some ⟨w1.heap.size,0,none⟩)) (by simp[results,Tryz.results56,go_sem]) rfl ?_;have bw:=(Below.refl w1.heap.size w1).alloc yL (.cells #[.slice ao' l.length cap',.int .u64 N] 63);exact⟨_,_,rfl,⟨pAA _ _ _,Nat.le_trans hbs HB.out.size,aA4 (aAc HO.out bw) hbs⟩,HB.out.size,fun b hb=>(aAe HO.out hb).1,(pAB HB.out).trans (bw.mono HB.out.size)⟩
theorem aS1{w:World}{base base':Nat}{e:TypeId}{size:Nat}{v:Value}{n:Nat}{xs:List Value}(h:w.ownsRow base e size v n xs)(hb:∀b,v.ownBlock=some b→base'≤b):w.ownsRow base' e size v n xs:=by
 obtain⟨h1,h2⟩:=h;refine⟨h1,?_⟩;rcases h2 with h2|⟨g,cap,cur,rfl,hge,hr⟩
 ·exact .inl h2
 exact .inr ⟨g,cap,cur,rfl,hb g rfl,hr⟩
theorem aQx:aIq:=by
 intro w base G M gb ps ls l N vb hL hI hP hJ;have hg1:(w.alloc (.cells #[.pointer (some ⟨G,0,none⟩),.pointer (some ⟨gb,0,none⟩)] 31)).heap.size=w.heap.size+1:=by simp
 have b1:=(Below.refl w.heap.size w).alloc yL (.cells #[.pointer (some ⟨G,0,none⟩),.pointer (some ⟨gb,0,none⟩)] 31);have k1:=pAA w #[.pointer (some ⟨G,0,none⟩),.pointer (some ⟨gb,0,none⟩)] 31;generalize hW1:w.alloc (.cells #[.pointer (some ⟨G,0,none⟩),.pointer (some ⟨gb,0,none⟩)] 31)=W1 at *;have b2:=(Below.refl W1.heap.size W1).alloc yL (.cells #[.pointer none,.pointer none] 31);have k2:=pAA W1 #[.pointer none,.pointer none] 31;rw[hg1]at k2;generalize hW2:W1.alloc (.cells #[.pointer none,.pointer none] 31)=W2 at *;have HW1:=yH hW1;have HW2:=yH hW2;have KX:=yH (k1.below b2 k1.lt);have KF:=yH k2;have CL:=yH (pcopy_any (((hL.below b1).below b2).below (Below.refl _ W2).drew));have HB:=yH (((hP.below b1).below b2).below (Below.refl _ W2).drew);have B1:=yH (b1.trans (b2.mono b1.size));have JJ:=yH hJ;clear hL hI hP hJ b1 b2 k1 k2 hW1 hW2 hg1;go_enter Tryz.func17,Tryz.ntmps17
 go_upto_region 1 with fail
 rw[HW1.out,HW2.out];have e0:=KX.out.cell 0;have e1:=KX.out.cell 1;have kx:=KX.out.lt;have kf:=KF.out.lt;have f0:=KF.out.cell 0;have f1:=KF.out.cell 1;simp at e0 e1 f0 f1
 go_region_with (first|(go_at_call 55;refine CL.out.mono ?_;rintro e w1 ⟨g1,m1,rfl,r1,n1,n2,b1⟩;have KX1:=yH (KX.out.drew.below b1 kx);have KF1:=yH (KF.out.drew.below b1 kf);have R1:=yH r1;have BB:=yH b1;have NN:=yH (And.intro n1 n2);have CB:=yH (pcopyB_any (HB.out.below b1) JJ.out.n1 (by have:=JJ.out.len;omega));clear r1 b1 n1 n2;have c0:=KX1.out.cell 0;have c1:=KX1.out.cell 1;have cx:=KX1.out.lt;simp at c0 c1)|(go_at_call 56;refine CB.out.mono ?_;rintro e w2 ⟨g2,vb2,rfl,r2,n1,n2,b2⟩;have KF2:=yB KF1 b2;have R2:=yH r2;have B2:=yH b2;have NM:=yH (And.intro n1 n2);clear r2 b2 n1 n2;have z0:=KF2.out.cell 0;have z1:=KF2.out.cell 1;have zx:=KF2.out.lt;have zf:=KF2.out.frozen;simp at z0 z1))
 all_goals
  go_wp2;refine bodyPost_ret (v:=.agg #[.pointer (some ⟨g1,0,none⟩),.pointer (some ⟨g2,0,none⟩)]) (results_cell_row rfl _ _ (w.heap.size+1) 31 #[.pointer (some ⟨g1,0,none⟩),.pointer (some ⟨g2,0,none⟩)] (0,0) _ rfl ((KF2.out.set 0 _).set 1 _).out Tryz.underlying31 rfl (by kernel_rfl)) rfl ?_
  have kk:Keep (·=w.heap.size+1) w2 ((w2.setCell ⟨w.heap.size+1,0,none⟩ (.pointer (some ⟨g1,0,none⟩))).setCell ⟨w.heap.size+1,1,none⟩ (.pointer (some ⟨g2,0,none⟩))):=by
   refine Keep.setCell (S:=(·=w.heap.size+1)) ?_ (p:=⟨w.heap.size+1,1,none⟩) (.inl rfl) _;exact Keep.setCell (S:=(·=w.heap.size+1)) (Keep.refl _ _) (p:=⟨w.heap.size+1,0,none⟩) (.inl rfl) _
  have s1:=B1.out.size;have s2:=BB.out.size;obtain⟨n1,n2⟩:=NN.out;obtain⟨m1,m2⟩:=NM.out;have hd:W2.drew.heap.size=W2.heap.size:=rfl;rw[hd]at s2 n1 n2;have R3:=R2.out.keep kk (by omega) (fun b h=>by have:=m2 b h;omega)
  exact⟨_,_,_,_,rfl,(R1.out.below B2.out).keep kk (by omega) (by omega),⟨R3.blk,by omega,aS1 R3.row (fun b hb=>by have:=m2 b hb;omega)⟩,by omega,by omega,
   (B1.out.trans (((pAB BB.out).trans (B2.out.mono s2)).mono s1)).trans (kk.below (by omega) (fun k hk h=>by omega))⟩
end Go.Proofs.YtaeocliklpcgmaaGreat
