/- Pieces of one proof. -/
import Derived.Test.YtaeocliklpcgmaaGreatP21
import Derived.ChangeArms
import Derived.Lib.SmallJoins
set_option linter.all false
set_option maxHeartbeats 64000000
set_option maxRecDepth 100000
namespace Go.Proofs.YtaeocliklpcgmaaGreat
open Go.RowKit
def putB(x:Of)(σ:List Of×Int):List Of×Int:=(aB8 σ.1 ⟨σ.2,x.ow,x.sl,x.bu,x.lf,x.nu,x.de⟩,aBo σ.1 ⟨σ.2,x.ow,x.sl,x.bu,x.lf,x.nu,x.de⟩)
def aP5(xs:List Of):List Of×Int:=xs.foldl (fun σ x=>putB x σ) ([],1)
theorem aM9{xs:List Of}{k:Nat}(h:k<xs.length){l:List Of}{N:Int}(e:aP5 (xs.take k)=(l,N)):aP5 (xs.take (k+1))=putB xs[k] (l,N):=by
 unfold aP5 at *;rw[List.take_succ_eq_append_getElem h,List.foldl_append,e];rfl
theorem SlIn.off{w:World}{a:Option Addr}{len cap:Nat}{xs:List Of}(h:SlIn Of.vals 7 Of.Fits w a len cap xs){i:Nat}(hi:i<xs.length):
  ∃b off,a=some ⟨b,off,none⟩∧b<w.heap.size∧w.cell? ⟨b,off+i*7,none⟩=some (.int .u64 xs[i].se)∧w.cell? ⟨b,off+i*7+1,none⟩=some (.int .u8 xs[i].ow)∧w.cell? ⟨b,off+i*7+2,none⟩=some (.int .u8 xs[i].sl)∧w.cell? ⟨b,off+i*7+3,none⟩=some (.int .u8 xs[i].bu)∧
   w.cell? ⟨b,off+i*7+4,none⟩=some (.int .i64 xs[i].lf)∧w.cell? ⟨b,off+i*7+5,none⟩=some (.int .i64 xs[i].nu)∧w.cell? ⟨b,off+i*7+6,none⟩=some (.int .i64 xs[i].de):=by
 obtain⟨h0,h1,h2,h3,h4,h5⟩:=h;obtain⟨b,off,rfl,hlt,hc⟩:=h5 (by omega);exact⟨b,off,rfl,hlt,hc i hi 0 _ rfl,hc i hi 1 _ rfl,hc i hi 2 _ rfl,hc i hi 3 _ rfl,hc i hi 4 _ rfl,hc i hi 5 _ rfl,hc i hi 6 _ rfl⟩
def MadePost10(w:World)(xs:List Ac)(os:List Of)(e:Ending)(w':World):Prop:=
 ∃G M gb ps ls l N vl,e=.returned (.agg #[.pointer (some ⟨G,0,none⟩),.pointer (some ⟨gb,0,none⟩)])∧LedM w' G M ps ls∧LInv ps ls∧w.heap.size≤G∧w.heap.size≤M∧PB w' w.heap.size gb l N vl∧BInv l N∧N≤(os.length:Int)+1∧
  gb<G∧gb<M∧(∀b,vl.ownBlock=some b→b<G∧b<M)∧Below w.heap.size w w'∧aNy xs=(ps,ls)∧aP5 os=(l,N)
def MadeAt10(W:World)(gb len:Nat)(os:List Of)(i:Value)(wr:World):Prop:=
 ∃k:Nat,k≤len∧i=.int .i64 k∧∃l N vl,PB wr W.heap.size gb l N vl∧BInv l N∧N≤(k:Int)+1∧Below W.heap.size W wr∧Hid (aP5 (os.take k)=(l,N))
theorem made10_any{w:World}{a1 a2:Option Addr}{n1 n2 c1 c2:Nat}{xs:List Ac}{os:List Of}(h1:aHb w a1 n1 c1 xs)(h2:SlIn Of.vals 7 Of.Fits w a2 n2 c2 os)(hl1:n1≤120)(hl2:n2≤40):
  Calls Tryz.prog 9 #[.agg #[.slice a1 n1 c1,.slice a2 n2 c2]] w (MadePost10 w xs os):=by
 have hg1:(w.alloc (.cells #[.slice a1 n1 c1,.slice a2 n2 c2] 25)).heap.size=w.heap.size+1:=by simp
 have b1:=(Below.refl w.heap.size w).alloc yL (.cells #[.slice a1 n1 c1,.slice a2 n2 c2] 25);have k1:=pAA w #[.slice a1 n1 c1,.slice a2 n2 c2] 25;generalize hW1:w.alloc (.cells #[.slice a1 n1 c1,.slice a2 n2 c2] 25)=W1 at *;have b2:=(Below.refl W1.heap.size W1).alloc yL (.cells #[.pointer none,.pointer none] 31);have k2:=pAA W1 #[.pointer none,.pointer none] 31;rw[hg1]at k2;generalize hW2:W1.alloc (.cells #[.pointer none,.pointer none] 31)=W2 at *;have HW1:=yH hW1;have HW2:=yH hW2;have KX:=yH (k1.below b2 k1.lt);have KF:=yH k2;have HA:=yH ((h1.below b1).below b2);have HO:=yH ((h2.below b1).below b2);have B1:=yH (b1.trans (b2.mono b1.size));have hol:os.length=n2:=h2.2.1;have hcap:=h2.2.2.2.1;have hmax:=h2.2.2.2.2.1;unfold maxLen at hmax;clear h1 h2 b1 b2 k1 k2 hW1 hW2 hg1;go_enter Tryz.func9,Tryz.ntmps9
 go_upto_region 1 with fail
 rw[HW1.out,HW2.out];go_wp2_with fail;refine(pnew_any W2 W2.heap.size yL).mono ?_;rintro e w0 ⟨rfl,h0,hb0⟩;have H0:=yH h0;have B0:=yH hb0;clear h0 hb0;go_wp2_with fail
 go_loopw [4] (MadeAt10 W2 W2.heap.size n2 os) (fun i _=>n2 - (intOf i).toNat)
 case atStart=>exact⟨0,Nat.zero_le _,rfl,[],1,_,H0.out,BInv.nil (by omega) (by omega),by omega,B0.out,yH rfl⟩
 obtain⟨k,hk,rfl,l,N,vl,hP,hI,hN,hB,hAct⟩:=hrel;have HP:=yH hP;have HI:=yH hI;have HB:=yH hB;have KX1:=yB KX hB;have e0:=KX1.out.cell 0;have e1:=KX1.out.cell 1;simp at e0 e1;clear hP hI hB
 by_cases hkl:k<n2
 ·obtain⟨b,off,rfl,hb,d0,d1,d2,d3,d4,d5,d6⟩:=(HO.out.below HB.out).off (i:=k) (by omega);have hx:=HO.out.2.2.1 os[k] (List.getElem_mem _);have AT:=yH (aM9 (by omega) hAct.out);generalize hxe:os[k]=x at *;clear hxe;have bw:=(Below.refl wr.heap.size wr).alloc yL (.cells #[.int .u64 x.se,.int .u8 x.ow,.int .u8 x.sl,.int .u8 x.bu,.int .i64 x.lf,.int .i64 x.nu,.int .i64 x.de] 48);have HW:=yH (HP.out.below bw);have BW:=yT HB bw;clear bw;have C:=yH (aG5 (x:=⟨N,x.ow,x.sl,x.bu,x.lf,x.nu,x.de⟩) HW.out HI.out ⟨⟨by have:=HI.out.n1;show 0≤N;omega,HI.out.n2⟩,hx.ow,hx.sl,hx.bu,hx.lf,hx.nu,hx.de⟩);have HI2:=yH (BInv.place (x:=⟨N,x.ow,x.sl,x.bu,x.lf,x.nu,x.de⟩) HI.out);have HN:=yH (show(aBo l ⟨N,x.ow,x.sl,x.bu,x.lf,x.nu,x.de⟩:Int)≤(k:Int)+1+1 from by have e:aBo l ⟨N,x.ow,x.sl,x.bu,x.lf,x.nu,x.de⟩≤N+1:=(by unfold aBo;split <;> (dsimp only;omega));omega);clear hx;go_wp2_with fail;refine C.out.mono ?_;rintro e w2 ⟨rfl,vl2,h2,k2,m2⟩;have H2:=yH h2;have B2:=yH (BW.out.trans (k2.below BW.out.size (fun j hj hf=>by have:=(HW.out.lt hf).1;omega)));clear h2 k2 m2 C;go_wp2_with fail;go_roundw
  case rel=>exact⟨k+1,by omega,by go_num,_,_,_,H2.out,HI2.out,by have:=HN.out;omega,B2.out,AT⟩
  case measure=>simp[intOf];omega
 have CM:=yH (made_actsF (HA.out.below HB.out) hl1);have KF1:=yH (KF.out.below HB.out KF.out.lt);have f0:=KF1.out.cell 0;have f1:=KF1.out.cell 1;simp at f0 f1;go_wp2_with fail;refine CM.out.mono ?_;rintro e w3 ⟨G,M,ps,ls,rfl,h4,h5,h6,h7,b3,h8⟩;have KF3:=yB KF1 b3;have HL3:=yH h4;have II:=yH h5;have HG:=yH (And.intro h6 h7);have HP3:=yH (HP.out.below b3);have BB:=yH b3;have AC:=yH h8;clear h4 h5 h6 h7 b3 h8 e0 e1 f0 f1 CM;have f0:=KF3.out.cell 0;have f1:=KF3.out.cell 1;have kf:=KF3.out.lt;simp at f0 f1;go_wp2_with (refine aAb rfl 31 (.tmp 2) (.tmp 35) rfl (w.heap.size+1) #[.pointer (some ⟨G,0,none⟩),.pointer (some ⟨W2.heap.size,0,none⟩)] rfl rfl 31 _ KF3.out.out (by kernel_rfl) rfl (by simp[Value.oneCell']) ?_);refine bodyPost_ret (v:=.agg #[.pointer (some ⟨G,0,none⟩),.pointer (some ⟨W2.heap.size,0,none⟩)]) (results_cell_row rfl _ _ (w.heap.size+1) 31 #[.pointer (some ⟨G,0,none⟩),.pointer (some ⟨W2.heap.size,0,none⟩)] (0,0) _ rfl (setRow_heap _ (w.heap.size+1) _ _ _ (0,0) KF3.out.out) Tryz.underlying31 rfl (by kernel_rfl)) rfl ?_;have kk:=aAf (w:=w3) (w.heap.size+1) #[.pointer (some ⟨G,0,none⟩),.pointer (some ⟨W2.heap.size,0,none⟩)];have s1:=B1.out.size;have s2:=HB.out.size;have s3:=KF.out.lt;obtain⟨h6,h7⟩:=HG.out;have hfoot:=fun b hb=>(HP.out.lt (b:=b) (.inr hb))
 have hgb:=HP.out.blk.lt;have hAll:=hAct.out;rw[List.take_of_length_le (by omega)]at hAll;have hPB:=HP3.out.keep kk (by omega) (fun b hb=>by have:=hfoot b hb;omega)
 exact⟨G,M,W2.heap.size,ps,ls,l,N,vl,rfl,HL3.out.keep kk (by omega) (by omega),II.out,by omega,by omega,⟨hPB.blk,by omega,aA4 hPB.row (by omega)⟩,HI.out,by omega,by omega,by omega,
  fun b hb=>by have:=hfoot b hb;omega,(B1.out.trans ((HB.out.trans (BB.out.mono s2)).mono s1)).trans (kk.below (by have:=BB.out.size;omega) (fun k hk h=>by omega)),AC.out,hAll⟩
def aSl(w:World)(xs:List Ac)(os:List Of)(e:Ending)(w':World):Prop:=
 ∃rl rb ps ls vp vl l N vb,e=.returned (.agg #[.pointer (some ⟨rl,0,none⟩),.pointer (some ⟨rb,0,none⟩)])∧RefL w' w.heap.size rl ps ls vp vl∧LInv ps ls∧RefB w' w.heap.size rb l N vb∧BInv l N∧Below w.heap.size w w'∧aNy xs=(ps,ls)∧aP5 os=(l,N)
def ModelAt10(W:World)(rl rb hb len:Nat)(xs:List Ac)(i:Value)(wr:World):Prop:=
 ∃k:Nat,k≤len∧i=.int .i64 k∧∃ps ls vp vl,RefL wr W.heap.size rl ps ls vp vl∧LInv ps ls∧RefB wr W.heap.size rb [] 1 (.slice none 0 0)∧Blk wr hb #[.pointer (some ⟨rl,0,none⟩),.pointer (some ⟨rb,0,none⟩)] 36∧Below W.heap.size W wr∧Hid (aNy (xs.take k)=(ps,ls))
def ModelBt10(W:World)(rl rb hb len:Nat)(ps:List Int)(ls:List Ln)(os:List Of)(i:Value)(wr:World):Prop:=
 ∃k:Nat,k≤len∧i=.int .i64 k∧∃vp vl l N vb,RefL wr W.heap.size rl ps ls vp vl∧RefB wr W.heap.size rb l N vb∧BInv l N∧N≤(k:Int)+1∧Blk wr hb #[.pointer (some ⟨rl,0,none⟩),.pointer (some ⟨rb,0,none⟩)] 36∧Below W.heap.size W wr∧Hid (aP5 (os.take k)=(l,N))
theorem aSm{w:World}{a1 a2:Option Addr}{n1 n2 c1 c2:Nat}{xs:List Ac}{os:List Of}(h1:aHb w a1 n1 c1 xs)(h2:SlIn Of.vals 7 Of.Fits w a2 n2 c2 os)(hl1:n1≤120)(hl2:n2≤40):
  Calls Tryz.prog 10 #[.agg #[.slice a1 n1 c1,.slice a2 n2 c2]] w (aSl w xs os):=by
 have hg1:(w.alloc (.cells #[.slice a1 n1 c1,.slice a2 n2 c2] 25)).heap.size=w.heap.size+1:=by simp
 have b1:=(Below.refl w.heap.size w).alloc yL (.cells #[.slice a1 n1 c1,.slice a2 n2 c2] 25);have k1:=pAA w #[.slice a1 n1 c1,.slice a2 n2 c2] 25;generalize hW1:w.alloc (.cells #[.slice a1 n1 c1,.slice a2 n2 c2] 25)=W1 at *;have b2:=(Below.refl W1.heap.size W1).alloc yL (.cells #[.pointer none,.pointer none] 36);have k2:=pAA W1 #[.pointer none,.pointer none] 36;rw[hg1]at k2;generalize hW2:W1.alloc (.cells #[.pointer none,.pointer none] 36)=W2 at *;have HW1:=yH hW1;have HW2:=yH hW2;have KX:=yH (k1.below b2 k1.lt);have KF:=yH k2;have HA:=yH ((h1.below b1).below b2);have HO:=yH ((h2.below b1).below b2);have B1:=yH (b1.trans (b2.mono b1.size));have hol:os.length=n2:=h2.2.1;have hcap:=h2.2.2.2.1;have hmax:=h2.2.2.2.2.1;have hal:xs.length=n1:=h1.1;have hcap1:=h1.2.2.1;have hmax1:=h1.2.2.2.1;unfold maxLen at hmax hmax1;clear h1 h2 b1 b2 k1 k2 hW1 hW2 hg1;go_enter Tryz.func10,Tryz.ntmps10
 go_upto_region 1 with fail
 rw[HW1.out,HW2.out];go_wp2_with fail;refine(rnew10_any W2 W2.heap.size W2.heap.size yL yL).mono ?_;rintro e w0 ⟨rl,rb,rfl,g1,g2,r1,r2,hb0⟩;have bh:=(Below.refl w0.heap.size w0).alloc yL (.cells #[.pointer (some ⟨rl,0,none⟩),.pointer (some ⟨rb,0,none⟩)] 36);have KH0:=yH (pAA w0 #[.pointer (some ⟨rl,0,none⟩),.pointer (some ⟨rb,0,none⟩)] 36);have HRL0:=yH (r1.below bh);have HRB0:=yH (r2.below bh);have B0:=yH (hb0.trans (bh.mono hb0.size));have hrl:=r1.blk.lt;have hrb:=r2.blk.lt;have nb:¬rl=rb:=fun h=>by subst h;exact absurd (r1.blk.out.symm.trans r2.blk.out) (by simp)
 have NB:=yH nb;have LT:=yH (And.intro hrl hrb);have GE:=yH (And.intro g1 g2);clear r1 r2 bh hb0 hrl hrb nb g1 g2;go_wp2_with fail;generalize w0.heap.size=hb at *
 go_loopw [4,5] (fun i _ wr=>ModelAt10 W2 rl rb hb n1 xs i wr) (fun i _ _=>n1 - (intOf i).toNat)
 case atStart=>exact⟨0,Nat.zero_le _,rfl,[],[],_,_,HRL0.out,LInv.nil,HRB0.out,KH0.out,B0.out,yH rfl⟩
 obtain⟨k,hk,rfl,ps,ls,vp,vl,hR,hI,hE,hH,hB,hAct⟩:=hrel;have HR:=yH hR;have HI:=yH hI;have HE:=yH hE;have HH:=yH hH;have HB:=yH hB;have KX1:=yB KX hB;have e0:=KX1.out.cell 0;have e1:=KX1.out.cell 1;simp at e0 e1;clear hR hI hE hH hB
 by_cases hkl:k<n1
 ·obtain⟨b,off,rfl,hbl,d0,d1,d2,d3,d4⟩:=(HA.out.below HB.out).at (i:=k) (by omega);have hx:=HA.out.2.1 xs[k] (List.getElem_mem _);have AT:=yH (aMp (by omega) hAct.out);generalize hxe:xs[k]=x at *;clear hxe;obtain⟨k1,k2⟩:=hx.k;have bw:=(Below.refl wr.heap.size wr).alloc yL (.cells #[.int .u8 x.k,.int .u8 x.a,.int .u8 x.b,.int .u8 x.c,.int .i64 x.n] 99);have HW:=yH (HR.out.below bw);have HE1:=yH (HE.out.below bw);have HH1:=yB HH bw;have BW:=yT HB bw;have h0:=HH1.out.cell 0;have h1:=HH1.out.cell 1;simp at h0 h1;clear bw;have hs:x.k%8=0∨x.k%8=1∨x.k%8=2∨x.k%8=3∨x.k%8=4∨x.k%8=5∨x.k%8=6∨x.k%8=7:=by omega
  rcases hs with hj|hj|hj|hj|hj|hj|hj|hj
  ·have AN:=yH (AT.out.trans (show actL x (ps,ls)=(aDy ps x.a,ls) by unfold actL;simp[hj]));have q2:x.k.tmod 8=0:=by rw[Int.tmod_eq_emod_of_nonneg hx.k.1];exact hj
   clear hj;have C:=yH (ropen_any HW.out x.a);have HI2:=yH (pAL HI.out x.a);clear hx;go_wp2_with fail;refine C.out.mono ?_;rintro e w2 ⟨rfl,vp2,h2,k2⟩;have H2:=yH h2;have B2:=yH (BW.out.trans (k2.below BW.out.size (fun b hb e=>by have:=GE.out;omega)));have HE2:=yH (HE1.out.keep k2 (fun e=>NB.out e.symm) (fun b hb=>by simp[Value.ownBlock]at hb));have HH2:=yH (HH1.out.keep k2 (by have:=LT.out;omega));clear h2 k2 C h0 h1 e0 e1;go_wp2_with fail;go_roundw
   case rel=>exact⟨k+1,by omega,by go_num,_,_,_,_,H2.out,HI2.out,HE2.out,HH2.out,B2.out,AN⟩
   case measure=>simp[intOf];omega
  ·have AN:=yH (AT.out.trans (show actL x (ps,ls)=(ps,aAw ps ls x.a x.b x.c x.n) by unfold actL;simp[hj]));have q2:x.k.tmod 8=1:=by rw[Int.tmod_eq_emod_of_nonneg hx.k.1];exact hj
   clear hj;have C:=yH (aMo HW.out HI.out.inv.good HI.out.len x.a x.b x.c x.n);have HI2:=yH (pAK HI.out x.a x.b x.c x.n);clear hx;go_wp2_with fail;refine C.out.mono ?_;rintro e w2 ⟨rfl,vl2,h2,k2⟩;have H2:=yH h2;have B2:=yH (BW.out.trans (k2.below BW.out.size (fun b hb e=>by have:=GE.out;omega)));have HE2:=yH (HE1.out.keep k2 (fun e=>NB.out e.symm) (fun b hb=>by simp[Value.ownBlock]at hb));have HH2:=yH (HH1.out.keep k2 (by have:=LT.out;omega));clear h2 k2 C h0 h1 e0 e1;go_wp2_with fail;go_roundw
   case rel=>exact⟨k+1,by omega,by go_num,_,_,_,_,H2.out,HI2.out,HE2.out,HH2.out,B2.out,AN⟩
   case measure=>simp[intOf];omega
  ·have AN:=yH (AT.out.trans (show actL x (ps,ls)=(ps,aAw ps ls x.a x.b x.c x.n) by unfold actL;simp[hj]));have q2:x.k.tmod 8=2:=by rw[Int.tmod_eq_emod_of_nonneg hx.k.1];exact hj
   clear hj;have C:=yH (aMo HW.out HI.out.inv.good HI.out.len x.a x.b x.c x.n);have HI2:=yH (pAK HI.out x.a x.b x.c x.n);clear hx;go_wp2_with fail;refine C.out.mono ?_;rintro e w2 ⟨rfl,vl2,h2,k2⟩;have H2:=yH h2;have B2:=yH (BW.out.trans (k2.below BW.out.size (fun b hb e=>by have:=GE.out;omega)));have HE2:=yH (HE1.out.keep k2 (fun e=>NB.out e.symm) (fun b hb=>by simp[Value.ownBlock]at hb));have HH2:=yH (HH1.out.keep k2 (by have:=LT.out;omega));clear h2 k2 C h0 h1 e0 e1;go_wp2_with fail;go_roundw
   case rel=>exact⟨k+1,by omega,by go_num,_,_,_,_,H2.out,HI2.out,HE2.out,HH2.out,B2.out,AN⟩
   case measure=>simp[intOf];omega
  ·have AN:=yH (AT.out.trans (show actL x (ps,ls)=(ps,aCq ps ls x.a x.b x.c x.n) by unfold actL;simp[hj]));have q2:x.k.tmod 8=3:=by rw[Int.tmod_eq_emod_of_nonneg hx.k.1];exact hj
   clear hj;have C:=yH (aIf HW.out HI.out.inv.good HI.out.len x.a x.b x.c x.n);have HI2:=yH (LInv.push HI.out x.a x.b x.c x.n);clear hx;go_wp2_with fail;refine C.out.mono ?_;rintro e w2 ⟨rfl,vl2,h2,k2⟩;have H2:=yH h2;have B2:=yH (BW.out.trans (k2.below BW.out.size (fun b hb e=>by have:=GE.out;omega)));have HE2:=yH (HE1.out.keep k2 (fun e=>NB.out e.symm) (fun b hb=>by simp[Value.ownBlock]at hb));have HH2:=yH (HH1.out.keep k2 (by have:=LT.out;omega));clear h2 k2 C h0 h1 e0 e1;go_wp2_with fail;go_roundw
   case rel=>exact⟨k+1,by omega,by go_num,_,_,_,_,H2.out,HI2.out,HE2.out,HH2.out,B2.out,AN⟩
   case measure=>simp[intOf];omega
  ·have AN:=yH (AT.out.trans (show actL x (ps,ls)=(ps,aCq ps ls x.a x.b x.c x.n) by unfold actL;simp[hj]));have q2:x.k.tmod 8=4:=by rw[Int.tmod_eq_emod_of_nonneg hx.k.1];exact hj
   clear hj;have C:=yH (aIf HW.out HI.out.inv.good HI.out.len x.a x.b x.c x.n);have HI2:=yH (LInv.push HI.out x.a x.b x.c x.n);clear hx;go_wp2_with fail;refine C.out.mono ?_;rintro e w2 ⟨rfl,vl2,h2,k2⟩;have H2:=yH h2;have B2:=yH (BW.out.trans (k2.below BW.out.size (fun b hb e=>by have:=GE.out;omega)));have HE2:=yH (HE1.out.keep k2 (fun e=>NB.out e.symm) (fun b hb=>by simp[Value.ownBlock]at hb));have HH2:=yH (HH1.out.keep k2 (by have:=LT.out;omega));clear h2 k2 C h0 h1 e0 e1;go_wp2_with fail;go_roundw
   case rel=>exact⟨k+1,by omega,by go_num,_,_,_,_,H2.out,HI2.out,HE2.out,HH2.out,B2.out,AN⟩
   case measure=>simp[intOf];omega
  ·have AN:=yH (AT.out.trans (show actL x (ps,ls)=(ps,aCq ps ls x.a x.b x.c x.n) by unfold actL;simp[hj]));have q2:x.k.tmod 8=5:=by rw[Int.tmod_eq_emod_of_nonneg hx.k.1];exact hj
   clear hj;have C:=yH (aIf HW.out HI.out.inv.good HI.out.len x.a x.b x.c x.n);have HI2:=yH (LInv.push HI.out x.a x.b x.c x.n);clear hx;go_wp2_with fail;refine C.out.mono ?_;rintro e w2 ⟨rfl,vl2,h2,k2⟩;have H2:=yH h2;have B2:=yH (BW.out.trans (k2.below BW.out.size (fun b hb e=>by have:=GE.out;omega)));have HE2:=yH (HE1.out.keep k2 (fun e=>NB.out e.symm) (fun b hb=>by simp[Value.ownBlock]at hb));have HH2:=yH (HH1.out.keep k2 (by have:=LT.out;omega));clear h2 k2 C h0 h1 e0 e1;go_wp2_with fail;go_roundw
   case rel=>exact⟨k+1,by omega,by go_num,_,_,_,_,H2.out,HI2.out,HE2.out,HH2.out,B2.out,AN⟩
   case measure=>simp[intOf];omega
  ·have AN:=yH (AT.out.trans (show actL x (ps,ls)=(ps,aBb ls x.a x.b x.c x.n) by unfold actL;simp[hj]));have q2:x.k.tmod 8=6:=by rw[Int.tmod_eq_emod_of_nonneg hx.k.1];exact hj
   clear hj;have C:=yH (aPm HW.out HI.out.inv.good HI.out.len x.a x.b x.c x.n hx.n);have HI2:=yH (pAJ HI.out x.a x.b x.c x.n);clear hx;go_wp2_with fail;refine C.out.mono ?_;rintro e w2 ⟨rfl,vl2,h2,k2⟩;have H2:=yH h2;have B2:=yH (BW.out.trans (k2.below BW.out.size (fun b hb e=>by have:=GE.out;omega)));have HE2:=yH (HE1.out.keep k2 (fun e=>NB.out e.symm) (fun b hb=>by simp[Value.ownBlock]at hb));have HH2:=yH (HH1.out.keep k2 (by have:=LT.out;omega));clear h2 k2 C h0 h1 e0 e1;go_wp2_with fail;go_roundw
   case rel=>exact⟨k+1,by omega,by go_num,_,_,_,_,H2.out,HI2.out,HE2.out,HH2.out,B2.out,AN⟩
   case measure=>simp[intOf];omega
  have AN:=yH (AT.out.trans (show actL x (ps,ls)=(ps,ls) by unfold actL;simp[hj]));have q2:x.k.tmod 8=7:=by rw[Int.tmod_eq_emod_of_nonneg hx.k.1];exact hj
  clear hj;clear hx;go_wp2_with fail;go_roundw
  case rel=>exact⟨k+1,by omega,by go_num,ps,ls,_,_,HW.out,HI.out,HE1.out,HH1.out,BW.out,AN⟩
  case measure=>simp[intOf];omega
 have AC:=yH (show aNy xs=(ps,ls) by have:=hAct.out;rwa [List.take_of_length_le (by omega)]at this);clear hAct;go_wp2_with fail
 go_loopw [6,7] (fun i _ wr=>ModelBt10 W2 rl rb hb n2 ps ls os i wr) (fun i _ _=>n2 - (intOf i).toNat)
 case atStart=>exact⟨0,Nat.zero_le _,rfl,vp,vl,[],1,_,HR.out,HE.out,BInv.nil (by omega) (by omega),by omega,HH.out,HB.out,yH rfl⟩
 clear hkl hk e0 e1 KX1 HR HE HH HB;obtain⟨k,hk,rfl,vp,vl,l,N,vb,hR,hE,hJ,hN,hH,hB,hAct⟩:=hrel;have HR:=yH hR;have HJ:=yH hJ;have HE:=yH hE;have HH:=yH hH;have HB:=yH hB;have KX1:=yB KX hB;have e0:=KX1.out.cell 0;have e1:=KX1.out.cell 1;simp at e0 e1;clear hR hJ hE hH hB
 by_cases hkl:k<n2
 ·obtain⟨b,off,rfl,hbl,d0,d1,d2,d3,d4,d5,d6⟩:=(HO.out.below HB.out).off (i:=k) (by omega);have AT:=yH (aM9 (by omega) hAct.out);generalize hxe:os[k]=x at *;clear hxe;have bw:=(Below.refl wr.heap.size wr).alloc yL (.cells #[.int .u64 x.se,.int .u8 x.ow,.int .u8 x.sl,.int .u8 x.bu,.int .i64 x.lf,.int .i64 x.nu,.int .i64 x.de] 48);have HW:=yH (HR.out.below bw);have HE1:=yH (HE.out.below bw);have HH1:=yB HH bw;have BW:=yT HB bw;have h0:=HH1.out.cell 0;have h1:=HH1.out.cell 1;simp at h0 h1;clear bw;have C:=yH (aM8 (x:=⟨N,x.ow,x.sl,x.bu,x.lf,x.nu,x.de⟩) HE1.out HJ.out.len (by have:=HJ.out.n1;show 0≤N;omega) HJ.out.n2);have HI2:=yH (BInv.place (x:=⟨N,x.ow,x.sl,x.bu,x.lf,x.nu,x.de⟩) HJ.out);have HN:=yH (show(aBo l ⟨N,x.ow,x.sl,x.bu,x.lf,x.nu,x.de⟩:Int)≤(k:Int)+1+1 from by have e:aBo l ⟨N,x.ow,x.sl,x.bu,x.lf,x.nu,x.de⟩≤N+1:=(by unfold aBo;split <;> (dsimp only;omega));omega);go_wp2_with fail;refine C.out.mono ?_;rintro e w2 ⟨rfl,vl2,h2,k2⟩;have H2:=yH h2;have B2:=yH (BW.out.trans (k2.below BW.out.size (fun b hb e=>by have:=GE.out;omega)));have HR2:=yH (HW.out.keep k2 NB.out (fun b hb h=>by subst h;exact aAi HW.out.p HE1.out.blk (by decide) _ hb rfl) (fun b hb h=>by subst h;exact aAi HW.out.l HE1.out.blk (by decide) _ hb rfl));have HH2:=yH (HH1.out.keep k2 (by have:=LT.out;omega));clear h2 k2 C h0 h1 e0 e1;go_wp2_with fail;go_roundw
  case rel=>exact⟨k+1,by omega,by go_num,_,_,_,_,_,HR2.out,H2.out,HI2.out,by have:=HN.out;omega,HH2.out,B2.out,AT⟩
  case measure=>simp[intOf];omega
 have OC:=yH (show aP5 os=(l,N) by have:=hAct.out;rwa [List.take_of_length_le (by omega)]at this);have h0:=HH.out.cell 0;have h1:=HH.out.cell 1;have KF3:=yH (KF.out.below HB.out KF.out.lt);have f0:=KF3.out.cell 0;have f1:=KF3.out.cell 1;have kf:=KF3.out.lt;simp at h0 h1 f0 f1;clear hAct;go_wp2_with (refine aAb rfl 36 (.tmp 2) (.tmp 98) rfl (w.heap.size+1) #[.pointer (some ⟨rl,0,none⟩),.pointer (some ⟨rb,0,none⟩)] rfl rfl 36 _ KF3.out.out (by kernel_rfl) rfl (by simp[Value.oneCell']) ?_);refine bodyPost_ret (v:=.agg #[.pointer (some ⟨rl,0,none⟩),.pointer (some ⟨rb,0,none⟩)]) (results_cell_row rfl _ _ (w.heap.size+1) 36 #[.pointer (some ⟨rl,0,none⟩),.pointer (some ⟨rb,0,none⟩)] (0,0) _ rfl (setRow_heap _ (w.heap.size+1) _ _ _ (0,0) KF3.out.out) Tryz.underlying36 rfl (by kernel_rfl)) rfl ?_;have kk:=aAf (w:=wr) (w.heap.size+1) #[.pointer (some ⟨rl,0,none⟩),.pointer (some ⟨rb,0,none⟩)];have s1:=B1.out.size;have s3:=KF.out.lt;obtain⟨g1,g2⟩:=GE.out;have hR2:=HR.out.keep kk (by omega) (fun b hb h=>by subst h;exact aAi HR.out.p KF3.out (by decide) _ hb rfl) (fun b hb h=>by subst h;exact aAi HR.out.l KF3.out (by decide) _ hb rfl);have hE2:=HE.out.keep kk (by omega) (fun b hb h=>by subst h;exact aAi HE.out.row KF3.out (by decide) _ hb rfl);exact⟨rl,rb,ps,ls,vp,vl,l,N,vb,rfl,⟨hR2.blk,by omega,aA4 hR2.p (by omega),aA4 hR2.l (by omega)⟩,HI.out,⟨hE2.blk,by omega,aA4 hE2.row (by omega)⟩,HJ.out,(B1.out.trans (HB.out.mono s1)).trans (kk.below (by have:=HB.out.size;omega) (fun k hk h=>by omega)),AC.out,OC.out⟩
end Go.Proofs.YtaeocliklpcgmaaGreat
namespace Go.Proofs.YtaeocliklpcgmaaGreat
open Go.RowKit Go.ChangeShapes Go.WideShapes Go.Deep Go.Joins
structure Wd where
 a1:Option Addr
 n1:Nat
 c1:Nat
 xs:List Ac
 a2:Option Addr
 n2:Nat
 c2:Nat
 os:List Of
structure Wd.In(x:Wd)(w:World):Prop where
 acts:aHb w x.a1 x.n1 x.c1 x.xs
 offs:SlIn Of.vals 7 Of.Fits w x.a2 x.n2 x.c2 x.os
section
variable{H:Type}{enc:TypeId×Value→H}{P:Program}{w:World}{base:Nat}{spare:Nat→Bool}{held:Bool}
end
section
variable{H:Type}{enc:TypeId×Value→H}{w:World}{base:Nat}{spare:Nat→Bool}{held:Bool}
theorem aP6{P:Program}{t e:TypeId}{n:Nat}{v:Value}{y:DataW H×List MemPlace}(ht:P.underlying t=some (.slice e))(h:DataW.trod enc P w base spare held n t [v]=some y):∃a len cap,v=.slice a len cap:=by
 rcases open_slice ht h with⟨h0,_⟩|⟨ad,l,c,m,n,D,Pl,hcs,_⟩
 ·exact⟨_,_,_,(List.cons.inj h0).1⟩
 exact⟨_,_,_,(List.cons.inj hcs).1⟩
theorem world_open{r:Reach}{b0:Nat}{v:Value}{d:DataW H}{p:List MemPlace}(hv:Value.okWide Tryz.prog w r b0 25 v)(h:DataW.Trod enc Tryz.prog w base spare held 25 v d p):
  ∃x:Wd,v=.agg #[.slice x.a1 x.n1 x.c1,.slice x.a2 x.n2 x.c2]∧x.In w:=by
 obtain⟨v0,v1,y0,y1,n,rfl,rfl,rfl,h0,h1⟩:=open_agg2 Tryz.underlying25 (by kernel_rfl) (by kernel_rfl) hv h;obtain⟨a1,n1,c1,rfl⟩:=aP6 Tryz.underlying22 h0;obtain⟨a2,n2,c2,rfl⟩:=aP6 Tryz.underlying23 h1;obtain⟨xs,hx⟩:=acts_open (a:=a1) (len:=n1) (cap:=c1) ⟨n,h0⟩;obtain⟨os,ho⟩:=aK7 (a:=a2) (len:=n2) (cap:=c2) ⟨n,h1⟩;exact⟨⟨a1,n1,c1,xs,a2,n2,c2,os⟩,rfl,hx,ho⟩
end
end Go.Proofs.YtaeocliklpcgmaaGreat
namespace Go.Proofs.YtaeocliklpcgmaaGreat
open Go.RowKit
theorem Keep.trans_new{S T:Nat→Prop}{a b c:World}(h:Keep S a b)(k:Keep T b c)(hT:∀j,j<a.heap.size→T j→S j):Keep S a c:=
 ⟨k.os.trans h.os,k.tape.trans h.tape,k.output.trans h.output,Nat.le_trans h.size k.size,fun i hi hs=>(k.block i (yM hi h.size) (fun t=>hs (hT i hi t))).trans (h.block i hi hs)⟩
theorem aFk{w:World}{b1 b2 s1 s2 n1 n2:Nat}{e1 e2:TypeId}{v1 v2:Value}{xs ys:List Value}(h:w.ownsRow b1 e1 s1 v1 n1 xs)(g:w.ownsRow b2 e2 s2 v2 n2 ys)(hne:e1≠e2):∀b,v1.ownBlock=some b→¬v2.ownBlock=some b:=fun b hb hg=>by
 obtain⟨_,_,c1,k1⟩:=aAe h hb;obtain⟨_,_,c2,k2⟩:=aAe g hg;have:=k1.symm.trans k2;simp at this;exact hne this.2
def aE2:Prop:=∀{w:World} {base G M gb:Nat} {ps:List Int} {ls:List Ln} {l:List Of} {N:Int} {vb:Value},LedM w G M ps ls→LInv ps ls→PB w base gb l N vb→BInv l N→
 ∀(s tk pt want most m1 m2:Int),(0≤s∧s≤18446744073709551615)→In8 tk→In8 pt→In64 want→In64 most→(∀o,aBg l s=some o→Goes ps ls o tk pt m1 m2)→
 Calls Tryz.prog 32 #[.agg #[.pointer (some ⟨G,0,none⟩),.pointer (some ⟨gb,0,none⟩)],.int .u64 s,.int .u8 tk,.int .u8 pt,.int .i64 want,.int .i64 most] w (yR w (.int .i64 (mayV l ps s tk pt want most m1 m2)))def FDoPost(w:World)(base G M gb:Nat)(ps:List Int)(ls:List Ln)(l:List Of)(N:Int)(vb:Value)(s tk pt n m1 m2:Int)(e:Ending)(w':World):Prop:=
 (¬doOk l ps s tk pt n m1 m2∧e=.returned (.tuple #[aF3,.int .i64 1])∧Below w.heap.size w w')∨
 (doOk l ps s tk pt n m1 m2∧∃o x ls' vb',aBg l s=some o∧x=upN (n*o.nu) o.de∧aIp ps ls o tk pt n x ls'∧e=.returned (.tuple #[.agg #[.int .u64 s,.int .u8 tk,.int .u8 pt,.int .i64 n,.int .i64 x],.int .i64 0])∧
  LedM w' G M ps ls'∧PB w' base gb (aCh l s n) N vb'∧Keep (fun k=>k=G∨k=M∨Foot gb vb k) w w'∧aEt w vb vb')
def aGq:Prop:=∀{w:World} {base G M gb:Nat} {ps:List Int} {ls:List Ln} {l:List Of} {N:Int} {vb:Value},LedM w G M ps ls→LInv ps ls→PB w base gb l N vb→BInv l N→
 ∀(s tk pt n m1 m2:Int),(0≤s∧s≤18446744073709551615)→In8 tk→In8 pt→In64 n→(∀o,aBg l s=some o→Goes ps ls o tk pt m1 m2)→
 Calls Tryz.prog 87 #[.agg #[.pointer (some ⟨G,0,none⟩),.pointer (some ⟨gb,0,none⟩)],.int .u64 s,.int .u8 tk,.int .u8 pt,.int .i64 n] w (FDoPost w base G M gb ps ls l N vb s tk pt n m1 m2)
def FCopyPost(w:World)(ps:List Int)(ls:List Ln)(l:List Of)(N:Int)(e:Ending)(w':World):Prop:=
 ∃G M gb vb,e=.returned (.agg #[.pointer (some ⟨G,0,none⟩),.pointer (some ⟨gb,0,none⟩)])∧LedM w' G M ps ls∧PB w' w.heap.size gb l N vb∧w.heap.size≤G∧w.heap.size≤M∧Below w.heap.size w w'
def aIq:Prop:=∀{w:World} {base G M gb:Nat} {ps:List Int} {ls:List Ln} {l:List Of} {N:Int} {vb:Value},LedM w G M ps ls→LInv ps ls→PB w base gb l N vb→BInv l N→
 Calls Tryz.prog 17 #[.agg #[.pointer (some ⟨G,0,none⟩),.pointer (some ⟨gb,0,none⟩)]] w (FCopyPost w ps ls l N)
theorem fitN_nn{g nu de:Int}:0≤fitN g nu de:=by
 unfold fitN;split
 ·rename_i h;have:=aC4 h.1;have:=Int.ediv_nonneg (Int.mul_nonneg h.2 (show 0≤de by omega)) (show 0≤nu by omega);omega
 omega
theorem fitN_mono{a b nu de:Int}(h0:0≤a)(h:a≤b):fitN a nu de≤fitN b nu de:=by
 unfold fitN
 by_cases hm:mayB nu de=true
 ·rw[if_pos ⟨hm,h0⟩,if_pos ⟨hm,by omega⟩];have hb:=aC4 hm;have h1:a*de≤b*de:=Int.mul_le_mul_of_nonneg_right h (by omega);have:=Int.ediv_le_ediv (show 0<nu by omega) h1;omega
 rw[if_neg (fun q=>hm q.1),if_neg (fun q=>hm q.1)];omega
theorem may_do{l:List Of}{ps:List Int}{s tk pt want most m1 m2 n:Int}(h1:0≤m1)(h2:0≤m2)(hn:mayV l ps s tk pt want most m1 m2=n)(h:1≤n):
  doOk l ps s tk pt n m1 m2∧n≤want∧1≤most∧∃o,aBg l s=some o∧n≤fitN (min (min most 1099511627776) m2) o.nu o.de:=by
 unfold mayV at hn
 cases hf:aBg l s with
 | none=>rw[hf]at hn;simp at hn;omega
 | some o=>
  rw[hf]at hn;simp only[mayO]at hn
  by_cases hb:o.ow=tk∨o.ow∉ps∨tk∉ps∨pt∉ps∨want<1∨most<1
  ·rw[if_pos hb]at hn;omega
  rw[if_neg hb]at hn
  have hb2:¬(o.ow=tk∨o.ow∉ps∨tk∉ps∨pt∉ps∨n<1∨(1099511627776:Int)<1):=by
   intro q;rcases q with q|q|q|q|q|q
   ·exact hb (.inl q)
   ·exact hb (.inr (.inl q))
   ·exact hb (.inr (.inr (.inl q)))
   ·exact hb (.inr (.inr (.inr (.inl q))))
   ·omega
   omega
  have hmn:=fitN_mono (nu:=o.nu) (de:=o.de) (a:=min (min most 1099511627776) m2) (b:=min (min 1099511627776 1099511627776) m2) (by omega) (by omega);have hle:n≤want∧n≤fitN (min (min most 1099511627776) m2) o.nu o.de:=by split at hn <;> omega
  refine⟨⟨h,?_⟩,hle.1,by omega,o,rfl,hle.2⟩;unfold mayV;rw[hf];simp only[mayO];rw[if_neg hb2];split at hn
  ·rename_i hp;rw[if_pos hp];omega
  rename_i hp;rw[if_neg hp];omega
theorem take_facts{l:List Of}{N:Int}(h:BInv l N){s n:Int}{o:Of}(hf:aBg l s=some o)(h1:1≤n)(h2:n≤o.lf):
  aCh l s n=setO l s (o.lf - n):=by
 unfold aCh aDz aPx;rw[hf];simp only[];rw[if_pos (show(if n<1∨o.lf<n then(1:Int)else 0)=0 from if_neg (by omega))]
theorem pay_goes{ps:List Int}{ls:List Ln}(hI:LInv ps ls){a b c n m:Int}{σ μ:RS}(ha:a∈ps)(hb:b∈ps)(hab:a≠b)(hc:1≤c∧c≤8)(h1:1≤n)(h2:n≤1099511627776)
  (hσ:aAk (aB1 ps ls c) 4398046511104 a b n σ)(hμ:aAk (aB1 ps ls c) 4398046511104 a b aBs μ)(hm:aBs - μ.left=m)(hnm:n≤m):
  payE ps a b c n σ=0∧payL ps ls a b c n σ=aCf ps c ls σ.out∧n - σ.left=n:=by
 have pa:=hI.bd a ha;have pb:=hI.bd b hb;have MIN:=aO8 hσ hμ (aAx hI c) pa pb hab h1;rw[hm]at MIN;have hg:n - σ.left=n:=by rw[MIN];omega
 have PE:payE ps a b c n σ=0:=by
  unfold payE;rcases aLi (fun p=>decide (p∈ps)) a b c n (n - σ.left)with⟨_,q⟩|⟨_,_,q⟩|⟨_,_,_,_,q⟩|⟨q,_⟩
  ·exact absurd ⟨pa,pb,hab,hc.1,hc.2,h1,h2⟩ q
  ·rcases q with q|q
   ·exact absurd ha (by simpa using q)
   exact absurd hb (by simpa using q)
  ·omega
  exact q
 exact⟨PE,by unfold payL;rw[if_pos PE],hg⟩
theorem pay_pos{ps:List Int}{ls:List Ln}(hI:LInv ps ls){a b c n:Int}{σ:RS}(hσ:aAk (aB1 ps ls c) 4398046511104 a b n σ)(hg:n - σ.left=n)(p d:Int):
  posL (aCf ps c ls σ.out) p d=posL ls p d+(if d=c then(if b=p then n else 0) - (if a=p then n else 0)else 0):=by
 rw[aLh p σ.out hI hσ.good.1 d,hσ.net p,hg]
def aP7(o:Of)(tk pt n x p c:Int):Int:=
 (((if c=o.sl∧p=o.ow then -n else 0)+(if c=o.sl∧p=pt then n else 0))+(if c=o.bu∧p=tk then -x else 0))+(if c=o.bu∧p=o.ow then x else 0)
theorem aP8{ps:List Int}{ls ls':List Ln}(hI:LInv ps ls){l:List Of}{N:Int}(hJ:BInv l N){s tk pt n m1 m2 x:Int}{o:Of}(hf:aBg l s=some o)(hG:Goes ps ls o tk pt m1 m2)(hd:doOk l ps s tk pt n m1 m2)(hx:x=upN (n*o.nu) o.de)(hF:aIp ps ls o tk pt n x ls'):
  limL ls=limL ls'∧(∀p c,posL ls' p c=posL ls p c+aP7 o tk pt n x p c)∧1≤x∧x≤1099511627776∧x≤m2:=by
 obtain⟨o',hf',⟨k1,k2,k3,k4⟩,k5,k6,k7⟩:=hd.facts;rw[hf]at hf'
 cases hf'
 have hB:=hG.bd hI;obtain⟨⟨μ,hμ,em⟩,ν,hν,en⟩:=hG;obtain⟨_,⟨s1,s2⟩,⟨b1,b2⟩,hsb,⟨l1,l2⟩,hm⟩:=hJ.may o (aCx hf).1;have hn1:=hd.1;have hb:=aC4 hm;obtain⟨u1,u2,u3⟩:=aOa hm (g:=min 1099511627776 m2) (by omega) (by omega) (by omega) k7;rw[←hx]at u2 u3
 have hx1:1≤x:=by
  have hp:1≤n*o.nu:=by have:=Int.mul_le_mul hn1 hb.1 (by omega) (by omega);omega
  rw[hx];unfold upN;have h0:0≤n*o.nu/o.de:=Int.ediv_nonneg (by omega) (by omega);split
  ·rename_i h;have hd2:=Int.mul_ediv_add_emod (n*o.nu) o.de;rw[h]at hd2;rcases Int.lt_or_le (n*o.nu/o.de) 1 with k|k
   ·have:n*o.nu/o.de=0:=by omega
    rw[this]at hd2;omega
   exact k
  omega
 obtain⟨ls1,τ,hA,hτ,rfl⟩:=hF
 have hroom:LInv ps ls1∧aB1 ps ls1 o.bu=aB1 ps ls o.bu∧limL ls=limL ls1∧∀p c,posL ls1 p c=posL ls p c+((if c=o.sl∧p=o.ow then -n else 0)+(if c=o.sl∧p=pt then n else 0)):=by
  rcases hA with⟨hp,rfl⟩|⟨hp,σ,hσ,rfl⟩
  ·refine⟨hI,rfl,rfl,fun p c=>?_⟩;subst hp
   by_cases h:c=o.sl∧p=o.ow
   ·rw[if_pos h,if_pos h];omega
   rw[if_neg h,if_neg h];omega
  have hn:n≤m1:=by rcases k6 with h|h;exact absurd h hp;exact h
  obtain⟨e1,e2,e3⟩:=pay_goes hI k2 k4 (fun e=>hp e.symm) ⟨s1,s2⟩ hn1 (by omega) hσ hμ em hn;rw[e2];refine⟨aEq _ hI,aJn hsb _ hI,(aGi _ hI).symm,fun p c=>?_⟩;rw[pay_pos hI hσ e3];clear hμ hν hσ hτ hm hx hb u1
  repeat' split
  all_goals omega
 obtain⟨hI1,hr,hl,hpos⟩:=hroom;rw[hr]at hτ;rw[←hr]at hν hτ;obtain⟨e1,e2,e3⟩:=pay_goes hI1 k3 k2 (fun e=>k1 e.symm) ⟨b1,b2⟩ hx1 (by omega) hτ hν en (by omega);rw[e2];refine⟨hl.trans (aGi _ hI1).symm,fun p c=>?_,hx1,by omega,by omega⟩;rw[pay_pos hI1 hτ e3,hpos];unfold aP7;generalize (if c=o.sl∧p=o.ow then -n else 0)+(if c=o.sl∧p=pt then n else 0)=S;clear hμ hν hτ hm hx hb u1 hpos
 repeat' split
 all_goals omega
theorem aGr{ps:List Int}{ls:List Ln}(hI:LInv ps ls)(l:List Of)(s tk pt:Int):∃m1 m2,(∀o,aBg l s=some o→Goes ps ls o tk pt m1 m2)∧0≤m1∧0≤m2:=by
 cases hf:aBg l s with
 | none=>exact⟨0,0,(fun o h=>by cases h),by omega,by omega⟩
 | some o=>
  obtain⟨m1,m2,g⟩:=goes_ends hI o tk pt;have:=g.bd hI;exact⟨m1,m2,(fun o' h=>by cases h;exact g),by omega,by omega⟩
theorem LInv.len10{ps:List Int}{ls:List Ln}(h:LInv ps ls):ps.length≤17:=by
 have h1:=open_all h.bd h.rise;have h2:=aIz ps 0 17;rw[h1]at h2;omega
def aBh(x y:Of):Bool:=decide (cmpR y.nu y.de x.nu x.de≤0)
def insO(out:List Of)(x:Of):List Of:=out.takeWhile (aBh x)++x::out.dropWhile (aBh x)
def aCg(s b:Int)(out:List Of)(x:Of):List Of:=if x.sl=s∧x.bu=b then insO out x else out
def aBt(l:List Of)(s b:Int):List Of:=l.foldl (aCg s b) []
theorem bestO_next(l:List Of)(s b:Int)(k:Nat)(h:k<l.length):aBt (l.take (k+1)) s b=aCg s b (aBt (l.take k) s b) l[k]:=by
 unfold aBt;rw[List.take_succ_eq_append_getElem h,List.foldl_append];rfl
theorem aKi{p:Of→Bool}{l:List Of}{j:Nat}(h1:∀y∈l.take j,p y=true)(h2:∀h:j<l.length,p l[j]=false):l.takeWhile p=l.take j∧l.dropWhile p=l.drop j:=by
 have e:l=l.take j++l.drop j:=(List.take_append_drop j l).symm
 have hd:(l.drop j).takeWhile p=[]∧(l.drop j).dropWhile p=l.drop j:=by
  by_cases h:j<l.length
  ·rw[←List.getElem_cons_drop h,List.takeWhile_cons,List.dropWhile_cons,h2 h];simp
  rw[List.drop_eq_nil_of_le (by omega)];simp
 constructor
 ·conv=>lhs;rw[e]
  rw[List.takeWhile_append_of_pos h1,hd.1,List.append_nil]
 conv=>lhs;rw[e]
 rw[List.dropWhile_append_of_pos h1,hd.2]
theorem insO_at{x:Of}{l:List Of}{j:Nat}(h1:∀y∈l.take j,aBh x y=true)(h2:∀h:j<l.length,aBh x l[j]=false):insO l x=l.take j++x::l.drop j:=by
 unfold insO;rw[(aKi h1 h2).1,(aKi h1 h2).2]
theorem aOf(out:List Of)(x:Of):(insO out x).length=out.length+1:=by
 unfold insO;rw[List.length_append,List.length_cons];have:=congrArg List.length (List.takeWhile_append_dropWhile (p:=aBh x) (l:=out));rw[List.length_append]at this;omega
theorem bestO_len(l:List Of)(s b:Int):(aBt l s b).length≤l.length:=by
 have key:∀(l:List Of) (out:List Of),(l.foldl (aCg s b) out).length≤out.length+l.length:=by
  intro l
  induction l with
  | nil=>intro out;exact Nat.le_refl _
  | cons x r ih=>
   intro out;have h1:=ih (aCg s b out x)
   have h2:(aCg s b out x).length≤out.length+1:=by
    unfold aCg;split
    ·rw[aOf];omega
    omega
   simp only[List.foldl_cons,List.length_cons];omega
 have:=key l [];simpa [aBt]using this
def ltO(x y:Of):Prop:=x.nu*y.de<y.nu*x.de∨(x.nu*y.de=y.nu*x.de∧x.se<y.se)
def ordO(x y:Of):Int:=orI (cmpR x.nu x.de y.nu y.de) (cmpI x.se y.se)
theorem aKj{an ad bn bd:Int}(h1:mayB an ad=true)(h2:mayB bn bd=true):cmpR an ad bn bd=cmpI (an*bd) (bn*ad):=by unfold cmpR;rw[if_pos ⟨h1,h2⟩]
theorem ordO_lt{x y:Of}(hx:x.may)(hy:y.may):ordO x y<0↔ltO x y:=by
 unfold ordO;rw[aKj hx.2.2.2.2.2 hy.2.2.2.2.2];unfold ltO orI cmpI;generalize x.nu*y.de=p;generalize y.nu*x.de=q
 (repeat' split) <;> omega
theorem sgn3{a1 d1 a2 d2 a3 d3:Int}(h1:1≤d1)(h2:1≤d2)(h3:1≤d3):d2*(a1*d3 - a3*d1)=d3*(a1*d2 - a2*d1)+d1*(a2*d3 - a3*d2):=by
 simp only[Int.mul_sub];have e1:d2*(a1*d3)=d3*(a1*d2):=by rw[←Int.mul_assoc,Int.mul_comm d2 a1,Int.mul_comm d3,Int.mul_assoc]
 have e2:d2*(a3*d1)=d1*(a3*d2):=by rw[←Int.mul_assoc,Int.mul_comm d2 a3,Int.mul_comm d1,Int.mul_assoc]
 have e3:d3*(a2*d1)=d1*(a2*d3):=by rw[←Int.mul_assoc,Int.mul_comm d3 a2,Int.mul_comm d1,Int.mul_assoc]
 omega
theorem aP9{d1 d2 d3 u v t:Int}(h1:1≤d1)(h2:1≤d2)(h3:1≤d3)(h:d2*t=d3*u+d1*v):(u<0→v≤0→t<0)∧(u≤0→v<0→t<0)∧(u=0→v=0→t=0)∧(0<u→0≤v→0<t)∧(0≤u→0<v→0<t):=by
 refine⟨fun a b=>?_,fun a b=>?_,fun a b=>?_,fun a b=>?_,fun a b=>?_⟩
 ·have p:=Int.mul_neg_of_pos_of_neg (show 0<d3 by omega) a;have q:=Int.mul_nonpos_of_nonneg_of_nonpos (show 0≤d1 by omega) b
  by_cases c:0≤t
  ·have:=Int.mul_nonneg (show 0≤d2 by omega) c;omega
  omega
 ·have p:=Int.mul_neg_of_pos_of_neg (show 0<d1 by omega) b;have q:=Int.mul_nonpos_of_nonneg_of_nonpos (show 0≤d3 by omega) a
  by_cases c:0≤t
  ·have:=Int.mul_nonneg (show 0≤d2 by omega) c;omega
  omega
 ·subst a b;rw[Int.mul_zero,Int.mul_zero,Int.add_zero]at h;rcases Int.mul_eq_zero.1 h with e|e <;> omega
 ·have p:=Int.mul_pos (show 0<d3 by omega) a;have q:=Int.mul_nonneg (show 0≤d1 by omega) b
  by_cases c:t≤0
  ·have:=Int.mul_nonpos_of_nonneg_of_nonpos (show 0≤d2 by omega) c;omega
  omega
 have p:=Int.mul_pos (show 0<d1 by omega) b;have q:=Int.mul_nonneg (show 0≤d3 by omega) a
 by_cases c:t≤0
 ·have:=Int.mul_nonpos_of_nonneg_of_nonpos (show 0≤d2 by omega) c;omega
 omega
theorem Of.may.de{x:Of}(h:x.may):1≤x.de:=(aC4 h.2.2.2.2.2).2.1
theorem aQa{x y z:Of}(hx:x.may)(hy:y.may)(hz:z.may)(h1:ltO x y)(h2:ltO y z):ltO x z:=by
 have k:=aP9 hx.de hy.de hz.de (sgn3 (a1:=x.nu) (a2:=y.nu) (a3:=z.nu) hx.de hy.de hz.de);unfold ltO at *;generalize x.nu*y.de=a at *;generalize y.nu*x.de=b at *;generalize y.nu*z.de=c at *;generalize z.nu*y.de=d at *;generalize x.nu*z.de=e at *;generalize z.nu*x.de=f at *;obtain⟨k1,k2,k3,k4,k5⟩:=k;rcases h1 with h1|⟨h1,s1⟩
 ·have:=k1 (by omega) (by omega);omega
 rcases h2 with h2|⟨h2,s2⟩
 ·have:=k2 (by omega) (by omega);omega
 have:=k3 (by omega) (by omega);omega
theorem ltO_ntrans{x y z:Of}(hx:x.may)(hy:y.may)(hz:z.may)(h1:¬ltO x y)(h2:¬ltO y z):¬ltO x z:=by
 have k:=aP9 hx.de hy.de hz.de (sgn3 (a1:=x.nu) (a2:=y.nu) (a3:=z.nu) hx.de hy.de hz.de);unfold ltO at *;generalize x.nu*y.de=a at *;generalize y.nu*x.de=b at *;generalize y.nu*z.de=c at *;generalize z.nu*y.de=d at *;generalize x.nu*z.de=e at *;generalize z.nu*x.de=f at *;obtain⟨k1,k2,k3,k4,k5⟩:=k
 by_cases u:b<a
 ·have:=k4 (by omega) (by omega);omega
 by_cases v:d<c
 ·have:=k5 (by omega) (by omega);omega
 have:=k3 (by omega) (by omega);omega
theorem ltO_irrefl(x:Of):¬ltO x x:=by unfold ltO;omega
theorem ltO_total{x y:Of}(h:x.se≠y.se)(h1:¬ltO x y):ltO y x:=by
 unfold ltO at *;generalize x.nu*y.de=a at *;generalize y.nu*x.de=b at *;omega
theorem ltO_asymm{x y:Of}(h1:ltO x y)(h2:ltO y x):False:=by
 unfold ltO at *;generalize x.nu*y.de=a at *;generalize y.nu*x.de=b at *;omega
theorem noWorse_lt{x y:Of}(hx:x.may)(hy:y.may)(hs:y.se<x.se)(h:aBh x y=true):ltO y x:=by
 unfold aBh at h;rw[aKj hy.2.2.2.2.2 hx.2.2.2.2.2]at h;unfold ltO;generalize x.nu*y.de=a at *;generalize y.nu*x.de=b at *;unfold cmpI at h;split at h
 ·omega
 split at h
 ·simp at h
 omega
theorem worse_lt{x y:Of}(hx:x.may)(hy:y.may)(h:aBh x y=false):ltO x y:=by
 unfold aBh at h;rw[aKj hy.2.2.2.2.2 hx.2.2.2.2.2]at h;unfold ltO;generalize x.nu*y.de=a at *;generalize y.nu*x.de=b at *;unfold cmpI at h;split at h
 ·simp at h
 split at h
 ·omega
 simp at h
theorem insO_perm(out:List Of)(x:Of):(insO out x).Perm (out++[x]):=by
 unfold insO;have h1:(out.takeWhile (aBh x)++x::out.dropWhile (aBh x)).Perm (x::(out.takeWhile (aBh x)++out.dropWhile (aBh x))):=List.perm_middle;rw[List.takeWhile_append_dropWhile]at h1;exact h1.trans (List.perm_append_singleton x out).symm
theorem aF0{p:Of→Bool}:∀{l:List Of} {y:Of},y∈l.takeWhile p→p y=true
 | x::r,y,h=>by
  rw[List.takeWhile_cons]at h;split at h
  ·rcases List.mem_cons.1 h with rfl|h
   ·assumption
   exact aF0 h
  simp at h
theorem aSn{out:List Of}{x:Of}(hm:∀y∈out,y.may)(hx:x.may)(hs:∀y∈out,y.se<x.se)(ho:out.Pairwise ltO):(insO out x).Pairwise ltO:=by
 unfold insO;have hsplit:out.takeWhile (aBh x)++out.dropWhile (aBh x)=out:=List.takeWhile_append_dropWhile;have h1:∀y∈out.takeWhile (aBh x),y∈out∧aBh x y=true:=fun y hy=>⟨by rw[←hsplit];exact List.mem_append_left _ hy,aF0 hy⟩
 have h2:∀y∈out.dropWhile (aBh x),y∈out:=fun y hy=>by rw[←hsplit];exact List.mem_append_right _ hy
 rw[←hsplit,List.pairwise_append]at ho;obtain⟨o1,o2,o3⟩:=ho
 have h3:∀y∈out.dropWhile (aBh x),ltO x y:=by
  cases hd:out.dropWhile (aBh x)with
  | nil=>simp
  | cons z r=>
   rw[hd]at o2 h2
   have hz:aBh x z=false:=by
    have:=List.head_dropWhile_not (aBh x) (l:=out) (by rw[hd];simp);simpa [hd]using this
   have hz2:=worse_lt hx (hm z (h2 z (by simp))) hz;intro y hy;rcases List.mem_cons.1 hy with rfl|hy
   ·exact hz2
   exact aQa hx (hm z (h2 z (by simp))) (hm y (h2 y (by simp[hy]))) hz2 ((List.pairwise_cons.1 o2).1 y hy)
 rw[List.pairwise_append];refine⟨o1,List.pairwise_cons.2 ⟨h3,o2⟩,fun y hy z hz=>?_⟩;obtain⟨hyo,hyn⟩:=h1 y hy;have hyx:=noWorse_lt hx (hm y hyo) (hs y hyo) hyn;rcases List.mem_cons.1 hz with rfl|hz
 ·exact hyx
 exact o3 y hy z hz
def aBf(s b:Int)(x:Of):Bool:=decide (x.sl=s∧x.bu=b)
theorem aJc{s b:Int}:∀(l out:List Of),(∀x∈l,x.may)→(∀x∈out,x.may)→l.Pairwise (fun x y=>x.se<y.se)→(∀y∈out,∀x∈l,y.se<x.se)→out.Pairwise ltO→
  (l.foldl (aCg s b) out).Perm (out++l.filter (aBf s b))∧(l.foldl (aCg s b) out).Pairwise ltO
 | [],out,_,_,_,_,ho=>by simpa using ho
 | x::r,out,h1,h2,h3,h4,ho=>by
  obtain⟨h3a,h3b⟩:=List.pairwise_cons.1 h3;rw[List.foldl_cons]
  by_cases hp:x.sl=s∧x.bu=b
  ·have e:aCg s b out x=insO out x:=by unfold aCg;rw[if_pos hp]
   have hi:=insO_perm out x
   have hmem:∀y∈insO out x,y∈out∨y=x:=fun y hy=>by
    have:=hi.mem_iff.1 hy;simpa using this
   rw[e]
   obtain⟨p,q⟩:=aJc r (insO out x) (fun y hy=>h1 y (by simp[hy])) (fun y hy=>by rcases hmem y hy with h|rfl;exact h2 y h;exact h1 y (by simp)) h3b
    (fun y hy z hz=>by rcases hmem y hy with h|rfl;exact h4 y h z (by simp[hz]);exact h3a z hz) (aSn h2 (h1 x (by simp)) (fun y hy=>h4 y hy x (by simp)) ho)
   refine⟨p.trans ?_,q⟩;rw[List.filter_cons,if_pos (by unfold aBf;simpa using hp)];exact(hi.append_right _).trans (by simp)
  have e:aCg s b out x=out:=by unfold aCg;rw[if_neg hp]
  rw[e];obtain⟨p,q⟩:=aJc r out (fun y hy=>h1 y (by simp[hy])) h2 h3b (fun y hy z hz=>h4 y hy z (by simp[hz])) ho;refine⟨?_,q⟩;rw[List.filter_cons,if_neg (by unfold aBf;simpa using hp)];exact p
theorem bestO_is{l:List Of}(h1:∀x∈l,x.may)(h3:l.Pairwise (fun x y=>x.se<y.se))(s b:Int):(aBt l s b).Perm (l.filter (aBf s b))∧(aBt l s b).Pairwise ltO:=by
 have:=aJc (s:=s) (b:=b) l [] h1 (by simp) h3 (by simp) List.Pairwise.nil;simpa [aBt]using this
noncomputable def routeS(f:Int→Int→Int)(a b n:Int):RS:=@Classical.epsilon RS ⟨⟨f,n,[]⟩⟩ (fun μ=>aAk f 4398046511104 a b n μ)
theorem aC7{f:Int→Int→Int}(h:GInv f 4398046511104)(a b n:Int):aAk f 4398046511104 a b n (routeS f a b n):=
 @Classical.epsilon_spec RS (fun μ=>aAk f 4398046511104 a b n μ) (aCk h a b n)
noncomputable def aEy(ps:List Int)(ls:List Ln)(c a b:Int):Int:=aBs - (routeS (aB1 ps ls c) a b aBs).left
theorem goesS{ps:List Int}{ls:List Ln}(h:LInv ps ls)(o:Of)(tk pt:Int):Goes ps ls o tk pt (aEy ps ls o.sl o.ow pt) (aEy ps ls o.bu tk o.ow):=
 ⟨⟨_,aC7 (aAx h _) _ _ _,rfl⟩,_,aC7 (aAx h _) _ _ _,rfl⟩
theorem Goes.eqS{ps:List Int}{ls:List Ln}{o:Of}{tk pt m1 m2:Int}(h:LInv ps ls)(g:Goes ps ls o tk pt m1 m2):m1=aEy ps ls o.sl o.ow pt∧m2=aEy ps ls o.bu tk o.ow:=by
 obtain⟨⟨μ,h1,rfl⟩,ν,h2,rfl⟩:=g;unfold aEy;rw[h1.eq (aC7 (aAx h _) _ _ _),h2.eq (aC7 (aAx h _) _ _ _)];exact⟨rfl,rfl⟩
theorem mostS_bd{ps:List Int}{ls:List Ln}(h:LInv ps ls)(c a b:Int):0≤aEy ps ls c a b∧aEy ps ls c a b≤1125899906842624:=
 aH0 (aAx h c) (aC7 (aAx h c) a b aBs)
noncomputable def mayS(ps:List Int)(ls:List Ln)(l:List Of)(tk pt want most s:Int):Int:=match aBg l s with
 | none=>0
 | some o=>mayO o ps tk pt want most (aEy ps ls o.sl o.ow pt) (aEy ps ls o.bu tk o.ow)
theorem aLx{ps:List Int}{ls:List Ln}(h:LInv ps ls){l:List Of}{tk pt want most s m1 m2:Int}(g:∀o,aBg l s=some o→Goes ps ls o tk pt m1 m2):mayV l ps s tk pt want most m1 m2=mayS ps ls l tk pt want most s:=by
 unfold mayV mayS
 cases hf:aBg l s with
 | none=>rfl
 | some o=>
  obtain⟨e1,e2⟩:=(g o hf).eqS h;simp only[];rw[e1,e2]
noncomputable def aJd(ps:List Int)(ls:List Ln)(a b c n:Int):List Ln:=payL ps ls a b c n (routeS (aB1 ps ls c) a b n)
noncomputable def aCy(ps:List Int)(ls:List Ln)(o:Of)(tk pt n x:Int):List Ln:=aJd ps (if pt=o.ow then ls else aJd ps ls o.ow pt o.sl n) tk o.ow o.bu x
theorem aGs{ps:List Int}{ls:List Ln}(h:LInv ps ls)(a b c n:Int):LInv ps (aJd ps ls a b c n):=aIi h _ _ _ _ _
theorem aG6{ps:List Int}{ls:List Ln}(h:LInv ps ls)(o:Of)(tk pt n x:Int):aIp ps ls o tk pt n x (aCy ps ls o tk pt n x):=by
 unfold aCy
 by_cases e:pt=o.ow
 ·rw[if_pos e];exact⟨ls,_,.inl ⟨e,rfl⟩,aC7 (aAx h _) _ _ _,rfl⟩
 rw[if_neg e];exact⟨_,_,.inr ⟨e,_,aC7 (aAx h _) _ _ _,rfl⟩,aC7 (aAx (aGs h _ _ _ _) _) _ _ _,rfl⟩
theorem aSo{ps:List Int}{ls:List Ln}(h:LInv ps ls)(o:Of)(tk pt n x:Int):LInv ps (aCy ps ls o tk pt n x):=(aG6 h o tk pt n x).inv h
def okS(ps:List Int)(ls:List Ln)(l:List Of)(tk pt n s:Int):Prop:=1≤n∧n≤mayS ps ls l tk pt n 1099511627776 s
theorem aJe{ps:List Int}{ls:List Ln}(h:LInv ps ls){l:List Of}{tk pt n s m1 m2:Int}(g:∀o,aBg l s=some o→Goes ps ls o tk pt m1 m2):doOk l ps s tk pt n m1 m2↔okS ps ls l tk pt n s:=by
 unfold doOk okS;rw[aLx h g]
theorem may_okS{ps:List Int}{ls:List Ln}(h:LInv ps ls){l:List Of}{tk pt want most s k:Int}(hk:k=mayS ps ls l tk pt want most s)(h1:1≤k):okS ps ls l tk pt k s∧k≤want:=by
 obtain⟨m1,m2,g,b1,b2⟩:=aGr h l s tk pt;have e:mayV l ps s tk pt want most m1 m2=k:=by rw[aLx h g,hk]
 obtain⟨a,b,_⟩:=may_do b1 b2 e h1;exact⟨(aJe h g).1 a,b⟩
noncomputable def aBc(ps:List Int)(ls:List Ln)(l:List Of)(tk pt want most:Int):List Of→Option (Int×Int)
 | []=>none
 | o::os=>if 0<mayS ps ls l tk pt want most o.se then some (o.se,mayS ps ls l tk pt want most o.se)else aBc ps ls l tk pt want most os
theorem aLy{ps:List Int}{ls:List Ln}{l:List Of}{tk pt want most:Int}:∀{os:List Of} {s k:Int},aBc ps ls l tk pt want most os=some (s,k)→0<k∧k=mayS ps ls l tk pt want most s∧∃o∈os,o.se=s
 | [],s,k,h=>by simp[aBc]at h
 | o::os,s,k,h=>by
  unfold aBc at h;split at h
  ·rename_i hp;simp only[Option.some.injEq,Prod.mk.injEq]at h;obtain⟨rfl,rfl⟩:=h;exact⟨hp,rfl,o,List.mem_cons_self,rfl⟩
  obtain⟨h1,h2,o',h3,h4⟩:=aLy h;exact⟨h1,h2,o',List.mem_cons_of_mem _ h3,h4⟩
structure Fl where
 se:Int
 got:Int
 gi:Int
structure SwS where
 ls:List Ln
 l:List Of
 fs:List Fl
 n:Int
def swMay(fr pt get give n most:Int):Prop:=(1≤fr∧fr≤16)∧(1≤pt∧pt≤16)∧(1≤get∧get≤8)∧(1≤give∧give≤8)∧get≠give∧(1≤n∧n≤1099511627776)∧1≤most∧most≤1099511627776
instance(fr pt get give n most:Int):Decidable (swMay fr pt get give n most):=by unfold swMay;infer_instance
theorem aOg{l:List Of}{N:Int}(h:BInv l N){s b:Int}{o:Of}(ho:o∈aBt l s b):o∈l∧o.sl=s∧o.bu=b:=by
 have h1:=((bestO_is h.may h.rise s b).1.mem_iff).1 ho;rw[List.mem_filter]at h1;obtain⟨h2,h3⟩:=h1;simp[aBf]at h3;exact⟨h2,h3.1,h3.2⟩
theorem aSp{l:List Of}{N:Int}(h:BInv l N){o:Of}(ho:o∈l):aBg l o.se=some o:=by
 cases hf:aBg l o.se with
 | none=>
  unfold aBg at hf;rw[List.find?_eq_none]at hf;exact absurd (by simp) (hf o ho)
 | some o'=>
  obtain⟨h1,h2⟩:=aCx hf
  have key:∀{m:List Of},m.Pairwise (fun x y=>x.se<y.se)→o∈m→o'∈m→o=o':=by
   intro m hm
   induction m with
   | nil=>intro a;cases a
   | cons z m ih=>
    intro a b;have hz:=(List.pairwise_cons.1 hm).1;rcases List.mem_cons.1 a with ea|a
    ·rcases List.mem_cons.1 b with eb|b
     ·rw[ea,eb]
     have:=hz _ b;rw[←ea]at this;omega
    rcases List.mem_cons.1 b with eb|b
    ·have:=hz _ a;rw[←eb]at this;omega
    exact ih (List.pairwise_cons.1 hm).2 a b
  rw[key h.rise ho h1]
def likeO(a b:Of):Prop:=a.ow=b.ow∧a.sl=b.sl∧a.bu=b.bu∧a.nu=b.nu∧a.de=b.de
theorem take_like{l:List Of}{N:Int}(h:BInv l N){s n:Int}{o:Of}(hf:aBg l s=some o)(h1:1≤n)(h2:n≤o.lf){t:Int}{x:Of}(hx:aBg (aCh l s n) t=some x):∃y,aBg l t=some y∧likeO y x:=by
 obtain⟨hm,hs⟩:=aCx hx;rw[take_facts h hf h1 h2]at hm;obtain⟨_,y,hy,hor⟩:=aN9 hm;rcases hor with rfl|⟨_,rfl⟩
 ·exact⟨x,by rw[←hs];exact aSp h hy,rfl,rfl,rfl,rfl,rfl⟩
 exact⟨y,by rw[←hs];exact aSp h hy,rfl,rfl,rfl,rfl,rfl⟩
def flBy(l0:List Of)(tk pt:Int)(f:Fl)(p c:Int):Int:=match aBg l0 f.se with
 | none=>0
 | some o=>aP7 o tk pt f.got f.gi p c
def agO(l:List Of)(sl bu nu de:Int):List Of:=(aBt l bu sl).takeWhile fun x=>decide (cmpR x.nu x.de de nu≤0)
theorem mayB_turn{n d:Int}(h:mayB n d=true):mayB d n=true:=by
 obtain⟨h1,h2,h3,h4,h5⟩:=aC4 h;exact decide_eq_true ⟨h2,h1,h4,h3,by rw[Int.gcd_comm];exact h5⟩
theorem cmp_le{a b n d:Int}(h1:mayB a b=true)(h2:mayB n d=true):cmpR a b d n≤0↔a*n≤d*b:=by
 rw[aKj h1 (mayB_turn h2)];unfold cmpI;split
 ·constructor <;> intro <;> omega
 split
 ·constructor <;> intro <;> omega
 constructor <;> intro <;> omega
theorem mem_ag{l:List Of}{N:Int}(h:BInv l N){sl bu nu de:Int}{o:Of}(ho:o∈agO l sl bu nu de):o∈l∧o.sl=bu∧o.bu=sl∧cmpR o.nu o.de de nu≤0:=by
 have h1:=aF0 ho;obtain⟨a,b,c⟩:=aOg h ((List.takeWhile_sublist _).subset ho);exact⟨a,b,c,by simpa using h1⟩
theorem rate_more{k a b nu de:Int}(h1:mayB a b=true)(h2:mayB nu de=true)(hc:cmpR a b de nu≤0)(hk:1≤k):(upN (k*a) b - 1)*nu<k*de:=by
 have q:=(cmp_le h1 h2).1 hc;have d1:=aC4 h1;have d2:=aC4 h2
 have hu:(upN (k*a) b - 1)*b<k*a:=by
  have e:=Int.emod_add_mul_ediv (k*a) b;have e0:=Int.emod_nonneg (k*a) (show b≠0 by omega);unfold upN;split
  ·rename_i hz;rw[hz]at e;have:(k*a/b - 1)*b=b*(k*a/b) - b:=by rw[Int.sub_mul,Int.mul_comm,Int.one_mul]
   omega
  rename_i hz;have:(k*a/b+1 - 1)*b=b*(k*a/b):=by rw[Int.add_sub_cancel,Int.mul_comm]
  omega
 have s1:(upN (k*a) b - 1)*b*nu<k*a*nu:=Int.mul_lt_mul_of_pos_right hu (by omega);have s2:k*(a*nu)≤k*(de*b):=Int.mul_le_mul_of_nonneg_left q (by omega)
 have s3:((upN (k*a) b - 1)*nu)*b<(k*de)*b:=by
  have e1:((upN (k*a) b - 1)*nu)*b=(upN (k*a) b - 1)*b*nu:=by rw[Int.mul_right_comm]
  have e2:(k*de)*b=k*(de*b):=by rw[Int.mul_assoc]
  have e3:k*a*nu=k*(a*nu):=by rw[Int.mul_assoc]
  rw[e1,e2];omega
 exact Int.lt_of_mul_lt_mul_right s3 (by omega)
noncomputable def aJ4(ps:List Int)(ow:Int)(σ:SwS)(s k:Int):SwS:=match aBg σ.l s with
 | none=>σ
 | some o=>⟨aCy ps σ.ls o ow ow k (upN (k*o.nu) o.de),aCh σ.l s k,σ.fs++[⟨s,k,upN (k*o.nu) o.de⟩],σ.n - upN (k*o.nu) o.de⟩
noncomputable def aBl(ps:List Int)(ow sl bu nu de:Int):Nat→SwS→Int×SwS
 | fuel,σ=>if σ.n≤0 then(0,σ)else match aBc ps σ.ls σ.l ow ow 1099511627776 σ.n (agO σ.l sl bu nu de)with
  | none=>(0,σ)
  | some (s,k)=>if σ.fs.length=64 then(13,σ)else match fuel with
   | 0=>(13,σ)
   | f+1=>aBl ps ow sl bu nu de f (aJ4 ps ow σ s k)
theorem aEu{ps:List Int}{ow sl bu nu de:Int}{fuel:Nat}{σ:SwS}(h:σ.n≤0):aBl ps ow sl bu nu de fuel σ=(0,σ):=by
 cases fuel <;> (unfold aBl;rw[if_pos h])
theorem aEv{ps:List Int}{ow sl bu nu de:Int}{fuel:Nat}{σ:SwS}(h:¬σ.n≤0)(hf:aBc ps σ.ls σ.l ow ow 1099511627776 σ.n (agO σ.l sl bu nu de)=none):aBl ps ow sl bu nu de fuel σ=(0,σ):=by
 cases fuel <;> (unfold aBl;rw[if_neg h,hf])
theorem aEw{ps:List Int}{ow sl bu nu de:Int}{fuel:Nat}{σ:SwS}{s k:Int}(h:¬σ.n≤0)(hf:aBc ps σ.ls σ.l ow ow 1099511627776 σ.n (agO σ.l sl bu nu de)=some (s,k))(hl:σ.fs.length=64):aBl ps ow sl bu nu de fuel σ=(13,σ):=by
 cases fuel <;> (unfold aBl;rw[if_neg h,hf];simp only[];rw[if_pos hl])
theorem aLz{ps:List Int}{ow sl bu nu de:Int}{σ:SwS}{s k:Int}(h:¬σ.n≤0)(hf:aBc ps σ.ls σ.l ow ow 1099511627776 σ.n (agO σ.l sl bu nu de)=some (s,k)):aBl ps ow sl bu nu de 0 σ=(13,σ):=by
 by_cases hl:σ.fs.length=64
 ·exact aEw h hf hl
 unfold aBl;rw[if_neg h,hf];simp only[];rw[if_neg hl]
theorem aD0{ps:List Int}{ow sl bu nu de:Int}{fuel:Nat}{σ:SwS}{s k:Int}(h:¬σ.n≤0)(hf:aBc ps σ.ls σ.l ow ow 1099511627776 σ.n (agO σ.l sl bu nu de)=some (s,k))(hl:¬σ.fs.length=64):aBl ps ow sl bu nu de (fuel+1) σ=aBl ps ow sl bu nu de fuel (aJ4 ps ow σ s k):=by
 conv=>lhs;unfold aBl
 rw[if_neg h,hf];simp only[];rw[if_neg hl]
noncomputable def aDb(N ow sl bu nu de:Int)(r:Int×SwS):Int×SwS×Int×Int:=
 if r.1≠0 then(r.1,r.2,N,0)else if r.2.n≤0 then(0,r.2,N,0)else
  (aBw r.2.l ⟨N,ow,sl,bu,r.2.n,nu,de⟩,⟨r.2.ls,aB8 r.2.l ⟨N,ow,sl,bu,r.2.n,nu,de⟩,r.2.fs,r.2.n⟩,aBo r.2.l ⟨N,ow,sl,bu,r.2.n,nu,de⟩,aCo r.2.l ⟨N,ow,sl,bu,r.2.n,nu,de⟩)
noncomputable def aB0(ps:List Int)(ls:List Ln)(l:List Of)(N ow sl bu lf nu de:Int):Int×SwS×Int×Int:=
 if ¬(Of.mk 0 ow sl bu lf nu de).may then(1,⟨ls,l,[],lf⟩,N,0)else if ow∉ps then(7,⟨ls,l,[],lf⟩,N,0)else
  aDb N ow sl bu nu de (aBl ps ow sl bu nu de 64 ⟨ls,l,[],lf⟩)
structure aE6(ps:List Int)(ls0:List Ln)(l0:List Of)(N ow sl bu nu de n0:Int)(σ:SwS):Prop where
 linv:LInv ps σ.ls
 binv:BInv σ.l N
 lim:limL σ.ls=limL ls0
 like:∀s o,aBg σ.l s=some o→∃y,aBg l0 s=some y∧likeO y o
 fs:∀f∈σ.fs,∃o,aBg l0 f.se=some o∧o.sl=bu∧o.bu=sl∧o.ow≠ow∧o.ow∈ps∧cmpR o.nu o.de de nu≤0∧(1≤f.got∧f.got≤1099511627776)∧(1≤f.gi∧f.gi≤1099511627776)∧f.gi=upN (f.got*o.nu) o.de∧mayB o.nu o.de=true
 sum:(σ.fs.map Fl.gi).sum+σ.n=n0
 nn:0≤σ.n
 len:σ.fs.length≤64
 pos:∀p c,posL σ.ls p c=posL ls0 p c+(σ.fs.map fun f=>flBy l0 ow ow f p c).sum
theorem aE6.start{ps:List Int}{ls0:List Ln}{l0:List Of}{N ow sl bu nu de n0:Int}(hI:LInv ps ls0)(hJ:BInv l0 N)(hn:0≤n0):aE6 ps ls0 l0 N ow sl bu nu de n0 ⟨ls0,l0,[],n0⟩:=
 ⟨hI,hJ,rfl,fun s o h=>⟨o,h,rfl,rfl,rfl,rfl,rfl⟩,fun f hf=>(by cases hf),(by simp),hn,(by simp),fun p c=>(by simp)⟩
theorem aE6.step{ps:List Int}{ls0:List Ln}{l0:List Of}{N ow sl bu nu de n0:Int}{σ:SwS}(h:aE6 ps ls0 l0 N ow sl bu nu de n0 σ){s k:Int}(hf:aBc ps σ.ls σ.l ow ow 1099511627776 σ.n (agO σ.l sl bu nu de)=some (s,k)):
  1≤k∧k≤1099511627776∧okS ps σ.ls σ.l ow ow k s∧∃o,aBg σ.l s=some o∧o∈agO σ.l sl bu nu de∧k≤o.lf∧1≤upN (k*o.nu) o.de∧upN (k*o.nu) o.de≤σ.n∧
   aJ4 ps ow σ s k=⟨aCy ps σ.ls o ow ow k (upN (k*o.nu) o.de),aCh σ.l s k,σ.fs++[⟨s,k,upN (k*o.nu) o.de⟩],σ.n - upN (k*o.nu) o.de⟩∧
   (¬σ.fs.length=64→aE6 ps ls0 l0 N ow sl bu nu de n0 (aJ4 ps ow σ s k)):=by
 obtain⟨h1,h2,o,h3,rfl⟩:=aLy hf;obtain⟨hm,hsl,hbu,hcm⟩:=mem_ag h.binv h3;have hfo:=aSp h.binv hm;obtain⟨ok,hle⟩:=may_okS h.linv h2 (by omega);have hG:=goesS h.linv o ow ow;have hG':∀o',aBg σ.l o.se=some o'→Goes ps σ.ls o' ow ow (aEy ps σ.ls o.sl o.ow ow) (aEy ps σ.ls o.bu ow o.ow):=fun o' ho'=>by rw[hfo]at ho';cases ho';exact hG
 have hd:=(aJe h.linv hG').2 ok;obtain⟨o',ho',⟨k1,k2,k3,k4⟩,k5,_,_⟩:=hd.facts;rw[hfo]at ho'
 cases ho'
 obtain⟨f1,f2,f3,f4,f5⟩:=aP8 h.linv h.binv hfo hG hd rfl (aG6 h.linv o ow ow k (upN (k*o.nu) o.de));obtain⟨_,_,_,_,⟨l1,l2⟩,hmr⟩:=h.binv.may o hm;obtain⟨y,hy,y1,y2,y3,y4,y5⟩:=h.like o.se o hfo
 -- what is given is no more than what is left
 have hb1:=mostS_bd h.linv o.sl o.ow ow;have hb2:=mostS_bd h.linv o.bu ow o.ow;have hmd:=may_do hb1.1 hb2.1 (by rw[aLx h.linv hG'];exact h2.symm) (show 1≤k by omega);obtain⟨_,_,hn1,o2,ho2,hfit⟩:=hmd;rw[hfo]at ho2
 cases ho2
 have hup:=(aOa hmr (g:=min (min σ.n 1099511627776) (aEy ps σ.ls o.bu ow o.ow)) (by omega) (by omega) (show 0≤k by omega) hfit).2.2
 have e:aJ4 ps ow σ o.se k=⟨aCy ps σ.ls o ow ow k (upN (k*o.nu) o.de),aCh σ.l o.se k,σ.fs++[⟨o.se,k,upN (k*o.nu) o.de⟩],σ.n - upN (k*o.nu) o.de⟩:=by
  unfold aJ4;rw[hfo]
 refine⟨by omega,hle,ok,o,hfo,h3,k5,f3,by omega,e,fun hl=>?_⟩;rw[e];refine⟨aSo h.linv _ _ _ _ _,h.binv.take _ _,f1.symm.trans h.lim,fun t x hx=>?_,fun f hf=>?_,?_,?_,?_,fun p c=>?_⟩
 ·obtain⟨z,hz,z1,z2,z3,z4,z5⟩:=take_like h.binv hfo (by omega) k5 hx;obtain⟨v,hv,v1,v2,v3,v4,v5⟩:=h.like t z hz;exact⟨v,hv,v1.trans z1,v2.trans z2,v3.trans z3,v4.trans z4,v5.trans z5⟩
 ·rcases List.mem_append.1 hf with hf|hf
  ·exact h.fs f hf
  rw[List.mem_singleton]at hf;subst hf;exact⟨y,hy,by rw[y2,hsl],by rw[y3,hbu],by rw[y1];exact k1,by rw[y1];exact k2,by rw[y4,y5];exact hcm,⟨by show 1≤k;omega,by show k≤1099511627776;omega⟩,⟨f3,f4⟩,by rw[y4,y5],by rw[y4,y5];exact hmr⟩
 ·have:=h.sum;simp only[List.map_append,List.map_cons,List.map_nil,List.sum_append,List.sum_cons,List.sum_nil];omega
 ·show 0≤σ.n - upN (k*o.nu) o.de;omega
 ·have:=h.len;rw[List.length_append,List.length_singleton];omega
 show posL (aCy ps σ.ls o ow ow k (upN (k*o.nu) o.de)) p c=_;rw[f2 p c,h.pos p c];simp only[List.map_append,List.map_cons,List.map_nil,List.sum_append,List.sum_cons,List.sum_nil]
 have e2:flBy l0 ow ow ⟨o.se,k,upN (k*o.nu) o.de⟩ p c=aP7 o ow ow k (upN (k*o.nu) o.de) p c:=by
  unfold flBy;simp only[hy];unfold aP7;rw[y1,y2,y3]
 rw[e2];omega
theorem aNa{ps:List Int}{ow sl bu nu de:Int}(C:SwS→Prop)(hs:∀σ s k,C σ→¬σ.n≤0→aBc ps σ.ls σ.l ow ow 1099511627776 σ.n (agO σ.l sl bu nu de)=some (s,k)→¬σ.fs.length=64→C (aJ4 ps ow σ s k)):∀(fuel:Nat) {σ:SwS},C σ→C (aBl ps ow sl bu nu de fuel σ).2
 | fuel,σ,h=>by
  by_cases hn:σ.n≤0
  ·rw[aEu hn];exact h
  cases hf:aBc ps σ.ls σ.l ow ow 1099511627776 σ.n (agO σ.l sl bu nu de)with
  | none=>rw[aEv hn hf];exact h
  | some sk=>
   obtain⟨s,k⟩:=sk
   by_cases hl:σ.fs.length=64
   ·rw[aEw hn hf hl];exact h
   cases fuel with
   | zero=>rw[aLz hn hf];exact h
   | succ fuel=>rw[aD0 hn hf hl];exact aNa C hs fuel (hs σ s k h hn hf hl)
theorem aE6.ends{ps:List Int}{ls0:List Ln}{l0:List Of}{N ow sl bu nu de n0:Int}(fuel:Nat){σ:SwS}(h:aE6 ps ls0 l0 N ow sl bu nu de n0 σ):aE6 ps ls0 l0 N ow sl bu nu de n0 (aBl ps ow sl bu nu de fuel σ).2:=by
 refine aNa (fun σ=>aE6 ps ls0 l0 N ow sl bu nu de n0 σ) (fun σ s k hc hn hf hl=>?_) fuel h;obtain⟨_,_,_,_,_,_,_,_,_,_,q⟩:=hc.step hf;exact q hl
theorem aQb{ps:List Int}{ow sl bu nu de:Int}:∀(fuel:Nat) {σ σ':SwS},aBl ps ow sl bu nu de fuel σ=(0,σ')→σ'.n≤0∨aBc ps σ'.ls σ'.l ow ow 1099511627776 σ'.n (agO σ'.l sl bu nu de)=none
 | fuel,σ,σ',h=>by
  by_cases hn:σ.n≤0
  ·rw[aEu hn]at h;obtain rfl:=(Prod.mk.inj h).2;exact .inl hn
  cases hf:aBc ps σ.ls σ.l ow ow 1099511627776 σ.n (agO σ.l sl bu nu de)with
  | none=>
   rw[aEv hn hf]at h;obtain rfl:=(Prod.mk.inj h).2;exact .inr hf
  | some sk=>
   obtain⟨s,k⟩:=sk
   by_cases hl:σ.fs.length=64
   ·rw[aEw hn hf hl]at h;exact absurd (Prod.mk.inj h).1 (by decide)
   cases fuel with
   | zero=>rw[aLz hn hf]at h;exact absurd (Prod.mk.inj h).1 (by decide)
   | succ fuel=>rw[aD0 hn hf hl]at h;exact aQb fuel h
theorem aE6.gi_nn{ps:List Int}{ls0:List Ln}{l0:List Of}{N ow sl bu nu de n0:Int}{σ:SwS}(h:aE6 ps ls0 l0 N ow sl bu nu de n0 σ):0≤(σ.fs.map Fl.gi).sum:=by
 have key:∀l:List Fl,(∀f∈l,1≤f.gi)→0≤(l.map Fl.gi).sum:=by
  intro l
  induction l with
  | nil=>intro _;simp
  | cons x l ih=>
   intro hx;have a:=hx x List.mem_cons_self;have b:=ih (fun y hy=>hx y (List.mem_cons_of_mem _ hy));rw[List.map_cons,List.sum_cons];omega
 exact key _ (fun f hf=>by obtain⟨o,_,_,_,_,_,_,_,a,_⟩:=h.fs f hf;exact a.1)
theorem owns_take{w:World}{base:Nat}{e:TypeId}{size n cap:Nat}{ao:Option Addr}{xs:List Value}(h:w.ownsRow base e size (.slice ao n cap) n xs){k:Nat}(hk:k≤n):w.ownsRow base e size (.slice ao k cap) k (xs.take (k*size)):=by
 obtain⟨h1,h2⟩:=h;have hm:k*size≤n*size:=Nat.mul_le_mul_right _ hk;refine⟨by rw[List.length_take];omega,?_⟩;rcases h2 with⟨hv,hn⟩|⟨g,cap',cur,hv,hb,hg,hc1,hc2,hc3,hc4⟩
 ·cases hv
  have:k=0:=by omega
  subst this;exact .inl ⟨rfl,rfl⟩
 cases hv
 exact .inr ⟨g,cap,cur,rfl,hb,hg,by omega,hc2,hc3,by rw[←hc4,List.take_take,Nat.min_eq_left hm]⟩
theorem aOh(os:List Of)(k:Nat)(hk:k≤os.length):(aAa os).take (k*7)=aAa (os.take k):=by
 have h:=aAt (os.take k) (os.drop k);rw[List.take_append_drop]at h;have hl:(aAa (os.take k)).length=k*7:=by rw[aAn,List.length_take];congr 1;omega
 rw[h,List.take_append_of_le_length (by omega),List.take_of_length_le (by omega)]
end Go.Proofs.YtaeocliklpcgmaaGreat
