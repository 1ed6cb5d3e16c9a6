/- Pieces of one proof. -/
import Derived.Test.YtaeocliklpcgmaaGreatV15
import Derived.Shelf.SlSortCmp.NoneTotal
import Derived.Shelf.SlMaps.Clone
import Derived.Deep.MidRow
set_option linter.all false
set_option maxHeartbeats 64000000
set_option maxRecDepth 100000
namespace Go.Proofs.YtaeocliklpcgmaaGreat
open Go.RowKit
theorem PB.ne_map{w:World}{base g G M:Nat}{ps:List Int}{ls:List Ln}{l:List Of}{N:Int}{vl:Value}(h:PB w base g l N vl)(k:LedM w G M ps ls):(¬g=M∧∀b,vl.ownBlock=some b→¬b=M)∧¬Foot g vl G∧¬Foot g vl M:=by
 have h1:¬g=M:=fun e=>k.map.ne_blk h.blk e.symm
 have h2:∀b,vl.ownBlock=some b→¬b=M:=fun b hb e=>by
  obtain⟨_,_,cur,hc⟩:=aAh h.row hb;have hB:Blk w b cur _:=hc;exact k.map.ne_blk hB e.symm
 have h3:¬G=g:=fun e=>by have:=aG2 k.blk h.blk (by decide);exact this e
 have h4:¬vl.ownBlock=some G:=fun e=>aBp h.row k.blk (by decide) G e rfl
 exact⟨⟨h1,h2⟩,fun e=>e.elim h3 h4,fun e=>e.elim (fun q=>h1 q.symm) (fun q=>h2 M q rfl)⟩
theorem Keep.freshRow{S:Nat→Prop}{a w:World}(h:Keep S a w){g:Nat}(hg:a.heap.size≤g)(cs:Array Value):Keep S a (w.setRow g cs):=
 have k:=aAf (w:=w) g cs
 ⟨k.os.trans h.os,k.tape.trans h.tape,k.output.trans h.output,Nat.le_trans h.size k.size,fun i hi hs=>(k.block i (yM hi h.size) (by omega)).trans (h.block i hi hs)⟩
theorem hdo_void{w:World}{lp bp:Option Addr}{e0 N:Int}{has:Int→Bool}(h:aCl w lp e0 has)(hn:∀w',Below w.heap.size w w'→Calls Tryz.prog 27 #[.pointer bp] w' fun e w''=>e=.returned (.int .u64 N)∧w'=w'')(he:e0=2∨N=0)(s tk pt n:Int):
  Calls Tryz.prog 87 #[.agg #[.pointer lp,.pointer bp],.int .u64 s,.int .u8 tk,.int .u8 pt,.int .i64 n] w (yR w (.tuple #[aG0,.int .i64 2])):=by
 have b1:=(Below.refl w.heap.size w).alloc yL (.cells #[.pointer lp,.pointer bp] 31);have k1:=pAA w #[.pointer lp,.pointer bp] 31;generalize hW1:w.alloc (.cells #[.pointer lp,.pointer bp] 31)=W1 at *;have b2:=(Below.refl W1.heap.size W1).alloc yL (.cells #[.int .u64 0,.int .u8 0,.int .u8 0,.int .i64 0,.int .i64 0] 73);have k2:=pAA W1 #[.int .u64 0,.int .u8 0,.int .u8 0,.int .i64 0,.int .i64 0] 73;generalize hW2:W1.alloc (.cells #[.int .u64 0,.int .u8 0,.int .u8 0,.int .i64 0,.int .i64 0] 73)=W2 at *;have HW1:=yH hW1;have HW2:=yH hW2;have hg1:W1.heap.size=w.heap.size+1:=by rw[←hW1];simp
 rw[hg1]at k2;have KX:=yH (k1.below b2 k1.lt);have KF:=yH k2;have B2:=yH (b1.trans (b2.mono b1.size));have CM:=yH (aLd (h.below B2.out) (fun w' k=>hn w' (andB B2.out k)));rw[show(!(e0==2) && !(N==0))=false by rcases he with rfl|rfl <;> simp]at CM;clear h hn he b1 k1 b2 k2 hW1 hW2 hg1;go_enter Tryz.func87,Tryz.ntmps87
 go_upto_region 1 with fail
 rw[HW1.out,HW2.out];have e0:=KX.out.cell 0;have e1:=KX.out.cell 1;have kx:=KX.out.lt;simp at e0 e1;go_wp2_with fail;refine CM.out.mono ?_;rintro e w1 ⟨rfl,b1⟩;have KF1:=yB KF b1;have B1:=yT B2 b1;clear b1 e0 e1 kx KX KF B2 CM;go_wp2_with (refine aAb rfl 73 (.tmp 10) (.tmp 20) rfl (w.heap.size+1) #[.int .u64 0,.int .u8 0,.int .u8 0,.int .i64 0,.int .i64 0] rfl rfl 73 _ KF1.out.out (by kernel_rfl) rfl (by simp[Value.oneCell']) ?_);refine bodyPost_ret (v:=.tuple #[aG0,.int .i64 2]) (aAd rfl _ _ (w.heap.size+1) 73 #[.int .u64 0,.int .u8 0,.int .u8 0,.int .i64 0,.int .i64 0] _ _ rfl (setRow_heap _ (w.heap.size+1) _ _ _ (0,0) KF1.out.out) Tryz.underlying73 rfl (by kernel_rfl) rfl) rfl ⟨rfl,below_setRow B1.out (by omega) _⟩
theorem hdo_any(HR:aEg)(HMP:aCs):aFm:=by
 intro w base G M gb ps ls l N vb hL hI hP hJ s tk pt n m1 m2 hs ht hto hn hG;have b1:=(Below.refl w.heap.size w).alloc yL (.cells #[.pointer (some ⟨G,0,none⟩),.pointer (some ⟨gb,0,none⟩)] 31);have k1:=pAA w #[.pointer (some ⟨G,0,none⟩),.pointer (some ⟨gb,0,none⟩)] 31;generalize hW1:w.alloc (.cells #[.pointer (some ⟨G,0,none⟩),.pointer (some ⟨gb,0,none⟩)] 31)=W1 at *;have b2:=(Below.refl W1.heap.size W1).alloc yL (.cells #[.int .u64 0,.int .u8 0,.int .u8 0,.int .i64 0,.int .i64 0] 73);have k2:=pAA W1 #[.int .u64 0,.int .u8 0,.int .u8 0,.int .i64 0,.int .i64 0] 73;generalize hW2:W1.alloc (.cells #[.int .u64 0,.int .u8 0,.int .u8 0,.int .i64 0,.int .i64 0] 73)=W2 at *;have HW1:=yH hW1;have HW2:=yH hW2;have hg1:W1.heap.size=w.heap.size+1:=by rw[←hW1];simp
 rw[hg1]at k2;have KX:=yH (k1.below b2 k1.lt);have KF:=yH k2;have B2:=yH (b1.trans (b2.mono b1.size));have L0:=yH ((hL.below b1).below b2);have P0:=yH ((hP.below b1).below b2);have HGT:=yH hg1;have II:=yH hI;have JJ:=yH hJ;have HT:=yH ht;have HTo:=yH hto;have HN:=yH hn;have HGo:=yH hG;have HRo:=yH HR;have hG1:=hL.blk.lt;have hM1:=hL.map.lt;have hb1:=hP.blk.lt;have HGL:=yH hG1;have HML:=yH hM1;have HBL:=yH hb1;have HFO:Hid (∀b,Foot gb vb b→b<w.heap.size):=yH (fun b hb=>(hP.lt hb).2);have CMd:=yH (aLd (N:=N) (aDx L0.out II.out) (fun w' k=>aEn (P0.out.below k).blk));rw[show(!((1:Int)==2) && !(N==0))=true by have:=hJ.n1;simp;omega]at CMd;have CM:=yH (fun w' (k:Below W2.heap.size W2 w')=>hmay_any HMP (L0.out.below k) hI (P0.out.below k) hJ s tk pt n 1099511627776 m1 m2 hs ht hto hn ⟨by omega,by omega⟩ hG);clear b1 k1 b2 k2 hW1 hW2 hL hI hP hJ hs ht hto hn hG hg1 hG1 hM1 hb1 HR HMP;go_enter Tryz.func87,Tryz.ntmps87
 go_upto_region 1 with fail
 rw[HW1.out,HW2.out];have e0:=KX.out.cell 0;have e1:=KX.out.cell 1;have kx:=KX.out.lt;simp at e0 e1;go_wp2_with fail;refine CMd.out.mono ?_;rintro e w0 ⟨rfl,b0⟩;have CM0:=yH (CM.out w0 b0);have KX0:=yB KX b0;have KF0:=yB KF b0;have L1:=yH (L0.out.below b0);have P1:=yH (P0.out.below b0);have B0:=yT B2 b0;clear b0 e0 e1 kx KX KF B2 CMd CM L0 P0;have e0:=KX0.out.cell 0;have e1:=KX0.out.cell 1;have kx:=KX0.out.lt;simp at e0 e1
 by_cases h1:n<1
 ·have q1:decide (n<1)=true:=by simpa using h1
  have NO:Hid (¬doOk l ps s tk pt n m1 m2):=yH (fun h=>by have:=h.1;omega);clear h1;go_wp2_with (refine aAb rfl 73 (.tmp 10) (.tmp 34) rfl (w.heap.size+1) #[.int .u64 0,.int .u8 0,.int .u8 0,.int .i64 0,.int .i64 0] rfl rfl 73 _ KF0.out.out (by kernel_rfl) rfl (by simp[Value.oneCell']) ?_);refine bodyPost_ret (v:=.tuple #[aG0,.int .i64 1]) (aAd rfl _ _ (w.heap.size+1) 73 #[.int .u64 0,.int .u8 0,.int .u8 0,.int .i64 0,.int .i64 0] _ _ rfl (setRow_heap _ (w.heap.size+1) _ _ _ (0,0) KF0.out.out) Tryz.underlying73 rfl (by kernel_rfl) rfl) rfl (.inl ⟨NO.out,rfl,below_setRow B0.out (by omega) _⟩)
 have q1:decide (n<1)=false:=by simpa using h1
 go_wp2_with fail;refine CM0.out.mono ?_;rintro e w1 ⟨rfl,b1⟩;have KX1:=yB KX0 b1;have KF1:=yB KF0 b1;have L2:=yH (L1.out.below b1);have P2:=yH (P1.out.below b1);have B1:=yT B0 b1;clear b1 e0 e1 kx KX0 KF0 L1 P1 B0 CM0;have e0:=KX1.out.cell 0;have e1:=KX1.out.cell 1;have kx:=KX1.out.lt;simp at e0 e1
 by_cases h2:n≤mayV l ps s tk pt n 1099511627776 m1 m2
 ·have q2:decide (mayV l ps s tk pt n 1099511627776 m1 m2<n)=false:=by simpa using h2
  have hOK:doOk l ps s tk pt n m1 m2:=⟨by omega,h2⟩;obtain⟨o,hf,⟨c1,c2,c3,c4⟩,h3,h4,h5⟩:=hOK.facts;have hGo:=(HGo.out o hf).bd II.out;have hmem:=(aCf hf).1;have hmay:=JJ.out.may o hmem;have FT:=yH (JJ.out.fits hmem);obtain⟨_,_,_,_,_,hmy⟩:=hmay;obtain⟨x,hx⟩:∃x,upN (n*o.nu) o.de=x:=⟨_,rfl⟩;obtain⟨u1,u2,u3⟩:=aMs hmy (g:=min 1099511627776 m2) (by omega) (by omega) (by omega) h5;rw[hx]at u1 u2 u3;have CU:=yH (fun w=>rup_rat n o.nu o.de w HN.out FT.out.nu FT.out.de);rw[u1]at CU;have HX:=yH hx;have HOK:=yH hOK;have HF:=yH hf;have CF:=yH (aF1 P2.out JJ.out.n1 s);rw[hf]at CF;dsimp only[foundV,Of.val]at CF;have hx64:Hid (In64 x):=yH ⟨by omega,by omega⟩;clear hOK hGo hmem hmy u1 u2 u3 hx hf h5 h4 h3 c1 c2 c3 c4;generalize mayV l ps s tk pt n 1099511627776 m1 m2=mm at *;clear h2;go_wp2_with fail;refine CF.out.mono ?_;rintro e w2 ⟨rfl,b2⟩;have bo:=(Below.refl w2.heap.size w2).alloc yL (.cells #[.int .u64 o.se,.int .u8 o.ow,.int .u8 o.sl,.int .u8 o.bu,.int .i64 o.lf,.int .i64 o.nu,.int .i64 o.de] 48);have KO:=yH (pAA w2 #[.int .u64 o.se,.int .u8 o.ow,.int .u8 o.sl,.int .u8 o.bu,.int .i64 o.lf,.int .i64 o.nu,.int .i64 o.de] 48);have b3:=b2.trans (bo.mono b2.size);have KX2:=yB KX1 b3;have KF2:=yB KF1 b3;have L3:=yH (L2.out.below b3);have P3:=yH (P2.out.below b3);have B3:=yT B1 b3;have HSZ:Hid (w.heap.size≤w2.heap.size):=yH (B1.out.trans (b2.mono B1.out.size)).size;clear b2 b3 bo e0 e1 kx KX1 KF1 L2 P2 B1 CF;have e0:=KX2.out.cell 0;have e1:=KX2.out.cell 1;have kx:=KX2.out.lt;simp at e0 e1;have d0:=KO.out.cell 0;have d1:=KO.out.cell 1;have d2:=KO.out.cell 2;have d3:=KO.out.cell 3;have d4:=KO.out.cell 4;have d5:=KO.out.cell 5;have d6:=KO.out.cell 6;have kol:=KO.out.lt;simp at d0 d1 d2 d3 d4 d5 d6;go_wp2_with fail;refine(CU.out _).mono ?_;rintro e w3 ⟨rfl,b3⟩;have KX3:=yB KX2 b3;have KO3:=yB KO b3;have KF3:=yB KF2 b3;have L4:=yH (L3.out.below b3);have P4:=yH (P3.out.below b3);have B4:=yT B3 b3;clear b3 CU KX2 KO KF2 L3 P3 B3;clear e0 e1 kx d0 d1 d2 d3 d4 d5 d6 kol;have e0:=KX3.out.cell 0;have e1:=KX3.out.cell 1;have kx:=KX3.out.lt;simp at e0 e1;have d0:=KO3.out.cell 0;have d1:=KO3.out.cell 1;have d2:=KO3.out.cell 2;have d3:=KO3.out.cell 3;have d4:=KO3.out.cell 4;have d5:=KO3.out.cell 5;have d6:=KO3.out.cell 6;have kol:=KO3.out.lt;simp at d0 d1 d2 d3 d4 d5 d6
  by_cases hp:pt=o.ow
  ·have q3:(pt != o.ow)=false:=by simpa using hp
   have HP:=yH hp;clear hp;have BK:Hid (Keep (fun k=>k=G∨k=M∨Foot gb vb k) w w3):=yH (pAE B4.out);clear B4;have KXA:=KX3;have KFA:=KF3;have KOA:=KO3;have LA:=L4;have PA:=P4;clear KX3 KF3 KO3 L4 P4;obtain⟨τ,hτ⟩:=aB8 (aAm II.out o.bu) tk o.ow x;have HTAU:=yH hτ;have CP:=yH (aJv HRo.out LA.out II.out HT.out FT.out.ow FT.out.bu hx64.out hτ);clear hτ;go_wp2_with fail;refine CP.out.mono ?_;rintro e w6 ⟨rfl,r6,k6⟩;have AP:=(PA.out.ne_map LA.out).1;have KX6:=yH (KXA.out.keep k6 (by have:=HML.out;omega));have KF6:=yH (KFA.out.keep k6 (by have:=HML.out;omega));have P6:=yH (PA.out.keep k6 AP.1 AP.2);have B6:=yH (BK.out.trans (k6.mono (fun k _ h=>Or.inr (Or.inl h))));have L6:=yH r6;clear CP r6 k6 AP KXA KFA PA LA BK KOA;clear e0 e1 kx d0 d1 d2 d3 d4 d5 d6 kol;have e0:=KX6.out.cell 0;have e1:=KX6.out.cell 1;have kx:=KX6.out.lt;simp at e0 e1;have CK:=yH (aK8 P6.out JJ.out s n);go_wp2_with fail;refine CK.out.mono ?_;rintro e w7 ⟨rfl,vb7,r7,k7,mv7⟩;have AP:=(P6.out.ne_map L6.out).2;have hgz:¬Foot gb vb (w.heap.size+1):=fun h=>by have:=HFO.out _ h;omega
   have KF7:=yH (KF6.out.keep k7 hgz);have L7:=yH (L6.out.keep k7 AP.1 AP.2);have B7:=yH (B6.out.trans (k7.mono (fun k _ h=>Or.inr (Or.inr h))));have P7:=yH r7;have MV:=yH (mv7.of_le B6.out.size);clear CK r7 k7 mv7 AP hgz KX6 KF6 P6 L6 B6;clear e0 e1 kx;go_wp2_with (refine aAb rfl 73 (.tmp 10) (.tmp 81) rfl (w.heap.size+1) #[.int .u64 s,.int .u8 tk,.int .u8 pt,.int .i64 n,.int .i64 x] rfl rfl 73 _ KF7.out.out (by kernel_rfl) rfl (by simp[Value.oneCell']) ?_);refine bodyPost_ret (v:=.tuple #[.agg #[.int .u64 s,.int .u8 tk,.int .u8 pt,.int .i64 n,.int .i64 x],.int .i64 0]) (aAd rfl _ _ (w.heap.size+1) 73 #[.int .u64 s,.int .u8 tk,.int .u8 pt,.int .i64 n,.int .i64 x] _ _ rfl (setRow_heap _ (w.heap.size+1) _ _ _ (0,0) KF7.out.out) Tryz.underlying73 rfl (by kernel_rfl) rfl) rfl (.inr ⟨HOK.out,o,x,_,vb7,HF.out,HX.out.symm,⟨ls,τ,(.inl ⟨HP.out,rfl⟩),HTAU.out,rfl⟩,rfl,?_,?_,B7.out.freshRow (by omega) _,MV.out⟩)
   ·exact L7.out.keep (aAf _ _) (by have:=HGL.out;omega) (by have:=HML.out;omega)
   refine P7.out.keep (aAf _ _) (by have:=HBL.out;omega) (fun b hb h=>?_);subst h;exact aBp P7.out.row KF7.out (by decide) _ hb rfl
  have q3:(pt != o.ow)=true:=by simpa using hp
  have HP:=yH hp;clear hp;obtain⟨σ,hσ⟩:=aB8 (aAm II.out o.sl) o.ow pt n;have HSG:=yH hσ;have CP:=yH (aJv HRo.out L4.out II.out FT.out.ow HTo.out FT.out.sl HN.out hσ);clear hσ;go_wp2_with fail;refine CP.out.mono ?_;rintro e w5 ⟨rfl,r5,k5⟩;have AP:=(P4.out.ne_map L4.out).1;have KXA:=yH (KX3.out.keep k5 (by have:=HML.out;omega));have KFA:=yH (KF3.out.keep k5 (by have:=HML.out;omega));have KOA:=yH (KO3.out.keep k5 (by have:=HML.out;have:=HSZ.out;omega));have PA:=yH (P4.out.keep k5 AP.1 AP.2);have BK:Hid (Keep (fun k=>k=G∨k=M∨Foot gb vb k) w w5):=yH ((pAE B4.out).trans (k5.mono (fun k _ h=>Or.inr (Or.inl h))));have LA:=yH r5;have IA:=yH (aHi II.out o.ow pt o.sl n σ);clear CP r5 k5 AP KX3 KF3 KO3 P4 L4 B4;clear e0 e1 kx d0 d1 d2 d3 d4 d5 d6 kol;have RT:Hid (∃a,aAc (aBg ps ls o.sl) 4398046511104 o.ow pt n a∧payL ps ls o.ow pt o.sl n σ=payL ps ls o.ow pt o.sl n a):=yH ⟨σ,HSG.out,rfl⟩;clear HSG;generalize payL ps ls o.ow pt o.sl n σ=ls4 at *;have e0:=KXA.out.cell 0;have e1:=KXA.out.cell 1;have kx:=KXA.out.lt;simp at e0 e1;have d0:=KOA.out.cell 0;have d1:=KOA.out.cell 1;have d2:=KOA.out.cell 2;have d3:=KOA.out.cell 3;have d4:=KOA.out.cell 4;have d5:=KOA.out.cell 5;have d6:=KOA.out.cell 6;have kol:=KOA.out.lt;simp at d0 d1 d2 d3 d4 d5 d6;obtain⟨τ,hτ⟩:=aB8 (aAm IA.out o.bu) tk o.ow x;have HTAU:=yH hτ;have CP:=yH (aJv HRo.out LA.out IA.out HT.out FT.out.ow FT.out.bu hx64.out hτ);clear hτ;go_wp2_with fail;refine CP.out.mono ?_;rintro e w6 ⟨rfl,r6,k6⟩;have AP:=(PA.out.ne_map LA.out).1;have KX6:=yH (KXA.out.keep k6 (by have:=HML.out;omega));have KF6:=yH (KFA.out.keep k6 (by have:=HML.out;omega));have P6:=yH (PA.out.keep k6 AP.1 AP.2);have B6:=yH (BK.out.trans (k6.mono (fun k _ h=>Or.inr (Or.inl h))));have L6:=yH r6;clear CP r6 k6 AP KXA KFA PA LA BK KOA;clear e0 e1 kx d0 d1 d2 d3 d4 d5 d6 kol;have e0:=KX6.out.cell 0;have e1:=KX6.out.cell 1;have kx:=KX6.out.lt;simp at e0 e1;have CK:=yH (aK8 P6.out JJ.out s n);go_wp2_with fail;refine CK.out.mono ?_;rintro e w7 ⟨rfl,vb7,r7,k7,mv7⟩;have AP:=(P6.out.ne_map L6.out).2;have hgz:¬Foot gb vb (w.heap.size+1):=fun h=>by have:=HFO.out _ h;omega
  have KF7:=yH (KF6.out.keep k7 hgz);have L7:=yH (L6.out.keep k7 AP.1 AP.2);have B7:=yH (B6.out.trans (k7.mono (fun k _ h=>Or.inr (Or.inr h))));have P7:=yH r7;have MV:=yH (mv7.of_le B6.out.size);clear CK r7 k7 mv7 AP hgz KX6 KF6 P6 L6 B6;clear e0 e1 kx;go_wp2_with (refine aAb rfl 73 (.tmp 10) (.tmp 81) rfl (w.heap.size+1) #[.int .u64 s,.int .u8 tk,.int .u8 pt,.int .i64 n,.int .i64 x] rfl rfl 73 _ KF7.out.out (by kernel_rfl) rfl (by simp[Value.oneCell']) ?_);refine bodyPost_ret (v:=.tuple #[.agg #[.int .u64 s,.int .u8 tk,.int .u8 pt,.int .i64 n,.int .i64 x],.int .i64 0]) (aAd rfl _ _ (w.heap.size+1) 73 #[.int .u64 s,.int .u8 tk,.int .u8 pt,.int .i64 n,.int .i64 x] _ _ rfl (setRow_heap _ (w.heap.size+1) _ _ _ (0,0) KF7.out.out) Tryz.underlying73 rfl (by kernel_rfl) rfl) rfl (.inr ⟨HOK.out,o,x,_,vb7,HF.out,HX.out.symm,⟨ls4,τ,(.inr ⟨HP.out,RT.out⟩),HTAU.out,rfl⟩,rfl,?_,?_,B7.out.freshRow (by omega) _,MV.out⟩)
  ·exact L7.out.keep (aAf _ _) (by have:=HGL.out;omega) (by have:=HML.out;omega)
  refine P7.out.keep (aAf _ _) (by have:=HBL.out;omega) (fun b hb h=>?_);subst h;exact aBp P7.out.row KF7.out (by decide) _ hb rfl
 have q2:decide (mayV l ps s tk pt n 1099511627776 m1 m2<n)=true:=by simpa using h2
 have NO:Hid (¬doOk l ps s tk pt n m1 m2):=yH (fun h=>h2 h.2);clear h2;generalize mayV l ps s tk pt n 1099511627776 m1 m2=mm at *;go_wp2_with (refine aAb rfl 73 (.tmp 10) (.tmp 34) rfl (w.heap.size+1) #[.int .u64 0,.int .u8 0,.int .u8 0,.int .i64 0,.int .i64 0] rfl rfl 73 _ KF1.out.out (by kernel_rfl) rfl (by simp[Value.oneCell']) ?_);refine bodyPost_ret (v:=.tuple #[aG0,.int .i64 1]) (aAd rfl _ _ (w.heap.size+1) 73 #[.int .u64 0,.int .u8 0,.int .u8 0,.int .i64 0,.int .i64 0] _ _ rfl (setRow_heap _ (w.heap.size+1) _ _ _ (0,0) KF1.out.out) Tryz.underlying73 rfl (by kernel_rfl) rfl) rfl (.inl ⟨NO.out,rfl,below_setRow B1.out (by omega) _⟩)
end Go.Proofs.YtaeocliklpcgmaaGreat
namespace Go.Proofs.YtaeocliklpcgmaaGreat
open Go.RowKit Go.Shelf
end Go.Proofs.YtaeocliklpcgmaaGreat
namespace Go.Proofs.YtaeocliklpcgmaaGreat
open Go.RowKit
end Go.Proofs.YtaeocliklpcgmaaGreat
namespace Go.Proofs.YtaeocliklpcgmaaGreat
open Go.RowKit Go.Shelf Go.Sort Go.Lib
instance:Inhabited Ln:=⟨noLn⟩
end Go.Proofs.YtaeocliklpcgmaaGreat
namespace Go.Proofs.YtaeocliklpcgmaaGreat
open Go.RowKit
open Go.Shelf Go.Lib
open Go.Sort (grow flatK putCells HoldsK PermIn SortedIn SWO)
end Go.Proofs.YtaeocliklpcgmaaGreat
namespace Go.Proofs.YtaeocliklpcgmaaGreat
open Go.RowKit
theorem clone_any{w:World}{b:Nat}{es:Array MapEntry}{clock:Nat}(hb:w.heap[b]? = some (.map es clock)):
  Calls Tryz.prog 118 #[.map (some b)] w fun e w'=>e=.returned (.map (some w.heap.size))∧w'=w.alloc (.map es clock):=by
 have hq:=fun w=>Go.Proofs.run_eql_map_nil_sl (P:=Tryz.prog) w 58 _ _ (some b) Tryz.underlying58
 go_enter Tryz.func118,Tryz.ntmps118;go_wp2;rw[run_callFunc_extern Tryz.func160 (by kernel_rfl) (by kernel_rfl) (by kernel_rfl) (e:=Extern.MapsClone.clone) (by kernel_rfl),Go.Proofs.run_maps_clone_sl w 58 hb];simp only[Result.andThen];rw[Oper.upon_value];go_wp2;rw[Go.Proofs.run_typeAssert_map_sl _ 58 20 _ _ _ Tryz.underlying58];simp only[Result.andThen];rw[Oper.upon_value];go_wp2;go_ret;exact⟨rfl,rfl⟩
def parC(ps:List Int):List Value:=((ledC ps (.map none)).toList.take 17)
theorem aD0(ps:List Int):(parC ps).length=17:=by simp[parC,aEi]
theorem aJ0(ps:List Int){j:Nat}(h:j<17):(parC ps)[j]? = some (.bool (decide ((j:Int)∈ps))):=by
 unfold parC;rw[List.getElem?_take_of_lt h,Array.getElem?_toList,aDv _ _ _ h]
theorem ledC_par(ps:List Int)(v:Value):(parC ps++[v]).toArray=ledC ps v:=by
 apply Array.ext_getElem?;intro j;rw[List.getElem?_toArray]
 by_cases h:j<17
 ·rw[List.getElem?_append_left (by rw[aD0];exact h),aJ0 _ h,aDv _ _ _ h]
 by_cases h2:j=17
 ·subst h2;rw[aHh,List.getElem?_append_right (by rw[aD0];omega),aD0];rfl
 rw[Array.getElem?_eq_none (by rw[aEi];omega),List.getElem?_eq_none (by simp[aD0];omega)]
theorem par_range{w:World}{g:Nat}{ps:List Int}{v:Value}{t:TypeId}(h:Blk w g (ledC ps v) t):w.rangeAt g 0 (parC ps):=by
 intro j u hu
 have hj:j<17:=by
  rcases Nat.lt_or_ge j 17 with h'|h'
  ·exact h'
  rw[List.getElem?_eq_none (by rw[aD0];exact h')]at hu;cases hu
 rw[Nat.zero_add,h.cell j,aDv _ _ _ hj,←aJ0 ps hj];exact hu
theorem par_form(ps:List Int):∃b0 b1 b2 b3 b4 b5 b6 b7 b8 b9 b10 b11 b12 b13 b14 b15 b16:Bool,parC ps=[Value.bool b0,Value.bool b1,Value.bool b2,Value.bool b3,Value.bool b4,Value.bool b5,Value.bool b6,Value.bool b7,Value.bool b8,Value.bool b9,Value.bool b10,Value.bool b11,Value.bool b12,Value.bool b13,Value.bool b14,Value.bool b15,Value.bool b16]:=by
 have h:=aD0 ps;refine⟨decide ((0:Int)∈ps),decide ((1:Int)∈ps),decide ((2:Int)∈ps),decide ((3:Int)∈ps),decide ((4:Int)∈ps),decide ((5:Int)∈ps),decide ((6:Int)∈ps),decide ((7:Int)∈ps),decide ((8:Int)∈ps),decide ((9:Int)∈ps),decide ((10:Int)∈ps),decide ((11:Int)∈ps),decide ((12:Int)∈ps),decide ((13:Int)∈ps),decide ((14:Int)∈ps),decide ((15:Int)∈ps),decide ((16:Int)∈ps),?_⟩;apply List.ext_getElem?;intro j
 by_cases hj:j<17
 ·rw[aJ0 ps hj]
  match j,hj with
  | 0,_=>rfl
  | 1,_=>rfl
  | 2,_=>rfl
  | 3,_=>rfl
  | 4,_=>rfl
  | 5,_=>rfl
  | 6,_=>rfl
  | 7,_=>rfl
  | 8,_=>rfl
  | 9,_=>rfl
  | 10,_=>rfl
  | 11,_=>rfl
  | 12,_=>rfl
  | 13,_=>rfl
  | 14,_=>rfl
  | 15,_=>rfl
  | 16,_=>rfl
  | n+17,h=>omega
 rw[List.getElem?_eq_none (by omega),List.getElem?_eq_none (by simp;omega)]
theorem build_led(ps:List Int)(m:Nat)(w:World):(Instr.build 60 #[(0,.agg (parC ps).toArray),(1,.map (some m))]).run Tryz.prog w=.ok (.agg (ledC ps (.map (some m)))) w:=by
 rw[←ledC_par];obtain⟨b0,b1,b2,b3,b4,b5,b6,b7,b8,b9,b10,b11,b12,b13,b14,b15,b16,hb⟩:=par_form ps;rw[hb]
 have h:(Instr.build 60 #[(0,.agg [Value.bool b0,Value.bool b1,Value.bool b2,Value.bool b3,Value.bool b4,Value.bool b5,Value.bool b6,Value.bool b7,Value.bool b8,Value.bool b9,Value.bool b10,Value.bool b11,Value.bool b12,Value.bool b13,Value.bool b14,Value.bool b15,Value.bool b16].toArray),(1,.map (some m))]).run Tryz.prog=fun w=>.ok (.agg ([Value.bool b0,Value.bool b1,Value.bool b2,Value.bool b3,Value.bool b4,Value.bool b5,Value.bool b6,Value.bool b7,Value.bool b8,Value.bool b9,Value.bool b10,Value.bool b11,Value.bool b12,Value.bool b13,Value.bool b14,Value.bool b15,Value.bool b16]++[Value.map (some m)]).toArray) w:=by
  kernel_rfl
 rw[h]
def aIf(W:World)(o:Obj)(C:Array Value)(T:TypeId)(D:Nat→Bool)(w:World):Prop:=
 Below W.heap.size W w∧w.heap.size=W.heap.size+((if D 8=true then 1 else 0)+(if D 10=true then 1 else 0))∧(D 8=true→w.heap[W.heap.size]? = some o)∧(D 10=true→w.heap[W.heap.size+1]? = some (.cells C T))
theorem aIf.step{W w:World}{o:Obj}{C:Array Value}{T:TypeId}{D:Nat→Bool}{k:Nat}(h:aIf W o C T D w)(h8:k≠8)(h10:k≠10):aIf W o C T (ins k D) w:=by
 unfold aIf;rw[aBy D (Ne.symm h8),aBy D (Ne.symm h10)];exact h
def CopyMPost(w:World)(ps:List Int)(ls:List Ln)(e:Ending)(w':World):Prop:=
 ∃g' m',e=.returned (.pointer (some ⟨g',0,none⟩))∧LedM w' g' m' ps ls∧w.heap.size≤g'∧w.heap.size≤m'∧Below w.heap.size w w'
theorem pcopy_any{w:World}{G M:Nat}{ps:List Int}{ls:List Ln}(h:LedM w G M ps ls):
  Calls Tryz.prog 55 #[.pointer (some ⟨G,0,none⟩)] w (CopyMPost w ps ls):=by
 have C1:=yH (aE0 h.blk);have HBk:=yH h.blk;obtain⟨ms,⟨es,clock,hes,hst,hkv⟩,hperm⟩:=h.map;have HM:=yH hes;have HN:Hid (∀w',w'.heap[w.heap.size]? = some (.map es clock)→aB1 w' w.heap.size ls):=yH fun w' hw=>⟨ms,⟨es,clock,hw,hst,hkv⟩,hperm⟩
 have hMlt:M<w.heap.size:=h.map.lt;clear h hes hst hkv hperm;go_enter Tryz.func55,Tryz.ntmps55;go_wp2_with fail;refine C1.out.mono ?_;rintro e w ⟨rfl,rfl⟩;go_wp2_with fail
 refine region_inv (by kernel_rfl) [(.pointer (some ⟨G,0,none⟩)),(.pointer (some ⟨G,0,none⟩)),(.pointer (some ⟨G,0,none⟩)),(.agg (parC ps).toArray),(.pointer (some ⟨G,0,none⟩)),(.pointer (some ⟨G,0,none⟩)),(.pointer (some ⟨G,17,none⟩)),(.map (some M)),(.map (some w.heap.size)),(.agg (ledC ps (.map (some w.heap.size)))),(.pointer (some ⟨w.heap.size+1,0,none⟩)),(.pointer (some ⟨w.heap.size+1,0,none⟩))]
  (aIf w (.map es clock) (ledC ps (.map (some w.heap.size))) 60) (by kernel_rfl) ⟨yZ.drew,by simp,by simp,by simp⟩ ?_
 intro af haf;simp only[puts,Act.put,yA,yC,yF,yD,yE]at haf;subst haf;refine⟨?_,?_⟩
 ·simp only[aIs];refine⟨?_,?_,?_,?_,?_,?_,?_,?_,?_,?_,?_,?_,trivial⟩
  ·intro D w' hD hWt hC hI;have hS:=hI.1;have HI:=yH (hI.step (k:=0) (by decide) (by decide));have kb:=HBk.out.below hS HBk.out.lt;have hl:=kb.lt;have d:=kb.ledMap;clear hS hI hC hWt hD kb;refine yO rfl ?_;go_wp2_with fail;all_goals first|exact HI|exact⟨rfl,HI⟩|rfl
  ·intro D w' hD hWt hC hI;have hS:=hI.1;have HI:=yH (hI.step (k:=1) (by decide) (by decide));have kb:=HBk.out.below hS HBk.out.lt;have hl:=kb.lt;have d:=kb.ledMap;clear hS hI hC hWt hD kb;refine yO rfl ?_;go_wp2_with fail;all_goals first|exact HI|exact⟨rfl,HI⟩|rfl
  ·intro D w' hD hWt hC hI;have hS:=hI.1;have HI:=yH (hI.step (k:=2) (by decide) (by decide));have kb:=HBk.out.below hS HBk.out.lt;have hl:=kb.lt;have d:=kb.ledMap;clear hS hI hC hWt hD kb;refine yO rfl ?_;go_wp2_with fail;all_goals first|exact HI|exact⟨rfl,HI⟩|rfl
  ·intro D w' hD hWt hC hI;have hS:=hI.1;have HI:=yH (hI.step (k:=3) (by decide) (by decide));have kb:=HBk.out.below hS HBk.out.lt;have hl:=kb.lt;have d:=kb.ledMap;refine yO rfl ?_;refine wp_load_mid 57 (.tmp 8) rfl G 0 rfl (parC ps) _ (par_range kb) Tryz.underlying57 rfl (by rw[aD0];kernel_rfl) ?_;exact⟨rfl,HI.out⟩
  ·intro D w' hD hWt hC hI;have hS:=hI.1;have HI:=yH (hI.step (k:=4) (by decide) (by decide));have kb:=HBk.out.below hS HBk.out.lt;have hl:=kb.lt;have d:=kb.ledMap;clear hS hI hC hWt hD kb;refine yO rfl ?_;go_wp2_with fail;all_goals first|exact HI|exact⟨rfl,HI⟩|rfl
  ·intro D w' hD hWt hC hI;have hS:=hI.1;have HI:=yH (hI.step (k:=5) (by decide) (by decide));have kb:=HBk.out.below hS HBk.out.lt;have hl:=kb.lt;have d:=kb.ledMap;clear hS hI hC hWt hD kb;refine yO rfl ?_;go_wp2_with fail;all_goals first|exact HI|exact⟨rfl,HI⟩|rfl
  ·intro D w' hD hWt hC hI;have hS:=hI.1;have HI:=yH (hI.step (k:=6) (by decide) (by decide));have kb:=HBk.out.below hS HBk.out.lt;have hl:=kb.lt;have d:=kb.ledMap;clear hS hI hC hWt hD kb;refine yO rfl ?_;go_wp2_with fail;all_goals first|exact HI|exact⟨rfl,HI⟩|rfl
  ·intro D w' hD hWt hC hI;have hS:=hI.1;have HI:=yH (hI.step (k:=7) (by decide) (by decide));have kb:=HBk.out.below hS HBk.out.lt;have hl:=kb.lt;have d:=kb.ledMap;clear hS hI hC hWt hD kb;refine yO rfl ?_;go_wp2_with fail;all_goals first|exact HI|exact⟨rfl,HI⟩|rfl
  ·intro D w' hD hWt hC hI;have h10:D 10=false:=aBa hC hD 12 10 (by kernel_rfl);obtain⟨q1,q2,q3,q4⟩:=hI;rw[hD,h10]at q2;have hz:w'.heap.size=w.heap.size:=by simpa using q2
   have hc:=clone_any (w:=w') (b:=M) (es:=es) (clock:=clock) (by rw[q1.block M hMlt];exact HM.out);rw[hz]at hc
   have HI:Hid (aIf w (.map es clock) (ledC ps (.map (some w.heap.size))) 60 (ins 8 D) (w'.alloc (.map es clock))):=yH (by
    refine⟨q1.alloc q1.size _,?_,fun _=>?_,fun d=>?_⟩
    ·rw[aG9,aBy D (by decide),h10];simp[hz]
    ·rw[←hz];exact heap_alloc_new _ _
    rw[aBy D (by decide),h10]at d;cases d)
   have HC:=yH hc;clear q1 q2 q3 q4 hc hC hWt hD h10;refine yO rfl ?_;go_wp2_with fail;refine HC.out.mono ?_;rintro e w'' ⟨rfl,rfl⟩;exact⟨rfl,HI.out⟩
  ·intro D w' hD hWt hC hI;have hS:=hI.1;have HI:=yH (hI.step (k:=9) (by decide) (by decide));have kb:=HBk.out.below hS HBk.out.lt;have hl:=kb.lt;have d:=kb.ledMap;refine yO rfl ?_;refine aL2 60 #[(0,.tmp 9),(1,.tmp 14)] rfl #[(0,(.agg (parC ps).toArray)),(1,(.map (some w.heap.size)))] (by simp[Act.eval]) _ (build_led ps w.heap.size w') ?_;exact⟨rfl,HI.out⟩
  ·intro D w' hD hWt hC hI;have h8:D 8=true:=aA2 hC hWt (d:=12) (by kernel_rfl);obtain⟨q1,q2,q3,q4⟩:=hI;rw[hD,h8]at q2;have hz:w'.heap.size=w.heap.size+1:=by simpa using q2
   have HI:Hid (aIf w (.map es clock) (ledC ps (.map (some w.heap.size))) 60 (ins 10 D) (w'.alloc (.cells (ledC ps (.map (some w.heap.size))) 60))):=yH (by
    refine⟨q1.alloc q1.size _,?_,fun d=>?_,fun _=>?_⟩
    ·rw[aG9,aBy D (by decide),h8];simp[hz]
    ·rw[heap_alloc_old _ _ (by omega)];exact q3 h8
    rw[←hz];exact heap_alloc_new _ _)
   clear q1 q2 q3 q4 hC hWt hD h8;refine yO rfl ?_;go_wp2_with fail;all_goals first|exact HI|exact⟨rfl,HI⟩|exact⟨by rw[hz],HI.out⟩
  intro D w' hD hWt hC hI;have hS:=hI.1;have HI:=yH (hI.step (k:=11) (by decide) (by decide));have kb:=HBk.out.below hS HBk.out.lt;have hl:=kb.lt;have d:=kb.ledMap;clear hS hI hC hWt hD kb;refine yO rfl ?_;go_wp2_with fail;all_goals first|exact HI|exact⟨rfl,HI⟩|rfl
 intro D w2 hall hI;obtain⟨q1,q2,q3,q4⟩:=hI;have q3:=q3 (hall 8 (by decide));have q4:=q4 (hall 10 (by decide));have HE:=yH (show LedM w2 (w.heap.size+1) w.heap.size ps ls from⟨q4,HN.out w2 q3⟩);have HB:=yH q1;clear q1 q2 q3 q4 hall;go_wp2_with fail;refine bodyPost_ret (v:=.pointer (some ⟨w.heap.size+1,0,none⟩)) (by simp[results,Tryz.results55,go_sem]) rfl ?_;exact⟨w.heap.size+1,w.heap.size,rfl,HE.out,by omega,Nat.le_refl _,HB.out⟩
def Void(w:World)(pv:Value):Prop:=∀w',Below w.heap.size w w'→Calls Tryz.prog 58 #[pv] w' fun e w''=>e=.returned (.map none)∧w'=w''
theorem Void.below{w w':World}{pv:Value}(h:Void w pv)(k:Below w.heap.size w w'):Void w' pv:=fun w'' q=>h w'' (andB k q)
theorem void_nil(w:World):Void w (.pointer none):=fun w' _=>all_nil w'
theorem void_zero{w:World}{g:Nat}{ps:List Int}(h:Blk w g (ledC ps (.map none)) 60):Void w (.pointer (some ⟨g,0,none⟩)):=fun w' k=>aMc (h.below k h.lt)
theorem aLe{w:World}{pv:Value}(h:Void w pv):∀w',Below w.heap.size w w'→Calls Tryz.prog 88 #[pv] w' fun e w''=>e=.returned (.bool false)∧w'=w'':=fun w' k=>made_of (h w' k)
theorem void_open{w:World}{pv:Value}(h:Void w pv)(p:Int):Calls Tryz.prog 34 #[pv,.int .u8 p] w (yS w (.int .i64 2)):=by
 have C1:=yH (aLe h w yZ);clear h;go_enter Tryz.func34,Tryz.ntmps34;go_wp2_with fail;refine C1.out.mono ?_;rintro e w ⟨rfl,rfl⟩;go_wp2_with fail;go_ret;exact⟨rfl,rfl⟩
theorem void_has{w:World}{pv:Value}(h:Void w pv)(p:Int):Calls Tryz.prog 91 #[pv,.int .u8 p] w (yS w (.bool false)):=by
 have C1:=yH (aLe h w yZ);clear h;go_enter Tryz.func91,Tryz.ntmps91;go_wp2_with fail;refine C1.out.mono ?_;rintro e w ⟨rfl,rfl⟩;go_wp2_with fail;go_ret;exact⟨rfl,rfl⟩
def aBe(x y:Of):Bool:=decide (cmpR y.nu y.de x.nu x.de≤0)
def insO(out:List Of)(x:Of):List Of:=out.takeWhile (aBe x)++x::out.dropWhile (aBe x)
def aD1(s b:Int)(out:List Of)(x:Of):List Of:=if x.sl=s∧x.bu=b then insO out x else out
def aFn(l:List Of)(s b:Int):List Of:=l.foldl (aD1 s b) []
def ltO(x y:Of):Prop:=x.nu*y.de<y.nu*x.de∨(x.nu*y.de=y.nu*x.de∧x.se<y.se)
def ordO(x y:Of):Int:=orI (cmpR x.nu x.de y.nu y.de) (cmpI x.se y.se)
theorem aJ1{an ad bn bd:Int}(h1:mayB an ad=true)(h2:mayB bn bd=true):cmpR an ad bn bd=cmpI (an*bd) (bn*ad):=by unfold cmpR;rw[if_pos ⟨h1,h2⟩]
theorem ordO_lt{x y:Of}(hx:x.may)(hy:y.may):ordO x y<0↔ltO x y:=by
 unfold ordO;rw[aJ1 hx.2.2.2.2.2 hy.2.2.2.2.2];unfold ltO orI cmpI;generalize x.nu*y.de=p;generalize y.nu*x.de=q
 (repeat' split) <;> omega
theorem sgn3{a1 d1 a2 d2 a3 d3:Int}(h1:1≤d1)(h2:1≤d2)(h3:1≤d3):d2*(a1*d3 - a3*d1)=d3*(a1*d2 - a2*d1)+d1*(a2*d3 - a3*d2):=by
 simp only[Int.mul_sub];have e1:d2*(a1*d3)=d3*(a1*d2):=by rw[←Int.mul_assoc,Int.mul_comm d2 a1,Int.mul_comm d3,Int.mul_assoc]
 have e2:d2*(a3*d1)=d1*(a3*d2):=by rw[←Int.mul_assoc,Int.mul_comm d2 a3,Int.mul_comm d1,Int.mul_assoc]
 have e3:d3*(a2*d1)=d1*(a2*d3):=by rw[←Int.mul_assoc,Int.mul_comm d3 a2,Int.mul_comm d1,Int.mul_assoc]
 omega
theorem aLf{d1 d2 d3 u v t:Int}(h1:1≤d1)(h2:1≤d2)(h3:1≤d3)(h:d2*t=d3*u+d1*v):(u<0→v≤0→t<0)∧(u≤0→v<0→t<0)∧(u=0→v=0→t=0)∧(0<u→0≤v→0<t)∧(0≤u→0<v→0<t):=by
 refine⟨fun a b=>?_,fun a b=>?_,fun a b=>?_,fun a b=>?_,fun a b=>?_⟩
 ·have p:=Int.mul_neg_of_pos_of_neg (show 0<d3 by omega) a;have q:=Int.mul_nonpos_of_nonneg_of_nonpos (show 0≤d1 by omega) b
  by_cases c:0≤t
  ·have:=Int.mul_nonneg (show 0≤d2 by omega) c;omega
  omega
 ·have p:=Int.mul_neg_of_pos_of_neg (show 0<d1 by omega) b;have q:=Int.mul_nonpos_of_nonneg_of_nonpos (show 0≤d3 by omega) a
  by_cases c:0≤t
  ·have:=Int.mul_nonneg (show 0≤d2 by omega) c;omega
  omega
 ·subst a b;rw[Int.mul_zero,Int.mul_zero,Int.add_zero]at h;rcases Int.mul_eq_zero.1 h with e|e <;> omega
 ·have p:=Int.mul_pos (show 0<d3 by omega) a;have q:=Int.mul_nonneg (show 0≤d1 by omega) b
  by_cases c:t≤0
  ·have:=Int.mul_nonpos_of_nonneg_of_nonpos (show 0≤d2 by omega) c;omega
  omega
 have p:=Int.mul_pos (show 0<d1 by omega) b;have q:=Int.mul_nonneg (show 0≤d3 by omega) a
 by_cases c:t≤0
 ·have:=Int.mul_nonpos_of_nonneg_of_nonpos (show 0≤d2 by omega) c;omega
 omega
theorem Of.may.de{x:Of}(h:x.may):1≤x.de:=(aD8 h.2.2.2.2.2).2.1
theorem aLg{x y z:Of}(hx:x.may)(hy:y.may)(hz:z.may)(h1:ltO x y)(h2:ltO y z):ltO x z:=by
 have k:=aLf hx.de hy.de hz.de (sgn3 (a1:=x.nu) (a2:=y.nu) (a3:=z.nu) hx.de hy.de hz.de);unfold ltO at *;generalize x.nu*y.de=a at *;generalize y.nu*x.de=b at *;generalize y.nu*z.de=c at *;generalize z.nu*y.de=d at *;generalize x.nu*z.de=e at *;generalize z.nu*x.de=f at *;obtain⟨k1,k2,k3,k4,k5⟩:=k;rcases h1 with h1|⟨h1,s1⟩
 ·have:=k1 (by omega) (by omega);omega
 rcases h2 with h2|⟨h2,s2⟩
 ·have:=k2 (by omega) (by omega);omega
 have:=k3 (by omega) (by omega);omega
theorem ltO_ntrans{x y z:Of}(hx:x.may)(hy:y.may)(hz:z.may)(h1:¬ltO x y)(h2:¬ltO y z):¬ltO x z:=by
 have k:=aLf hx.de hy.de hz.de (sgn3 (a1:=x.nu) (a2:=y.nu) (a3:=z.nu) hx.de hy.de hz.de);unfold ltO at *;generalize x.nu*y.de=a at *;generalize y.nu*x.de=b at *;generalize y.nu*z.de=c at *;generalize z.nu*y.de=d at *;generalize x.nu*z.de=e at *;generalize z.nu*x.de=f at *;obtain⟨k1,k2,k3,k4,k5⟩:=k
 by_cases u:b<a
 ·have:=k4 (by omega) (by omega);omega
 have ue:a=b:=by omega
 by_cases v:d<c
 ·have:=k5 (by omega) (by omega);omega
 have:=k3 (by omega) (by omega);omega
theorem ltO_irrefl(x:Of):¬ltO x x:=by unfold ltO;omega
theorem ltO_total{x y:Of}(h:x.se≠y.se)(h1:¬ltO x y):ltO y x:=by
 unfold ltO at *;generalize x.nu*y.de=a at *;generalize y.nu*x.de=b at *;omega
theorem ltO_asymm{x y:Of}(h1:ltO x y)(h2:ltO y x):False:=by
 unfold ltO at *;generalize x.nu*y.de=a at *;generalize y.nu*x.de=b at *;omega
theorem noWorse_lt{x y:Of}(hx:x.may)(hy:y.may)(hs:y.se<x.se)(h:aBe x y=true):ltO y x:=by
 unfold aBe at h;rw[aJ1 hy.2.2.2.2.2 hx.2.2.2.2.2]at h;unfold ltO;generalize x.nu*y.de=a at *;generalize y.nu*x.de=b at *;unfold cmpI at h;split at h
 ·omega
 split at h
 ·simp at h
 omega
theorem worse_lt{x y:Of}(hx:x.may)(hy:y.may)(h:aBe x y=false):ltO x y:=by
 unfold aBe at h;rw[aJ1 hy.2.2.2.2.2 hx.2.2.2.2.2]at h;unfold ltO;generalize x.nu*y.de=a at *;generalize y.nu*x.de=b at *;unfold cmpI at h;split at h
 ·simp at h
 split at h
 ·omega
 simp at h
theorem insO_perm(out:List Of)(x:Of):(insO out x).Perm (out++[x]):=by
 unfold insO;have h1:(out.takeWhile (aBe x)++x::out.dropWhile (aBe x)).Perm (x::(out.takeWhile (aBe x)++out.dropWhile (aBe x))):=List.perm_middle;rw[List.takeWhile_append_dropWhile]at h1;exact h1.trans (List.perm_append_singleton x out).symm
theorem aD2{p:Of→Bool}:∀{l:List Of} {y:Of},y∈l.takeWhile p→p y=true
 | x::r,y,h=>by
  rw[List.takeWhile_cons]at h;split at h
  ·rcases List.mem_cons.1 h with rfl|h
   ·assumption
   exact aD2 h
  simp at h
theorem aMv{out:List Of}{x:Of}(hm:∀y∈out,y.may)(hx:x.may)(hs:∀y∈out,y.se<x.se)(ho:out.Pairwise ltO):(insO out x).Pairwise ltO:=by
 unfold insO;have hsplit:out.takeWhile (aBe x)++out.dropWhile (aBe x)=out:=List.takeWhile_append_dropWhile;have h1:∀y∈out.takeWhile (aBe x),y∈out∧aBe x y=true:=fun y hy=>⟨by rw[←hsplit];exact List.mem_append_left _ hy,aD2 hy⟩
 have h2:∀y∈out.dropWhile (aBe x),y∈out:=fun y hy=>by rw[←hsplit];exact List.mem_append_right _ hy
 rw[←hsplit,List.pairwise_append]at ho;obtain⟨o1,o2,o3⟩:=ho
 have h3:∀y∈out.dropWhile (aBe x),ltO x y:=by
  cases hd:out.dropWhile (aBe x)with
  | nil=>simp
  | cons z r=>
   rw[hd]at o2 h2
   have hz:aBe x z=false:=by
    have:=List.head_dropWhile_not (aBe x) (l:=out) (by rw[hd];simp);simpa [hd]using this
   have hz2:=worse_lt hx (hm z (h2 z (by simp))) hz;intro y hy;rcases List.mem_cons.1 hy with rfl|hy
   ·exact hz2
   exact aLg hx (hm z (h2 z (by simp))) (hm y (h2 y (by simp[hy]))) hz2 ((List.pairwise_cons.1 o2).1 y hy)
 rw[List.pairwise_append];refine⟨o1,List.pairwise_cons.2 ⟨h3,o2⟩,fun y hy z hz=>?_⟩;obtain⟨hyo,hyn⟩:=h1 y hy;have hyx:=noWorse_lt hx (hm y hyo) (hs y hyo) hyn;rcases List.mem_cons.1 hz with rfl|hz
 ·exact hyx
 exact o3 y hy z hz
def aAu(s b:Int)(x:Of):Bool:=decide (x.sl=s∧x.bu=b)
theorem aGj{s b:Int}:∀(l out:List Of),(∀x∈l,x.may)→(∀x∈out,x.may)→l.Pairwise (fun x y=>x.se<y.se)→(∀y∈out,∀x∈l,y.se<x.se)→out.Pairwise ltO→
  (l.foldl (aD1 s b) out).Perm (out++l.filter (aAu s b))∧(l.foldl (aD1 s b) out).Pairwise ltO
 | [],out,_,_,_,_,ho=>by simpa using ho
 | x::r,out,h1,h2,h3,h4,ho=>by
  obtain⟨h3a,h3b⟩:=List.pairwise_cons.1 h3;rw[List.foldl_cons]
  by_cases hp:x.sl=s∧x.bu=b
  ·have e:aD1 s b out x=insO out x:=by unfold aD1;rw[if_pos hp]
   have hi:=insO_perm out x
   have hmem:∀y∈insO out x,y∈out∨y=x:=fun y hy=>by
    have:=hi.mem_iff.1 hy;simpa using this
   rw[e]
   obtain⟨p,q⟩:=aGj r (insO out x) (fun y hy=>h1 y (by simp[hy])) (fun y hy=>by rcases hmem y hy with h|rfl;exact h2 y h;exact h1 y (by simp)) h3b
    (fun y hy z hz=>by rcases hmem y hy with h|rfl;exact h4 y h z (by simp[hz]);exact h3a z hz) (aMv h2 (h1 x (by simp)) (fun y hy=>h4 y hy x (by simp)) ho)
   refine⟨p.trans ?_,q⟩;rw[List.filter_cons,if_pos (by unfold aAu;simpa using hp)];exact(hi.append_right _).trans (by simp)
  have e:aD1 s b out x=out:=by unfold aD1;rw[if_neg hp]
  rw[e];obtain⟨p,q⟩:=aGj r out (fun y hy=>h1 y (by simp[hy])) h2 h3b (fun y hy z hz=>h4 y hy z (by simp[hz])) ho;refine⟨?_,q⟩;rw[List.filter_cons,if_neg (by unfold aAu;simpa using hp)];exact p
theorem bestO_is{l:List Of}(h1:∀x∈l,x.may)(h3:l.Pairwise (fun x y=>x.se<y.se))(s b:Int):(aFn l s b).Perm (l.filter (aAu s b))∧(aFn l s b).Pairwise ltO:=by
 have:=aGj (s:=s) (b:=b) l [] h1 (by simp) h3 (by simp) List.Pairwise.nil;simpa [aFn]using this
noncomputable def routeS(f:Int→Int→Int)(a b n:Int):RS:=@Classical.epsilon RS ⟨⟨f,n,[]⟩⟩ (fun μ=>aAc f 4398046511104 a b n μ)
theorem aBs{f:Int→Int→Int}(h:GInv f 4398046511104)(a b n:Int):aAc f 4398046511104 a b n (routeS f a b n):=
 @Classical.epsilon_spec RS (fun μ=>aAc f 4398046511104 a b n μ) (aB8 h a b n)
noncomputable def aDa(ps:List Int)(ls:List Ln)(c a b:Int):Int:=aA7 - (routeS (aBg ps ls c) a b aA7).left
theorem goesS{ps:List Int}{ls:List Ln}(h:LInv ps ls)(o:Of)(tk pt:Int):Goes ps ls o tk pt (aDa ps ls o.sl o.ow pt) (aDa ps ls o.bu tk o.ow):=
 ⟨⟨_,aBs (aAm h _) _ _ _,rfl⟩,_,aBs (aAm h _) _ _ _,rfl⟩
theorem Goes.eqS{ps:List Int}{ls:List Ln}{o:Of}{tk pt m1 m2:Int}(h:LInv ps ls)(g:Goes ps ls o tk pt m1 m2):m1=aDa ps ls o.sl o.ow pt∧m2=aDa ps ls o.bu tk o.ow:=by
 obtain⟨⟨μ,h1,rfl⟩,ν,h2,rfl⟩:=g;unfold aDa;rw[h1.eq (aBs (aAm h _) _ _ _),h2.eq (aBs (aAm h _) _ _ _)];exact⟨rfl,rfl⟩
theorem mostS_bd{ps:List Int}{ls:List Ln}(h:LInv ps ls)(c a b:Int):0≤aDa ps ls c a b∧aDa ps ls c a b≤1125899906842624:=
 aFl (aAm h c) (aBs (aAm h c) a b aA7)
noncomputable def mayS(ps:List Int)(ls:List Ln)(l:List Of)(tk pt want most s:Int):Int:=match aA3 l s with
 | none=>0
 | some o=>mayO o ps tk pt want most (aDa ps ls o.sl o.ow pt) (aDa ps ls o.bu tk o.ow)
theorem aJ2{ps:List Int}{ls:List Ln}(h:LInv ps ls){l:List Of}{tk pt want most s m1 m2:Int}(g:∀o,aA3 l s=some o→Goes ps ls o tk pt m1 m2):mayV l ps s tk pt want most m1 m2=mayS ps ls l tk pt want most s:=by
 unfold mayV mayS
 cases hf:aA3 l s with
 | none=>rfl
 | some o=>
  obtain⟨e1,e2⟩:=(g o hf).eqS h;simp only[];rw[e1,e2]
noncomputable def aGk(ps:List Int)(ls:List Ln)(a b c n:Int):List Ln:=payL ps ls a b c n (routeS (aBg ps ls c) a b n)
noncomputable def aBu(ps:List Int)(ls:List Ln)(o:Of)(tk pt n x:Int):List Ln:=aGk ps (if pt=o.ow then ls else aGk ps ls o.ow pt o.sl n) tk o.ow o.bu x
theorem aEq{ps:List Int}{ls:List Ln}(h:LInv ps ls)(a b c n:Int):LInv ps (aGk ps ls a b c n):=aHi h _ _ _ _ _
theorem aGl{ps:List Int}{ls:List Ln}(h:LInv ps ls)(o:Of)(tk pt n x:Int):aG1 ps ls o tk pt n x (aBu ps ls o tk pt n x):=by
 unfold aBu
 by_cases e:pt=o.ow
 ·rw[if_pos e];exact⟨ls,_,.inl ⟨e,rfl⟩,aBs (aAm h _) _ _ _,rfl⟩
 rw[if_neg e];exact⟨_,_,.inr ⟨e,_,aBs (aAm h _) _ _ _,rfl⟩,aBs (aAm (aEq h _ _ _ _) _) _ _ _,rfl⟩
theorem aMw{ps:List Int}{ls:List Ln}(h:LInv ps ls)(o:Of)(tk pt n x:Int):LInv ps (aBu ps ls o tk pt n x):=(aGl h o tk pt n x).inv h
def okS(ps:List Int)(ls:List Ln)(l:List Of)(tk pt n s:Int):Prop:=1≤n∧n≤mayS ps ls l tk pt n 1099511627776 s
theorem aJ3{ps:List Int}{ls:List Ln}(h:LInv ps ls){l:List Of}{tk pt n s m1 m2:Int}(g:∀o,aA3 l s=some o→Goes ps ls o tk pt m1 m2):doOk l ps s tk pt n m1 m2↔okS ps ls l tk pt n s:=by
 unfold doOk okS;rw[aJ2 h g]
theorem may_okS{ps:List Int}{ls:List Ln}(h:LInv ps ls){l:List Of}{tk pt want most s k:Int}(hk:k=mayS ps ls l tk pt want most s)(h1:1≤k):okS ps ls l tk pt k s∧k≤want:=by
 obtain⟨m1,m2,g,b1,b2⟩:=aIc h l s tk pt;have e:mayV l ps s tk pt want most m1 m2=k:=by rw[aJ2 h g,hk]
 obtain⟨a,b,_⟩:=may_do b1 b2 e h1;exact⟨(aJ3 h g).1 a,b⟩
noncomputable def aA5(ps:List Int)(ls:List Ln)(l:List Of)(tk pt want most:Int):List Of→Option (Int×Int)
 | []=>none
 | o::os=>if 0<mayS ps ls l tk pt want most o.se then some (o.se,mayS ps ls l tk pt want most o.se)else aA5 ps ls l tk pt want most os
theorem aIg{ps:List Int}{ls:List Ln}{l:List Of}{tk pt want most:Int}:∀{os:List Of} {s k:Int},aA5 ps ls l tk pt want most os=some (s,k)→0<k∧k=mayS ps ls l tk pt want most s∧∃o∈os,o.se=s
 | [],s,k,h=>by simp[aA5]at h
 | o::os,s,k,h=>by
  unfold aA5 at h;split at h
  ·rename_i hp;simp only[Option.some.injEq,Prod.mk.injEq]at h;obtain⟨rfl,rfl⟩:=h;exact⟨hp,rfl,o,List.mem_cons_self,rfl⟩
  obtain⟨h1,h2,o',h3,h4⟩:=aIg h;exact⟨h1,h2,o',List.mem_cons_of_mem _ h3,h4⟩
structure Fl where
 se:Int
 got:Int
 gi:Int
structure SwS where
 ls:List Ln
 l:List Of
 fs:List Fl
 n:Int
def swMay(fr pt get give n most:Int):Prop:=(1≤fr∧fr≤16)∧(1≤pt∧pt≤16)∧(1≤get∧get≤8)∧(1≤give∧give≤8)∧get≠give∧(1≤n∧n≤1099511627776)∧1≤most∧most≤1099511627776
instance(fr pt get give n most:Int):Decidable (swMay fr pt get give n most):=by unfold swMay;infer_instance
def okO(nx:Int)(l:List Of):Prop:=l.Pairwise (fun x y=>x.se<y.se)∧∀x∈l,x.may∧x.se≠0∧x.se<nx
theorem aIp{P:Program}{w w':World}{o:Oper}{a:Act}{K:Act→World→Prop}{Q:Exit→Act→World→Prop}(y x:Operand)(t:TypeId){u v v':Value}
  (ho:o.op=.call { callee:=.builtin .append,args:=#[y,x],argTypes:=#[t,t] })(hy:a.eval y=u)(hx:a.eval x=v)
  (hr:(Builtin.append_ #[t,t] o.type #[u,v]).run P w=.ok v' w')(h:K (a.put o.dst v') w'):o.wp P a w K Q:=by
 unfold Oper.wp execOp;simp only[ho,resolve,invoke,builtin,Sem.run_bind,Sem.run_pure,Result.andThen_ok,List.map_toArray,List.map_cons,List.map_nil,hy,hx,hr];exact h
def aBo(l:List Of)(x:Of):Int:=if ¬x.may then 1 else if l.length=32∨x.se=18446744073709551615 then 9 else 0
def aDf(l:List Of)(x:Of):Int:=if aBo l x=0 then x.se else 0
def aCh(l:List Of)(x:Of):List Of:=if aBo l x=0 then l++[x]else l
def aCi(l:List Of)(x:Of):Int:=if aBo l x=0 then x.se+1 else x.se
end Go.Proofs.YtaeocliklpcgmaaGreat
