/- Pieces of one proof. -/
import Derived.Test.YtojbmnbphdcjfaaGreatP34
import Derived.Shelf.SlSortCmp.NoneTotal
set_option linter.all false
set_option maxHeartbeats 64000000
set_option maxRecDepth 100000
namespace Go.Proofs.YtojbmnbphdcjfaaGreat
open Go.RowKit
theorem PB.ne_map{w:World}{base g G M:Nat}{ps:List Int}{ls:List Ln}{l:List Of}{N:Int}{vl:Value}(h:PB w base g l N vl)(k:LedM w G M ps ls):(¬g=M∧∀b,vl.ownBlock=some b→¬b=M)∧¬Foot g vl G∧¬Foot g vl M:=by
 have h1:¬g=M:=fun e=>k.map.ne_blk h.blk e.symm
 have h2:∀b,vl.ownBlock=some b→¬b=M:=fun b hb e=>by
  obtain⟨_,_,cur,hc⟩:=aAe h.row hb;have hB:Blk w b cur _:=hc;exact k.map.ne_blk hB e.symm
 have h3:¬G=g:=fun e=>by have:=aJz k.blk h.blk (by decide);exact this e
 have h4:¬vl.ownBlock=some G:=fun e=>aAl h.row k.blk (by decide) G e rfl
 exact⟨⟨h1,h2⟩,fun e=>e.elim h3 h4,fun e=>e.elim (fun q=>h1 q.symm) (fun q=>h2 M q rfl)⟩
theorem Keep.freshRow{S:Nat→Prop}{a w:World}(h:Keep S a w){g:Nat}(hg:a.heap.size≤g)(cs:Array Value):Keep S a (w.setRow g cs):=
 have k:=aAg (w:=w) g cs
 ⟨k.os.trans h.os,k.tape.trans h.tape,k.output.trans h.output,Nat.le_trans h.size k.size,fun i hi hs=>(k.block i (yM hi h.size) (by omega)).trans (h.block i hi hs)⟩
theorem hdo_void{w:World}{lp bp:Option Addr}{e0 N:Int}{has:Int→Bool}(h:aFb w lp e0 has)(hn:∀w',Below w.heap.size w w'→Calls Tryz.prog 72 #[.pointer bp] w' fun e w''=>e=.returned (.int .u64 N)∧w'=w'')(he:e0=2∨N=0)(s tk pt n:Int):
  Calls Tryz.prog 67 #[.agg #[.pointer lp,.pointer bp],.int .u64 s,.int .u8 tk,.int .u8 pt,.int .i64 n] w (yR w (.tuple #[aF8,.int .i64 2])):=by
 have b1:=(Below.refl w.heap.size w).alloc yL (.cells #[.pointer lp,.pointer bp] 32);have k1:=pAA w #[.pointer lp,.pointer bp] 32;generalize hW1:w.alloc (.cells #[.pointer lp,.pointer bp] 32)=W1 at *;have b2:=(Below.refl W1.heap.size W1).alloc yL (.cells #[.int .u64 0,.int .u8 0,.int .u8 0,.int .i64 0,.int .i64 0] 80);have k2:=pAA W1 #[.int .u64 0,.int .u8 0,.int .u8 0,.int .i64 0,.int .i64 0] 80;generalize hW2:W1.alloc (.cells #[.int .u64 0,.int .u8 0,.int .u8 0,.int .i64 0,.int .i64 0] 80)=W2 at *;have HW1:=yH hW1;have HW2:=yH hW2;have hg1:W1.heap.size=w.heap.size+1:=by rw[←hW1];simp
 rw[hg1]at k2;have KX:=yH (k1.below b2 k1.lt);have KF:=yH k2;have B2:=yH (b1.trans (b2.mono b1.size));have CM:=yH (aQh (h.below B2.out) (fun w' k=>hn w' (andB B2.out k)));rw[show(!(e0==2) && !(N==0))=false by rcases he with rfl|rfl <;> simp]at CM;clear h hn he b1 k1 b2 k2 hW1 hW2 hg1;go_enter Tryz.func67,Tryz.ntmps67
 go_upto_region 1 with fail
 rw[HW1.out,HW2.out];have e0:=KX.out.cell 0;have e1:=KX.out.cell 1;have kx:=KX.out.lt;simp at e0 e1;go_wp2_with fail;refine CM.out.mono ?_;rintro e w1 ⟨rfl,b1⟩;have KF1:=yB KF b1;have B1:=yT B2 b1;clear b1 e0 e1 kx KX KF B2 CM;go_wp2_with (refine aAb rfl 80 (.tmp 10) (.tmp 20) rfl (w.heap.size+1) #[.int .u64 0,.int .u8 0,.int .u8 0,.int .i64 0,.int .i64 0] rfl rfl 80 _ KF1.out.out (by kernel_rfl) rfl (by simp[Value.oneCell']) ?_);refine bodyPost_ret (v:=.tuple #[aF8,.int .i64 2]) (aAh rfl _ _ (w.heap.size+1) 80 #[.int .u64 0,.int .u8 0,.int .u8 0,.int .i64 0,.int .i64 0] _ _ rfl (setRow_heap _ (w.heap.size+1) _ _ _ (0,0) KF1.out.out) Tryz.underlying80 rfl (by kernel_rfl) rfl) rfl ⟨rfl,below_setRow B1.out (by omega) _⟩
theorem hdo_any(HR:aGj)(HMP:aEk):aGw:=by
 intro w base G M gb ps ls l N vb hL hI hP hJ s tk pt n m1 m2 hs ht hto hn hG;have b1:=(Below.refl w.heap.size w).alloc yL (.cells #[.pointer (some ⟨G,0,none⟩),.pointer (some ⟨gb,0,none⟩)] 32);have k1:=pAA w #[.pointer (some ⟨G,0,none⟩),.pointer (some ⟨gb,0,none⟩)] 32;generalize hW1:w.alloc (.cells #[.pointer (some ⟨G,0,none⟩),.pointer (some ⟨gb,0,none⟩)] 32)=W1 at *;have b2:=(Below.refl W1.heap.size W1).alloc yL (.cells #[.int .u64 0,.int .u8 0,.int .u8 0,.int .i64 0,.int .i64 0] 80);have k2:=pAA W1 #[.int .u64 0,.int .u8 0,.int .u8 0,.int .i64 0,.int .i64 0] 80;generalize hW2:W1.alloc (.cells #[.int .u64 0,.int .u8 0,.int .u8 0,.int .i64 0,.int .i64 0] 80)=W2 at *;have HW1:=yH hW1;have HW2:=yH hW2;have hg1:W1.heap.size=w.heap.size+1:=by rw[←hW1];simp
 rw[hg1]at k2;have KX:=yH (k1.below b2 k1.lt);have KF:=yH k2;have B2:=yH (b1.trans (b2.mono b1.size));have L0:=yH ((hL.below b1).below b2);have P0:=yH ((hP.below b1).below b2);have HGT:=yH hg1;have II:=yH hI;have JJ:=yH hJ;have HT:=yH ht;have HTo:=yH hto;have HN:=yH hn;have HGo:=yH hG;have HRo:=yH HR;have hG1:=hL.blk.lt;have hM1:=hL.map.lt;have hb1:=hP.blk.lt;have HGL:=yH hG1;have HML:=yH hM1;have HBL:=yH hb1;have HFO:Hid (∀b,Foot gb vb b→b<w.heap.size):=yH (fun b hb=>(hP.lt hb).2);have CMd:=yH (aQh (N:=N) (aHx L0.out II.out) (fun w' k=>aIq (P0.out.below k).blk));rw[show(!((1:Int)==2) && !(N==0))=true by have:=hJ.n1;simp;omega]at CMd;have CM:=yH (fun w' (k:Below W2.heap.size W2 w')=>aOl HMP (L0.out.below k) hI (P0.out.below k) hJ s tk pt n 1099511627776 m1 m2 hs ht hto hn ⟨by omega,by omega⟩ hG);clear b1 k1 b2 k2 hW1 hW2 hL hI hP hJ hs ht hto hn hG hg1 hG1 hM1 hb1 HR HMP;go_enter Tryz.func67,Tryz.ntmps67
 go_upto_region 1 with fail
 rw[HW1.out,HW2.out];have e0:=KX.out.cell 0;have e1:=KX.out.cell 1;have kx:=KX.out.lt;simp at e0 e1;go_wp2_with fail;refine CMd.out.mono ?_;rintro e w0 ⟨rfl,b0⟩;have CM0:=yH (CM.out w0 b0);have KX0:=yB KX b0;have KF0:=yB KF b0;have L1:=yH (L0.out.below b0);have P1:=yH (P0.out.below b0);have B0:=yT B2 b0;clear b0 e0 e1 kx KX KF B2 CMd CM L0 P0;have e0:=KX0.out.cell 0;have e1:=KX0.out.cell 1;have kx:=KX0.out.lt;simp at e0 e1
 by_cases h1:n<1
 ·have q1:decide (n<1)=true:=by simpa using h1
  have NO:Hid (¬doOk l ps s tk pt n m1 m2):=yH (fun h=>by have:=h.1;omega);clear h1;go_wp2_with (refine aAb rfl 80 (.tmp 10) (.tmp 34) rfl (w.heap.size+1) #[.int .u64 0,.int .u8 0,.int .u8 0,.int .i64 0,.int .i64 0] rfl rfl 80 _ KF0.out.out (by kernel_rfl) rfl (by simp[Value.oneCell']) ?_);refine bodyPost_ret (v:=.tuple #[aF8,.int .i64 1]) (aAh rfl _ _ (w.heap.size+1) 80 #[.int .u64 0,.int .u8 0,.int .u8 0,.int .i64 0,.int .i64 0] _ _ rfl (setRow_heap _ (w.heap.size+1) _ _ _ (0,0) KF0.out.out) Tryz.underlying80 rfl (by kernel_rfl) rfl) rfl (.inl ⟨NO.out,rfl,below_setRow B0.out (by omega) _⟩)
 have q1:decide (n<1)=false:=by simpa using h1
 go_wp2_with fail;refine CM0.out.mono ?_;rintro e w1 ⟨rfl,b1⟩;have KX1:=yB KX0 b1;have KF1:=yB KF0 b1;have L2:=yH (L1.out.below b1);have P2:=yH (P1.out.below b1);have B1:=yT B0 b1;clear b1 e0 e1 kx KX0 KF0 L1 P1 B0 CM0;have e0:=KX1.out.cell 0;have e1:=KX1.out.cell 1;have kx:=KX1.out.lt;simp at e0 e1
 by_cases h2:n≤mayV l ps s tk pt n 1099511627776 m1 m2
 ·have q2:decide (mayV l ps s tk pt n 1099511627776 m1 m2<n)=false:=by simpa using h2
  have hOK:doOk l ps s tk pt n m1 m2:=⟨by omega,h2⟩;obtain⟨o,hf,⟨c1,c2,c3,c4⟩,h3,h4,h5⟩:=hOK.facts;have hGo:=(HGo.out o hf).bd II.out;have hmem:=(aC1 hf).1;have hmay:=JJ.out.may o hmem;have FT:=yH (JJ.out.fits hmem);obtain⟨_,_,_,_,_,hmy⟩:=hmay;obtain⟨x,hx⟩:∃x,upN (n*o.nu) o.de=x:=⟨_,rfl⟩;obtain⟨u1,u2,u3⟩:=aSb hmy (g:=min 1099511627776 m2) (by omega) (by omega) (by omega) h5;rw[hx]at u1 u2 u3;have CU:=yH (fun w=>rup_rat n o.nu o.de w HN.out FT.out.nu FT.out.de);rw[u1]at CU;have HX:=yH hx;have HOK:=yH hOK;have HF:=yH hf;have CF:=yH (aLq P2.out JJ.out.n1 s);rw[hf]at CF;dsimp only[aHn,Of.val]at CF;have hx64:Hid (In64 x):=yH ⟨by omega,by omega⟩;clear hOK hGo hmem hmy u1 u2 u3 hx hf h5 h4 h3 c1 c2 c3 c4;generalize mayV l ps s tk pt n 1099511627776 m1 m2=mm at *;clear h2;go_wp2_with fail;refine CF.out.mono ?_;rintro e w2 ⟨rfl,b2⟩;have bo:=(Below.refl w2.heap.size w2).alloc yL (.cells #[.int .u64 o.se,.int .u8 o.ow,.int .u8 o.sl,.int .u8 o.bu,.int .i64 o.lf,.int .i64 o.nu,.int .i64 o.de] 76);have KO:=yH (pAA w2 #[.int .u64 o.se,.int .u8 o.ow,.int .u8 o.sl,.int .u8 o.bu,.int .i64 o.lf,.int .i64 o.nu,.int .i64 o.de] 76);have b3:=b2.trans (bo.mono b2.size);have KX2:=yB KX1 b3;have KF2:=yB KF1 b3;have L3:=yH (L2.out.below b3);have P3:=yH (P2.out.below b3);have B3:=yT B1 b3;have HSZ:Hid (w.heap.size≤w2.heap.size):=yH (B1.out.trans (b2.mono B1.out.size)).size;clear b2 b3 bo e0 e1 kx KX1 KF1 L2 P2 B1 CF;have e0:=KX2.out.cell 0;have e1:=KX2.out.cell 1;have kx:=KX2.out.lt;simp at e0 e1;have d0:=KO.out.cell 0;have d1:=KO.out.cell 1;have d2:=KO.out.cell 2;have d3:=KO.out.cell 3;have d4:=KO.out.cell 4;have d5:=KO.out.cell 5;have d6:=KO.out.cell 6;have kol:=KO.out.lt;simp at d0 d1 d2 d3 d4 d5 d6;go_wp2_with fail;refine(CU.out _).mono ?_;rintro e w3 ⟨rfl,b3⟩;have KX3:=yB KX2 b3;have KO3:=yB KO b3;have KF3:=yB KF2 b3;have L4:=yH (L3.out.below b3);have P4:=yH (P3.out.below b3);have B4:=yT B3 b3;clear b3 CU KX2 KO KF2 L3 P3 B3;clear e0 e1 kx d0 d1 d2 d3 d4 d5 d6 kol;have e0:=KX3.out.cell 0;have e1:=KX3.out.cell 1;have kx:=KX3.out.lt;simp at e0 e1;have d0:=KO3.out.cell 0;have d1:=KO3.out.cell 1;have d2:=KO3.out.cell 2;have d3:=KO3.out.cell 3;have d4:=KO3.out.cell 4;have d5:=KO3.out.cell 5;have d6:=KO3.out.cell 6;have kol:=KO3.out.lt;simp at d0 d1 d2 d3 d4 d5 d6
  by_cases hp:pt=o.ow
  ·have q3:(pt != o.ow)=false:=by simpa using hp
   have HP:=yH hp;clear hp;have BK:Hid (Keep (fun k=>k=G∨k=M∨Foot gb vb k) w w3):=yH (pAE B4.out);clear B4;have KXA:=KX3;have KFA:=KF3;have KOA:=KO3;have LA:=L4;have PA:=P4;clear KX3 KF3 KO3 L4 P4;obtain⟨τ,hτ⟩:=aCn (aAz II.out o.bu) tk o.ow x;have HTAU:=yH hτ;have CP:=yH (aNz HRo.out LA.out II.out HT.out FT.out.ow FT.out.bu hx64.out hτ);clear hτ;go_wp2_with fail;refine CP.out.mono ?_;rintro e w6 ⟨rfl,r6,k6⟩;have AP:=(PA.out.ne_map LA.out).1;have KX6:=yH (KXA.out.keep k6 (by have:=HML.out;omega));have KF6:=yH (KFA.out.keep k6 (by have:=HML.out;omega));have P6:=yH (PA.out.keep k6 AP.1 AP.2);have B6:=yH (BK.out.trans (k6.mono (fun k _ h=>Or.inr (Or.inl h))));have L6:=yH r6;clear CP r6 k6 AP KXA KFA PA LA BK KOA;clear e0 e1 kx d0 d1 d2 d3 d4 d5 d6 kol;have e0:=KX6.out.cell 0;have e1:=KX6.out.cell 1;have kx:=KX6.out.lt;simp at e0 e1;have CK:=yH (aPy P6.out JJ.out s n);go_wp2_with fail;refine CK.out.mono ?_;rintro e w7 ⟨rfl,vb7,r7,k7,mv7⟩;have AP:=(P6.out.ne_map L6.out).2;have hgz:¬Foot gb vb (w.heap.size+1):=fun h=>by have:=HFO.out _ h;omega
   have KF7:=yH (KF6.out.keep k7 hgz);have L7:=yH (L6.out.keep k7 AP.1 AP.2);have B7:=yH (B6.out.trans (k7.mono (fun k _ h=>Or.inr (Or.inr h))));have P7:=yH r7;have MV:=yH (mv7.of_le B6.out.size);clear CK r7 k7 mv7 AP hgz KX6 KF6 P6 L6 B6;clear e0 e1 kx;go_wp2_with (refine aAb rfl 80 (.tmp 10) (.tmp 81) rfl (w.heap.size+1) #[.int .u64 s,.int .u8 tk,.int .u8 pt,.int .i64 n,.int .i64 x] rfl rfl 80 _ KF7.out.out (by kernel_rfl) rfl (by simp[Value.oneCell']) ?_);refine bodyPost_ret (v:=.tuple #[.agg #[.int .u64 s,.int .u8 tk,.int .u8 pt,.int .i64 n,.int .i64 x],.int .i64 0]) (aAh rfl _ _ (w.heap.size+1) 80 #[.int .u64 s,.int .u8 tk,.int .u8 pt,.int .i64 n,.int .i64 x] _ _ rfl (setRow_heap _ (w.heap.size+1) _ _ _ (0,0) KF7.out.out) Tryz.underlying80 rfl (by kernel_rfl) rfl) rfl (.inr ⟨HOK.out,o,x,_,vb7,HF.out,HX.out.symm,⟨ls,τ,(.inl ⟨HP.out,rfl⟩),HTAU.out,rfl⟩,rfl,?_,?_,B7.out.freshRow (by omega) _,MV.out⟩)
   ·exact L7.out.keep (aAg _ _) (by have:=HGL.out;omega) (by have:=HML.out;omega)
   refine P7.out.keep (aAg _ _) (by have:=HBL.out;omega) (fun b hb h=>?_);subst h;exact aAl P7.out.row KF7.out (by decide) _ hb rfl
  have q3:(pt != o.ow)=true:=by simpa using hp
  have HP:=yH hp;clear hp;obtain⟨σ,hσ⟩:=aCn (aAz II.out o.sl) o.ow pt n;have HSG:=yH hσ;have CP:=yH (aNz HRo.out L4.out II.out FT.out.ow HTo.out FT.out.sl HN.out hσ);clear hσ;go_wp2_with fail;refine CP.out.mono ?_;rintro e w5 ⟨rfl,r5,k5⟩;have AP:=(P4.out.ne_map L4.out).1;have KXA:=yH (KX3.out.keep k5 (by have:=HML.out;omega));have KFA:=yH (KF3.out.keep k5 (by have:=HML.out;omega));have KOA:=yH (KO3.out.keep k5 (by have:=HML.out;have:=HSZ.out;omega));have PA:=yH (P4.out.keep k5 AP.1 AP.2);have BK:Hid (Keep (fun k=>k=G∨k=M∨Foot gb vb k) w w5):=yH ((pAE B4.out).trans (k5.mono (fun k _ h=>Or.inr (Or.inl h))));have LA:=yH r5;have IA:=yH (aIm II.out o.ow pt o.sl n σ);clear CP r5 k5 AP KX3 KF3 KO3 P4 L4 B4;clear e0 e1 kx d0 d1 d2 d3 d4 d5 d6 kol;have RT:Hid (∃a,aAk (aBy ps ls o.sl) 4398046511104 o.ow pt n a∧payL ps ls o.ow pt o.sl n σ=payL ps ls o.ow pt o.sl n a):=yH ⟨σ,HSG.out,rfl⟩;clear HSG;generalize payL ps ls o.ow pt o.sl n σ=ls4 at *;have e0:=KXA.out.cell 0;have e1:=KXA.out.cell 1;have kx:=KXA.out.lt;simp at e0 e1;have d0:=KOA.out.cell 0;have d1:=KOA.out.cell 1;have d2:=KOA.out.cell 2;have d3:=KOA.out.cell 3;have d4:=KOA.out.cell 4;have d5:=KOA.out.cell 5;have d6:=KOA.out.cell 6;have kol:=KOA.out.lt;simp at d0 d1 d2 d3 d4 d5 d6;obtain⟨τ,hτ⟩:=aCn (aAz IA.out o.bu) tk o.ow x;have HTAU:=yH hτ;have CP:=yH (aNz HRo.out LA.out IA.out HT.out FT.out.ow FT.out.bu hx64.out hτ);clear hτ;go_wp2_with fail;refine CP.out.mono ?_;rintro e w6 ⟨rfl,r6,k6⟩;have AP:=(PA.out.ne_map LA.out).1;have KX6:=yH (KXA.out.keep k6 (by have:=HML.out;omega));have KF6:=yH (KFA.out.keep k6 (by have:=HML.out;omega));have P6:=yH (PA.out.keep k6 AP.1 AP.2);have B6:=yH (BK.out.trans (k6.mono (fun k _ h=>Or.inr (Or.inl h))));have L6:=yH r6;clear CP r6 k6 AP KXA KFA PA LA BK KOA;clear e0 e1 kx d0 d1 d2 d3 d4 d5 d6 kol;have e0:=KX6.out.cell 0;have e1:=KX6.out.cell 1;have kx:=KX6.out.lt;simp at e0 e1;have CK:=yH (aPy P6.out JJ.out s n);go_wp2_with fail;refine CK.out.mono ?_;rintro e w7 ⟨rfl,vb7,r7,k7,mv7⟩;have AP:=(P6.out.ne_map L6.out).2;have hgz:¬Foot gb vb (w.heap.size+1):=fun h=>by have:=HFO.out _ h;omega
  have KF7:=yH (KF6.out.keep k7 hgz);have L7:=yH (L6.out.keep k7 AP.1 AP.2);have B7:=yH (B6.out.trans (k7.mono (fun k _ h=>Or.inr (Or.inr h))));have P7:=yH r7;have MV:=yH (mv7.of_le B6.out.size);clear CK r7 k7 mv7 AP hgz KX6 KF6 P6 L6 B6;clear e0 e1 kx;go_wp2_with (refine aAb rfl 80 (.tmp 10) (.tmp 81) rfl (w.heap.size+1) #[.int .u64 s,.int .u8 tk,.int .u8 pt,.int .i64 n,.int .i64 x] rfl rfl 80 _ KF7.out.out (by kernel_rfl) rfl (by simp[Value.oneCell']) ?_);refine bodyPost_ret (v:=.tuple #[.agg #[.int .u64 s,.int .u8 tk,.int .u8 pt,.int .i64 n,.int .i64 x],.int .i64 0]) (aAh rfl _ _ (w.heap.size+1) 80 #[.int .u64 s,.int .u8 tk,.int .u8 pt,.int .i64 n,.int .i64 x] _ _ rfl (setRow_heap _ (w.heap.size+1) _ _ _ (0,0) KF7.out.out) Tryz.underlying80 rfl (by kernel_rfl) rfl) rfl (.inr ⟨HOK.out,o,x,_,vb7,HF.out,HX.out.symm,⟨ls4,τ,(.inr ⟨HP.out,RT.out⟩),HTAU.out,rfl⟩,rfl,?_,?_,B7.out.freshRow (by omega) _,MV.out⟩)
  ·exact L7.out.keep (aAg _ _) (by have:=HGL.out;omega) (by have:=HML.out;omega)
  refine P7.out.keep (aAg _ _) (by have:=HBL.out;omega) (fun b hb h=>?_);subst h;exact aAl P7.out.row KF7.out (by decide) _ hb rfl
 have q2:decide (mayV l ps s tk pt n 1099511627776 m1 m2<n)=true:=by simpa using h2
 have NO:Hid (¬doOk l ps s tk pt n m1 m2):=yH (fun h=>h2 h.2);clear h2;generalize mayV l ps s tk pt n 1099511627776 m1 m2=mm at *;go_wp2_with (refine aAb rfl 80 (.tmp 10) (.tmp 34) rfl (w.heap.size+1) #[.int .u64 0,.int .u8 0,.int .u8 0,.int .i64 0,.int .i64 0] rfl rfl 80 _ KF1.out.out (by kernel_rfl) rfl (by simp[Value.oneCell']) ?_);refine bodyPost_ret (v:=.tuple #[aF8,.int .i64 1]) (aAh rfl _ _ (w.heap.size+1) 80 #[.int .u64 0,.int .u8 0,.int .u8 0,.int .i64 0,.int .i64 0] _ _ rfl (setRow_heap _ (w.heap.size+1) _ _ _ (0,0) KF1.out.out) Tryz.underlying80 rfl (by kernel_rfl) rfl) rfl (.inl ⟨NO.out,rfl,below_setRow B1.out (by omega) _⟩)
def aD0(s t:Int)(σ:RS):Nat→RS
 | 0=>σ
 | k+1=>wayR s t (aD0 s t σ k)
theorem aNa{f0:Int→Int→Int}{B s t want:Int}(h:GInv f0 B):∀k,(∀j,j<k→¬aC3 s t (aD0 s t ⟨f0,want,[]⟩ j))→RInv f0 B s t want k (aD0 s t ⟨f0,want,[]⟩ k)
 | 0,_=>RInv.start h s t want
 | k+1,hj=>(aNa h k (fun j hk=>hj j (by omega))).step (hj k (by omega))
theorem aNb{f0:Int→Int→Int}{B s t want:Int}(h:GInv f0 B)(k:Nat)(hj:∀j,j<k→¬aC3 s t (aD0 s t ⟨f0,want,[]⟩ j))(hd:aC3 s t (aD0 s t ⟨f0,want,[]⟩ k)):aAk f0 B s t want (aD0 s t ⟨f0,want,[]⟩ k):=
 ⟨k,aNa h k hj,hd⟩
def p10:List Int:=[1,2,3]
def l10:List Ln:=[⟨3,2,1,9,0⟩,⟨2,1,2,7,0⟩]
def o10:List Of:=[⟨1,2,1,2,5,3,2⟩]
theorem lv10_s:(∀j,j<1→¬aC3 2 3 (aD0 2 3 ⟨aBy p10 l10 1,aBk,[]⟩ j))∧aC3 2 3 (aD0 2 3 ⟨aBy p10 l10 1,aBk,[]⟩ 1)∧aBk - (aD0 2 3 ⟨aBy p10 l10 1,aBk,[]⟩ 1).left=9:=by
 unfold aC3;decide +kernel
theorem lv10_b:(∀j,j<1→¬aC3 1 2 (aD0 1 2 ⟨aBy p10 l10 2,aBk,[]⟩ j))∧aC3 1 2 (aD0 1 2 ⟨aBy p10 l10 2,aBk,[]⟩ 1)∧aBk - (aD0 1 2 ⟨aBy p10 l10 2,aBk,[]⟩ 1).left=7:=by
 unfold aC3;decide +kernel
theorem aHf{ps:List Int}{ls:List Ln}(h:LInv ps ls){c a b v:Int}(k:Nat)(hc:(∀j,j<k→¬aC3 a b (aD0 a b ⟨aBy ps ls c,aBk,[]⟩ j))∧aC3 a b (aD0 a b ⟨aBy ps ls c,aBk,[]⟩ k)∧aBk - (aD0 a b ⟨aBy ps ls c,aBk,[]⟩ k).left=v):aE3 ps ls c a b=v:=by
 unfold aE3;rw[(aDy (aAz h c) a b aBk).eq (aNb (aAz h c) k hc.1 hc.2.1)];exact hc.2.2
theorem aKh{ps:List Int}{ls ls':List Ln}(h:LInv ps ls){c a b n:Int}(k:Nat)(hc:(∀j,j<k→¬aC3 a b (aD0 a b ⟨aBy ps ls c,n,[]⟩ j))∧aC3 a b (aD0 a b ⟨aBy ps ls c,n,[]⟩ k)∧payL ps ls a b c n (aD0 a b ⟨aBy ps ls c,n,[]⟩ k)=ls'):aJg ps ls a b c n=ls':=by
 unfold aJg;rw[(aDy (aAz h c) a b n).eq (aNb (aAz h c) k hc.1 hc.2.1)];exact hc.2.2
def lzA:List Ln:=[⟨3,2,1,9,5⟩,⟨2,1,2,7,0⟩]
def lz1:List Ln:=[⟨3,2,1,9,5⟩,⟨2,1,2,7,5⟩]
def lzB:List Ln:=[⟨3,2,1,9,6⟩,⟨2,1,2,7,5⟩]
def lz2:List Ln:=[⟨3,2,1,9,6⟩,⟨2,1,2,7,7⟩]
def ov0:List Of:=[⟨1,2,1,2,5,3,2⟩,⟨2,2,1,2,5,1,1⟩]
def ov1:List Of:=[⟨1,2,1,2,5,3,2⟩]
def ov2:List Of:=[⟨1,2,1,2,4,3,2⟩]
theorem lw_s0(h:LInv p10 l10):aE3 p10 l10 1 2 3=9∧aE3 p10 l10 2 1 2=7:=⟨aHf h 1 lv10_s,aHf h 1 lv10_b⟩
theorem lw_p0(h:LInv p10 l10):aJg p10 l10 2 3 1 5=lzA:=aKh h 1 (by unfold aC3;decide +kernel)
theorem lw_pA(h:LInv p10 lzA):aJg p10 lzA 1 2 2 5=lz1:=aKh h 1 (by unfold aC3;decide +kernel)
theorem lw_s1(h:LInv p10 lz1):aE3 p10 lz1 1 2 3=4∧aE3 p10 lz1 2 1 2=2:=⟨aHf h 1 (by unfold aC3;decide +kernel),aHf h 1 (by unfold aC3;decide +kernel)⟩
theorem lw_p1(h:LInv p10 lz1):aJg p10 lz1 2 3 1 1=lzB:=aKh h 1 (by unfold aC3;decide +kernel)
theorem lw_pB(h:LInv p10 lzB):aJg p10 lzB 1 2 2 2=lz2:=aKh h 1 (by unfold aC3;decide +kernel)
theorem lw_s2(h:LInv p10 lz2):aE3 p10 lz2 1 2 3=3∧aE3 p10 lz2 2 1 2=0:=⟨aHf h 1 (by unfold aC3;decide +kernel),aHf h 0 (by unfold aC3;decide +kernel)⟩
theorem lw_f0(h:LInv p10 l10):aC9 p10 l10 ⟨2,2,1,2,5,1,1⟩ 1 3 5 5=lz1∧LInv p10 lz1:=by
 have e0:=lw_p0 h;have hA:LInv p10 lzA:=by rw[←e0];exact aGy h _ _ _ _
 have e1:=lw_pA hA;refine⟨?_,by rw[←e1];exact aGy hA _ _ _ _⟩;unfold aC9;rw[if_neg (by decide)];show aJg p10 (aJg p10 l10 2 3 1 5) 1 2 2 5=lz1;rw[e0,e1]
theorem lw_f1(h:LInv p10 lz1):aC9 p10 lz1 ⟨1,2,1,2,5,3,2⟩ 1 3 1 2=lz2∧LInv p10 lz2:=by
 have e0:=lw_p1 h;have hB:LInv p10 lzB:=by rw[←e0];exact aGy h _ _ _ _
 have e1:=lw_pB hB;refine⟨?_,by rw[←e1];exact aGy hB _ _ _ _⟩;unfold aC9;rw[if_neg (by decide)];show aJg p10 (aJg p10 lz1 2 3 1 1) 1 2 2 2=lz2;rw[e0,e1]
def fv1:Fl:=⟨2,5,5⟩
def fv2:Fl:=⟨1,1,2⟩
theorem lw_step0(h:LInv p10 l10){n:Int}(hn:n=6∨n=7):aBe p10 1 3 1 2 64 ⟨l10,ov0,[],n⟩=aBe p10 1 3 1 2 63 ⟨lz1,ov1,[fv1],n - 5⟩:=by
 have hm:mayS p10 l10 ov0 1 3 n 1099511627776 2=5:=by
  show mayO ⟨2,2,1,2,5,1,1⟩ p10 1 3 n 1099511627776 (aE3 p10 l10 1 2 3) (aE3 p10 l10 2 1 2)=5;rw[(lw_s0 h).1,(lw_s0 h).2];rcases hn with rfl|rfl <;> decide +kernel
 have hf:aBh p10 l10 ov0 1 3 n 1099511627776 (aBu ov0 1 2)=some (2,5):=by
  rw[show aBu ov0 1 2=[⟨2,2,1,2,5,1,1⟩,⟨1,2,1,2,5,3,2⟩] by decide +kernel];unfold aBh;rw[hm];rfl
 rw[aD8 (s:=2) (k:=5) (by show ¬n≤0;omega) hf (by simp)]
 have e:aGc p10 1 3 ⟨l10,ov0,[],n⟩ 2 5=⟨lz1,ov1,[fv1],n - 5⟩:=by
  unfold aGc;rw[show aBs ov0 2=some ⟨2,2,1,2,5,1,1⟩ by decide +kernel];simp only[];rw[show upN (5*1) 1=5 by decide +kernel,(lw_f0 h).1,show aCo ov0 2 5=ov1 by decide +kernel];rfl
 rw[e]
theorem lw_step1(h:LInv p10 lz1){n:Int}(hn:n=1∨n=2):aBe p10 1 3 1 2 63 ⟨lz1,ov1,[fv1],n⟩=aBe p10 1 3 1 2 62 ⟨lz2,ov2,[fv1,fv2],n - 1⟩:=by
 have hm:mayS p10 lz1 ov1 1 3 n 1099511627776 1=1:=by
  show mayO ⟨1,2,1,2,5,3,2⟩ p10 1 3 n 1099511627776 (aE3 p10 lz1 1 2 3) (aE3 p10 lz1 2 1 2)=1;rw[(lw_s1 h).1,(lw_s1 h).2];rcases hn with rfl|rfl <;> decide +kernel
 have hf:aBh p10 lz1 ov1 1 3 n 1099511627776 (aBu ov1 1 2)=some (1,1):=by
  rw[show aBu ov1 1 2=[⟨1,2,1,2,5,3,2⟩] by decide +kernel];unfold aBh;rw[hm];rfl
 rw[aD8 (s:=1) (k:=1) (by show ¬n≤0;omega) hf (by simp)]
 have e:aGc p10 1 3 ⟨lz1,ov1,[fv1],n⟩ 1 1=⟨lz2,ov2,[fv1,fv2],n - 1⟩:=by
  unfold aGc;rw[show aBs ov1 1=some ⟨1,2,1,2,5,3,2⟩ by decide +kernel];simp only[];rw[show upN (1*3) 2=2 by decide +kernel,(lw_f1 h).1,show aCo ov1 1 1=ov2 by decide +kernel];rfl
 rw[e]
theorem lw_none(h:LInv p10 lz2):aBe p10 1 3 1 2 62 ⟨lz2,ov2,[fv1,fv2],1⟩=(11,⟨lz2,ov2,[fv1,fv2],1⟩):=by
 refine aEq (by decide) ?_
 have hm:mayS p10 lz2 ov2 1 3 1 1099511627776 1=0:=by
  show mayO ⟨1,2,1,2,4,3,2⟩ p10 1 3 1 1099511627776 (aE3 p10 lz2 1 2 3) (aE3 p10 lz2 2 1 2)=0;rw[(lw_s2 h).1,(lw_s2 h).2];decide +kernel
 show aBh p10 lz2 ov2 1 3 1 1099511627776 (aBu ov2 1 2)=none;rw[show aBu ov2 1 2=[⟨1,2,1,2,4,3,2⟩] by decide +kernel];unfold aBh;rw[hm];rfl
theorem lw_n6(h:LInv p10 l10):aBe p10 1 3 1 2 64 ⟨l10,ov0,[],6⟩=(0,⟨lz2,ov2,[fv1,fv2],0⟩):=by
 have h1:=(lw_f0 h).2;rw[lw_step0 h (.inl rfl),show(6:Int) - 5=1 by decide,lw_step1 h1 (.inl rfl),show(1:Int) - 1=0 by decide,aEp (by decide)]
theorem lw_n7(h:LInv p10 l10):aBe p10 1 3 1 2 64 ⟨l10,ov0,[],7⟩=(11,⟨lz2,ov2,[fv1,fv2],1⟩):=by
 have h1:=(lw_f0 h).2;have h2:=(lw_f1 h1).2;rw[lw_step0 h (.inr rfl),show(7:Int) - 5=2 by decide,lw_step1 h1 (.inr rfl),show(2:Int) - 1=1 by decide,lw_none h2]
theorem lw_sw1(h:LInv p10 l10):aBm p10 l10 ov0 1 3 1 2 6 7=(0,⟨lz2,ov2,[fv1,fv2],0⟩):=by
 unfold aBm;rw[if_neg (fun q=>q (by unfold aB5;decide)),if_neg (by decide),lw_n6 h];rfl
theorem lw_sw2(h:LInv p10 l10):(aBm p10 l10 ov0 1 3 1 2 6 6).1=12:=by
 unfold aBm;rw[if_neg (fun q=>q (by unfold aB5;decide)),if_neg (by decide),lw_n6 h];rfl
theorem lw_sw3(h:LInv p10 l10):(aBm p10 l10 ov0 1 3 1 2 7 99).1=11:=by
 unfold aBm;rw[if_neg (fun q=>q (by unfold aB5;decide)),if_neg (by decide),lw_n7 h];rfl
theorem lw_sw4:(aBm p10 l10 ov0 1 3 1 2 0 9).1=1:=by
 unfold aBm;rw[if_pos (by unfold aB5;decide)]
theorem aF4(x:Int)(w:World):Calls Tryz.prog 136 #[.int .u8 x] w fun e w'=>e=.returned (.bool (decide (1≤x∧x≤16)))∧w=w':=by
 by_cases h1:1≤x
 ·have d1:decide (1≤x)=true:=by simpa using h1
  by_cases h2:x≤16
  ·have d2:decide (x≤16)=true:=by simpa using h2
   rw[decide_eq_true (⟨h1,h2⟩:1≤x∧x≤16)];clear h1 h2;go_enter Tryz.func136,Tryz.ntmps136;go_wp2_with fail;go_ret;exact⟨rfl,rfl⟩
  have d2:decide (x≤16)=false:=by simpa using h2
  rw[decide_eq_false (fun h:1≤x∧x≤16=>h2 h.2)];clear h1 h2;go_enter Tryz.func136,Tryz.ntmps136;go_wp2_with fail;go_ret;exact⟨rfl,rfl⟩
 have d1:decide (1≤x)=false:=by simpa using h1
 rw[decide_eq_false (fun h:1≤x∧x≤16=>h1 h.1)];clear h1;go_enter Tryz.func136,Tryz.ntmps136;go_wp2_with fail;go_ret;exact⟨rfl,rfl⟩
theorem aD9(x:Int)(w:World):Calls Tryz.prog 137 #[.int .u8 x] w fun e w'=>e=.returned (.bool (decide (1≤x∧x≤8)))∧w=w':=by
 by_cases h1:1≤x
 ·have d1:decide (1≤x)=true:=by simpa using h1
  by_cases h2:x≤8
  ·have d2:decide (x≤8)=true:=by simpa using h2
   rw[decide_eq_true (⟨h1,h2⟩:1≤x∧x≤8)];clear h1 h2;go_enter Tryz.func137,Tryz.ntmps137;go_wp2_with fail;go_ret;exact⟨rfl,rfl⟩
  have d2:decide (x≤8)=false:=by simpa using h2
  rw[decide_eq_false (fun h:1≤x∧x≤8=>h2 h.2)];clear h1 h2;go_enter Tryz.func137,Tryz.ntmps137;go_wp2_with fail;go_ret;exact⟨rfl,rfl⟩
 have d1:decide (1≤x)=false:=by simpa using h1
 rw[decide_eq_false (fun h:1≤x∧x≤8=>h1 h.1)];clear h1;go_enter Tryz.func137,Tryz.ntmps137;go_wp2_with fail;go_ret;exact⟨rfl,rfl⟩
theorem aE9(x:Int)(w:World):Calls Tryz.prog 138 #[.int .i64 x] w fun e w'=>e=.returned (.bool (decide (1≤x∧x≤1099511627776)))∧w=w':=by
 by_cases h1:1≤x
 ·have d1:decide (1≤x)=true:=by simpa using h1
  by_cases h2:x≤1099511627776
  ·have d2:decide (x≤1099511627776)=true:=by simpa using h2
   rw[decide_eq_true (⟨h1,h2⟩:1≤x∧x≤1099511627776)];clear h1 h2;go_enter Tryz.func138,Tryz.ntmps138;go_wp2_with fail;go_ret;exact⟨rfl,rfl⟩
  have d2:decide (x≤1099511627776)=false:=by simpa using h2
  rw[decide_eq_false (fun h:1≤x∧x≤1099511627776=>h2 h.2)];clear h1 h2;go_enter Tryz.func138,Tryz.ntmps138;go_wp2_with fail;go_ret;exact⟨rfl,rfl⟩
 have d1:decide (1≤x)=false:=by simpa using h1
 rw[decide_eq_false (fun h:1≤x∧x≤1099511627776=>h1 h.1)];clear h1;go_enter Tryz.func138,Tryz.ntmps138;go_wp2_with fail;go_ret;exact⟨rfl,rfl⟩
theorem smay_any(fr pt get give n most:Int)(w:World):Calls Tryz.prog 84 #[.agg #[.int .u8 fr,.int .u8 pt,.int .u8 get,.int .u8 give,.int .i64 n,.int .i64 most]] w (yR w (.bool (decide (aB5 fr pt get give n most)))):=by
 have B:=yH ((Below.refl w.heap.size w).alloc yL (.cells #[.int .u8 fr,.int .u8 pt,.int .u8 get,.int .u8 give,.int .i64 n,.int .i64 most] 94));have K:=yH (pAA w #[.int .u8 fr,.int .u8 pt,.int .u8 get,.int .u8 give,.int .i64 n,.int .i64 most] 94);generalize hW:w.alloc (.cells #[.int .u8 fr,.int .u8 pt,.int .u8 get,.int .u8 give,.int .i64 n,.int .i64 most] 94)=W at *;have HW:=yH hW;clear hW;have c0:=K.out.cell 0;have c1:=K.out.cell 1;have c2:=K.out.cell 2;have c3:=K.out.cell 3;have c4:=K.out.cell 4;have c5:=K.out.cell 5;have cl:=K.out.lt;simp at c0 c1 c2 c3 c4 c5;clear K
 by_cases h0:¬(1≤fr∧fr≤16)
 ·have NO:decide (aB5 fr pt get give n most)=false:=decide_eq_false (by unfold aB5;omega);rw[NO];have C0:=yH (aF4 fr W);rw[decide_eq_false h0]at C0;clear NO h0;go_enter Tryz.func84,Tryz.ntmps84
  go_upto_region 1 with fail
  rw[HW.out];go_wp2_with fail;refine C0.out.mono ?_;rintro e w' ⟨rfl,rfl⟩;go_wp2_with fail;go_ret;exact⟨rfl,B.out⟩
 have h0:=Decidable.not_not.1 h0;have C0:=yH (aF4 fr W);rw[decide_eq_true h0]at C0
 by_cases h1:¬(1≤pt∧pt≤16)
 ·have NO:decide (aB5 fr pt get give n most)=false:=decide_eq_false (by unfold aB5;omega);rw[NO];have C1:=yH (aF4 pt W);rw[decide_eq_false h1]at C1;clear NO h0 h1;go_enter Tryz.func84,Tryz.ntmps84
  go_upto_region 1 with fail
  rw[HW.out];go_wp2_with fail;refine C0.out.mono ?_;rintro e w' ⟨rfl,rfl⟩;go_wp2_with fail;refine C1.out.mono ?_;rintro e w' ⟨rfl,rfl⟩;go_wp2_with fail;go_ret;exact⟨rfl,B.out⟩
 have h1:=Decidable.not_not.1 h1;have C1:=yH (aF4 pt W);rw[decide_eq_true h1]at C1
 by_cases h2:¬(1≤get∧get≤8)
 ·have NO:decide (aB5 fr pt get give n most)=false:=decide_eq_false (by unfold aB5;omega);rw[NO];have C2:=yH (aD9 get W);rw[decide_eq_false h2]at C2;clear NO h0 h1 h2;go_enter Tryz.func84,Tryz.ntmps84
  go_upto_region 1 with fail
  rw[HW.out];go_wp2_with fail;refine C0.out.mono ?_;rintro e w' ⟨rfl,rfl⟩;go_wp2_with fail;refine C1.out.mono ?_;rintro e w' ⟨rfl,rfl⟩;go_wp2_with fail;refine C2.out.mono ?_;rintro e w' ⟨rfl,rfl⟩;go_wp2_with fail;go_ret;exact⟨rfl,B.out⟩
 have h2:=Decidable.not_not.1 h2;have C2:=yH (aD9 get W);rw[decide_eq_true h2]at C2
 by_cases h3:¬(1≤give∧give≤8)
 ·have NO:decide (aB5 fr pt get give n most)=false:=decide_eq_false (by unfold aB5;omega);rw[NO];have C3:=yH (aD9 give W);rw[decide_eq_false h3]at C3;clear NO h0 h1 h2 h3;go_enter Tryz.func84,Tryz.ntmps84
  go_upto_region 1 with fail
  rw[HW.out];go_wp2_with fail;refine C0.out.mono ?_;rintro e w' ⟨rfl,rfl⟩;go_wp2_with fail;refine C1.out.mono ?_;rintro e w' ⟨rfl,rfl⟩;go_wp2_with fail;refine C2.out.mono ?_;rintro e w' ⟨rfl,rfl⟩;go_wp2_with fail;refine C3.out.mono ?_;rintro e w' ⟨rfl,rfl⟩;go_wp2_with fail;go_ret;exact⟨rfl,B.out⟩
 have h3:=Decidable.not_not.1 h3;have C3:=yH (aD9 give W);rw[decide_eq_true h3]at C3
 by_cases h4:¬(get≠give)
 ·have NO:decide (aB5 fr pt get give n most)=false:=decide_eq_false (by unfold aB5;omega);rw[NO];have q4:(get != give)=false:=by simpa using h4
  clear NO h0 h1 h2 h3 h4;go_enter Tryz.func84,Tryz.ntmps84
  go_upto_region 1 with fail
  rw[HW.out];go_wp2_with fail;refine C0.out.mono ?_;rintro e w' ⟨rfl,rfl⟩;go_wp2_with fail;refine C1.out.mono ?_;rintro e w' ⟨rfl,rfl⟩;go_wp2_with fail;refine C2.out.mono ?_;rintro e w' ⟨rfl,rfl⟩;go_wp2_with fail;refine C3.out.mono ?_;rintro e w' ⟨rfl,rfl⟩;go_wp2_with fail;go_ret;exact⟨rfl,B.out⟩
 have h4:=Decidable.not_not.1 h4;have q4:(get != give)=true:=by simpa using h4
 by_cases h5:¬(1≤n∧n≤1099511627776)
 ·have NO:decide (aB5 fr pt get give n most)=false:=decide_eq_false (by unfold aB5;omega);rw[NO];have C5:=yH (aE9 n W);rw[decide_eq_false h5]at C5;clear NO h0 h1 h2 h3 h4 h5;go_enter Tryz.func84,Tryz.ntmps84
  go_upto_region 1 with fail
  rw[HW.out];go_wp2_with fail;refine C0.out.mono ?_;rintro e w' ⟨rfl,rfl⟩;go_wp2_with fail;refine C1.out.mono ?_;rintro e w' ⟨rfl,rfl⟩;go_wp2_with fail;refine C2.out.mono ?_;rintro e w' ⟨rfl,rfl⟩;go_wp2_with fail;refine C3.out.mono ?_;rintro e w' ⟨rfl,rfl⟩;go_wp2_with fail;refine C5.out.mono ?_;rintro e w' ⟨rfl,rfl⟩;go_wp2_with fail;go_ret;exact⟨rfl,B.out⟩
 have h5:=Decidable.not_not.1 h5;have C5:=yH (aE9 n W);rw[decide_eq_true h5]at C5
 by_cases h6:¬(1≤most∧most≤1099511627776)
 ·have NO:decide (aB5 fr pt get give n most)=false:=decide_eq_false (by unfold aB5;omega);rw[NO];have C6:=yH (aE9 most W);rw[decide_eq_false h6]at C6;clear NO h0 h1 h2 h3 h4 h5 h6;go_enter Tryz.func84,Tryz.ntmps84
  go_upto_region 1 with fail
  rw[HW.out];go_wp2_with fail;refine C0.out.mono ?_;rintro e w' ⟨rfl,rfl⟩;go_wp2_with fail;refine C1.out.mono ?_;rintro e w' ⟨rfl,rfl⟩;go_wp2_with fail;refine C2.out.mono ?_;rintro e w' ⟨rfl,rfl⟩;go_wp2_with fail;refine C3.out.mono ?_;rintro e w' ⟨rfl,rfl⟩;go_wp2_with fail;refine C5.out.mono ?_;rintro e w' ⟨rfl,rfl⟩;go_wp2_with fail;refine C6.out.mono ?_;rintro e w' ⟨rfl,rfl⟩;go_wp2_with fail;go_ret;exact⟨rfl,B.out⟩
 have h6:=Decidable.not_not.1 h6;have C6:=yH (aE9 most W);rw[decide_eq_true h6]at C6;rw[decide_eq_true (show aB5 fr pt get give n most from⟨h0,h1,h2,h3,h4,h5,h6⟩)];clear h0 h1 h2 h3 h4 h5 h6;go_enter Tryz.func84,Tryz.ntmps84
 go_upto_region 1 with fail
 rw[HW.out];go_wp2_with fail;refine C0.out.mono ?_;rintro e w' ⟨rfl,rfl⟩;go_wp2_with fail;refine C1.out.mono ?_;rintro e w' ⟨rfl,rfl⟩;go_wp2_with fail;refine C2.out.mono ?_;rintro e w' ⟨rfl,rfl⟩;go_wp2_with fail;refine C3.out.mono ?_;rintro e w' ⟨rfl,rfl⟩;go_wp2_with fail;refine C5.out.mono ?_;rintro e w' ⟨rfl,rfl⟩;go_wp2_with fail;refine C6.out.mono ?_;rintro e w' ⟨rfl,rfl⟩;go_wp2_with fail;go_ret;exact⟨rfl,B.out⟩
theorem smade_of{w:World}{a b:Option Addr}{er:Int}(h:∀w',Below w.heap.size w w'→Calls Tryz.prog 67 #[.agg #[.pointer a,.pointer b],.int .u64 0,.int .u8 0,.int .u8 0,.int .i64 0] w' fun e w''=>e=.returned (.tuple #[aF8,.int .i64 er])∧Below w'.heap.size w' w''):
  Calls Tryz.prog 83 #[.agg #[.pointer a,.pointer b]] w (yR w (.bool (er != 2))):=by
 have b0:=(Below.refl w.heap.size w).alloc yL (.cells #[.pointer a,.pointer b] 32);have K:=yH (pAA w #[.pointer a,.pointer b] 32);have B:=yH b0;have C:=yH (h _ b0);clear b0 h;obtain⟨q,hq⟩:∃q,(er != 2)=q:=⟨_,rfl⟩;rw[hq];unfold aF8 at C;generalize hW:w.alloc (.cells #[.pointer a,.pointer b] 32)=W at *;have HW:=yH hW;clear hW;have c0:=K.out.cell 0;have c1:=K.out.cell 1;have cl:=K.out.lt;simp at c0 c1;clear K;go_enter Tryz.func83,Tryz.ntmps83
 go_upto_region 1 with fail
 rw[HW.out];go_wp2_with fail;refine C.out.mono ?_;rintro e w1 ⟨rfl,b1⟩;have B1:=yH ((B.out.trans (b1.mono B.out.size)).alloc (Nat.le_trans B.out.size b1.size) (.cells #[.int .u64 0,.int .u8 0,.int .u8 0,.int .i64 0,.int .i64 0] 80));clear b1 c0 c1 cl C B;go_wp2_with fail;go_ret;exact⟨rfl,B1.out⟩
theorem smade_any(HD:aGw){w:World}{base G M gb:Nat}{ps:List Int}{ls:List Ln}{l:List Of}{N:Int}{vb:Value}(hL:LedM w G M ps ls)(hI:LInv ps ls)(hP:PB w base gb l N vb)(hJ:BInv l N):
  Calls Tryz.prog 83 #[.agg #[.pointer (some ⟨G,0,none⟩),.pointer (some ⟨gb,0,none⟩)]] w (yR w (.bool true)):=
 smade_of (er:=1) (fun w' b=>(pdoS_any HD (hL.below b) hI (hP.below b) hJ 0 0 0 0 (by omega) (by unfold In8;omega) (by unfold In8;omega) (by unfold In64;omega)).mono (by
  rintro e w'' (⟨_,h1,h2⟩|⟨h,_⟩)
  ·exact⟨h1,h2⟩
  exact absurd h.1 (by omega)))
def aG0(ps:List Int)(fr pt get give n most:Int):Int:=if ¬aB5 fr pt get give n most then 1 else if fr∉ps∨pt∉ps then 7 else 0
theorem aSo{w:World}{a b:Option Addr}(fr pt get give n most:Int)(h:∀w',Below w.heap.size w w'→Calls Tryz.prog 83 #[.agg #[.pointer a,.pointer b]] w' fun e w''=>e=.returned (.bool false)∧Below w'.heap.size w' w''):
  Calls Tryz.prog 39 #[.agg #[.int .u8 fr,.int .u8 pt,.int .u8 get,.int .u8 give,.int .i64 n,.int .i64 most],.agg #[.pointer a,.pointer b]] w (yR w (.int .i64 2)):=by
 have b0:=((Below.refl w.heap.size w).alloc yL (.cells #[.int .u8 fr,.int .u8 pt,.int .u8 get,.int .u8 give,.int .i64 n,.int .i64 most] 94));have b1:=b0.alloc b0.size (.cells #[.pointer a,.pointer b] 32);have K:=yH (pAC (w.alloc (.cells #[.int .u8 fr,.int .u8 pt,.int .u8 get,.int .u8 give,.int .i64 n,.int .i64 most] 94)) #[.pointer a,.pointer b] 32 (g:=w.heap.size+1) (by simp));have B:=yH b1;have C:=yH (h _ b1);clear b0 b1 h;generalize hW:(w.alloc (.cells #[.int .u8 fr,.int .u8 pt,.int .u8 get,.int .u8 give,.int .i64 n,.int .i64 most] 94)).alloc (.cells #[.pointer a,.pointer b] 32)=W at *;have HW:=yH hW;clear hW;have c0:=K.out.cell 0;have c1:=K.out.cell 1;have cl:=K.out.lt;simp at c0 c1;clear K;go_enter Tryz.func39,Tryz.ntmps39
 go_upto_region 1 with fail
 rw[HW.out];go_wp2_with fail;refine C.out.mono ?_;rintro e w1 ⟨rfl,b1⟩;have B1:=yT B b1;clear b1 c0 c1 cl C B;go_wp2_with fail;go_ret;exact⟨rfl,B1.out⟩
theorem swrong_any(HD:aGw){w:World}{base G M gb:Nat}{ps:List Int}{ls:List Ln}{l:List Of}{N:Int}{vb:Value}(hL:LedM w G M ps ls)(hI:LInv ps ls)(hP:PB w base gb l N vb)(hJ:BInv l N)(fr pt get give n most:Int):
  Calls Tryz.prog 39 #[.agg #[.int .u8 fr,.int .u8 pt,.int .u8 get,.int .u8 give,.int .i64 n,.int .i64 most],.agg #[.pointer (some ⟨G,0,none⟩),.pointer (some ⟨gb,0,none⟩)]] w (yR w (.int .i64 (aG0 ps fr pt get give n most))):=by
 have b0:=((Below.refl w.heap.size w).alloc yL (.cells #[.int .u8 fr,.int .u8 pt,.int .u8 get,.int .u8 give,.int .i64 n,.int .i64 most] 94));have b1:=b0.alloc b0.size (.cells #[.pointer (some ⟨G,0,none⟩),.pointer (some ⟨gb,0,none⟩)] 32);have KS:=yH ((pAA w #[.int .u8 fr,.int .u8 pt,.int .u8 get,.int .u8 give,.int .i64 n,.int .i64 most] 94).alloc (.cells #[.pointer (some ⟨G,0,none⟩),.pointer (some ⟨gb,0,none⟩)] 32));have KH:=yH (pAC (w.alloc (.cells #[.int .u8 fr,.int .u8 pt,.int .u8 get,.int .u8 give,.int .i64 n,.int .i64 most] 94)) #[.pointer (some ⟨G,0,none⟩),.pointer (some ⟨gb,0,none⟩)] 32 (g:=w.heap.size+1) (by simp));have HL:=yH (hL.below b1);have C:=yH (smade_any HD (hL.below b1) hI (hP.below b1) hJ);have B:=yH b1;have HB:=yH hI.bd;obtain⟨R,hR⟩:∃R,aG0 ps fr pt get give n most=R:=⟨_,rfl⟩;rw[hR];have HR:=yH hR;clear b0 b1 hL hI hP hJ hR;generalize hW:(w.alloc (.cells #[.int .u8 fr,.int .u8 pt,.int .u8 get,.int .u8 give,.int .i64 n,.int .i64 most] 94)).alloc (.cells #[.pointer (some ⟨G,0,none⟩),.pointer (some ⟨gb,0,none⟩)] 32)=W at *;have HW:=yH hW;clear hW;have c0:=KH.out.cell 0;have c1:=KH.out.cell 1;have cl:=KH.out.lt;simp at c0 c1;go_enter Tryz.func39,Tryz.ntmps39
 go_upto_region 1 with fail
 rw[HW.out];go_wp2_with fail;refine C.out.mono ?_;rintro e w1 ⟨rfl,b1⟩;have HL1:=yH (HL.out.below b1);have KS1:=yB KS b1;have KH1:=yB KH b1;have B1:=yT B b1;clear b1 c0 c1 cl C B HL KS KH;have s0:=KS1.out.cell 0;have s1:=KS1.out.cell 1;have s2:=KS1.out.cell 2;have s3:=KS1.out.cell 3;have s4:=KS1.out.cell 4;have s5:=KS1.out.cell 5;have sl:=KS1.out.lt;simp at s0 s1 s2 s3 s4 s5;have CM:=yH (smay_any fr pt get give n most w1)
 by_cases hm:aB5 fr pt get give n most
 ·rw[decide_eq_true hm]at CM;have HMY:=yH hm;clear hm;go_wp2_with fail;refine CM.out.mono ?_;rintro e w2 ⟨rfl,b2⟩;have HL2:=yH (HL1.out.below b2);have KS2:=yB KS1 b2;have KH2:=yB KH1 b2;have B2:=yT B1 b2;clear b2 s0 s1 s2 s3 s4 s5 sl CM B1 HL1 KS1 KH1;have s0:=KS2.out.cell 0;have s1:=KS2.out.cell 1;have sl:=KS2.out.lt;have c0:=KH2.out.cell 0;have c1:=KH2.out.cell 1;have cl:=KH2.out.lt;simp at s0 s1 c0 c1;have CF:=yH (aGm HL2.out.blk HB.out fr);have CT:=yH (aGm HL2.out.blk HB.out pt)
  by_cases hf:fr∈ps
  ·rw[decide_eq_true hf]at CF
   by_cases ht:pt∈ps
   ·rw[decide_eq_true ht]at CT;have EE:Hid (R=0):=yH (by rw[←HR.out];unfold aG0;rw[if_neg (fun h=>h HMY.out),if_neg (fun h=>h.elim (fun h=>h hf) (fun h=>h ht))]);clear hf ht;go_wp2_with fail;refine CF.out.mono ?_;rintro e w3 ⟨rfl,rfl⟩;go_wp2_with fail;refine CT.out.mono ?_;rintro e w3 ⟨rfl,rfl⟩;go_wp2_with fail;go_ret;exact⟨by rw[EE.out];rfl,B2.out⟩
   rw[decide_eq_false ht]at CT;have EE:Hid (R=7):=yH (by rw[←HR.out];unfold aG0;rw[if_neg (fun h=>h HMY.out),if_pos (.inr ht)]);clear hf ht;go_wp2_with fail;refine CF.out.mono ?_;rintro e w3 ⟨rfl,rfl⟩;go_wp2_with fail;refine CT.out.mono ?_;rintro e w3 ⟨rfl,rfl⟩;go_wp2_with fail;go_ret;exact⟨by rw[EE.out];rfl,B2.out⟩
  rw[decide_eq_false hf]at CF;have EE:Hid (R=7):=yH (by rw[←HR.out];unfold aG0;rw[if_neg (fun h=>h HMY.out),if_pos (.inl hf)]);clear hf CT;go_wp2_with fail;refine CF.out.mono ?_;rintro e w3 ⟨rfl,rfl⟩;go_wp2_with fail;go_ret;exact⟨by rw[EE.out];rfl,B2.out⟩
 rw[decide_eq_false hm]at CM;have EE:Hid (R=1):=yH (by rw[←HR.out];unfold aG0;rw[if_pos hm]);clear hm;go_wp2_with fail;refine CM.out.mono ?_;rintro e w2 ⟨rfl,b2⟩;have B2:=yT B1 b2;clear b2 s0 s1 s2 s3 s4 s5 sl CM B1;go_wp2_with fail;go_ret;exact⟨by rw[EE.out];rfl,B2.out⟩
end Go.Proofs.YtojbmnbphdcjfaaGreat
namespace Go.Proofs.YtojbmnbphdcjfaaGreat
open Go.RowKit Go.Shelf
def sortO_ren:Go.Shelf.Ren:=⟨fun|6=>115|15=>106|14=>166|28=>162|29=>163|20=>192|21=>193|22=>194|23=>195|24=>196|25=>197|26=>198|27=>199|46=>218|47=>188|48=>189|49=>219|50=>220|57=>233|n=>n,fun|22=>61|24=>126|25=>180|3=>3|39=>171|0=>0|53=>220|55=>62|4=>4|46=>213|45=>212|50=>217|5=>5|9=>9|66=>246|70=>249|76=>284|77=>285|n=>n,fun|n=>n⟩
theorem sortO:Go.Proofs.SlLaysF0.n6 Tryz.prog sortO_ren:={
 mixed:=by kernel_rfl
 f6:=⟨Tryz.f115.name,by decide,Tryz.func115.trans (congrArg some (by kernel_rfl))⟩
 f14:=⟨Tryz.f166.name,by decide,Tryz.func166.trans (congrArg some (by kernel_rfl))⟩
 f15:=Tryz.func106.trans (congrArg some (by kernel_rfl))
 f20:=⟨Tryz.f192.name,by decide,Tryz.func192.trans (congrArg some (by kernel_rfl))⟩
 f21:=⟨Tryz.f193.name,by decide,Tryz.func193.trans (congrArg some (by kernel_rfl))⟩
 f22:=⟨Tryz.f194.name,by decide,Tryz.func194.trans (congrArg some (by kernel_rfl))⟩
 f23:=⟨Tryz.f195.name,by decide,Tryz.func195.trans (congrArg some (by kernel_rfl))⟩
 f24:=⟨Tryz.f196.name,by decide,Tryz.func196.trans (congrArg some (by kernel_rfl))⟩
 f25:=⟨Tryz.f197.name,by decide,Tryz.func197.trans (congrArg some (by kernel_rfl))⟩
 f26:=⟨Tryz.f198.name,by decide,Tryz.func198.trans (congrArg some (by kernel_rfl))⟩
 f27:=⟨Tryz.f199.name,by decide,Tryz.func199.trans (congrArg some (by kernel_rfl))⟩
 f28:=Tryz.func162.trans (congrArg some (by kernel_rfl))
 f29:=Tryz.func163.trans (congrArg some (by kernel_rfl))
 f46:=⟨Tryz.f218.name,by decide,Tryz.func218.trans (congrArg some (by kernel_rfl))⟩
 f47:=Tryz.func188.trans (congrArg some (by kernel_rfl))
 f48:=Tryz.func189.trans (congrArg some (by kernel_rfl))
 f49:=⟨Tryz.f219.name,by decide,Tryz.func219.trans (congrArg some (by kernel_rfl))⟩
 f50:=⟨Tryz.f220.name,by decide,Tryz.func220.trans (congrArg some (by kernel_rfl))⟩
 f57:=⟨Tryz.f233.name,by decide,Tryz.func233.trans (congrArg some (by kernel_rfl))⟩
 t0:=Tryz.underlying0
 a0:=Tryz.isAgg0
 z0:=Tryz.sizeOf0
 v0:=Tryz.zeroValue0
 t3:=Tryz.underlying3
 a3:=Tryz.isAgg3
 z3:=Tryz.sizeOf3
 v3:=Tryz.zeroValue3
 t4:=Tryz.underlying4
 a4:=Tryz.isAgg4
 z4:=Tryz.sizeOf4
 v4:=Tryz.zeroValue4
 t5:=Tryz.underlying5
 a5:=Tryz.isAgg5
 z5:=Tryz.sizeOf5
 v5:=Tryz.zeroValue5
 t9:=Tryz.underlying9
 a9:=Tryz.isAgg9
 z9:=Tryz.sizeOf9
 v9:=Tryz.zeroValue9
 t22:=Tryz.underlying61
 a22:=Tryz.isAgg61
 z22:=Tryz.sizeOf61
 v22:=Tryz.zeroValue61
 t25:=Tryz.underlying180
 a25:=Tryz.isAgg180
 z25:=Tryz.sizeOf180
 v25:=Tryz.zeroValue180
 t39:=Tryz.underlying171
 a39:=Tryz.isAgg171
 z39:=Tryz.sizeOf171
 v39:=Tryz.zeroValue171
 t45:=Tryz.underlying212
 a45:=Tryz.isAgg212
 z45:=Tryz.sizeOf212
 v45:=Tryz.zeroValue212
 t46:=Tryz.underlying213
 a46:=Tryz.isAgg213
 z46:=Tryz.sizeOf213
 v46:=Tryz.zeroValue213
 t50:=Tryz.underlying217
 a50:=Tryz.isAgg217
 z50:=Tryz.sizeOf217
 v50:=Tryz.zeroValue217
 t53:=Tryz.underlying220
 a53:=Tryz.isAgg220
 z53:=Tryz.sizeOf220
 v53:=Tryz.zeroValue220
 t55:=Tryz.underlying62
 a55:=Tryz.isAgg62
 z55:=Tryz.sizeOf62
 v55:=Tryz.zeroValue62
 t66:=Tryz.underlying246
 a66:=Tryz.isAgg246
 z66:=Tryz.sizeOf246
 v66:=Tryz.zeroValue246
 t70:=Tryz.underlying249
 a70:=Tryz.isAgg249
 z70:=Tryz.sizeOf249
 v70:=Tryz.zeroValue249
 t76:=Tryz.underlying284
 a76:=Tryz.isAgg284
 z76:=Tryz.sizeOf284
 v76:=Tryz.zeroValue284
 t77:=Tryz.underlying285
 a77:=Tryz.isAgg285
 z77:=Tryz.sizeOf285
 v77:=Tryz.zeroValue285 }
end Go.Proofs.YtojbmnbphdcjfaaGreat
