/- Pieces of one proof. -/
import Derived.Test.YtngnfdnfpiiclaaGreatM14
import Derived.Defers
set_option linter.all false
set_option maxHeartbeats 64000000
set_option maxRecDepth 100000
namespace Go.Proofs.YtngnfdnfpiiclaaGreat
open Go.RowKit
theorem PB.down12{w:World}{base base' g:Nat}{l:List Of}{N:Int}{vl:Value}(h:PB w base g l N vl)(hb:base'≤base):PB w base' g l N vl:=⟨h.blk,Nat.le_trans hb h.ge,aJc h.row hb⟩
def PlcNo(w:World)(er:Int)(e:Ending)(w':World):Prop:=e=.returned (.tuple #[.agg #[.pointer none,.pointer none],.slice none 0 0,.int .u64 0,.int .i64 er])∧Below w.heap.size w w'
theorem pplc_void{w:World}{a b:Option Addr}(x:Of)(h:∀w',Below w.heap.size w w'→Calls Tryz.prog 240 #[.agg #[.pointer a,.pointer b]] w' fun e w''=>e=.returned (.bool false)∧Below w'.heap.size w' w''):
  Calls Tryz.prog 156 #[.agg #[.pointer a,.pointer b],.agg #[.int .u64 x.se,.int .u8 x.ow,.int .u8 x.sl,.int .u8 x.bu,.int .i64 x.lf,.int .i64 x.nu,.int .i64 x.de]] w (PlcNo w 2):=by
 have b1:=(Below.refl w.heap.size w).alloc yL (.cells #[.pointer a,.pointer b] 80);have b2:=b1.alloc b1.size (.cells #[.int .u64 x.se,.int .u8 x.ow,.int .u8 x.sl,.int .u8 x.bu,.int .i64 x.lf,.int .i64 x.nu,.int .i64 x.de] 75);have b3:=b2.alloc b2.size (.cells #[.pointer none,.pointer none] 80);have b4:=b3.alloc b3.size (.cells #[.int .u64 x.se,.int .u8 x.ow,.int .u8 x.sl,.int .u8 x.bu,.int .i64 x.lf,.int .i64 x.nu,.int .i64 x.de] 294);have KH:=yH ((((Blk.new w #[.pointer a,.pointer b] 80).alloc (.cells #[.int .u64 x.se,.int .u8 x.ow,.int .u8 x.sl,.int .u8 x.bu,.int .i64 x.lf,.int .i64 x.nu,.int .i64 x.de] 75)).alloc (.cells #[.pointer none,.pointer none] 80)).alloc (.cells #[.int .u64 x.se,.int .u8 x.ow,.int .u8 x.sl,.int .u8 x.bu,.int .i64 x.lf,.int .i64 x.nu,.int .i64 x.de] 294));have KR:=yH ((pAB ((w.alloc (.cells #[.pointer a,.pointer b] 80)).alloc (.cells #[.int .u64 x.se,.int .u8 x.ow,.int .u8 x.sl,.int .u8 x.bu,.int .i64 x.lf,.int .i64 x.nu,.int .i64 x.de] 75)) #[.pointer none,.pointer none] 80 (g:=w.heap.size+2) zV).alloc (.cells #[.int .u64 x.se,.int .u8 x.ow,.int .u8 x.sl,.int .u8 x.bu,.int .i64 x.lf,.int .i64 x.nu,.int .i64 x.de] 294));have KC:=yH (pAB (((w.alloc (.cells #[.pointer a,.pointer b] 80)).alloc (.cells #[.int .u64 x.se,.int .u8 x.ow,.int .u8 x.sl,.int .u8 x.bu,.int .i64 x.lf,.int .i64 x.nu,.int .i64 x.de] 75)).alloc (.cells #[.pointer none,.pointer none] 80)) #[.int .u64 x.se,.int .u8 x.ow,.int .u8 x.sl,.int .u8 x.bu,.int .i64 x.lf,.int .i64 x.nu,.int .i64 x.de] 294 (g:=w.heap.size+3) zV);have B:=yH b4;have CW:=yH (aUe x (fun w' k=>h w' (andB b4 k)));clear b1 b2 b3 b4 h;generalize hW:((((w.alloc (.cells #[.pointer a,.pointer b] 80)).alloc (.cells #[.int .u64 x.se,.int .u8 x.ow,.int .u8 x.sl,.int .u8 x.bu,.int .i64 x.lf,.int .i64 x.nu,.int .i64 x.de] 75)).alloc (.cells #[.pointer none,.pointer none] 80)).alloc (.cells #[.int .u64 x.se,.int .u8 x.ow,.int .u8 x.sl,.int .u8 x.bu,.int .i64 x.lf,.int .i64 x.nu,.int .i64 x.de] 294))=W at *;have HW:=yH hW;clear hW;have h0:=KH.o.cell 0;have h1:=KH.o.cell 1;have c0:=KC.o.cell 0;have c1:=KC.o.cell 1;have c2:=KC.o.cell 2;have c3:=KC.o.cell 3;have c4:=KC.o.cell 4;have c5:=KC.o.cell 5;have c6:=KC.o.cell 6;simp at h0 h1 c0 c1 c2 c3 c4 c5 c6;go_enter Tryz.func156,Tryz.ntmps156
 go_upto_region 2 with fail
 rw[HW.o];go_wp2_with fail;refine CW.o.mono ?_;rintro e w1 ⟨rfl,b1⟩;have KR1:=yB KR b1;have B1:=yT B b1;clear b1 h0 h1 c0 c1 c2 c3 c4 c5 c6 KH KR KC B CW;have r0:=KR1.o.cell 0;have r1:=KR1.o.cell 1;simp at r0 r1;go_wp2_with (refine aAa rfl 80 (.tmp 4) (.tmp 15) rfl (w.heap.size+2) #[.pointer none,.pointer none] rfl rfl 80 _ KR1.o.out zW rfl zK ?_);refine bodyPost_ret (v:=.tuple #[.agg #[.pointer none,.pointer none],.slice none 0 0,.int .u64 0,.int .i64 2]) (aBq rfl _ _ (w.heap.size+2) 80 #[.pointer none,.pointer none] _ _ _ _ rfl (setRow_heap _ (w.heap.size+2) _ _ _ (0,0) KR1.o.out) Tryz.underlying80 rfl zW rfl rfl rfl) rfl ?_;exact⟨rfl,below_setRow B1.o zQ _⟩
def PPlc(w:World)(ps:List Int)(ls:List Ln)(l:List Of)(N:Int)(x:Of)(e:Ending)(w':World):Prop:=
 (∃er:Int,er≠0∧(aBv ps ls l N x.ow x.sl x.bu x.lf x.nu x.de).1=er∧PlcNo w er e w')∨
 (∃(G M gb:Nat) (vb:Value) (a:Option Addr) (c:Nat) (σ:SwS) (N' sq:Int),aBv ps ls l N x.ow x.sl x.bu x.lf x.nu x.de=(0,σ,N',sq)∧e=.returned (.tuple #[.agg #[.pointer (some ⟨G,0,none⟩),.pointer (some ⟨gb,0,none⟩)],.slice a σ.fs.length c,.int .u64 sq,.int .i64 0])∧LedM w' G M ps σ.ls∧PB w' w.heap.size gb σ.l N' vb∧
  aBk w' w.heap.size 241 5 (.slice a σ.fs.length c) σ.fs.length (aCi x.ow x.ow σ.fs)∧w.heap.size≤G∧w.heap.size≤M∧Below w.heap.size w w')
theorem aSf{ps:List Int}{ls:List Ln}{l:List Of}{N:Int}{x:Of}{er:Int}(h:aIf ps x=er)(he:er≠0):(aBv ps ls l N x.ow x.sl x.bu x.lf x.nu x.de).1=er:=by
 unfold aIf at h;unfold aBv
 by_cases h1:x.may
 ·have h1':(Of.mk 0 x.ow x.sl x.bu x.lf x.nu x.de).may:=h1;rw[if_neg (fun q=>q h1)]at h;rw[if_neg (fun q=>q h1')]
  by_cases h2:x.ow∉ps
  ·rw[if_pos h2]at h ⊢;exact h
  rw[if_neg h2]at h;exact absurd h.symm he
 have h1':¬(Of.mk 0 x.ow x.sl x.bu x.lf x.nu x.de).may:=h1;rw[if_pos h1]at h;rw[if_pos h1'];exact h
theorem aSg{ps:List Int}{ls:List Ln}{l:List Of}{N:Int}{x:Of}(h:aIf ps x=0):x.may∧aBv ps ls l N x.ow x.sl x.bu x.lf x.nu x.de=aHz N x.ow x.sl x.bu x.nu x.de (aB5 ps x.ow x.sl x.bu x.nu x.de 64 ⟨ls,l,[],x.lf⟩):=by
 unfold aIf at h;unfold aBv
 by_cases h1:x.may
 ·have h1':(Of.mk 0 x.ow x.sl x.bu x.lf x.nu x.de).may:=h1;rw[if_neg (fun q=>q h1)]at h;rw[if_neg (fun q=>q h1')]
  by_cases h2:x.ow∉ps
  ·rw[if_pos h2]at h;exact absurd h zX
  rw[if_neg h2];exact⟨h1,rfl⟩
 rw[if_pos h1]at h;exact absurd h zX
theorem pplc_any(HMy:aCk)(HD:aD4)(HCp:aDx){w:World}{base G M gb:Nat}{ps:List Int}{ls:List Ln}{l:List Of}{N:Int}{vb:Value}(hL:LedM w G M ps ls)(hI:LInv ps ls)(hP:PB w base gb l N vb)(hJ:BInv l N)(x:Of)(hx:x.Fits):
  Calls Tryz.prog 156 #[.agg #[.pointer (some ⟨G,0,none⟩),.pointer (some ⟨gb,0,none⟩)],.agg #[.int .u64 x.se,.int .u8 x.ow,.int .u8 x.sl,.int .u8 x.bu,.int .i64 x.lf,.int .i64 x.nu,.int .i64 x.de]] w (PPlc w ps ls l N x):=by
 have b1:=(Below.refl w.heap.size w).alloc yL (.cells #[.pointer (some ⟨G,0,none⟩),.pointer (some ⟨gb,0,none⟩)] 80);have b2:=b1.alloc b1.size (.cells #[.int .u64 x.se,.int .u8 x.ow,.int .u8 x.sl,.int .u8 x.bu,.int .i64 x.lf,.int .i64 x.nu,.int .i64 x.de] 75);have b3:=b2.alloc b2.size (.cells #[.pointer none,.pointer none] 80);have b4:=b3.alloc b3.size (.cells #[.int .u64 x.se,.int .u8 x.ow,.int .u8 x.sl,.int .u8 x.bu,.int .i64 x.lf,.int .i64 x.nu,.int .i64 x.de] 294);have KH:=yH ((((Blk.new w #[.pointer (some ⟨G,0,none⟩),.pointer (some ⟨gb,0,none⟩)] 80).alloc (.cells #[.int .u64 x.se,.int .u8 x.ow,.int .u8 x.sl,.int .u8 x.bu,.int .i64 x.lf,.int .i64 x.nu,.int .i64 x.de] 75)).alloc (.cells #[.pointer none,.pointer none] 80)).alloc (.cells #[.int .u64 x.se,.int .u8 x.ow,.int .u8 x.sl,.int .u8 x.bu,.int .i64 x.lf,.int .i64 x.nu,.int .i64 x.de] 294));have KR:=yH ((pAB ((w.alloc (.cells #[.pointer (some ⟨G,0,none⟩),.pointer (some ⟨gb,0,none⟩)] 80)).alloc (.cells #[.int .u64 x.se,.int .u8 x.ow,.int .u8 x.sl,.int .u8 x.bu,.int .i64 x.lf,.int .i64 x.nu,.int .i64 x.de] 75)) #[.pointer none,.pointer none] 80 (g:=w.heap.size+2) zV).alloc (.cells #[.int .u64 x.se,.int .u8 x.ow,.int .u8 x.sl,.int .u8 x.bu,.int .i64 x.lf,.int .i64 x.nu,.int .i64 x.de] 294));have KC:=yH (pAB (((w.alloc (.cells #[.pointer (some ⟨G,0,none⟩),.pointer (some ⟨gb,0,none⟩)] 80)).alloc (.cells #[.int .u64 x.se,.int .u8 x.ow,.int .u8 x.sl,.int .u8 x.bu,.int .i64 x.lf,.int .i64 x.nu,.int .i64 x.de] 75)).alloc (.cells #[.pointer none,.pointer none] 80)) #[.int .u64 x.se,.int .u8 x.ow,.int .u8 x.sl,.int .u8 x.bu,.int .i64 x.lf,.int .i64 x.nu,.int .i64 x.de] 294 (g:=w.heap.size+3) zV);have B:=yH b4;have CW:=yH (cwrong_any HD (hL.below b4) hI (hP.below b4) hJ x hx);have HL:=yH (hL.below b4);have HP:=yH (hP.below b4);have II:=yH hI;have JJ:=yH hJ;have HX:=yH hx;have HSZ:Hid (((((w.alloc (.cells #[.pointer (some ⟨G,0,none⟩),.pointer (some ⟨gb,0,none⟩)] 80)).alloc (.cells #[.int .u64 x.se,.int .u8 x.ow,.int .u8 x.sl,.int .u8 x.bu,.int .i64 x.lf,.int .i64 x.nu,.int .i64 x.de] 75)).alloc (.cells #[.pointer none,.pointer none] 80)).alloc (.cells #[.int .u64 x.se,.int .u8 x.ow,.int .u8 x.sl,.int .u8 x.bu,.int .i64 x.lf,.int .i64 x.nu,.int .i64 x.de] 294)).heap.size=w.heap.size+4):=yH zV;obtain⟨R,hR⟩:∃R,aIf ps x=R:=⟨_,rfl⟩;rw[hR]at CW;have HR:=yH hR;clear b1 b2 b3 b4 hL hI hP hJ hx hR;generalize hW:((((w.alloc (.cells #[.pointer (some ⟨G,0,none⟩),.pointer (some ⟨gb,0,none⟩)] 80)).alloc (.cells #[.int .u64 x.se,.int .u8 x.ow,.int .u8 x.sl,.int .u8 x.bu,.int .i64 x.lf,.int .i64 x.nu,.int .i64 x.de] 75)).alloc (.cells #[.pointer none,.pointer none] 80)).alloc (.cells #[.int .u64 x.se,.int .u8 x.ow,.int .u8 x.sl,.int .u8 x.bu,.int .i64 x.lf,.int .i64 x.nu,.int .i64 x.de] 294))=W at *;have HW:=yH hW;clear hW;have h0:=KH.o.cell 0;have h1:=KH.o.cell 1;have c0:=KC.o.cell 0;have c1:=KC.o.cell 1;have c2:=KC.o.cell 2;have c3:=KC.o.cell 3;have c4:=KC.o.cell 4;have c5:=KC.o.cell 5;have c6:=KC.o.cell 6;simp at h0 h1 c0 c1 c2 c3 c4 c5 c6;go_enter Tryz.func156,Tryz.ntmps156
 go_upto_region 2 with fail
 rw[HW.o];go_wp2_with fail;refine CW.o.mono ?_;rintro e w1 ⟨rfl,b1⟩;have KH1:=yB KH b1;have KR1:=yB KR b1;have KC1:=yB KC b1;have L1:=yH (HL.o.below b1);have P1:=yH (HP.o.below b1);have B1:=yT B b1;have SZ1:=yH (show w.heap.size+4≤w1.heap.size by have:=HSZ.o;have:=b1.size;omega);clear b1 h0 h1 c0 c1 c2 c3 c4 c5 c6 KH KR KC B CW HL HP
 by_cases hz:R=0
 rotate_left
 ·have q0:(R != 0)=true:=wP
  have NO:=yH (aSf (ls:=ls) (l:=l) (N:=N) HR.o hz);have HZ:=yH hz;clear hz KH1 KC1 L1 P1;have r0:=KR1.o.cell 0;have r1:=KR1.o.cell 1;simp at r0 r1;go_wp2_with (refine aAa rfl 80 (.tmp 4) (.tmp 15) rfl (w.heap.size+2) #[.pointer none,.pointer none] rfl rfl 80 _ KR1.o.out zW rfl zK ?_);refine bodyPost_ret (v:=.tuple #[.agg #[.pointer none,.pointer none],.slice none 0 0,.int .u64 0,.int .i64 R]) (aBq rfl _ _ (w.heap.size+2) 80 #[.pointer none,.pointer none] _ _ _ _ rfl (setRow_heap _ (w.heap.size+2) _ _ _ (0,0) KR1.o.out) Tryz.underlying80 rfl zW rfl rfl rfl) rfl ?_;exact .inl ⟨R,HZ.o,NO.o,rfl,below_setRow B1.o zQ _⟩
 subst hz;obtain⟨hmay,heq⟩:=aSg (ls:=ls) (l:=l) (N:=N) HR.o;have MAY:=yH hmay;have EQ:=yH heq;clear hmay heq;have CC:=yH (HCp L1.o II.o P1.o JJ.o);have h0:=KH1.o.cell 0;have h1:=KH1.o.cell 1;simp at h0 h1;go_wp2_with fail;refine CC.o.mono ?_;rintro e w2 ⟨G1,M1,gb1,vb1,rfl,hL1,hP1,hg1,hm1,b2⟩;have GE:=yH (show w1.heap.size≤G1∧w1.heap.size≤M1∧w.heap.size+4≤w1.heap.size∧w1.heap.size≤w2.heap.size∧w1.heap.size≤gb1 from⟨hg1,hm1,SZ1.o,b2.size,hP1.ge⟩);have KR2:=yB KR1 b2;have KC2:=yB KC1 b2;have B2:=yT B1 b2;have L2:=yH hL1;have P2:=yH hP1;clear hL1 hP1 hg1 hm1 b2 h0 h1 CC KH1 L1 P1 KR1 KC1 B1 SZ1
 go_upto_region 6 with(refine aAa rfl 80 (.tmp 4) (.tmp 18) rfl (w.heap.size+2) #[.pointer (some ⟨G1,0,none⟩),.pointer (some ⟨gb1,0,none⟩)] rfl rfl 80 _ KR2.o.out zW rfl zK ?_)
 have kA:=aAc (w:=w2) (w.heap.size+2) #[.pointer (some ⟨G1,0,none⟩),.pointer (some ⟨gb1,0,none⟩)];have KR3:=yH (show Blk (w2.setRow (w.heap.size+2) #[.pointer (some ⟨G1,0,none⟩),.pointer (some ⟨gb1,0,none⟩)]) (w.heap.size+2) #[.pointer (some ⟨G1,0,none⟩),.pointer (some ⟨gb1,0,none⟩)] 80 from setRow_heap _ (w.heap.size+2) _ _ _ (0,0) KR2.o.out);have KC3:=yH (KC2.o.keep kA zQ);have L3:=yH (L2.o.keep kA zG zG);have P3:=yH (P2.o.keep kA zG (fun b hb e=>by have h1:=(P2.o.lt (.inr hb)).1;have:=GE.o;omega));have B3:=yH (below_setRow B2.o (by omega:w.heap.size≤w.heap.size+2) #[.pointer (some ⟨G1,0,none⟩),.pointer (some ⟨gb1,0,none⟩)]);have HS3:Hid ((w2.setRow (w.heap.size+2) #[.pointer (some ⟨G1,0,none⟩),.pointer (some ⟨gb1,0,none⟩)]).heap.size=w2.heap.size):=yH (by simp[World.setRow]);generalize hW3:w2.setRow (w.heap.size+2) #[.pointer (some ⟨G1,0,none⟩),.pointer (some ⟨gb1,0,none⟩)]=W3 at *;clear hW3 kA KR2 KC2 L2 P2 B2;have r0:=KR3.o.cell 0;have r1:=KR3.o.cell 1;simp at r0 r1;have CF:=yH (cfill_any HMy HD (base:=w1.heap.size) (ch:=w.heap.size+3) L3.o II.o P3.o JJ.o zG zG (uQ GE.o HS3.o) x HX.o MAY.o.2.2.2.2.2 MAY.o.2.2.2.2.1 KC3.o zG);go_wp2_with fail;refine CF.o.mono ?_;rintro e wf hpf;clear r0 r1 CF;rcases hpf with⟨her,rfl,kf⟩|⟨vb3,a,c,σ,heq,rfl,hC,hL,hP,hR,kf⟩
 ·have NO:Hid ((aBv ps ls l N x.ow x.sl x.bu x.lf x.nu x.de).1=13):=yH (by rw[EQ.o];unfold aHz;rw[if_pos (by rw[her];decide)];exact her);have KRf:=yH (KR3.o.keep kf zG);have Bf:=yH (B3.o.trans (kf.below B3.o.size (fun k hk h=>zG)));clear her kf KR3 KC3 L3 P3 B3;have r0:=KRf.o.cell 0;have r1:=KRf.o.cell 1;simp at r0 r1;go_wp2_with (refine aAa rfl 80 (.tmp 4) (.tmp 26) rfl (w.heap.size+2) #[.pointer none,.pointer none] rfl rfl 80 _ KRf.o.out zW rfl zK ?_);refine bodyPost_ret (v:=.tuple #[.agg #[.pointer none,.pointer none],.slice none 0 0,.int .u64 0,.int .i64 13]) (aBq rfl _ _ (w.heap.size+2) 80 #[.pointer none,.pointer none] _ _ _ _ rfl (setRow_heap _ (w.heap.size+2) _ _ _ (0,0) KRf.o.out) Tryz.underlying80 rfl zW rfl rfl rfl) rfl ?_;exact .inl ⟨13,zX,NO.o,rfl,below_setRow Bf.o zQ _⟩
 have KRf:=yH (KR3.o.keep kf zG);have Bf:=yH (B3.o.trans (kf.below B3.o.size (fun k hk h=>zG)));have KCf:=yH hC;have Lf:=yH hL;have Pf:=yH hP;have Rf:=yH hR;have HQ:=yH heq;have SF:=yH (show w1.heap.size≤W3.heap.size by have:=GE.o;have:=HS3.o;omega);have hinv:=aE6.ends (ow:=x.ow) (sl:=x.sl) (bu:=x.bu) (nu:=x.nu) (de:=x.de) 64 (aE6.start II.o JJ.o (ow:=x.ow) (sl:=x.sl) (bu:=x.bu) (nu:=x.nu) (de:=x.de) (n0:=x.lf) (uV MAY.o.2.2.2.2.1));rw[heq]at hinv;dsimp only at hinv;have IV:=yH hinv;have hnn:=hinv.nn;have hsum:=hinv.sum;have hgi:=hinv.gi_nn;have hbd:=MAY.o.2.2.2.2.1;have SN:=yH (show 0≤σ.n∧σ.n≤1099511627776 by omega);clear hC hL hP hR heq kf KR3 KC3 L3 P3 B3 hinv hnn hsum hgi hbd;obtain⟨sn,hsn⟩:∃sn,σ.n=sn:=⟨_,rfl⟩;have HSN:=yH hsn;rw[hsn]at KCf SN;clear hsn;have c0:=KCf.o.cell 0;have c1:=KCf.o.cell 1;have c2:=KCf.o.cell 2;have c3:=KCf.o.cell 3;have c4:=KCf.o.cell 4;have c5:=KCf.o.cell 5;have c6:=KCf.o.cell 6;have r0:=KRf.o.cell 0;have r1:=KRf.o.cell 1;simp at c0 c1 c2 c3 c4 c5 c6 r0 r1
 by_cases hn1:sn<1
 ·have CN:=yH (crest_none ⟨x.se,x.ow,x.sl,x.bu,sn,x.nu,x.de⟩ hn1 (some ⟨gb1,0,none⟩) wf);dsimp only at CN;have YES:Hid (aBv ps ls l N x.ow x.sl x.bu x.lf x.nu x.de=(0,σ,N,0)):=yH (by rw[EQ.o,HQ.o];unfold aHz;rw[if_neg zV,if_pos (by show σ.n≤0;rw[HSN.o];omega)]);clear hn1;go_wp2_with fail;refine CN.o.mono ?_;rintro e WE ⟨rfl,be⟩;have KRe:=yB KRf be;have Be:=yT Bf be;have Le:=yH (Lf.o.below be);have Pe:=yH (Pf.o.below be);have Re:=yH (Rf.o.below be);clear be c0 c1 c2 c3 c4 c5 c6 r0 r1 CN KRf KCf Bf Lf Pf Rf;have sf:=SF.o;have r0:=KRe.o.cell 0;have r1:=KRe.o.cell 1;simp at r0 r1;go_wp2_with (refine aAa rfl 80 (.tmp 4) (.tmp 39) rfl (w.heap.size+2) #[.pointer (some ⟨G1,0,none⟩),.pointer (some ⟨gb1,0,none⟩)] rfl rfl 80 _ KRe.o.out zW rfl zK ?_);refine bodyPost_ret (v:=.tuple #[.agg #[.pointer (some ⟨G1,0,none⟩),.pointer (some ⟨gb1,0,none⟩)],_,.int .u64 0,.int .i64 0]) (aBq rfl _ _ (w.heap.size+2) 80 #[.pointer (some ⟨G1,0,none⟩),.pointer (some ⟨gb1,0,none⟩)] _ _ _ _ rfl (setRow_heap _ (w.heap.size+2) _ _ _ (0,0) KRe.o.out) Tryz.underlying80 rfl zW rfl rfl rfl) rfl ?_;have kk:=aAc (w:=WE) (w.heap.size+2) #[.pointer (some ⟨G1,0,none⟩),.pointer (some ⟨gb1,0,none⟩)];have ge:=GE.o;refine .inr ⟨G1,M1,gb1,_,a,c,_,N,_,YES.o,rfl,Le.o.keep kk zQ zQ,PB.down12 (Pe.o.keep kk (uV Pe.o.ge) (fun b hb e=>by have h1:=(Pe.o.lt (.inr hb)).1;omega)) zQ,aBk.base (Re.o.keep kk (fun b hb e=>by have h1:=(Re.o.type hb).1;omega)) zQ,zQ,zQ,below_setRow Be.o zQ _⟩
 have CR:=yH (crest_any Pf.o IV.o.binv ⟨x.se,x.ow,x.sl,x.bu,sn,x.nu,x.de⟩ ⟨HX.o.se,HX.o.ow,HX.o.sl,HX.o.bu,⟨by have:=SN.o;show _≤sn;omega,by have:=SN.o;show sn≤_;omega⟩,HX.o.nu,HX.o.de⟩ hn1);dsimp only at CR;obtain⟨pe,hpe⟩:∃pe,aC6 σ.l ⟨N,x.ow,x.sl,x.bu,sn,x.nu,x.de⟩=pe:=⟨_,rfl⟩;obtain⟨pn,hpn⟩:∃pn,aFw σ.l ⟨N,x.ow,x.sl,x.bu,sn,x.nu,x.de⟩=pn:=⟨_,rfl⟩
 have END:Hid (aBv ps ls l N x.ow x.sl x.bu x.lf x.nu x.de=(pe,⟨σ.ls,aFi σ.l ⟨N,x.ow,x.sl,x.bu,sn,x.nu,x.de⟩,σ.fs,sn⟩,aE5 σ.l ⟨N,x.ow,x.sl,x.bu,sn,x.nu,x.de⟩,pn)):=yH (by
  rw[EQ.o,HQ.o];unfold aHz;rw[if_neg zV,if_neg (by show ¬σ.n≤0;rw[HSN.o];omega)];simp only[HSN.o,hpe,hpn])
 rw[hpe,hpn]at CR;clear hpe hpn hn1;go_wp2_with fail;refine CR.o.mono ?_;rintro e WE ⟨rfl,vl',hP',ke,_⟩;have KRe:=yH (KRf.o.keep ke (fun h=>by have h1:=(Pf.o.lt h).1;have:=GE.o;omega));have Be:=yH (Bf.o.trans (ke.below Bf.o.size (fun k hk h=>by have h1:=(Pf.o.lt h).1;have:=GE.o;omega)));have AP:=(Pf.o.ne_map Lf.o).2;have Le:=yH (Lf.o.keep ke AP.1 AP.2);have Pe:=yH hP'
 have Re:=yH (Rf.o.keep ke (fun b hb h=>by
  obtain⟨_,_,cu,hcu⟩:=Rf.o.type hb;rcases h with h|h
  ·subst h;exact absurd (Pf.o.blk.out.symm.trans hcu) zV
  obtain⟨_,_,c2,k2⟩:=aAf Pf.o.row h;exact absurd (k2.symm.trans hcu) zV))
 clear hP' ke AP c0 c1 c2 c3 c4 c5 c6 r0 r1 CR KRf KCf Bf Lf Pf Rf
 by_cases hz:pe=0
 rotate_left
 ·have q2:(pe != 0)=true:=wP
  have HZ:=yH hz;clear hz;have r0:=KRe.o.cell 0;have r1:=KRe.o.cell 1;simp at r0 r1;go_wp2_with (refine aAa rfl 80 (.tmp 4) (.tmp 37) rfl (w.heap.size+2) #[.pointer none,.pointer none] rfl rfl 80 _ KRe.o.out zW rfl zK ?_);refine bodyPost_ret (v:=.tuple #[.agg #[.pointer none,.pointer none],.slice none 0 0,.int .u64 0,.int .i64 pe]) (aBq rfl _ _ (w.heap.size+2) 80 #[.pointer none,.pointer none] _ _ _ _ rfl (setRow_heap _ (w.heap.size+2) _ _ _ (0,0) KRe.o.out) Tryz.underlying80 rfl zW rfl rfl rfl) rfl ?_;exact .inl ⟨pe,HZ.o,by rw[END.o],rfl,below_setRow Be.o zQ _⟩
 subst hz;have sf:=SF.o;have r0:=KRe.o.cell 0;have r1:=KRe.o.cell 1;simp at r0 r1;go_wp2_with (refine aAa rfl 80 (.tmp 4) (.tmp 39) rfl (w.heap.size+2) #[.pointer (some ⟨G1,0,none⟩),.pointer (some ⟨gb1,0,none⟩)] rfl rfl 80 _ KRe.o.out zW rfl zK ?_);refine bodyPost_ret (v:=.tuple #[.agg #[.pointer (some ⟨G1,0,none⟩),.pointer (some ⟨gb1,0,none⟩)],_,.int .u64 pn,.int .i64 0]) (aBq rfl _ _ (w.heap.size+2) 80 #[.pointer (some ⟨G1,0,none⟩),.pointer (some ⟨gb1,0,none⟩)] _ _ _ _ rfl (setRow_heap _ (w.heap.size+2) _ _ _ (0,0) KRe.o.out) Tryz.underlying80 rfl zW rfl rfl rfl) rfl ?_;have kk:=aAc (w:=WE) (w.heap.size+2) #[.pointer (some ⟨G1,0,none⟩),.pointer (some ⟨gb1,0,none⟩)];have ge:=GE.o;refine .inr ⟨G1,M1,gb1,_,a,c,_,_,_,END.o,rfl,Le.o.keep kk zQ zQ,PB.down12 (Pe.o.keep kk (uV Pe.o.ge) (fun b hb e=>by have h1:=(Pe.o.lt (.inr hb)).1;omega)) zQ,aBk.base (Re.o.keep kk (fun b hb e=>by have h1:=(Re.o.type hb).1;omega)) zQ,zQ,zQ,below_setRow Be.o zQ _⟩
theorem aGp(x:Int)(w:World):Calls Tryz.prog 267 #[.int .u8 x] w fun e w'=>e=.returned (.bool (decide (1≤x∧x≤16)))∧w=w':=by
 by_cases h1:1≤x
 ·have d1:decide (1≤x)=true:=zR
  by_cases h2:x≤16
  ·have d2:decide (x≤16)=true:=zF
   rw[decide_eq_true (⟨h1,h2⟩:1≤x∧x≤16)];clear h1 h2;go_enter Tryz.func267,Tryz.ntmps267;go_wp2_with fail;go_ret;exact⟨rfl,rfl⟩
  have d2:decide (x≤16)=false:=zF
  rw[decide_eq_false (fun h:1≤x∧x≤16=>h2 h.2)];clear h1 h2;go_enter Tryz.func267,Tryz.ntmps267;go_wp2_with fail;go_ret;exact⟨rfl,rfl⟩
 have d1:decide (1≤x)=false:=zR
 rw[decide_eq_false (fun h:1≤x∧x≤16=>h1 h.1)];clear h1;go_enter Tryz.func267,Tryz.ntmps267;go_wp2_with fail;go_ret;exact⟨rfl,rfl⟩
theorem aD7(x:Int)(w:World):Calls Tryz.prog 268 #[.int .u8 x] w fun e w'=>e=.returned (.bool (decide (1≤x∧x≤8)))∧w=w':=by
 by_cases h1:1≤x
 ·have d1:decide (1≤x)=true:=zR
  by_cases h2:x≤8
  ·have d2:decide (x≤8)=true:=zF
   rw[decide_eq_true (⟨h1,h2⟩:1≤x∧x≤8)];clear h1 h2;go_enter Tryz.func268,Tryz.ntmps268;go_wp2_with fail;go_ret;exact⟨rfl,rfl⟩
  have d2:decide (x≤8)=false:=zF
  rw[decide_eq_false (fun h:1≤x∧x≤8=>h2 h.2)];clear h1 h2;go_enter Tryz.func268,Tryz.ntmps268;go_wp2_with fail;go_ret;exact⟨rfl,rfl⟩
 have d1:decide (1≤x)=false:=zR
 rw[decide_eq_false (fun h:1≤x∧x≤8=>h1 h.1)];clear h1;go_enter Tryz.func268,Tryz.ntmps268;go_wp2_with fail;go_ret;exact⟨rfl,rfl⟩
theorem aFl(x:Int)(w:World):Calls Tryz.prog 269 #[.int .i64 x] w fun e w'=>e=.returned (.bool (decide (1≤x∧x≤1099511627776)))∧w=w':=by
 by_cases h1:1≤x
 ·have d1:decide (1≤x)=true:=zR
  by_cases h2:x≤1099511627776
  ·have d2:decide (x≤1099511627776)=true:=zF
   rw[decide_eq_true (⟨h1,h2⟩:1≤x∧x≤1099511627776)];clear h1 h2;go_enter Tryz.func269,Tryz.ntmps269;go_wp2_with fail;go_ret;exact⟨rfl,rfl⟩
  have d2:decide (x≤1099511627776)=false:=zF
  rw[decide_eq_false (fun h:1≤x∧x≤1099511627776=>h2 h.2)];clear h1 h2;go_enter Tryz.func269,Tryz.ntmps269;go_wp2_with fail;go_ret;exact⟨rfl,rfl⟩
 have d1:decide (1≤x)=false:=zR
 rw[decide_eq_false (fun h:1≤x∧x≤1099511627776=>h1 h.1)];clear h1;go_enter Tryz.func269,Tryz.ntmps269;go_wp2_with fail;go_ret;exact⟨rfl,rfl⟩
theorem smay_any(fr pt get give n most:Int)(w:World):Calls Tryz.prog 233 #[.agg #[.int .u8 fr,.int .u8 pt,.int .u8 get,.int .u8 give,.int .i64 n,.int .i64 most]] w (yR w (.bool (decide (aD2 fr pt get give n most)))):=by
 have B:=yH ((Below.refl w.heap.size w).alloc yL (.cells #[.int .u8 fr,.int .u8 pt,.int .u8 get,.int .u8 give,.int .i64 n,.int .i64 most] 289));have K:=yH (Blk.new w #[.int .u8 fr,.int .u8 pt,.int .u8 get,.int .u8 give,.int .i64 n,.int .i64 most] 289);generalize hW:w.alloc (.cells #[.int .u8 fr,.int .u8 pt,.int .u8 get,.int .u8 give,.int .i64 n,.int .i64 most] 289)=W at *;have HW:=yH hW;clear hW;have c0:=K.o.cell 0;have c1:=K.o.cell 1;have c2:=K.o.cell 2;have c3:=K.o.cell 3;have c4:=K.o.cell 4;have c5:=K.o.cell 5;simp at c0 c1 c2 c3 c4 c5;clear K
 by_cases h0:¬(1≤fr∧fr≤16)
 ·have NO:decide (aD2 fr pt get give n most)=false:=decide_eq_false xZ;rw[NO];have C0:=yH (aGp fr W);rw[decide_eq_false h0]at C0;clear NO h0;go_enter Tryz.func233,Tryz.ntmps233
  go_upto_region 1 with fail
  rw[HW.o];go_wp2_with fail;refine C0.o.mono ?_;rintro e w' ⟨rfl,rfl⟩;go_wp2_with fail;go_ret;exact⟨rfl,B.o⟩
 have h0:=Decidable.not_not.1 h0;have C0:=yH (aGp fr W);rw[decide_eq_true h0]at C0
 by_cases h1:¬(1≤pt∧pt≤16)
 ·have NO:decide (aD2 fr pt get give n most)=false:=decide_eq_false xZ;rw[NO];have C1:=yH (aGp pt W);rw[decide_eq_false h1]at C1;clear NO h0 h1;go_enter Tryz.func233,Tryz.ntmps233
  go_upto_region 1 with fail
  rw[HW.o];go_wp2_with fail;refine C0.o.mono ?_;rintro e w' ⟨rfl,rfl⟩;go_wp2_with fail;refine C1.o.mono ?_;rintro e w' ⟨rfl,rfl⟩;go_wp2_with fail;go_ret;exact⟨rfl,B.o⟩
 have h1:=Decidable.not_not.1 h1;have C1:=yH (aGp pt W);rw[decide_eq_true h1]at C1
 by_cases h2:¬(1≤get∧get≤8)
 ·have NO:decide (aD2 fr pt get give n most)=false:=decide_eq_false xZ;rw[NO];have C2:=yH (aD7 get W);rw[decide_eq_false h2]at C2;clear NO h0 h1 h2;go_enter Tryz.func233,Tryz.ntmps233
  go_upto_region 1 with fail
  rw[HW.o];go_wp2_with fail;refine C0.o.mono ?_;rintro e w' ⟨rfl,rfl⟩;go_wp2_with fail;refine C1.o.mono ?_;rintro e w' ⟨rfl,rfl⟩;go_wp2_with fail;refine C2.o.mono ?_;rintro e w' ⟨rfl,rfl⟩;go_wp2_with fail;go_ret;exact⟨rfl,B.o⟩
 have h2:=Decidable.not_not.1 h2;have C2:=yH (aD7 get W);rw[decide_eq_true h2]at C2
 by_cases h3:¬(1≤give∧give≤8)
 ·have NO:decide (aD2 fr pt get give n most)=false:=decide_eq_false xZ;rw[NO];have C3:=yH (aD7 give W);rw[decide_eq_false h3]at C3;clear NO h0 h1 h2 h3;go_enter Tryz.func233,Tryz.ntmps233
  go_upto_region 1 with fail
  rw[HW.o];go_wp2_with fail;refine C0.o.mono ?_;rintro e w' ⟨rfl,rfl⟩;go_wp2_with fail;refine C1.o.mono ?_;rintro e w' ⟨rfl,rfl⟩;go_wp2_with fail;refine C2.o.mono ?_;rintro e w' ⟨rfl,rfl⟩;go_wp2_with fail;refine C3.o.mono ?_;rintro e w' ⟨rfl,rfl⟩;go_wp2_with fail;go_ret;exact⟨rfl,B.o⟩
 have h3:=Decidable.not_not.1 h3;have C3:=yH (aD7 give W);rw[decide_eq_true h3]at C3
 by_cases h4:¬(get≠give)
 ·have NO:decide (aD2 fr pt get give n most)=false:=decide_eq_false xZ;rw[NO];have q4:(get != give)=false:=v6 h4
  clear NO h0 h1 h2 h3 h4;go_enter Tryz.func233,Tryz.ntmps233
  go_upto_region 1 with fail
  rw[HW.o];go_wp2_with fail;refine C0.o.mono ?_;rintro e w' ⟨rfl,rfl⟩;go_wp2_with fail;refine C1.o.mono ?_;rintro e w' ⟨rfl,rfl⟩;go_wp2_with fail;refine C2.o.mono ?_;rintro e w' ⟨rfl,rfl⟩;go_wp2_with fail;refine C3.o.mono ?_;rintro e w' ⟨rfl,rfl⟩;go_wp2_with fail;go_ret;exact⟨rfl,B.o⟩
 have h4:=Decidable.not_not.1 h4;have q4:(get != give)=true:=v6 h4
 by_cases h5:¬(1≤n∧n≤1099511627776)
 ·have NO:decide (aD2 fr pt get give n most)=false:=decide_eq_false xZ;rw[NO];have C5:=yH (aFl n W);rw[decide_eq_false h5]at C5;clear NO h0 h1 h2 h3 h4 h5;go_enter Tryz.func233,Tryz.ntmps233
  go_upto_region 1 with fail
  rw[HW.o];go_wp2_with fail;refine C0.o.mono ?_;rintro e w' ⟨rfl,rfl⟩;go_wp2_with fail;refine C1.o.mono ?_;rintro e w' ⟨rfl,rfl⟩;go_wp2_with fail;refine C2.o.mono ?_;rintro e w' ⟨rfl,rfl⟩;go_wp2_with fail;refine C3.o.mono ?_;rintro e w' ⟨rfl,rfl⟩;go_wp2_with fail;refine C5.o.mono ?_;rintro e w' ⟨rfl,rfl⟩;go_wp2_with fail;go_ret;exact⟨rfl,B.o⟩
 have h5:=Decidable.not_not.1 h5;have C5:=yH (aFl n W);rw[decide_eq_true h5]at C5
 by_cases h6:¬(1≤most∧most≤1099511627776)
 ·have NO:decide (aD2 fr pt get give n most)=false:=decide_eq_false xZ;rw[NO];have C6:=yH (aFl most W);rw[decide_eq_false h6]at C6;clear NO h0 h1 h2 h3 h4 h5 h6;go_enter Tryz.func233,Tryz.ntmps233
  go_upto_region 1 with fail
  rw[HW.o];go_wp2_with fail;refine C0.o.mono ?_;rintro e w' ⟨rfl,rfl⟩;go_wp2_with fail;refine C1.o.mono ?_;rintro e w' ⟨rfl,rfl⟩;go_wp2_with fail;refine C2.o.mono ?_;rintro e w' ⟨rfl,rfl⟩;go_wp2_with fail;refine C3.o.mono ?_;rintro e w' ⟨rfl,rfl⟩;go_wp2_with fail;refine C5.o.mono ?_;rintro e w' ⟨rfl,rfl⟩;go_wp2_with fail;refine C6.o.mono ?_;rintro e w' ⟨rfl,rfl⟩;go_wp2_with fail;go_ret;exact⟨rfl,B.o⟩
 have h6:=Decidable.not_not.1 h6;have C6:=yH (aFl most W);rw[decide_eq_true h6]at C6;rw[decide_eq_true (show aD2 fr pt get give n most from⟨h0,h1,h2,h3,h4,h5,h6⟩)];clear h0 h1 h2 h3 h4 h5 h6;go_enter Tryz.func233,Tryz.ntmps233
 go_upto_region 1 with fail
 rw[HW.o];go_wp2_with fail;refine C0.o.mono ?_;rintro e w' ⟨rfl,rfl⟩;go_wp2_with fail;refine C1.o.mono ?_;rintro e w' ⟨rfl,rfl⟩;go_wp2_with fail;refine C2.o.mono ?_;rintro e w' ⟨rfl,rfl⟩;go_wp2_with fail;refine C3.o.mono ?_;rintro e w' ⟨rfl,rfl⟩;go_wp2_with fail;refine C5.o.mono ?_;rintro e w' ⟨rfl,rfl⟩;go_wp2_with fail;refine C6.o.mono ?_;rintro e w' ⟨rfl,rfl⟩;go_wp2_with fail;go_ret;exact⟨rfl,B.o⟩
theorem smade_of{w:World}{a b:Option Addr}{er:Int}(h:∀w',Below w.heap.size w w'→Calls Tryz.prog 235 #[.agg #[.pointer a,.pointer b],.int .u64 0,.int .u8 0,.int .u8 0,.int .i64 0] w' fun e w''=>e=.returned (.tuple #[aId,.int .i64 er])∧Below w'.heap.size w' w''):
  Calls Tryz.prog 232 #[.agg #[.pointer a,.pointer b]] w (yR w (.bool (er != 2))):=by
 have b0:=(Below.refl w.heap.size w).alloc yL (.cells #[.pointer a,.pointer b] 80);have K:=yH (Blk.new w #[.pointer a,.pointer b] 80);have B:=yH b0;have C:=yH (h _ b0);clear b0 h;obtain⟨q,hq⟩:∃q,(er != 2)=q:=⟨_,rfl⟩;rw[hq];unfold aId at C;generalize hW:w.alloc (.cells #[.pointer a,.pointer b] 80)=W at *;have HW:=yH hW;clear hW;have c0:=K.o.cell 0;have c1:=K.o.cell 1;simp at c0 c1;clear K;go_enter Tryz.func232,Tryz.ntmps232
 go_upto_region 1 with fail
 rw[HW.o];go_wp2_with fail;refine C.o.mono ?_;rintro e w1 ⟨rfl,b1⟩;have B1:=yH ((B.o.trans (b1.mono B.o.size)).alloc (Nat.le_trans B.o.size b1.size) (.cells #[.int .u64 0,.int .u8 0,.int .u8 0,.int .i64 0,.int .i64 0] 241));clear b1 c0 c1 C B;go_wp2_with fail;go_ret;exact⟨rfl,B1.o⟩
theorem smade_any(HD:aD4){w:World}{base G M gb:Nat}{ps:List Int}{ls:List Ln}{l:List Of}{N:Int}{vb:Value}(hL:LedM w G M ps ls)(hI:LInv ps ls)(hP:PB w base gb l N vb)(hJ:BInv l N):
  Calls Tryz.prog 232 #[.agg #[.pointer (some ⟨G,0,none⟩),.pointer (some ⟨gb,0,none⟩)]] w (yR w (.bool true)):=
 smade_of (er:=1) (fun w' b=>(aJ4 HD (hL.below b) hI (hP.below b) hJ 0 0 0 0 zQ wX wX yN).mono (by
  rintro e w'' (⟨_,h1,h2⟩|⟨h,_⟩)
  ·exact⟨h1,h2⟩
  exact absurd h.1 zQ))
def aHi(ps:List Int)(fr pt get give n most:Int):Int:=if ¬aD2 fr pt get give n most then 1 else if fr∉ps∨pt∉ps then 7 else 0
theorem aUj{w:World}{a b:Option Addr}(fr pt get give n most:Int)(h:∀w',Below w.heap.size w w'→Calls Tryz.prog 232 #[.agg #[.pointer a,.pointer b]] w' fun e w''=>e=.returned (.bool false)∧Below w'.heap.size w' w''):
  Calls Tryz.prog 197 #[.agg #[.int .u8 fr,.int .u8 pt,.int .u8 get,.int .u8 give,.int .i64 n,.int .i64 most],.agg #[.pointer a,.pointer b]] w (yR w (.int .i64 2)):=by
 have b0:=((Below.refl w.heap.size w).alloc yL (.cells #[.int .u8 fr,.int .u8 pt,.int .u8 get,.int .u8 give,.int .i64 n,.int .i64 most] 289));have b1:=b0.alloc b0.size (.cells #[.pointer a,.pointer b] 80);have K:=yH (pAB (w.alloc (.cells #[.int .u8 fr,.int .u8 pt,.int .u8 get,.int .u8 give,.int .i64 n,.int .i64 most] 289)) #[.pointer a,.pointer b] 80 (g:=w.heap.size+1) zV);have B:=yH b1;have C:=yH (h _ b1);clear b0 b1 h;generalize hW:(w.alloc (.cells #[.int .u8 fr,.int .u8 pt,.int .u8 get,.int .u8 give,.int .i64 n,.int .i64 most] 289)).alloc (.cells #[.pointer a,.pointer b] 80)=W at *;have HW:=yH hW;clear hW;have c0:=K.o.cell 0;have c1:=K.o.cell 1;simp at c0 c1;clear K;go_enter Tryz.func197,Tryz.ntmps197
 go_upto_region 1 with fail
 rw[HW.o];go_wp2_with fail;refine C.o.mono ?_;rintro e w1 ⟨rfl,b1⟩;have B1:=yT B b1;clear b1 c0 c1 C B;go_wp2_with fail;go_ret;exact⟨rfl,B1.o⟩
theorem swrong_any(HD:aD4){w:World}{base G M gb:Nat}{ps:List Int}{ls:List Ln}{l:List Of}{N:Int}{vb:Value}(hL:LedM w G M ps ls)(hI:LInv ps ls)(hP:PB w base gb l N vb)(hJ:BInv l N)(fr pt get give n most:Int):
  Calls Tryz.prog 197 #[.agg #[.int .u8 fr,.int .u8 pt,.int .u8 get,.int .u8 give,.int .i64 n,.int .i64 most],.agg #[.pointer (some ⟨G,0,none⟩),.pointer (some ⟨gb,0,none⟩)]] w (yR w (.int .i64 (aHi ps fr pt get give n most))):=by
 have b0:=((Below.refl w.heap.size w).alloc yL (.cells #[.int .u8 fr,.int .u8 pt,.int .u8 get,.int .u8 give,.int .i64 n,.int .i64 most] 289));have b1:=b0.alloc b0.size (.cells #[.pointer (some ⟨G,0,none⟩),.pointer (some ⟨gb,0,none⟩)] 80);have KS:=yH ((Blk.new w #[.int .u8 fr,.int .u8 pt,.int .u8 get,.int .u8 give,.int .i64 n,.int .i64 most] 289).alloc (.cells #[.pointer (some ⟨G,0,none⟩),.pointer (some ⟨gb,0,none⟩)] 80));have KH:=yH (pAB (w.alloc (.cells #[.int .u8 fr,.int .u8 pt,.int .u8 get,.int .u8 give,.int .i64 n,.int .i64 most] 289)) #[.pointer (some ⟨G,0,none⟩),.pointer (some ⟨gb,0,none⟩)] 80 (g:=w.heap.size+1) zV);have HL:=yH (hL.below b1);have C:=yH (smade_any HD (hL.below b1) hI (hP.below b1) hJ);have B:=yH b1;have HB:=yH hI.bd;obtain⟨R,hR⟩:∃R,aHi ps fr pt get give n most=R:=⟨_,rfl⟩;rw[hR];have HR:=yH hR;clear b0 b1 hL hI hP hJ hR;generalize hW:(w.alloc (.cells #[.int .u8 fr,.int .u8 pt,.int .u8 get,.int .u8 give,.int .i64 n,.int .i64 most] 289)).alloc (.cells #[.pointer (some ⟨G,0,none⟩),.pointer (some ⟨gb,0,none⟩)] 80)=W at *;have HW:=yH hW;clear hW;have c0:=KH.o.cell 0;have c1:=KH.o.cell 1;simp at c0 c1;go_enter Tryz.func197,Tryz.ntmps197
 go_upto_region 1 with fail
 rw[HW.o];go_wp2_with fail;refine C.o.mono ?_;rintro e w1 ⟨rfl,b1⟩;have HL1:=yH (HL.o.below b1);have KS1:=yB KS b1;have KH1:=yB KH b1;have B1:=yT B b1;clear b1 c0 c1 C B HL KS KH;have s0:=KS1.o.cell 0;have s1:=KS1.o.cell 1;have s2:=KS1.o.cell 2;have s3:=KS1.o.cell 3;have s4:=KS1.o.cell 4;have s5:=KS1.o.cell 5;simp at s0 s1 s2 s3 s4 s5;have CM:=yH (smay_any fr pt get give n most w1)
 by_cases hm:aD2 fr pt get give n most
 ·rw[decide_eq_true hm]at CM;have HMY:=yH hm;clear hm;go_wp2_with fail;refine CM.o.mono ?_;rintro e w2 ⟨rfl,b2⟩;have HL2:=yH (HL1.o.below b2);have KS2:=yB KS1 b2;have KH2:=yB KH1 b2;have B2:=yT B1 b2;clear b2 s0 s1 s2 s3 s4 s5 CM B1 HL1 KS1 KH1;have s0:=KS2.o.cell 0;have s1:=KS2.o.cell 1;have c0:=KH2.o.cell 0;have c1:=KH2.o.cell 1;simp at s0 s1 c0 c1;have CF:=yH (aF7 HL2.o.blk HB.o fr);have CT:=yH (aF7 HL2.o.blk HB.o pt)
  by_cases hf:fr∈ps
  ·rw[decide_eq_true hf]at CF
   by_cases ht:pt∈ps
   ·rw[decide_eq_true ht]at CT;have EE:Hid (R=0):=yH (by rw[←HR.o];unfold aHi;rw[if_neg (fun h=>h HMY.o),if_neg (fun h=>h.elim (fun h=>h hf) (fun h=>h ht))]);clear hf ht;go_wp2_with fail;refine CF.o.mono ?_;rintro e w3 ⟨rfl,rfl⟩;go_wp2_with fail;refine CT.o.mono ?_;rintro e w3 ⟨rfl,rfl⟩;go_wp2_with fail;go_ret;exact⟨wE,B2.o⟩
   rw[decide_eq_false ht]at CT;have EE:Hid (R=7):=yH (by rw[←HR.o];unfold aHi;rw[if_neg (fun h=>h HMY.o),if_pos (.inr ht)]);clear hf ht;go_wp2_with fail;refine CF.o.mono ?_;rintro e w3 ⟨rfl,rfl⟩;go_wp2_with fail;refine CT.o.mono ?_;rintro e w3 ⟨rfl,rfl⟩;go_wp2_with fail;go_ret;exact⟨wE,B2.o⟩
  rw[decide_eq_false hf]at CF;have EE:Hid (R=7):=yH (by rw[←HR.o];unfold aHi;rw[if_neg (fun h=>h HMY.o),if_pos (.inl hf)]);clear hf CT;go_wp2_with fail;refine CF.o.mono ?_;rintro e w3 ⟨rfl,rfl⟩;go_wp2_with fail;go_ret;exact⟨wE,B2.o⟩
 rw[decide_eq_false hm]at CM;have EE:Hid (R=1):=yH (by rw[←HR.o];unfold aHi;rw[if_pos hm]);clear hm;go_wp2_with fail;refine CM.o.mono ?_;rintro e w2 ⟨rfl,b2⟩;have B2:=yT B1 b2;clear b2 s0 s1 s2 s3 s4 s5 CM B1;go_wp2_with fail;go_ret;exact⟨wE,B2.o⟩
structure FstW(w:World)(ch cs cw cn base G M gb:Nat)(ps:List Int)(ls:List Ln)(l:List Of)(N:Int)(vb:Value)(fr pt get give n most want x:Int):Prop where
 h:Blk w ch #[.pointer (some ⟨G,0,none⟩),.pointer (some ⟨gb,0,none⟩)] 80
 s:Blk w cs #[.int .u8 fr,.int .u8 pt,.int .u8 get,.int .u8 give,.int .i64 n,.int .i64 most] 289
 wn:Blk w cw #[.int .i64 want] 2
 x:Blk w cn #[.int .i64 x] 2
 led:LedM w G M ps ls
 book:PB w base gb l N vb
 ne:¬ch=cn∧¬cs=cn∧¬cw=cn∧¬G=cn∧¬M=cn∧¬Foot gb vb cn
theorem FstW.keep{w w':World}{ch cs cw cn base G M gb:Nat}{ps:List Int}{ls:List Ln}{l:List Of}{N:Int}{vb:Value}{fr pt get give n most want:Int}{x y:Int}(h:FstW w ch cs cw cn base G M gb ps ls l N vb fr pt get give n most want x)(k:Keep (·=cn) w w')(hx:Blk w' cn #[.int .i64 y] 2):FstW w' ch cs cw cn base G M gb ps ls l N vb fr pt get give n most want y:=by
 obtain⟨h1,h2,h3,h4,h5,h6⟩:=h.ne;exact⟨h.h.keep k h1,h.s.keep k h2,h.wn.keep k h3,hx,h.led.keep k h4 h5,h.book.keep k (fun e=>h6 (.inl e.symm)) (fun b hb e=>h6 (.inr (by rw[←e];exact hb))),h.ne⟩
theorem FstW.below{w w':World}{ch cs cw cn base G M gb:Nat}{ps:List Int}{ls:List Ln}{l:List Of}{N:Int}{vb:Value}{fr pt get give n most want:Int}{x:Int}(h:FstW w ch cs cw cn base G M gb ps ls l N vb fr pt get give n most want x)(k:Below w.heap.size w w'):FstW w' ch cs cw cn base G M gb ps ls l N vb fr pt get give n most want x:=
 h.keep (pAD k) (h.x.below k h.x.lt)
theorem first1_any(HMy:aCk)(o:Of){w:World}{ch cs cw cn base G M gb:Nat}{ps:List Int}{ls:List Ln}{l:List Of}{N:Int}{vb:Value}{fr pt get give n most want:Int}{x:Int}(h:FstW w ch cs cw cn base G M gb ps ls l N vb fr pt get give n most want x)(hI:LInv ps ls)(hJ:BInv l N)(ht:In8 fr)(hp:In8 pt)(hw:In64 want)(hs:0≤o.se∧o.se≤18446744073709551615):
  Calls Tryz.prog 272 #[.agg #[.int .u64 o.se,.int .u8 o.ow,.int .u8 o.sl,.int .u8 o.bu,.int .i64 o.lf,.int .i64 o.nu,.int .i64 o.de],.pointer (some ⟨ch,0,none⟩),.pointer (some ⟨cs,0,none⟩),.pointer (some ⟨cw,0,none⟩),.pointer (some ⟨cn,0,none⟩)] w
   fun e w'=>e=.returned (.bool (decide (0<mayS ps ls l fr pt want 1099511627776 o.se)))∧FstW w' ch cs cw cn base G M gb ps ls l N vb fr pt get give n most want (mayS ps ls l fr pt want 1099511627776 o.se)∧Keep (·=cn) w w':=by
 have b0:=(Below.refl w.heap.size w).alloc yL (.cells #[.int .u64 o.se,.int .u8 o.ow,.int .u8 o.sl,.int .u8 o.bu,.int .i64 o.lf,.int .i64 o.nu,.int .i64 o.de] 75);have KO:=yH (Blk.new w #[.int .u64 o.se,.int .u8 o.ow,.int .u8 o.sl,.int .u8 o.bu,.int .i64 o.lf,.int .i64 o.nu,.int .i64 o.de] 75);have HF:=yH (h.below b0);have B0:=yH b0;have CM:=yH (aR1 HMy (h.led.below b0) hI (h.book.below b0) hJ o.se fr pt want 1099511627776 hs ht hp hw (by unfold In64;decide));obtain⟨k,hk⟩:∃k,mayS ps ls l fr pt want 1099511627776 o.se=k:=⟨_,rfl⟩;rw[hk]at CM ⊢;clear b0 h hI hJ ht hp hw hs hk;generalize hW:w.alloc (.cells #[.int .u64 o.se,.int .u8 o.ow,.int .u8 o.sl,.int .u8 o.bu,.int .i64 o.lf,.int .i64 o.nu,.int .i64 o.de] 75)=W at *;have HW:=yH hW;clear hW;have h0:=HF.o.h.cell 0;have h1:=HF.o.h.cell 1;have s0:=HF.o.s.cell 0;have s1:=HF.o.s.cell 1;have w0:=HF.o.wn.cell 0;have o0:=KO.o.cell 0;simp at h0 h1 s0 s1 w0 o0;go_enter Tryz.func272,Tryz.ntmps272
 go_upto_region 1 with fail
 rw[HW.o];go_wp2_with fail;refine CM.o.mono ?_;rintro e w1 ⟨rfl,b1⟩;have HF1:=yH (HF.o.below b1);have B1:=yT B0 b1;clear b1 h0 h1 s0 s1 w0 o0 HF KO CM B0;have x0:=HF1.o.x.cell 0;have fz:=HF1.o.x.frozen 0;have hst:=(HF1.o.x.set 0 (.int .i64 k));have c0:=hst.cell 0;simp at x0 c0;clear hst;go_wp2_with fail;go_ret;have kk:Keep (·=cn) w1 (w1.setCell ⟨cn,0,none⟩ (.int .i64 k)):=Keep.setCell (S:=(·=cn)) (Keep.refl _ _) (p:=⟨cn,0,none⟩) (.inl rfl) _;refine⟨rfl,HF1.o.keep kk (HF1.o.x.set 0 _),(pAD (S:=(·=cn)) B1.o).trans kk⟩
def IxfAt(W:World)(ch cs cw cn base G M gb:Nat)(ps:List Int)(ls:List Ln)(l:List Of)(N:Int)(vb:Value)(fr pt get give n most want:Int)(os:List Of)(i:Value)(wr:World):Prop:=
 ∃(k:Nat) (x:Int),k≤os.length∧i=.int .i64 k∧FstW wr ch cs cw cn base G M gb ps ls l N vb fr pt get give n most want x∧Keep (·=cn) W wr∧Hid (aA1 ps ls l fr pt want 1099511627776 os=aA1 ps ls l fr pt want 1099511627776 (os.drop k))
def IxfPost(W:World)(ch cs cw cn base G M gb:Nat)(ps:List Int)(ls:List Ln)(l:List Of)(N:Int)(vb:Value)(fr pt get give n most want:Int)(os:List Of)(e:Ending)(w':World):Prop:=
 (∃(k:Nat) (x:Int) (hk:k<os.length),e=.returned (.int .i64 k)∧FstW w' ch cs cw cn base G M gb ps ls l N vb fr pt get give n most want x∧Keep (·=cn) W w'∧aA1 ps ls l fr pt want 1099511627776 os=some (os[k].se,x))∨
 (∃x:Int,e=.returned (.int .i64 (-1))∧FstW w' ch cs cw cn base G M gb ps ls l N vb fr pt get give n most want x∧Keep (·=cn) W w'∧aA1 ps ls l fr pt want 1099511627776 os=none)
theorem aUk(HMy:aCk){w:World}{ch cs cw cn base b2 G M gb:Nat}{ps:List Int}{ls:List Ln}{l:List Of}{N:Int}{vb:Value}{fr pt get give n most want:Int}{x:Int}{os:List Of}{v:Value}(h:FstW w ch cs cw cn base G M gb ps ls l N vb fr pt get give n most want x)(hI:LInv ps ls)(hJ:BInv l N)(ht:In8 fr)(hp:In8 pt)(hw:In64 want)
  (hv:aBk w b2 75 7 v os.length (aAb os))(hs:∀o∈os,0≤o.se∧o.se≤18446744073709551615)(hne:∀b,v.ownBlock=some b→¬b=cn):
  Calls Tryz.prog 271 #[v,.func (.func 272) #[] #[.pointer (some ⟨ch,0,none⟩),.pointer (some ⟨cs,0,none⟩),.pointer (some ⟨cw,0,none⟩),.pointer (some ⟨cn,0,none⟩)]] w (IxfPost w ch cs cw cn base G M gb ps ls l N vb fr pt get give n most want os):=by
 obtain⟨ao,cap,rfl,hc1,hc2,hc3,hc4⟩:=hv.look;have HC:=yH hc4;have HNE:=yH hne;have HFw:=yH h;have CF:=yH (fun(o:Of) (w':World) (x:Int) (hs:0≤o.se∧o.se≤18446744073709551615) (q:FstW w' ch cs cw cn base G M gb ps ls l N vb fr pt get give n most want x)=>first1_any HMy o q hI hJ ht hp hw hs);have HS:=yH hs;unfold maxLen at hc2;clear hc3 hc4 hv h hI hJ ht hp hw hs hne;go_enter Tryz.func271,Tryz.ntmps271;go_wp2_with fail
 go_loopw [5,8] (fun _ i wr=>IxfAt w ch cs cw cn base G M gb ps ls l N vb fr pt get give n most want os i wr) (fun _ i _=>os.length - (intOf i).toNat)
 case atStart=>exact⟨0,x,Nat.zero_le _,rfl,HFw.o,Keep.refl _ _,yH rfl⟩
 obtain⟨k,x,hk,rfl,hF,hK,HE⟩:=hrel
 by_cases hkl:k<os.length
 ·have hki:(k:Int)<(os.length:Int):=zQ
  have hk0:(0:Int)≤(k:Int):=zQ
  obtain⟨b,rfl,hb1,hb2,hcell,_⟩:=HC.o zQ;have hbn:¬b=cn:=HNE.o b rfl;obtain⟨e0,e1,e2,e3,e4,e5,e6⟩:=aCw (w:=wr) (fun j hj=>by rw[hK.cell (p:=⟨b,j,none⟩) hb2 hbn];exact hcell j hj) hkl;obtain⟨m,hm⟩:∃m,mayS ps ls l fr pt want 1099511627776 os[k].se=m:=⟨_,rfl⟩;have C1:=yH (CF.o os[k] wr x (HS.o _ (List.getElem_mem _)) hF);rw[hm]at C1
  have HD:Hid (aA1 ps ls l fr pt want 1099511627776 (os.drop k)=if 0<m then some (os[k].se,m)else aA1 ps ls l fr pt want 1099511627776 (os.drop (k+1))):=yH (by
   rw[List.drop_eq_getElem_cons hkl];show(if 0<mayS ps ls l fr pt want 1099511627776 os[k].se then some (os[k].se,mayS ps ls l fr pt want 1099511627776 os[k].se)else _)=_;rw[hm])
  have HK:=yH hK;have HKL:=yH hkl;clear hcell hm hF hK;generalize ho:os[k]=o at *;have HO:=yH ho;clear ho hkl
  by_cases hq:0<m
  ·rw[decide_eq_true hq]at C1;rw[if_pos hq]at HD;clear hq;go_wp2_with fail;refine C1.o.mono ?_;rintro e w2 ⟨rfl,f2,k2⟩;have HF2:=yH f2;have HK2:=yH (HK.o.trans k2);clear f2 k2 e0 e1 e2 e3 e4 e5 e6 C1;go_wp2_with fail;go_ret;exact .inl ⟨k,m,HKL.o,rfl,HF2.o,HK2.o,by rw[HE.o,HD.o];exact congrArg (fun z:Of=>some (z.se,m)) HO.o.symm⟩
  rw[decide_eq_false hq]at C1;rw[if_neg hq]at HD;clear hq;go_wp2_with fail;refine C1.o.mono ?_;rintro e w2 ⟨rfl,f2,k2⟩;have HF2:=yH f2;have HK2:=yH (HK.o.trans k2);clear f2 k2 e0 e1 e2 e3 e4 e5 e6 C1;go_wp2_with fail;go_roundw
  case rel=>exact⟨k+1,m,xD,by go_num,HF2.o,HK2.o,yH (by rw[HE.o,HD.o])⟩
  case measure=>simp[intOf];omega
 have hkn:k=os.length:=zQ
 have HN:Hid (aA1 ps ls l fr pt want 1099511627776 (os.drop k)=none):=yH (by rw[hkn,List.drop_length];rfl);have HFl:=yH hF;have HK:=yH hK;clear hF hK;go_wp2_with fail;go_ret;exact .inr ⟨x,rfl,HFl.o,HK.o,by rw[HE.o,HN.o]⟩
theorem best_seqs{l:List Of}{N:Int}(hJ:BInv l N)(s b:Int):∀o∈aC5 l s b,0≤o.se∧o.se≤18446744073709551615:=fun o ho=>by
 have hm:=hJ.bd o (aJq hJ ho).1;have:=hJ.n2;omega
theorem pfirst_any(HMy:aCk){w:World}{base G M gb:Nat}{ps:List Int}{ls:List Ln}{l:List Of}{N:Int}{vb:Value}{fr pt get give n most want:Int}(hL:LedM w G M ps ls)(hI:LInv ps ls)(hP:PB w base gb l N vb)(hJ:BInv l N)(ht:In8 fr)(hp:In8 pt)(hg:In8 get)(hv:In8 give)(hw:In64 want):
  Calls Tryz.prog 234 #[.agg #[.int .u8 fr,.int .u8 pt,.int .u8 get,.int .u8 give,.int .i64 n,.int .i64 most],.agg #[.pointer (some ⟨G,0,none⟩),.pointer (some ⟨gb,0,none⟩)],.int .i64 want] w (yR w (.tuple #[.int .u64 ((aA1 ps ls l fr pt want 1099511627776 (aC5 l get give)).getD (0,0)).1,.int .i64 ((aA1 ps ls l fr pt want 1099511627776 (aC5 l get give)).getD (0,0)).2])):=by
 have hlt:=And.intro hL.blk.lt (And.intro hL.map.lt (fun b (hb:Foot gb vb b)=>(hP.lt hb).2));have b0:=(Below.refl w.heap.size w).alloc yL (.cells #[.int .u8 fr,.int .u8 pt,.int .u8 get,.int .u8 give,.int .i64 n,.int .i64 most] 289);have b1:=b0.alloc b0.size (.cells #[.pointer (some ⟨G,0,none⟩),.pointer (some ⟨gb,0,none⟩)] 80);have b2:=b1.alloc b1.size (.cells #[.int .i64 want] 2);have b3:=b2.alloc b2.size (.cells #[.int .i64 0] 2)
 have hF0:FstW ((((w.alloc (.cells #[.int .u8 fr,.int .u8 pt,.int .u8 get,.int .u8 give,.int .i64 n,.int .i64 most] 289)).alloc (.cells #[.pointer (some ⟨G,0,none⟩),.pointer (some ⟨gb,0,none⟩)] 80)).alloc (.cells #[.int .i64 want] 2)).alloc (.cells #[.int .i64 0] 2)) (w.heap.size+1) w.heap.size (w.heap.size+2) (w.heap.size+3) base G M gb ps ls l N vb fr pt get give n most want 0:=
  ⟨((pAB (w.alloc (.cells #[.int .u8 fr,.int .u8 pt,.int .u8 get,.int .u8 give,.int .i64 n,.int .i64 most] 289)) #[.pointer (some ⟨G,0,none⟩),.pointer (some ⟨gb,0,none⟩)] 80 (g:=w.heap.size+1) zV).alloc _).alloc _,(((Blk.new w #[.int .u8 fr,.int .u8 pt,.int .u8 get,.int .u8 give,.int .i64 n,.int .i64 most] 289).alloc _).alloc _).alloc _,(pAB ((w.alloc (.cells #[.int .u8 fr,.int .u8 pt,.int .u8 get,.int .u8 give,.int .i64 n,.int .i64 most] 289)).alloc (.cells #[.pointer (some ⟨G,0,none⟩),.pointer (some ⟨gb,0,none⟩)] 80)) #[.int .i64 want] 2 (g:=w.heap.size+2) zV).alloc _,pAB _ _ _ zV,hL.below b3,hP.below b3,
   by omega,zQ,zQ,zQ,zQ,fun hb=>uV (hlt.2.2 _ hb)⟩
 generalize hW:(((w.alloc (.cells #[.int .u8 fr,.int .u8 pt,.int .u8 get,.int .u8 give,.int .i64 n,.int .i64 most] 289)).alloc (.cells #[.pointer (some ⟨G,0,none⟩),.pointer (some ⟨gb,0,none⟩)] 80)).alloc (.cells #[.int .i64 want] 2)).alloc (.cells #[.int .i64 0] 2)=W at *;have HW:=yH hW;have HF:=yH hF0;have B:=yH b3;have CB:=yH (aSd (hP.below b3) hJ get give)
 have CI:=yH (fun(w':World) (x:Int) (b2:Nat) (v:Value) (q:FstW w' (w.heap.size+1) w.heap.size (w.heap.size+2) (w.heap.size+3) base G M gb ps ls l N vb fr pt get give n most want x) (hv:aBk w' b2 75 7 v (aC5 l get give).length (aAb (aC5 l get give))) (hne:∀b,v.ownBlock=some b→¬b=w.heap.size+3)=>
  aUk HMy q hI hJ ht hp hw hv (best_seqs hJ get give) hne)
 clear hlt b0 b1 b2 b3 hF0 hW hL hI hP hJ ht hp hg hv hw;obtain⟨os,hos⟩:∃os,aC5 l get give=os:=⟨_,rfl⟩;rw[hos]at CB CI ⊢;clear hos;obtain⟨R,hR⟩:∃R,(aA1 ps ls l fr pt want 1099511627776 os).getD (0,0)=R:=⟨_,rfl⟩;rw[hR];have HR:=yH hR;clear hR;have h0:=HF.o.h.cell 0;have h1:=HF.o.h.cell 1;have hl:=HF.o.h.lt;have s2:=HF.o.s.cell 2;have s3:=HF.o.s.cell 3;simp at h0 h1 s2 s3;go_enter Tryz.func234,Tryz.ntmps234
 go_upto_region 1 with fail
 rw[HW.o];go_wp2_with fail;refine CB.o.mono ?_;rintro e w1 ⟨v,rfl,hv,b1⟩;have HF1:=yH (HF.o.below b1);have HV:=yH hv;have B1:=yT B b1;have CX:=yH (CI.o w1 0 _ v HF1.o hv (fun b hb e=>by have:=(hv.type hb).1;have:=HF.o.x.lt;omega));have VNE:Hid (∀b,v.ownBlock=some b→¬b=w.heap.size+3):=yH (fun b hb e=>by have:=(hv.type hb).1;have:=HF.o.x.lt;omega);clear hv b1 h0 h1 hl s2 s3 HF B CB CI;go_wp2_with fail;refine CX.o.mono ?_;rintro e w2 (⟨k,x,hk,rfl,f2,k2,hfs⟩|⟨x,rfl,f2,k2,hfs⟩)
 ·have ER:Hid (R=(os[k].se,x)):=yH (by rw[←HR.o,hfs];rfl);have B2:=yH (B1.o.trans (k2.below (B:=w.heap.size) B1.o.size (fun j hj e=>zQ)));obtain⟨ao,cap,rfl,hc1,hc2,hc3,hc4⟩:=(HV.o.keep k2 VNE.o).look;obtain⟨b,rfl,hb1,hb2,hcell,_⟩:=hc4 zQ;obtain⟨e0,_⟩:=aCw (w:=w2) hcell hk;have HF2:=yH f2;have x0:=f2.x.cell 0;have fz:=f2.x.frozen 0;have hst:=(HF2.o.x.set 0 (.int .i64 x)).cell 0;simp at x0 hst;have q0:decide ((k:Int)<0)=false:=zV
  have q1:(0:Int)≤(k:Int)∧(k:Int)<(os.length:Int):=zQ
  obtain⟨s,hs⟩:∃s,os[k].se=s:=⟨_,rfl⟩;rw[hs]at e0 ER;clear hs f2 k2 hfs hcell hc3 hc4 HV CX;unfold maxLen at hc2;go_wp2_with fail
  go_region
  go_wp2_with fail;refine bodyPost_ret (v:=.tuple #[.int .u64 s,.int .i64 x]) (by simp[results,Tryz.results234,go_sem,hst]) rfl ?_;exact⟨by rw[ER.o],(B2.o.setCell zZ _).drew⟩
 have ER:Hid (R=(0,0)):=yH (by rw[←HR.o,hfs];rfl);have B2:=yH (B1.o.trans (k2.below (B:=w.heap.size) B1.o.size (fun j hj e=>zQ)));have x0:=f2.x.cell 0;have fz:=f2.x.frozen 0;have hst:=(f2.x.set 0 (.int .i64 0)).cell 0;simp at x0 hst;clear f2 k2 hfs HV CX;go_wp2_with fail;refine bodyPost_ret (v:=.tuple #[.int .u64 0,.int .i64 0]) (by simp[results,Tryz.results234,go_sem,hst]) rfl ?_;exact⟨by rw[ER.o],B2.o.setCell zZ _⟩
theorem info_flp:(Tryz.prog.info? 241).map (fun i=>(i.zero,i.size,i.bytes))=some (some (.agg #[.int .u64 0,.int .u8 0,.int .u8 0,.int .i64 0,.int .i64 0]),5,32):=zW
noncomputable def aNn(ps:List Int)(fr pt get give most:Int)(σ:SwS):Int×SwS:=
 if(aB8 ps fr pt get give 64 σ).1≠0 then aB8 ps fr pt get give 64 σ else if most<((aB8 ps fr pt get give 64 σ).2.fs.map Fl.gi).sum then(12,(aB8 ps fr pt get give 64 σ).2)else aB8 ps fr pt get give 64 σ
def FilAt(W:World)(base s1 G M gb:Nat)(ps:List Int)(ls0:List Ln)(l0:List Of)(N tk pt get give n0:Int)(av nv:Value)(wr:World):Prop:=
 ∃(σ:SwS) (vb:Value),nv=.int .i64 σ.n∧LedM wr G M ps σ.ls∧PB wr base gb σ.l N vb∧(∀b,vb.ownBlock=some b→b<s1∨W.heap.size≤b)∧wr.ownsRow W.heap.size 241 5 av σ.fs.length (aCi tk pt σ.fs)∧aD3 ps ls0 l0 N tk pt get give n0 σ∧σ.fs.length≤64∧
  Keep (fun k=>base≤k∧k<s1) W wr∧Hid (aB8 ps tk pt get give 64 ⟨ls0,l0,[],n0⟩=aB8 ps tk pt get give (64 - σ.fs.length) σ)
def PFil(w:World)(base G M gb:Nat)(ps:List Int)(ls:List Ln)(l:List Of)(N fr pt get give n most:Int)(e:Ending)(w':World):Prop:=
 (∃(er:Int) (a:Option Addr) (k c:Nat),er≠0∧(aNn ps fr pt get give most ⟨ls,l,[],n⟩).1=er∧e=.returned (.tuple #[.slice a k c,.int .i64 er])∧Below base w w')∨
 (∃(vb:Value) (a:Option Addr) (c:Nat) (σ:SwS),aNn ps fr pt get give most ⟨ls,l,[],n⟩=(0,σ)∧e=.returned (.tuple #[.slice a σ.fs.length c,.int .i64 0])∧LedM w' G M ps σ.ls∧PB w' base gb σ.l N vb∧aBk w' w.heap.size 241 5 (.slice a σ.fs.length c) σ.fs.length (aCi fr pt σ.fs)∧Below base w w')
theorem pfill_any(HMy:aCk)(HD:aD4){w:World}{base G M gb:Nat}{ps:List Int}{ls:List Ln}{l:List Of}{N:Int}{vb:Value}(hL:LedM w G M ps ls)(hI:LInv ps ls)(hP:PB w base gb l N vb)(hJ:BInv l N)(hG:base≤G)(hM:base≤M)(hb:base≤w.heap.size)
  (fr pt get give n most:Int)(hf:In8 fr)(ht:In8 pt)(hg:In8 get)(hv:In8 give)(hn:1≤n∧n≤1099511627776)(hm:1≤most∧most≤1099511627776):
  Calls Tryz.prog 198 #[.agg #[.int .u8 fr,.int .u8 pt,.int .u8 get,.int .u8 give,.int .i64 n,.int .i64 most],.agg #[.pointer (some ⟨G,0,none⟩),.pointer (some ⟨gb,0,none⟩)]] w (PFil w base G M gb ps ls l N fr pt get give n most):=by
 have b1:=(Below.refl w.heap.size w).alloc yL (.cells #[.int .u8 fr,.int .u8 pt,.int .u8 get,.int .u8 give,.int .i64 n,.int .i64 most] 289);have b2:=b1.alloc b1.size (.cells #[.pointer (some ⟨G,0,none⟩),.pointer (some ⟨gb,0,none⟩)] 80);have KS:=yH ((Blk.new w #[.int .u8 fr,.int .u8 pt,.int .u8 get,.int .u8 give,.int .i64 n,.int .i64 most] 289).alloc (.cells #[.pointer (some ⟨G,0,none⟩),.pointer (some ⟨gb,0,none⟩)] 80));have KH:=yH (pAB (w.alloc (.cells #[.int .u8 fr,.int .u8 pt,.int .u8 get,.int .u8 give,.int .i64 n,.int .i64 most] 289)) #[.pointer (some ⟨G,0,none⟩),.pointer (some ⟨gb,0,none⟩)] 80 (g:=w.heap.size+1) zV);have HL:=yH (hL.below b2);have HP:=yH (hP.below b2);have B:=yH b2;have GE:=yH (show base≤G∧base≤M∧base≤w.heap.size∧G<w.heap.size∧M<w.heap.size∧gb<w.heap.size∧base≤gb∧(∀b,vb.ownBlock=some b→b<w.heap.size)from⟨hG,hM,hb,hL.blk.lt,hL.map.lt,hP.blk.lt,hP.ge,fun b hb=>(hP.lt (.inr hb)).2⟩);have II:=yH hI;have JJ:=yH hJ;have HF:=yH hf;have HTo:=yH ht;have HGe:=yH hg;have HGi:=yH hv;have HN:=yH hn;have HWS:Hid (((w.alloc (.cells #[.int .u8 fr,.int .u8 pt,.int .u8 get,.int .u8 give,.int .i64 n,.int .i64 most] 289)).alloc (.cells #[.pointer (some ⟨G,0,none⟩),.pointer (some ⟨gb,0,none⟩)] 80)).heap.size=w.heap.size+2):=yH zV;clear b1 b2 hL hI hP hJ hG hM hb hf ht hg hv hn hm;generalize hW:(w.alloc (.cells #[.int .u8 fr,.int .u8 pt,.int .u8 get,.int .u8 give,.int .i64 n,.int .i64 most] 289)).alloc (.cells #[.pointer (some ⟨G,0,none⟩),.pointer (some ⟨gb,0,none⟩)] 80)=W at *;have HW:=yH hW;clear hW;have s4:=KS.o.cell 4;simp at s4;go_enter Tryz.func198,Tryz.ntmps198
 go_upto_region 1 with fail
 rw[HW.o];go_wp2_with fail
 go_loopw [4,6,7,8,9,10] (fun av nv _ _ _ _ wr=>FilAt W base w.heap.size G M gb ps ls l N fr pt get give n av nv wr) (fun _ nv _ _ _ _ _=>(intOf nv).toNat)
 case atStart=>exact⟨⟨ls,l,[],n⟩,vb,rfl,HL.o,HP.o,fun b hb=>.inl (GE.o.2.2.2.2.2.2.2 b hb),World.ownsRow_nil _ _ _ _,aD3.start II.o JJ.o,zV,Keep.refl _ _,yH rfl⟩
 obtain⟨σ,vb,rfl,hRL,hRB,hVB,hO,hS,hlen,hK,HE⟩:=hrel;have RL:=yH hRL;have RB:=yH hRB;have VB:=yH hVB;have OO:=yH hO;have SI:=yH hS;have KK:=yH hK;have KSr:=yH (KS.o.keep hK zQ);have KHr:=yH (KH.o.keep hK zQ);have BR:Hid (Below base w wr):=yH ((B.o.mono GE.o.2.2.1).trans (hK.below (uQ GE.o HWS.o) (fun k hk h=>zQ)));obtain⟨sn,hsn⟩:∃sn,σ.n=sn:=⟨_,rfl⟩;have HSN:=yH hsn
 have hsle:sn≤1099511627776:=by
  have h1:=hS.sum;have h2:0≤(σ.fs.map Fl.got).sum:=hS.got_nn;have:=HN.o;omega
 rw[hsn];obtain⟨ao,cap,hav,hc1,hc2,_,_⟩:=aAh hO;subst hav;unfold maxLen at hc2;clear hRL hRB hO hS hK hVB hsn s4 KS KH HL HP B
 by_cases hn0:0<sn
 ·have CF:=yH (pfirst_any (n:=n) (most:=most) HMy RL.o SI.o.linv RB.o SI.o.binv HF.o HTo.o HGe.o HGi.o (want:=sn) yN);have s0:=KSr.o.cell 0;have s1:=KSr.o.cell 1;have s2:=KSr.o.cell 2;have s3:=KSr.o.cell 3;have s4:=KSr.o.cell 4;have s5:=KSr.o.cell 5;have h0:=KHr.o.cell 0;have h1:=KHr.o.cell 1;have hl:=KHr.o.lt;simp at s0 s1 s2 s3 s4 s5 h0 h1;go_wp2_with fail;refine CF.o.mono ?_;rintro e w1 ⟨rfl,b1⟩;have KS1:=yB KSr b1;have KH1:=yB KHr b1;have RL1:=yH (RL.o.below b1);have RB1:=yH (RB.o.below b1);have OO1:=yH (aAg OO.o b1);have KK1:=yH (KK.o.trans (pAD b1));have B1:=yH (BR.o.trans (b1.mono wG));clear b1 s0 s1 s2 s3 s4 s5 h0 h1 hl CF KSr KHr RL RB OO KK BR
  cases hfs:aA1 ps σ.ls σ.l fr pt sn 1099511627776 (aC5 σ.l get give)with
  | none=>
   have NO:Hid ((aNn ps fr pt get give most ⟨ls,l,[],n⟩).1=11):=yH (by
    have e:aB8 ps fr pt get give 64 ⟨ls,l,[],n⟩=(11,σ):=by rw[HE.o,aHw vE vK]
    unfold aNn;rw[e];simp only[];rw[if_pos zV])
   clear hfs;dsimp only[Option.getD_none];go_wp2_with fail;go_ret2;exact .inl ⟨11,_,_,_,zX,NO.o,rfl,B1.o⟩
  | some sk=>
   obtain⟨s0,k0⟩:=sk;obtain⟨k1,k2,ok,⟨o,ho,_,_⟩,hnext⟩:=SI.o.step (s:=s0) (k:=k0) vK;rw[HSN.o]at k2;have HFS:=yH hfs;have HOK:=yH ok;have HO:=yH ho;have HNX:=yH hnext;have HSQ:=yH (show 0≤o.se∧o.se≤18446744073709551615 from by have h1:=SI.o.binv.bd o (aB2 ho).1;have h2:=SI.o.binv.n2;omega);rw[(aB2 ho).2]at HSQ;have z5:decide (k0<1)=false:=zU
   clear hfs ok ho hnext;dsimp only[Option.getD_some]
   by_cases hfull:σ.fs.length=64
   ·have z6:((σ.fs.length:Int)==64)=true:=zU
    have NO:Hid ((aNn ps fr pt get give most ⟨ls,l,[],n⟩).1=13):=yH (by
     have e:aB8 ps fr pt get give 64 ⟨ls,l,[],n⟩=(13,σ):=by rw[HE.o,aHx vE vQ hfull]
     unfold aNn;rw[e];simp only[];rw[if_pos zV])
    clear hfull;go_wp2_with fail;go_ret2;exact .inl ⟨13,_,_,_,zX,NO.o,rfl,B1.o⟩
   have z6:((σ.fs.length:Int)==64)=false:=zU
   have HL64:=yH (show σ.fs.length+1≤64 by omega);have CDo:=yH (aJ4 HD RL1.o SI.o.linv RB1.o SI.o.binv s0 fr pt k0 HSQ.o HF.o HTo.o ⟨zQ,zQ⟩);have s0_:=KS1.o.cell 0;have s1_:=KS1.o.cell 1;have h0:=KH1.o.cell 0;have h1:=KH1.o.cell 1;simp at s0_ s1_ h0 h1;clear hfull;go_wp2_with fail;refine CDo.o.mono ?_;rintro e wd hd;clear s0_ s1_ h0 h1 CDo;rcases hd with⟨hno,_⟩|⟨_,o',x,vb',ho',hx,rfl,hRL',hRB',kk,hmv⟩
   ·exact absurd HOK.o hno
   rw[HO.o]at ho'
   cases ho'
   have EN:Hid (aLj ps fr pt σ s0 k0=⟨aC2 ps σ.ls o fr pt k0 x,aCe σ.l s0 k0,σ.fs++[⟨s0,k0,x⟩],sn - k0⟩):=yH (by unfold aLj;rw[HO.o,hx,←HSN.o]);have hWS:=HWS.o;have hge:=GE.o;have hsz:=KK1.o.size
   have hvb:∀j,j<W.heap.size→(j=G∨j=M∨Foot gb vb j)→base≤j∧j<w.heap.size:=by
    intro j hj h;rcases h with h|h|h|h
    ·omega
    ·omega
    ·omega
    have h1:=VB.o j h;have h2:=(RB1.o.lt (b:=j) (.inr h)).1;omega
   have OOd:=yH (aBr OO1.o kk (fun b hb h=>by
    have h1:=(aAf OO1.o hb).1;rcases h with h|h|h|h
    ·omega
    ·omega
    ·omega
    exact aH5 OO1.o RB1.o.row zX b hb h))
   have KKd:=yH (KK1.o.trans_new kk hvb)
   have VBd:=yH (show ∀b,vb'.ownBlock=some b→b<w.heap.size∨W.heap.size≤b from fun j hj=>by
    rcases hmv j hj with h|h
    ·exact VB.o j h
    exact .inr zQ)
   have bf:=(Below.refl wd.heap.size wd).alloc yL (.cells #[.int .u64 s0,.int .u8 fr,.int .u8 pt,.int .i64 k0,.int .i64 x] 241);have KF:=yH (Blk.new wd #[.int .u64 s0,.int .u8 fr,.int .u8 pt,.int .i64 k0,.int .i64 x] 241);have RLf:=yH (hRL'.below bf);have RBf:=yH (hRB'.below bf);have OOf:=yH (aAg OOd.o bf);have KKf:=yH (KKd.o.trans (pAD bf));clear bf hRL' hRB' kk hmv hx RL1 RB1 OO1 KK1 KS1 KH1 OOd KKd B1 VB hvb hWS hge hsz;generalize hWF:wd.alloc (.cells #[.int .u64 s0,.int .u8 fr,.int .u8 pt,.int .i64 k0,.int .i64 x] 241)=WF at *;have HWF:=yH hWF;clear hWF;have f0:=KF.o.cell 0;have f1:=KF.o.cell 1;have f2:=KF.o.cell 2;have f3:=KF.o.cell 3;have f4:=KF.o.cell 4;simp at f0 f1 f2 f3 f4;have hb5:=KKf.o.size
   go_upto_region 9 with fail
   rw[HWF.o];go_wp2_with (at_builtin;refine aA2 _ rfl (.tmp 42) (.tmp 44) 235 241 rfl Tryz.underlying235 info_flp rfl zX zX W.heap.size _ σ.fs.length _ rfl (OOf.o.alloc _) WF.heap.size 1 [.int .u64 s0,.int .u8 fr,.int .u8 pt,.int .i64 k0,.int .i64 x] rfl rfl (Blk.new _ _ _) zK vR zU ?_);intro v2 w2 ho2 hg2;have KG:Keep (fun k=>(Value.slice ao σ.fs.length cap).ownBlock=some k) WF w2:=((Keep.refl _ WF).alloc _).grown hg2 (fun k hk=>.inl hk);have RL2:=yH (RLf.o.keep KG (fun h=>xS) (fun h=>xS));have RB2:=yH (RBf.o.keep KG (fun h=>xS) (fun b hb h=>aH5 OOf.o RBf.o.row zX b h hb));have KK2:=yH (KKf.o.trans_new KG (fun j hj h=>by have:=(aAf OOf.o h).1;omega));have O2:=yH (show w2.ownsRow W.heap.size 241 5 v2 (σ.fs++[(⟨s0,k0,x⟩:Fl)]).length (aCi fr pt (σ.fs++[(⟨s0,k0,x⟩:Fl)]))from by rw[aLf];simpa [Fl.vals]using ho2)
   have HE2:Hid (aB8 ps fr pt get give 64 ⟨ls,l,[],n⟩=aB8 ps fr pt get give (64 - (σ.fs.length+1)) (aLj ps fr pt σ s0 k0)):=yH (by
    rw[HE.o,←aHy vE vQ vR];congr 1;have:=HL64.o;omega)
   have NX2:=yH HNX.o;rw[EN.o]at HE2 NX2;clear KG ho2 hg2 f0 f1 f2 f3 f4 hb5 EN HNX HE;go_wp2_with fail;exact⟨⟨⟨aC2 ps σ.ls o fr pt k0 x,aCe σ.l s0 k0,σ.fs++[⟨s0,k0,x⟩],sn - k0⟩,_,rfl,RL2.o,RB2.o,VBd.o,O2.o,NX2.o,by simp;have:=HL64.o;omega,KK2.o,yH (by rw[HE2.o];simp)⟩,zN⟩
 have CG:=yH (fun(w':World) (h:Below wr.heap.size wr w')=>pgiven_any (aAg OO.o h) (fun f hf=>by obtain⟨_,_,_,_,_,_,_,h1,h2⟩:=SI.o.fs f hf;exact⟨zQ,zQ⟩) zQ);have GB:=SI.o.given_bd;have HEN:Hid (aB8 ps fr pt get give 64 ⟨ls,l,[],n⟩=(0,σ)):=yH (by rw[HE.o,aHv vE]);obtain⟨gs,hgs⟩:∃gs,(σ.fs.map Fl.gi).sum=gs:=⟨_,rfl⟩;rw[hgs]at CG GB;have hok:okN gs=gs:=if_pos ⟨zQ,zQ⟩;rw[hok]at CG;have HGS:=yH hgs;clear hgs hok;go_wp2_with fail
 by_cases hq:most<gs
 ·have q1:decide (gs > most)=true:=wK
  have NO:Hid ((aNn ps fr pt get give most ⟨ls,l,[],n⟩).1=12):=yH (by unfold aNn;rw[HEN.o];simp only[];rw[if_neg zV,HGS.o,if_pos hq]);clear hq
  refine aAm zW [(.slice ao σ.fs.length cap),(.int .i64 gs),(.pointer (some ⟨w.heap.size,5,none⟩)),(.int .i64 most),(.bool true)]
   (fun w'=>Below wr.heap.size wr w') zW yZ.drew ?_
  intro af haf;simp only[yG,List.append_eq,List.cons_append,List.nil_append,puts,Act.put,yA,yC,yF,yD,yE]at haf;subst haf;refine⟨?_,?_⟩
  ·simp only[yG,List.append_eq,List.cons_append,List.nil_append,aBd];refine⟨?z1,?_,?z2,?_,?z3,trivial⟩
   case z1|z2|z3=>
    intro w' hS;refine yO rfl ?_;have HS:=yH hS;clear hS;go_wp2_with fail;all_goals first|exact HS|exact⟨rfl,HS⟩|rfl|exact⟨zQ,HS.o⟩
   ·intro w' hS;refine yO rfl ?_;have HS:=yH hS;clear hS;go_wp2_with fail;refine(CG.o _ HS.o).mono ?_;rintro e w'' ⟨rfl,hb2⟩;exact⟨rfl,andB HS.o hb2⟩
   intro w' hS;refine yO rfl ?_;have d0_0:=(KSr.o.below hS KSr.o.lt).cell 0;have d0_1:=(KSr.o.below hS KSr.o.lt).cell 1;have d0_2:=(KSr.o.below hS KSr.o.lt).cell 2;have d0_3:=(KSr.o.below hS KSr.o.lt).cell 3;have d0_4:=(KSr.o.below hS KSr.o.lt).cell 4;have d0_5:=(KSr.o.below hS KSr.o.lt).cell 5;simp at d0_0 d0_1 d0_2 d0_3 d0_4 d0_5;have HS:=yH hS;clear hS;go_wp2_with fail;all_goals first|exact HS|exact⟨rfl,HS⟩|rfl|exact⟨zQ,HS.o⟩
  intro w' hS;have B2:=yH (BR.o.trans (hS.mono wG));clear hS;go_wp2_with fail;go_ret2;exact .inl ⟨12,_,_,_,zX,NO.o,rfl,B2.o⟩
 have q1:decide (gs > most)=false:=wK
 have YES:Hid (aNn ps fr pt get give most ⟨ls,l,[],n⟩=(0,σ)):=yH (by unfold aNn;rw[HEN.o];simp only[];rw[if_neg zV,HGS.o,if_neg hq]);clear hq
 refine aAm zW [(.slice ao σ.fs.length cap),(.int .i64 gs),(.pointer (some ⟨w.heap.size,5,none⟩)),(.int .i64 most),(.bool false)]
  (fun w'=>Below wr.heap.size wr w') zW yZ.drew ?_
 intro af haf;simp only[yG,List.append_eq,List.cons_append,List.nil_append,puts,Act.put,yA,yC,yF,yD,yE]at haf;subst haf;refine⟨?_,?_⟩
 ·simp only[yG,List.append_eq,List.cons_append,List.nil_append,aBd];refine⟨?z4,?_,?z5,?_,?z6,trivial⟩
  case z4|z5|z6=>
   intro w' hS;refine yO rfl ?_;have HS:=yH hS;clear hS;go_wp2_with fail;all_goals first|exact HS|exact⟨rfl,HS⟩|rfl|exact⟨zQ,HS.o⟩
  ·intro w' hS;refine yO rfl ?_;have HS:=yH hS;clear hS;go_wp2_with fail;refine(CG.o _ HS.o).mono ?_;rintro e w'' ⟨rfl,hb2⟩;exact⟨rfl,andB HS.o hb2⟩
  intro w' hS;refine yO rfl ?_;have d0_0:=(KSr.o.below hS KSr.o.lt).cell 0;have d0_1:=(KSr.o.below hS KSr.o.lt).cell 1;have d0_2:=(KSr.o.below hS KSr.o.lt).cell 2;have d0_3:=(KSr.o.below hS KSr.o.lt).cell 3;have d0_4:=(KSr.o.below hS KSr.o.lt).cell 4;have d0_5:=(KSr.o.below hS KSr.o.lt).cell 5;simp at d0_0 d0_1 d0_2 d0_3 d0_4 d0_5;have HS:=yH hS;clear hS;go_wp2_with fail;all_goals first|exact HS|exact⟨rfl,HS⟩|rfl|exact⟨zQ,HS.o⟩
 intro w' hS;have B2:=yH (BR.o.trans (hS.mono wG));have RL2:=yH (RL.o.below hS);have RB2:=yH (RB.o.below hS);have CL:=yH (aOy (aAg OO.o hS));have HLE:=yH (show w.heap.size≤W.heap.size by have:=HWS.o;omega);clear hS;go_wp2_with fail;refine CL.o.mono ?_;rintro e w2 ⟨v,rfl,hv,_,rfl⟩;obtain⟨a,c,rfl,_,_,_,_⟩:=hv.look;have HV:=yH (hv.base HLE.o);clear hv CL;go_wp2_with fail;go_ret2;exact .inr ⟨_,a,c,σ,YES.o,rfl,RL2.o,RB2.o,HV.o,B2.o⟩
def BCopyPost(base:Nat)(l:List Of)(N:Int)(w:World)(e:Ending)(w':World):Prop:=
 ∃g' vl',e=.returned (.pointer (some ⟨g',0,none⟩))∧PB w' base g' l N vl'∧w.heap.size≤g'∧(∀b,vl'.ownBlock=some b→w.heap.size≤b)∧Below w.heap.size w w'
theorem pcopyB_any{w:World}{base g:Nat}{l:List Of}{N:Int}{vl:Value}(h:PB w base g l N vl)(h1:1≤N)(hl:l.length≤1000):
  Calls Tryz.prog 77 #[.pointer (some ⟨g,0,none⟩)] w (BCopyPost base l N w):=by
 have CM:=yH (aM0 h.blk h1);have H:=yH h;obtain⟨ao,cap,rfl,_⟩:=aAh h.row;have hgl:=h.blk.lt;have d0:=h.blk.cell 0;have d1:=h.blk.cell 1;simp at d0 d1;have CC:=yH (aOm (w:=w.drew) (aAg h.row yZ.drew) hl);have hbs:=Nat.le_trans h.ge (Nat.le_of_lt hgl);clear h h1;go_enter Tryz.func77,Tryz.ntmps77;go_wp2_with fail;refine CM.o.mono ?_;rintro e w ⟨rfl,rfl⟩;go_wp2_with fail
 go_region_with ((refine CC.o.mono ?_;rintro e w1 ⟨v',rfl,o1,b1⟩;have HO:=yH o1;have HB:=yH b1;have k1:=(H.o.blk.drew).below b1 hgl;have c1:=k1.cell 1;have l1:=k1.lt;simp at c1;obtain⟨ao',cap',hv',_⟩:=aAh o1;subst hv';clear o1 b1 k1))
 all_goals
  go_wp2;refine bodyPost_ret (v:=.pointer (some ⟨w1.heap.size,0,none⟩)) (by simp[results,Tryz.results77,go_sem]) rfl ?_;have bw:=(Below.refl w1.heap.size w1).alloc yL (.cells #[.slice ao' l.length cap',.int .u64 N] 158);exact⟨_,_,rfl,⟨Blk.new _ _ _,Nat.le_trans hbs HB.o.size,aJc (aAg HO.o bw) hbs⟩,HB.o.size,fun b hb=>(aAf HO.o hb).1,(pAA HB.o).trans (bw.mono HB.o.size)⟩
theorem aUl{w:World}{base base':Nat}{e:TypeId}{size:Nat}{v:Value}{n:Nat}{xs:List Value}(h:w.ownsRow base e size v n xs)(hb:∀b,v.ownBlock=some b→base'≤b):w.ownsRow base' e size v n xs:=by
 obtain⟨h1,h2⟩:=h;refine⟨h1,?_⟩;rcases h2 with h2|⟨g,cap,cur,rfl,hge,hr⟩
 ·exact .inl h2
 exact .inr ⟨g,cap,cur,rfl,hb g rfl,hr⟩
theorem aNo:aDx:=by
 intro w base G M gb ps ls l N vb hL hI hP hJ;have hg1:(w.alloc (.cells #[.pointer (some ⟨G,0,none⟩),.pointer (some ⟨gb,0,none⟩)] 80)).heap.size=w.heap.size+1:=zV
 have b1:=(Below.refl w.heap.size w).alloc yL (.cells #[.pointer (some ⟨G,0,none⟩),.pointer (some ⟨gb,0,none⟩)] 80);have k1:=Blk.new w #[.pointer (some ⟨G,0,none⟩),.pointer (some ⟨gb,0,none⟩)] 80;generalize hW1:w.alloc (.cells #[.pointer (some ⟨G,0,none⟩),.pointer (some ⟨gb,0,none⟩)] 80)=W1 at *;have b2:=(Below.refl W1.heap.size W1).alloc yL (.cells #[.pointer none,.pointer none] 80);have k2:=Blk.new W1 #[.pointer none,.pointer none] 80;rw[hg1]at k2;generalize hW2:W1.alloc (.cells #[.pointer none,.pointer none] 80)=W2 at *;have HW1:=yH hW1;have HW2:=yH hW2;have KX:=yH (k1.below b2 k1.lt);have KF:=yH k2;have CL:=yH (pcopy_any (((hL.below b1).below b2).below (Below.refl _ W2).drew));have HB:=yH (((hP.below b1).below b2).below (Below.refl _ W2).drew);have B1:=yH (b1.trans (b2.mono b1.size));have JJ:=yH hJ;clear hL hI hP hJ b1 b2 k1 k2 hW1 hW2 hg1;go_enter Tryz.func47,Tryz.ntmps47
 go_upto_region 1 with fail
 rw[HW1.o,HW2.o];have e0:=KX.o.cell 0;have e1:=KX.o.cell 1;have kx:=KX.o.lt;have kf:=KF.o.lt;have f0:=KF.o.cell 0;have f1:=KF.o.cell 1;simp at e0 e1 f0 f1
 go_region_with (first|(go_at_call 76;refine CL.o.mono ?_;rintro e w1 ⟨g1,m1,rfl,r1,n1,n2,b1⟩;have KX1:=yH (KX.o.drew.below b1 kx);have KF1:=yH (KF.o.drew.below b1 kf);have R1:=yH r1;have BB:=yH b1;have NN:=yH (And.intro n1 n2);have CB:=yH (pcopyB_any (HB.o.below b1) JJ.o.n1 (uV JJ.o.len));clear r1 b1 n1 n2;have c0:=KX1.o.cell 0;have c1:=KX1.o.cell 1;have cx:=KX1.o.lt;simp at c0 c1)|(go_at_call 77;refine CB.o.mono ?_;rintro e w2 ⟨g2,vb2,rfl,r2,n1,n2,b2⟩;have KF2:=yB KF1 b2;have R2:=yH r2;have B2:=yH b2;have NM:=yH (And.intro n1 n2);clear r2 b2 n1 n2;have z0:=KF2.o.cell 0;have z1:=KF2.o.cell 1;have zx:=KF2.o.lt;have zf:=KF2.o.frozen;simp at z0 z1))
 all_goals
  go_wp2;refine bodyPost_ret (v:=.agg #[.pointer (some ⟨g1,0,none⟩),.pointer (some ⟨g2,0,none⟩)]) (results_cell_row rfl _ _ (w.heap.size+1) 80 #[.pointer (some ⟨g1,0,none⟩),.pointer (some ⟨g2,0,none⟩)] (0,0) _ rfl ((KF2.o.set 0 _).set 1 _).out Tryz.underlying80 rfl zW) rfl ?_
  have kk:Keep (·=w.heap.size+1) w2 ((w2.setCell ⟨w.heap.size+1,0,none⟩ (.pointer (some ⟨g1,0,none⟩))).setCell ⟨w.heap.size+1,1,none⟩ (.pointer (some ⟨g2,0,none⟩))):=by
   refine Keep.setCell (S:=(·=w.heap.size+1)) ?_ (p:=⟨w.heap.size+1,1,none⟩) (.inl rfl) _;exact Keep.setCell (S:=(·=w.heap.size+1)) (Keep.refl _ _) (p:=⟨w.heap.size+1,0,none⟩) (.inl rfl) _
  have s1:=B1.o.size;have s2:=BB.o.size;obtain⟨n1,n2⟩:=NN.o;obtain⟨m1,m2⟩:=NM.o;have hd:W2.drew.heap.size=W2.heap.size:=rfl;rw[hd]at s2 n1 n2;have R3:=R2.o.keep kk zQ (fun b h=>uV (m2 b h))
  exact⟨_,_,_,_,rfl,(R1.o.below B2.o).keep kk zQ zQ,⟨R3.blk,zQ,aUl R3.row (fun b hb=>uV (m2 b hb))⟩,zQ,zQ,
   (B1.o.trans (((pAA BB.o).trans (B2.o.mono s2)).mono s1)).trans (kk.below zQ (fun k hk h=>zQ))⟩
theorem PB.down5{w:World}{base base' g:Nat}{l:List Of}{N:Int}{vl:Value}(h:PB w base g l N vl)(hb:base'≤base):PB w base' g l N vl:=⟨h.blk,Nat.le_trans hb h.ge,aJc h.row hb⟩
theorem swap1_ok{w:World}{cE cA cL:Nat}{u:FrameMode}(hE:Blk w cE #[.int .i64 0] 33):
  CallsD Tryz.prog 196 #[.pointer (some ⟨cE,0,none⟩),.pointer (some ⟨cA,0,none⟩),.pointer (some ⟨cL,0,none⟩)] u w fun e u' w'=>u'=u∧(e=.returned (.tuple #[])∧w'=w):=by
 have e0:=hE.cell 0;simp at e0;clear hE
 go_enter_d Tryz.func196,Tryz.ntmps196
 go_wp2_with fail;go_end0;exact⟨rfl,rfl⟩
theorem swap1_bad{w:World}{cE cA cL:Nat}{u:FrameMode}{er:Int}{x y v:Value}(hE:Blk w cE #[.int .i64 er] 33)(hA:Blk w cA #[x,y] 80)(hL:Blk w cL #[v] 235)(hAL:cA≠cL)(he:(er != 0)=true):
  CallsD Tryz.prog 196 #[.pointer (some ⟨cE,0,none⟩),.pointer (some ⟨cA,0,none⟩),.pointer (some ⟨cL,0,none⟩)] u w fun e u' w'=>u'=u∧(e=.returned (.tuple #[])∧w'=(w.setRow cA #[.pointer none,.pointer none]).setCell ⟨cL,0,none⟩ (.slice none 0 0)):=by
 have e0:=hE.cell 0;simp at e0;have KA:=yH hA;have L2:Blk (w.setRow cA #[.pointer none,.pointer none]) cL #[v] 235:=hL.keep (aAc (w:=w) cA #[.pointer none,.pointer none]) (fun h=>hAL h.symm);have l0:=L2.cell 0;have lf:=L2.frozen 0;simp at l0;clear hE hA hL hAL L2
 go_enter_d Tryz.func196,Tryz.ntmps196
 go_wp2_with (refine aAa rfl 80 (.tmp 1) (.tmp 5) rfl cA #[.pointer none,.pointer none] rfl rfl 80 _ KA.o.out zW rfl zK ?_);go_end0;exact⟨rfl,rfl⟩
def SwapNo(w:World)(er:Int)(e:Ending)(w':World):Prop:=e=.returned (.tuple #[.agg #[.pointer none,.pointer none],.slice none 0 0,.int .i64 er])∧Below w.heap.size w w'
structure SwR(w:World)(g:Nat)(x y a:Option Addr)(k c:Nat)(e:Int):Prop where
 af:Blk w (g+1) #[.pointer x,.pointer y] 80
 al:Blk w (g+2) #[.slice a k c] 235
 er:Blk w (g+3) #[.int .i64 e] 33
theorem SwR.keep{S:Nat→Prop}{w w':World}{g:Nat}{x y a:Option Addr}{k c:Nat}{er:Int}(h:SwR w g x y a k c er)(q:Keep S w w')(hS:∀j,g<j→j<g+4→¬S j):SwR w' g x y a k c er:=
 ⟨h.af.keep q (hS _ zQ zQ),h.al.keep q (hS _ zQ zQ),h.er.keep q (hS _ zQ zQ)⟩
theorem SwR.below{w w':World}{g:Nat}{x y a:Option Addr}{k c:Nat}{er:Int}(h:SwR w g x y a k c er)(q:Below w.heap.size w w'):SwR w' g x y a k c er:=h.keep (pAD (S:=fun _=>False) q) (fun _ _ _ h=>h)
theorem SwR.belowB{w w':World}{B g:Nat}{x y a:Option Addr}{k c:Nat}{er:Int}(h:SwR w g x y a k c er)(q:Below B w w')(hB:g+3<B):SwR w' g x y a k c er:=⟨h.af.below q zQ,h.al.below q zQ,h.er.below q zQ⟩
theorem SwR.drew{w:World}{g:Nat}{x y a:Option Addr}{k c:Nat}{er:Int}(h:SwR w g x y a k c er):SwR w.drew g x y a k c er:=⟨h.af,h.al,h.er⟩
theorem SwR.stA{w:World}{g:Nat}{x y a:Option Addr}{k c:Nat}{er:Int}(h:SwR w g x y a k c er)(x' y':Option Addr):SwR (w.setRow (g+1) #[.pointer x',.pointer y']) g x' y' a k c er:=
 ⟨setRow_heap _ (g+1) _ _ _ (0,0) h.af,h.al.keep (aAc (w:=w) (g+1) _) zQ,h.er.keep (aAc (w:=w) (g+1) _) zQ⟩
theorem SwR.stL{w:World}{g:Nat}{x y a:Option Addr}{k c:Nat}{er:Int}(h:SwR w g x y a k c er)(a':Option Addr)(k' c':Nat):SwR (w.setCell ⟨g+2,0,none⟩ (.slice a' k' c')) g x y a' k' c' er:=
 ⟨h.af.setOther (by show ¬g+1=g+2;omega) _,h.al.set 0 _,h.er.setOther (by show ¬g+3=g+2;omega) _⟩
theorem SwR.stE{w:World}{g:Nat}{x y a:Option Addr}{k c:Nat}{er:Int}(h:SwR w g x y a k c er)(er':Int):SwR (w.setCell ⟨g+3,0,none⟩ (.int .i64 er')) g x y a k c er':=
 ⟨h.af.setOther (by show ¬g+1=g+3;omega) _,h.al.setOther (by show ¬g+2=g+3;omega) _,h.er.set 0 _⟩
abbrev SwK(g:Nat)(W w':World):Prop:=Keep (fun j=>g<j∧j<g+4) W w'
theorem SwK.stA{W w:World}{g:Nat}(h:SwK g W w)(cs:Array Value):SwK g W (w.setRow (g+1) cs):=Keep.trans h ((aAc (w:=w) (g+1) cs).mono (fun j _ e=>zQ))
theorem SwK.st{W w:World}{g:Nat}(h:SwK g W w)(j:Nat)(hj:g<j∧j<g+4)(v:Value):SwK g W (w.setCell ⟨j,0,none⟩ v):=Keep.setCell h (.inl hj) v
theorem aIh{tmps:Array Value}{w:World}{g:Nat}{x y a:Option Addr}{k c:Nat}{er:Int}(h1:tmps[14]? = some (.pointer (some ⟨g+1,0,none⟩)))(h2:tmps[15]? = some (.pointer (some ⟨g+2,0,none⟩)))(h3:tmps[16]? = some (.pointer (some ⟨g+3,0,none⟩)))(h:SwR w g x y a k c er):
  (results Tryz.f154 tmps).run Tryz.prog w=.ok (.tuple #[.agg #[.pointer x,.pointer y],.slice a k c,.int .i64 er]) w:=by
 have a0:=h.af.cell 0;have a1:=h.af.cell 1;have l0:=h.al.cell 0;have e0:=h.er.cell 0;simp at a0 a1 l0 e0;simp[results,Tryz.results154,go_sem,h1,h2,h3,a0,a1,l0,e0]
theorem aGq{tmps:Array Value}{w:World}{g:Nat}{x y a:Option Addr}{k c:Nat}{er:Int}{R:Ending→World→Prop}(h1:tmps[14]? = some (.pointer (some ⟨g+1,0,none⟩)))(h2:tmps[15]? = some (.pointer (some ⟨g+2,0,none⟩)))(h3:tmps[16]? = some (.pointer (some ⟨g+3,0,none⟩)))(h:SwR w g x y a k c er)(he:(er != 0)=true)
  (hR:R (.returned (.tuple #[.agg #[.pointer none,.pointer none],.slice none 0 0,.int .i64 er])) ((w.setRow (g+1) #[.pointer none,.pointer none]).setCell ⟨g+2,0,none⟩ (.slice none 0 0))):
  Leaves Tryz.prog Tryz.f154 tmps R [{ target:=.fn (.func 196) #[.pointer (some ⟨g+3,0,none⟩),.pointer (some ⟨g+1,0,none⟩),.pointer (some ⟨g+2,0,none⟩)],args:=#[] }] .returning w:=by
 refine leaves_cons (f:=196) (args:=#[.pointer (some ⟨g+3,0,none⟩),.pointer (some ⟨g+1,0,none⟩),.pointer (some ⟨g+2,0,none⟩)]) zV xX ?_;refine(swap1_bad h.er h.af h.al zQ he).mono ?_;rintro e u' w' ⟨rfl,rfl,rfl⟩;exact⟨_,aIh h1 h2 h3 ((h.stA none none).stL none 0 0),hR⟩
theorem aSh{tmps:Array Value}{w:World}{g:Nat}{x y a:Option Addr}{k c:Nat}{R:Ending→World→Prop}(h1:tmps[14]? = some (.pointer (some ⟨g+1,0,none⟩)))(h2:tmps[15]? = some (.pointer (some ⟨g+2,0,none⟩)))(h3:tmps[16]? = some (.pointer (some ⟨g+3,0,none⟩)))(h:SwR w g x y a k c 0)
  (hR:R (.returned (.tuple #[.agg #[.pointer x,.pointer y],.slice a k c,.int .i64 0])) w):
  Leaves Tryz.prog Tryz.f154 tmps R [{ target:=.fn (.func 196) #[.pointer (some ⟨g+3,0,none⟩),.pointer (some ⟨g+1,0,none⟩),.pointer (some ⟨g+2,0,none⟩)],args:=#[] }] .returning w:=by
 refine leaves_cons (f:=196) (args:=#[.pointer (some ⟨g+3,0,none⟩),.pointer (some ⟨g+1,0,none⟩),.pointer (some ⟨g+2,0,none⟩)]) zV xX ?_;refine(swap1_ok h.er).mono ?_;rintro e u' w' ⟨rfl,rfl,rfl⟩;exact⟨_,aIh h1 h2 h3 h,hR⟩
theorem aNp{B:Nat}{w0 w:World}(h:Below B w0 w){g:Nat}(hg:B≤g):Below B w0 ((w.setRow (g+1) #[.pointer none,.pointer none]).setCell ⟨g+2,0,none⟩ (.slice none 0 0)):=(below_setRow h zQ _).setCell (p:=⟨g+2,0,none⟩) (by show B≤g+2;omega) _
theorem pswap_void{w:World}{a b:Option Addr}(fr pt get give n most:Int)(h:∀w',Below w.heap.size w w'→Calls Tryz.prog 232 #[.agg #[.pointer a,.pointer b]] w' fun e w''=>e=.returned (.bool false)∧Below w'.heap.size w' w''):
  Calls Tryz.prog 154 #[.agg #[.pointer a,.pointer b],.int .u8 fr,.int .u8 pt,.int .u8 get,.int .u8 give,.int .i64 n,.int .i64 most] w (SwapNo w 2):=by
 have b1:=(Below.refl w.heap.size w).alloc yL (.cells #[.pointer a,.pointer b] 80);have b2:=b1.alloc b1.size (.cells #[.pointer none,.pointer none] 80);have b3:=b2.alloc b2.size (.cells #[.slice none 0 0] 235);have b4:=b3.alloc b3.size (.cells #[.int .i64 0] 33);have b5:=b4.alloc b4.size (.cells #[.int .u8 fr,.int .u8 pt,.int .u8 get,.int .u8 give,.int .i64 n,.int .i64 most] 289);have KH:=yH (((((Blk.new w #[.pointer a,.pointer b] 80).alloc (.cells #[.pointer none,.pointer none] 80)).alloc (.cells #[.slice none 0 0] 235)).alloc (.cells #[.int .i64 0] 33)).alloc (.cells #[.int .u8 fr,.int .u8 pt,.int .u8 get,.int .u8 give,.int .i64 n,.int .i64 most] 289));have KS:=yH (pAB ((((w.alloc (.cells #[.pointer a,.pointer b] 80)).alloc (.cells #[.pointer none,.pointer none] 80)).alloc (.cells #[.slice none 0 0] 235)).alloc (.cells #[.int .i64 0] 33)) #[.int .u8 fr,.int .u8 pt,.int .u8 get,.int .u8 give,.int .i64 n,.int .i64 most] 289 (g:=w.heap.size+4) zV)
 have RR:Hid (SwR (((((w.alloc (.cells #[.pointer a,.pointer b] 80)).alloc (.cells #[.pointer none,.pointer none] 80)).alloc (.cells #[.slice none 0 0] 235)).alloc (.cells #[.int .i64 0] 33)).alloc (.cells #[.int .u8 fr,.int .u8 pt,.int .u8 get,.int .u8 give,.int .i64 n,.int .i64 most] 289)) w.heap.size none none none 0 0 0):=yH ⟨(((pAB (w.alloc (.cells #[.pointer a,.pointer b] 80)) #[.pointer none,.pointer none] 80 (g:=w.heap.size+1) zV).alloc (.cells #[.slice none 0 0] 235)).alloc (.cells #[.int .i64 0] 33)).alloc (.cells #[.int .u8 fr,.int .u8 pt,.int .u8 get,.int .u8 give,.int .i64 n,.int .i64 most] 289),
  ((pAB ((w.alloc (.cells #[.pointer a,.pointer b] 80)).alloc (.cells #[.pointer none,.pointer none] 80)) #[.slice none 0 0] 235 (g:=w.heap.size+2) zV).alloc (.cells #[.int .i64 0] 33)).alloc (.cells #[.int .u8 fr,.int .u8 pt,.int .u8 get,.int .u8 give,.int .i64 n,.int .i64 most] 289),
  (pAB (((w.alloc (.cells #[.pointer a,.pointer b] 80)).alloc (.cells #[.pointer none,.pointer none] 80)).alloc (.cells #[.slice none 0 0] 235)) #[.int .i64 0] 33 (g:=w.heap.size+3) zV).alloc (.cells #[.int .u8 fr,.int .u8 pt,.int .u8 get,.int .u8 give,.int .i64 n,.int .i64 most] 289)⟩
 have B:=yH b5;have CW:=yH (aUj fr pt get give n most (fun w' k=>h w' (andB b5 k)));clear b1 b2 b3 b4 b5 h;generalize hW:((((w.alloc (.cells #[.pointer a,.pointer b] 80)).alloc (.cells #[.pointer none,.pointer none] 80)).alloc (.cells #[.slice none 0 0] 235)).alloc (.cells #[.int .i64 0] 33)).alloc (.cells #[.int .u8 fr,.int .u8 pt,.int .u8 get,.int .u8 give,.int .i64 n,.int .i64 most] 289)=W at *;have HW:=yH hW;clear hW;have h0:=KH.o.cell 0;have h1:=KH.o.cell 1;have s0:=KS.o.cell 0;have s1:=KS.o.cell 1;have s2:=KS.o.cell 2;have s3:=KS.o.cell 3;have s4:=KS.o.cell 4;have s5:=KS.o.cell 5;simp at h0 h1 s0 s1 s2 s3 s4 s5
 go_enter_defers Tryz.func154,Tryz.ntmps154
 go_upto_region 3 with fail
 rw[HW.o];go_wp2_with fail;refine CW.o.mono ?_;rintro e w1 ⟨rfl,b1⟩;have RR1:=yH (RR.o.below b1);have B1:=yT B b1;clear b1 h0 h1 s0 s1 s2 s3 s4 s5 KH KS RR B CW;have RRq:=yH (RR1.o.stE 2);have B2:=yH (B1.o.setCell (p:=⟨w.heap.size+3,0,none⟩) zZ (.int .i64 2));have x0:=RR1.o.er.cell 0;have fz:=RR1.o.er.frozen 0;have y0:=RRq.o.er.cell 0;simp at x0 y0;generalize hW2:w1.setCell ⟨w.heap.size+3,0,none⟩ (.int .i64 2)=W2 at *;have HW2:=yH hW2;clear hW2
 go_upto_region 4 with fail
 rw[HW2.o];go_wp2_with fail
 refine aAm zW [(.agg #[.pointer none,.pointer none]),(.slice none 0 0),(.int .i64 2),undef,undef,undef]
  (fun w'=>SwR w' w.heap.size none none none 0 0 2∧SwK w.heap.size W2 w') zW ⟨RRq.o.drew,(Keep.refl _ _).drew⟩ ?_
 intro af haf;simp only[yG,List.append_eq,List.cons_append,List.nil_append,puts,Act.put,yA,yC,yF,yD,yE]at haf;subst haf;refine⟨?_,?_⟩
 ·simp only[yG,List.append_eq,List.cons_append,List.nil_append,aBd];refine⟨?_,?_,?_,?_,?_,?_,trivial⟩
  ·intro w' hS;refine yO rfl ?_;have d0:=hS.1.af.cell 0;have d1:=hS.1.af.cell 1;simp at d0 d1;have HS:=yH hS;clear hS;go_wp2_with fail;all_goals first|exact HS|exact⟨rfl,HS⟩|rfl
  ·intro w' hS;refine yO rfl ?_;have d0:=hS.1.al.cell 0;simp at d0;have HS:=yH hS;clear hS;go_wp2_with fail;all_goals first|exact HS|exact⟨rfl,HS⟩|rfl
  ·intro w' hS;refine yO rfl ?_;have d0:=hS.1.er.cell 0;simp at d0;have HS:=yH hS;clear hS;go_wp2_with fail;all_goals first|exact HS|exact⟨rfl,HS⟩|rfl
  ·intro w' hS;refine yO rfl ?_;have d0:=hS.1.af.cell 0;have d1:=hS.1.af.cell 1;simp at d0 d1;have HS:=yH hS;clear hS;refine wp_store_row 80 (.tmp 14) (.tmp 31) rfl (w.heap.size+1) #[.pointer none,.pointer none] rfl rfl 80 _ HS.o.1.af.out zW rfl zK ⟨rfl,?_⟩;exact⟨HS.o.1.stA _ _,SwK.stA HS.o.2 _⟩
  ·intro w' hS;refine yO rfl ?_;have d0:=hS.1.al.cell 0;have dz:=hS.1.al.frozen 0;simp at d0;have HS:=yH hS;clear hS;go_wp2_with fail;exact⟨HS.o.1.stL _ _ _,SwK.st HS.o.2 (w.heap.size+2) zQ _⟩
  intro w' hS;refine yO rfl ?_;have d0:=hS.1.er.cell 0;have dz:=hS.1.er.frozen 0;simp at d0;have HS:=yH hS;clear hS;go_wp2_with fail;exact⟨HS.o.1.stE _,SwK.st HS.o.2 (w.heap.size+3) zQ _⟩
 intro wq hq;go_wp2_with fail;refine aGq (g:=w.heap.size) rfl rfl rfl hq.1 (by first|assumption|decide) ?_;exact⟨rfl,aNp (B2.o.trans (hq.2.below B2.o.size (fun j hj h=>zQ))) yL⟩
def aSi(w:World)(ps:List Int)(ls:List Ln)(l:List Of)(N fr pt get give n most:Int)(e:Ending)(w':World):Prop:=
 (∃er:Int,er≠0∧(aDu ps ls l fr pt get give n most).1=er∧SwapNo w er e w')∨
 (∃(G M gb:Nat) (vb:Value) (a:Option Addr) (c:Nat) (σ:SwS),aDu ps ls l fr pt get give n most=(0,σ)∧aD2 fr pt get give n most∧e=.returned (.tuple #[.agg #[.pointer (some ⟨G,0,none⟩),.pointer (some ⟨gb,0,none⟩)],.slice a σ.fs.length c,.int .i64 0])∧LedM w' G M ps σ.ls∧PB w' w.heap.size gb σ.l N vb∧aBk w' w.heap.size 241 5 (.slice a σ.fs.length c) σ.fs.length (aCi fr pt σ.fs)∧
  w.heap.size≤G∧w.heap.size≤M∧Below w.heap.size w w')
theorem aUm{ps:List Int}{ls:List Ln}{l:List Of}{fr pt get give n most er:Int}(h:aHi ps fr pt get give n most=er)(he:er≠0):(aDu ps ls l fr pt get give n most).1=er:=by
 unfold aHi at h;unfold aDu
 by_cases h1:aD2 fr pt get give n most
 ·rw[if_neg (fun q=>q h1)]at h ⊢
  by_cases h2:fr∉ps∨pt∉ps
  ·rw[if_pos h2]at h ⊢;exact h
  rw[if_neg h2]at h;exact absurd h.symm he
 rw[if_pos h1]at h ⊢;exact h
theorem aUn{ps:List Int}{ls:List Ln}{l:List Of}{fr pt get give n most:Int}(h:aHi ps fr pt get give n most=0):aD2 fr pt get give n most∧aDu ps ls l fr pt get give n most=aNn ps fr pt get give most ⟨ls,l,[],n⟩:=by
 unfold aHi at h;unfold aDu
 by_cases h1:aD2 fr pt get give n most
 ·rw[if_neg (fun q=>q h1)]at h ⊢
  by_cases h2:fr∉ps∨pt∉ps
  ·rw[if_pos h2]at h;exact absurd h zX
  rw[if_neg h2];exact⟨h1,rfl⟩
 rw[if_pos h1]at h;exact absurd h zX
theorem pswap_any(HMy:aCk)(HD:aD4)(HCp:aDx){w:World}{base G M gb:Nat}{ps:List Int}{ls:List Ln}{l:List Of}{N:Int}{vb:Value}(hL:LedM w G M ps ls)(hI:LInv ps ls)(hP:PB w base gb l N vb)(hJ:BInv l N)
  (fr pt get give n most:Int)(hf:In8 fr)(ht:In8 pt)(hg:In8 get)(hv:In8 give):
  Calls Tryz.prog 154 #[.agg #[.pointer (some ⟨G,0,none⟩),.pointer (some ⟨gb,0,none⟩)],.int .u8 fr,.int .u8 pt,.int .u8 get,.int .u8 give,.int .i64 n,.int .i64 most] w (aSi w ps ls l N fr pt get give n most):=by
 have b1:=(Below.refl w.heap.size w).alloc yL (.cells #[.pointer (some ⟨G,0,none⟩),.pointer (some ⟨gb,0,none⟩)] 80);have b2:=b1.alloc b1.size (.cells #[.pointer none,.pointer none] 80);have b3:=b2.alloc b2.size (.cells #[.slice none 0 0] 235);have b4:=b3.alloc b3.size (.cells #[.int .i64 0] 33);have b5:=b4.alloc b4.size (.cells #[.int .u8 fr,.int .u8 pt,.int .u8 get,.int .u8 give,.int .i64 n,.int .i64 most] 289);have KH:=yH (((((Blk.new w #[.pointer (some ⟨G,0,none⟩),.pointer (some ⟨gb,0,none⟩)] 80).alloc (.cells #[.pointer none,.pointer none] 80)).alloc (.cells #[.slice none 0 0] 235)).alloc (.cells #[.int .i64 0] 33)).alloc (.cells #[.int .u8 fr,.int .u8 pt,.int .u8 get,.int .u8 give,.int .i64 n,.int .i64 most] 289));have KS:=yH (pAB ((((w.alloc (.cells #[.pointer (some ⟨G,0,none⟩),.pointer (some ⟨gb,0,none⟩)] 80)).alloc (.cells #[.pointer none,.pointer none] 80)).alloc (.cells #[.slice none 0 0] 235)).alloc (.cells #[.int .i64 0] 33)) #[.int .u8 fr,.int .u8 pt,.int .u8 get,.int .u8 give,.int .i64 n,.int .i64 most] 289 (g:=w.heap.size+4) zV)
 have RR:Hid (SwR (((((w.alloc (.cells #[.pointer (some ⟨G,0,none⟩),.pointer (some ⟨gb,0,none⟩)] 80)).alloc (.cells #[.pointer none,.pointer none] 80)).alloc (.cells #[.slice none 0 0] 235)).alloc (.cells #[.int .i64 0] 33)).alloc (.cells #[.int .u8 fr,.int .u8 pt,.int .u8 get,.int .u8 give,.int .i64 n,.int .i64 most] 289)) w.heap.size none none none 0 0 0):=yH ⟨(((pAB (w.alloc (.cells #[.pointer (some ⟨G,0,none⟩),.pointer (some ⟨gb,0,none⟩)] 80)) #[.pointer none,.pointer none] 80 (g:=w.heap.size+1) zV).alloc (.cells #[.slice none 0 0] 235)).alloc (.cells #[.int .i64 0] 33)).alloc (.cells #[.int .u8 fr,.int .u8 pt,.int .u8 get,.int .u8 give,.int .i64 n,.int .i64 most] 289),
  ((pAB ((w.alloc (.cells #[.pointer (some ⟨G,0,none⟩),.pointer (some ⟨gb,0,none⟩)] 80)).alloc (.cells #[.pointer none,.pointer none] 80)) #[.slice none 0 0] 235 (g:=w.heap.size+2) zV).alloc (.cells #[.int .i64 0] 33)).alloc (.cells #[.int .u8 fr,.int .u8 pt,.int .u8 get,.int .u8 give,.int .i64 n,.int .i64 most] 289),
  (pAB (((w.alloc (.cells #[.pointer (some ⟨G,0,none⟩),.pointer (some ⟨gb,0,none⟩)] 80)).alloc (.cells #[.pointer none,.pointer none] 80)).alloc (.cells #[.slice none 0 0] 235)) #[.int .i64 0] 33 (g:=w.heap.size+3) zV).alloc (.cells #[.int .u8 fr,.int .u8 pt,.int .u8 get,.int .u8 give,.int .i64 n,.int .i64 most] 289)⟩
 have B:=yH b5;have CW:=yH (swrong_any HD (hL.below b5) hI (hP.below b5) hJ fr pt get give n most);have L5:=yH (hL.below b5);have P5:=yH (hP.below b5);have II:=yH hI;have JJ:=yH hJ;have HF:=yH hf;have HTo:=yH ht;have HGe:=yH hg;have HGi:=yH hv;obtain⟨er,her⟩:∃er,aHi ps fr pt get give n most=er:=⟨_,rfl⟩;rw[her]at CW;have HER:=yH her;have GE:=yH (show G<w.heap.size∧M<w.heap.size∧∀b,Foot gb vb b→b<w.heap.size from⟨hL.blk.lt,hL.map.lt,fun b hb=>(hP.lt hb).2⟩);clear b1 b2 b3 b4 b5 hL hI hP hJ hf ht hg hv her;generalize hW:((((w.alloc (.cells #[.pointer (some ⟨G,0,none⟩),.pointer (some ⟨gb,0,none⟩)] 80)).alloc (.cells #[.pointer none,.pointer none] 80)).alloc (.cells #[.slice none 0 0] 235)).alloc (.cells #[.int .i64 0] 33)).alloc (.cells #[.int .u8 fr,.int .u8 pt,.int .u8 get,.int .u8 give,.int .i64 n,.int .i64 most] 289)=W at *;have HW:=yH hW;clear hW;have h0:=KH.o.cell 0;have h1:=KH.o.cell 1;have s0:=KS.o.cell 0;have s1:=KS.o.cell 1;have s2:=KS.o.cell 2;have s3:=KS.o.cell 3;have s4:=KS.o.cell 4;have s5:=KS.o.cell 5;simp at h0 h1 s0 s1 s2 s3 s4 s5
 go_enter_defers Tryz.func154,Tryz.ntmps154
 go_upto_region 3 with fail
 rw[HW.o];go_wp2_with fail;refine CW.o.mono ?_;rintro e w1 ⟨rfl,b1⟩;have RR1:=yH (RR.o.below b1);have KH1:=yB KH b1;have KS1:=yB KS b1;have L1:=yH (L5.o.below b1);have P1:=yH (P5.o.below b1);have B1:=yT B b1;clear b1 h0 h1 s0 s1 s2 s3 s4 s5 KH KS RR B CW L5 P5
 by_cases hz:er=0
 ·subst hz;obtain⟨hmay,heq⟩:=aUn (ls:=ls) (l:=l) HER.o;have HMA:=yH hmay;have EQ:=yH heq;have RR2:=yH (RR1.o.stE 0);have kE:Keep (fun j=>j=w.heap.size+3) w1 (w1.setCell ⟨w.heap.size+3,0,none⟩ (.int .i64 0)):=Keep.setCell (S:=fun j=>j=w.heap.size+3) (Keep.refl _ _) (p:=⟨w.heap.size+3,0,none⟩) (.inl rfl) _;have KH2:=yH (KH1.o.keep kE zQ);have KS2:=yH (KS1.o.keep kE zQ);have L2:=yH (L1.o.keep kE zG zG);have P2:=yH (P1.o.keep kE (fun e=>by have:=GE.o.2.2 gb (.inl rfl);omega) (fun b hb e=>by have:=GE.o.2.2 b (.inr hb);omega));have B2:=yH (B1.o.setCell (p:=⟨w.heap.size+3,0,none⟩) zZ (.int .i64 0));have x0:=RR1.o.er.cell 0;have fz:=RR1.o.er.frozen 0;have y0:=RR2.o.er.cell 0;simp at x0 y0;generalize hW2:w1.setCell ⟨w.heap.size+3,0,none⟩ (.int .i64 0)=W2 at *;have HW2:=yH hW2;clear hW2 hmay heq kE KH1 KS1 L1 P1 RR1 B1
  go_upto_region 4 with fail
  rw[HW2.o];have h0:=KH2.o.cell 0;have h1:=KH2.o.cell 1;simp at h0 h1;have CC:=yH (HCp L2.o II.o P2.o JJ.o);go_wp2_with fail;refine CC.o.mono ?_;rintro e wc ⟨G2,M2,gb2,vb2,rfl,hL3,hP3,hg,hm,b3⟩;have RR3:=yH (RR2.o.below b3);have KS3:=yB KS2 b3;have L3:=yH hL3;have P3:=yH hP3;have B3:=yT B2 b3;have GE3:=yH (show W2.heap.size≤G2∧W2.heap.size≤M2∧W2.heap.size≤gb2∧(∀b,vb2.ownBlock=some b→W2.heap.size≤b)∧w.heap.size+4<W2.heap.size∧W2.heap.size≤wc.heap.size from⟨hg,hm,hP3.ge,fun b hb=>(hP3.lt (.inr hb)).1,KS2.o.lt,b3.size⟩);clear hL3 hP3 hg hm b3 h0 h1 x0 fz y0 CC RR2 KS2 B2 L2 P2 KH2
  go_upto_region 7 with(refine aAa rfl 80 (.tmp 14) (.tmp 35) rfl (w.heap.size+1) #[.pointer (some ⟨G2,0,none⟩),.pointer (some ⟨gb2,0,none⟩)] rfl rfl 80 _ RR3.o.af.out zW rfl zK ?_)
  have kA:=aAc (w:=wc) (w.heap.size+1) #[.pointer (some ⟨G2,0,none⟩),.pointer (some ⟨gb2,0,none⟩)];have RR4:=yH (RR3.o.stA (some ⟨G2,0,none⟩) (some ⟨gb2,0,none⟩));have KS4:=yH (KS3.o.keep kA zQ);have L4:=yH (L3.o.keep kA zH zH);have P4:=yH (P3.o.keep kA zH (fun b hb e=>by have h1:=GE3.o.2.2.2.1 b hb;have h2:=GE3.o.2.2.2.2;omega));have B4:=yH (below_setRow B3.o (by omega:w.heap.size≤w.heap.size+1) #[.pointer (some ⟨G2,0,none⟩),.pointer (some ⟨gb2,0,none⟩)]);have HSZ:Hid ((wc.setRow (w.heap.size+1) #[.pointer (some ⟨G2,0,none⟩),.pointer (some ⟨gb2,0,none⟩)]).heap.size=wc.heap.size):=yH (by simp[World.setRow]);generalize hW4:wc.setRow (w.heap.size+1) #[.pointer (some ⟨G2,0,none⟩),.pointer (some ⟨gb2,0,none⟩)]=W4 at *;clear hW4 kA RR3 KS3 L3 P3 B3;have s0:=KS4.o.cell 0;have s1:=KS4.o.cell 1;have s2:=KS4.o.cell 2;have s3:=KS4.o.cell 3;have s4:=KS4.o.cell 4;have s5:=KS4.o.cell 5;have a0:=RR4.o.af.cell 0;have a1:=RR4.o.af.cell 1;have al:=RR4.o.af.lt;simp at s0 s1 s2 s3 s4 s5 a0 a1;have CF:=yH (pfill_any HMy HD (base:=W2.heap.size) L4.o II.o (P4.o.below yZ) JJ.o zH zH (uQ GE3.o HSZ.o) fr pt get give n most HF.o HTo.o HGe.o HGi.o HMA.o.2.2.2.2.2.1 HMA.o.2.2.2.2.2.2);go_wp2_with fail;refine CF.o.mono ?_;rintro e wf hpf;clear s0 s1 s2 s3 s4 s5 a0 a1 al CF KS4;have DN:=yH (fun(a:Option Addr) (k c:Nat) (e':Int) (q:SwR wf w.heap.size (some ⟨G2,0,none⟩) (some ⟨gb2,0,none⟩) none 0 0 0)=>(q.stL a k c).stE e');rcases hpf with⟨er,a,k,c,hne,her,rfl,bf⟩|⟨vb3,a,c,σ,heq,rfl,hL,hP,hR,bf⟩
  ·have NO:Hid ((aDu ps ls l fr pt get give n most).1=er):=yH (by rw[EQ.o];exact her);have HNE:=yH hne;have q0:(er != 0)=true:=v6 hne
   clear hne her;have RRf:=yH (RR4.o.belowB bf zH);have RRq:=yH (DN.o a k c er RRf.o);have Bf:=yH (B4.o.trans (bf.mono zH));have Bq:=yH ((Bf.o.setCell (p:=⟨w.heap.size+2,0,none⟩) (by show w.heap.size≤w.heap.size+2;omega) (.slice a k c)).setCell (p:=⟨w.heap.size+3,0,none⟩) zZ (.int .i64 er));have RR5:=(RRf.o.stL a k c);have x0:=RRf.o.al.cell 0;have x1:=RRf.o.er.cell 0;have f0:=RRf.o.al.frozen 0;have y1:=RR5.er.cell 0;have f2:=RR5.er.frozen 0;simp at x0 x1 y1;generalize hWq:((wf.setCell ⟨w.heap.size+2,0,none⟩ (.slice a k c)).setCell ⟨w.heap.size+3,0,none⟩ (.int .i64 er))=Wq at *;have HWq:=yH hWq;clear hWq RR5
   go_upto_region 8 with fail
   rw[HWq.o]
   refine aAm zW [(.agg #[.pointer (some ⟨G2,0,none⟩),.pointer (some ⟨gb2,0,none⟩)]),(.slice a k c),(.int .i64 er),undef,undef,undef]
    (fun w'=>SwR w' w.heap.size (some ⟨G2,0,none⟩) (some ⟨gb2,0,none⟩) a k c er∧SwK w.heap.size Wq w') zW ⟨RRq.o.drew,(Keep.refl _ _).drew⟩ ?_
   intro af haf;simp only[yG,List.append_eq,List.cons_append,List.nil_append,puts,Act.put,yA,yC,yF,yD,yE]at haf;subst haf;refine⟨?_,?_⟩
   ·simp only[yG,List.append_eq,List.cons_append,List.nil_append,aBd];refine⟨?_,?_,?_,?_,?_,?_,trivial⟩
    ·intro w' hS;refine yO rfl ?_;have d0:=hS.1.af.cell 0;have d1:=hS.1.af.cell 1;simp at d0 d1;have HS:=yH hS;clear hS;go_wp2_with fail;all_goals first|exact HS|exact⟨rfl,HS⟩|rfl
    ·intro w' hS;refine yO rfl ?_;have d0:=hS.1.al.cell 0;simp at d0;have HS:=yH hS;clear hS;go_wp2_with fail;all_goals first|exact HS|exact⟨rfl,HS⟩|rfl
    ·intro w' hS;refine yO rfl ?_;have d0:=hS.1.er.cell 0;simp at d0;have HS:=yH hS;clear hS;go_wp2_with fail;all_goals first|exact HS|exact⟨rfl,HS⟩|rfl
    ·intro w' hS;refine yO rfl ?_;have d0:=hS.1.af.cell 0;have d1:=hS.1.af.cell 1;simp at d0 d1;have HS:=yH hS;clear hS;refine wp_store_row 80 (.tmp 14) (.tmp 42) rfl (w.heap.size+1) #[.pointer (some ⟨G2,0,none⟩),.pointer (some ⟨gb2,0,none⟩)] rfl rfl 80 _ HS.o.1.af.out zW rfl zK ⟨rfl,?_⟩;exact⟨HS.o.1.stA _ _,SwK.stA HS.o.2 _⟩
    ·intro w' hS;refine yO rfl ?_;have d0:=hS.1.al.cell 0;have dz:=hS.1.al.frozen 0;simp at d0;have HS:=yH hS;clear hS;go_wp2_with fail;exact⟨HS.o.1.stL _ _ _,SwK.st HS.o.2 (w.heap.size+2) zQ _⟩
    intro w' hS;refine yO rfl ?_;have d0:=hS.1.er.cell 0;have dz:=hS.1.er.frozen 0;simp at d0;have HS:=yH hS;clear hS;go_wp2_with fail;exact⟨HS.o.1.stE _,SwK.st HS.o.2 (w.heap.size+3) zQ _⟩
   intro wq hq;have BQ:=yH (Bq.o.trans (hq.2.below Bq.o.size (fun j hj h=>zQ)));go_wp2_with fail;refine aGq (g:=w.heap.size) rfl rfl rfl hq.1 q0 ?_;exact .inl ⟨er,HNE.o,NO.o,rfl,aNp BQ.o yL⟩
  have YES:Hid (aDu ps ls l fr pt get give n most=(0,σ)):=yH (by rw[EQ.o];exact heq);have RRf:=yH (RR4.o.belowB bf zH);have RRq:=yH (DN.o a σ.fs.length c 0 RRf.o);have Bf:=yH (B4.o.trans (bf.mono zH));have Bq:=yH ((Bf.o.setCell (p:=⟨w.heap.size+2,0,none⟩) (by show w.heap.size≤w.heap.size+2;omega) (.slice a σ.fs.length c)).setCell (p:=⟨w.heap.size+3,0,none⟩) zZ (.int .i64 0));have kq:Keep (fun j=>w.heap.size<j∧j<w.heap.size+4) wf ((wf.setCell ⟨w.heap.size+2,0,none⟩ (.slice a σ.fs.length c)).setCell ⟨w.heap.size+3,0,none⟩ (.int .i64 0)):=SwK.st (SwK.st (Keep.refl _ _) (w.heap.size+2) zQ _) (w.heap.size+3) zQ _;have RR5:=(RRf.o.stL a σ.fs.length c);have x0:=RRf.o.al.cell 0;have x1:=RRf.o.er.cell 0;have f0:=RRf.o.al.frozen 0;have y1:=RR5.er.cell 0;have f2:=RR5.er.frozen 0;simp at x0 x1 y1;have Lq:=yH (hL.keep kq zH zH);have Pq:=yH (hP.keep kq (uQ GE3.o hP.ge) (fun b hb e=>by have h1:=(hP.lt (.inr hb)).1;have h2:=GE3.o;omega));have Rq:=yH (hR.keep kq (fun b hb e=>by have h1:=(hR.type hb).1;have h2:=GE3.o;have h3:=HSZ.o;omega));clear hL hP hR heq;generalize hWq:((wf.setCell ⟨w.heap.size+2,0,none⟩ (.slice a σ.fs.length c)).setCell ⟨w.heap.size+3,0,none⟩ (.int .i64 0))=Wq at *;have HWq:=yH hWq;clear hWq RR5 kq
  go_upto_region 8 with fail
  rw[HWq.o]
  refine aAm zW [(.agg #[.pointer (some ⟨G2,0,none⟩),.pointer (some ⟨gb2,0,none⟩)]),(.slice a σ.fs.length c),(.int .i64 0),undef,undef,undef]
   (fun w'=>SwR w' w.heap.size (some ⟨G2,0,none⟩) (some ⟨gb2,0,none⟩) a σ.fs.length c 0∧SwK w.heap.size Wq w') zW ⟨RRq.o.drew,(Keep.refl _ _).drew⟩ ?_
  intro af haf;simp only[yG,List.append_eq,List.cons_append,List.nil_append,puts,Act.put,yA,yC,yF,yD,yE]at haf;subst haf;refine⟨?_,?_⟩
  ·simp only[yG,List.append_eq,List.cons_append,List.nil_append,aBd];refine⟨?_,?_,?_,?_,?_,?_,trivial⟩
   ·intro w' hS;refine yO rfl ?_;have d0:=hS.1.af.cell 0;have d1:=hS.1.af.cell 1;simp at d0 d1;have HS:=yH hS;clear hS;go_wp2_with fail;all_goals first|exact HS|exact⟨rfl,HS⟩|rfl
   ·intro w' hS;refine yO rfl ?_;have d0:=hS.1.al.cell 0;simp at d0;have HS:=yH hS;clear hS;go_wp2_with fail;all_goals first|exact HS|exact⟨rfl,HS⟩|rfl
   ·intro w' hS;refine yO rfl ?_;have d0:=hS.1.er.cell 0;simp at d0;have HS:=yH hS;clear hS;go_wp2_with fail;all_goals first|exact HS|exact⟨rfl,HS⟩|rfl
   ·intro w' hS;refine yO rfl ?_;have d0:=hS.1.af.cell 0;have d1:=hS.1.af.cell 1;simp at d0 d1;have HS:=yH hS;clear hS;refine wp_store_row 80 (.tmp 14) (.tmp 42) rfl (w.heap.size+1) #[.pointer (some ⟨G2,0,none⟩),.pointer (some ⟨gb2,0,none⟩)] rfl rfl 80 _ HS.o.1.af.out zW rfl zK ⟨rfl,?_⟩;exact⟨HS.o.1.stA _ _,SwK.stA HS.o.2 _⟩
   ·intro w' hS;refine yO rfl ?_;have d0:=hS.1.al.cell 0;have dz:=hS.1.al.frozen 0;simp at d0;have HS:=yH hS;clear hS;go_wp2_with fail;exact⟨HS.o.1.stL _ _ _,SwK.st HS.o.2 (w.heap.size+2) zQ _⟩
   intro w' hS;refine yO rfl ?_;have d0:=hS.1.er.cell 0;have dz:=hS.1.er.frozen 0;simp at d0;have HS:=yH hS;clear hS;go_wp2_with fail;exact⟨HS.o.1.stE _,SwK.st HS.o.2 (w.heap.size+3) zQ _⟩
  intro wq hq;have BQ:=yH (Bq.o.trans (hq.2.below Bq.o.size (fun j hj h=>zQ)));go_wp2_with fail;refine aSh (g:=w.heap.size) rfl rfl rfl hq.1 ?_;refine .inr ⟨G2,M2,gb2,vb3,a,c,σ,YES.o,HMA.o,rfl,Lq.o.keep hq.2 zH zH,?_,?_,zH,zH,BQ.o⟩
  ·have h2:=GE3.o;refine PB.down5 (Pq.o.keep hq.2 zQ (fun b hb e=>by have h1:=(Pq.o.lt (.inr hb)).1;omega)) zQ
  have h2:=GE3.o;have h3:=HSZ.o;refine aBk.base (Rq.o.keep hq.2 (fun b hb e=>by have h1:=(Rq.o.type hb).1;omega)) zQ
 have q0:(er != 0)=true:=wP
 have NO:=yH (aUm (ls:=ls) (l:=l) HER.o hz);have HZ:=yH hz;clear hz KH1 KS1 L1 P1;have RRq:=yH (RR1.o.stE er);have B2:=yH (B1.o.setCell (p:=⟨w.heap.size+3,0,none⟩) zZ (.int .i64 er));have x0:=RR1.o.er.cell 0;have fz:=RR1.o.er.frozen 0;have y0:=RRq.o.er.cell 0;simp at x0 y0;generalize hW2:w1.setCell ⟨w.heap.size+3,0,none⟩ (.int .i64 er)=W2 at *;have HW2:=yH hW2;clear hW2
 go_upto_region 4 with fail
 rw[HW2.o];go_wp2_with fail
 refine aAm zW [(.agg #[.pointer none,.pointer none]),(.slice none 0 0),(.int .i64 er),undef,undef,undef]
  (fun w'=>SwR w' w.heap.size none none none 0 0 er∧SwK w.heap.size W2 w') zW ⟨RRq.o.drew,(Keep.refl _ _).drew⟩ ?_
 intro af haf;simp only[yG,List.append_eq,List.cons_append,List.nil_append,puts,Act.put,yA,yC,yF,yD,yE]at haf;subst haf;refine⟨?_,?_⟩
 ·simp only[yG,List.append_eq,List.cons_append,List.nil_append,aBd];refine⟨?_,?_,?_,?_,?_,?_,trivial⟩
  ·intro w' hS;refine yO rfl ?_;have d0:=hS.1.af.cell 0;have d1:=hS.1.af.cell 1;simp at d0 d1;have HS:=yH hS;clear hS;go_wp2_with fail;all_goals first|exact HS|exact⟨rfl,HS⟩|rfl
  ·intro w' hS;refine yO rfl ?_;have d0:=hS.1.al.cell 0;simp at d0;have HS:=yH hS;clear hS;go_wp2_with fail;all_goals first|exact HS|exact⟨rfl,HS⟩|rfl
  ·intro w' hS;refine yO rfl ?_;have d0:=hS.1.er.cell 0;simp at d0;have HS:=yH hS;clear hS;go_wp2_with fail;all_goals first|exact HS|exact⟨rfl,HS⟩|rfl
  ·intro w' hS;refine yO rfl ?_;have d0:=hS.1.af.cell 0;have d1:=hS.1.af.cell 1;simp at d0 d1;have HS:=yH hS;clear hS;refine wp_store_row 80 (.tmp 14) (.tmp 31) rfl (w.heap.size+1) #[.pointer none,.pointer none] rfl rfl 80 _ HS.o.1.af.out zW rfl zK ⟨rfl,?_⟩;exact⟨HS.o.1.stA _ _,SwK.stA HS.o.2 _⟩
  ·intro w' hS;refine yO rfl ?_;have d0:=hS.1.al.cell 0;have dz:=hS.1.al.frozen 0;simp at d0;have HS:=yH hS;clear hS;go_wp2_with fail;exact⟨HS.o.1.stL _ _ _,SwK.st HS.o.2 (w.heap.size+2) zQ _⟩
  intro w' hS;refine yO rfl ?_;have d0:=hS.1.er.cell 0;have dz:=hS.1.er.frozen 0;simp at d0;have HS:=yH hS;clear hS;go_wp2_with fail;exact⟨HS.o.1.stE _,SwK.st HS.o.2 (w.heap.size+3) zQ _⟩
 intro wq hq;go_wp2_with fail;refine aGq (g:=w.heap.size) rfl rfl rfl hq.1 (by first|assumption|decide) ?_;exact .inl ⟨er,HZ.o,NO.o,rfl,aNp (B2.o.trans (hq.2.below B2.o.size (fun j hj h=>zQ))) yL⟩
end Go.Proofs.YtngnfdnfpiiclaaGreat
