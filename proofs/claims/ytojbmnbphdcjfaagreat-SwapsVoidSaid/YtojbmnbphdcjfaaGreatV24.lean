/-
  Pieces of one proof, without what is not wanted: Lives11, Ask11, SwapsVoid.
-/
import Derived.Test.YtojbmnbphdcjfaaGreatV02
import Derived.Test.YtojbmnbphdcjfaaGreatV05
import Derived.Test.YtojbmnbphdcjfaaGreatV06
import Derived.Test.YtojbmnbphdcjfaaGreatV16
import Derived.Test.YtojbmnbphdcjfaaGreatV17
import Derived.Test.YtojbmnbphdcjfaaGreatV18
import Derived.Test.YtojbmnbphdcjfaaGreatV23
import Derived.ChangeArms
import Derived.Lib.SmallJoins
set_option linter.unusedSimpArgs false
set_option linter.unusedVariables false
namespace Go.Proofs.YtojbmnbphdcjfaaGreat
open Go.RowKit
theorem lw_fits:∀ f ∈ [fv1,fv2],In64 f.gi:=by
 intro f hf
 rcases List.mem_cons.1 hf with rfl | hf
 ·unfold In64; decide
 ·rcases List.mem_cons.1 hf with rfl | hf
  ·unfold In64; decide
  ·cases hf
def Lives11:Prop:=∀ w:World,Calls Tryz.prog 8 #[] w fun e w'=>e=.returned (.bool true)∧Below w.heap.size w w'
set_option maxHeartbeats 16000000 in
set_option maxRecDepth 100000 in
theorem lives11_any (HMy:FMayProg) (HD:FDoProg) (HCp:FCopyProg):Lives11:=fun w=>by
 go_enter Tryz.func8,Tryz.ntmps8
 go_wp2_with fail
 refine (new_any w).mono ?_
 rintro e w0 ⟨G,M,rfl,h0,hG,hM,hb0⟩
 have H0:=Lib.hid h0
 have B0:=Lib.hid hb0
 have I0:=Lib.hid LInv.nil
 clear h0 hb0
 have c1:=Lib.hid (open_any H0.out I0.out.bd 1)
 rw [show openE [] 1=0 by decide,show openP [] 1=[1] by decide] at c1
 have I1:Hid (LInv [1] []):=Lib.hid (by have:=LInv.open I0.out 1; rwa [show openP [] 1=[1] by decide] at this)
 go_wp2_with fail
 refine c1.out.mono ?_
 rintro e w1 ⟨rfl,h1,k1⟩
 have H1:=Lib.hid h1
 have B1:=Lib.hid (B0.out.trans (k1.below B0.out.size (fun b hb e=>by omega)))
 clear h1 k1 c1 H0 B0 I0
 have c2:=Lib.hid (open_any H1.out I1.out.bd 2)
 rw [show openE [1] 2=0 by decide,show openP [1] 2=[1,2] by decide] at c2
 have I2:Hid (LInv [1,2] []):=Lib.hid (by have:=LInv.open I1.out 2; rwa [show openP [1] 2=[1,2] by decide] at this)
 go_wp2_with fail
 refine c2.out.mono ?_
 rintro e w2 ⟨rfl,h2,k2⟩
 have H2:=Lib.hid h2
 have B2:=Lib.hid (B1.out.trans (k2.below B1.out.size (fun b hb e=>by omega)))
 clear h2 k2 c2 H1 B1 I1
 have c3:=Lib.hid (open_any H2.out I2.out.bd 3)
 rw [show openE [1,2] 3=0 by decide,show openP [1,2] 3=[1,2,3] by decide] at c3
 have I3:Hid (LInv [1,2,3] []):=Lib.hid (by have:=LInv.open I2.out 3; rwa [show openP [1,2] 3=[1,2,3] by decide] at this)
 go_wp2_with fail
 refine c3.out.mono ?_
 rintro e w3 ⟨rfl,h3,k3⟩
 have H3:=Lib.hid h3
 have B3:=Lib.hid (B2.out.trans (k3.below B2.out.size (fun b hb e=>by omega)))
 clear h3 k3 c3 H2 B2 I2
 have c4:=Lib.hid (ptrust_any (a:=3) (b:=2) (c:=1) (n:=9) H3.out I3.out (by unfold In8; decide) (by unfold In8; decide) (by unfold In8; decide))
 rw [show trustE [1,2,3] [] 3 2 1 9=0 by decide,show trustL [1,2,3] [] 3 2 1 9=[⟨3,2,1,9,0⟩] by decide] at c4
 have I4:Hid (LInv [1,2,3] [⟨3,2,1,9,0⟩]):=Lib.hid (by have:=LInv.trust I3.out 3 2 1 9; rwa [show trustL [1,2,3] [] 3 2 1 9=[⟨3,2,1,9,0⟩] by decide] at this)
 go_wp2_with fail
 refine c4.out.mono ?_
 rintro e w4 ⟨rfl,h4,k4⟩
 have H4:=Lib.hid h4
 have B4:=Lib.hid (B3.out.trans (k4.below B3.out.size (fun b hb e=>by omega)))
 clear h4 k4 c4 H3 B3 I3
 have c5:=Lib.hid (ptrust_any (a:=2) (b:=1) (c:=2) (n:=7) H4.out I4.out (by unfold In8; decide) (by unfold In8; decide) (by unfold In8; decide))
 rw [show trustE [1,2,3] [⟨3,2,1,9,0⟩] 2 1 2 7=0 by decide,show trustL [1,2,3] [⟨3,2,1,9,0⟩] 2 1 2 7=[⟨3,2,1,9,0⟩,⟨2,1,2,7,0⟩] by decide] at c5
 have I5:Hid (LInv [1,2,3] [⟨3,2,1,9,0⟩,⟨2,1,2,7,0⟩]):=Lib.hid (by have:=LInv.trust I4.out 2 1 2 7; rwa [show trustL [1,2,3] [⟨3,2,1,9,0⟩] 2 1 2 7=[⟨3,2,1,9,0⟩,⟨2,1,2,7,0⟩] by decide] at this)
 go_wp2_with fail
 refine c5.out.mono ?_
 rintro e w5 ⟨rfl,h5,k5⟩
 have H5:=Lib.hid h5
 have B5:=Lib.hid (B4.out.trans (k5.below B4.out.size (fun b hb e=>by omega)))
 clear h5 k5 c5 H4 B4 I4
 have II:Hid (LInv p10 l10):=Lib.hid I5.out
 have L5:Hid (LedM w5 G M p10 l10):=Lib.hid H5.out
 clear H5 I5
 go_wp2_with fail
 refine (pnew_any w5 w.heap.size B5.out.size).mono ?_
 rintro e w6 ⟨rfl,h6,b6⟩
 have L6:=Lib.hid (L5.out.below b6)
 have P6:=Lib.hid h6
 have B6:=Lib.hid (B5.out.trans (b6.mono B5.out.size))
 clear h6 b6 L5 B5
 have C7:=Lib.hid (pplace_any (x:=⟨1,2,1,2,5,3,2⟩) P6.out (BInv.nil (N:=1) (by omega) (by omega)) ⟨by decide,by unfold In8; decide,by unfold In8; decide,by unfold In8; decide,by unfold In64; decide,by unfold In64; decide,by unfold In64; decide⟩)
 have J7:Hid (BInv o10 2):=Lib.hid (by have:=BInv.place (x:=⟨1,2,1,2,5,3,2⟩) (BInv.nil (N:=1) (by omega) (by omega)); rwa [show placeL [] ⟨1,2,1,2,5,3,2⟩=o10 by decide +kernel,show placeN [] ⟨1,2,1,2,5,3,2⟩=2 by decide +kernel] at this)
 rw [show placeS [] ⟨1,2,1,2,5,3,2⟩=1 by decide +kernel,show placeE [] ⟨1,2,1,2,5,3,2⟩=0 by decide +kernel,show placeL [] ⟨1,2,1,2,5,3,2⟩=o10 by decide +kernel,show placeN [] ⟨1,2,1,2,5,3,2⟩=2 by decide +kernel] at C7
 dsimp only at C7
 obtain ⟨gb,hgb⟩:∃ gb,w5.heap.size=gb:=⟨_,rfl⟩
 rw [hgb] at P6 C7 ⊢
 have HGB:=Lib.hid hgb
 clear hgb
 go_wp2_with fail
 refine C7.out.mono ?_
 rintro e w7 ⟨rfl,vb,h7,k7,_⟩
 have AP:=(P6.out.ne_map L6.out).2
 have L7:=Lib.hid (L6.out.keep k7 AP.1 AP.2)
 have P7:=Lib.hid h7
 have B7:=Lib.hid (B6.out.trans (k7.below B6.out.size (fun b hb e=>by have:=(P6.out.lt e).1; omega)))
 clear h7 k7 AP L6 P6 B6 C7
 have C8:=Lib.hid (pplace_any (x:=⟨2,2,1,2,5,1,1⟩) P7.out J7.out ⟨by decide,by unfold In8; decide,by unfold In8; decide,by unfold In8; decide,by unfold In64; decide,by unfold In64; decide,by unfold In64; decide⟩)
 have J8:Hid (BInv ov0 3):=Lib.hid (by have:=BInv.place (x:=⟨2,2,1,2,5,1,1⟩) J7.out; rwa [show placeL o10 ⟨2,2,1,2,5,1,1⟩=ov0 by decide +kernel,show placeN o10 ⟨2,2,1,2,5,1,1⟩=3 by decide +kernel] at this)
 rw [show placeS o10 ⟨2,2,1,2,5,1,1⟩=2 by decide +kernel,show placeE o10 ⟨2,2,1,2,5,1,1⟩=0 by decide +kernel,show placeL o10 ⟨2,2,1,2,5,1,1⟩=ov0 by decide +kernel,show placeN o10 ⟨2,2,1,2,5,1,1⟩=3 by decide +kernel] at C8
 dsimp only at C8
 go_wp2_with fail
 refine C8.out.mono ?_
 rintro e w8 ⟨rfl,vb8,h8,k8,_⟩
 have AP:=(P7.out.ne_map L7.out).2
 have L8:=Lib.hid (L7.out.keep k8 AP.1 AP.2)
 have P8:=Lib.hid h8
 have B8:=Lib.hid (B7.out.trans (k8.below B7.out.size (fun b hb e=>by have:=(P7.out.lt e).1; omega)))
 clear h8 k8 AP L7 P7 B7 C8
 have bh:=(Below.refl w8.heap.size w8).alloc (Nat.le_refl _) (.cells #[.pointer (some ⟨G,0,none⟩),.pointer (some ⟨gb,0,none⟩)] 32)
 have KH9:=Lib.hid (Blk.new w8 #[.pointer (some ⟨G,0,none⟩),.pointer (some ⟨gb,0,none⟩)] 32)
 have L9:=Lib.hid (L8.out.below bh)
 have P9:=Lib.hid (P8.out.below bh)
 have B9:=Lib.hid (B8.out.trans (bh.mono B8.out.size))
 have i8:∀ n:Int,0≤n→n≤255→In8 n:=fun n a b=>⟨a,b⟩
 have S:=Lib.hid (fun u (n most:Int) (h:LedM u G M p10 l10) (k:PB u w.heap.size gb ov0 3 vb8)=>pswap_any HMy HD HCp h II.out k J8.out 1 3 1 2 n most (i8 _ (by decide) (by decide)) (i8 _ (by decide) (by decide)) (i8 _ (by decide) (by decide)) (i8 _ (by decide) (by decide)))
 clear bh L8 P8 B8 i8
 have e0:=KH9.out.cell 0; have e1:=KH9.out.cell 1
 have kh:=KH9.out.lt
 simp at e0 e1
 go_wp2_with fail
 generalize w8.alloc (.cells #[.pointer (some ⟨G,0,none⟩),.pointer (some ⟨gb,0,none⟩)] 32)=w9 at *
 refine (S.out _ 6 7 L9.out P9.out).mono ?_
 rintro e w10 (⟨er,hne,her,_⟩ | ⟨G2,M2,gb2,vb2,a,c,σ,hσ,_,rfl,_,_,hR,_,_,b10⟩)
 ·rw [lw_sw1 II.out] at her
  exact absurd her.symm hne
 rw [lw_sw1 II.out] at hσ
 obtain rfl:=(Prod.mk.inj hσ).2
 have HR:=Lib.hid hR
 clear hσ hR
 have bf:=(Below.refl w10.heap.size w10).alloc (Nat.le_refl _) (.cells #[.pointer (some ⟨G2,0,none⟩),.pointer (some ⟨gb2,0,none⟩)] 32)
 have bb:=b10.trans (bf.mono b10.size)
 have L10:=Lib.hid (L9.out.below bb)
 have P10:=Lib.hid (P9.out.below bb)
 have KH10:=Lib.hid (KH9.out.below bb KH9.out.lt)
 have B10:=Lib.hid (B9.out.trans (bb.mono B9.out.size))
 have HR10:=Lib.hid (HR.out.below bf)
 clear b10 bf bb L9 P9 KH9 B9 e0 e1 kh HR
 have e0:=KH10.out.cell 0; have e1:=KH10.out.cell 1
 have kh:=KH10.out.lt
 simp at e0 e1
 go_wp2_with fail
 generalize w10.alloc (.cells #[.pointer (some ⟨G2,0,none⟩),.pointer (some ⟨gb2,0,none⟩)] 32)=w10 at *
 refine (S.out _ 6 6 L10.out P10.out).mono ?_
 rintro e w11 (⟨er,hne,her,rfl,b11⟩ | ⟨G2,M2,gb2,vb2,a,c,σ,hσ,_⟩)
 rotate_left
 ·have q:=congrArg Prod.fst hσ
  rw [lw_sw2 II.out] at q
  exact absurd q (by show ¬ (12:Int)=0; decide)
 obtain rfl:12=er:=by rw [← her]; exact (lw_sw2 II.out).symm
 clear hne her
 have bf:=(Below.refl w11.heap.size w11).alloc (Nat.le_refl _) (.cells #[.pointer none,.pointer none] 32)
 have bb:=b11.trans (bf.mono b11.size)
 have L11:=Lib.hid (L10.out.below bb)
 have P11:=Lib.hid (P10.out.below bb)
 have KH11:=Lib.hid (KH10.out.below bb KH10.out.lt)
 have B11:=Lib.hid (B10.out.trans (bb.mono B10.out.size))
 have HR11:=Lib.hid (HR10.out.below bb)
 clear b11 bf bb L10 P10 KH10 B10 e0 e1 kh HR10
 have e0:=KH11.out.cell 0; have e1:=KH11.out.cell 1
 have kh:=KH11.out.lt
 simp at e0 e1
 go_wp2_with fail
 generalize w11.alloc (.cells #[.pointer none,.pointer none] 32)=w11 at *
 refine (S.out _ 7 99 L11.out P11.out).mono ?_
 rintro e w12 (⟨er,hne,her,rfl,b12⟩ | ⟨G2,M2,gb2,vb2,a,c,σ,hσ,_⟩)
 rotate_left
 ·have q:=congrArg Prod.fst hσ
  rw [lw_sw3 II.out] at q
  exact absurd q (by show ¬ (11:Int)=0; decide)
 obtain rfl:11=er:=by rw [← her]; exact (lw_sw3 II.out).symm
 clear hne her
 have bf:=(Below.refl w12.heap.size w12).alloc (Nat.le_refl _) (.cells #[.pointer none,.pointer none] 32)
 have bb:=b12.trans (bf.mono b12.size)
 have L12:=Lib.hid (L11.out.below bb)
 have P12:=Lib.hid (P11.out.below bb)
 have KH12:=Lib.hid (KH11.out.below bb KH11.out.lt)
 have B12:=Lib.hid (B11.out.trans (bb.mono B11.out.size))
 have HR12:=Lib.hid (HR11.out.below bb)
 clear b12 bf bb L11 P11 KH11 B11 e0 e1 kh HR11
 have e0:=KH12.out.cell 0; have e1:=KH12.out.cell 1
 have kh:=KH12.out.lt
 simp at e0 e1
 go_wp2_with fail
 generalize w12.alloc (.cells #[.pointer none,.pointer none] 32)=w12 at *
 refine (S.out _ 0 9 L12.out P12.out).mono ?_
 rintro e w13 (⟨er,hne,her,rfl,b13⟩ | ⟨G2,M2,gb2,vb2,a,c,σ,hσ,_⟩)
 rotate_left
 ·have q:=congrArg Prod.fst hσ
  rw [lw_sw4] at q
  exact absurd q (by show ¬ (1:Int)=0; decide)
 obtain rfl:1=er:=by rw [← her]; exact (lw_sw4).symm
 clear hne her
 have bf:=(Below.refl w13.heap.size w13).alloc (Nat.le_refl _) (.cells #[.pointer none,.pointer none] 32)
 have bb:=b13.trans (bf.mono b13.size)
 have L13:=Lib.hid (L12.out.below bb)
 have P13:=Lib.hid (P12.out.below bb)
 have KH13:=Lib.hid (KH12.out.below bb KH12.out.lt)
 have B13:=Lib.hid (B12.out.trans (bb.mono B12.out.size))
 have HR13:=Lib.hid (HR12.out.below bb)
 clear b13 bf bb L12 P12 KH12 B12 e0 e1 kh HR12
 have e0:=KH13.out.cell 0; have e1:=KH13.out.cell 1
 have kh:=KH13.out.lt
 simp at e0 e1
 go_upto_region 15 with fail
 generalize w13.alloc (.cells #[.pointer none,.pointer none] 32)=w13 at *
 obtain ⟨ao,cap,hv,hc1,hc2,_,hcc⟩:=HR13.out.look
 cases hv
 have CG:=Lib.hid (pgiven_in (cap:=c) (rowed_fills HR13.out) lw_fits (by decide) hc1 hc2)
 rw [show okN ([fv1,fv2].map Fl.gi).sum=7 by decide] at CG
 obtain ⟨b,rfl,_,hb,hc,_⟩:=hcc (by decide)
 have d0:=hc 0 (by decide); have d1:=hc 1 (by decide); have d2:=hc 2 (by decide); have d3:=hc 3 (by decide); have d4:=hc 4 (by decide)
 have d5:=hc 5 (by decide); have d6:=hc 6 (by decide); have d7:=hc 7 (by decide); have d8:=hc 8 (by decide); have d9:=hc 9 (by decide)
 simp [flCells,Fl.vals,fv1,fv2] at d0 d1 d2 d3 d4 d5 d6 d7 d8 d9
 unfold maxLen at hc2
 clear hc hcc e0 e1 kh
 simp only [List.length_cons,List.length_nil] at CG ⊢
 go_wp2_with fail
 refine CG.out.mono ?_
 rintro e wz ⟨rfl,bz⟩
 have BZ:=Lib.hid (B13.out.trans (bz.mono B13.out.size))
 clear bz CG d0 d1 d2 d3 d4 d5 d6 d7 d8 d9
 go_wp2_with fail
 go_ret
 exact ⟨rfl,BZ.out⟩
end Go.Proofs.YtojbmnbphdcjfaaGreat
namespace Go.Proofs.YtojbmnbphdcjfaaGreat
open Go.RowKit Go.ChangeShapes Go.WideShapes Go.Deep Go.Joins
structure Sk where
 fr:Int
 pt:Int
 get:Int
 give:Int
 n:Int
 mo:Int
def Sk.vals (x:Sk):List Value:=[.int .u8 x.fr,.int .u8 x.pt,.int .u8 x.get,.int .u8 x.give,.int .i64 x.n,.int .i64 x.mo]
structure Sk.Fits (x:Sk):Prop where
 fr:In8 x.fr
 pt:In8 x.pt
 get:In8 x.get
 give:In8 x.give
 n:In64 x.n
 mo:In64 x.mo
section
variable {H:Type} {enc:TypeId × Value→H} {P:Program} {w:World} {base:Nat} {spare:Nat→Bool} {held:Bool}
theorem ask11_of {t:TypeId} {f0 f1 f2 f3 f4 f5:Field} (hu:P.underlying t=some (.struct #[f0,f1,f2,f3,f4,f5])) (hC:P.cellsOf t=6)
  (o:f0.offset=0∧f1.offset=1∧f2.offset=2∧f3.offset=3∧f4.offset=4∧f5.offset=5) (c:P.cellsOf f0.type=1∧P.cellsOf f1.type=1∧P.cellsOf f2.type=1∧P.cellsOf f3.type=1∧P.cellsOf f4.type=1∧P.cellsOf f5.type=1)
  (k:P.underlying f0.type=some (.int .u8)∧P.underlying f1.type=some (.int .u8)∧P.underlying f2.type=some (.int .u8)∧P.underlying f3.type=some (.int .u8)∧P.underlying f4.type=some (.int .i64)∧P.underlying f5.type=some (.int .i64))
  {fuel:Nat} {cs:List Value} {x:DataW H × List MemPlace} (h:DataW.trod enc P w base spare held fuel t cs=some x):∃ x:Sk,x.Fits∧cs=x.vals:=by
 obtain ⟨xs,n,_,_,hlen,hxl,hf⟩:=DataW.trod_struct hu h
 rw [hC] at hlen
 obtain ⟨m0,e0,w0⟩:=num_of hxl hf (j:=0) rfl o.1 c.1 k.1 (by omega)
 obtain ⟨m1,e1,w1⟩:=num_of hxl hf (j:=1) rfl o.2.1 c.2.1 k.2.1 (by omega)
 obtain ⟨m2,e2,w2⟩:=num_of hxl hf (j:=2) rfl o.2.2.1 c.2.2.1 k.2.2.1 (by omega)
 obtain ⟨m3,e3,w3⟩:=num_of hxl hf (j:=3) rfl o.2.2.2.1 c.2.2.2.1 k.2.2.2.1 (by omega)
 obtain ⟨m4,e4,w4⟩:=num_of hxl hf (j:=4) rfl o.2.2.2.2.1 c.2.2.2.2.1 k.2.2.2.2.1 (by omega)
 obtain ⟨m5,e5,w5⟩:=num_of hxl hf (j:=5) rfl o.2.2.2.2.2 c.2.2.2.2.2 k.2.2.2.2.2 (by omega)
 match cs,hlen with
 | [a0,a1,a2,a3,a4,a5],_ =>
  simp at e0 e1 e2 e3 e4 e5
  subst e0 e1 e2 e3 e4 e5
  exact ⟨⟨m0,m1,m2,m3,m4,m5⟩,⟨In8.of_wf w0,In8.of_wf w1,In8.of_wf w2,In8.of_wf w3,In64.of_wf w4,In64.of_wf w5⟩,rfl⟩
end
section
variable {H:Type} {enc:TypeId × Value→H} {w:World} {base:Nat} {spare:Nat→Bool} {held:Bool}
theorem ask11_read {fuel:Nat} {cs:List Value} {x:DataW H × List MemPlace} (h:DataW.trod enc Tryz.prog w base spare held fuel 42 cs=some x):∃ x:Sk,x.Fits∧cs=x.vals :=
 ask11_of Tryz.underlying42 (by kernel_rfl) ⟨rfl,rfl,rfl,rfl,rfl,rfl⟩ ⟨by kernel_rfl,by kernel_rfl,by kernel_rfl,by kernel_rfl,by kernel_rfl,by kernel_rfl⟩
  ⟨Tryz.underlying39,Tryz.underlying39,Tryz.underlying40,Tryz.underlying40,Tryz.underlying2,Tryz.underlying2⟩ h
set_option maxRecDepth 100000 in
theorem ask11_open {r:Reach} {b0:Nat} {v:Value} {d:DataW H} {p:List MemPlace} (hv:Value.okWide Tryz.prog w r b0 42 v) (h:DataW.Trod enc Tryz.prog w base spare held 42 v d p) :
  ∃ x:Sk,v=.agg #[.int .u8 x.fr,.int .u8 x.pt,.int .u8 x.get,.int .u8 x.give,.int .i64 x.n,.int .i64 x.mo]∧x.Fits:=by
 obtain ⟨cs,rfl,_⟩:=okWide_struct Tryz.underlying42 hv
 obtain ⟨fuel,hf⟩:=h
 obtain ⟨x,hx,hc⟩:=ask11_read hf
 refine ⟨x,?_,hx⟩
 have:cs.toList=x.vals:=by simpa [Value.cells] using hc
 rw [show cs=x.vals.toArray by rw [← this]]
 rfl
end
end Go.Proofs.YtojbmnbphdcjfaaGreat
namespace Go.Proofs.YtojbmnbphdcjfaaGreat
open Go.RowKit
theorem answers_void11 {w:World} {lp:Option Addr} (h:Void w (.pointer lp)):Answers w lp 2 (fun _=>false) :=
 ⟨fun w' k=>void_open (h.below k) 0,fun w' k p=>void_has (h.below k) p⟩
theorem ledC_void11:ledC [] (.map none)=#[.bool false,.bool false,.bool false,.bool false,.bool false,.bool false,.bool false,.bool false,.bool false,.bool false,.bool false,.bool false,.bool false,.bool false,.bool false,.bool false,.bool false,.map none]:=by
 unfold ledC
 rfl
def Unmade (w:World) (lp bp:Option Addr):Prop:=∀ w',Below w.heap.size w w'→Calls Tryz.prog 83 #[.agg #[.pointer lp,.pointer bp]] w' fun e w''=>e=.returned (.bool false)∧Below w'.heap.size w' w''
theorem unmade_of {w:World} {lp bp:Option Addr} {e0 N:Int} {has:Int→Bool} (h:Answers w lp e0 has) (hn:∀ w',Below w.heap.size w w'→Calls Tryz.prog 72 #[.pointer bp] w' fun e w''=>e=.returned (.int .u64 N)∧w'=w'') (he:e0=2∨N=0):Unmade w lp bp :=
 fun w' k=>smade_of (er:=2) (fun w2 q=>hdo_void ((h.below k).below q) (fun w3 r=>hn w3 (andB k (andB q r))) he 0 0 0 0)
def VoidAt11 (W:World) (i:Value) (wr:World):Prop:=∃ k:Nat,k≤4∧i=.int .i64 k∧Below W.heap.size W wr
set_option maxHeartbeats 16000000 in
set_option maxRecDepth 100000 in
theorem svoid11_walk (HL:Lives11) (x:Sk) (w:World) (hx:x.Fits) :
  Calls Tryz.prog 4 #[.agg #[.int .u8 x.fr,.int .u8 x.pt,.int .u8 x.get,.int .u8 x.give,.int .i64 x.n,.int .i64 x.mo]] w fun e w'=>e=.returned (.bool true)∧Below w.heap.size w w':=by
 clear hx
 have HLo:=Lib.hid HL
 have b0:=(Below.refl w.heap.size w).alloc (Nat.le_refl _) (.cells #[.int .u8 x.fr,.int .u8 x.pt,.int .u8 x.get,.int .u8 x.give,.int .i64 x.n,.int .i64 x.mo] 42)
 have KA:=Lib.hid (Blk.new w #[.int .u8 x.fr,.int .u8 x.pt,.int .u8 x.get,.int .u8 x.give,.int .i64 x.n,.int .i64 x.mo] 42)
 have B0:=Lib.hid b0
 clear b0 HL
 go_enter Tryz.func4,Tryz.ntmps4
 go_wp2_with fail
 generalize w.alloc (.cells #[.int .u8 x.fr,.int .u8 x.pt,.int .u8 x.get,.int .u8 x.give,.int .i64 x.n,.int .i64 x.mo] 42)=W0 at *
 refine (new_any W0).mono ?_
 rintro e w1 ⟨G,M,rfl,hL,_,_,b1⟩
 have L1:=Lib.hid hL
 have KA1:=Lib.hid (KA.out.below b1 KA.out.lt)
 have B1:=Lib.hid (B0.out.trans (b1.mono B0.out.size))
 clear hL b1 KA B0
 go_wp2_with fail
 refine (pnew_any w1 0 (by omega)).mono ?_
 rintro e w2 ⟨rfl,hP,b2⟩
 obtain ⟨gb,hgb⟩:∃ gb,w1.heap.size=gb:=⟨_,rfl⟩
 rw [hgb] at hP ⊢
 clear hgb
 have c1:=(Below.refl w2.heap.size w2).alloc (Nat.le_refl _) (.cells #[.bool false,.bool false,.bool false,.bool false,.bool false,.bool false,.bool false,.bool false,.bool false,.bool false,.bool false,.bool false,.bool false,.bool false,.bool false,.bool false,.bool false,.map none] 60)
 have c2:=c1.alloc c1.size (.cells #[.slice none 0 0,.int .u64 0] 64)
 have c3:=c2.alloc c2.size (.cells #[.pointer none,.pointer none,.pointer (some ⟨G,0,none⟩),.pointer none,.pointer none,.pointer (some ⟨gb,0,none⟩),.pointer (some ⟨w2.heap.size,0,none⟩),.pointer (some ⟨w2.heap.size + 1,0,none⟩)] 32)
 have b3:=b2.trans (c3.mono b2.size)
 have L3:=Lib.hid (L1.out.below b3)
 have P3:=Lib.hid (hP.below c3)
 have KA3:=Lib.hid (KA1.out.below b3 KA1.out.lt)
 have B3:=Lib.hid (B1.out.trans (b3.mono B1.out.size))
 have KL:=Lib.hid (((Blk.new w2 #[.bool false,.bool false,.bool false,.bool false,.bool false,.bool false,.bool false,.bool false,.bool false,.bool false,.bool false,.bool false,.bool false,.bool false,.bool false,.bool false,.bool false,.map none] 60).alloc (.cells #[.slice none 0 0,.int .u64 0] 64)).alloc (.cells #[.pointer none,.pointer none,.pointer (some ⟨G,0,none⟩),.pointer none,.pointer none,.pointer (some ⟨gb,0,none⟩),.pointer (some ⟨w2.heap.size,0,none⟩),.pointer (some ⟨w2.heap.size + 1,0,none⟩)] 32))
 have KB:=Lib.hid ((Blk.newAt (w2.alloc (.cells #[.bool false,.bool false,.bool false,.bool false,.bool false,.bool false,.bool false,.bool false,.bool false,.bool false,.bool false,.bool false,.bool false,.bool false,.bool false,.bool false,.bool false,.map none] 60)) #[.slice none 0 0,.int .u64 0] 64 (g:=w2.heap.size + 1) (by simp)).alloc (.cells #[.pointer none,.pointer none,.pointer (some ⟨G,0,none⟩),.pointer none,.pointer none,.pointer (some ⟨gb,0,none⟩),.pointer (some ⟨w2.heap.size,0,none⟩),.pointer (some ⟨w2.heap.size + 1,0,none⟩)] 32))
 have KS:=Lib.hid (Blk.newAt ((w2.alloc (.cells #[.bool false,.bool false,.bool false,.bool false,.bool false,.bool false,.bool false,.bool false,.bool false,.bool false,.bool false,.bool false,.bool false,.bool false,.bool false,.bool false,.bool false,.map none] 60)).alloc (.cells #[.slice none 0 0,.int .u64 0] 64)) #[.pointer none,.pointer none,.pointer (some ⟨G,0,none⟩),.pointer none,.pointer none,.pointer (some ⟨gb,0,none⟩),.pointer (some ⟨w2.heap.size,0,none⟩),.pointer (some ⟨w2.heap.size + 1,0,none⟩)] 32 (g:=w2.heap.size + 2) (by simp))
 clear hP b2 b3 c1 c2 c3 KA1 B1 L1
 go_wp2_with fail
 generalize ((w2.alloc (.cells #[.bool false,.bool false,.bool false,.bool false,.bool false,.bool false,.bool false,.bool false,.bool false,.bool false,.bool false,.bool false,.bool false,.bool false,.bool false,.bool false,.bool false,.map none] 60)).alloc (.cells #[.slice none 0 0,.int .u64 0] 64)).alloc (.cells #[.pointer none,.pointer none,.pointer (some ⟨G,0,none⟩),.pointer none,.pointer none,.pointer (some ⟨gb,0,none⟩),.pointer (some ⟨w2.heap.size,0,none⟩),.pointer (some ⟨w2.heap.size + 1,0,none⟩)] 32)=W at *
 rw [← ledC_void11] at KL
 obtain ⟨S,hS⟩:∃ S,w2.heap.size + 2=S:=⟨_,rfl⟩
 rw [show w2.heap.size + 1 + 1=S from hS]
 rw [hS] at KS
 have HSS:=Lib.hid hS
 clear hS
 obtain ⟨A1,hA1⟩:∃ A1,w2.heap.size=A1:=⟨_,rfl⟩
 obtain ⟨A2,hA2⟩:∃ A2,w2.heap.size + 1=A2:=⟨_,rfl⟩
 rw [hA2] at KS KB
 rw [hA1] at KS KL
 clear hA1 hA2
 go_loopw [4,5,6,7] (fun i _ _ _ wr=>VoidAt11 W i wr) (fun i _ _ _ _=>4 - (intOf i).toNat)
 case atStart=>exact ⟨0,by omega,rfl,Below.refl _ _⟩
 case round =>
  obtain ⟨k,hk,rfl,hbr⟩:=hrel
  by_cases hk4:k<4
  ·obtain ⟨lp,bp,HB,HS0⟩:∃ lp bp,Hid (Unmade wr lp bp)∧Hid (∀ w',Below wr.heap.size wr w'→S<w'.heap.size∧w'.cell? ⟨S,k * 2,none⟩=some (.pointer lp)∧w'.cell? ⟨S,k * 2 + 1,none⟩=some (.pointer bp)):=by
    have ks:=KS.out.below hbr KS.out.lt
    have kl:=KL.out.below hbr KL.out.lt
    have kb:=KB.out.below hbr KB.out.lt
    have ll:=L3.out.below hbr
    have pp:=P3.out.below hbr
    rcases (by omega:k=0∨k=1∨k=2∨k=3) with rfl | rfl | rfl | rfl
    ·exact ⟨none,none,Lib.hid (unmade_of (answers_void11 (void_nil wr)) (fun w' _=>pnext_nil w') (.inl rfl)),Lib.hid fun w' h=>⟨(ks.below h ks.lt).lt,(by simpa using (ks.below h ks.lt).cell 0),(by simpa using (ks.below h ks.lt).cell 1)⟩⟩
    ·exact ⟨_,none,Lib.hid (unmade_of (answers_led ll LInv.nil) (fun w' _=>pnext_nil w') (.inr rfl)),Lib.hid fun w' h=>⟨(ks.below h ks.lt).lt,(by simpa using (ks.below h ks.lt).cell 2),(by simpa using (ks.below h ks.lt).cell 3)⟩⟩
    ·exact ⟨none,_,Lib.hid (unmade_of (answers_void11 (void_nil wr)) (fun w' q=>pnext_any (pp.below q).blk) (.inl rfl)),Lib.hid fun w' h=>⟨(ks.below h ks.lt).lt,(by simpa using (ks.below h ks.lt).cell 4),(by simpa using (ks.below h ks.lt).cell 5)⟩⟩
    ·exact ⟨_,_,Lib.hid (unmade_of (answers_void11 (void_zero kl)) (fun w' q=>pnext_any (kb.below q kb.lt)) (.inl rfl)),Lib.hid fun w' h=>⟨(ks.below h ks.lt).lt,(by simpa using (ks.below h ks.lt).cell 6),(by simpa using (ks.below h ks.lt).cell 7)⟩⟩
   have KAr:=Lib.hid (KA3.out.below hbr KA3.out.lt)
   have BR:=Lib.hid hbr
   have CD:=Lib.hid (fun w' (h:Below wr.heap.size wr w')=>(show Calls Tryz.prog 11 #[.agg #[.pointer lp,.pointer bp],.int .u8 x.fr,.int .u8 x.pt,.int .u8 x.get,.int .u8 x.give,.int .i64 x.n,.int .i64 x.mo] w' fun e w''=>e=.returned (.tuple #[.agg #[.pointer none,.pointer none],.slice none 0 0,.int .i64 2])∧Below w'.heap.size w' w'' from pswap_void x.fr x.pt x.get x.give x.n x.mo (fun w2 q=>HB.out w2 (andB h q))))
   have HK:=Lib.hid hk4
   have hki:(k:Int)<4:=by omega
   have hk0:(0:Int)≤(k:Int):=by omega
   have hk3:(k:Int) + 1≤9:=by omega
   clear hbr
   go_wp2_with fail
   refine region_ghost (by kernel_rfl) (fun g:Nat→Nat=>[(.slice (some ⟨S,0,none⟩) 4 4),(.int .i64 k),(.pointer (some ⟨S,k * 2,none⟩)),(.agg #[.pointer lp,.pointer bp]),(.pointer (some ⟨w.heap.size,0,none⟩)),(.int .u8 x.fr),(.pointer (some ⟨w.heap.size,1,none⟩)),(.int .u8 x.pt),(.pointer (some ⟨w.heap.size,2,none⟩)),(.int .u8 x.get),(.pointer (some ⟨w.heap.size,3,none⟩)),(.int .u8 x.give),(.pointer (some ⟨w.heap.size,4,none⟩)),(.int .i64 x.n),(.pointer (some ⟨w.heap.size,5,none⟩)),(.int .i64 x.mo),(.tuple #[.agg #[.pointer none,.pointer none],.slice none 0 0,.int .i64 2]),(.tuple #[.agg #[.pointer none,.pointer none],.slice none 0 0,.int .i64 2]),(.agg #[.pointer none,.pointer none]),(.slice none 0 0),(.int .i64 2),(.pointer (some ⟨g 21,0,none⟩)),undef,(.slice none 0 0),(.int .i64 2)])
    (Lays wr [(⟨21,22,(.cells #[.pointer none,.pointer none] 32),(.cells #[.pointer none,.pointer none] 32)⟩:Spec)]) (by kernel_rfl) (fun _=>0) (Lays.start _ _ _) ?_
   intro AF hAF
   simp only [List.toList_toArray,puts,Act.put,List.getD_cons_zero,List.getD_cons_succ,List.setIfInBounds_toArray,List.set_cons_succ,List.set_cons_zero] at hAF
   have hAF2:_=AF:=funext hAF
   subst hAF2
   clear hAF
   refine ⟨?_,?_⟩
   ·simp only [List.toList_toArray,EachG]
    refine ⟨?_,?_,?_,?_,?_,?_,?_,?_,?_,?_,?_,?_,?_,?_,?_,?_,?_,?_,?_,?_,?_,?_,?_,?_,?_,trivial⟩
    ·intro g D w' hD hW hC hI
     refine ⟨g,fun _ _ _=>rfl,?_⟩
     with_reducible refine OpTo.plain ?_ ?_
     exact rfl
     have hS:=hI.below
     have HS:=Lib.hid (hI.step (Below.refl _ _) (k:=0) (by rfl))
     clear hI hS hC hW hD
     go_wp2_with fail
     all_goals first | exact HS.out | exact ⟨rfl,HS.out⟩ | rfl
    ·intro g D w' hD hW hC hI
     refine ⟨g,fun _ _ _=>rfl,?_⟩
     with_reducible refine OpTo.plain ?_ ?_
     exact rfl
     have hS:=hI.below
     have HS:=Lib.hid (hI.step (Below.refl _ _) (k:=1) (by rfl))
     clear hI hS hC hW hD
     go_wp2_with fail
     all_goals first | exact HS.out | exact ⟨rfl,HS.out⟩ | rfl
    ·intro g D w' hD hW hC hI
     refine ⟨g,fun _ _ _=>rfl,?_⟩
     with_reducible refine OpTo.plain ?_ ?_
     exact rfl
     have hS:=hI.below
     obtain ⟨hsl,hc0,hc1⟩:=HS0.out w' hS
     have HS:=Lib.hid (hI.step (Below.refl _ _) (k:=2) (by rfl))
     clear hI hS hC hW hD
     go_wp2_with fail
     all_goals first | exact HS.out | exact ⟨rfl,HS.out⟩ | rfl
    ·intro g D w' hD hW hC hI
     refine ⟨g,fun _ _ _=>rfl,?_⟩
     with_reducible refine OpTo.plain ?_ ?_
     exact rfl
     have hS:=hI.below
     obtain ⟨hsl,hc0,hc1⟩:=HS0.out w' hS
     have HS:=Lib.hid (hI.step (Below.refl _ _) (k:=3) (by rfl))
     clear hI hS hC hW hD
     go_wp2_with fail
     all_goals first | exact HS.out | exact ⟨rfl,HS.out⟩ | rfl
    ·intro g D w' hD hW hC hI
     refine ⟨g,fun _ _ _=>rfl,?_⟩
     with_reducible refine OpTo.plain ?_ ?_
     exact rfl
     have hS:=hI.below
     have kx:=KAr.out.below hS KAr.out.lt
     have hl:=kx.lt
     have e0:=kx.cell 0; have e1:=kx.cell 1; have e2:=kx.cell 2; have e3:=kx.cell 3; have e4:=kx.cell 4; have e5:=kx.cell 5
     simp at e0 e1 e2 e3 e4 e5
     clear kx
     have HS:=Lib.hid (hI.step (Below.refl _ _) (k:=4) (by rfl))
     clear hI hS hC hW hD
     go_wp2_with fail
     all_goals first | exact HS.out | exact ⟨rfl,HS.out⟩ | rfl
    ·intro g D w' hD hW hC hI
     refine ⟨g,fun _ _ _=>rfl,?_⟩
     with_reducible refine OpTo.plain ?_ ?_
     exact rfl
     have hS:=hI.below
     have kx:=KAr.out.below hS KAr.out.lt
     have hl:=kx.lt
     have e0:=kx.cell 0; have e1:=kx.cell 1; have e2:=kx.cell 2; have e3:=kx.cell 3; have e4:=kx.cell 4; have e5:=kx.cell 5
     simp at e0 e1 e2 e3 e4 e5
     clear kx
     have HS:=Lib.hid (hI.step (Below.refl _ _) (k:=5) (by rfl))
     clear hI hS hC hW hD
     go_wp2_with fail
     all_goals first | exact HS.out | exact ⟨rfl,HS.out⟩ | rfl
    ·intro g D w' hD hW hC hI
     refine ⟨g,fun _ _ _=>rfl,?_⟩
     with_reducible refine OpTo.plain ?_ ?_
     exact rfl
     have hS:=hI.below
     have kx:=KAr.out.below hS KAr.out.lt
     have hl:=kx.lt
     have e0:=kx.cell 0; have e1:=kx.cell 1; have e2:=kx.cell 2; have e3:=kx.cell 3; have e4:=kx.cell 4; have e5:=kx.cell 5
     simp at e0 e1 e2 e3 e4 e5
     clear kx
     have HS:=Lib.hid (hI.step (Below.refl _ _) (k:=6) (by rfl))
     clear hI hS hC hW hD
     go_wp2_with fail
     all_goals first | exact HS.out | exact ⟨rfl,HS.out⟩ | rfl
    ·intro g D w' hD hW hC hI
     refine ⟨g,fun _ _ _=>rfl,?_⟩
     with_reducible refine OpTo.plain ?_ ?_
     exact rfl
     have hS:=hI.below
     have kx:=KAr.out.below hS KAr.out.lt
     have hl:=kx.lt
     have e0:=kx.cell 0; have e1:=kx.cell 1; have e2:=kx.cell 2; have e3:=kx.cell 3; have e4:=kx.cell 4; have e5:=kx.cell 5
     simp at e0 e1 e2 e3 e4 e5
     clear kx
     have HS:=Lib.hid (hI.step (Below.refl _ _) (k:=7) (by rfl))
     clear hI hS hC hW hD
     go_wp2_with fail
     all_goals first | exact HS.out | exact ⟨rfl,HS.out⟩ | rfl
    ·intro g D w' hD hW hC hI
     refine ⟨g,fun _ _ _=>rfl,?_⟩
     with_reducible refine OpTo.plain ?_ ?_
     exact rfl
     have hS:=hI.below
     have kx:=KAr.out.below hS KAr.out.lt
     have hl:=kx.lt
     have e0:=kx.cell 0; have e1:=kx.cell 1; have e2:=kx.cell 2; have e3:=kx.cell 3; have e4:=kx.cell 4; have e5:=kx.cell 5
     simp at e0 e1 e2 e3 e4 e5
     clear kx
     have HS:=Lib.hid (hI.step (Below.refl _ _) (k:=8) (by rfl))
     clear hI hS hC hW hD
     go_wp2_with fail
     all_goals first | exact HS.out | exact ⟨rfl,HS.out⟩ | rfl
    ·intro g D w' hD hW hC hI
     refine ⟨g,fun _ _ _=>rfl,?_⟩
     with_reducible refine OpTo.plain ?_ ?_
     exact rfl
     have hS:=hI.below
     have kx:=KAr.out.below hS KAr.out.lt
     have hl:=kx.lt
     have e0:=kx.cell 0; have e1:=kx.cell 1; have e2:=kx.cell 2; have e3:=kx.cell 3; have e4:=kx.cell 4; have e5:=kx.cell 5
     simp at e0 e1 e2 e3 e4 e5
     clear kx
     have HS:=Lib.hid (hI.step (Below.refl _ _) (k:=9) (by rfl))
     clear hI hS hC hW hD
     go_wp2_with fail
     all_goals first | exact HS.out | exact ⟨rfl,HS.out⟩ | rfl
    ·intro g D w' hD hW hC hI
     refine ⟨g,fun _ _ _=>rfl,?_⟩
     with_reducible refine OpTo.plain ?_ ?_
     exact rfl
     have hS:=hI.below
     have kx:=KAr.out.below hS KAr.out.lt
     have hl:=kx.lt
     have e0:=kx.cell 0; have e1:=kx.cell 1; have e2:=kx.cell 2; have e3:=kx.cell 3; have e4:=kx.cell 4; have e5:=kx.cell 5
     simp at e0 e1 e2 e3 e4 e5
     clear kx
     have HS:=Lib.hid (hI.step (Below.refl _ _) (k:=10) (by rfl))
     clear hI hS hC hW hD
     go_wp2_with fail
     all_goals first | exact HS.out | exact ⟨rfl,HS.out⟩ | rfl
    ·intro g D w' hD hW hC hI
     refine ⟨g,fun _ _ _=>rfl,?_⟩
     with_reducible refine OpTo.plain ?_ ?_
     exact rfl
     have hS:=hI.below
     have kx:=KAr.out.below hS KAr.out.lt
     have hl:=kx.lt
     have e0:=kx.cell 0; have e1:=kx.cell 1; have e2:=kx.cell 2; have e3:=kx.cell 3; have e4:=kx.cell 4; have e5:=kx.cell 5
     simp at e0 e1 e2 e3 e4 e5
     clear kx
     have HS:=Lib.hid (hI.step (Below.refl _ _) (k:=11) (by rfl))
     clear hI hS hC hW hD
     go_wp2_with fail
     all_goals first | exact HS.out | exact ⟨rfl,HS.out⟩ | rfl
    ·intro g D w' hD hW hC hI
     refine ⟨g,fun _ _ _=>rfl,?_⟩
     with_reducible refine OpTo.plain ?_ ?_
     exact rfl
     have hS:=hI.below
     have kx:=KAr.out.below hS KAr.out.lt
     have hl:=kx.lt
     have e0:=kx.cell 0; have e1:=kx.cell 1; have e2:=kx.cell 2; have e3:=kx.cell 3; have e4:=kx.cell 4; have e5:=kx.cell 5
     simp at e0 e1 e2 e3 e4 e5
     clear kx
     have HS:=Lib.hid (hI.step (Below.refl _ _) (k:=12) (by rfl))
     clear hI hS hC hW hD
     go_wp2_with fail
     all_goals first | exact HS.out | exact ⟨rfl,HS.out⟩ | rfl
    ·intro g D w' hD hW hC hI
     refine ⟨g,fun _ _ _=>rfl,?_⟩
     with_reducible refine OpTo.plain ?_ ?_
     exact rfl
     have hS:=hI.below
     have kx:=KAr.out.below hS KAr.out.lt
     have hl:=kx.lt
     have e0:=kx.cell 0; have e1:=kx.cell 1; have e2:=kx.cell 2; have e3:=kx.cell 3; have e4:=kx.cell 4; have e5:=kx.cell 5
     simp at e0 e1 e2 e3 e4 e5
     clear kx
     have HS:=Lib.hid (hI.step (Below.refl _ _) (k:=13) (by rfl))
     clear hI hS hC hW hD
     go_wp2_with fail
     all_goals first | exact HS.out | exact ⟨rfl,HS.out⟩ | rfl
    ·intro g D w' hD hW hC hI
     refine ⟨g,fun _ _ _=>rfl,?_⟩
     with_reducible refine OpTo.plain ?_ ?_
     exact rfl
     have hS:=hI.below
     have kx:=KAr.out.below hS KAr.out.lt
     have hl:=kx.lt
     have e0:=kx.cell 0; have e1:=kx.cell 1; have e2:=kx.cell 2; have e3:=kx.cell 3; have e4:=kx.cell 4; have e5:=kx.cell 5
     simp at e0 e1 e2 e3 e4 e5
     clear kx
     have HS:=Lib.hid (hI.step (Below.refl _ _) (k:=14) (by rfl))
     clear hI hS hC hW hD
     go_wp2_with fail
     all_goals first | exact HS.out | exact ⟨rfl,HS.out⟩ | rfl
    ·intro g D w' hD hW hC hI
     refine ⟨g,fun _ _ _=>rfl,?_⟩
     with_reducible refine OpTo.plain ?_ ?_
     exact rfl
     have hS:=hI.below
     have kx:=KAr.out.below hS KAr.out.lt
     have hl:=kx.lt
     have e0:=kx.cell 0; have e1:=kx.cell 1; have e2:=kx.cell 2; have e3:=kx.cell 3; have e4:=kx.cell 4; have e5:=kx.cell 5
     simp at e0 e1 e2 e3 e4 e5
     clear kx
     have HS:=Lib.hid (hI.step (Below.refl _ _) (k:=15) (by rfl))
     clear hI hS hC hW hD
     go_wp2_with fail
     all_goals first | exact HS.out | exact ⟨rfl,HS.out⟩ | rfl
    ·intro g D w' hD hW hC hI
     refine ⟨g,fun _ _ _=>rfl,?_⟩
     with_reducible refine OpTo.plain ?_ ?_
     exact rfl
     have hS:=hI.below
     have HI:=Lib.hid hI
     have HC:=Lib.hid (CD.out w' hS)
     clear hI hS hC hW hD
     go_wp2_with fail
     refine HC.out.mono ?_
     rintro e w'' ⟨rfl,hb2⟩
     exact ⟨rfl,HI.out.step hb2 (by rfl)⟩
    ·intro g D w' hD hW hC hI
     refine ⟨g,fun _ _ _=>rfl,?_⟩
     with_reducible refine OpTo.plain ?_ ?_
     exact rfl
     have hS:=hI.below
     have HS:=Lib.hid (hI.step (Below.refl _ _) (k:=17) (by rfl))
     clear hI hS hC hW hD
     go_wp2_with fail
     all_goals first | exact HS.out | exact ⟨rfl,HS.out⟩ | rfl
    ·intro g D w' hD hW hC hI
     refine ⟨g,fun _ _ _=>rfl,?_⟩
     with_reducible refine OpTo.plain ?_ ?_
     exact rfl
     have hS:=hI.below
     have HS:=Lib.hid (hI.step (Below.refl _ _) (k:=18) (by rfl))
     clear hI hS hC hW hD
     go_wp2_with fail
     all_goals first | exact HS.out | exact ⟨rfl,HS.out⟩ | rfl
    ·intro g D w' hD hW hC hI
     refine ⟨g,fun _ _ _=>rfl,?_⟩
     with_reducible refine OpTo.plain ?_ ?_
     exact rfl
     have hS:=hI.below
     have HS:=Lib.hid (hI.step (Below.refl _ _) (k:=19) (by rfl))
     clear hI hS hC hW hD
     go_wp2_with fail
     all_goals first | exact HS.out | exact ⟨rfl,HS.out⟩ | rfl
    ·intro g D w' hD hW hC hI
     refine ⟨g,fun _ _ _=>rfl,?_⟩
     with_reducible refine OpTo.plain ?_ ?_
     exact rfl
     have hS:=hI.below
     have HS:=Lib.hid (hI.step (Below.refl _ _) (k:=20) (by rfl))
     clear hI hS hC hW hD
     go_wp2_with fail
     all_goals first | exact HS.out | exact ⟨rfl,HS.out⟩ | rfl
    ·intro g D w' hD hW hC hI
     have hN:D 22=false:=waits_not hC hD 25 22 (by kernel_rfl)
     refine ⟨upd g 21 w'.heap.size,vals_upd _ (fun g:Nat→Nat=>[(.slice (some ⟨S,0,none⟩) 4 4),(.int .i64 k),(.pointer (some ⟨S,k * 2,none⟩)),(.agg #[.pointer lp,.pointer bp]),(.pointer (some ⟨w.heap.size,0,none⟩)),(.int .u8 x.fr),(.pointer (some ⟨w.heap.size,1,none⟩)),(.int .u8 x.pt),(.pointer (some ⟨w.heap.size,2,none⟩)),(.int .u8 x.get),(.pointer (some ⟨w.heap.size,3,none⟩)),(.int .u8 x.give),(.pointer (some ⟨w.heap.size,4,none⟩)),(.int .i64 x.n),(.pointer (some ⟨w.heap.size,5,none⟩)),(.int .i64 x.mo),(.tuple #[.agg #[.pointer none,.pointer none],.slice none 0 0,.int .i64 2]),(.tuple #[.agg #[.pointer none,.pointer none],.slice none 0 0,.int .i64 2]),(.agg #[.pointer none,.pointer none]),(.slice none 0 0),(.int .i64 2),(.pointer (some ⟨g 21,0,none⟩)),undef,(.slice none 0 0),(.int .i64 2)]) g 21 _ 25 hC hD ?_,?_⟩
     ·intro j hj
      match j,hj with
      | 0,_=>exact .inr rfl
      | 1,_=>exact .inr rfl
      | 2,_=>exact .inr rfl
      | 3,_=>exact .inr rfl
      | 4,_=>exact .inr rfl
      | 5,_=>exact .inr rfl
      | 6,_=>exact .inr rfl
      | 7,_=>exact .inr rfl
      | 8,_=>exact .inr rfl
      | 9,_=>exact .inr rfl
      | 10,_=>exact .inr rfl
      | 11,_=>exact .inr rfl
      | 12,_=>exact .inr rfl
      | 13,_=>exact .inr rfl
      | 14,_=>exact .inr rfl
      | 15,_=>exact .inr rfl
      | 16,_=>exact .inr rfl
      | 17,_=>exact .inr rfl
      | 18,_=>exact .inr rfl
      | 19,_=>exact .inr rfl
      | 20,_=>exact .inr rfl
      | 21,_=>exact .inl (.inl rfl)
      | 22,_=>exact .inr rfl
      | 23,_=>exact .inr rfl
      | 24,_=>exact .inr rfl
      | j + 25,_=>exact .inr rfl
     with_reducible refine OpTo.plain ?_ ?_
     exact rfl
     have HS:=Lib.hid (hI.lay (⟨21,22,(.cells #[.pointer none,.pointer none] 32),(.cells #[.pointer none,.pointer none] 32)⟩:Spec) (by simp) (by rfl) (.inr hN) (by rfl) (fun s' hs' _=>List.mem_singleton.1 hs') (.cells #[.pointer none,.pointer none] 32) rfl)
     clear hI hC hW hD hN
     go_wp2_with fail
     all_goals first | exact HS.out | exact ⟨rfl,HS.out⟩ | rfl
    ·intro g D w' hD hW hC hI
     have hP:D 21=true:=waited_done hC hW (d:=25) (by kernel_rfl)
     obtain ⟨hg,hk⟩:=hI.zeroed (⟨21,22,(.cells #[.pointer none,.pointer none] 32),(.cells #[.pointer none,.pointer none] 32)⟩:Spec) (by simp) hP hD
     refine ⟨g,fun _ _ _=>rfl,?_⟩
     with_reducible refine OpTo.plain ?_ ?_
     exact rfl
     refine wp_store_row 32 (.tmp 5) (.tmp 43) rfl (g 21) #[.pointer none,.pointer none] rfl rfl 32 _ hk (by kernel_rfl) rfl (by simp [Value.oneCell']) ⟨rfl,?_⟩
     exact hI.fill (⟨21,22,(.cells #[.pointer none,.pointer none] 32),(.cells #[.pointer none,.pointer none] 32)⟩:Spec) (by simp) (by rfl) (show (22:Nat)≠21 by decide) (fun s' hs' _=>List.mem_singleton.1 hs') hP (below_keepRow _ _) (setRow_heap w' (g 21) _ _ 32 (0,0) hk)
    ·intro g D w' hD hW hC hI
     refine ⟨g,fun _ _ _=>rfl,?_⟩
     with_reducible refine OpTo.plain ?_ ?_
     exact rfl
     have hS:=hI.below
     have HS:=Lib.hid (hI.step (Below.refl _ _) (k:=23) (by rfl))
     clear hI hS hC hW hD
     go_wp2_with fail
     all_goals first | exact HS.out | exact ⟨rfl,HS.out⟩ | rfl
    ·intro g D w' hD hW hC hI
     refine ⟨g,fun _ _ _=>rfl,?_⟩
     with_reducible refine OpTo.plain ?_ ?_
     exact rfl
     have hS:=hI.below
     have HS:=Lib.hid (hI.step (Below.refl _ _) (k:=24) (by rfl))
     clear hI hS hC hW hD
     go_wp2_with fail
     all_goals first | exact HS.out | exact ⟨rfl,HS.out⟩ | rfl
   intro g D W5 hall hI
   have KFr:=Lib.hid (show Blk W5 (g 21) #[.pointer none,.pointer none] 32 from (hI.full (⟨21,22,(.cells #[.pointer none,.pointer none] 32),(.cells #[.pointer none,.pointer none] 32)⟩:Spec) (by simp) (hall 21 (by decide)) (hall 22 (by decide))).2)
   have B5:=Lib.hid (BR.out.trans (hI.below.mono BR.out.size))
   clear hall hI CD BR HS0 KAr
   have kf:=KFr.out
   have hl:=kf.lt
   have f0:=kf.cell 0; have f1:=kf.cell 1
   simp at f0 f1
   clear kf
   go_wp2_with fail
   exact ⟨⟨k + 1,by have:=HK.out; omega,by go_num,B5.out⟩,by simp [intOf]; have:=HK.out; omega⟩
  ·have hk44:k=4:=by omega
   subst hk44
   have BR:=Lib.hid hbr
   clear hbr
   have CG:=Lib.hid (fun w'=>pgiven_in (w:=w') (ao:=none) (cap:=0) (tk:=0) (pt:=0) (fs:=[]) (fun k hk=>absurd hk (by simp)) (fun f hf=>by cases hf) (by decide) (by decide) (by decide))
   go_wp2_with fail
   refine (CG.out _).mono ?_
   rintro e w8 ⟨rfl,b8⟩
   have B8:=Lib.hid (BR.out.trans (b8.mono BR.out.size))
   rw [show okN (List.map Fl.gi []).sum=0 by decide]
   clear b8 CG
   go_wp2_with fail
   refine (HLo.out _).mono ?_
   rintro e w9 ⟨rfl,b9⟩
   have B9:=Lib.hid (B3.out.trans ((B8.out.trans (b9.mono B8.out.size)).mono B3.out.size))
   clear b9
   go_wp2_with fail
   go_ret
   exact ⟨rfl,B9.out⟩
end Go.Proofs.YtojbmnbphdcjfaaGreat
