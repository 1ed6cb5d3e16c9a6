/-
  Pieces of one proof, without what is not wanted: Lives11, Ask11.
-/
import Derived.Test.YtojbmnbphdcjfaaGreatE19
import Derived.Test.YtojbmnbphdcjfaaGreatE22
import Derived.Test.YtojbmnbphdcjfaaGreatE27
set_option linter.unusedSimpArgs false
set_option linter.unusedVariables false
namespace Go.Proofs.YtojbmnbphdcjfaaGreat
open Go.RowKit
theorem lw_fits:∀ f ∈ [fv1,fv2],In64 f.gi:=by
 intro f hf
 rcases List.mem_cons.1 hf with rfl | hf
 ·unfold In64; decide
 ·rcases List.mem_cons.1 hf with rfl | hf
  ·unfold In64; decide
  ·cases hf
def Lives11:Prop:=∀ w:World,Calls Tryz.prog 8 #[] w fun e w'=>e=.returned (.bool true)∧Below w.heap.size w w'
set_option maxHeartbeats 16000000 in
set_option maxRecDepth 100000 in
theorem lives11_any (HMy:FMayProg) (HD:FDoProg) (HCp:FCopyProg):Lives11:=fun w=>by
 go_enter Tryz.func8,Tryz.ntmps8
 go_wp2_with fail
 refine (new_any w).mono ?_
 rintro e w0 ⟨G,M,rfl,h0,hG,hM,hb0⟩
 have H0:=Lib.hid h0
 have B0:=Lib.hid hb0
 have I0:=Lib.hid LInv.nil
 clear h0 hb0
 have c1:=Lib.hid (open_any H0.out I0.out.bd 1)
 rw [show openE [] 1=0 by decide,show openP [] 1=[1] by decide] at c1
 have I1:Hid (LInv [1] []):=Lib.hid (by have:=LInv.open I0.out 1; rwa [show openP [] 1=[1] by decide] at this)
 go_wp2_with fail
 refine c1.out.mono ?_
 rintro e w1 ⟨rfl,h1,k1⟩
 have H1:=Lib.hid h1
 have B1:=Lib.hid (B0.out.trans (k1.below B0.out.size (fun b hb e=>by omega)))
 clear h1 k1 c1 H0 B0 I0
 have c2:=Lib.hid (open_any H1.out I1.out.bd 2)
 rw [show openE [1] 2=0 by decide,show openP [1] 2=[1,2] by decide] at c2
 have I2:Hid (LInv [1,2] []):=Lib.hid (by have:=LInv.open I1.out 2; rwa [show openP [1] 2=[1,2] by decide] at this)
 go_wp2_with fail
 refine c2.out.mono ?_
 rintro e w2 ⟨rfl,h2,k2⟩
 have H2:=Lib.hid h2
 have B2:=Lib.hid (B1.out.trans (k2.below B1.out.size (fun b hb e=>by omega)))
 clear h2 k2 c2 H1 B1 I1
 have c3:=Lib.hid (open_any H2.out I2.out.bd 3)
 rw [show openE [1,2] 3=0 by decide,show openP [1,2] 3=[1,2,3] by decide] at c3
 have I3:Hid (LInv [1,2,3] []):=Lib.hid (by have:=LInv.open I2.out 3; rwa [show openP [1,2] 3=[1,2,3] by decide] at this)
 go_wp2_with fail
 refine c3.out.mono ?_
 rintro e w3 ⟨rfl,h3,k3⟩
 have H3:=Lib.hid h3
 have B3:=Lib.hid (B2.out.trans (k3.below B2.out.size (fun b hb e=>by omega)))
 clear h3 k3 c3 H2 B2 I2
 have c4:=Lib.hid (ptrust_any (a:=3) (b:=2) (c:=1) (n:=9) H3.out I3.out (by unfold In8; decide) (by unfold In8; decide) (by unfold In8; decide))
 rw [show trustE [1,2,3] [] 3 2 1 9=0 by decide,show trustL [1,2,3] [] 3 2 1 9=[⟨3,2,1,9,0⟩] by decide] at c4
 have I4:Hid (LInv [1,2,3] [⟨3,2,1,9,0⟩]):=Lib.hid (by have:=LInv.trust I3.out 3 2 1 9; rwa [show trustL [1,2,3] [] 3 2 1 9=[⟨3,2,1,9,0⟩] by decide] at this)
 go_wp2_with fail
 refine c4.out.mono ?_
 rintro e w4 ⟨rfl,h4,k4⟩
 have H4:=Lib.hid h4
 have B4:=Lib.hid (B3.out.trans (k4.below B3.out.size (fun b hb e=>by omega)))
 clear h4 k4 c4 H3 B3 I3
 have c5:=Lib.hid (ptrust_any (a:=2) (b:=1) (c:=2) (n:=7) H4.out I4.out (by unfold In8; decide) (by unfold In8; decide) (by unfold In8; decide))
 rw [show trustE [1,2,3] [⟨3,2,1,9,0⟩] 2 1 2 7=0 by decide,show trustL [1,2,3] [⟨3,2,1,9,0⟩] 2 1 2 7=[⟨3,2,1,9,0⟩,⟨2,1,2,7,0⟩] by decide] at c5
 have I5:Hid (LInv [1,2,3] [⟨3,2,1,9,0⟩,⟨2,1,2,7,0⟩]):=Lib.hid (by have:=LInv.trust I4.out 2 1 2 7; rwa [show trustL [1,2,3] [⟨3,2,1,9,0⟩] 2 1 2 7=[⟨3,2,1,9,0⟩,⟨2,1,2,7,0⟩] by decide] at this)
 go_wp2_with fail
 refine c5.out.mono ?_
 rintro e w5 ⟨rfl,h5,k5⟩
 have H5:=Lib.hid h5
 have B5:=Lib.hid (B4.out.trans (k5.below B4.out.size (fun b hb e=>by omega)))
 clear h5 k5 c5 H4 B4 I4
 have II:Hid (LInv p10 l10):=Lib.hid I5.out
 have L5:Hid (LedM w5 G M p10 l10):=Lib.hid H5.out
 clear H5 I5
 go_wp2_with fail
 refine (pnew_any w5 w.heap.size B5.out.size).mono ?_
 rintro e w6 ⟨rfl,h6,b6⟩
 have L6:=Lib.hid (L5.out.below b6)
 have P6:=Lib.hid h6
 have B6:=Lib.hid (B5.out.trans (b6.mono B5.out.size))
 clear h6 b6 L5 B5
 have C7:=Lib.hid (pplace_any (x:=⟨1,2,1,2,5,3,2⟩) P6.out (BInv.nil (N:=1) (by omega) (by omega)) ⟨by decide,by unfold In8; decide,by unfold In8; decide,by unfold In8; decide,by unfold In64; decide,by unfold In64; decide,by unfold In64; decide⟩)
 have J7:Hid (BInv o10 2):=Lib.hid (by have:=BInv.place (x:=⟨1,2,1,2,5,3,2⟩) (BInv.nil (N:=1) (by omega) (by omega)); rwa [show placeL [] ⟨1,2,1,2,5,3,2⟩=o10 by decide +kernel,show placeN [] ⟨1,2,1,2,5,3,2⟩=2 by decide +kernel] at this)
 rw [show placeS [] ⟨1,2,1,2,5,3,2⟩=1 by decide +kernel,show placeE [] ⟨1,2,1,2,5,3,2⟩=0 by decide +kernel,show placeL [] ⟨1,2,1,2,5,3,2⟩=o10 by decide +kernel,show placeN [] ⟨1,2,1,2,5,3,2⟩=2 by decide +kernel] at C7
 dsimp only at C7
 obtain ⟨gb,hgb⟩:∃ gb,w5.heap.size=gb:=⟨_,rfl⟩
 rw [hgb] at P6 C7 ⊢
 have HGB:=Lib.hid hgb
 clear hgb
 go_wp2_with fail
 refine C7.out.mono ?_
 rintro e w7 ⟨rfl,vb,h7,k7,_⟩
 have AP:=(P6.out.ne_map L6.out).2
 have L7:=Lib.hid (L6.out.keep k7 AP.1 AP.2)
 have P7:=Lib.hid h7
 have B7:=Lib.hid (B6.out.trans (k7.below B6.out.size (fun b hb e=>by have:=(P6.out.lt e).1; omega)))
 clear h7 k7 AP L6 P6 B6 C7
 have C8:=Lib.hid (pplace_any (x:=⟨2,2,1,2,5,1,1⟩) P7.out J7.out ⟨by decide,by unfold In8; decide,by unfold In8; decide,by unfold In8; decide,by unfold In64; decide,by unfold In64; decide,by unfold In64; decide⟩)
 have J8:Hid (BInv ov0 3):=Lib.hid (by have:=BInv.place (x:=⟨2,2,1,2,5,1,1⟩) J7.out; rwa [show placeL o10 ⟨2,2,1,2,5,1,1⟩=ov0 by decide +kernel,show placeN o10 ⟨2,2,1,2,5,1,1⟩=3 by decide +kernel] at this)
 rw [show placeS o10 ⟨2,2,1,2,5,1,1⟩=2 by decide +kernel,show placeE o10 ⟨2,2,1,2,5,1,1⟩=0 by decide +kernel,show placeL o10 ⟨2,2,1,2,5,1,1⟩=ov0 by decide +kernel,show placeN o10 ⟨2,2,1,2,5,1,1⟩=3 by decide +kernel] at C8
 dsimp only at C8
 go_wp2_with fail
 refine C8.out.mono ?_
 rintro e w8 ⟨rfl,vb8,h8,k8,_⟩
 have AP:=(P7.out.ne_map L7.out).2
 have L8:=Lib.hid (L7.out.keep k8 AP.1 AP.2)
 have P8:=Lib.hid h8
 have B8:=Lib.hid (B7.out.trans (k8.below B7.out.size (fun b hb e=>by have:=(P7.out.lt e).1; omega)))
 clear h8 k8 AP L7 P7 B7 C8
 have bh:=(Below.refl w8.heap.size w8).alloc (Nat.le_refl _) (.cells #[.pointer (some ⟨G,0,none⟩),.pointer (some ⟨gb,0,none⟩)] 32)
 have KH9:=Lib.hid (Blk.new w8 #[.pointer (some ⟨G,0,none⟩),.pointer (some ⟨gb,0,none⟩)] 32)
 have L9:=Lib.hid (L8.out.below bh)
 have P9:=Lib.hid (P8.out.below bh)
 have B9:=Lib.hid (B8.out.trans (bh.mono B8.out.size))
 have i8:∀ n:Int,0≤n→n≤255→In8 n:=fun n a b=>⟨a,b⟩
 have S:=Lib.hid (fun u (n most:Int) (h:LedM u G M p10 l10) (k:PB u w.heap.size gb ov0 3 vb8)=>pswap_any HMy HD HCp h II.out k J8.out 1 3 1 2 n most (i8 _ (by decide) (by decide)) (i8 _ (by decide) (by decide)) (i8 _ (by decide) (by decide)) (i8 _ (by decide) (by decide)))
 clear bh L8 P8 B8 i8
 have e0:=KH9.out.cell 0; have e1:=KH9.out.cell 1
 have kh:=KH9.out.lt
 simp at e0 e1
 go_wp2_with fail
 generalize w8.alloc (.cells #[.pointer (some ⟨G,0,none⟩),.pointer (some ⟨gb,0,none⟩)] 32)=w9 at *
 refine (S.out _ 6 7 L9.out P9.out).mono ?_
 rintro e w10 (⟨er,hne,her,_⟩ | ⟨G2,M2,gb2,vb2,a,c,σ,hσ,_,rfl,_,_,hR,_,_,b10⟩)
 ·rw [lw_sw1 II.out] at her
  exact absurd her.symm hne
 rw [lw_sw1 II.out] at hσ
 obtain rfl:=(Prod.mk.inj hσ).2
 have HR:=Lib.hid hR
 clear hσ hR
 have bf:=(Below.refl w10.heap.size w10).alloc (Nat.le_refl _) (.cells #[.pointer (some ⟨G2,0,none⟩),.pointer (some ⟨gb2,0,none⟩)] 32)
 have bb:=b10.trans (bf.mono b10.size)
 have L10:=Lib.hid (L9.out.below bb)
 have P10:=Lib.hid (P9.out.below bb)
 have KH10:=Lib.hid (KH9.out.below bb KH9.out.lt)
 have B10:=Lib.hid (B9.out.trans (bb.mono B9.out.size))
 have HR10:=Lib.hid (HR.out.below bf)
 clear b10 bf bb L9 P9 KH9 B9 e0 e1 kh HR
 have e0:=KH10.out.cell 0; have e1:=KH10.out.cell 1
 have kh:=KH10.out.lt
 simp at e0 e1
 go_wp2_with fail
 generalize w10.alloc (.cells #[.pointer (some ⟨G2,0,none⟩),.pointer (some ⟨gb2,0,none⟩)] 32)=w10 at *
 refine (S.out _ 6 6 L10.out P10.out).mono ?_
 rintro e w11 (⟨er,hne,her,rfl,b11⟩ | ⟨G2,M2,gb2,vb2,a,c,σ,hσ,_⟩)
 rotate_left
 ·have q:=congrArg Prod.fst hσ
  rw [lw_sw2 II.out] at q
  exact absurd q (by show ¬ (12:Int)=0; decide)
 obtain rfl:12=er:=by rw [← her]; exact (lw_sw2 II.out).symm
 clear hne her
 have bf:=(Below.refl w11.heap.size w11).alloc (Nat.le_refl _) (.cells #[.pointer none,.pointer none] 32)
 have bb:=b11.trans (bf.mono b11.size)
 have L11:=Lib.hid (L10.out.below bb)
 have P11:=Lib.hid (P10.out.below bb)
 have KH11:=Lib.hid (KH10.out.below bb KH10.out.lt)
 have B11:=Lib.hid (B10.out.trans (bb.mono B10.out.size))
 have HR11:=Lib.hid (HR10.out.below bb)
 clear b11 bf bb L10 P10 KH10 B10 e0 e1 kh HR10
 have e0:=KH11.out.cell 0; have e1:=KH11.out.cell 1
 have kh:=KH11.out.lt
 simp at e0 e1
 go_wp2_with fail
 generalize w11.alloc (.cells #[.pointer none,.pointer none] 32)=w11 at *
 refine (S.out _ 7 99 L11.out P11.out).mono ?_
 rintro e w12 (⟨er,hne,her,rfl,b12⟩ | ⟨G2,M2,gb2,vb2,a,c,σ,hσ,_⟩)
 rotate_left
 ·have q:=congrArg Prod.fst hσ
  rw [lw_sw3 II.out] at q
  exact absurd q (by show ¬ (11:Int)=0; decide)
 obtain rfl:11=er:=by rw [← her]; exact (lw_sw3 II.out).symm
 clear hne her
 have bf:=(Below.refl w12.heap.size w12).alloc (Nat.le_refl _) (.cells #[.pointer none,.pointer none] 32)
 have bb:=b12.trans (bf.mono b12.size)
 have L12:=Lib.hid (L11.out.below bb)
 have P12:=Lib.hid (P11.out.below bb)
 have KH12:=Lib.hid (KH11.out.below bb KH11.out.lt)
 have B12:=Lib.hid (B11.out.trans (bb.mono B11.out.size))
 have HR12:=Lib.hid (HR11.out.below bb)
 clear b12 bf bb L11 P11 KH11 B11 e0 e1 kh HR11
 have e0:=KH12.out.cell 0; have e1:=KH12.out.cell 1
 have kh:=KH12.out.lt
 simp at e0 e1
 go_wp2_with fail
 generalize w12.alloc (.cells #[.pointer none,.pointer none] 32)=w12 at *
 refine (S.out _ 0 9 L12.out P12.out).mono ?_
 rintro e w13 (⟨er,hne,her,rfl,b13⟩ | ⟨G2,M2,gb2,vb2,a,c,σ,hσ,_⟩)
 rotate_left
 ·have q:=congrArg Prod.fst hσ
  rw [lw_sw4] at q
  exact absurd q (by show ¬ (1:Int)=0; decide)
 obtain rfl:1=er:=by rw [← her]; exact (lw_sw4).symm
 clear hne her
 have bf:=(Below.refl w13.heap.size w13).alloc (Nat.le_refl _) (.cells #[.pointer none,.pointer none] 32)
 have bb:=b13.trans (bf.mono b13.size)
 have L13:=Lib.hid (L12.out.below bb)
 have P13:=Lib.hid (P12.out.below bb)
 have KH13:=Lib.hid (KH12.out.below bb KH12.out.lt)
 have B13:=Lib.hid (B12.out.trans (bb.mono B12.out.size))
 have HR13:=Lib.hid (HR12.out.below bb)
 clear b13 bf bb L12 P12 KH12 B12 e0 e1 kh HR12
 have e0:=KH13.out.cell 0; have e1:=KH13.out.cell 1
 have kh:=KH13.out.lt
 simp at e0 e1
 go_upto_region 15 with fail
 generalize w13.alloc (.cells #[.pointer none,.pointer none] 32)=w13 at *
 obtain ⟨ao,cap,hv,hc1,hc2,_,hcc⟩:=HR13.out.look
 cases hv
 have CG:=Lib.hid (pgiven_in (cap:=c) (rowed_fills HR13.out) lw_fits (by decide) hc1 hc2)
 rw [show okN ([fv1,fv2].map Fl.gi).sum=7 by decide] at CG
 obtain ⟨b,rfl,_,hb,hc,_⟩:=hcc (by decide)
 have d0:=hc 0 (by decide); have d1:=hc 1 (by decide); have d2:=hc 2 (by decide); have d3:=hc 3 (by decide); have d4:=hc 4 (by decide)
 have d5:=hc 5 (by decide); have d6:=hc 6 (by decide); have d7:=hc 7 (by decide); have d8:=hc 8 (by decide); have d9:=hc 9 (by decide)
 simp [flCells,Fl.vals,fv1,fv2] at d0 d1 d2 d3 d4 d5 d6 d7 d8 d9
 unfold maxLen at hc2
 clear hc hcc e0 e1 kh
 simp only [List.length_cons,List.length_nil] at CG ⊢
 go_wp2_with fail
 refine CG.out.mono ?_
 rintro e wz ⟨rfl,bz⟩
 have BZ:=Lib.hid (B13.out.trans (bz.mono B13.out.size))
 clear bz CG d0 d1 d2 d3 d4 d5 d6 d7 d8 d9
 go_wp2_with fail
 go_ret
 exact ⟨rfl,BZ.out⟩
end Go.Proofs.YtojbmnbphdcjfaaGreat
namespace Go.Proofs.YtojbmnbphdcjfaaGreat
open Go.RowKit Go.ChangeShapes Go.WideShapes Go.Deep Go.Joins
structure Sk where
 fr:Int
 pt:Int
 get:Int
 give:Int
 n:Int
 mo:Int
def Sk.vals (x:Sk):List Value:=[.int .u8 x.fr,.int .u8 x.pt,.int .u8 x.get,.int .u8 x.give,.int .i64 x.n,.int .i64 x.mo]
structure Sk.Fits (x:Sk):Prop where
 fr:In8 x.fr
 pt:In8 x.pt
 get:In8 x.get
 give:In8 x.give
 n:In64 x.n
 mo:In64 x.mo
section
variable {H:Type} {enc:TypeId × Value→H} {P:Program} {w:World} {base:Nat} {spare:Nat→Bool} {held:Bool}
theorem ask11_of {t:TypeId} {f0 f1 f2 f3 f4 f5:Field} (hu:P.underlying t=some (.struct #[f0,f1,f2,f3,f4,f5])) (hC:P.cellsOf t=6)
  (o:f0.offset=0∧f1.offset=1∧f2.offset=2∧f3.offset=3∧f4.offset=4∧f5.offset=5) (c:P.cellsOf f0.type=1∧P.cellsOf f1.type=1∧P.cellsOf f2.type=1∧P.cellsOf f3.type=1∧P.cellsOf f4.type=1∧P.cellsOf f5.type=1)
  (k:P.underlying f0.type=some (.int .u8)∧P.underlying f1.type=some (.int .u8)∧P.underlying f2.type=some (.int .u8)∧P.underlying f3.type=some (.int .u8)∧P.underlying f4.type=some (.int .i64)∧P.underlying f5.type=some (.int .i64))
  {fuel:Nat} {cs:List Value} {x:DataW H × List MemPlace} (h:DataW.trod enc P w base spare held fuel t cs=some x):∃ x:Sk,x.Fits∧cs=x.vals:=by
 obtain ⟨xs,n,_,_,hlen,hxl,hf⟩:=DataW.trod_struct hu h
 rw [hC] at hlen
 obtain ⟨m0,e0,w0⟩:=num_of hxl hf (j:=0) rfl o.1 c.1 k.1 (by omega)
 obtain ⟨m1,e1,w1⟩:=num_of hxl hf (j:=1) rfl o.2.1 c.2.1 k.2.1 (by omega)
 obtain ⟨m2,e2,w2⟩:=num_of hxl hf (j:=2) rfl o.2.2.1 c.2.2.1 k.2.2.1 (by omega)
 obtain ⟨m3,e3,w3⟩:=num_of hxl hf (j:=3) rfl o.2.2.2.1 c.2.2.2.1 k.2.2.2.1 (by omega)
 obtain ⟨m4,e4,w4⟩:=num_of hxl hf (j:=4) rfl o.2.2.2.2.1 c.2.2.2.2.1 k.2.2.2.2.1 (by omega)
 obtain ⟨m5,e5,w5⟩:=num_of hxl hf (j:=5) rfl o.2.2.2.2.2 c.2.2.2.2.2 k.2.2.2.2.2 (by omega)
 match cs,hlen with
 | [a0,a1,a2,a3,a4,a5],_ =>
  simp at e0 e1 e2 e3 e4 e5
  subst e0 e1 e2 e3 e4 e5
  exact ⟨⟨m0,m1,m2,m3,m4,m5⟩,⟨In8.of_wf w0,In8.of_wf w1,In8.of_wf w2,In8.of_wf w3,In64.of_wf w4,In64.of_wf w5⟩,rfl⟩
end
section
variable {H:Type} {enc:TypeId × Value→H} {w:World} {base:Nat} {spare:Nat→Bool} {held:Bool}
theorem ask11_read {fuel:Nat} {cs:List Value} {x:DataW H × List MemPlace} (h:DataW.trod enc Tryz.prog w base spare held fuel 42 cs=some x):∃ x:Sk,x.Fits∧cs=x.vals :=
 ask11_of Tryz.underlying42 (by kernel_rfl) ⟨rfl,rfl,rfl,rfl,rfl,rfl⟩ ⟨by kernel_rfl,by kernel_rfl,by kernel_rfl,by kernel_rfl,by kernel_rfl,by kernel_rfl⟩
  ⟨Tryz.underlying39,Tryz.underlying39,Tryz.underlying40,Tryz.underlying40,Tryz.underlying2,Tryz.underlying2⟩ h
set_option maxRecDepth 100000 in
theorem ask11_open {r:Reach} {b0:Nat} {v:Value} {d:DataW H} {p:List MemPlace} (hv:Value.okWide Tryz.prog w r b0 42 v) (h:DataW.Trod enc Tryz.prog w base spare held 42 v d p) :
  ∃ x:Sk,v=.agg #[.int .u8 x.fr,.int .u8 x.pt,.int .u8 x.get,.int .u8 x.give,.int .i64 x.n,.int .i64 x.mo]∧x.Fits:=by
 obtain ⟨cs,rfl,_⟩:=okWide_struct Tryz.underlying42 hv
 obtain ⟨fuel,hf⟩:=h
 obtain ⟨x,hx,hc⟩:=ask11_read hf
 refine ⟨x,?_,hx⟩
 have:cs.toList=x.vals:=by simpa [Value.cells] using hc
 rw [show cs=x.vals.toArray by rw [← this]]
 rfl
end
end Go.Proofs.YtojbmnbphdcjfaaGreat
