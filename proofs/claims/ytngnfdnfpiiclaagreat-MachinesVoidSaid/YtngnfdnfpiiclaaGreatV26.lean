/-
  Pieces of one proof, without what is not wanted: CFill, Res3.
-/
import Derived.Test.YtngnfdnfpiiclaaGreatV01
import Derived.Test.YtngnfdnfpiiclaaGreatV02
import Derived.Test.YtngnfdnfpiiclaaGreatV25
set_option linter.unusedSimpArgs false
set_option linter.unusedVariables false
namespace Go.Proofs.YtngnfdnfpiiclaaGreat
open Go.RowKit
theorem info_flp12:(Tryz.prog.info? 241).map (fun i=>(i.zero,i.size,i.bytes))=some (some (.agg #[.int .u64 0,.int .u8 0,.int .u8 0,.int .i64 0,.int .i64 0]),5,32):=by kernel_rfl
def slN:Value→Nat
 | .slice _ n _=>n
 | _=>0
def CfAt (W:World) (ch base s1 G M gb:Nat) (ps:List Int) (ls0:List Ln) (l0:List Of) (N:Int) (x:Of) (av:Value) (wr:World):Prop :=
 ∃ (σ:SwS) (vb:Value),Blk wr ch #[.int .u64 x.se,.int .u8 x.ow,.int .u8 x.sl,.int .u8 x.bu,.int .i64 σ.n,.int .i64 x.nu,.int .i64 x.de] 294∧LedM wr G M ps σ.ls∧PB wr base gb σ.l N vb∧(∀ b,vb.ownBlock=some b→b<s1∨W.heap.size≤b)∧wr.ownsRow W.heap.size 241 5 av σ.fs.length (flCells x.ow x.ow σ.fs)∧PlInv ps ls0 l0 N x.ow x.sl x.bu x.nu x.de x.lf σ ∧
  Keep (fun k=>k=ch∨(base≤k∧k<s1)) W wr∧Hid (placeG ps x.ow x.sl x.bu x.nu x.de 64 ⟨ls0,l0,[],x.lf⟩=placeG ps x.ow x.sl x.bu x.nu x.de (64 - σ.fs.length) σ)
def PCf (w:World) (ch base G M gb:Nat) (ps:List Int) (ls:List Ln) (l:List Of) (N:Int) (x:Of) (e:Ending) (w':World):Prop :=
 ((placeG ps x.ow x.sl x.bu x.nu x.de 64 ⟨ls,l,[],x.lf⟩).1=13∧e=.returned (.tuple #[.slice none 0 0,.int .i64 13])∧Keep (fun k=>k=ch∨base≤k) w w') ∨
 (∃ (vb:Value) (a:Option Addr) (c:Nat) (σ:SwS),placeG ps x.ow x.sl x.bu x.nu x.de 64 ⟨ls,l,[],x.lf⟩=(0,σ)∧e=.returned (.tuple #[.slice a σ.fs.length c,.int .i64 0])∧Blk w' ch #[.int .u64 x.se,.int .u8 x.ow,.int .u8 x.sl,.int .u8 x.bu,.int .i64 σ.n,.int .i64 x.nu,.int .i64 x.de] 294∧LedM w' G M ps σ.ls∧PB w' base gb σ.l N vb ∧
  Rowed w' w.heap.size 241 5 (.slice a σ.fs.length c) σ.fs.length (flCells x.ow x.ow σ.fs)∧Keep (fun k=>k=ch∨base≤k) w w')
theorem placeG_zero12 {ps:List Int} {ls0:List Ln} {l0:List Of} {N ow sl bu nu de n0:Int} {σ:SwS} (h:PlInv ps ls0 l0 N ow sl bu nu de n0 σ) (fuel:Nat) (hf:firstS ps σ.ls σ.l ow ow 1099511627776 σ.n (agO σ.l sl bu nu de)=none):placeG ps ow sl bu nu de fuel σ=(0,σ):=by
 by_cases hn:σ.n≤0
 ·exact placeG_done hn
 ·exact placeG_none hn hf
def DoT (w1:World) (base G M gb:Nat) (ps:List Int) (ls:List Ln) (l:List Of) (N:Int) (vb:Value) (w':World):Prop:=∃ vb',LedM w' G M ps ls∧PB w' base gb l N vb'∧Moved w1 vb vb'
def DoI (w1:World) (base G M gb:Nat) (ps:List Int) (ls:List Ln) (l:List Of) (N:Int) (vb:Value) (xc:Array Value) (g:Nat) (D:Nat→Bool) (w':World):Prop :=
 (D 11=false→Below w1.heap.size w1 w')∧(D 11=true→DoT w1 base G M gb ps ls l N vb w'∧Keep (fun k=>k=G∨k=M∨Foot gb vb k) w1 w')∧w1.heap.size≤w'.heap.size ∧
  (D 15=true→w1.heap.size≤g∧(D 16=false→Blk w' g #[.int .u64 0,.int .u8 0,.int .u8 0,.int .i64 0,.int .i64 0] 241)∧(D 16=true→Blk w' g xc 241))
section
variable {w1 w' w'':World} {base G M gb g:Nat} {ps:List Int} {ls:List Ln} {l:List Of} {N:Int} {vb:Value} {xc:Array Value} {D:Nat→Bool}
theorem DoI.start:DoI w1 base G M gb ps ls l N vb xc 0 (fun _=>false) w1.drew:=⟨fun _=>(Below.refl _ _).drew,fun h=>(Bool.false_ne_true h).elim,Nat.le_refl _,fun h=>(Bool.false_ne_true h).elim⟩
theorem DoI.keep (k:Nat) (h:DoI w1 base G M gb ps ls l N vb xc g D w') (hk:(k==11 || k==15 || k==16)=false):DoI w1 base G M gb ps ls l N vb xc g (ins k D) w':=by
 simp only [Bool.or_eq_false_iff,beq_eq_false_iff_ne] at hk
 unfold DoI at h ⊢
 rw [show ins k D 11=D 11 by simp [ins]; omega,show ins k D 15=D 15 by simp [ins]; omega,show ins k D 16=D 16 by simp [ins]; omega]
 exact h
theorem DoI.lay (h:DoI w1 base G M gb ps ls l N vb xc g D w') (h16:D 16=false):DoI w1 base G M gb ps ls l N vb xc w'.heap.size (ins 15 D) (w'.alloc (.cells #[.int .u64 0,.int .u8 0,.int .u8 0,.int .i64 0,.int .i64 0] 241)):=by
 have b:=(Below.refl w'.heap.size w').alloc (Nat.le_refl _) (.cells #[.int .u64 0,.int .u8 0,.int .u8 0,.int .i64 0,.int .i64 0] 241)
 obtain ⟨a1,a2,a3,_⟩:=h
 refine ⟨fun q=>?_,fun q=>?_,Nat.le_trans a3 b.size,fun _=>⟨a3,fun _=>Blk.new _ _ _,fun q=>?_⟩⟩
 ·exact (a1 (by simpa [ins] using q)).trans (b.mono a3)
 ·obtain ⟨⟨vb',c1,c2,c3⟩,c4⟩:=a2 (by simpa [ins] using q)
  exact ⟨⟨vb',c1.below b,c2.below b,c3⟩,c4.trans (Keep.of_below b)⟩
 ·rw [show ins 15 D 16=D 16 by simp [ins],h16] at q
  cases q
theorem DoI.call (h:DoI w1 base G M gb ps ls l N vb xc g D w') (h11:D 11=false) (h16:D 16=false) (hlt:∀ k,(k=G∨k=M∨Foot gb vb k)→k<w1.heap.size) (hT:DoT w1 base G M gb ps ls l N vb w'') (hk:Keep (fun k=>k=G∨k=M∨Foot gb vb k) w' w'') :
  DoI w1 base G M gb ps ls l N vb xc g (ins 11 D) w'':=by
 obtain ⟨a1,_,a3,a4⟩:=h
 refine ⟨fun q=>?_,fun _=>⟨hT,(Keep.of_below (a1 h11)).trans hk⟩,Nat.le_trans a3 hk.size,fun q=>?_⟩
 ·simp [ins] at q
 ·obtain ⟨c1,c2,_⟩:=a4 (by simpa [ins] using q)
  refine ⟨c1,fun _=>(c2 h16).keep hk (fun e=>by have:=hlt _ e; omega),fun q2=>?_⟩
  rw [show ins 11 D 16=D 16 by simp [ins],h16] at q2
  cases q2
theorem DoI.fill (h:DoI w1 base G M gb ps ls l N vb xc g D w') (h11:D 11=true) (h15:D 15=true) (h16:D 16=false) (hlt:∀ k,(k=G∨k=M∨Foot gb vb k)→k<w1.heap.size):DoI w1 base G M gb ps ls l N vb xc g (ins 16 D) (w'.setRow g xc):=by
 obtain ⟨_,a2,a3,a4⟩:=h
 obtain ⟨⟨vb',c1,c2,c3⟩,c4⟩:=a2 h11
 obtain ⟨d1,d2,_⟩:=a4 h15
 have hb:=d2 h16
 have kk:=below_keepRow (w:=w') g xc
 refine ⟨fun q=>?_,fun _=>⟨⟨vb',c1.keep kk (fun e=>by have:=hlt G (.inl rfl); omega) (fun e=>by have:=hlt M (.inr (.inl rfl)); omega),c2.keep kk (fun e=>by have:=hlt gb (.inr (.inr (.inl rfl))); omega) (fun b hb'=>owns_ne c2.row hb (by decide) b hb'),c3⟩,c4.trans_new kk (fun j hj e=>by omega)⟩,Nat.le_trans a3 kk.size,fun _=>⟨d1,fun q=>?_,fun _=>setRow_heap _ g _ _ _ (0,0) hb⟩⟩
 ·rw [show ins 16 D 11=D 11 by simp [ins],h11] at q
  cases q
 ·simp [ins] at q
end
set_option maxHeartbeats 32000000 in
set_option maxRecDepth 100000 in
theorem cfill_any (HMy:FMayProg) (HD:FDoProg) {w:World} {ch base G M gb:Nat} {ps:List Int} {ls:List Ln} {l:List Of} {N:Int} {vb:Value} (hL:LedM w G M ps ls) (hI:LInv ps ls) (hP:PB w base gb l N vb) (hJ:BInv l N) (hG:base≤G) (hM:base≤M) (hb:base≤w.heap.size)
  (x:Of) (hx:x.Fits) (hm:mayB x.nu x.de=true) (hn:1≤x.lf∧x.lf≤1099511627776) (hc:Blk w ch #[.int .u64 x.se,.int .u8 x.ow,.int .u8 x.sl,.int .u8 x.bu,.int .i64 x.lf,.int .i64 x.nu,.int .i64 x.de] 294) (hcb:ch<base) :
  Calls Tryz.prog 201 #[(.pointer (some ⟨ch,0,none⟩)),.agg #[.pointer (some ⟨G,0,none⟩),.pointer (some ⟨gb,0,none⟩)],.int .i64 64] w (PCf w ch base G M gb ps ls l N x):=by
 have b1:=(Below.refl w.heap.size w).alloc (Nat.le_refl _) (.cells #[.pointer (some ⟨G,0,none⟩),.pointer (some ⟨gb,0,none⟩)] 80)
 have KH:=Lib.hid (Blk.new w #[.pointer (some ⟨G,0,none⟩),.pointer (some ⟨gb,0,none⟩)] 80)
 have HL:=Lib.hid (hL.below b1)
 have HP:=Lib.hid (hP.below b1)
 have HCh:=Lib.hid (hc.below b1 hc.lt)
 have BW:=Lib.hid b1
 have GE:=Lib.hid (show base≤G∧base≤M∧base≤w.heap.size∧G<w.heap.size∧M<w.heap.size∧gb<w.heap.size∧base≤gb∧(∀ b,vb.ownBlock=some b→b<w.heap.size)∧ch<base from ⟨hG,hM,hb,hL.blk.lt,hL.map.lt,hP.blk.lt,hP.ge,fun b hb=>(hP.lt (.inr hb)).2,hcb⟩)
 have II:=Lib.hid hI
 have JJ:=Lib.hid hJ
 have HX:=Lib.hid hx
 have HN:=Lib.hid hn
 have HMB:=Lib.hid hm
 have HWS:Hid ((w.alloc (.cells #[.pointer (some ⟨G,0,none⟩),.pointer (some ⟨gb,0,none⟩)] 80)).heap.size=w.heap.size + 1):=Lib.hid (by simp)
 clear b1 hL hI hP hJ hG hM hb hx hm hn hc hcb
 generalize hW:w.alloc (.cells #[.pointer (some ⟨G,0,none⟩),.pointer (some ⟨gb,0,none⟩)] 80)=W at *
 have HW:=Lib.hid hW
 clear hW
 go_enter Tryz.func201,Tryz.ntmps201
 go_upto_region 1 with fail
 rw [HW.out]
 go_loopw [6,8,9,10,11] (fun av _ _ _ _ wr=>CfAt W ch base w.heap.size G M gb ps ls l N x av wr) (fun av _ _ _ _ _=>64 - slN av)
 case atStart=>exact ⟨⟨ls,l,[],x.lf⟩,vb,HCh.out,HL.out,HP.out,fun b hb=>.inl (GE.out.2.2.2.2.2.2.2.1 b hb),World.ownsRow_nil _ _ _ _,PlInv.start II.out JJ.out (by have:=HN.out; omega),Keep.refl _ _,Lib.hid rfl⟩
 case round =>
  obtain ⟨σ,vb,hRC,hRL,hRB,hVB,hO,hS,hK,HE⟩:=hrel
  have RC:=Lib.hid hRC
  have RL:=Lib.hid hRL
  have RB:=Lib.hid hRB
  have VB:=Lib.hid hVB
  have OO:=Lib.hid hO
  have SI:=Lib.hid hS
  have KK:=Lib.hid hK
  have KHr:=Lib.hid (KH.out.keep hK (by have:=GE.out; omega))
  obtain ⟨sn,hsn⟩:∃ sn,σ.n=sn:=⟨_,rfl⟩
  have HSN:=Lib.hid hsn
  have hsle:0≤sn∧sn≤1099511627776:=by
   have h1:=hS.sum
   have h2:=hS.nn
   have h3:0≤(σ.fs.map Fl.gi).sum:=hS.gi_nn
   have:=HN.out
   omega
  rw [hsn] at RC
  obtain ⟨ao,cap,hav,hc1,hc2,_,_⟩:=owns_open hO
  subst hav
  unfold maxLen at hc2
  clear hRC hRL hRB hO hS hK hVB hsn KH HL HP HCh
  obtain ⟨rs,rk,hr⟩:∃ rs rk,(firstS ps σ.ls σ.l x.ow x.ow 1099511627776 sn (agO σ.l x.sl x.bu x.nu x.de)).getD (0,0)=(rs,rk):=⟨_,_,rfl⟩
  have HRr:=Lib.hid hr
  have CF:=Lib.hid (fun w' (h:Below wr.heap.size wr w')=>(show Calls Tryz.prog 242 #[.agg #[.int .u64 x.se,.int .u8 x.ow,.int .u8 x.sl,.int .u8 x.bu,.int .i64 sn,.int .i64 x.nu,.int .i64 x.de],.agg #[.pointer (some ⟨G,0,none⟩),.pointer (some ⟨gb,0,none⟩)]] w' fun e w''=>e=.returned (.tuple #[.int .u64 rs,.int .i64 rk])∧Below w'.heap.size w' w'' from by
   have q:=cfirst_any (x:=⟨x.se,x.ow,x.sl,x.bu,sn,x.nu,x.de⟩) HMy (RL.out.below h) SI.out.linv (RB.out.below h) SI.out.binv ⟨HX.out.se,HX.out.ow,HX.out.sl,HX.out.bu,⟨by show _≤sn; omega,by show sn≤_; omega⟩,HX.out.nu,HX.out.de⟩ HMB.out
   dsimp only at q
   rw [HRr.out] at q
   exact q))
  clear hr
  go_wp2_with fail
  refine region_still (by kernel_rfl) [(.pointer (some ⟨ch,0,none⟩)),(.pointer (some ⟨ch,0,none⟩)),(.agg #[.int .u64 x.se,.int .u8 x.ow,.int .u8 x.sl,.int .u8 x.bu,.int .i64 sn,.int .i64 x.nu,.int .i64 x.de]),(.agg #[.pointer (some ⟨G,0,none⟩),.pointer (some ⟨gb,0,none⟩)]),(.tuple #[.int .u64 rs,.int .i64 rk]),(.tuple #[.int .u64 rs,.int .i64 rk]),(.int .u64 rs),(.int .i64 rk),(.int .u64 rs),(.int .i64 rk)]
   (fun w'=>Below wr.heap.size wr w') (by kernel_rfl) (Below.refl _ _).drew ?_
  intro af haf
  simp only [List.toList_toArray,List.append_eq,List.cons_append,List.nil_append,puts,Act.put,List.getD_cons_zero,List.getD_cons_succ,List.setIfInBounds_toArray,List.set_cons_succ,List.set_cons_zero] at haf
  subst haf
  refine ⟨?_,?_⟩
  ·simp only [List.toList_toArray,List.append_eq,List.cons_append,List.nil_append,EachTo]
   refine ⟨?_,?_,?_,?_,?_,?_,?_,?_,?_,?_,trivial⟩
   ·intro w' hS
    refine OpTo.plain ?_ ?_
    exact rfl
    have HS:=Lib.hid hS
    clear hS
    go_wp2_with fail
    all_goals first | exact HS.out | exact ⟨rfl,HS.out⟩ | rfl | exact ⟨by omega,HS.out⟩
   ·intro w' hS
    refine OpTo.plain ?_ ?_
    exact rfl
    have hl0:=Nat.lt_of_lt_of_le RC.out.lt hS.size
    have HS:=Lib.hid hS
    clear hS
    go_wp2_with fail
    all_goals first | exact HS.out | exact ⟨rfl,HS.out⟩ | rfl | exact ⟨by omega,HS.out⟩
   ·intro w' hS
    refine OpTo.plain ?_ ?_
    exact rfl
    have d0_0:=(RC.out.below hS RC.out.lt).cell 0
    have d0_1:=(RC.out.below hS RC.out.lt).cell 1
    have d0_2:=(RC.out.below hS RC.out.lt).cell 2
    have d0_3:=(RC.out.below hS RC.out.lt).cell 3
    have d0_4:=(RC.out.below hS RC.out.lt).cell 4
    have d0_5:=(RC.out.below hS RC.out.lt).cell 5
    have d0_6:=(RC.out.below hS RC.out.lt).cell 6
    simp at d0_0 d0_1 d0_2 d0_3 d0_4 d0_5 d0_6
    have HS:=Lib.hid hS
    clear hS
    go_wp2_with fail
    all_goals first | exact HS.out | exact ⟨rfl,HS.out⟩ | rfl | exact ⟨by omega,HS.out⟩
   ·intro w' hS
    refine OpTo.plain ?_ ?_
    exact rfl
    have d0_0:=(KHr.out.below hS KHr.out.lt).cell 0
    have d0_1:=(KHr.out.below hS KHr.out.lt).cell 1
    simp at d0_0 d0_1
    have HS:=Lib.hid hS
    clear hS
    go_wp2_with fail
    all_goals first | exact HS.out | exact ⟨rfl,HS.out⟩ | rfl | exact ⟨by omega,HS.out⟩
   ·intro w' hS
    refine OpTo.plain ?_ ?_
    exact rfl
    have HS:=Lib.hid hS
    clear hS
    go_wp2_with fail
    refine (CF.out _ HS.out).mono ?_
    rintro e w'' ⟨rfl,hb2⟩
    exact ⟨rfl,andB HS.out hb2⟩
   ·intro w' hS
    refine OpTo.plain ?_ ?_
    exact rfl
    have HS:=Lib.hid hS
    clear hS
    go_wp2_with fail
    all_goals first | exact HS.out | exact ⟨rfl,HS.out⟩ | rfl | exact ⟨by omega,HS.out⟩
   ·intro w' hS
    refine OpTo.plain ?_ ?_
    exact rfl
    have HS:=Lib.hid hS
    clear hS
    go_wp2_with fail
    all_goals first | exact HS.out | exact ⟨rfl,HS.out⟩ | rfl | exact ⟨by omega,HS.out⟩
   ·intro w' hS
    refine OpTo.plain ?_ ?_
    exact rfl
    have HS:=Lib.hid hS
    clear hS
    go_wp2_with fail
    all_goals first | exact HS.out | exact ⟨rfl,HS.out⟩ | rfl | exact ⟨by omega,HS.out⟩
   ·intro w' hS
    refine OpTo.plain ?_ ?_
    exact rfl
    have HS:=Lib.hid hS
    clear hS
    go_wp2_with fail
    all_goals first | exact HS.out | exact ⟨rfl,HS.out⟩ | rfl | exact ⟨by omega,HS.out⟩
   ·intro w' hS
    refine OpTo.plain ?_ ?_
    exact rfl
    have HS:=Lib.hid hS
    clear hS
    go_wp2_with fail
    all_goals first | exact HS.out | exact ⟨rfl,HS.out⟩ | rfl | exact ⟨by omega,HS.out⟩
  intro w1 hS1
  have b1:=hS1
  have KH1:=Lib.hid (KHr.out.below b1 KHr.out.lt)
  have RC1:=Lib.hid (RC.out.below b1 RC.out.lt)
  have RL1:=Lib.hid (RL.out.below b1)
  have RB1:=Lib.hid (RB.out.below b1)
  have OO1:=Lib.hid (owns_below OO.out b1)
  have KK1:=Lib.hid (KK.out.trans (Keep.of_below b1))
  have KW:=Lib.hid ((Keep.of_below (S:=fun k=>k=ch∨base≤k) BW.out).trans (KK1.out.mono (fun k _ h=>h.imp id (fun q=>q.1))))
  clear b1 hS1 CF KHr RC RL RB OO KK
  have HR0:=HRr.out
  cases hfs:firstS ps σ.ls σ.l x.ow x.ow 1099511627776 sn (agO σ.l x.sl x.bu x.nu x.de) with
  | none =>
   rw [hfs] at HR0
   simp only [Option.getD_none,Prod.mk.injEq] at HR0
   obtain ⟨h1,h2⟩:=HR0
   subst h1 h2
   have YES:Hid (placeG ps x.ow x.sl x.bu x.nu x.de 64 ⟨ls,l,[],x.lf⟩=(0,σ)):=Lib.hid (by rw [HE.out]; exact placeG_zero12 SI.out _ (by rw [HSN.out]; exact hfs))
   clear hfs
   have CL:=Lib.hid (clipFl_any OO1.out)
   have HLE:=Lib.hid (show w.heap.size≤W.heap.size by have:=HWS.out; omega)
   go_wp2_with fail
   refine CL.out.mono ?_
   rintro e w2 ⟨v,rfl,hv,_,rfl⟩
   obtain ⟨a,c,rfl,_,_,_,_⟩:=hv.look
   have HV:=Lib.hid (hv.base HLE.out)
   clear hv CL
   go_wp2_with fail
   go_ret2
   exact .inr ⟨_,a,c,σ,YES.out,rfl,by rw [HSN.out]; exact RC1.out,RL1.out,RB1.out,HV.out,KW.out⟩
  | some sk =>
   obtain ⟨s0,k0⟩:=sk
   rw [hfs] at HR0
   simp only [Option.getD_some,Prod.mk.injEq] at HR0
   obtain ⟨h1,h2⟩:=HR0
   subst h1 h2
   obtain ⟨k1,k2,ok,o,ho,_,_,u1,u2,hnx,hnext⟩:=SI.out.step (s:=s0) (k:=k0) (by rw [HSN.out]; exact hfs)
   rw [HSN.out] at u2 hnx
   have HFS:=Lib.hid hfs
   have HOK:=Lib.hid ok
   have HO:=Lib.hid ho
   have HNX:=Lib.hid hnext
   have HSQ:=Lib.hid (show 0≤o.se∧o.se≤18446744073709551615 from by have h1:=SI.out.binv.bd o (findO_mem ho).1; have h2:=SI.out.binv.n2; omega)
   rw [(findO_mem ho).2] at HSQ
   have z5:decide (k0<1)=false:=by simp; omega
   have HPOS:=Lib.hid (show ¬ sn≤0 by omega)
   clear hfs ok ho hnext
   by_cases hfull:σ.fs.length=64
   ·have z6:((σ.fs.length:Int)==64)=true:=by simp; omega
    have NO:Hid ((placeG ps x.ow x.sl x.bu x.nu x.de 64 ⟨ls,l,[],x.lf⟩).1=13):=Lib.hid (by
     rw [HE.out,placeG_full (by rw [HSN.out]; exact HPOS.out) (by rw [HSN.out]; exact HFS.out) hfull])
    clear hfull
    go_wp2_with fail
    go_ret2
    exact .inl ⟨NO.out,rfl,KW.out⟩
   ·have z6:((σ.fs.length:Int)==64)=false:=by simp; omega
    have hl64:σ.fs.length + 1≤64:=by have:=SI.out.len; omega
    have HL64:=Lib.hid hl64
    have NX2:=Lib.hid (HNX.out hfull)
    have CDo:=Lib.hid (pdoS_any HD RL1.out SI.out.linv RB1.out SI.out.binv s0 x.ow x.ow k0 HSQ.out HX.out.ow HX.out.ow ⟨by omega,by omega⟩)
    clear hfull hl64
    have LTS:=Lib.hid (show ∀ k,(k=G∨k=M∨Foot gb vb k)→k<w1.heap.size from fun k h=>by
     rcases h with rfl | rfl | h
     ·exact RL1.out.blk.lt
     ·exact RL1.out.map.lt
     ·exact (RB1.out.lt h).2)
    have CDo:=Lib.hid (fun w' (h:Below w1.heap.size w1 w')=>(show Calls Tryz.prog 235 #[.agg #[.pointer (some ⟨G,0,none⟩),.pointer (some ⟨gb,0,none⟩)],.int .u64 s0,.int .u8 x.ow,.int .u8 x.ow,.int .i64 k0] w' fun e w''=>e=.returned (.tuple #[.agg #[.int .u64 s0,.int .u8 x.ow,.int .u8 x.ow,.int .i64 k0,.int .i64 (upN (k0 * o.nu) o.de)],.int .i64 0]) ∧
      DoT w1 base G M gb ps (filledS ps σ.ls o x.ow x.ow k0 (upN (k0 * o.nu) o.de)) (takeL σ.l s0 k0) N vb w''∧Keep (fun k=>k=G∨k=M∨Foot gb vb k) w' w'' from by
     refine (pdoS_any HD (RL1.out.below h) SI.out.linv (RB1.out.below h) SI.out.binv s0 x.ow x.ow k0 HSQ.out HX.out.ow HX.out.ow ⟨by omega,by omega⟩).mono ?_
     rintro e w'' (⟨hno,_⟩ | ⟨_,o',y',vb',ho',hy',rfl,hRL',hRB',kk,hmv⟩)
     ·exact absurd HOK.out hno
     ·rw [HO.out] at ho'
      cases ho'
      subst hy'
      exact ⟨rfl,⟨vb',hRL',hRB',fun b hb=>(hmv b hb).imp id (fun q=>Nat.le_trans h.size q)⟩,kk⟩))
    obtain ⟨y,hy⟩:∃ y,upN (k0 * o.nu) o.de=y:=⟨_,rfl⟩
    rw [hy] at CDo u1 u2 hnx
    rw [hnx] at NX2
    have HE2:Hid (placeG ps x.ow x.sl x.bu x.nu x.de 64 ⟨ls,l,[],x.lf⟩=placeG ps x.ow x.sl x.bu x.nu x.de (64 - (σ.fs.length + 1)) ⟨filledS ps σ.ls o x.ow x.ow k0 y,takeL σ.l s0 k0,σ.fs++[⟨s0,k0,y⟩],sn - y⟩):=Lib.hid (by
     rw [HE.out,← hnx,← placeG_next (by rw [HSN.out]; exact HPOS.out) (by rw [HSN.out]; exact HFS.out) (by have:=HL64.out; omega)]
     congr 1
     have:=HL64.out
     omega)
    obtain ⟨LS,hLS⟩:∃ LS,filledS ps σ.ls o x.ow x.ow k0 y=LS:=⟨_,rfl⟩
    obtain ⟨TL,hTL⟩:∃ TL,takeL σ.l s0 k0=TL:=⟨_,rfl⟩
    rw [hLS,hTL] at CDo HE2 NX2
    clear hnx hy hLS hTL HNX HE HFS HOK HO
    go_upto_region 6 with fail
    refine region_ghost (by kernel_rfl) (fun g:Nat=>[(.agg #[.pointer (some ⟨G,0,none⟩),.pointer (some ⟨gb,0,none⟩)]),(.int .u64 s0),(.pointer (some ⟨ch,0,none⟩)),(.pointer (some ⟨ch,0,none⟩)),(.pointer (some ⟨ch,1,none⟩)),(.int .u8 x.ow),(.pointer (some ⟨ch,0,none⟩)),(.pointer (some ⟨ch,0,none⟩)),(.pointer (some ⟨ch,1,none⟩)),(.int .u8 x.ow),(.int .i64 k0),(.tuple #[.agg #[.int .u64 s0,.int .u8 x.ow,.int .u8 x.ow,.int .i64 k0,.int .i64 y],.int .i64 0]),(.tuple #[.agg #[.int .u64 s0,.int .u8 x.ow,.int .u8 x.ow,.int .i64 k0,.int .i64 y],.int .i64 0]),(.agg #[.int .u64 s0,.int .u8 x.ow,.int .u8 x.ow,.int .i64 k0,.int .i64 y]),(.int .i64 0),(.pointer (some ⟨g,0,none⟩)),undef,(.int .i64 0)])
     (DoI w1 base G M gb ps LS TL N vb #[.int .u64 s0,.int .u8 x.ow,.int .u8 x.ow,.int .i64 k0,.int .i64 y]) (by kernel_rfl) 0 DoI.start ?_
    intro AF hAF
    simp only [List.toList_toArray,List.append_eq,List.cons_append,List.nil_append,puts,Act.put,List.getD_cons_zero,List.getD_cons_succ,List.setIfInBounds_toArray,List.set_cons_succ,List.set_cons_zero] at hAF
    have hAF2:_=AF:=funext hAF
    subst hAF2
    clear hAF
    refine ⟨?_,?_⟩
    ·simp only [List.toList_toArray,List.append_eq,List.cons_append,List.nil_append,EachG]
     refine ⟨?_,?_,?_,?_,?_,?_,?_,?_,?_,?_,?_,?_,?_,?_,?_,?_,?_,?_,trivial⟩
     ·intro g D w' hD hW hC hI
      refine ⟨g,fun _ _ _=>rfl,?_⟩
      with_reducible refine OpTo.plain ?_ ?_
      exact rfl
      have hS:=hI.1 (need_not hC hD 11 (by kernel_rfl))
      have hk:=KH1.out.below hS KH1.out.lt
      have hl:=hk.lt
      have e0:=hk.cell 0; have e1:=hk.cell 1
      simp at e0 e1
      clear hk
      have HS:=Lib.hid (hI.keep 0 rfl)
      clear hI hC hW hD hS
      go_wp2_with fail
      all_goals first | exact HS.out | exact ⟨rfl,HS.out⟩ | rfl
     ·intro g D w' hD hW hC hI
      refine ⟨g,fun _ _ _=>rfl,?_⟩
      with_reducible refine OpTo.plain ?_ ?_
      exact rfl
      have HS:=Lib.hid (hI.keep 1 rfl)
      clear hI hC hW hD
      go_wp2_with fail
      all_goals first | exact HS.out | exact ⟨rfl,HS.out⟩ | rfl
     ·intro g D w' hD hW hC hI
      refine ⟨g,fun _ _ _=>rfl,?_⟩
      with_reducible refine OpTo.plain ?_ ?_
      exact rfl
      have HS:=Lib.hid (hI.keep 2 rfl)
      clear hI hC hW hD
      go_wp2_with fail
      all_goals first | exact HS.out | exact ⟨rfl,HS.out⟩ | rfl
     ·intro g D w' hD hW hC hI
      refine ⟨g,fun _ _ _=>rfl,?_⟩
      with_reducible refine OpTo.plain ?_ ?_
      exact rfl
      have hS:=hI.1 (need_not hC hD 11 (by kernel_rfl))
      have hk:=RC1.out.below hS RC1.out.lt
      have hl:=hk.lt
      have e1:=hk.cell 1
      simp at e1
      clear hk
      have HS:=Lib.hid (hI.keep 3 rfl)
      clear hI hC hW hD hS
      go_wp2_with fail
      all_goals first | exact HS.out | exact ⟨rfl,HS.out⟩ | rfl
     ·intro g D w' hD hW hC hI
      refine ⟨g,fun _ _ _=>rfl,?_⟩
      with_reducible refine OpTo.plain ?_ ?_
      exact rfl
      have hS:=hI.1 (need_not hC hD 11 (by kernel_rfl))
      have hk:=RC1.out.below hS RC1.out.lt
      have hl:=hk.lt
      have e1:=hk.cell 1
      simp at e1
      clear hk
      have HS:=Lib.hid (hI.keep 4 rfl)
      clear hI hC hW hD hS
      go_wp2_with fail
      all_goals first | exact HS.out | exact ⟨rfl,HS.out⟩ | rfl
     ·intro g D w' hD hW hC hI
      refine ⟨g,fun _ _ _=>rfl,?_⟩
      with_reducible refine OpTo.plain ?_ ?_
      exact rfl
      have hS:=hI.1 (need_not hC hD 11 (by kernel_rfl))
      have hk:=RC1.out.below hS RC1.out.lt
      have hl:=hk.lt
      have e1:=hk.cell 1
      simp at e1
      clear hk
      have HS:=Lib.hid (hI.keep 5 rfl)
      clear hI hC hW hD hS
      go_wp2_with fail
      all_goals first | exact HS.out | exact ⟨rfl,HS.out⟩ | rfl
     ·intro g D w' hD hW hC hI
      refine ⟨g,fun _ _ _=>rfl,?_⟩
      with_reducible refine OpTo.plain ?_ ?_
      exact rfl
      have HS:=Lib.hid (hI.keep 6 rfl)
      clear hI hC hW hD
      go_wp2_with fail
      all_goals first | exact HS.out | exact ⟨rfl,HS.out⟩ | rfl
     ·intro g D w' hD hW hC hI
      refine ⟨g,fun _ _ _=>rfl,?_⟩
      with_reducible refine OpTo.plain ?_ ?_
      exact rfl
      have hS:=hI.1 (need_not hC hD 11 (by kernel_rfl))
      have hk:=RC1.out.below hS RC1.out.lt
      have hl:=hk.lt
      have e1:=hk.cell 1
      simp at e1
      clear hk
      have HS:=Lib.hid (hI.keep 7 rfl)
      clear hI hC hW hD hS
      go_wp2_with fail
      all_goals first | exact HS.out | exact ⟨rfl,HS.out⟩ | rfl
     ·intro g D w' hD hW hC hI
      refine ⟨g,fun _ _ _=>rfl,?_⟩
      with_reducible refine OpTo.plain ?_ ?_
      exact rfl
      have hS:=hI.1 (need_not hC hD 11 (by kernel_rfl))
      have hk:=RC1.out.below hS RC1.out.lt
      have hl:=hk.lt
      have e1:=hk.cell 1
      simp at e1
      clear hk
      have HS:=Lib.hid (hI.keep 8 rfl)
      clear hI hC hW hD hS
      go_wp2_with fail
      all_goals first | exact HS.out | exact ⟨rfl,HS.out⟩ | rfl
     ·intro g D w' hD hW hC hI
      refine ⟨g,fun _ _ _=>rfl,?_⟩
      with_reducible refine OpTo.plain ?_ ?_
      exact rfl
      have hS:=hI.1 (need_not hC hD 11 (by kernel_rfl))
      have hk:=RC1.out.below hS RC1.out.lt
      have hl:=hk.lt
      have e1:=hk.cell 1
      simp at e1
      clear hk
      have HS:=Lib.hid (hI.keep 9 rfl)
      clear hI hC hW hD hS
      go_wp2_with fail
      all_goals first | exact HS.out | exact ⟨rfl,HS.out⟩ | rfl
     ·intro g D w' hD hW hC hI
      refine ⟨g,fun _ _ _=>rfl,?_⟩
      with_reducible refine OpTo.plain ?_ ?_
      exact rfl
      have HS:=Lib.hid (hI.keep 10 rfl)
      clear hI hC hW hD
      go_wp2_with fail
      all_goals first | exact HS.out | exact ⟨rfl,HS.out⟩ | rfl
     ·intro g D w' hD hW hC hI
      refine ⟨g,fun _ _ _=>rfl,?_⟩
      with_reducible refine OpTo.plain ?_ ?_
      exact rfl
      have h16:=need_not hC hD 16 (by kernel_rfl)
      have HI:=Lib.hid hI
      have HC:=Lib.hid (CDo.out w' (hI.1 hD))
      have HB:=Lib.hid (And.intro hD h16)
      clear hI hC hW hD h16
      go_wp2_with fail
      refine HC.out.mono ?_
      rintro e w'' ⟨rfl,ht,hk⟩
      exact ⟨rfl,HI.out.call HB.out.1 HB.out.2 LTS.out ht hk⟩
     ·intro g D w' hD hW hC hI
      refine ⟨g,fun _ _ _=>rfl,?_⟩
      with_reducible refine OpTo.plain ?_ ?_
      exact rfl
      have HS:=Lib.hid (hI.keep 12 rfl)
      clear hI hC hW hD
      go_wp2_with fail
      all_goals first | exact HS.out | exact ⟨rfl,HS.out⟩ | rfl
     ·intro g D w' hD hW hC hI
      refine ⟨g,fun _ _ _=>rfl,?_⟩
      with_reducible refine OpTo.plain ?_ ?_
      exact rfl
      have HS:=Lib.hid (hI.keep 13 rfl)
      clear hI hC hW hD
      go_wp2_with fail
      all_goals first | exact HS.out | exact ⟨rfl,HS.out⟩ | rfl
     ·intro g D w' hD hW hC hI
      refine ⟨g,fun _ _ _=>rfl,?_⟩
      with_reducible refine OpTo.plain ?_ ?_
      exact rfl
      have HS:=Lib.hid (hI.keep 14 rfl)
      clear hI hC hW hD
      go_wp2_with fail
      all_goals first | exact HS.out | exact ⟨rfl,HS.out⟩ | rfl
     ·intro g D w' hD hW hC hI
      have h16:=need_not hC hD 16 (by kernel_rfl)
      refine ⟨w'.heap.size,fun j hj hjD=>?_,?_⟩
      ·rcases (by have:j<18:=hj; omega:j=0∨j=1∨j=2∨j=3∨j=4∨j=5∨j=6∨j=7∨j=8∨j=9∨j=10∨j=11∨j=12∨j=13∨j=14∨j=15∨j=16∨j=17) with rfl | rfl | rfl | rfl | rfl | rfl | rfl | rfl | rfl | rfl | rfl | rfl | rfl | rfl | rfl | rfl | rfl | rfl
       all_goals first | rfl | exact absurd (hD.symm.trans hjD) (by decide)
      with_reducible refine OpTo.plain ?_ ?_
      exact rfl
      have HS:=Lib.hid (hI.lay h16)
      clear hI hC hW hD h16
      go_wp2_with fail
      all_goals first | exact HS.out | exact ⟨rfl,HS.out⟩ | rfl
     ·intro g D w' hD hW hC hI
      refine ⟨g,fun _ _ _=>rfl,?_⟩
      with_reducible refine OpTo.plain ?_ ?_
      exact rfl
      have h11:D 11=true:=need_waited hC hW (by kernel_rfl)
      have h15:D 15=true:=need_waited hC hW (by kernel_rfl)
      have HS:=Lib.hid (hI.fill h11 h15 hD LTS.out)
      have hk:=(hI.2.2.2 h15).2.1 hD
      refine wp_store_row 241 (.tmp 10) (.tmp 43) rfl g #[.int .u64 s0,.int .u8 x.ow,.int .u8 x.ow,.int .i64 k0,.int .i64 y] rfl rfl 241 _ hk (by kernel_rfl) rfl (by simp [Value.oneCell']) ⟨rfl,?_⟩
      exact HS.out
     ·intro g D w' hD hW hC hI
      refine ⟨g,fun _ _ _=>rfl,?_⟩
      with_reducible refine OpTo.plain ?_ ?_
      exact rfl
      have HS:=Lib.hid (hI.keep 17 rfl)
      clear hI hC hW hD
      go_wp2_with fail
      all_goals first | exact HS.out | exact ⟨rfl,HS.out⟩ | rfl
    intro g D w3 hall hI
    obtain ⟨_,a2,a3,a4⟩:=hI
    obtain ⟨⟨vb2,t1,t2,t3⟩,kk⟩:=a2 (hall 11 (by decide))
    obtain ⟨g1,_,g2⟩:=a4 (hall 15 (by decide))
    have KF:=Lib.hid (g2 (hall 16 (by decide)))
    have hWS:=HWS.out
    have hge:=GE.out
    have hsz:=KK1.out.size
    have hvb:∀ j,j<W.heap.size→(j=G∨j=M∨Foot gb vb j)→base≤j∧j<w.heap.size:=by
     intro j hj h
     rcases h with h | h | h | h
     ·omega
     ·omega
     ·omega
     ·have h1:=VB.out j h
      have h2:=(RB1.out.lt (b:=j) (.inr h)).1
      omega
    have RC3:=Lib.hid (RC1.out.keep kk (fun h=>by have:=hvb _ (by omega) h; omega))
    have KH3:=Lib.hid (KH1.out.keep kk (fun h=>by have:=hvb _ (by omega) h; omega))
    have OO3:=Lib.hid (owns_keep OO1.out kk (fun b hb h=>by
     have h1:=(owns_type OO1.out hb).1
     rcases h with h | h | h | h
     ·omega
     ·omega
     ·omega
     ·exact own_own_ne OO1.out RB1.out.row (by decide) b hb h))
    have KK3:=Lib.hid (KK1.out.trans_new kk (fun j hj h=>.inr (hvb j hj h)))
    have VB3:=Lib.hid (show ∀ b,vb2.ownBlock=some b→b<w.heap.size∨W.heap.size≤b from fun j hj=>by
     rcases t3 j hj with h | h
     ·exact VB.out j h
     ·exact .inr (by omega))
    have RL3:=Lib.hid t1
    have RB3:=Lib.hid t2
    have GO:=Lib.hid (show ∀ b,(Value.slice ao σ.fs.length cap).ownBlock=some b→b<g∧W.heap.size≤b from fun b hb=>by have:=owns_type OO1.out hb; omega)
    have GG:=Lib.hid (show w.heap.size + 1≤g by omega)
    clear hWS hge hsz hvb t1 t2 t3 a2 a3 a4 kk g1 g2 hall RL1 RB1 OO1 KK1 RC1 KH1 VB CDo LTS
    have f0:=KF.out.cell 0; have f1:=KF.out.cell 1; have f2:=KF.out.cell 2; have f3:=KF.out.cell 3; have f4:=KF.out.cell 4
    have fl:=KF.out.lt
    simp at f0 f1 f2 f3 f4
    have hb5:=KK3.out.size
    go_wp2_with (at_builtin; refine wpList_append_one _ rfl (.tmp 45) (.tmp 47) 235 241 rfl Tryz.underlying235 info_flp12 rfl (by decide) (by decide) W.heap.size _ σ.fs.length _ rfl (OO3.out.alloc _) w3.heap.size 1 [.int .u64 s0,.int .u8 x.ow,.int .u8 x.ow,.int .i64 k0,.int .i64 y] rfl rfl (Blk.new _ _ _) (by simp [Value.oneCell']) (by have:=HL64.out; omega) (by simp; omega) ?_)
    intro v2 w4 ho2 hg2
    have KG:Keep (fun k=>(Value.slice ao σ.fs.length cap).ownBlock=some k) w3 w4:=((Keep.refl _ w3).alloc _).grown hg2 (fun k hk=>.inl hk)
    have RL4:=Lib.hid (RL3.out.keep KG (fun h=>by have:=(owns_type OO3.out h).1; have:=GE.out; have:=HWS.out; omega) (fun h=>by have:=(owns_type OO3.out h).1; have:=GE.out; have:=HWS.out; omega))
    have RB4:=Lib.hid (RB3.out.keep KG (fun h=>by have:=(owns_type OO3.out h).1; have:=GE.out; have:=HWS.out; omega) (fun b hb h=>own_own_ne OO3.out RB3.out.row (by decide) b h hb))
    have KK4:=Lib.hid (KK3.out.trans_new KG (fun j hj h=>by have:=(owns_type OO3.out h).1; omega))
    have RC4:=Lib.hid (RC3.out.keep KG (fun h=>by have:=(owns_type OO3.out h).1; have:=GE.out; have:=HWS.out; omega))
    have KF4:=Lib.hid (KF.out.keep KG (fun h=>by have:=GO.out _ h; omega))
    have O4:=Lib.hid (show w4.ownsRow W.heap.size 241 5 v2 (σ.fs++[(⟨s0,k0,y⟩:Fl)]).length (flCells x.ow x.ow (σ.fs++[(⟨s0,k0,y⟩:Fl)])) from by rw [flCells_next]; simpa [Fl.vals] using ho2)
    obtain ⟨ao2,cap2,hv2,_⟩:=owns_open O4.out
    subst hv2
    clear KG ho2 hg2 f0 f1 f2 f3 f4 fl hb5 RL3 RB3 OO3 KK3 RC3 KH3 KF
    have c4:=RC4.out.cell 4
    have cl:=RC4.out.lt
    have cf:=RC4.out.frozen 4
    have f4:=KF4.out.cell 4
    have fl:=KF4.out.lt
    simp at c4 f4
    have kk:Keep (fun k=>k=ch) w4 (w4.setCell ⟨ch,4,none⟩ (.int .i64 (sn - y))).drew:=(Keep.setCell (S:=fun k=>k=ch) (Keep.refl _ _) (p:=⟨ch,4,none⟩) (.inl rfl) _).drew
    have RC5:Hid (Blk (w4.setCell ⟨ch,4,none⟩ (.int .i64 (sn - y))).drew ch #[.int .u64 x.se,.int .u8 x.ow,.int .u8 x.sl,.int .u8 x.bu,.int .i64 (sn - y),.int .i64 x.nu,.int .i64 x.de] 294):=Lib.hid (RC4.out.set 4 _)
    have RL5:=Lib.hid (RL4.out.keep kk (by have:=GE.out; omega) (by have:=GE.out; omega))
    have RB5:=Lib.hid (RB4.out.keep kk (by have:=GE.out; omega) (fun b hb e=>by have h1:=(RB4.out.lt (.inr hb)).1; have:=GE.out; omega))
    have KK5:=Lib.hid (KK4.out.trans (kk.mono (fun k _ h=>.inl h)))
    have O5:=Lib.hid (owns_keep O4.out kk (fun b hb e=>by have h1:=(owns_type O4.out hb).1; have:=GE.out; have:=HWS.out; omega))
    clear kk RL4 RB4 KK4 O4
    go_wp2_with fail
    go_region
    all_goals
     go_wp2_with fail
     exact ⟨⟨⟨LS,TL,σ.fs++[⟨s0,k0,y⟩],sn - y⟩,_,RC5.out,RL5.out,RB5.out,VB3.out,O5.out,NX2.out,KK5.out,Lib.hid (by rw [HE2.out]; simp)⟩,by simp [slN]; have:=HL64.out; omega⟩
end Go.Proofs.YtngnfdnfpiiclaaGreat
namespace Go.Proofs.YtngnfdnfpiiclaaGreat
open Go.RowKit
theorem results_cell_and3 {P:Program} {fn:Func} {p u x y:Tmp} {ty:TypeId} (h:fn.results=#[.cell p ty,.tmp u,.tmp x,.tmp y]) (tmps:Array Value) (w:World) (g:Nat) (t:TypeId) (cs:Array Value) (d:TypeDesc) (v v2 v3:Value)
  (hp:tmps.getD p undef=.pointer (some ⟨g,0,none⟩)) (hg:w.heap[g]? = some (.cells cs t (0,0)))
  (hu:P.underlying ty=some d) (hd:(match d with | .struct _ | .array _ _=>true | _=>false)=true) (hi:(P.info? ty).map (·.size)=some cs.size) (hv:tmps.getD u undef=v) (hv2:tmps.getD x undef=v2) (hv3:tmps.getD y undef=v3) :
  (results fn tmps).run P w=.ok (.tuple #[.agg cs,v,v2,v3]) w:=by
 have h1:=results_cell_row (P:=P) (fn:={ fn with results:=#[.cell p ty] }) rfl tmps w g t cs (0,0) d hp hg hu hd hi
 have h2:((asAddr (tmps.getD p undef)).run P w).andThen (fun a w₁=>(loadVar ty a).run P w₁)=.ok (.agg cs) w:=by
  simpa [results,Sem.run_bind,Result.andThen] using h1
 have h3:(results fn tmps).run P w=((asAddr (tmps.getD p undef)).run P w).andThen fun a w₁=>((loadVar ty a).run P w₁).andThen fun v w₂=>.ok (.tuple #[v,tmps.getD u undef,tmps.getD x undef,tmps.getD y undef]) w₂:=by
  simp only [results,h]
  simp [Sem.run_bind,Result.andThen]
 rw [h3]
 rw [hp] at h2 ⊢
 simp only [asAddr,Sem.run_pure,Result.andThen_ok] at h2 ⊢
 rw [h2]
 simp only [Result.andThen_ok,hv,hv2,hv3]
end Go.Proofs.YtngnfdnfpiiclaaGreat
