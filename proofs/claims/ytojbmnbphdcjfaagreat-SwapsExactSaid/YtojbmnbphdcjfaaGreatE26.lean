/-
  Pieces of one proof, without what is not wanted: PSwap4, PB9, PFills5.
-/
import Derived.Test.YtojbmnbphdcjfaaGreatE02
import Derived.Test.YtojbmnbphdcjfaaGreatE17
import Derived.Test.YtojbmnbphdcjfaaGreatE18
import Derived.Test.YtojbmnbphdcjfaaGreatE19
import Derived.Test.YtojbmnbphdcjfaaGreatE21
import Derived.Test.YtojbmnbphdcjfaaGreatE25
set_option linter.unusedSimpArgs false
set_option linter.unusedVariables false
namespace Go.Proofs.YtojbmnbphdcjfaaGreat
open Go.RowKit
theorem info_flp:(Tryz.prog.info? 80).map (fun i=>(i.zero,i.size,i.bytes))=some (some (.agg #[.int .u64 0,.int .u8 0,.int .u8 0,.int .i64 0,.int .i64 0]),5,32):=by kernel_rfl
noncomputable def swapG (ps:List Int) (fr pt get give most:Int) (σ:SwS):Int × SwS :=
 if (swapN ps fr pt get give 64 σ).1≠0 then swapN ps fr pt get give 64 σ else if most<((swapN ps fr pt get give 64 σ).2.fs.map Fl.gi).sum then (12,(swapN ps fr pt get give 64 σ).2) else swapN ps fr pt get give 64 σ
def FilAt (W:World) (base s1 G M gb:Nat) (ps:List Int) (ls0:List Ln) (l0:List Of) (N tk pt get give n0:Int) (av nv:Value) (wr:World):Prop :=
 ∃ (σ:SwS) (vb:Value),nv=.int .i64 σ.n∧LedM wr G M ps σ.ls∧PB wr base gb σ.l N vb∧(∀ b,vb.ownBlock=some b→b<s1∨W.heap.size≤b)∧wr.ownsRow W.heap.size 80 5 av σ.fs.length (flCells tk pt σ.fs)∧SwInv ps ls0 l0 N tk pt get give n0 σ∧σ.fs.length≤64 ∧
  Keep (fun k=>base≤k∧k<s1) W wr∧Hid (swapN ps tk pt get give 64 ⟨ls0,l0,[],n0⟩=swapN ps tk pt get give (64 - σ.fs.length) σ)
def PFil (w:World) (base G M gb:Nat) (ps:List Int) (ls:List Ln) (l:List Of) (N fr pt get give n most:Int) (e:Ending) (w':World):Prop :=
 (∃ (er:Int) (a:Option Addr) (k c:Nat),er≠0∧(swapG ps fr pt get give most ⟨ls,l,[],n⟩).1=er∧e=.returned (.tuple #[.slice a k c,.int .i64 er])∧Below base w w') ∨
 (∃ (vb:Value) (a:Option Addr) (c:Nat) (σ:SwS),swapG ps fr pt get give most ⟨ls,l,[],n⟩=(0,σ)∧e=.returned (.tuple #[.slice a σ.fs.length c,.int .i64 0])∧LedM w' G M ps σ.ls∧PB w' base gb σ.l N vb∧Rowed w' w.heap.size 80 5 (.slice a σ.fs.length c) σ.fs.length (flCells fr pt σ.fs)∧Below base w w')
set_option maxHeartbeats 32000000 in
set_option maxRecDepth 100000 in
theorem pfill_any (HMy:FMayProg) (HD:FDoProg) {w:World} {base G M gb:Nat} {ps:List Int} {ls:List Ln} {l:List Of} {N:Int} {vb:Value} (hL:LedM w G M ps ls) (hI:LInv ps ls) (hP:PB w base gb l N vb) (hJ:BInv l N) (hG:base≤G) (hM:base≤M) (hb:base≤w.heap.size)
  (fr pt get give n most:Int) (hf:In8 fr) (ht:In8 pt) (hg:In8 get) (hv:In8 give) (hn:1≤n∧n≤1099511627776) (hm:1≤most∧most≤1099511627776) :
  Calls Tryz.prog 40 #[.agg #[.int .u8 fr,.int .u8 pt,.int .u8 get,.int .u8 give,.int .i64 n,.int .i64 most],.agg #[.pointer (some ⟨G,0,none⟩),.pointer (some ⟨gb,0,none⟩)]] w (PFil w base G M gb ps ls l N fr pt get give n most):=by
 have b1:=(Below.refl w.heap.size w).alloc (Nat.le_refl _) (.cells #[.int .u8 fr,.int .u8 pt,.int .u8 get,.int .u8 give,.int .i64 n,.int .i64 most] 94)
 have b2:=b1.alloc b1.size (.cells #[.pointer (some ⟨G,0,none⟩),.pointer (some ⟨gb,0,none⟩)] 32)
 have KS:=Lib.hid ((Blk.new w #[.int .u8 fr,.int .u8 pt,.int .u8 get,.int .u8 give,.int .i64 n,.int .i64 most] 94).alloc (.cells #[.pointer (some ⟨G,0,none⟩),.pointer (some ⟨gb,0,none⟩)] 32))
 have KH:=Lib.hid (Blk.newAt (w.alloc (.cells #[.int .u8 fr,.int .u8 pt,.int .u8 get,.int .u8 give,.int .i64 n,.int .i64 most] 94)) #[.pointer (some ⟨G,0,none⟩),.pointer (some ⟨gb,0,none⟩)] 32 (g:=w.heap.size + 1) (by simp))
 have HL:=Lib.hid (hL.below b2)
 have HP:=Lib.hid (hP.below b2)
 have B:=Lib.hid b2
 have GE:=Lib.hid (show base≤G∧base≤M∧base≤w.heap.size∧G<w.heap.size∧M<w.heap.size∧gb<w.heap.size∧base≤gb∧(∀ b,vb.ownBlock=some b→b<w.heap.size) from ⟨hG,hM,hb,hL.blk.lt,hL.map.lt,hP.blk.lt,hP.ge,fun b hb=>(hP.lt (.inr hb)).2⟩)
 have II:=Lib.hid hI
 have JJ:=Lib.hid hJ
 have HF:=Lib.hid hf
 have HTo:=Lib.hid ht
 have HGe:=Lib.hid hg
 have HGi:=Lib.hid hv
 have HN:=Lib.hid hn
 have HM:=Lib.hid hm
 have HWS:Hid (((w.alloc (.cells #[.int .u8 fr,.int .u8 pt,.int .u8 get,.int .u8 give,.int .i64 n,.int .i64 most] 94)).alloc (.cells #[.pointer (some ⟨G,0,none⟩),.pointer (some ⟨gb,0,none⟩)] 32)).heap.size=w.heap.size + 2):=Lib.hid (by simp)
 clear b1 b2 hL hI hP hJ hG hM hb hf ht hg hv hn hm
 generalize hW:(w.alloc (.cells #[.int .u8 fr,.int .u8 pt,.int .u8 get,.int .u8 give,.int .i64 n,.int .i64 most] 94)).alloc (.cells #[.pointer (some ⟨G,0,none⟩),.pointer (some ⟨gb,0,none⟩)] 32)=W at *
 have HW:=Lib.hid hW
 clear hW
 have s4:=KS.out.cell 4
 have sl:=KS.out.lt
 simp at s4
 go_enter Tryz.func40,Tryz.ntmps40
 go_upto_region 1 with fail
 rw [HW.out]
 go_wp2_with fail
 go_loopw [4,6,7,8,9,10] (fun av nv _ _ _ _ wr=>FilAt W base w.heap.size G M gb ps ls l N fr pt get give n av nv wr) (fun _ nv _ _ _ _ _=>(intOf nv).toNat)
 case atStart=>exact ⟨⟨ls,l,[],n⟩,vb,rfl,HL.out,HP.out,fun b hb=>.inl (GE.out.2.2.2.2.2.2.2 b hb),World.ownsRow_nil _ _ _ _,SwInv.start II.out JJ.out,by simp,Keep.refl _ _,Lib.hid rfl⟩
 case round =>
  obtain ⟨σ,vb,rfl,hRL,hRB,hVB,hO,hS,hlen,hK,HE⟩:=hrel
  have RL:=Lib.hid hRL
  have RB:=Lib.hid hRB
  have VB:=Lib.hid hVB
  have OO:=Lib.hid hO
  have SI:=Lib.hid hS
  have KK:=Lib.hid hK
  have KSr:=Lib.hid (KS.out.keep hK (by omega))
  have KHr:=Lib.hid (KH.out.keep hK (by omega))
  have BR:Hid (Below base w wr):=Lib.hid ((B.out.mono GE.out.2.2.1).trans (hK.below (by have:=GE.out; have:=HWS.out; omega) (fun k hk h=>by omega)))
  obtain ⟨sn,hsn⟩:∃ sn,σ.n=sn:=⟨_,rfl⟩
  have HSN:=Lib.hid hsn
  have hsle:sn≤1099511627776:=by
   have h1:=hS.sum
   have h2:0≤(σ.fs.map Fl.got).sum:=hS.got_nn
   have:=HN.out
   omega
  rw [hsn]
  obtain ⟨ao,cap,hav,hc1,hc2,_,_⟩:=owns_open hO
  subst hav
  unfold maxLen at hc2
  clear hRL hRB hO hS hK hVB hsn s4 sl KS KH HL HP B
  by_cases hn0:0<sn
  ·have q0:decide (0<sn)=true:=by simpa using hn0
   have CF:=Lib.hid (pfirst_any (n:=n) (most:=most) HMy RL.out SI.out.linv RB.out SI.out.binv HF.out HTo.out HGe.out HGi.out (want:=sn) (by unfold In64; omega))
   have s0:=KSr.out.cell 0; have s1:=KSr.out.cell 1; have s2:=KSr.out.cell 2; have s3:=KSr.out.cell 3; have s4:=KSr.out.cell 4; have s5:=KSr.out.cell 5
   have sl:=KSr.out.lt
   have h0:=KHr.out.cell 0; have h1:=KHr.out.cell 1
   have hl:=KHr.out.lt
   simp at s0 s1 s2 s3 s4 s5 h0 h1
   go_wp2_with fail
   refine CF.out.mono ?_
   rintro e w1 ⟨rfl,b1⟩
   have KS1:=Lib.hid (KSr.out.below b1 KSr.out.lt)
   have KH1:=Lib.hid (KHr.out.below b1 KHr.out.lt)
   have RL1:=Lib.hid (RL.out.below b1)
   have RB1:=Lib.hid (RB.out.below b1)
   have OO1:=Lib.hid (owns_below OO.out b1)
   have KK1:=Lib.hid (KK.out.trans (Keep.of_below b1))
   have B1:=Lib.hid (BR.out.trans (b1.mono (by have:=BR.out.size; have:=GE.out; omega)))
   clear b1 s0 s1 s2 s3 s4 s5 sl h0 h1 hl CF KSr KHr RL RB OO KK BR
   cases hfs:firstS ps σ.ls σ.l fr pt sn 1099511627776 (bestO σ.l get give) with
   | none =>
    have NO:Hid ((swapG ps fr pt get give most ⟨ls,l,[],n⟩).1=11):=Lib.hid (by
     have e:swapN ps fr pt get give 64 ⟨ls,l,[],n⟩=(11,σ):=by rw [HE.out,swapN_none (by rw [HSN.out]; omega) (by rw [HSN.out]; exact hfs)]
     unfold swapG; rw [e]; simp only []; rw [if_pos (by simp)])
    clear hfs
    dsimp only [Option.getD_none]
    go_wp2_with fail
    go_ret2
    exact .inl ⟨11,_,_,_,by decide,NO.out,rfl,B1.out⟩
   | some sk =>
    obtain ⟨s0,k0⟩:=sk
    obtain ⟨k1,k2,ok,⟨o,ho,_,_⟩,hnext⟩:=SI.out.step (s:=s0) (k:=k0) (by rw [HSN.out]; exact hfs)
    rw [HSN.out] at k2
    have HFS:=Lib.hid hfs
    have HOK:=Lib.hid ok
    have HO:=Lib.hid ho
    have HNX:=Lib.hid hnext
    have HSQ:=Lib.hid (show 0≤o.se∧o.se≤18446744073709551615 from by have h1:=SI.out.binv.bd o (findO_mem ho).1; have h2:=SI.out.binv.n2; omega)
    rw [(findO_mem ho).2] at HSQ
    have z5:decide (k0<1)=false:=by simp; omega
    clear hfs ok ho hnext
    dsimp only [Option.getD_some]
    by_cases hfull:σ.fs.length=64
    ·have z6:((σ.fs.length:Int)==64)=true:=by simp; omega
     have NO:Hid ((swapG ps fr pt get give most ⟨ls,l,[],n⟩).1=13):=Lib.hid (by
      have e:swapN ps fr pt get give 64 ⟨ls,l,[],n⟩=(13,σ):=by rw [HE.out,swapN_full (by rw [HSN.out]; omega) (by rw [HSN.out]; exact HFS.out) hfull]
      unfold swapG; rw [e]; simp only []; rw [if_pos (by simp)])
     clear hfull
     go_wp2_with fail
     go_ret2
     exact .inl ⟨13,_,_,_,by decide,NO.out,rfl,B1.out⟩
    ·have z6:((σ.fs.length:Int)==64)=false:=by simp; omega
     have HL64:=Lib.hid (show σ.fs.length + 1≤64 by omega)
     have CDo:=Lib.hid (pdoS_any HD RL1.out SI.out.linv RB1.out SI.out.binv s0 fr pt k0 HSQ.out HF.out HTo.out ⟨by omega,by omega⟩)
     have s0_:=KS1.out.cell 0; have s1_:=KS1.out.cell 1
     have sl:=KS1.out.lt
     have h0:=KH1.out.cell 0; have h1:=KH1.out.cell 1
     have hl:=KH1.out.lt
     simp at s0_ s1_ h0 h1
     clear hfull
     go_wp2_with fail
     refine CDo.out.mono ?_
     rintro e wd hd
     clear s0_ s1_ sl h0 h1 hl CDo
     rcases hd with ⟨hno,_⟩ | ⟨_,o',x,vb',ho',hx,rfl,hRL',hRB',kk,hmv⟩
     ·exact absurd HOK.out hno
     rw [HO.out] at ho'
     cases ho'
     have EN:Hid (nextS ps fr pt σ s0 k0=⟨filledS ps σ.ls o fr pt k0 x,takeL σ.l s0 k0,σ.fs++[⟨s0,k0,x⟩],sn - k0⟩):=Lib.hid (by unfold nextS; rw [HO.out,hx,← HSN.out])
     have hWS:=HWS.out
     have hge:=GE.out
     have hsz:=KK1.out.size
     have hvb:∀ j,j<W.heap.size→(j=G∨j=M∨Foot gb vb j)→base≤j∧j<w.heap.size:=by
      intro j hj h
      rcases h with h | h | h | h
      ·omega
      ·omega
      ·omega
      ·have h1:=VB.out j h
       have h2:=(RB1.out.lt (b:=j) (.inr h)).1
       omega
     have KSd:=Lib.hid (KS1.out.keep kk (fun h=>by have:=hvb _ (by omega) h; omega))
     have KHd:=Lib.hid (KH1.out.keep kk (fun h=>by have:=hvb _ (by omega) h; omega))
     have OOd:=Lib.hid (owns_keep OO1.out kk (fun b hb h=>by
      have h1:=(owns_type OO1.out hb).1
      rcases h with h | h | h | h
      ·omega
      ·omega
      ·omega
      ·exact own_own_ne OO1.out RB1.out.row (by decide) b hb h))
     have KKd:=Lib.hid (KK1.out.trans_new kk hvb)
     have VBd:=Lib.hid (show ∀ b,vb'.ownBlock=some b→b<w.heap.size∨W.heap.size≤b from fun j hj=>by
      rcases hmv j hj with h | h
      ·exact VB.out j h
      ·exact .inr (by omega))
     have bf:=(Below.refl wd.heap.size wd).alloc (Nat.le_refl _) (.cells #[.int .u64 s0,.int .u8 fr,.int .u8 pt,.int .i64 k0,.int .i64 x] 80)
     have KF:=Lib.hid (Blk.new wd #[.int .u64 s0,.int .u8 fr,.int .u8 pt,.int .i64 k0,.int .i64 x] 80)
     have RLf:=Lib.hid (hRL'.below bf)
     have RBf:=Lib.hid (hRB'.below bf)
     have OOf:=Lib.hid (owns_below OOd.out bf)
     have KSf:=Lib.hid (KSd.out.below bf KSd.out.lt)
     have KHf:=Lib.hid (KHd.out.below bf KHd.out.lt)
     have KKf:=Lib.hid (KKd.out.trans (Keep.of_below bf))
     clear bf hRL' hRB' kk hmv hx RL1 RB1 OO1 KK1 KS1 KH1 KSd KHd OOd KKd B1 VB hvb hWS hge hsz
     generalize hWF:wd.alloc (.cells #[.int .u64 s0,.int .u8 fr,.int .u8 pt,.int .i64 k0,.int .i64 x] 80)=WF at *
     have HWF:=Lib.hid hWF
     clear hWF
     have f0:=KF.out.cell 0; have f1:=KF.out.cell 1; have f2:=KF.out.cell 2; have f3:=KF.out.cell 3; have f4:=KF.out.cell 4
     have fl:=KF.out.lt
     simp at f0 f1 f2 f3 f4
     have hb5:=KKf.out.size
     go_upto_region 9 with fail
     rw [HWF.out]
     go_wp2_with (at_builtin; refine wpList_append_one _ rfl (.tmp 42) (.tmp 44) 43 80 rfl Tryz.underlying43 info_flp rfl (by decide) (by decide) W.heap.size _ σ.fs.length _ rfl (OOf.out.alloc _) WF.heap.size 1 [.int .u64 s0,.int .u8 fr,.int .u8 pt,.int .i64 k0,.int .i64 x] rfl rfl (Blk.new _ _ _) (by simp [Value.oneCell']) (by have:=HL64.out; omega) (by simp; omega) ?_)
     intro v2 w2 ho2 hg2
     have KG:Keep (fun k=>(Value.slice ao σ.fs.length cap).ownBlock=some k) WF w2:=((Keep.refl _ WF).alloc _).grown hg2 (fun k hk=>.inl hk)
     have RL2:=Lib.hid (RLf.out.keep KG (fun h=>by have:=(owns_type OOf.out h).1; have:=GE.out; have:=HWS.out; omega) (fun h=>by have:=(owns_type OOf.out h).1; have:=GE.out; have:=HWS.out; omega))
     have RB2:=Lib.hid (RBf.out.keep KG (fun h=>by have:=(owns_type OOf.out h).1; have:=GE.out; have:=HWS.out; omega) (fun b hb h=>own_own_ne OOf.out RBf.out.row (by decide) b h hb))
     have KK2:=Lib.hid (KKf.out.trans_new KG (fun j hj h=>by have:=(owns_type OOf.out h).1; omega))
     have O2:=Lib.hid (show w2.ownsRow W.heap.size 80 5 v2 (σ.fs++[(⟨s0,k0,x⟩:Fl)]).length (flCells fr pt (σ.fs++[(⟨s0,k0,x⟩:Fl)])) from by rw [flCells_next]; simpa [Fl.vals] using ho2)
     have HE2:Hid (swapN ps fr pt get give 64 ⟨ls,l,[],n⟩=swapN ps fr pt get give (64 - (σ.fs.length + 1)) (nextS ps fr pt σ s0 k0)):=Lib.hid (by
      rw [HE.out,← swapN_next (by rw [HSN.out]; omega) (by rw [HSN.out]; exact HFS.out) (by have:=HL64.out; omega)]
      congr 1
      have:=HL64.out
      omega)
     have NX2:=Lib.hid HNX.out
     rw [EN.out] at HE2 NX2
     clear KG ho2 hg2 f0 f1 f2 f3 f4 fl hb5 EN HNX HE
     go_wp2_with fail
     exact ⟨⟨⟨filledS ps σ.ls o fr pt k0 x,takeL σ.l s0 k0,σ.fs++[⟨s0,k0,x⟩],sn - k0⟩,_,rfl,RL2.out,RB2.out,VBd.out,O2.out,NX2.out,by simp; have:=HL64.out; omega,KK2.out,Lib.hid (by rw [HE2.out]; simp)⟩,by simp [intOf]; omega⟩
  ·have q0:decide (0<sn)=false:=by simpa using hn0
   have CG:=Lib.hid (fun (w':World) (h:Below wr.heap.size wr w')=>pgiven_any (owns_below OO.out h) (fun f hf=>by obtain ⟨_,_,_,_,_,_,_,h1,h2⟩:=SI.out.fs f hf; exact ⟨by omega,by omega⟩) (by omega))
   have GB:=SI.out.given_bd
   have HEN:Hid (swapN ps fr pt get give 64 ⟨ls,l,[],n⟩=(0,σ)):=Lib.hid (by rw [HE.out,swapN_done (by rw [HSN.out]; omega)])
   obtain ⟨gs,hgs⟩:∃ gs,(σ.fs.map Fl.gi).sum=gs:=⟨_,rfl⟩
   rw [hgs] at CG GB
   have hok:okN gs=gs:=if_pos ⟨by omega,by omega⟩
   rw [hok] at CG
   have HGS:=Lib.hid hgs
   clear hgs hok
   have HMo:=Lib.hid (show In64 most from ⟨by have:=HM.out; omega,by have:=HM.out; omega⟩)
   go_wp2_with fail
   by_cases hq:most<gs
   ·have q1:decide (gs > most)=true:=by simpa using hq
    have q2:decide (most<gs)=true:=by simpa using hq
    have NO:Hid ((swapG ps fr pt get give most ⟨ls,l,[],n⟩).1=12):=Lib.hid (by unfold swapG; rw [HEN.out]; simp only []; rw [if_neg (by simp),HGS.out,if_pos hq])
    clear hq
    refine region_still (by kernel_rfl) [(.slice ao σ.fs.length cap),(.int .i64 gs),(.pointer (some ⟨w.heap.size,5,none⟩)),(.int .i64 most),(.bool true)]
     (fun w'=>Below wr.heap.size wr w') (by kernel_rfl) (Below.refl _ _).drew ?_
    intro af haf
    simp only [List.toList_toArray,List.append_eq,List.cons_append,List.nil_append,puts,Act.put,List.getD_cons_zero,List.getD_cons_succ,List.setIfInBounds_toArray,List.set_cons_succ,List.set_cons_zero] at haf
    subst haf
    refine ⟨?_,?_⟩
    ·simp only [List.toList_toArray,List.append_eq,List.cons_append,List.nil_append,EachTo]
     refine ⟨?_,?_,?_,?_,?_,trivial⟩
     ·intro w' hS
      refine OpTo.plain ?_ ?_
      exact rfl
      have HS:=Lib.hid hS
      clear hS
      go_wp2_with fail
      all_goals first | exact HS.out | exact ⟨rfl,HS.out⟩ | rfl | exact ⟨by omega,HS.out⟩
     ·intro w' hS
      refine OpTo.plain ?_ ?_
      exact rfl
      have HS:=Lib.hid hS
      clear hS
      go_wp2_with fail
      refine (CG.out _ HS.out).mono ?_
      rintro e w'' ⟨rfl,hb2⟩
      exact ⟨rfl,andB HS.out hb2⟩
     ·intro w' hS
      refine OpTo.plain ?_ ?_
      exact rfl
      have hl0:=Nat.lt_of_lt_of_le KSr.out.lt hS.size
      have HS:=Lib.hid hS
      clear hS
      go_wp2_with fail
      all_goals first | exact HS.out | exact ⟨rfl,HS.out⟩ | rfl | exact ⟨by omega,HS.out⟩
     ·intro w' hS
      refine OpTo.plain ?_ ?_
      exact rfl
      have d0_0:=(KSr.out.below hS KSr.out.lt).cell 0
      have d0_1:=(KSr.out.below hS KSr.out.lt).cell 1
      have d0_2:=(KSr.out.below hS KSr.out.lt).cell 2
      have d0_3:=(KSr.out.below hS KSr.out.lt).cell 3
      have d0_4:=(KSr.out.below hS KSr.out.lt).cell 4
      have d0_5:=(KSr.out.below hS KSr.out.lt).cell 5
      simp at d0_0 d0_1 d0_2 d0_3 d0_4 d0_5
      have HS:=Lib.hid hS
      clear hS
      go_wp2_with fail
      all_goals first | exact HS.out | exact ⟨rfl,HS.out⟩ | rfl | exact ⟨by omega,HS.out⟩
     ·intro w' hS
      refine OpTo.plain ?_ ?_
      exact rfl
      have HS:=Lib.hid hS
      clear hS
      go_wp2_with fail
      all_goals first | exact HS.out | exact ⟨rfl,HS.out⟩ | rfl | exact ⟨by omega,HS.out⟩
    intro w' hS
    have B2:=Lib.hid (BR.out.trans (hS.mono (by have:=BR.out.size; have:=GE.out; omega)))
    clear hS
    go_wp2_with fail
    go_ret2
    exact .inl ⟨12,_,_,_,by decide,NO.out,rfl,B2.out⟩
   ·have q1:decide (gs > most)=false:=by simpa using hq
    have q2:decide (most<gs)=false:=by simpa using hq
    have YES:Hid (swapG ps fr pt get give most ⟨ls,l,[],n⟩=(0,σ)):=Lib.hid (by unfold swapG; rw [HEN.out]; simp only []; rw [if_neg (by simp),HGS.out,if_neg hq])
    clear hq
    refine region_still (by kernel_rfl) [(.slice ao σ.fs.length cap),(.int .i64 gs),(.pointer (some ⟨w.heap.size,5,none⟩)),(.int .i64 most),(.bool false)]
     (fun w'=>Below wr.heap.size wr w') (by kernel_rfl) (Below.refl _ _).drew ?_
    intro af haf
    simp only [List.toList_toArray,List.append_eq,List.cons_append,List.nil_append,puts,Act.put,List.getD_cons_zero,List.getD_cons_succ,List.setIfInBounds_toArray,List.set_cons_succ,List.set_cons_zero] at haf
    subst haf
    refine ⟨?_,?_⟩
    ·simp only [List.toList_toArray,List.append_eq,List.cons_append,List.nil_append,EachTo]
     refine ⟨?_,?_,?_,?_,?_,trivial⟩
     ·intro w' hS
      refine OpTo.plain ?_ ?_
      exact rfl
      have HS:=Lib.hid hS
      clear hS
      go_wp2_with fail
      all_goals first | exact HS.out | exact ⟨rfl,HS.out⟩ | rfl | exact ⟨by omega,HS.out⟩
     ·intro w' hS
      refine OpTo.plain ?_ ?_
      exact rfl
      have HS:=Lib.hid hS
      clear hS
      go_wp2_with fail
      refine (CG.out _ HS.out).mono ?_
      rintro e w'' ⟨rfl,hb2⟩
      exact ⟨rfl,andB HS.out hb2⟩
     ·intro w' hS
      refine OpTo.plain ?_ ?_
      exact rfl
      have hl0:=Nat.lt_of_lt_of_le KSr.out.lt hS.size
      have HS:=Lib.hid hS
      clear hS
      go_wp2_with fail
      all_goals first | exact HS.out | exact ⟨rfl,HS.out⟩ | rfl | exact ⟨by omega,HS.out⟩
     ·intro w' hS
      refine OpTo.plain ?_ ?_
      exact rfl
      have d0_0:=(KSr.out.below hS KSr.out.lt).cell 0
      have d0_1:=(KSr.out.below hS KSr.out.lt).cell 1
      have d0_2:=(KSr.out.below hS KSr.out.lt).cell 2
      have d0_3:=(KSr.out.below hS KSr.out.lt).cell 3
      have d0_4:=(KSr.out.below hS KSr.out.lt).cell 4
      have d0_5:=(KSr.out.below hS KSr.out.lt).cell 5
      simp at d0_0 d0_1 d0_2 d0_3 d0_4 d0_5
      have HS:=Lib.hid hS
      clear hS
      go_wp2_with fail
      all_goals first | exact HS.out | exact ⟨rfl,HS.out⟩ | rfl | exact ⟨by omega,HS.out⟩
     ·intro w' hS
      refine OpTo.plain ?_ ?_
      exact rfl
      have HS:=Lib.hid hS
      clear hS
      go_wp2_with fail
      all_goals first | exact HS.out | exact ⟨rfl,HS.out⟩ | rfl | exact ⟨by omega,HS.out⟩
    intro w' hS
    have B2:=Lib.hid (BR.out.trans (hS.mono (by have:=BR.out.size; have:=GE.out; omega)))
    have RL2:=Lib.hid (RL.out.below hS)
    have RB2:=Lib.hid (RB.out.below hS)
    have CL:=Lib.hid (clipFl_any (owns_below OO.out hS))
    have HLE:=Lib.hid (show w.heap.size≤W.heap.size by have:=HWS.out; omega)
    clear hS
    go_wp2_with fail
    refine CL.out.mono ?_
    rintro e w2 ⟨v,rfl,hv,_,rfl⟩
    obtain ⟨a,c,rfl,_,_,_,_⟩:=hv.look
    have HV:=Lib.hid (hv.base HLE.out)
    clear hv CL
    go_wp2_with fail
    go_ret2
    exact .inr ⟨_,a,c,σ,YES.out,rfl,RL2.out,RB2.out,HV.out,B2.out⟩
end Go.Proofs.YtojbmnbphdcjfaaGreat
namespace Go.Proofs.YtojbmnbphdcjfaaGreat
open Go.RowKit
def BCopyPost (base:Nat) (l:List Of) (N:Int) (w:World) (e:Ending) (w':World):Prop :=
 ∃ g' vl',e=.returned (.pointer (some ⟨g',0,none⟩))∧PB w' base g' l N vl'∧w.heap.size≤g'∧(∀ b,vl'.ownBlock=some b→w.heap.size≤b)∧Below w.heap.size w w'
set_option maxHeartbeats 4000000 in
set_option maxRecDepth 100000 in
theorem pcopyB_any {w:World} {base g:Nat} {l:List Of} {N:Int} {vl:Value} (h:PB w base g l N vl) (h1:1≤N) (hl:l.length≤1000) :
  Calls Tryz.prog 51 #[.pointer (some ⟨g,0,none⟩)] w (BCopyPost base l N w):=by
 have CM:=Lib.hid (pmade_any h.blk h1)
 have H:=Lib.hid h
 obtain ⟨ao,cap,rfl,_⟩:=owns_open h.row
 have hgl:=h.blk.lt
 have d0:=h.blk.cell 0
 have d1:=h.blk.cell 1
 simp at d0 d1
 have CC:=Lib.hid (cloneO_any (w:=w.drew) (owns_below h.row (Below.refl _ _).drew) hl)
 have hbs:=Nat.le_trans h.ge (Nat.le_of_lt hgl)
 clear h h1
 go_enter Tryz.func51,Tryz.ntmps51
 go_wp2_with fail
 refine CM.out.mono ?_
 rintro e w ⟨rfl,rfl⟩
 go_wp2_with fail
 go_region_with ((refine CC.out.mono ?_; rintro e w1 ⟨v',rfl,o1,b1⟩; have HO:=Lib.hid o1; have HB:=Lib.hid b1; have k1:=(H.out.blk.drew).below b1 hgl; have c1:=k1.cell 1; have l1:=k1.lt; simp at c1; obtain ⟨ao',cap',hv',_⟩:=owns_open o1; subst hv'; clear o1 b1 k1))
 all_goals
  go_wp2
  refine bodyPost_ret (v:=.pointer (some ⟨w1.heap.size,0,none⟩)) (by simp [results,Tryz.results51,go_sem]) rfl ?_
  have bw:=(Below.refl w1.heap.size w1).alloc (Nat.le_refl _) (.cells #[.slice ao' l.length cap',.int .u64 N] 64)
  exact ⟨_,_,rfl,⟨Blk.new _ _ _,Nat.le_trans hbs HB.out.size,owns_base (owns_below HO.out bw) hbs⟩,HB.out.size,fun b hb=>(owns_type HO.out hb).1,(Below.undrew HB.out).trans (bw.mono HB.out.size)⟩
end Go.Proofs.YtojbmnbphdcjfaaGreat
namespace Go.Proofs.YtojbmnbphdcjfaaGreat
open Go.RowKit
theorem owns_rebase {w:World} {base base':Nat} {e:TypeId} {size:Nat} {v:Value} {n:Nat} {xs:List Value} (h:w.ownsRow base e size v n xs) (hb:∀ b,v.ownBlock=some b→base'≤b):w.ownsRow base' e size v n xs:=by
 obtain ⟨h1,h2⟩:=h
 refine ⟨h1,?_⟩
 rcases h2 with h2 | ⟨g,cap,cur,rfl,hge,hr⟩
 ·exact .inl h2
 ·exact .inr ⟨g,cap,cur,rfl,hb g rfl,hr⟩
set_option maxHeartbeats 16000000 in
set_option maxRecDepth 100000 in
theorem hcopy_any:FCopyProg:=by
 intro w base G M gb ps ls l N vb hL hI hP hJ
 have hg1:(w.alloc (.cells #[.pointer (some ⟨G,0,none⟩),.pointer (some ⟨gb,0,none⟩)] 32)).heap.size=w.heap.size + 1:=by simp
 have b1:=(Below.refl w.heap.size w).alloc (Nat.le_refl _) (.cells #[.pointer (some ⟨G,0,none⟩),.pointer (some ⟨gb,0,none⟩)] 32)
 have k1:=Blk.new w #[.pointer (some ⟨G,0,none⟩),.pointer (some ⟨gb,0,none⟩)] 32
 generalize hW1:w.alloc (.cells #[.pointer (some ⟨G,0,none⟩),.pointer (some ⟨gb,0,none⟩)] 32)=W1 at *
 have b2:=(Below.refl W1.heap.size W1).alloc (Nat.le_refl _) (.cells #[.pointer none,.pointer none] 32)
 have k2:=Blk.new W1 #[.pointer none,.pointer none] 32
 rw [hg1] at k2
 generalize hW2:W1.alloc (.cells #[.pointer none,.pointer none] 32)=W2 at *
 have HW1:=Lib.hid hW1
 have HW2:=Lib.hid hW2
 have KX:=Lib.hid (k1.below b2 k1.lt)
 have KF:=Lib.hid k2
 have CL:=Lib.hid (pcopy_any (((hL.below b1).below b2).below (Below.refl _ W2).drew))
 have HB:=Lib.hid (((hP.below b1).below b2).below (Below.refl _ W2).drew)
 have B1:=Lib.hid (b1.trans (b2.mono b1.size))
 have JJ:=Lib.hid hJ
 clear hL hI hP hJ b1 b2 k1 k2 hW1 hW2 hg1
 go_enter Tryz.func19,Tryz.ntmps19
 go_upto_region 1 with fail
 rw [HW1.out,HW2.out]
 have e0:=KX.out.cell 0; have e1:=KX.out.cell 1
 have kx:=KX.out.lt
 have kf:=KF.out.lt
 have f0:=KF.out.cell 0; have f1:=KF.out.cell 1
 simp at e0 e1 f0 f1
 go_region_with (first | (go_at_call 50; refine CL.out.mono ?_; rintro e w1 ⟨g1,m1,rfl,r1,n1,n2,b1⟩; have KX1:=Lib.hid (KX.out.drew.below b1 kx); have KF1:=Lib.hid (KF.out.drew.below b1 kf); have R1:=Lib.hid r1; have BB:=Lib.hid b1; have NN:=Lib.hid (And.intro n1 n2); have CB:=Lib.hid (pcopyB_any (HB.out.below b1) JJ.out.n1 (by have:=JJ.out.len; omega)); clear r1 b1 n1 n2; have c0:=KX1.out.cell 0; have c1:=KX1.out.cell 1; have cx:=KX1.out.lt; simp at c0 c1) | (go_at_call 51; refine CB.out.mono ?_; rintro e w2 ⟨g2,vb2,rfl,r2,n1,n2,b2⟩; have KF2:=Lib.hid (KF1.out.below b2 KF1.out.lt); have R2:=Lib.hid r2; have B2:=Lib.hid b2; have NM:=Lib.hid (And.intro n1 n2); clear r2 b2 n1 n2; have z0:=KF2.out.cell 0; have z1:=KF2.out.cell 1; have zx:=KF2.out.lt; have zf:=KF2.out.frozen; simp at z0 z1))
 all_goals
  go_wp2
  refine bodyPost_ret (v:=.agg #[.pointer (some ⟨g1,0,none⟩),.pointer (some ⟨g2,0,none⟩)]) (results_cell_row rfl _ _ (w.heap.size + 1) 32 #[.pointer (some ⟨g1,0,none⟩),.pointer (some ⟨g2,0,none⟩)] (0,0) _ rfl ((KF2.out.set 0 _).set 1 _).out Tryz.underlying32 rfl (by kernel_rfl)) rfl ?_
  have kk:Keep (·=w.heap.size + 1) w2 ((w2.setCell ⟨w.heap.size + 1,0,none⟩ (.pointer (some ⟨g1,0,none⟩))).setCell ⟨w.heap.size + 1,1,none⟩ (.pointer (some ⟨g2,0,none⟩))):=by
   refine Keep.setCell (S:=(·=w.heap.size + 1)) ?_ (p:=⟨w.heap.size + 1,1,none⟩) (.inl rfl) _
   exact Keep.setCell (S:=(·=w.heap.size + 1)) (Keep.refl _ _) (p:=⟨w.heap.size + 1,0,none⟩) (.inl rfl) _
  have s1:=B1.out.size
  have s2:=BB.out.size
  obtain ⟨n1,n2⟩:=NN.out
  obtain ⟨m1,m2⟩:=NM.out
  have hd:W2.drew.heap.size=W2.heap.size:=rfl
  rw [hd] at s2 n1 n2
  have R3:=R2.out.keep kk (by omega) (fun b h=>by have:=m2 b h; omega)
  exact ⟨_,_,_,_,rfl,(R1.out.below B2.out).keep kk (by omega) (by omega),⟨R3.blk,by omega,owns_rebase R3.row (fun b hb=>by have:=m2 b hb; omega)⟩,by omega,by omega,
   (B1.out.trans (((Below.undrew BB.out).trans (B2.out.mono s2)).mono s1)).trans (kk.below (by omega) (fun k hk h=>by omega))⟩
end Go.Proofs.YtojbmnbphdcjfaaGreat
