/- Pieces of one proof. -/
import Derived.Test.YtojbmnbphdcjfaaGreatP37
set_option linter.all false
set_option maxHeartbeats 64000000
set_option maxRecDepth 100000
namespace Go.Proofs.YtojbmnbphdcjfaaGreat
open Go.RowKit
theorem info_flp:(Tryz.prog.info? 80).map (fun i=>(i.zero,i.size,i.bytes))=some (some (.agg #[.int .u64 0,.int .u8 0,.int .u8 0,.int .i64 0,.int .i64 0]),5,32):=by kernel_rfl
noncomputable def aL2(ps:List Int)(fr pt get give most:Int)(σ:SwS):Int×SwS:=
 if(aBe ps fr pt get give 64 σ).1≠0 then aBe ps fr pt get give 64 σ else if most<((aBe ps fr pt get give 64 σ).2.fs.map Fl.gi).sum then(12,(aBe ps fr pt get give 64 σ).2)else aBe ps fr pt get give 64 σ
def FilAt(W:World)(base s1 G M gb:Nat)(ps:List Int)(ls0:List Ln)(l0:List Of)(N tk pt get give n0:Int)(av nv:Value)(wr:World):Prop:=
 ∃(σ:SwS) (vb:Value),nv=.int .i64 σ.n∧LedM wr G M ps σ.ls∧PB wr base gb σ.l N vb∧(∀b,vb.ownBlock=some b→b<s1∨W.heap.size≤b)∧wr.ownsRow W.heap.size 80 5 av σ.fs.length (aCp tk pt σ.fs)∧aE5 ps ls0 l0 N tk pt get give n0 σ∧σ.fs.length≤64∧
  Keep (fun k=>base≤k∧k<s1) W wr∧Hid (aBe ps tk pt get give 64 ⟨ls0,l0,[],n0⟩=aBe ps tk pt get give (64 - σ.fs.length) σ)
def PFil(w:World)(base G M gb:Nat)(ps:List Int)(ls:List Ln)(l:List Of)(N fr pt get give n most:Int)(e:Ending)(w':World):Prop:=
 (∃(er:Int) (a:Option Addr) (k c:Nat),er≠0∧(aL2 ps fr pt get give most ⟨ls,l,[],n⟩).1=er∧e=.returned (.tuple #[.slice a k c,.int .i64 er])∧Below base w w')∨
 (∃(vb:Value) (a:Option Addr) (c:Nat) (σ:SwS),aL2 ps fr pt get give most ⟨ls,l,[],n⟩=(0,σ)∧e=.returned (.tuple #[.slice a σ.fs.length c,.int .i64 0])∧LedM w' G M ps σ.ls∧PB w' base gb σ.l N vb∧aC8 w' w.heap.size 80 5 (.slice a σ.fs.length c) σ.fs.length (aCp fr pt σ.fs)∧Below base w w')
theorem pfill_any(HMy:aEm)(HD:aGw){w:World}{base G M gb:Nat}{ps:List Int}{ls:List Ln}{l:List Of}{N:Int}{vb:Value}(hL:LedM w G M ps ls)(hI:LInv ps ls)(hP:PB w base gb l N vb)(hJ:BInv l N)(hG:base≤G)(hM:base≤M)(hb:base≤w.heap.size)
  (fr pt get give n most:Int)(hf:In8 fr)(ht:In8 pt)(hg:In8 get)(hv:In8 give)(hn:1≤n∧n≤1099511627776)(hm:1≤most∧most≤1099511627776):
  Calls Tryz.prog 40 #[.agg #[.int .u8 fr,.int .u8 pt,.int .u8 get,.int .u8 give,.int .i64 n,.int .i64 most],.agg #[.pointer (some ⟨G,0,none⟩),.pointer (some ⟨gb,0,none⟩)]] w (PFil w base G M gb ps ls l N fr pt get give n most):=by
 have b1:=(Below.refl w.heap.size w).alloc yL (.cells #[.int .u8 fr,.int .u8 pt,.int .u8 get,.int .u8 give,.int .i64 n,.int .i64 most] 94);have b2:=b1.alloc b1.size (.cells #[.pointer (some ⟨G,0,none⟩),.pointer (some ⟨gb,0,none⟩)] 32);have KS:=yH ((pAA w #[.int .u8 fr,.int .u8 pt,.int .u8 get,.int .u8 give,.int .i64 n,.int .i64 most] 94).alloc (.cells #[.pointer (some ⟨G,0,none⟩),.pointer (some ⟨gb,0,none⟩)] 32));have KH:=yH (pAC (w.alloc (.cells #[.int .u8 fr,.int .u8 pt,.int .u8 get,.int .u8 give,.int .i64 n,.int .i64 most] 94)) #[.pointer (some ⟨G,0,none⟩),.pointer (some ⟨gb,0,none⟩)] 32 (g:=w.heap.size+1) (by simp));have HL:=yH (hL.below b2);have HP:=yH (hP.below b2);have B:=yH b2;have GE:=yH (show base≤G∧base≤M∧base≤w.heap.size∧G<w.heap.size∧M<w.heap.size∧gb<w.heap.size∧base≤gb∧(∀b,vb.ownBlock=some b→b<w.heap.size)from⟨hG,hM,hb,hL.blk.lt,hL.map.lt,hP.blk.lt,hP.ge,fun b hb=>(hP.lt (.inr hb)).2⟩);have II:=yH hI;have JJ:=yH hJ;have HF:=yH hf;have HTo:=yH ht;have HGe:=yH hg;have HGi:=yH hv;have HN:=yH hn;have HM:=yH hm;have HWS:Hid (((w.alloc (.cells #[.int .u8 fr,.int .u8 pt,.int .u8 get,.int .u8 give,.int .i64 n,.int .i64 most] 94)).alloc (.cells #[.pointer (some ⟨G,0,none⟩),.pointer (some ⟨gb,0,none⟩)] 32)).heap.size=w.heap.size+2):=yH (by simp);clear b1 b2 hL hI hP hJ hG hM hb hf ht hg hv hn hm;generalize hW:(w.alloc (.cells #[.int .u8 fr,.int .u8 pt,.int .u8 get,.int .u8 give,.int .i64 n,.int .i64 most] 94)).alloc (.cells #[.pointer (some ⟨G,0,none⟩),.pointer (some ⟨gb,0,none⟩)] 32)=W at *;have HW:=yH hW;clear hW;have s4:=KS.out.cell 4;have sl:=KS.out.lt;simp at s4;go_enter Tryz.func40,Tryz.ntmps40
 go_upto_region 1 with fail
 rw[HW.out];go_wp2_with fail
 go_loopw [4,6,7,8,9,10] (fun av nv _ _ _ _ wr=>FilAt W base w.heap.size G M gb ps ls l N fr pt get give n av nv wr) (fun _ nv _ _ _ _ _=>(intOf nv).toNat)
 case atStart=>exact⟨⟨ls,l,[],n⟩,vb,rfl,HL.out,HP.out,fun b hb=>.inl (GE.out.2.2.2.2.2.2.2 b hb),World.ownsRow_nil _ _ _ _,aE5.start II.out JJ.out,by simp,Keep.refl _ _,yH rfl⟩
 obtain⟨σ,vb,rfl,hRL,hRB,hVB,hO,hS,hlen,hK,HE⟩:=hrel;have RL:=yH hRL;have RB:=yH hRB;have VB:=yH hVB;have OO:=yH hO;have SI:=yH hS;have KK:=yH hK;have KSr:=yH (KS.out.keep hK (by omega));have KHr:=yH (KH.out.keep hK (by omega));have BR:Hid (Below base w wr):=yH ((B.out.mono GE.out.2.2.1).trans (hK.below (by have:=GE.out;have:=HWS.out;omega) (fun k hk h=>by omega)));obtain⟨sn,hsn⟩:∃sn,σ.n=sn:=⟨_,rfl⟩;have HSN:=yH hsn
 have hsle:sn≤1099511627776:=by
  have h1:=hS.sum;have h2:0≤(σ.fs.map Fl.got).sum:=hS.got_nn;have:=HN.out;omega
 rw[hsn];obtain⟨ao,cap,hav,hc1,hc2,_,_⟩:=aAd hO;subst hav;unfold maxLen at hc2;clear hRL hRB hO hS hK hVB hsn s4 sl KS KH HL HP B
 by_cases hn0:0<sn
 ·have q0:decide (0<sn)=true:=by simpa using hn0
  have CF:=yH (pfirst_any (n:=n) (most:=most) HMy RL.out SI.out.linv RB.out SI.out.binv HF.out HTo.out HGe.out HGi.out (want:=sn) (by unfold In64;omega));have s0:=KSr.out.cell 0;have s1:=KSr.out.cell 1;have s2:=KSr.out.cell 2;have s3:=KSr.out.cell 3;have s4:=KSr.out.cell 4;have s5:=KSr.out.cell 5;have sl:=KSr.out.lt;have h0:=KHr.out.cell 0;have h1:=KHr.out.cell 1;have hl:=KHr.out.lt;simp at s0 s1 s2 s3 s4 s5 h0 h1;go_wp2_with fail;refine CF.out.mono ?_;rintro e w1 ⟨rfl,b1⟩;have KS1:=yB KSr b1;have KH1:=yB KHr b1;have RL1:=yH (RL.out.below b1);have RB1:=yH (RB.out.below b1);have OO1:=yH (aAc OO.out b1);have KK1:=yH (KK.out.trans (pAE b1));have B1:=yH (BR.out.trans (b1.mono (by have:=BR.out.size;have:=GE.out;omega)));clear b1 s0 s1 s2 s3 s4 s5 sl h0 h1 hl CF KSr KHr RL RB OO KK BR
  cases hfs:aBh ps σ.ls σ.l fr pt sn 1099511627776 (aBu σ.l get give)with
  | none=>
   have NO:Hid ((aL2 ps fr pt get give most ⟨ls,l,[],n⟩).1=11):=yH (by
    have e:aBe ps fr pt get give 64 ⟨ls,l,[],n⟩=(11,σ):=by rw[HE.out,aEq (by rw[HSN.out];omega) (by rw[HSN.out];exact hfs)]
    unfold aL2;rw[e];simp only[];rw[if_pos (by simp)])
   clear hfs;dsimp only[Option.getD_none];go_wp2_with fail;go_ret2;exact .inl ⟨11,_,_,_,by decide,NO.out,rfl,B1.out⟩
  | some sk=>
   obtain⟨s0,k0⟩:=sk;obtain⟨k1,k2,ok,⟨o,ho,_,_⟩,hnext⟩:=SI.out.step (s:=s0) (k:=k0) (by rw[HSN.out];exact hfs);rw[HSN.out]at k2;have HFS:=yH hfs;have HOK:=yH ok;have HO:=yH ho;have HNX:=yH hnext;have HSQ:=yH (show 0≤o.se∧o.se≤18446744073709551615 from by have h1:=SI.out.binv.bd o (aC1 ho).1;have h2:=SI.out.binv.n2;omega);rw[(aC1 ho).2]at HSQ;have z5:decide (k0<1)=false:=by simp;omega
   clear hfs ok ho hnext;dsimp only[Option.getD_some]
   by_cases hfull:σ.fs.length=64
   ·have z6:((σ.fs.length:Int)==64)=true:=by simp;omega
    have NO:Hid ((aL2 ps fr pt get give most ⟨ls,l,[],n⟩).1=13):=yH (by
     have e:aBe ps fr pt get give 64 ⟨ls,l,[],n⟩=(13,σ):=by rw[HE.out,aFp (by rw[HSN.out];omega) (by rw[HSN.out];exact HFS.out) hfull]
     unfold aL2;rw[e];simp only[];rw[if_pos (by simp)])
    clear hfull;go_wp2_with fail;go_ret2;exact .inl ⟨13,_,_,_,by decide,NO.out,rfl,B1.out⟩
   have z6:((σ.fs.length:Int)==64)=false:=by simp;omega
   have HL64:=yH (show σ.fs.length+1≤64 by omega);have CDo:=yH (pdoS_any HD RL1.out SI.out.linv RB1.out SI.out.binv s0 fr pt k0 HSQ.out HF.out HTo.out ⟨by omega,by omega⟩);have s0_:=KS1.out.cell 0;have s1_:=KS1.out.cell 1;have sl:=KS1.out.lt;have h0:=KH1.out.cell 0;have h1:=KH1.out.cell 1;have hl:=KH1.out.lt;simp at s0_ s1_ h0 h1;clear hfull;go_wp2_with fail;refine CDo.out.mono ?_;rintro e wd hd;clear s0_ s1_ sl h0 h1 hl CDo;rcases hd with⟨hno,_⟩|⟨_,o',x,vb',ho',hx,rfl,hRL',hRB',kk,hmv⟩
   ·exact absurd HOK.out hno
   rw[HO.out]at ho'
   cases ho'
   have EN:Hid (aGc ps fr pt σ s0 k0=⟨aC9 ps σ.ls o fr pt k0 x,aCo σ.l s0 k0,σ.fs++[⟨s0,k0,x⟩],sn - k0⟩):=yH (by unfold aGc;rw[HO.out,hx,←HSN.out]);have hWS:=HWS.out;have hge:=GE.out;have hsz:=KK1.out.size
   have hvb:∀j,j<W.heap.size→(j=G∨j=M∨Foot gb vb j)→base≤j∧j<w.heap.size:=by
    intro j hj h;rcases h with h|h|h|h
    ·omega
    ·omega
    ·omega
    have h1:=VB.out j h;have h2:=(RB1.out.lt (b:=j) (.inr h)).1;omega
   have KSd:=yH (KS1.out.keep kk (fun h=>by have:=hvb _ (by omega) h;omega));have KHd:=yH (KH1.out.keep kk (fun h=>by have:=hvb _ (by omega) h;omega))
   have OOd:=yH (aAm OO1.out kk (fun b hb h=>by
    have h1:=(aAe OO1.out hb).1;rcases h with h|h|h|h
    ·omega
    ·omega
    ·omega
    exact aFo OO1.out RB1.out.row (by decide) b hb h))
   have KKd:=yH (KK1.out.trans_new kk hvb)
   have VBd:=yH (show ∀b,vb'.ownBlock=some b→b<w.heap.size∨W.heap.size≤b from fun j hj=>by
    rcases hmv j hj with h|h
    ·exact VB.out j h
    exact .inr (by omega))
   have bf:=(Below.refl wd.heap.size wd).alloc yL (.cells #[.int .u64 s0,.int .u8 fr,.int .u8 pt,.int .i64 k0,.int .i64 x] 80);have KF:=yH (pAA wd #[.int .u64 s0,.int .u8 fr,.int .u8 pt,.int .i64 k0,.int .i64 x] 80);have RLf:=yH (hRL'.below bf);have RBf:=yH (hRB'.below bf);have OOf:=yH (aAc OOd.out bf);have KSf:=yB KSd bf;have KHf:=yB KHd bf;have KKf:=yH (KKd.out.trans (pAE bf));clear bf hRL' hRB' kk hmv hx RL1 RB1 OO1 KK1 KS1 KH1 KSd KHd OOd KKd B1 VB hvb hWS hge hsz;generalize hWF:wd.alloc (.cells #[.int .u64 s0,.int .u8 fr,.int .u8 pt,.int .i64 k0,.int .i64 x] 80)=WF at *;have HWF:=yH hWF;clear hWF;have f0:=KF.out.cell 0;have f1:=KF.out.cell 1;have f2:=KF.out.cell 2;have f3:=KF.out.cell 3;have f4:=KF.out.cell 4;have fl:=KF.out.lt;simp at f0 f1 f2 f3 f4;have hb5:=KKf.out.size
   go_upto_region 9 with fail
   rw[HWF.out];go_wp2_with (at_builtin;refine aC6 _ rfl (.tmp 42) (.tmp 44) 43 80 rfl Tryz.underlying43 info_flp rfl (by decide) (by decide) W.heap.size _ σ.fs.length _ rfl (OOf.out.alloc _) WF.heap.size 1 [.int .u64 s0,.int .u8 fr,.int .u8 pt,.int .i64 k0,.int .i64 x] rfl rfl (pAA _ _ _) (by simp[Value.oneCell']) (by have:=HL64.out;omega) (by simp;omega) ?_);intro v2 w2 ho2 hg2;have KG:Keep (fun k=>(Value.slice ao σ.fs.length cap).ownBlock=some k) WF w2:=((Keep.refl _ WF).alloc _).grown hg2 (fun k hk=>.inl hk);have RL2:=yH (RLf.out.keep KG (fun h=>by have:=(aAe OOf.out h).1;have:=GE.out;have:=HWS.out;omega) (fun h=>by have:=(aAe OOf.out h).1;have:=GE.out;have:=HWS.out;omega));have RB2:=yH (RBf.out.keep KG (fun h=>by have:=(aAe OOf.out h).1;have:=GE.out;have:=HWS.out;omega) (fun b hb h=>aFo OOf.out RBf.out.row (by decide) b h hb));have KK2:=yH (KKf.out.trans_new KG (fun j hj h=>by have:=(aAe OOf.out h).1;omega));have O2:=yH (show w2.ownsRow W.heap.size 80 5 v2 (σ.fs++[(⟨s0,k0,x⟩:Fl)]).length (aCp fr pt (σ.fs++[(⟨s0,k0,x⟩:Fl)]))from by rw[aJy];simpa [Fl.vals]using ho2)
   have HE2:Hid (aBe ps fr pt get give 64 ⟨ls,l,[],n⟩=aBe ps fr pt get give (64 - (σ.fs.length+1)) (aGc ps fr pt σ s0 k0)):=yH (by
    rw[HE.out,←aD8 (by rw[HSN.out];omega) (by rw[HSN.out];exact HFS.out) (by have:=HL64.out;omega)];congr 1;have:=HL64.out;omega)
   have NX2:=yH HNX.out;rw[EN.out]at HE2 NX2;clear KG ho2 hg2 f0 f1 f2 f3 f4 fl hb5 EN HNX HE;go_wp2_with fail;exact⟨⟨⟨aC9 ps σ.ls o fr pt k0 x,aCo σ.l s0 k0,σ.fs++[⟨s0,k0,x⟩],sn - k0⟩,_,rfl,RL2.out,RB2.out,VBd.out,O2.out,NX2.out,by simp;have:=HL64.out;omega,KK2.out,yH (by rw[HE2.out];simp)⟩,by simp[intOf];omega⟩
 have q0:decide (0<sn)=false:=by simpa using hn0
 have CG:=yH (fun(w':World) (h:Below wr.heap.size wr w')=>pgiven_any (aAc OO.out h) (fun f hf=>by obtain⟨_,_,_,_,_,_,_,h1,h2⟩:=SI.out.fs f hf;exact⟨by omega,by omega⟩) (by omega));have GB:=SI.out.given_bd;have HEN:Hid (aBe ps fr pt get give 64 ⟨ls,l,[],n⟩=(0,σ)):=yH (by rw[HE.out,aEp (by rw[HSN.out];omega)]);obtain⟨gs,hgs⟩:∃gs,(σ.fs.map Fl.gi).sum=gs:=⟨_,rfl⟩;rw[hgs]at CG GB;have hok:okN gs=gs:=if_pos ⟨by omega,by omega⟩;rw[hok]at CG;have HGS:=yH hgs;clear hgs hok;have HMo:=yH (show In64 most from⟨by have:=HM.out;omega,by have:=HM.out;omega⟩);go_wp2_with fail
 by_cases hq:most<gs
 ·have q1:decide (gs > most)=true:=by simpa using hq
  have q2:decide (most<gs)=true:=by simpa using hq
  have NO:Hid ((aL2 ps fr pt get give most ⟨ls,l,[],n⟩).1=12):=yH (by unfold aL2;rw[HEN.out];simp only[];rw[if_neg (by simp),HGS.out,if_pos hq]);clear hq
  refine aAy (by kernel_rfl) [(.slice ao σ.fs.length cap),(.int .i64 gs),(.pointer (some ⟨w.heap.size,5,none⟩)),(.int .i64 most),(.bool true)]
   (fun w'=>Below wr.heap.size wr w') (by kernel_rfl) yZ.drew ?_
  intro af haf;simp only[yG,List.append_eq,List.cons_append,List.nil_append,puts,Act.put,yA,yC,yF,yD,yE]at haf;subst haf;refine⟨?_,?_⟩
  ·simp only[yG,List.append_eq,List.cons_append,List.nil_append,aA8];refine⟨?z1,?_,?_,?_,?z2,trivial⟩
   case z1|z2=>
    intro w' hS;refine yO rfl ?_;have HS:=yH hS;clear hS;go_wp2_with fail;all_goals first|exact HS|exact⟨rfl,HS⟩|rfl|exact⟨by omega,HS.out⟩
   ·intro w' hS;refine yO rfl ?_;have HS:=yH hS;clear hS;go_wp2_with fail;refine(CG.out _ HS.out).mono ?_;rintro e w'' ⟨rfl,hb2⟩;exact⟨rfl,andB HS.out hb2⟩
   ·intro w' hS;refine yO rfl ?_;have hl0:=yM KSr.out.lt hS.size;have HS:=yH hS;clear hS;go_wp2_with fail;all_goals first|exact HS|exact⟨rfl,HS⟩|rfl|exact⟨by omega,HS.out⟩
   intro w' hS;refine yO rfl ?_;have d0_0:=(KSr.out.below hS KSr.out.lt).cell 0;have d0_1:=(KSr.out.below hS KSr.out.lt).cell 1;have d0_2:=(KSr.out.below hS KSr.out.lt).cell 2;have d0_3:=(KSr.out.below hS KSr.out.lt).cell 3;have d0_4:=(KSr.out.below hS KSr.out.lt).cell 4;have d0_5:=(KSr.out.below hS KSr.out.lt).cell 5;simp at d0_0 d0_1 d0_2 d0_3 d0_4 d0_5;have HS:=yH hS;clear hS;go_wp2_with fail;all_goals first|exact HS|exact⟨rfl,HS⟩|rfl|exact⟨by omega,HS.out⟩
  intro w' hS;have B2:=yH (BR.out.trans (hS.mono (by have:=BR.out.size;have:=GE.out;omega)));clear hS;go_wp2_with fail;go_ret2;exact .inl ⟨12,_,_,_,by decide,NO.out,rfl,B2.out⟩
 have q1:decide (gs > most)=false:=by simpa using hq
 have q2:decide (most<gs)=false:=by simpa using hq
 have YES:Hid (aL2 ps fr pt get give most ⟨ls,l,[],n⟩=(0,σ)):=yH (by unfold aL2;rw[HEN.out];simp only[];rw[if_neg (by simp),HGS.out,if_neg hq]);clear hq
 refine aAy (by kernel_rfl) [(.slice ao σ.fs.length cap),(.int .i64 gs),(.pointer (some ⟨w.heap.size,5,none⟩)),(.int .i64 most),(.bool false)]
  (fun w'=>Below wr.heap.size wr w') (by kernel_rfl) yZ.drew ?_
 intro af haf;simp only[yG,List.append_eq,List.cons_append,List.nil_append,puts,Act.put,yA,yC,yF,yD,yE]at haf;subst haf;refine⟨?_,?_⟩
 ·simp only[yG,List.append_eq,List.cons_append,List.nil_append,aA8];refine⟨?z3,?_,?_,?_,?z4,trivial⟩
  case z3|z4=>
   intro w' hS;refine yO rfl ?_;have HS:=yH hS;clear hS;go_wp2_with fail;all_goals first|exact HS|exact⟨rfl,HS⟩|rfl|exact⟨by omega,HS.out⟩
  ·intro w' hS;refine yO rfl ?_;have HS:=yH hS;clear hS;go_wp2_with fail;refine(CG.out _ HS.out).mono ?_;rintro e w'' ⟨rfl,hb2⟩;exact⟨rfl,andB HS.out hb2⟩
  ·intro w' hS;refine yO rfl ?_;have hl0:=yM KSr.out.lt hS.size;have HS:=yH hS;clear hS;go_wp2_with fail;all_goals first|exact HS|exact⟨rfl,HS⟩|rfl|exact⟨by omega,HS.out⟩
  intro w' hS;refine yO rfl ?_;have d0_0:=(KSr.out.below hS KSr.out.lt).cell 0;have d0_1:=(KSr.out.below hS KSr.out.lt).cell 1;have d0_2:=(KSr.out.below hS KSr.out.lt).cell 2;have d0_3:=(KSr.out.below hS KSr.out.lt).cell 3;have d0_4:=(KSr.out.below hS KSr.out.lt).cell 4;have d0_5:=(KSr.out.below hS KSr.out.lt).cell 5;simp at d0_0 d0_1 d0_2 d0_3 d0_4 d0_5;have HS:=yH hS;clear hS;go_wp2_with fail;all_goals first|exact HS|exact⟨rfl,HS⟩|rfl|exact⟨by omega,HS.out⟩
 intro w' hS;have B2:=yH (BR.out.trans (hS.mono (by have:=BR.out.size;have:=GE.out;omega)));have RL2:=yH (RL.out.below hS);have RB2:=yH (RB.out.below hS);have CL:=yH (clipFl_any (aAc OO.out hS));have HLE:=yH (show w.heap.size≤W.heap.size by have:=HWS.out;omega);clear hS;go_wp2_with fail;refine CL.out.mono ?_;rintro e w2 ⟨v,rfl,hv,_,rfl⟩;obtain⟨a,c,rfl,_,_,_,_⟩:=hv.look;have HV:=yH (hv.base HLE.out);clear hv CL;go_wp2_with fail;go_ret2;exact .inr ⟨_,a,c,σ,YES.out,rfl,RL2.out,RB2.out,HV.out,B2.out⟩
def BCopyPost(base:Nat)(l:List Of)(N:Int)(w:World)(e:Ending)(w':World):Prop:=
 ∃g' vl',e=.returned (.pointer (some ⟨g',0,none⟩))∧PB w' base g' l N vl'∧w.heap.size≤g'∧(∀b,vl'.ownBlock=some b→w.heap.size≤b)∧Below w.heap.size w w'
theorem pcopyB_any{w:World}{base g:Nat}{l:List Of}{N:Int}{vl:Value}(h:PB w base g l N vl)(h1:1≤N)(hl:l.length≤1000):
  Calls Tryz.prog 51 #[.pointer (some ⟨g,0,none⟩)] w (BCopyPost base l N w):=by
 have CM:=yH (aLm h.blk h1);have H:=yH h;obtain⟨ao,cap,rfl,_⟩:=aAd h.row;have hgl:=h.blk.lt;have d0:=h.blk.cell 0;have d1:=h.blk.cell 1;simp at d0 d1;have CC:=yH (aM5 (w:=w.drew) (aAc h.row yZ.drew) hl);have hbs:=Nat.le_trans h.ge (Nat.le_of_lt hgl);clear h h1;go_enter Tryz.func51,Tryz.ntmps51;go_wp2_with fail;refine CM.out.mono ?_;rintro e w ⟨rfl,rfl⟩;go_wp2_with fail
 go_region_with ((refine CC.out.mono ?_;rintro e w1 ⟨v',rfl,o1,b1⟩;have HO:=yH o1;have HB:=yH b1;have k1:=(H.out.blk.drew).below b1 hgl;have c1:=k1.cell 1;have l1:=k1.lt;simp at c1;obtain⟨ao',cap',hv',_⟩:=aAd o1;subst hv';clear o1 b1 k1))
 all_goals
  go_wp2;refine bodyPost_ret (v:=.pointer (some ⟨w1.heap.size,0,none⟩)) (by simp[results,Tryz.results51,go_sem]) rfl ?_;have bw:=(Below.refl w1.heap.size w1).alloc yL (.cells #[.slice ao' l.length cap',.int .u64 N] 64);exact⟨_,_,rfl,⟨pAA _ _ _,Nat.le_trans hbs HB.out.size,aBd (aAc HO.out bw) hbs⟩,HB.out.size,fun b hb=>(aAe HO.out hb).1,(pAB HB.out).trans (bw.mono HB.out.size)⟩
theorem aSs{w:World}{base base':Nat}{e:TypeId}{size:Nat}{v:Value}{n:Nat}{xs:List Value}(h:w.ownsRow base e size v n xs)(hb:∀b,v.ownBlock=some b→base'≤b):w.ownsRow base' e size v n xs:=by
 obtain⟨h1,h2⟩:=h;refine⟨h1,?_⟩;rcases h2 with h2|⟨g,cap,cur,rfl,hge,hr⟩
 ·exact .inl h2
 exact .inr ⟨g,cap,cur,rfl,hb g rfl,hr⟩
theorem aQn:aIs:=by
 intro w base G M gb ps ls l N vb hL hI hP hJ;have hg1:(w.alloc (.cells #[.pointer (some ⟨G,0,none⟩),.pointer (some ⟨gb,0,none⟩)] 32)).heap.size=w.heap.size+1:=by simp
 have b1:=(Below.refl w.heap.size w).alloc yL (.cells #[.pointer (some ⟨G,0,none⟩),.pointer (some ⟨gb,0,none⟩)] 32);have k1:=pAA w #[.pointer (some ⟨G,0,none⟩),.pointer (some ⟨gb,0,none⟩)] 32;generalize hW1:w.alloc (.cells #[.pointer (some ⟨G,0,none⟩),.pointer (some ⟨gb,0,none⟩)] 32)=W1 at *;have b2:=(Below.refl W1.heap.size W1).alloc yL (.cells #[.pointer none,.pointer none] 32);have k2:=pAA W1 #[.pointer none,.pointer none] 32;rw[hg1]at k2;generalize hW2:W1.alloc (.cells #[.pointer none,.pointer none] 32)=W2 at *;have HW1:=yH hW1;have HW2:=yH hW2;have KX:=yH (k1.below b2 k1.lt);have KF:=yH k2;have CL:=yH (pcopy_any (((hL.below b1).below b2).below (Below.refl _ W2).drew));have HB:=yH (((hP.below b1).below b2).below (Below.refl _ W2).drew);have B1:=yH (b1.trans (b2.mono b1.size));have JJ:=yH hJ;clear hL hI hP hJ b1 b2 k1 k2 hW1 hW2 hg1;go_enter Tryz.func19,Tryz.ntmps19
 go_upto_region 1 with fail
 rw[HW1.out,HW2.out];have e0:=KX.out.cell 0;have e1:=KX.out.cell 1;have kx:=KX.out.lt;have kf:=KF.out.lt;have f0:=KF.out.cell 0;have f1:=KF.out.cell 1;simp at e0 e1 f0 f1
 go_region_with (first|(go_at_call 50;refine CL.out.mono ?_;rintro e w1 ⟨g1,m1,rfl,r1,n1,n2,b1⟩;have KX1:=yH (KX.out.drew.below b1 kx);have KF1:=yH (KF.out.drew.below b1 kf);have R1:=yH r1;have BB:=yH b1;have NN:=yH (And.intro n1 n2);have CB:=yH (pcopyB_any (HB.out.below b1) JJ.out.n1 (by have:=JJ.out.len;omega));clear r1 b1 n1 n2;have c0:=KX1.out.cell 0;have c1:=KX1.out.cell 1;have cx:=KX1.out.lt;simp at c0 c1)|(go_at_call 51;refine CB.out.mono ?_;rintro e w2 ⟨g2,vb2,rfl,r2,n1,n2,b2⟩;have KF2:=yB KF1 b2;have R2:=yH r2;have B2:=yH b2;have NM:=yH (And.intro n1 n2);clear r2 b2 n1 n2;have z0:=KF2.out.cell 0;have z1:=KF2.out.cell 1;have zx:=KF2.out.lt;have zf:=KF2.out.frozen;simp at z0 z1))
 all_goals
  go_wp2;refine bodyPost_ret (v:=.agg #[.pointer (some ⟨g1,0,none⟩),.pointer (some ⟨g2,0,none⟩)]) (results_cell_row rfl _ _ (w.heap.size+1) 32 #[.pointer (some ⟨g1,0,none⟩),.pointer (some ⟨g2,0,none⟩)] (0,0) _ rfl ((KF2.out.set 0 _).set 1 _).out Tryz.underlying32 rfl (by kernel_rfl)) rfl ?_
  have kk:Keep (·=w.heap.size+1) w2 ((w2.setCell ⟨w.heap.size+1,0,none⟩ (.pointer (some ⟨g1,0,none⟩))).setCell ⟨w.heap.size+1,1,none⟩ (.pointer (some ⟨g2,0,none⟩))):=by
   refine Keep.setCell (S:=(·=w.heap.size+1)) ?_ (p:=⟨w.heap.size+1,1,none⟩) (.inl rfl) _;exact Keep.setCell (S:=(·=w.heap.size+1)) (Keep.refl _ _) (p:=⟨w.heap.size+1,0,none⟩) (.inl rfl) _
  have s1:=B1.out.size;have s2:=BB.out.size;obtain⟨n1,n2⟩:=NN.out;obtain⟨m1,m2⟩:=NM.out;have hd:W2.drew.heap.size=W2.heap.size:=rfl;rw[hd]at s2 n1 n2;have R3:=R2.out.keep kk (by omega) (fun b h=>by have:=m2 b h;omega)
  exact⟨_,_,_,_,rfl,(R1.out.below B2.out).keep kk (by omega) (by omega),⟨R3.blk,by omega,aSs R3.row (fun b hb=>by have:=m2 b hb;omega)⟩,by omega,by omega,
   (B1.out.trans (((pAB BB.out).trans (B2.out.mono s2)).mono s1)).trans (kk.below (by omega) (fun k hk h=>by omega))⟩
end Go.Proofs.YtojbmnbphdcjfaaGreat
