/- Pieces of one proof. -/
import Derived.Test.YtaeocliklpcgmaaGreatP27
set_option linter.all false
set_option maxHeartbeats 64000000
set_option maxRecDepth 100000
namespace Go.Proofs.YtaeocliklpcgmaaGreat
open Go.RowKit
theorem info_flp12:(Tryz.prog.info? 73).map (fun i=>(i.zero,i.size,i.bytes))=some (some (.agg #[.int .u64 0,.int .u8 0,.int .u8 0,.int .i64 0,.int .i64 0]),5,32):=by kernel_rfl
def slN:Value→Nat
 | .slice _ n _=>n
 | _=>0
def CfAt(W:World)(ch base s1 G M gb:Nat)(ps:List Int)(ls0:List Ln)(l0:List Of)(N:Int)(x:Of)(av:Value)(wr:World):Prop:=
 ∃(σ:SwS) (vb:Value),Blk wr ch #[.int .u64 x.se,.int .u8 x.ow,.int .u8 x.sl,.int .u8 x.bu,.int .i64 σ.n,.int .i64 x.nu,.int .i64 x.de] 100∧LedM wr G M ps σ.ls∧PB wr base gb σ.l N vb∧(∀b,vb.ownBlock=some b→b<s1∨W.heap.size≤b)∧wr.ownsRow W.heap.size 73 5 av σ.fs.length (aCm x.ow x.ow σ.fs)∧aE6 ps ls0 l0 N x.ow x.sl x.bu x.nu x.de x.lf σ∧
  Keep (fun k=>k=ch∨(base≤k∧k<s1)) W wr∧Hid (aBl ps x.ow x.sl x.bu x.nu x.de 64 ⟨ls0,l0,[],x.lf⟩=aBl ps x.ow x.sl x.bu x.nu x.de (64 - σ.fs.length) σ)
def PCf(w:World)(ch base G M gb:Nat)(ps:List Int)(ls:List Ln)(l:List Of)(N:Int)(x:Of)(e:Ending)(w':World):Prop:=
 ((aBl ps x.ow x.sl x.bu x.nu x.de 64 ⟨ls,l,[],x.lf⟩).1=13∧e=.returned (.tuple #[.slice none 0 0,.int .i64 13])∧Keep (fun k=>k=ch∨base≤k) w w')∨
 (∃(vb:Value) (a:Option Addr) (c:Nat) (σ:SwS),aBl ps x.ow x.sl x.bu x.nu x.de 64 ⟨ls,l,[],x.lf⟩=(0,σ)∧e=.returned (.tuple #[.slice a σ.fs.length c,.int .i64 0])∧Blk w' ch #[.int .u64 x.se,.int .u8 x.ow,.int .u8 x.sl,.int .u8 x.bu,.int .i64 σ.n,.int .i64 x.nu,.int .i64 x.de] 100∧LedM w' G M ps σ.ls∧PB w' base gb σ.l N vb∧
  aCl w' w.heap.size 73 5 (.slice a σ.fs.length c) σ.fs.length (aCm x.ow x.ow σ.fs)∧Keep (fun k=>k=ch∨base≤k) w w')
theorem aOs{ps:List Int}{ls0:List Ln}{l0:List Of}{N ow sl bu nu de n0:Int}{σ:SwS}(h:aE6 ps ls0 l0 N ow sl bu nu de n0 σ)(fuel:Nat)(hf:aBc ps σ.ls σ.l ow ow 1099511627776 σ.n (agO σ.l sl bu nu de)=none):aBl ps ow sl bu nu de fuel σ=(0,σ):=by
 by_cases hn:σ.n≤0
 ·exact aEu hn
 exact aEv hn hf
def DoT(w1:World)(base G M gb:Nat)(ps:List Int)(ls:List Ln)(l:List Of)(N:Int)(vb:Value)(w':World):Prop:=∃vb',LedM w' G M ps ls∧PB w' base gb l N vb'∧aEt w1 vb vb'
def DoI(w1:World)(base G M gb:Nat)(ps:List Int)(ls:List Ln)(l:List Of)(N:Int)(vb:Value)(xc:Array Value)(g:Nat)(D:Nat→Bool)(w':World):Prop:=
 (D 11=false→Below w1.heap.size w1 w')∧(D 11=true→DoT w1 base G M gb ps ls l N vb w'∧Keep (fun k=>k=G∨k=M∨Foot gb vb k) w1 w')∧w1.heap.size≤w'.heap.size∧
  (D 15=true→w1.heap.size≤g∧(D 16=false→Blk w' g #[.int .u64 0,.int .u8 0,.int .u8 0,.int .i64 0,.int .i64 0] 73)∧(D 16=true→Blk w' g xc 73))
section
variable{w1 w' w'':World}{base G M gb g:Nat}{ps:List Int}{ls:List Ln}{l:List Of}{N:Int}{vb:Value}{xc:Array Value}{D:Nat→Bool}
theorem DoI.start:DoI w1 base G M gb ps ls l N vb xc 0 (fun _=>false) w1.drew:=⟨fun _=>yZ.drew,fun h=>(Bool.false_ne_true h).elim,Nat.le_refl _,fun h=>(Bool.false_ne_true h).elim⟩
theorem DoI.keep(k:Nat)(h:DoI w1 base G M gb ps ls l N vb xc g D w')(hk:(k==11 || k==15 || k==16)=false):DoI w1 base G M gb ps ls l N vb xc g (ins k D) w':=by
 simp only[Bool.or_eq_false_iff,beq_eq_false_iff_ne]at hk;unfold DoI at h ⊢;rw[show ins k D 11=D 11 by simp[ins];omega,show ins k D 15=D 15 by simp[ins];omega,show ins k D 16=D 16 by simp[ins];omega];exact h
theorem DoI.lay(h:DoI w1 base G M gb ps ls l N vb xc g D w')(h16:D 16=false):DoI w1 base G M gb ps ls l N vb xc w'.heap.size (ins 15 D) (w'.alloc (.cells #[.int .u64 0,.int .u8 0,.int .u8 0,.int .i64 0,.int .i64 0] 73)):=by
 have b:=(Below.refl w'.heap.size w').alloc yL (.cells #[.int .u64 0,.int .u8 0,.int .u8 0,.int .i64 0,.int .i64 0] 73);obtain⟨a1,a2,a3,_⟩:=h;refine⟨fun q=>?_,fun q=>?_,Nat.le_trans a3 b.size,fun _=>⟨a3,fun _=>pAA _ _ _,fun q=>?_⟩⟩
 ·exact(a1 (by simpa [ins]using q)).trans (b.mono a3)
 ·obtain⟨⟨vb',c1,c2,c3⟩,c4⟩:=a2 (by simpa [ins]using q);exact⟨⟨vb',c1.below b,c2.below b,c3⟩,c4.trans (pAE b)⟩
 rw[show ins 15 D 16=D 16 by simp[ins],h16]at q
 cases q
theorem DoI.call(h:DoI w1 base G M gb ps ls l N vb xc g D w')(h11:D 11=false)(h16:D 16=false)(hlt:∀k,(k=G∨k=M∨Foot gb vb k)→k<w1.heap.size)(hT:DoT w1 base G M gb ps ls l N vb w'')(hk:Keep (fun k=>k=G∨k=M∨Foot gb vb k) w' w''):
  DoI w1 base G M gb ps ls l N vb xc g (ins 11 D) w'':=by
 obtain⟨a1,_,a3,a4⟩:=h;refine⟨fun q=>?_,fun _=>⟨hT,(pAE (a1 h11)).trans hk⟩,Nat.le_trans a3 hk.size,fun q=>?_⟩
 ·simp[ins]at q
 obtain⟨c1,c2,_⟩:=a4 (by simpa [ins]using q);refine⟨c1,fun _=>(c2 h16).keep hk (fun e=>by have:=hlt _ e;omega),fun q2=>?_⟩;rw[show ins 11 D 16=D 16 by simp[ins],h16]at q2
 cases q2
theorem DoI.fill(h:DoI w1 base G M gb ps ls l N vb xc g D w')(h11:D 11=true)(h15:D 15=true)(h16:D 16=false)(hlt:∀k,(k=G∨k=M∨Foot gb vb k)→k<w1.heap.size):DoI w1 base G M gb ps ls l N vb xc g (ins 16 D) (w'.setRow g xc):=by
 obtain⟨_,a2,a3,a4⟩:=h;obtain⟨⟨vb',c1,c2,c3⟩,c4⟩:=a2 h11;obtain⟨d1,d2,_⟩:=a4 h15;have hb:=d2 h16;have kk:=aAf (w:=w') g xc;refine⟨fun q=>?_,fun _=>⟨⟨vb',c1.keep kk (fun e=>by have:=hlt G (.inl rfl);omega) (fun e=>by have:=hlt M (.inr (.inl rfl));omega),c2.keep kk (fun e=>by have:=hlt gb (.inr (.inr (.inl rfl)));omega) (fun b hb'=>aAi c2.row hb (by decide) b hb'),c3⟩,c4.trans_new kk (fun j hj e=>by omega)⟩,Nat.le_trans a3 kk.size,fun _=>⟨d1,fun q=>?_,fun _=>setRow_heap _ g _ _ _ (0,0) hb⟩⟩
 ·rw[show ins 16 D 11=D 11 by simp[ins],h11]at q
  cases q
 simp[ins]at q
end
theorem cfill_any(HMy:aE2)(HD:aGq){w:World}{ch base G M gb:Nat}{ps:List Int}{ls:List Ln}{l:List Of}{N:Int}{vb:Value}(hL:LedM w G M ps ls)(hI:LInv ps ls)(hP:PB w base gb l N vb)(hJ:BInv l N)(hG:base≤G)(hM:base≤M)(hb:base≤w.heap.size)
  (x:Of)(hx:x.Fits)(hm:mayB x.nu x.de=true)(hn:1≤x.lf∧x.lf≤1099511627776)(hc:Blk w ch #[.int .u64 x.se,.int .u8 x.ow,.int .u8 x.sl,.int .u8 x.bu,.int .i64 x.lf,.int .i64 x.nu,.int .i64 x.de] 100)(hcb:ch<base):
  Calls Tryz.prog 45 #[(.pointer (some ⟨ch,0,none⟩)),.agg #[.pointer (some ⟨G,0,none⟩),.pointer (some ⟨gb,0,none⟩)],.int .i64 64] w (PCf w ch base G M gb ps ls l N x):=by
 have b1:=(Below.refl w.heap.size w).alloc yL (.cells #[.pointer (some ⟨G,0,none⟩),.pointer (some ⟨gb,0,none⟩)] 31);have KH:=yH (pAA w #[.pointer (some ⟨G,0,none⟩),.pointer (some ⟨gb,0,none⟩)] 31);have HL:=yH (hL.below b1);have HP:=yH (hP.below b1);have HCh:=yH (hc.below b1 hc.lt);have BW:=yH b1;have GE:=yH (show base≤G∧base≤M∧base≤w.heap.size∧G<w.heap.size∧M<w.heap.size∧gb<w.heap.size∧base≤gb∧(∀b,vb.ownBlock=some b→b<w.heap.size)∧ch<base from⟨hG,hM,hb,hL.blk.lt,hL.map.lt,hP.blk.lt,hP.ge,fun b hb=>(hP.lt (.inr hb)).2,hcb⟩);have II:=yH hI;have JJ:=yH hJ;have HX:=yH hx;have HN:=yH hn;have HMB:=yH hm;have HWS:Hid ((w.alloc (.cells #[.pointer (some ⟨G,0,none⟩),.pointer (some ⟨gb,0,none⟩)] 31)).heap.size=w.heap.size+1):=yH (by simp);clear b1 hL hI hP hJ hG hM hb hx hm hn hc hcb;generalize hW:w.alloc (.cells #[.pointer (some ⟨G,0,none⟩),.pointer (some ⟨gb,0,none⟩)] 31)=W at *;have HW:=yH hW;clear hW;go_enter Tryz.func45,Tryz.ntmps45
 go_upto_region 1 with fail
 rw[HW.out]
 go_loopw [6,8,9,10,11] (fun av _ _ _ _ wr=>CfAt W ch base w.heap.size G M gb ps ls l N x av wr) (fun av _ _ _ _ _=>64 - slN av)
 case atStart=>exact⟨⟨ls,l,[],x.lf⟩,vb,HCh.out,HL.out,HP.out,fun b hb=>.inl (GE.out.2.2.2.2.2.2.2.1 b hb),World.ownsRow_nil _ _ _ _,aE6.start II.out JJ.out (by have:=HN.out;omega),Keep.refl _ _,yH rfl⟩
 obtain⟨σ,vb,hRC,hRL,hRB,hVB,hO,hS,hK,HE⟩:=hrel;have RC:=yH hRC;have RL:=yH hRL;have RB:=yH hRB;have VB:=yH hVB;have OO:=yH hO;have SI:=yH hS;have KK:=yH hK;have KHr:=yH (KH.out.keep hK (by have:=GE.out;omega));obtain⟨sn,hsn⟩:∃sn,σ.n=sn:=⟨_,rfl⟩;have HSN:=yH hsn
 have hsle:0≤sn∧sn≤1099511627776:=by
  have h1:=hS.sum;have h2:=hS.nn;have h3:0≤(σ.fs.map Fl.gi).sum:=hS.gi_nn;have:=HN.out;omega
 rw[hsn]at RC;obtain⟨ao,cap,hav,hc1,hc2,_,_⟩:=aAd hO;subst hav;unfold maxLen at hc2;clear hRC hRL hRB hO hS hK hVB hsn KH HL HP HCh;obtain⟨rs,rk,hr⟩:∃rs rk,(aBc ps σ.ls σ.l x.ow x.ow 1099511627776 sn (agO σ.l x.sl x.bu x.nu x.de)).getD (0,0)=(rs,rk):=⟨_,_,rfl⟩;have HRr:=yH hr
 have CF:=yH (fun w' (h:Below wr.heap.size wr w')=>(show Calls Tryz.prog 103 #[.agg #[.int .u64 x.se,.int .u8 x.ow,.int .u8 x.sl,.int .u8 x.bu,.int .i64 sn,.int .i64 x.nu,.int .i64 x.de],.agg #[.pointer (some ⟨G,0,none⟩),.pointer (some ⟨gb,0,none⟩)]] w' fun e w''=>e=.returned (.tuple #[.int .u64 rs,.int .i64 rk])∧Below w'.heap.size w' w'' from by
  have q:=cfirst_any (x:=⟨x.se,x.ow,x.sl,x.bu,sn,x.nu,x.de⟩) HMy (RL.out.below h) SI.out.linv (RB.out.below h) SI.out.binv ⟨HX.out.se,HX.out.ow,HX.out.sl,HX.out.bu,⟨by show _≤sn;omega,by show sn≤_;omega⟩,HX.out.nu,HX.out.de⟩ HMB.out;dsimp only at q;rw[HRr.out]at q;exact q))
 clear hr;go_wp2_with fail
 refine aA3 (by kernel_rfl) [(.pointer (some ⟨ch,0,none⟩)),(.pointer (some ⟨ch,0,none⟩)),(.agg #[.int .u64 x.se,.int .u8 x.ow,.int .u8 x.sl,.int .u8 x.bu,.int .i64 sn,.int .i64 x.nu,.int .i64 x.de]),(.agg #[.pointer (some ⟨G,0,none⟩),.pointer (some ⟨gb,0,none⟩)]),(.tuple #[.int .u64 rs,.int .i64 rk]),(.tuple #[.int .u64 rs,.int .i64 rk]),(.int .u64 rs),(.int .i64 rk),(.int .u64 rs),(.int .i64 rk)]
  (fun w'=>Below wr.heap.size wr w') (by kernel_rfl) yZ.drew ?_
 intro af haf;simp only[yG,List.append_eq,List.cons_append,List.nil_append,puts,Act.put,yA,yC,yF,yD,yE]at haf;subst haf;refine⟨?_,?_⟩
 ·simp only[yG,List.append_eq,List.cons_append,List.nil_append,aBe];refine⟨?z1,?z2,?_,?_,?_,?z3,?z4,?z5,?z6,?z7,trivial⟩
  case z1|z2|z3|z4|z5|z6|z7=>
   intro w' hS;refine yO rfl ?_;have HS:=yH hS;clear hS;go_wp2_with fail;all_goals first|exact HS|exact⟨rfl,HS⟩|rfl|exact⟨by omega,HS.out⟩
  ·intro w' hS;refine yO rfl ?_;have d0_0:=(RC.out.below hS RC.out.lt).cell 0;have d0_1:=(RC.out.below hS RC.out.lt).cell 1;have d0_2:=(RC.out.below hS RC.out.lt).cell 2;have d0_3:=(RC.out.below hS RC.out.lt).cell 3;have d0_4:=(RC.out.below hS RC.out.lt).cell 4;have d0_5:=(RC.out.below hS RC.out.lt).cell 5;have d0_6:=(RC.out.below hS RC.out.lt).cell 6;simp at d0_0 d0_1 d0_2 d0_3 d0_4 d0_5 d0_6;have HS:=yH hS;clear hS;go_wp2_with fail;all_goals first|exact HS|exact⟨rfl,HS⟩|rfl|exact⟨by omega,HS.out⟩
  ·intro w' hS;refine yO rfl ?_;have d0_0:=(KHr.out.below hS KHr.out.lt).cell 0;have d0_1:=(KHr.out.below hS KHr.out.lt).cell 1;simp at d0_0 d0_1;have HS:=yH hS;clear hS;go_wp2_with fail;all_goals first|exact HS|exact⟨rfl,HS⟩|rfl|exact⟨by omega,HS.out⟩
  intro w' hS;refine yO rfl ?_;have HS:=yH hS;clear hS;go_wp2_with fail;refine(CF.out _ HS.out).mono ?_;rintro e w'' ⟨rfl,hb2⟩;exact⟨rfl,andB HS.out hb2⟩
 intro w1 hS1;have b1:=hS1;have KH1:=yB KHr b1;have RC1:=yB RC b1;have RL1:=yH (RL.out.below b1);have RB1:=yH (RB.out.below b1);have OO1:=yH (aAc OO.out b1);have KK1:=yH (KK.out.trans (pAE b1));have KW:=yH ((pAE (S:=fun k=>k=ch∨base≤k) BW.out).trans (KK1.out.mono (fun k _ h=>h.imp id (fun q=>q.1))));clear b1 hS1 CF KHr RC RL RB OO KK;have HR0:=HRr.out
 cases hfs:aBc ps σ.ls σ.l x.ow x.ow 1099511627776 sn (agO σ.l x.sl x.bu x.nu x.de)with
 | none=>
  rw[hfs]at HR0;simp only[Option.getD_none,Prod.mk.injEq]at HR0;obtain⟨h1,h2⟩:=HR0;subst h1 h2;have YES:Hid (aBl ps x.ow x.sl x.bu x.nu x.de 64 ⟨ls,l,[],x.lf⟩=(0,σ)):=yH (by rw[HE.out];exact aOs SI.out _ (by rw[HSN.out];exact hfs));clear hfs;have CL:=yH (clipFl_any OO1.out);have HLE:=yH (show w.heap.size≤W.heap.size by have:=HWS.out;omega);go_wp2_with fail;refine CL.out.mono ?_;rintro e w2 ⟨v,rfl,hv,_,rfl⟩;obtain⟨a,c,rfl,_,_,_,_⟩:=hv.look;have HV:=yH (hv.base HLE.out);clear hv CL;go_wp2_with fail;go_ret2;exact .inr ⟨_,a,c,σ,YES.out,rfl,by rw[HSN.out];exact RC1.out,RL1.out,RB1.out,HV.out,KW.out⟩
 | some sk=>
  obtain⟨s0,k0⟩:=sk;rw[hfs]at HR0;simp only[Option.getD_some,Prod.mk.injEq]at HR0;obtain⟨h1,h2⟩:=HR0;subst h1 h2;obtain⟨k1,k2,ok,o,ho,_,_,u1,u2,hnx,hnext⟩:=SI.out.step (s:=s0) (k:=k0) (by rw[HSN.out];exact hfs);rw[HSN.out]at u2 hnx;have HFS:=yH hfs;have HOK:=yH ok;have HO:=yH ho;have HNX:=yH hnext;have HSQ:=yH (show 0≤o.se∧o.se≤18446744073709551615 from by have h1:=SI.out.binv.bd o (aCx ho).1;have h2:=SI.out.binv.n2;omega);rw[(aCx ho).2]at HSQ;have z5:decide (k0<1)=false:=by simp;omega
  have HPOS:=yH (show ¬sn≤0 by omega);clear hfs ok ho hnext
  by_cases hfull:σ.fs.length=64
  ·have z6:((σ.fs.length:Int)==64)=true:=by simp;omega
   have NO:Hid ((aBl ps x.ow x.sl x.bu x.nu x.de 64 ⟨ls,l,[],x.lf⟩).1=13):=yH (by
    rw[HE.out,aEw (by rw[HSN.out];exact HPOS.out) (by rw[HSN.out];exact HFS.out) hfull])
   clear hfull;go_wp2_with fail;go_ret2;exact .inl ⟨NO.out,rfl,KW.out⟩
  have z6:((σ.fs.length:Int)==64)=false:=by simp;omega
  have hl64:σ.fs.length+1≤64:=by have:=SI.out.len;omega
  have HL64:=yH hl64;have NX2:=yH (HNX.out hfull);have CDo:=yH (aOk HD RL1.out SI.out.linv RB1.out SI.out.binv s0 x.ow x.ow k0 HSQ.out HX.out.ow HX.out.ow ⟨by omega,by omega⟩);clear hfull hl64
  have LTS:=yH (show ∀k,(k=G∨k=M∨Foot gb vb k)→k<w1.heap.size from fun k h=>by
   rcases h with rfl|rfl|h
   ·exact RL1.out.blk.lt
   ·exact RL1.out.map.lt
   exact(RB1.out.lt h).2)
  have CDo:=yH (fun w' (h:Below w1.heap.size w1 w')=>(show Calls Tryz.prog 87 #[.agg #[.pointer (some ⟨G,0,none⟩),.pointer (some ⟨gb,0,none⟩)],.int .u64 s0,.int .u8 x.ow,.int .u8 x.ow,.int .i64 k0] w' fun e w''=>e=.returned (.tuple #[.agg #[.int .u64 s0,.int .u8 x.ow,.int .u8 x.ow,.int .i64 k0,.int .i64 (upN (k0*o.nu) o.de)],.int .i64 0])∧
    DoT w1 base G M gb ps (aCy ps σ.ls o x.ow x.ow k0 (upN (k0*o.nu) o.de)) (aCh σ.l s0 k0) N vb w''∧Keep (fun k=>k=G∨k=M∨Foot gb vb k) w' w'' from by
   refine(aOk HD (RL1.out.below h) SI.out.linv (RB1.out.below h) SI.out.binv s0 x.ow x.ow k0 HSQ.out HX.out.ow HX.out.ow ⟨by omega,by omega⟩).mono ?_;rintro e w'' (⟨hno,_⟩|⟨_,o',y',vb',ho',hy',rfl,hRL',hRB',kk,hmv⟩)
   ·exact absurd HOK.out hno
   rw[HO.out]at ho'
   cases ho'
   subst hy';exact⟨rfl,⟨vb',hRL',hRB',fun b hb=>(hmv b hb).imp id (fun q=>Nat.le_trans h.size q)⟩,kk⟩))
  obtain⟨y,hy⟩:∃y,upN (k0*o.nu) o.de=y:=⟨_,rfl⟩;rw[hy]at CDo u1 u2 hnx;rw[hnx]at NX2
  have HE2:Hid (aBl ps x.ow x.sl x.bu x.nu x.de 64 ⟨ls,l,[],x.lf⟩=aBl ps x.ow x.sl x.bu x.nu x.de (64 - (σ.fs.length+1)) ⟨aCy ps σ.ls o x.ow x.ow k0 y,aCh σ.l s0 k0,σ.fs++[⟨s0,k0,y⟩],sn - y⟩):=yH (by
   rw[HE.out,←hnx,←aD0 (by rw[HSN.out];exact HPOS.out) (by rw[HSN.out];exact HFS.out) (by have:=HL64.out;omega)];congr 1;have:=HL64.out;omega)
  obtain⟨LS,hLS⟩:∃LS,aCy ps σ.ls o x.ow x.ow k0 y=LS:=⟨_,rfl⟩;obtain⟨TL,hTL⟩:∃TL,aCh σ.l s0 k0=TL:=⟨_,rfl⟩;rw[hLS,hTL]at CDo HE2 NX2;clear hnx hy hLS hTL HNX HE HFS HOK HO
  go_upto_region 6 with fail
  refine aA0 (by kernel_rfl) (fun g:Nat=>[(.agg #[.pointer (some ⟨G,0,none⟩),.pointer (some ⟨gb,0,none⟩)]),(.int .u64 s0),(.pointer (some ⟨ch,0,none⟩)),(.pointer (some ⟨ch,0,none⟩)),(.pointer (some ⟨ch,1,none⟩)),(.int .u8 x.ow),(.pointer (some ⟨ch,0,none⟩)),(.pointer (some ⟨ch,0,none⟩)),(.pointer (some ⟨ch,1,none⟩)),(.int .u8 x.ow),(.int .i64 k0),(.tuple #[.agg #[.int .u64 s0,.int .u8 x.ow,.int .u8 x.ow,.int .i64 k0,.int .i64 y],.int .i64 0]),(.tuple #[.agg #[.int .u64 s0,.int .u8 x.ow,.int .u8 x.ow,.int .i64 k0,.int .i64 y],.int .i64 0]),(.agg #[.int .u64 s0,.int .u8 x.ow,.int .u8 x.ow,.int .i64 k0,.int .i64 y]),(.int .i64 0),(.pointer (some ⟨g,0,none⟩)),undef,(.int .i64 0)])
   (DoI w1 base G M gb ps LS TL N vb #[.int .u64 s0,.int .u8 x.ow,.int .u8 x.ow,.int .i64 k0,.int .i64 y]) (by kernel_rfl) 0 DoI.start ?_
  intro AF hAF;simp only[yG,List.append_eq,List.cons_append,List.nil_append,puts,Act.put,yA,yC,yF,yD,yE]at hAF;have hAF2:_=AF:=funext hAF;subst hAF2;clear hAF;refine⟨?_,?_⟩
  ·simp only[yG,List.append_eq,List.cons_append,List.nil_append,aEb];refine⟨?_,?_,?_,?_,?_,?_,?_,?_,?_,?_,?_,?_,?_,?_,?_,?_,?_,?_,trivial⟩
   ·intro g D w' hD hW hC hI;refine⟨g,fun _ _ _=>rfl,?_⟩;with_reducible refine yO rfl ?_
    have hS:=hI.1 (aAg hC hD 11 (by kernel_rfl));have hk:=KH1.out.below hS KH1.out.lt;have e0:=hk.cell 0;have e1:=hk.cell 1;simp at e0 e1;clear hk;have HS:=yH (hI.keep 0 rfl);clear hI hC hW hD hS;go_wp2_with fail;all_goals first|exact HS|exact⟨rfl,HS⟩|rfl
   ·intro g D w' hD hW hC hI;refine⟨g,fun _ _ _=>rfl,?_⟩;with_reducible refine yO rfl ?_
    have HS:=yH (hI.keep 1 rfl);clear hI hC hW hD;go_wp2_with fail;all_goals first|exact HS|exact⟨rfl,HS⟩|rfl
   ·intro g D w' hD hW hC hI;refine⟨g,fun _ _ _=>rfl,?_⟩;with_reducible refine yO rfl ?_
    have HS:=yH (hI.keep 2 rfl);clear hI hC hW hD;go_wp2_with fail;all_goals first|exact HS|exact⟨rfl,HS⟩|rfl
   ·intro g D w' hD hW hC hI;refine⟨g,fun _ _ _=>rfl,?_⟩;with_reducible refine yO rfl ?_
    have hS:=hI.1 (aAg hC hD 11 (by kernel_rfl));have hk:=RC1.out.below hS RC1.out.lt;have e1:=hk.cell 1;simp at e1;clear hk;have HS:=yH (hI.keep 3 rfl);clear hI hC hW hD hS;go_wp2_with fail;all_goals first|exact HS|exact⟨rfl,HS⟩|rfl
   ·intro g D w' hD hW hC hI;refine⟨g,fun _ _ _=>rfl,?_⟩;with_reducible refine yO rfl ?_
    have hS:=hI.1 (aAg hC hD 11 (by kernel_rfl));have hk:=RC1.out.below hS RC1.out.lt;have e1:=hk.cell 1;simp at e1;clear hk;have HS:=yH (hI.keep 4 rfl);clear hI hC hW hD hS;go_wp2_with fail;all_goals first|exact HS|exact⟨rfl,HS⟩|rfl
   ·intro g D w' hD hW hC hI;refine⟨g,fun _ _ _=>rfl,?_⟩;with_reducible refine yO rfl ?_
    have hS:=hI.1 (aAg hC hD 11 (by kernel_rfl));have hk:=RC1.out.below hS RC1.out.lt;have e1:=hk.cell 1;simp at e1;clear hk;have HS:=yH (hI.keep 5 rfl);clear hI hC hW hD hS;go_wp2_with fail;all_goals first|exact HS|exact⟨rfl,HS⟩|rfl
   ·intro g D w' hD hW hC hI;refine⟨g,fun _ _ _=>rfl,?_⟩;with_reducible refine yO rfl ?_
    have HS:=yH (hI.keep 6 rfl);clear hI hC hW hD;go_wp2_with fail;all_goals first|exact HS|exact⟨rfl,HS⟩|rfl
   ·intro g D w' hD hW hC hI;refine⟨g,fun _ _ _=>rfl,?_⟩;with_reducible refine yO rfl ?_
    have hS:=hI.1 (aAg hC hD 11 (by kernel_rfl));have hk:=RC1.out.below hS RC1.out.lt;have e1:=hk.cell 1;simp at e1;clear hk;have HS:=yH (hI.keep 7 rfl);clear hI hC hW hD hS;go_wp2_with fail;all_goals first|exact HS|exact⟨rfl,HS⟩|rfl
   ·intro g D w' hD hW hC hI;refine⟨g,fun _ _ _=>rfl,?_⟩;with_reducible refine yO rfl ?_
    have hS:=hI.1 (aAg hC hD 11 (by kernel_rfl));have hk:=RC1.out.below hS RC1.out.lt;have e1:=hk.cell 1;simp at e1;clear hk;have HS:=yH (hI.keep 8 rfl);clear hI hC hW hD hS;go_wp2_with fail;all_goals first|exact HS|exact⟨rfl,HS⟩|rfl
   ·intro g D w' hD hW hC hI;refine⟨g,fun _ _ _=>rfl,?_⟩;with_reducible refine yO rfl ?_
    have hS:=hI.1 (aAg hC hD 11 (by kernel_rfl));have hk:=RC1.out.below hS RC1.out.lt;have e1:=hk.cell 1;simp at e1;clear hk;have HS:=yH (hI.keep 9 rfl);clear hI hC hW hD hS;go_wp2_with fail;all_goals first|exact HS|exact⟨rfl,HS⟩|rfl
   ·intro g D w' hD hW hC hI;refine⟨g,fun _ _ _=>rfl,?_⟩;with_reducible refine yO rfl ?_
    have HS:=yH (hI.keep 10 rfl);clear hI hC hW hD;go_wp2_with fail;all_goals first|exact HS|exact⟨rfl,HS⟩|rfl
   ·intro g D w' hD hW hC hI;refine⟨g,fun _ _ _=>rfl,?_⟩;with_reducible refine yO rfl ?_
    have h16:=aAg hC hD 16 (by kernel_rfl);have HI:=yH hI;have HC:=yH (CDo.out w' (hI.1 hD));have HB:=yH (And.intro hD h16);clear hI hC hW hD h16;go_wp2_with fail;refine HC.out.mono ?_;rintro e w'' ⟨rfl,ht,hk⟩;exact⟨rfl,HI.out.call HB.out.1 HB.out.2 LTS.out ht hk⟩
   ·intro g D w' hD hW hC hI;refine⟨g,fun _ _ _=>rfl,?_⟩;with_reducible refine yO rfl ?_
    have HS:=yH (hI.keep 12 rfl);clear hI hC hW hD;go_wp2_with fail;all_goals first|exact HS|exact⟨rfl,HS⟩|rfl
   ·intro g D w' hD hW hC hI;refine⟨g,fun _ _ _=>rfl,?_⟩;with_reducible refine yO rfl ?_
    have HS:=yH (hI.keep 13 rfl);clear hI hC hW hD;go_wp2_with fail;all_goals first|exact HS|exact⟨rfl,HS⟩|rfl
   ·intro g D w' hD hW hC hI;refine⟨g,fun _ _ _=>rfl,?_⟩;with_reducible refine yO rfl ?_
    have HS:=yH (hI.keep 14 rfl);clear hI hC hW hD;go_wp2_with fail;all_goals first|exact HS|exact⟨rfl,HS⟩|rfl
   ·intro g D w' hD hW hC hI;have h16:=aAg hC hD 16 (by kernel_rfl);refine⟨w'.heap.size,fun j hj hjD=>?_,?_⟩
    ·rcases(by have:j<18:=hj;omega:j=0∨j=1∨j=2∨j=3∨j=4∨j=5∨j=6∨j=7∨j=8∨j=9∨j=10∨j=11∨j=12∨j=13∨j=14∨j=15∨j=16∨j=17)with rfl|rfl|rfl|rfl|rfl|rfl|rfl|rfl|rfl|rfl|rfl|rfl|rfl|rfl|rfl|rfl|rfl|rfl
     all_goals first|rfl|exact absurd (hD.symm.trans hjD) (by decide)
    with_reducible refine yO rfl ?_
    have HS:=yH (hI.lay h16);clear hI hC hW hD h16;go_wp2_with fail;all_goals first|exact HS|exact⟨rfl,HS⟩|rfl
   ·intro g D w' hD hW hC hI;refine⟨g,fun _ _ _=>rfl,?_⟩;with_reducible refine yO rfl ?_
    have h11:D 11=true:=aA8 hC hW (by kernel_rfl);have h15:D 15=true:=aA8 hC hW (by kernel_rfl);have HS:=yH (hI.fill h11 h15 hD LTS.out);have hk:=(hI.2.2.2 h15).2.1 hD;refine wp_store_row 73 (.tmp 10) (.tmp 43) rfl g #[.int .u64 s0,.int .u8 x.ow,.int .u8 x.ow,.int .i64 k0,.int .i64 y] rfl rfl 73 _ hk (by kernel_rfl) rfl (by simp[Value.oneCell']) ⟨rfl,?_⟩;exact HS.out
   intro g D w' hD hW hC hI;refine⟨g,fun _ _ _=>rfl,?_⟩;with_reducible refine yO rfl ?_
   have HS:=yH (hI.keep 17 rfl);clear hI hC hW hD;go_wp2_with fail;all_goals first|exact HS|exact⟨rfl,HS⟩|rfl
  intro g D w3 hall hI;obtain⟨_,a2,a3,a4⟩:=hI;obtain⟨⟨vb2,t1,t2,t3⟩,kk⟩:=a2 (hall 11 (by decide));obtain⟨g1,_,g2⟩:=a4 (hall 15 (by decide));have KF:=yH (g2 (hall 16 (by decide)));have hWS:=HWS.out;have hge:=GE.out;have hsz:=KK1.out.size
  have hvb:∀j,j<W.heap.size→(j=G∨j=M∨Foot gb vb j)→base≤j∧j<w.heap.size:=by
   intro j hj h;rcases h with h|h|h|h
   ·omega
   ·omega
   ·omega
   have h1:=VB.out j h;have h2:=(RB1.out.lt (b:=j) (.inr h)).1;omega
  have RC3:=yH (RC1.out.keep kk (fun h=>by have:=hvb _ (by omega) h;omega))
  have OO3:=yH (aAl OO1.out kk (fun b hb h=>by
   have h1:=(aAe OO1.out hb).1;rcases h with h|h|h|h
   ·omega
   ·omega
   ·omega
   exact aFk OO1.out RB1.out.row (by decide) b hb h))
  have KK3:=yH (KK1.out.trans_new kk (fun j hj h=>.inr (hvb j hj h)))
  have VB3:=yH (show ∀b,vb2.ownBlock=some b→b<w.heap.size∨W.heap.size≤b from fun j hj=>by
   rcases t3 j hj with h|h
   ·exact VB.out j h
   exact .inr (by omega))
  have RL3:=yH t1;have RB3:=yH t2;have GO:=yH (show ∀b,(Value.slice ao σ.fs.length cap).ownBlock=some b→b<g∧W.heap.size≤b from fun b hb=>by have:=aAe OO1.out hb;omega);clear hWS hge hsz hvb t1 t2 t3 a2 a3 a4 kk g1 g2 hall RL1 RB1 OO1 KK1 RC1 KH1 VB CDo LTS;have f0:=KF.out.cell 0;have f1:=KF.out.cell 1;have f2:=KF.out.cell 2;have f3:=KF.out.cell 3;have f4:=KF.out.cell 4;simp at f0 f1 f2 f3 f4;have hb5:=KK3.out.size;go_wp2_with (at_builtin;refine aFl _ rfl (.tmp 45) (.tmp 47) 38 73 rfl Tryz.underlying38 info_flp12 rfl (by decide) (by decide) W.heap.size _ σ.fs.length _ rfl (OO3.out.alloc _) w3.heap.size 1 [.int .u64 s0,.int .u8 x.ow,.int .u8 x.ow,.int .i64 k0,.int .i64 y] rfl rfl (pAA _ _ _) (by simp[Value.oneCell']) (by have:=HL64.out;omega) (by simp;omega) ?_);intro v2 w4 ho2 hg2;have KG:Keep (fun k=>(Value.slice ao σ.fs.length cap).ownBlock=some k) w3 w4:=((Keep.refl _ w3).alloc _).grown hg2 (fun k hk=>.inl hk);have RL4:=yH (RL3.out.keep KG (fun h=>by have:=(aAe OO3.out h).1;have:=GE.out;have:=HWS.out;omega) (fun h=>by have:=(aAe OO3.out h).1;have:=GE.out;have:=HWS.out;omega));have RB4:=yH (RB3.out.keep KG (fun h=>by have:=(aAe OO3.out h).1;have:=GE.out;have:=HWS.out;omega) (fun b hb h=>aFk OO3.out RB3.out.row (by decide) b h hb));have KK4:=yH (KK3.out.trans_new KG (fun j hj h=>by have:=(aAe OO3.out h).1;omega));have RC4:=yH (RC3.out.keep KG (fun h=>by have:=(aAe OO3.out h).1;have:=GE.out;have:=HWS.out;omega));have KF4:=yH (KF.out.keep KG (fun h=>by have:=GO.out _ h;omega));have O4:=yH (show w4.ownsRow W.heap.size 73 5 v2 (σ.fs++[(⟨s0,k0,y⟩:Fl)]).length (aCm x.ow x.ow (σ.fs++[(⟨s0,k0,y⟩:Fl)]))from by rw[aJw];simpa [Fl.vals]using ho2);obtain⟨ao2,cap2,hv2,_⟩:=aAd O4.out;subst hv2;clear KG ho2 hg2 f0 f1 f2 f3 f4 hb5 RL3 RB3 OO3 KK3 RC3 KF;have c4:=RC4.out.cell 4;have cf:=RC4.out.frozen 4;have f4:=KF4.out.cell 4;simp at c4 f4;have kk:Keep (fun k=>k=ch) w4 (w4.setCell ⟨ch,4,none⟩ (.int .i64 (sn - y))).drew:=(Keep.setCell (S:=fun k=>k=ch) (Keep.refl _ _) (p:=⟨ch,4,none⟩) (.inl rfl) _).drew;have RC5:Hid (Blk (w4.setCell ⟨ch,4,none⟩ (.int .i64 (sn - y))).drew ch #[.int .u64 x.se,.int .u8 x.ow,.int .u8 x.sl,.int .u8 x.bu,.int .i64 (sn - y),.int .i64 x.nu,.int .i64 x.de] 100):=yH (RC4.out.set 4 _);have RL5:=yH (RL4.out.keep kk (by have:=GE.out;omega) (by have:=GE.out;omega));have RB5:=yH (RB4.out.keep kk (by have:=GE.out;omega) (fun b hb e=>by have h1:=(RB4.out.lt (.inr hb)).1;have:=GE.out;omega));have KK5:=yH (KK4.out.trans (kk.mono (fun k _ h=>.inl h)));have O5:=yH (aAl O4.out kk (fun b hb e=>by have h1:=(aAe O4.out hb).1;have:=GE.out;have:=HWS.out;omega));clear kk RL4 RB4 KK4 O4;go_wp2_with fail
  go_region
  all_goals
   go_wp2_with fail;exact⟨⟨⟨LS,TL,σ.fs++[⟨s0,k0,y⟩],sn - y⟩,_,RC5.out,RL5.out,RB5.out,VB3.out,O5.out,NX2.out,KK5.out,yH (by rw[HE2.out];simp)⟩,by simp[slN];have:=HL64.out;omega⟩
theorem PB.down12{w:World}{base base' g:Nat}{l:List Of}{N:Int}{vl:Value}(h:PB w base g l N vl)(hb:base'≤base):PB w base' g l N vl:=⟨h.blk,Nat.le_trans hb h.ge,aA4 h.row hb⟩
def PlcNo(w:World)(er:Int)(e:Ending)(w':World):Prop:=e=.returned (.tuple #[.agg #[.pointer none,.pointer none],.slice none 0 0,.int .u64 0,.int .i64 er])∧Below w.heap.size w w'
theorem pplc_void{w:World}{a b:Option Addr}(x:Of)(h:∀w',Below w.heap.size w w'→Calls Tryz.prog 101 #[.agg #[.pointer a,.pointer b]] w' fun e w''=>e=.returned (.bool false)∧Below w'.heap.size w' w''):
  Calls Tryz.prog 11 #[.agg #[.pointer a,.pointer b],.agg #[.int .u64 x.se,.int .u8 x.ow,.int .u8 x.sl,.int .u8 x.bu,.int .i64 x.lf,.int .i64 x.nu,.int .i64 x.de]] w (PlcNo w 2):=by
 have b1:=(Below.refl w.heap.size w).alloc yL (.cells #[.pointer a,.pointer b] 31);have b2:=b1.alloc b1.size (.cells #[.int .u64 x.se,.int .u8 x.ow,.int .u8 x.sl,.int .u8 x.bu,.int .i64 x.lf,.int .i64 x.nu,.int .i64 x.de] 48);have b3:=b2.alloc b2.size (.cells #[.pointer none,.pointer none] 31);have b4:=b3.alloc b3.size (.cells #[.int .u64 x.se,.int .u8 x.ow,.int .u8 x.sl,.int .u8 x.bu,.int .i64 x.lf,.int .i64 x.nu,.int .i64 x.de] 100);have KH:=yH ((((pAA w #[.pointer a,.pointer b] 31).alloc (.cells #[.int .u64 x.se,.int .u8 x.ow,.int .u8 x.sl,.int .u8 x.bu,.int .i64 x.lf,.int .i64 x.nu,.int .i64 x.de] 48)).alloc (.cells #[.pointer none,.pointer none] 31)).alloc (.cells #[.int .u64 x.se,.int .u8 x.ow,.int .u8 x.sl,.int .u8 x.bu,.int .i64 x.lf,.int .i64 x.nu,.int .i64 x.de] 100));have KR:=yH ((pAC ((w.alloc (.cells #[.pointer a,.pointer b] 31)).alloc (.cells #[.int .u64 x.se,.int .u8 x.ow,.int .u8 x.sl,.int .u8 x.bu,.int .i64 x.lf,.int .i64 x.nu,.int .i64 x.de] 48)) #[.pointer none,.pointer none] 31 (g:=w.heap.size+2) (by simp)).alloc (.cells #[.int .u64 x.se,.int .u8 x.ow,.int .u8 x.sl,.int .u8 x.bu,.int .i64 x.lf,.int .i64 x.nu,.int .i64 x.de] 100));have KC:=yH (pAC (((w.alloc (.cells #[.pointer a,.pointer b] 31)).alloc (.cells #[.int .u64 x.se,.int .u8 x.ow,.int .u8 x.sl,.int .u8 x.bu,.int .i64 x.lf,.int .i64 x.nu,.int .i64 x.de] 48)).alloc (.cells #[.pointer none,.pointer none] 31)) #[.int .u64 x.se,.int .u8 x.ow,.int .u8 x.sl,.int .u8 x.bu,.int .i64 x.lf,.int .i64 x.nu,.int .i64 x.de] 100 (g:=w.heap.size+3) (by simp));have B:=yH b4;have CW:=yH (aSt x (fun w' k=>h w' (andB b4 k)));clear b1 b2 b3 b4 h;generalize hW:((((w.alloc (.cells #[.pointer a,.pointer b] 31)).alloc (.cells #[.int .u64 x.se,.int .u8 x.ow,.int .u8 x.sl,.int .u8 x.bu,.int .i64 x.lf,.int .i64 x.nu,.int .i64 x.de] 48)).alloc (.cells #[.pointer none,.pointer none] 31)).alloc (.cells #[.int .u64 x.se,.int .u8 x.ow,.int .u8 x.sl,.int .u8 x.bu,.int .i64 x.lf,.int .i64 x.nu,.int .i64 x.de] 100))=W at *;have HW:=yH hW;clear hW;have h0:=KH.out.cell 0;have h1:=KH.out.cell 1;have c0:=KC.out.cell 0;have c1:=KC.out.cell 1;have c2:=KC.out.cell 2;have c3:=KC.out.cell 3;have c4:=KC.out.cell 4;have c5:=KC.out.cell 5;have c6:=KC.out.cell 6;simp at h0 h1 c0 c1 c2 c3 c4 c5 c6;go_enter Tryz.func11,Tryz.ntmps11
 go_upto_region 2 with fail
 rw[HW.out];go_wp2_with fail;refine CW.out.mono ?_;rintro e w1 ⟨rfl,b1⟩;have KR1:=yB KR b1;have B1:=yT B b1;clear b1 h0 h1 c0 c1 c2 c3 c4 c5 c6 KH KR KC B CW;have r0:=KR1.out.cell 0;have r1:=KR1.out.cell 1;simp at r0 r1;go_wp2_with (refine aAb rfl 31 (.tmp 4) (.tmp 15) rfl (w.heap.size+2) #[.pointer none,.pointer none] rfl rfl 31 _ KR1.out.out (by kernel_rfl) rfl (by simp[Value.oneCell']) ?_);refine bodyPost_ret (v:=.tuple #[.agg #[.pointer none,.pointer none],.slice none 0 0,.int .u64 0,.int .i64 2]) (aAv rfl _ _ (w.heap.size+2) 31 #[.pointer none,.pointer none] _ _ _ _ rfl (setRow_heap _ (w.heap.size+2) _ _ _ (0,0) KR1.out.out) Tryz.underlying31 rfl (by kernel_rfl) rfl rfl rfl) rfl ?_;exact⟨rfl,below_setRow B1.out (by omega) _⟩
def PPlc(w:World)(ps:List Int)(ls:List Ln)(l:List Of)(N:Int)(x:Of)(e:Ending)(w':World):Prop:=
 (∃er:Int,er≠0∧(aB0 ps ls l N x.ow x.sl x.bu x.lf x.nu x.de).1=er∧PlcNo w er e w')∨
 (∃(G M gb:Nat) (vb:Value) (a:Option Addr) (c:Nat) (σ:SwS) (N' sq:Int),aB0 ps ls l N x.ow x.sl x.bu x.lf x.nu x.de=(0,σ,N',sq)∧e=.returned (.tuple #[.agg #[.pointer (some ⟨G,0,none⟩),.pointer (some ⟨gb,0,none⟩)],.slice a σ.fs.length c,.int .u64 sq,.int .i64 0])∧LedM w' G M ps σ.ls∧PB w' w.heap.size gb σ.l N' vb∧
  aCl w' w.heap.size 73 5 (.slice a σ.fs.length c) σ.fs.length (aCm x.ow x.ow σ.fs)∧w.heap.size≤G∧w.heap.size≤M∧Below w.heap.size w w')
theorem aQu{ps:List Int}{ls:List Ln}{l:List Of}{N:Int}{x:Of}{er:Int}(h:aHh ps x=er)(he:er≠0):(aB0 ps ls l N x.ow x.sl x.bu x.lf x.nu x.de).1=er:=by
 unfold aHh at h;unfold aB0
 by_cases h1:x.may
 ·have h1':(Of.mk 0 x.ow x.sl x.bu x.lf x.nu x.de).may:=h1;rw[if_neg (fun q=>q h1)]at h;rw[if_neg (fun q=>q h1')]
  by_cases h2:x.ow∉ps
  ·rw[if_pos h2]at h ⊢;exact h
  rw[if_neg h2]at h;exact absurd h.symm he
 have h1':¬(Of.mk 0 x.ow x.sl x.bu x.lf x.nu x.de).may:=h1;rw[if_pos h1]at h;rw[if_pos h1'];exact h
theorem aQv{ps:List Int}{ls:List Ln}{l:List Of}{N:Int}{x:Of}(h:aHh ps x=0):x.may∧aB0 ps ls l N x.ow x.sl x.bu x.lf x.nu x.de=aDb N x.ow x.sl x.bu x.nu x.de (aBl ps x.ow x.sl x.bu x.nu x.de 64 ⟨ls,l,[],x.lf⟩):=by
 unfold aHh at h;unfold aB0
 by_cases h1:x.may
 ·have h1':(Of.mk 0 x.ow x.sl x.bu x.lf x.nu x.de).may:=h1;rw[if_neg (fun q=>q h1)]at h;rw[if_neg (fun q=>q h1')]
  by_cases h2:x.ow∉ps
  ·rw[if_pos h2]at h;exact absurd h (by decide)
  rw[if_neg h2];exact⟨h1,rfl⟩
 rw[if_pos h1]at h;exact absurd h (by decide)
theorem aOt(HMy:aE2)(HD:aGq)(HCp:aIq){w:World}{base G M gb:Nat}{ps:List Int}{ls:List Ln}{l:List Of}{N:Int}{vb:Value}(hL:LedM w G M ps ls)(hI:LInv ps ls)(hP:PB w base gb l N vb)(hJ:BInv l N)(x:Of)(hx:x.Fits):
  Calls Tryz.prog 11 #[.agg #[.pointer (some ⟨G,0,none⟩),.pointer (some ⟨gb,0,none⟩)],.agg #[.int .u64 x.se,.int .u8 x.ow,.int .u8 x.sl,.int .u8 x.bu,.int .i64 x.lf,.int .i64 x.nu,.int .i64 x.de]] w (PPlc w ps ls l N x):=by
 have b1:=(Below.refl w.heap.size w).alloc yL (.cells #[.pointer (some ⟨G,0,none⟩),.pointer (some ⟨gb,0,none⟩)] 31);have b2:=b1.alloc b1.size (.cells #[.int .u64 x.se,.int .u8 x.ow,.int .u8 x.sl,.int .u8 x.bu,.int .i64 x.lf,.int .i64 x.nu,.int .i64 x.de] 48);have b3:=b2.alloc b2.size (.cells #[.pointer none,.pointer none] 31);have b4:=b3.alloc b3.size (.cells #[.int .u64 x.se,.int .u8 x.ow,.int .u8 x.sl,.int .u8 x.bu,.int .i64 x.lf,.int .i64 x.nu,.int .i64 x.de] 100);have KH:=yH ((((pAA w #[.pointer (some ⟨G,0,none⟩),.pointer (some ⟨gb,0,none⟩)] 31).alloc (.cells #[.int .u64 x.se,.int .u8 x.ow,.int .u8 x.sl,.int .u8 x.bu,.int .i64 x.lf,.int .i64 x.nu,.int .i64 x.de] 48)).alloc (.cells #[.pointer none,.pointer none] 31)).alloc (.cells #[.int .u64 x.se,.int .u8 x.ow,.int .u8 x.sl,.int .u8 x.bu,.int .i64 x.lf,.int .i64 x.nu,.int .i64 x.de] 100));have KR:=yH ((pAC ((w.alloc (.cells #[.pointer (some ⟨G,0,none⟩),.pointer (some ⟨gb,0,none⟩)] 31)).alloc (.cells #[.int .u64 x.se,.int .u8 x.ow,.int .u8 x.sl,.int .u8 x.bu,.int .i64 x.lf,.int .i64 x.nu,.int .i64 x.de] 48)) #[.pointer none,.pointer none] 31 (g:=w.heap.size+2) (by simp)).alloc (.cells #[.int .u64 x.se,.int .u8 x.ow,.int .u8 x.sl,.int .u8 x.bu,.int .i64 x.lf,.int .i64 x.nu,.int .i64 x.de] 100));have KC:=yH (pAC (((w.alloc (.cells #[.pointer (some ⟨G,0,none⟩),.pointer (some ⟨gb,0,none⟩)] 31)).alloc (.cells #[.int .u64 x.se,.int .u8 x.ow,.int .u8 x.sl,.int .u8 x.bu,.int .i64 x.lf,.int .i64 x.nu,.int .i64 x.de] 48)).alloc (.cells #[.pointer none,.pointer none] 31)) #[.int .u64 x.se,.int .u8 x.ow,.int .u8 x.sl,.int .u8 x.bu,.int .i64 x.lf,.int .i64 x.nu,.int .i64 x.de] 100 (g:=w.heap.size+3) (by simp));have B:=yH b4;have CW:=yH (cwrong_any HD (hL.below b4) hI (hP.below b4) hJ x hx);have HL:=yH (hL.below b4);have HP:=yH (hP.below b4);have II:=yH hI;have JJ:=yH hJ;have HX:=yH hx;have HSZ:Hid (((((w.alloc (.cells #[.pointer (some ⟨G,0,none⟩),.pointer (some ⟨gb,0,none⟩)] 31)).alloc (.cells #[.int .u64 x.se,.int .u8 x.ow,.int .u8 x.sl,.int .u8 x.bu,.int .i64 x.lf,.int .i64 x.nu,.int .i64 x.de] 48)).alloc (.cells #[.pointer none,.pointer none] 31)).alloc (.cells #[.int .u64 x.se,.int .u8 x.ow,.int .u8 x.sl,.int .u8 x.bu,.int .i64 x.lf,.int .i64 x.nu,.int .i64 x.de] 100)).heap.size=w.heap.size+4):=yH (by simp);obtain⟨R,hR⟩:∃R,aHh ps x=R:=⟨_,rfl⟩;rw[hR]at CW;have HR:=yH hR;clear b1 b2 b3 b4 hL hI hP hJ hx hR;generalize hW:((((w.alloc (.cells #[.pointer (some ⟨G,0,none⟩),.pointer (some ⟨gb,0,none⟩)] 31)).alloc (.cells #[.int .u64 x.se,.int .u8 x.ow,.int .u8 x.sl,.int .u8 x.bu,.int .i64 x.lf,.int .i64 x.nu,.int .i64 x.de] 48)).alloc (.cells #[.pointer none,.pointer none] 31)).alloc (.cells #[.int .u64 x.se,.int .u8 x.ow,.int .u8 x.sl,.int .u8 x.bu,.int .i64 x.lf,.int .i64 x.nu,.int .i64 x.de] 100))=W at *;have HW:=yH hW;clear hW;have h0:=KH.out.cell 0;have h1:=KH.out.cell 1;have c0:=KC.out.cell 0;have c1:=KC.out.cell 1;have c2:=KC.out.cell 2;have c3:=KC.out.cell 3;have c4:=KC.out.cell 4;have c5:=KC.out.cell 5;have c6:=KC.out.cell 6;simp at h0 h1 c0 c1 c2 c3 c4 c5 c6;go_enter Tryz.func11,Tryz.ntmps11
 go_upto_region 2 with fail
 rw[HW.out];go_wp2_with fail;refine CW.out.mono ?_;rintro e w1 ⟨rfl,b1⟩;have KH1:=yB KH b1;have KR1:=yB KR b1;have KC1:=yB KC b1;have L1:=yH (HL.out.below b1);have P1:=yH (HP.out.below b1);have B1:=yT B b1;have SZ1:=yH (show w.heap.size+4≤w1.heap.size by have:=HSZ.out;have:=b1.size;omega);clear b1 h0 h1 c0 c1 c2 c3 c4 c5 c6 KH KR KC B CW HL HP
 by_cases hz:R=0
 rotate_left
 ·have q0:(R != 0)=true:=by simpa using hz
  have NO:=yH (aQu (ls:=ls) (l:=l) (N:=N) HR.out hz);have HZ:=yH hz;clear hz KH1 KC1 L1 P1;have r0:=KR1.out.cell 0;have r1:=KR1.out.cell 1;simp at r0 r1;go_wp2_with (refine aAb rfl 31 (.tmp 4) (.tmp 15) rfl (w.heap.size+2) #[.pointer none,.pointer none] rfl rfl 31 _ KR1.out.out (by kernel_rfl) rfl (by simp[Value.oneCell']) ?_);refine bodyPost_ret (v:=.tuple #[.agg #[.pointer none,.pointer none],.slice none 0 0,.int .u64 0,.int .i64 R]) (aAv rfl _ _ (w.heap.size+2) 31 #[.pointer none,.pointer none] _ _ _ _ rfl (setRow_heap _ (w.heap.size+2) _ _ _ (0,0) KR1.out.out) Tryz.underlying31 rfl (by kernel_rfl) rfl rfl rfl) rfl ?_;exact .inl ⟨R,HZ.out,NO.out,rfl,below_setRow B1.out (by omega) _⟩
 subst hz;obtain⟨hmay,heq⟩:=aQv (ls:=ls) (l:=l) (N:=N) HR.out;have MAY:=yH hmay;have EQ:=yH heq;clear hmay heq;have CC:=yH (HCp L1.out II.out P1.out JJ.out);have h0:=KH1.out.cell 0;have h1:=KH1.out.cell 1;simp at h0 h1;go_wp2_with fail;refine CC.out.mono ?_;rintro e w2 ⟨G1,M1,gb1,vb1,rfl,hL1,hP1,hg1,hm1,b2⟩;have GE:=yH (show w1.heap.size≤G1∧w1.heap.size≤M1∧w.heap.size+4≤w1.heap.size∧w1.heap.size≤w2.heap.size∧w1.heap.size≤gb1 from⟨hg1,hm1,SZ1.out,b2.size,hP1.ge⟩);have KR2:=yB KR1 b2;have KC2:=yB KC1 b2;have B2:=yT B1 b2;have L2:=yH hL1;have P2:=yH hP1;clear hL1 hP1 hg1 hm1 b2 h0 h1 CC KH1 L1 P1 KR1 KC1 B1 SZ1
 go_upto_region 6 with(refine aAb rfl 31 (.tmp 4) (.tmp 18) rfl (w.heap.size+2) #[.pointer (some ⟨G1,0,none⟩),.pointer (some ⟨gb1,0,none⟩)] rfl rfl 31 _ KR2.out.out (by kernel_rfl) rfl (by simp[Value.oneCell']) ?_)
 have kA:=aAf (w:=w2) (w.heap.size+2) #[.pointer (some ⟨G1,0,none⟩),.pointer (some ⟨gb1,0,none⟩)];have KR3:=yH (show Blk (w2.setRow (w.heap.size+2) #[.pointer (some ⟨G1,0,none⟩),.pointer (some ⟨gb1,0,none⟩)]) (w.heap.size+2) #[.pointer (some ⟨G1,0,none⟩),.pointer (some ⟨gb1,0,none⟩)] 31 from setRow_heap _ (w.heap.size+2) _ _ _ (0,0) KR2.out.out);have KC3:=yH (KC2.out.keep kA (by omega));have L3:=yH (L2.out.keep kA (by have:=GE.out;omega) (by have:=GE.out;omega));have P3:=yH (P2.out.keep kA (by have:=GE.out;omega) (fun b hb e=>by have h1:=(P2.out.lt (.inr hb)).1;have:=GE.out;omega));have B3:=yH (below_setRow B2.out (by omega:w.heap.size≤w.heap.size+2) #[.pointer (some ⟨G1,0,none⟩),.pointer (some ⟨gb1,0,none⟩)]);have HS3:Hid ((w2.setRow (w.heap.size+2) #[.pointer (some ⟨G1,0,none⟩),.pointer (some ⟨gb1,0,none⟩)]).heap.size=w2.heap.size):=yH (by simp[World.setRow]);generalize hW3:w2.setRow (w.heap.size+2) #[.pointer (some ⟨G1,0,none⟩),.pointer (some ⟨gb1,0,none⟩)]=W3 at *;clear hW3 kA KR2 KC2 L2 P2 B2;have r0:=KR3.out.cell 0;have r1:=KR3.out.cell 1;simp at r0 r1;have CF:=yH (cfill_any HMy HD (base:=w1.heap.size) (ch:=w.heap.size+3) L3.out II.out P3.out JJ.out (by have:=GE.out;omega) (by have:=GE.out;omega) (by have:=GE.out;have:=HS3.out;omega) x HX.out MAY.out.2.2.2.2.2 MAY.out.2.2.2.2.1 KC3.out (by have:=GE.out;omega));go_wp2_with fail;refine CF.out.mono ?_;rintro e wf hpf;clear r0 r1 CF;rcases hpf with⟨her,rfl,kf⟩|⟨vb3,a,c,σ,heq,rfl,hC,hL,hP,hR,kf⟩
 ·have NO:Hid ((aB0 ps ls l N x.ow x.sl x.bu x.lf x.nu x.de).1=13):=yH (by rw[EQ.out];unfold aDb;rw[if_pos (by rw[her];decide)];exact her);have KRf:=yH (KR3.out.keep kf (by have:=GE.out;omega));have Bf:=yH (B3.out.trans (kf.below B3.out.size (fun k hk h=>by have:=GE.out;omega)));clear her kf KR3 KC3 L3 P3 B3;have r0:=KRf.out.cell 0;have r1:=KRf.out.cell 1;simp at r0 r1;go_wp2_with (refine aAb rfl 31 (.tmp 4) (.tmp 26) rfl (w.heap.size+2) #[.pointer none,.pointer none] rfl rfl 31 _ KRf.out.out (by kernel_rfl) rfl (by simp[Value.oneCell']) ?_);refine bodyPost_ret (v:=.tuple #[.agg #[.pointer none,.pointer none],.slice none 0 0,.int .u64 0,.int .i64 13]) (aAv rfl _ _ (w.heap.size+2) 31 #[.pointer none,.pointer none] _ _ _ _ rfl (setRow_heap _ (w.heap.size+2) _ _ _ (0,0) KRf.out.out) Tryz.underlying31 rfl (by kernel_rfl) rfl rfl rfl) rfl ?_;exact .inl ⟨13,by decide,NO.out,rfl,below_setRow Bf.out (by omega) _⟩
 have KRf:=yH (KR3.out.keep kf (by have:=GE.out;omega));have Bf:=yH (B3.out.trans (kf.below B3.out.size (fun k hk h=>by have:=GE.out;omega)));have KCf:=yH hC;have Lf:=yH hL;have Pf:=yH hP;have Rf:=yH hR;have HQ:=yH heq;have SF:=yH (show w1.heap.size≤W3.heap.size by have:=GE.out;have:=HS3.out;omega);have hinv:=aE6.ends (ow:=x.ow) (sl:=x.sl) (bu:=x.bu) (nu:=x.nu) (de:=x.de) 64 (aE6.start II.out JJ.out (ow:=x.ow) (sl:=x.sl) (bu:=x.bu) (nu:=x.nu) (de:=x.de) (n0:=x.lf) (by have:=MAY.out.2.2.2.2.1;omega));rw[heq]at hinv;dsimp only at hinv;have IV:=yH hinv;have hnn:=hinv.nn;have hsum:=hinv.sum;have hgi:=hinv.gi_nn;have hbd:=MAY.out.2.2.2.2.1;have SN:=yH (show 0≤σ.n∧σ.n≤1099511627776 by omega);clear hC hL hP hR heq kf KR3 KC3 L3 P3 B3 hinv hnn hsum hgi hbd;obtain⟨sn,hsn⟩:∃sn,σ.n=sn:=⟨_,rfl⟩;have HSN:=yH hsn;rw[hsn]at KCf SN;clear hsn;have c0:=KCf.out.cell 0;have c1:=KCf.out.cell 1;have c2:=KCf.out.cell 2;have c3:=KCf.out.cell 3;have c4:=KCf.out.cell 4;have c5:=KCf.out.cell 5;have c6:=KCf.out.cell 6;have r0:=KRf.out.cell 0;have r1:=KRf.out.cell 1;simp at c0 c1 c2 c3 c4 c5 c6 r0 r1
 by_cases hn1:sn<1
 ·have CN:=yH (crest_none ⟨x.se,x.ow,x.sl,x.bu,sn,x.nu,x.de⟩ hn1 (some ⟨gb1,0,none⟩) wf);dsimp only at CN;have YES:Hid (aB0 ps ls l N x.ow x.sl x.bu x.lf x.nu x.de=(0,σ,N,0)):=yH (by rw[EQ.out,HQ.out];unfold aDb;rw[if_neg (by simp),if_pos (by show σ.n≤0;rw[HSN.out];omega)]);clear hn1;go_wp2_with fail;refine CN.out.mono ?_;rintro e WE ⟨rfl,be⟩;have KRe:=yB KRf be;have Be:=yT Bf be;have Le:=yH (Lf.out.below be);have Pe:=yH (Pf.out.below be);have Re:=yH (Rf.out.below be);clear be c0 c1 c2 c3 c4 c5 c6 r0 r1 CN KRf KCf Bf Lf Pf Rf;have sf:=SF.out;have r0:=KRe.out.cell 0;have r1:=KRe.out.cell 1;simp at r0 r1;go_wp2_with (refine aAb rfl 31 (.tmp 4) (.tmp 39) rfl (w.heap.size+2) #[.pointer (some ⟨G1,0,none⟩),.pointer (some ⟨gb1,0,none⟩)] rfl rfl 31 _ KRe.out.out (by kernel_rfl) rfl (by simp[Value.oneCell']) ?_);refine bodyPost_ret (v:=.tuple #[.agg #[.pointer (some ⟨G1,0,none⟩),.pointer (some ⟨gb1,0,none⟩)],_,.int .u64 0,.int .i64 0]) (aAv rfl _ _ (w.heap.size+2) 31 #[.pointer (some ⟨G1,0,none⟩),.pointer (some ⟨gb1,0,none⟩)] _ _ _ _ rfl (setRow_heap _ (w.heap.size+2) _ _ _ (0,0) KRe.out.out) Tryz.underlying31 rfl (by kernel_rfl) rfl rfl rfl) rfl ?_;have kk:=aAf (w:=WE) (w.heap.size+2) #[.pointer (some ⟨G1,0,none⟩),.pointer (some ⟨gb1,0,none⟩)];have ge:=GE.out;refine .inr ⟨G1,M1,gb1,_,a,c,_,N,_,YES.out,rfl,Le.out.keep kk (by omega) (by omega),PB.down12 (Pe.out.keep kk (by have:=Pe.out.ge;omega) (fun b hb e=>by have h1:=(Pe.out.lt (.inr hb)).1;omega)) (by omega),aCl.base (Re.out.keep kk (fun b hb e=>by have h1:=(Re.out.type hb).1;omega)) (by omega),by omega,by omega,below_setRow Be.out (by omega) _⟩
 have CR:=yH (crest_any Pf.out IV.out.binv ⟨x.se,x.ow,x.sl,x.bu,sn,x.nu,x.de⟩ ⟨HX.out.se,HX.out.ow,HX.out.sl,HX.out.bu,⟨by have:=SN.out;show _≤sn;omega,by have:=SN.out;show sn≤_;omega⟩,HX.out.nu,HX.out.de⟩ hn1);dsimp only at CR;obtain⟨pe,hpe⟩:∃pe,aBw σ.l ⟨N,x.ow,x.sl,x.bu,sn,x.nu,x.de⟩=pe:=⟨_,rfl⟩;obtain⟨pn,hpn⟩:∃pn,aCo σ.l ⟨N,x.ow,x.sl,x.bu,sn,x.nu,x.de⟩=pn:=⟨_,rfl⟩
 have END:Hid (aB0 ps ls l N x.ow x.sl x.bu x.lf x.nu x.de=(pe,⟨σ.ls,aB8 σ.l ⟨N,x.ow,x.sl,x.bu,sn,x.nu,x.de⟩,σ.fs,sn⟩,aBo σ.l ⟨N,x.ow,x.sl,x.bu,sn,x.nu,x.de⟩,pn)):=yH (by
  rw[EQ.out,HQ.out];unfold aDb;rw[if_neg (by simp),if_neg (by show ¬σ.n≤0;rw[HSN.out];omega)];simp only[HSN.out,hpe,hpn])
 rw[hpe,hpn]at CR;clear hpe hpn hn1;go_wp2_with fail;refine CR.out.mono ?_;rintro e WE ⟨rfl,vl',hP',ke,_⟩;have KRe:=yH (KRf.out.keep ke (fun h=>by have h1:=(Pf.out.lt h).1;have:=GE.out;omega));have Be:=yH (Bf.out.trans (ke.below Bf.out.size (fun k hk h=>by have h1:=(Pf.out.lt h).1;have:=GE.out;omega)));have AP:=(Pf.out.ne_map Lf.out).2;have Le:=yH (Lf.out.keep ke AP.1 AP.2);have Pe:=yH hP'
 have Re:=yH (Rf.out.keep ke (fun b hb h=>by
  obtain⟨_,_,cu,hcu⟩:=Rf.out.type hb;rcases h with h|h
  ·subst h;exact absurd (Pf.out.blk.out.symm.trans hcu) (by simp)
  obtain⟨_,_,c2,k2⟩:=aAe Pf.out.row h;exact absurd (k2.symm.trans hcu) (by simp)))
 clear hP' ke AP c0 c1 c2 c3 c4 c5 c6 r0 r1 CR KRf KCf Bf Lf Pf Rf
 by_cases hz:pe=0
 rotate_left
 ·have q2:(pe != 0)=true:=by simpa using hz
  have HZ:=yH hz;clear hz;have r0:=KRe.out.cell 0;have r1:=KRe.out.cell 1;simp at r0 r1;go_wp2_with (refine aAb rfl 31 (.tmp 4) (.tmp 37) rfl (w.heap.size+2) #[.pointer none,.pointer none] rfl rfl 31 _ KRe.out.out (by kernel_rfl) rfl (by simp[Value.oneCell']) ?_);refine bodyPost_ret (v:=.tuple #[.agg #[.pointer none,.pointer none],.slice none 0 0,.int .u64 0,.int .i64 pe]) (aAv rfl _ _ (w.heap.size+2) 31 #[.pointer none,.pointer none] _ _ _ _ rfl (setRow_heap _ (w.heap.size+2) _ _ _ (0,0) KRe.out.out) Tryz.underlying31 rfl (by kernel_rfl) rfl rfl rfl) rfl ?_;exact .inl ⟨pe,HZ.out,by rw[END.out],rfl,below_setRow Be.out (by omega) _⟩
 subst hz;have sf:=SF.out;have r0:=KRe.out.cell 0;have r1:=KRe.out.cell 1;simp at r0 r1;go_wp2_with (refine aAb rfl 31 (.tmp 4) (.tmp 39) rfl (w.heap.size+2) #[.pointer (some ⟨G1,0,none⟩),.pointer (some ⟨gb1,0,none⟩)] rfl rfl 31 _ KRe.out.out (by kernel_rfl) rfl (by simp[Value.oneCell']) ?_);refine bodyPost_ret (v:=.tuple #[.agg #[.pointer (some ⟨G1,0,none⟩),.pointer (some ⟨gb1,0,none⟩)],_,.int .u64 pn,.int .i64 0]) (aAv rfl _ _ (w.heap.size+2) 31 #[.pointer (some ⟨G1,0,none⟩),.pointer (some ⟨gb1,0,none⟩)] _ _ _ _ rfl (setRow_heap _ (w.heap.size+2) _ _ _ (0,0) KRe.out.out) Tryz.underlying31 rfl (by kernel_rfl) rfl rfl rfl) rfl ?_;have kk:=aAf (w:=WE) (w.heap.size+2) #[.pointer (some ⟨G1,0,none⟩),.pointer (some ⟨gb1,0,none⟩)];have ge:=GE.out;refine .inr ⟨G1,M1,gb1,_,a,c,_,_,_,END.out,rfl,Le.out.keep kk (by omega) (by omega),PB.down12 (Pe.out.keep kk (by have:=Pe.out.ge;omega) (fun b hb e=>by have h1:=(Pe.out.lt (.inr hb)).1;omega)) (by omega),aCl.base (Re.out.keep kk (fun b hb e=>by have h1:=(Re.out.type hb).1;omega)) (by omega),by omega,by omega,below_setRow Be.out (by omega) _⟩
def SfAt(W:World)(n:Nat)(i:Value)(wr:World):Prop:=∃k:Nat,k≤n∧i=.int .i64 k∧Below W.heap.size W wr
theorem aIr{w:World}{ao bo:Option Addr}{c1 c2:Nat}{tk pt:Int}{fs:List Fl}(h1:aSy w ao tk pt fs)(h2:aSy w bo tk pt fs)(hlen:fs.length≤1000):
  Calls Tryz.prog 13 #[.slice ao fs.length c1,.slice bo fs.length c2] w (yR w (.bool true)):=by
 have H1:=yH h1;have H2:=yH h2;clear h1 h2;go_enter Tryz.func13,Tryz.ntmps13;go_wp2_with fail
 go_loopw [5] (fun i wr=>SfAt w fs.length i wr) (fun i _=>fs.length - (intOf i).toNat)
 case atStart=>exact⟨0,by omega,rfl,yZ⟩
 obtain⟨k,hk,rfl,hb⟩:=hrel
 by_cases hkl:k<fs.length
 ·have hki:(k:Int)<(fs.length:Int):=by omega
  have hk0:(0:Int)≤(k:Int):=by omega
  obtain⟨b,hbb,hc⟩:=H1.out k hkl;obtain⟨d,hdd,hd⟩:=H2.out k hkl;subst hbb hdd;obtain⟨hbl,hcj⟩:=hc wr hb;obtain⟨hdl,hdj⟩:=hd wr hb;have p0:=hcj 0 (by omega);have p1:=hcj 1 (by omega);have p2:=hcj 2 (by omega);have p3:=hcj 3 (by omega);have p4:=hcj 4 (by omega);have r0:=hdj 0 (by omega);have r1:=hdj 1 (by omega);have r2:=hdj 2 (by omega);have r3:=hdj 3 (by omega);have r4:=hdj 4 (by omega);generalize fs[k]=f at *;obtain⟨se,got,x⟩:=f;simp only[Fl.vals,List.getElem?_cons_zero,List.getElem?_cons_succ]at p0 p1 p2 p3 p4 r0 r1 r2 r3 r4;rw[Nat.add_zero]at p0 r0;have BB:=yH hb;have HK:=yH hkl;clear hb hc hcj hd hdj hkl;go_wp2_with fail
  go_quiet (fail)
  go_wp2_with fail;exact⟨⟨k+1,by have:=HK.out;omega,by go_num,⟨BB.out.os,BB.out.tape,BB.out.output,BB.out.size,BB.out.block⟩⟩,by simp[intOf];have:=HK.out;omega⟩
 have hkn:k=fs.length:=by omega
 subst hkn;have BB:=yH hb;clear hb;go_wp2_with fail;go_ret;exact⟨rfl,BB.out⟩
def aF5(s t:Int)(σ:RS):Nat→RS
 | 0=>σ
 | k+1=>wayR s t (aF5 s t σ k)
theorem aNc{f0:Int→Int→Int}{B s t want:Int}(h:GInv f0 B):∀k,(∀j,j<k→¬aDv s t (aF5 s t ⟨f0,want,[]⟩ j))→RInv f0 B s t want k (aF5 s t ⟨f0,want,[]⟩ k)
 | 0,_=>RInv.start h s t want
 | k+1,hj=>(aNc h k (fun j hk=>hj j (by omega))).step (hj k (by omega))
theorem aNd{f0:Int→Int→Int}{B s t want:Int}(h:GInv f0 B)(k:Nat)(hj:∀j,j<k→¬aDv s t (aF5 s t ⟨f0,want,[]⟩ j))(hd:aDv s t (aF5 s t ⟨f0,want,[]⟩ k)):aAk f0 B s t want (aF5 s t ⟨f0,want,[]⟩ k):=
 ⟨k,aNc h k hj,hd⟩
def p10:List Int:=[1,2,3]
def o10:List Of:=[⟨1,2,1,2,5,3,2⟩]
theorem aKk{ps:List Int}{ls:List Ln}(h:LInv ps ls){c a b v:Int}(k:Nat)(hc:(∀j,j<k→¬aDv a b (aF5 a b ⟨aB1 ps ls c,aBs,[]⟩ j))∧aDv a b (aF5 a b ⟨aB1 ps ls c,aBs,[]⟩ k)∧aBs - (aF5 a b ⟨aB1 ps ls c,aBs,[]⟩ k).left=v):aEy ps ls c a b=v:=by
 unfold aEy;rw[(aC7 (aAx h c) a b aBs).eq (aNd (aAx h c) k hc.1 hc.2.1)];exact hc.2.2
theorem aKl{ps:List Int}{ls ls':List Ln}(h:LInv ps ls){c a b n:Int}(k:Nat)(hc:(∀j,j<k→¬aDv a b (aF5 a b ⟨aB1 ps ls c,n,[]⟩ j))∧aDv a b (aF5 a b ⟨aB1 ps ls c,n,[]⟩ k)∧payL ps ls a b c n (aF5 a b ⟨aB1 ps ls c,n,[]⟩ k)=ls'):aJd ps ls a b c n=ls':=by
 unfold aJd;rw[(aC7 (aAx h c) a b n).eq (aNd (aAx h c) k hc.1 hc.2.1)];exact hc.2.2
def ov0:List Of:=[⟨1,2,1,2,5,3,2⟩,⟨2,2,1,2,5,1,1⟩]
def ov1:List Of:=[⟨1,2,1,2,5,3,2⟩]
def ov2:List Of:=[⟨1,2,1,2,4,3,2⟩]
def fv1:Fl:=⟨2,5,5⟩
def fv2:Fl:=⟨1,1,2⟩
def l12:List Ln:=[⟨1,2,1,9,0⟩,⟨3,2,1,9,0⟩,⟨2,1,2,7,0⟩]
def lpA:List Ln:=[⟨1,2,1,9,5⟩,⟨3,2,1,9,0⟩,⟨2,1,2,7,0⟩]
def lp1:List Ln:=[⟨1,2,1,9,5⟩,⟨3,2,1,9,0⟩,⟨2,1,2,7,5⟩]
def lpB:List Ln:=[⟨1,2,1,9,6⟩,⟨3,2,1,9,0⟩,⟨2,1,2,7,5⟩]
def lp2:List Ln:=[⟨1,2,1,9,6⟩,⟨3,2,1,9,0⟩,⟨2,1,2,7,7⟩]
def ov3:List Of:=[⟨1,2,1,2,5,3,2⟩,⟨3,1,2,1,2,1,1⟩]
theorem lp_s0(h:LInv p10 l12):aEy p10 l12 1 2 1=9∧aEy p10 l12 2 1 2=7:=⟨aKk h 1 (by unfold aDv;decide +kernel),aKk h 1 (by unfold aDv;decide +kernel)⟩
theorem lp_p0(h:LInv p10 l12):aJd p10 l12 2 1 1 5=lpA:=aKl h 1 (by unfold aDv;decide +kernel)
theorem lp_pA(h:LInv p10 lpA):aJd p10 lpA 1 2 2 5=lp1:=aKl h 1 (by unfold aDv;decide +kernel)
theorem lp_s1(h:LInv p10 lp1):aEy p10 lp1 1 2 1=4∧aEy p10 lp1 2 1 2=2:=⟨aKk h 1 (by unfold aDv;decide +kernel),aKk h 1 (by unfold aDv;decide +kernel)⟩
theorem lp_p1(h:LInv p10 lp1):aJd p10 lp1 2 1 1 1=lpB:=aKl h 1 (by unfold aDv;decide +kernel)
theorem lp_pB(h:LInv p10 lpB):aJd p10 lpB 1 2 2 2=lp2:=aKl h 1 (by unfold aDv;decide +kernel)
theorem lp_f0(h:LInv p10 l12):aCy p10 l12 ⟨2,2,1,2,5,1,1⟩ 1 1 5 5=lp1∧LInv p10 lp1:=by
 have e0:=lp_p0 h;have hA:LInv p10 lpA:=by rw[←e0];exact aGs h _ _ _ _
 have e1:=lp_pA hA;refine⟨?_,by rw[←e1];exact aGs hA _ _ _ _⟩;unfold aCy;rw[if_neg (by decide)];show aJd p10 (aJd p10 l12 2 1 1 5) 1 2 2 5=lp1;rw[e0,e1]
theorem lp_f1(h:LInv p10 lp1):aCy p10 lp1 ⟨1,2,1,2,5,3,2⟩ 1 1 1 2=lp2∧LInv p10 lp2:=by
 have e0:=lp_p1 h;have hB:LInv p10 lpB:=by rw[←e0];exact aGs h _ _ _ _
 have e1:=lp_pB hB;refine⟨?_,by rw[←e1];exact aGs hB _ _ _ _⟩;unfold aCy;rw[if_neg (by decide)];show aJd p10 (aJd p10 lp1 2 1 1 1) 1 2 2 2=lp2;rw[e0,e1]
theorem lp_step0(h:LInv p10 l12){nu de:Int}(hr:(nu=1∧de=1)∨(nu=2∧de=3)):aBl p10 1 2 1 nu de 64 ⟨l12,ov0,[],7⟩=aBl p10 1 2 1 nu de 63 ⟨lp1,ov1,[fv1],2⟩:=by
 have hm:mayS p10 l12 ov0 1 1 1099511627776 7 2=5:=by
  show mayO ⟨2,2,1,2,5,1,1⟩ p10 1 1 1099511627776 7 (aEy p10 l12 1 2 1) (aEy p10 l12 2 1 2)=5;rw[(lp_s0 h).1,(lp_s0 h).2];decide +kernel
 have hf:aBc p10 l12 ov0 1 1 1099511627776 7 (agO ov0 2 1 nu de)=some (2,5):=by
  rcases hr with⟨rfl,rfl⟩|⟨rfl,rfl⟩
  ·rw[show agO ov0 2 1 1 1=[⟨2,2,1,2,5,1,1⟩] by decide +kernel];unfold aBc;rw[hm];rfl
  rw[show agO ov0 2 1 2 3=[⟨2,2,1,2,5,1,1⟩,⟨1,2,1,2,5,3,2⟩] by decide +kernel];unfold aBc;rw[hm];rfl
 rw[aD0 (s:=2) (k:=5) (by decide) hf (by simp)]
 have e:aJ4 p10 1 ⟨l12,ov0,[],7⟩ 2 5=⟨lp1,ov1,[fv1],2⟩:=by
  unfold aJ4;rw[show aBg ov0 2=some ⟨2,2,1,2,5,1,1⟩ by decide +kernel];simp only[];rw[show upN (5*1) 1=5 by decide +kernel,(lp_f0 h).1,show aCh ov0 2 5=ov1 by decide +kernel];rfl
 rw[e]
theorem lp_none:aBl p10 1 2 1 1 1 63 ⟨lp1,ov1,[fv1],2⟩=(0,⟨lp1,ov1,[fv1],2⟩):=by
 refine aEv (by decide) ?_;show aBc p10 lp1 ov1 1 1 1099511627776 2 (agO ov1 2 1 1 1)=none;rw[show agO ov1 2 1 1 1=[] by decide +kernel];rfl
theorem lp_step1(h:LInv p10 lp1):aBl p10 1 2 1 2 3 63 ⟨lp1,ov1,[fv1],2⟩=(0,⟨lp2,ov2,[fv1,fv2],0⟩):=by
 have hm:mayS p10 lp1 ov1 1 1 1099511627776 2 1=1:=by
  show mayO ⟨1,2,1,2,5,3,2⟩ p10 1 1 1099511627776 2 (aEy p10 lp1 1 2 1) (aEy p10 lp1 2 1 2)=1;rw[(lp_s1 h).1,(lp_s1 h).2];decide +kernel
 have hf:aBc p10 lp1 ov1 1 1 1099511627776 2 (agO ov1 2 1 2 3)=some (1,1):=by
  rw[show agO ov1 2 1 2 3=[⟨1,2,1,2,5,3,2⟩] by decide +kernel];unfold aBc;rw[hm];rfl
 rw[aD0 (s:=1) (k:=1) (by decide) hf (by simp)]
 have e:aJ4 p10 1 ⟨lp1,ov1,[fv1],2⟩ 1 1=⟨lp2,ov2,[fv1,fv2],0⟩:=by
  unfold aJ4;rw[show aBg ov1 1=some ⟨1,2,1,2,5,3,2⟩ by decide +kernel];simp only[];rw[show upN (1*3) 2=2 by decide +kernel,(lp_f1 h).1,show aCh ov1 1 1=ov2 by decide +kernel];rfl
 rw[e,aEu (by decide)]
theorem lp_pl1(h:LInv p10 l12):aB0 p10 l12 ov0 3 1 2 1 7 1 1=(0,⟨lp1,ov3,[fv1],2⟩,4,3):=by
 unfold aB0;rw[if_neg (fun q=>q (by decide +kernel)),if_neg (by decide),lp_step0 h (.inl ⟨rfl,rfl⟩),lp_none];unfold aDb;rw[if_neg (by simp),if_neg (by decide)];dsimp only;rw[show aBw ov1 ⟨3,1,2,1,2,1,1⟩=0 by decide +kernel,show aB8 ov1 ⟨3,1,2,1,2,1,1⟩=ov3 by decide +kernel,show aBo ov1 ⟨3,1,2,1,2,1,1⟩=4 by decide +kernel,show aCo ov1 ⟨3,1,2,1,2,1,1⟩=3 by decide +kernel]
theorem lp_pl2(h:LInv p10 l12):aB0 p10 l12 ov0 3 1 2 1 7 2 3=(0,⟨lp2,ov2,[fv1,fv2],0⟩,3,0):=by
 unfold aB0;rw[if_neg (fun q=>q (by decide +kernel)),if_neg (by decide),lp_step0 h (.inr ⟨rfl,rfl⟩),lp_step1 (lp_f0 h).2];unfold aDb;rw[if_neg (by simp),if_pos (by decide)]
end Go.Proofs.YtaeocliklpcgmaaGreat
