/- Pieces of one proof. -/
import Derived.Test.YtngnfdnfpiiclaaGreatT13
set_option linter.all false
set_option maxHeartbeats 64000000
set_option maxRecDepth 100000
namespace Go.Proofs.YtngnfdnfpiiclaaGreat
open Go.RowKit
theorem info_flp12:(Tryz.prog.info? 241).map (fun i=>(i.zero,i.size,i.bytes))=some (some (.agg #[.int .u64 0,.int .u8 0,.int .u8 0,.int .i64 0,.int .i64 0]),5,32):=zW
def slN:Value→Nat
 | .slice _ n _=>n
 | _=>0
def CfAt(W:World)(ch base s1 G M gb:Nat)(ps:List Int)(ls0:List Ln)(l0:List Of)(N:Int)(x:Of)(av:Value)(wr:World):Prop:=
 ∃(σ:SwS) (vb:Value),Blk wr ch #[.int .u64 x.se,.int .u8 x.ow,.int .u8 x.sl,.int .u8 x.bu,.int .i64 σ.n,.int .i64 x.nu,.int .i64 x.de] 294∧LedM wr G M ps σ.ls∧PB wr base gb σ.l N vb∧(∀b,vb.ownBlock=some b→b<s1∨W.heap.size≤b)∧wr.ownsRow W.heap.size 241 5 av σ.fs.length (aCh x.ow x.ow σ.fs)∧aF9 ps ls0 l0 N x.ow x.sl x.bu x.nu x.de x.lf σ∧
  Keep (fun k=>k=ch∨(base≤k∧k<s1)) W wr∧Hid (aB2 ps x.ow x.sl x.bu x.nu x.de 64 ⟨ls0,l0,[],x.lf⟩=aB2 ps x.ow x.sl x.bu x.nu x.de (64 - σ.fs.length) σ)
def PCf(w:World)(ch base G M gb:Nat)(ps:List Int)(ls:List Ln)(l:List Of)(N:Int)(x:Of)(e:Ending)(w':World):Prop:=
 ((aB2 ps x.ow x.sl x.bu x.nu x.de 64 ⟨ls,l,[],x.lf⟩).1=13∧e=.returned (.tuple #[.slice none 0 0,.int .i64 13])∧Keep (fun k=>k=ch∨base≤k) w w')∨
 (∃(vb:Value) (a:Option Addr) (c:Nat) (σ:SwS),aB2 ps x.ow x.sl x.bu x.nu x.de 64 ⟨ls,l,[],x.lf⟩=(0,σ)∧e=.returned (.tuple #[.slice a σ.fs.length c,.int .i64 0])∧Blk w' ch #[.int .u64 x.se,.int .u8 x.ow,.int .u8 x.sl,.int .u8 x.bu,.int .i64 σ.n,.int .i64 x.nu,.int .i64 x.de] 294∧LedM w' G M ps σ.ls∧PB w' base gb σ.l N vb∧
  aBk w' w.heap.size 241 5 (.slice a σ.fs.length c) σ.fs.length (aCh x.ow x.ow σ.fs)∧Keep (fun k=>k=ch∨base≤k) w w')
theorem aPz{ps:List Int}{ls0:List Ln}{l0:List Of}{N ow sl bu nu de n0:Int}{σ:SwS}(h:aF9 ps ls0 l0 N ow sl bu nu de n0 σ)(fuel:Nat)(hf:aAy ps σ.ls σ.l ow ow 1099511627776 σ.n (agO σ.l sl bu nu de)=none):aB2 ps ow sl bu nu de fuel σ=(0,σ):=by
 by_cases hn:σ.n≤0
 ·exact aIq hn
 exact aIr hn hf
def DoT(w1:World)(base G M gb:Nat)(ps:List Int)(ls:List Ln)(l:List Of)(N:Int)(vb:Value)(w':World):Prop:=∃vb',LedM w' G M ps ls∧PB w' base gb l N vb'∧aEj w1 vb vb'
def DoI(w1:World)(base G M gb:Nat)(ps:List Int)(ls:List Ln)(l:List Of)(N:Int)(vb:Value)(xc:Array Value)(g:Nat)(D:Nat→Bool)(w':World):Prop:=
 (D 11=false→Below w1.heap.size w1 w')∧(D 11=true→DoT w1 base G M gb ps ls l N vb w'∧Keep (fun k=>k=G∨k=M∨Foot gb vb k) w1 w')∧w1.heap.size≤w'.heap.size∧
  (D 15=true→w1.heap.size≤g∧(D 16=false→Blk w' g #[.int .u64 0,.int .u8 0,.int .u8 0,.int .i64 0,.int .i64 0] 241)∧(D 16=true→Blk w' g xc 241))
section
variable{w1 w' w'':World}{base G M gb g:Nat}{ps:List Int}{ls:List Ln}{l:List Of}{N:Int}{vb:Value}{xc:Array Value}{D:Nat→Bool}
theorem DoI.start:DoI w1 base G M gb ps ls l N vb xc 0 (fun _=>false) w1.drew:=⟨fun _=>yZ.drew,fun h=>(Bool.false_ne_true h).elim,Nat.le_refl _,fun h=>(Bool.false_ne_true h).elim⟩
theorem DoI.keep(k:Nat)(h:DoI w1 base G M gb ps ls l N vb xc g D w')(hk:(k==11 || k==15 || k==16)=false):DoI w1 base G M gb ps ls l N vb xc g (ins k D) w':=by
 simp only[Bool.or_eq_false_iff,beq_eq_false_iff_ne]at hk;unfold DoI at h ⊢;rw[show ins k D 11=D 11 by simp[ins];omega,show ins k D 15=D 15 by simp[ins];omega,show ins k D 16=D 16 by simp[ins];omega];exact h
theorem DoI.lay(h:DoI w1 base G M gb ps ls l N vb xc g D w')(h16:D 16=false):DoI w1 base G M gb ps ls l N vb xc w'.heap.size (ins 15 D) (w'.alloc (.cells #[.int .u64 0,.int .u8 0,.int .u8 0,.int .i64 0,.int .i64 0] 241)):=by
 have b:=(Below.refl w'.heap.size w').alloc yL (.cells #[.int .u64 0,.int .u8 0,.int .u8 0,.int .i64 0,.int .i64 0] 241);obtain⟨a1,a2,a3,_⟩:=h;refine⟨fun q=>?_,fun q=>?_,Nat.le_trans a3 b.size,fun _=>⟨a3,fun _=>Blk.new _ _ _,fun q=>?_⟩⟩
 ·exact(a1 (by simpa [ins]using q)).trans (b.mono a3)
 ·obtain⟨⟨vb',c1,c2,c3⟩,c4⟩:=a2 (by simpa [ins]using q);exact⟨⟨vb',c1.below b,c2.below b,c3⟩,c4.trans (pAD b)⟩
 rw[show ins 15 D 16=D 16 by simp[ins],h16]at q
 cases q
theorem DoI.call(h:DoI w1 base G M gb ps ls l N vb xc g D w')(h11:D 11=false)(h16:D 16=false)(hlt:∀k,(k=G∨k=M∨Foot gb vb k)→k<w1.heap.size)(hT:DoT w1 base G M gb ps ls l N vb w'')(hk:Keep (fun k=>k=G∨k=M∨Foot gb vb k) w' w''):
  DoI w1 base G M gb ps ls l N vb xc g (ins 11 D) w'':=by
 obtain⟨a1,_,a3,a4⟩:=h;refine⟨fun q=>?_,fun _=>⟨hT,(pAD (a1 h11)).trans hk⟩,Nat.le_trans a3 hk.size,fun q=>?_⟩
 ·simp[ins]at q
 obtain⟨c1,c2,_⟩:=a4 (by simpa [ins]using q);refine⟨c1,fun _=>(c2 h16).keep hk (fun e=>uF (hlt _ e)),fun q2=>?_⟩;rw[show ins 11 D 16=D 16 by simp[ins],h16]at q2
 cases q2
theorem DoI.fill(h:DoI w1 base G M gb ps ls l N vb xc g D w')(h11:D 11=true)(h15:D 15=true)(h16:D 16=false)(hlt:∀k,(k=G∨k=M∨Foot gb vb k)→k<w1.heap.size):DoI w1 base G M gb ps ls l N vb xc g (ins 16 D) (w'.setRow g xc):=by
 obtain⟨_,a2,a3,a4⟩:=h;obtain⟨⟨vb',c1,c2,c3⟩,c4⟩:=a2 h11;obtain⟨d1,d2,_⟩:=a4 h15;have hb:=d2 h16;have kk:=aAc (w:=w') g xc;refine⟨fun q=>?_,fun _=>⟨⟨vb',c1.keep kk (fun e=>by have:=hlt G (.inl rfl);omega) (fun e=>by have:=hlt M (.inr (.inl rfl));omega),c2.keep kk (fun e=>by have:=hlt gb (.inr (.inr (.inl rfl)));omega) (fun b hb'=>aB1 c2.row hb zX b hb'),c3⟩,c4.trans_new kk (fun j hj e=>zQ)⟩,Nat.le_trans a3 kk.size,fun _=>⟨d1,fun q=>?_,fun _=>setRow_heap _ g _ _ _ (0,0) hb⟩⟩
 ·rw[show ins 16 D 11=D 11 by simp[ins],h11]at q
  cases q
 simp[ins]at q
end
theorem cfill_any(HMy:aCj)(HD:aD3){w:World}{ch base G M gb:Nat}{ps:List Int}{ls:List Ln}{l:List Of}{N:Int}{vb:Value}(hL:LedM w G M ps ls)(hI:LInv ps ls)(hP:PB w base gb l N vb)(hJ:BInv l N)(hG:base≤G)(hM:base≤M)(hb:base≤w.heap.size)
  (x:Of)(hx:x.Fits)(hm:mayB x.nu x.de=true)(hn:1≤x.lf∧x.lf≤1099511627776)(hc:Blk w ch #[.int .u64 x.se,.int .u8 x.ow,.int .u8 x.sl,.int .u8 x.bu,.int .i64 x.lf,.int .i64 x.nu,.int .i64 x.de] 294)(hcb:ch<base):
  Calls Tryz.prog 201 #[(.pointer (some ⟨ch,0,none⟩)),.agg #[.pointer (some ⟨G,0,none⟩),.pointer (some ⟨gb,0,none⟩)],.int .i64 64] w (PCf w ch base G M gb ps ls l N x):=by
 have b1:=(Below.refl w.heap.size w).alloc yL (.cells #[.pointer (some ⟨G,0,none⟩),.pointer (some ⟨gb,0,none⟩)] 80);have KH:=yH (Blk.new w #[.pointer (some ⟨G,0,none⟩),.pointer (some ⟨gb,0,none⟩)] 80);have HL:=yH (hL.below b1);have HP:=yH (hP.below b1);have HCh:=yH (hc.below b1 hc.lt);have BW:=yH b1;have GE:=yH (show base≤G∧base≤M∧base≤w.heap.size∧G<w.heap.size∧M<w.heap.size∧gb<w.heap.size∧base≤gb∧(∀b,vb.ownBlock=some b→b<w.heap.size)∧ch<base from⟨hG,hM,hb,hL.blk.lt,hL.map.lt,hP.blk.lt,hP.ge,fun b hb=>(hP.lt (.inr hb)).2,hcb⟩);have II:=yH hI;have JJ:=yH hJ;have HX:=yH hx;have HN:=yH hn;have HMB:=yH hm;have HWS:Hid ((w.alloc (.cells #[.pointer (some ⟨G,0,none⟩),.pointer (some ⟨gb,0,none⟩)] 80)).heap.size=w.heap.size+1):=yH zV;clear b1 hL hI hP hJ hG hM hb hx hm hn hc hcb;generalize hW:w.alloc (.cells #[.pointer (some ⟨G,0,none⟩),.pointer (some ⟨gb,0,none⟩)] 80)=W at *;have HW:=yH hW;clear hW;go_enter Tryz.func201,Tryz.ntmps201
 go_upto_region 1 with fail
 rw[HW.o]
 go_loopw [6,8,9,10,11] (fun av _ _ _ _ wr=>CfAt W ch base w.heap.size G M gb ps ls l N x av wr) (fun av _ _ _ _ _=>64 - slN av)
 case atStart=>exact⟨⟨ls,l,[],x.lf⟩,vb,HCh.o,HL.o,HP.o,fun b hb=>.inl (GE.o.2.2.2.2.2.2.2.1 b hb),World.ownsRow_nil _ _ _ _,aF9.start II.o JJ.o (uF HN.o),Keep.refl _ _,yH rfl⟩
 obtain⟨σ,vb,hRC,hRL,hRB,hVB,hO,hS,hK,HE⟩:=hrel;have RC:=yH hRC;have RL:=yH hRL;have RB:=yH hRB;have VB:=yH hVB;have OO:=yH hO;have SI:=yH hS;have KK:=yH hK;have KHr:=yH (KH.o.keep hK zG);obtain⟨sn,hsn⟩:∃sn,σ.n=sn:=⟨_,rfl⟩;have HSN:=yH hsn
 have hsle:0≤sn∧sn≤1099511627776:=by
  have h1:=hS.sum;have h2:=hS.nn;have h3:0≤(σ.fs.map Fl.gi).sum:=hS.gi_nn;have:=HN.o;omega
 rw[hsn]at RC;obtain⟨ao,cap,hav,hc1,hc2,_,_⟩:=aAg hO;subst hav;unfold maxLen at hc2;clear hRC hRL hRB hO hS hK hVB hsn KH HL HP HCh;obtain⟨rs,rk,hr⟩:∃rs rk,(aAy ps σ.ls σ.l x.ow x.ow 1099511627776 sn (agO σ.l x.sl x.bu x.nu x.de)).getD (0,0)=(rs,rk):=⟨_,_,rfl⟩;have HRr:=yH hr
 have CF:=yH (fun w' (h:Below wr.heap.size wr w')=>(show Calls Tryz.prog 242 #[.agg #[.int .u64 x.se,.int .u8 x.ow,.int .u8 x.sl,.int .u8 x.bu,.int .i64 sn,.int .i64 x.nu,.int .i64 x.de],.agg #[.pointer (some ⟨G,0,none⟩),.pointer (some ⟨gb,0,none⟩)]] w' fun e w''=>e=.returned (.tuple #[.int .u64 rs,.int .i64 rk])∧Below w'.heap.size w' w'' from by
  have q:=cfirst_any (x:=⟨x.se,x.ow,x.sl,x.bu,sn,x.nu,x.de⟩) HMy (RL.o.below h) SI.o.linv (RB.o.below h) SI.o.binv ⟨HX.o.se,HX.o.ow,HX.o.sl,HX.o.bu,⟨by show _≤sn;omega,by show sn≤_;omega⟩,HX.o.nu,HX.o.de⟩ HMB.o;dsimp only at q;rw[HRr.o]at q;exact q))
 clear hr;go_wp2_with fail
 refine aAl zW [(.pointer (some ⟨ch,0,none⟩)),(.pointer (some ⟨ch,0,none⟩)),(.agg #[.int .u64 x.se,.int .u8 x.ow,.int .u8 x.sl,.int .u8 x.bu,.int .i64 sn,.int .i64 x.nu,.int .i64 x.de]),(.agg #[.pointer (some ⟨G,0,none⟩),.pointer (some ⟨gb,0,none⟩)]),(.tuple #[.int .u64 rs,.int .i64 rk]),(.tuple #[.int .u64 rs,.int .i64 rk]),(.int .u64 rs),(.int .i64 rk),(.int .u64 rs),(.int .i64 rk)]
  (fun w'=>Below wr.heap.size wr w') zW yZ.drew ?_
 intro af haf;simp only[yG,List.append_eq,List.cons_append,List.nil_append,puts,Act.put,yA,yC,yF,yD,yE]at haf;subst haf;refine⟨?_,?_⟩
 ·simp only[yG,List.append_eq,List.cons_append,List.nil_append,aA6];refine⟨?z1,?z2,?_,?_,?_,?z3,?z4,?z5,?z6,?z7,trivial⟩
  case z1|z2|z3|z4|z5|z6|z7=>
   intro w' hS;refine yO rfl ?_;have HS:=yH hS;clear hS;go_wp2_with fail;all_goals first|exact HS|exact⟨rfl,HS⟩|rfl|exact⟨zQ,HS.o⟩
  ·intro w' hS;refine yO rfl ?_;have d0_0:=(RC.o.below hS RC.o.lt).cell 0;have d0_1:=(RC.o.below hS RC.o.lt).cell 1;have d0_2:=(RC.o.below hS RC.o.lt).cell 2;have d0_3:=(RC.o.below hS RC.o.lt).cell 3;have d0_4:=(RC.o.below hS RC.o.lt).cell 4;have d0_5:=(RC.o.below hS RC.o.lt).cell 5;have d0_6:=(RC.o.below hS RC.o.lt).cell 6;simp at d0_0 d0_1 d0_2 d0_3 d0_4 d0_5 d0_6;have HS:=yH hS;clear hS;go_wp2_with fail;all_goals first|exact HS|exact⟨rfl,HS⟩|rfl|exact⟨zQ,HS.o⟩
  ·intro w' hS;refine yO rfl ?_;have d0_0:=(KHr.o.below hS KHr.o.lt).cell 0;have d0_1:=(KHr.o.below hS KHr.o.lt).cell 1;simp at d0_0 d0_1;have HS:=yH hS;clear hS;go_wp2_with fail;all_goals first|exact HS|exact⟨rfl,HS⟩|rfl|exact⟨zQ,HS.o⟩
  intro w' hS;refine yO rfl ?_;have HS:=yH hS;clear hS;go_wp2_with fail;refine(CF.o _ HS.o).mono ?_;rintro e w'' ⟨rfl,hb2⟩;exact⟨rfl,andB HS.o hb2⟩
 intro w1 hS1;have b1:=hS1;have KH1:=yB KHr b1;have RC1:=yB RC b1;have RL1:=yH (RL.o.below b1);have RB1:=yH (RB.o.below b1);have OO1:=yH (aAf OO.o b1);have KK1:=yH (KK.o.trans (pAD b1));have KW:=yH ((pAD (S:=fun k=>k=ch∨base≤k) BW.o).trans (KK1.o.mono (fun k _ h=>h.imp id (fun q=>q.1))));clear b1 hS1 CF KHr RC RL RB OO KK;have HR0:=HRr.o
 cases hfs:aAy ps σ.ls σ.l x.ow x.ow 1099511627776 sn (agO σ.l x.sl x.bu x.nu x.de)with
 | none=>
  rw[hfs]at HR0;simp only[Option.getD_none,Prod.mk.injEq]at HR0;obtain⟨h1,h2⟩:=HR0;subst h1 h2;have YES:Hid (aB2 ps x.ow x.sl x.bu x.nu x.de 64 ⟨ls,l,[],x.lf⟩=(0,σ)):=yH (by rw[HE.o];exact aPz SI.o _ vN);clear hfs;have CL:=yH (aOq OO1.o);have HLE:=yH (show w.heap.size≤W.heap.size by have:=HWS.o;omega);go_wp2_with fail;refine CL.o.mono ?_;rintro e w2 ⟨v,rfl,hv,_,rfl⟩;obtain⟨a,c,rfl,_,_,_,_⟩:=hv.look;have HV:=yH (hv.base HLE.o);clear hv CL;go_wp2_with fail;go_ret2;exact .inr ⟨_,a,c,σ,YES.o,rfl,by rw[HSN.o];exact RC1.o,RL1.o,RB1.o,HV.o,KW.o⟩
 | some sk=>
  obtain⟨s0,k0⟩:=sk;rw[hfs]at HR0;simp only[Option.getD_some,Prod.mk.injEq]at HR0;obtain⟨h1,h2⟩:=HR0;subst h1 h2;obtain⟨k1,k2,ok,o,ho,_,_,u1,u2,hnx,hnext⟩:=SI.o.step (s:=s0) (k:=k0) vN;rw[HSN.o]at u2 hnx;have HFS:=yH hfs;have HOK:=yH ok;have HO:=yH ho;have HNX:=yH hnext;have HSQ:=yH (show 0≤o.se∧o.se≤18446744073709551615 from by have h1:=SI.o.binv.bd o (aCd ho).1;have h2:=SI.o.binv.n2;omega);rw[(aCd ho).2]at HSQ;have z5:decide (k0<1)=false:=zU
  have HPOS:=yH (show ¬sn≤0 by omega);clear hfs ok ho hnext
  by_cases hfull:σ.fs.length=64
  ·have z6:((σ.fs.length:Int)==64)=true:=zU
   have NO:Hid ((aB2 ps x.ow x.sl x.bu x.nu x.de 64 ⟨ls,l,[],x.lf⟩).1=13):=yH (by
    rw[HE.o,aF8 (by rw[HSN.o];exact HPOS.o) wI hfull])
   clear hfull;go_wp2_with fail;go_ret2;exact .inl ⟨NO.o,rfl,KW.o⟩
  have z6:((σ.fs.length:Int)==64)=false:=zU
  have hl64:σ.fs.length+1≤64:=uF SI.o.len
  have HL64:=yH hl64;have NX2:=yH (HNX.o hfull);have CDo:=yH (aJt HD RL1.o SI.o.linv RB1.o SI.o.binv s0 x.ow x.ow k0 HSQ.o HX.o.ow HX.o.ow ⟨zQ,zQ⟩);clear hfull hl64
  have LTS:=yH (show ∀k,(k=G∨k=M∨Foot gb vb k)→k<w1.heap.size from fun k h=>by
   rcases h with rfl|rfl|h
   ·exact RL1.o.blk.lt
   ·exact RL1.o.map.lt
   exact(RB1.o.lt h).2)
  have CDo:=yH (fun w' (h:Below w1.heap.size w1 w')=>(show Calls Tryz.prog 235 #[.agg #[.pointer (some ⟨G,0,none⟩),.pointer (some ⟨gb,0,none⟩)],.int .u64 s0,.int .u8 x.ow,.int .u8 x.ow,.int .i64 k0] w' fun e w''=>e=.returned (.tuple #[.agg #[.int .u64 s0,.int .u8 x.ow,.int .u8 x.ow,.int .i64 k0,.int .i64 (upN (k0*o.nu) o.de)],.int .i64 0])∧
    DoT w1 base G M gb ps (aC2 ps σ.ls o x.ow x.ow k0 (upN (k0*o.nu) o.de)) (aDv σ.l s0 k0) N vb w''∧Keep (fun k=>k=G∨k=M∨Foot gb vb k) w' w'' from by
   refine(aJt HD (RL1.o.below h) SI.o.linv (RB1.o.below h) SI.o.binv s0 x.ow x.ow k0 HSQ.o HX.o.ow HX.o.ow ⟨zQ,zQ⟩).mono ?_;rintro e w'' (⟨hno,_⟩|⟨_,o',y',vb',ho',hy',rfl,hRL',hRB',kk,hmv⟩)
   ·exact absurd HOK.o hno
   rw[HO.o]at ho'
   cases ho'
   subst hy';exact⟨rfl,⟨vb',hRL',hRB',fun b hb=>(hmv b hb).imp id (fun q=>Nat.le_trans h.size q)⟩,kk⟩))
  obtain⟨y,hy⟩:∃y,upN (k0*o.nu) o.de=y:=⟨_,rfl⟩;rw[hy]at CDo u1 u2 hnx;rw[hnx]at NX2
  have HE2:Hid (aB2 ps x.ow x.sl x.bu x.nu x.de 64 ⟨ls,l,[],x.lf⟩=aB2 ps x.ow x.sl x.bu x.nu x.de (64 - (σ.fs.length+1)) ⟨aC2 ps σ.ls o x.ow x.ow k0 y,aDv σ.l s0 k0,σ.fs++[⟨s0,k0,y⟩],sn - y⟩):=yH (by
   rw[HE.o,←hnx,←aIs (by rw[HSN.o];exact HPOS.o) wI vJ];congr 1;have:=HL64.o;omega)
  obtain⟨LS,hLS⟩:∃LS,aC2 ps σ.ls o x.ow x.ow k0 y=LS:=⟨_,rfl⟩;obtain⟨TL,hTL⟩:∃TL,aDv σ.l s0 k0=TL:=⟨_,rfl⟩;rw[hLS,hTL]at CDo HE2 NX2;clear hnx hy hLS hTL HNX HE HFS HOK HO
  go_upto_region 6 with fail
  refine aA7 zW (fun g:Nat=>[(.agg #[.pointer (some ⟨G,0,none⟩),.pointer (some ⟨gb,0,none⟩)]),(.int .u64 s0),(.pointer (some ⟨ch,0,none⟩)),(.pointer (some ⟨ch,0,none⟩)),(.pointer (some ⟨ch,1,none⟩)),(.int .u8 x.ow),(.pointer (some ⟨ch,0,none⟩)),(.pointer (some ⟨ch,0,none⟩)),(.pointer (some ⟨ch,1,none⟩)),(.int .u8 x.ow),(.int .i64 k0),(.tuple #[.agg #[.int .u64 s0,.int .u8 x.ow,.int .u8 x.ow,.int .i64 k0,.int .i64 y],.int .i64 0]),(.tuple #[.agg #[.int .u64 s0,.int .u8 x.ow,.int .u8 x.ow,.int .i64 k0,.int .i64 y],.int .i64 0]),(.agg #[.int .u64 s0,.int .u8 x.ow,.int .u8 x.ow,.int .i64 k0,.int .i64 y]),(.int .i64 0),(.pointer (some ⟨g,0,none⟩)),undef,(.int .i64 0)])
   (DoI w1 base G M gb ps LS TL N vb #[.int .u64 s0,.int .u8 x.ow,.int .u8 x.ow,.int .i64 k0,.int .i64 y]) zW 0 DoI.start ?_
  intro AF hAF;simp only[yG,List.append_eq,List.cons_append,List.nil_append,puts,Act.put,yA,yC,yF,yD,yE]at hAF;have hAF2:_=AF:=funext hAF;subst hAF2;clear hAF;refine⟨?_,?_⟩
  ·simp only[yG,List.append_eq,List.cons_append,List.nil_append,aFo];refine⟨?_,?_,?_,?_,?_,?_,?_,?_,?_,?_,?_,?_,?_,?_,?_,?_,?_,?_,trivial⟩
   ·intro g D w' hD hW hC hI;refine⟨g,fun _ _ _=>rfl,?_⟩;with_reducible refine yO rfl ?_
    have hS:=hI.1 (aAd hC hD 11 zW);have hk:=KH1.o.below hS KH1.o.lt;have e0:=hk.cell 0;have e1:=hk.cell 1;simp at e0 e1;clear hk;have HS:=yH (hI.keep 0 rfl);clear hI hC hW hD hS;go_wp2_with fail;all_goals first|exact HS|exact⟨rfl,HS⟩|rfl
   ·intro g D w' hD hW hC hI;refine⟨g,fun _ _ _=>rfl,?_⟩;with_reducible refine yO rfl ?_
    have HS:=yH (hI.keep 1 rfl);clear hI hC hW hD;go_wp2_with fail;all_goals first|exact HS|exact⟨rfl,HS⟩|rfl
   ·intro g D w' hD hW hC hI;refine⟨g,fun _ _ _=>rfl,?_⟩;with_reducible refine yO rfl ?_
    have HS:=yH (hI.keep 2 rfl);clear hI hC hW hD;go_wp2_with fail;all_goals first|exact HS|exact⟨rfl,HS⟩|rfl
   ·intro g D w' hD hW hC hI;refine⟨g,fun _ _ _=>rfl,?_⟩;with_reducible refine yO rfl ?_
    have hS:=hI.1 (aAd hC hD 11 zW);have hk:=RC1.o.below hS RC1.o.lt;have e1:=hk.cell 1;simp at e1;clear hk;have HS:=yH (hI.keep 3 rfl);clear hI hC hW hD hS;go_wp2_with fail;all_goals first|exact HS|exact⟨rfl,HS⟩|rfl
   ·intro g D w' hD hW hC hI;refine⟨g,fun _ _ _=>rfl,?_⟩;with_reducible refine yO rfl ?_
    have hS:=hI.1 (aAd hC hD 11 zW);have hk:=RC1.o.below hS RC1.o.lt;have e1:=hk.cell 1;simp at e1;clear hk;have HS:=yH (hI.keep 4 rfl);clear hI hC hW hD hS;go_wp2_with fail;all_goals first|exact HS|exact⟨rfl,HS⟩|rfl
   ·intro g D w' hD hW hC hI;refine⟨g,fun _ _ _=>rfl,?_⟩;with_reducible refine yO rfl ?_
    have hS:=hI.1 (aAd hC hD 11 zW);have hk:=RC1.o.below hS RC1.o.lt;have e1:=hk.cell 1;simp at e1;clear hk;have HS:=yH (hI.keep 5 rfl);clear hI hC hW hD hS;go_wp2_with fail;all_goals first|exact HS|exact⟨rfl,HS⟩|rfl
   ·intro g D w' hD hW hC hI;refine⟨g,fun _ _ _=>rfl,?_⟩;with_reducible refine yO rfl ?_
    have HS:=yH (hI.keep 6 rfl);clear hI hC hW hD;go_wp2_with fail;all_goals first|exact HS|exact⟨rfl,HS⟩|rfl
   ·intro g D w' hD hW hC hI;refine⟨g,fun _ _ _=>rfl,?_⟩;with_reducible refine yO rfl ?_
    have hS:=hI.1 (aAd hC hD 11 zW);have hk:=RC1.o.below hS RC1.o.lt;have e1:=hk.cell 1;simp at e1;clear hk;have HS:=yH (hI.keep 7 rfl);clear hI hC hW hD hS;go_wp2_with fail;all_goals first|exact HS|exact⟨rfl,HS⟩|rfl
   ·intro g D w' hD hW hC hI;refine⟨g,fun _ _ _=>rfl,?_⟩;with_reducible refine yO rfl ?_
    have hS:=hI.1 (aAd hC hD 11 zW);have hk:=RC1.o.below hS RC1.o.lt;have e1:=hk.cell 1;simp at e1;clear hk;have HS:=yH (hI.keep 8 rfl);clear hI hC hW hD hS;go_wp2_with fail;all_goals first|exact HS|exact⟨rfl,HS⟩|rfl
   ·intro g D w' hD hW hC hI;refine⟨g,fun _ _ _=>rfl,?_⟩;with_reducible refine yO rfl ?_
    have hS:=hI.1 (aAd hC hD 11 zW);have hk:=RC1.o.below hS RC1.o.lt;have e1:=hk.cell 1;simp at e1;clear hk;have HS:=yH (hI.keep 9 rfl);clear hI hC hW hD hS;go_wp2_with fail;all_goals first|exact HS|exact⟨rfl,HS⟩|rfl
   ·intro g D w' hD hW hC hI;refine⟨g,fun _ _ _=>rfl,?_⟩;with_reducible refine yO rfl ?_
    have HS:=yH (hI.keep 10 rfl);clear hI hC hW hD;go_wp2_with fail;all_goals first|exact HS|exact⟨rfl,HS⟩|rfl
   ·intro g D w' hD hW hC hI;refine⟨g,fun _ _ _=>rfl,?_⟩;with_reducible refine yO rfl ?_
    have h16:=aAd hC hD 16 zW;have HI:=yH hI;have HC:=yH (CDo.o w' (hI.1 hD));have HB:=yH (And.intro hD h16);clear hI hC hW hD h16;go_wp2_with fail;refine HC.o.mono ?_;rintro e w'' ⟨rfl,ht,hk⟩;exact⟨rfl,HI.o.call HB.o.1 HB.o.2 LTS.o ht hk⟩
   ·intro g D w' hD hW hC hI;refine⟨g,fun _ _ _=>rfl,?_⟩;with_reducible refine yO rfl ?_
    have HS:=yH (hI.keep 12 rfl);clear hI hC hW hD;go_wp2_with fail;all_goals first|exact HS|exact⟨rfl,HS⟩|rfl
   ·intro g D w' hD hW hC hI;refine⟨g,fun _ _ _=>rfl,?_⟩;with_reducible refine yO rfl ?_
    have HS:=yH (hI.keep 13 rfl);clear hI hC hW hD;go_wp2_with fail;all_goals first|exact HS|exact⟨rfl,HS⟩|rfl
   ·intro g D w' hD hW hC hI;refine⟨g,fun _ _ _=>rfl,?_⟩;with_reducible refine yO rfl ?_
    have HS:=yH (hI.keep 14 rfl);clear hI hC hW hD;go_wp2_with fail;all_goals first|exact HS|exact⟨rfl,HS⟩|rfl
   ·intro g D w' hD hW hC hI;have h16:=aAd hC hD 16 zW;refine⟨w'.heap.size,fun j hj hjD=>?_,?_⟩
    ·rcases(by have:j<18:=hj;omega:j=0∨j=1∨j=2∨j=3∨j=4∨j=5∨j=6∨j=7∨j=8∨j=9∨j=10∨j=11∨j=12∨j=13∨j=14∨j=15∨j=16∨j=17)with rfl|rfl|rfl|rfl|rfl|rfl|rfl|rfl|rfl|rfl|rfl|rfl|rfl|rfl|rfl|rfl|rfl|rfl
     all_goals first|rfl|exact absurd (hD.symm.trans hjD) zX
    with_reducible refine yO rfl ?_
    have HS:=yH (hI.lay h16);clear hI hC hW hD h16;go_wp2_with fail;all_goals first|exact HS|exact⟨rfl,HS⟩|rfl
   ·intro g D w' hD hW hC hI;refine⟨g,fun _ _ _=>rfl,?_⟩;with_reducible refine yO rfl ?_
    have h11:D 11=true:=aAs hC hW zW;have h15:D 15=true:=aAs hC hW zW;have HS:=yH (hI.fill h11 h15 hD LTS.o);have hk:=(hI.2.2.2 h15).2.1 hD;refine wp_store_row 241 (.tmp 10) (.tmp 43) rfl g #[.int .u64 s0,.int .u8 x.ow,.int .u8 x.ow,.int .i64 k0,.int .i64 y] rfl rfl 241 _ hk zW rfl zK ⟨rfl,?_⟩;exact HS.o
   intro g D w' hD hW hC hI;refine⟨g,fun _ _ _=>rfl,?_⟩;with_reducible refine yO rfl ?_
   have HS:=yH (hI.keep 17 rfl);clear hI hC hW hD;go_wp2_with fail;all_goals first|exact HS|exact⟨rfl,HS⟩|rfl
  intro g D w3 hall hI;obtain⟨_,a2,a3,a4⟩:=hI;obtain⟨⟨vb2,t1,t2,t3⟩,kk⟩:=a2 (hall 11 zX);obtain⟨g1,_,g2⟩:=a4 (hall 15 zX);have KF:=yH (g2 (hall 16 zX));have hWS:=HWS.o;have hge:=GE.o;have hsz:=KK1.o.size
  have hvb:∀j,j<W.heap.size→(j=G∨j=M∨Foot gb vb j)→base≤j∧j<w.heap.size:=by
   intro j hj h;rcases h with h|h|h|h
   ·omega
   ·omega
   ·omega
   have h1:=VB.o j h;have h2:=(RB1.o.lt (b:=j) (.inr h)).1;omega
  have RC3:=yH (RC1.o.keep kk (fun h=>by have:=hvb _ zQ h;omega))
  have OO3:=yH (aBr OO1.o kk (fun b hb h=>by
   have h1:=(aAe OO1.o hb).1;rcases h with h|h|h|h
   ·omega
   ·omega
   ·omega
   exact aHy OO1.o RB1.o.row zX b hb h))
  have KK3:=yH (KK1.o.trans_new kk (fun j hj h=>.inr (hvb j hj h)))
  have VB3:=yH (show ∀b,vb2.ownBlock=some b→b<w.heap.size∨W.heap.size≤b from fun j hj=>by
   rcases t3 j hj with h|h
   ·exact VB.o j h
   exact .inr zQ)
  have RL3:=yH t1;have RB3:=yH t2;have GO:=yH (show ∀b,(Value.slice ao σ.fs.length cap).ownBlock=some b→b<g∧W.heap.size≤b from fun b hb=>uF (aAe OO1.o hb));clear hWS hge hsz hvb t1 t2 t3 a2 a3 a4 kk g1 g2 hall RL1 RB1 OO1 KK1 RC1 KH1 VB CDo LTS;have f0:=KF.o.cell 0;have f1:=KF.o.cell 1;have f2:=KF.o.cell 2;have f3:=KF.o.cell 3;have f4:=KF.o.cell 4;simp at f0 f1 f2 f3 f4;have hb5:=KK3.o.size;go_wp2_with (at_builtin;refine aAz _ rfl (.tmp 45) (.tmp 47) 235 241 rfl Tryz.underlying235 info_flp12 rfl zX zX W.heap.size _ σ.fs.length _ rfl (OO3.o.alloc _) w3.heap.size 1 [.int .u64 s0,.int .u8 x.ow,.int .u8 x.ow,.int .i64 k0,.int .i64 y] rfl rfl (Blk.new _ _ _) zK vJ zU ?_);intro v2 w4 ho2 hg2;have KG:Keep (fun k=>(Value.slice ao σ.fs.length cap).ownBlock=some k) w3 w4:=((Keep.refl _ w3).alloc _).grown hg2 (fun k hk=>.inl hk);have RL4:=yH (RL3.o.keep KG (fun h=>yK) (fun h=>yK));have RB4:=yH (RB3.o.keep KG (fun h=>yK) (fun b hb h=>aHy OO3.o RB3.o.row zX b h hb));have KK4:=yH (KK3.o.trans_new KG (fun j hj h=>by have:=(aAe OO3.o h).1;omega));have RC4:=yH (RC3.o.keep KG (fun h=>yK));have KF4:=yH (KF.o.keep KG (fun h=>uF (GO.o _ h)));have O4:=yH (show w4.ownsRow W.heap.size 241 5 v2 (σ.fs++[(⟨s0,k0,y⟩:Fl)]).length (aCh x.ow x.ow (σ.fs++[(⟨s0,k0,y⟩:Fl)]))from by rw[aK2];simpa [Fl.vals]using ho2);obtain⟨ao2,cap2,hv2,_⟩:=aAg O4.o;subst hv2;clear KG ho2 hg2 f0 f1 f2 f3 f4 hb5 RL3 RB3 OO3 KK3 RC3 KF;have c4:=RC4.o.cell 4;have cf:=RC4.o.frozen 4;have f4:=KF4.o.cell 4;simp at c4 f4;have kk:Keep (fun k=>k=ch) w4 (w4.setCell ⟨ch,4,none⟩ (.int .i64 (sn - y))).drew:=(Keep.setCell (S:=fun k=>k=ch) (Keep.refl _ _) (p:=⟨ch,4,none⟩) (.inl rfl) _).drew;have RC5:Hid (Blk (w4.setCell ⟨ch,4,none⟩ (.int .i64 (sn - y))).drew ch #[.int .u64 x.se,.int .u8 x.ow,.int .u8 x.sl,.int .u8 x.bu,.int .i64 (sn - y),.int .i64 x.nu,.int .i64 x.de] 294):=yH (RC4.o.set 4 _);have RL5:=yH (RL4.o.keep kk zG zG);have RB5:=yH (RB4.o.keep kk zG (fun b hb e=>by have h1:=(RB4.o.lt (.inr hb)).1;have:=GE.o;omega));have KK5:=yH (KK4.o.trans (kk.mono (fun k _ h=>.inl h)));have O5:=yH (aBr O4.o kk (fun b hb e=>by have h1:=(aAe O4.o hb).1;have:=GE.o;have:=HWS.o;omega));clear kk RL4 RB4 KK4 O4;go_wp2_with fail
  go_region
  all_goals
   go_wp2_with fail;exact⟨⟨⟨LS,TL,σ.fs++[⟨s0,k0,y⟩],sn - y⟩,_,RC5.o,RL5.o,RB5.o,VB3.o,O5.o,NX2.o,KK5.o,yH (by rw[HE2.o];simp)⟩,by simp[slN];have:=HL64.o;omega⟩
theorem aBq{P:Program}{fn:Func}{p u x y:Tmp}{ty:TypeId}(h:fn.results=#[.cell p ty,.tmp u,.tmp x,.tmp y])(tmps:Array Value)(w:World)(g:Nat)(t:TypeId)(cs:Array Value)(d:TypeDesc)(v v2 v3:Value)
  (hp:tmps.getD p undef=.pointer (some ⟨g,0,none⟩))(hg:w.heap[g]? = some (.cells cs t (0,0)))
  (hu:P.underlying ty=some d)(hd:(match d with | .struct _ | .array _ _=>true|_=>false)=true)(hi:(P.info? ty).map (·.size)=some cs.size)(hv:tmps.getD u undef=v)(hv2:tmps.getD x undef=v2)(hv3:tmps.getD y undef=v3):
  (results fn tmps).run P w=.ok (.tuple #[.agg cs,v,v2,v3]) w:=by
 have h1:=results_cell_row (P:=P) (fn:={ fn with results:=#[.cell p ty] }) rfl tmps w g t cs (0,0) d hp hg hu hd hi
 have h2:((asAddr (tmps.getD p undef)).run P w).andThen (fun a w₁=>(loadVar ty a).run P w₁)=.ok (.agg cs) w:=by
  simpa [results,Sem.run_bind,Result.andThen]using h1
 have h3:(results fn tmps).run P w=((asAddr (tmps.getD p undef)).run P w).andThen fun a w₁=>((loadVar ty a).run P w₁).andThen fun v w₂=>.ok (.tuple #[v,tmps.getD u undef,tmps.getD x undef,tmps.getD y undef]) w₂:=by
  simp only[results,h];simp[Sem.run_bind,Result.andThen]
 rw[h3];rw[hp]at h2 ⊢;simp only[asAddr,Sem.run_pure,Result.andThen_ok]at h2 ⊢;rw[h2];simp only[Result.andThen_ok,hv,hv2,hv3]
theorem PB.down12{w:World}{base base' g:Nat}{l:List Of}{N:Int}{vl:Value}(h:PB w base g l N vl)(hb:base'≤base):PB w base' g l N vl:=⟨h.blk,Nat.le_trans hb h.ge,aI2 h.row hb⟩
def PlcNo(w:World)(er:Int)(e:Ending)(w':World):Prop:=e=.returned (.tuple #[.agg #[.pointer none,.pointer none],.slice none 0 0,.int .u64 0,.int .i64 er])∧Below w.heap.size w w'
theorem pplc_void{w:World}{a b:Option Addr}(x:Of)(h:∀w',Below w.heap.size w w'→Calls Tryz.prog 240 #[.agg #[.pointer a,.pointer b]] w' fun e w''=>e=.returned (.bool false)∧Below w'.heap.size w' w''):
  Calls Tryz.prog 156 #[.agg #[.pointer a,.pointer b],.agg #[.int .u64 x.se,.int .u8 x.ow,.int .u8 x.sl,.int .u8 x.bu,.int .i64 x.lf,.int .i64 x.nu,.int .i64 x.de]] w (PlcNo w 2):=by
 have b1:=(Below.refl w.heap.size w).alloc yL (.cells #[.pointer a,.pointer b] 80);have b2:=b1.alloc b1.size (.cells #[.int .u64 x.se,.int .u8 x.ow,.int .u8 x.sl,.int .u8 x.bu,.int .i64 x.lf,.int .i64 x.nu,.int .i64 x.de] 75);have b3:=b2.alloc b2.size (.cells #[.pointer none,.pointer none] 80);have b4:=b3.alloc b3.size (.cells #[.int .u64 x.se,.int .u8 x.ow,.int .u8 x.sl,.int .u8 x.bu,.int .i64 x.lf,.int .i64 x.nu,.int .i64 x.de] 294);have KH:=yH ((((Blk.new w #[.pointer a,.pointer b] 80).alloc (.cells #[.int .u64 x.se,.int .u8 x.ow,.int .u8 x.sl,.int .u8 x.bu,.int .i64 x.lf,.int .i64 x.nu,.int .i64 x.de] 75)).alloc (.cells #[.pointer none,.pointer none] 80)).alloc (.cells #[.int .u64 x.se,.int .u8 x.ow,.int .u8 x.sl,.int .u8 x.bu,.int .i64 x.lf,.int .i64 x.nu,.int .i64 x.de] 294));have KR:=yH ((pAB ((w.alloc (.cells #[.pointer a,.pointer b] 80)).alloc (.cells #[.int .u64 x.se,.int .u8 x.ow,.int .u8 x.sl,.int .u8 x.bu,.int .i64 x.lf,.int .i64 x.nu,.int .i64 x.de] 75)) #[.pointer none,.pointer none] 80 (g:=w.heap.size+2) zV).alloc (.cells #[.int .u64 x.se,.int .u8 x.ow,.int .u8 x.sl,.int .u8 x.bu,.int .i64 x.lf,.int .i64 x.nu,.int .i64 x.de] 294));have KC:=yH (pAB (((w.alloc (.cells #[.pointer a,.pointer b] 80)).alloc (.cells #[.int .u64 x.se,.int .u8 x.ow,.int .u8 x.sl,.int .u8 x.bu,.int .i64 x.lf,.int .i64 x.nu,.int .i64 x.de] 75)).alloc (.cells #[.pointer none,.pointer none] 80)) #[.int .u64 x.se,.int .u8 x.ow,.int .u8 x.sl,.int .u8 x.bu,.int .i64 x.lf,.int .i64 x.nu,.int .i64 x.de] 294 (g:=w.heap.size+3) zV);have B:=yH b4;have CW:=yH (aTw x (fun w' k=>h w' (andB b4 k)));clear b1 b2 b3 b4 h;generalize hW:((((w.alloc (.cells #[.pointer a,.pointer b] 80)).alloc (.cells #[.int .u64 x.se,.int .u8 x.ow,.int .u8 x.sl,.int .u8 x.bu,.int .i64 x.lf,.int .i64 x.nu,.int .i64 x.de] 75)).alloc (.cells #[.pointer none,.pointer none] 80)).alloc (.cells #[.int .u64 x.se,.int .u8 x.ow,.int .u8 x.sl,.int .u8 x.bu,.int .i64 x.lf,.int .i64 x.nu,.int .i64 x.de] 294))=W at *;have HW:=yH hW;clear hW;have h0:=KH.o.cell 0;have h1:=KH.o.cell 1;have c0:=KC.o.cell 0;have c1:=KC.o.cell 1;have c2:=KC.o.cell 2;have c3:=KC.o.cell 3;have c4:=KC.o.cell 4;have c5:=KC.o.cell 5;have c6:=KC.o.cell 6;simp at h0 h1 c0 c1 c2 c3 c4 c5 c6;go_enter Tryz.func156,Tryz.ntmps156
 go_upto_region 2 with fail
 rw[HW.o];go_wp2_with fail;refine CW.o.mono ?_;rintro e w1 ⟨rfl,b1⟩;have KR1:=yB KR b1;have B1:=yT B b1;clear b1 h0 h1 c0 c1 c2 c3 c4 c5 c6 KH KR KC B CW;have r0:=KR1.o.cell 0;have r1:=KR1.o.cell 1;simp at r0 r1;go_wp2_with (refine aAa rfl 80 (.tmp 4) (.tmp 15) rfl (w.heap.size+2) #[.pointer none,.pointer none] rfl rfl 80 _ KR1.o.out zW rfl zK ?_);refine bodyPost_ret (v:=.tuple #[.agg #[.pointer none,.pointer none],.slice none 0 0,.int .u64 0,.int .i64 2]) (aBq rfl _ _ (w.heap.size+2) 80 #[.pointer none,.pointer none] _ _ _ _ rfl (setRow_heap _ (w.heap.size+2) _ _ _ (0,0) KR1.o.out) Tryz.underlying80 rfl zW rfl rfl rfl) rfl ?_;exact⟨rfl,below_setRow B1.o zQ _⟩
def PPlc(w:World)(ps:List Int)(ls:List Ln)(l:List Of)(N:Int)(x:Of)(e:Ending)(w':World):Prop:=
 (∃er:Int,er≠0∧(aB0 ps ls l N x.ow x.sl x.bu x.lf x.nu x.de).1=er∧PlcNo w er e w')∨
 (∃(G M gb:Nat) (vb:Value) (a:Option Addr) (c:Nat) (σ:SwS) (N' sq:Int),aB0 ps ls l N x.ow x.sl x.bu x.lf x.nu x.de=(0,σ,N',sq)∧e=.returned (.tuple #[.agg #[.pointer (some ⟨G,0,none⟩),.pointer (some ⟨gb,0,none⟩)],.slice a σ.fs.length c,.int .u64 sq,.int .i64 0])∧LedM w' G M ps σ.ls∧PB w' w.heap.size gb σ.l N' vb∧
  aBk w' w.heap.size 241 5 (.slice a σ.fs.length c) σ.fs.length (aCh x.ow x.ow σ.fs)∧w.heap.size≤G∧w.heap.size≤M∧Below w.heap.size w w')
theorem aRv{ps:List Int}{ls:List Ln}{l:List Of}{N:Int}{x:Of}{er:Int}(h:aH7 ps x=er)(he:er≠0):(aB0 ps ls l N x.ow x.sl x.bu x.lf x.nu x.de).1=er:=by
 unfold aH7 at h;unfold aB0
 by_cases h1:x.may
 ·have h1':(Of.mk 0 x.ow x.sl x.bu x.lf x.nu x.de).may:=h1;rw[if_neg (fun q=>q h1)]at h;rw[if_neg (fun q=>q h1')]
  by_cases h2:x.ow∉ps
  ·rw[if_pos h2]at h ⊢;exact h
  rw[if_neg h2]at h;exact absurd h.symm he
 have h1':¬(Of.mk 0 x.ow x.sl x.bu x.lf x.nu x.de).may:=h1;rw[if_pos h1]at h;rw[if_pos h1'];exact h
theorem aRw{ps:List Int}{ls:List Ln}{l:List Of}{N:Int}{x:Of}(h:aH7 ps x=0):x.may∧aB0 ps ls l N x.ow x.sl x.bu x.lf x.nu x.de=aHt N x.ow x.sl x.bu x.nu x.de (aB2 ps x.ow x.sl x.bu x.nu x.de 64 ⟨ls,l,[],x.lf⟩):=by
 unfold aH7 at h;unfold aB0
 by_cases h1:x.may
 ·have h1':(Of.mk 0 x.ow x.sl x.bu x.lf x.nu x.de).may:=h1;rw[if_neg (fun q=>q h1)]at h;rw[if_neg (fun q=>q h1')]
  by_cases h2:x.ow∉ps
  ·rw[if_pos h2]at h;exact absurd h zX
  rw[if_neg h2];exact⟨h1,rfl⟩
 rw[if_pos h1]at h;exact absurd h zX
theorem pplc_any(HMy:aCj)(HD:aD3)(HCp:aDu){w:World}{base G M gb:Nat}{ps:List Int}{ls:List Ln}{l:List Of}{N:Int}{vb:Value}(hL:LedM w G M ps ls)(hI:LInv ps ls)(hP:PB w base gb l N vb)(hJ:BInv l N)(x:Of)(hx:x.Fits):
  Calls Tryz.prog 156 #[.agg #[.pointer (some ⟨G,0,none⟩),.pointer (some ⟨gb,0,none⟩)],.agg #[.int .u64 x.se,.int .u8 x.ow,.int .u8 x.sl,.int .u8 x.bu,.int .i64 x.lf,.int .i64 x.nu,.int .i64 x.de]] w (PPlc w ps ls l N x):=by
 have b1:=(Below.refl w.heap.size w).alloc yL (.cells #[.pointer (some ⟨G,0,none⟩),.pointer (some ⟨gb,0,none⟩)] 80);have b2:=b1.alloc b1.size (.cells #[.int .u64 x.se,.int .u8 x.ow,.int .u8 x.sl,.int .u8 x.bu,.int .i64 x.lf,.int .i64 x.nu,.int .i64 x.de] 75);have b3:=b2.alloc b2.size (.cells #[.pointer none,.pointer none] 80);have b4:=b3.alloc b3.size (.cells #[.int .u64 x.se,.int .u8 x.ow,.int .u8 x.sl,.int .u8 x.bu,.int .i64 x.lf,.int .i64 x.nu,.int .i64 x.de] 294);have KH:=yH ((((Blk.new w #[.pointer (some ⟨G,0,none⟩),.pointer (some ⟨gb,0,none⟩)] 80).alloc (.cells #[.int .u64 x.se,.int .u8 x.ow,.int .u8 x.sl,.int .u8 x.bu,.int .i64 x.lf,.int .i64 x.nu,.int .i64 x.de] 75)).alloc (.cells #[.pointer none,.pointer none] 80)).alloc (.cells #[.int .u64 x.se,.int .u8 x.ow,.int .u8 x.sl,.int .u8 x.bu,.int .i64 x.lf,.int .i64 x.nu,.int .i64 x.de] 294));have KR:=yH ((pAB ((w.alloc (.cells #[.pointer (some ⟨G,0,none⟩),.pointer (some ⟨gb,0,none⟩)] 80)).alloc (.cells #[.int .u64 x.se,.int .u8 x.ow,.int .u8 x.sl,.int .u8 x.bu,.int .i64 x.lf,.int .i64 x.nu,.int .i64 x.de] 75)) #[.pointer none,.pointer none] 80 (g:=w.heap.size+2) zV).alloc (.cells #[.int .u64 x.se,.int .u8 x.ow,.int .u8 x.sl,.int .u8 x.bu,.int .i64 x.lf,.int .i64 x.nu,.int .i64 x.de] 294));have KC:=yH (pAB (((w.alloc (.cells #[.pointer (some ⟨G,0,none⟩),.pointer (some ⟨gb,0,none⟩)] 80)).alloc (.cells #[.int .u64 x.se,.int .u8 x.ow,.int .u8 x.sl,.int .u8 x.bu,.int .i64 x.lf,.int .i64 x.nu,.int .i64 x.de] 75)).alloc (.cells #[.pointer none,.pointer none] 80)) #[.int .u64 x.se,.int .u8 x.ow,.int .u8 x.sl,.int .u8 x.bu,.int .i64 x.lf,.int .i64 x.nu,.int .i64 x.de] 294 (g:=w.heap.size+3) zV);have B:=yH b4;have CW:=yH (cwrong_any HD (hL.below b4) hI (hP.below b4) hJ x hx);have HL:=yH (hL.below b4);have HP:=yH (hP.below b4);have II:=yH hI;have JJ:=yH hJ;have HX:=yH hx;have HSZ:Hid (((((w.alloc (.cells #[.pointer (some ⟨G,0,none⟩),.pointer (some ⟨gb,0,none⟩)] 80)).alloc (.cells #[.int .u64 x.se,.int .u8 x.ow,.int .u8 x.sl,.int .u8 x.bu,.int .i64 x.lf,.int .i64 x.nu,.int .i64 x.de] 75)).alloc (.cells #[.pointer none,.pointer none] 80)).alloc (.cells #[.int .u64 x.se,.int .u8 x.ow,.int .u8 x.sl,.int .u8 x.bu,.int .i64 x.lf,.int .i64 x.nu,.int .i64 x.de] 294)).heap.size=w.heap.size+4):=yH zV;obtain⟨R,hR⟩:∃R,aH7 ps x=R:=⟨_,rfl⟩;rw[hR]at CW;have HR:=yH hR;clear b1 b2 b3 b4 hL hI hP hJ hx hR;generalize hW:((((w.alloc (.cells #[.pointer (some ⟨G,0,none⟩),.pointer (some ⟨gb,0,none⟩)] 80)).alloc (.cells #[.int .u64 x.se,.int .u8 x.ow,.int .u8 x.sl,.int .u8 x.bu,.int .i64 x.lf,.int .i64 x.nu,.int .i64 x.de] 75)).alloc (.cells #[.pointer none,.pointer none] 80)).alloc (.cells #[.int .u64 x.se,.int .u8 x.ow,.int .u8 x.sl,.int .u8 x.bu,.int .i64 x.lf,.int .i64 x.nu,.int .i64 x.de] 294))=W at *;have HW:=yH hW;clear hW;have h0:=KH.o.cell 0;have h1:=KH.o.cell 1;have c0:=KC.o.cell 0;have c1:=KC.o.cell 1;have c2:=KC.o.cell 2;have c3:=KC.o.cell 3;have c4:=KC.o.cell 4;have c5:=KC.o.cell 5;have c6:=KC.o.cell 6;simp at h0 h1 c0 c1 c2 c3 c4 c5 c6;go_enter Tryz.func156,Tryz.ntmps156
 go_upto_region 2 with fail
 rw[HW.o];go_wp2_with fail;refine CW.o.mono ?_;rintro e w1 ⟨rfl,b1⟩;have KH1:=yB KH b1;have KR1:=yB KR b1;have KC1:=yB KC b1;have L1:=yH (HL.o.below b1);have P1:=yH (HP.o.below b1);have B1:=yT B b1;have SZ1:=yH (show w.heap.size+4≤w1.heap.size by have:=HSZ.o;have:=b1.size;omega);clear b1 h0 h1 c0 c1 c2 c3 c4 c5 c6 KH KR KC B CW HL HP
 by_cases hz:R=0
 rotate_left
 ·have q0:(R != 0)=true:=vI
  have NO:=yH (aRv (ls:=ls) (l:=l) (N:=N) HR.o hz);have HZ:=yH hz;clear hz KH1 KC1 L1 P1;have r0:=KR1.o.cell 0;have r1:=KR1.o.cell 1;simp at r0 r1;go_wp2_with (refine aAa rfl 80 (.tmp 4) (.tmp 15) rfl (w.heap.size+2) #[.pointer none,.pointer none] rfl rfl 80 _ KR1.o.out zW rfl zK ?_);refine bodyPost_ret (v:=.tuple #[.agg #[.pointer none,.pointer none],.slice none 0 0,.int .u64 0,.int .i64 R]) (aBq rfl _ _ (w.heap.size+2) 80 #[.pointer none,.pointer none] _ _ _ _ rfl (setRow_heap _ (w.heap.size+2) _ _ _ (0,0) KR1.o.out) Tryz.underlying80 rfl zW rfl rfl rfl) rfl ?_;exact .inl ⟨R,HZ.o,NO.o,rfl,below_setRow B1.o zQ _⟩
 subst hz;obtain⟨hmay,heq⟩:=aRw (ls:=ls) (l:=l) (N:=N) HR.o;have MAY:=yH hmay;have EQ:=yH heq;clear hmay heq;have CC:=yH (HCp L1.o II.o P1.o JJ.o);have h0:=KH1.o.cell 0;have h1:=KH1.o.cell 1;simp at h0 h1;go_wp2_with fail;refine CC.o.mono ?_;rintro e w2 ⟨G1,M1,gb1,vb1,rfl,hL1,hP1,hg1,hm1,b2⟩;have GE:=yH (show w1.heap.size≤G1∧w1.heap.size≤M1∧w.heap.size+4≤w1.heap.size∧w1.heap.size≤w2.heap.size∧w1.heap.size≤gb1 from⟨hg1,hm1,SZ1.o,b2.size,hP1.ge⟩);have KR2:=yB KR1 b2;have KC2:=yB KC1 b2;have B2:=yT B1 b2;have L2:=yH hL1;have P2:=yH hP1;clear hL1 hP1 hg1 hm1 b2 h0 h1 CC KH1 L1 P1 KR1 KC1 B1 SZ1
 go_upto_region 6 with(refine aAa rfl 80 (.tmp 4) (.tmp 18) rfl (w.heap.size+2) #[.pointer (some ⟨G1,0,none⟩),.pointer (some ⟨gb1,0,none⟩)] rfl rfl 80 _ KR2.o.out zW rfl zK ?_)
 have kA:=aAc (w:=w2) (w.heap.size+2) #[.pointer (some ⟨G1,0,none⟩),.pointer (some ⟨gb1,0,none⟩)];have KR3:=yH (show Blk (w2.setRow (w.heap.size+2) #[.pointer (some ⟨G1,0,none⟩),.pointer (some ⟨gb1,0,none⟩)]) (w.heap.size+2) #[.pointer (some ⟨G1,0,none⟩),.pointer (some ⟨gb1,0,none⟩)] 80 from setRow_heap _ (w.heap.size+2) _ _ _ (0,0) KR2.o.out);have KC3:=yH (KC2.o.keep kA zQ);have L3:=yH (L2.o.keep kA zG zG);have P3:=yH (P2.o.keep kA zG (fun b hb e=>by have h1:=(P2.o.lt (.inr hb)).1;have:=GE.o;omega));have B3:=yH (below_setRow B2.o (by omega:w.heap.size≤w.heap.size+2) #[.pointer (some ⟨G1,0,none⟩),.pointer (some ⟨gb1,0,none⟩)]);have HS3:Hid ((w2.setRow (w.heap.size+2) #[.pointer (some ⟨G1,0,none⟩),.pointer (some ⟨gb1,0,none⟩)]).heap.size=w2.heap.size):=yH (by simp[World.setRow]);generalize hW3:w2.setRow (w.heap.size+2) #[.pointer (some ⟨G1,0,none⟩),.pointer (some ⟨gb1,0,none⟩)]=W3 at *;clear hW3 kA KR2 KC2 L2 P2 B2;have r0:=KR3.o.cell 0;have r1:=KR3.o.cell 1;simp at r0 r1;have CF:=yH (cfill_any HMy HD (base:=w1.heap.size) (ch:=w.heap.size+3) L3.o II.o P3.o JJ.o zG zG (uS GE.o HS3.o) x HX.o MAY.o.2.2.2.2.2 MAY.o.2.2.2.2.1 KC3.o zG);go_wp2_with fail;refine CF.o.mono ?_;rintro e wf hpf;clear r0 r1 CF;rcases hpf with⟨her,rfl,kf⟩|⟨vb3,a,c,σ,heq,rfl,hC,hL,hP,hR,kf⟩
 ·have NO:Hid ((aB0 ps ls l N x.ow x.sl x.bu x.lf x.nu x.de).1=13):=yH (by rw[EQ.o];unfold aHt;rw[if_pos (by rw[her];decide)];exact her);have KRf:=yH (KR3.o.keep kf zG);have Bf:=yH (B3.o.trans (kf.below B3.o.size (fun k hk h=>zG)));clear her kf KR3 KC3 L3 P3 B3;have r0:=KRf.o.cell 0;have r1:=KRf.o.cell 1;simp at r0 r1;go_wp2_with (refine aAa rfl 80 (.tmp 4) (.tmp 26) rfl (w.heap.size+2) #[.pointer none,.pointer none] rfl rfl 80 _ KRf.o.out zW rfl zK ?_);refine bodyPost_ret (v:=.tuple #[.agg #[.pointer none,.pointer none],.slice none 0 0,.int .u64 0,.int .i64 13]) (aBq rfl _ _ (w.heap.size+2) 80 #[.pointer none,.pointer none] _ _ _ _ rfl (setRow_heap _ (w.heap.size+2) _ _ _ (0,0) KRf.o.out) Tryz.underlying80 rfl zW rfl rfl rfl) rfl ?_;exact .inl ⟨13,zX,NO.o,rfl,below_setRow Bf.o zQ _⟩
 have KRf:=yH (KR3.o.keep kf zG);have Bf:=yH (B3.o.trans (kf.below B3.o.size (fun k hk h=>zG)));have KCf:=yH hC;have Lf:=yH hL;have Pf:=yH hP;have Rf:=yH hR;have HQ:=yH heq;have SF:=yH (show w1.heap.size≤W3.heap.size by have:=GE.o;have:=HS3.o;omega);have hinv:=aF9.ends (ow:=x.ow) (sl:=x.sl) (bu:=x.bu) (nu:=x.nu) (de:=x.de) 64 (aF9.start II.o JJ.o (ow:=x.ow) (sl:=x.sl) (bu:=x.bu) (nu:=x.nu) (de:=x.de) (n0:=x.lf) (uF MAY.o.2.2.2.2.1));rw[heq]at hinv;dsimp only at hinv;have IV:=yH hinv;have hnn:=hinv.nn;have hsum:=hinv.sum;have hgi:=hinv.gi_nn;have hbd:=MAY.o.2.2.2.2.1;have SN:=yH (show 0≤σ.n∧σ.n≤1099511627776 by omega);clear hC hL hP hR heq kf KR3 KC3 L3 P3 B3 hinv hnn hsum hgi hbd;obtain⟨sn,hsn⟩:∃sn,σ.n=sn:=⟨_,rfl⟩;have HSN:=yH hsn;rw[hsn]at KCf SN;clear hsn;have c0:=KCf.o.cell 0;have c1:=KCf.o.cell 1;have c2:=KCf.o.cell 2;have c3:=KCf.o.cell 3;have c4:=KCf.o.cell 4;have c5:=KCf.o.cell 5;have c6:=KCf.o.cell 6;have r0:=KRf.o.cell 0;have r1:=KRf.o.cell 1;simp at c0 c1 c2 c3 c4 c5 c6 r0 r1
 by_cases hn1:sn<1
 ·have CN:=yH (crest_none ⟨x.se,x.ow,x.sl,x.bu,sn,x.nu,x.de⟩ hn1 (some ⟨gb1,0,none⟩) wf);dsimp only at CN;have YES:Hid (aB0 ps ls l N x.ow x.sl x.bu x.lf x.nu x.de=(0,σ,N,0)):=yH (by rw[EQ.o,HQ.o];unfold aHt;rw[if_neg zV,if_pos (by show σ.n≤0;rw[HSN.o];omega)]);clear hn1;go_wp2_with fail;refine CN.o.mono ?_;rintro e WE ⟨rfl,be⟩;have KRe:=yB KRf be;have Be:=yT Bf be;have Le:=yH (Lf.o.below be);have Pe:=yH (Pf.o.below be);have Re:=yH (Rf.o.below be);clear be c0 c1 c2 c3 c4 c5 c6 r0 r1 CN KRf KCf Bf Lf Pf Rf;have sf:=SF.o;have r0:=KRe.o.cell 0;have r1:=KRe.o.cell 1;simp at r0 r1;go_wp2_with (refine aAa rfl 80 (.tmp 4) (.tmp 39) rfl (w.heap.size+2) #[.pointer (some ⟨G1,0,none⟩),.pointer (some ⟨gb1,0,none⟩)] rfl rfl 80 _ KRe.o.out zW rfl zK ?_);refine bodyPost_ret (v:=.tuple #[.agg #[.pointer (some ⟨G1,0,none⟩),.pointer (some ⟨gb1,0,none⟩)],_,.int .u64 0,.int .i64 0]) (aBq rfl _ _ (w.heap.size+2) 80 #[.pointer (some ⟨G1,0,none⟩),.pointer (some ⟨gb1,0,none⟩)] _ _ _ _ rfl (setRow_heap _ (w.heap.size+2) _ _ _ (0,0) KRe.o.out) Tryz.underlying80 rfl zW rfl rfl rfl) rfl ?_;have kk:=aAc (w:=WE) (w.heap.size+2) #[.pointer (some ⟨G1,0,none⟩),.pointer (some ⟨gb1,0,none⟩)];have ge:=GE.o;refine .inr ⟨G1,M1,gb1,_,a,c,_,N,_,YES.o,rfl,Le.o.keep kk zQ zQ,PB.down12 (Pe.o.keep kk (uF Pe.o.ge) (fun b hb e=>by have h1:=(Pe.o.lt (.inr hb)).1;omega)) zQ,aBk.base (Re.o.keep kk (fun b hb e=>by have h1:=(Re.o.type hb).1;omega)) zQ,zQ,zQ,below_setRow Be.o zQ _⟩
 have CR:=yH (crest_any Pf.o IV.o.binv ⟨x.se,x.ow,x.sl,x.bu,sn,x.nu,x.de⟩ ⟨HX.o.se,HX.o.ow,HX.o.sl,HX.o.bu,⟨by have:=SN.o;show _≤sn;omega,by have:=SN.o;show sn≤_;omega⟩,HX.o.nu,HX.o.de⟩ hn1);dsimp only at CR;obtain⟨pe,hpe⟩:∃pe,aC6 σ.l ⟨N,x.ow,x.sl,x.bu,sn,x.nu,x.de⟩=pe:=⟨_,rfl⟩;obtain⟨pn,hpn⟩:∃pn,aFt σ.l ⟨N,x.ow,x.sl,x.bu,sn,x.nu,x.de⟩=pn:=⟨_,rfl⟩
 have END:Hid (aB0 ps ls l N x.ow x.sl x.bu x.lf x.nu x.de=(pe,⟨σ.ls,aFf σ.l ⟨N,x.ow,x.sl,x.bu,sn,x.nu,x.de⟩,σ.fs,sn⟩,aE4 σ.l ⟨N,x.ow,x.sl,x.bu,sn,x.nu,x.de⟩,pn)):=yH (by
  rw[EQ.o,HQ.o];unfold aHt;rw[if_neg zV,if_neg (by show ¬σ.n≤0;rw[HSN.o];omega)];simp only[HSN.o,hpe,hpn])
 rw[hpe,hpn]at CR;clear hpe hpn hn1;go_wp2_with fail;refine CR.o.mono ?_;rintro e WE ⟨rfl,vl',hP',ke,_⟩;have KRe:=yH (KRf.o.keep ke (fun h=>by have h1:=(Pf.o.lt h).1;have:=GE.o;omega));have Be:=yH (Bf.o.trans (ke.below Bf.o.size (fun k hk h=>by have h1:=(Pf.o.lt h).1;have:=GE.o;omega)));have AP:=(Pf.o.ne_map Lf.o).2;have Le:=yH (Lf.o.keep ke AP.1 AP.2);have Pe:=yH hP'
 have Re:=yH (Rf.o.keep ke (fun b hb h=>by
  obtain⟨_,_,cu,hcu⟩:=Rf.o.type hb;rcases h with h|h
  ·subst h;exact absurd (Pf.o.blk.out.symm.trans hcu) zV
  obtain⟨_,_,c2,k2⟩:=aAe Pf.o.row h;exact absurd (k2.symm.trans hcu) zV))
 clear hP' ke AP c0 c1 c2 c3 c4 c5 c6 r0 r1 CR KRf KCf Bf Lf Pf Rf
 by_cases hz:pe=0
 rotate_left
 ·have q2:(pe != 0)=true:=vI
  have HZ:=yH hz;clear hz;have r0:=KRe.o.cell 0;have r1:=KRe.o.cell 1;simp at r0 r1;go_wp2_with (refine aAa rfl 80 (.tmp 4) (.tmp 37) rfl (w.heap.size+2) #[.pointer none,.pointer none] rfl rfl 80 _ KRe.o.out zW rfl zK ?_);refine bodyPost_ret (v:=.tuple #[.agg #[.pointer none,.pointer none],.slice none 0 0,.int .u64 0,.int .i64 pe]) (aBq rfl _ _ (w.heap.size+2) 80 #[.pointer none,.pointer none] _ _ _ _ rfl (setRow_heap _ (w.heap.size+2) _ _ _ (0,0) KRe.o.out) Tryz.underlying80 rfl zW rfl rfl rfl) rfl ?_;exact .inl ⟨pe,HZ.o,by rw[END.o],rfl,below_setRow Be.o zQ _⟩
 subst hz;have sf:=SF.o;have r0:=KRe.o.cell 0;have r1:=KRe.o.cell 1;simp at r0 r1;go_wp2_with (refine aAa rfl 80 (.tmp 4) (.tmp 39) rfl (w.heap.size+2) #[.pointer (some ⟨G1,0,none⟩),.pointer (some ⟨gb1,0,none⟩)] rfl rfl 80 _ KRe.o.out zW rfl zK ?_);refine bodyPost_ret (v:=.tuple #[.agg #[.pointer (some ⟨G1,0,none⟩),.pointer (some ⟨gb1,0,none⟩)],_,.int .u64 pn,.int .i64 0]) (aBq rfl _ _ (w.heap.size+2) 80 #[.pointer (some ⟨G1,0,none⟩),.pointer (some ⟨gb1,0,none⟩)] _ _ _ _ rfl (setRow_heap _ (w.heap.size+2) _ _ _ (0,0) KRe.o.out) Tryz.underlying80 rfl zW rfl rfl rfl) rfl ?_;have kk:=aAc (w:=WE) (w.heap.size+2) #[.pointer (some ⟨G1,0,none⟩),.pointer (some ⟨gb1,0,none⟩)];have ge:=GE.o;refine .inr ⟨G1,M1,gb1,_,a,c,_,_,_,END.o,rfl,Le.o.keep kk zQ zQ,PB.down12 (Pe.o.keep kk (uF Pe.o.ge) (fun b hb e=>by have h1:=(Pe.o.lt (.inr hb)).1;omega)) zQ,aBk.base (Re.o.keep kk (fun b hb e=>by have h1:=(Re.o.type hb).1;omega)) zQ,zQ,zQ,below_setRow Be.o zQ _⟩
theorem aGl(x:Int)(w:World):Calls Tryz.prog 267 #[.int .u8 x] w fun e w'=>e=.returned (.bool (decide (1≤x∧x≤16)))∧w=w':=by
 by_cases h1:1≤x
 ·have d1:decide (1≤x)=true:=zN
  by_cases h2:x≤16
  ·have d2:decide (x≤16)=true:=zF
   rw[decide_eq_true (⟨h1,h2⟩:1≤x∧x≤16)];clear h1 h2;go_enter Tryz.func267,Tryz.ntmps267;go_wp2_with fail;go_ret;exact⟨rfl,rfl⟩
  have d2:decide (x≤16)=false:=zF
  rw[decide_eq_false (fun h:1≤x∧x≤16=>h2 h.2)];clear h1 h2;go_enter Tryz.func267,Tryz.ntmps267;go_wp2_with fail;go_ret;exact⟨rfl,rfl⟩
 have d1:decide (1≤x)=false:=zN
 rw[decide_eq_false (fun h:1≤x∧x≤16=>h1 h.1)];clear h1;go_enter Tryz.func267,Tryz.ntmps267;go_wp2_with fail;go_ret;exact⟨rfl,rfl⟩
theorem aD6(x:Int)(w:World):Calls Tryz.prog 268 #[.int .u8 x] w fun e w'=>e=.returned (.bool (decide (1≤x∧x≤8)))∧w=w':=by
 by_cases h1:1≤x
 ·have d1:decide (1≤x)=true:=zN
  by_cases h2:x≤8
  ·have d2:decide (x≤8)=true:=zF
   rw[decide_eq_true (⟨h1,h2⟩:1≤x∧x≤8)];clear h1 h2;go_enter Tryz.func268,Tryz.ntmps268;go_wp2_with fail;go_ret;exact⟨rfl,rfl⟩
  have d2:decide (x≤8)=false:=zF
  rw[decide_eq_false (fun h:1≤x∧x≤8=>h2 h.2)];clear h1 h2;go_enter Tryz.func268,Tryz.ntmps268;go_wp2_with fail;go_ret;exact⟨rfl,rfl⟩
 have d1:decide (1≤x)=false:=zN
 rw[decide_eq_false (fun h:1≤x∧x≤8=>h1 h.1)];clear h1;go_enter Tryz.func268,Tryz.ntmps268;go_wp2_with fail;go_ret;exact⟨rfl,rfl⟩
theorem aFi(x:Int)(w:World):Calls Tryz.prog 269 #[.int .i64 x] w fun e w'=>e=.returned (.bool (decide (1≤x∧x≤1099511627776)))∧w=w':=by
 by_cases h1:1≤x
 ·have d1:decide (1≤x)=true:=zN
  by_cases h2:x≤1099511627776
  ·have d2:decide (x≤1099511627776)=true:=zF
   rw[decide_eq_true (⟨h1,h2⟩:1≤x∧x≤1099511627776)];clear h1 h2;go_enter Tryz.func269,Tryz.ntmps269;go_wp2_with fail;go_ret;exact⟨rfl,rfl⟩
  have d2:decide (x≤1099511627776)=false:=zF
  rw[decide_eq_false (fun h:1≤x∧x≤1099511627776=>h2 h.2)];clear h1 h2;go_enter Tryz.func269,Tryz.ntmps269;go_wp2_with fail;go_ret;exact⟨rfl,rfl⟩
 have d1:decide (1≤x)=false:=zN
 rw[decide_eq_false (fun h:1≤x∧x≤1099511627776=>h1 h.1)];clear h1;go_enter Tryz.func269,Tryz.ntmps269;go_wp2_with fail;go_ret;exact⟨rfl,rfl⟩
theorem smay_any(fr pt get give n most:Int)(w:World):Calls Tryz.prog 233 #[.agg #[.int .u8 fr,.int .u8 pt,.int .u8 get,.int .u8 give,.int .i64 n,.int .i64 most]] w (yR w (.bool (decide (aD1 fr pt get give n most)))):=by
 have B:=yH ((Below.refl w.heap.size w).alloc yL (.cells #[.int .u8 fr,.int .u8 pt,.int .u8 get,.int .u8 give,.int .i64 n,.int .i64 most] 289));have K:=yH (Blk.new w #[.int .u8 fr,.int .u8 pt,.int .u8 get,.int .u8 give,.int .i64 n,.int .i64 most] 289);generalize hW:w.alloc (.cells #[.int .u8 fr,.int .u8 pt,.int .u8 get,.int .u8 give,.int .i64 n,.int .i64 most] 289)=W at *;have HW:=yH hW;clear hW;have c0:=K.o.cell 0;have c1:=K.o.cell 1;have c2:=K.o.cell 2;have c3:=K.o.cell 3;have c4:=K.o.cell 4;have c5:=K.o.cell 5;simp at c0 c1 c2 c3 c4 c5;clear K
 by_cases h0:¬(1≤fr∧fr≤16)
 ·have NO:decide (aD1 fr pt get give n most)=false:=decide_eq_false xA;rw[NO];have C0:=yH (aGl fr W);rw[decide_eq_false h0]at C0;clear NO h0;go_enter Tryz.func233,Tryz.ntmps233
  go_upto_region 1 with fail
  rw[HW.o];go_wp2_with fail;refine C0.o.mono ?_;rintro e w' ⟨rfl,rfl⟩;go_wp2_with fail;go_ret;exact⟨rfl,B.o⟩
 have h0:=Decidable.not_not.1 h0;have C0:=yH (aGl fr W);rw[decide_eq_true h0]at C0
 by_cases h1:¬(1≤pt∧pt≤16)
 ·have NO:decide (aD1 fr pt get give n most)=false:=decide_eq_false xA;rw[NO];have C1:=yH (aGl pt W);rw[decide_eq_false h1]at C1;clear NO h0 h1;go_enter Tryz.func233,Tryz.ntmps233
  go_upto_region 1 with fail
  rw[HW.o];go_wp2_with fail;refine C0.o.mono ?_;rintro e w' ⟨rfl,rfl⟩;go_wp2_with fail;refine C1.o.mono ?_;rintro e w' ⟨rfl,rfl⟩;go_wp2_with fail;go_ret;exact⟨rfl,B.o⟩
 have h1:=Decidable.not_not.1 h1;have C1:=yH (aGl pt W);rw[decide_eq_true h1]at C1
 by_cases h2:¬(1≤get∧get≤8)
 ·have NO:decide (aD1 fr pt get give n most)=false:=decide_eq_false xA;rw[NO];have C2:=yH (aD6 get W);rw[decide_eq_false h2]at C2;clear NO h0 h1 h2;go_enter Tryz.func233,Tryz.ntmps233
  go_upto_region 1 with fail
  rw[HW.o];go_wp2_with fail;refine C0.o.mono ?_;rintro e w' ⟨rfl,rfl⟩;go_wp2_with fail;refine C1.o.mono ?_;rintro e w' ⟨rfl,rfl⟩;go_wp2_with fail;refine C2.o.mono ?_;rintro e w' ⟨rfl,rfl⟩;go_wp2_with fail;go_ret;exact⟨rfl,B.o⟩
 have h2:=Decidable.not_not.1 h2;have C2:=yH (aD6 get W);rw[decide_eq_true h2]at C2
 by_cases h3:¬(1≤give∧give≤8)
 ·have NO:decide (aD1 fr pt get give n most)=false:=decide_eq_false xA;rw[NO];have C3:=yH (aD6 give W);rw[decide_eq_false h3]at C3;clear NO h0 h1 h2 h3;go_enter Tryz.func233,Tryz.ntmps233
  go_upto_region 1 with fail
  rw[HW.o];go_wp2_with fail;refine C0.o.mono ?_;rintro e w' ⟨rfl,rfl⟩;go_wp2_with fail;refine C1.o.mono ?_;rintro e w' ⟨rfl,rfl⟩;go_wp2_with fail;refine C2.o.mono ?_;rintro e w' ⟨rfl,rfl⟩;go_wp2_with fail;refine C3.o.mono ?_;rintro e w' ⟨rfl,rfl⟩;go_wp2_with fail;go_ret;exact⟨rfl,B.o⟩
 have h3:=Decidable.not_not.1 h3;have C3:=yH (aD6 give W);rw[decide_eq_true h3]at C3
 by_cases h4:¬(get≠give)
 ·have NO:decide (aD1 fr pt get give n most)=false:=decide_eq_false xA;rw[NO];have q4:(get != give)=false:=uN h4
  clear NO h0 h1 h2 h3 h4;go_enter Tryz.func233,Tryz.ntmps233
  go_upto_region 1 with fail
  rw[HW.o];go_wp2_with fail;refine C0.o.mono ?_;rintro e w' ⟨rfl,rfl⟩;go_wp2_with fail;refine C1.o.mono ?_;rintro e w' ⟨rfl,rfl⟩;go_wp2_with fail;refine C2.o.mono ?_;rintro e w' ⟨rfl,rfl⟩;go_wp2_with fail;refine C3.o.mono ?_;rintro e w' ⟨rfl,rfl⟩;go_wp2_with fail;go_ret;exact⟨rfl,B.o⟩
 have h4:=Decidable.not_not.1 h4;have q4:(get != give)=true:=uN h4
 by_cases h5:¬(1≤n∧n≤1099511627776)
 ·have NO:decide (aD1 fr pt get give n most)=false:=decide_eq_false xA;rw[NO];have C5:=yH (aFi n W);rw[decide_eq_false h5]at C5;clear NO h0 h1 h2 h3 h4 h5;go_enter Tryz.func233,Tryz.ntmps233
  go_upto_region 1 with fail
  rw[HW.o];go_wp2_with fail;refine C0.o.mono ?_;rintro e w' ⟨rfl,rfl⟩;go_wp2_with fail;refine C1.o.mono ?_;rintro e w' ⟨rfl,rfl⟩;go_wp2_with fail;refine C2.o.mono ?_;rintro e w' ⟨rfl,rfl⟩;go_wp2_with fail;refine C3.o.mono ?_;rintro e w' ⟨rfl,rfl⟩;go_wp2_with fail;refine C5.o.mono ?_;rintro e w' ⟨rfl,rfl⟩;go_wp2_with fail;go_ret;exact⟨rfl,B.o⟩
 have h5:=Decidable.not_not.1 h5;have C5:=yH (aFi n W);rw[decide_eq_true h5]at C5
 by_cases h6:¬(1≤most∧most≤1099511627776)
 ·have NO:decide (aD1 fr pt get give n most)=false:=decide_eq_false xA;rw[NO];have C6:=yH (aFi most W);rw[decide_eq_false h6]at C6;clear NO h0 h1 h2 h3 h4 h5 h6;go_enter Tryz.func233,Tryz.ntmps233
  go_upto_region 1 with fail
  rw[HW.o];go_wp2_with fail;refine C0.o.mono ?_;rintro e w' ⟨rfl,rfl⟩;go_wp2_with fail;refine C1.o.mono ?_;rintro e w' ⟨rfl,rfl⟩;go_wp2_with fail;refine C2.o.mono ?_;rintro e w' ⟨rfl,rfl⟩;go_wp2_with fail;refine C3.o.mono ?_;rintro e w' ⟨rfl,rfl⟩;go_wp2_with fail;refine C5.o.mono ?_;rintro e w' ⟨rfl,rfl⟩;go_wp2_with fail;refine C6.o.mono ?_;rintro e w' ⟨rfl,rfl⟩;go_wp2_with fail;go_ret;exact⟨rfl,B.o⟩
 have h6:=Decidable.not_not.1 h6;have C6:=yH (aFi most W);rw[decide_eq_true h6]at C6;rw[decide_eq_true (show aD1 fr pt get give n most from⟨h0,h1,h2,h3,h4,h5,h6⟩)];clear h0 h1 h2 h3 h4 h5 h6;go_enter Tryz.func233,Tryz.ntmps233
 go_upto_region 1 with fail
 rw[HW.o];go_wp2_with fail;refine C0.o.mono ?_;rintro e w' ⟨rfl,rfl⟩;go_wp2_with fail;refine C1.o.mono ?_;rintro e w' ⟨rfl,rfl⟩;go_wp2_with fail;refine C2.o.mono ?_;rintro e w' ⟨rfl,rfl⟩;go_wp2_with fail;refine C3.o.mono ?_;rintro e w' ⟨rfl,rfl⟩;go_wp2_with fail;refine C5.o.mono ?_;rintro e w' ⟨rfl,rfl⟩;go_wp2_with fail;refine C6.o.mono ?_;rintro e w' ⟨rfl,rfl⟩;go_wp2_with fail;go_ret;exact⟨rfl,B.o⟩
theorem smade_of{w:World}{a b:Option Addr}{er:Int}(h:∀w',Below w.heap.size w w'→Calls Tryz.prog 235 #[.agg #[.pointer a,.pointer b],.int .u64 0,.int .u8 0,.int .u8 0,.int .i64 0] w' fun e w''=>e=.returned (.tuple #[aH6,.int .i64 er])∧Below w'.heap.size w' w''):
  Calls Tryz.prog 232 #[.agg #[.pointer a,.pointer b]] w (yR w (.bool (er != 2))):=by
 have b0:=(Below.refl w.heap.size w).alloc yL (.cells #[.pointer a,.pointer b] 80);have K:=yH (Blk.new w #[.pointer a,.pointer b] 80);have B:=yH b0;have C:=yH (h _ b0);clear b0 h;obtain⟨q,hq⟩:∃q,(er != 2)=q:=⟨_,rfl⟩;rw[hq];unfold aH6 at C;generalize hW:w.alloc (.cells #[.pointer a,.pointer b] 80)=W at *;have HW:=yH hW;clear hW;have c0:=K.o.cell 0;have c1:=K.o.cell 1;simp at c0 c1;clear K;go_enter Tryz.func232,Tryz.ntmps232
 go_upto_region 1 with fail
 rw[HW.o];go_wp2_with fail;refine C.o.mono ?_;rintro e w1 ⟨rfl,b1⟩;have B1:=yH ((B.o.trans (b1.mono B.o.size)).alloc (Nat.le_trans B.o.size b1.size) (.cells #[.int .u64 0,.int .u8 0,.int .u8 0,.int .i64 0,.int .i64 0] 241));clear b1 c0 c1 C B;go_wp2_with fail;go_ret;exact⟨rfl,B1.o⟩
theorem smade_any(HD:aD3){w:World}{base G M gb:Nat}{ps:List Int}{ls:List Ln}{l:List Of}{N:Int}{vb:Value}(hL:LedM w G M ps ls)(hI:LInv ps ls)(hP:PB w base gb l N vb)(hJ:BInv l N):
  Calls Tryz.prog 232 #[.agg #[.pointer (some ⟨G,0,none⟩),.pointer (some ⟨gb,0,none⟩)]] w (yR w (.bool true)):=
 smade_of (er:=1) (fun w' b=>(aJt HD (hL.below b) hI (hP.below b) hJ 0 0 0 0 zQ x6 x6 y9).mono (by
  rintro e w'' (⟨_,h1,h2⟩|⟨h,_⟩)
  ·exact⟨h1,h2⟩
  exact absurd h.1 zQ))
def aHd(ps:List Int)(fr pt get give n most:Int):Int:=if ¬aD1 fr pt get give n most then 1 else if fr∉ps∨pt∉ps then 7 else 0
theorem aT1{w:World}{a b:Option Addr}(fr pt get give n most:Int)(h:∀w',Below w.heap.size w w'→Calls Tryz.prog 232 #[.agg #[.pointer a,.pointer b]] w' fun e w''=>e=.returned (.bool false)∧Below w'.heap.size w' w''):
  Calls Tryz.prog 197 #[.agg #[.int .u8 fr,.int .u8 pt,.int .u8 get,.int .u8 give,.int .i64 n,.int .i64 most],.agg #[.pointer a,.pointer b]] w (yR w (.int .i64 2)):=by
 have b0:=((Below.refl w.heap.size w).alloc yL (.cells #[.int .u8 fr,.int .u8 pt,.int .u8 get,.int .u8 give,.int .i64 n,.int .i64 most] 289));have b1:=b0.alloc b0.size (.cells #[.pointer a,.pointer b] 80);have K:=yH (pAB (w.alloc (.cells #[.int .u8 fr,.int .u8 pt,.int .u8 get,.int .u8 give,.int .i64 n,.int .i64 most] 289)) #[.pointer a,.pointer b] 80 (g:=w.heap.size+1) zV);have B:=yH b1;have C:=yH (h _ b1);clear b0 b1 h;generalize hW:(w.alloc (.cells #[.int .u8 fr,.int .u8 pt,.int .u8 get,.int .u8 give,.int .i64 n,.int .i64 most] 289)).alloc (.cells #[.pointer a,.pointer b] 80)=W at *;have HW:=yH hW;clear hW;have c0:=K.o.cell 0;have c1:=K.o.cell 1;simp at c0 c1;clear K;go_enter Tryz.func197,Tryz.ntmps197
 go_upto_region 1 with fail
 rw[HW.o];go_wp2_with fail;refine C.o.mono ?_;rintro e w1 ⟨rfl,b1⟩;have B1:=yT B b1;clear b1 c0 c1 C B;go_wp2_with fail;go_ret;exact⟨rfl,B1.o⟩
theorem swrong_any(HD:aD3){w:World}{base G M gb:Nat}{ps:List Int}{ls:List Ln}{l:List Of}{N:Int}{vb:Value}(hL:LedM w G M ps ls)(hI:LInv ps ls)(hP:PB w base gb l N vb)(hJ:BInv l N)(fr pt get give n most:Int):
  Calls Tryz.prog 197 #[.agg #[.int .u8 fr,.int .u8 pt,.int .u8 get,.int .u8 give,.int .i64 n,.int .i64 most],.agg #[.pointer (some ⟨G,0,none⟩),.pointer (some ⟨gb,0,none⟩)]] w (yR w (.int .i64 (aHd ps fr pt get give n most))):=by
 have b0:=((Below.refl w.heap.size w).alloc yL (.cells #[.int .u8 fr,.int .u8 pt,.int .u8 get,.int .u8 give,.int .i64 n,.int .i64 most] 289));have b1:=b0.alloc b0.size (.cells #[.pointer (some ⟨G,0,none⟩),.pointer (some ⟨gb,0,none⟩)] 80);have KS:=yH ((Blk.new w #[.int .u8 fr,.int .u8 pt,.int .u8 get,.int .u8 give,.int .i64 n,.int .i64 most] 289).alloc (.cells #[.pointer (some ⟨G,0,none⟩),.pointer (some ⟨gb,0,none⟩)] 80));have KH:=yH (pAB (w.alloc (.cells #[.int .u8 fr,.int .u8 pt,.int .u8 get,.int .u8 give,.int .i64 n,.int .i64 most] 289)) #[.pointer (some ⟨G,0,none⟩),.pointer (some ⟨gb,0,none⟩)] 80 (g:=w.heap.size+1) zV);have HL:=yH (hL.below b1);have C:=yH (smade_any HD (hL.below b1) hI (hP.below b1) hJ);have B:=yH b1;have HB:=yH hI.bd;obtain⟨R,hR⟩:∃R,aHd ps fr pt get give n most=R:=⟨_,rfl⟩;rw[hR];have HR:=yH hR;clear b0 b1 hL hI hP hJ hR;generalize hW:(w.alloc (.cells #[.int .u8 fr,.int .u8 pt,.int .u8 get,.int .u8 give,.int .i64 n,.int .i64 most] 289)).alloc (.cells #[.pointer (some ⟨G,0,none⟩),.pointer (some ⟨gb,0,none⟩)] 80)=W at *;have HW:=yH hW;clear hW;have c0:=KH.o.cell 0;have c1:=KH.o.cell 1;simp at c0 c1;go_enter Tryz.func197,Tryz.ntmps197
 go_upto_region 1 with fail
 rw[HW.o];go_wp2_with fail;refine C.o.mono ?_;rintro e w1 ⟨rfl,b1⟩;have HL1:=yH (HL.o.below b1);have KS1:=yB KS b1;have KH1:=yB KH b1;have B1:=yT B b1;clear b1 c0 c1 C B HL KS KH;have s0:=KS1.o.cell 0;have s1:=KS1.o.cell 1;have s2:=KS1.o.cell 2;have s3:=KS1.o.cell 3;have s4:=KS1.o.cell 4;have s5:=KS1.o.cell 5;simp at s0 s1 s2 s3 s4 s5;have CM:=yH (smay_any fr pt get give n most w1)
 by_cases hm:aD1 fr pt get give n most
 ·rw[decide_eq_true hm]at CM;have HMY:=yH hm;clear hm;go_wp2_with fail;refine CM.o.mono ?_;rintro e w2 ⟨rfl,b2⟩;have HL2:=yH (HL1.o.below b2);have KS2:=yB KS1 b2;have KH2:=yB KH1 b2;have B2:=yT B1 b2;clear b2 s0 s1 s2 s3 s4 s5 CM B1 HL1 KS1 KH1;have s0:=KS2.o.cell 0;have s1:=KS2.o.cell 1;have c0:=KH2.o.cell 0;have c1:=KH2.o.cell 1;simp at s0 s1 c0 c1;have CF:=yH (aEi HL2.o.blk HB.o fr);have CT:=yH (aEi HL2.o.blk HB.o pt)
  by_cases hf:fr∈ps
  ·rw[decide_eq_true hf]at CF
   by_cases ht:pt∈ps
   ·rw[decide_eq_true ht]at CT;have EE:Hid (R=0):=yH (by rw[←HR.o];unfold aHd;rw[if_neg (fun h=>h HMY.o),if_neg (fun h=>h.elim (fun h=>h hf) (fun h=>h ht))]);clear hf ht;go_wp2_with fail;refine CF.o.mono ?_;rintro e w3 ⟨rfl,rfl⟩;go_wp2_with fail;refine CT.o.mono ?_;rintro e w3 ⟨rfl,rfl⟩;go_wp2_with fail;go_ret;exact⟨wB,B2.o⟩
   rw[decide_eq_false ht]at CT;have EE:Hid (R=7):=yH (by rw[←HR.o];unfold aHd;rw[if_neg (fun h=>h HMY.o),if_pos (.inr ht)]);clear hf ht;go_wp2_with fail;refine CF.o.mono ?_;rintro e w3 ⟨rfl,rfl⟩;go_wp2_with fail;refine CT.o.mono ?_;rintro e w3 ⟨rfl,rfl⟩;go_wp2_with fail;go_ret;exact⟨wB,B2.o⟩
  rw[decide_eq_false hf]at CF;have EE:Hid (R=7):=yH (by rw[←HR.o];unfold aHd;rw[if_neg (fun h=>h HMY.o),if_pos (.inl hf)]);clear hf CT;go_wp2_with fail;refine CF.o.mono ?_;rintro e w3 ⟨rfl,rfl⟩;go_wp2_with fail;go_ret;exact⟨wB,B2.o⟩
 rw[decide_eq_false hm]at CM;have EE:Hid (R=1):=yH (by rw[←HR.o];unfold aHd;rw[if_pos hm]);clear hm;go_wp2_with fail;refine CM.o.mono ?_;rintro e w2 ⟨rfl,b2⟩;have B2:=yT B1 b2;clear b2 s0 s1 s2 s3 s4 s5 CM B1;go_wp2_with fail;go_ret;exact⟨wB,B2.o⟩
structure FstW(w:World)(ch cs cw cn base G M gb:Nat)(ps:List Int)(ls:List Ln)(l:List Of)(N:Int)(vb:Value)(fr pt get give n most want x:Int):Prop where
 h:Blk w ch #[.pointer (some ⟨G,0,none⟩),.pointer (some ⟨gb,0,none⟩)] 80
 s:Blk w cs #[.int .u8 fr,.int .u8 pt,.int .u8 get,.int .u8 give,.int .i64 n,.int .i64 most] 289
 wn:Blk w cw #[.int .i64 want] 2
 x:Blk w cn #[.int .i64 x] 2
 led:LedM w G M ps ls
 book:PB w base gb l N vb
 ne:¬ch=cn∧¬cs=cn∧¬cw=cn∧¬G=cn∧¬M=cn∧¬Foot gb vb cn
theorem FstW.keep{w w':World}{ch cs cw cn base G M gb:Nat}{ps:List Int}{ls:List Ln}{l:List Of}{N:Int}{vb:Value}{fr pt get give n most want:Int}{x y:Int}(h:FstW w ch cs cw cn base G M gb ps ls l N vb fr pt get give n most want x)(k:Keep (·=cn) w w')(hx:Blk w' cn #[.int .i64 y] 2):FstW w' ch cs cw cn base G M gb ps ls l N vb fr pt get give n most want y:=by
 obtain⟨h1,h2,h3,h4,h5,h6⟩:=h.ne;exact⟨h.h.keep k h1,h.s.keep k h2,h.wn.keep k h3,hx,h.led.keep k h4 h5,h.book.keep k (fun e=>h6 (.inl e.symm)) (fun b hb e=>h6 (.inr (by rw[←e];exact hb))),h.ne⟩
theorem FstW.below{w w':World}{ch cs cw cn base G M gb:Nat}{ps:List Int}{ls:List Ln}{l:List Of}{N:Int}{vb:Value}{fr pt get give n most want:Int}{x:Int}(h:FstW w ch cs cw cn base G M gb ps ls l N vb fr pt get give n most want x)(k:Below w.heap.size w w'):FstW w' ch cs cw cn base G M gb ps ls l N vb fr pt get give n most want x:=
 h.keep (pAD k) (h.x.below k h.x.lt)
theorem first1_any(HMy:aCj)(o:Of){w:World}{ch cs cw cn base G M gb:Nat}{ps:List Int}{ls:List Ln}{l:List Of}{N:Int}{vb:Value}{fr pt get give n most want:Int}{x:Int}(h:FstW w ch cs cw cn base G M gb ps ls l N vb fr pt get give n most want x)(hI:LInv ps ls)(hJ:BInv l N)(ht:In8 fr)(hp:In8 pt)(hw:In64 want)(hs:0≤o.se∧o.se≤18446744073709551615):
  Calls Tryz.prog 272 #[.agg #[.int .u64 o.se,.int .u8 o.ow,.int .u8 o.sl,.int .u8 o.bu,.int .i64 o.lf,.int .i64 o.nu,.int .i64 o.de],.pointer (some ⟨ch,0,none⟩),.pointer (some ⟨cs,0,none⟩),.pointer (some ⟨cw,0,none⟩),.pointer (some ⟨cn,0,none⟩)] w
   fun e w'=>e=.returned (.bool (decide (0<mayS ps ls l fr pt want 1099511627776 o.se)))∧FstW w' ch cs cw cn base G M gb ps ls l N vb fr pt get give n most want (mayS ps ls l fr pt want 1099511627776 o.se)∧Keep (·=cn) w w':=by
 have b0:=(Below.refl w.heap.size w).alloc yL (.cells #[.int .u64 o.se,.int .u8 o.ow,.int .u8 o.sl,.int .u8 o.bu,.int .i64 o.lf,.int .i64 o.nu,.int .i64 o.de] 75);have KO:=yH (Blk.new w #[.int .u64 o.se,.int .u8 o.ow,.int .u8 o.sl,.int .u8 o.bu,.int .i64 o.lf,.int .i64 o.nu,.int .i64 o.de] 75);have HF:=yH (h.below b0);have B0:=yH b0;have CM:=yH (aRh HMy (h.led.below b0) hI (h.book.below b0) hJ o.se fr pt want 1099511627776 hs ht hp hw (by unfold In64;decide));obtain⟨k,hk⟩:∃k,mayS ps ls l fr pt want 1099511627776 o.se=k:=⟨_,rfl⟩;rw[hk]at CM ⊢;clear b0 h hI hJ ht hp hw hs hk;generalize hW:w.alloc (.cells #[.int .u64 o.se,.int .u8 o.ow,.int .u8 o.sl,.int .u8 o.bu,.int .i64 o.lf,.int .i64 o.nu,.int .i64 o.de] 75)=W at *;have HW:=yH hW;clear hW;have h0:=HF.o.h.cell 0;have h1:=HF.o.h.cell 1;have s0:=HF.o.s.cell 0;have s1:=HF.o.s.cell 1;have w0:=HF.o.wn.cell 0;have o0:=KO.o.cell 0;simp at h0 h1 s0 s1 w0 o0;go_enter Tryz.func272,Tryz.ntmps272
 go_upto_region 1 with fail
 rw[HW.o];go_wp2_with fail;refine CM.o.mono ?_;rintro e w1 ⟨rfl,b1⟩;have HF1:=yH (HF.o.below b1);have B1:=yT B0 b1;clear b1 h0 h1 s0 s1 w0 o0 HF KO CM B0;have x0:=HF1.o.x.cell 0;have fz:=HF1.o.x.frozen 0;have hst:=(HF1.o.x.set 0 (.int .i64 k));have c0:=hst.cell 0;simp at x0 c0;clear hst;go_wp2_with fail;go_ret;have kk:Keep (·=cn) w1 (w1.setCell ⟨cn,0,none⟩ (.int .i64 k)):=Keep.setCell (S:=(·=cn)) (Keep.refl _ _) (p:=⟨cn,0,none⟩) (.inl rfl) _;refine⟨rfl,HF1.o.keep kk (HF1.o.x.set 0 _),(pAD (S:=(·=cn)) B1.o).trans kk⟩
def IxfAt(W:World)(ch cs cw cn base G M gb:Nat)(ps:List Int)(ls:List Ln)(l:List Of)(N:Int)(vb:Value)(fr pt get give n most want:Int)(os:List Of)(i:Value)(wr:World):Prop:=
 ∃(k:Nat) (x:Int),k≤os.length∧i=.int .i64 k∧FstW wr ch cs cw cn base G M gb ps ls l N vb fr pt get give n most want x∧Keep (·=cn) W wr∧Hid (aAy ps ls l fr pt want 1099511627776 os=aAy ps ls l fr pt want 1099511627776 (os.drop k))
def IxfPost(W:World)(ch cs cw cn base G M gb:Nat)(ps:List Int)(ls:List Ln)(l:List Of)(N:Int)(vb:Value)(fr pt get give n most want:Int)(os:List Of)(e:Ending)(w':World):Prop:=
 (∃(k:Nat) (x:Int) (hk:k<os.length),e=.returned (.int .i64 k)∧FstW w' ch cs cw cn base G M gb ps ls l N vb fr pt get give n most want x∧Keep (·=cn) W w'∧aAy ps ls l fr pt want 1099511627776 os=some (os[k].se,x))∨
 (∃x:Int,e=.returned (.int .i64 (-1))∧FstW w' ch cs cw cn base G M gb ps ls l N vb fr pt get give n most want x∧Keep (·=cn) W w'∧aAy ps ls l fr pt want 1099511627776 os=none)
theorem aT2(HMy:aCj){w:World}{ch cs cw cn base b2 G M gb:Nat}{ps:List Int}{ls:List Ln}{l:List Of}{N:Int}{vb:Value}{fr pt get give n most want:Int}{x:Int}{os:List Of}{v:Value}(h:FstW w ch cs cw cn base G M gb ps ls l N vb fr pt get give n most want x)(hI:LInv ps ls)(hJ:BInv l N)(ht:In8 fr)(hp:In8 pt)(hw:In64 want)
  (hv:aBk w b2 75 7 v os.length (aAb os))(hs:∀o∈os,0≤o.se∧o.se≤18446744073709551615)(hne:∀b,v.ownBlock=some b→¬b=cn):
  Calls Tryz.prog 271 #[v,.func (.func 272) #[] #[.pointer (some ⟨ch,0,none⟩),.pointer (some ⟨cs,0,none⟩),.pointer (some ⟨cw,0,none⟩),.pointer (some ⟨cn,0,none⟩)]] w (IxfPost w ch cs cw cn base G M gb ps ls l N vb fr pt get give n most want os):=by
 obtain⟨ao,cap,rfl,hc1,hc2,hc3,hc4⟩:=hv.look;have HC:=yH hc4;have HNE:=yH hne;have HFw:=yH h;have CF:=yH (fun(o:Of) (w':World) (x:Int) (hs:0≤o.se∧o.se≤18446744073709551615) (q:FstW w' ch cs cw cn base G M gb ps ls l N vb fr pt get give n most want x)=>first1_any HMy o q hI hJ ht hp hw hs);have HS:=yH hs;unfold maxLen at hc2;clear hc3 hc4 hv h hI hJ ht hp hw hs hne;go_enter Tryz.func271,Tryz.ntmps271;go_wp2_with fail
 go_loopw [5,8] (fun _ i wr=>IxfAt w ch cs cw cn base G M gb ps ls l N vb fr pt get give n most want os i wr) (fun _ i _=>os.length - (intOf i).toNat)
 case atStart=>exact⟨0,x,Nat.zero_le _,rfl,HFw.o,Keep.refl _ _,yH rfl⟩
 obtain⟨k,x,hk,rfl,hF,hK,HE⟩:=hrel
 by_cases hkl:k<os.length
 ·have hki:(k:Int)<(os.length:Int):=zQ
  have hk0:(0:Int)≤(k:Int):=zQ
  obtain⟨b,rfl,hb1,hb2,hcell,_⟩:=HC.o zQ;have hbn:¬b=cn:=HNE.o b rfl;obtain⟨e0,e1,e2,e3,e4,e5,e6⟩:=aCv (w:=wr) (fun j hj=>by rw[hK.cell (p:=⟨b,j,none⟩) hb2 hbn];exact hcell j hj) hkl;obtain⟨m,hm⟩:∃m,mayS ps ls l fr pt want 1099511627776 os[k].se=m:=⟨_,rfl⟩;have C1:=yH (CF.o os[k] wr x (HS.o _ (List.getElem_mem _)) hF);rw[hm]at C1
  have HD:Hid (aAy ps ls l fr pt want 1099511627776 (os.drop k)=if 0<m then some (os[k].se,m)else aAy ps ls l fr pt want 1099511627776 (os.drop (k+1))):=yH (by
   rw[List.drop_eq_getElem_cons hkl];show(if 0<mayS ps ls l fr pt want 1099511627776 os[k].se then some (os[k].se,mayS ps ls l fr pt want 1099511627776 os[k].se)else _)=_;rw[hm])
  have HK:=yH hK;have HKL:=yH hkl;clear hcell hm hF hK;generalize ho:os[k]=o at *;have HO:=yH ho;clear ho hkl
  by_cases hq:0<m
  ·rw[decide_eq_true hq]at C1;rw[if_pos hq]at HD;clear hq;go_wp2_with fail;refine C1.o.mono ?_;rintro e w2 ⟨rfl,f2,k2⟩;have HF2:=yH f2;have HK2:=yH (HK.o.trans k2);clear f2 k2 e0 e1 e2 e3 e4 e5 e6 C1;go_wp2_with fail;go_ret;exact .inl ⟨k,m,HKL.o,rfl,HF2.o,HK2.o,by rw[HE.o,HD.o];exact congrArg (fun z:Of=>some (z.se,m)) HO.o.symm⟩
  rw[decide_eq_false hq]at C1;rw[if_neg hq]at HD;clear hq;go_wp2_with fail;refine C1.o.mono ?_;rintro e w2 ⟨rfl,f2,k2⟩;have HF2:=yH f2;have HK2:=yH (HK.o.trans k2);clear f2 k2 e0 e1 e2 e3 e4 e5 e6 C1;go_wp2_with fail;go_roundw
  case rel=>exact⟨k+1,m,xE,by go_num,HF2.o,HK2.o,yH (by rw[HE.o,HD.o])⟩
  case measure=>simp[intOf];omega
 have hkn:k=os.length:=zQ
 have HN:Hid (aAy ps ls l fr pt want 1099511627776 (os.drop k)=none):=yH (by rw[hkn,List.drop_length];rfl);have HFl:=yH hF;have HK:=yH hK;clear hF hK;go_wp2_with fail;go_ret;exact .inr ⟨x,rfl,HFl.o,HK.o,by rw[HE.o,HN.o]⟩
theorem best_seqs{l:List Of}{N:Int}(hJ:BInv l N)(s b:Int):∀o∈aC5 l s b,0≤o.se∧o.se≤18446744073709551615:=fun o ho=>by
 have hm:=hJ.bd o (aJg hJ ho).1;have:=hJ.n2;omega
theorem pfirst_any(HMy:aCj){w:World}{base G M gb:Nat}{ps:List Int}{ls:List Ln}{l:List Of}{N:Int}{vb:Value}{fr pt get give n most want:Int}(hL:LedM w G M ps ls)(hI:LInv ps ls)(hP:PB w base gb l N vb)(hJ:BInv l N)(ht:In8 fr)(hp:In8 pt)(hg:In8 get)(hv:In8 give)(hw:In64 want):
  Calls Tryz.prog 234 #[.agg #[.int .u8 fr,.int .u8 pt,.int .u8 get,.int .u8 give,.int .i64 n,.int .i64 most],.agg #[.pointer (some ⟨G,0,none⟩),.pointer (some ⟨gb,0,none⟩)],.int .i64 want] w (yR w (.tuple #[.int .u64 ((aAy ps ls l fr pt want 1099511627776 (aC5 l get give)).getD (0,0)).1,.int .i64 ((aAy ps ls l fr pt want 1099511627776 (aC5 l get give)).getD (0,0)).2])):=by
 have hlt:=And.intro hL.blk.lt (And.intro hL.map.lt (fun b (hb:Foot gb vb b)=>(hP.lt hb).2));have b0:=(Below.refl w.heap.size w).alloc yL (.cells #[.int .u8 fr,.int .u8 pt,.int .u8 get,.int .u8 give,.int .i64 n,.int .i64 most] 289);have b1:=b0.alloc b0.size (.cells #[.pointer (some ⟨G,0,none⟩),.pointer (some ⟨gb,0,none⟩)] 80);have b2:=b1.alloc b1.size (.cells #[.int .i64 want] 2);have b3:=b2.alloc b2.size (.cells #[.int .i64 0] 2)
 have hF0:FstW ((((w.alloc (.cells #[.int .u8 fr,.int .u8 pt,.int .u8 get,.int .u8 give,.int .i64 n,.int .i64 most] 289)).alloc (.cells #[.pointer (some ⟨G,0,none⟩),.pointer (some ⟨gb,0,none⟩)] 80)).alloc (.cells #[.int .i64 want] 2)).alloc (.cells #[.int .i64 0] 2)) (w.heap.size+1) w.heap.size (w.heap.size+2) (w.heap.size+3) base G M gb ps ls l N vb fr pt get give n most want 0:=
  ⟨((pAB (w.alloc (.cells #[.int .u8 fr,.int .u8 pt,.int .u8 get,.int .u8 give,.int .i64 n,.int .i64 most] 289)) #[.pointer (some ⟨G,0,none⟩),.pointer (some ⟨gb,0,none⟩)] 80 (g:=w.heap.size+1) zV).alloc _).alloc _,(((Blk.new w #[.int .u8 fr,.int .u8 pt,.int .u8 get,.int .u8 give,.int .i64 n,.int .i64 most] 289).alloc _).alloc _).alloc _,(pAB ((w.alloc (.cells #[.int .u8 fr,.int .u8 pt,.int .u8 get,.int .u8 give,.int .i64 n,.int .i64 most] 289)).alloc (.cells #[.pointer (some ⟨G,0,none⟩),.pointer (some ⟨gb,0,none⟩)] 80)) #[.int .i64 want] 2 (g:=w.heap.size+2) zV).alloc _,pAB _ _ _ zV,hL.below b3,hP.below b3,
   by omega,zQ,zQ,zQ,zQ,fun hb=>uF (hlt.2.2 _ hb)⟩
 generalize hW:(((w.alloc (.cells #[.int .u8 fr,.int .u8 pt,.int .u8 get,.int .u8 give,.int .i64 n,.int .i64 most] 289)).alloc (.cells #[.pointer (some ⟨G,0,none⟩),.pointer (some ⟨gb,0,none⟩)] 80)).alloc (.cells #[.int .i64 want] 2)).alloc (.cells #[.int .i64 0] 2)=W at *;have HW:=yH hW;have HF:=yH hF0;have B:=yH b3;have CB:=yH (aRt (hP.below b3) hJ get give)
 have CI:=yH (fun(w':World) (x:Int) (b2:Nat) (v:Value) (q:FstW w' (w.heap.size+1) w.heap.size (w.heap.size+2) (w.heap.size+3) base G M gb ps ls l N vb fr pt get give n most want x) (hv:aBk w' b2 75 7 v (aC5 l get give).length (aAb (aC5 l get give))) (hne:∀b,v.ownBlock=some b→¬b=w.heap.size+3)=>
  aT2 HMy q hI hJ ht hp hw hv (best_seqs hJ get give) hne)
 clear hlt b0 b1 b2 b3 hF0 hW hL hI hP hJ ht hp hg hv hw;obtain⟨os,hos⟩:∃os,aC5 l get give=os:=⟨_,rfl⟩;rw[hos]at CB CI ⊢;clear hos;obtain⟨R,hR⟩:∃R,(aAy ps ls l fr pt want 1099511627776 os).getD (0,0)=R:=⟨_,rfl⟩;rw[hR];have HR:=yH hR;clear hR;have h0:=HF.o.h.cell 0;have h1:=HF.o.h.cell 1;have hl:=HF.o.h.lt;have s2:=HF.o.s.cell 2;have s3:=HF.o.s.cell 3;simp at h0 h1 s2 s3;go_enter Tryz.func234,Tryz.ntmps234
 go_upto_region 1 with fail
 rw[HW.o];go_wp2_with fail;refine CB.o.mono ?_;rintro e w1 ⟨v,rfl,hv,b1⟩;have HF1:=yH (HF.o.below b1);have HV:=yH hv;have B1:=yT B b1;have CX:=yH (CI.o w1 0 _ v HF1.o hv (fun b hb e=>by have:=(hv.type hb).1;have:=HF.o.x.lt;omega));have VNE:Hid (∀b,v.ownBlock=some b→¬b=w.heap.size+3):=yH (fun b hb e=>by have:=(hv.type hb).1;have:=HF.o.x.lt;omega);clear hv b1 h0 h1 hl s2 s3 HF B CB CI;go_wp2_with fail;refine CX.o.mono ?_;rintro e w2 (⟨k,x,hk,rfl,f2,k2,hfs⟩|⟨x,rfl,f2,k2,hfs⟩)
 ·have ER:Hid (R=(os[k].se,x)):=yH (by rw[←HR.o,hfs];rfl);have B2:=yH (B1.o.trans (k2.below (B:=w.heap.size) B1.o.size (fun j hj e=>zQ)));obtain⟨ao,cap,rfl,hc1,hc2,hc3,hc4⟩:=(HV.o.keep k2 VNE.o).look;obtain⟨b,rfl,hb1,hb2,hcell,_⟩:=hc4 zQ;obtain⟨e0,_⟩:=aCv (w:=w2) hcell hk;have HF2:=yH f2;have x0:=f2.x.cell 0;have fz:=f2.x.frozen 0;have hst:=(HF2.o.x.set 0 (.int .i64 x)).cell 0;simp at x0 hst;have q0:decide ((k:Int)<0)=false:=zV
  have q1:(0:Int)≤(k:Int)∧(k:Int)<(os.length:Int):=zQ
  obtain⟨s,hs⟩:∃s,os[k].se=s:=⟨_,rfl⟩;rw[hs]at e0 ER;clear hs f2 k2 hfs hcell hc3 hc4 HV CX;unfold maxLen at hc2;go_wp2_with fail
  go_region
  go_wp2_with fail;refine bodyPost_ret (v:=.tuple #[.int .u64 s,.int .i64 x]) (by simp[results,Tryz.results234,go_sem,hst]) rfl ?_;exact⟨by rw[ER.o],(B2.o.setCell zA _).drew⟩
 have ER:Hid (R=(0,0)):=yH (by rw[←HR.o,hfs];rfl);have B2:=yH (B1.o.trans (k2.below (B:=w.heap.size) B1.o.size (fun j hj e=>zQ)));have x0:=f2.x.cell 0;have fz:=f2.x.frozen 0;have hst:=(f2.x.set 0 (.int .i64 0)).cell 0;simp at x0 hst;clear f2 k2 hfs HV CX;go_wp2_with fail;refine bodyPost_ret (v:=.tuple #[.int .u64 0,.int .i64 0]) (by simp[results,Tryz.results234,go_sem,hst]) rfl ?_;exact⟨by rw[ER.o],B2.o.setCell zA _⟩
theorem info_flp:(Tryz.prog.info? 241).map (fun i=>(i.zero,i.size,i.bytes))=some (some (.agg #[.int .u64 0,.int .u8 0,.int .u8 0,.int .i64 0,.int .i64 0]),5,32):=zW
noncomputable def aNd(ps:List Int)(fr pt get give most:Int)(σ:SwS):Int×SwS:=
 if(aB4 ps fr pt get give 64 σ).1≠0 then aB4 ps fr pt get give 64 σ else if most<((aB4 ps fr pt get give 64 σ).2.fs.map Fl.gi).sum then(12,(aB4 ps fr pt get give 64 σ).2)else aB4 ps fr pt get give 64 σ
def FilAt(W:World)(base s1 G M gb:Nat)(ps:List Int)(ls0:List Ln)(l0:List Of)(N tk pt get give n0:Int)(av nv:Value)(wr:World):Prop:=
 ∃(σ:SwS) (vb:Value),nv=.int .i64 σ.n∧LedM wr G M ps σ.ls∧PB wr base gb σ.l N vb∧(∀b,vb.ownBlock=some b→b<s1∨W.heap.size≤b)∧wr.ownsRow W.heap.size 241 5 av σ.fs.length (aCh tk pt σ.fs)∧aE3 ps ls0 l0 N tk pt get give n0 σ∧σ.fs.length≤64∧
  Keep (fun k=>base≤k∧k<s1) W wr∧Hid (aB4 ps tk pt get give 64 ⟨ls0,l0,[],n0⟩=aB4 ps tk pt get give (64 - σ.fs.length) σ)
def PFil(w:World)(base G M gb:Nat)(ps:List Int)(ls:List Ln)(l:List Of)(N fr pt get give n most:Int)(e:Ending)(w':World):Prop:=
 (∃(er:Int) (a:Option Addr) (k c:Nat),er≠0∧(aNd ps fr pt get give most ⟨ls,l,[],n⟩).1=er∧e=.returned (.tuple #[.slice a k c,.int .i64 er])∧Below base w w')∨
 (∃(vb:Value) (a:Option Addr) (c:Nat) (σ:SwS),aNd ps fr pt get give most ⟨ls,l,[],n⟩=(0,σ)∧e=.returned (.tuple #[.slice a σ.fs.length c,.int .i64 0])∧LedM w' G M ps σ.ls∧PB w' base gb σ.l N vb∧aBk w' w.heap.size 241 5 (.slice a σ.fs.length c) σ.fs.length (aCh fr pt σ.fs)∧Below base w w')
theorem pfill_any(HMy:aCj)(HD:aD3){w:World}{base G M gb:Nat}{ps:List Int}{ls:List Ln}{l:List Of}{N:Int}{vb:Value}(hL:LedM w G M ps ls)(hI:LInv ps ls)(hP:PB w base gb l N vb)(hJ:BInv l N)(hG:base≤G)(hM:base≤M)(hb:base≤w.heap.size)
  (fr pt get give n most:Int)(hf:In8 fr)(ht:In8 pt)(hg:In8 get)(hv:In8 give)(hn:1≤n∧n≤1099511627776)(hm:1≤most∧most≤1099511627776):
  Calls Tryz.prog 198 #[.agg #[.int .u8 fr,.int .u8 pt,.int .u8 get,.int .u8 give,.int .i64 n,.int .i64 most],.agg #[.pointer (some ⟨G,0,none⟩),.pointer (some ⟨gb,0,none⟩)]] w (PFil w base G M gb ps ls l N fr pt get give n most):=by
 have b1:=(Below.refl w.heap.size w).alloc yL (.cells #[.int .u8 fr,.int .u8 pt,.int .u8 get,.int .u8 give,.int .i64 n,.int .i64 most] 289);have b2:=b1.alloc b1.size (.cells #[.pointer (some ⟨G,0,none⟩),.pointer (some ⟨gb,0,none⟩)] 80);have KS:=yH ((Blk.new w #[.int .u8 fr,.int .u8 pt,.int .u8 get,.int .u8 give,.int .i64 n,.int .i64 most] 289).alloc (.cells #[.pointer (some ⟨G,0,none⟩),.pointer (some ⟨gb,0,none⟩)] 80));have KH:=yH (pAB (w.alloc (.cells #[.int .u8 fr,.int .u8 pt,.int .u8 get,.int .u8 give,.int .i64 n,.int .i64 most] 289)) #[.pointer (some ⟨G,0,none⟩),.pointer (some ⟨gb,0,none⟩)] 80 (g:=w.heap.size+1) zV);have HL:=yH (hL.below b2);have HP:=yH (hP.below b2);have B:=yH b2;have GE:=yH (show base≤G∧base≤M∧base≤w.heap.size∧G<w.heap.size∧M<w.heap.size∧gb<w.heap.size∧base≤gb∧(∀b,vb.ownBlock=some b→b<w.heap.size)from⟨hG,hM,hb,hL.blk.lt,hL.map.lt,hP.blk.lt,hP.ge,fun b hb=>(hP.lt (.inr hb)).2⟩);have II:=yH hI;have JJ:=yH hJ;have HF:=yH hf;have HTo:=yH ht;have HGe:=yH hg;have HGi:=yH hv;have HN:=yH hn;have HWS:Hid (((w.alloc (.cells #[.int .u8 fr,.int .u8 pt,.int .u8 get,.int .u8 give,.int .i64 n,.int .i64 most] 289)).alloc (.cells #[.pointer (some ⟨G,0,none⟩),.pointer (some ⟨gb,0,none⟩)] 80)).heap.size=w.heap.size+2):=yH zV;clear b1 b2 hL hI hP hJ hG hM hb hf ht hg hv hn hm;generalize hW:(w.alloc (.cells #[.int .u8 fr,.int .u8 pt,.int .u8 get,.int .u8 give,.int .i64 n,.int .i64 most] 289)).alloc (.cells #[.pointer (some ⟨G,0,none⟩),.pointer (some ⟨gb,0,none⟩)] 80)=W at *;have HW:=yH hW;clear hW;have s4:=KS.o.cell 4;simp at s4;go_enter Tryz.func198,Tryz.ntmps198
 go_upto_region 1 with fail
 rw[HW.o];go_wp2_with fail
 go_loopw [4,6,7,8,9,10] (fun av nv _ _ _ _ wr=>FilAt W base w.heap.size G M gb ps ls l N fr pt get give n av nv wr) (fun _ nv _ _ _ _ _=>(intOf nv).toNat)
 case atStart=>exact⟨⟨ls,l,[],n⟩,vb,rfl,HL.o,HP.o,fun b hb=>.inl (GE.o.2.2.2.2.2.2.2 b hb),World.ownsRow_nil _ _ _ _,aE3.start II.o JJ.o,zV,Keep.refl _ _,yH rfl⟩
 obtain⟨σ,vb,rfl,hRL,hRB,hVB,hO,hS,hlen,hK,HE⟩:=hrel;have RL:=yH hRL;have RB:=yH hRB;have VB:=yH hVB;have OO:=yH hO;have SI:=yH hS;have KK:=yH hK;have KSr:=yH (KS.o.keep hK zQ);have KHr:=yH (KH.o.keep hK zQ);have BR:Hid (Below base w wr):=yH ((B.o.mono GE.o.2.2.1).trans (hK.below (uS GE.o HWS.o) (fun k hk h=>zQ)));obtain⟨sn,hsn⟩:∃sn,σ.n=sn:=⟨_,rfl⟩;have HSN:=yH hsn
 have hsle:sn≤1099511627776:=by
  have h1:=hS.sum;have h2:0≤(σ.fs.map Fl.got).sum:=hS.got_nn;have:=HN.o;omega
 rw[hsn];obtain⟨ao,cap,hav,hc1,hc2,_,_⟩:=aAg hO;subst hav;unfold maxLen at hc2;clear hRL hRB hO hS hK hVB hsn s4 KS KH HL HP B
 by_cases hn0:0<sn
 ·have CF:=yH (pfirst_any (n:=n) (most:=most) HMy RL.o SI.o.linv RB.o SI.o.binv HF.o HTo.o HGe.o HGi.o (want:=sn) y9);have s0:=KSr.o.cell 0;have s1:=KSr.o.cell 1;have s2:=KSr.o.cell 2;have s3:=KSr.o.cell 3;have s4:=KSr.o.cell 4;have s5:=KSr.o.cell 5;have h0:=KHr.o.cell 0;have h1:=KHr.o.cell 1;have hl:=KHr.o.lt;simp at s0 s1 s2 s3 s4 s5 h0 h1;go_wp2_with fail;refine CF.o.mono ?_;rintro e w1 ⟨rfl,b1⟩;have KS1:=yB KSr b1;have KH1:=yB KHr b1;have RL1:=yH (RL.o.below b1);have RB1:=yH (RB.o.below b1);have OO1:=yH (aAf OO.o b1);have KK1:=yH (KK.o.trans (pAD b1));have B1:=yH (BR.o.trans (b1.mono wS));clear b1 s0 s1 s2 s3 s4 s5 h0 h1 hl CF KSr KHr RL RB OO KK BR
  cases hfs:aAy ps σ.ls σ.l fr pt sn 1099511627776 (aC5 σ.l get give)with
  | none=>
   have NO:Hid ((aNd ps fr pt get give most ⟨ls,l,[],n⟩).1=11):=yH (by
    have e:aB4 ps fr pt get give 64 ⟨ls,l,[],n⟩=(11,σ):=by rw[HE.o,aHq uQ vN]
    unfold aNd;rw[e];simp only[];rw[if_pos zV])
   clear hfs;dsimp only[Option.getD_none];go_wp2_with fail;go_ret2;exact .inl ⟨11,_,_,_,zX,NO.o,rfl,B1.o⟩
  | some sk=>
   obtain⟨s0,k0⟩:=sk;obtain⟨k1,k2,ok,⟨o,ho,_,_⟩,hnext⟩:=SI.o.step (s:=s0) (k:=k0) vN;rw[HSN.o]at k2;have HFS:=yH hfs;have HOK:=yH ok;have HO:=yH ho;have HNX:=yH hnext;have HSQ:=yH (show 0≤o.se∧o.se≤18446744073709551615 from by have h1:=SI.o.binv.bd o (aCd ho).1;have h2:=SI.o.binv.n2;omega);rw[(aCd ho).2]at HSQ;have z5:decide (k0<1)=false:=zU
   clear hfs ok ho hnext;dsimp only[Option.getD_some]
   by_cases hfull:σ.fs.length=64
   ·have z6:((σ.fs.length:Int)==64)=true:=zU
    have NO:Hid ((aNd ps fr pt get give most ⟨ls,l,[],n⟩).1=13):=yH (by
     have e:aB4 ps fr pt get give 64 ⟨ls,l,[],n⟩=(13,σ):=by rw[HE.o,aHr uQ wI hfull]
     unfold aNd;rw[e];simp only[];rw[if_pos zV])
    clear hfull;go_wp2_with fail;go_ret2;exact .inl ⟨13,_,_,_,zX,NO.o,rfl,B1.o⟩
   have z6:((σ.fs.length:Int)==64)=false:=zU
   have HL64:=yH (show σ.fs.length+1≤64 by omega);have CDo:=yH (aJt HD RL1.o SI.o.linv RB1.o SI.o.binv s0 fr pt k0 HSQ.o HF.o HTo.o ⟨zQ,zQ⟩);have s0_:=KS1.o.cell 0;have s1_:=KS1.o.cell 1;have h0:=KH1.o.cell 0;have h1:=KH1.o.cell 1;simp at s0_ s1_ h0 h1;clear hfull;go_wp2_with fail;refine CDo.o.mono ?_;rintro e wd hd;clear s0_ s1_ h0 h1 CDo;rcases hd with⟨hno,_⟩|⟨_,o',x,vb',ho',hx,rfl,hRL',hRB',kk,hmv⟩
   ·exact absurd HOK.o hno
   rw[HO.o]at ho'
   cases ho'
   have EN:Hid (aMs ps fr pt σ s0 k0=⟨aC2 ps σ.ls o fr pt k0 x,aDv σ.l s0 k0,σ.fs++[⟨s0,k0,x⟩],sn - k0⟩):=yH (by unfold aMs;rw[HO.o,hx,←HSN.o]);have hWS:=HWS.o;have hge:=GE.o;have hsz:=KK1.o.size
   have hvb:∀j,j<W.heap.size→(j=G∨j=M∨Foot gb vb j)→base≤j∧j<w.heap.size:=by
    intro j hj h;rcases h with h|h|h|h
    ·omega
    ·omega
    ·omega
    have h1:=VB.o j h;have h2:=(RB1.o.lt (b:=j) (.inr h)).1;omega
   have OOd:=yH (aBr OO1.o kk (fun b hb h=>by
    have h1:=(aAe OO1.o hb).1;rcases h with h|h|h|h
    ·omega
    ·omega
    ·omega
    exact aHy OO1.o RB1.o.row zX b hb h))
   have KKd:=yH (KK1.o.trans_new kk hvb)
   have VBd:=yH (show ∀b,vb'.ownBlock=some b→b<w.heap.size∨W.heap.size≤b from fun j hj=>by
    rcases hmv j hj with h|h
    ·exact VB.o j h
    exact .inr zQ)
   have bf:=(Below.refl wd.heap.size wd).alloc yL (.cells #[.int .u64 s0,.int .u8 fr,.int .u8 pt,.int .i64 k0,.int .i64 x] 241);have KF:=yH (Blk.new wd #[.int .u64 s0,.int .u8 fr,.int .u8 pt,.int .i64 k0,.int .i64 x] 241);have RLf:=yH (hRL'.below bf);have RBf:=yH (hRB'.below bf);have OOf:=yH (aAf OOd.o bf);have KKf:=yH (KKd.o.trans (pAD bf));clear bf hRL' hRB' kk hmv hx RL1 RB1 OO1 KK1 KS1 KH1 OOd KKd B1 VB hvb hWS hge hsz;generalize hWF:wd.alloc (.cells #[.int .u64 s0,.int .u8 fr,.int .u8 pt,.int .i64 k0,.int .i64 x] 241)=WF at *;have HWF:=yH hWF;clear hWF;have f0:=KF.o.cell 0;have f1:=KF.o.cell 1;have f2:=KF.o.cell 2;have f3:=KF.o.cell 3;have f4:=KF.o.cell 4;simp at f0 f1 f2 f3 f4;have hb5:=KKf.o.size
   go_upto_region 9 with fail
   rw[HWF.o];go_wp2_with (at_builtin;refine aAz _ rfl (.tmp 42) (.tmp 44) 235 241 rfl Tryz.underlying235 info_flp rfl zX zX W.heap.size _ σ.fs.length _ rfl (OOf.o.alloc _) WF.heap.size 1 [.int .u64 s0,.int .u8 fr,.int .u8 pt,.int .i64 k0,.int .i64 x] rfl rfl (Blk.new _ _ _) zK vJ zU ?_);intro v2 w2 ho2 hg2;have KG:Keep (fun k=>(Value.slice ao σ.fs.length cap).ownBlock=some k) WF w2:=((Keep.refl _ WF).alloc _).grown hg2 (fun k hk=>.inl hk);have RL2:=yH (RLf.o.keep KG (fun h=>xF) (fun h=>xF));have RB2:=yH (RBf.o.keep KG (fun h=>xF) (fun b hb h=>aHy OOf.o RBf.o.row zX b h hb));have KK2:=yH (KKf.o.trans_new KG (fun j hj h=>by have:=(aAe OOf.o h).1;omega));have O2:=yH (show w2.ownsRow W.heap.size 241 5 v2 (σ.fs++[(⟨s0,k0,x⟩:Fl)]).length (aCh fr pt (σ.fs++[(⟨s0,k0,x⟩:Fl)]))from by rw[aK2];simpa [Fl.vals]using ho2)
   have HE2:Hid (aB4 ps fr pt get give 64 ⟨ls,l,[],n⟩=aB4 ps fr pt get give (64 - (σ.fs.length+1)) (aMs ps fr pt σ s0 k0)):=yH (by
    rw[HE.o,←aHs uQ wI vJ];congr 1;have:=HL64.o;omega)
   have NX2:=yH HNX.o;rw[EN.o]at HE2 NX2;clear KG ho2 hg2 f0 f1 f2 f3 f4 hb5 EN HNX HE;go_wp2_with fail;exact⟨⟨⟨aC2 ps σ.ls o fr pt k0 x,aDv σ.l s0 k0,σ.fs++[⟨s0,k0,x⟩],sn - k0⟩,_,rfl,RL2.o,RB2.o,VBd.o,O2.o,NX2.o,by simp;have:=HL64.o;omega,KK2.o,yH (by rw[HE2.o];simp)⟩,zS⟩
 have CG:=yH (fun(w':World) (h:Below wr.heap.size wr w')=>pgiven_any (aAf OO.o h) (fun f hf=>by obtain⟨_,_,_,_,_,_,_,h1,h2⟩:=SI.o.fs f hf;exact⟨zQ,zQ⟩) zQ);have GB:=SI.o.given_bd;have HEN:Hid (aB4 ps fr pt get give 64 ⟨ls,l,[],n⟩=(0,σ)):=yH (by rw[HE.o,aHp uQ]);obtain⟨gs,hgs⟩:∃gs,(σ.fs.map Fl.gi).sum=gs:=⟨_,rfl⟩;rw[hgs]at CG GB;have hok:okN gs=gs:=if_pos ⟨zQ,zQ⟩;rw[hok]at CG;have HGS:=yH hgs;clear hgs hok;go_wp2_with fail
 by_cases hq:most<gs
 ·have q1:decide (gs > most)=true:=wX
  have NO:Hid ((aNd ps fr pt get give most ⟨ls,l,[],n⟩).1=12):=yH (by unfold aNd;rw[HEN.o];simp only[];rw[if_neg zV,HGS.o,if_pos hq]);clear hq
  refine aAl zW [(.slice ao σ.fs.length cap),(.int .i64 gs),(.pointer (some ⟨w.heap.size,5,none⟩)),(.int .i64 most),(.bool true)]
   (fun w'=>Below wr.heap.size wr w') zW yZ.drew ?_
  intro af haf;simp only[yG,List.append_eq,List.cons_append,List.nil_append,puts,Act.put,yA,yC,yF,yD,yE]at haf;subst haf;refine⟨?_,?_⟩
  ·simp only[yG,List.append_eq,List.cons_append,List.nil_append,aA6];refine⟨?z1,?_,?z2,?_,?z3,trivial⟩
   case z1|z2|z3=>
    intro w' hS;refine yO rfl ?_;have HS:=yH hS;clear hS;go_wp2_with fail;all_goals first|exact HS|exact⟨rfl,HS⟩|rfl|exact⟨zQ,HS.o⟩
   ·intro w' hS;refine yO rfl ?_;have HS:=yH hS;clear hS;go_wp2_with fail;refine(CG.o _ HS.o).mono ?_;rintro e w'' ⟨rfl,hb2⟩;exact⟨rfl,andB HS.o hb2⟩
   intro w' hS;refine yO rfl ?_;have d0_0:=(KSr.o.below hS KSr.o.lt).cell 0;have d0_1:=(KSr.o.below hS KSr.o.lt).cell 1;have d0_2:=(KSr.o.below hS KSr.o.lt).cell 2;have d0_3:=(KSr.o.below hS KSr.o.lt).cell 3;have d0_4:=(KSr.o.below hS KSr.o.lt).cell 4;have d0_5:=(KSr.o.below hS KSr.o.lt).cell 5;simp at d0_0 d0_1 d0_2 d0_3 d0_4 d0_5;have HS:=yH hS;clear hS;go_wp2_with fail;all_goals first|exact HS|exact⟨rfl,HS⟩|rfl|exact⟨zQ,HS.o⟩
  intro w' hS;have B2:=yH (BR.o.trans (hS.mono wS));clear hS;go_wp2_with fail;go_ret2;exact .inl ⟨12,_,_,_,zX,NO.o,rfl,B2.o⟩
 have q1:decide (gs > most)=false:=wX
 have YES:Hid (aNd ps fr pt get give most ⟨ls,l,[],n⟩=(0,σ)):=yH (by unfold aNd;rw[HEN.o];simp only[];rw[if_neg zV,HGS.o,if_neg hq]);clear hq
 refine aAl zW [(.slice ao σ.fs.length cap),(.int .i64 gs),(.pointer (some ⟨w.heap.size,5,none⟩)),(.int .i64 most),(.bool false)]
  (fun w'=>Below wr.heap.size wr w') zW yZ.drew ?_
 intro af haf;simp only[yG,List.append_eq,List.cons_append,List.nil_append,puts,Act.put,yA,yC,yF,yD,yE]at haf;subst haf;refine⟨?_,?_⟩
 ·simp only[yG,List.append_eq,List.cons_append,List.nil_append,aA6];refine⟨?z4,?_,?z5,?_,?z6,trivial⟩
  case z4|z5|z6=>
   intro w' hS;refine yO rfl ?_;have HS:=yH hS;clear hS;go_wp2_with fail;all_goals first|exact HS|exact⟨rfl,HS⟩|rfl|exact⟨zQ,HS.o⟩
  ·intro w' hS;refine yO rfl ?_;have HS:=yH hS;clear hS;go_wp2_with fail;refine(CG.o _ HS.o).mono ?_;rintro e w'' ⟨rfl,hb2⟩;exact⟨rfl,andB HS.o hb2⟩
  intro w' hS;refine yO rfl ?_;have d0_0:=(KSr.o.below hS KSr.o.lt).cell 0;have d0_1:=(KSr.o.below hS KSr.o.lt).cell 1;have d0_2:=(KSr.o.below hS KSr.o.lt).cell 2;have d0_3:=(KSr.o.below hS KSr.o.lt).cell 3;have d0_4:=(KSr.o.below hS KSr.o.lt).cell 4;have d0_5:=(KSr.o.below hS KSr.o.lt).cell 5;simp at d0_0 d0_1 d0_2 d0_3 d0_4 d0_5;have HS:=yH hS;clear hS;go_wp2_with fail;all_goals first|exact HS|exact⟨rfl,HS⟩|rfl|exact⟨zQ,HS.o⟩
 intro w' hS;have B2:=yH (BR.o.trans (hS.mono wS));have RL2:=yH (RL.o.below hS);have RB2:=yH (RB.o.below hS);have CL:=yH (aOq (aAf OO.o hS));have HLE:=yH (show w.heap.size≤W.heap.size by have:=HWS.o;omega);clear hS;go_wp2_with fail;refine CL.o.mono ?_;rintro e w2 ⟨v,rfl,hv,_,rfl⟩;obtain⟨a,c,rfl,_,_,_,_⟩:=hv.look;have HV:=yH (hv.base HLE.o);clear hv CL;go_wp2_with fail;go_ret2;exact .inr ⟨_,a,c,σ,YES.o,rfl,RL2.o,RB2.o,HV.o,B2.o⟩
def BCopyPost(base:Nat)(l:List Of)(N:Int)(w:World)(e:Ending)(w':World):Prop:=
 ∃g' vl',e=.returned (.pointer (some ⟨g',0,none⟩))∧PB w' base g' l N vl'∧w.heap.size≤g'∧(∀b,vl'.ownBlock=some b→w.heap.size≤b)∧Below w.heap.size w w'
theorem pcopyB_any{w:World}{base g:Nat}{l:List Of}{N:Int}{vl:Value}(h:PB w base g l N vl)(h1:1≤N)(hl:l.length≤1000):
  Calls Tryz.prog 77 #[.pointer (some ⟨g,0,none⟩)] w (BCopyPost base l N w):=by
 have CM:=yH (aMl h.blk h1);have H:=yH h;obtain⟨ao,cap,rfl,_⟩:=aAg h.row;have hgl:=h.blk.lt;have d0:=h.blk.cell 0;have d1:=h.blk.cell 1;simp at d0 d1;have CC:=yH (aOe (w:=w.drew) (aAf h.row yZ.drew) hl);have hbs:=Nat.le_trans h.ge (Nat.le_of_lt hgl);clear h h1;go_enter Tryz.func77,Tryz.ntmps77;go_wp2_with fail;refine CM.o.mono ?_;rintro e w ⟨rfl,rfl⟩;go_wp2_with fail
 go_region_with ((refine CC.o.mono ?_;rintro e w1 ⟨v',rfl,o1,b1⟩;have HO:=yH o1;have HB:=yH b1;have k1:=(H.o.blk.drew).below b1 hgl;have c1:=k1.cell 1;have l1:=k1.lt;simp at c1;obtain⟨ao',cap',hv',_⟩:=aAg o1;subst hv';clear o1 b1 k1))
 all_goals
  go_wp2;refine bodyPost_ret (v:=.pointer (some ⟨w1.heap.size,0,none⟩)) (by simp[results,Tryz.results77,go_sem]) rfl ?_;have bw:=(Below.refl w1.heap.size w1).alloc yL (.cells #[.slice ao' l.length cap',.int .u64 N] 158);exact⟨_,_,rfl,⟨Blk.new _ _ _,Nat.le_trans hbs HB.o.size,aI2 (aAf HO.o bw) hbs⟩,HB.o.size,fun b hb=>(aAe HO.o hb).1,(pAA HB.o).trans (bw.mono HB.o.size)⟩
theorem aT3{w:World}{base base':Nat}{e:TypeId}{size:Nat}{v:Value}{n:Nat}{xs:List Value}(h:w.ownsRow base e size v n xs)(hb:∀b,v.ownBlock=some b→base'≤b):w.ownsRow base' e size v n xs:=by
 obtain⟨h1,h2⟩:=h;refine⟨h1,?_⟩;rcases h2 with h2|⟨g,cap,cur,rfl,hge,hr⟩
 ·exact .inl h2
 exact .inr ⟨g,cap,cur,rfl,hb g rfl,hr⟩
theorem aNe:aDu:=by
 intro w base G M gb ps ls l N vb hL hI hP hJ;have hg1:(w.alloc (.cells #[.pointer (some ⟨G,0,none⟩),.pointer (some ⟨gb,0,none⟩)] 80)).heap.size=w.heap.size+1:=zV
 have b1:=(Below.refl w.heap.size w).alloc yL (.cells #[.pointer (some ⟨G,0,none⟩),.pointer (some ⟨gb,0,none⟩)] 80);have k1:=Blk.new w #[.pointer (some ⟨G,0,none⟩),.pointer (some ⟨gb,0,none⟩)] 80;generalize hW1:w.alloc (.cells #[.pointer (some ⟨G,0,none⟩),.pointer (some ⟨gb,0,none⟩)] 80)=W1 at *;have b2:=(Below.refl W1.heap.size W1).alloc yL (.cells #[.pointer none,.pointer none] 80);have k2:=Blk.new W1 #[.pointer none,.pointer none] 80;rw[hg1]at k2;generalize hW2:W1.alloc (.cells #[.pointer none,.pointer none] 80)=W2 at *;have HW1:=yH hW1;have HW2:=yH hW2;have KX:=yH (k1.below b2 k1.lt);have KF:=yH k2;have CL:=yH (pcopy_any (((hL.below b1).below b2).below (Below.refl _ W2).drew));have HB:=yH (((hP.below b1).below b2).below (Below.refl _ W2).drew);have B1:=yH (b1.trans (b2.mono b1.size));have JJ:=yH hJ;clear hL hI hP hJ b1 b2 k1 k2 hW1 hW2 hg1;go_enter Tryz.func47,Tryz.ntmps47
 go_upto_region 1 with fail
 rw[HW1.o,HW2.o];have e0:=KX.o.cell 0;have e1:=KX.o.cell 1;have kx:=KX.o.lt;have kf:=KF.o.lt;have f0:=KF.o.cell 0;have f1:=KF.o.cell 1;simp at e0 e1 f0 f1
 go_region_with (first|(go_at_call 76;refine CL.o.mono ?_;rintro e w1 ⟨g1,m1,rfl,r1,n1,n2,b1⟩;have KX1:=yH (KX.o.drew.below b1 kx);have KF1:=yH (KF.o.drew.below b1 kf);have R1:=yH r1;have BB:=yH b1;have NN:=yH (And.intro n1 n2);have CB:=yH (pcopyB_any (HB.o.below b1) JJ.o.n1 (uF JJ.o.len));clear r1 b1 n1 n2;have c0:=KX1.o.cell 0;have c1:=KX1.o.cell 1;have cx:=KX1.o.lt;simp at c0 c1)|(go_at_call 77;refine CB.o.mono ?_;rintro e w2 ⟨g2,vb2,rfl,r2,n1,n2,b2⟩;have KF2:=yB KF1 b2;have R2:=yH r2;have B2:=yH b2;have NM:=yH (And.intro n1 n2);clear r2 b2 n1 n2;have z0:=KF2.o.cell 0;have z1:=KF2.o.cell 1;have zx:=KF2.o.lt;have zf:=KF2.o.frozen;simp at z0 z1))
 all_goals
  go_wp2;refine bodyPost_ret (v:=.agg #[.pointer (some ⟨g1,0,none⟩),.pointer (some ⟨g2,0,none⟩)]) (results_cell_row rfl _ _ (w.heap.size+1) 80 #[.pointer (some ⟨g1,0,none⟩),.pointer (some ⟨g2,0,none⟩)] (0,0) _ rfl ((KF2.o.set 0 _).set 1 _).out Tryz.underlying80 rfl zW) rfl ?_
  have kk:Keep (·=w.heap.size+1) w2 ((w2.setCell ⟨w.heap.size+1,0,none⟩ (.pointer (some ⟨g1,0,none⟩))).setCell ⟨w.heap.size+1,1,none⟩ (.pointer (some ⟨g2,0,none⟩))):=by
   refine Keep.setCell (S:=(·=w.heap.size+1)) ?_ (p:=⟨w.heap.size+1,1,none⟩) (.inl rfl) _;exact Keep.setCell (S:=(·=w.heap.size+1)) (Keep.refl _ _) (p:=⟨w.heap.size+1,0,none⟩) (.inl rfl) _
  have s1:=B1.o.size;have s2:=BB.o.size;obtain⟨n1,n2⟩:=NN.o;obtain⟨m1,m2⟩:=NM.o;have hd:W2.drew.heap.size=W2.heap.size:=rfl;rw[hd]at s2 n1 n2;have R3:=R2.o.keep kk zQ (fun b h=>uF (m2 b h))
  exact⟨_,_,_,_,rfl,(R1.o.below B2.o).keep kk zQ zQ,⟨R3.blk,zQ,aT3 R3.row (fun b hb=>uF (m2 b hb))⟩,zQ,zQ,
   (B1.o.trans (((pAA BB.o).trans (B2.o.mono s2)).mono s1)).trans (kk.below zQ (fun k hk h=>zQ))⟩
end Go.Proofs.YtngnfdnfpiiclaaGreat
