/- Pieces of one proof. -/
import Derived.Test.YtngnfdnfpiiclaaGreatB11
import Derived.Shelf.Abstract
set_option linter.all false
set_option maxHeartbeats 64000000
set_option maxRecDepth 100000
namespace Go.Proofs.YtngnfdnfpiiclaaGreat
open Go.RowKit
noncomputable def atK(cs:List Cm)(k:Nat):Hs:=cmdsF ⟨[],[],[],1⟩ ((cs.take k).map Cm.xs)
theorem atK_inv(cs:List Cm)(k:Nat):HInv (atK cs k):=aQ8 HInv.start _
theorem atK_next(cs:List Cm){k:Nat}(h:k<cs.length):atK cs (k+1)=(aBh (atK cs k) cs[k].xs).1:=by
 unfold atK;rw[List.map_take,List.map_take,cmdsF_take _ _ (by simpa using h)];simp
def CmAt(Is:World→Nat→Hs→Prop)(W:World)(g:Nat)(cs:List Cm)(i:Value)(wr:World):Prop:=∃k:Nat,k≤cs.length∧i=.int .i64 k∧Is wr g (atK cs k)∧Keep (·=g) W wr
def BtAt(Is:World→Nat→Hs→Prop)(W:World)(gn:Nat)(σ:Hs)(xs:List Stp)(i:Value)(wr:World):Prop:=∃(k:Nat) (τ:Hs) (hs:List Gt),k≤xs.length∧i=.int .i64 k∧runF σ xs 0 []=runF τ (xs.drop k) k hs∧hs.length=k∧HInv τ∧Is wr gn τ∧Keep (·=gn) W wr
theorem aFl.below{w w':World}{σ:Hs}{vp vl vo:Value}(h:aFl w σ vp vl vo)(k:Below w.heap.size w w'):aFl w' σ vp vl vo:=⟨h.p.below k,h.l.below k,h.o.below k⟩
theorem HInv.lens{σ:Hs}(h:HInv σ):σ.ps.length≤100000000∧σ.ls.length≤100000000∧σ.l.length≤100000000:=by
 have h1:=open_all h.li.bd h.li.rise;have h2:=aNv σ.ps 0 17;rw[h1]at h2;have h3:=h.li.len;have h4:=h.bi.len;omega
theorem aM4{Is:World→Nat→Hs→Prop}(M:aGh (fun _=>True) Is){w:World}{g:Nat}{σ:Hs}(h:Is w g σ)(hi:HInv σ):Calls Tryz.prog 21 #[.pointer (some ⟨g,0,none⟩)] w fun e w'=>∃v,e=.returned v∧(∃p l o,v=.agg #[p,l,o,.int .u64 σ.N]∧aFl w' σ p l o)∧Below w.heap.size w w':=
 (M.state h hi).mono fun e w' ⟨p,l,o,he,h1,h2,h3,hb⟩=>⟨_,he,⟨p,l,o,rfl,h1.reads hi.lens.1,h2.reads hi.lens.2.1,h3.reads hi.lens.2.2⟩,hb⟩
theorem runF_at{σ τ:Hs}{xs:List Stp}{k:Nat}{hs:List Gt}{gt:Gt}{R:Hs×Int×Nat×List Gt}(hl:1≤xs.length∧xs.length≤8)(h:runF σ xs 0 []=runF τ (xs.drop (k+1)) (k+1) (hs++[gt]))(ha:aBh σ xs=R)(he:R.2.1=0)(hk:hs.length=k):
  R.2.2.2.length=xs.length∧R.2.2.2[k]? = some gt:=by
 have hr:aBh σ xs=runF σ xs 0 []:=by
  unfold aBh at ha ⊢;rw[if_neg (by omega)]at ha ⊢
  by_cases e:(runF σ xs 0 []).2.1≠0
  ·rw[if_pos e]at ha;rw[←ha]at he;exact absurd he e
  rw[if_neg e]
 rw[←ha,hr]at he ⊢;have h1:=runF_len xs he;refine⟨by simpa using h1.1,?_⟩;rw[h]at he ⊢;obtain⟨tl,e⟩:=aOj _ he;rw[e,List.append_assoc,List.getElem?_append_right (by omega),hk,Nat.sub_self];rfl
theorem aRb{w w':World}{a:Option Addr}{len cap:Nat}{cs:List Cm}(h:SlIn Cm.vals 1 (Cm.In w) w a len cap cs)(k:Below w.heap.size w w'):SlIn Cm.vals 1 (Cm.In w') w' a len cap cs:=by
 obtain⟨h0,h1,h2,h3,h4,h5⟩:=SlIn.below h k;exact⟨h0,h1,fun x hx=>(h2 x hx).below k,h3,h4,h5⟩
theorem aTm{Is:World→Nat→Hs→Prop}(HM:aGh (fun _=>True) Is)(HL:aPl)(a:Option Addr)(len cap:Nat)(cs:List Cm)(xa:Option Addr)(xn xc:Nat)(xs:List Stp)(w:World)(h:SlIn Cm.vals 1 (Cm.In w) w a len cap cs)(hx:SlIn Stp.vals 10 Stp.Fits w xa xn xc xs):
  Calls Tryz.prog 7 #[.slice a len cap,.agg #[.slice xa xn xc]] w (yR w (.bool true)):=by
 have hlen:cs.length=len:=h.2.1;subst hlen;have MP:=yH HM;have LV:=yH HL;have b1:=(Below.refl w.heap.size w).alloc yL (.cells #[.slice xa xn xc] 32);have KX:=yH (Blk.new w #[.slice xa xn xc] 32);have B1:=yH b1;have HS:=yH h;have HX:=yH hx;have HXL:Hid (xs.length=xn):=yH hx.2.1;clear HM HL h hx b1;go_enter Tryz.func7,Tryz.ntmps7
 go_upto_region 1 with fail
 generalize w.alloc (.cells #[.slice xa xn xc] 32)=W at *;have CG:=yH (aTl (aRb HS.out B1.out));have x0:=KX.out.cell 0;have xl:=KX.out.lt;simp at x0;go_wp2_with fail;refine CG.out.mono ?_;rintro e w1 ⟨b,rfl,hb,rfl⟩;have GS:=yH hb;clear CG hb
 cases b with
 | true=>
  go_wp2_with fail;refine(LV.out _).mono ?_;rintro e w2 ⟨rfl,b2⟩;go_wp2_with fail;go_ret;exact⟨rfl,B1.out.trans (b2.mono B1.out.size)⟩
 | false=>
  by_cases h8:8<xn
  ·have q8:decide ((8:Int)<(xn:Int))=true:=by simp;omega
   go_wp2_with fail;refine(LV.out _).mono ?_;rintro e w2 ⟨rfl,b2⟩;go_wp2_with fail;go_ret;exact⟨rfl,B1.out.trans (b2.mono B1.out.size)⟩
  have q8:decide ((8:Int)<(xn:Int))=false:=by simp;omega
  by_cases hz:xn=0
  ·go_wp2_with fail;refine(LV.out _).mono ?_;rintro e w2 ⟨rfl,b2⟩;go_wp2_with fail;go_ret;exact⟨rfl,B1.out.trans (b2.mono B1.out.size)⟩
  have q0:((xn:Int)==0)=false:=by simp;omega
  have H8:Hid (1≤xn∧xn≤8):=yH ⟨by omega,by omega⟩;clear h8 hz;go_wp2_with fail;refine(MP.out.new _).mono ?_;rintro e w2 ⟨g,rfl,hg,hg0,b2⟩;have KX2:=yB KX b2;have B2:=yT B1 b2;have HG:=yH hg;have G0:Hid (w.heap.size+1≤g):=yH (by have:=B1.out.size;omega);clear x0 xl q8 q0 b2 hg hg0 KX B1;go_wp2_with fail
  go_loopw [6] (fun i wr=>CmAt Is w2 g cs i wr) (fun i _=>cs.length - (intOf i).toNat)
  case atStart=>exact⟨0,by omega,rfl,HG.out,Keep.refl _ _⟩
  obtain⟨k,hk,rfl,hi,kk⟩:=hrel;have BR:=yH (B2.out.trans (kk.below B2.out.size (fun j hj e=>by have:=G0.out;omega)))
  by_cases hkl:k<cs.length
  ·have hki:(k:Int)<(cs.length:Int):=by omega
   have hk0:(0:Int)≤(k:Int):=by omega
   obtain⟨_,_,hin,_,_,hcell⟩:=aRb HS.out BR.out;obtain⟨b,off,rfl,hb,hc⟩:=hcell (by omega);have c0:=hc k hkl 0 _ rfl;rw[Nat.mul_one,Nat.add_zero]at c0;have CA:=yH (MP.out.apply hi (atK_inv cs k) cs[k] (hin _ (List.getElem_mem hkl)) (fun _ _=>trivial));have NX:=yH (atK_next cs hkl);have KK:=yH kk;have HK:=yH hkl;have hl:=(GS.out rfl).1;clear hin hc hcell hi kk;generalize cs[k]=y at CA c0 NX;clear hkl;go_wp2_with fail;refine CA.out.mono ?_;rintro e w3 ⟨v,rfl,_,hI,k3⟩;have NI:=yH (NX.out ▸ hI);have K3:=yH (KK.out.trans k3);clear hI k3 c0 CA;go_wp2_with fail;exact⟨⟨k+1,by omega,by go_num,NI.out,K3.out⟩,by simp[intOf];omega⟩
  have hkn:k=cs.length:=by omega
  subst hkn;have SI:=yH (atK_inv cs cs.length);have CS:=yH (MP.out.state hi SI.out);have IG:=yH hi;have K4:=yH kk;generalize atK cs cs.length=σ at SI CS IG;clear hi kk hkl hk;go_wp2_with fail;refine CS.out.mono ?_;rintro e w5 ⟨vp,vl,vo,rfl,tp,tl,tf,b5⟩;have gw:=MP.out.lt IG.out;have hs5:=b5.size;have kx2:=KX2.out.lt;have gx:=G0.out;have KX3:=yH ((KX2.out.keep K4.out (by omega)).below b5 (yM kx2 K4.out.size))
  go_upto_region 9 with(refine aAa rfl 46 (.tmp 7) (.tmp 41) rfl w5.heap.size #[vp,vl,vo,.int .u64 σ.N] rfl rfl 46 _ (Blk.new w5 #[.slice none 0 0,.slice none 0 0,.slice none 0 0,.int .u64 0] 46).out (by kernel_rfl) rfl (by first|(simp[Value.oneCell'];done)|(obtain⟨_,_,rfl⟩:=tp.shape;obtain⟨_,_,rfl⟩:=tl.shape;obtain⟨_,_,rfl⟩:=tf.shape;simp[Value.oneCell'])) ?_)
  have b6:Below w5.heap.size w5 ((w5.alloc (.cells #[.slice none 0 0,.slice none 0 0,.slice none 0 0,.int .u64 0] 46)).setRow w5.heap.size #[vp,vl,vo,.int .u64 σ.N]):=below_setRow ((Below.refl w5.heap.size w5).alloc yL (.cells #[.slice none 0 0,.slice none 0 0,.slice none 0 0,.int .u64 0] 46)) yL _;have KW:=yH ((Blk.new w5 #[.slice none 0 0,.slice none 0 0,.slice none 0 0,.int .u64 0] 46).row (cs:=#[vp,vl,vo,.int .u64 σ.N]));generalize (w5.alloc (.cells #[.slice none 0 0,.slice none 0 0,.slice none 0 0,.int .u64 0] 46)).setRow w5.heap.size #[vp,vl,vo,.int .u64 σ.N]=w6 at *;have b56:=b5.trans (b6.mono hs5);have TP:=yH (tp.below b6);have TL:=yH (tl.below b6);have TF:=yH (tf.below b6);have KX6:=yB KX3 b6;have IG6:=yH (MP.out.below IG.out b56);have B6:=yT BR b56;have GW:Hid (g<wr.heap.size∧wr.heap.size≤w5.heap.size):=yH ⟨gw,hs5⟩
  have OW:Hid (∀b,vp.ownBlock=some b∨vl.ownBlock=some b∨vo.ownBlock=some b→b<w6.heap.size):=yH (fun b hb=>by
   rcases hb with hb|hb|hb
   ·exact(TP.out.own hb).2.1
   ·exact(TL.out.own hb).2.1
   exact(TF.out.own hb).2.1)
  have CC:=yH (MP.out.copy IG6.out SI.out);clear tp tl tf b5 b6 b56 hs5 kx2 gw gx KX3 CS;go_wp2_with fail;refine CC.out.mono ?_;rintro e w7 ⟨gn,rfl,hn,hgn,b7⟩;have KX7:=yB KX6 b7;have KW7:=yB KW b7;have IG7:=yH (MP.out.below IG6.out b7);have IN7:=yH hn;have TP7:=yH (TP.out.below b7);have TL7:=yH (TL.out.below b7);have TF7:=yH (TF.out.below b7);have B7:=yT B6 b7;have HN:Hid (w6.heap.size≤gn∧w5.heap.size<w6.heap.size):=yH ⟨hgn,KW.out.lt⟩;have CA:=yH (MP.out.apply IG7.out SI.out ⟨xa,xn,xc,xs⟩ (SlIn.below HX.out B7.out) (fun _ _=>trivial));clear hn hgn b7 CC KX6 KW IG6 TP TL TF B6;have x0:=KX7.out.cell 0;simp at x0;go_wp2_with fail;refine CA.out.mono ?_;rintro e w8 ⟨v,rfl,tv,ig,k8⟩
  change Told w8 w7.heap.size 93 2 v (aBh σ xs).2.2.2.length (aAr (aBh σ xs).2.2.2)at tv
  change Is w8 g (aBh σ xs).1 at ig
  generalize hA:aBh σ xs=A at *;obtain⟨σ2,E,At,gs⟩:=A
  change Told w8 w7.heap.size 93 2 v gs.length (aAr gs)at tv
  change Is w8 g σ2 at ig
  have EA:=yH hA;have gnl:=MP.out.lt IN7.out;obtain⟨gw1,gw2⟩:=GW.out;obtain⟨hn1,hn2⟩:=HN.out;have gx:=G0.out;have in8:=MP.out.other IN7.out IG7.out (by omega) k8;have KX8:=yH (KX7.out.keep k8 (by omega));have KW8:=yH (KW7.out.keep k8 (by omega));have tp:=TP7.out.keep k8 (fun b hb e=>by have:=(TP7.out.own hb).1;omega);have tl:=TL7.out.keep k8 (fun b hb e=>by have:=(TL7.out.own hb).1;omega);have tf:=TF7.out.keep k8 (fun b hb e=>by have:=(TF7.out.own hb).1;omega);have b8:Below w.heap.size w w8:=B7.out.trans (k8.below B7.out.size (fun j hj e=>by omega));have hs8:=k8.size;clear IN7 IG7 KX7 KW7 TP7 TL7 TF7 B7 k8 hA x0 CA IG
  go_upto_region 11 with(refine aAa rfl 36 (.tmp 9) (.tmp 46) rfl w8.heap.size #[.int .i64 E,.int .i64 (At:Nat),v] rfl rfl 36 _ (Blk.new w8 #[.int .i64 0,.int .i64 0,.slice none 0 0] 36).out (by kernel_rfl) rfl (by obtain⟨_,_,rfl⟩:=tv.shape;simp[Value.oneCell']) ?_)
  have b9:Below w8.heap.size w8 ((w8.alloc (.cells #[.int .i64 0,.int .i64 0,.slice none 0 0] 36)).setRow w8.heap.size #[.int .i64 E,.int .i64 (At:Nat),v]):=below_setRow ((Below.refl w8.heap.size w8).alloc yL (.cells #[.int .i64 0,.int .i64 0,.slice none 0 0] 36)) yL _;have KR:=yH ((Blk.new w8 #[.int .i64 0,.int .i64 0,.slice none 0 0] 36).row (cs:=#[.int .i64 E,.int .i64 (At:Nat),v]));generalize (w8.alloc (.cells #[.int .i64 0,.int .i64 0,.slice none 0 0] 36)).setRow w8.heap.size #[.int .i64 E,.int .i64 (At:Nat),v]=w9 at *;have KX9:=yB KX8 b9;have KW9:=yB KW8 b9;have TP:=yH (tp.below b9);have TL:=yH (tl.below b9);have TF:=yH (tf.below b9);have TV:=yH (tv.below b9);have IG:=yH (MP.out.below ig b9);have IN:=yH (MP.out.below in8 b9);have B9:=yH (b8.trans (b9.mono b8.size));have HZ:Hid (g<gn∧gn<w7.heap.size∧w7.heap.size≤w8.heap.size∧w.heap.size<g∧w6.heap.size≤gn∧w5.heap.size<w6.heap.size):=yH ⟨by omega,gnl,hs8,by omega,hn1,hn2⟩;clear gnl tp tl tf tv ig in8 b8 b9 gw1 gw2 hn1 hn2 gx hs8 KX8 KW8;go_wp2_with fail
  go_loopw [10] (fun i wr=>BtAt Is w9 gn σ xs i wr) (fun i _=>xn - (intOf i).toNat)
  case atStart=>exact⟨0,σ,[],by omega,rfl,rfl,rfl,SI.out,IN.out,Keep.refl _ _⟩
  obtain⟨k,τ,hs,hk,rfl,hrun,hsl,hti,hin,kk⟩:=hrel;have hz:=HZ.out;have BR2:=yH (B9.out.trans (kk.below B9.out.size (fun j hj e=>by omega)));have hxl:=HXL.out;have KXa:=yH (KX9.out.keep kk (by omega));have KRa:=yH (KR.out.keep kk (by omega));have x0:=KXa.out.cell 0;simp at x0
  by_cases hkl:k<xs.length
  ·have hki:(k:Int)<(xn:Int):=by omega
   have hk0:(0:Int)≤(k:Int):=by omega
   obtain⟨_,_,hfit,_,_,hcell⟩:=SlIn.below HX.out BR2.out;obtain⟨b,off,hxa,hb,hc⟩:=hcell (by omega);subst hxa;have RD:=yH (aQ6 (τ:=τ) (xs:=xs) (k:=k) (i:=k) (gs:=hs) hkl);have FS:=yH (hfit _ (List.getElem_mem hkl));have c0:=hc k hkl 0;have c1:=hc k hkl 1;have c2:=hc k hkl 2;have c3:=hc k hkl 3;have c4:=hc k hkl 4;have c5:=hc k hkl 5;have c6:=hc k hkl 6;have c7:=hc k hkl 7;have c8:=hc k hkl 8;have c9:=hc k hkl 9;generalize xs[k]=s at RD FS c0 c1 c2 c3 c4 c5 c6 c7 c8 c9;obtain⟨kd,sa,sb,sc,sd,sn,sm,su,se,sq⟩:=s
   replace c0:=c0 _ rfl
   replace c1:=c1 _ rfl
   replace c2:=c2 _ rfl
   replace c3:=c3 _ rfl
   replace c4:=c4 _ rfl
   replace c5:=c5 _ rfl
   replace c6:=c6 _ rfl
   replace c7:=c7 _ rfl
   replace c8:=c8 _ rfl
   replace c9:=c9 _ rfl
   rw[Nat.add_zero]at c0;have TI:=yH hti;have IT:=yH hin;have RU:=yH hrun;have SL:=yH hsl;have KK:=yH kk;have HK:=yH hkl;clear hfit hcell hc hti hin hrun hsl kk hkl hk;go_wp2_with fail;have hA1:Below wr.heap.size wr (wr.alloc (.cells #[.int .u8 kd,.int .u8 sa,.int .u8 sb,.int .u8 sc,.int .u8 sd,.int .i64 sn,.int .i64 sm,.int .i64 su,.int .i64 se,.int .u64 sq] 87)):=(Below.refl wr.heap.size wr).alloc yL (.cells #[.int .u8 kd,.int .u8 sa,.int .u8 sb,.int .u8 sc,.int .u8 sd,.int .i64 sn,.int .i64 sm,.int .i64 su,.int .i64 se,.int .u64 sq] 87);have KS:=yH (Blk.new wr #[.int .u8 kd,.int .u8 sa,.int .u8 sb,.int .u8 sc,.int .u8 sd,.int .i64 sn,.int .i64 sm,.int .i64 su,.int .i64 se,.int .u64 sq] 87);generalize wr.alloc (.cells #[.int .u8 kd,.int .u8 sa,.int .u8 sb,.int .u8 sc,.int .u8 sd,.int .i64 sn,.int .i64 sm,.int .i64 su,.int .i64 se,.int .u64 sq] 87)=w10 at *;refine(aM3 _ _ _ _).mono ?_;rintro e w11 ⟨rfl,b11⟩;have b9a:=hA1.trans (b11.mono hA1.size);have hks:=KS.out.lt;have KSb:=yH (KS.out.below b11 hks);have IT1:=yH (MP.out.below IT.out b9a)
   have hin:SlIn Stp.vals 10 Stp.Fits w11 (some ⟨wr.heap.size,0,none⟩) 1 1 [⟨kd,sa,sb,sc,sd,sn,sm,su,se,sq⟩]:=by
    refine⟨(fun e=>by cases e),rfl,(fun y hy=>?_),Nat.le_refl _,by decide,fun _=>⟨_,_,rfl,KSb.out.lt,fun i hi j u hu=>?_⟩⟩
    ·rw[List.mem_singleton]at hy;subst hy;exact FS.out
    have hi0:i=0:=by simp at hi;omega
    subst hi0;rw[Nat.zero_mul,Nat.zero_add,KSb.out.cell];simpa [Stp.vals]using hu
   have CA:=yH (MP.out.apply IT1.out TI.out ⟨some ⟨wr.heap.size,0,none⟩,1,1,[⟨kd,sa,sb,sc,sd,sn,sm,su,se,sq⟩]⟩ hin (fun _ _=>trivial));have KXb:=yH ((KXa.out.below hA1 KXa.out.lt).below b11 (yM KXa.out.lt hA1.size));have KRb:=yH ((KRa.out.below hA1 KRa.out.lt).below b11 (yM KRa.out.lt hA1.size));have KKb:=yH (KK.out.trans (pAD b9a));clear hin b11 hA1 b9a hks KS KSb IT IT1 KXa KRa KK c0 c1 c2 c3 c4 c5 c6 c7 c8 c9 x0;go_wp2_with fail;refine CA.out.mono ?_;rintro e w12 ⟨v2,rfl,tv2,in2,k12⟩
   change Told w12 w11.heap.size 93 2 v2 (aBh τ [⟨kd,sa,sb,sc,sd,sn,sm,su,se,sq⟩]).2.2.2.length (aAr (aBh τ [⟨kd,sa,sb,sc,sd,sn,sm,su,se,sq⟩]).2.2.2)at tv2
   change Is w12 gn (aBh τ [⟨kd,sa,sb,sc,sd,sn,sm,su,se,sq⟩]).1 at in2
   have AO:=applyF_one τ ⟨kd,sa,sb,sc,sd,sn,sm,su,se,sq⟩;obtain⟨⟨ρ,gt,er⟩,hst⟩:∃r,aA7 τ ⟨kd,sa,sb,sc,sd,sn,sm,su,se,sq⟩=r:=⟨_,rfl⟩;rw[hst]at AO;rw[hst]at RD;have k12b:=yH (KKb.out.trans k12);have KXc:=yH (KXb.out.keep k12 (by omega));have KRc:=yH (KRb.out.keep k12 (by omega));clear CA k12 KKb KXb KRb
   by_cases hz0:er=0
   ·subst hz0;rw[if_neg (fun e=>e rfl)]at AO;rw[AO]at tv2 in2 ⊢;rw[if_neg (fun e=>e rfl)]at RD
    change Told w12 w11.heap.size 93 2 v2 1 (aAr [gt])at tv2
    change Is w12 gn ρ at in2
    go_upto_region 15 with(refine aAa rfl 36 (.tmp 11) (.tmp 62) rfl w12.heap.size #[.int .i64 0,.int .i64 0,v2] rfl rfl 36 _ (Blk.new w12 #[.int .i64 0,.int .i64 0,.slice none 0 0] 36).out (by kernel_rfl) rfl (by obtain⟨_,_,rfl⟩:=tv2.shape;simp[Value.oneCell']) ?_)
    have b13:Below w12.heap.size w12 ((w12.alloc (.cells #[.int .i64 0,.int .i64 0,.slice none 0 0] 36)).setRow w12.heap.size #[.int .i64 0,.int .i64 0,v2]):=below_setRow ((Below.refl w12.heap.size w12).alloc yL (.cells #[.int .i64 0,.int .i64 0,.slice none 0 0] 36)) yL _;have KQ:=yH ((Blk.new w12 #[.int .i64 0,.int .i64 0,.slice none 0 0] 36).row (cs:=#[.int .i64 0,.int .i64 0,v2]));generalize (w12.alloc (.cells #[.int .i64 0,.int .i64 0,.slice none 0 0] 36)).setRow w12.heap.size #[.int .i64 0,.int .i64 0,v2]=w13 at *;have k13:=k12b.out.trans (pAD b13);have KRd:=yB KRc b13;have KXd:=yB KXc b13;have I13:=yH (MP.out.below in2 b13);have RUN:=yH (RU.out.trans RD.out);have TW:=tv2.below b13;have TVd:=TV.out.keep k13 (fun b hb e=>by have:=(TV.out.own hb).1;omega);have NI:HInv ρ:=by have:=TI.out.step ⟨kd,sa,sb,sc,sd,sn,sm,su,se,sq⟩;rw[hst]at this;exact this
    have NH:=yH NI;have K13:=yH k13;have q0:=KQ.out.cell 0;simp at q0;clear tv2 in2 k13 b13 NI AO hst
    go_upto_region 17 with fail
    by_cases hE:E=0
    ·subst hE;have HH:=runF_at (by have:=H8.out;omega) RUN.out EA.out rfl SL.out;obtain⟨hh1,hh2⟩:=HH
     change gs.length=xs.length at hh1
     change gs[k]? = some gt at hh2
     have rv:=TVd.reads (by rw[hh1];have:=H8.out;omega);have rq:=TW.reads (by decide);rw[show gs.length=xn by rw[hh1];exact HXL.out]at rv;obtain⟨ao,ca,rfl,_,_,hv⟩:=rv;obtain⟨bo,cb,rfl,_,_,hu⟩:=rq;obtain⟨bv,ov,rfl,hbv,hcv⟩:=hv (by have:=H8.out;omega);obtain⟨bw,ow,rfl,hbw,hcw⟩:=hu (by decide);have hkg:k<gs.length:=by have:=HK.out;omega
     have hgk:gs[k]=gt:=by rw[List.getElem?_eq_getElem hkg]at hh2;exact Option.some.inj hh2
     have v0:=hcv (k*2+0) (by omega);have v1:=hcv (k*2+1) (by omega);have u0:=hcw 0 (by decide);have u1:=hcw 1 (by decide);rw[aE3 _ _ _ (by decide) hkg,hgk]at v0 v1;obtain⟨gx,gy⟩:=gt
     change w13.cell? ⟨bv,ov+k*2,none⟩=some (.int .i64 gx)at v0
     change w13.cell? ⟨bv,ov+(k*2+1),none⟩=some (.int .i64 gy)at v1
     change w13.cell? ⟨bw,ow,none⟩=some (.int .i64 gx)at u0
     change w13.cell? ⟨bw,ow+1,none⟩=some (.int .i64 gy)at u1
     rw[←Nat.add_assoc]at v1;have V0:=yH v0;have V1:=yH v1;have U0:=yH u0;have U1:=yH u1;clear v0 v1 u0 u1 hcv hcw hv hu hh1 hh2 hgk hkg TVd TW
     refine aAm (by kernel_rfl) [(.pointer (some ⟨w8.heap.size,0,none⟩)),(.int .i64 0),(.bool true),(.bool true),(.pointer (some ⟨w8.heap.size,2,none⟩)),(.slice (some ⟨bv,ov,none⟩) xn ca),(.int .i64 xn),(.pointer (some ⟨w.heap.size,0,none⟩)),(.slice (some ⟨b,off,none⟩) xn xc),(.int .i64 xn),(.bool false),(.bool false),(.pointer (some ⟨w12.heap.size,2,none⟩)),(.slice (some ⟨bw,ow,none⟩) 1 cb),(.int .i64 1),(.bool false),(.bool false),(.bool false),(.pointer (some ⟨w8.heap.size,2,none⟩)),(.slice (some ⟨bv,ov,none⟩) xn ca),(.int .i64 k),(.pointer (some ⟨bv,ov+k*2,none⟩)),(.agg #[.int .i64 gx,.int .i64 gy]),(.pointer (some ⟨w12.heap.size,2,none⟩)),(.slice (some ⟨bw,ow,none⟩) 1 cb),(.pointer (some ⟨bw,ow,none⟩)),(.agg #[.int .i64 gx,.int .i64 gy]),(.bool false),(.bool false),(.bool false)]
      (fun w'=>Below w13.heap.size w13 w') (by kernel_rfl) yZ.drew ?_
     intro af haf;simp only[yG,List.append_eq,List.cons_append,List.nil_append,puts,Act.put,yA,yC,yF,yD,yE]at haf;subst haf;refine⟨?_,?_⟩
     ·simp only[yG,List.append_eq,List.cons_append,List.nil_append,aBf];refine⟨?z1,?_,?z2,?z3,?z5,?z23,?z6,?z7,?_,?z8,?z9,?z10,?z11,?z25,?z12,?z13,?z14,?z15,?z16,?z24,?z17,?z18,?_,?z19,?z26,?z20,?_,?z21,?z22,?z4,trivial⟩
      case z1|z2|z3|z4=>
       intro w' hS;refine yO rfl ?_;have HS:=yH hS;clear hS;go_wp2_with fail;all_goals first|exact HS|exact⟨rfl,HS⟩|rfl|exact⟨by omega,HS.out⟩
      case z5|z6|z7|z8|z9|z10|z11|z12|z13|z14|z15|z16|z17|z18|z19|z20|z21|z22=>
       intro w' hS;refine OpTo.wanted ?_ ?_
       kernel_rfl
       have HS:=yH hS;clear hS;go_wp2_with fail;all_goals first|exact HS|exact⟨rfl,HS⟩|rfl|exact⟨by omega,HS.out⟩
      case z23|z24=>
       intro w' hS;refine OpTo.wanted ?_ ?_
       kernel_rfl
       have d0_0:=(KRd.out.below hS KRd.out.lt).cell 0;have d0_1:=(KRd.out.below hS KRd.out.lt).cell 1;have d0_2:=(KRd.out.below hS KRd.out.lt).cell 2;simp at d0_0 d0_1 d0_2;have HS:=yH hS;clear hS;go_wp2_with fail;all_goals first|exact HS|exact⟨rfl,HS⟩|rfl|exact⟨by omega,HS.out⟩
      case z25|z26=>
       intro w' hS;refine OpTo.wanted ?_ ?_
       kernel_rfl
       have d0_0:=(KQ.out.below hS KQ.out.lt).cell 0;have d0_1:=(KQ.out.below hS KQ.out.lt).cell 1;have d0_2:=(KQ.out.below hS KQ.out.lt).cell 2;simp at d0_0 d0_1 d0_2;have HS:=yH hS;clear hS;go_wp2_with fail;all_goals first|exact HS|exact⟨rfl,HS⟩|rfl|exact⟨by omega,HS.out⟩
      ·intro w' hS;refine yO rfl ?_;have d0_0:=(KRd.out.below hS KRd.out.lt).cell 0;have d0_1:=(KRd.out.below hS KRd.out.lt).cell 1;have d0_2:=(KRd.out.below hS KRd.out.lt).cell 2;simp at d0_0 d0_1 d0_2;have HS:=yH hS;clear hS;go_wp2_with fail;all_goals first|exact HS|exact⟨rfl,HS⟩|rfl|exact⟨by omega,HS.out⟩
      ·intro w' hS;refine OpTo.wanted ?_ ?_
       kernel_rfl
       have d0_0:=(KXd.out.below hS KXd.out.lt).cell 0;simp at d0_0;have HS:=yH hS;clear hS;go_wp2_with fail;all_goals first|exact HS|exact⟨rfl,HS⟩|rfl|exact⟨by omega,HS.out⟩
      ·intro w' hS;refine OpTo.wanted ?_ ?_
       kernel_rfl
       have e0:=(hS.cell (p:=⟨bv,ov+k*2,none⟩) hbv).trans V0.out;have e1:=(hS.cell (p:=⟨bv,ov+k*2+1,none⟩) hbv).trans V1.out;have HS:=yH hS;clear hS;go_wp2_with fail;all_goals first|exact HS|exact⟨rfl,HS⟩|rfl|exact⟨by omega,HS.out⟩
      intro w' hS;refine OpTo.wanted ?_ ?_
      kernel_rfl
      have e0:=(hS.cell (p:=⟨bw,ow,none⟩) hbw).trans U0.out;have e1:=(hS.cell (p:=⟨bw,ow+1,none⟩) hbw).trans U1.out;have HS:=yH hS;clear hS;go_wp2_with fail;all_goals first|exact HS|exact⟨rfl,HS⟩|rfl|exact⟨by omega,HS.out⟩
     intro w14 hS;have B14:=yH hS;clear hS
     try dsimp only
     go_wp2_with fail;have hsl:=SL.out;exact⟨⟨k+1,ρ,hs++[⟨gx,gy⟩],by omega,by go_num,RUN.out,by rw[List.length_append,hsl];rfl,NH.out,MP.out.below I13.out B14.out,K13.out.trans (pAD B14.out)⟩,by simp[intOf];omega⟩
    have qE:(E==0)=false:=by simpa using hE
    have hx8:xn≤8:=H8.out.2;clear TW TVd
    refine aAm (by kernel_rfl) [(.pointer (some ⟨w8.heap.size,0,none⟩)),(.int .i64 E),(.bool false),(.bool false),undef,undef,undef,undef,undef,undef,undef,undef,undef,undef,undef,undef,undef,undef,undef,undef,undef,undef,undef,undef,undef,undef,undef,undef,undef,(.bool false)]
     (fun w'=>Below w13.heap.size w13 w') (by kernel_rfl) yZ.drew ?_
    intro af haf;simp only[yG,List.append_eq,List.cons_append,List.nil_append,puts,Act.put,yA,yC,yF,yD,yE]at haf;subst haf;refine⟨?_,?_⟩
    ·simp only[yG,List.append_eq,List.cons_append,List.nil_append,aBf];refine⟨?z27,?_,?z28,?z29,?z31,?z32,?z33,?z34,?z35,?z36,?z37,?z38,?z39,?z40,?z41,?z42,?z43,?z44,?z45,?z46,?z47,?z48,?z49,?z50,?z51,?z52,?z53,?z54,?z55,?z30,trivial⟩
     case z27|z28|z29|z30=>
      intro w' hS;refine yO rfl ?_;have HS:=yH hS;clear hS;go_wp2_with fail;all_goals first|exact HS|exact⟨rfl,HS⟩|rfl|exact⟨by omega,HS.out⟩
     case z31|z32|z33|z34|z35|z36|z37|z38|z39|z40|z41|z42|z43|z44|z45|z46|z47|z48|z49|z50|z51|z52|z53|z54|z55=>
      intro w' hS;refine pAC (by kernel_rfl) rfl hS
     intro w' hS;refine yO rfl ?_;have d0_0:=(KRd.out.below hS KRd.out.lt).cell 0;have d0_1:=(KRd.out.below hS KRd.out.lt).cell 1;have d0_2:=(KRd.out.below hS KRd.out.lt).cell 2;simp at d0_0 d0_1 d0_2;have HS:=yH hS;clear hS;go_wp2_with fail;all_goals first|exact HS|exact⟨rfl,HS⟩|rfl|exact⟨by omega,HS.out⟩
    intro w14 hS;have B14:=yH hS;clear hS
    try dsimp only
    go_wp2_with fail;have hsl:=SL.out;exact⟨⟨k+1,ρ,hs++[gt],by omega,by go_num,RUN.out,by rw[List.length_append,hsl];rfl,NH.out,MP.out.below I13.out B14.out,K13.out.trans (pAD B14.out)⟩,by simp[intOf];omega⟩
   rw[if_pos hz0]at AO;rw[AO]at tv2 in2 ⊢;rw[if_pos hz0]at RD;have hE:=aOk (k:=k) (by have:=H8.out;omega) (RU.out.trans RD.out) hz0;have hE2:=EA.out.symm.trans hE;simp only[Prod.mk.injEq]at hE2;obtain⟨z1,z2,z3,z4⟩:=hE2;subst σ2;subst E;subst At;subst gs
   go_upto_region 15 with(refine aAa rfl 36 (.tmp 11) (.tmp 62) rfl w12.heap.size #[.int .i64 er,.int .i64 0,v2] rfl rfl 36 _ (Blk.new w12 #[.int .i64 0,.int .i64 0,.slice none 0 0] 36).out (by kernel_rfl) rfl (by obtain⟨_,_,rfl⟩:=tv2.shape;simp[Value.oneCell']) ?_)
   have b13:Below w12.heap.size w12 ((w12.alloc (.cells #[.int .i64 0,.int .i64 0,.slice none 0 0] 36)).setRow w12.heap.size #[.int .i64 er,.int .i64 0,v2]):=below_setRow ((Below.refl w12.heap.size w12).alloc yL (.cells #[.int .i64 0,.int .i64 0,.slice none 0 0] 36)) yL _;have KQ:=yH ((Blk.new w12 #[.int .i64 0,.int .i64 0,.slice none 0 0] 36).row (cs:=#[.int .i64 er,.int .i64 0,v2]));generalize (w12.alloc (.cells #[.int .i64 0,.int .i64 0,.slice none 0 0] 36)).setRow w12.heap.size #[.int .i64 er,.int .i64 0,v2]=w13 at *;have k13:=k12b.out.trans (pAD b13);have KRd:=yB KRc b13;have KWd:=yH (KW9.out.keep k13 (by omega));have IGd:=yH (MP.out.other IG.out IN.out (by omega) k13);have TPd:=TP.out.keep k13 (fun b hb e=>by have:=OW.out b (.inl hb);omega);have TLd:=TL.out.keep k13 (fun b hb e=>by have:=OW.out b (.inr (.inl hb));omega);have TFd:=TF.out.keep k13 (fun b hb e=>by have:=OW.out b (.inr (.inr hb));omega);have STd:=yH (show aFl w13 σ vp vl vo from⟨TPd.reads SI.out.lens.1,TLd.reads SI.out.lens.2.1,TFd.reads SI.out.lens.2.2⟩);obtain⟨ao,ca,rfl⟩:=(TV.out.keep k13 (fun b hb e=>by have:=(TV.out.own hb).1;omega)).shape;have B13:=yH (B9.out.trans (k13.below B9.out.size (fun j hj e=>by omega)));have q0:=KQ.out.cell 0;simp at q0;have qe:(er != 0)=true:=by simpa using hz0
   clear tv2 in2 TPd TLd TFd k13 b13
   go_upto_region 16 with fail
   have hlasts:∀q∈([(19,(fun v w=>∃p l o,v=.agg #[p,l,o,.int .u64 σ.N]∧aFl w σ p l o))]:List (Nat×(Value→World→Prop))),Lasts q.2:=by
    intro q hq;simp only[yI,yJ,or_false]at hq;rcases hq with rfl
    exact fun v w w' h k=>by obtain⟨p,l,o,e,hs⟩:=h;exact⟨p,l,o,e,hs.below k⟩
   have HL:=yH hlasts;clear hlasts
   refine aD8 (by kernel_rfl) (fun s:Nat→Value=>[(.pointer (some ⟨w8.heap.size,0,none⟩)),(.int .i64 er),(.pointer (some ⟨w12.heap.size,0,none⟩)),(.int .i64 er),(.bool true),(.bool true),(.pointer (some ⟨w8.heap.size,1,none⟩)),(.int .i64 (k:Nat)),(.int .i64 (k:Nat)),(.bool true),(.bool true),(.bool true),(.pointer (some ⟨w8.heap.size,2,none⟩)),(.slice ao 0 ca),(.int .i64 0),(.bool true),(.bool true),(.bool true),(.pointer (some ⟨g,0,none⟩)),s 19,(.agg #[vp,vl,vo,.int .u64 σ.N]),(.bool true),(.bool true),(.bool true),(.bool true),(.bool true),(.bool true)])
    (Got w13 [(19,(fun v w=>∃p l o,v=.agg #[p,l,o,.int .u64 σ.N]∧aFl w σ p l o))]) (by kernel_rfl) (fun _=>undef) (Got.start _ _ _) ?_
   intro AF hAF;simp only[yG,puts,Act.put,yA,yC,yF,yD,yE]at hAF;have hAF2:_=AF:=funext hAF;subst hAF2;clear hAF;refine⟨?_,?_⟩
   ·simp only[yG,aNi];refine⟨?_,?_,?_,?_,?_,?_,?_,?_,?_,?_,?_,?_,?_,?_,?_,?_,?_,?_,?_,?_,?_,?_,?_,?_,?_,?_,?_,trivial⟩
    ·intro s D w' hD hW hC hI;refine .inl ⟨s,fun _ _ _=>rfl,?_⟩;with_reducible refine yO rfl ?_
     have HS:=yH (hI.step HL.out yZ (k:=0) (by intro q hq;simp only[yI,yJ,or_false]at hq;rcases hq with rfl <;> first|exact(show(19:Nat)≠0 by decide)));clear hI hC hW hD;go_wp2_with fail;all_goals first|exact HS|exact⟨rfl,HS⟩|rfl
    ·intro s D w' hD hW hC hI;have hS:=hI.below;refine .inl ⟨s,fun _ _ _=>rfl,?_⟩;with_reducible refine yO rfl ?_
     have d0_0:=(KRd.out.below hS KRd.out.lt).cell 0;have d0_1:=(KRd.out.below hS KRd.out.lt).cell 1;have d0_2:=(KRd.out.below hS KRd.out.lt).cell 2;simp at d0_0 d0_1 d0_2;have HS:=yH (hI.step HL.out yZ (k:=1) (by intro q hq;simp only[yI,yJ,or_false]at hq;rcases hq with rfl <;> first|exact(show(19:Nat)≠1 by decide)));clear hI hS hC hW hD;go_wp2_with fail;all_goals first|exact HS|exact⟨rfl,HS⟩|rfl
    ·intro s D w' hD hW hC hI;refine .inl ⟨s,fun _ _ _=>rfl,?_⟩;with_reducible refine yO rfl ?_
     have HS:=yH (hI.step HL.out yZ (k:=2) (by intro q hq;simp only[yI,yJ,or_false]at hq;rcases hq with rfl <;> first|exact(show(19:Nat)≠2 by decide)));clear hI hC hW hD;go_wp2_with fail;all_goals first|exact HS|exact⟨rfl,HS⟩|rfl
    ·intro s D w' hD hW hC hI;have hS:=hI.below;refine .inl ⟨s,fun _ _ _=>rfl,?_⟩;with_reducible refine yO rfl ?_
     have d0_0:=(KQ.out.below hS KQ.out.lt).cell 0;have d0_1:=(KQ.out.below hS KQ.out.lt).cell 1;have d0_2:=(KQ.out.below hS KQ.out.lt).cell 2;simp at d0_0 d0_1 d0_2;have HS:=yH (hI.step HL.out yZ (k:=3) (by intro q hq;simp only[yI,yJ,or_false]at hq;rcases hq with rfl <;> first|exact(show(19:Nat)≠3 by decide)));clear hI hS hC hW hD;go_wp2_with fail;all_goals first|exact HS|exact⟨rfl,HS⟩|rfl
    ·intro s D w' hD hW hC hI;refine .inl ⟨s,fun _ _ _=>rfl,?_⟩;with_reducible refine yO rfl ?_
     have HS:=yH (hI.step HL.out yZ (k:=4) (by intro q hq;simp only[yI,yJ,or_false]at hq;rcases hq with rfl <;> first|exact(show(19:Nat)≠4 by decide)));clear hI hC hW hD;go_wp2_with fail;all_goals first|exact HS|exact⟨rfl,HS⟩|rfl
    ·intro s D w' hD hW hC hI;refine .inl ⟨s,fun _ _ _=>rfl,?_⟩;with_reducible refine yO rfl ?_
     have HS:=yH (hI.step HL.out yZ (k:=5) (by intro q hq;simp only[yI,yJ,or_false]at hq;rcases hq with rfl <;> first|exact(show(19:Nat)≠5 by decide)));clear hI hC hW hD;go_wp2_with fail;all_goals first|exact HS|exact⟨rfl,HS⟩|rfl
    ·intro s D w' hD hW hC hI;refine .inl ⟨s,fun _ _ _=>rfl,?_⟩;with_reducible refine OpTo.wanted ?_ ?_
     kernel_rfl
     have HS:=yH (hI.step HL.out yZ (k:=6) (by intro q hq;simp only[yI,yJ,or_false]at hq;rcases hq with rfl <;> first|exact(show(19:Nat)≠6 by decide)));clear hI hC hW hD;go_wp2_with fail;all_goals first|exact HS|exact⟨rfl,HS⟩|rfl
    ·intro s D w' hD hW hC hI;have hS:=hI.below;refine .inl ⟨s,fun _ _ _=>rfl,?_⟩;with_reducible refine OpTo.wanted ?_ ?_
     kernel_rfl
     have d0_0:=(KRd.out.below hS KRd.out.lt).cell 0;have d0_1:=(KRd.out.below hS KRd.out.lt).cell 1;have d0_2:=(KRd.out.below hS KRd.out.lt).cell 2;simp at d0_0 d0_1 d0_2;have HS:=yH (hI.step HL.out yZ (k:=7) (by intro q hq;simp only[yI,yJ,or_false]at hq;rcases hq with rfl <;> first|exact(show(19:Nat)≠7 by decide)));clear hI hS hC hW hD;go_wp2_with fail;all_goals first|exact HS|exact⟨rfl,HS⟩|rfl
    ·intro s D w' hD hW hC hI;refine .inl ⟨s,fun _ _ _=>rfl,?_⟩;with_reducible refine OpTo.wanted ?_ ?_
     kernel_rfl
     have HS:=yH (hI.step HL.out yZ (k:=8) (by intro q hq;simp only[yI,yJ,or_false]at hq;rcases hq with rfl <;> first|exact(show(19:Nat)≠8 by decide)));clear hI hC hW hD;go_wp2_with fail;all_goals first|exact HS|exact⟨rfl,HS⟩|rfl
    ·intro s D w' hD hW hC hI;refine .inl ⟨s,fun _ _ _=>rfl,?_⟩;with_reducible refine OpTo.wanted ?_ ?_
     kernel_rfl
     have HS:=yH (hI.step HL.out yZ (k:=9) (by intro q hq;simp only[yI,yJ,or_false]at hq;rcases hq with rfl <;> first|exact(show(19:Nat)≠9 by decide)));clear hI hC hW hD;go_wp2_with fail;all_goals first|exact HS|exact⟨rfl,HS⟩|rfl
    ·intro s D w' hD hW hC hI;refine .inl ⟨s,fun _ _ _=>rfl,?_⟩;with_reducible refine yO rfl ?_
     have HS:=yH (hI.step HL.out yZ (k:=10) (by intro q hq;simp only[yI,yJ,or_false]at hq;rcases hq with rfl <;> first|exact(show(19:Nat)≠10 by decide)));clear hI hC hW hD;go_wp2_with fail;all_goals first|exact HS|exact⟨rfl,HS⟩|rfl
    ·intro s D w' hD hW hC hI;refine .inl ⟨s,fun _ _ _=>rfl,?_⟩;with_reducible refine yO rfl ?_
     have HS:=yH (hI.step HL.out yZ (k:=11) (by intro q hq;simp only[yI,yJ,or_false]at hq;rcases hq with rfl <;> first|exact(show(19:Nat)≠11 by decide)));clear hI hC hW hD;go_wp2_with fail;all_goals first|exact HS|exact⟨rfl,HS⟩|rfl
    ·intro s D w' hD hW hC hI;refine .inl ⟨s,fun _ _ _=>rfl,?_⟩;with_reducible refine OpTo.wanted ?_ ?_
     kernel_rfl
     have HS:=yH (hI.step HL.out yZ (k:=12) (by intro q hq;simp only[yI,yJ,or_false]at hq;rcases hq with rfl <;> first|exact(show(19:Nat)≠12 by decide)));clear hI hC hW hD;go_wp2_with fail;all_goals first|exact HS|exact⟨rfl,HS⟩|rfl
    ·intro s D w' hD hW hC hI;have hS:=hI.below;refine .inl ⟨s,fun _ _ _=>rfl,?_⟩;with_reducible refine OpTo.wanted ?_ ?_
     kernel_rfl
     have d0_0:=(KRd.out.below hS KRd.out.lt).cell 0;have d0_1:=(KRd.out.below hS KRd.out.lt).cell 1;have d0_2:=(KRd.out.below hS KRd.out.lt).cell 2;simp at d0_0 d0_1 d0_2;have HS:=yH (hI.step HL.out yZ (k:=13) (by intro q hq;simp only[yI,yJ,or_false]at hq;rcases hq with rfl <;> first|exact(show(19:Nat)≠13 by decide)));clear hI hS hC hW hD;go_wp2_with fail;all_goals first|exact HS|exact⟨rfl,HS⟩|rfl
    ·intro s D w' hD hW hC hI;refine .inl ⟨s,fun _ _ _=>rfl,?_⟩;with_reducible refine OpTo.wanted ?_ ?_
     kernel_rfl
     have HS:=yH (hI.step HL.out yZ (k:=14) (by intro q hq;simp only[yI,yJ,or_false]at hq;rcases hq with rfl <;> first|exact(show(19:Nat)≠14 by decide)));clear hI hC hW hD;go_wp2_with fail;all_goals first|exact HS|exact⟨rfl,HS⟩|rfl
    ·intro s D w' hD hW hC hI;refine .inl ⟨s,fun _ _ _=>rfl,?_⟩;with_reducible refine OpTo.wanted ?_ ?_
     kernel_rfl
     have HS:=yH (hI.step HL.out yZ (k:=15) (by intro q hq;simp only[yI,yJ,or_false]at hq;rcases hq with rfl <;> first|exact(show(19:Nat)≠15 by decide)));clear hI hC hW hD;go_wp2_with fail;all_goals first|exact HS|exact⟨rfl,HS⟩|rfl
    ·intro s D w' hD hW hC hI;refine .inl ⟨s,fun _ _ _=>rfl,?_⟩;with_reducible refine yO rfl ?_
     have HS:=yH (hI.step HL.out yZ (k:=16) (by intro q hq;simp only[yI,yJ,or_false]at hq;rcases hq with rfl <;> first|exact(show(19:Nat)≠16 by decide)));clear hI hC hW hD;go_wp2_with fail;all_goals first|exact HS|exact⟨rfl,HS⟩|rfl
    ·intro s D w' hD hW hC hI;refine .inl ⟨s,fun _ _ _=>rfl,?_⟩;with_reducible refine yO rfl ?_
     have HS:=yH (hI.step HL.out yZ (k:=17) (by intro q hq;simp only[yI,yJ,or_false]at hq;rcases hq with rfl <;> first|exact(show(19:Nat)≠17 by decide)));clear hI hC hW hD;go_wp2_with fail;all_goals first|exact HS|exact⟨rfl,HS⟩|rfl
    ·intro s D w' hD hW hC hI;refine .inl ⟨s,fun _ _ _=>rfl,?_⟩;with_reducible refine OpTo.wanted ?_ ?_
     kernel_rfl
     have HS:=yH (hI.step HL.out yZ (k:=18) (by intro q hq;simp only[yI,yJ,or_false]at hq;rcases hq with rfl <;> first|exact(show(19:Nat)≠18 by decide)));clear hI hC hW hD;go_wp2_with fail;all_goals first|exact HS|exact⟨rfl,HS⟩|rfl
    ·intro s D w' hD hW hC hI;have hS:=hI.below;have HI:=yH hI;have HCl:=yH hC;have HD:=yH hD;have HC:=yH (aM4 MP.out (MP.out.below IGd.out hS) SI.out);refine .inr ?_;with_reducible refine aEi.wanted ?_ ?_
     kernel_rfl
     clear hI hS hC hW hD;go_wp2_with fail;refine HC.out.mono ?_;rintro e w'' ⟨v,rfl,hv,hb2⟩;refine⟨v,rfl,updV s 19 v,vals_put _ (fun s:Nat→Value=>[(.pointer (some ⟨w8.heap.size,0,none⟩)),(.int .i64 er),(.pointer (some ⟨w12.heap.size,0,none⟩)),(.int .i64 er),(.bool true),(.bool true),(.pointer (some ⟨w8.heap.size,1,none⟩)),(.int .i64 (k:Nat)),(.int .i64 (k:Nat)),(.bool true),(.bool true),(.bool true),(.pointer (some ⟨w8.heap.size,2,none⟩)),(.slice ao 0 ca),(.int .i64 0),(.bool true),(.bool true),(.bool true),(.pointer (some ⟨g,0,none⟩)),s 19,(.agg #[vp,vl,vo,.int .u64 σ.N]),(.bool true),(.bool true),(.bool true),(.bool true),(.bool true),(.bool true)]) s 19 v HCl.out HD.out ?_,rfl,HI.out.put HL.out hb2 ?_⟩
     ·intro j hj
      match j,hj with
      | 0,_=>exact .inr rfl
      | 1,_=>exact .inr rfl
      | 2,_=>exact .inr rfl
      | 3,_=>exact .inr rfl
      | 4,_=>exact .inr rfl
      | 5,_=>exact .inr rfl
      | 6,_=>exact .inr rfl
      | 7,_=>exact .inr rfl
      | 8,_=>exact .inr rfl
      | 9,_=>exact .inr rfl
      | 10,_=>exact .inr rfl
      | 11,_=>exact .inr rfl
      | 12,_=>exact .inr rfl
      | 13,_=>exact .inr rfl
      | 14,_=>exact .inr rfl
      | 15,_=>exact .inr rfl
      | 16,_=>exact .inr rfl
      | 17,_=>exact .inr rfl
      | 18,_=>exact .inr rfl
      | 19,_=>exact .inl (.inl rfl)
      | 20,_=>exact .inr rfl
      | 21,_=>exact .inr rfl
      | 22,_=>exact .inr rfl
      | 23,_=>exact .inr rfl
      | 24,_=>exact .inr rfl
      | 25,_=>exact .inr rfl
      | 26,_=>exact .inr rfl
      | j+27,_=>exact .inr rfl
     intro q hq he;simp only[yI,yJ,or_false]at hq;rcases hq with rfl <;> first|exact hv
    ·intro s D w' hD hW hC hI;have hS:=hI.below;refine .inl ⟨s,fun _ _ _=>rfl,?_⟩;with_reducible refine OpTo.wanted ?_ ?_
     kernel_rfl
     have d0_0:=(KWd.out.below hS KWd.out.lt).cell 0;have d0_1:=(KWd.out.below hS KWd.out.lt).cell 1;have d0_2:=(KWd.out.below hS KWd.out.lt).cell 2;have d0_3:=(KWd.out.below hS KWd.out.lt).cell 3;simp at d0_0 d0_1 d0_2 d0_3;have HS:=yH (hI.step HL.out yZ (k:=20) (by intro q hq;simp only[yI,yJ,or_false]at hq;rcases hq with rfl <;> first|exact(show(19:Nat)≠20 by decide)));clear hI hS hC hW hD;go_wp2_with fail;all_goals first|exact HS|exact⟨rfl,HS⟩|rfl
    ·intro s D w' hD hW hC hI;have hS:=hI.below;refine .inl ⟨s,fun _ _ _=>rfl,?_⟩;with_reducible refine OpTo.wanted ?_ ?_
     kernel_rfl
     have hP19:D 19=true:=aA1 hC hW (by kernel_rfl);have hq19:=hI.at (19,(fun v w=>∃p l o,v=.agg #[p,l,o,.int .u64 σ.N]∧aFl w σ p l o)) (by simp) hP19;dsimp only at hq19;have HI:=yH hI;have HC:=yH ((by obtain⟨p,l,o,e,hst⟩:=hq19;have q:=like_any hst (STd.out.below hS);rw[←e]at q;exact q:Calls Tryz.prog 38 #[s 19,.agg #[vp,vl,vo,.int .u64 σ.N]] w' fun e w''=>e=.returned (.bool true)∧Below w'.heap.size w' w''));clear hI hS hC hW hD hP19 hq19;go_wp2_with fail;refine HC.out.mono ?_;rintro e w'' ⟨rfl,hb2⟩;exact⟨rfl,HI.out.step HL.out hb2 (by intro q hq;simp only[yI,yJ,or_false]at hq;rcases hq with rfl <;> first|exact(show(19:Nat)≠21 by decide))⟩
    ·intro s D w' hD hW hC hI;refine .inl ⟨s,fun _ _ _=>rfl,?_⟩;with_reducible refine yO rfl ?_
     have HS:=yH (hI.step HL.out yZ (k:=22) (by intro q hq;simp only[yI,yJ,or_false]at hq;rcases hq with rfl <;> first|exact(show(19:Nat)≠22 by decide)));clear hI hC hW hD;go_wp2_with fail;all_goals first|exact HS|exact⟨rfl,HS⟩|rfl
    ·intro s D w' hD hW hC hI;refine .inl ⟨s,fun _ _ _=>rfl,?_⟩;with_reducible refine yO rfl ?_
     have HS:=yH (hI.step HL.out yZ (k:=23) (by intro q hq;simp only[yI,yJ,or_false]at hq;rcases hq with rfl <;> first|exact(show(19:Nat)≠23 by decide)));clear hI hC hW hD;go_wp2_with fail;all_goals first|exact HS|exact⟨rfl,HS⟩|rfl
    ·intro s D w' hD hW hC hI;refine .inl ⟨s,fun _ _ _=>rfl,?_⟩;with_reducible refine OpTo.wanted ?_ ?_
     kernel_rfl
     have HI:=yH hI;have HC:=yH ((LV.out w'));clear hI hC hW hD;go_wp2_with fail;refine HC.out.mono ?_;rintro e w'' ⟨rfl,hb2⟩;exact⟨rfl,HI.out.step HL.out hb2 (by intro q hq;simp only[yI,yJ,or_false]at hq;rcases hq with rfl <;> first|exact(show(19:Nat)≠24 by decide))⟩
    ·intro s D w' hD hW hC hI;refine .inl ⟨s,fun _ _ _=>rfl,?_⟩;with_reducible refine yO rfl ?_
     have HS:=yH (hI.step HL.out yZ (k:=25) (by intro q hq;simp only[yI,yJ,or_false]at hq;rcases hq with rfl <;> first|exact(show(19:Nat)≠25 by decide)));clear hI hC hW hD;go_wp2_with fail;all_goals first|exact HS|exact⟨rfl,HS⟩|rfl
    intro s D w' hD hW hC hI;refine .inl ⟨s,fun _ _ _=>rfl,?_⟩;with_reducible refine yO rfl ?_
    have HS:=yH (hI.step HL.out yZ (k:=26) (by intro q hq;simp only[yI,yJ,or_false]at hq;rcases hq with rfl <;> first|exact(show(19:Nat)≠26 by decide)));clear hI hC hW hD;go_wp2_with fail;all_goals first|exact HS|exact⟨rfl,HS⟩|rfl
   intro s D w2 hall hI;have B2:=yH hI.below;clear hI hall;dsimp only;go_wp2_with fail;go_ret;exact⟨rfl,B13.out.trans (B2.out.mono B13.out.size)⟩
  have hkn:k=xs.length:=by omega
  subst hkn;have hR:=aQ7 (by have:=H8.out;omega) (hrun.trans runF_end);have hE2:=EA.out.symm.trans hR;simp only[Prod.mk.injEq]at hE2;obtain⟨z1,z2,z3,z4⟩:=hE2;subst σ2;subst E;subst At;subst gs;have IGa:=yH (MP.out.other IG.out IN.out (by omega) kk);have INa:=yH hin;have TI:=yH hti;clear hR hrun hin hti kk hkl hk hsl;have r0:=KRa.out.cell 0;have r1:=KRa.out.cell 1;simp at r0 r1;go_wp2_with fail;clear x0;refine(aM4 MP.out IGa.out TI.out).mono ?_;rintro e w14 ⟨v3,rfl,⟨p1,l1,o1,rfl,h1⟩,b14⟩;have IN2:=yH (MP.out.below INa.out b14);have S1:=yH h1;have B14:=yT BR2 b14;clear r0 r1 h1 b14;go_wp2_with fail;refine(aM4 MP.out IN2.out TI.out).mono ?_;rintro e w15 ⟨v4,rfl,⟨p2,l2,o2,rfl,h2⟩,b15⟩;have CL:=yH (like_any (S1.out.below b15) h2);have B15:=yT B14 b15;clear h2 b15;go_wp2_with fail;refine CL.out.mono ?_;rintro e w16 ⟨rfl,b16⟩;go_wp2_with fail;refine(LV.out _).mono ?_;rintro e w17 ⟨rfl,b17⟩;go_wp2_with fail;go_ret;exact⟨rfl,(B15.out.trans (b16.mono B15.out.size)).trans (b17.mono (Nat.le_trans B15.out.size b16.size))⟩
theorem aRc{Is:World→Nat→Hs→Prop}(HM:aGh (fun _=>True) Is)(HL:aPl)(a:Option Addr)(len cap:Nat)(cs:List Cm)(x:Cm)(w:World)(h:SlIn Cm.vals 1 (Cm.In w) w a len cap cs)(hx:x.In w):
  Calls Tryz.prog 7 #[.slice a len cap,.agg #[.slice x.a x.n x.c]] w (yR w (.bool true)):=aTm HM HL a len cap cs x.a x.n x.c x.xs w h hx
theorem Keep.trans_new{S T:Nat→Prop}{a b c:World}(h:Keep S a b)(k:Keep T b c)(hT:∀j,j<a.heap.size→T j→S j):Keep S a c:=
 ⟨k.os.trans h.os,k.tape.trans h.tape,k.output.trans h.output,Nat.le_trans h.size k.size,fun i hi hs=>(k.block i (yM hi h.size) (fun t=>hs (hT i hi t))).trans (h.block i hi hs)⟩
theorem aHv{w:World}{b1 b2 s1 s2 n1 n2:Nat}{e1 e2:TypeId}{v1 v2:Value}{xs ys:List Value}(h:w.ownsRow b1 e1 s1 v1 n1 xs)(g:w.ownsRow b2 e2 s2 v2 n2 ys)(hne:e1≠e2):∀b,v1.ownBlock=some b→¬v2.ownBlock=some b:=fun b hb hg=>by
 obtain⟨_,_,c1,k1⟩:=aAe h hb;obtain⟨_,_,c2,k2⟩:=aAe g hg;have:=k1.symm.trans k2;simp at this;exact hne this.2
def aCh:Prop:=∀{w:World} {base G M gb:Nat} {ps:List Int} {ls:List Ln} {l:List Of} {N:Int} {vb:Value},LedM w G M ps ls→LInv ps ls→PB w base gb l N vb→BInv l N→
 ∀(s tk pt want most m1 m2:Int),(0≤s∧s≤18446744073709551615)→In8 tk→In8 pt→In64 want→In64 most→(∀o,aBb l s=some o→Goes ps ls o tk pt m1 m2)→
 Calls Tryz.prog 273 #[.agg #[.pointer (some ⟨G,0,none⟩),.pointer (some ⟨gb,0,none⟩)],.int .u64 s,.int .u8 tk,.int .u8 pt,.int .i64 want,.int .i64 most] w (yR w (.int .i64 (mayV l ps s tk pt want most m1 m2)))def FDoPost(w:World)(base G M gb:Nat)(ps:List Int)(ls:List Ln)(l:List Of)(N:Int)(vb:Value)(s tk pt n m1 m2:Int)(e:Ending)(w':World):Prop:=
 (¬doOk l ps s tk pt n m1 m2∧e=.returned (.tuple #[aH3,.int .i64 1])∧Below w.heap.size w w')∨
 (doOk l ps s tk pt n m1 m2∧∃o x ls' vb',aBb l s=some o∧x=upN (n*o.nu) o.de∧aKp ps ls o tk pt n x ls'∧e=.returned (.tuple #[.agg #[.int .u64 s,.int .u8 tk,.int .u8 pt,.int .i64 n,.int .i64 x],.int .i64 0])∧
  LedM w' G M ps ls'∧PB w' base gb (aDu l s n) N vb'∧Keep (fun k=>k=G∨k=M∨Foot gb vb k) w w'∧aEg w vb vb')
def aD1:Prop:=∀{w:World} {base G M gb:Nat} {ps:List Int} {ls:List Ln} {l:List Of} {N:Int} {vb:Value},LedM w G M ps ls→LInv ps ls→PB w base gb l N vb→BInv l N→
 ∀(s tk pt n m1 m2:Int),(0≤s∧s≤18446744073709551615)→In8 tk→In8 pt→In64 n→(∀o,aBb l s=some o→Goes ps ls o tk pt m1 m2)→
 Calls Tryz.prog 235 #[.agg #[.pointer (some ⟨G,0,none⟩),.pointer (some ⟨gb,0,none⟩)],.int .u64 s,.int .u8 tk,.int .u8 pt,.int .i64 n] w (FDoPost w base G M gb ps ls l N vb s tk pt n m1 m2)
def FCopyPost(w:World)(ps:List Int)(ls:List Ln)(l:List Of)(N:Int)(e:Ending)(w':World):Prop:=
 ∃G M gb vb,e=.returned (.agg #[.pointer (some ⟨G,0,none⟩),.pointer (some ⟨gb,0,none⟩)])∧LedM w' G M ps ls∧PB w' w.heap.size gb l N vb∧w.heap.size≤G∧w.heap.size≤M∧Below w.heap.size w w'
def aDt:Prop:=∀{w:World} {base G M gb:Nat} {ps:List Int} {ls:List Ln} {l:List Of} {N:Int} {vb:Value},LedM w G M ps ls→LInv ps ls→PB w base gb l N vb→BInv l N→
 Calls Tryz.prog 47 #[.agg #[.pointer (some ⟨G,0,none⟩),.pointer (some ⟨gb,0,none⟩)]] w (FCopyPost w ps ls l N)
theorem aRd(HMy:aCh){w:World}{base G M gb:Nat}{ps:List Int}{ls:List Ln}{l:List Of}{N:Int}{vb:Value}(hL:LedM w G M ps ls)(hI:LInv ps ls)(hP:PB w base gb l N vb)(hJ:BInv l N)
  (s tk pt want most:Int)(hs:0≤s∧s≤18446744073709551615)(ht:In8 tk)(hto:In8 pt)(hw:In64 want)(hmo:In64 most):
  Calls Tryz.prog 273 #[.agg #[.pointer (some ⟨G,0,none⟩),.pointer (some ⟨gb,0,none⟩)],.int .u64 s,.int .u8 tk,.int .u8 pt,.int .i64 want,.int .i64 most] w (yR w (.int .i64 (mayS ps ls l tk pt want most s))):=by
 obtain⟨m1,m2,g,_,_⟩:=aMn hI l s tk pt;rw[←aPa hI g];exact HMy hL hI hP hJ s tk pt want most m1 m2 hs ht hto hw hmo g
def PDoS(w:World)(base G M gb:Nat)(ps:List Int)(ls:List Ln)(l:List Of)(N:Int)(vb:Value)(s tk pt n:Int)(e:Ending)(w':World):Prop:=
 (¬okS ps ls l tk pt n s∧e=.returned (.tuple #[aH3,.int .i64 1])∧Below w.heap.size w w')∨
 (okS ps ls l tk pt n s∧∃o x vb',aBb l s=some o∧x=upN (n*o.nu) o.de∧e=.returned (.tuple #[.agg #[.int .u64 s,.int .u8 tk,.int .u8 pt,.int .i64 n,.int .i64 x],.int .i64 0])∧
  LedM w' G M ps (aCx ps ls o tk pt n x)∧PB w' base gb (aDu l s n) N vb'∧Keep (fun k=>k=G∨k=M∨Foot gb vb k) w w'∧aEg w vb vb')
theorem aJq(HD:aD1){w:World}{base G M gb:Nat}{ps:List Int}{ls:List Ln}{l:List Of}{N:Int}{vb:Value}(hL:LedM w G M ps ls)(hI:LInv ps ls)(hP:PB w base gb l N vb)(hJ:BInv l N)
  (s tk pt n:Int)(hs:0≤s∧s≤18446744073709551615)(ht:In8 tk)(hto:In8 pt)(hn:In64 n):
  Calls Tryz.prog 235 #[.agg #[.pointer (some ⟨G,0,none⟩),.pointer (some ⟨gb,0,none⟩)],.int .u64 s,.int .u8 tk,.int .u8 pt,.int .i64 n] w (PDoS w base G M gb ps ls l N vb s tk pt n):=by
 obtain⟨m1,m2,g,_,_⟩:=aMn hI l s tk pt;refine(HD hL hI hP hJ s tk pt n m1 m2 hs ht hto hn g).mono ?_;rintro e w' (⟨a,b,c⟩|⟨a,o,x,ls',vb',b,c,d,f,h1,h2,h3,h4⟩)
 ·exact .inl ⟨fun q=>a ((aMp hI g).2 q),b,c⟩
 rw[d.eq (aHm hI o tk pt n x)]at h1;exact .inr ⟨(aMp hI g).1 a,o,x,vb',b,c,f,h1,h2,h3,h4⟩
def aBi:Int→List Int→Int
 | n,[]=>n
 | n,v::vs=>if min n v<1 then 0 else aBi (min n v) vs
structure Bnd(w:World)(rv:Value)(b:Nat×Int):Prop where
 enter:∀args w',(callFunc b.1 args).run Tryz.prog w'=.ok (.enter b.1 args) w'
 call:∀w',Below w.heap.size w w'→Calls Tryz.prog b.1 #[rv] w' fun e w''=>e=.returned (.int .i64 b.2)∧Below w'.heap.size w' w''
theorem Bnd.below{w w':World}{rv:Value}{b:Nat×Int}(h:Bnd w rv b)(k:Below w.heap.size w w'):Bnd w' rv b:=⟨h.enter,fun w2 q=>h.call w2 (andB k q)⟩
def bndV(rv:Value)(b:Nat×Int):Value:=.func (.func b.1) #[rv] #[]
def LeastAtF(W:World)(bs:List (Nat×Int))(n i:Value)(wr:World):Prop:=
 ∃(k:Nat) (m:Int),k≤bs.length∧i=.int .i64 k∧n=.int .i64 m∧(m≤1099511627776 ∧ -9223372036854775808≤m)∧Below W.heap.size W wr∧Hid (aBi 1099511627776 (bs.map (·.2))=aBi m ((bs.drop k).map (·.2)))
theorem aRe{w:World}{g:Nat}{rv:Value}{bs:List (Nat×Int)}{t:TypeId}(hk:Blk w g (bs.map (bndV rv)).toArray t)(hb:∀b∈bs,Bnd w rv b)(h64:∀b∈bs,In64 b.2)(hl:bs.length≤100):
  Calls Tryz.prog 298 #[.slice (some ⟨g,0,none⟩) bs.length bs.length] w (yR w (.int .i64 (aBi 1099511627776 (bs.map (·.2))))):=by
 have K:=yH hk;have HB:=yH hb;have H64:=yH h64;clear hk hb h64;go_enter Tryz.func298,Tryz.ntmps298;go_wp2_with fail
 go_loopw [3,8] (LeastAtF w bs) (fun _ i _=>bs.length - (intOf i).toNat)
 case atStart=>exact⟨0,_,by omega,rfl,rfl,by omega,yZ,yH rfl⟩
 obtain⟨k,m,hkl,rfl,rfl,⟨m1,m2⟩,hB,HE⟩:=hrel;have BB:=yH hB;clear hB
 by_cases hlt:k<bs.length
 ·have hki:(k:Int)<(bs.length:Int):=by omega
  have hk0:(0:Int)≤(k:Int):=by omega
  have KK:=yH (K.out.below BB.out K.out.lt);have d0:=KK.out.cell k;simp only[List.getElem?_toArray,List.getElem?_map,List.getElem?_eq_getElem hlt,Option.map_some]at d0;have HBk:=yH ((HB.out bs[k] (List.getElem_mem _)).below BB.out);have h64:=H64.out bs[k] (List.getElem_mem _);have HD:Hid (bs.drop k=bs[k]::bs.drop (k+1)):=yH (List.drop_eq_getElem_cons hlt);generalize bs[k]=b at *;obtain⟨f,v⟩:=b;unfold bndV at d0;dsimp only at d0 h64;have hv1:=h64.1;have hv2:=h64.2;clear h64;have CB:=yH (HBk.out.call wr yZ);have EN:=HBk.out.enter #[rv] wr;dsimp only at CB EN;have HM:Hid (aBi m (((f,v)::bs.drop (k+1)).map (·.2))=if min m v<1 then 0 else aBi (min m v) ((bs.drop (k+1)).map (·.2))):=yH rfl;clear HBk;go_wp2_with fail;refine CB.out.mono ?_;rintro e w1 ⟨rfl,b1⟩;have B1:=yT BB b1;clear b1 CB EN d0
  by_cases hz:min m v<1
  ·have q1:decide (min m v<1)=true:=by simpa using hz
   have HZ:=yH hz;clear hz;go_wp2_with fail;go_ret;exact⟨by rw[HE.out,HD.out,HM.out.trans (if_pos HZ.out)];rfl,B1.out⟩
  have q1:decide (min m v<1)=false:=by simpa using hz
  have HZ:=yH hz;clear hz;go_wp2_with fail;exact⟨⟨k+1,_,by omega,by go_num,rfl,by omega,B1.out,yH (by rw[HE.out,HD.out];exact HM.out.trans (if_neg (by have:=HZ.out;omega)))⟩,by simp[intOf];omega⟩
 have hkn:k=bs.length:=by omega
 subst hkn;have HM:Hid (aBi m ((bs.drop bs.length).map (·.2))=m):=yH (by rw[List.drop_length];rfl);go_wp2_with fail;go_ret;exact⟨by rw[HE.out,HM.out];rfl,BB.out⟩
abbrev filV(lp:Option Addr)(o:Of)(tk pt want most:Int):Value:=.agg #[.pointer lp,.int .u64 o.se,.int .u8 o.ow,.int .u8 o.sl,.int .u8 o.bu,.int .i64 o.lf,.int .i64 o.nu,.int .i64 o.de,.int .u8 tk,.int .u8 pt,.int .i64 want,.int .i64 most]
abbrev filC(lp:Option Addr)(o:Of)(tk pt want most:Int):Array Value:=#[.pointer lp,.int .u64 o.se,.int .u8 o.ow,.int .u8 o.sl,.int .u8 o.bu,.int .i64 o.lf,.int .i64 o.nu,.int .i64 o.de,.int .u8 tk,.int .u8 pt,.int .i64 want,.int .i64 most]
theorem aTn(lp:Option Addr)(o:Of)(tk pt want most:Int)(w:World):Calls Tryz.prog 299 #[filV lp o tk pt want most] w (yR w (.int .i64 want)):=by
 have B:=yH ((Below.refl w.heap.size w).alloc yL (.cells (filC lp o tk pt want most) 395));unfold filV;go_enter Tryz.func299,Tryz.ntmps299;go_wp2_with fail;go_ret;exact⟨rfl,B.out⟩
theorem fleft_any(lp:Option Addr)(o:Of)(tk pt want most:Int)(w:World):Calls Tryz.prog 300 #[filV lp o tk pt want most] w (yR w (.int .i64 o.lf)):=by
 have B:=yH ((Below.refl w.heap.size w).alloc yL (.cells (filC lp o tk pt want most) 395));unfold filV;go_enter Tryz.func300,Tryz.ntmps300;go_wp2_with fail;go_ret;exact⟨rfl,B.out⟩
theorem aRf(lp:Option Addr)(o:Of)(tk pt want most:Int)(w:World):Calls Tryz.prog 317 #[filV lp o tk pt want most] w (yR w (.int .i64 most)):=by
 have B:=yH ((Below.refl w.heap.size w).alloc yL (.cells (filC lp o tk pt want most) 395));unfold filV;go_enter Tryz.func317,Tryz.ntmps317;go_wp2_with fail;go_ret;exact⟨rfl,B.out⟩
theorem fsold_any(HM:aEo){w:World}{G M:Nat}{ps:List Int}{ls:List Ln}{o:Of}(h:LedM w G M ps ls)(hI:LInv ps ls)(hf:o.Fits)(tk pt want most:Int)(hp:In8 pt){m1 m2:Int}(g:Goes ps ls o tk pt m1 m2):
  Calls Tryz.prog 301 #[filV (some ⟨G,0,none⟩) o tk pt want most] w fun e w'=>e=.returned (.int .i64 (if pt=o.ow then 1099511627776 else m1))∧Below w.heap.size w w':=by
 have bw:=(Below.refl w.heap.size w).alloc yL (.cells (filC (some ⟨G,0,none⟩) o tk pt want most) 395);have B:=yH bw;obtain⟨⟨μ,h1,h2⟩,_⟩:=g;have CM:=yH (aN4 HM (h.below bw) hI hf.ow hp hf.sl h1);rw[h2]at CM;clear bw h hI hf hp h1 h2;unfold filV
 by_cases he:pt=o.ow
 ·rw[if_pos he];subst he;clear CM;go_enter Tryz.func301,Tryz.ntmps301;go_wp2_with fail;go_ret;exact⟨rfl,B.out⟩
 rw[if_neg he];have q0:(pt==o.ow)=false:=by simpa using he
 clear he;go_enter Tryz.func301,Tryz.ntmps301;go_wp2_with fail;refine CM.out.mono ?_;rintro e w1 ⟨rfl,b1⟩;have B1:=yT B b1;clear b1;go_wp2_with fail;go_ret;exact⟨rfl,B1.out⟩
theorem aTo(HM:aEo){w:World}{G M:Nat}{ps:List Int}{ls:List Ln}{o:Of}(h:LedM w G M ps ls)(hI:LInv ps ls)(hf:o.Fits)(tk pt want most:Int)(ht:In8 tk){m1 m2:Int}(g:Goes ps ls o tk pt m1 m2):
  Calls Tryz.prog 318 #[filV (some ⟨G,0,none⟩) o tk pt want most] w (yR w (.int .i64 m2)):=by
 have bw:=(Below.refl w.heap.size w).alloc yL (.cells (filC (some ⟨G,0,none⟩) o tk pt want most) 395);have B:=yH bw;obtain⟨_,μ,h1,h2⟩:=g;have CM:=yH (aN4 HM (h.below bw) hI ht hf.ow hf.bu h1);rw[h2]at CM;clear bw h hI hf ht h1 h2;unfold filV;go_enter Tryz.func318,Tryz.ntmps318;go_wp2_with fail;refine CM.out.mono ?_;rintro e w1 ⟨rfl,b1⟩;have B1:=yT B b1;clear b1;go_wp2_with fail;go_ret;exact⟨rfl,B1.out⟩
theorem aRg:∀(vs:List Int) {n:Int},n≤1099511627776 → -9223372036854775808≤n→(∀v∈vs,-9223372036854775808≤v)→In64 (aBi n vs)
 | [],n,h1,h2,_=>⟨by unfold aBi;omega,by unfold aBi;omega⟩
 | v::vs,n,h1,h2,h=>by
  unfold aBi;split
  ·exact⟨by omega,by omega⟩
  rename_i hz;have:=h v (List.mem_cons_self);exact aRg vs (by omega) (by omega) (fun x hx=>h x (List.mem_cons_of_mem _ hx))
theorem ffits_any(HM:aEo){w:World}{G M:Nat}{ps:List Int}{ls:List Ln}{o:Of}(h:LedM w G M ps ls)(hI:LInv ps ls)(hf:o.Fits)(tk pt want most:Int)(ht:In8 tk)(hm:In64 most){m1 m2:Int}(g:Goes ps ls o tk pt m1 m2):
  Calls Tryz.prog 302 #[filV (some ⟨G,0,none⟩) o tk pt want most] w (yR w (.int .i64 (fitN (aBi 1099511627776 [most,m2]) o.nu o.de))):=by
 have bw:=(Below.refl w.heap.size w).alloc yL (.cells (filC (some ⟨G,0,none⟩) o tk pt want most) 395);have KX:=yH (Blk.new w (filC (some ⟨G,0,none⟩) o tk pt want most) 395);have B:=yH bw;have hbd:=g.bd hI;have H64a:=yH hm;have H64b:Hid (In64 m2):=yH ⟨by omega,by omega⟩;have H64l:Hid (In64 (aBi 1099511627776 [most,m2])):=yH (aRg _ (by omega) (by omega) (by intro v hv;simp only[yI,yJ,or_false]at hv;rcases hv with rfl|rfl;exact hm.1;omega));have HF:=yH hf;have L:=h.below bw
 have HA:Hid (Bnd (w.alloc (.cells (filC (some ⟨G,0,none⟩) o tk pt want most) 395)) (filV (some ⟨G,0,none⟩) o tk pt want most) (317,most)):=yH
  ⟨enters_of Tryz.func317 (by kernel_rfl) rfl,fun w' k=>aRf _ o tk pt want most w'⟩
 have HBo:Hid (Bnd (w.alloc (.cells (filC (some ⟨G,0,none⟩) o tk pt want most) 395)) (filV (some ⟨G,0,none⟩) o tk pt want most) (318,m2)):=yH
  ⟨enters_of Tryz.func318 (by kernel_rfl) rfl,fun w' k=>aTo HM (L.below k) hI hf tk pt want most ht g⟩
 clear bw h hI hf hm hbd L g;go_enter Tryz.func302,Tryz.ntmps302
 go_upto_region 1 with fail
 generalize w.alloc (.cells #[.pointer (some ⟨G,0,none⟩),.int .u64 o.se,.int .u8 o.ow,.int .u8 o.sl,.int .u8 o.bu,.int .i64 o.lf,.int .i64 o.nu,.int .i64 o.de,.int .u8 tk,.int .u8 pt,.int .i64 want,.int .i64 most] 395)=W at *
 refine aA5 (by kernel_rfl) (fun g:Nat→Nat=>[(filV (some ⟨G,0,none⟩) o tk pt want most),(.func (.func 317) #[(filV (some ⟨G,0,none⟩) o tk pt want most)] #[]),(filV (some ⟨G,0,none⟩) o tk pt want most),(.func (.func 318) #[(filV (some ⟨G,0,none⟩) o tk pt want most)] #[]),(.slice (some ⟨g 4,0,none⟩) 2 2),(.int .i64 (aBi 1099511627776 [most,m2])),(.pointer (some ⟨w.heap.size,1,none⟩)),(.pointer (some ⟨w.heap.size,6,none⟩)),(.agg #[.int .i64 o.nu,.int .i64 o.de]),(.int .i64 (fitN (aBi 1099511627776 [most,m2]) o.nu o.de)),(.int .i64 (fitN (aBi 1099511627776 [most,m2]) o.nu o.de))])
  (Lays W [(⟨4,4,(.cells #[(.func (.func 317) #[(filV (some ⟨G,0,none⟩) o tk pt want most)] #[]),(.func (.func 318) #[(filV (some ⟨G,0,none⟩) o tk pt want most)] #[])] 124),(.cells #[(.func (.func 317) #[(filV (some ⟨G,0,none⟩) o tk pt want most)] #[]),(.func (.func 318) #[(filV (some ⟨G,0,none⟩) o tk pt want most)] #[])] 124)⟩:Spec)]) (by kernel_rfl) (fun _=>0) (Lays.start _ _ _) ?_
 intro AF hAF;simp only[yG,puts,Act.put,yA,yC,yF,yD,yE]at hAF;have hAF2:_=AF:=funext hAF;subst hAF2;clear hAF;refine⟨?_,?_⟩
 ·simp only[yG,aFm];refine⟨?_,?_,?_,?_,?_,?_,?_,?_,?_,?_,?_,trivial⟩
  ·intro g D w' hD hW hC hI;refine⟨g,fun _ _ _=>rfl,?_⟩;with_reducible refine yO rfl ?_
   have hS:=hI.below;have d0_0:=(KX.out.below hS KX.out.lt).cell 0;have d0_1:=(KX.out.below hS KX.out.lt).cell 1;have d0_2:=(KX.out.below hS KX.out.lt).cell 2;have d0_3:=(KX.out.below hS KX.out.lt).cell 3;have d0_4:=(KX.out.below hS KX.out.lt).cell 4;have d0_5:=(KX.out.below hS KX.out.lt).cell 5;have d0_6:=(KX.out.below hS KX.out.lt).cell 6;have d0_7:=(KX.out.below hS KX.out.lt).cell 7;have d0_8:=(KX.out.below hS KX.out.lt).cell 8;have d0_9:=(KX.out.below hS KX.out.lt).cell 9;have d0_10:=(KX.out.below hS KX.out.lt).cell 10;have d0_11:=(KX.out.below hS KX.out.lt).cell 11;simp at d0_0 d0_1 d0_2 d0_3 d0_4 d0_5 d0_6 d0_7 d0_8 d0_9 d0_10 d0_11;have HS:=yH (hI.step yZ (k:=0) (by rfl));clear hI hS hC hW hD;go_wp2_with fail;all_goals first|exact HS|exact⟨rfl,HS⟩|rfl
  ·intro g D w' hD hW hC hI;refine⟨g,fun _ _ _=>rfl,?_⟩;with_reducible refine yO rfl ?_
   have HS:=yH (hI.step yZ (k:=1) (by rfl));clear hI hC hW hD;go_wp2_with fail;all_goals first|exact HS|exact⟨rfl,HS⟩|rfl
  ·intro g D w' hD hW hC hI;refine⟨g,fun _ _ _=>rfl,?_⟩;with_reducible refine yO rfl ?_
   have hS:=hI.below;have d0_0:=(KX.out.below hS KX.out.lt).cell 0;have d0_1:=(KX.out.below hS KX.out.lt).cell 1;have d0_2:=(KX.out.below hS KX.out.lt).cell 2;have d0_3:=(KX.out.below hS KX.out.lt).cell 3;have d0_4:=(KX.out.below hS KX.out.lt).cell 4;have d0_5:=(KX.out.below hS KX.out.lt).cell 5;have d0_6:=(KX.out.below hS KX.out.lt).cell 6;have d0_7:=(KX.out.below hS KX.out.lt).cell 7;have d0_8:=(KX.out.below hS KX.out.lt).cell 8;have d0_9:=(KX.out.below hS KX.out.lt).cell 9;have d0_10:=(KX.out.below hS KX.out.lt).cell 10;have d0_11:=(KX.out.below hS KX.out.lt).cell 11;simp at d0_0 d0_1 d0_2 d0_3 d0_4 d0_5 d0_6 d0_7 d0_8 d0_9 d0_10 d0_11;have HS:=yH (hI.step yZ (k:=2) (by rfl));clear hI hS hC hW hD;go_wp2_with fail;all_goals first|exact HS|exact⟨rfl,HS⟩|rfl
  ·intro g D w' hD hW hC hI;refine⟨g,fun _ _ _=>rfl,?_⟩;with_reducible refine yO rfl ?_
   have HS:=yH (hI.step yZ (k:=3) (by rfl));clear hI hC hW hD;go_wp2_with fail;all_goals first|exact HS|exact⟨rfl,HS⟩|rfl
  ·intro g D w' hD hW hC hI;refine⟨upd g 4 w'.heap.size,aC3 _ (fun g:Nat→Nat=>[(filV (some ⟨G,0,none⟩) o tk pt want most),(.func (.func 317) #[(filV (some ⟨G,0,none⟩) o tk pt want most)] #[]),(filV (some ⟨G,0,none⟩) o tk pt want most),(.func (.func 318) #[(filV (some ⟨G,0,none⟩) o tk pt want most)] #[]),(.slice (some ⟨g 4,0,none⟩) 2 2),(.int .i64 (aBi 1099511627776 [most,m2])),(.pointer (some ⟨w.heap.size,1,none⟩)),(.pointer (some ⟨w.heap.size,6,none⟩)),(.agg #[.int .i64 o.nu,.int .i64 o.de]),(.int .i64 (fitN (aBi 1099511627776 [most,m2]) o.nu o.de)),(.int .i64 (fitN (aBi 1099511627776 [most,m2]) o.nu o.de))]) g 4 _ 12 hC hD ?_,?_⟩
   ·intro j hj
    match j,hj with
    | 0,_=>exact .inr rfl
    | 1,_=>exact .inr rfl
    | 2,_=>exact .inr rfl
    | 3,_=>exact .inr rfl
    | 4,_=>exact .inl (.inl rfl)
    | 5,_=>exact .inr rfl
    | 6,_=>exact .inr rfl
    | 7,_=>exact .inr rfl
    | 8,_=>exact .inr rfl
    | 9,_=>exact .inr rfl
    | 10,_=>exact .inr rfl
    | j+11,_=>exact .inr rfl
   with_reducible refine yO rfl ?_
   have HS:=yH (hI.lay (⟨4,4,(.cells #[(.func (.func 317) #[(filV (some ⟨G,0,none⟩) o tk pt want most)] #[]),(.func (.func 318) #[(filV (some ⟨G,0,none⟩) o tk pt want most)] #[])] 124),(.cells #[(.func (.func 317) #[(filV (some ⟨G,0,none⟩) o tk pt want most)] #[]),(.func (.func 318) #[(filV (some ⟨G,0,none⟩) o tk pt want most)] #[])] 124)⟩:Spec) (by simp) (by rfl) (.inl rfl) (by rfl) (fun s' hs' _=>List.mem_singleton.1 hs') (.cells #[(.func (.func 317) #[(filV (some ⟨G,0,none⟩) o tk pt want most)] #[]),(.func (.func 318) #[(filV (some ⟨G,0,none⟩) o tk pt want most)] #[])] 124) rfl);clear hI hC hW hD;go_wp2_with fail;all_goals first|exact HS|exact⟨rfl,HS⟩|rfl
  ·intro g D w' hD hW hC hI;refine⟨g,fun _ _ _=>rfl,?_⟩;with_reducible refine yO rfl ?_
   have hS:=hI.below;have HI:=yH hI;have HC:=yH (aRe (bs:=[(317,most),(318,m2)]) (rv:=(filV (some ⟨G,0,none⟩) o tk pt want most)) (show Blk w' (g 4) (List.map (bndV (filV (some ⟨G,0,none⟩) o tk pt want most)) [(317,most),(318,m2)]).toArray 124 from(hI.full (⟨4,4,(.cells #[(.func (.func 317) #[(filV (some ⟨G,0,none⟩) o tk pt want most)] #[]),(.func (.func 318) #[(filV (some ⟨G,0,none⟩) o tk pt want most)] #[])] 124),(.cells #[(.func (.func 317) #[(filV (some ⟨G,0,none⟩) o tk pt want most)] #[]),(.func (.func 318) #[(filV (some ⟨G,0,none⟩) o tk pt want most)] #[])] 124)⟩:Spec) (by simp) (aA0 hC hW (d:=12) (by kernel_rfl)) (aA0 hC hW (d:=12) (by kernel_rfl))).2) (by intro b hb;simp only[yI,yJ,or_false]at hb;rcases hb with rfl|rfl;exact HA.out.below hS;exact HBo.out.below hS) (by intro b hb;simp only[yI,yJ,or_false]at hb;rcases hb with rfl|rfl;exact H64a.out;exact H64b.out) (by simp));clear hI hS hC hW hD;go_wp2_with fail;refine HC.out.mono ?_;rintro e w'' ⟨rfl,hb2⟩;exact⟨rfl,HI.out.step hb2 (by rfl)⟩
  ·intro g D w' hD hW hC hI;refine⟨g,fun _ _ _=>rfl,?_⟩;with_reducible refine yO rfl ?_
   have HS:=yH (hI.step yZ (k:=6) (by rfl));clear hI hC hW hD;go_wp2_with fail;all_goals first|exact HS|exact⟨rfl,HS⟩|rfl
  ·intro g D w' hD hW hC hI;refine⟨g,fun _ _ _=>rfl,?_⟩;with_reducible refine yO rfl ?_
   have HS:=yH (hI.step yZ (k:=7) (by rfl));clear hI hC hW hD;go_wp2_with fail;all_goals first|exact HS|exact⟨rfl,HS⟩|rfl
  ·intro g D w' hD hW hC hI;refine⟨g,fun _ _ _=>rfl,?_⟩;with_reducible refine yO rfl ?_
   have hS:=hI.below;have d0_0:=(KX.out.below hS KX.out.lt).cell 0;have d0_1:=(KX.out.below hS KX.out.lt).cell 1;have d0_2:=(KX.out.below hS KX.out.lt).cell 2;have d0_3:=(KX.out.below hS KX.out.lt).cell 3;have d0_4:=(KX.out.below hS KX.out.lt).cell 4;have d0_5:=(KX.out.below hS KX.out.lt).cell 5;have d0_6:=(KX.out.below hS KX.out.lt).cell 6;have d0_7:=(KX.out.below hS KX.out.lt).cell 7;have d0_8:=(KX.out.below hS KX.out.lt).cell 8;have d0_9:=(KX.out.below hS KX.out.lt).cell 9;have d0_10:=(KX.out.below hS KX.out.lt).cell 10;have d0_11:=(KX.out.below hS KX.out.lt).cell 11;simp at d0_0 d0_1 d0_2 d0_3 d0_4 d0_5 d0_6 d0_7 d0_8 d0_9 d0_10 d0_11;have HS:=yH (hI.step yZ (k:=8) (by rfl));clear hI hS hC hW hD;go_wp2_with fail;all_goals first|exact HS|exact⟨rfl,HS⟩|rfl
  ·intro g D w' hD hW hC hI;refine⟨g,fun _ _ _=>rfl,?_⟩;with_reducible refine yO rfl ?_
   have HI:=yH hI;have HC:=yH (fits_any (aBi 1099511627776 [most,m2]) o.nu o.de w' H64l.out HF.out.nu HF.out.de);clear hI hC hW hD;go_wp2_with fail;refine HC.out.mono ?_;rintro e w'' ⟨rfl,hb2⟩;exact⟨rfl,HI.out.step hb2 (by rfl)⟩
  intro g D w' hD hW hC hI;refine⟨g,fun _ _ _=>rfl,?_⟩;with_reducible refine yO rfl ?_
  have HS:=yH (hI.step yZ (k:=10) (by rfl));clear hI hC hW hD;go_wp2_with fail;all_goals first|exact HS|exact⟨rfl,HS⟩|rfl
 intro g D w' hall hI;have B1:=yH (B.out.trans (hI.below.mono B.out.size));clear hall hI;go_wp2_with fail;go_ret;exact⟨rfl,B1.out⟩
theorem fmay_any{w:World}{lp:Option Addr}{e0:Int}{has:Int→Bool}(h:aFj w lp e0 has)(o:Of)(tk pt want most:Int):
  Calls Tryz.prog 297 #[filV lp o tk pt want most] w (yR w (.bool (!(tk==o.ow) && has tk && has pt && has o.ow))):=by
 have bw:=(Below.refl w.heap.size w).alloc yL (.cells (filC lp o tk pt want most) 395);have C1:=yH (h.has _ bw tk);have C2:=yH (h.has _ bw pt);have C3:=yH (h.has _ bw o.ow);have B:=yH bw;clear bw h;unfold filV;generalize has tk=x at *;generalize has pt=y at *;generalize has o.ow=z at *;have hneq:(tk != o.ow)=!(tk==o.ow):=rfl;obtain⟨q,hq⟩:∃q,(tk==o.ow)=q:=⟨_,rfl⟩;rw[hq]at hneq ⊢;clear hq
 cases q
 ·cases x
  ·go_enter Tryz.func297,Tryz.ntmps297;go_wp2_with fail;refine C1.out.mono ?_;rintro e w1 ⟨rfl,rfl⟩;go_wp2_with fail;go_ret;exact⟨rfl,B.out⟩
  cases y
  ·go_enter Tryz.func297,Tryz.ntmps297;go_wp2_with fail;refine C1.out.mono ?_;rintro e w1 ⟨rfl,rfl⟩;go_wp2_with fail;refine C2.out.mono ?_;rintro e w1 ⟨rfl,rfl⟩;go_wp2_with fail;go_ret;exact⟨rfl,B.out⟩
  go_enter Tryz.func297,Tryz.ntmps297;go_wp2_with fail;refine C1.out.mono ?_;rintro e w1 ⟨rfl,rfl⟩;go_wp2_with fail;refine C2.out.mono ?_;rintro e w1 ⟨rfl,rfl⟩;go_wp2_with fail;refine C3.out.mono ?_;rintro e w1 ⟨rfl,rfl⟩;go_wp2_with fail;go_ret;exact⟨rfl,B.out⟩
 go_enter Tryz.func297,Tryz.ntmps297;go_wp2_with fail;go_ret;exact⟨rfl,B.out⟩
theorem aRh{w:World}{lp bp:Option Addr}{e0 N:Int}{has:Int→Bool}(h:aFj w lp e0 has)(hn:∀w',Below w.heap.size w w'→Calls Tryz.prog 60 #[.pointer bp] w' fun e w''=>e=.returned (.int .u64 N)∧w'=w''):
  Calls Tryz.prog 274 #[.agg #[.pointer lp,.pointer bp]] w (yR w (.bool (!(e0==2) && !(N==0)))):=by
 have bw:=(Below.refl w.heap.size w).alloc yL (.cells #[.pointer lp,.pointer bp] 80);have C1:=yH (h.open0 _ bw);have C2:=yH (hn _ bw);have B:=yH bw;clear bw h hn;have hneq:(e0 != 2)=!(e0==2):=rfl;obtain⟨q,hq⟩:∃q,(e0==2)=q:=⟨_,rfl⟩;rw[hq]at hneq ⊢;clear hq
 cases q
 ·have hneN:(N != 0)=!(N==0):=rfl;obtain⟨r,hr⟩:∃r,(N==0)=r:=⟨_,rfl⟩;rw[hr]at hneN ⊢;clear hr;go_enter Tryz.func274,Tryz.ntmps274;go_wp2_with fail;refine C1.out.mono ?_;rintro e w1 ⟨rfl,rfl⟩;go_wp2_with fail;refine C2.out.mono ?_;rintro e w1 ⟨rfl,rfl⟩;go_wp2_with fail;go_ret;exact⟨rfl,B.out⟩
 go_enter Tryz.func274,Tryz.ntmps274;go_wp2_with fail;refine C1.out.mono ?_;rintro e w1 ⟨rfl,rfl⟩;go_wp2_with fail;go_ret;exact⟨rfl,B.out⟩
theorem fitN_zero(nu de:Int):fitN 0 nu de=0:=by
 unfold fitN;split
 ·rw[Int.zero_mul,Int.zero_ediv];rfl
 rfl
theorem aHa{n v:Int}{vs:List Int}(h:min n v<1):aBi n (v::vs)=0:=if_pos h
theorem aFt{n v:Int}{vs:List Int}(h:¬min n v<1):aBi n (v::vs)=aBi (min n v) vs:=if_neg h
theorem least4{a b c d:Int}(hb:1≤b∧b≤1099511627776)(hc:0≤c)(hd:0≤d):aBi 1099511627776 [a,b,c,d]=if a<1 then 0 else min (min (min a b) c) d:=by
 by_cases h1:min 1099511627776 a<1
 ·rw[aHa h1,if_pos (by omega)]
 rw[aFt h1,if_neg (by omega)];rw[aFt (by omega)]
 by_cases h3:min (min (min 1099511627776 a) b) c<1
 ·rw[aHa h3];omega
 rw[aFt h3]
 by_cases h4:min (min (min (min 1099511627776 a) b) c) d<1
 ·rw[aHa h4];omega
 rw[aFt h4,aBi];omega
theorem least2{a b:Int}(hb:0≤b):aBi 1099511627776 [a,b]=if a<1 then 0 else min (min a 1099511627776) b:=by
 by_cases h1:min 1099511627776 a<1
 ·rw[aHa h1,if_pos (by omega)]
 rw[aFt h1,if_neg (by omega)]
 by_cases h3:min (min 1099511627776 a) b<1
 ·rw[aHa h3];omega
 rw[aFt h3,aBi];omega
theorem least_may{o:Of}{ps:List Int}{tk pt want most m1 m2:Int}(hr:o.ow≠tk∧o.ow∈ps∧tk∈ps∧pt∈ps)(hl:1≤o.lf∧o.lf≤1099511627776)(h1:0≤m1)(h2:0≤m2):
  aBi 1099511627776 [want,o.lf,(if pt=o.ow then 1099511627776 else m1),fitN (aBi 1099511627776 [most,m2]) o.nu o.de]=mayO o ps tk pt want most m1 m2:=by
 obtain⟨r1,r2,r3,r4⟩:=hr;rw[least4 hl (by split <;> omega) fitN_nn,least2 h2];unfold mayO
 by_cases hw:want<1
 ·rw[if_pos hw,if_pos (show o.ow=tk∨o.ow∉ps∨tk∉ps∨pt∉ps∨want<1∨most<1 from .inr (.inr (.inr (.inr (.inl hw)))))]
 rw[if_neg hw]
 by_cases hm:most<1
 ·rw[if_pos hm,if_pos (show o.ow=tk∨o.ow∉ps∨tk∉ps∨pt∉ps∨want<1∨most<1 from .inr (.inr (.inr (.inr (.inr hm))))),fitN_zero]
  by_cases hp:pt=o.ow
  ·rw[if_pos hp];omega
  rw[if_neg hp];omega
 rw[if_neg hm,if_neg (show ¬(o.ow=tk∨o.ow∉ps∨tk∉ps∨pt∉ps∨want<1∨most<1)from fun h=>by
  rcases h with h|h|h|h|h|h
  ·exact r1 h
  ·exact h r2
  ·exact h r3
  ·exact h r4
  ·exact hw h
  exact hm h)]
 by_cases hp:pt=o.ow
 ·rw[if_pos hp,if_pos hp];omega
 rw[if_neg hp,if_neg hp]
theorem hmay_none{w:World}{lp bp:Option Addr}{s:Int}(hf:∀w',Below w.heap.size w w'→Calls Tryz.prog 162 #[.pointer bp,.int .u64 s] w' fun e w''=>e=.returned (.tuple #[noOf.val,.bool false])∧Below w'.heap.size w' w'')(tk pt want most:Int):
  Calls Tryz.prog 273 #[.agg #[.pointer lp,.pointer bp],.int .u64 s,.int .u8 tk,.int .u8 pt,.int .i64 want,.int .i64 most] w (yR w (.int .i64 0)):=by
 have bw:=(Below.refl w.heap.size w).alloc yL (.cells #[.pointer lp,.pointer bp] 80);have CF:=yH (hf _ bw);have KX:=yH (Blk.new w #[.pointer lp,.pointer bp] 80);have B0:=yH bw;clear bw hf;unfold noOf Of.val at CF;dsimp only at CF;go_enter Tryz.func273,Tryz.ntmps273;go_wp2_with fail;generalize w.alloc (.cells #[.pointer lp,.pointer bp] 80)=W at *;refine CF.out.mono ?_;rintro e w1 ⟨rfl,b1⟩;have KX1:=yB KX b1;have B1:=yT B0 b1;clear b1 KX B0 CF;have e0:=KX1.out.cell 0;have e1:=KX1.out.cell 1;have kx:=KX1.out.lt;simp at e0 e1;go_wp2_with fail;go_ret;refine⟨rfl,B1.out.trans ?_⟩;exact((Below.alloc ((Below.refl w1.heap.size w1).alloc yL _) (by simp) _)).mono B1.out.size
theorem hmay_any(HM:aEo):aCh:=by
 intro w base G M gb ps ls l N vb hL hI hP hJ s tk pt want most m1 m2 hs ht hto hw hmo hG
 cases hf:aBb l s with
 | none=>
  have e:mayV l ps s tk pt want most m1 m2=0:=by unfold mayV;rw[hf]
  rw[e];refine hmay_none (fun w' k=>?_) tk pt want most;have:=aJb (hP.below k) hJ.n1 s;rw[hf]at this;exact this
 | some o=>
  have bw:=(Below.refl w.heap.size w).alloc yL (.cells #[.pointer (some ⟨G,0,none⟩),.pointer (some ⟨gb,0,none⟩)] 80);have CF:=yH (aJb (hP.below bw) hJ.n1 s);rw[hf]at CF;have KX:=yH (Blk.new w #[.pointer (some ⟨G,0,none⟩),.pointer (some ⟨gb,0,none⟩)] 80);have B0:=yH bw;have L0:=yH (hL.below bw);have II:=yH hI;have HGo:=yH (hG o hf);have hmem:=(aCc hf).1;have HF:=yH (hJ.fits hmem);have MY:=yH (hJ.may o hmem);obtain⟨R,hR⟩:∃R,mayV l ps s tk pt want most m1 m2=R:=⟨_,rfl⟩;rw[hR];have EV:Hid (R=mayO o ps tk pt want most m1 m2):=yH (by rw[←hR];unfold mayV;rw[hf]);clear hR;have HT:=yH ht;have HTo:=yH hto;have HW:=yH hw;have HMo:=yH hmo;have HMP:=yH HM;clear bw hL hI hP hJ hs ht hto hw hmo hG hf hmem HM;unfold aQo Of.val at CF;dsimp only at CF;go_enter Tryz.func273,Tryz.ntmps273;go_wp2_with fail;generalize w.alloc (.cells #[.pointer (some ⟨G,0,none⟩),.pointer (some ⟨gb,0,none⟩)] 80)=W at *;refine CF.out.mono ?_;rintro e w1 ⟨rfl,b1⟩;have KX1:=yB KX b1;have B1:=yT B0 b1;have L1:=yH (L0.out.below b1);clear b1 KX B0 CF L0;have e0:=KX1.out.cell 0;have e1:=KX1.out.cell 1;have kx:=KX1.out.lt;simp at e0 e1;have ba:=(Below.refl w1.heap.size w1).alloc yL (.cells #[.int .u64 o.se,.int .u8 o.ow,.int .u8 o.sl,.int .u8 o.bu,.int .i64 o.lf,.int .i64 o.nu,.int .i64 o.de] 75);have KF0:=yH (pAB (w1.alloc (.cells #[.int .u64 o.se,.int .u8 o.ow,.int .u8 o.sl,.int .u8 o.bu,.int .i64 o.lf,.int .i64 o.nu,.int .i64 o.de] 75)) (filC (some ⟨G,0,none⟩) o tk pt want most) 395 (g:=w1.heap.size+1) (by simp));have bb:=ba.alloc (by simp) (.cells (filC (some ⟨G,0,none⟩) o tk pt want most) 395);have L2:=yH (L1.out.below bb);have B2:=yT B1 bb;have CM:=yH (fmay_any (aIg L2.out II.out) o tk pt want most);clear ba bb L1;go_wp2_with fail;generalize (w1.alloc (.cells #[.int .u64 o.se,.int .u8 o.ow,.int .u8 o.sl,.int .u8 o.bu,.int .i64 o.lf,.int .i64 o.nu,.int .i64 o.de] 75)).alloc (.cells #[.pointer (some ⟨G,0,none⟩),.int .u64 o.se,.int .u8 o.ow,.int .u8 o.sl,.int .u8 o.bu,.int .i64 o.lf,.int .i64 o.nu,.int .i64 o.de,.int .u8 tk,.int .u8 pt,.int .i64 want,.int .i64 most] 395)=W2 at *;clear e0 e1 kx;obtain⟨r,hr⟩:∃r,(!(tk==o.ow) && decide (tk∈ps) && decide (pt∈ps) && decide (o.ow∈ps))=r:=⟨_,rfl⟩;rw[hr]at CM
  cases r
  ·have EZ:Hid (R=0):=yH (by
    rw[EV.out];unfold mayO;rw[if_pos]
    by_cases c1:o.ow=tk
    ·exact .inl c1
    by_cases c2:o.ow∈ps
    ·by_cases c3:tk∈ps
     ·by_cases c4:pt∈ps
      ·have c5:¬tk=o.ow:=fun h=>c1 h.symm
       simp[c2,c3,c4,c5]at hr
      exact .inr (.inr (.inr (.inl c4)))
     exact .inr (.inr (.inl c3))
    exact .inr (.inl c2))
   clear hr EV;refine CM.out.mono ?_;rintro e w3 ⟨rfl,b3⟩;have B3:=yT B2 b3;clear b3;go_wp2_with fail;go_ret;exact⟨by rw[EZ.out];rfl,B3.out⟩
  have hok:o.ow≠tk∧o.ow∈ps∧tk∈ps∧pt∈ps:=by
   simp only[Bool.and_eq_true,Bool.not_eq_true',decide_eq_true_eq,beq_eq_false_iff_ne,ne_eq]at hr;obtain⟨⟨⟨h1,h2⟩,h3⟩,h4⟩:=hr;exact⟨fun h=>h1 h.symm,h4,h2,h3⟩
  have hb:=HGo.out.bd II.out;have EM:=yH (EV.out.trans (least_may (want:=want) (most:=most) hok MY.out.2.2.2.2.1 hb.1.1 hb.2.1).symm);have HS1:Hid (In64 (if pt=o.ow then 1099511627776 else m1)):=yH (by split <;> exact⟨by omega,by omega⟩)
  have HFt:Hid (In64 (fitN (aBi 1099511627776 [most,m2]) o.nu o.de)):=yH (by
   have h0:=fitN_nn (g:=aBi 1099511627776 [most,m2]) (nu:=o.nu) (de:=o.de);refine⟨by omega,?_⟩;unfold fitN;split <;> omega)
  clear hr EV hok hb;refine CM.out.mono ?_;rintro e w3 ⟨rfl,b3⟩;have KF3:=yB KF0 b3;have L3:=yH (L2.out.below b3);have B3:=yT B2 b3;clear b3 KF0 L2 B2 CM;have d0:=KF3.out.cell 0;have d1:=KF3.out.cell 1;have d2:=KF3.out.cell 2;have d3:=KF3.out.cell 3;have d4:=KF3.out.cell 4;have d5:=KF3.out.cell 5;have d6:=KF3.out.cell 6;have d7:=KF3.out.cell 7;have d8:=KF3.out.cell 8;have d9:=KF3.out.cell 9;have d10:=KF3.out.cell 10;have d11:=KF3.out.cell 11;simp at d0 d1 d2 d3 d4 d5 d6 d7 d8 d9 d10 d11;have HB1:Hid (Bnd w3 (filV (some ⟨G,0,none⟩) o tk pt want most) (299,want)):=yH ⟨enters_of Tryz.func299 (by kernel_rfl) rfl,fun w' k=>aTn _ o tk pt want most w'⟩;have HB2:Hid (Bnd w3 (filV (some ⟨G,0,none⟩) o tk pt want most) (300,o.lf)):=yH ⟨enters_of Tryz.func300 (by kernel_rfl) rfl,fun w' k=>fleft_any _ o tk pt want most w'⟩;have HB3:Hid (Bnd w3 (filV (some ⟨G,0,none⟩) o tk pt want most) (301,if pt=o.ow then 1099511627776 else m1)):=yH ⟨enters_of Tryz.func301 (by kernel_rfl) rfl,fun w' k=>fsold_any HMP.out (L3.out.below k) II.out HF.out tk pt want most HTo.out HGo.out⟩;have HB4:Hid (Bnd w3 (filV (some ⟨G,0,none⟩) o tk pt want most) (302,fitN (aBi 1099511627776 [most,m2]) o.nu o.de)):=yH ⟨enters_of Tryz.func302 (by kernel_rfl) rfl,fun w' k=>ffits_any HMP.out (L3.out.below k) II.out HF.out tk pt want most HT.out HMo.out HGo.out⟩;have bk:=(Below.refl w3.heap.size w3).alloc yL (.cells #[.func (.func 299) #[filV (some ⟨G,0,none⟩) o tk pt want most] #[],.func (.func 300) #[filV (some ⟨G,0,none⟩) o tk pt want most] #[],.func (.func 301) #[filV (some ⟨G,0,none⟩) o tk pt want most] #[],.func (.func 302) #[filV (some ⟨G,0,none⟩) o tk pt want most] #[]] 124);have kk:=Blk.new w3 #[.func (.func 299) #[filV (some ⟨G,0,none⟩) o tk pt want most] #[],.func (.func 300) #[filV (some ⟨G,0,none⟩) o tk pt want most] #[],.func (.func 301) #[filV (some ⟨G,0,none⟩) o tk pt want most] #[],.func (.func 302) #[filV (some ⟨G,0,none⟩) o tk pt want most] #[]] 124
  have CL:=yH (aRe (bs:=[(299,want),(300,o.lf),(301,if pt=o.ow then 1099511627776 else m1),(302,fitN (aBi 1099511627776 [most,m2]) o.nu o.de)]) (rv:=filV (some ⟨G,0,none⟩) o tk pt want most) kk
   (by intro b hb;simp only[yI,yJ,or_false]at hb;rcases hb with rfl|rfl|rfl|rfl;exact HB1.out.below bk;exact HB2.out.below bk;exact HB3.out.below bk;exact HB4.out.below bk)
   (by intro b hb;simp only[yI,yJ,or_false]at hb;rcases hb with rfl|rfl|rfl|rfl;exact HW.out;exact HF.out.lf;exact HS1.out;exact HFt.out) (by simp))
  have B4:=yT B3 bk;rw[show List.map (fun x:Nat×Int=>x.2) [(299,want),(300,o.lf),(301,if pt=o.ow then 1099511627776 else m1),(302,fitN (aBi 1099511627776 [most,m2]) o.nu o.de)]=[want,o.lf,if pt=o.ow then 1099511627776 else m1,fitN (aBi 1099511627776 [most,m2]) o.nu o.de]from rfl,←EM.out]at CL;clear bk kk HB1 HB2 HB3 HB4;go_wp2_with fail;refine CL.out.mono ?_;rintro e w4 ⟨rfl,b4⟩;have B5:=yT B4 b4;clear b4 d0 d1 d2 d3 d4 d5 d6 d7 d8 d9 d10 d11;go_wp2_with fail;go_ret;exact⟨rfl,B5.out⟩
theorem blk_ne{w:World}{g h:Nat}{cs ds:Array Value}{t u:TypeId}(a:Blk w g cs t)(b:Blk w h ds u)(hn:t≠u):g≠h:=by
 rintro rfl;have e:=a.out;rw[b.out]at e;simp only[Option.some.injEq,Obj.cells.injEq]at e;exact hn e.2.1.symm
theorem PB.ne_map{w:World}{base g G M:Nat}{ps:List Int}{ls:List Ln}{l:List Of}{N:Int}{vl:Value}(h:PB w base g l N vl)(k:LedM w G M ps ls):(¬g=M∧∀b,vl.ownBlock=some b→¬b=M)∧¬Foot g vl G∧¬Foot g vl M:=by
 have h1:¬g=M:=fun e=>k.map.ne_blk h.blk e.symm
 have h2:∀b,vl.ownBlock=some b→¬b=M:=fun b hb e=>by
  obtain⟨_,_,cur,hc⟩:=aAe h.row hb;have hB:Blk w b cur _:=hc;exact k.map.ne_blk hB e.symm
 have h3:¬G=g:=fun e=>by have:=blk_ne k.blk h.blk (by decide);exact this e
 have h4:¬vl.ownBlock=some G:=fun e=>aB0 h.row k.blk (by decide) G e rfl
 exact⟨⟨h1,h2⟩,fun e=>e.elim h3 h4,fun e=>e.elim (fun q=>h1 q.symm) (fun q=>h2 M q rfl)⟩
theorem Keep.freshRow{S:Nat→Prop}{a w:World}(h:Keep S a w){g:Nat}(hg:a.heap.size≤g)(cs:Array Value):Keep S a (w.setRow g cs):=
 have k:=aAc (w:=w) g cs
 ⟨k.os.trans h.os,k.tape.trans h.tape,k.output.trans h.output,Nat.le_trans h.size k.size,fun i hi hs=>(k.block i (yM hi h.size) (by omega)).trans (h.block i hi hs)⟩
theorem hdo_void{w:World}{lp bp:Option Addr}{e0 N:Int}{has:Int→Bool}(h:aFj w lp e0 has)(hn:∀w',Below w.heap.size w w'→Calls Tryz.prog 60 #[.pointer bp] w' fun e w''=>e=.returned (.int .u64 N)∧w'=w'')(he:e0=2∨N=0)(s tk pt n:Int):
  Calls Tryz.prog 235 #[.agg #[.pointer lp,.pointer bp],.int .u64 s,.int .u8 tk,.int .u8 pt,.int .i64 n] w (yR w (.tuple #[aH3,.int .i64 2])):=by
 have b1:=(Below.refl w.heap.size w).alloc yL (.cells #[.pointer lp,.pointer bp] 80);have k1:=Blk.new w #[.pointer lp,.pointer bp] 80;generalize hW1:w.alloc (.cells #[.pointer lp,.pointer bp] 80)=W1 at *;have b2:=(Below.refl W1.heap.size W1).alloc yL (.cells #[.int .u64 0,.int .u8 0,.int .u8 0,.int .i64 0,.int .i64 0] 241);have k2:=Blk.new W1 #[.int .u64 0,.int .u8 0,.int .u8 0,.int .i64 0,.int .i64 0] 241;generalize hW2:W1.alloc (.cells #[.int .u64 0,.int .u8 0,.int .u8 0,.int .i64 0,.int .i64 0] 241)=W2 at *;have HW1:=yH hW1;have HW2:=yH hW2;have hg1:W1.heap.size=w.heap.size+1:=by rw[←hW1];simp
 rw[hg1]at k2;have KX:=yH (k1.below b2 k1.lt);have KF:=yH k2;have B2:=yH (b1.trans (b2.mono b1.size));have CM:=yH (aRh (h.below B2.out) (fun w' k=>hn w' (andB B2.out k)));rw[show(!(e0==2) && !(N==0))=false by rcases he with rfl|rfl <;> simp]at CM;clear h hn he b1 k1 b2 k2 hW1 hW2 hg1;go_enter Tryz.func235,Tryz.ntmps235
 go_upto_region 1 with fail
 rw[HW1.out,HW2.out];have e0:=KX.out.cell 0;have e1:=KX.out.cell 1;simp at e0 e1;go_wp2_with fail;refine CM.out.mono ?_;rintro e w1 ⟨rfl,b1⟩;have KF1:=yB KF b1;have B1:=yT B2 b1;clear b1 e0 e1 KX KF B2 CM;go_wp2_with (refine aAa rfl 241 (.tmp 10) (.tmp 20) rfl (w.heap.size+1) #[.int .u64 0,.int .u8 0,.int .u8 0,.int .i64 0,.int .i64 0] rfl rfl 241 _ KF1.out.out (by kernel_rfl) rfl (by simp[Value.oneCell']) ?_);refine bodyPost_ret (v:=.tuple #[aH3,.int .i64 2]) (aAh rfl _ _ (w.heap.size+1) 241 #[.int .u64 0,.int .u8 0,.int .u8 0,.int .i64 0,.int .i64 0] _ _ rfl (setRow_heap _ (w.heap.size+1) _ _ _ (0,0) KF1.out.out) Tryz.underlying241 rfl (by kernel_rfl) rfl) rfl ⟨rfl,below_setRow B1.out (by omega) _⟩
theorem hdo_any(HR:aEc)(HMP:aEo):aD1:=by
 intro w base G M gb ps ls l N vb hL hI hP hJ s tk pt n m1 m2 hs ht hto hn hG;have b1:=(Below.refl w.heap.size w).alloc yL (.cells #[.pointer (some ⟨G,0,none⟩),.pointer (some ⟨gb,0,none⟩)] 80);have k1:=Blk.new w #[.pointer (some ⟨G,0,none⟩),.pointer (some ⟨gb,0,none⟩)] 80;generalize hW1:w.alloc (.cells #[.pointer (some ⟨G,0,none⟩),.pointer (some ⟨gb,0,none⟩)] 80)=W1 at *;have b2:=(Below.refl W1.heap.size W1).alloc yL (.cells #[.int .u64 0,.int .u8 0,.int .u8 0,.int .i64 0,.int .i64 0] 241);have k2:=Blk.new W1 #[.int .u64 0,.int .u8 0,.int .u8 0,.int .i64 0,.int .i64 0] 241;generalize hW2:W1.alloc (.cells #[.int .u64 0,.int .u8 0,.int .u8 0,.int .i64 0,.int .i64 0] 241)=W2 at *;have HW1:=yH hW1;have HW2:=yH hW2;have hg1:W1.heap.size=w.heap.size+1:=by rw[←hW1];simp
 rw[hg1]at k2;have KX:=yH (k1.below b2 k1.lt);have KF:=yH k2;have B2:=yH (b1.trans (b2.mono b1.size));have L0:=yH ((hL.below b1).below b2);have P0:=yH ((hP.below b1).below b2);have II:=yH hI;have JJ:=yH hJ;have HT:=yH ht;have HTo:=yH hto;have HN:=yH hn;have HGo:=yH hG;have HRo:=yH HR;have hG1:=hL.blk.lt;have hM1:=hL.map.lt;have hb1:=hP.blk.lt;have HGL:=yH hG1;have HML:=yH hM1;have HBL:=yH hb1;have HFO:Hid (∀b,Foot gb vb b→b<w.heap.size):=yH (fun b hb=>(hP.lt hb).2);have CMd:=yH (aRh (N:=N) (aIg L0.out II.out) (fun w' k=>aI9 (P0.out.below k).blk));rw[show(!((1:Int)==2) && !(N==0))=true by have:=hJ.n1;simp;omega]at CMd;have CM:=yH (fun w' (k:Below W2.heap.size W2 w')=>hmay_any HMP (L0.out.below k) hI (P0.out.below k) hJ s tk pt n 1099511627776 m1 m2 hs ht hto hn ⟨by omega,by omega⟩ hG);clear b1 k1 b2 k2 hW1 hW2 hL hI hP hJ hs ht hto hn hG hg1 hG1 hM1 hb1 HR HMP;go_enter Tryz.func235,Tryz.ntmps235
 go_upto_region 1 with fail
 rw[HW1.out,HW2.out];have e0:=KX.out.cell 0;have e1:=KX.out.cell 1;simp at e0 e1;go_wp2_with fail;refine CMd.out.mono ?_;rintro e w0 ⟨rfl,b0⟩;have CM0:=yH (CM.out w0 b0);have KX0:=yB KX b0;have KF0:=yB KF b0;have L1:=yH (L0.out.below b0);have P1:=yH (P0.out.below b0);have B0:=yT B2 b0;clear b0 e0 e1 KX KF B2 CMd CM L0 P0;have e0:=KX0.out.cell 0;have e1:=KX0.out.cell 1;simp at e0 e1
 by_cases h1:n<1
 ·have q1:decide (n<1)=true:=by simpa using h1
  have NO:Hid (¬doOk l ps s tk pt n m1 m2):=yH (fun h=>by have:=h.1;omega);clear h1;go_wp2_with (refine aAa rfl 241 (.tmp 10) (.tmp 34) rfl (w.heap.size+1) #[.int .u64 0,.int .u8 0,.int .u8 0,.int .i64 0,.int .i64 0] rfl rfl 241 _ KF0.out.out (by kernel_rfl) rfl (by simp[Value.oneCell']) ?_);refine bodyPost_ret (v:=.tuple #[aH3,.int .i64 1]) (aAh rfl _ _ (w.heap.size+1) 241 #[.int .u64 0,.int .u8 0,.int .u8 0,.int .i64 0,.int .i64 0] _ _ rfl (setRow_heap _ (w.heap.size+1) _ _ _ (0,0) KF0.out.out) Tryz.underlying241 rfl (by kernel_rfl) rfl) rfl (.inl ⟨NO.out,rfl,below_setRow B0.out (by omega) _⟩)
 have q1:decide (n<1)=false:=by simpa using h1
 go_wp2_with fail;refine CM0.out.mono ?_;rintro e w1 ⟨rfl,b1⟩;have KX1:=yB KX0 b1;have KF1:=yB KF0 b1;have L2:=yH (L1.out.below b1);have P2:=yH (P1.out.below b1);have B1:=yT B0 b1;clear b1 e0 e1 KX0 KF0 L1 P1 B0 CM0;have e0:=KX1.out.cell 0;have e1:=KX1.out.cell 1;simp at e0 e1
 by_cases h2:n≤mayV l ps s tk pt n 1099511627776 m1 m2
 ·have q2:decide (mayV l ps s tk pt n 1099511627776 m1 m2<n)=false:=by simpa using h2
  have hOK:doOk l ps s tk pt n m1 m2:=⟨by omega,h2⟩;obtain⟨o,hf,⟨c1,c2,c3,c4⟩,h3,h4,h5⟩:=hOK.facts;have hGo:=(HGo.out o hf).bd II.out;have hmem:=(aCc hf).1;have hmay:=JJ.out.may o hmem;have FT:=yH (JJ.out.fits hmem);obtain⟨_,_,_,_,_,hmy⟩:=hmay;obtain⟨x,hx⟩:∃x,upN (n*o.nu) o.de=x:=⟨_,rfl⟩;obtain⟨u1,u2,u3⟩:=aS6 hmy (g:=min 1099511627776 m2) (by omega) (by omega) (by omega) h5;rw[hx]at u1 u2 u3;have CU:=yH (fun w=>rup_rat n o.nu o.de w HN.out FT.out.nu FT.out.de);rw[u1]at CU;have HX:=yH hx;have HOK:=yH hOK;have HF:=yH hf;have CF:=yH (aJb P2.out JJ.out.n1 s);rw[hf]at CF;dsimp only[aQo,Of.val]at CF;have hx64:Hid (In64 x):=yH ⟨by omega,by omega⟩;clear hOK hGo hmem hmy u1 u2 u3 hx hf h5 h4 h3 c1 c2 c3 c4;generalize mayV l ps s tk pt n 1099511627776 m1 m2=mm at *;clear h2;go_wp2_with fail;refine CF.out.mono ?_;rintro e w2 ⟨rfl,b2⟩;have bo:=(Below.refl w2.heap.size w2).alloc yL (.cells #[.int .u64 o.se,.int .u8 o.ow,.int .u8 o.sl,.int .u8 o.bu,.int .i64 o.lf,.int .i64 o.nu,.int .i64 o.de] 75);have KO:=yH (Blk.new w2 #[.int .u64 o.se,.int .u8 o.ow,.int .u8 o.sl,.int .u8 o.bu,.int .i64 o.lf,.int .i64 o.nu,.int .i64 o.de] 75);have b3:=b2.trans (bo.mono b2.size);have KX2:=yB KX1 b3;have KF2:=yB KF1 b3;have L3:=yH (L2.out.below b3);have P3:=yH (P2.out.below b3);have B3:=yT B1 b3;have HSZ:Hid (w.heap.size≤w2.heap.size):=yH (B1.out.trans (b2.mono B1.out.size)).size;clear b2 b3 bo e0 e1 KX1 KF1 L2 P2 B1 CF;have e0:=KX2.out.cell 0;have e1:=KX2.out.cell 1;simp at e0 e1;have d0:=KO.out.cell 0;have d1:=KO.out.cell 1;have d2:=KO.out.cell 2;have d3:=KO.out.cell 3;have d4:=KO.out.cell 4;have d5:=KO.out.cell 5;have d6:=KO.out.cell 6;simp at d0 d1 d2 d3 d4 d5 d6;go_wp2_with fail;refine(CU.out _).mono ?_;rintro e w3 ⟨rfl,b3⟩;have KX3:=yB KX2 b3;have KO3:=yB KO b3;have KF3:=yB KF2 b3;have L4:=yH (L3.out.below b3);have P4:=yH (P3.out.below b3);have B4:=yT B3 b3;clear b3 CU KX2 KO KF2 L3 P3 B3;clear e0 e1 d0 d1 d2 d3 d4 d5 d6;have e0:=KX3.out.cell 0;have e1:=KX3.out.cell 1;simp at e0 e1;have d0:=KO3.out.cell 0;have d1:=KO3.out.cell 1;have d2:=KO3.out.cell 2;have d3:=KO3.out.cell 3;have d4:=KO3.out.cell 4;have d5:=KO3.out.cell 5;have d6:=KO3.out.cell 6;simp at d0 d1 d2 d3 d4 d5 d6
  by_cases hp:pt=o.ow
  ·have q3:(pt != o.ow)=false:=by simpa using hp
   have HP:=yH hp;clear hp;have BK:Hid (Keep (fun k=>k=G∨k=M∨Foot gb vb k) w w3):=yH (pAD B4.out);clear B4;have KXA:=KX3;have KFA:=KF3;have LA:=L4;have PA:=P4;clear KX3 KF3 KO3 L4 P4;obtain⟨τ,hτ⟩:=aDy (aAw II.out o.bu) tk o.ow x;have HTAU:=yH hτ;have CP:=yH (aLd HRo.out LA.out II.out HT.out FT.out.ow FT.out.bu hx64.out hτ);clear hτ;go_wp2_with fail;refine CP.out.mono ?_;rintro e w6 ⟨rfl,r6,k6⟩;have AP:=(PA.out.ne_map LA.out).1;have KX6:=yH (KXA.out.keep k6 (by have:=HML.out;omega));have KF6:=yH (KFA.out.keep k6 (by have:=HML.out;omega));have P6:=yH (PA.out.keep k6 AP.1 AP.2);have B6:=yH (BK.out.trans (k6.mono (fun k _ h=>Or.inr (Or.inl h))));have L6:=yH r6;clear CP r6 k6 AP KXA KFA PA LA BK;clear e0 e1 d0 d1 d2 d3 d4 d5 d6;have e0:=KX6.out.cell 0;have e1:=KX6.out.cell 1;simp at e0 e1;have CK:=yH (aQr P6.out JJ.out s n);go_wp2_with fail;refine CK.out.mono ?_;rintro e w7 ⟨rfl,vb7,r7,k7,mv7⟩;have AP:=(P6.out.ne_map L6.out).2;have hgz:¬Foot gb vb (w.heap.size+1):=fun h=>by have:=HFO.out _ h;omega
   have KF7:=yH (KF6.out.keep k7 hgz);have L7:=yH (L6.out.keep k7 AP.1 AP.2);have B7:=yH (B6.out.trans (k7.mono (fun k _ h=>Or.inr (Or.inr h))));have P7:=yH r7;have MV:=yH (mv7.of_le B6.out.size);clear CK r7 k7 mv7 AP hgz KX6 KF6 P6 L6 B6;clear e0 e1;go_wp2_with (refine aAa rfl 241 (.tmp 10) (.tmp 81) rfl (w.heap.size+1) #[.int .u64 s,.int .u8 tk,.int .u8 pt,.int .i64 n,.int .i64 x] rfl rfl 241 _ KF7.out.out (by kernel_rfl) rfl (by simp[Value.oneCell']) ?_);refine bodyPost_ret (v:=.tuple #[.agg #[.int .u64 s,.int .u8 tk,.int .u8 pt,.int .i64 n,.int .i64 x],.int .i64 0]) (aAh rfl _ _ (w.heap.size+1) 241 #[.int .u64 s,.int .u8 tk,.int .u8 pt,.int .i64 n,.int .i64 x] _ _ rfl (setRow_heap _ (w.heap.size+1) _ _ _ (0,0) KF7.out.out) Tryz.underlying241 rfl (by kernel_rfl) rfl) rfl (.inr ⟨HOK.out,o,x,_,vb7,HF.out,HX.out.symm,⟨ls,τ,(.inl ⟨HP.out,rfl⟩),HTAU.out,rfl⟩,rfl,?_,?_,B7.out.freshRow (by omega) _,MV.out⟩)
   ·exact L7.out.keep (aAc _ _) (by have:=HGL.out;omega) (by have:=HML.out;omega)
   refine P7.out.keep (aAc _ _) (by have:=HBL.out;omega) (fun b hb h=>?_);subst h;exact aB0 P7.out.row KF7.out (by decide) _ hb rfl
  have q3:(pt != o.ow)=true:=by simpa using hp
  have HP:=yH hp;clear hp;obtain⟨σ,hσ⟩:=aDy (aAw II.out o.sl) o.ow pt n;have HSG:=yH hσ;have CP:=yH (aLd HRo.out L4.out II.out FT.out.ow HTo.out FT.out.sl HN.out hσ);clear hσ;go_wp2_with fail;refine CP.out.mono ?_;rintro e w5 ⟨rfl,r5,k5⟩;have AP:=(P4.out.ne_map L4.out).1;have KXA:=yH (KX3.out.keep k5 (by have:=HML.out;omega));have KFA:=yH (KF3.out.keep k5 (by have:=HML.out;omega));have KOA:=yH (KO3.out.keep k5 (by have:=HML.out;have:=HSZ.out;omega));have PA:=yH (P4.out.keep k5 AP.1 AP.2);have BK:Hid (Keep (fun k=>k=G∨k=M∨Foot gb vb k) w w5):=yH ((pAD B4.out).trans (k5.mono (fun k _ h=>Or.inr (Or.inl h))));have LA:=yH r5;have IA:=yH (aLc II.out o.ow pt o.sl n σ);clear CP r5 k5 AP KX3 KF3 KO3 P4 L4 B4;clear e0 e1 d0 d1 d2 d3 d4 d5 d6;have RT:Hid (∃a,aAi (aAt ps ls o.sl) 4398046511104 o.ow pt n a∧payL ps ls o.ow pt o.sl n σ=payL ps ls o.ow pt o.sl n a):=yH ⟨σ,HSG.out,rfl⟩;clear HSG;generalize payL ps ls o.ow pt o.sl n σ=ls4 at *;have e0:=KXA.out.cell 0;have e1:=KXA.out.cell 1;simp at e0 e1;have d0:=KOA.out.cell 0;have d1:=KOA.out.cell 1;have d2:=KOA.out.cell 2;have d3:=KOA.out.cell 3;have d4:=KOA.out.cell 4;have d5:=KOA.out.cell 5;have d6:=KOA.out.cell 6;simp at d0 d1 d2 d3 d4 d5 d6;obtain⟨τ,hτ⟩:=aDy (aAw IA.out o.bu) tk o.ow x;have HTAU:=yH hτ;have CP:=yH (aLd HRo.out LA.out IA.out HT.out FT.out.ow FT.out.bu hx64.out hτ);clear hτ;go_wp2_with fail;refine CP.out.mono ?_;rintro e w6 ⟨rfl,r6,k6⟩;have AP:=(PA.out.ne_map LA.out).1;have KX6:=yH (KXA.out.keep k6 (by have:=HML.out;omega));have KF6:=yH (KFA.out.keep k6 (by have:=HML.out;omega));have P6:=yH (PA.out.keep k6 AP.1 AP.2);have B6:=yH (BK.out.trans (k6.mono (fun k _ h=>Or.inr (Or.inl h))));have L6:=yH r6;clear CP r6 k6 AP KXA KFA PA LA BK KOA;clear e0 e1 d0 d1 d2 d3 d4 d5 d6;have e0:=KX6.out.cell 0;have e1:=KX6.out.cell 1;simp at e0 e1;have CK:=yH (aQr P6.out JJ.out s n);go_wp2_with fail;refine CK.out.mono ?_;rintro e w7 ⟨rfl,vb7,r7,k7,mv7⟩;have AP:=(P6.out.ne_map L6.out).2;have hgz:¬Foot gb vb (w.heap.size+1):=fun h=>by have:=HFO.out _ h;omega
  have KF7:=yH (KF6.out.keep k7 hgz);have L7:=yH (L6.out.keep k7 AP.1 AP.2);have B7:=yH (B6.out.trans (k7.mono (fun k _ h=>Or.inr (Or.inr h))));have P7:=yH r7;have MV:=yH (mv7.of_le B6.out.size);clear CK r7 k7 mv7 AP hgz KX6 KF6 P6 L6 B6;clear e0 e1;go_wp2_with (refine aAa rfl 241 (.tmp 10) (.tmp 81) rfl (w.heap.size+1) #[.int .u64 s,.int .u8 tk,.int .u8 pt,.int .i64 n,.int .i64 x] rfl rfl 241 _ KF7.out.out (by kernel_rfl) rfl (by simp[Value.oneCell']) ?_);refine bodyPost_ret (v:=.tuple #[.agg #[.int .u64 s,.int .u8 tk,.int .u8 pt,.int .i64 n,.int .i64 x],.int .i64 0]) (aAh rfl _ _ (w.heap.size+1) 241 #[.int .u64 s,.int .u8 tk,.int .u8 pt,.int .i64 n,.int .i64 x] _ _ rfl (setRow_heap _ (w.heap.size+1) _ _ _ (0,0) KF7.out.out) Tryz.underlying241 rfl (by kernel_rfl) rfl) rfl (.inr ⟨HOK.out,o,x,_,vb7,HF.out,HX.out.symm,⟨ls4,τ,(.inr ⟨HP.out,RT.out⟩),HTAU.out,rfl⟩,rfl,?_,?_,B7.out.freshRow (by omega) _,MV.out⟩)
  ·exact L7.out.keep (aAc _ _) (by have:=HGL.out;omega) (by have:=HML.out;omega)
  refine P7.out.keep (aAc _ _) (by have:=HBL.out;omega) (fun b hb h=>?_);subst h;exact aB0 P7.out.row KF7.out (by decide) _ hb rfl
 have q2:decide (mayV l ps s tk pt n 1099511627776 m1 m2<n)=true:=by simpa using h2
 have NO:Hid (¬doOk l ps s tk pt n m1 m2):=yH (fun h=>h2 h.2);clear h2;generalize mayV l ps s tk pt n 1099511627776 m1 m2=mm at *;go_wp2_with (refine aAa rfl 241 (.tmp 10) (.tmp 34) rfl (w.heap.size+1) #[.int .u64 0,.int .u8 0,.int .u8 0,.int .i64 0,.int .i64 0] rfl rfl 241 _ KF1.out.out (by kernel_rfl) rfl (by simp[Value.oneCell']) ?_);refine bodyPost_ret (v:=.tuple #[aH3,.int .i64 1]) (aAh rfl _ _ (w.heap.size+1) 241 #[.int .u64 0,.int .u8 0,.int .u8 0,.int .i64 0,.int .i64 0] _ _ rfl (setRow_heap _ (w.heap.size+1) _ _ _ (0,0) KF1.out.out) Tryz.underlying241 rfl (by kernel_rfl) rfl) rfl (.inl ⟨NO.out,rfl,below_setRow B1.out (by omega) _⟩)
theorem aRi{w:World}{b o:Nat}{ls:List Of}(h:∀j,j<ls.length*7→w.cell? ⟨b,o+j,none⟩=(aAb ls)[j]?){k:Nat}(hk:k<ls.length):
  w.cell? ⟨b,o+k*7,none⟩=some (.int .u64 ls[k].se)∧w.cell? ⟨b,o+k*7+1,none⟩=some (.int .u8 ls[k].ow)∧w.cell? ⟨b,o+k*7+2,none⟩=some (.int .u8 ls[k].sl)∧w.cell? ⟨b,o+k*7+3,none⟩=some (.int .u8 ls[k].bu)∧w.cell? ⟨b,o+k*7+4,none⟩=some (.int .i64 ls[k].lf)∧w.cell? ⟨b,o+k*7+5,none⟩=some (.int .i64 ls[k].nu)∧w.cell? ⟨b,o+k*7+6,none⟩=some (.int .i64 ls[k].de):=by
 have q:∀j,j<7→w.cell? ⟨b,o+k*7+j,none⟩=ls[k].vals[j]? := fun j hj=>by
  have:=h (k*7+j) (by omega);rw[aAl ls k j hj hk,←Nat.add_assoc]at this;exact this
 exact⟨q 0 (by omega),q 1 (by omega),q 2 (by omega),q 3 (by omega),q 4 (by omega),q 5 (by omega),q 6 (by omega)⟩
structure OkTo(l:List Of)(last:Int):Prop where
 rise:l.Pairwise fun x y=>x.se<y.se
 ok:∀x∈l,x.may∧1≤x.se∧x.se≤last
 last:(l=[]∧last=0)∨∃x∈l,x.se=last
theorem OkTo.nil:OkTo [] 0:=⟨List.Pairwise.nil,by simp,.inl ⟨rfl,rfl⟩⟩
theorem OkTo.nonneg{l:List Of}{last:Int}(h:OkTo l last):0≤last:=by
 rcases h.last with⟨_,h⟩|⟨x,hx,h⟩
 ·omega
 have:=(h ▸ (‹OkTo l last›).ok x hx).2.1;omega
theorem OkTo.next{l:List Of}{last:Int}{k:Nat}(hk:k<l.length)(h:OkTo (l.take k) last)(hm:l[k].may)(hs:last<l[k].se):OkTo (l.take (k+1)) l[k].se:=by
 have h0:=h.nonneg;rw[List.take_succ_eq_append_getElem hk];refine⟨?_,fun x hx=>?_,.inr ⟨l[k],List.mem_append_right _ (List.mem_singleton.2 rfl),rfl⟩⟩
 ·rw[List.pairwise_append];refine⟨h.rise,by simp,fun a ha b hb=>?_⟩;rw[List.mem_singleton]at hb;subst hb;have:=(h.ok a ha).2.2;omega
 rcases List.mem_append.1 hx with hx|hx
 ·obtain⟨a,b,c⟩:=h.ok x hx;exact⟨a,b,by omega⟩
 rw[List.mem_singleton]at hx;subst hx;exact⟨hm,by omega,Int.le_refl _⟩
theorem OkTo.good{l:List Of}{last nx:Int}(h:OkTo l last)(hn:last<nx):okO nx l∧nx≠0:=by
 have:=h.nonneg;exact⟨⟨h.rise,fun x hx=>by obtain⟨a,b,c⟩:=h.ok x hx;exact⟨a,by omega,by omega⟩⟩,by omega⟩
theorem OkTo.bad{l:List Of}{last nx:Int}{k:Nat}(hk:k<l.length)(h:OkTo (l.take k) last)(h0:0≤l[k].se)(hb:¬l[k].may∨l[k].se≤last):¬(okO nx l∧nx≠0):=by
 rintro⟨⟨h1,h2⟩,_⟩;obtain⟨m,z,_⟩:=h2 _ (List.getElem_mem hk);rcases hb with hb|hb
 ·exact hb m
 rcases h.last with⟨_,e⟩|⟨x,hx,e⟩
 ·omega
 obtain⟨j,hj,rfl⟩:=List.mem_take_iff_getElem.1 hx;have:=List.pairwise_iff_getElem.1 h1 j k (by omega) hk (by omega);omega
theorem OkTo.late{l:List Of}{last nx:Int}(h:OkTo l last)(h0:0≤nx)(hb:nx≤last):¬(okO nx l∧nx≠0):=by
 rintro⟨⟨_,h2⟩,hz⟩;rcases h.last with⟨_,e⟩|⟨x,hx,e⟩
 ·omega
 have:=(h2 x hx).2.2;omega
def POfPost(w:World)(l:List Of)(nx:Int)(e:Ending)(w':World):Prop:=
 Below w.heap.size w w'∧((l.length≤32∧okO nx l∧nx≠0∧∃g vl,e=.returned (.tuple #[.pointer (some ⟨g,0,none⟩),.int .i64 0])∧PB w' w.heap.size g l nx vl)∨
  (e=.returned (.tuple #[.pointer none,.int .i64 9])∧32<l.length)∨(e=.returned (.tuple #[.pointer none,.int .i64 1])∧l.length≤32∧¬(okO nx l∧nx≠0)))
def POfAt(w:World)(l:List Of)(nx:Int)(s7 s18:Value)(wr:World):Prop:=
 ∃(k:Nat) (last:Int) (vl:Value),k≤l.length∧s18=.int .i64 k∧s7=.int .u64 last∧OkTo (l.take k) last∧PB wr w.heap.size w.heap.size (l.take k) nx vl∧Below w.heap.size w wr
theorem pofB_any{w:World}{v:Value}{l:List Of}{nx:Int}(hp:aB7 w v 7 l.length (aAb l))(hf:∀x∈l,x.Fits)(h0:0≤nx)(h1:nx≤18446744073709551615):
  Calls Tryz.prog 66 #[v,.int .u64 nx] w (POfPost w l nx):=by
 obtain⟨ai,capi,hv,hn,hxl,hrd⟩:=hp;subst hv;have HR:=yH hrd;have HF:=yH hf;clear hxl hrd hf
 by_cases h32:32<l.length
 ·have q0:decide (32<(l.length:Int))=true:=by simp;omega
  have H32:=yH h32;clear h32;go_enter Tryz.func66,Tryz.ntmps66;go_wp2_with fail;refine bodyPost_ret (v:=.tuple #[.pointer none,.int .i64 9]) (by simp[results,Tryz.results66,go_sem]) rfl ?_;exact⟨yZ,.inr (.inl ⟨rfl,H32.out⟩)⟩
 have q0:decide (32<(l.length:Int))=false:=by simp;omega
 have h32:l.length≤32:=by omega
 have KG:=yH (Blk.new w #[.slice none 0 0,.int .u64 nx] 158);have B0:=yH ((Below.refl w.heap.size w).alloc yL (.cells #[.slice none 0 0,.int .u64 nx] 158));go_enter Tryz.func66,Tryz.ntmps66;go_wp2_with fail
 go_loopw [7,18] (POfAt w l nx) (fun _ i _=>l.length - (intOf i).toNat)
 case atStart=>exact⟨0,0,.slice none 0 0,Nat.zero_le _,rfl,rfl,OkTo.nil,⟨KG.out,Nat.le_refl _,World.ownsRow_nil _ _ _ _⟩,B0.out⟩
 obtain⟨k,last,vl,hk,rfl,rfl,hO,hP,hb⟩:=hrel
 by_cases hkl:k<l.length
 ·obtain⟨b,o,rfl,hbl,hcell⟩:=HR.out (by omega);obtain⟨e0,e1,e2,e3,e4,e5,e6⟩:=aRi (w:=wr) (fun j hj=>by rw[hb.cell (p:=⟨b,o+j,none⟩) hbl];exact hcell j hj) hkl;have hx:=HF.out _ (List.getElem_mem hkl);have BD:=yH (fun h=>OkTo.bad (nx:=nx) hkl hO hx.se.1 h);have NX:=yH (fun h1 h2=>OkTo.next hkl hO h1 h2);have TK:=yH (List.take_succ_eq_append_getElem hkl);have hlk:(l.take k).length≤32:=Nat.le_trans (List.length_take_le _ _) (by omega);have HX:=yH hx;clear hcell hx hO;generalize l[k]=x at *;generalize l.take k=out at *;have bw:=(Below.refl wr.heap.size wr).alloc yL (.cells #[.int .u64 x.se,.int .u8 x.ow,.int .u8 x.sl,.int .u8 x.bu,.int .i64 x.lf,.int .i64 x.nu,.int .i64 x.de] 75);have K0:=yH (Blk.new wr #[.int .u64 x.se,.int .u8 x.ow,.int .u8 x.sl,.int .u8 x.bu,.int .i64 x.lf,.int .i64 x.nu,.int .i64 x.de] 75);have HP0:=yH (hP.below bw);have HNF:=yH (show ¬Foot w.heap.size vl wr.heap.size from fun h=>by have:=(hP.lt h).2;omega);have HBW:=yH (hb.trans (bw.mono hb.size));have CM:=yH (pmay_any x (wr.alloc (.cells #[.int .u64 x.se,.int .u8 x.ow,.int .u8 x.sl,.int .u8 x.bu,.int .i64 x.lf,.int .i64 x.nu,.int .i64 x.de] 75)) HX.out);clear bw hP hb
  by_cases hm:x.may
  ·rw[decide_eq_true hm]at CM
   by_cases hs:x.se≤last
   ·have HBad:=yH (BD.out (.inr hs));clear BD NX hm TK;go_wp2_with fail;refine CM.out.mono ?_;rintro e w3 ⟨rfl,b3⟩;have K3:=K0.out.below b3 K0.out.lt;have d0:=K3.cell 0;simp at d0;have HB3:=yT HBW b3;clear b3 K3 CM;go_wp2_with fail;refine bodyPost_ret (v:=.tuple #[.pointer none,.int .i64 1]) (by simp[results,Tryz.results66,go_sem]) rfl ?_;exact⟨HB3.out,.inr (.inr ⟨rfl,h32,HBad.out⟩)⟩
   have hs':last<x.se:=by omega
   have HN:=yH (NX.out hm hs');clear BD NX hm hs;go_wp2_with fail;refine CM.out.mono ?_;rintro e w3 ⟨rfl,b3⟩;have HA4:=yB K0 b3;have HG4':=HP0.out.below b3;have HB3:=yT HBW b3;clear b3 CM HP0 HBW K0;obtain⟨ao,cap,hvl,hc1,hc2,_⟩:=aAg HG4'.row;subst hvl;have HG4:=yH HG4';clear HG4';unfold maxLen at hc2;have d0:=HA4.out.cell 0;simp at d0;go_wp2_with fail;clear d0;have hgl:=HG4.out.blk.lt;have d0:=HG4.out.blk.cell 0;simp at d0;have a0:=HA4.out.cell 0;have a1:=HA4.out.cell 1;have a2:=HA4.out.cell 2;have a3:=HA4.out.cell 3;have a4:=HA4.out.cell 4;have a5:=HA4.out.cell 5;have a6:=HA4.out.cell 6;simp at a0 a1 a2 a3 a4 a5 a6
   go_region_law (refine aG6 rfl (.tmp 35) (.tmp 37) 156 rfl w.heap.size 197 Tryz.underlying156 rfl aJa (.slice ao out.length cap) out rfl (aAf HG4.out.row (yZ.drew.alloc yL _)) w3.heap.size 1 x rfl (Blk.new w3.drew _ _) (by omega) (by simp;omega) ?_;intro v' w' ho hgr hat;have HAP:=yH (appended HG4.out ho hgr hat);have hB:=HAP.out.1;have d1:=hB.cell 0;have f1:=hB.frozen 0;have l1:=hB.lt;simp at d1;obtain⟨ao',cap',hv',_⟩:=aAg ho;obtain⟨ln,hln⟩:∃ln,(out++[x]).length=ln:=⟨_,rfl⟩;rw[hln]at hv';subst hv';clear hln;clear ho hgr hat hB d0)
   all_goals
    have HE:=yH HAP.out.2;clear HAP d1 f1 l1;have e3:=HE.out.2.2 HA4.out HNF.out;have e4:=e3.cell 0;simp at e4;clear e3;go_wp2_with fail;go_roundw
    case rel=>exact⟨k+1,x.se,_,by omega,by go_num,by first|rfl|go_num,HN.out,by rw[TK.out];exact HE.out.1,HB3.out.trans (HE.out.2.1.1.below HB3.out.size (fun j hj hf=>by have:=(HG4.out.lt hf).1;omega))⟩
    case measure=>simp[intOf];omega
  rw[decide_eq_false hm]at CM;have HBad:=yH (BD.out (.inl hm));clear BD NX hm TK;go_wp2_with fail;refine CM.out.mono ?_;rintro e w3 ⟨rfl,b3⟩;have HB3:=yT HBW b3;clear b3 CM;go_wp2_with fail;refine bodyPost_ret (v:=.tuple #[.pointer none,.int .i64 1]) (by simp[results,Tryz.results66,go_sem]) rfl ?_;exact⟨HB3.out,.inr (.inr ⟨rfl,h32,HBad.out⟩)⟩
 have hke:l.take k=l:=List.take_of_length_le (by omega);rw[hke]at hO hP
 by_cases hs:nx≤last
 ·have HBad:=yH (hO.late h0 hs);have HB:=yH hb;clear hO hP hb hke;go_wp2_with fail;refine bodyPost_ret (v:=.tuple #[.pointer none,.int .i64 1]) (by simp[results,Tryz.results66,go_sem]) rfl ?_;exact⟨HB.out,.inr (.inr ⟨rfl,h32,HBad.out⟩)⟩
 have HG:=yH (hO.good (nx:=nx) (by omega));have HB:=yH hb;have HP:=yH hP;clear hO hP hb hke;go_wp2_with fail;refine bodyPost_ret (v:=.tuple #[.pointer (some ⟨w.heap.size,0,none⟩),.int .i64 0]) (by simp[results,Tryz.results66,go_sem]) rfl ?_;exact⟨HB.out,.inl ⟨h32,HG.out.1,HG.out.2,w.heap.size,vl,rfl,HP.out⟩⟩
end Go.Proofs.YtngnfdnfpiiclaaGreat
