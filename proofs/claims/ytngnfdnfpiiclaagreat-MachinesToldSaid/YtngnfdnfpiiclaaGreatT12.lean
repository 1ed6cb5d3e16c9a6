/- Pieces of one proof. -/
import Derived.Test.YtngnfdnfpiiclaaGreatT04
import Derived.Test.YtngnfdnfpiiclaaGreatT11
import Derived.Sort.Grow
set_option linter.all false
set_option maxHeartbeats 64000000
set_option maxRecDepth 100000
namespace Go.Proofs.YtngnfdnfpiiclaaGreat
open Go.RowKit
def TwI(c d:Nat)(B M0 M1 N0 N1:World→Prop)(R1 R2:Value→World→Prop)(s:V5)(D:Nat→Bool)(w:World):Prop:=
 B w∧(D c=true→M1 w∧R1 s.a w)∧(D c=false→M0 w)∧(D d=true→N1 w∧R2 s.b w)∧(D d=false→N0 w)
def Calm(P:World→Prop):Prop:=∀w w',P w→Below w.heap.size w w'→P w'
section
variable{c d:Nat}{B M0 M1 N0 N1:World→Prop}{R1 R2:Value→World→Prop}{s:V5}{D:Nat→Bool}{w w':World}
theorem TwI.start(hB:B w)(hM:M0 w)(hN:N0 w):TwI c d B M0 M1 N0 N1 R1 R2 s (fun _=>false) w:=⟨hB,fun h=>(Bool.false_ne_true h).elim,fun _=>hM,fun h=>(Bool.false_ne_true h).elim,fun _=>hN⟩
theorem TwI.keep(h:TwI c d B M0 M1 N0 N1 R1 R2 s D w)(k:Nat)(hk:c≠k∧d≠k):TwI c d B M0 M1 N0 N1 R1 R2 s (ins k D) w:=by
 unfold TwI at h ⊢;rw[aD2 hk.1,aD2 hk.2];exact h
theorem TwI.call1(h:TwI c d B M0 M1 N0 N1 R1 R2 s D w)(hk:d≠c)(hd:D d=false){x:V5}(hB:B w')(hM:M1 w')(hR:R1 x.a w')(hN:N0 w→N0 w'):TwI c d B M0 M1 N0 N1 R1 R2 x (ins c D) w':=by
 refine⟨hB,fun _=>⟨hM,hR⟩,fun q=>?_,fun q=>?_,fun _=>hN (h.2.2.2.2 hd)⟩
 ·rw[aTt]at q;exact absurd q.symm Bool.false_ne_true
 rw[aD2 hk,hd]at q;exact absurd q Bool.false_ne_true
theorem TwI.call2(h:TwI c d B M0 M1 N0 N1 R1 R2 s D w)(hk:c≠d)(hc:D c=true){x:V5}(hx:x.a=s.a)(hB:B w')(hM:M1 w→M1 w')(hQ:R1 s.a w→R1 s.a w')(hN:N1 w')(hR:R2 x.b w'):TwI c d B M0 M1 N0 N1 R1 R2 x (ins d D) w':=by
 refine⟨hB,fun _=>?_,fun q=>?_,fun _=>⟨hN,hR⟩,fun q=>?_⟩
 ·obtain⟨a,b⟩:=h.2.1 hc;rw[hx];exact⟨hM a,hQ b⟩
 ·rw[aD2 hk,hc]at q;exact absurd q.symm Bool.false_ne_true
 rw[aTt]at q;exact absurd q.symm Bool.false_ne_true
theorem TwI.below(h:TwI c d B M0 M1 N0 N1 R1 R2 s D w)(k:Nat)(hk:c≠k∧d≠k)(b:Below w.heap.size w w')(hB:Calm B)(h0:Calm M0)(h1:Calm M1)(h2:Calm N0)(h3:Calm N1)(h4:Calm (R1 s.a))(h5:Calm (R2 s.b)):TwI c d B M0 M1 N0 N1 R1 R2 s (ins k D) w':=by
 unfold TwI at h ⊢;rw[aD2 hk.1,aD2 hk.2];exact⟨hB _ _ h.1 b,fun q=>⟨h1 _ _ (h.2.1 q).1 b,h4 _ _ (h.2.1 q).2 b⟩,fun q=>h0 _ _ (h.2.2.1 q) b,fun q=>⟨h3 _ _ (h.2.2.2.1 q).1 b,h5 _ _ (h.2.2.2.1 q).2 b⟩,fun q=>h2 _ _ (h.2.2.2.2 q) b⟩
theorem TwI.b(h:TwI c d B M0 M1 N0 N1 R1 R2 s D w):B w:=h.1
theorem TwI.m1(h:TwI c d B M0 M1 N0 N1 R1 R2 s D w)(q:D c=true):M1 w∧R1 s.a w:=h.2.1 q
theorem TwI.m0(h:TwI c d B M0 M1 N0 N1 R1 R2 s D w)(q:D c=false):M0 w:=h.2.2.1 q
theorem TwI.n1(h:TwI c d B M0 M1 N0 N1 R1 R2 s D w)(q:D d=true):N1 w∧R2 s.b w:=h.2.2.2.1 q
theorem TwI.n0(h:TwI c d B M0 M1 N0 N1 R1 R2 s D w)(q:D d=false):N0 w:=h.2.2.2.2 q
end
structure MofProg(Is:World→Nat→Hs→Prop):Prop where
 at_:∀{w:World} {σ:Hs} {vp vl vo:Value},aFn w σ vp vl vo→HInv σ→Calls Tryz.prog 32 #[.agg #[vp,vl,vo,.int .u64 σ.N]] w fun e w'=>∃k,e=.returned (.tuple #[.pointer (some ⟨k,0,none⟩),.int .i64 0])∧w.heap.size≤k∧Is w' k σ∧Below w.heap.size w w'
noncomputable def aPs(σ:Hs)(cs:List Cm)(k:Nat):Hs:=cmdsF σ ((cs.take k).map Cm.xs)
theorem fromK_next(σ:Hs)(cs:List Cm){k:Nat}(h:k<cs.length):aPs σ cs (k+1)=(aBe (aPs σ cs k) cs[k].xs).1:=by
 unfold aPs;rw[List.map_take,List.map_take,aOo _ _ y7];simp
def TlAt(Is:World→Nat→Hs→Prop)(w W:World)(g gn:Nat)(σ:Hs)(cs:List Cm)(i:Value)(wr:World):Prop:=∃k:Nat,k≤cs.length∧i=.int .i64 k∧Is wr g (aPs σ cs k)∧Is wr gn (aPs σ cs k)∧Below w.heap.size w wr∧W.heap.size≤wr.heap.size
def RpAt(W:World)(gs:List Gt)(v:Value)(w:World):Prop:=∃base,W.heap.size≤base∧Told w base 93 2 v gs.length (aAr gs)
theorem pAM(W:World)(gs:List Gt)(v:Value):Calm (RpAt W gs v):=fun _ _ ⟨b,h,t⟩ k=>⟨b,h,t.below k⟩
theorem RpAt.keep{W w w':World}{gs:List Gt}{v:Value}(h:RpAt W gs v w){g:Nat}(k:Keep (·=g) w w')(hg:g<W.heap.size):RpAt W gs v w':=by
 obtain⟨b,hb,t⟩:=h;exact⟨b,hb,t.keep k (fun j hj e=>by have:=(t.own hj).1;omega)⟩
theorem got_few{τ:Hs}(xs:List Stp):(aBe τ xs).2.2.2.length≤8:=by
 unfold aBe
 by_cases h:xs.length<1∨8<xs.length
 ·rw[if_pos h];simp
 rw[if_neg h]
 by_cases e:(runF τ xs 0 []).2.1≠0
 ·rw[if_pos e];simp
 rw[if_neg e];have:=(runF_len xs (Classical.not_not.1 e)).1;rw[this];simp;omega
theorem RpAt.reads{W w:World}{τ:Hs}{xs:List Stp}{v:Value}(h:RpAt W (aBe τ xs).2.2.2 v w)(_:HInv τ):aBm w v 2 (aBe τ xs).2.2.2.length (aAr (aBe τ xs).2.2.2):=by
 obtain⟨_,_,t⟩:=h;exact t.reads (by have:=got_few (τ:=τ) xs;omega)
theorem mtold_walk{Is:World→Nat→Hs→Prop}(HM:aHx (fun _=>True) Is)(HO:MofProg Is)(HL:aTr)(a:Option Addr)(len cap:Nat)(cs:List Cm)(a2:Option Addr)(len2 cap2:Nat)(ds:List Cm)(w:World)(h:SlIn Cm.vals 1 (Cm.In w) w a len cap cs)(h2:SlIn Cm.vals 1 (Cm.In w) w a2 len2 cap2 ds):
  Calls Tryz.prog 8 #[.slice a len cap,.slice a2 len2 cap2] w (yR w (.bool true)):=by
 have hlen:cs.length=len:=h.2.1;subst hlen;have hlen2:ds.length=len2:=h2.2.1;subst hlen2;have MP:=yH HM;have MO:=yH HO;have LV:=yH HL;have HS:=yH h;have HT:=yH h2;have CG:=yH (aM8 h);have CH:=yH (aM8 h2);clear HM HO HL h h2;go_enter Tryz.func8,Tryz.ntmps8;go_wp2_with fail;refine CG.o.mono ?_;rintro e w ⟨b,rfl,hb,rfl⟩;have GS:=yH hb;clear CG hb
 cases b with
 | true=>
  go_wp2_with fail;refine(LV.o _).mono ?_;rintro e wl ⟨rfl,bl⟩;go_wp2_with fail;go_ret;exact⟨rfl,bl⟩
 | false=>
  go_wp2_with fail;refine CH.o.mono ?_;rintro e w ⟨b,rfl,hb,rfl⟩;have GT:=yH hb;clear CH hb
  cases b with
  | true=>
   go_wp2_with fail;refine(LV.o _).mono ?_;rintro e wl ⟨rfl,bl⟩;go_wp2_with fail;go_ret;exact⟨rfl,bl⟩
  | false=>
   go_wp2_with fail;refine(MP.o.new _).mono ?_;rintro e w2 ⟨g,rfl,hg,hg0,b2⟩;have B2:=yH b2;have HG:=yH hg;have G0:=yH hg0;clear b2 hg hg0;go_wp2_with fail
   go_loopw [6] (fun i wr=>CmAt Is w2 g cs i wr) (fun i _=>cs.length - (intOf i).toNat)
   case atStart=>exact⟨0,zQ,rfl,HG.o,Keep.refl _ _⟩
   obtain⟨k,hk,rfl,hi,kk⟩:=hrel;have BR:=yH (B2.o.trans (kk.below B2.o.size (fun j hj e=>uF G0.o)))
   by_cases hkl:k<cs.length
   ·have hki:(k:Int)<(cs.length:Int):=zQ
    have hk0:(0:Int)≤(k:Int):=zQ
    obtain⟨_,_,hin,_,_,hcell⟩:=aRg HS.o BR.o;obtain⟨b,off,rfl,hb,hc⟩:=hcell zQ;have c0:=hc k hkl 0 _ rfl;rw[Nat.mul_one,Nat.add_zero]at c0;have CA:=yH (MP.o.apply hi (atK_inv cs k) cs[k] (hin _ (List.getElem_mem hkl)) (fun _ _=>trivial));have NX:=yH (atK_next cs hkl);have KK:=yH kk;have HK:=yH hkl;have hl:=(GS.o rfl).1;clear hin hc hcell hi kk;generalize cs[k]=y at CA c0 NX;clear hkl;go_wp2_with fail;refine CA.o.mono ?_;rintro e w3 ⟨v,rfl,_,hI,k3⟩;have NI:=yH (NX.o ▸ hI);have K3:=yH (KK.o.trans k3);clear hI k3 c0 CA;go_wp2_with fail;exact⟨⟨k+1,zQ,by go_num,NI.o,K3.o⟩,zS⟩
   have hkn:k=cs.length:=zQ
   subst hkn;have SI:=yH (atK_inv cs cs.length);have CS:=yH (MP.o.state hi SI.o);have IG:=yH hi;generalize atK cs cs.length=σ at SI CS IG;clear hi kk hkl hk;go_wp2_with fail;refine CS.o.mono ?_;rintro e w5 ⟨vp,vl,vo,rfl,tp,tl,tf,b5⟩;have ST:=yH (show aFn w5 σ vp vl vo from⟨tp.reads SI.o.lens.1,tl.reads SI.o.lens.2.1,tf.reads SI.o.lens.2.2⟩);have IG5:=yH (MP.o.below IG.o b5);have B5:=yH (andB BR.o b5);clear tp tl tf b5 CS IG BR B2 HG HS GS;go_wp2_with fail;refine(MO.o.at_ ST.o SI.o).mono ?_;rintro e w6 ⟨gn,rfl,hgn,hin,b6⟩;have gl:=MP.o.lt IG5.o;have gl2:=MP.o.lt hin;have GL:Hid (w.heap.size≤g∧g<gn∧gn<w6.heap.size):=yH ⟨G0.o,zQ,gl2⟩;have IG6:=yH (MP.o.below IG5.o b6);have IN6:=yH hin;have B6:=yH (andB B5.o b6);clear hgn hin b6 gl gl2 IG5 B5 ST MO G0;go_wp2_with fail
   go_loopw [9] (fun i wr=>TlAt Is w w6 g gn σ ds i wr) (fun i _=>ds.length - (intOf i).toNat)
   case atStart=>exact⟨0,zQ,rfl,IG6.o,IN6.o,B6.o,Nat.le_refl _⟩
   obtain⟨k,hk,rfl,hig,hin,hb,hsz⟩:=hrel;have TI:=yH (show HInv (aPs σ ds k)from aM7 SI.o _)
   by_cases hkl:k<ds.length
   ·have hki:(k:Int)<(ds.length:Int):=zQ
    have hk0:(0:Int)≤(k:Int):=zQ
    obtain⟨_,_,_,_,_,hcell⟩:=HT.o;obtain⟨b,off,rfl,hbb,hc⟩:=hcell zQ;have c0:=hc k hkl 0 _ rfl;rw[Nat.mul_one,Nat.add_zero]at c0;have NX:=yH (fromK_next σ ds hkl);have IY:=yH (fun w' (q:Below w.heap.size w w')=>(aRg HT.o q).2.2.1 _ (List.getElem_mem hkl));have HK:=yH hkl;have hl:=(GT.o rfl).1;have FX:Hid (∀w',Below w.heap.size w w'→w'.cell? ⟨b,off+k,none⟩=some (.slice ds[k].a ds[k].n ds[k].c)∧b<w'.heap.size):=yH (fun w' q=>⟨(q.cell (p:=⟨b,off+k,none⟩) hbb).trans c0,yM hbb q.size⟩);clear hc hcell c0 hbb;obtain⟨τ',hτ⟩:∃t,aPs σ ds (k+1)=t:=⟨_,rfl⟩;rw[hτ]at NX;have EQ:=yH hτ;clear hτ;generalize aPs σ ds k=τ at TI NX hig hin;generalize ds[k]=y at IY FX NX;obtain⟨gl0,gl1,gl2⟩:=GL.o;have hW:Hid (wr.heap.size=wr.heap.size∧w6.heap.size≤wr.heap.size):=yH ⟨rfl,hsz⟩;have hB0:Below w.heap.size w wr.drew∧wr.heap.size≤wr.drew.heap.size:=⟨hb.drew,Nat.le_refl _⟩;have hM0:Is wr.drew g τ:=MP.o.below hig yZ.drew;have hN0:Is wr.drew gn τ:=MP.o.below hin yZ.drew;clear hkl
    go_upto_region 14 with fail
    refine aEa zW (fun s:V5=>[.pointer (some ⟨g,0,none⟩),.slice (some ⟨b,off,none⟩) ds.length cap2,.int .i64 k,.pointer (some ⟨b,off+k,none⟩),.agg #[.slice y.a y.n y.c],.agg #[.int .i64 (aBe τ y.xs).2.1,.int .i64 ((aBe τ y.xs).2.2.1:Nat),s.a],.pointer (some ⟨gn,0,none⟩),.slice (some ⟨b,off,none⟩) ds.length cap2,.int .i64 k,.pointer (some ⟨b,off+k,none⟩),.agg #[.slice y.a y.n y.c],.agg #[.int .i64 (aBe τ y.xs).2.1,.int .i64 ((aBe τ y.xs).2.2.1:Nat),s.b],.bool true,.bool false]) (TwI 5 11 (fun w'=>Below w.heap.size w w'∧wr.heap.size≤w'.heap.size) (Is · g τ) (Is · g τ') (Is · gn τ) (Is · gn τ') (RpAt wr (aBe τ y.xs).2.2.2) (RpAt wr (aBe τ y.xs).2.2.2)) zW noV (TwI.start (hB0) (hM0) (hN0)) ?_;intro AF hAF;simp only[yG,List.append_eq,List.cons_append,List.nil_append,puts,Act.put,yA,yC,yF,yD,yE]at hAF;have hAF2:_=AF:=funext hAF;subst hAF2;clear hAF;refine⟨?_,?_⟩
    ·simp only[yG,List.append_eq,List.cons_append,List.nil_append,aNn];refine⟨?_,?_,?_,?_,?_,?_,?_,?_,?_,?_,?_,?_,?_,?_,trivial⟩
     iterate 5 (· intro s D w' hD hW hC hI;refine .inl ⟨s,fun _ _ _=>rfl,?_⟩;(with_reducible refine yO ?_ ?_);exact rfl;have HS:=yH (fun k hk=>TwI.keep hI k hk);obtain⟨t0,l0⟩:=FX.o _ hI.b.1;clear hI hC hW hD;go_wp2_with fail;all_goals first|exact HS.o _ zX|exact⟨rfl,HS.o _ zX⟩|rfl)
     ·intro s D w' hD hW hC hI;have hE:D 11=false:=aAd hC hD 11 zW;refine .inr ?_
      (with_reducible refine aE9.plain ?_ ?_)
      exact rfl;have HI:=yH hI;have HD:=yH hD;have HE:=yH hE;have HC:=yH (MP.o.apply (hI.m0 hD) TI.o y (IY.o _ hI.b.1) (fun _ _=>trivial));clear hI hC hW hD hE;go_wp2_with fail;refine HC.o.mono ?_;rintro e w'' ⟨v,rfl,tv,hJ,k3⟩;refine aFu _ rfl ⟨⟨v,s.b,s.c,s.d,s.e⟩,?_,rfl,HI.o.call1 zX HE.o ⟨(HI.o.b.1.trans (k3.below HI.o.b.1.size (fun j hj e=>zQ))),Nat.le_trans HI.o.b.2 k3.size⟩ (NX.o ▸ hJ) ⟨_,HI.o.b.2,tv⟩ (fun q=>MP.o.other q (HI.o.m0 HD.o) zQ k3)⟩;intro j hj hD'
      match j,hj with
      | 0,_|1,_|2,_|3,_|4,_|6,_|7,_|8,_|9,_|10,_|11,_|12,_|13,_=>rfl
      | 5,_=>exact absurd hD' zM
      | j+14,_=>rfl
     iterate 5 (· intro s D w' hD hW hC hI;refine .inl ⟨s,fun _ _ _=>rfl,?_⟩;(with_reducible refine yO ?_ ?_);exact rfl;have HS:=yH (fun k hk=>TwI.keep hI k hk);obtain⟨t0,l0⟩:=FX.o _ hI.b.1;clear hI hC hW hD;go_wp2_with fail;all_goals first|exact HS.o _ zX|exact⟨rfl,HS.o _ zX⟩|rfl)
     ·intro s D w' hD hW hC hI;have hE:D 5=true:=aAs hC hW zW;refine .inr ?_
      (with_reducible refine aE9.plain ?_ ?_)
      exact rfl;have HI:=yH hI;have HD:=yH hD;have HE:=yH hE;have HC:=yH (MP.o.apply (hI.n0 hD) TI.o y (IY.o _ hI.b.1) (fun _ _=>trivial));clear hI hC hW hD hE;go_wp2_with fail;refine HC.o.mono ?_;rintro e w'' ⟨v,rfl,tv,hJ,k3⟩;refine aFu _ rfl ⟨⟨s.a,v,s.c,s.d,s.e⟩,?_,rfl,HI.o.call2 zX HE.o rfl ⟨(HI.o.b.1.trans (k3.below HI.o.b.1.size (fun j hj e=>zQ))),Nat.le_trans HI.o.b.2 k3.size⟩ (fun q=>MP.o.other q (HI.o.n0 HD.o) zQ k3) (fun q=>q.keep k3 zQ) (NX.o ▸ hJ) ⟨_,HI.o.b.2,tv⟩⟩;intro j hj hD'
      match j,hj with
      | 0,_|1,_|2,_|3,_|4,_|5,_|6,_|7,_|8,_|9,_|10,_|12,_|13,_=>rfl
      | 11,_=>exact absurd hD' zM
      | j+14,_=>rfl
     ·intro s D w' hD hW hC hI;have hc:D 5=true:=aAs hC hW zW;have hd:D 11=true:=aAs hC hW zW;refine .inl ⟨s,fun _ _ _=>rfl,?_⟩
      (with_reducible refine yO ?_ ?_)
      exact rfl;have HI:=yH hI;have HC:=yH ((aCx (e1:=(aBe τ y.xs).2.1) (a1:=((aBe τ y.xs).2.2.1:Nat)) (e2:=(aBe τ y.xs).2.1) (a2:=((aBe τ y.xs).2.2.1:Nat)) (RpAt.reads (hI.m1 hc).2 TI.o) (RpAt.reads (hI.n1 hd).2 TI.o)).mono (fun e w'' q=>(⟨by rw[q.1];simp,q.2⟩:e=.returned (.bool true)∧Below w'.heap.size w' w'')));clear hI hC hW hD hc hd;go_wp2_with fail;refine HC.o.mono ?_;rintro e w'' ⟨rfl,hb2⟩;exact⟨rfl,HI.o.below _ zX hb2 (fun w1 w2 h k=>show Below w.heap.size w w2∧wr.heap.size≤w2.heap.size from⟨h.1.trans (k.mono h.1.size),Nat.le_trans h.2 k.size⟩) (fun _ _=>MP.o.below) (fun _ _=>MP.o.below) (fun _ _=>MP.o.below) (fun _ _=>MP.o.below) (pAM _ _ _) (pAM _ _ _)⟩
     iterate 1 (· intro s D w' hD hW hC hI;refine .inl ⟨s,fun _ _ _=>rfl,?_⟩;(with_reducible refine yO ?_ ?_);exact rfl;have HS:=yH (fun k hk=>TwI.keep hI k hk);obtain⟨t0,l0⟩:=FX.o _ hI.b.1;clear hI hC hW hD;go_wp2_with fail;all_goals first|exact HS.o _ zX|exact⟨rfl,HS.o _ zX⟩|rfl)
    intro s DD w1 hall hI;have hI2:=(hI.m1 (hall 5 zX)).1;have hI3:=(hI.n1 (hall 11 zX)).1
    replace hI:=hI.b
    clear hall;have NI:=yH hI;have N2:=yH hI2;have N3:=yH hI3;clear hI hI2 hI3
    try dsimp only
    go_wp2_with fail;exact⟨⟨k+1,zQ,by go_num,by rw[EQ.o];exact N2.o,by rw[EQ.o];exact N3.o,NI.o.1,uS NI.o.2 hW.out.2⟩,zS⟩
   have hkn:k=ds.length:=zQ
   subst hkn;have I1:=yH hig;have I2:=yH hin;have BW:=yH hb;generalize aPs σ ds ds.length=τ at TI I1 I2;clear hig hin hb hsz hkl hk;go_wp2_with fail;refine(aM9 MP.o I1.o TI.o).mono ?_;rintro e w8 ⟨_,rfl,⟨p1,l1,o1,rfl,s1⟩,b8⟩;have S1:=yH s1;have J1:=yH (MP.o.below I1.o b8);have J2:=yH (MP.o.below I2.o b8);have B8:=yH (andB BW.o b8);clear s1 b8 I1 I2 BW;go_wp2_with fail;refine(aM9 MP.o J2.o TI.o).mono ?_;rintro e w9 ⟨_,rfl,⟨p2,l2,o2,rfl,s2⟩,b9⟩;have CL:=yH (like_any (S1.o.below b9) s2);have L1:=yH (MP.o.below J1.o b9);have B9:=yH (andB B8.o b9);clear s2 b9 J1 J2 B8 S1;go_wp2_with fail;refine CL.o.mono ?_;rintro e w10 ⟨rfl,b10⟩;have L2:=yH (MP.o.below L1.o b10);have B10:=yH (andB B9.o b10);clear b10 L1 B9 CL;go_wp2_with fail;refine(aM9 MP.o L2.o TI.o).mono ?_;rintro e w11 ⟨_,rfl,⟨p3,l3,o3,rfl,s3⟩,b11⟩;have CS:=yH (Sound_any s3 TI.o);have B11:=yH (andB B10.o b11);clear s3 b11 L2 B10;go_wp2_with fail;refine CS.o.mono ?_;rintro e w12 ⟨rfl,b12⟩;have B12:=yH (andB B11.o b12);clear b12 B11 CS;go_wp2_with fail;refine(LV.o _).mono ?_;rintro e w13 ⟨rfl,b13⟩;go_wp2_with fail;go_ret;exact⟨rfl,andB B12.o b13⟩
theorem Keep.trans_new{S T:Nat→Prop}{a b c:World}(h:Keep S a b)(k:Keep T b c)(hT:∀j,j<a.heap.size→T j→S j):Keep S a c:=
 ⟨k.os.trans h.os,k.tape.trans h.tape,k.output.trans h.output,Nat.le_trans h.size k.size,fun i hi hs=>(k.block i (yM hi h.size) (fun t=>hs (hT i hi t))).trans (h.block i hi hs)⟩
theorem aHy{w:World}{b1 b2 s1 s2 n1 n2:Nat}{e1 e2:TypeId}{v1 v2:Value}{xs ys:List Value}(h:w.ownsRow b1 e1 s1 v1 n1 xs)(g:w.ownsRow b2 e2 s2 v2 n2 ys)(hne:e1≠e2):∀b,v1.ownBlock=some b→¬v2.ownBlock=some b:=fun b hb hg=>by
 obtain⟨_,_,c1,k1⟩:=aAe h hb;obtain⟨_,_,c2,k2⟩:=aAe g hg;have:=k1.symm.trans k2;simp at this;exact hne this.2
def aCj:Prop:=∀{w:World} {base G M gb:Nat} {ps:List Int} {ls:List Ln} {l:List Of} {N:Int} {vb:Value},LedM w G M ps ls→LInv ps ls→PB w base gb l N vb→BInv l N→
 ∀(s tk pt want most m1 m2:Int),(0≤s∧s≤18446744073709551615)→In8 tk→In8 pt→In64 want→In64 most→(∀o,aBd l s=some o→Goes ps ls o tk pt m1 m2)→
 Calls Tryz.prog 273 #[.agg #[.pointer (some ⟨G,0,none⟩),.pointer (some ⟨gb,0,none⟩)],.int .u64 s,.int .u8 tk,.int .u8 pt,.int .i64 want,.int .i64 most] w (yR w (.int .i64 (mayV l ps s tk pt want most m1 m2)))def FDoPost(w:World)(base G M gb:Nat)(ps:List Int)(ls:List Ln)(l:List Of)(N:Int)(vb:Value)(s tk pt n m1 m2:Int)(e:Ending)(w':World):Prop:=
 (¬doOk l ps s tk pt n m1 m2∧e=.returned (.tuple #[aH6,.int .i64 1])∧Below w.heap.size w w')∨
 (doOk l ps s tk pt n m1 m2∧∃o x ls' vb',aBd l s=some o∧x=upN (n*o.nu) o.de∧aKs ps ls o tk pt n x ls'∧e=.returned (.tuple #[.agg #[.int .u64 s,.int .u8 tk,.int .u8 pt,.int .i64 n,.int .i64 x],.int .i64 0])∧
  LedM w' G M ps ls'∧PB w' base gb (aDv l s n) N vb'∧Keep (fun k=>k=G∨k=M∨Foot gb vb k) w w'∧aEj w vb vb')
def aD3:Prop:=∀{w:World} {base G M gb:Nat} {ps:List Int} {ls:List Ln} {l:List Of} {N:Int} {vb:Value},LedM w G M ps ls→LInv ps ls→PB w base gb l N vb→BInv l N→
 ∀(s tk pt n m1 m2:Int),(0≤s∧s≤18446744073709551615)→In8 tk→In8 pt→In64 n→(∀o,aBd l s=some o→Goes ps ls o tk pt m1 m2)→
 Calls Tryz.prog 235 #[.agg #[.pointer (some ⟨G,0,none⟩),.pointer (some ⟨gb,0,none⟩)],.int .u64 s,.int .u8 tk,.int .u8 pt,.int .i64 n] w (FDoPost w base G M gb ps ls l N vb s tk pt n m1 m2)
def FCopyPost(w:World)(ps:List Int)(ls:List Ln)(l:List Of)(N:Int)(e:Ending)(w':World):Prop:=
 ∃G M gb vb,e=.returned (.agg #[.pointer (some ⟨G,0,none⟩),.pointer (some ⟨gb,0,none⟩)])∧LedM w' G M ps ls∧PB w' w.heap.size gb l N vb∧w.heap.size≤G∧w.heap.size≤M∧Below w.heap.size w w'
def aDu:Prop:=∀{w:World} {base G M gb:Nat} {ps:List Int} {ls:List Ln} {l:List Of} {N:Int} {vb:Value},LedM w G M ps ls→LInv ps ls→PB w base gb l N vb→BInv l N→
 Calls Tryz.prog 47 #[.agg #[.pointer (some ⟨G,0,none⟩),.pointer (some ⟨gb,0,none⟩)]] w (FCopyPost w ps ls l N)
theorem aRh(HMy:aCj){w:World}{base G M gb:Nat}{ps:List Int}{ls:List Ln}{l:List Of}{N:Int}{vb:Value}(hL:LedM w G M ps ls)(hI:LInv ps ls)(hP:PB w base gb l N vb)(hJ:BInv l N)
  (s tk pt want most:Int)(hs:0≤s∧s≤18446744073709551615)(ht:In8 tk)(hto:In8 pt)(hw:In64 want)(hmo:In64 most):
  Calls Tryz.prog 273 #[.agg #[.pointer (some ⟨G,0,none⟩),.pointer (some ⟨gb,0,none⟩)],.int .u64 s,.int .u8 tk,.int .u8 pt,.int .i64 want,.int .i64 most] w (yR w (.int .i64 (mayS ps ls l tk pt want most s))):=by
 obtain⟨m1,m2,g,_,_⟩:=aMp hI l s tk pt;rw[←aPf hI g];exact HMy hL hI hP hJ s tk pt want most m1 m2 hs ht hto hw hmo g
def PDoS(w:World)(base G M gb:Nat)(ps:List Int)(ls:List Ln)(l:List Of)(N:Int)(vb:Value)(s tk pt n:Int)(e:Ending)(w':World):Prop:=
 (¬okS ps ls l tk pt n s∧e=.returned (.tuple #[aH6,.int .i64 1])∧Below w.heap.size w w')∨
 (okS ps ls l tk pt n s∧∃o x vb',aBd l s=some o∧x=upN (n*o.nu) o.de∧e=.returned (.tuple #[.agg #[.int .u64 s,.int .u8 tk,.int .u8 pt,.int .i64 n,.int .i64 x],.int .i64 0])∧
  LedM w' G M ps (aC2 ps ls o tk pt n x)∧PB w' base gb (aDv l s n) N vb'∧Keep (fun k=>k=G∨k=M∨Foot gb vb k) w w'∧aEj w vb vb')
theorem aJt(HD:aD3){w:World}{base G M gb:Nat}{ps:List Int}{ls:List Ln}{l:List Of}{N:Int}{vb:Value}(hL:LedM w G M ps ls)(hI:LInv ps ls)(hP:PB w base gb l N vb)(hJ:BInv l N)
  (s tk pt n:Int)(hs:0≤s∧s≤18446744073709551615)(ht:In8 tk)(hto:In8 pt)(hn:In64 n):
  Calls Tryz.prog 235 #[.agg #[.pointer (some ⟨G,0,none⟩),.pointer (some ⟨gb,0,none⟩)],.int .u64 s,.int .u8 tk,.int .u8 pt,.int .i64 n] w (PDoS w base G M gb ps ls l N vb s tk pt n):=by
 obtain⟨m1,m2,g,_,_⟩:=aMp hI l s tk pt;refine(HD hL hI hP hJ s tk pt n m1 m2 hs ht hto hn g).mono ?_;rintro e w' (⟨a,b,c⟩|⟨a,o,x,ls',vb',b,c,d,f,h1,h2,h3,h4⟩)
 ·exact .inl ⟨fun q=>a ((aMr hI g).2 q),b,c⟩
 rw[d.eq (aHo hI o tk pt n x)]at h1;exact .inr ⟨(aMr hI g).1 a,o,x,vb',b,c,f,h1,h2,h3,h4⟩
def aBj:Int→List Int→Int
 | n,[]=>n
 | n,v::vs=>if min n v<1 then 0 else aBj (min n v) vs
structure Bnd(w:World)(rv:Value)(b:Nat×Int):Prop where
 enter:∀args w',(callFunc b.1 args).run Tryz.prog w'=.ok (.enter b.1 args) w'
 call:∀w',Below w.heap.size w w'→Calls Tryz.prog b.1 #[rv] w' fun e w''=>e=.returned (.int .i64 b.2)∧Below w'.heap.size w' w''
theorem Bnd.below{w w':World}{rv:Value}{b:Nat×Int}(h:Bnd w rv b)(k:Below w.heap.size w w'):Bnd w' rv b:=⟨h.enter,fun w2 q=>h.call w2 (andB k q)⟩
def bndV(rv:Value)(b:Nat×Int):Value:=.func (.func b.1) #[rv] #[]
def LeastAtF(W:World)(bs:List (Nat×Int))(n i:Value)(wr:World):Prop:=
 ∃(k:Nat) (m:Int),k≤bs.length∧i=.int .i64 k∧n=.int .i64 m∧(m≤1099511627776 ∧ -9223372036854775808≤m)∧Below W.heap.size W wr∧Hid (aBj 1099511627776 (bs.map (·.2))=aBj m ((bs.drop k).map (·.2)))
theorem aRi{w:World}{g:Nat}{rv:Value}{bs:List (Nat×Int)}{t:TypeId}(hk:Blk w g (bs.map (bndV rv)).toArray t)(hb:∀b∈bs,Bnd w rv b)(h64:∀b∈bs,In64 b.2)(hl:bs.length≤100):
  Calls Tryz.prog 298 #[.slice (some ⟨g,0,none⟩) bs.length bs.length] w (yR w (.int .i64 (aBj 1099511627776 (bs.map (·.2))))):=by
 have K:=yH hk;have HB:=yH hb;have H64:=yH h64;clear hk hb h64;go_enter Tryz.func298,Tryz.ntmps298;go_wp2_with fail
 go_loopw [3,8] (LeastAtF w bs) (fun _ i _=>bs.length - (intOf i).toNat)
 case atStart=>exact⟨0,_,zQ,rfl,rfl,zQ,yZ,yH rfl⟩
 obtain⟨k,m,hkl,rfl,rfl,⟨m1,m2⟩,hB,HE⟩:=hrel;have BB:=yH hB;clear hB
 by_cases hlt:k<bs.length
 ·have hki:(k:Int)<(bs.length:Int):=zQ
  have hk0:(0:Int)≤(k:Int):=zQ
  have KK:=yH (K.o.below BB.o K.o.lt);have d0:=KK.o.cell k;simp only[List.getElem?_toArray,List.getElem?_map,List.getElem?_eq_getElem hlt,Option.map_some]at d0;have HBk:=yH ((HB.o bs[k] (List.getElem_mem _)).below BB.o);have h64:=H64.o bs[k] (List.getElem_mem _);have HD:Hid (bs.drop k=bs[k]::bs.drop (k+1)):=yH (List.drop_eq_getElem_cons hlt);generalize bs[k]=b at *;obtain⟨f,v⟩:=b;unfold bndV at d0;dsimp only at d0 h64;have hv1:=h64.1;have hv2:=h64.2;clear h64;have CB:=yH (HBk.o.call wr yZ);have EN:=HBk.o.enter #[rv] wr;dsimp only at CB EN;have HM:Hid (aBj m (((f,v)::bs.drop (k+1)).map (·.2))=if min m v<1 then 0 else aBj (min m v) ((bs.drop (k+1)).map (·.2))):=yH rfl;clear HBk;go_wp2_with fail;refine CB.o.mono ?_;rintro e w1 ⟨rfl,b1⟩;have B1:=yT BB b1;clear b1 CB EN d0
  by_cases hz:min m v<1
  ·have q1:decide (min m v<1)=true:=vI
   have HZ:=yH hz;clear hz;go_wp2_with fail;go_ret;exact⟨by rw[HE.o,HD.o,HM.o.trans (if_pos HZ.o)];rfl,B1.o⟩
  have q1:decide (min m v<1)=false:=vI
  have HZ:=yH hz;clear hz;go_wp2_with fail;exact⟨⟨k+1,_,zQ,by go_num,rfl,zQ,B1.o,yH (by rw[HE.o,HD.o];exact HM.o.trans (if_neg (uF HZ.o)))⟩,zS⟩
 have hkn:k=bs.length:=zQ
 subst hkn;have HM:Hid (aBj m ((bs.drop bs.length).map (·.2))=m):=yH (by rw[List.drop_length];rfl);go_wp2_with fail;go_ret;exact⟨by rw[HE.o,HM.o];rfl,BB.o⟩
abbrev filV(lp:Option Addr)(o:Of)(tk pt want most:Int):Value:=.agg #[.pointer lp,.int .u64 o.se,.int .u8 o.ow,.int .u8 o.sl,.int .u8 o.bu,.int .i64 o.lf,.int .i64 o.nu,.int .i64 o.de,.int .u8 tk,.int .u8 pt,.int .i64 want,.int .i64 most]
abbrev filC(lp:Option Addr)(o:Of)(tk pt want most:Int):Array Value:=#[.pointer lp,.int .u64 o.se,.int .u8 o.ow,.int .u8 o.sl,.int .u8 o.bu,.int .i64 o.lf,.int .i64 o.nu,.int .i64 o.de,.int .u8 tk,.int .u8 pt,.int .i64 want,.int .i64 most]
theorem aTu(lp:Option Addr)(o:Of)(tk pt want most:Int)(w:World):Calls Tryz.prog 299 #[filV lp o tk pt want most] w (yR w (.int .i64 want)):=by
 have B:=yH ((Below.refl w.heap.size w).alloc yL (.cells (filC lp o tk pt want most) 395));unfold filV;go_enter Tryz.func299,Tryz.ntmps299;go_wp2_with fail;go_ret;exact⟨rfl,B.o⟩
theorem fleft_any(lp:Option Addr)(o:Of)(tk pt want most:Int)(w:World):Calls Tryz.prog 300 #[filV lp o tk pt want most] w (yR w (.int .i64 o.lf)):=by
 have B:=yH ((Below.refl w.heap.size w).alloc yL (.cells (filC lp o tk pt want most) 395));unfold filV;go_enter Tryz.func300,Tryz.ntmps300;go_wp2_with fail;go_ret;exact⟨rfl,B.o⟩
theorem aRj(lp:Option Addr)(o:Of)(tk pt want most:Int)(w:World):Calls Tryz.prog 317 #[filV lp o tk pt want most] w (yR w (.int .i64 most)):=by
 have B:=yH ((Below.refl w.heap.size w).alloc yL (.cells (filC lp o tk pt want most) 395));unfold filV;go_enter Tryz.func317,Tryz.ntmps317;go_wp2_with fail;go_ret;exact⟨rfl,B.o⟩
theorem fsold_any(HM:aEq){w:World}{G M:Nat}{ps:List Int}{ls:List Ln}{o:Of}(h:LedM w G M ps ls)(hI:LInv ps ls)(hf:o.Fits)(tk pt want most:Int)(hp:In8 pt){m1 m2:Int}(g:Goes ps ls o tk pt m1 m2):
  Calls Tryz.prog 301 #[filV (some ⟨G,0,none⟩) o tk pt want most] w fun e w'=>e=.returned (.int .i64 (if pt=o.ow then 1099511627776 else m1))∧Below w.heap.size w w':=by
 have bw:=(Below.refl w.heap.size w).alloc yL (.cells (filC (some ⟨G,0,none⟩) o tk pt want most) 395);have B:=yH bw;obtain⟨⟨μ,h1,h2⟩,_⟩:=g;have CM:=yH (aN9 HM (h.below bw) hI hf.ow hp hf.sl h1);rw[h2]at CM;clear bw h hI hf hp h1 h2;unfold filV
 by_cases he:pt=o.ow
 ·rw[if_pos he];subst he;clear CM;go_enter Tryz.func301,Tryz.ntmps301;go_wp2_with fail;go_ret;exact⟨rfl,B.o⟩
 rw[if_neg he];have q0:(pt==o.ow)=false:=x5
 clear he;go_enter Tryz.func301,Tryz.ntmps301;go_wp2_with fail;refine CM.o.mono ?_;rintro e w1 ⟨rfl,b1⟩;have B1:=yT B b1;clear b1;go_wp2_with fail;go_ret;exact⟨rfl,B1.o⟩
theorem aTv(HM:aEq){w:World}{G M:Nat}{ps:List Int}{ls:List Ln}{o:Of}(h:LedM w G M ps ls)(hI:LInv ps ls)(hf:o.Fits)(tk pt want most:Int)(ht:In8 tk){m1 m2:Int}(g:Goes ps ls o tk pt m1 m2):
  Calls Tryz.prog 318 #[filV (some ⟨G,0,none⟩) o tk pt want most] w (yR w (.int .i64 m2)):=by
 have bw:=(Below.refl w.heap.size w).alloc yL (.cells (filC (some ⟨G,0,none⟩) o tk pt want most) 395);have B:=yH bw;obtain⟨_,μ,h1,h2⟩:=g;have CM:=yH (aN9 HM (h.below bw) hI ht hf.ow hf.bu h1);rw[h2]at CM;clear bw h hI hf ht h1 h2;unfold filV;go_enter Tryz.func318,Tryz.ntmps318;go_wp2_with fail;refine CM.o.mono ?_;rintro e w1 ⟨rfl,b1⟩;have B1:=yT B b1;clear b1;go_wp2_with fail;go_ret;exact⟨rfl,B1.o⟩
theorem aRk:∀(vs:List Int) {n:Int},n≤1099511627776 → -9223372036854775808≤n→(∀v∈vs,-9223372036854775808≤v)→In64 (aBj n vs)
 | [],n,h1,h2,_=>⟨by unfold aBj;omega,by unfold aBj;omega⟩
 | v::vs,n,h1,h2,h=>by
  unfold aBj;split
  ·exact⟨zQ,zQ⟩
  rename_i hz;have:=h v (List.mem_cons_self);exact aRk vs zQ zQ (fun x hx=>h x (List.mem_cons_of_mem _ hx))
theorem ffits_any(HM:aEq){w:World}{G M:Nat}{ps:List Int}{ls:List Ln}{o:Of}(h:LedM w G M ps ls)(hI:LInv ps ls)(hf:o.Fits)(tk pt want most:Int)(ht:In8 tk)(hm:In64 most){m1 m2:Int}(g:Goes ps ls o tk pt m1 m2):
  Calls Tryz.prog 302 #[filV (some ⟨G,0,none⟩) o tk pt want most] w (yR w (.int .i64 (fitN (aBj 1099511627776 [most,m2]) o.nu o.de))):=by
 have bw:=(Below.refl w.heap.size w).alloc yL (.cells (filC (some ⟨G,0,none⟩) o tk pt want most) 395);have KX:=yH (Blk.new w (filC (some ⟨G,0,none⟩) o tk pt want most) 395);have B:=yH bw;have hbd:=g.bd hI;have H64a:=yH hm;have H64b:Hid (In64 m2):=yH ⟨zQ,zQ⟩;have H64l:Hid (In64 (aBj 1099511627776 [most,m2])):=yH (aRk _ zQ zQ (by intro v hv;simp only[yI,yJ,or_false]at hv;rcases hv with rfl|rfl;exact hm.1;omega));have HF:=yH hf;have L:=h.below bw
 have HA:Hid (Bnd (w.alloc (.cells (filC (some ⟨G,0,none⟩) o tk pt want most) 395)) (filV (some ⟨G,0,none⟩) o tk pt want most) (317,most)):=yH
  ⟨enters_of Tryz.func317 zW rfl,fun w' k=>aRj _ o tk pt want most w'⟩
 have HBo:Hid (Bnd (w.alloc (.cells (filC (some ⟨G,0,none⟩) o tk pt want most) 395)) (filV (some ⟨G,0,none⟩) o tk pt want most) (318,m2)):=yH
  ⟨enters_of Tryz.func318 zW rfl,fun w' k=>aTv HM (L.below k) hI hf tk pt want most ht g⟩
 clear bw h hI hf hm hbd L g;go_enter Tryz.func302,Tryz.ntmps302
 go_upto_region 1 with fail
 generalize w.alloc (.cells #[.pointer (some ⟨G,0,none⟩),.int .u64 o.se,.int .u8 o.ow,.int .u8 o.sl,.int .u8 o.bu,.int .i64 o.lf,.int .i64 o.nu,.int .i64 o.de,.int .u8 tk,.int .u8 pt,.int .i64 want,.int .i64 most] 395)=W at *
 refine aA7 zW (fun g:Nat→Nat=>[(filV (some ⟨G,0,none⟩) o tk pt want most),(.func (.func 317) #[(filV (some ⟨G,0,none⟩) o tk pt want most)] #[]),(filV (some ⟨G,0,none⟩) o tk pt want most),(.func (.func 318) #[(filV (some ⟨G,0,none⟩) o tk pt want most)] #[]),(.slice (some ⟨g 4,0,none⟩) 2 2),(.int .i64 (aBj 1099511627776 [most,m2])),(.pointer (some ⟨w.heap.size,1,none⟩)),(.pointer (some ⟨w.heap.size,6,none⟩)),(.agg #[.int .i64 o.nu,.int .i64 o.de]),(.int .i64 (fitN (aBj 1099511627776 [most,m2]) o.nu o.de)),(.int .i64 (fitN (aBj 1099511627776 [most,m2]) o.nu o.de))])
  (Lays W [(⟨4,4,(.cells #[(.func (.func 317) #[(filV (some ⟨G,0,none⟩) o tk pt want most)] #[]),(.func (.func 318) #[(filV (some ⟨G,0,none⟩) o tk pt want most)] #[])] 124),(.cells #[(.func (.func 317) #[(filV (some ⟨G,0,none⟩) o tk pt want most)] #[]),(.func (.func 318) #[(filV (some ⟨G,0,none⟩) o tk pt want most)] #[])] 124)⟩:Spec)]) zW (fun _=>0) (Lays.start _ _ _) ?_
 intro AF hAF;simp only[yG,puts,Act.put,yA,yC,yF,yD,yE]at hAF;have hAF2:_=AF:=funext hAF;subst hAF2;clear hAF;refine⟨?_,?_⟩
 ·simp only[yG,aFo];refine⟨?_,?_,?_,?_,?_,?_,?_,?_,?_,?_,?_,trivial⟩
  ·intro g D w' hD hW hC hI;refine⟨g,fun _ _ _=>rfl,?_⟩;with_reducible refine yO rfl ?_
   have hS:=hI.below;have d0_0:=(KX.o.below hS KX.o.lt).cell 0;have d0_1:=(KX.o.below hS KX.o.lt).cell 1;have d0_2:=(KX.o.below hS KX.o.lt).cell 2;have d0_3:=(KX.o.below hS KX.o.lt).cell 3;have d0_4:=(KX.o.below hS KX.o.lt).cell 4;have d0_5:=(KX.o.below hS KX.o.lt).cell 5;have d0_6:=(KX.o.below hS KX.o.lt).cell 6;have d0_7:=(KX.o.below hS KX.o.lt).cell 7;have d0_8:=(KX.o.below hS KX.o.lt).cell 8;have d0_9:=(KX.o.below hS KX.o.lt).cell 9;have d0_10:=(KX.o.below hS KX.o.lt).cell 10;have d0_11:=(KX.o.below hS KX.o.lt).cell 11;simp at d0_0 d0_1 d0_2 d0_3 d0_4 d0_5 d0_6 d0_7 d0_8 d0_9 d0_10 d0_11;have HS:=yH (hI.step yZ (k:=0) zP);clear hI hS hC hW hD;go_wp2_with fail;all_goals first|exact HS|exact⟨rfl,HS⟩|rfl
  ·intro g D w' hD hW hC hI;refine⟨g,fun _ _ _=>rfl,?_⟩;with_reducible refine yO rfl ?_
   have HS:=yH (hI.step yZ (k:=1) zP);clear hI hC hW hD;go_wp2_with fail;all_goals first|exact HS|exact⟨rfl,HS⟩|rfl
  ·intro g D w' hD hW hC hI;refine⟨g,fun _ _ _=>rfl,?_⟩;with_reducible refine yO rfl ?_
   have hS:=hI.below;have d0_0:=(KX.o.below hS KX.o.lt).cell 0;have d0_1:=(KX.o.below hS KX.o.lt).cell 1;have d0_2:=(KX.o.below hS KX.o.lt).cell 2;have d0_3:=(KX.o.below hS KX.o.lt).cell 3;have d0_4:=(KX.o.below hS KX.o.lt).cell 4;have d0_5:=(KX.o.below hS KX.o.lt).cell 5;have d0_6:=(KX.o.below hS KX.o.lt).cell 6;have d0_7:=(KX.o.below hS KX.o.lt).cell 7;have d0_8:=(KX.o.below hS KX.o.lt).cell 8;have d0_9:=(KX.o.below hS KX.o.lt).cell 9;have d0_10:=(KX.o.below hS KX.o.lt).cell 10;have d0_11:=(KX.o.below hS KX.o.lt).cell 11;simp at d0_0 d0_1 d0_2 d0_3 d0_4 d0_5 d0_6 d0_7 d0_8 d0_9 d0_10 d0_11;have HS:=yH (hI.step yZ (k:=2) zP);clear hI hS hC hW hD;go_wp2_with fail;all_goals first|exact HS|exact⟨rfl,HS⟩|rfl
  ·intro g D w' hD hW hC hI;refine⟨g,fun _ _ _=>rfl,?_⟩;with_reducible refine yO rfl ?_
   have HS:=yH (hI.step yZ (k:=3) zP);clear hI hC hW hD;go_wp2_with fail;all_goals first|exact HS|exact⟨rfl,HS⟩|rfl
  ·intro g D w' hD hW hC hI;refine⟨upd g 4 w'.heap.size,aC7 _ (fun g:Nat→Nat=>[(filV (some ⟨G,0,none⟩) o tk pt want most),(.func (.func 317) #[(filV (some ⟨G,0,none⟩) o tk pt want most)] #[]),(filV (some ⟨G,0,none⟩) o tk pt want most),(.func (.func 318) #[(filV (some ⟨G,0,none⟩) o tk pt want most)] #[]),(.slice (some ⟨g 4,0,none⟩) 2 2),(.int .i64 (aBj 1099511627776 [most,m2])),(.pointer (some ⟨w.heap.size,1,none⟩)),(.pointer (some ⟨w.heap.size,6,none⟩)),(.agg #[.int .i64 o.nu,.int .i64 o.de]),(.int .i64 (fitN (aBj 1099511627776 [most,m2]) o.nu o.de)),(.int .i64 (fitN (aBj 1099511627776 [most,m2]) o.nu o.de))]) g 4 _ 12 hC hD ?_,?_⟩
   ·intro j hj
    match j,hj with
    | 0,_=>exact .inr rfl
    | 1,_=>exact .inr rfl
    | 2,_=>exact .inr rfl
    | 3,_=>exact .inr rfl
    | 4,_=>exact .inl (.inl rfl)
    | 5,_=>exact .inr rfl
    | 6,_=>exact .inr rfl
    | 7,_=>exact .inr rfl
    | 8,_=>exact .inr rfl
    | 9,_=>exact .inr rfl
    | 10,_=>exact .inr rfl
    | j+11,_=>exact .inr rfl
   with_reducible refine yO rfl ?_
   have HS:=yH (hI.lay (⟨4,4,(.cells #[(.func (.func 317) #[(filV (some ⟨G,0,none⟩) o tk pt want most)] #[]),(.func (.func 318) #[(filV (some ⟨G,0,none⟩) o tk pt want most)] #[])] 124),(.cells #[(.func (.func 317) #[(filV (some ⟨G,0,none⟩) o tk pt want most)] #[]),(.func (.func 318) #[(filV (some ⟨G,0,none⟩) o tk pt want most)] #[])] 124)⟩:Spec) zV zP (.inl rfl) zP (fun s' hs' _=>List.mem_singleton.1 hs') (.cells #[(.func (.func 317) #[(filV (some ⟨G,0,none⟩) o tk pt want most)] #[]),(.func (.func 318) #[(filV (some ⟨G,0,none⟩) o tk pt want most)] #[])] 124) rfl);clear hI hC hW hD;go_wp2_with fail;all_goals first|exact HS|exact⟨rfl,HS⟩|rfl
  ·intro g D w' hD hW hC hI;refine⟨g,fun _ _ _=>rfl,?_⟩;with_reducible refine yO rfl ?_
   have hS:=hI.below;have HI:=yH hI;have HC:=yH (aRi (bs:=[(317,most),(318,m2)]) (rv:=(filV (some ⟨G,0,none⟩) o tk pt want most)) (show Blk w' (g 4) (List.map (bndV (filV (some ⟨G,0,none⟩) o tk pt want most)) [(317,most),(318,m2)]).toArray 124 from(hI.full (⟨4,4,(.cells #[(.func (.func 317) #[(filV (some ⟨G,0,none⟩) o tk pt want most)] #[]),(.func (.func 318) #[(filV (some ⟨G,0,none⟩) o tk pt want most)] #[])] 124),(.cells #[(.func (.func 317) #[(filV (some ⟨G,0,none⟩) o tk pt want most)] #[]),(.func (.func 318) #[(filV (some ⟨G,0,none⟩) o tk pt want most)] #[])] 124)⟩:Spec) zV (aA1 hC hW (d:=12) zW) (aA1 hC hW (d:=12) zW)).2) (by intro b hb;simp only[yI,yJ,or_false]at hb;rcases hb with rfl|rfl;exact HA.o.below hS;exact HBo.o.below hS) (by intro b hb;simp only[yI,yJ,or_false]at hb;rcases hb with rfl|rfl;exact H64a.o;exact H64b.o) zV);clear hI hS hC hW hD;go_wp2_with fail;refine HC.o.mono ?_;rintro e w'' ⟨rfl,hb2⟩;exact⟨rfl,HI.o.step hb2 zP⟩
  ·intro g D w' hD hW hC hI;refine⟨g,fun _ _ _=>rfl,?_⟩;with_reducible refine yO rfl ?_
   have HS:=yH (hI.step yZ (k:=6) zP);clear hI hC hW hD;go_wp2_with fail;all_goals first|exact HS|exact⟨rfl,HS⟩|rfl
  ·intro g D w' hD hW hC hI;refine⟨g,fun _ _ _=>rfl,?_⟩;with_reducible refine yO rfl ?_
   have HS:=yH (hI.step yZ (k:=7) zP);clear hI hC hW hD;go_wp2_with fail;all_goals first|exact HS|exact⟨rfl,HS⟩|rfl
  ·intro g D w' hD hW hC hI;refine⟨g,fun _ _ _=>rfl,?_⟩;with_reducible refine yO rfl ?_
   have hS:=hI.below;have d0_0:=(KX.o.below hS KX.o.lt).cell 0;have d0_1:=(KX.o.below hS KX.o.lt).cell 1;have d0_2:=(KX.o.below hS KX.o.lt).cell 2;have d0_3:=(KX.o.below hS KX.o.lt).cell 3;have d0_4:=(KX.o.below hS KX.o.lt).cell 4;have d0_5:=(KX.o.below hS KX.o.lt).cell 5;have d0_6:=(KX.o.below hS KX.o.lt).cell 6;have d0_7:=(KX.o.below hS KX.o.lt).cell 7;have d0_8:=(KX.o.below hS KX.o.lt).cell 8;have d0_9:=(KX.o.below hS KX.o.lt).cell 9;have d0_10:=(KX.o.below hS KX.o.lt).cell 10;have d0_11:=(KX.o.below hS KX.o.lt).cell 11;simp at d0_0 d0_1 d0_2 d0_3 d0_4 d0_5 d0_6 d0_7 d0_8 d0_9 d0_10 d0_11;have HS:=yH (hI.step yZ (k:=8) zP);clear hI hS hC hW hD;go_wp2_with fail;all_goals first|exact HS|exact⟨rfl,HS⟩|rfl
  ·intro g D w' hD hW hC hI;refine⟨g,fun _ _ _=>rfl,?_⟩;with_reducible refine yO rfl ?_
   have HI:=yH hI;have HC:=yH (fits_any (aBj 1099511627776 [most,m2]) o.nu o.de w' H64l.o HF.o.nu HF.o.de);clear hI hC hW hD;go_wp2_with fail;refine HC.o.mono ?_;rintro e w'' ⟨rfl,hb2⟩;exact⟨rfl,HI.o.step hb2 zP⟩
  intro g D w' hD hW hC hI;refine⟨g,fun _ _ _=>rfl,?_⟩;with_reducible refine yO rfl ?_
  have HS:=yH (hI.step yZ (k:=10) zP);clear hI hC hW hD;go_wp2_with fail;all_goals first|exact HS|exact⟨rfl,HS⟩|rfl
 intro g D w' hall hI;have B1:=yH (B.o.trans (hI.below.mono B.o.size));clear hall hI;go_wp2_with fail;go_ret;exact⟨rfl,B1.o⟩
theorem fmay_any{w:World}{lp:Option Addr}{e0:Int}{has:Int→Bool}(h:aFl w lp e0 has)(o:Of)(tk pt want most:Int):
  Calls Tryz.prog 297 #[filV lp o tk pt want most] w (yR w (.bool (!(tk==o.ow) && has tk && has pt && has o.ow))):=by
 have bw:=(Below.refl w.heap.size w).alloc yL (.cells (filC lp o tk pt want most) 395);have C1:=yH (h.has _ bw tk);have C2:=yH (h.has _ bw pt);have C3:=yH (h.has _ bw o.ow);have B:=yH bw;clear bw h;unfold filV;generalize has tk=x at *;generalize has pt=y at *;generalize has o.ow=z at *;have hneq:(tk != o.ow)=!(tk==o.ow):=rfl;obtain⟨q,hq⟩:∃q,(tk==o.ow)=q:=⟨_,rfl⟩;rw[hq]at hneq ⊢;clear hq
 cases q
 ·cases x
  ·go_enter Tryz.func297,Tryz.ntmps297;go_wp2_with fail;refine C1.o.mono ?_;rintro e w1 ⟨rfl,rfl⟩;go_wp2_with fail;go_ret;exact⟨rfl,B.o⟩
  cases y
  ·go_enter Tryz.func297,Tryz.ntmps297;go_wp2_with fail;refine C1.o.mono ?_;rintro e w1 ⟨rfl,rfl⟩;go_wp2_with fail;refine C2.o.mono ?_;rintro e w1 ⟨rfl,rfl⟩;go_wp2_with fail;go_ret;exact⟨rfl,B.o⟩
  go_enter Tryz.func297,Tryz.ntmps297;go_wp2_with fail;refine C1.o.mono ?_;rintro e w1 ⟨rfl,rfl⟩;go_wp2_with fail;refine C2.o.mono ?_;rintro e w1 ⟨rfl,rfl⟩;go_wp2_with fail;refine C3.o.mono ?_;rintro e w1 ⟨rfl,rfl⟩;go_wp2_with fail;go_ret;exact⟨rfl,B.o⟩
 go_enter Tryz.func297,Tryz.ntmps297;go_wp2_with fail;go_ret;exact⟨rfl,B.o⟩
theorem aRl{w:World}{lp bp:Option Addr}{e0 N:Int}{has:Int→Bool}(h:aFl w lp e0 has)(hn:∀w',Below w.heap.size w w'→Calls Tryz.prog 60 #[.pointer bp] w' fun e w''=>e=.returned (.int .u64 N)∧w'=w''):
  Calls Tryz.prog 274 #[.agg #[.pointer lp,.pointer bp]] w (yR w (.bool (!(e0==2) && !(N==0)))):=by
 have bw:=(Below.refl w.heap.size w).alloc yL (.cells #[.pointer lp,.pointer bp] 80);have C1:=yH (h.open0 _ bw);have C2:=yH (hn _ bw);have B:=yH bw;clear bw h hn;have hneq:(e0 != 2)=!(e0==2):=rfl;obtain⟨q,hq⟩:∃q,(e0==2)=q:=⟨_,rfl⟩;rw[hq]at hneq ⊢;clear hq
 cases q
 ·have hneN:(N != 0)=!(N==0):=rfl;obtain⟨r,hr⟩:∃r,(N==0)=r:=⟨_,rfl⟩;rw[hr]at hneN ⊢;clear hr;go_enter Tryz.func274,Tryz.ntmps274;go_wp2_with fail;refine C1.o.mono ?_;rintro e w1 ⟨rfl,rfl⟩;go_wp2_with fail;refine C2.o.mono ?_;rintro e w1 ⟨rfl,rfl⟩;go_wp2_with fail;go_ret;exact⟨rfl,B.o⟩
 go_enter Tryz.func274,Tryz.ntmps274;go_wp2_with fail;refine C1.o.mono ?_;rintro e w1 ⟨rfl,rfl⟩;go_wp2_with fail;go_ret;exact⟨rfl,B.o⟩
theorem fitN_zero(nu de:Int):fitN 0 nu de=0:=by
 unfold fitN;split
 ·rw[Int.zero_mul,Int.zero_ediv];rfl
 rfl
theorem aHc{n v:Int}{vs:List Int}(h:min n v<1):aBj n (v::vs)=0:=if_pos h
theorem aFv{n v:Int}{vs:List Int}(h:¬min n v<1):aBj n (v::vs)=aBj (min n v) vs:=if_neg h
theorem least4{a b c d:Int}(hb:1≤b∧b≤1099511627776)(hc:0≤c)(hd:0≤d):aBj 1099511627776 [a,b,c,d]=if a<1 then 0 else min (min (min a b) c) d:=by
 by_cases h1:min 1099511627776 a<1
 ·rw[aHc h1,if_pos zQ]
 rw[aFv h1,if_neg zQ];rw[aFv zQ]
 by_cases h3:min (min (min 1099511627776 a) b) c<1
 ·rw[aHc h3];omega
 rw[aFv h3]
 by_cases h4:min (min (min (min 1099511627776 a) b) c) d<1
 ·rw[aHc h4];omega
 rw[aFv h4,aBj];omega
theorem least2{a b:Int}(hb:0≤b):aBj 1099511627776 [a,b]=if a<1 then 0 else min (min a 1099511627776) b:=by
 by_cases h1:min 1099511627776 a<1
 ·rw[aHc h1,if_pos zQ]
 rw[aFv h1,if_neg zQ]
 by_cases h3:min (min 1099511627776 a) b<1
 ·rw[aHc h3];omega
 rw[aFv h3,aBj];omega
theorem least_may{o:Of}{ps:List Int}{tk pt want most m1 m2:Int}(hr:o.ow≠tk∧o.ow∈ps∧tk∈ps∧pt∈ps)(hl:1≤o.lf∧o.lf≤1099511627776)(h1:0≤m1)(h2:0≤m2):
  aBj 1099511627776 [want,o.lf,(if pt=o.ow then 1099511627776 else m1),fitN (aBj 1099511627776 [most,m2]) o.nu o.de]=mayO o ps tk pt want most m1 m2:=by
 obtain⟨r1,r2,r3,r4⟩:=hr;rw[least4 hl (by split <;> omega) fitN_nn,least2 h2];unfold mayO
 by_cases hw:want<1
 ·rw[if_pos hw,if_pos (show o.ow=tk∨o.ow∉ps∨tk∉ps∨pt∉ps∨want<1∨most<1 from .inr (.inr (.inr (.inr (.inl hw)))))]
 rw[if_neg hw]
 by_cases hm:most<1
 ·rw[if_pos hm,if_pos (show o.ow=tk∨o.ow∉ps∨tk∉ps∨pt∉ps∨want<1∨most<1 from .inr (.inr (.inr (.inr (.inr hm))))),fitN_zero]
  by_cases hp:pt=o.ow
  ·rw[if_pos hp];omega
  rw[if_neg hp];omega
 rw[if_neg hm,if_neg (show ¬(o.ow=tk∨o.ow∉ps∨tk∉ps∨pt∉ps∨want<1∨most<1)from fun h=>by
  rcases h with h|h|h|h|h|h
  ·exact r1 h
  ·exact h r2
  ·exact h r3
  ·exact h r4
  ·exact hw h
  exact hm h)]
 by_cases hp:pt=o.ow
 ·rw[if_pos hp,if_pos hp];omega
 rw[if_neg hp,if_neg hp]
theorem hmay_none{w:World}{lp bp:Option Addr}{s:Int}(hf:∀w',Below w.heap.size w w'→Calls Tryz.prog 162 #[.pointer bp,.int .u64 s] w' fun e w''=>e=.returned (.tuple #[noOf.val,.bool false])∧Below w'.heap.size w' w'')(tk pt want most:Int):
  Calls Tryz.prog 273 #[.agg #[.pointer lp,.pointer bp],.int .u64 s,.int .u8 tk,.int .u8 pt,.int .i64 want,.int .i64 most] w (yR w (.int .i64 0)):=by
 have bw:=(Below.refl w.heap.size w).alloc yL (.cells #[.pointer lp,.pointer bp] 80);have CF:=yH (hf _ bw);have KX:=yH (Blk.new w #[.pointer lp,.pointer bp] 80);have B0:=yH bw;clear bw hf;unfold noOf Of.val at CF;dsimp only at CF;go_enter Tryz.func273,Tryz.ntmps273;go_wp2_with fail;generalize w.alloc (.cells #[.pointer lp,.pointer bp] 80)=W at *;refine CF.o.mono ?_;rintro e w1 ⟨rfl,b1⟩;have KX1:=yB KX b1;have B1:=yT B0 b1;clear b1 KX B0 CF;have e0:=KX1.o.cell 0;have e1:=KX1.o.cell 1;have kx:=KX1.o.lt;simp at e0 e1;go_wp2_with fail;go_ret;refine⟨rfl,B1.o.trans ?_⟩;exact((Below.alloc ((Below.refl w1.heap.size w1).alloc yL _) zV _)).mono B1.o.size
theorem hmay_any(HM:aEq):aCj:=by
 intro w base G M gb ps ls l N vb hL hI hP hJ s tk pt want most m1 m2 hs ht hto hw hmo hG
 cases hf:aBd l s with
 | none=>
  have e:mayV l ps s tk pt want most m1 m2=0:=by unfold mayV;rw[hf]
  rw[e];refine hmay_none (fun w' k=>?_) tk pt want most;have:=aJe (hP.below k) hJ.n1 s;rw[hf]at this;exact this
 | some o=>
  have bw:=(Below.refl w.heap.size w).alloc yL (.cells #[.pointer (some ⟨G,0,none⟩),.pointer (some ⟨gb,0,none⟩)] 80);have CF:=yH (aJe (hP.below bw) hJ.n1 s);rw[hf]at CF;have KX:=yH (Blk.new w #[.pointer (some ⟨G,0,none⟩),.pointer (some ⟨gb,0,none⟩)] 80);have B0:=yH bw;have L0:=yH (hL.below bw);have II:=yH hI;have HGo:=yH (hG o hf);have hmem:=(aCd hf).1;have HF:=yH (hJ.fits hmem);have MY:=yH (hJ.may o hmem);obtain⟨R,hR⟩:∃R,mayV l ps s tk pt want most m1 m2=R:=⟨_,rfl⟩;rw[hR];have EV:Hid (R=mayO o ps tk pt want most m1 m2):=yH (by rw[←hR];unfold mayV;rw[hf]);clear hR;have HT:=yH ht;have HTo:=yH hto;have HW:=yH hw;have HMo:=yH hmo;have HMP:=yH HM;clear bw hL hI hP hJ hs ht hto hw hmo hG hf hmem HM;unfold aQv Of.val at CF;dsimp only at CF;go_enter Tryz.func273,Tryz.ntmps273;go_wp2_with fail;generalize w.alloc (.cells #[.pointer (some ⟨G,0,none⟩),.pointer (some ⟨gb,0,none⟩)] 80)=W at *;refine CF.o.mono ?_;rintro e w1 ⟨rfl,b1⟩;have KX1:=yB KX b1;have B1:=yT B0 b1;have L1:=yH (L0.o.below b1);clear b1 KX B0 CF L0;have e0:=KX1.o.cell 0;have e1:=KX1.o.cell 1;have kx:=KX1.o.lt;simp at e0 e1;have ba:=(Below.refl w1.heap.size w1).alloc yL (.cells #[.int .u64 o.se,.int .u8 o.ow,.int .u8 o.sl,.int .u8 o.bu,.int .i64 o.lf,.int .i64 o.nu,.int .i64 o.de] 75);have KF0:=yH (pAB (w1.alloc (.cells #[.int .u64 o.se,.int .u8 o.ow,.int .u8 o.sl,.int .u8 o.bu,.int .i64 o.lf,.int .i64 o.nu,.int .i64 o.de] 75)) (filC (some ⟨G,0,none⟩) o tk pt want most) 395 (g:=w1.heap.size+1) zV);have bb:=ba.alloc zV (.cells (filC (some ⟨G,0,none⟩) o tk pt want most) 395);have L2:=yH (L1.o.below bb);have B2:=yT B1 bb;have CM:=yH (fmay_any (aIk L2.o II.o) o tk pt want most);clear ba bb L1;go_wp2_with fail;generalize (w1.alloc (.cells #[.int .u64 o.se,.int .u8 o.ow,.int .u8 o.sl,.int .u8 o.bu,.int .i64 o.lf,.int .i64 o.nu,.int .i64 o.de] 75)).alloc (.cells #[.pointer (some ⟨G,0,none⟩),.int .u64 o.se,.int .u8 o.ow,.int .u8 o.sl,.int .u8 o.bu,.int .i64 o.lf,.int .i64 o.nu,.int .i64 o.de,.int .u8 tk,.int .u8 pt,.int .i64 want,.int .i64 most] 395)=W2 at *;clear e0 e1 kx;obtain⟨r,hr⟩:∃r,(!(tk==o.ow) && decide (tk∈ps) && decide (pt∈ps) && decide (o.ow∈ps))=r:=⟨_,rfl⟩;rw[hr]at CM
  cases r
  ·have EZ:Hid (R=0):=yH (by
    rw[EV.o];unfold mayO;rw[if_pos]
    by_cases c1:o.ow=tk
    ·exact .inl c1
    by_cases c2:o.ow∈ps
    ·by_cases c3:tk∈ps
     ·by_cases c4:pt∈ps
      ·have c5:¬tk=o.ow:=fun h=>c1 h.symm
       simp[c2,c3,c4,c5]at hr
      exact .inr (.inr (.inr (.inl c4)))
     exact .inr (.inr (.inl c3))
    exact .inr (.inl c2))
   clear hr EV;refine CM.o.mono ?_;rintro e w3 ⟨rfl,b3⟩;have B3:=yT B2 b3;clear b3;go_wp2_with fail;go_ret;exact⟨by rw[EZ.o];rfl,B3.o⟩
  have hok:o.ow≠tk∧o.ow∈ps∧tk∈ps∧pt∈ps:=by
   simp only[Bool.and_eq_true,Bool.not_eq_true',decide_eq_true_eq,beq_eq_false_iff_ne,ne_eq]at hr;obtain⟨⟨⟨h1,h2⟩,h3⟩,h4⟩:=hr;exact⟨fun h=>h1 h.symm,h4,h2,h3⟩
  have hb:=HGo.o.bd II.o;have EM:=yH (EV.o.trans (least_may (want:=want) (most:=most) hok MY.o.2.2.2.2.1 hb.1.1 hb.2.1).symm);have HS1:Hid (In64 (if pt=o.ow then 1099511627776 else m1)):=yH (by split <;> exact⟨zQ,zQ⟩)
  have HFt:Hid (In64 (fitN (aBj 1099511627776 [most,m2]) o.nu o.de)):=yH (by
   have h0:=fitN_nn (g:=aBj 1099511627776 [most,m2]) (nu:=o.nu) (de:=o.de);refine⟨zQ,?_⟩;unfold fitN;split <;> omega)
  clear hr EV hok hb;refine CM.o.mono ?_;rintro e w3 ⟨rfl,b3⟩;have KF3:=yB KF0 b3;have L3:=yH (L2.o.below b3);have B3:=yT B2 b3;clear b3 KF0 L2 B2 CM;have d0:=KF3.o.cell 0;have d1:=KF3.o.cell 1;have d2:=KF3.o.cell 2;have d3:=KF3.o.cell 3;have d4:=KF3.o.cell 4;have d5:=KF3.o.cell 5;have d6:=KF3.o.cell 6;have d7:=KF3.o.cell 7;have d8:=KF3.o.cell 8;have d9:=KF3.o.cell 9;have d10:=KF3.o.cell 10;have d11:=KF3.o.cell 11;simp at d0 d1 d2 d3 d4 d5 d6 d7 d8 d9 d10 d11;have HB1:Hid (Bnd w3 (filV (some ⟨G,0,none⟩) o tk pt want most) (299,want)):=yH ⟨enters_of Tryz.func299 zW rfl,fun w' k=>aTu _ o tk pt want most w'⟩;have HB2:Hid (Bnd w3 (filV (some ⟨G,0,none⟩) o tk pt want most) (300,o.lf)):=yH ⟨enters_of Tryz.func300 zW rfl,fun w' k=>fleft_any _ o tk pt want most w'⟩;have HB3:Hid (Bnd w3 (filV (some ⟨G,0,none⟩) o tk pt want most) (301,if pt=o.ow then 1099511627776 else m1)):=yH ⟨enters_of Tryz.func301 zW rfl,fun w' k=>fsold_any HMP.o (L3.o.below k) II.o HF.o tk pt want most HTo.o HGo.o⟩;have HB4:Hid (Bnd w3 (filV (some ⟨G,0,none⟩) o tk pt want most) (302,fitN (aBj 1099511627776 [most,m2]) o.nu o.de)):=yH ⟨enters_of Tryz.func302 zW rfl,fun w' k=>ffits_any HMP.o (L3.o.below k) II.o HF.o tk pt want most HT.o HMo.o HGo.o⟩;have bk:=(Below.refl w3.heap.size w3).alloc yL (.cells #[.func (.func 299) #[filV (some ⟨G,0,none⟩) o tk pt want most] #[],.func (.func 300) #[filV (some ⟨G,0,none⟩) o tk pt want most] #[],.func (.func 301) #[filV (some ⟨G,0,none⟩) o tk pt want most] #[],.func (.func 302) #[filV (some ⟨G,0,none⟩) o tk pt want most] #[]] 124);have kk:=Blk.new w3 #[.func (.func 299) #[filV (some ⟨G,0,none⟩) o tk pt want most] #[],.func (.func 300) #[filV (some ⟨G,0,none⟩) o tk pt want most] #[],.func (.func 301) #[filV (some ⟨G,0,none⟩) o tk pt want most] #[],.func (.func 302) #[filV (some ⟨G,0,none⟩) o tk pt want most] #[]] 124
  have CL:=yH (aRi (bs:=[(299,want),(300,o.lf),(301,if pt=o.ow then 1099511627776 else m1),(302,fitN (aBj 1099511627776 [most,m2]) o.nu o.de)]) (rv:=filV (some ⟨G,0,none⟩) o tk pt want most) kk
   (by intro b hb;simp only[yI,yJ,or_false]at hb;rcases hb with rfl|rfl|rfl|rfl;exact HB1.o.below bk;exact HB2.o.below bk;exact HB3.o.below bk;exact HB4.o.below bk)
   (by intro b hb;simp only[yI,yJ,or_false]at hb;rcases hb with rfl|rfl|rfl|rfl;exact HW.o;exact HF.o.lf;exact HS1.o;exact HFt.o) zV)
  have B4:=yT B3 bk;rw[show List.map (fun x:Nat×Int=>x.2) [(299,want),(300,o.lf),(301,if pt=o.ow then 1099511627776 else m1),(302,fitN (aBj 1099511627776 [most,m2]) o.nu o.de)]=[want,o.lf,if pt=o.ow then 1099511627776 else m1,fitN (aBj 1099511627776 [most,m2]) o.nu o.de]from rfl,←EM.o]at CL;clear bk kk HB1 HB2 HB3 HB4;go_wp2_with fail;refine CL.o.mono ?_;rintro e w4 ⟨rfl,b4⟩;have B5:=yT B4 b4;clear b4 d0 d1 d2 d3 d4 d5 d6 d7 d8 d9 d10 d11;go_wp2_with fail;go_ret;exact⟨rfl,B5.o⟩
theorem blk_ne{w:World}{g h:Nat}{cs ds:Array Value}{t u:TypeId}(a:Blk w g cs t)(b:Blk w h ds u)(hn:t≠u):g≠h:=by
 rintro rfl;have e:=a.out;rw[b.out]at e;simp only[Option.some.injEq,Obj.cells.injEq]at e;exact hn e.2.1.symm
theorem PB.ne_map{w:World}{base g G M:Nat}{ps:List Int}{ls:List Ln}{l:List Of}{N:Int}{vl:Value}(h:PB w base g l N vl)(k:LedM w G M ps ls):(¬g=M∧∀b,vl.ownBlock=some b→¬b=M)∧¬Foot g vl G∧¬Foot g vl M:=by
 have h1:¬g=M:=fun e=>k.map.ne_blk h.blk e.symm
 have h2:∀b,vl.ownBlock=some b→¬b=M:=fun b hb e=>by
  obtain⟨_,_,cur,hc⟩:=aAe h.row hb;have hB:Blk w b cur _:=hc;exact k.map.ne_blk hB e.symm
 have h3:¬G=g:=fun e=>by have:=blk_ne k.blk h.blk zX;exact this e
 have h4:¬vl.ownBlock=some G:=fun e=>aB1 h.row k.blk zX G e rfl
 exact⟨⟨h1,h2⟩,fun e=>e.elim h3 h4,fun e=>e.elim (fun q=>h1 q.symm) (fun q=>h2 M q rfl)⟩
theorem Keep.freshRow{S:Nat→Prop}{a w:World}(h:Keep S a w){g:Nat}(hg:a.heap.size≤g)(cs:Array Value):Keep S a (w.setRow g cs):=
 have k:=aAc (w:=w) g cs
 ⟨k.os.trans h.os,k.tape.trans h.tape,k.output.trans h.output,Nat.le_trans h.size k.size,fun i hi hs=>(k.block i (yM hi h.size) zQ).trans (h.block i hi hs)⟩
theorem hdo_void{w:World}{lp bp:Option Addr}{e0 N:Int}{has:Int→Bool}(h:aFl w lp e0 has)(hn:∀w',Below w.heap.size w w'→Calls Tryz.prog 60 #[.pointer bp] w' fun e w''=>e=.returned (.int .u64 N)∧w'=w'')(he:e0=2∨N=0)(s tk pt n:Int):
  Calls Tryz.prog 235 #[.agg #[.pointer lp,.pointer bp],.int .u64 s,.int .u8 tk,.int .u8 pt,.int .i64 n] w (yR w (.tuple #[aH6,.int .i64 2])):=by
 have b1:=(Below.refl w.heap.size w).alloc yL (.cells #[.pointer lp,.pointer bp] 80);have k1:=Blk.new w #[.pointer lp,.pointer bp] 80;generalize hW1:w.alloc (.cells #[.pointer lp,.pointer bp] 80)=W1 at *;have b2:=(Below.refl W1.heap.size W1).alloc yL (.cells #[.int .u64 0,.int .u8 0,.int .u8 0,.int .i64 0,.int .i64 0] 241);have k2:=Blk.new W1 #[.int .u64 0,.int .u8 0,.int .u8 0,.int .i64 0,.int .i64 0] 241;generalize hW2:W1.alloc (.cells #[.int .u64 0,.int .u8 0,.int .u8 0,.int .i64 0,.int .i64 0] 241)=W2 at *;have HW1:=yH hW1;have HW2:=yH hW2;have hg1:W1.heap.size=w.heap.size+1:=by rw[←hW1];simp
 rw[hg1]at k2;have KX:=yH (k1.below b2 k1.lt);have KF:=yH k2;have B2:=yH (b1.trans (b2.mono b1.size));have CM:=yH (aRl (h.below B2.o) (fun w' k=>hn w' (andB B2.o k)));rw[show(!(e0==2) && !(N==0))=false by rcases he with rfl|rfl <;> simp]at CM;clear h hn he b1 k1 b2 k2 hW1 hW2 hg1;go_enter Tryz.func235,Tryz.ntmps235
 go_upto_region 1 with fail
 rw[HW1.o,HW2.o];have e0:=KX.o.cell 0;have e1:=KX.o.cell 1;simp at e0 e1;go_wp2_with fail;refine CM.o.mono ?_;rintro e w1 ⟨rfl,b1⟩;have KF1:=yB KF b1;have B1:=yT B2 b1;clear b1 e0 e1 KX KF B2 CM;go_wp2_with (refine aAa rfl 241 (.tmp 10) (.tmp 20) rfl (w.heap.size+1) #[.int .u64 0,.int .u8 0,.int .u8 0,.int .i64 0,.int .i64 0] rfl rfl 241 _ KF1.o.out zW rfl zK ?_);refine bodyPost_ret (v:=.tuple #[aH6,.int .i64 2]) (aAi rfl _ _ (w.heap.size+1) 241 #[.int .u64 0,.int .u8 0,.int .u8 0,.int .i64 0,.int .i64 0] _ _ rfl (setRow_heap _ (w.heap.size+1) _ _ _ (0,0) KF1.o.out) Tryz.underlying241 rfl zW rfl) rfl ⟨rfl,below_setRow B1.o zQ _⟩
theorem hdo_any(HR:aEe)(HMP:aEq):aD3:=by
 intro w base G M gb ps ls l N vb hL hI hP hJ s tk pt n m1 m2 hs ht hto hn hG;have b1:=(Below.refl w.heap.size w).alloc yL (.cells #[.pointer (some ⟨G,0,none⟩),.pointer (some ⟨gb,0,none⟩)] 80);have k1:=Blk.new w #[.pointer (some ⟨G,0,none⟩),.pointer (some ⟨gb,0,none⟩)] 80;generalize hW1:w.alloc (.cells #[.pointer (some ⟨G,0,none⟩),.pointer (some ⟨gb,0,none⟩)] 80)=W1 at *;have b2:=(Below.refl W1.heap.size W1).alloc yL (.cells #[.int .u64 0,.int .u8 0,.int .u8 0,.int .i64 0,.int .i64 0] 241);have k2:=Blk.new W1 #[.int .u64 0,.int .u8 0,.int .u8 0,.int .i64 0,.int .i64 0] 241;generalize hW2:W1.alloc (.cells #[.int .u64 0,.int .u8 0,.int .u8 0,.int .i64 0,.int .i64 0] 241)=W2 at *;have HW1:=yH hW1;have HW2:=yH hW2;have hg1:W1.heap.size=w.heap.size+1:=by rw[←hW1];simp
 rw[hg1]at k2;have KX:=yH (k1.below b2 k1.lt);have KF:=yH k2;have B2:=yH (b1.trans (b2.mono b1.size));have L0:=yH ((hL.below b1).below b2);have P0:=yH ((hP.below b1).below b2);have II:=yH hI;have JJ:=yH hJ;have HT:=yH ht;have HTo:=yH hto;have HN:=yH hn;have HGo:=yH hG;have HRo:=yH HR;have hG1:=hL.blk.lt;have hM1:=hL.map.lt;have hb1:=hP.blk.lt;have HGL:=yH hG1;have HML:=yH hM1;have HBL:=yH hb1;have HFO:Hid (∀b,Foot gb vb b→b<w.heap.size):=yH (fun b hb=>(hP.lt hb).2);have CMd:=yH (aRl (N:=N) (aIk L0.o II.o) (fun w' k=>aJc (P0.o.below k).blk));rw[show(!((1:Int)==2) && !(N==0))=true by have:=hJ.n1;simp;omega]at CMd;have CM:=yH (fun w' (k:Below W2.heap.size W2 w')=>hmay_any HMP (L0.o.below k) hI (P0.o.below k) hJ s tk pt n 1099511627776 m1 m2 hs ht hto hn ⟨zQ,zQ⟩ hG);clear b1 k1 b2 k2 hW1 hW2 hL hI hP hJ hs ht hto hn hG hg1 hG1 hM1 hb1 HR HMP;go_enter Tryz.func235,Tryz.ntmps235
 go_upto_region 1 with fail
 rw[HW1.o,HW2.o];have e0:=KX.o.cell 0;have e1:=KX.o.cell 1;simp at e0 e1;go_wp2_with fail;refine CMd.o.mono ?_;rintro e w0 ⟨rfl,b0⟩;have CM0:=yH (CM.o w0 b0);have KX0:=yB KX b0;have KF0:=yB KF b0;have L1:=yH (L0.o.below b0);have P1:=yH (P0.o.below b0);have B0:=yT B2 b0;clear b0 e0 e1 KX KF B2 CMd CM L0 P0;have e0:=KX0.o.cell 0;have e1:=KX0.o.cell 1;simp at e0 e1
 by_cases h1:n<1
 ·have q1:decide (n<1)=true:=zN
  have NO:Hid (¬doOk l ps s tk pt n m1 m2):=yH (fun h=>uF h.1);clear h1;go_wp2_with (refine aAa rfl 241 (.tmp 10) (.tmp 34) rfl (w.heap.size+1) #[.int .u64 0,.int .u8 0,.int .u8 0,.int .i64 0,.int .i64 0] rfl rfl 241 _ KF0.o.out zW rfl zK ?_);refine bodyPost_ret (v:=.tuple #[aH6,.int .i64 1]) (aAi rfl _ _ (w.heap.size+1) 241 #[.int .u64 0,.int .u8 0,.int .u8 0,.int .i64 0,.int .i64 0] _ _ rfl (setRow_heap _ (w.heap.size+1) _ _ _ (0,0) KF0.o.out) Tryz.underlying241 rfl zW rfl) rfl (.inl ⟨NO.o,rfl,below_setRow B0.o zQ _⟩)
 have q1:decide (n<1)=false:=zN
 go_wp2_with fail;refine CM0.o.mono ?_;rintro e w1 ⟨rfl,b1⟩;have KX1:=yB KX0 b1;have KF1:=yB KF0 b1;have L2:=yH (L1.o.below b1);have P2:=yH (P1.o.below b1);have B1:=yT B0 b1;clear b1 e0 e1 KX0 KF0 L1 P1 B0 CM0;have e0:=KX1.o.cell 0;have e1:=KX1.o.cell 1;simp at e0 e1
 by_cases h2:n≤mayV l ps s tk pt n 1099511627776 m1 m2
 ·have q2:decide (mayV l ps s tk pt n 1099511627776 m1 m2<n)=false:=zF
  have hOK:doOk l ps s tk pt n m1 m2:=⟨zQ,h2⟩;obtain⟨o,hf,⟨c1,c2,c3,c4⟩,h3,h4,h5⟩:=hOK.facts;have hGo:=(HGo.o o hf).bd II.o;have hmem:=(aCd hf).1;have hmay:=JJ.o.may o hmem;have FT:=yH (JJ.o.fits hmem);obtain⟨_,_,_,_,_,hmy⟩:=hmay;obtain⟨x,hx⟩:∃x,upN (n*o.nu) o.de=x:=⟨_,rfl⟩;obtain⟨u1,u2,u3⟩:=aTd hmy (g:=min 1099511627776 m2) zQ zQ zQ h5;rw[hx]at u1 u2 u3;have CU:=yH (fun w=>rup_rat n o.nu o.de w HN.o FT.o.nu FT.o.de);rw[u1]at CU;have HX:=yH hx;have HOK:=yH hOK;have HF:=yH hf;have CF:=yH (aJe P2.o JJ.o.n1 s);rw[hf]at CF;dsimp only[aQv,Of.val]at CF;have hx64:Hid (In64 x):=yH ⟨zQ,zQ⟩;clear hOK hGo hmem hmy u1 u2 u3 hx hf h5 h4 h3 c1 c2 c3 c4;generalize mayV l ps s tk pt n 1099511627776 m1 m2=mm at *;clear h2;go_wp2_with fail;refine CF.o.mono ?_;rintro e w2 ⟨rfl,b2⟩;have bo:=(Below.refl w2.heap.size w2).alloc yL (.cells #[.int .u64 o.se,.int .u8 o.ow,.int .u8 o.sl,.int .u8 o.bu,.int .i64 o.lf,.int .i64 o.nu,.int .i64 o.de] 75);have KO:=yH (Blk.new w2 #[.int .u64 o.se,.int .u8 o.ow,.int .u8 o.sl,.int .u8 o.bu,.int .i64 o.lf,.int .i64 o.nu,.int .i64 o.de] 75);have b3:=b2.trans (bo.mono b2.size);have KX2:=yB KX1 b3;have KF2:=yB KF1 b3;have L3:=yH (L2.o.below b3);have P3:=yH (P2.o.below b3);have B3:=yT B1 b3;have HSZ:Hid (w.heap.size≤w2.heap.size):=yH (B1.o.trans (b2.mono B1.o.size)).size;clear b2 b3 bo e0 e1 KX1 KF1 L2 P2 B1 CF;have e0:=KX2.o.cell 0;have e1:=KX2.o.cell 1;simp at e0 e1;have d0:=KO.o.cell 0;have d1:=KO.o.cell 1;have d2:=KO.o.cell 2;have d3:=KO.o.cell 3;have d4:=KO.o.cell 4;have d5:=KO.o.cell 5;have d6:=KO.o.cell 6;simp at d0 d1 d2 d3 d4 d5 d6;go_wp2_with fail;refine(CU.o _).mono ?_;rintro e w3 ⟨rfl,b3⟩;have KX3:=yB KX2 b3;have KO3:=yB KO b3;have KF3:=yB KF2 b3;have L4:=yH (L3.o.below b3);have P4:=yH (P3.o.below b3);have B4:=yT B3 b3;clear b3 CU KX2 KO KF2 L3 P3 B3;clear e0 e1 d0 d1 d2 d3 d4 d5 d6;have e0:=KX3.o.cell 0;have e1:=KX3.o.cell 1;simp at e0 e1;have d0:=KO3.o.cell 0;have d1:=KO3.o.cell 1;have d2:=KO3.o.cell 2;have d3:=KO3.o.cell 3;have d4:=KO3.o.cell 4;have d5:=KO3.o.cell 5;have d6:=KO3.o.cell 6;simp at d0 d1 d2 d3 d4 d5 d6
  by_cases hp:pt=o.ow
  ·have q3:(pt != o.ow)=false:=y8
   have HP:=yH hp;clear hp;have BK:Hid (Keep (fun k=>k=G∨k=M∨Foot gb vb k) w w3):=yH (pAD B4.o);clear B4;have KXA:=KX3;have KFA:=KF3;have LA:=L4;have PA:=P4;clear KX3 KF3 KO3 L4 P4;obtain⟨τ,hτ⟩:=aDz (aAx II.o o.bu) tk o.ow x;have HTAU:=yH hτ;have CP:=yH (aLg HRo.o LA.o II.o HT.o FT.o.ow FT.o.bu hx64.out hτ);clear hτ;go_wp2_with fail;refine CP.o.mono ?_;rintro e w6 ⟨rfl,r6,k6⟩;have AP:=(PA.o.ne_map LA.o).1;have KX6:=yH (KXA.o.keep k6 yY);have KF6:=yH (KFA.o.keep k6 yY);have P6:=yH (PA.o.keep k6 AP.1 AP.2);have B6:=yH (BK.o.trans (k6.mono (fun k _ h=>Or.inr (Or.inl h))));have L6:=yH r6;clear CP r6 k6 AP KXA KFA PA LA BK;clear e0 e1 d0 d1 d2 d3 d4 d5 d6;have e0:=KX6.o.cell 0;have e1:=KX6.o.cell 1;simp at e0 e1;have CK:=yH (aQy P6.o JJ.o s n);go_wp2_with fail;refine CK.o.mono ?_;rintro e w7 ⟨rfl,vb7,r7,k7,mv7⟩;have AP:=(P6.o.ne_map L6.o).2;have hgz:¬Foot gb vb (w.heap.size+1):=fun h=>uF (HFO.o _ h)
   have KF7:=yH (KF6.o.keep k7 hgz);have L7:=yH (L6.o.keep k7 AP.1 AP.2);have B7:=yH (B6.o.trans (k7.mono (fun k _ h=>Or.inr (Or.inr h))));have P7:=yH r7;have MV:=yH (mv7.of_le B6.o.size);clear CK r7 k7 mv7 AP hgz KX6 KF6 P6 L6 B6;clear e0 e1;go_wp2_with (refine aAa rfl 241 (.tmp 10) (.tmp 81) rfl (w.heap.size+1) #[.int .u64 s,.int .u8 tk,.int .u8 pt,.int .i64 n,.int .i64 x] rfl rfl 241 _ KF7.o.out zW rfl zK ?_);refine bodyPost_ret (v:=.tuple #[.agg #[.int .u64 s,.int .u8 tk,.int .u8 pt,.int .i64 n,.int .i64 x],.int .i64 0]) (aAi rfl _ _ (w.heap.size+1) 241 #[.int .u64 s,.int .u8 tk,.int .u8 pt,.int .i64 n,.int .i64 x] _ _ rfl (setRow_heap _ (w.heap.size+1) _ _ _ (0,0) KF7.o.out) Tryz.underlying241 rfl zW rfl) rfl (.inr ⟨HOK.o,o,x,_,vb7,HF.o,HX.o.symm,⟨ls,τ,(.inl ⟨HP.o,rfl⟩),HTAU.o,rfl⟩,rfl,?_,?_,B7.o.freshRow zQ _,MV.o⟩)
   ·exact L7.o.keep (aAc _ _) (uF HGL.o) yY
   refine P7.o.keep (aAc _ _) (uF HBL.o) (fun b hb h=>?_);subst h;exact aB1 P7.o.row KF7.o zX _ hb rfl
  have q3:(pt != o.ow)=true:=y8
  have HP:=yH hp;clear hp;obtain⟨σ,hσ⟩:=aDz (aAx II.o o.sl) o.ow pt n;have HSG:=yH hσ;have CP:=yH (aLg HRo.o L4.o II.o FT.o.ow HTo.o FT.o.sl HN.o hσ);clear hσ;go_wp2_with fail;refine CP.o.mono ?_;rintro e w5 ⟨rfl,r5,k5⟩;have AP:=(P4.o.ne_map L4.o).1;have KXA:=yH (KX3.o.keep k5 yY);have KFA:=yH (KF3.o.keep k5 yY);have KOA:=yH (KO3.o.keep k5 (uS HML.o HSZ.o));have PA:=yH (P4.o.keep k5 AP.1 AP.2);have BK:Hid (Keep (fun k=>k=G∨k=M∨Foot gb vb k) w w5):=yH ((pAD B4.o).trans (k5.mono (fun k _ h=>Or.inr (Or.inl h))));have LA:=yH r5;have IA:=yH (aLf II.o o.ow pt o.sl n σ);clear CP r5 k5 AP KX3 KF3 KO3 P4 L4 B4;clear e0 e1 d0 d1 d2 d3 d4 d5 d6;have RT:Hid (∃a,aAj (aAu ps ls o.sl) 4398046511104 o.ow pt n a∧payL ps ls o.ow pt o.sl n σ=payL ps ls o.ow pt o.sl n a):=yH ⟨σ,HSG.o,rfl⟩;clear HSG;generalize payL ps ls o.ow pt o.sl n σ=ls4 at *;have e0:=KXA.o.cell 0;have e1:=KXA.o.cell 1;simp at e0 e1;have d0:=KOA.o.cell 0;have d1:=KOA.o.cell 1;have d2:=KOA.o.cell 2;have d3:=KOA.o.cell 3;have d4:=KOA.o.cell 4;have d5:=KOA.o.cell 5;have d6:=KOA.o.cell 6;simp at d0 d1 d2 d3 d4 d5 d6;obtain⟨τ,hτ⟩:=aDz (aAx IA.o o.bu) tk o.ow x;have HTAU:=yH hτ;have CP:=yH (aLg HRo.o LA.o IA.o HT.o FT.o.ow FT.o.bu hx64.out hτ);clear hτ;go_wp2_with fail;refine CP.o.mono ?_;rintro e w6 ⟨rfl,r6,k6⟩;have AP:=(PA.o.ne_map LA.o).1;have KX6:=yH (KXA.o.keep k6 yY);have KF6:=yH (KFA.o.keep k6 yY);have P6:=yH (PA.o.keep k6 AP.1 AP.2);have B6:=yH (BK.o.trans (k6.mono (fun k _ h=>Or.inr (Or.inl h))));have L6:=yH r6;clear CP r6 k6 AP KXA KFA PA LA BK KOA;clear e0 e1 d0 d1 d2 d3 d4 d5 d6;have e0:=KX6.o.cell 0;have e1:=KX6.o.cell 1;simp at e0 e1;have CK:=yH (aQy P6.o JJ.o s n);go_wp2_with fail;refine CK.o.mono ?_;rintro e w7 ⟨rfl,vb7,r7,k7,mv7⟩;have AP:=(P6.o.ne_map L6.o).2;have hgz:¬Foot gb vb (w.heap.size+1):=fun h=>uF (HFO.o _ h)
  have KF7:=yH (KF6.o.keep k7 hgz);have L7:=yH (L6.o.keep k7 AP.1 AP.2);have B7:=yH (B6.o.trans (k7.mono (fun k _ h=>Or.inr (Or.inr h))));have P7:=yH r7;have MV:=yH (mv7.of_le B6.o.size);clear CK r7 k7 mv7 AP hgz KX6 KF6 P6 L6 B6;clear e0 e1;go_wp2_with (refine aAa rfl 241 (.tmp 10) (.tmp 81) rfl (w.heap.size+1) #[.int .u64 s,.int .u8 tk,.int .u8 pt,.int .i64 n,.int .i64 x] rfl rfl 241 _ KF7.o.out zW rfl zK ?_);refine bodyPost_ret (v:=.tuple #[.agg #[.int .u64 s,.int .u8 tk,.int .u8 pt,.int .i64 n,.int .i64 x],.int .i64 0]) (aAi rfl _ _ (w.heap.size+1) 241 #[.int .u64 s,.int .u8 tk,.int .u8 pt,.int .i64 n,.int .i64 x] _ _ rfl (setRow_heap _ (w.heap.size+1) _ _ _ (0,0) KF7.o.out) Tryz.underlying241 rfl zW rfl) rfl (.inr ⟨HOK.o,o,x,_,vb7,HF.o,HX.o.symm,⟨ls4,τ,(.inr ⟨HP.o,RT.o⟩),HTAU.o,rfl⟩,rfl,?_,?_,B7.o.freshRow zQ _,MV.o⟩)
  ·exact L7.o.keep (aAc _ _) (uF HGL.o) yY
  refine P7.o.keep (aAc _ _) (uF HBL.o) (fun b hb h=>?_);subst h;exact aB1 P7.o.row KF7.o zX _ hb rfl
 have q2:decide (mayV l ps s tk pt n 1099511627776 m1 m2<n)=true:=zF
 have NO:Hid (¬doOk l ps s tk pt n m1 m2):=yH (fun h=>h2 h.2);clear h2;generalize mayV l ps s tk pt n 1099511627776 m1 m2=mm at *;go_wp2_with (refine aAa rfl 241 (.tmp 10) (.tmp 34) rfl (w.heap.size+1) #[.int .u64 0,.int .u8 0,.int .u8 0,.int .i64 0,.int .i64 0] rfl rfl 241 _ KF1.o.out zW rfl zK ?_);refine bodyPost_ret (v:=.tuple #[aH6,.int .i64 1]) (aAi rfl _ _ (w.heap.size+1) 241 #[.int .u64 0,.int .u8 0,.int .u8 0,.int .i64 0,.int .i64 0] _ _ rfl (setRow_heap _ (w.heap.size+1) _ _ _ (0,0) KF1.o.out) Tryz.underlying241 rfl zW rfl) rfl (.inl ⟨NO.o,rfl,below_setRow B1.o zQ _⟩)
theorem aRm{w:World}{b o:Nat}{ls:List Of}(h:∀j,j<ls.length*7→w.cell? ⟨b,o+j,none⟩=(aAb ls)[j]?){k:Nat}(hk:k<ls.length):
  w.cell? ⟨b,o+k*7,none⟩=some (.int .u64 ls[k].se)∧w.cell? ⟨b,o+k*7+1,none⟩=some (.int .u8 ls[k].ow)∧w.cell? ⟨b,o+k*7+2,none⟩=some (.int .u8 ls[k].sl)∧w.cell? ⟨b,o+k*7+3,none⟩=some (.int .u8 ls[k].bu)∧w.cell? ⟨b,o+k*7+4,none⟩=some (.int .i64 ls[k].lf)∧w.cell? ⟨b,o+k*7+5,none⟩=some (.int .i64 ls[k].nu)∧w.cell? ⟨b,o+k*7+6,none⟩=some (.int .i64 ls[k].de):=by
 have q:∀j,j<7→w.cell? ⟨b,o+k*7+j,none⟩=ls[k].vals[j]? := fun j hj=>by
  have:=h (k*7+j) zQ;rw[aAh ls k j hj hk,←Nat.add_assoc]at this;exact this
 exact⟨q 0 zQ,q 1 zQ,q 2 zQ,q 3 zQ,q 4 zQ,q 5 zQ,q 6 zQ⟩
structure OkTo(l:List Of)(last:Int):Prop where
 rise:l.Pairwise fun x y=>x.se<y.se
 ok:∀x∈l,x.may∧1≤x.se∧x.se≤last
 last:(l=[]∧last=0)∨∃x∈l,x.se=last
theorem OkTo.nil:OkTo [] 0:=⟨List.Pairwise.nil,zV,.inl ⟨rfl,rfl⟩⟩
theorem OkTo.nonneg{l:List Of}{last:Int}(h:OkTo l last):0≤last:=by
 rcases h.last with⟨_,h⟩|⟨x,hx,h⟩
 ·omega
 have:=(h ▸ (‹OkTo l last›).ok x hx).2.1;omega
theorem OkTo.next{l:List Of}{last:Int}{k:Nat}(hk:k<l.length)(h:OkTo (l.take k) last)(hm:l[k].may)(hs:last<l[k].se):OkTo (l.take (k+1)) l[k].se:=by
 have h0:=h.nonneg;rw[List.take_succ_eq_append_getElem hk];refine⟨?_,fun x hx=>?_,.inr ⟨l[k],List.mem_append_right _ (List.mem_singleton.2 rfl),rfl⟩⟩
 ·rw[List.pairwise_append];refine⟨h.rise,zV,fun a ha b hb=>?_⟩;rw[List.mem_singleton]at hb;subst hb;have:=(h.ok a ha).2.2;omega
 rcases List.mem_append.1 hx with hx|hx
 ·obtain⟨a,b,c⟩:=h.ok x hx;exact⟨a,b,zQ⟩
 rw[List.mem_singleton]at hx;subst hx;exact⟨hm,zQ,Int.le_refl _⟩
theorem OkTo.good{l:List Of}{last nx:Int}(h:OkTo l last)(hn:last<nx):okO nx l∧nx≠0:=by
 have:=h.nonneg;exact⟨⟨h.rise,fun x hx=>by obtain⟨a,b,c⟩:=h.ok x hx;exact⟨a,zQ,zQ⟩⟩,zQ⟩
theorem OkTo.bad{l:List Of}{last nx:Int}{k:Nat}(hk:k<l.length)(h:OkTo (l.take k) last)(h0:0≤l[k].se)(hb:¬l[k].may∨l[k].se≤last):¬(okO nx l∧nx≠0):=by
 rintro⟨⟨h1,h2⟩,_⟩;obtain⟨m,z,_⟩:=h2 _ (List.getElem_mem hk);rcases hb with hb|hb
 ·exact hb m
 rcases h.last with⟨_,e⟩|⟨x,hx,e⟩
 ·omega
 obtain⟨j,hj,rfl⟩:=List.mem_take_iff_getElem.1 hx;have:=List.pairwise_iff_getElem.1 h1 j k zQ hk zQ;omega
theorem OkTo.late{l:List Of}{last nx:Int}(h:OkTo l last)(h0:0≤nx)(hb:nx≤last):¬(okO nx l∧nx≠0):=by
 rintro⟨⟨_,h2⟩,hz⟩;rcases h.last with⟨_,e⟩|⟨x,hx,e⟩
 ·omega
 have:=(h2 x hx).2.2;omega
def POfPost(w:World)(l:List Of)(nx:Int)(e:Ending)(w':World):Prop:=
 Below w.heap.size w w'∧((l.length≤32∧okO nx l∧nx≠0∧∃g vl,e=.returned (.tuple #[.pointer (some ⟨g,0,none⟩),.int .i64 0])∧PB w' w.heap.size g l nx vl)∨
  (e=.returned (.tuple #[.pointer none,.int .i64 9])∧32<l.length)∨(e=.returned (.tuple #[.pointer none,.int .i64 1])∧l.length≤32∧¬(okO nx l∧nx≠0)))
def POfAt(w:World)(l:List Of)(nx:Int)(s7 s18:Value)(wr:World):Prop:=
 ∃(k:Nat) (last:Int) (vl:Value),k≤l.length∧s18=.int .i64 k∧s7=.int .u64 last∧OkTo (l.take k) last∧PB wr w.heap.size w.heap.size (l.take k) nx vl∧Below w.heap.size w wr
theorem pofB_any{w:World}{v:Value}{l:List Of}{nx:Int}(hp:aBm w v 7 l.length (aAb l))(hf:∀x∈l,x.Fits)(h0:0≤nx)(h1:nx≤18446744073709551615):
  Calls Tryz.prog 66 #[v,.int .u64 nx] w (POfPost w l nx):=by
 obtain⟨ai,capi,hv,hn,hxl,hrd⟩:=hp;subst hv;have HR:=yH hrd;have HF:=yH hf;clear hxl hrd hf
 by_cases h32:32<l.length
 ·have q0:decide (32<(l.length:Int))=true:=zU
  have H32:=yH h32;clear h32;go_enter Tryz.func66,Tryz.ntmps66;go_wp2_with fail;refine bodyPost_ret (v:=.tuple #[.pointer none,.int .i64 9]) yN rfl ?_;exact⟨yZ,.inr (.inl ⟨rfl,H32.o⟩)⟩
 have q0:decide (32<(l.length:Int))=false:=zU
 have h32:l.length≤32:=zQ
 have KG:=yH (Blk.new w #[.slice none 0 0,.int .u64 nx] 158);have B0:=yH ((Below.refl w.heap.size w).alloc yL (.cells #[.slice none 0 0,.int .u64 nx] 158));go_enter Tryz.func66,Tryz.ntmps66;go_wp2_with fail
 go_loopw [7,18] (POfAt w l nx) (fun _ i _=>l.length - (intOf i).toNat)
 case atStart=>exact⟨0,0,.slice none 0 0,Nat.zero_le _,rfl,rfl,OkTo.nil,⟨KG.o,Nat.le_refl _,World.ownsRow_nil _ _ _ _⟩,B0.o⟩
 obtain⟨k,last,vl,hk,rfl,rfl,hO,hP,hb⟩:=hrel
 by_cases hkl:k<l.length
 ·obtain⟨b,o,rfl,hbl,hcell⟩:=HR.o zQ;obtain⟨e0,e1,e2,e3,e4,e5,e6⟩:=aRm (w:=wr) (fun j hj=>by rw[hb.cell (p:=⟨b,o+j,none⟩) hbl];exact hcell j hj) hkl;have hx:=HF.o _ (List.getElem_mem hkl);have BD:=yH (fun h=>OkTo.bad (nx:=nx) hkl hO hx.se.1 h);have NX:=yH (fun h1 h2=>OkTo.next hkl hO h1 h2);have TK:=yH (List.take_succ_eq_append_getElem hkl);have hlk:(l.take k).length≤32:=Nat.le_trans (List.length_take_le _ _) zQ;have HX:=yH hx;clear hcell hx hO;generalize l[k]=x at *;generalize l.take k=out at *;have bw:=(Below.refl wr.heap.size wr).alloc yL (.cells #[.int .u64 x.se,.int .u8 x.ow,.int .u8 x.sl,.int .u8 x.bu,.int .i64 x.lf,.int .i64 x.nu,.int .i64 x.de] 75);have K0:=yH (Blk.new wr #[.int .u64 x.se,.int .u8 x.ow,.int .u8 x.sl,.int .u8 x.bu,.int .i64 x.lf,.int .i64 x.nu,.int .i64 x.de] 75);have HP0:=yH (hP.below bw);have HNF:=yH (show ¬Foot w.heap.size vl wr.heap.size from fun h=>by have:=(hP.lt h).2;omega);have HBW:=yH (hb.trans (bw.mono hb.size));have CM:=yH (pmay_any x (wr.alloc (.cells #[.int .u64 x.se,.int .u8 x.ow,.int .u8 x.sl,.int .u8 x.bu,.int .i64 x.lf,.int .i64 x.nu,.int .i64 x.de] 75)) HX.o);clear bw hP hb
  by_cases hm:x.may
  ·rw[decide_eq_true hm]at CM
   by_cases hs:x.se≤last
   ·have HBad:=yH (BD.o (.inr hs));clear BD NX hm TK;go_wp2_with fail;refine CM.o.mono ?_;rintro e w3 ⟨rfl,b3⟩;have K3:=K0.o.below b3 K0.o.lt;have d0:=K3.cell 0;simp at d0;have HB3:=yT HBW b3;clear b3 K3 CM;go_wp2_with fail;refine bodyPost_ret (v:=.tuple #[.pointer none,.int .i64 1]) yN rfl ?_;exact⟨HB3.o,.inr (.inr ⟨rfl,h32,HBad.o⟩)⟩
   have hs':last<x.se:=zQ
   have HN:=yH (NX.o hm hs');clear BD NX hm hs;go_wp2_with fail;refine CM.o.mono ?_;rintro e w3 ⟨rfl,b3⟩;have HA4:=yB K0 b3;have HG4':=HP0.o.below b3;have HB3:=yT HBW b3;clear b3 CM HP0 HBW K0;obtain⟨ao,cap,hvl,hc1,hc2,_⟩:=aAg HG4'.row;subst hvl;have HG4:=yH HG4';clear HG4';unfold maxLen at hc2;have d0:=HA4.o.cell 0;simp at d0;go_wp2_with fail;clear d0;have hgl:=HG4.o.blk.lt;have d0:=HG4.o.blk.cell 0;simp at d0;have a0:=HA4.o.cell 0;have a1:=HA4.o.cell 1;have a2:=HA4.o.cell 2;have a3:=HA4.o.cell 3;have a4:=HA4.o.cell 4;have a5:=HA4.o.cell 5;have a6:=HA4.o.cell 6;simp at a0 a1 a2 a3 a4 a5 a6
   go_region_law (refine aG8 rfl (.tmp 35) (.tmp 37) 156 rfl w.heap.size 197 Tryz.underlying156 rfl aJd (.slice ao out.length cap) out rfl (aAf HG4.o.row (yZ.drew.alloc yL _)) w3.heap.size 1 x rfl (Blk.new w3.drew _ _) zQ zU ?_;intro v' w' ho hgr hat;have HAP:=yH (appended HG4.o ho hgr hat);have hB:=HAP.o.1;have d1:=hB.cell 0;have f1:=hB.frozen 0;have l1:=hB.lt;simp at d1;obtain⟨ao',cap',hv',_⟩:=aAg ho;obtain⟨ln,hln⟩:∃ln,(out++[x]).length=ln:=⟨_,rfl⟩;rw[hln]at hv';subst hv';clear hln;clear ho hgr hat hB d0)
   all_goals
    have HE:=yH HAP.o.2;clear HAP d1 f1 l1;have e3:=HE.o.2.2 HA4.o HNF.o;have e4:=e3.cell 0;simp at e4;clear e3;go_wp2_with fail;go_roundw
    case rel=>exact⟨k+1,x.se,_,zQ,by go_num,by first|rfl|go_num,HN.o,by rw[TK.o];exact HE.o.1,HB3.o.trans (HE.o.2.1.1.below HB3.o.size (fun j hj hf=>by have:=(HG4.o.lt hf).1;omega))⟩
    case measure=>simp[intOf];omega
  rw[decide_eq_false hm]at CM;have HBad:=yH (BD.o (.inl hm));clear BD NX hm TK;go_wp2_with fail;refine CM.o.mono ?_;rintro e w3 ⟨rfl,b3⟩;have HB3:=yT HBW b3;clear b3 CM;go_wp2_with fail;refine bodyPost_ret (v:=.tuple #[.pointer none,.int .i64 1]) yN rfl ?_;exact⟨HB3.o,.inr (.inr ⟨rfl,h32,HBad.o⟩)⟩
 have hke:l.take k=l:=List.take_of_length_le zQ;rw[hke]at hO hP
 by_cases hs:nx≤last
 ·have HBad:=yH (hO.late h0 hs);have HB:=yH hb;clear hO hP hb hke;go_wp2_with fail;refine bodyPost_ret (v:=.tuple #[.pointer none,.int .i64 1]) yN rfl ?_;exact⟨HB.o,.inr (.inr ⟨rfl,h32,HBad.o⟩)⟩
 have HG:=yH (hO.good (nx:=nx) zQ);have HB:=yH hb;have HP:=yH hP;clear hO hP hb hke;go_wp2_with fail;refine bodyPost_ret (v:=.tuple #[.pointer (some ⟨w.heap.size,0,none⟩),.int .i64 0]) yN rfl ?_;exact⟨HB.o,.inl ⟨h32,HG.o.1,HG.o.2,w.heap.size,vl,rfl,HP.o⟩⟩
theorem cmade_of{w:World}{a b:Option Addr}{er:Int}(h:∀w',Below w.heap.size w w'→Calls Tryz.prog 235 #[.agg #[.pointer a,.pointer b],.int .u64 0,.int .u8 0,.int .u8 0,.int .i64 0] w' fun e w''=>e=.returned (.tuple #[aH6,.int .i64 er])∧Below w'.heap.size w' w''):
  Calls Tryz.prog 240 #[.agg #[.pointer a,.pointer b]] w (yR w (.bool (er != 2))):=by
 have b0:=(Below.refl w.heap.size w).alloc yL (.cells #[.pointer a,.pointer b] 80);have K:=yH (Blk.new w #[.pointer a,.pointer b] 80);have B:=yH b0;have C:=yH (h _ b0);clear b0 h;obtain⟨q,hq⟩:∃q,(er != 2)=q:=⟨_,rfl⟩;rw[hq];unfold aH6 at C;generalize hW:w.alloc (.cells #[.pointer a,.pointer b] 80)=W at *;have HW:=yH hW;clear hW;have c0:=K.o.cell 0;have c1:=K.o.cell 1;simp at c0 c1;clear K;go_enter Tryz.func240,Tryz.ntmps240
 go_upto_region 1 with fail
 rw[HW.o];go_wp2_with fail;refine C.o.mono ?_;rintro e w1 ⟨rfl,b1⟩;have B1:=yH ((B.o.trans (b1.mono B.o.size)).alloc (Nat.le_trans B.o.size b1.size) (.cells #[.int .u64 0,.int .u8 0,.int .u8 0,.int .i64 0,.int .i64 0] 241));clear b1 c0 c1 C B;go_wp2_with fail;go_ret;exact⟨rfl,B1.o⟩
theorem cmade_any(HD:aD3){w:World}{base G M gb:Nat}{ps:List Int}{ls:List Ln}{l:List Of}{N:Int}{vb:Value}(hL:LedM w G M ps ls)(hI:LInv ps ls)(hP:PB w base gb l N vb)(hJ:BInv l N):
  Calls Tryz.prog 240 #[.agg #[.pointer (some ⟨G,0,none⟩),.pointer (some ⟨gb,0,none⟩)]] w (yR w (.bool true)):=
 cmade_of (er:=1) (fun w' b=>(aJt HD (hL.below b) hI (hP.below b) hJ 0 0 0 0 zQ x6 x6 y9).mono (by
  rintro e w'' (⟨_,h1,h2⟩|⟨h,_⟩)
  ·exact⟨h1,h2⟩
  exact absurd h.1 zQ))
theorem may_one(x:Of):(okO 2 [(⟨1,x.ow,x.sl,x.bu,x.lf,x.nu,x.de⟩:Of)]∧(2:Int)≠0)↔x.may:=by
 constructor
 ·rintro⟨⟨_,h⟩,_⟩;exact(h _ List.mem_cons_self).1
 intro h;refine⟨⟨List.pairwise_singleton _ _,fun y hy=>?_⟩,zX⟩;rw[List.mem_singleton]at hy;subst hy;exact⟨h,by show(1:Int)≠0;decide,by show(1:Int)<2;decide⟩
theorem cmay_any(x:Of)(hx:x.Fits)(w:World):Calls Tryz.prog 241 #[.agg #[.int .u64 x.se,.int .u8 x.ow,.int .u8 x.sl,.int .u8 x.bu,.int .i64 x.lf,.int .i64 x.nu,.int .i64 x.de]] w (yR w (.bool (decide x.may))):=by
 have b0:=(Below.refl w.heap.size w).alloc yL (.cells #[.int .u64 x.se,.int .u8 x.ow,.int .u8 x.sl,.int .u8 x.bu,.int .i64 x.lf,.int .i64 x.nu,.int .i64 x.de] 294);have K:=yH (Blk.new w #[.int .u64 x.se,.int .u8 x.ow,.int .u8 x.sl,.int .u8 x.bu,.int .i64 x.lf,.int .i64 x.nu,.int .i64 x.de] 294);have B:=yH b0;have HX:=yH hx;obtain⟨q,hq⟩:∃q,decide x.may=q:=⟨_,rfl⟩;have HQ:=yH hq;rw[hq];clear b0 hx hq;generalize hW:w.alloc (.cells #[.int .u64 x.se,.int .u8 x.ow,.int .u8 x.sl,.int .u8 x.bu,.int .i64 x.lf,.int .i64 x.nu,.int .i64 x.de] 294)=W at *;have HW:=yH hW;clear hW;have fz:=K.o.frozen 0;have z0:=K.o.cell 0;simp at z0;have K2:=yH (K.o.set 0 (.int .u64 1));go_enter Tryz.func241,Tryz.ntmps241
 go_upto_region 1 with fail
 rw[HW.o]
 go_upto_region 2 with fail
 have B2:=yH (B.o.setCell (p:=⟨w.heap.size,0,none⟩) (by show w.heap.size≤w.heap.size;omega) (.int .u64 1));clear fz z0 K B;generalize W.setCell ⟨w.heap.size,0,none⟩ (.int .u64 1)=W2 at *;have c0:=K2.o.cell 0;have c1:=K2.o.cell 1;have c2:=K2.o.cell 2;have c3:=K2.o.cell 3;have c4:=K2.o.cell 4;have c5:=K2.o.cell 5;have c6:=K2.o.cell 6;simp at c0 c1 c2 c3 c4 c5 c6;have bl:=(Below.refl W2.heap.size W2).alloc yL (.cells #[.int .u64 1,.int .u8 x.ow,.int .u8 x.sl,.int .u8 x.bu,.int .i64 x.lf,.int .i64 x.nu,.int .i64 x.de] 75);have KL:=yH (Blk.new W2 #[.int .u64 1,.int .u8 x.ow,.int .u8 x.sl,.int .u8 x.bu,.int .i64 x.lf,.int .i64 x.nu,.int .i64 x.de] 75);have B3:=yT B2 bl
 have RD:Hid (aBm (W2.alloc (.cells #[.int .u64 1,.int .u8 x.ow,.int .u8 x.sl,.int .u8 x.bu,.int .i64 x.lf,.int .i64 x.nu,.int .i64 x.de] 75)) (.slice (some ⟨W2.heap.size,0,none⟩) 1 1) 7 [(⟨1,x.ow,x.sl,x.bu,x.lf,x.nu,x.de⟩:Of)].length (aAb [(⟨1,x.ow,x.sl,x.bu,x.lf,x.nu,x.de⟩:Of)])):=yH (by
  refine⟨_,1,rfl,by show(1:Nat)≤100000000;decide,rfl,fun _=>⟨W2.heap.size,0,rfl,KL.o.lt,fun j hj=>?_⟩⟩;rw[Nat.zero_add,KL.o.cell j];have hj7:j<7:=hj;rcases(by omega:j=0∨j=1∨j=2∨j=3∨j=4∨j=5∨j=6)with rfl|rfl|rfl|rfl|rfl|rfl|rfl <;> rfl)
 have CO:=yH (pofB_any (nx:=2) RD.o (fun y hy=>by rw[List.mem_singleton]at hy;subst hy;exact⟨by show(0:Int)≤1∧(1:Int)≤18446744073709551615;decide,HX.o.ow,HX.o.sl,HX.o.bu,HX.o.lf,HX.o.nu,HX.o.de⟩) zX zX);have QY:Hid ((okO 2 [(⟨1,x.ow,x.sl,x.bu,x.lf,x.nu,x.de⟩:Of)]∧(2:Int)≠0)↔x.may):=yH (may_one x);clear bl RD;go_wp2_with fail;generalize W2.alloc (.cells #[.int .u64 1,.int .u8 x.ow,.int .u8 x.sl,.int .u8 x.bu,.int .i64 x.lf,.int .i64 x.nu,.int .i64 x.de] 75)=W3 at *;refine CO.o.mono ?_;rintro e w1 ⟨b1,hp⟩;have B4:=yT B3 b1;clear b1 c0 c1 c2 c3 c4 c5 c6 CO KL K2 B2;rcases hp with⟨_,h1,h2,g,vl,rfl,_⟩|⟨rfl,h⟩|⟨rfl,_,h⟩
 ·obtain rfl:true=q:=by rw[←HQ.o,decide_eq_true (QY.o.1 ⟨h1,h2⟩)]
  clear h1 h2;go_wp2_with fail;go_ret;exact⟨rfl,B4.o⟩
 ·exact absurd h (by show ¬32<1;decide)
 obtain rfl:false=q:=by rw[←HQ.o,decide_eq_false (fun q=>h (QY.o.2 q))]
 clear h;go_wp2_with fail;go_ret;exact⟨rfl,B4.o⟩
def aH7(ps:List Int)(x:Of):Int:=if ¬x.may then 1 else if x.ow∉ps then 7 else 0
theorem aTw{w:World}{a b:Option Addr}(x:Of)(h:∀w',Below w.heap.size w w'→Calls Tryz.prog 240 #[.agg #[.pointer a,.pointer b]] w' fun e w''=>e=.returned (.bool false)∧Below w'.heap.size w' w''):
  Calls Tryz.prog 200 #[.agg #[.int .u64 x.se,.int .u8 x.ow,.int .u8 x.sl,.int .u8 x.bu,.int .i64 x.lf,.int .i64 x.nu,.int .i64 x.de],.agg #[.pointer a,.pointer b]] w (yR w (.int .i64 2)):=by
 have b0:=((Below.refl w.heap.size w).alloc yL (.cells #[.int .u64 x.se,.int .u8 x.ow,.int .u8 x.sl,.int .u8 x.bu,.int .i64 x.lf,.int .i64 x.nu,.int .i64 x.de] 294));have b1:=b0.alloc b0.size (.cells #[.pointer a,.pointer b] 80);have K:=yH (pAB (w.alloc (.cells #[.int .u64 x.se,.int .u8 x.ow,.int .u8 x.sl,.int .u8 x.bu,.int .i64 x.lf,.int .i64 x.nu,.int .i64 x.de] 294)) #[.pointer a,.pointer b] 80 (g:=w.heap.size+1) zV);have B:=yH b1;have C:=yH (h _ b1);clear b0 b1 h;generalize hW:(w.alloc (.cells #[.int .u64 x.se,.int .u8 x.ow,.int .u8 x.sl,.int .u8 x.bu,.int .i64 x.lf,.int .i64 x.nu,.int .i64 x.de] 294)).alloc (.cells #[.pointer a,.pointer b] 80)=W at *;have HW:=yH hW;clear hW;have c0:=K.o.cell 0;have c1:=K.o.cell 1;simp at c0 c1;clear K;go_enter Tryz.func200,Tryz.ntmps200
 go_upto_region 1 with fail
 rw[HW.o];go_wp2_with fail;refine C.o.mono ?_;rintro e w1 ⟨rfl,b1⟩;have B1:=yT B b1;clear b1 c0 c1 C B;go_wp2_with fail;go_ret;exact⟨rfl,B1.o⟩
theorem cwrong_any(HD:aD3){w:World}{base G M gb:Nat}{ps:List Int}{ls:List Ln}{l:List Of}{N:Int}{vb:Value}(hL:LedM w G M ps ls)(hI:LInv ps ls)(hP:PB w base gb l N vb)(hJ:BInv l N)(x:Of)(hx:x.Fits):
  Calls Tryz.prog 200 #[.agg #[.int .u64 x.se,.int .u8 x.ow,.int .u8 x.sl,.int .u8 x.bu,.int .i64 x.lf,.int .i64 x.nu,.int .i64 x.de],.agg #[.pointer (some ⟨G,0,none⟩),.pointer (some ⟨gb,0,none⟩)]] w (yR w (.int .i64 (aH7 ps x))):=by
 have b0:=((Below.refl w.heap.size w).alloc yL (.cells #[.int .u64 x.se,.int .u8 x.ow,.int .u8 x.sl,.int .u8 x.bu,.int .i64 x.lf,.int .i64 x.nu,.int .i64 x.de] 294));have b1:=b0.alloc b0.size (.cells #[.pointer (some ⟨G,0,none⟩),.pointer (some ⟨gb,0,none⟩)] 80);have KS:=yH ((Blk.new w #[.int .u64 x.se,.int .u8 x.ow,.int .u8 x.sl,.int .u8 x.bu,.int .i64 x.lf,.int .i64 x.nu,.int .i64 x.de] 294).alloc (.cells #[.pointer (some ⟨G,0,none⟩),.pointer (some ⟨gb,0,none⟩)] 80));have KH:=yH (pAB (w.alloc (.cells #[.int .u64 x.se,.int .u8 x.ow,.int .u8 x.sl,.int .u8 x.bu,.int .i64 x.lf,.int .i64 x.nu,.int .i64 x.de] 294)) #[.pointer (some ⟨G,0,none⟩),.pointer (some ⟨gb,0,none⟩)] 80 (g:=w.heap.size+1) zV);have HL:=yH (hL.below b1);have C:=yH (cmade_any HD (hL.below b1) hI (hP.below b1) hJ);have B:=yH b1;have HB:=yH hI.bd;have CM:=yH (fun w=>cmay_any x hx w);obtain⟨R,hR⟩:∃R,aH7 ps x=R:=⟨_,rfl⟩;rw[hR];have HR:=yH hR;clear b0 b1 hL hI hP hJ hR hx;generalize hW:(w.alloc (.cells #[.int .u64 x.se,.int .u8 x.ow,.int .u8 x.sl,.int .u8 x.bu,.int .i64 x.lf,.int .i64 x.nu,.int .i64 x.de] 294)).alloc (.cells #[.pointer (some ⟨G,0,none⟩),.pointer (some ⟨gb,0,none⟩)] 80)=W at *;have HW:=yH hW;clear hW;have c0:=KH.o.cell 0;have c1:=KH.o.cell 1;simp at c0 c1;go_enter Tryz.func200,Tryz.ntmps200
 go_upto_region 1 with fail
 rw[HW.o];go_wp2_with fail;refine C.o.mono ?_;rintro e w1 ⟨rfl,b1⟩;have HL1:=yH (HL.o.below b1);have KS1:=yB KS b1;have KH1:=yB KH b1;have B1:=yT B b1;clear b1 c0 c1 C B HL KS KH;have s0:=KS1.o.cell 0;have s1:=KS1.o.cell 1;have s2:=KS1.o.cell 2;have s3:=KS1.o.cell 3;have s4:=KS1.o.cell 4;have s5:=KS1.o.cell 5;have s6:=KS1.o.cell 6;simp at s0 s1 s2 s3 s4 s5 s6
 by_cases hm:x.may
 ·rw[decide_eq_true hm]at CM;have HMY:=yH hm;clear hm;go_wp2_with fail;refine(CM.o _).mono ?_;rintro e w2 ⟨rfl,b2⟩;have HL2:=yH (HL1.o.below b2);have KS2:=yB KS1 b2;have KH2:=yB KH1 b2;have B2:=yT B1 b2;clear b2 s0 s1 s2 s3 s4 s5 s6 CM B1 HL1 KS1 KH1;have s1:=KS2.o.cell 1;have c0:=KH2.o.cell 0;have c1:=KH2.o.cell 1;simp at s1 c0 c1;have CF:=yH (aEi HL2.o.blk HB.o x.ow)
  by_cases hf:x.ow∈ps
  ·rw[decide_eq_true hf]at CF;have EE:Hid (R=0):=yH (by rw[←HR.o];unfold aH7;rw[if_neg (fun h=>h HMY.o),if_neg (fun h=>h hf)]);clear hf;go_wp2_with fail;refine CF.o.mono ?_;rintro e w3 ⟨rfl,rfl⟩;go_wp2_with fail;go_ret;exact⟨wB,B2.o⟩
  rw[decide_eq_false hf]at CF;have EE:Hid (R=7):=yH (by rw[←HR.o];unfold aH7;rw[if_neg (fun h=>h HMY.o),if_pos hf]);clear hf;go_wp2_with fail;refine CF.o.mono ?_;rintro e w3 ⟨rfl,rfl⟩;go_wp2_with fail;go_ret;exact⟨wB,B2.o⟩
 rw[decide_eq_false hm]at CM;have EE:Hid (R=1):=yH (by rw[←HR.o];unfold aH7;rw[if_pos hm]);clear hm;go_wp2_with fail;refine(CM.o _).mono ?_;rintro e w2 ⟨rfl,b2⟩;have B2:=yT B1 b2;clear b2 s0 s1 s2 s3 s4 s5 s6 CM B1;go_wp2_with fail;go_ret;exact⟨wB,B2.o⟩
theorem crest_none(x:Of)(hn:x.lf<1)(b:Option Addr)(w:World):
  Calls Tryz.prog 202 #[.agg #[.int .u64 x.se,.int .u8 x.ow,.int .u8 x.sl,.int .u8 x.bu,.int .i64 x.lf,.int .i64 x.nu,.int .i64 x.de],.pointer b] w (yR w (.tuple #[.int .u64 0,.int .i64 0])):=by
 have b0:=((Below.refl w.heap.size w).alloc yL (.cells #[.int .u64 x.se,.int .u8 x.ow,.int .u8 x.sl,.int .u8 x.bu,.int .i64 x.lf,.int .i64 x.nu,.int .i64 x.de] 294));have KS:=yH (Blk.new w #[.int .u64 x.se,.int .u8 x.ow,.int .u8 x.sl,.int .u8 x.bu,.int .i64 x.lf,.int .i64 x.nu,.int .i64 x.de] 294);have B:=yH b0;have q0:decide (x.lf<1)=true:=uN hn
 clear b0 hn;generalize hW:w.alloc (.cells #[.int .u64 x.se,.int .u8 x.ow,.int .u8 x.sl,.int .u8 x.bu,.int .i64 x.lf,.int .i64 x.nu,.int .i64 x.de] 294)=W at *;have HW:=yH hW;clear hW;have s4:=KS.o.cell 4;simp at s4;go_enter Tryz.func202,Tryz.ntmps202
 go_upto_region 1 with fail
 rw[HW.o];go_wp2_with fail;go_ret2;exact⟨rfl,B.o⟩
theorem crest_any{w:World}{base g:Nat}{l:List Of}{N:Int}{vl:Value}(h:PB w base g l N vl)(hI:BInv l N)(x:Of)(hx:x.Fits)(hn:¬x.lf<1):
  Calls Tryz.prog 202 #[.agg #[.int .u64 x.se,.int .u8 x.ow,.int .u8 x.sl,.int .u8 x.bu,.int .i64 x.lf,.int .i64 x.nu,.int .i64 x.de],.pointer (some ⟨g,0,none⟩)] w fun e w'=>e=.returned (.tuple #[.int .u64 (aFt l ⟨N,x.ow,x.sl,x.bu,x.lf,x.nu,x.de⟩),.int .i64 (aC6 l ⟨N,x.ow,x.sl,x.bu,x.lf,x.nu,x.de⟩)])∧
   ∃vl',PB w' base g (aFf l ⟨N,x.ow,x.sl,x.bu,x.lf,x.nu,x.de⟩) (aE4 l ⟨N,x.ow,x.sl,x.bu,x.lf,x.nu,x.de⟩) vl'∧Keep (Foot g vl) w w'∧aEj w vl vl':=by
 have b0:=((Below.refl w.heap.size w).alloc yL (.cells #[.int .u64 x.se,.int .u8 x.ow,.int .u8 x.sl,.int .u8 x.bu,.int .i64 x.lf,.int .i64 x.nu,.int .i64 x.de] 294));have KS:=yH (Blk.new w #[.int .u64 x.se,.int .u8 x.ow,.int .u8 x.sl,.int .u8 x.bu,.int .i64 x.lf,.int .i64 x.nu,.int .i64 x.de] 294);have B:=yH b0;have q0:decide (x.lf<1)=false:=uN hn
 have CP:=yH (pplace_any (x:=⟨N,x.ow,x.sl,x.bu,x.lf,x.nu,x.de⟩) (h.below b0) hI ⟨⟨by have:=hI.n1;show 0≤N;omega,hI.n2⟩,hx.ow,hx.sl,hx.bu,hx.lf,hx.nu,hx.de⟩);obtain⟨rs,hrs⟩:∃rs,aFt l ⟨N,x.ow,x.sl,x.bu,x.lf,x.nu,x.de⟩=rs:=⟨_,rfl⟩;obtain⟨re,hre⟩:∃re,aC6 l ⟨N,x.ow,x.sl,x.bu,x.lf,x.nu,x.de⟩=re:=⟨_,rfl⟩;rw[hrs,hre]at CP ⊢;dsimp only at CP;clear b0 hn h hI hx hrs hre;generalize hW:w.alloc (.cells #[.int .u64 x.se,.int .u8 x.ow,.int .u8 x.sl,.int .u8 x.bu,.int .i64 x.lf,.int .i64 x.nu,.int .i64 x.de] 294)=W at *;have HW:=yH hW;clear hW;have s1:=KS.o.cell 1;have s2:=KS.o.cell 2;have s3:=KS.o.cell 3;have s4:=KS.o.cell 4;have s5:=KS.o.cell 5;have s6:=KS.o.cell 6;simp at s1 s2 s3 s4 s5 s6;go_enter Tryz.func202,Tryz.ntmps202
 go_upto_region 1 with fail
 rw[HW.o];go_wp2_with fail;refine CP.o.mono ?_;rintro e w1 ⟨rfl,vl',hP,k1,hm⟩;have HP:=yH hP;have K1:=yH ((pAD (S:=Foot g vl) B.o).trans k1);have M1:=yH (show aEj w vl vl' from fun b hb=>(hm b hb).imp id (fun h=>Nat.le_trans B.o.size h));clear hP k1 hm CP s1 s2 s3 s4 s5 s6;go_wp2_with fail;go_ret2;exact⟨rfl,vl',HP.o,K1.o,M1.o⟩
structure aPt(B l:Nat)(W W':World):Prop where
 size:W.heap.size≤W'.heap.size
 same:∀k,B≤k→k≠l→k<W.heap.size→W'.heap[k]? = W.heap[k]?
structure aK0(B:Nat)(W W':World):Prop where
 size:W.heap.size≤W'.heap.size
 same:∀k,B≤k→k<W.heap.size→W'.heap[k]? = W.heap[k]?
theorem pAN{S:Nat→Prop}{B:Nat}{W W':World}(h:Keep S W W')(hS:∀k,B≤k→¬S k):aK0 B W W':=
 ⟨h.size,fun k hB hk=>h.block k hk (hS k hB)⟩
theorem Blk.old{W W':World}{B l g:Nat}{cs:Array Value}{t:TypeId}(h:Blk W g cs t)(k:aPt B l W W')(hB:B≤g)(hl:g≠l):Blk W' g cs t:=(k.same g hB hl h.lt).trans h
def SeqK(P:Program)(gf:FuncId)(lb:Array Value){St:Type}(s0:St)(S:St→Prop)(Y:St→Array Value→World→Prop)(next:St→St→Prop)(I:St→World→Prop):Prop:=
 ∀(n l B:Nat) (J:St→World→Prop) (Jx:World→Prop),(∀s W W',J s W→Below W.heap.size W W'→J s W')→(∀s W,J s W→I s W)→
  (∀m s vs W,J s W→Y s vs W→YieldAt Fence.wide m P l vs W fun e W'=>aPt B l W W'∧((e=.returned (.bool true)∧∃s',next s s'∧J s' W')∨(e=.returned (.bool false)∧Jx W')))→
  ∀W,J s0 W→B≤W.heap.size→l<W.heap.size→CallsIn Fence.wide n P gf (#[.func (.yield l) #[] #[]]++lb) W fun e W'=>(∃v,e=.returned v)∧((∃s,S s∧J s W')∨Jx W')
def aRn{St:Type}(B:Nat)(I:St→World→Prop)(Ix:Code→World→Prop)(next:St→St→Prop)(s:St)(W:World):Exit→Act→World→Prop
 | .normal,_,W'=>aK0 B W W'∧∃s',next s s'∧I s' W'
 | .ret,_,W'=>aK0 B W W'∧Ix .ret W'
 | .exit id,_,W'=>aK0 B W W'∧Ix (.exit id) W'
 | .goto t,_,W'=>aK0 B W W'∧Ix (.goto t) W'
 | .panic _,_,_=>False
 | .outgrown,_,_=>False
theorem wp_roundsK{P:Program}{g:Operand}{ps:Array Tmp}{assign body:Code}{Q:Exit→Act→World→Prop}{a:Act}{w:World}{St:Type}{gf:FuncId}{lb:Array Value}
  (hg:a.eval g=.func (.func gf) #[] lb)(eg:∀args w,(callFunc gf args).run P w=.ok (.enter gf args) w)
  (I:St→World→Prop)(Y:St→Array Value→World→Prop)(Ix:Code→World→Prop)(S:St→Prop)(next:St→St→Prop)(A:St→Array Value→Act→World→Prop)
  (hI:∀s,Fits w.heap.size (I s))(hIx:∀c,Fits w.heap.size (Ix c))(hA:∀s vs a,Fits w.heap.size (A s vs a))(hps:∀s vs W,Y s vs W→vs.size=ps.size)
  (s0:St)(hseq:SeqK P gf lb s0 S Y next I)(h0:I s0 w)
  (hassign:∀(m l:Nat) (s:St) (vs:Array Value) (W:World) (K:Act→World→Prop),I s W→Y s vs W→(∀a' W',Below W.heap.size W W'→A s vs a' W'→K a' W')→
   assign.wpIn (Fence.wide.inRound l) m P (Exit.then K fun _ _ _=>False) { tmps:=(ps.zip vs).foldl (fun t (p,v)=>t.setIfInBounds p v) a.tmps,defers:=[] } W)
  (hbody:∀(m l:Nat) (s:St) (vs:Array Value) (a':Act) (W:World),w.heap.size≤W.heap.size→I s W→A s vs a' W→body.wpIn (Fence.wide.inRound l) m P (aRn w.heap.size I Ix next s W) a' W)
  (hdone:∀(D:Nat) (s:St) (W:World),w.heap.size≤D→S s→I s W→W.heap[D]? = some (.deferred (some []))→Q .normal { a with defers:={ target:=.collected D,args:=#[] }::a.defers } W)
  (hstop:∀(D:Nat) (c:Code) (W:World),w.heap.size≤D→Ix c W→W.heap[D]? = some (.deferred (some []))→c.wp P Q { a with defers:={ target:=.collected D,args:=#[] }::a.defers } W):
  (Code.rangeFunc g ps assign body).wp P Q a w:=by
 refine(wpIn_wide (n:=0)).1 (wpIn_rangeFunc fun fn hfn=>?_);obtain⟨rec,hrec⟩:∃rec:LoopState→Option Code→Loop,rec=fun st pe=>{ state:=st,pending:=pe,fn,tmps:=a.tmps,params:=ps,assign,body,defers:=w.heap.size }:=⟨_,rfl⟩
 obtain⟨W1,hW1⟩:∃W1,(w.alloc (.deferred (some []))).alloc (.loop (rec .ready none))=W1:=⟨_,rfl⟩
 have hl1:W1.heap[w.heap.size+1]? = some (.loop (rec .ready none)):=by
  have e:=World.alloc_heap_new (w.alloc (.deferred (some []))) (.loop (rec .ready none));rw[World.size_alloc,hW1]at e;exact e
 have hd1:W1.heap[w.heap.size]? = some (.deferred (some [])):=by
  rw[←hW1];exact(Below.heap_alloc _ _ _ zV).trans (World.alloc_heap_new w _)
 have hb1:Below w.heap.size w W1:=by
  rw[←hW1];exact((Below.refl _ w).alloc yL _).alloc zV _
 have hI1:I s0 W1:=(hI s0).grow _ _ h0 hb1
 refine⟨w.heap.size+1,[{ target:=.collected w.heap.size,args:=#[] }],W1,{ target:=.fn (.func gf) lb,args:=#[.func (.yield (w.heap.size+1)) #[] #[]] },W1,gf,
  #[.func (.yield (w.heap.size+1)) #[] #[]]++lb,W1,?_,?_,fun _ _=>trivial,?_,fun hh=>xC,?_⟩
 ·rw[←hW1,hrec];exact run_enterLoop_outer _ _ _ _ _
 ·simp only[resolve,hg];simp[go_sem]
 ·simp[invoke,go_sem,eg]
 refine(hseq (0 - 1) (w.heap.size+1) w.heap.size (fun s W=>I s W∧W.heap[w.heap.size+1]? = some (.loop (rec .ready none))∧W.heap[w.heap.size]? = some (.deferred (some [])))
  (fun W=>∃c,Ix c W∧W.heap[w.heap.size+1]? = some (.loop (rec .done (some c)))∧W.heap[w.heap.size]? = some (.deferred (some [])))
  (fun s W W' h hb=>⟨(hI s).grow _ _ h.1 hb,(hb.block _ (Array.getElem?_eq_some_iff.1 h.2.1).1).trans h.2.1,(hb.block _ (Array.getElem?_eq_some_iff.1 h.2.2).1).trans h.2.2⟩)
  (fun s W h=>h.1) ?_ W1 ⟨hI1,hl1,hd1⟩ hb1.size (Array.getElem?_eq_some_iff.1 hl1).1).mono ?_
 ·rintro m s vs V ⟨hiV,hlV,hkV⟩ hy;have hry:=run_yield (P:=P) (args:=vs) hlV (by rw[hrec];exact hps s vs V hy);rw[hrec]at hry;refine⟨fn,_,assign,body,hry,roundIn_of_wpIn hfn (hassign m _ s vs V _ hiV hy (fun a1 W hb hAx=>?_))⟩;clear hry;have hi:=(hI s).grow _ _ hiV hb;have hl:=(hb.block _ (Array.getElem?_eq_some_iff.1 hlV).1).trans hlV;have hk:=(hb.block _ (Array.getElem?_eq_some_iff.1 hkV).1).trans hkV;have hlt:=(Array.getElem?_eq_some_iff.1 hl).1;refine⟨_,run_beginRound hl (by rw[hrec]),?_⟩;obtain⟨W2,hW2⟩:∃W2,W.putObj (w.heap.size+1) (.loop { rec .ready none with state:=.busy })=W2:=⟨_,rfl⟩;have hl2:W2.heap[w.heap.size+1]? = some (.loop { rec .ready none with state:=.busy }):=by rw[←hW2];exact World.putObj_heap_same hlt
  have hk2:W2.heap[w.heap.size]? = some (.deferred (some [])):=by rw[←hW2];exact(World.putObj_heap_other zQ).trans hk
  have hs2:W2.heap.size=W.heap.size:=by rw[←hW2];simp[World.putObj]
  have ho2:∀k,k≠w.heap.size+1→W2.heap[k]? = W.heap[k]? := fun k hk=>by rw[←hW2];exact World.putObj_heap_other zQ
  have hi2:I s W2:=by rw[←hW2];exact(hI s).turn _ _ _ _ hi zQ hl rfl
  have hA2:A s vs a1 W2:=by rw[←hW2];exact(hA s vs a1).turn _ _ _ _ hAx zQ hl rfl
  rw[hW2];refine wpIn_mono (hbody m _ s vs a1 W2 zQ hi2 hA2) ?_
  have fin:∀(jump:Option Code) (W3:World),aK0 w.heap.size W2 W3→
    (Instr.endRound (w.heap.size+1) jump).run P W3=.ok (.bool jump.isNone) (W3.putObj (w.heap.size+1) (.loop (rec (if jump.isNone then .ready else .done) jump)))∧
    W3.heap[w.heap.size+1]? = some (.loop { rec .ready none with state:=.busy })∧
    (W3.putObj (w.heap.size+1) (.loop (rec (if jump.isNone then .ready else .done) jump))).heap[w.heap.size+1]? = some (.loop (rec (if jump.isNone then .ready else .done) jump))∧
    (W3.putObj (w.heap.size+1) (.loop (rec (if jump.isNone then .ready else .done) jump))).heap[w.heap.size]? = some (.deferred (some []))∧
    aPt w.heap.size (w.heap.size+1) V (W3.putObj (w.heap.size+1) (.loop (rec (if jump.isNone then .ready else .done) jump))):=fun jump W3 hk3=>by
   have hl3:=(hk3.same (w.heap.size+1) zQ zQ).trans hl2;have he:=run_endRound (P:=P) jump hl3;rw[hrec]at he ⊢;refine⟨he,by rw[hrec]at hl3;exact hl3,World.putObj_heap_same (Array.getElem?_eq_some_iff.1 hl3).1,(World.putObj_heap_other zQ).trans ((hk3.same w.heap.size yL zQ).trans hk2),?_,fun k hB hkl hks=>?_⟩
   ·have h1:=hk3.size;have h2:=hb.size;simp[World.putObj];omega
   have h2:=hb.size;rw[World.putObj_heap_other zQ,hk3.same k hB zQ,ho2 k hkl];exact hb.block k hks
  rintro e a3 W3 hp
  cases e with
  | normal=>
   obtain⟨hk3,s',hn,hi3⟩:=hp;obtain⟨hr,hl3,hl4,hk4,hof⟩:=fin none W3 hk3;exact⟨_,_,hr,hof,.inl ⟨rfl,s',hn,(hI s').turn _ _ _ _ hi3 zQ hl3 rfl,hl4,hk4⟩⟩
  | ret=>
   obtain⟨hk3,hi3⟩:=hp;obtain⟨hr,hl3,hl4,hk4,hof⟩:=fin (some .ret) W3 hk3;exact⟨_,_,hr,hof,.inr ⟨rfl,.ret,(hIx _).turn _ _ _ _ hi3 zQ hl3 rfl,hl4,hk4⟩⟩
  | exit id=>
   obtain⟨hk3,hi3⟩:=hp;obtain⟨hr,hl3,hl4,hk4,hof⟩:=fin (some (.exit id)) W3 hk3;exact⟨_,_,hr,hof,.inr ⟨rfl,.exit id,(hIx _).turn _ _ _ _ hi3 zQ hl3 rfl,hl4,hk4⟩⟩
  | goto t=>
   obtain⟨hk3,hi3⟩:=hp;obtain⟨hr,hl3,hl4,hk4,hof⟩:=fin (some (.goto t)) W3 hk3;exact⟨_,_,hr,hof,.inr ⟨rfl,.goto t,(hIx _).turn _ _ _ _ hi3 zQ hl3 rfl,hl4,hk4⟩⟩
  | panic ch=>exact hp.elim
  | outgrown=>exact hp.elim
 rintro e W2 ⟨⟨v,rfl⟩,(⟨s,hS,hi,hl,hk⟩|⟨c,hi,hl,hk⟩)⟩
 ·have he:=run_endLoop (P:=P) hl uK;rw[hrec]at he;exact⟨none,_,he,hdone _ s _ yL hS ((hI s).turn _ _ _ _ hi zQ hl rfl) ((World.putObj_heap_other zQ).trans hk)⟩
 have he:=run_endLoop (P:=P) hl uK;rw[hrec]at he;exact⟨some c,_,he,wpIn_wide.2 (hstop _ c _ yL ((hIx c).turn _ _ _ _ hi zQ hl rfl) ((World.putObj_heap_other zQ).trans hk))⟩
end Go.Proofs.YtngnfdnfpiiclaaGreat
namespace Go.Proofs.YtngnfdnfpiiclaaGreat
open Go.RowKit Go.Shelf
def sortO_ren:Go.Shelf.Ren:=⟨fun|6=>295|15=>141|14=>313|28=>186|29=>187|20=>332|21=>333|22=>334|23=>335|24=>336|25=>337|26=>338|27=>339|46=>348|47=>219|48=>220|49=>349|50=>350|57=>354|n=>n,fun|22=>156|24=>197|25=>392|3=>3|39=>227|0=>0|53=>278|55=>44|4=>4|46=>271|45=>270|50=>275|5=>5|9=>9|66=>310|70=>313|76=>358|77=>359|n=>n,fun|n=>n⟩
theorem sortO:Go.Proofs.SlLaysF0.n6 Tryz.prog sortO_ren:={
 mixed:=zW
 f6:=⟨Tryz.f295.name,zX,Tryz.func295.trans (congrArg some zW)⟩
 f14:=⟨Tryz.f313.name,zX,Tryz.func313.trans (congrArg some zW)⟩
 f15:=Tryz.func141.trans (congrArg some zW)
 f20:=⟨Tryz.f332.name,zX,Tryz.func332.trans (congrArg some zW)⟩
 f21:=⟨Tryz.f333.name,zX,Tryz.func333.trans (congrArg some zW)⟩
 f22:=⟨Tryz.f334.name,zX,Tryz.func334.trans (congrArg some zW)⟩
 f23:=⟨Tryz.f335.name,zX,Tryz.func335.trans (congrArg some zW)⟩
 f24:=⟨Tryz.f336.name,zX,Tryz.func336.trans (congrArg some zW)⟩
 f25:=⟨Tryz.f337.name,zX,Tryz.func337.trans (congrArg some zW)⟩
 f26:=⟨Tryz.f338.name,zX,Tryz.func338.trans (congrArg some zW)⟩
 f27:=⟨Tryz.f339.name,zX,Tryz.func339.trans (congrArg some zW)⟩
 f28:=Tryz.func186.trans (congrArg some zW)
 f29:=Tryz.func187.trans (congrArg some zW)
 f46:=⟨Tryz.f348.name,zX,Tryz.func348.trans (congrArg some zW)⟩
 f47:=Tryz.func219.trans (congrArg some zW)
 f48:=Tryz.func220.trans (congrArg some zW)
 f49:=⟨Tryz.f349.name,zX,Tryz.func349.trans (congrArg some zW)⟩
 f50:=⟨Tryz.f350.name,zX,Tryz.func350.trans (congrArg some zW)⟩
 f57:=⟨Tryz.f354.name,zX,Tryz.func354.trans (congrArg some zW)⟩
 t0:=Tryz.underlying0
 a0:=Tryz.isAgg0
 z0:=Tryz.sizeOf0
 v0:=Tryz.zeroValue0
 t3:=Tryz.underlying3
 a3:=Tryz.isAgg3
 z3:=Tryz.sizeOf3
 v3:=Tryz.zeroValue3
 t4:=Tryz.underlying4
 a4:=Tryz.isAgg4
 z4:=Tryz.sizeOf4
 v4:=Tryz.zeroValue4
 t5:=Tryz.underlying5
 a5:=Tryz.isAgg5
 z5:=Tryz.sizeOf5
 v5:=Tryz.zeroValue5
 t9:=Tryz.underlying9
 a9:=Tryz.isAgg9
 z9:=Tryz.sizeOf9
 v9:=Tryz.zeroValue9
 t22:=Tryz.underlying156
 a22:=Tryz.isAgg156
 z22:=Tryz.sizeOf156
 v22:=Tryz.zeroValue156
 t25:=Tryz.underlying392
 a25:=Tryz.isAgg392
 z25:=Tryz.sizeOf392
 v25:=Tryz.zeroValue392
 t39:=Tryz.underlying227
 a39:=Tryz.isAgg227
 z39:=Tryz.sizeOf227
 v39:=Tryz.zeroValue227
 t45:=Tryz.underlying270
 a45:=Tryz.isAgg270
 z45:=Tryz.sizeOf270
 v45:=Tryz.zeroValue270
 t46:=Tryz.underlying271
 a46:=Tryz.isAgg271
 z46:=Tryz.sizeOf271
 v46:=Tryz.zeroValue271
 t50:=Tryz.underlying275
 a50:=Tryz.isAgg275
 z50:=Tryz.sizeOf275
 v50:=Tryz.zeroValue275
 t53:=Tryz.underlying278
 a53:=Tryz.isAgg278
 z53:=Tryz.sizeOf278
 v53:=Tryz.zeroValue278
 t55:=Tryz.underlying44
 a55:=Tryz.isAgg44
 z55:=Tryz.sizeOf44
 v55:=Tryz.zeroValue44
 t66:=Tryz.underlying310
 a66:=Tryz.isAgg310
 z66:=Tryz.sizeOf310
 v66:=Tryz.zeroValue310
 t70:=Tryz.underlying313
 a70:=Tryz.isAgg313
 z70:=Tryz.sizeOf313
 v70:=Tryz.zeroValue313
 t76:=Tryz.underlying358
 a76:=Tryz.isAgg358
 z76:=Tryz.sizeOf358
 v76:=Tryz.zeroValue358
 t77:=Tryz.underlying359
 a77:=Tryz.isAgg359
 z77:=Tryz.sizeOf359
 v77:=Tryz.zeroValue359 }
end Go.Proofs.YtngnfdnfpiiclaaGreat
namespace Go.Proofs.YtngnfdnfpiiclaaGreat
open Go.RowKit
structure aAp(B:Nat)(w w':World):Prop extends Below B w w' where
 dr:w.drawn≤w'.drawn
theorem aAp.refl(B:Nat)(w:World):aAp B w w:=⟨Below.refl B w,Nat.le_refl _⟩
theorem aAp.trans{B:Nat}{a b c:World}(h:aAp B a b)(k:aAp B b c):aAp B a c:=⟨h.toBelow.trans k.toBelow,Nat.le_trans h.dr k.dr⟩
theorem aAp.mono{B B':Nat}{w w':World}(h:aAp B w w')(hb:B'≤B):aAp B' w w':=⟨h.toBelow.mono hb,h.dr⟩
theorem aAp.alloc{B:Nat}{a w:World}(h:aAp B a w)(hb:B≤w.heap.size)(o:Obj):aAp B a (w.alloc o):=⟨h.toBelow.alloc hb o,h.dr⟩
theorem aAp.drew{B:Nat}{a w:World}(h:aAp B a w):aAp B a w.drew:=⟨h.toBelow.drew,Nat.le_trans h.dr (Nat.le_succ _)⟩
theorem aAp.setCell{B:Nat}{a w:World}(h:aAp B a w){p:Addr}(hp:B≤p.block)(u:Value):aAp B a (w.setCell p u):=⟨h.toBelow.setCell hp u,h.dr⟩
theorem aAp.grown{w w':World}(h:aAp w.heap.size w w'):∃q os',w'=Go.Sort.grow (w.drewN q) os':=by
 refine⟨w'.drawn - w.drawn,w'.heap.extract w.heap.size w'.heap.size,?_⟩;have hd:=h.dr
 have hh:w'.heap=w.heap++w'.heap.extract w.heap.size w'.heap.size:=by
  apply Array.ext_getElem?;intro i
  by_cases hi:i<w.heap.size
  ·rw[h.block i hi,Array.getElem?_append_left hi]
  rw[Array.getElem?_append_right zQ,Array.getElem?_extract]
  by_cases hi2:i<w'.heap.size
  ·rw[if_pos zU];congr 1;omega
  rw[if_neg zU,Array.getElem?_eq_none zQ]
 obtain⟨h0,h1,h2,h3,h4⟩:=w';obtain⟨g0,g1,g2,g3,g4⟩:=w;have e1:=h.os;have e2:=h.tape;have e3:=h.output;simp only at hh e1 e2 e3 hd;subst e1 e2 e3;simp only[Go.Sort.grow,World.drewN];rw[←hh];congr 1;omega
end Go.Proofs.YtngnfdnfpiiclaaGreat
