/- Pieces of one proof. -/
import Derived.Test.YtaeocliklpcgmaaGreatB05
set_option linter.all false
set_option maxHeartbeats 64000000
set_option maxRecDepth 100000
namespace Go.Proofs.YtaeocliklpcgmaaGreat
open Go.RowKit Go.ChangeShapes Go.WideShapes Go.Deep
section
variable{H:Type}{enc:TypeId×Value→H}{P:Program}{w:World}{base:Nat}{spare:Nat→Bool}{held:Bool}
end
section
variable{H:Type}{enc:TypeId×Value→H}{w:World}{base:Nat}{spare:Nat→Bool}{held:Bool}
end
theorem SlIn.flows{w:World}{a:Option Addr}{len cap:Nat}{xs:List Fw}(h:SlIn Fw.vals 3 Fw.Fits w a len cap xs)(hn:len≤100000000):aCg w (.slice a xs.length cap) 3 xs.length (aBh xs):=by
 obtain⟨h0,hl,hk,h1,h2,h3⟩:=h;subst hl;refine⟨a,cap,rfl,hn,aNf xs,fun hp=>?_⟩;obtain⟨b,off,ha,hb,hc⟩:=h3 hp;refine⟨b,off,ha,hb,fun j hj=>?_⟩;have hjd:j/3<xs.length:=by omega
 have h4:=aEj xs (j/3) (j%3) (by omega) hjd;rw[show j/3*3+j%3=j by omega]at h4;have hv:(xs[j/3].vals)[j%3]? = some (xs[j/3].vals[j%3]'(by rw[Fw.vals_len];omega)):=List.getElem?_eq_getElem _;have h5:=hc (j/3) hjd (j%3) _ hv;rw[show off+j/3*3+j%3=off+j by omega]at h5;rw[h5,h4,hv]
end Go.Proofs.YtaeocliklpcgmaaGreat
namespace Go.Proofs.YtaeocliklpcgmaaGreat
open Go.RowKit Go.ChangeShapes Go.WideShapes
theorem aCw{f0:Int→Int→Int}{B:Int}(h:GInv f0 B)(s t want:Int):∃σ,aAc f0 B s t want σ:=by
 have key:∀n:Nat,(∃σ,aAc f0 B s t want σ)∨(∃σ,RInv f0 B s t want n σ∧¬aCv s t σ):=by
  intro n
  induction n with
  | zero=>
   by_cases hd:aCv s t ⟨f0,want,[]⟩
   ·exact .inl ⟨_,0,RInv.start h s t want,hd⟩
   ·exact .inr ⟨_,RInv.start h s t want,hd⟩
  | succ n ih=>
   rcases ih with h1|⟨σ,h1,h2⟩
   ·exact .inl h1
   have h3:=h1.step h2
   by_cases hd:aCv s t (wayR s t σ)
   ·exact .inl ⟨_,n+1,h3,hd⟩
   exact .inr ⟨_,h3,hd⟩
 rcases key 4114 with h1|⟨σ,h1,_⟩
 ·exact h1
 have:=h1.k5;omega
theorem aAc.len{f0:Int→Int→Int}{B s t want:Int}{σ:RS}(h:aAc f0 B s t want σ):σ.out.length≤70000:=by
 obtain⟨k,h,_⟩:=h;have h1:=h.len;have h2:=h.k5;omega
theorem zero_short(a b:Int):aAr aFs a b=[]:=by
 unfold aAr;rw[if_neg];rintro⟨_,_,hne,hr⟩;obtain⟨m,_,hw⟩:=(aA6 (GInv.zero (B:=0) (Int.le_refl _)) a 16 b).1 hr
 match m,hw with
 | 0,hw=>exact hne hw
 | m+1,⟨r,h1,_⟩=>unfold aFs at h1;omega
theorem aIz{f:Int→Int→Int}{B s t want:Int}{σ:RS}(h0:GInv f B)(hn:¬(inP s∧inP t∧s≠t))(h:aAc f B s t want σ):σ=⟨f,want,[]⟩:=by
 refine h.eq ⟨0,RInv.start h0 s t want,.inr ?_⟩;show aAr f s t=[];unfold aAr;rw[if_neg (fun h=>hn ⟨h.1,h.2.1,h.2.2.1⟩)]
def aJ4(f:Int→Int→Int)(s t want:Int)(e:TypeId)(w:World)(en:Ending)(w':World):Prop:=
 ∃(σ:RS) (v:Value),en=.returned (.tuple #[v,.int .i64 (want - σ.left)])∧aAc f 4398046511104 s t want σ∧RowA w' w.heap.size e 3 v σ.out.length (aBh σ.out)∧Below w.heap.size w w'
def IsM(w:World)(v:Value)(f:Int→Int→Int):Prop:=(v=.pointer none∧f=aFs)∨∃g,v=.pointer (some ⟨g,0,none⟩)∧Blk w g (graC f true) 268
theorem IsM.isG{w:World}{v:Value}{f:Int→Int→Int}(h:IsM w v f):IsG w v f:=by
 rcases h with h|⟨g,h1,h2⟩
 ·exact .inl h
 exact .inr ⟨g,true,h1,h2⟩
theorem IsM.below{w w':World}{v:Value}{f:Int→Int→Int}(h:IsM w v f)(hb:Below w.heap.size w w'):IsM w' v f:=by
 rcases h with h|⟨g,h1,h2⟩
 ·exact .inl h
 exact .inr ⟨g,h1,h2.below hb h2.lt⟩
theorem IsM.of{w:World}{g:Nat}{f:Int→Int→Int}(h:Blk w g (graC f true) 268):IsM w (.pointer (some ⟨g,0,none⟩)) f:=.inr ⟨g,rfl,h⟩
theorem IsM.nil(w:World):IsM w (.pointer none) aFs:=.inl ⟨rfl,rfl⟩
def aE4:Prop:=∀(w:World) (v:Value) (f:Int→Int→Int) (s t want:Int),IsM w v f→GInv f 4398046511104→In8 s→In8 t→In64 want→
 Calls Tryz.prog 187 #[v,.int .u8 s,.int .u8 t,.int .i64 want] w (aJ4 f s t want 220 w)
def aDd:Prop:=∀(w:World) (v:Value) (f:Int→Int→Int) (s t:Int),IsM w v f→GInv f 4398046511104→In8 s→In8 t→
 Calls Tryz.prog 183 #[v,.int .u8 s,.int .u8 t] w (MostPost f s t w)
theorem aDd.at_(h:aDd){w:World}{v:Value}{f:Int→Int→Int}{s t:Int}{μ:RS}(hv:IsM w v f)(h0:GInv f 4398046511104)(hs:In8 s)(ht:In8 t)(hμ:aAc f 4398046511104 s t aBd μ):
  Calls Tryz.prog 183 #[v,.int .u8 s,.int .u8 t] w (yR w (.int .i64 (aBd - μ.left))):=by
 refine(h w v f s t hv h0 hs ht).mono ?_;rintro e w' ⟨ν,rfl,hν,hb⟩;rw[hν.eq hμ];exact⟨rfl,hb⟩
theorem aE4.at_(h:aE4){w:World}{v:Value}{f:Int→Int→Int}{s t want:Int}{σ:RS}(hv:IsM w v f)(h0:GInv f 4398046511104)(hs:In8 s)(ht:In8 t)(hw:In64 want)(hσ:aAc f 4398046511104 s t want σ):
  Calls Tryz.prog 187 #[v,.int .u8 s,.int .u8 t,.int .i64 want] w fun e w'=>∃v',e=.returned (.tuple #[v',.int .i64 (want - σ.left)])∧RowA w' w.heap.size 220 3 v' σ.out.length (aBh σ.out)∧Below w.heap.size w w':=by
 refine(h w v f s t want hv h0 hs ht hw).mono ?_;rintro e w' ⟨ν,v',rfl,hν,hr,hb⟩;rw[hν.eq hσ]at hr ⊢;exact⟨v',rfl,hr,hb⟩
end Go.Proofs.YtaeocliklpcgmaaGreat
namespace Go.Proofs.YtaeocliklpcgmaaGreat
open Go.RowKit
structure Spr(f:Int→Int→Int)(a:Int)(R:Int→Prop)(pos:Int→Nat)(ah:Int→Int):Prop where
 ra:R a
 pa:pos a=0
 inj:∀p q,R p→R q→pos p=pos q→p=q
 inp:∀p,R p→inP p
 par:∀q,R q→q≠a→R (ah q)∧0<f (ah q) q∧pos (ah q)<pos q
 cl:∀p q,R p→0<f p q→R q∧(q=a∨pos (ah q)≤pos p)
 mono:∀p q,R p→R q→p≠a→q≠a→pos p≤pos q→pos (ah p)≤pos (ah q)
 sib:∀p q,R p→R q→p≠a→q≠a→ah p=ah q→p<q→pos p<pos q
variable{f:Int→Int→Int}{a:Int}{R:Int→Prop}{pos:Int→Nat}{ah:Int→Int}
theorem Spr.reach(h:Spr f a R pos ah):∀(m:Nat) (y v:Int),wk f m y v→R y→R v
 | 0,y,v,hw,hy=>by
  have:y=v:=hw;subst this;exact hy
 | m+1,y,v,⟨r,h1,h2⟩,hy=>h.reach m r v h2 (h.cl y r hy h1).1
theorem Spr.back(h:Spr f a R pos ah):∀(m:Nat) (y v:Int),wk f m y v→R y→(∀j,j<m→itr ah j v≠a)→R (itr ah m v)∧pos (itr ah m v)≤pos y
 | 0,y,v,hw,hy,_=>by
  have:y=v:=hw;subst this;exact⟨hy,Nat.le_refl _⟩
 | m+1,y,v,⟨r,h1,h2⟩,hy,hn=>by
  obtain⟨c1,c2⟩:=h.cl y r hy h1;obtain⟨i1,i2⟩:=h.back m r v h2 c1 (fun j hj=>hn j (by omega));have ne:=hn m (by omega)
  have hr:r≠a:=by
   rintro rfl;rw[h.pa]at i2;exact ne (h.inj _ _ i1 h.ra (by rw[h.pa];omega))
  rw[aGg];refine⟨(h.par _ i1 ne).1,?_⟩;have:=h.mono _ _ i1 c1 ne hr i2;rcases c2 with c2|c2
  ·exact absurd c2 hr
  omega
theorem Spr.depth(h:Spr f a R pos ah):∀(n:Nat) (v:Int),R v→pos v=n→∃D,itr ah D v=a∧∀j,j<D→itr ah j v≠a:=by
 intro n
 induction n using Nat.strongRecOn with
 | _ n ih=>
  intro v hv hn
  by_cases hva:v=a
  ·exact⟨0,hva,fun j hj=>by omega⟩
  obtain⟨p1,p2,p3⟩:=h.par v hv hva;obtain⟨D,d1,d2⟩:=ih _ (by omega) (ah v) p1 rfl;refine⟨D+1,d1,fun j hj=>?_⟩
  match j,hj with
  | 0,_=>exact hva
  | j+1,hj=>exact d2 j (by omega)
theorem Spr.chain(h:Spr f a R pos ah){v:Int}(hv:R v){D:Nat}(hD:∀j,j<D→itr ah j v≠a):∀j,j≤D→R (itr ah j v)∧wk f j (itr ah j v) v∧∀i,i<j→pos (itr ah j v)<pos (itr ah i v)
 | 0,_=>⟨hv,rfl,fun i hi=>by omega⟩
 | j+1,hj=>by
  obtain⟨i1,i2,i3⟩:=h.chain hv hD j (by omega);obtain⟨p1,p2,p3⟩:=h.par _ i1 (hD j (by omega));rw[aGg];refine⟨p1,⟨_,p2,i2⟩,fun i hi=>?_⟩
  by_cases hij:i=j
  ·subst hij;exact p3
  have:=i3 i (by omega);omega
def aEv(ah:Int→Int)(v:Int)(n:Nat):List Int:=((List.range n).map fun i=>itr ah i v).reverse
theorem chainL_len(ah:Int→Int)(v:Int)(n:Nat):(aEv ah v n).length=n:=by simp[aEv]
theorem aNq(ah:Int→Int)(v:Int)(n:Nat):aEv ah v (n+1)=itr ah n v::aEv ah v n:=by
 unfold aEv;rw[List.range_succ,List.map_append,List.reverse_append];rfl
theorem Spr.goL(h:Spr f a R pos ah){B:Int}(hI:GInv f B){v:Int}(hv:R v){D:Nat}(hD:∀j,j<D→itr ah j v≠a):∀n,n≤D→goS f v n (itr ah n v)=aEv ah v (n+1)
 | 0,_=>rfl
 | n+1,hn=>by
  obtain⟨c1,c2,c3⟩:=h.chain hv hD (n+1) hn;obtain⟨e1,e2,e3⟩:=h.chain hv hD n (by omega);obtain⟨p1,p2,p3⟩:=h.par _ e1 (hD n (by omega));rw[aNq]
  have hx:nxt f v n (itr ah (n+1) v)=itr ah n v:=by
   unfold nxt;rw[aGg];rw[parts_find (x:=itr ah n v) (h.inp _ e1)]
   ·rfl
   ·rw[Bool.and_eq_true,decide_eq_true_eq];exact⟨p2,(aA6 hI _ n v).2 ⟨n,Nat.le_refl _,e2⟩⟩
   intro y hy hlt
   cases hc:(decide (0<f (ah (itr ah n v)) y) && inS f y n v)with
   | false=>rfl
   | true=>
    rw[Bool.and_eq_true,decide_eq_true_eq]at hc;obtain⟨k1,k2⟩:=hc;obtain⟨m,hm,hw⟩:=(aA6 hI y n v).1 k2;obtain⟨y1,y2⟩:=h.cl _ y p1 k1;obtain⟨b1,b2⟩:=h.back m y v hw y1 (fun j hj=>hD j (by omega))
    have hle:pos (itr ah n v)≤pos (itr ah m v):=by
     by_cases hmn:m=n
     ·subst hmn;exact Nat.le_refl _
     have:=e3 m (by omega);omega
    have hya:y≠a:=by
     rintro rfl;rw[h.pa]at b2;exact hD n (by omega) (h.inj _ _ e1 h.ra (by rw[h.pa];omega))
    exfalso;rcases y2 with y2|y2
    ·exact hya y2
    rcases Nat.lt_or_ge (pos (ah y)) (pos (ah (itr ah n v)))with q|q
    ·rcases Nat.lt_or_ge (pos y) (pos (itr ah n v))with q2|q2
     ·omega
     have:=h.mono _ _ e1 y1 (hD n (by omega)) hya q2;omega
    have hp:=(h.par y y1 hya).1;have he:=h.inj _ _ hp p1 (by omega);have:=h.sib y _ y1 e1 hya (hD n (by omega)) he hlt;omega
  show itr ah (n+1) v::goS f v n (nxt f v n (itr ah (n+1) v))=_;rw[hx,h.goL hI hv hD n (by omega)]
theorem Spr.short(h:Spr f a R pos ah){B:Int}(hI:GInv f B)(ha:inP a){v:Int}(hv:R v)(hne:v≠a):
  ∃D,1≤D∧D≤15∧itr ah D v=a∧(∀j,j≤D→inP (itr ah j v))∧(∀i j,i<j→j≤D→itr ah i v≠itr ah j v)∧aAr f a v=aEv ah v (D+1):=by
 obtain⟨D,d1,d2⟩:=h.depth _ v hv rfl;have hch:=h.chain hv d2
 have hD0:1≤D:=by
  rcases Nat.eq_zero_or_pos D with h0|h0
  ·subst h0;exact absurd d1 hne
  exact h0
 have hwa:wk f D a v:=by rw[←d1];exact(hch D yL).2.1
 have hleast:∀m,m<D→¬wk f m a v:=by
  intro m hm hw;obtain⟨b1,b2⟩:=h.back m a v hw h.ra (fun j hj=>d2 j (by omega));rw[h.pa]at b2;exact d2 m hm (h.inj _ _ b1 h.ra (by rw[h.pa];omega))
 obtain⟨k,k1,k2⟩:=wk_short hI D hwa
 have hD15:D≤15:=by
  rcases Nat.lt_or_ge k D with q|q
  ·exact absurd k2 (hleast k q)
  omega
 have hin:inS f a D v=true:=(aA6 hI a D v).2 ⟨D,Nat.le_refl _,hwa⟩
 have hdst:dst f a v=D:=by
  refine aL0 (by omega) hin fun m hm=>?_
  cases hc:inS f a m v with
  | false=>rfl
  | true=>
   obtain⟨j,j1,j2⟩:=(aA6 hI a m v).1 hc;exact absurd j2 (hleast j (by omega))
 refine⟨D,hD0,hD15,d1,fun j hj=>h.inp _ (hch j hj).1,fun i j hij hj e=>?_,?_⟩
 ·have:=(hch j hj).2.2 i hij;rw[e]at this;omega
 unfold aAr;rw[if_pos ⟨ha,h.inp v hv,fun e=>hne e.symm,aD3 (by omega) hin⟩,hdst];have:=h.goL hI hv d2 D yL;rw[d1]at this;exact this
theorem Spr.no(h:Spr f a R pos ah){B:Int}(hI:GInv f B){v:Int}(hv:¬R v):aAr f a v=[]:=by
 unfold aAr;rw[if_neg];rintro⟨_,_,_,hr⟩;obtain⟨m,_,hw⟩:=(aA6 hI a 16 v).1 hr;exact hv (h.reach m a v hw h.ra)
structure BfsI(f:Int→Int→Int)(a:Int)(x:Nat→Int)(pa:Nat→Nat)(n:Nat)(b:Int→Bool)(ah:Int→Int)(k:Nat)(c:Int):Prop where
 n1:1≤n
 x0:x 0=a
 inp:∀i,i<n→inP (x i)
 inj:∀i j,i<n→j<n→x i=x j→i=j
 came:∀p,b p=true↔∃i,i<n∧x i=p
 aha:ah a=0
 ah0:∀p,b p=false→ah p=0
 par:∀j,1≤j→j<n→pa j<j∧(pa j<k∨(pa j=k∧x j<c))∧ah (x j)=x (pa j)∧0<f (x (pa j)) (x j)
 mono:∀i j,1≤i→i<j→j<n→pa i<pa j∨(pa i=pa j∧x i<x j)
 cl:∀i w,i<n→(i<k∨(i=k∧w<c))→0<f (x i) w→∃j,j<n∧x j=w∧(j=0∨pa j≤i)
theorem BfsI.start(f:Int→Int→Int){a:Int}(ha:inP a){B:Int}(hI:GInv f B):BfsI f a (fun _=>a) (fun _=>0) 1 (fun q=>if q=a then true else false) (fun _=>0) 0 1:=by
 refine⟨Nat.le_refl _,rfl,fun _ _=>ha,fun i j hi hj _=>by omega,fun p=>?_,rfl,fun _ _=>rfl,fun j h1 h2=>by omega,fun i j h1 h2 h3=>by omega,fun i w hi h1 h2=>?_⟩
 ·show(if p=a then true else false)=true↔_
  constructor
  ·intro h
   by_cases hp:p=a
   ·exact⟨0,by omega,hp.symm⟩
   rw[if_neg hp]at h;cases h
  rintro⟨i,_,hi⟩;rw[if_pos hi.symm]
 have:=(hI.ends h2).2.1;unfold inP at this;omega
variable{x:Nat→Int}{pa:Nat→Nat}{n:Nat}{b:Int→Bool}{k:Nat}{c:Int}
theorem BfsI.len(h:BfsI f a x pa n b ah k c):n≤16:=by
 rcases Nat.lt_or_ge 16 n with hn|hn
 ·obtain⟨i,j,c1,c2,c3⟩:=pigeon 16 (fun i=>(x i).toNat - 1) (fun i hi=>by
   have:=h.inp i (by omega);unfold inP at this
   try dsimp only
   omega)
  have q1:=h.inp i (by omega);have q2:=h.inp j (by omega);unfold inP at q1 q2
  have:=h.inj i j (by omega) (by omega) (by
                        try dsimp only at c3
                        omega)
  omega
 exact hn
theorem BfsI.skip(h:BfsI f a x pa n b ah k c)(hk:k<n)(hc:b c=true∨f (x k) c≤0):BfsI f a x pa n b ah k (c+1):=by
 refine⟨h.n1,h.x0,h.inp,h.inj,h.came,h.aha,h.ah0,fun j h1 h2=>?_,h.mono,fun i w hi h1 h2=>?_⟩
 ·obtain⟨p1,p2,p3⟩:=h.par j h1 h2;exact⟨p1,by omega,p3⟩
 by_cases hw:i=k∧w=c
 ·obtain⟨rfl,rfl⟩:=hw;rcases hc with hc|hc
  ·obtain⟨j,j1,j2⟩:=(h.came w).1 hc;refine⟨j,j1,j2,?_⟩;rcases Nat.eq_zero_or_pos j with h0|h0
   ·exact .inl h0
   have:=(h.par j h0 j1).2.1;omega
  omega
 exact h.cl i w hi (by omega) h2
theorem BfsI.add(h:BfsI f a x pa n b ah k c)(hk:k<n)(hb:b c=false)(hc:0<f (x k) c)(hp:inP c):
  BfsI f a (fun i=>if i=n then c else x i) (fun i=>if i=n then k else pa i) (n+1) (fun q=>if q=c then true else b q) (upI ah c (x k)) k (c+1):=by
 have hnew:∀i,i<n→x i≠c:=fun i hi e=>by
  have:=(h.came c).2 ⟨i,hi,e⟩;rw[hb]at this;cases this
 have hx:∀i,i<n→(if i=n then c else x i)=x i:=fun i hi=>if_neg (by omega)
 have hpa:∀i,i<n→(if i=n then k else pa i)=pa i:=fun i hi=>if_neg (by omega)
 have hxn:(if n=n then c else x n)=c:=if_pos rfl;have hpn:(if n=n then k else pa n)=k:=if_pos rfl;refine⟨by omega,?_,?_,?_,?_,?_,?_,?_,?_,?_⟩
 ·exact(hx 0 h.n1).trans h.x0
 ·intro i hi;show inP (if i=n then c else x i)
  by_cases e:i=n
  ·rw[if_pos e];exact hp
  rw[if_neg e];exact h.inp i (by omega)
 ·intro i j hi hj e
  try dsimp only at e
  by_cases e1:i=n
  ·by_cases e2:j=n
   ·omega
   rw[if_pos e1,if_neg e2]at e;exact absurd e.symm (hnew j (by omega))
  by_cases e2:j=n
  ·rw[if_neg e1,if_pos e2]at e;exact absurd e (hnew i (by omega))
  rw[if_neg e1,if_neg e2]at e;exact h.inj i j (by omega) (by omega) e
 ·intro p;show(if p=c then true else b p)=true↔∃i,i<n+1∧(if i=n then c else x i)=p
  by_cases e:p=c
  ·rw[if_pos e];exact⟨fun _=>⟨n,by omega,by rw[hxn,e]⟩,fun _=>rfl⟩
  rw[if_neg e]
  constructor
  ·intro hh;obtain⟨i,i1,i2⟩:=(h.came p).1 hh;exact⟨i,by omega,by rw[hx i i1];exact i2⟩
  rintro⟨i,i1,i2⟩
  by_cases ei:i=n
  ·rw[if_pos ei]at i2;exact absurd i2.symm e
  rw[if_neg ei]at i2;exact(h.came p).2 ⟨i,by omega,i2⟩
 ·have:a≠c:=fun e=>hnew 0 h.n1 (h.x0.trans e)
  rw[aD8 _ this];exact h.aha
 ·intro p hp0
  try dsimp only at hp0
  by_cases e:p=c
  ·rw[if_pos e]at hp0;cases hp0
  rw[if_neg e]at hp0;rw[aD8 _ e];exact h.ah0 p hp0
 ·intro j h1 h2;show(if j=n then k else pa j)<j∧((if j=n then k else pa j)<k∨((if j=n then k else pa j)=k∧(if j=n then c else x j)<c+1))∧upI ah c (x k) (if j=n then c else x j)=(if(if j=n then k else pa j)=n then c else x (if j=n then k else pa j))∧0<f (if(if j=n then k else pa j)=n then c else x (if j=n then k else pa j)) (if j=n then c else x j)
  by_cases e:j=n
  ·subst e;rw[hxn,hpn,hx k hk,aDb];exact⟨hk,by omega,rfl,hc⟩
  have hj:j<n:=by omega
  obtain⟨p1,p2,p3,p4⟩:=h.par j h1 hj;rw[hx j hj,hpa j hj,hx _ (by omega),aD8 _ (hnew j hj)];exact⟨p1,by omega,p3,p4⟩
 ·intro i j h1 h2 h3;show(if i=n then k else pa i)<(if j=n then k else pa j)∨((if i=n then k else pa i)=(if j=n then k else pa j)∧(if i=n then c else x i)<(if j=n then c else x j));have hi:i<n:=by omega
  rw[hx i hi,hpa i hi]
  by_cases e:j=n
  ·subst e;rw[hxn,hpn];have:=(h.par i h1 hi).2.1;omega
  have hj:j<n:=by omega
  rw[hx j hj,hpa j hj];exact h.mono i j h1 h2 hj
 intro i w hi h1 h2
 try dsimp only at h2 ⊢
 by_cases e:i=n
 ·omega
 rw[if_neg e]at h2
 by_cases hw:i=k∧w=c
 ·refine⟨n,by omega,by rw[hxn];exact hw.2.symm,.inr ?_⟩;rw[hpn];omega
 obtain⟨j,j1,j2,j3⟩:=h.cl i w (by omega) (by omega) h2;exact⟨j,by omega,by rw[hx j j1];exact j2,by rw[hpa j j1];exact j3⟩
theorem BfsI.next(h:BfsI f a x pa n b ah k 17){B:Int}(hI:GInv f B):BfsI f a x pa n b ah (k+1) 1:=by
 refine⟨h.n1,h.x0,h.inp,h.inj,h.came,h.aha,h.ah0,fun j h1 h2=>?_,h.mono,fun i w hi h1 h2=>?_⟩
 ·obtain⟨p1,p2,p3⟩:=h.par j h1 h2;exact⟨p1,by omega,p3⟩
 have hw:=(hI.ends h2).2.1;unfold inP at hw;exact h.cl i w hi (by omega) h2
def posB(x:Nat→Int)(n:Nat)(p:Int):Nat:=((List.range n).find? fun i=>x i==p).getD 0
theorem BfsI.place(h:BfsI f a x pa n b ah k c){i:Nat}(hi:i<n):posB x n (x i)=i:=by
 unfold posB
 have:(List.range n).find? (fun j=>x j==x i)=some i:=by
  rw[List.find?_eq_some_iff_getElem];refine⟨by simp,i,by simpa using hi,by simp,fun j hj=>?_⟩;have:x j≠x i:=fun e=>by have:=h.inj j i (by omega) hi e;omega
  simpa using this
 rw[this];rfl
theorem BfsI.done(h:BfsI f a x pa n b ah n 1){B:Int}(hI:GInv f B):Spr f a (fun p=>b p=true) (posB x n) ah:=by
 have idx:∀q,b q=true→q≠a→∃j,1≤j∧j<n∧x j=q:=by
  intro q hq hqa;obtain⟨j,j1,j2⟩:=(h.came q).1 hq;refine⟨j,?_,j1,j2⟩;rcases Nat.eq_zero_or_pos j with h0|h0
  ·subst h0;exact absurd (j2.symm.trans h.x0) hqa
  exact h0
 refine⟨(h.came a).2 ⟨0,h.n1,h.x0⟩,?_,?_,?_,?_,?_,?_,?_⟩
 ·have:=h.place h.n1
  rwa [h.x0]at this
 ·intro p q hp hq e;obtain⟨i,i1,rfl⟩:=(h.came p).1 hp;obtain⟨j,j1,rfl⟩:=(h.came q).1 hq;rw[h.place i1,h.place j1]at e;rw[e]
 ·intro p hp;obtain⟨i,i1,rfl⟩:=(h.came p).1 hp;exact h.inp i i1
 ·intro q hq hqa;obtain⟨j,j0,j1,rfl⟩:=idx q hq hqa;obtain⟨p1,p2,p3,p4⟩:=h.par j j0 j1;rw[p3];refine⟨(h.came _).2 ⟨pa j,by omega,rfl⟩,p4,?_⟩;rw[h.place j1,h.place (show pa j<n by omega)];exact p1
 ·intro p q hp h0;obtain⟨i,i1,rfl⟩:=(h.came p).1 hp;obtain⟨j,j1,rfl,j3⟩:=h.cl i q i1 (by omega) h0;refine⟨(h.came _).2 ⟨j,j1,rfl⟩,?_⟩;rcases j3 with j3|j3
  ·left;subst j3;exact h.x0
  rcases Nat.eq_zero_or_pos j with j0|j0
  ·left;subst j0;exact h.x0
  right
  rw[(h.par j j0 j1).2.2.1,h.place i1,h.place (show pa j<n by have:=(h.par j j0 j1).1;omega)];exact j3
 ·intro p q hp hq hpa hqa hle;obtain⟨i,i0,i1,rfl⟩:=idx p hp hpa;obtain⟨j,j0,j1,rfl⟩:=idx q hq hqa;have pi:=h.par i i0 i1;have pj:=h.par j j0 j1;rw[h.place i1,h.place j1]at hle;rw[pi.2.2.1,pj.2.2.1,h.place (show pa i<n by omega),h.place (show pa j<n by omega)]
  by_cases e:i=j
  ·subst e;exact Nat.le_refl _
  have:=h.mono i j i0 (by omega) j1;omega
 intro p q hp hq hpa hqa e hlt;obtain⟨i,i0,i1,rfl⟩:=idx p hp hpa;obtain⟨j,j0,j1,rfl⟩:=idx q hq hqa;have pi:=h.par i i0 i1;have pj:=h.par j j0 j1;rw[pi.2.2.1,pj.2.2.1]at e;have he:=h.inj _ _ (show pa i<n by omega) (show pa j<n by omega) e;rw[h.place i1,h.place j1];rcases Nat.lt_or_ge i j with q1|q1
 ·exact q1
 by_cases e2:i=j
 ·subst e2;omega
 have:=h.mono j i j0 (by omega) i1;omega
def qL(x:Nat→Int)(k n:Nat):List Int:=(List.range (n - k)).map fun i=>x (k+i)
theorem qL_len(x:Nat→Int)(k n:Nat):(qL x k n).length=n - k:=by simp[qL]
theorem aNr(x:Nat→Int){k n:Nat}(h:k<n):qL x k n=x k::qL x (k+1) n:=by
 unfold qL;rw[show n - k=(n - (k+1))+1 by omega,List.range_succ_eq_map];simp only[List.map_cons,List.map_map,Nat.add_zero,List.cons.injEq,true_and];refine List.map_congr_left fun i _=>?_
 show x (k+(i+1))=x (k+1+i);rw[Nat.add_right_comm,Nat.add_assoc]
theorem qL_add(x:Nat→Int){k n:Nat}(h:k≤n)(c:Int):qL (fun i=>if i=n then c else x i) k (n+1)=qL x k n++[c]:=by
 unfold qL;rw[show n+1 - k=(n - k)+1 by omega,List.range_succ,List.map_append];congr 1
 ·refine List.map_congr_left fun i hi=>?_
  have:=List.mem_range.1 hi
  try dsimp only
  rw[if_neg (by omega)]
 simp only[List.map_cons,List.map_nil];rw[if_pos (by omega)]
end Go.Proofs.YtaeocliklpcgmaaGreat
namespace Go.Proofs.YtaeocliklpcgmaaGreat
open Go.RowKit
def ahA(g:Int→Int):Array Value:=rowA (fun _ q=>.int .u8 (g q)) 0
theorem aEl(g:Int→Int):(ahA g).size=17:=aDp _ _
theorem aKx(g:Int→Int){i:Nat}(h:i<17):(ahA g)[i]? = some (.int .u8 (g i)):=aFn _ _ h
theorem ahA_set(g:Int→Int){i:Nat}(hi:i<17)(n:Int):(ahA g).setIfInBounds i (.int .u8 n)=ahA (upI g i n):=by
 unfold ahA;rw[rowA_set _ _ hi];refine aJ2 fun j hj=>?_
 unfold upI
 try dsimp only
 split <;> rfl
theorem Blk.ahAt{w:World}{g:Nat}{l:Int→Int}{t:TypeId}(h:Blk w g (ahA l) t){p:Int}(h0:0≤p)(h1:p<17):w.cell? ⟨g,p.toNat,none⟩=some (.int .u8 (l p)):=by
 rw[h.cell,aKx l (by omega),Int.toNat_of_nonneg h0]
theorem Blk.ahSet{w:World}{g:Nat}{l:Int→Int}{t:TypeId}(h:Blk w g (ahA l) t){p:Int}(h0:0≤p)(h1:p<17)(n:Int):Blk (w.setCell ⟨g,p.toNat,none⟩ (.int .u8 n)) g (ahA (upI l p n)) t:=by
 have:=h.set p.toNat (.int .u8 n);rw[ahA_set l (by omega),Int.toNat_of_nonneg h0]at this;exact this
end Go.Proofs.YtaeocliklpcgmaaGreat
