/- Pieces of one proof. -/
import Derived.Test.YtngnfdnfpiiclaaGreatO03
import Derived.Deep.AppendSrc
import Derived.Deep.LoopGhost
set_option linter.all false
set_option maxHeartbeats 64000000
set_option maxRecDepth 100000
namespace Go.Proofs.YtngnfdnfpiiclaaGreat
open Go.RowKit
structure Spr(f:Int→Int→Int)(a:Int)(R:Int→Prop)(pos:Int→Nat)(ah:Int→Int):Prop where
 ra:R a
 pa:pos a=0
 inj:∀p q,R p→R q→pos p=pos q→p=q
 inp:∀p,R p→inP p
 par:∀q,R q→q≠a→R (ah q)∧0<f (ah q) q∧pos (ah q)<pos q
 cl:∀p q,R p→0<f p q→R q∧(q=a∨pos (ah q)≤pos p)
 mono:∀p q,R p→R q→p≠a→q≠a→pos p≤pos q→pos (ah p)≤pos (ah q)
 sib:∀p q,R p→R q→p≠a→q≠a→ah p=ah q→p<q→pos p<pos q
variable{f:Int→Int→Int}{a:Int}{R:Int→Prop}{pos:Int→Nat}{ah:Int→Int}
theorem Spr.reach(h:Spr f a R pos ah):∀(m:Nat) (y v:Int),wk f m y v→R y→R v
 | 0,y,v,hw,hy=>by
  have:y=v:=hw;subst this;exact hy
 | m+1,y,v,⟨r,h1,h2⟩,hy=>h.reach m r v h2 (h.cl y r hy h1).1
theorem Spr.back(h:Spr f a R pos ah):∀(m:Nat) (y v:Int),wk f m y v→R y→(∀j,j<m→itr ah j v≠a)→R (itr ah m v)∧pos (itr ah m v)≤pos y
 | 0,y,v,hw,hy,_=>by
  have:y=v:=hw;subst this;exact⟨hy,Nat.le_refl _⟩
 | m+1,y,v,⟨r,h1,h2⟩,hy,hn=>by
  obtain⟨c1,c2⟩:=h.cl y r hy h1;obtain⟨i1,i2⟩:=h.back m r v h2 c1 (fun j hj=>hn j (by omega));have ne:=hn m (by omega)
  have hr:r≠a:=by
   rintro rfl;rw[h.pa]at i2;exact ne (h.inj _ _ i1 h.ra (by rw[h.pa];omega))
  rw[aCr];refine⟨(h.par _ i1 ne).1,?_⟩;have:=h.mono _ _ i1 c1 ne hr i2;rcases c2 with c2|c2
  ·exact absurd c2 hr
  omega
theorem Spr.depth(h:Spr f a R pos ah):∀(n:Nat) (v:Int),R v→pos v=n→∃D,itr ah D v=a∧∀j,j<D→itr ah j v≠a:=by
 intro n
 induction n using Nat.strongRecOn with
 | _ n ih=>
  intro v hv hn
  by_cases hva:v=a
  ·exact⟨0,hva,fun j hj=>by omega⟩
  obtain⟨p1,p2,p3⟩:=h.par v hv hva;obtain⟨D,d1,d2⟩:=ih _ (by omega) (ah v) p1 rfl;refine⟨D+1,d1,fun j hj=>?_⟩
  match j,hj with
  | 0,_=>exact hva
  | j+1,hj=>exact d2 j (by omega)
theorem Spr.chain(h:Spr f a R pos ah){v:Int}(hv:R v){D:Nat}(hD:∀j,j<D→itr ah j v≠a):∀j,j≤D→R (itr ah j v)∧wk f j (itr ah j v) v∧∀i,i<j→pos (itr ah j v)<pos (itr ah i v)
 | 0,_=>⟨hv,rfl,fun i hi=>by omega⟩
 | j+1,hj=>by
  obtain⟨i1,i2,i3⟩:=h.chain hv hD j (by omega);obtain⟨p1,p2,p3⟩:=h.par _ i1 (hD j (by omega));rw[aCr];refine⟨p1,⟨_,p2,i2⟩,fun i hi=>?_⟩
  by_cases hij:i=j
  ·subst hij;exact p3
  have:=i3 i (by omega);omega
def aEo(ah:Int→Int)(v:Int)(n:Nat):List Int:=((List.range n).map fun i=>itr ah i v).reverse
theorem chainL_len(ah:Int→Int)(v:Int)(n:Nat):(aEo ah v n).length=n:=by simp[aEo]
theorem aNa(ah:Int→Int)(v:Int)(n:Nat):aEo ah v (n+1)=itr ah n v::aEo ah v n:=by
 unfold aEo;rw[List.range_succ,List.map_append,List.reverse_append];rfl
theorem Spr.goL(h:Spr f a R pos ah){B:Int}(hI:GInv f B){v:Int}(hv:R v){D:Nat}(hD:∀j,j<D→itr ah j v≠a):∀n,n≤D→goS f v n (itr ah n v)=aEo ah v (n+1)
 | 0,_=>rfl
 | n+1,hn=>by
  obtain⟨c1,c2,c3⟩:=h.chain hv hD (n+1) hn;obtain⟨e1,e2,e3⟩:=h.chain hv hD n (by omega);obtain⟨p1,p2,p3⟩:=h.par _ e1 (hD n (by omega));rw[aNa]
  have hx:nxt f v n (itr ah (n+1) v)=itr ah n v:=by
   unfold nxt;rw[aCr];rw[parts_find (x:=itr ah n v) (h.inp _ e1)]
   ·rfl
   ·rw[Bool.and_eq_true,decide_eq_true_eq];exact⟨p2,(aBb hI _ n v).2 ⟨n,Nat.le_refl _,e2⟩⟩
   intro y hy hlt
   cases hc:(decide (0<f (ah (itr ah n v)) y) && inS f y n v)with
   | false=>rfl
   | true=>
    rw[Bool.and_eq_true,decide_eq_true_eq]at hc;obtain⟨k1,k2⟩:=hc;obtain⟨m,hm,hw⟩:=(aBb hI y n v).1 k2;obtain⟨y1,y2⟩:=h.cl _ y p1 k1;obtain⟨b1,b2⟩:=h.back m y v hw y1 (fun j hj=>hD j (by omega))
    have hle:pos (itr ah n v)≤pos (itr ah m v):=by
     by_cases hmn:m=n
     ·subst hmn;exact Nat.le_refl _
     have:=e3 m (by omega);omega
    have hya:y≠a:=by
     rintro rfl;rw[h.pa]at b2;exact hD n (by omega) (h.inj _ _ e1 h.ra (by rw[h.pa];omega))
    exfalso;rcases y2 with y2|y2
    ·exact hya y2
    rcases Nat.lt_or_ge (pos (ah y)) (pos (ah (itr ah n v)))with q|q
    ·rcases Nat.lt_or_ge (pos y) (pos (itr ah n v))with q2|q2
     ·omega
     have:=h.mono _ _ e1 y1 (hD n (by omega)) hya q2;omega
    have hp:=(h.par y y1 hya).1;have he:=h.inj _ _ hp p1 (by omega);have:=h.sib y _ y1 e1 hya (hD n (by omega)) he hlt;omega
  show itr ah (n+1) v::goS f v n (nxt f v n (itr ah (n+1) v))=_;rw[hx,h.goL hI hv hD n (by omega)]
theorem Spr.short(h:Spr f a R pos ah){B:Int}(hI:GInv f B)(ha:inP a){v:Int}(hv:R v)(hne:v≠a):
  ∃D,1≤D∧D≤15∧itr ah D v=a∧(∀j,j≤D→inP (itr ah j v))∧(∀i j,i<j→j≤D→itr ah i v≠itr ah j v)∧aAz f a v=aEo ah v (D+1):=by
 obtain⟨D,d1,d2⟩:=h.depth _ v hv rfl;have hch:=h.chain hv d2
 have hD0:1≤D:=by
  rcases Nat.eq_zero_or_pos D with h0|h0
  ·subst h0;exact absurd d1 hne
  exact h0
 have hwa:wk f D a v:=by rw[←d1];exact(hch D yL).2.1
 have hleast:∀m,m<D→¬wk f m a v:=by
  intro m hm hw;obtain⟨b1,b2⟩:=h.back m a v hw h.ra (fun j hj=>d2 j (by omega));rw[h.pa]at b2;exact d2 m hm (h.inj _ _ b1 h.ra (by rw[h.pa];omega))
 obtain⟨k,k1,k2⟩:=wk_short hI D hwa
 have hD15:D≤15:=by
  rcases Nat.lt_or_ge k D with q|q
  ·exact absurd k2 (hleast k q)
  omega
 have hin:inS f a D v=true:=(aBb hI a D v).2 ⟨D,Nat.le_refl _,hwa⟩
 have hdst:dst f a v=D:=by
  refine aLo (by omega) hin fun m hm=>?_
  cases hc:inS f a m v with
  | false=>rfl
  | true=>
   obtain⟨j,j1,j2⟩:=(aBb hI a m v).1 hc;exact absurd j2 (hleast j (by omega))
 refine⟨D,hD0,hD15,d1,fun j hj=>h.inp _ (hch j hj).1,fun i j hij hj e=>?_,?_⟩
 ·have:=(hch j hj).2.2 i hij;rw[e]at this;omega
 unfold aAz;rw[if_pos ⟨ha,h.inp v hv,fun e=>hne e.symm,aDu (by omega) hin⟩,hdst];have:=h.goL hI hv d2 D yL;rw[d1]at this;exact this
theorem Spr.no(h:Spr f a R pos ah){B:Int}(hI:GInv f B){v:Int}(hv:¬R v):aAz f a v=[]:=by
 unfold aAz;rw[if_neg];rintro⟨_,_,_,hr⟩;obtain⟨m,_,hw⟩:=(aBb hI a 16 v).1 hr;exact hv (h.reach m a v hw h.ra)
structure BfsI(f:Int→Int→Int)(a:Int)(x:Nat→Int)(pa:Nat→Nat)(n:Nat)(b:Int→Bool)(ah:Int→Int)(k:Nat)(c:Int):Prop where
 n1:1≤n
 x0:x 0=a
 inp:∀i,i<n→inP (x i)
 inj:∀i j,i<n→j<n→x i=x j→i=j
 came:∀p,b p=true↔∃i,i<n∧x i=p
 aha:ah a=0
 ah0:∀p,b p=false→ah p=0
 par:∀j,1≤j→j<n→pa j<j∧(pa j<k∨(pa j=k∧x j<c))∧ah (x j)=x (pa j)∧0<f (x (pa j)) (x j)
 mono:∀i j,1≤i→i<j→j<n→pa i<pa j∨(pa i=pa j∧x i<x j)
 cl:∀i w,i<n→(i<k∨(i=k∧w<c))→0<f (x i) w→∃j,j<n∧x j=w∧(j=0∨pa j≤i)
theorem BfsI.start(f:Int→Int→Int){a:Int}(ha:inP a){B:Int}(hI:GInv f B):BfsI f a (fun _=>a) (fun _=>0) 1 (fun q=>if q=a then true else false) (fun _=>0) 0 1:=by
 refine⟨Nat.le_refl _,rfl,fun _ _=>ha,fun i j hi hj _=>by omega,fun p=>?_,rfl,fun _ _=>rfl,fun j h1 h2=>by omega,fun i j h1 h2 h3=>by omega,fun i w hi h1 h2=>?_⟩
 ·show(if p=a then true else false)=true↔_
  constructor
  ·intro h
   by_cases hp:p=a
   ·exact⟨0,by omega,hp.symm⟩
   rw[if_neg hp]at h;cases h
  rintro⟨i,_,hi⟩;rw[if_pos hi.symm]
 have:=(hI.ends h2).2.1;unfold inP at this;omega
variable{x:Nat→Int}{pa:Nat→Nat}{n:Nat}{b:Int→Bool}{k:Nat}{c:Int}
theorem BfsI.len(h:BfsI f a x pa n b ah k c):n≤16:=by
 rcases Nat.lt_or_ge 16 n with hn|hn
 ·obtain⟨i,j,c1,c2,c3⟩:=pigeon 16 (fun i=>(x i).toNat - 1) (fun i hi=>by
   have:=h.inp i (by omega);unfold inP at this
   try dsimp only
   omega)
  have q1:=h.inp i (by omega);have q2:=h.inp j (by omega);unfold inP at q1 q2
  have:=h.inj i j (by omega) (by omega) (by
                        try dsimp only at c3
                        omega)
  omega
 exact hn
theorem BfsI.skip(h:BfsI f a x pa n b ah k c)(hk:k<n)(hc:b c=true∨f (x k) c≤0):BfsI f a x pa n b ah k (c+1):=by
 refine⟨h.n1,h.x0,h.inp,h.inj,h.came,h.aha,h.ah0,fun j h1 h2=>?_,h.mono,fun i w hi h1 h2=>?_⟩
 ·obtain⟨p1,p2,p3⟩:=h.par j h1 h2;exact⟨p1,by omega,p3⟩
 by_cases hw:i=k∧w=c
 ·obtain⟨rfl,rfl⟩:=hw;rcases hc with hc|hc
  ·obtain⟨j,j1,j2⟩:=(h.came w).1 hc;refine⟨j,j1,j2,?_⟩;rcases Nat.eq_zero_or_pos j with h0|h0
   ·exact .inl h0
   have:=(h.par j h0 j1).2.1;omega
  omega
 exact h.cl i w hi (by omega) h2
theorem BfsI.add(h:BfsI f a x pa n b ah k c)(hk:k<n)(hb:b c=false)(hc:0<f (x k) c)(hp:inP c):
  BfsI f a (fun i=>if i=n then c else x i) (fun i=>if i=n then k else pa i) (n+1) (fun q=>if q=c then true else b q) (upI ah c (x k)) k (c+1):=by
 have hnew:∀i,i<n→x i≠c:=fun i hi e=>by
  have:=(h.came c).2 ⟨i,hi,e⟩;rw[hb]at this;cases this
 have hx:∀i,i<n→(if i=n then c else x i)=x i:=fun i hi=>if_neg (by omega)
 have hpa:∀i,i<n→(if i=n then k else pa i)=pa i:=fun i hi=>if_neg (by omega)
 have hxn:(if n=n then c else x n)=c:=if_pos rfl;have hpn:(if n=n then k else pa n)=k:=if_pos rfl;refine⟨by omega,?_,?_,?_,?_,?_,?_,?_,?_,?_⟩
 ·exact(hx 0 h.n1).trans h.x0
 ·intro i hi;show inP (if i=n then c else x i)
  by_cases e:i=n
  ·rw[if_pos e];exact hp
  rw[if_neg e];exact h.inp i (by omega)
 ·intro i j hi hj e
  try dsimp only at e
  by_cases e1:i=n
  ·by_cases e2:j=n
   ·omega
   rw[if_pos e1,if_neg e2]at e;exact absurd e.symm (hnew j (by omega))
  by_cases e2:j=n
  ·rw[if_neg e1,if_pos e2]at e;exact absurd e (hnew i (by omega))
  rw[if_neg e1,if_neg e2]at e;exact h.inj i j (by omega) (by omega) e
 ·intro p;show(if p=c then true else b p)=true↔∃i,i<n+1∧(if i=n then c else x i)=p
  by_cases e:p=c
  ·rw[if_pos e];exact⟨fun _=>⟨n,by omega,by rw[hxn,e]⟩,fun _=>rfl⟩
  rw[if_neg e]
  constructor
  ·intro hh;obtain⟨i,i1,i2⟩:=(h.came p).1 hh;exact⟨i,by omega,by rw[hx i i1];exact i2⟩
  rintro⟨i,i1,i2⟩
  by_cases ei:i=n
  ·rw[if_pos ei]at i2;exact absurd i2.symm e
  rw[if_neg ei]at i2;exact(h.came p).2 ⟨i,by omega,i2⟩
 ·have:a≠c:=fun e=>hnew 0 h.n1 (h.x0.trans e)
  rw[aDz _ this];exact h.aha
 ·intro p hp0
  try dsimp only at hp0
  by_cases e:p=c
  ·rw[if_pos e]at hp0;cases hp0
  rw[if_neg e]at hp0;rw[aDz _ e];exact h.ah0 p hp0
 ·intro j h1 h2;show(if j=n then k else pa j)<j∧((if j=n then k else pa j)<k∨((if j=n then k else pa j)=k∧(if j=n then c else x j)<c+1))∧upI ah c (x k) (if j=n then c else x j)=(if(if j=n then k else pa j)=n then c else x (if j=n then k else pa j))∧0<f (if(if j=n then k else pa j)=n then c else x (if j=n then k else pa j)) (if j=n then c else x j)
  by_cases e:j=n
  ·subst e;rw[hxn,hpn,hx k hk,aDc];exact⟨hk,by omega,rfl,hc⟩
  have hj:j<n:=by omega
  obtain⟨p1,p2,p3,p4⟩:=h.par j h1 hj;rw[hx j hj,hpa j hj,hx _ (by omega),aDz _ (hnew j hj)];exact⟨p1,by omega,p3,p4⟩
 ·intro i j h1 h2 h3;show(if i=n then k else pa i)<(if j=n then k else pa j)∨((if i=n then k else pa i)=(if j=n then k else pa j)∧(if i=n then c else x i)<(if j=n then c else x j));have hi:i<n:=by omega
  rw[hx i hi,hpa i hi]
  by_cases e:j=n
  ·subst e;rw[hxn,hpn];have:=(h.par i h1 hi).2.1;omega
  have hj:j<n:=by omega
  rw[hx j hj,hpa j hj];exact h.mono i j h1 h2 hj
 intro i w hi h1 h2
 try dsimp only at h2 ⊢
 by_cases e:i=n
 ·omega
 rw[if_neg e]at h2
 by_cases hw:i=k∧w=c
 ·refine⟨n,by omega,by rw[hxn];exact hw.2.symm,.inr ?_⟩;rw[hpn];omega
 obtain⟨j,j1,j2,j3⟩:=h.cl i w (by omega) (by omega) h2;exact⟨j,by omega,by rw[hx j j1];exact j2,by rw[hpa j j1];exact j3⟩
theorem BfsI.next(h:BfsI f a x pa n b ah k 17){B:Int}(hI:GInv f B):BfsI f a x pa n b ah (k+1) 1:=by
 refine⟨h.n1,h.x0,h.inp,h.inj,h.came,h.aha,h.ah0,fun j h1 h2=>?_,h.mono,fun i w hi h1 h2=>?_⟩
 ·obtain⟨p1,p2,p3⟩:=h.par j h1 h2;exact⟨p1,by omega,p3⟩
 have hw:=(hI.ends h2).2.1;unfold inP at hw;exact h.cl i w hi (by omega) h2
def posB(x:Nat→Int)(n:Nat)(p:Int):Nat:=((List.range n).find? fun i=>x i==p).getD 0
theorem BfsI.place(h:BfsI f a x pa n b ah k c){i:Nat}(hi:i<n):posB x n (x i)=i:=by
 unfold posB
 have:(List.range n).find? (fun j=>x j==x i)=some i:=by
  rw[List.find?_eq_some_iff_getElem];refine⟨by simp,i,by simpa using hi,by simp,fun j hj=>?_⟩;have:x j≠x i:=fun e=>by have:=h.inj j i (by omega) hi e;omega
  simpa using this
 rw[this];rfl
theorem BfsI.done(h:BfsI f a x pa n b ah n 1){B:Int}(hI:GInv f B):Spr f a (fun p=>b p=true) (posB x n) ah:=by
 have idx:∀q,b q=true→q≠a→∃j,1≤j∧j<n∧x j=q:=by
  intro q hq hqa;obtain⟨j,j1,j2⟩:=(h.came q).1 hq;refine⟨j,?_,j1,j2⟩;rcases Nat.eq_zero_or_pos j with h0|h0
  ·subst h0;exact absurd (j2.symm.trans h.x0) hqa
  exact h0
 refine⟨(h.came a).2 ⟨0,h.n1,h.x0⟩,?_,?_,?_,?_,?_,?_,?_⟩
 ·have:=h.place h.n1
  rwa [h.x0]at this
 ·intro p q hp hq e;obtain⟨i,i1,rfl⟩:=(h.came p).1 hp;obtain⟨j,j1,rfl⟩:=(h.came q).1 hq;rw[h.place i1,h.place j1]at e;rw[e]
 ·intro p hp;obtain⟨i,i1,rfl⟩:=(h.came p).1 hp;exact h.inp i i1
 ·intro q hq hqa;obtain⟨j,j0,j1,rfl⟩:=idx q hq hqa;obtain⟨p1,p2,p3,p4⟩:=h.par j j0 j1;rw[p3];refine⟨(h.came _).2 ⟨pa j,by omega,rfl⟩,p4,?_⟩;rw[h.place j1,h.place (show pa j<n by omega)];exact p1
 ·intro p q hp h0;obtain⟨i,i1,rfl⟩:=(h.came p).1 hp;obtain⟨j,j1,rfl,j3⟩:=h.cl i q i1 (by omega) h0;refine⟨(h.came _).2 ⟨j,j1,rfl⟩,?_⟩;rcases j3 with j3|j3
  ·left;subst j3;exact h.x0
  rcases Nat.eq_zero_or_pos j with j0|j0
  ·left;subst j0;exact h.x0
  right
  rw[(h.par j j0 j1).2.2.1,h.place i1,h.place (show pa j<n by have:=(h.par j j0 j1).1;omega)];exact j3
 ·intro p q hp hq hpa hqa hle;obtain⟨i,i0,i1,rfl⟩:=idx p hp hpa;obtain⟨j,j0,j1,rfl⟩:=idx q hq hqa;have pi:=h.par i i0 i1;have pj:=h.par j j0 j1;rw[h.place i1,h.place j1]at hle;rw[pi.2.2.1,pj.2.2.1,h.place (show pa i<n by omega),h.place (show pa j<n by omega)]
  by_cases e:i=j
  ·subst e;exact Nat.le_refl _
  have:=h.mono i j i0 (by omega) j1;omega
 intro p q hp hq hpa hqa e hlt;obtain⟨i,i0,i1,rfl⟩:=idx p hp hpa;obtain⟨j,j0,j1,rfl⟩:=idx q hq hqa;have pi:=h.par i i0 i1;have pj:=h.par j j0 j1;rw[pi.2.2.1,pj.2.2.1]at e;have he:=h.inj _ _ (show pa i<n by omega) (show pa j<n by omega) e;rw[h.place i1,h.place j1];rcases Nat.lt_or_ge i j with q1|q1
 ·exact q1
 by_cases e2:i=j
 ·subst e2;omega
 have:=h.mono j i j0 (by omega) i1;omega
def qL(x:Nat→Int)(k n:Nat):List Int:=(List.range (n - k)).map fun i=>x (k+i)
theorem qL_len(x:Nat→Int)(k n:Nat):(qL x k n).length=n - k:=by simp[qL]
theorem aNb(x:Nat→Int){k n:Nat}(h:k<n):qL x k n=x k::qL x (k+1) n:=by
 unfold qL;rw[show n - k=(n - (k+1))+1 by omega,List.range_succ_eq_map];simp only[List.map_cons,List.map_map,Nat.add_zero,List.cons.injEq,true_and];refine List.map_congr_left fun i _=>?_
 show x (k+(i+1))=x (k+1+i);rw[Nat.add_right_comm,Nat.add_assoc]
theorem qL_add(x:Nat→Int){k n:Nat}(h:k≤n)(c:Int):qL (fun i=>if i=n then c else x i) k (n+1)=qL x k n++[c]:=by
 unfold qL;rw[show n+1 - k=(n - k)+1 by omega,List.range_succ,List.map_append];congr 1
 ·refine List.map_congr_left fun i hi=>?_
  have:=List.mem_range.1 hi
  try dsimp only
  rw[if_neg (by omega)]
 simp only[List.map_cons,List.map_nil];rw[if_pos (by omega)]
end Go.Proofs.YtngnfdnfpiiclaaGreat
namespace Go.Proofs.YtngnfdnfpiiclaaGreat
open Go.RowKit
def Ed.vals(e:Ed):List Value:=[.int .u8 e.fr,.int .u8 e.tt,.int .i8 e.co]
theorem Ed.vals_len(x:Ed):x.vals.length=3:=rfl
def aKk(ls:List Ed):List Value:=ls.flatMap Ed.vals
theorem aNc(ls:List Ed):(aKk ls).length=ls.length*3:=aE5 _ 3 Ed.vals_len ls
theorem aNd(ls:List Ed)(i j:Nat)(hj:j<3)(h:i<ls.length):(aKk ls)[i*3+j]? = ls[i].vals[j]? := by
 unfold aKk;rw[aD7 _ 3 Ed.vals_len ls i j hj,List.getElem?_eq_getElem h];rfl
structure Ed.Fits(x:Ed):Prop where
 fr:In8 x.fr
 tt:In8 x.tt
 co:-128≤x.co∧x.co≤127
def ahA(g:Int→Int):Array Value:=rowA (fun _ q=>.int .u8 (g q)) 0
theorem aEb(g:Int→Int):(ahA g).size=17:=aDn _ _
theorem aKl(g:Int→Int){i:Nat}(h:i<17):(ahA g)[i]? = some (.int .u8 (g i)):=aE8 _ _ h
theorem ahA_set(g:Int→Int){i:Nat}(hi:i<17)(n:Int):(ahA g).setIfInBounds i (.int .u8 n)=ahA (upI g i n):=by
 unfold ahA;rw[rowA_set _ _ hi];refine aJp fun j hj=>?_
 unfold upI
 try dsimp only
 split <;> rfl
theorem Blk.ahAt{w:World}{g:Nat}{l:Int→Int}{t:TypeId}(h:Blk w g (ahA l) t){p:Int}(h0:0≤p)(h1:p<17):w.cell? ⟨g,p.toNat,none⟩=some (.int .u8 (l p)):=by
 rw[h.cell,aKl l (by omega),Int.toNat_of_nonneg h0]
theorem Blk.ahSet{w:World}{g:Nat}{l:Int→Int}{t:TypeId}(h:Blk w g (ahA l) t){p:Int}(h0:0≤p)(h1:p<17)(n:Int):Blk (w.setCell ⟨g,p.toNat,none⟩ (.int .u8 n)) g (ahA (upI l p n)) t:=by
 have:=h.set p.toNat (.int .u8 n);rw[ahA_set l (by omega),Int.toNat_of_nonneg h0]at this;exact this
attribute [irreducible] ahA
theorem clipY_any{w:World}{base:Nat}{v:Value}{n:Nat}{xs:List Value}(h:w.ownsRow base 68 1 v n xs):
  Calls Tryz.prog 97 #[v] w (aF6 w base 68 1 n v xs):=by
 rcases h.2 with⟨rfl,h0⟩|⟨g,cap,cur,rfl,hbase,hb,h1,h2,h3,h4⟩
 ·subst h0;have hr:=aBc (P:=Tryz.prog) w 41 68 1 Tryz.underlying41 (Tryz.sizeOf68 w);have hx:=h.1;have hx2:=yH hx;clear h hx;go_enter Tryz.func97,Tryz.ntmps97;go_wp2;refine bodyPost_ret (v:=.slice none 0 0) (by simp[results,Tryz.results97,go_sem]) rfl ?_;exact⟨_,rfl,⟨hx2.out,.inl ⟨rfl,rfl⟩⟩,rfl,rfl⟩
 have hr:=aCe (P:=Tryz.prog) w 41 68 1 Tryz.underlying41 (Tryz.sizeOf68 w) g n cap h1;have HR:=yH (show aCz w base 68 1 (.slice (some ⟨g,0,none⟩) n n) n xs from⟨h.1,.inr ⟨g,cur,rfl,hbase,hb,by omega,by omega,h4⟩⟩);clear h hb h4 h3;unfold maxLen at h2;go_enter Tryz.func97,Tryz.ntmps97;go_wp2;refine bodyPost_ret (v:=.slice (some ⟨g,0,none⟩) n n) (by simp[results,Tryz.results97,go_sem]) rfl ?_;exact⟨_,rfl,HR.o,rfl,rfl⟩
def RowF(w:World)(g:Nat)(e:TypeId)(c n:Nat)(F:Nat→Int):Prop:=∃cur,Blk w g cur e∧cur.size=c∧n≤c∧∀p,p<n→cur[p]? = some (.int .u8 (F p))
theorem RowF.lt{w:World}{g:Nat}{e:TypeId}{c n:Nat}{F:Nat→Int}(h:RowF w g e c n F):g<w.heap.size:=by
 obtain⟨cur,h1,_⟩:=h;exact h1.lt
theorem RowF.cell{w:World}{g:Nat}{e:TypeId}{c n:Nat}{F:Nat→Int}(h:RowF w g e c n F){p:Nat}(hp:p<n):w.cell? ⟨g,p,none⟩=some (.int .u8 (F p)):=by
 obtain⟨cur,h1,_,_,h4⟩:=h;rw[h1.cell];exact h4 p hp
theorem RowF.frozen{w:World}{g:Nat}{e:TypeId}{c n:Nat}{F:Nat→Int}(h:RowF w g e c n F)(p:Nat):w.frozen? ⟨g,p,none⟩=false:=by
 obtain⟨cur,h1,_⟩:=h;exact h1.frozen p
theorem RowF.set{w:World}{g:Nat}{e:TypeId}{c n:Nat}{F:Nat→Int}(h:RowF w g e c n F){p:Nat}(hp:p<n)(u:Int):RowF (w.setCell ⟨g,p,none⟩ (.int .u8 u)) g e c n (fun q=>if q=p then u else F q):=by
 obtain⟨cur,h1,h2,h3,h4⟩:=h;refine⟨_,h1.set p (.int .u8 u),by simpa using h2,h3,fun q hq=>?_⟩
 by_cases e:q=p
 ·subst e;rw[Array.getElem?_setIfInBounds_self_of_lt (by omega)];simp
 rw[Array.getElem?_setIfInBounds_ne (fun h=>e h.symm),h4 q hq];simp[e]
theorem RowF.congr{w:World}{g:Nat}{e:TypeId}{c n:Nat}{F G:Nat→Int}(h:RowF w g e c n F)(hf:∀p,p<n→F p=G p):RowF w g e c n G:=by
 obtain⟨cur,h1,h2,h3,h4⟩:=h;exact⟨cur,h1,h2,h3,fun p hp=>by rw[←hf p hp];exact h4 p hp⟩
theorem RowF.drew{w:World}{g:Nat}{e:TypeId}{c n:Nat}{F:Nat→Int}(h:RowF w g e c n F):RowF w.drew g e c n F:=h
theorem RowF.owns{w:World}{g:Nat}{e:TypeId}{c n base:Nat}{F:Nat→Int}(h:RowF w g e c n F)(hb:base≤g)(hc:c≤maxLen){L:List Int}(hl:L.length=n)(hL:∀p (hp:p<L.length),L[p]=F p):
  w.ownsRow base e 1 (.slice (some ⟨g,0,none⟩) n c) n (L.map (.int .u8)):=by
 obtain⟨cur,h1,h2,h3,h4⟩:=h;refine⟨by simp[hl],.inr ⟨g,c,cur,rfl,hb,h1,h3,hc,by omega,?_⟩⟩;apply List.ext_getElem?;intro p
 by_cases hp:p<n
 ·rw[List.getElem?_take_of_lt (by omega),Array.getElem?_toList,h4 p hp,List.getElem?_map,List.getElem?_eq_getElem (by omega),hL p (by omega)];rfl
 rw[List.getElem?_eq_none (by simp;omega),List.getElem?_eq_none (by simp;omega)]
theorem RowF.of{w:World}{base:Nat}{e:TypeId}{v:Value}{L:List Int}(h:w.ownsRow base e 1 v L.length (L.map (.int .u8)))(h0:0<L.length):
  ∃g c,v=.slice (some ⟨g,0,none⟩) L.length c∧base≤g∧c≤maxLen∧L.length≤c∧RowF w g e c L.length (fun p=>L.getD p 0):=by
 obtain⟨_,⟨_,h2⟩|⟨g,cap,cur,rfl,hb,hg,h1,h2,h3,h4⟩⟩:=h
 ·omega
 refine⟨g,cap,rfl,hb,h2,h1,cur,hg,by omega,h1,fun p hp=>?_⟩;have:(cur.toList.take (L.length*1))[p]? = (L.map (Value.int .u8))[p]? := by rw[h4]
 rw[List.getElem?_take_of_lt (by omega),Array.getElem?_toList,List.getElem?_map]at this;rw[this,List.getElem?_eq_getElem hp];simp[List.getElem?_eq_getElem hp]
def RevAt(w:World)(g:Nat)(e:TypeId)(c n:Nat)(F:Nat→Int)(iv jv:Value)(wr:World):Prop:=
 ∃(i:Nat) (j:Int),i≤n∧j=(n:Int) - 1 - i∧iv=.int .i64 i∧jv=.int .i64 j∧RowF wr g e c n (fun p=>if p<i∨n≤p+i then F (n - 1 - p)else F p)∧Below g w wr
theorem revF_any{w:World}{g c n:Nat}{F:Nat→Int}(h:RowF w g 68 c n F)(hn:n≤100000):
  Calls Tryz.prog 312 #[.slice (some ⟨g,0,none⟩) n c] w fun e w'=>e=.returned (.tuple #[])∧RowF w' g 68 c n (fun p=>F (n - 1 - p))∧Below g w w':=by
 have H:=yH h;clear h;go_enter Tryz.func312,Tryz.ntmps312;go_wp2
 go_loopw [2,3] (RevAt w g 68 c n F) (fun i _ _=>n - (intOf i).toNat)
 case atStart=>exact⟨0,(n:Int) - 1,by omega,by omega,rfl,rfl,H.o.congr (fun p hp=>by rw[if_neg (by omega)]),yZ⟩
 obtain⟨i,j,hi,hj,rfl,rfl,hrow,hb⟩:=hrel;have R:=yH hrow;have B:=yH hb;clear hrow hb H
 by_cases hlt:(i:Int)<j
 ·obtain⟨k,rfl⟩:∃k:Nat,j=k:=⟨j.toNat,by omega⟩;have hik:i<k:=by omega
  have hkn:k+i+1=n:=by omega
  have HK:=yH hkn;clear hj;have ci:=R.o.cell (p:=i) (by omega);have ck:=R.o.cell (p:=k) (by omega);have fi:=R.o.frozen i;have fk:=R.o.frozen k;have hgl:=R.o.lt
  try dsimp only at ci ck
  rw[if_neg (by omega)]at ci ck;clear hkn;have hkn:=HK.o;have RA:=yH ((R.o.drew.set (p:=i) (by omega) (F k)).set (p:=k) (by omega) (F i));have RB:=yH ((R.o.drew.set (p:=k) (by omega) (F i)).set (p:=i) (by omega) (F k));have BA:=yH ((((B.o.trans (Below.refl g wr).drew).setCell (p:=⟨g,i,none⟩) yL (.int .u8 (F k)))).setCell (p:=⟨g,k,none⟩) yL (.int .u8 (F i)));have BB:=yH ((((B.o.trans (Below.refl g wr).drew).setCell (p:=⟨g,k,none⟩) yL (.int .u8 (F i)))).setCell (p:=⟨g,i,none⟩) yL (.int .u8 (F k)))
  have FE:Hid (∀p,p<n→(if p=k then F i else if p=i then F k else if p<i∨n≤p+i then F (n - 1 - p)else F p)=if p<i+1∨n≤p+(i+1)then F (n - 1 - p)else F p):=yH (fun p hp=>by
   by_cases e1:p=k
   ·subst e1;rw[if_pos rfl,if_pos (by omega)];congr 1;omega
   rw[if_neg e1]
   by_cases e2:p=i
   ·subst e2;rw[if_pos rfl,if_pos (by omega)];congr 1;omega
   rw[if_neg e2]
   by_cases e3:p<i∨n≤p+i
   ·rw[if_pos e3,if_pos (by omega)]
   rw[if_neg e3,if_neg (by omega)])
  have FE2:Hid (∀p,p<n→(if p=i then F k else if p=k then F i else if p<i∨n≤p+i then F (n - 1 - p)else F p)=if p<i+1∨n≤p+(i+1)then F (n - 1 - p)else F p):=yH (fun p hp=>by
   rw[←FE.o p hp]
   by_cases e1:p=k
   ·rw[if_neg (by omega),if_pos e1,if_pos e1]
   by_cases e2:p=i
   ·rw[if_pos e2,if_neg e1,if_pos e2]
   rw[if_neg e2,if_neg e1,if_neg e1,if_neg e2])
  have R1:=yH (RA.o.congr FE.o);have R2:=yH (RB.o.congr FE2.o);clear RA RB FE FE2 R;go_wp2_with fail
  go_region
  all_goals
   go_wp2;go_roundw
   case rel=>exact⟨i+1,(k:Int) - 1,by omega,by omega,by go_num,by go_num,by first|exact R1.o|exact R2.o,by first|exact BA.o|exact BB.o⟩
   case measure=>simp[intOf];omega
 go_wp2;go_end0;refine⟨rfl,R.o.congr (fun p hp=>?_),B.o⟩
 by_cases e:p<i∨n≤p+i
 ·rw[if_pos e]
 rw[if_neg e];congr 1;omega
theorem rev_any{w:World}{base:Nat}{v:Value}{L:List Int}(h:w.ownsRow base 68 1 v L.length (L.map (.int .u8)))(h0:0<L.length)(hl:L.length≤100000):
  Calls Tryz.prog 312 #[v] w fun e w'=>e=.returned (.tuple #[])∧w'.ownsRow base 68 1 v L.length (L.reverse.map (.int .u8))∧Below base w w':=by
 obtain⟨g,c,rfl,hb,hc,hlc,hr⟩:=RowF.of h h0;refine(revF_any hr hl).mono ?_;rintro e w' ⟨rfl,h1,h2⟩;refine⟨rfl,h1.owns hb hc (by simp) (fun p hp=>?_),h2.mono hb⟩;have hp':p<L.length:=by simpa using hp
 rw[List.getElem_reverse,List.getD_eq_getElem?_getD,List.getElem?_eq_getElem (by omega)];rfl
theorem aLu(p:Int)(w:World):Calls Tryz.prog 288 #[.int .u8 p] w (yS w (.bool (mayG p))):=by
 have hs:(¬1≤p∧mayG p=false)∨(1≤p∧p≤16∧mayG p=true)∨(1≤p∧¬p≤16∧mayG p=false):=by unfold mayG;simp;omega
 rcases hs with⟨h1,h2⟩|⟨h1,h3,h2⟩|⟨h1,h3,h2⟩
 all_goals
  rw[h2];clear h2;go_enter Tryz.func288,Tryz.ntmps288;go_wp2;go_ret;exact⟨rfl,rfl⟩
def aFr(ah:Int→Int)(p:Int)(i:Nat)(c:Int):Bool:=c==0 || (List.range i).any fun j=>itr ah j p==c
theorem aD1{ah:Int→Int}{p:Int}{i:Nat}{c:Int}:aFr ah p i c=true↔c=0∨∃j,j<i∧itr ah j p=c:=by
 unfold aFr;simp
theorem cameF_next(ah:Int→Int)(p:Int)(i:Nat):(fun q=>if q=itr ah i p then true else aFr ah p i q)=aFr ah p (i+1):=by
 funext q
 by_cases h:q=itr ah i p
 ·rw[if_pos h];exact(aD1.2 (.inr ⟨i,by omega,h.symm⟩)).symm
 rw[if_neg h];apply Bool.eq_iff_iff.2;rw[aD1,aD1]
 constructor
 ·rintro(h1|⟨j,h1,h2⟩)
  ·exact .inl h1
  exact .inr ⟨j,by omega,h2⟩
 rintro(h1|⟨j,h1,h2⟩)
 ·exact .inl h1
 by_cases e:j=i
 ·subst e;exact absurd h2.symm h
 exact .inr ⟨j,by omega,h2⟩
theorem inA_form(b:Int→Bool):inA b=#[.bool (b 0),.bool (b 1),.bool (b 2),.bool (b 3),.bool (b 4),.bool (b 5),.bool (b 6),.bool (b 7),.bool (b 8),.bool (b 9),.bool (b 10),.bool (b 11),.bool (b 12),.bool (b 13),.bool (b 14),.bool (b 15),.bool (b 16)]:=by
 apply Array.ext (by rw[aGd];rfl);intro i h1 h2;have h17:i<17:=by rw[aGd]at h1;exact h1
 have:=aM6 b h17;rw[Array.getElem?_eq_getElem h1]at this;simp only[Option.some.injEq]at this;rw[this];have hi:i=0∨i=1∨i=2∨i=3∨i=4∨i=5∨i=6∨i=7∨i=8∨i=9∨i=10∨i=11∨i=12∨i=13∨i=14∨i=15∨i=16:=by omega
 rcases hi with rfl|rfl|rfl|rfl|rfl|rfl|rfl|rfl|rfl|rfl|rfl|rfl|rfl|rfl|rfl|rfl|rfl <;> rfl
theorem build_came(ah:Int→Int)(p:Int)(w:World):(Instr.build 153 #[(0,.bool true)]).run Tryz.prog w=.ok (.agg (inA (aFr ah p 0))) w:=by
 rw[inA_form];show _=Result.ok (Value.agg #[.bool true,.bool false,.bool false,.bool false,.bool false,.bool false,.bool false,.bool false,.bool false,.bool false,.bool false,.bool false,.bool false,.bool false,.bool false,.bool false,.bool false]) w
 kernel_rfl
theorem aKm:(∀w,(zeroValue 153).run Tryz.prog w=.ok (.agg (inA fun _=>false)) w)∧(Tryz.prog.info? 153).map (·.size)=some 17:=by
 rw[inA_form];exact zero_of_info (by kernel_rfl)
theorem info_inP(b:Int→Bool):(Tryz.prog.info? 153).map (·.size)=some (inA b).size:=by rw[aGd];exact aKm.2
def sLen:Value→Nat
 | .slice _ k _=>k
 | _=>0
theorem sLen_slice(a:Option Addr)(n c:Nat):sLen (.slice a n c)=n:=rfl
def TurnAt(w:World)(ah:Int→Int)(p:Int)(n:Nat)(pv lv:Value)(wr:World):Prop:=
 ∃i:Nat,i≤n∧pv=.int .u8 (itr ah i p)∧wr.ownsRow w.heap.size 68 1 lv ((List.range i).map fun j=>itr ah j p).length (((List.range i).map fun j=>itr ah j p).map (.int .u8))∧Blk wr w.heap.size (inA (aFr ah p i)) 153∧Below w.heap.size w wr
theorem turned_any{w:World}{g off:Nat}{ah:Int→Int}{p:Int}{n:Nat}(hg:g<w.heap.size)(hcell:∀c:Nat,c<17→w.cell? ⟨g,off+c,none⟩=some (.int .u8 (ah c)))
  (hn:∀i,i<n→inP (itr ah i p))(hd:∀i j,i<j→j<n→itr ah i p≠itr ah j p)(he:itr ah n p=0∨∃i,i<n∧itr ah i p=itr ah n p)(h1:1≤n)(h16:n≤16):
  Calls Tryz.prog 290 #[.pointer (some ⟨g,off,none⟩),.int .u8 p] w (aM8 68 (aEo ah p n) w):=by
 have HC:=yH hcell;have HN:=yH hn;have HD:=yH hd;have HE:=yH (aD1.2 (he.imp id (fun⟨i,h1,h2⟩=>⟨i,h1,h2⟩)));have hz:=aKm.1;have Z:=yH (Blk.new w (inA fun _=>false) 153);have E1:=World.setRow_alloc_new w (inA fun _=>false) (inA (aFr ah p 0)) 153;have B1:=yH ((Below.refl w.heap.size w).alloc yL (.cells (inA (aFr ah p 0)) 153));have K1:=yH (Blk.new w (inA (aFr ah p 0)) 153);clear hcell hn hd he;go_enter Tryz.func290,Tryz.ntmps290
 go_wp2_with first
  | (refine aDm ?_ 153 #[(0,.const (.bool true))] ?_ #[(0,.bool true)] ?_ (inA (aFr ah p 0)) (build_came ah p _) ?_;exact rfl;exact rfl;simp[Act.eval])
  | ((with_reducible refine wpList_store_row ?_ 153 (.tmp 6) (.tmp 7) ?_ w.heap.size (inA (aFr ah p 0)) ?_ ?_ 153 _ Z.o.out (info_inP _) (by simp only[aGd]) (inA_one _) ?_);exact rfl;exact rfl;exact rfl;exact rfl;rw[E1])
 generalize hW:w.alloc (.cells (inA (aFr ah p 0)) 153)=W1 at *;clear hW hz E1 Z;simp only[Act.put]
 go_loopw [1,5] (TurnAt w ah p n) (fun _ l _=>n - sLen l)
 case atStart=>exact⟨0,by omega,rfl,World.ownsRow_nil _ _ _ _,K1.o,B1.o⟩
 clear K1 B1;obtain⟨i,hi,rfl,hown,hK,hB⟩:=hrel;have O1:=yH hown;have K1:=yH hK;have B1:=yH hB;clear hown hK hB;have hgr:=yM hg B1.o.size;have hkl:=K1.o.lt
 by_cases hin:i<n
 ·have hx:=HN.o i hin;have NX:=yH (cameF_next ah p i);have IS:=yH (aCr ah i p);have LS:Hid (((List.range (i+1)).map fun j=>itr ah j p)=((List.range i).map fun j=>itr ah j p)++[itr ah i p]):=yH (by rw[List.range_succ,List.map_append];rfl)
  have hc0:aFr ah p i (itr ah i p)=false:=by
   cases hc:aFr ah p i (itr ah i p)with
   | false=>rfl
   | true=>
    rcases aD1.1 hc with q|⟨j,q1,q2⟩
    ·unfold inP at hx;omega
    exact absurd q2 (HD.o j i q1 hin)
  have LL:Hid (((List.range i).map fun j=>itr ah j p).length=i):=yH (by simp);generalize ((List.range i).map fun j=>itr ah j p)=L at *;generalize itr ah i p=x at *;obtain⟨x1,x2⟩:=hx;have dk:=K1.o.inAt (p:=x) (by omega) (by omega);have fk:=K1.o.frozen x.toNat;rw[hc0]at dk;have K2:=yH (K1.o.inSet (p:=x) (by omega) (by omega) true);rw[NX.o]at K2;have B2:=yH (B1.o.setCell (p:=⟨w.heap.size,x.toNat,none⟩) yL (.bool true));have O2:=yH (aAw (S:=fun b=>b=w.heap.size) O1.o ((Keep.refl (fun b=>b=w.heap.size) wr).setCell (p:=⟨w.heap.size,x.toNat,none⟩) (.inl rfl) (.bool true)) (aBz O1.o K1.o (by decide)));have O1':=yH O1.o;clear hc0 O1;have hll:L.length≤16:=by rw[LL.o];omega
  go_wp2_with (at_builtin;refine aBv _ rfl (.tmp 19) (.tmp 21) rfl w.heap.size _ L rfl (O2.o.alloc _) _ _ x rfl (pAB _ _ _ (by simp)) (by omega) (by simp;have:=B2.o.size;simp at this;omega) ?_);intro v3 w3 hown3 hgr3;have R2:∀k,Value.ownBlock _=some k→w.heap.size≤k:=fun k hk=>(aAn O2.o hk).1
  have B3:=yH ((B2.o.alloc B2.o.size _).grown hgr3 (by simp;have:=B2.o.size;simp at this;omega) (fun k hk=>R2 k hk));have K3:Hid (Blk w3 w.heap.size (inA (aFr ah p (i+1))) 153):=yH ((hgr3.block w.heap.size (by simp;omega) (fun e=>aBz O2.o K2.o (by decide) _ e.symm rfl)).trans (K2.o.alloc _).out);have O3:=yH (show w3.ownsRow w.heap.size 68 1 v3 (L++[x]).length ((L++[x]).map (.int .u8)) by simpa using hown3)
  have dl:w3.cell? ⟨g,off+x.toNat,none⟩=some (.int .u8 (ah x)):=by
   rw[B3.o.cell (p:=⟨g,off+x.toNat,none⟩) hg,HC.o x.toNat (by omega),Int.toNat_of_nonneg (by omega)]
  have hg3:=yM hg B3.o.size;clear R2 hown3 hgr3 K2 B2 O2 K1 B1 dk fk;obtain⟨ao3,c3,hv3,_⟩:=aAh O3.o;subst hv3;go_wp2_with fail;go_roundw
  case rel=>exact⟨i+1,by omega,by rw[IS.o],by rw[LS.o];exact O3.o,K3.o,B3.o⟩
  obtain⟨ao,cc,rfl,_⟩:=aAh O1'.o;have hLL:=LL.o;simp[sLen_slice,List.length_append];omega
 obtain rfl:i=n:=by omega
 have hxr:0≤itr ah i p∧itr ah i p<17:=by
  rcases aD1.1 HE.o with q|⟨j,q1,q2⟩
  ·omega
  have:=HN.o j q1;unfold inP at this;omega
 have CL:Hid ((((List.range i).map fun j=>itr ah j p)).reverse=aEo ah p i):=yH rfl;have LL:Hid (((List.range i).map fun j=>itr ah j p).length=i):=yH (by simp);have CR:=yH (rev_any O1.o (by rw[LL.o];omega) (by rw[LL.o];omega));rw[CL.o]at CR;have HEi:=HE.o;generalize ((List.range i).map fun j=>itr ah j p)=L at *;generalize itr ah i p=x at *;have dk:=K1.o.inAt (p:=x) (by omega) (by omega);rw[HEi]at dk;obtain⟨x1,x2⟩:=hxr;obtain⟨ao3,c3,hv3,_⟩:=aAh O1.o;subst hv3;clear HEi;go_wp2_with fail;refine CR.o.mono ?_;rintro e w4 ⟨rfl,hown,hb⟩;have B4:=yH (B1.o.trans hb);have e6:(aEo ah p i).length=L.length:=by rw[chainL_len,LL.o]
 have O4:=yH (show w4.ownsRow w.heap.size 68 1 (.slice ao3 L.length c3) (aEo ah p i).length ((aEo ah p i).map (.int .u8)) by rw[e6];exact hown);have CC:=yH (clipY_any O4.o);rw[e6]at CC;have E6:=yH e6;clear hown hb CR e6;go_wp2_with fail;refine CC.o.mono ?_;rintro e w5 ⟨v',rfl,hrow,_,rfl⟩;have HRow:=yH hrow;clear hrow CC;go_wp2_with fail;refine bodyPost_ret (v:=v') (by simp[results,Tryz.results290,go_sem]) rfl ?_;exact⟨v',rfl,by rw[E6.o];exact HRow.o,B4.o⟩
def Que(w:World)(base:Nat)(e:TypeId)(v:Value)(l:List Int):Prop:=
 ∃(g off cap:Nat) (cur:Array Value),v=.slice (some ⟨g,off,none⟩) l.length cap∧base≤g∧Blk w g cur e∧l.length≤cap∧cap≤maxLen∧off+cap≤cur.size∧∀j (hj:j<l.length),cur[off+j]? = some (.int .u8 l[j])
theorem Que.keep{S:Nat→Prop}{w w':World}{base:Nat}{e:TypeId}{v:Value}{l:List Int}(h:Que w base e v l)(k:Keep S w w')(hs:∀b,v.ownBlock=some b→¬S b):Que w' base e v l:=by
 obtain⟨g,off,cap,cur,rfl,hb,hg,hr⟩:=h;exact⟨g,off,cap,cur,rfl,hb,(k.block g hg.lt (hs g rfl)).trans hg,hr⟩
theorem Que.below{w w':World}{base:Nat}{e:TypeId}{v:Value}{l:List Int}(h:Que w base e v l)(k:Below w.heap.size w w'):Que w' base e v l:=
 h.keep (pAD (S:=fun _=>False) k) (fun _ _=>id)
theorem Que.alloc{w:World}{base:Nat}{e:TypeId}{v:Value}{l:List Int}(h:Que w base e v l)(o:Obj):Que (w.alloc o) base e v l:=
 h.below ((Below.refl w.heap.size w).alloc yL o)
theorem Que.type{w:World}{base:Nat}{e:TypeId}{v:Value}{l:List Int}(h:Que w base e v l){b:Nat}(hb:v.ownBlock=some b):base≤b∧b<w.heap.size∧∃cur,Blk w b cur e:=by
 obtain⟨g,off,cap,cur,rfl,hge,hg,_⟩:=h
 cases hb
 exact⟨hge,hg.lt,cur,hg⟩
theorem Que.ne{w:World}{base:Nat}{e:TypeId}{v:Value}{l:List Int}(h:Que w base e v l){g:Nat}{cs:Array Value}{t:TypeId}(hg:Blk w g cs t)(hne:e≠t):∀b,v.ownBlock=some b→¬b=g:=by
 intro b hb e';obtain⟨_,_,cur,hc⟩:=h.type hb;subst e';have:=hc.symm.trans hg;simp only[Option.some.injEq,Obj.cells.injEq]at this;exact hne this.2.1
theorem Que.shape{w:World}{base:Nat}{e:TypeId}{v:Value}{l:List Int}(h:Que w base e v l):
  ∃(g off cap:Nat),v=.slice (some ⟨g,off,none⟩) l.length cap∧l.length≤cap∧cap≤maxLen∧g<w.heap.size∧base≤g∧∀j (hj:j<l.length),w.cell? ⟨g,off+j,none⟩=some (.int .u8 l[j]):=by
 obtain⟨g,off,cap,cur,rfl,hb,hg,h1,h2,h3,h4⟩:=h;exact⟨g,off,cap,rfl,h1,h2,hg.lt,hb,fun j hj=>by rw[hg.cell];exact h4 j hj⟩
theorem Que.one{w:World}{base:Nat}{e:TypeId}{x:Int}(hb:base≤w.heap.size):Que (w.alloc (.cells #[.int .u8 x] e)) base e (.slice (some ⟨w.heap.size,0,none⟩) 1 1) [x]:=
 ⟨w.heap.size,0,1,_,rfl,hb,Blk.new _ _ _,Nat.le_refl _,by unfold maxLen;decide,by simp,fun j hj=>by
  have:j=0:=by simpa using hj
  subst this;rfl⟩
def aJh(g off cap:Nat):Addr:=if cap=1 then⟨g,off,none⟩else⟨g,off+1,none⟩
theorem aKn{P:Program}(w:World)(t e:TypeId)(ht:P.underlying t=some (.slice e))(hs:(sizeOf e).run P w=.ok 1 w)(g off n cap:Nat)(h1:1≤n)(h:n≤cap):
  (Instr.sliceAt t (.slice (some ⟨g,off,none⟩) n cap) (some (.int .i64 1)) none none).run P w=.ok (.slice (some (aJh g off cap)) (n - 1) (cap - 1)) w:=by
 have hb:(Instr.sliceBound (.int .i64 1) n .sliceB).run P w=.ok 1 w:=by
  have hn:(0:Int)≤1∧(1:Int)≤(n:Int):=⟨by decide,by omega⟩;simp[Instr.sliceBound,asIntOf,hn,go_sem]
 by_cases hc:cap=1
 ·simp[Instr.sliceAt,Instr.slice,run_underlying ht,Instr.sliceBounds,hb,hs,Result.andThen,aJh,hc]
 simp[Instr.sliceAt,Instr.slice,run_underlying ht,Instr.sliceBounds,hb,hs,Result.andThen,aJh,hc,Addr.add]
theorem Que.next{w:World}{base:Nat}{e:TypeId}{x:Int}{l:List Int}{g off cap:Nat}(h:Que w base e (.slice (some ⟨g,off,none⟩) (l.length+1) cap) (x::l)):
  Que w base e (.slice (some (aJh g off cap)) l.length (cap - 1)) l:=by
 obtain⟨g',off',cap',cur,he,hb,hg,h1,h2,h3,h4⟩:=h;simp only[Value.slice.injEq,Option.some.injEq,Addr.mk.injEq]at he;obtain⟨⟨rfl,rfl,_⟩,_,rfl⟩:=he;simp only[List.length_cons]at h1 h4;unfold aJh
 by_cases hc:cap=1
 ·have hl:l=[]:=List.eq_nil_of_length_eq_zero (by omega);subst hl;rw[if_pos hc];exact⟨g,off,cap - 1,cur,rfl,hb,hg,by simp,by omega,by omega,fun j hj=>by simp at hj⟩
 rw[if_neg hc];refine⟨g,off+1,cap - 1,cur,rfl,hb,hg,by omega,by omega,by omega,fun j hj=>?_⟩;have:=h4 (j+1) (by omega);rw[show off+1+j=off+(j+1) by omega,this];rfl
theorem aGt(w:World){ops:Array Oper}{rest:List Oper}{o:Oper}{a:Act}{Q:Exit→Act→World→Prop}(hgd:o.guard=none)(s x:Operand)
  (ho:o.op=.call { callee:=.builtin .append,args:=#[s,x],argTypes:=#[41,41] })(base:Nat)(v:Value)(l:List Int)(hs:a.eval s=v)
  (hq:Que w base 68 v l)(g2 c:Nat)(y:Int)(hx:a.eval x=.slice (some ⟨g2,0,none⟩) 1 c)(hy:Blk w g2 #[.int .u8 y] 68)(hlen:l.length≤100000)(hbase:base≤w.heap.size)
  (h:∀v' w',Que w' base 68 v' (l++[y])→w.grownBy w' v.ownBlock→wpList Tryz.prog ops Q rest (a.put o.dst v') w'):wpList Tryz.prog ops Q (o::rest) a w:=by
 obtain⟨i0,hi,hz0,hz1,hz2⟩:=info_parts aFa;obtain⟨g,off,cap,cur,rfl,hb,hg,h1,h2,h3,h4⟩:=hq
 have hnews:∀j u,([.int .u8 y]:List Value)[j]? = some u→w.cell? ((⟨g2,0,none⟩:Addr).add j)=some u:=by
  intro j u hj;have:=hy.cell j;rw[Go.WideShapes.add_plain,Nat.zero_add]
  match j,hj with
  | 0,hj=>simp at hj;subst hj;simpa using this
  | j+1,hj=>simp at hj
 have key:∃v' w',(Builtin.append_ #[41,41] o.type #[.slice (some ⟨g,off,none⟩) l.length cap,.slice (some ⟨g2,0,none⟩) 1 c]).run Tryz.prog w=.ok v' w'∧Que w' base 68 v' (l++[y])∧w.grownBy w' (some g):=by
  by_cases hroom:l.length+1≤cap
  ·have hsrc:Src Tryz.prog i0.size 41 (.slice (some ⟨g2,0,none⟩) 1 c) 1 [.int .u8 y] w:=Src.ofSlice w Tryz.underlying41 ⟨g2,0,none⟩ 1 c [.int .u8 y] (by simp[hz1]) hnews (by simp[Value.oneCell'])
   have hr:=run_append_room_src (P:=Tryz.prog) w 41 41 o.type 68 i0 Tryz.underlying41 hi g off l.length cap (.slice (some ⟨g2,0,none⟩) 1 c) 1 [.int .u8 y] hsrc hroom (fun j hj=>by
    rw[hg.cell,hz1];simp at hj;rw[Array.getElem?_eq_getElem (by omega)];rfl) (fun j hj=>hg.frozen _)
   rw[hz1,Nat.mul_one]at hr;refine⟨_,_,hr,?_,?_⟩
   ·have hset:w.setCells g (off+l.length) [.int .u8 y]=w.setCell ⟨g,off+l.length,none⟩ (.int .u8 y):=rfl;rw[hset];refine⟨g,off,cap,_,by simp,hb,hg.set (off+l.length) (.int .u8 y),by simp;omega,h2,by simpa using h3,fun j hj=>?_⟩
    by_cases e:j=l.length
    ·subst e;rw[Array.getElem?_setIfInBounds_self_of_lt (by omega)];simp
    simp at hj;rw[Array.getElem?_setIfInBounds_ne (by omega),h4 j (by omega),List.getElem_append_left (by omega)]
   have hset:w.setCells g (off+l.length) [.int .u8 y]=w.setCell ⟨g,off+l.length,none⟩ (.int .u8 y):=rfl;rw[hset];exact⟨rfl,rfl,rfl,by simp,fun k hk hne=>Below.heap_setCell w _ _ k (fun e=>hne (by rw[e]))⟩
  have hlc:l.length=cap:=by omega
  have hr:=run_append_grow (P:=Tryz.prog) w 41 o.type 68 i0 (.int .u8 0) Tryz.underlying41 hi hz0 ⟨g,off,none⟩ l.length cap (l.map (.int .u8)) (by simp[hz1]) (fun j u hj=>by
   rw[List.getElem?_map]at hj;obtain⟨q,hq,rfl⟩:=Option.map_eq_some_iff.1 hj;obtain⟨hjl,hq⟩:=List.getElem?_eq_some_iff.1 hq;subst hq;rw[Addr.add_mid,hg.cell];exact h4 j hjl) ⟨g2,0,none⟩ 1 c [.int .u8 y] (by simp[hz1]) hnews (by omega) (by omega) (growslice_fits (by omega) (by rw[hz2];omega))
  have hge:=grownCap_ge w (l.length+1) cap 68;have hle:=grownCap_le_maxLen w (l.length+1) cap 68 (by unfold maxLen;omega);refine⟨_,_,hr,?_,⟨rfl,rfl,rfl,by simp,fun k hk _=>heap_alloc_old w.drew _ hk⟩⟩;refine⟨w.heap.size,0,_,_,by simp,hbase,Blk.new w.drew _ _,by simpa using hge,hle,?_,fun j hj=>?_⟩
  ·simp[size_zeroCells,show(Value.int IntKind.u8 0).cells.size=1 from rfl];omega
  simp only[List.length_append,List.length_cons,List.length_nil]at hj;rw[Nat.zero_add,Array.getElem?_append_left (by simp;omega)]
  by_cases e:j=l.length
  ·subst e;simp
  rw[Array.getElem?_append_left (by simp;omega)];simp;rw[List.getElem?_eq_getElem (by omega),List.getElem_append_left (by omega)]
  try rfl
 obtain⟨v',w',hr,k1,k2⟩:=key;refine wpList_plain hgd fun K hK=>?_
 unfold Oper.wp execOp;simp only[ho,resolve,invoke,builtin,Sem.run_bind,Sem.run_pure,Result.andThen_ok,List.map_toArray,List.map_cons,List.map_nil,hs,hx,hr];exact hK _ _ (h v' w' k1 k2)
theorem ahA_form(b:Int→Int):ahA b=#[.int .u8 (b 0),.int .u8 (b 1),.int .u8 (b 2),.int .u8 (b 3),.int .u8 (b 4),.int .u8 (b 5),.int .u8 (b 6),.int .u8 (b 7),.int .u8 (b 8),.int .u8 (b 9),.int .u8 (b 10),.int .u8 (b 11),.int .u8 (b 12),.int .u8 (b 13),.int .u8 (b 14),.int .u8 (b 15),.int .u8 (b 16)]:=by
 apply Array.ext (by rw[aEb];rfl);intro i h1 h2;have h17:i<17:=by rw[aEb]at h1;exact h1
 have:=aKl b h17;rw[Array.getElem?_eq_getElem h1]at this;simp only[Option.some.injEq]at this;rw[this];have hi:i=0∨i=1∨i=2∨i=3∨i=4∨i=5∨i=6∨i=7∨i=8∨i=9∨i=10∨i=11∨i=12∨i=13∨i=14∨i=15∨i=16:=by omega
 rcases hi with rfl|rfl|rfl|rfl|rfl|rfl|rfl|rfl|rfl|rfl|rfl|rfl|rfl|rfl|rfl|rfl|rfl <;> rfl
theorem aGu:(∀w,(zeroValue 387).run Tryz.prog w=.ok (.agg (ahA fun _=>0)) w)∧(Tryz.prog.info? 387).map (·.size)=some 17:=by
 rw[ahA_form];exact zero_of_info (by kernel_rfl)
theorem aD2(b:Int→Int):(Tryz.prog.info? 387).map (·.size)=some (ahA b).size:=by rw[aEb];exact aGu.2
theorem aNe(b:Int→Int):(ahA b).all (·.oneCell')=true:=by
 rw[Array.all_eq_true];intro i hi;have h17:i<17:=by rw[aEb]at hi;exact hi
 have:=aKl b h17;rw[Array.getElem?_eq_getElem hi]at this;simp only[Option.some.injEq]at this;rw[this];rfl
theorem gcapI{w:World}{v:Value}{f:Int→Int→Int}(h:IsG w v f)(ho:outF f)(p q:Int):
  Calls Tryz.prog 261 #[v,.int .u8 p,.int .u8 q] w (yS w (.int .i64 (f p q))):=by
 rcases h with⟨rfl,rfl⟩|⟨g,b,rfl,h2⟩
 ·exact gcap_nil p q w
 exact gcap_any h2 ho p q
def SprAt(w:World)(f:Int→Int→Int)(a:Int)(m:Nat)(v:Value)(wr:World):Prop:=
 ∃(x:Nat→Int) (pa:Nat→Nat) (n:Nat) (b:Int→Bool) (ah:Int→Int) (k:Nat),BfsI f a x pa n b ah k 1∧k≤n∧k+m=17∧Que wr w.heap.size 68 v (qL x k n)∧
  Blk wr w.heap.size (ahA fun _=>0) 387∧Blk wr (w.heap.size+1) (ahA ah) 387∧Blk wr (w.heap.size+1+1) (inA b) 153∧Below w.heap.size w wr
def SprIn(w:World)(f:Int→Int→Int)(a:Int)(k:Nat)(v i:Value)(wr:World):Prop:=
 ∃(x:Nat→Int) (pa:Nat→Nat) (n:Nat) (b:Int→Bool) (ah:Int→Int) (c:Int),BfsI f a x pa n b ah k c∧k<n∧1≤c∧c≤17∧i=.int .u8 c∧Que wr w.heap.size 68 v (qL x k n)∧
  Blk wr w.heap.size (ahA fun _=>0) 387∧Blk wr (w.heap.size+1) (ahA ah) 387∧Blk wr (w.heap.size+1+1) (inA b) 153∧Below w.heap.size w wr
def SpreadPost(f:Int→Int→Int)(a:Int)(w:World)(e:Ending)(w':World):Prop:=
 ∃(b:Int→Bool) (pos:Int→Nat) (ah:Int→Int),e=.returned (.agg (ahA ah))∧Spr f a (fun p=>b p=true) pos ah∧ah a=0∧(∀p,b p=false→ah p=0)∧Below w.heap.size w w'
theorem spread_any{w:World}{v:Value}{f:Int→Int→Int}{a:Int}(h:IsG w v f)(hI:GInv f 4398046511104)(ha:inP a):
  Calls Tryz.prog 289 #[v,.int .u8 a] w (SpreadPost f a w):=by
 have H:=yH h;have HI:=yH hI;have HA:=yH ha;have hz1:=aGu.1;have hz2:=aKm.1;clear h hI;obtain⟨a1,a2⟩:=ha;have hin0:(inA fun _=>false).setIfInBounds a.toNat (.bool true)=inA (fun q=>if q=a then true else false):=by rw[inA_set _ (by omega),Int.toNat_of_nonneg (by omega)]
 have k2:=pAB ((w.alloc (.cells (ahA fun _=>0) 387)).alloc (.cells (ahA fun _=>0) 387)) (inA fun _=>false) 153 (g:=w.heap.size+1+1) (by simp);have dk:=k2.inAt (p:=a) (by omega) (by omega);have fk:=k2.frozen a.toNat;obtain⟨b0,hb0⟩:∃b0:Int→Bool,b0=fun q=>if q=a then true else false:=⟨_,rfl⟩
 rw[←hb0]at hin0;have hs4:(((w.alloc (.cells (ahA fun _=>0) 387)).alloc (.cells (ahA fun _=>0) 387)).alloc (.cells (inA b0) 153)).heap.size=w.heap.size+1+1+1:=by simp
 have K0:=yH ((((Blk.new w (ahA fun _=>0) 387).alloc (.cells (ahA fun _=>0) 387)).alloc (.cells (inA b0) 153)).alloc (.cells #[.int .u8 a] 68));have K1:=yH (((pAB (w.alloc (.cells (ahA fun _=>0) 387)) (ahA fun _=>0) 387 (g:=w.heap.size+1) (by simp)).alloc (.cells (inA b0) 153)).alloc (.cells #[.int .u8 a] 68));have K2:=yH ((pAB ((w.alloc (.cells (ahA fun _=>0) 387)).alloc (.cells (ahA fun _=>0) 387)) (inA b0) 153 (g:=w.heap.size+1+1) (by simp)).alloc (.cells #[.int .u8 a] 68));have q0:=Que.one (w:=(((w.alloc (.cells (ahA fun _=>0) 387)).alloc (.cells (ahA fun _=>0) 387)).alloc (.cells (inA b0) 153))) (base:=w.heap.size) (e:=68) (x:=a) (by rw[hs4];omega);rw[hs4]at q0;have Q0:=yH q0;have B0:=yH (((((Below.refl w.heap.size w).alloc yL (.cells (ahA fun _=>0) 387)).alloc (by simp) (.cells (ahA fun _=>0) 387)).alloc (by simp;omega) (.cells (inA b0) 153)).alloc (by rw[hs4];omega) (.cells #[.int .u8 a] 68));have S0:=yH (hb0 ▸ BfsI.start f HA.o HI.o:BfsI f a (fun _=>a) (fun _=>0) 1 b0 (fun _=>0) 0 1);clear q0 hs4 hb0;go_enter Tryz.func289,Tryz.ntmps289;go_wp2_with fail
 try rw[hin0]
 generalize (((w.alloc (.cells (ahA fun _=>0) 387)).alloc (.cells (ahA fun _=>0) 387)).alloc (.cells (inA b0) 153)).alloc (.cells #[.int .u8 a] 68)=W at *;clear dk fk k2 hin0 hz1 hz2
 go_loopg [7] 17 (fun m v wr=>SprAt w f a m v wr)
 case atStart=>exact⟨fun _=>a,fun _=>0,1,b0,fun _=>0,0,S0.o,by omega,by omega,Q0.o,K0.o,K1.o,K2.o,B0.o⟩
 obtain⟨x,pa,n,b,ah,k,hS,hkn,hkm,hq,h0,h1,h2,hb⟩:=hrel;have S1:=yH hS;have Q1:=yH hq;have R0:=yH h0;have R1:=yH h1;have R2:=yH h2;have B1:=yH hb;clear hS hq h0 h1 h2 hb K0 K1 K2 Q0 B0 S0;obtain⟨g,off,cap,hv,c1,c2,c3,c4,c5⟩:=Q1.o.shape;subst hv;obtain⟨N,hN⟩:∃N,(qL x k n).length=N:=⟨_,rfl⟩;have hNk:=qL_len x k n;rw[hN]at c1 hNk ⊢;have HN:=yH hN;have hn16:=S1.o.len
 by_cases hlt:k<n
 ·have hN0:0<N:=by omega
  clear c5 hN hNk;go_wp2_with fail
  go_loopw [7,8] (SprIn w f a k) (fun _ i _=>17 - (intOf i).toNat)
  case atStart=>exact⟨x,pa,n,b,ah,1,S1.o,hlt,by omega,by omega,rfl,HN.o ▸ Q1.o,R0.o,R1.o,R2.o,B1.o⟩
  clear R0 R1 R2 B1 S1 Q1 HN c1 c2 c3 c4 hlt hN0 hn16 hkn;obtain⟨x,pa,n,b,ah,c,hS,hkn,hc1,hc2,rfl,hq,h0,h1,h2,hb⟩:=hrel;have S1:=yH hS;have Q1:=yH hq;have R0:=yH h0;have R1:=yH h1;have R2:=yH h2;have B1:=yH hb;clear hS hq h0 h1 h2 hb;obtain⟨g,off,cap,hv,c1,c2,c3,c4,c5⟩:=Q1.o.shape;subst hv;have hx0:(qL x k n)[0]? = some (x k):=by rw[aNb x hkn];rfl
  obtain⟨N,hN⟩:∃N,(qL x k n).length=N:=⟨_,rfl⟩;have hNk:=qL_len x k n;have hN0:0<N:=by omega
  have ch:=c5 0 (by omega);rw[Nat.add_zero,show(qL x k n)[0]=x k by rw[List.getElem?_eq_getElem (by omega)]at hx0;simpa using hx0]at ch;rw[hN]at c1 hNk ⊢;have HN:=yH hN;have hn16:=S1.o.len;have hNn:=yH hNk;unfold maxLen at c2;have l1:=R1.o.lt;have l2:=R2.o.lt;clear c5 hN hx0 hNk
  by_cases hc:c≤16
  ·have dk:=R2.o.inAt (p:=c) (by omega) (by omega);have fk:=R2.o.frozen c.toNat
   cases hbc:b c with
   | true=>
    rw[hbc]at dk;have S2:=yH (S1.o.skip hkn (.inl hbc));clear hbc fk ch;go_wp2_with fail;go_roundw
    case rel=>exact⟨x,pa,n,b,ah,c+1,S2.o,hkn,by omega,by omega,by go_num,HN.o ▸ Q1.o,R0.o,R1.o,R2.o,B1.o⟩
    case measure=>simp[intOf];omega
   | false=>
    rw[hbc]at dk;have CC:=yH (gcapI (H.o.below B1.o) HI.o.outF (x k) c)
    by_cases hpos:0<f (x k) c
    ·have S2:=yH (S1.o.add hkn hbc hpos ⟨by omega,by omega⟩);have QA:=yH (qL_add x (k:=k) (n:=n) (by omega) c);generalize f (x k) c=y at *;have q1:decide (0<y)=true:=by simpa using hpos
     generalize hxk:x k=xk at *;have hg2:¬g=w.heap.size+1+1:=Q1.o.ne R2.o (by decide) g rfl;have hg1:¬g=w.heap.size+1:=Q1.o.ne R1.o (by decide) g rfl;have kp2:Keep (fun i=>i=w.heap.size+1+1) wr (wr.setCell ⟨w.heap.size+1+1,c.toNat,none⟩ (.bool true)):=(Keep.refl (fun i=>i=w.heap.size+1+1) wr).setCell (p:=⟨w.heap.size+1+1,c.toNat,none⟩) (.inl rfl) (.bool true);have Q2:=yH (Q1.o.keep kp2 (fun i h e=>by cases h;exact hg2 e));have P0:=yH (R0.o.setOther (a:=⟨w.heap.size+1+1,c.toNat,none⟩) (by simp;omega) (.bool true));have P1:=yH (R1.o.setOther (a:=⟨w.heap.size+1+1,c.toNat,none⟩) (by simp) (.bool true));have P2:=yH (R2.o.inSet (p:=c) (by omega) (by omega) true);have PB:=yH (B1.o.setCell (p:=⟨w.heap.size+1+1,c.toNat,none⟩) (by simp;omega) (.bool true));have ch1:=kp2.cell (p:=⟨g,off,none⟩) c3 hg2;rw[ch]at ch1;have d1:=P1.o.ahAt (p:=c) (by omega) (by omega);have f1:=P1.o.frozen c.toNat;have kp1:Keep (fun i=>i=w.heap.size+1) (wr.setCell ⟨w.heap.size+1+1,c.toNat,none⟩ (.bool true)) ((wr.setCell ⟨w.heap.size+1+1,c.toNat,none⟩ (.bool true)).setCell ⟨w.heap.size+1,c.toNat,none⟩ (.int .u8 xk)):=(Keep.refl (fun i=>i=w.heap.size+1) _).setCell (p:=⟨w.heap.size+1,c.toNat,none⟩) (.inl rfl) (.int .u8 xk);have q3:=Q2.o.keep kp1 (fun i h e=>by cases h;exact hg1 e);rw[HN.o]at q3;have Q3:=yH q3;have T0:=yH (P0.o.setOther (a:=⟨w.heap.size+1,c.toNat,none⟩) (by simp) (.int .u8 xk));have T1:=yH (P1.o.ahSet (p:=c) (by omega) (by omega) xk);have T2:=yH (P2.o.setOther (a:=⟨w.heap.size+1,c.toNat,none⟩) (by simp) (.int .u8 xk));have TB:=yH (PB.o.setCell (p:=⟨w.heap.size+1,c.toNat,none⟩) (by simp) (.int .u8 xk));have hsz:=B1.o.size;clear q3 P0 P1 P2 PB Q2 kp1 kp2 hpos hbc Q1 R0 R1 R2 B1 S1;go_wp2_with fail;refine CC.o.mono ?_;rintro e w1 ⟨rfl,rfl⟩;clear CC;go_wp2_with (at_builtin;refine aGt _ rfl (.tmp 42) (.tmp 44) rfl w.heap.size _ (qL x k n) rfl (Q3.o.alloc _) _ _ c rfl (pAB _ _ _ (by simp)) (by have:=hNn.out;have:=HN.o;omega) (by simp;omega) ?_);intro v3 w3 q3 hgr3;have hge:∀k,(Value.slice (some ⟨g,off,none⟩) N cap).ownBlock=some k→w.heap.size≤k:=fun k e=>by cases e;exact c4
     have U0:=yH (show Blk w3 w.heap.size (ahA fun _=>0) 387 from(hgr3.block w.heap.size (by simp;omega) (fun e=>by
      have q:=Q3.o.ne T0.o (by decide);exact q _ e.symm rfl)).trans (T0.o.alloc _).out)
     have U1:=yH (show Blk w3 (w.heap.size+1) (ahA (upI ah c xk)) 387 from(hgr3.block (w.heap.size+1) (by simp;omega) (fun e=>by
      have q:=Q3.o.ne T1.o (by decide);exact q _ e.symm rfl)).trans (T1.o.alloc _).out)
     have U2:=yH (show Blk w3 (w.heap.size+1+1) (inA fun q=>if q=c then true else b q) 153 from(hgr3.block (w.heap.size+1+1) (by simp;omega) (fun e=>by
      have q:=Q3.o.ne T2.o (by decide);exact q _ e.symm rfl)).trans (T2.o.alloc _).out)
     have UB:=yH ((TB.o.alloc TB.o.size _).grown hgr3 (by simp;omega) hge);have UQ:=yH q3;clear q3 hgr3 hge T0 T1 T2 TB Q3 ch ch1 d1 f1 dk fk;obtain⟨g3,off3,cap3,hv3,_⟩:=UQ.o.shape;go_wp2_with fail;go_roundw
     case rel=>exact⟨_,_,n+1,_,_,c+1,S2.o,by omega,by omega,by omega,by go_num,by rw[QA.o];exact UQ.o,U0.o,U1.o,U2.o,UB.o⟩
     case measure=>simp[intOf];omega
    have S2:=yH (S1.o.skip hkn (.inr (by omega)));generalize f (x k) c=y at *;have q1:decide (0<y)=false:=by simpa using hpos
    clear hbc fk hpos;go_wp2_with fail;refine CC.o.mono ?_;rintro e w1 ⟨rfl,rfl⟩;clear CC;go_wp2_with fail;go_roundw
    case rel=>exact⟨x,pa,n,b,ah,c+1,S2.o,hkn,by omega,by omega,by go_num,HN.o ▸ Q1.o,R0.o,R1.o,R2.o,B1.o⟩
    case measure=>simp[intOf];omega
  have hc17:c=17:=by omega
  subst hc17;have S2:=yH (S1.o.next HI.o);have hr:=aKn (P:=Tryz.prog) wr 41 68 Tryz.underlying41 (Tryz.sizeOf68 wr) g off N cap hN0 c1
  have Q2:Hid (Que wr w.heap.size 68 (.slice (some (aJh g off cap)) (N - 1) (cap - 1)) (qL x (k+1) n)):=yH (by
   have q:=Q1.o;rw[HN.o,aNb x hkn]at q;have hl:N=(qL x (k+1) n).length+1:=by rw[←HN.o,aNb x hkn];rfl
   rw[hl]at q ⊢;exact q.next)
  clear Q1;go_wp2_with fail
  go_roundg (17 - (k+1))
  case rel=>exact⟨x,pa,n,b,ah,k+1,S2.o,by omega,by omega,Q2.o,R0.o,R1.o,R2.o,B1.o⟩
  case measure=>omega
 have hkn':k=n:=by omega
 subst hkn';have hN0:N=0:=by omega
 subst hN0;have D:=yH (S1.o.done HI.o);clear hkm hNk hN c5 HN hlt hkn c1 hn16;unfold maxLen at c2
 go_wp2_with first
  | ((with_reducible refine wpList_load_row ?_ 387 (.tmp 5) ?_ (w.heap.size+1) ?_ 387 (ahA ah) (0,0) _ R1.o.out Tryz.underlying387 ?_ (aD2 _) ?_);exact rfl;exact rfl;exact rfl;exact rfl)
  | ((with_reducible refine wpList_store_row ?_ 387 (.tmp 4) (.tmp 46) ?_ w.heap.size (ahA ah) ?_ ?_ 387 _ R0.o.out (aD2 _) (by simp only[aEb]) (aNe _) ?_);exact rfl;exact rfl;exact rfl;exact rfl)
 have K9:=R0.o.row (cs:=ahA ah);have B9:=below_setRow B1.o yL (ahA ah);refine bodyPost_ret (v:=.agg (ahA ah)) (results_cell_row rfl _ _ w.heap.size 387 (ahA ah) (0,0) _ rfl K9 Tryz.underlying387 rfl (aD2 _)) rfl ?_;exact⟨b,_,ah,rfl,D.o,S1.o.aha,S1.o.ah0,B9⟩
theorem pAI{w w':World}{e:TypeId}(h:Below w.heap.size w w'):aM8 e [] w (.returned (.slice none 0 0)) w':=⟨_,rfl,⟨rfl,.inl ⟨rfl,rfl⟩⟩,h⟩
theorem pshort_any{w:World}{v:Value}{f:Int→Int→Int}{a b:Int}(h:IsG w v f)(hI:GInv f 4398046511104)(ha:In8 a)(hb:In8 b):
  Calls Tryz.prog 260 #[v,.int .u8 a,.int .u8 b] w (aM8 68 (aAz f a b) w):=by
 have C1:=yH (aLu a w);have C2:=yH (aLu b w)
 by_cases c1:inP a
 ·rw[aA6 c1]at C1
  by_cases c2:inP b
  ·rw[aA6 c2]at C2;have CS:=yH (spread_any h hI c1);have HI:=yH hI;have HA:=yH c1;have HB:=yH c2;have hz:=aGu.1;obtain⟨b1,b2⟩:=c2;clear h hI ha hb c1;go_enter Tryz.func260,Tryz.ntmps260;go_wp2_with fail;refine C1.o.mono ?_;rintro e w1 ⟨rfl,rfl⟩;clear C1;go_wp2_with fail;refine C2.o.mono ?_;rintro e w1 ⟨rfl,rfl⟩;clear C2;go_wp2_with fail;refine CS.o.mono ?_;rintro e w1 ⟨bb,pos,ah,rfl,hS,ha0,hah,hB⟩;have SP:=yH hS;have A0:=yH ha0;have AH:=yH hah;have B1:=yH hB;have Z:=yH (Blk.new w1 (ahA fun _=>0) 387);have E1:=World.setRow_alloc_new w1 (ahA fun _=>0) (ahA ah) 387;have B2:=yH (B1.o.alloc B1.o.size (.cells (ahA ah) 387));have K2:=yH (Blk.new w1 (ahA ah) 387);have d2:=K2.o.ahAt (p:=b) (by omega) (by omega);clear hS ha0 hah hB CS
   by_cases hr:bb b=true∧b≠a
   ·obtain⟨hr1,hr2⟩:=hr;obtain⟨D,D1,D15,D2,D3,D4,D5⟩:=SP.o.short HI.o HA.o hr1 hr2;have hin:=SP.o.inp _ (SP.o.par b hr1 hr2).1
    have q0:(ah b==0)=false:=by
     unfold inP at hin;simp;omega
    have CT:=yH (turned_any (w:=w1.alloc (.cells (ahA ah) 387)) (g:=w1.heap.size) (off:=0) (ah:=ah) (p:=b) (n:=D+1) (by simp) (fun c hc=>by rw[Nat.zero_add,K2.o.cell,aKl ah hc]) (fun i hi=>D3 i (by omega)) (fun i j hij hj=>D4 i j hij (by omega)) (.inl (by rw[aCr,D2];exact A0.o)) (by omega) (by omega));rw[←D5]at CT;clear D3 D4 D5 D2 hin hr1 hr2;generalize aAz f a b=L at *;generalize ah b=y at *;go_wp2_with ((with_reducible refine wpList_store_row ?_ 387 (.tmp 7) (.tmp 18) ?_ w1.heap.size (ahA ah) ?_ ?_ 387 _ Z.o.out (aD2 _) (by simp only[aEb]) (aNe _) ?_);exact rfl;exact rfl;exact rfl;exact rfl;rw[E1]);refine CT.o.mono ?_;rintro e w2 ⟨v2,rfl,hrow,hb2⟩;have R2:=yH (hrow.base (b':=w.heap.size) (by have:=B2.o.size;simpa using this));have B3:=yT B2 hb2;clear hrow hb2 CT;go_wp2_with fail;refine bodyPost_ret (v:=v2) (by simp[results,Tryz.results260,go_sem]) rfl ?_;exact⟨v2,rfl,R2.o,B3.o⟩
   have hy:ah b=0:=by
    by_cases hba:b=a
    ·rw[hba];exact A0.o
    refine AH.o b ?_
    cases hc:bb b with
    | false=>rfl
    | true=>exact absurd ⟨hc,hba⟩ hr
   have hL:aAz f a b=[]:=by
    by_cases hba:b=a
    ·unfold aAz;rw[if_neg (fun h=>h.2.2.1 hba.symm)]
    exact SP.o.no HI.o (fun hc=>hr ⟨hc,hba⟩)
   have HL:=yH hL;rw[hy]at d2;clear hr hL hy;go_wp2_with ((with_reducible refine wpList_store_row ?_ 387 (.tmp 7) (.tmp 18) ?_ w1.heap.size (ahA ah) ?_ ?_ 387 _ Z.o.out (aD2 _) (by simp only[aEb]) (aNe _) ?_);exact rfl;exact rfl;exact rfl;exact rfl;rw[E1]);refine bodyPost_ret (v:=.slice none 0 0) (by simp[results,Tryz.results260,go_sem]) rfl ?_;rw[HL.o];exact pAI B2.o
  rw[aDg c2]at C2;rw[show aAz f a b=[] by unfold aAz;rw[if_neg (fun h=>c2 h.2.1)]];clear h hI ha hb c1 c2;go_enter Tryz.func260,Tryz.ntmps260;go_wp2_with fail;refine C1.o.mono ?_;rintro e w1 ⟨rfl,rfl⟩;go_wp2_with fail;refine C2.o.mono ?_;rintro e w1 ⟨rfl,rfl⟩;go_wp2_with fail;refine bodyPost_ret (v:=.slice none 0 0) (by simp[results,Tryz.results260,go_sem]) rfl ?_;exact pAI yZ
 rw[aDg c1]at C1;rw[show aAz f a b=[] by unfold aAz;rw[if_neg (fun h=>c1 h.1)]];clear h hI ha hb c1 C2;go_enter Tryz.func260,Tryz.ntmps260;go_wp2_with fail;refine C1.o.mono ?_;rintro e w1 ⟨rfl,rfl⟩;go_wp2_with fail;refine bodyPost_ret (v:=.slice none 0 0) (by simp[results,Tryz.results260,go_sem]) rfl ?_;exact pAI yZ
end Go.Proofs.YtngnfdnfpiiclaaGreat
