/- Pieces of one proof. -/
import Derived.Test.YtaeocliklpcgmaaGreatP03
import Derived.Laws.Rows
import Derived.Laws.Tables
import Derived.Laws.CopyOwn
import Derived.Deep.MidRow
import Derived.Deep.WholeRow
set_option linter.all false
set_option maxHeartbeats 64000000
set_option maxRecDepth 100000
namespace Go.Proofs.YtaeocliklpcgmaaGreat
open Go.RowKit
structure WayX(f:Int→Int→Int)(s t:Int)(x:Nat→Int)(m:Nat):Prop where
 x0:x 0=s
 xm:x m=t
 edge:∀i,i<m→0<f (x i) (x (i+1))
 ne:∀i j,i<j→j≤m→x i≠x j
 inp:∀i,i≤m→inP (x i)
 m1:1≤m
 m15:m≤15
 least:∀k,wk f k s t→m≤k
def wayX(f:Int→Int→Int)(s t:Int)(i:Nat):Int:=(aAs f s t).getD i 0
theorem wayX_of{f:Int→Int→Int}{B:Int}(h:GInv f B){s t:Int}(hne:aAs f s t≠[]):∃m,(aAs f s t).length=m+1∧WayX f s t (wayX f s t) m:=by
 unfold wayX;unfold aAs at hne ⊢
 by_cases hc:inP s∧inP t∧s≠t∧inS f s 16 t=true
 ·rw[if_pos hc];obtain⟨hs,ht,hst,hr⟩:=hc;have hat:=goS_at h (dst f s t) s hs hr rfl;have hlen:=aDn f t (dst f s t) s;obtain⟨d1,d2,d3⟩:=aC9 hr
  have hx:∀i (hi:i<(goS f t (dst f s t) s).length),(goS f t (dst f s t) s).getD i 0=(goS f t (dst f s t) s)[i]:=fun i hi=>by
   rw[List.getD_eq_getElem?_getD,List.getElem?_eq_getElem hi];rfl
  have hm1:1≤dst f s t:=by
   rcases Nat.eq_zero_or_pos (dst f s t)with h0|h0
   ·rw[h0]at d1;exact absurd (beq_iff_eq.1 (show(t==s)=true from d1)).symm hst
   exact h0
  refine⟨dst f s t,hlen,⟨?_,?_,fun i hi=>?_,fun i j hij hj=>?_,fun i hi=>?_,hm1,?_,fun k hk=>?_⟩⟩
  ·rw[hx 0 (by omega),goS_head]
  ·rw[hx _ (by omega)];exact goS_last h hs hr rfl
  ·rw[hx i (by omega),hx (i+1) (by omega)];exact((hat i (by omega)).2.2.2 (by omega)).1
  ·rw[hx i (by omega),hx j (by omega)];intro e;have h1:=(hat i (by omega)).2.2.1;have h2:=(hat j (by omega)).2.2.1;rw[e]at h1;omega
  ·rw[hx i (by omega)];exact(hat i (by omega)).1
  ·obtain⟨m,hm,hw⟩:=(aBu h s 16 t).1 hr;have:=aNk h hw;rcases Nat.lt_or_ge 15 (dst f s t)with hlt|hge
   ·rw[d3 15 hlt]at this;cases this
   exact hge
  rcases Nat.lt_or_ge k (dst f s t)with hlt|hge
  ·have:=(aBu h s k t).2 ⟨k,Nat.le_refl _,hk⟩;rw[d3 k hlt]at this;cases this
  exact hge
 rw[if_neg hc]at hne;exact absurd rfl hne
theorem way_none{f:Int→Int→Int}{B:Int}(h:GInv f B){s t:Int}(hs:inP s)(ht:inP t)(hst:s≠t)(h0:aAs f s t=[]):∀k,¬wk f k s t:=by
 intro k hk;unfold aAs at h0;rw[if_pos ⟨hs,ht,hst,aEd (by omega) (aNk h hk)⟩]at h0;have:=aDn f t (dst f s t) s;rw[h0]at this;simp at this
theorem aKb{f:Int→Int→Int}{a b n p q:Int}(h1:¬(p=b∧q=a))(h2:¬(p=a∧q=b)):aCd f a b n p q=f p q:=by
 unfold aCd;rw[if_neg h1,if_neg h2]
theorem pushF_at{f:Int→Int→Int}{a b n:Int}(h:a≠b):aCd f a b n a b=f a b - n:=by
 unfold aCd;rw[if_neg (fun e=>h e.1),if_pos ⟨rfl,rfl⟩]
def aDh(f:Int→Int→Int)(x:Nat→Int)(n:Int):Nat→(Int→Int→Int)
 | 0=>f
 | i+1=>aCd (aDh f x n i) (x i) (x (i+1)) n
def capX(f:Int→Int→Int)(x:Nat→Int)(n:Int):Nat→Int
 | 0=>n
 | i+1=>min (capX f x n i) (f (x i) (x (i+1)))
def flX(x:Nat→Int)(n:Int):Nat→List Fw
 | 0=>[]
 | i+1=>flX x n i++[⟨x i,x (i+1),n⟩]
theorem aNl(x:Nat→Int)(n:Int):∀i,(flX x n i).length=i
 | 0=>rfl
 | i+1=>by show(flX x n i++[_]).length=_;rw[List.length_append,aNl x n i];rfl
theorem capX_le(f:Int→Int→Int)(x:Nat→Int)(n:Int):∀i,capX f x n i≤n
 | 0=>Int.le_refl _
 | i+1=>Int.le_trans (Int.min_le_left _ _) (capX_le f x n i)
theorem aO7(f:Int→Int→Int)(x:Nat→Int)(n:Int):∀i j,j<i→capX f x n i≤f (x j) (x (j+1))
 | i+1,j,h=>by
  by_cases e:j=i
  ·subst e;exact Int.min_le_right _ _
  exact Int.le_trans (Int.min_le_left _ _) (aO7 f x n i j (by omega))
theorem capX_pos{f:Int→Int→Int}{x:Nat→Int}{n:Int}(h0:1≤n):∀i,(∀j,j<i→0<f (x j) (x (j+1)))→1≤capX f x n i
 | 0,_=>h0
 | i+1,h=>by
  have h1:=capX_pos h0 i (fun j hj=>h j (by omega));have h2:=h i (by omega);show 1≤min _ _;omega
theorem capX_is(f:Int→Int→Int)(x:Nat→Int)(n:Int):∀i,capX f x n i=n∨∃j,j<i∧capX f x n i=f (x j) (x (j+1))
 | 0=>.inl rfl
 | i+1=>by
  show min (capX f x n i) (f (x i) (x (i+1)))=n∨∃j,j<i+1∧min (capX f x n i) (f (x i) (x (i+1)))=f (x j) (x (j+1));rcases Int.le_total (capX f x n i) (f (x i) (x (i+1)))with h|h
  ·rw[Int.min_eq_left h];rcases capX_is f x n i with h1|⟨j,h1,h2⟩
   ·exact .inl h1
   exact .inr ⟨j,by omega,h2⟩
  rw[Int.min_eq_right h];exact .inr ⟨i,by omega,rfl⟩
variable{f:Int→Int→Int}{s t:Int}{x:Nat→Int}{m:Nat}{n:Int}
theorem aDx(h:WayX f s t x m):∀i j,i≤j→j<m→aDh f x n i (x j) (x (j+1))=f (x j) (x (j+1))
 | 0,j,_,_=>rfl
 | i+1,j,hij,hj=>by
  show aCd (aDh f x n i) (x i) (x (i+1)) n (x j) (x (j+1))=_;rw[aKb (fun e=>h.ne i (j+1) (by omega) (by omega) e.2.symm) (fun e=>h.ne i j (by omega) (by omega) e.1.symm)];exact aDx h i j (by omega) hj
theorem aJj(h:WayX f s t x m):∀i j,j<i→i≤m→aDh f x n i (x j) (x (j+1))=f (x j) (x (j+1)) - n
 | i+1,j,hj,hi=>by
  show aCd (aDh f x n i) (x i) (x (i+1)) n (x j) (x (j+1))=_
  by_cases e:j=i
  ·subst e;rw[pushF_at (h.ne j (j+1) (by omega) (by omega)),aDx h j j yL (by omega)]
  rw[aKb (fun e2=>h.ne j (i+1) (by omega) (by omega) e2.1) (fun e2=>h.ne j i (by omega) (by omega) e2.1)];exact aJj h i j (by omega) (by omega)
theorem aIa{B:Int}(hI:GInv f B)(h:WayX f s t x m)(h1:1≤n)(h2:∀j,j<m→n≤f (x j) (x (j+1))):∀i,i≤m→GInv (aDh f x n i) B
 | 0,_=>hI
 | i+1,hi=>(aIa hI h h1 h2 i (by omega)).push h1 (by rw[aDx h i i yL (by omega)];exact h2 i (by omega))
theorem aIx(h1:0≤n):∀i p q,0<aDh f x n i p q→0<f p q∨∃j,j<i∧p=x (j+1)∧q=x j
 | 0,p,q,h=>.inl h
 | i+1,p,q,h=>by
  have h:0<aCd (aDh f x n i) (x i) (x (i+1)) n p q:=h
  by_cases c1:p=x (i+1)∧q=x i
  ·exact .inr ⟨i,by omega,c1⟩
  have h2:0<aDh f x n i p q:=by
   by_cases c2:p=x i∧q=x (i+1)
   ·unfold aCd at h;rw[if_neg c1,if_pos c2]at h;rw[c2.1,c2.2];omega
   rw[aKb c1 c2]at h;exact h
  rcases aIx h1 i p q h2 with h3|⟨j,h3,h4⟩
  ·exact .inl h3
  exact .inr ⟨j,by omega,h4⟩
def aMi(f:Int→Int→Int)(d:Int→Nat)(i:Nat):Bool:=decide (0<f (((i/16:Nat):Int)+1) (((i%16:Nat):Int)+1)) && (d (((i%16:Nat):Int)+1)==d (((i/16:Nat):Int)+1)+1)
def aKx(f:Int→Int→Int)(d:Int→Nat):Nat:=(List.range 256).countP (aMi f d)
theorem tightN_le(f:Int→Int→Int)(d:Int→Nat):aKx f d≤256:=by
 have:=List.countP_le_length (p:=aMi f d) (l:=List.range 256);simpa [aKx]using this
theorem pair_ix{p q:Int}(hp:inP p)(hq:inP q):∃i,i<256∧((i/16:Nat):Int)+1=p∧((i%16:Nat):Int)+1=q:=by
 unfold inP at hp hq;refine⟨(p.toNat - 1)*16+(q.toNat - 1),by omega,by omega,by omega⟩
theorem aQ9{p q:Nat→Bool}{l:List Nat}(h:∀x∈l,p x=true→q x=true){k:Nat}(hk:k∈l)(h1:q k=true)(h2:p k=false):l.countP p<l.countP q:=by
 obtain⟨a,b,rfl⟩:=List.append_of_mem hk;have ha:=List.countP_mono_left (l:=a) (p:=p) (q:=q) (fun x hx=>h x (by simp[hx]));have hb:=List.countP_mono_left (l:=b) (p:=p) (q:=q) (fun x hx=>h x (by simp[hx]));rw[List.countP_append,List.countP_append,List.countP_cons_of_pos h1,List.countP_cons_of_neg (by simp[h2])];omega
structure Lab(f:Int→Int→Int)(s t:Int)(d:Int→Nat):Prop where
 s0:d s=0
 t16:d t≤16
 le:∀u v,0<f u v→d v≤d u+1
theorem Lab.way{d:Int→Nat}(h:Lab f s t d)(hw:WayX f s t x m):∀i,i≤m→d (x i)≤i
 | 0,_=>by rw[hw.x0,h.s0];exact Nat.le_refl _
 | i+1,hi=>by
  have h1:=h.way hw i (by omega);have h2:=h.le _ _ (hw.edge i (by omega));omega
theorem Lab.rest{d:Int→Nat}(h:Lab f s t d)(hw:WayX f s t x m):∀k,k≤m→d (x m)≤d (x (m - k))+k
 | 0,_=>Nat.le_refl _
 | k+1,hk=>by
  have h1:=h.rest hw k (by omega);have h2:=h.le _ _ (hw.edge (m - (k+1)) (by omega));rw[show m - (k+1)+1=m - k by omega]at h2;omega
def dstL(f:Int→Int→Int)(s v:Int):Nat:=if inS f s 16 v=true then dst f s v else 16
theorem dst_lab{B:Int}(hI:GInv f B)(hw:WayX f s t x m):Lab f s t (dstL f s)∧dstL f s t=m:=by
 have hdl:∀v,dstL f s v≤16:=fun v=>by
  unfold dstL;split
  ·rename_i hv;exact(aC9 hv).2.1
  exact Nat.le_refl _
 refine⟨⟨?_,hdl t,fun u v huv=>?_⟩,?_⟩
 ·have h0:inS f s 0 s=true:=by show(s==s)=true;simp
  unfold dstL;rw[if_pos (aEd (by omega) h0)];exact aKw (by omega) h0 (fun k hk=>by omega)
 ·by_cases hu:inS f s 16 u=true
  ·obtain⟨d1,d2,d3⟩:=aC9 hu;obtain⟨k,k1,k2⟩:=(aBu hI s _ u).1 d1;have hv:wk f (k+1) s v:=aO4 k2 (wk_one huv);have hv2:=aEd (m:=16) (by omega) (aNk hI hv);obtain⟨e1,e2,e3⟩:=aC9 hv2;unfold dstL;rw[if_pos hu,if_pos hv2];rcases Nat.lt_or_ge (dst f s u+1) (dst f s v)with hlt|hge
   ·have:=e3 _ hlt;rw[(aBu hI s _ v).2 ⟨k+1,by omega,hv⟩]at this
    cases this
   exact hge
  have:dstL f s u=16:=by unfold dstL;rw[if_neg hu]
  rw[this];have:=hdl v;omega
 have hwk:∀i,i≤m→wk f i s (x i):=by
  intro i
  induction i with
  | zero=>intro _;exact hw.x0.symm
  | succ i ih=>intro hi;exact aO4 (ih (by omega)) (wk_one (hw.edge i (by omega)))
 have hm:=hwk m yL;rw[hw.xm]at hm;have hin:inS f s m t=true:=(aBu hI s m t).2 ⟨m,Nat.le_refl _,hm⟩;have h15:=hw.m15;unfold dstL;rw[if_pos (aEd (by omega) hin)];refine aKw (by omega) hin fun k hk=>?_
 cases hc:inS f s k t with
 | false=>rfl
 | true=>
  obtain⟨j,j1,j2⟩:=(aBu hI s k t).1 hc;have:=hw.least j j2;omega
theorem Lab.push{B:Int}(hI:GInv f B){d:Int→Nat}(h:Lab f s t d)(hw:WayX f s t x m)(hd:∀i,i≤m→d (x i)=i)(h1:1≤n)(h2:∀j,j<m→n≤f (x j) (x (j+1)))(h3:∃j,j<m∧n=f (x j) (x (j+1))):
  Lab (aDh f x n m) s t d∧aKx (aDh f x n m) d+1≤aKx f d:=by
 refine⟨⟨h.s0,h.t16,fun u v huv=>?_⟩,?_⟩
 ·rcases aIx (by omega) m u v huv with q|⟨j,j1,rfl,rfl⟩
  ·exact h.le u v q
  rw[hd j (by omega),hd (j+1) (by omega)];omega
 obtain⟨j,j1,j2⟩:=h3;obtain⟨k,k1,k2,k3⟩:=pair_ix (hw.inp j (by omega)) (hw.inp (j+1) (by omega));refine aQ9 (fun i hi hp=>?_) (List.mem_range.2 k1) ?_ ?_
 ·unfold aMi at hp ⊢;rw[Bool.and_eq_true,decide_eq_true_eq,beq_iff_eq]at hp ⊢;obtain⟨p1,p2⟩:=hp;refine⟨?_,p2⟩;rcases aIx (by omega) m _ _ p1 with q|⟨i',i1,e1,e2⟩
  ·exact q
  rw[e1,e2,hd i' (by omega),hd (i'+1) (by omega)]at p2;omega
 ·unfold aMi;rw[k2,k3,Bool.and_eq_true,decide_eq_true_eq,beq_iff_eq,hd j (by omega),hd (j+1) (by omega)];exact⟨hw.edge j j1,rfl⟩
 unfold aMi;rw[k2,k3,aJj hw m j j1 yL,←j2];simp
def Bud(f:Int→Int→Int)(s t:Int)(k:Nat):Prop:=∃d,Lab f s t d∧k+(16 - d t)*257+aKx f d≤4112
theorem Bud.start(f:Int→Int→Int)(s t:Int):Bud f s t 0:=by
 refine⟨fun _=>0,⟨rfl,by omega,fun _ _ _=>by omega⟩,?_⟩
 have:aKx f (fun _=>0)=0:=by
  unfold aKx;rw[List.countP_eq_zero];intro i _;unfold aMi;simp
 rw[this];dsimp only;omega
theorem Bud.le{k:Nat}(h:Bud f s t k):k≤4112:=by
 obtain⟨d,_,h⟩:=h;omega
theorem Bud.next{B:Int}{k:Nat}(hI:GInv f B)(h:Bud f s t k)(hw:WayX f s t x m)(h1:1≤n)(h2:∀j,j<m→n≤f (x j) (x (j+1)))(h3:∃j,j<m∧n=f (x j) (x (j+1))):
  Bud (aDh f x n m) s t (k+1):=by
 obtain⟨d,hd,hb⟩:=h;have hup:=hd.way hw;have hre:=hd.rest hw;have ht:=hw.xm;have hm15:=hw.m15;have hdm:=hup m yL;rw[ht]at hdm
 by_cases he:d t=m
 ·have hall:∀i,i≤m→d (x i)=i:=fun i hi=>by
   have q1:=hup i hi;have q2:=hre (m - i) (by omega);rw[ht,show m - (m - i)=i by omega]at q2;omega
  obtain⟨l1,l2⟩:=hd.push hI hw hall h1 h2 h3;exact⟨d,l1,by omega⟩
 obtain⟨l1,l2⟩:=dst_lab hI hw;have hup:=l1.way hw;have hre:=l1.rest hw
 have hall:∀i,i≤m→dstL f s (x i)=i:=fun i hi=>by
  have q1:=hup i hi;have q2:=hre (m - i) (by omega);rw[ht,show m - (m - i)=i by omega]at q2;omega
 obtain⟨l3,l4⟩:=l1.push hI hw hall h1 h2 h3;have:=tightN_le f (dstL f s);refine⟨dstL f s,l3,?_⟩;rw[l2];omega
end Go.Proofs.YtaeocliklpcgmaaGreat
namespace Go.Proofs.YtaeocliklpcgmaaGreat
open Go.RowKit
def aIb:(Int→Int→Int)→List Fw→Prop
 | _,[]=>True
 | f,x::r=>1≤x.am∧x.am≤f x.fr x.tt∧aIb (aCd f x.fr x.tt x.am) r
def aJz(f:Int→Int→Int)(l:List Fw):Int→Int→Int:=l.foldl (fun g x=>aCd g x.fr x.tt x.am) f
theorem aJk(f:Int→Int→Int)(a b:List Fw):aJz f (a++b)=aJz (aJz f a) b:=by unfold aJz;rw[List.foldl_append]
theorem aGc:∀(a:List Fw) (f:Int→Int→Int) (b:List Fw),aIb f (a++b)↔aIb f a∧aIb (aJz f a) b
 | [],f,b=>by simp[aIb,aJz]
 | x::a,f,b=>by
  have ih:=aGc a (aCd f x.fr x.tt x.am) b;show(1≤x.am∧x.am≤f x.fr x.tt∧aIb (aCd f x.fr x.tt x.am) (a++b))↔(1≤x.am∧x.am≤f x.fr x.tt∧aIb (aCd f x.fr x.tt x.am) a)∧aIb (aJz (aCd f x.fr x.tt x.am) a) b;rw[ih]
  constructor
  ·rintro⟨h1,h2,h3,h4⟩;exact⟨⟨h1,h2,h3⟩,h4⟩
  rintro⟨⟨h1,h2,h3⟩,h4⟩;exact⟨h1,h2,h3,h4⟩
theorem aNm(f:Int→Int→Int)(x:Nat→Int)(n:Int):∀i,aJz f (flX x n i)=aDh f x n i
 | 0=>rfl
 | i+1=>by
  show aJz f (flX x n i++[_])=_;rw[aJk,aNm f x n i];rfl
theorem flX_good{f:Int→Int→Int}{s t:Int}{x:Nat→Int}{m:Nat}{n:Int}(h:WayX f s t x m)(h1:1≤n)(h2:∀j,j<m→n≤f (x j) (x (j+1))):∀i,i≤m→aIb f (flX x n i)
 | 0,_=>trivial
 | i+1,hi=>by
  show aIb f (flX x n i++[_]);rw[aGc,aNm];refine⟨flX_good h h1 h2 i (by omega),h1,?_,trivial⟩;show n≤aDh f x n i (x i) (x (i+1));rw[aDx h i i yL (by omega)];exact h2 i (by omega)
theorem flX_mem{x:Nat→Int}{n:Int}{e:Fw}:∀{i:Nat},e∈flX x n i→∃j,j<i∧e=⟨x j,x (j+1),n⟩
 | i+1,h=>by
  have h:e∈flX x n i++[⟨x i,x (i+1),n⟩]:=h;rcases List.mem_append.1 h with h|h
  ·obtain⟨j,h1,h2⟩:=flX_mem h;exact⟨j,by omega,h2⟩
  exact⟨i,by omega,by simpa using h⟩
def netL:List Fw→Int→Int
 | [],_=>0
 | x::r,p=>(if x.tt=p then x.am else 0) - (if x.fr=p then x.am else 0)+netL r p
theorem aHj(p:Int):∀(a b:List Fw),netL (a++b) p=netL a p+netL b p
 | [],b=>by simp[netL]
 | x::a,b=>by
  show _+netL (a++b) p=(_+netL a p)+netL b p;rw[aHj p a b];omega
theorem netL_flX(x:Nat→Int)(n p:Int):∀i,netL (flX x n i) p=(if x i=p then n else 0) - (if x 0=p then n else 0)
 | 0=>by show(0:Int)=_;omega
 | i+1=>by
  show netL (flX x n i++[_]) p=_;rw[aHj,netL_flX x n p i];show _+((if x (i+1)=p then n else 0) - (if x i=p then n else 0)+0)=_;omega
def aEe(g:Nat→Int):Nat→Int
 | 0=>0
 | k+1=>aEe g k+g k
theorem aKy(g h:Nat→Int):∀k,aEe (fun i=>g i+h i) k=aEe g k+aEe h k
 | 0=>rfl
 | k+1=>by
  show aEe (fun i=>g i+h i) k+(g k+h k)=(aEe g k+g k)+(aEe h k+h k);rw[aKy g h k];omega
theorem aHk{g h:Nat→Int}:∀k,(∀i,i<k→g i=h i)→aEe g k=aEe h k
 | 0,_=>rfl
 | k+1,e=>by
  show aEe g k+g k=aEe h k+h k;rw[aHk k (fun i hi=>e i (by omega)),e k (by omega)]
theorem aKz(j:Nat)(c:Int):∀k,aEe (fun i=>if i=j then c else 0) k=if j<k then c else 0
 | 0=>by simp[aEe]
 | k+1=>by
  show aEe (fun i=>if i=j then c else 0) k+(if k=j then c else 0)=_;rw[aKz j c k]
  by_cases e:k=j
  ·subst e;rw[if_neg (by omega),if_pos rfl,if_pos (by omega)];omega
  rw[if_neg e]
  by_cases h:j<k
  ·rw[if_pos h,if_pos (by omega)];omega
  rw[if_neg h,if_neg (by omega)];omega
theorem sumTo_bd{g:Nat→Int}{B:Int}:∀k,(∀i,i<k→0≤g i∧g i≤B)→0≤aEe g k∧aEe g k≤B*k
 | 0,_=>by simp[aEe]
 | k+1,h=>by
  have h1:=sumTo_bd k (fun i hi=>h i (by omega));have h2:=h k (by omega);show 0≤aEe g k+g k∧aEe g k+g k≤B*((k+1:Nat):Int);rw[Int.natCast_succ,Int.mul_add,Int.mul_one];omega
def pU(i:Nat):Int:=((i/16:Nat):Int)+1
def pV(i:Nat):Int:=((i%16:Nat):Int)+1
def outK(f:Int→Int→Int)(S:Int→Bool)(k:Nat):Int:=aEe (fun i=>if S (pU i) && !S (pV i)then f (pU i) (pV i)else 0) k
def outS(f:Int→Int→Int)(S:Int→Bool):Int:=outK f S 256
theorem outK_bd{f:Int→Int→Int}{B:Int}(h:GInv f B)(S:Int→Bool)(k:Nat):0≤outK f S k∧outK f S k≤B*k:=by
 have hB:0≤B:=by have:=h.nn 1 1;have:=h.le 1 1;omega
 refine sumTo_bd k fun i _=>?_
 split
 ·exact⟨h.nn _ _,h.le _ _⟩
 exact⟨Int.le_refl _,hB⟩
theorem pUV_inj{i j:Nat}(h1:pU i=pU j)(h2:pV i=pV j):i=j:=by
 unfold pU at h1;unfold pV at h2;omega
theorem pair_pUV{p q:Int}(hp:inP p)(hq:inP q):∃i,i<256∧pU i=p∧pV i=q:=pair_ix hp hq
theorem pushF_back(f:Int→Int→Int)(a b n:Int):aCd f a b n b a=f b a+n:=by
 unfold aCd;rw[if_pos ⟨rfl,rfl⟩]
theorem outS_push(f:Int→Int→Int)(S:Int→Bool){a b:Int}(n:Int)(ha:inP a)(hb:inP b)(hab:a≠b):
  outS (aCd f a b n) S=outS f S+(if S b=true∧S a=false then n else 0) - (if S a=true∧S b=false then n else 0):=by
 obtain⟨k1,k1l,k1u,k1v⟩:=pair_pUV hb ha;obtain⟨k2,k2l,k2u,k2v⟩:=pair_pUV ha hb;have hk:k1≠k2:=by rintro rfl;exact hab (k2u.symm.trans k1u)
 have e:outS (aCd f a b n) S=aEe (fun i=>((if S (pU i) && !S (pV i)then f (pU i) (pV i)else 0)+(if i=k1 then(if S b=true∧S a=false then n else 0)else 0))+(if i=k2 then -(if S a=true∧S b=false then n else 0)else 0)) 256:=by
  refine aHk 256 fun i hi=>?_
  by_cases e1:i=k1
  ·subst e1;rw[if_pos rfl,if_neg hk,k1u,k1v];rw[pushF_back]
   cases S b <;> cases S a <;> simp
  by_cases e2:i=k2
  ·subst e2;rw[if_neg e1,if_pos rfl,k2u,k2v];rw[pushF_at hab]
   cases S b <;> cases S a <;> simp <;> omega
  rw[if_neg e1,if_neg e2];rw[aKb (fun h=>e1 (pUV_inj (h.1.trans k1u.symm) (h.2.trans k1v.symm))) (fun h=>e2 (pUV_inj (h.1.trans k2u.symm) (h.2.trans k2v.symm)))];omega
 rw[e,aKy,aKy,aKz,aKz,if_pos k1l,if_pos k2l];unfold outS outK;omega
theorem outS_way{f:Int→Int→Int}{s t:Int}{x:Nat→Int}{m:Nat}(h:WayX f s t x m)(n:Int)(S:Int→Bool):∀i,i≤m→outS (aDh f x n i) S=outS f S - (if S (x 0)=true then n else 0)+(if S (x i)=true then n else 0)
 | 0,_=>by show outS f S=_;omega
 | i+1,hi=>by
  show outS (aCd (aDh f x n i) (x i) (x (i+1)) n) S=_;rw[outS_push _ S n (h.inp i (by omega)) (h.inp (i+1) hi) (h.ne i (i+1) (by omega) hi),outS_way h n S i (by omega)]
  cases S (x i) <;> cases S (x (i+1)) <;> simp <;> omega
structure RS where
 f:Int→Int→Int
 left:Int
 out:List Fw
def aDv(s t:Int)(σ:RS):Prop:=σ.left≤0∨aAs σ.f s t=[]
instance(s t:Int)(σ:RS):Decidable (aDv s t σ):=by unfold aDv;infer_instance
def wayR(s t:Int)(σ:RS):RS:=
 ⟨aDh σ.f (wayX σ.f s t) (capX σ.f (wayX σ.f s t) σ.left ((aAs σ.f s t).length - 1)) ((aAs σ.f s t).length - 1),σ.left - capX σ.f (wayX σ.f s t) σ.left ((aAs σ.f s t).length - 1),
  σ.out++flX (wayX σ.f s t) (capX σ.f (wayX σ.f s t) σ.left ((aAs σ.f s t).length - 1)) ((aAs σ.f s t).length - 1)⟩
def stepR(s t:Int)(σ:RS):RS:=if aDv s t σ then σ else wayR s t σ
def itR(s t:Int)(σ:RS):Nat→RS
 | 0=>σ
 | k+1=>stepR s t (itR s t σ k)
theorem aNn{s t:Int}{σ:RS}{k:Nat}(h:aDv s t (itR s t σ k)):∀j,itR s t σ (k+j)=itR s t σ k
 | 0=>rfl
 | j+1=>by
  show stepR s t (itR s t σ (k+j))=_;rw[aNn h j];unfold stepR;rw[if_pos h]
structure RInv(f0:Int→Int→Int)(B s t want:Int)(k:Nat)(σ:RS):Prop where
 k5:k≤4113
 at_:σ=itR s t ⟨f0,want,[]⟩ k
 g:GInv σ.f B
 good:aIb f0 σ.out
 fold:aJz f0 σ.out=σ.f
 lo:0≤σ.left∨σ.left=want
 hi:σ.left≤want
 len:σ.out.length≤15*k
 bud:0<σ.left→Bud σ.f s t k
 net:∀p,netL σ.out p=(if t=p then want - σ.left else 0) - (if s=p then want - σ.left else 0)
 cut:∀S:Int→Bool,S s=true→S t=false→outS σ.f S=outS f0 S - (want - σ.left)
 els:∀e∈σ.out,inP e.fr∧inP e.tt∧e.fr≠e.tt∧1≤e.am∧e.am≤B
theorem RInv.start{f0:Int→Int→Int}{B:Int}(h:GInv f0 B)(s t want:Int):RInv f0 B s t want 0 ⟨f0,want,[]⟩:=by
 refine⟨by omega,rfl,h,trivial,rfl,.inr rfl,Int.le_refl _,by simp,fun _=>Bud.start f0 s t,fun p=>?_,fun S _ _=>?_,by simp⟩
 ·show(0:Int)=(if t=p then want - want else 0) - (if s=p then want - want else 0);rw[Int.sub_self];split <;> split <;> omega
 show outS f0 S=outS f0 S - (want - want);omega
theorem RInv.way{f0:Int→Int→Int}{B s t want:Int}{k:Nat}{σ:RS}(h:RInv f0 B s t want k σ)(hd:¬aDv s t σ):∃m n,(aAs σ.f s t).length=m+1∧WayX σ.f s t (wayX σ.f s t) m∧n=capX σ.f (wayX σ.f s t) σ.left m∧1≤n∧n≤σ.left∧(∀j,j<m→n≤σ.f (wayX σ.f s t j) (wayX σ.f s t (j+1)))∧
  wayR s t σ=⟨aDh σ.f (wayX σ.f s t) n m,σ.left - n,σ.out++flX (wayX σ.f s t) n m⟩:=by
 have h1:0<σ.left:=by
  rcases Int.lt_or_le 0 σ.left with q|q
  ·exact q
  exact absurd (.inl q) hd
 have h2:aAs σ.f s t≠[]:=fun e=>hd (.inr e)
 obtain⟨m,hm,hw⟩:=wayX_of h.g h2;refine⟨m,_,hm,hw,rfl,capX_pos (by omega) m hw.edge,capX_le _ _ _ _,fun j hj=>aO7 _ _ _ m j hj,?_⟩;unfold wayR;rw[hm,Nat.add_sub_cancel]
theorem RInv.step{f0:Int→Int→Int}{B s t want:Int}{k:Nat}{σ:RS}(h:RInv f0 B s t want k σ)(hd:¬aDv s t σ):RInv f0 B s t want (k+1) (wayR s t σ):=by
 obtain⟨m,n,hm,hw,hn,n1,n2,n3,he⟩:=h.way hd;have hpos:0<σ.left:=by omega
 have hk:=(h.bud hpos).le;rw[he];refine⟨by omega,?_,aIa h.g hw n1 n3 m yL,?_,?_,?_,?_,?_,fun hl=>?_,fun p=>?_,fun S hs ht=>?_,fun e hmem=>?_⟩
 ·rw[←he];show _=stepR s t (itR s t ⟨f0,want,[]⟩ k);rw[←h.at_];unfold stepR;rw[if_neg hd]
 ·show aIb f0 (σ.out++_);rw[aGc,h.fold];exact⟨h.good,flX_good hw n1 n3 m yL⟩
 ·show aJz f0 (σ.out++_)=_;rw[aJk,h.fold,aNm]
 ·left;show 0≤σ.left - n;omega
 ·show σ.left - n≤want;have:=h.hi;omega
 ·show(σ.out++_).length≤_;rw[List.length_append,aNl];have:=h.len;have:=hw.m15;omega
 ·have hl:0<σ.left - n:=hl;refine(h.bud hpos).next h.g hw n1 n3 ?_;rcases capX_is σ.f (wayX σ.f s t) σ.left m with q|⟨j,q1,q2⟩
  ·rw[←hn]at q;omega
  exact⟨j,q1,hn.trans q2⟩
 ·show netL (σ.out++_) p=(if t=p then want - (σ.left - n)else 0) - (if s=p then want - (σ.left - n)else 0);rw[aHj,h.net p,netL_flX,hw.x0,hw.xm];split <;> split <;> omega
 ·show outS (aDh σ.f (wayX σ.f s t) n m) S=outS f0 S - (want - (σ.left - n));rw[outS_way hw n S m yL,hw.x0,hw.xm,h.cut S hs ht,hs,ht];simp;omega
 have hmem:e∈σ.out++flX (wayX σ.f s t) n m:=hmem;rcases List.mem_append.1 hmem with q|q
 ·exact h.els e q
 obtain⟨j,j1,rfl⟩:=flX_mem q;have:=n3 j j1;have:=h.g.le (wayX σ.f s t j) (wayX σ.f s t (j+1));exact⟨hw.inp j (by omega),hw.inp (j+1) (by omega),hw.ne j (j+1) (by omega) (by omega),n1,by show n≤B;omega⟩
def aAk(f0:Int→Int→Int)(B s t want:Int)(σ:RS):Prop:=∃k,RInv f0 B s t want k σ∧aDv s t σ
theorem aAk.eq{f0:Int→Int→Int}{B s t want:Int}{σ τ:RS}(h:aAk f0 B s t want σ)(g:aAk f0 B s t want τ):σ=τ:=by
 obtain⟨k,h1,h2⟩:=h;obtain⟨j,g1,g2⟩:=g;have a1:=h1.at_;have a2:=g1.at_;rw[a1]at h2 ⊢;rw[a2]at g2 ⊢;rcases Nat.le_total k j with q|q
 ·have:=aNn h2 (j - k);rw[show k+(j - k)=j by omega]at this;exact this.symm
 have:=aNn g2 (k - j);rw[show j+(k - j)=k by omega]at this;exact this
theorem aRa{f:Int→Int→Int}{B:Int}(h:GInv f B){S:Int→Bool}(hS:∀a b,S a=true→0<f a b→S b=true):outS f S=0:=by
 have:outS f S=aEe (fun _=>0) 256:=by
  refine aHk 256 fun i _=>?_
  cases h1:S (pU i)with
  | false=>rfl
  | true=>
   cases h2:S (pV i)with
   | true=>rfl
   | false=>
    have h3:=h.nn (pU i) (pV i)
    by_cases h4:0<f (pU i) (pV i)
    ·rw[hS _ _ h1 h4]at h2;cases h2
    show f (pU i) (pV i)=0;omega
 rw[this]
 have hz:∀k,aEe (fun _=>0) k=0:=by
  intro k
  induction k with
  | zero=>rfl
  | succ k ih=>show aEe (fun _=>0) k+0=0;omega
 exact hz 256
theorem aAk.n0{f0:Int→Int→Int}{B s t want:Int}{σ:RS}(h:aAk f0 B s t want σ):0≤want - σ.left:=by
 obtain⟨k,h,_⟩:=h;have:=h.hi;omega
theorem aAk.nw{f0:Int→Int→Int}{B s t want:Int}{σ:RS}(h:aAk f0 B s t want σ)(hw:1≤want):want - σ.left≤want:=by
 obtain⟨k,h,_⟩:=h;have:=h.lo;omega
theorem aAk.g{f0:Int→Int→Int}{B s t want:Int}{σ:RS}(h:aAk f0 B s t want σ):GInv σ.f B:=by
 obtain⟨k,h,_⟩:=h;exact h.g
theorem aAk.cut{f0:Int→Int→Int}{B s t want:Int}{σ:RS}(h:aAk f0 B s t want σ)(S:Int→Bool)(hs:S s=true)(ht:S t=false):outS σ.f S=outS f0 S - (want - σ.left):=by
 obtain⟨k,h,_⟩:=h;exact h.cut S hs ht
theorem aAk.le_cut{f0:Int→Int→Int}{B s t want:Int}{σ:RS}(h:aAk f0 B s t want σ){S:Int→Bool}(hs:S s=true)(ht:S t=false):want - σ.left≤outS f0 S:=by
 have h1:=h.cut S hs ht;have h2:=(outK_bd h.g S 256).1;unfold outS at h1;show _≤outK f0 S 256;omega
def aK0(f:Int→Int→Int)(s:Int)(v:Int):Bool:=inS f s 16 v
theorem aNo{f:Int→Int→Int}{B:Int}(h:GInv f B)(s:Int):∀a b,aK0 f s a=true→0<f a b→aK0 f s b=true:=fun a b h1 h2=>by
 obtain⟨k,_,k2⟩:=(aBu h s 16 a).1 h1;exact aEd (by omega) (aNk h (aO4 k2 (wk_one h2)))
theorem aHl(f:Int→Int→Int)(s:Int):aK0 f s s=true:=aEd (n:=0) (by omega) (by show(s==s)=true;simp)
theorem aAk.less{f0:Int→Int→Int}{B s t want:Int}{σ:RS}(h:aAk f0 B s t want σ)(hs:inP s)(ht:inP t)(hst:s≠t)(hl:want - σ.left<want):
  aK0 σ.f s t=false∧outS f0 (aK0 σ.f s)=want - σ.left:=by
 have hg:=h.g;have hcut:=h.cut;obtain⟨k,hI,hD⟩:=h
 have h0:aAs σ.f s t=[]:=by
  rcases hD with q|q
  ·omega
  exact q
 have hno:=way_none hg hs ht hst h0
 have hrt:aK0 σ.f s t=false:=by
  cases hc:aK0 σ.f s t with
  | false=>rfl
  | true=>
   obtain⟨k,_,k2⟩:=(aBu hg s 16 t).1 hc;exact absurd k2 (hno k)
 refine⟨hrt,?_⟩;have h1:=hcut _ (aHl σ.f s) hrt;rw[aRa hg (aNo hg s)]at h1;omega
def aBs:Int:=4611686018427387904
theorem aRb{f0:Int→Int→Int}{s t:Int}{μ:RS}(h:aAk f0 4398046511104 s t aBs μ)(h0:GInv f0 4398046511104)(hst:s≠t):0≤aBs - μ.left∧aBs - μ.left≤1125899906842624:=by
 have h2:=h.le_cut (S:=fun v=>v==s) (by simp) (by simpa using fun e=>hst e.symm);have h3:=(outK_bd h0 (fun v=>v==s) 256).2;unfold outS at h2;have:=h.n0;omega
theorem most_cut{f0:Int→Int→Int}{s t:Int}{μ:RS}(h:aAk f0 4398046511104 s t aBs μ)(h0:GInv f0 4398046511104)(hs:inP s)(ht:inP t)(hst:s≠t):∃S:Int→Bool,S s=true∧S t=false∧outS f0 S=aBs - μ.left:=by
 have hb:=aRb h h0 hst;obtain⟨h1,h2⟩:=h.less hs ht hst (by unfold aBs at hb ⊢;omega);exact⟨_,aHl _ _,h1,h2⟩
theorem aO8{f0:Int→Int→Int}{s t want:Int}{σ μ:RS}(hR:aAk f0 4398046511104 s t want σ)(hM:aAk f0 4398046511104 s t aBs μ)(h0:GInv f0 4398046511104)(hs:inP s)(ht:inP t)(hst:s≠t)(hw:1≤want):
  want - σ.left=min want (aBs - μ.left):=by
 obtain⟨S,h1,h2,h3⟩:=most_cut hM h0 hs ht hst;have h4:=hR.le_cut h1 h2;have h5:=hR.nw hw
 by_cases hl:want - σ.left<want
 ·obtain⟨h6,h7⟩:=hR.less hs ht hst hl;have h8:=hM.le_cut (aHl σ.f s) h6;omega
 omega
def arr(f:Nat→Bool):Array Value:=Array.ofFn (n:=192) fun i=>Value.bool (f i)
theorem aA6(f:Nat→Bool):(arr f).size=192:=by simp[arr]
theorem aB7(f:Nat→Bool)(i:Nat)(h:i<192):(arr f)[i]? = some (.bool (f i)):=by simp[arr,h]
theorem aCa{f g:Nat→Bool}(h:∀i,i<192→f i=g i):arr f=arr g:=by
 unfold arr;congr 1;funext i;rw[h i i.2]
theorem aK1(f:Nat→Bool)(i:Nat)(b:Bool):(arr f).setIfInBounds i (.bool b)=arr (fun j=>if j=i then b else f j):=by
 apply Array.ext_getElem?;intro j
 by_cases hj:j<192
 ·rw[aB7 _ j hj]
  by_cases hi:i=j
  ·subst hi;rw[Array.getElem?_setIfInBounds_self_of_lt (by rw[aA6];exact hj)];simp
  rw[Array.getElem?_setIfInBounds_ne hi,aB7 _ j hj,if_neg (Ne.symm hi)]
 rw[Array.getElem?_eq_none (by simp[aA6];omega),Array.getElem?_eq_none (by rw[aA6];omega)]
theorem aDo(f:Nat→Bool):(arr f).all (·.oneCell')=true:=by
 rw[Array.all_eq_true];intro i hi;simp[arr,Value.oneCell']
attribute [irreducible] arr
def aE3(x:Nat):Value:=.agg (arr x.testBit)
theorem aBv(x:Nat):aE3 x=.agg (arr x.testBit):=rfl
def aFa(x y k:Nat):Nat:=(x%2 ^ k+y%2 ^ k)/2 ^ k
theorem aHa(x k:Nat):(x/2 ^ k)%2=if x.testBit k then 1 else 0:=by
 rw[Nat.testBit_eq_decide_div_mod_eq]
 by_cases h:x/2 ^ k%2=1
 ·simp[h]
 simp[h];omega
theorem carryN_le(x y k:Nat):aFa x y k≤1:=by
 have hp:=Nat.two_pow_pos k;have h1:=Nat.mod_lt x hp;have h2:=Nat.mod_lt y hp;unfold aFa;have:(x%2 ^ k+y%2 ^ k)/2 ^ k<2:=by rw[Nat.div_lt_iff_lt_mul hp];omega
 omega
theorem aNp(x k:Nat):x%2 ^ (k+1)=x%2 ^ k+2 ^ k*(x/2 ^ k%2):=by rw[Nat.pow_succ,Nat.mod_mul]
theorem aRc(x y k:Nat):aFa x y (k+1)=(aFa x y k+x/2 ^ k%2+y/2 ^ k%2)/2:=by
 have hp:=Nat.two_pow_pos k;unfold aFa
 rw[aNp,aNp,Nat.pow_succ,←Nat.div_div_eq_div_mul,
  show x%2 ^ k+2 ^ k*(x/2 ^ k%2)+(y%2 ^ k+2 ^ k*(y/2 ^ k%2))=(x%2 ^ k+y%2 ^ k)+2 ^ k*(x/2 ^ k%2+y/2 ^ k%2) by rw[Nat.mul_add];omega,
  Nat.add_mul_div_left _ _ hp,Nat.add_assoc]
theorem add_bit(x y k:Nat):(x+y).testBit k=decide ((aFa x y k+x/2 ^ k%2+y/2 ^ k%2)%2=1):=by
 have hp:=Nat.two_pow_pos k
 have e:(x+y)/2 ^ k=x/2 ^ k+y/2 ^ k+aFa x y k:=by
  unfold aFa
  rw[show x+y=(x%2 ^ k+y%2 ^ k)+2 ^ k*(x/2 ^ k+y/2 ^ k) by
   have h1:=Nat.div_add_mod x (2 ^ k);have h2:=Nat.div_add_mod y (2 ^ k);rw[Nat.mul_add];omega,Nat.add_mul_div_left _ _ hp]
  omega
 rw[Nat.testBit_eq_decide_div_mod_eq,e];congr 2;omega
theorem add_step(x y k:Nat):∃c:Nat,c≤1∧aFa x y k=c∧
  (x+y).testBit k=decide ((c+(if x.testBit k then 1 else 0)+(if y.testBit k then 1 else 0))%2=1)∧
  aFa x y (k+1)=(c+(if x.testBit k then 1 else 0)+(if y.testBit k then 1 else 0))/2:=
 ⟨_,carryN_le x y k,rfl,by rw[←aHa,←aHa];exact add_bit x y k,by rw[←aHa,←aHa];exact aRc x y k⟩
def aDc(x y k:Nat):Nat:=if x%2 ^ k<y%2 ^ k then 1 else 0
theorem aRd(x k:Nat):x%2 ^ (k+1)=x%2 ^ k+2 ^ k*(if x.testBit k then 1 else 0):=by rw[aNp,aHa]
theorem sub_step(x y k:Nat)(h:y≤x):
  (x - y).testBit k=decide (((if x.testBit k then 1 else 0:Int) - (if y.testBit k then 1 else 0) - aDc x y k)%2=1)∧
  (aDc x y (k+1):Int)=if(if x.testBit k then 1 else 0:Int) - (if y.testBit k then 1 else 0) - aDc x y k<0 then 1 else 0:=by
 have hp:=Nat.two_pow_pos k;have h1:=Nat.div_add_mod x (2 ^ k);have h2:=Nat.div_add_mod y (2 ^ k);have h1l:=Nat.mod_lt x hp;have h2l:=Nat.mod_lt y hp
 have e:(((x - y)/2 ^ k:Nat):Int)=(x/2 ^ k:Nat) - (y/2 ^ k:Nat) - aDc x y k:=by
  have e1:((x - y:Nat):Int)=(2 ^ k:Nat)*((x/2 ^ k:Nat) - (y/2 ^ k:Nat))+((x%2 ^ k:Nat) - (y%2 ^ k:Nat)):=by
   rw[Int.mul_sub,←Int.natCast_mul,←Int.natCast_mul];omega
  rw[Int.natCast_ediv,e1,Int.mul_add_ediv_left _ _ (by omega)];unfold aDc;split
  ·rw[show((x%2 ^ k:Nat):Int) - (y%2 ^ k:Nat)=(2 ^ k+(x%2 ^ k:Nat) - (y%2 ^ k:Nat):Nat)+((2 ^ k:Nat):Int)*(-1) by omega,Int.add_mul_ediv_left _ _ (by omega),Int.ediv_eq_zero_of_lt (by omega) (by omega)];omega
  rw[Int.ediv_eq_zero_of_lt (by omega) (by omega)];omega
 have bx:=aHa x k;have by':=aHa y k
 constructor
 ·rw[Nat.testBit_eq_decide_div_mod_eq];rw[decide_eq_decide];clear h1 h2 h1l h2l h;generalize (x - y)/2 ^ k=q at e ⊢;generalize x/2 ^ k=X at e bx;generalize y/2 ^ k=Y at e by'
  generalize aDc x y k=b at e ⊢;generalize x.testBit k=u at bx ⊢;generalize y.testBit k=v at by' ⊢
  cases u <;> cases v <;> simp only[Bool.false_eq_true,if_true,if_false]at bx by' ⊢ <;> omega
 unfold aDc at *;rw[aRd,aRd];generalize x%2 ^ k=a at *;generalize y%2 ^ k=b at *;generalize 2 ^ k=p at *;clear e h1 h2 bx by'
 cases x.testBit k <;> cases y.testBit k <;> simp <;> (repeat' split) <;> omega
theorem borrowN_le(x y k:Nat):aDc x y k≤1:=by unfold aDc;split <;> omega
theorem aO9(x y k:Nat)(h:x/2 ^ (k+1)=y/2 ^ (k+1)):
  (x.testBit k=y.testBit k→x/2 ^ k=y/2 ^ k)∧(x.testBit k≠y.testBit k→decide (y<x)=x.testBit k):=by
 have ex:x/2 ^ k=2*(x/2 ^ (k+1))+(if x.testBit k then 1 else 0):=by
  rw[←aHa,Nat.pow_succ,←Nat.div_div_eq_div_mul];omega
 have ey:y/2 ^ k=2*(y/2 ^ (k+1))+(if y.testBit k then 1 else 0):=by
  rw[←aHa,Nat.pow_succ,←Nat.div_div_eq_div_mul];omega
 constructor
 ·intro e;rw[ex,ey,h,e]
 intro hne
 cases hx:x.testBit k <;> cases hy:y.testBit k <;> simp[hx,hy]at hne ex ey
 ·have:x/2 ^ k<y/2 ^ k:=by omega
  have:=Nat.lt_of_div_lt_div this;simp;omega
 have:y/2 ^ k<x/2 ^ k:=by omega
 have:=Nat.lt_of_div_lt_div this;simp;omega
theorem aCb{P:Program}{ops:Array Oper}{rest:List Oper}{o:Oper}{a:Act}{w:World}{Q:Exit→Act→World→Prop}(hgd:o.guard=none)(t:TypeId)(parts:Array (Nat×Operand))(ho:o.op=.build t parts)
  (ps:Array (Nat×Value))(hp:(parts.map fun(i,x)=>(i,a.eval x))=ps)(cells:Array Value)(hrun:(Instr.build t ps).run P w=.ok (.agg cells) w)
  (h:wpList P ops Q rest (a.put o.dst (.agg cells)) w):wpList P ops Q (o::rest) a w:=
 wpList_plain hgd fun _ hK=>by
  unfold Oper.wp execOp;simp only[ho,hp,Sem.run_bind,hrun,Result.andThen_ok];exact hK _ _ h
theorem aRe{P:Program}{o:Oper}{a:Act}{w:World}{K:Act→World→Prop}{Q:Exit→Act→World→Prop}(t:TypeId)(parts:Array (Nat×Operand))(ho:o.op=.build t parts)
  (ps:Array (Nat×Value))(hp:(parts.map fun(i,x)=>(i,a.eval x))=ps)(cells:Array Value)(hrun:(Instr.build t ps).run P w=.ok (.agg cells) w)
  (h:K (a.put o.dst (.agg cells)) w):o.wp P a w K Q:=by
 unfold Oper.wp execOp;simp only[ho,hp,Sem.run_bind,hrun,Result.andThen_ok];exact h
theorem Blk.row{w:World}{g:Nat}{old cs:Array Value}{t:TypeId}(h:Blk w g old t):Blk (w.setRow g cs) g cs t:=setRow_heap w g old cs t (0,0) h
theorem Blk.rowOther{w:World}{g k:Nat}{cs cs':Array Value}{t:TypeId}(h:Blk w g cs t)(hk:g≠k):Blk (w.setRow k cs') g cs t:=by
 unfold Blk;rw[setRow_other w k g cs' hk];exact h
def aNq(v:Int→Int→Value):Array Value:=Array.ofFn (n:=289) fun i=>v ((i.val/17:Nat):Int) ((i.val%17:Nat):Int)
theorem aGy(v:Int→Int→Value):(aNq v).size=289:=by simp[aNq]
theorem aIc(v:Int→Int→Value){i:Nat}(h:i<289):(aNq v)[i]? = some (v ((i/17:Nat):Int) ((i%17:Nat):Int)):=by simp[aNq,h]
theorem gridA_at(v:Int→Int→Value){p q:Nat}(hp:p<17)(hq:q<17):(aNq v)[p*17+q]? = some (v p q):=by
 rw[aIc _ (by omega),show(p*17+q)/17=p by omega,show(p*17+q)%17=q by omega]
theorem gridA_set(v:Int→Int→Value){p q:Nat}(hp:p<17)(hq:q<17)(u:Value):(aNq v).setIfInBounds (p*17+q) u=aNq fun a b=>if a=p∧b=q then u else v a b:=by
 apply Array.ext_getElem?;intro j
 by_cases hj:j<289
 ·rw[aIc _ hj]
  by_cases hi:p*17+q=j
  ·subst hi;rw[Array.getElem?_setIfInBounds_self_of_lt (by rw[aGy];omega),show(p*17+q)/17=p by omega,show(p*17+q)%17=q by omega,if_pos ⟨rfl,rfl⟩]
  rw[Array.getElem?_setIfInBounds_ne hi,aIc _ hj,if_neg];rintro⟨e1,e2⟩;omega
 rw[Array.getElem?_eq_none (by simp[aGy];omega),Array.getElem?_eq_none (by rw[aGy];omega)]
def rowA(v:Int→Int→Value)(p:Int):Array Value:=Array.ofFn (n:=17) fun i=>v p ((i.val:Nat):Int)
theorem aEm(v:Int→Int→Value)(p:Int):(rowA v p).size=17:=by simp[rowA]
theorem aGz(v:Int→Int→Value)(p:Int){i:Nat}(h:i<17):(rowA v p)[i]? = some (v p i):=by simp[rowA,h]
def graC(f:Int→Int→Int)(b:Bool):Array Value:=Array.ofFn (n:=290) fun i=>if i.val=289 then .bool b else .int .i64 (f ((i.val/17:Nat):Int) ((i.val%17:Nat):Int))
theorem aK2(f:Int→Int→Int)(b:Bool):(graC f b).size=290:=by simp[graC]
theorem aK3(f:Int→Int→Int)(b:Bool):(graC f b)[289]? = some (.bool b):=by simp[graC]
theorem aKc(f:Int→Int→Int)(b:Bool){i:Nat}(h:i<289):(graC f b)[i]? = some (.int .i64 (f ((i/17:Nat):Int) ((i%17:Nat):Int))):=by
 have h1:i<290:=by omega
 have h2:i≠289:=by omega
 simp[graC,h1,h2]
theorem graC_at(f:Int→Int→Int)(b:Bool){p q:Nat}(hp:p<17)(hq:q<17):(graC f b)[p*17+q]? = some (.int .i64 (f p q)):=by
 rw[aKc _ _ (by omega),show(p*17+q)/17=p by omega,show(p*17+q)%17=q by omega]
theorem graC_set(f:Int→Int→Int)(b:Bool){p q:Nat}(hp:p<17)(hq:q<17)(n:Int):(graC f b).setIfInBounds (p*17+q) (.int .i64 n)=graC (updE f p q n) b:=by
 apply Array.ext_getElem?;intro j
 by_cases hj:j<289
 ·rw[aKc _ _ hj];unfold updE
  by_cases hi:p*17+q=j
  ·subst hi;rw[Array.getElem?_setIfInBounds_self_of_lt (by rw[aK2];omega),show(p*17+q)/17=p by omega,show(p*17+q)%17=q by omega,if_pos ⟨rfl,rfl⟩]
  rw[Array.getElem?_setIfInBounds_ne hi,aKc _ _ hj,if_neg];rintro⟨e1,e2⟩;omega
 by_cases h2:j=289
 ·subst h2;rw[Array.getElem?_setIfInBounds_ne (by omega),aK3,aK3]
 rw[Array.getElem?_eq_none (by simp[aK2];omega),Array.getElem?_eq_none (by rw[aK2];omega)]
theorem aIy{f g:Int→Int→Int}(b:Bool)(h:∀p q:Nat,p<17→q<17→f p q=g p q):graC f b=graC g b:=by
 unfold graC;congr 1
 funext i
 by_cases hi:i.val=289
 ·simp[hi]
 rw[if_neg hi,if_neg hi,h _ _ (by omega) (by omega)]
def capA(f:Int→Int→Int):Array Value:=aNq fun p q=>.int .i64 (f p q)
theorem aPa(f:Int→Int→Int):(capA f).size=289:=aGy _
theorem capA_get(f:Int→Int→Int){i:Nat}(h:i<289):(capA f)[i]? = some (.int .i64 (f ((i/17:Nat):Int) ((i%17:Nat):Int))):=aIc _ h
theorem cap_range{w:World}{g:Nat}{f:Int→Int→Int}{b:Bool}{t:TypeId}(h:Blk w g (graC f b) t):w.rangeAt g 0 (capA f).toList:=by
 intro j v hv
 have hj:j<289:=by
  rcases Nat.lt_or_ge j 289 with h|h
  ·exact h
  rw[List.getElem?_eq_none (by simp[aPa];omega)]at hv;cases hv
 rw[Nat.zero_add,h.cell j,aKc _ _ hj];rw[Array.getElem?_toList,capA_get _ hj]at hv;exact hv
theorem Blk.cap{w:World}{g:Nat}{f:Int→Int→Int}{b:Bool}{t:TypeId}(h:Blk w g (graC f b) t){p q:Int}(h0:0≤p)(h1:p<17)(h2:0≤q)(h3:q<17):w.cell? ⟨g,p.toNat*17+q.toNat,none⟩=some (.int .i64 (f p q)):=by
 rw[h.cell,graC_at f b (by omega) (by omega),Int.toNat_of_nonneg h0,Int.toNat_of_nonneg h2]
theorem Blk.capSet{w:World}{g:Nat}{f:Int→Int→Int}{b:Bool}{t:TypeId}(h:Blk w g (graC f b) t){p q:Int}(h0:0≤p)(h1:p<17)(h2:0≤q)(h3:q<17)(n:Int):
  Blk (w.setCell ⟨g,p.toNat*17+q.toNat,none⟩ (.int .i64 n)) g (graC (updE f p q n) b) t:=by
 have:=h.set (p.toNat*17+q.toNat) (.int .i64 n);rw[graC_set f b (by omega) (by omega),Int.toNat_of_nonneg h0,Int.toNat_of_nonneg h2]at this;exact this
theorem Blk.madeG{w:World}{g:Nat}{f:Int→Int→Int}{b:Bool}{t:TypeId}(h:Blk w g (graC f b) t):w.cell? ⟨g,289,none⟩=some (.bool b):=by rw[h.cell,aK3]
theorem build_gra0(w:World):(Instr.build 268 #[(1,.bool true)]).run Tryz.prog w=.ok (.agg (graC aG7 true)) w:=by
 have h:(Instr.build 268 #[(1,.bool true)]).run Tryz.prog=fun w=>.ok (.agg (graC aG7 true)) w:=by kernel_rfl
 rw[h]
theorem build_gra(f:Int→Int→Int)(w:World):(Instr.build 268 #[(0,.agg (capA f)),(1,.bool true)]).run Tryz.prog w=.ok (.agg (graC f true)) w:=by
 have h:(Instr.build 268 #[(0,.agg (capA f)),(1,.bool true)]).run Tryz.prog=fun w=>.ok (.agg (graC f true)) w:=by kernel_rfl
 rw[h]
theorem zero_caps:(∀w,(zeroValue 266).run Tryz.prog w=.ok (.agg (capA aG7)) w)∧(Tryz.prog.info? 266).map (·.size)=some 289:=
 zero_of_info (by kernel_rfl)
theorem info_caps(f:Int→Int→Int):(Tryz.prog.info? 266).map (·.size)=some (capA f).size:=by rw[aPa];exact zero_caps.2
theorem aRf(f:Int→Int→Int):(Tryz.prog.info? 266).map (·.size)=some (capA f).toList.length:=by rw[Array.length_toList];exact info_caps f
attribute [irreducible] graC capA rowA aNq
def mayG(p:Int):Bool:=decide (1≤p∧p≤16)
theorem aBj{p:Int}(h:inP p):mayG p=true:=by unfold mayG;unfold inP at h;simp;omega
theorem aEj{p:Int}(h:¬inP p):mayG p=false:=by unfold mayG;unfold inP at h;simp;omega
theorem gmay_any(p:Int)(w:World):Calls Tryz.prog 236 #[.int .u8 p] w (yS w (.bool (mayG p))):=by
 have hs:(¬1≤p∧mayG p=false)∨(1≤p∧p≤16∧mayG p=true)∨(1≤p∧¬p≤16∧mayG p=false):=by unfold mayG;simp;omega
 rcases hs with⟨h1,h2⟩|⟨h1,h3,h2⟩|⟨h1,h3,h2⟩
 all_goals
  rw[h2];clear h2;go_enter Tryz.func236,Tryz.ntmps236;go_wp2;go_ret;exact⟨rfl,rfl⟩
def outF(f:Int→Int→Int):Prop:=∀p q,¬(inP p∧inP q)→f p q=0
theorem GInv.outF{f:Int→Int→Int}{B:Int}(h:GInv f B):outF f:=h.out
theorem gcap_any{w:World}{g:Nat}{f:Int→Int→Int}{b:Bool}(h:Blk w g (graC f b) 268)(ho:outF f)(p q:Int):
  Calls Tryz.prog 225 #[.pointer (some ⟨g,0,none⟩),.int .u8 p,.int .u8 q] w (yS w (.int .i64 (f p q))):=by
 have C1:=yH (gmay_any p w);have C2:=yH (gmay_any q w)
 by_cases hp:inP p
 ·by_cases hq:inP q
  ·rw[aBj hp]at C1;rw[aBj hq]at C2;obtain⟨p1,p2⟩:=hp;obtain⟨q1,q2⟩:=hq;have d:=h.cap (p:=p) (q:=q) (by omega) (by omega) (by omega) (by omega);have p3:0≤p:=by omega
   have p4:p<17:=by omega
   have q3:0≤q:=by omega
   have q4:q<17:=by omega
   clear h ho;generalize f p q=n at *;go_enter Tryz.func225,Tryz.ntmps225;go_wp2_with fail;refine C1.out.mono ?_;rintro e w ⟨rfl,rfl⟩;go_wp2_with fail;refine C2.out.mono ?_;rintro e w ⟨rfl,rfl⟩;go_wp2_with fail;go_ret;exact⟨rfl,rfl⟩
  rw[aBj hp]at C1;rw[aEj hq]at C2;rw[ho p q (fun e=>hq e.2)];clear h ho hp hq;go_enter Tryz.func225,Tryz.ntmps225;go_wp2_with fail;refine C1.out.mono ?_;rintro e w ⟨rfl,rfl⟩;go_wp2_with fail;refine C2.out.mono ?_;rintro e w ⟨rfl,rfl⟩;go_wp2_with fail;go_ret;exact⟨rfl,rfl⟩
 rw[aEj hp]at C1;rw[ho p q (fun e=>hp e.1)];clear h ho hp;go_enter Tryz.func225,Tryz.ntmps225;go_wp2_with fail;refine C1.out.mono ?_;rintro e w ⟨rfl,rfl⟩;go_wp2_with fail;go_ret;exact⟨rfl,rfl⟩
theorem gcap_nil(p q:Int)(w:World):Calls Tryz.prog 225 #[.pointer none,.int .u8 p,.int .u8 q] w (yS w (.int .i64 0)):=by
 go_enter Tryz.func225,Tryz.ntmps225;go_wp2;go_ret;exact⟨rfl,rfl⟩
def aId(f:Int→Int→Int)(a b n:Int):Int:=if n<1 then 1 else if f a b<n then 11 else 0
def aF1(f:Int→Int→Int)(a b n:Int):Int→Int→Int:=if 1≤n∧n≤f a b then aCd f a b n else f
theorem gpush_any{w:World}{g:Nat}{f:Int→Int→Int}{B:Int}(h:Blk w g (graC f true) 268)(hI:GInv f B)(hB:B≤4611686018427387903){a b n:Int}(hn:In64 n):
  Calls Tryz.prog 212 #[.pointer (some ⟨g,0,none⟩),.int .u8 a,.int .u8 b,.int .i64 n] w fun e w'=>e=.returned (.int .i64 (aId f a b n))∧Blk w' g (graC (aF1 f a b n) true) 268∧Keep (·=g) w w':=by
 have KB:=yH h;have dm:=h.madeG;have C:=yH (gcap_any h hI.outF a b);obtain⟨n0,n1⟩:=hn
 by_cases h1:n<1
 ·have EE:=yH (show aId f a b n=1∧aF1 f a b n=f from⟨by unfold aId;rw[if_pos h1],by unfold aF1;rw[if_neg (by omega)]⟩);clear h hI C;go_enter Tryz.func212,Tryz.ntmps212;go_wp2;go_ret;exact⟨by rw[EE.out.1];rfl,by rw[EE.out.2];exact KB.out,Keep.refl _ _⟩
 by_cases h2:f a b<n
 ·have EE:=yH (show aId f a b n=11∧aF1 f a b n=f from⟨by unfold aId;rw[if_neg h1,if_pos h2],by unfold aF1;rw[if_neg (by omega)]⟩);clear h hI;obtain⟨x,hx⟩:∃x,f a b=x:=⟨_,rfl⟩;rw[hx]at C h2;clear hx;go_enter Tryz.func212,Tryz.ntmps212;go_wp2_with fail;refine C.out.mono ?_;rintro e w ⟨rfl,rfl⟩;go_wp2_with fail;go_ret;exact⟨by rw[EE.out.1];rfl,by rw[EE.out.2];exact KB.out,Keep.refl _ _⟩
 obtain⟨⟨a1,a2⟩,⟨b1,b2⟩,hab⟩:=hI.ends (p:=a) (q:=b) (by omega);have hbd:=hI.pair a b;have hnn:=hI.nn b a;have EE:=yH (show aId f a b n=0∧aF1 f a b n=updE (updE f a b (f a b - n)) b a (f b a+n)from⟨by unfold aId;rw[if_neg h1,if_neg h2],by unfold aF1;rw[if_pos (by omega)];rfl⟩);obtain⟨x,hx⟩:∃x,f a b=x:=⟨_,rfl⟩;obtain⟨y,hy⟩:∃y,f b a=y:=⟨_,rfl⟩;have hy2:updE f a b (x - n) b a=y:=by unfold updE;rw[if_neg (fun e=>hab e.1.symm),hy]
 rw[hx,hy]at EE;rw[hx]at C h2 hbd;rw[hy]at hbd hnn;have HX:=yH hx;have HY2:=yH hy2;clear h hI hx hy hy2 hab;go_enter Tryz.func212,Tryz.ntmps212;go_wp2_with fail;refine C.out.mono ?_;rintro e w ⟨rfl,rfl⟩;go_wp2_with fail
 refine aCi (by kernel_rfl) 14 16 [(.pointer (some ⟨g,0,none⟩)),(.int .u8 a),(.int .u8 b),(.pointer (some ⟨g,0,none⟩)),(.pointer (some ⟨g,0,none⟩)),(.pointer (some ⟨g,a.toNat*17,none⟩)),(.pointer (some ⟨g,a.toNat*17+b.toNat,none⟩)),(.int .i64 x),(.int .i64 n),(.int .i64 (x - n)),(.pointer (some ⟨g,0,none⟩)),(.pointer (some ⟨g,0,none⟩)),(.pointer (some ⟨g,a.toNat*17,none⟩)),(.pointer (some ⟨g,a.toNat*17+b.toNat,none⟩))]
  (fun w'=>Below w.heap.size w w') (by kernel_rfl) rfl (by kernel_rfl) yZ.drew ?_
 intro af haf;simp only[yG,List.append_eq,List.cons_append,List.nil_append,puts,Act.put,yA,yC,yF,yD,yE]at haf;subst haf;refine⟨?_,?_⟩
 ·simp only[yG,List.take_succ_cons,List.take_zero,aBe];refine⟨?z1,?z2,?z3,?z4,?z5,?z6,?z7,?_,?z8,?z9,?z10,?z11,?z12,?z13,trivial⟩
  case z1|z2|z3|z4|z5|z6|z7|z8|z9|z10|z11|z12|z13=>
   intro w' hS;refine yO rfl ?_;have HS:=yH hS;clear hS;go_wp2_with fail;all_goals first|exact HS|exact⟨rfl,HS⟩|rfl|exact⟨by omega,HS.out⟩
  intro w' hS;refine yO rfl ?_;have kb:=KB.out.below hS KB.out.lt;have d:=kb.cap (p:=a) (q:=b) (by omega) (by omega) (by omega) (by omega);rw[HX.out]at d;have HS:=yH hS;clear hS;go_wp2_with fail;all_goals first|exact HS|exact⟨rfl,HS⟩|rfl|exact⟨by omega,HS.out⟩
 simp only[yC,yA,yG];intro w' hS;refine yO rfl ?_;have kb:=yH ((KB.out.below hS KB.out.lt).capSet (p:=a) (q:=b) (by omega) (by omega) (by omega) (by omega) (x - n));have dm:=(KB.out.below hS KB.out.lt).cap (p:=a) (q:=b) (by omega) (by omega) (by omega) (by omega);have fr:=(KB.out.below hS KB.out.lt).frozen (a.toNat*17+b.toNat);have kk:=yH ((pAE (S:=(·=g)) hS).setCell (p:=⟨g,a.toNat*17+b.toNat,none⟩) (.inl rfl) (.int .i64 (x - n)));clear hS;go_wp2_with fail;generalize w'.setCell ⟨g,a.toNat*17+b.toNat,none⟩ (.int .i64 (x - n))=w2 at *;clear KB;have KB:=yH kb.out;clear kb dm fr C
 refine aCi (by kernel_rfl) 14 16 [(.pointer (some ⟨g,0,none⟩)),(.int .u8 b),(.int .u8 a),(.pointer (some ⟨g,0,none⟩)),(.pointer (some ⟨g,0,none⟩)),(.pointer (some ⟨g,b.toNat*17,none⟩)),(.pointer (some ⟨g,b.toNat*17+a.toNat,none⟩)),(.int .i64 y),(.int .i64 n),(.int .i64 (y+n)),(.pointer (some ⟨g,0,none⟩)),(.pointer (some ⟨g,0,none⟩)),(.pointer (some ⟨g,b.toNat*17,none⟩)),(.pointer (some ⟨g,b.toNat*17+a.toNat,none⟩))]
  (fun w'=>Below w2.heap.size w2 w') (by kernel_rfl) rfl (by kernel_rfl) yZ.drew ?_
 intro af haf;simp only[yG,List.append_eq,List.cons_append,List.nil_append,puts,Act.put,yA,yC,yF,yD,yE]at haf;subst haf;refine⟨?_,?_⟩
 ·simp only[yG,List.take_succ_cons,List.take_zero,aBe];refine⟨?z14,?z15,?z16,?z17,?z18,?z19,?z20,?_,?z21,?z22,?z23,?z24,?z25,?z26,trivial⟩
  case z14|z15|z16|z17|z18|z19|z20|z21|z22|z23|z24|z25|z26=>
   intro w' hS;refine yO rfl ?_;have HS:=yH hS;clear hS;go_wp2_with fail;all_goals first|exact HS|exact⟨rfl,HS⟩|rfl|exact⟨by omega,HS.out⟩
  intro w' hS;refine yO rfl ?_;have kb:=KB.out.below hS KB.out.lt;have d:=kb.cap (p:=b) (q:=a) (by omega) (by omega) (by omega) (by omega);rw[HY2.out]at d;have HS:=yH hS;clear hS;go_wp2_with fail;all_goals first|exact HS|exact⟨rfl,HS⟩|rfl|exact⟨by omega,HS.out⟩
 simp only[yC,yA,yG];intro w' hS;refine yO rfl ?_;have kb:=yH ((KB.out.below hS KB.out.lt).capSet (p:=b) (q:=a) (by omega) (by omega) (by omega) (by omega) (y+n));have dm:=(KB.out.below hS KB.out.lt).cap (p:=b) (q:=a) (by omega) (by omega) (by omega) (by omega);have fr:=(KB.out.below hS KB.out.lt).frozen (b.toNat*17+a.toNat);have k2:=yH ((kk.out.trans (pAE (S:=(·=g)) hS)).setCell (p:=⟨g,b.toNat*17+a.toNat,none⟩) (.inl rfl) (.int .i64 (y+n)));clear hS;go_wp2_with fail;generalize w'.setCell ⟨g,b.toNat*17+a.toNat,none⟩ (.int .i64 (y+n))=w3 at *;go_ret;exact⟨by rw[EE.out.1];rfl,by rw[EE.out.2];exact kb.out,k2.out⟩
def IsG(w:World)(v:Value)(f:Int→Int→Int):Prop:=(v=.pointer none∧f=aG7)∨∃g b,v=.pointer (some ⟨g,0,none⟩)∧Blk w g (graC f b) 268
theorem IsG.below{w w':World}{v:Value}{f:Int→Int→Int}(h:IsG w v f)(hb:Below w.heap.size w w'):IsG w' v f:=by
 rcases h with h|⟨g,b,h1,h2⟩
 ·exact .inl h
 exact .inr ⟨g,b,h1,h2.below hb h2.lt⟩
theorem gcopy_nil(w:World):Calls Tryz.prog 209 #[.pointer none] w (yS w (.pointer none)):=by
 go_enter Tryz.func209,Tryz.ntmps209;go_wp2;go_ret;exact⟨rfl,rfl⟩
theorem gcopy_any{w:World}{g:Nat}{f:Int→Int→Int}(h:Blk w g (graC f true) 268):
  Calls Tryz.prog 209 #[.pointer (some ⟨g,0,none⟩)] w fun e w'=>e=.returned (.pointer (some ⟨w.heap.size,0,none⟩))∧Blk w' w.heap.size (graC f true) 268∧Below w.heap.size w w':=by
 have d:=h.madeG;have R:=yH (cap_range h);clear h;go_enter Tryz.func209,Tryz.ntmps209
 go_wp2_with first
  | ((with_reducible refine wpList_load_mid ?_ 266 (.tmp 14) ?_ g 0 ?_ (capA f).toList _ R.out Tryz.underlying266 ?_ (aRf _) ?_);exact rfl;exact rfl;exact rfl;exact rfl;rw[Array.toArray_toList])
  | ((with_reducible refine aCb ?_ 268 #[(0,.tmp 15),(1,.const (.bool true))] ?_ #[(0,.agg (capA f)),(1,.bool true)] ?_ (graC f true) (build_gra f _) ?_);exact rfl;exact rfl;simp[Act.eval,Act.put])
 go_ret;exact⟨rfl,pAA _ _ _,yZ.alloc yL _⟩
end Go.Proofs.YtaeocliklpcgmaaGreat
