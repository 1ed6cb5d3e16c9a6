/- Pieces of one proof. -/
import Derived.Test.YtngnfdnfpiiclaaGreatO03
import Derived.Maps.Keyed
import Derived.Maps.RangeRun
import Derived.DeepKeys4
import Derived.Carry
set_option linter.all false
set_option maxHeartbeats 64000000
set_option maxRecDepth 100000
namespace Go.Proofs.YtngnfdnfpiiclaaGreat
open Go.RowKit
theorem aHw{x y:Ln}(hx:x.Fits)(hy:y.Fits)(h:x.rank=y.rank):x.cr=y.cr∧x.de=y.de∧x.cu=y.cu:=by
 obtain⟨⟨a1,a2⟩,⟨b1,b2⟩,_,_,_⟩:=hx;obtain⟨⟨c1,c2⟩,⟨d1,d2⟩,_,_,_⟩:=hy;unfold Ln.rank at h;omega
theorem aGv{x y:Ln}(h1:x.cr=y.cr)(h2:x.de=y.de)(h3:x.cu=y.cu):x.rank=y.rank:=by unfold Ln.rank;rw[h1,h2,h3]
theorem is_iff{x:Ln}{a b c:Int}:x.is a b c=true↔x.cr=a∧x.de=b∧x.cu=c:=by
 unfold Ln.is;simp only[Bool.and_eq_true,beq_iff_eq,and_assoc]
structure Inv(ls:List Ln):Prop where
 good:∀x∈ls,x.Good
 sorted:ls.Pairwise fun x y=>x.rank<y.rank
theorem Inv.nil:Inv []:=⟨by simp,List.Pairwise.nil⟩
def loL(r:Int)(ls:List Ln):List Ln:=ls.filter fun y=>decide (y.rank<r)
def eqL(r:Int)(ls:List Ln):List Ln:=ls.filter fun y=>decide (y.rank=r)
def hiL(r:Int)(ls:List Ln):List Ln:=ls.filter fun y=>decide (r<y.rank)
theorem aB3(r:Int):∀(ls:List Ln),ls.Pairwise (fun x y=>x.rank<y.rank)→ls=loL r ls++(eqL r ls++hiL r ls)
 | [],_=>rfl
 | x::l,h=>by
  rw[List.pairwise_cons]at h;have ih:=aB3 r l h.2;rcases Int.lt_trichotomy x.rank r with h1|h1|h1
  ·have e1:loL r (x::l)=x::loL r l:=by unfold loL;rw[List.filter_cons,if_pos (by simpa using h1)]
   have e2:eqL r (x::l)=eqL r l:=by unfold eqL;rw[List.filter_cons,if_neg (by simp;omega)]
   have e3:hiL r (x::l)=hiL r l:=by unfold hiL;rw[List.filter_cons,if_neg (by simp;omega)]
   rw[e1,e2,e3,List.cons_append,←ih]
  ·have n1:loL r l=[]:=by unfold loL;rw[List.filter_eq_nil_iff];intro y hy;have:=h.1 y hy;simp;omega
   have e1:loL r (x::l)=[]:=by unfold loL at *;rw[List.filter_cons,if_neg (by simp;omega),n1]
   have e2:eqL r (x::l)=x::eqL r l:=by unfold eqL;rw[List.filter_cons,if_pos (by simpa using h1)]
   have e3:hiL r (x::l)=hiL r l:=by unfold hiL;rw[List.filter_cons,if_neg (by simp;omega)]
   rw[e1,e2,e3];rw[n1]at ih;simp only[List.nil_append,List.cons_append]at ih ⊢;rw[←ih]
  have n1:loL r l=[]:=by unfold loL;rw[List.filter_eq_nil_iff];intro y hy;have:=h.1 y hy;simp;omega
  have n2:eqL r l=[]:=by unfold eqL;rw[List.filter_eq_nil_iff];intro y hy;have:=h.1 y hy;simp;omega
  have e1:loL r (x::l)=[]:=by unfold loL at *;rw[List.filter_cons,if_neg (by simp;omega),n1]
  have e2:eqL r (x::l)=[]:=by unfold eqL at *;rw[List.filter_cons,if_neg (by simp;omega),n2]
  have e3:hiL r (x::l)=x::hiL r l:=by unfold hiL;rw[List.filter_cons,if_pos (by simpa using h1)]
  rw[e1,e2,e3];rw[n1,n2]at ih;simp only[List.nil_append]at ih ⊢;rw[←ih]
theorem fold_lo(x:Ln):∀(A:List Ln),(∀y∈A,y.rank<x.rank)→∀s,A.foldl (aA1 x) s=(s.1++A,s.2)
 | [],_,s=>by simp
 | y::r,h,s=>by
  have h1:=h y (by simp);rw[List.foldl_cons,fold_lo x r (fun z hz=>h z (by simp[hz]))];unfold aA1;rw[if_neg (by omega),if_neg (by omega)];simp
theorem fold_eq(x:Ln):∀(A:List Ln),(∀y∈A,y.rank=x.rank)→∀s,A.foldl (aA1 x) s=s
 | [],_,s=>rfl
 | y::r,h,s=>by
  rw[List.foldl_cons,show aA1 x s y=s by unfold aA1;rw[if_pos (h y (by simp))]];exact fold_eq x r (fun z hz=>h z (by simp[hz])) s
theorem aFs(x:Ln):∀(A:List Ln),(∀y∈A,x.rank<y.rank)→∀o,A.foldl (aA1 x) (o,true)=(o++A,true)
 | [],_,o=>by simp
 | y::r,h,o=>by
  have h1:=h y (by simp);rw[List.foldl_cons,show aA1 x (o,true) y=(o++[y],true) by unfold aA1;rw[if_neg (by omega),if_neg (by simp)]];rw[aFs x r (fun z hz=>h z (by simp[hz]))];simp
theorem aNg(x:Ln)(A:List Ln)(h:∀y∈A,x.rank<y.rank)(o:List Ln):(if(A.foldl (aA1 x) (o,false)).2=false then(A.foldl (aA1 x) (o,false)).1++[x]else(A.foldl (aA1 x) (o,false)).1)=o++x::A:=by
 cases A with
 | nil=>simp
 | cons y r=>
  have h1:=h y (by simp);rw[List.foldl_cons,show aA1 x (o,false) y=(o++[x,y],true) by unfold aA1;rw[if_neg (by omega),if_pos ⟨rfl,h1⟩]];rw[aFs x r (fun z hz=>h z (by simp[hz]))];simp
theorem aFt{ls:List Ln}(hs:ls.Pairwise fun x y=>x.rank<y.rank)(x:Ln):setL ls x=loL x.rank ls++((if x.li=0 then []else [x])++hiL x.rank ls):=by
 have hsp:=aB3 x.rank ls hs;have hlo:∀y∈loL x.rank ls,y.rank<x.rank:=fun y hy=>by unfold loL at hy;simpa using(List.mem_filter.1 hy).2
 have heq:∀y∈eqL x.rank ls,y.rank=x.rank:=fun y hy=>by unfold eqL at hy;simpa using(List.mem_filter.1 hy).2
 have hhi:∀y∈hiL x.rank ls,x.rank<y.rank:=fun y hy=>by unfold hiL at hy;simpa using(List.mem_filter.1 hy).2
 unfold setL aDi;generalize loL x.rank ls=A at *;generalize eqL x.rank ls=B at *;generalize hiL x.rank ls=C at *;rw[hsp,List.foldl_append,List.foldl_append,fold_lo x A hlo,fold_eq x B heq];simp only[List.nil_append]
 by_cases h0:x.li=0
 ·have e:(x.li==0)=true:=by simp[h0]
  rw[e,aFs x C hhi,if_neg (by simp),if_pos h0];simp
 have e:(x.li==0)=false:=by simp[h0]
 rw[e,aNg x C hhi,if_neg h0];simp
theorem aA8{ls:List Ln}(hs:ls.Pairwise fun x y=>x.rank<y.rank)(x y:Ln):y∈setL ls x↔(y∈ls∧y.rank≠x.rank)∨(y=x∧x.li≠0):=by
 rw[aFt hs];unfold loL hiL
 by_cases h0:x.li=0
 ·simp only[h0,if_true,List.nil_append,List.mem_append,List.mem_filter,decide_eq_true_eq,ne_eq,not_true,and_false,or_false]
  constructor
  ·rintro(⟨a,b⟩|⟨a,b⟩)
   ·exact⟨a,by omega⟩
   exact⟨a,by omega⟩
  rintro⟨a,b⟩;rcases Int.lt_or_gt_of_ne b with h|h
  ·exact .inl ⟨a,h⟩
  exact .inr ⟨a,h⟩
 simp only[h0,if_false,List.mem_append,List.mem_filter,decide_eq_true_eq,List.mem_singleton,ne_eq,not_false_eq_true,and_true]
 constructor
 ·rintro(⟨a,b⟩|a|⟨a,b⟩)
  ·exact .inl ⟨a,by omega⟩
  ·exact .inr a
  exact .inl ⟨a,by omega⟩
 rintro(⟨a,b⟩|a)
 ·rcases Int.lt_or_gt_of_ne b with h|h
  ·exact .inl ⟨a,h⟩
  exact .inr (.inr ⟨a,h⟩)
 exact .inr (.inl a)
theorem aCi{ls:List Ln}(hs:ls.Pairwise fun x y=>x.rank<y.rank)(x:Ln):(setL ls x).Pairwise fun x y=>x.rank<y.rank:=by
 rw[aFt hs];have hlo:∀y∈loL x.rank ls,y.rank<x.rank:=fun y hy=>by unfold loL at hy;simpa using(List.mem_filter.1 hy).2
 have hhi:∀y∈hiL x.rank ls,x.rank<y.rank:=fun y hy=>by unfold hiL at hy;simpa using(List.mem_filter.1 hy).2
 refine List.pairwise_append.2 ⟨List.Pairwise.filter _ hs,List.pairwise_append.2 ⟨?_,List.Pairwise.filter _ hs,?_⟩,?_⟩
 ·split <;> simp
 ·intro a ha b hb;split at ha
  ·cases ha
  rw[List.mem_singleton]at ha;subst ha;exact hhi b hb
 intro a ha b hb;have h1:=hlo a ha;rcases List.mem_append.1 hb with hb|hb
 ·split at hb
  ·cases hb
  rw[List.mem_singleton]at hb;subst hb;exact h1
 have:=hhi b hb;omega
theorem Inv.set{ls:List Ln}(h:Inv ls){x:Ln}(hx:x.li≠0→x.Good):Inv (setL ls x):=
 ⟨fun y hy=>by
         rcases(aA8 h.sorted x y).1 hy with⟨a,_⟩|⟨rfl,b⟩;· exact h.good y a
         exact hx b,aCi h.sorted x⟩
theorem aBw{ls:List Ln}(h:Inv ls)(a b c:Int)(y:Ln):aAl ls a b c=some y↔y∈ls∧y.cr=a∧y.de=b∧y.cu=c:=by
 constructor
 ·exact aAo
 rintro⟨hm,h1,h2,h3⟩;rcases aJ9 ls a b c with⟨k,hk,_,hl,his⟩|⟨_,_,hn⟩
 ·rw[hl];congr 1;obtain⟨e1,e2,e3⟩:=is_iff.1 his;have hr:ls[k].rank=y.rank:=aGv (e1.trans h1.symm) (e2.trans h2.symm) (e3.trans h3.symm);obtain⟨j,hj,rfl⟩:=List.getElem_of_mem hm;rcases Nat.lt_trichotomy k j with hkj|rfl|hkj
  ·have:=List.pairwise_iff_getElem.1 h.sorted k j hk hj hkj;omega
  ·rfl
  have:=List.pairwise_iff_getElem.1 h.sorted j k hj hk hkj;omega
 have:=hn y hm;rw[is_iff.2 ⟨h1,h2,h3⟩]at this
 cases this
theorem aDp{ls:List Ln}(a b c:Int):aAl ls a b c=none↔∀y∈ls,¬(y.cr=a∧y.de=b∧y.cu=c):=by
 rcases aJ9 ls a b c with⟨k,hk,_,hl,his⟩|⟨_,hl,hn⟩
 ·rw[hl]
  constructor
  ·intro h;cases h
  intro h;exact absurd (is_iff.1 his) (h _ (List.getElem_mem hk))
 rw[hl];refine⟨fun _ y hy k=>?_,fun _=>rfl⟩;have:=hn y hy;rw[is_iff.2 k]at this
 cases this
theorem line_set{ls:List Ln}(h:Inv ls){x:Ln}(hx:x.li≠0→x.Good)(hf:x.Fits)(a b c:Int):
  aAl (setL ls x) a b c=if x.cr=a∧x.de=b∧x.cu=c then(if x.li=0 then none else some x)else aAl ls a b c:=by
 have h2:=h.set hx
 by_cases hk:x.cr=a∧x.de=b∧x.cu=c
 ·rw[if_pos hk]
  by_cases h0:x.li=0
  ·rw[if_pos h0,aDp];intro y hy ⟨e1,e2,e3⟩;rcases(aA8 h.sorted x y).1 hy with⟨_,hn⟩|⟨_,hn⟩
   ·exact hn (aGv (e1.trans hk.1.symm) (e2.trans hk.2.1.symm) (e3.trans hk.2.2.symm))
   exact hn h0
  rw[if_neg h0,aBw h2];exact⟨(aA8 h.sorted x x).2 (.inr ⟨rfl,h0⟩),hk⟩
 rw[if_neg hk]
 cases hl:aAl ls a b c with
 | none=>
  rw[aDp]at hl ⊢;intro y hy e;rcases(aA8 h.sorted x y).1 hy with⟨hm,_⟩|⟨rfl,_⟩
  ·exact hl y hm e
  ·exact hk e
 | some y=>
  rw[aBw h]at hl;rw[aBw h2];refine⟨(aA8 h.sorted x y).2 (.inl ⟨hl.1,?_⟩),hl.2⟩;intro hr;obtain⟨e1,e2,e3⟩:=aHw (h.good y hl.1).fits hf hr;exact hk ⟨e1.symm.trans hl.2.1,e2.symm.trans hl.2.2.1,e3.symm.trans hl.2.2.2⟩
theorem sum_set{ls:List Ln}(h:Inv ls){x:Ln}(hf:x.Fits)(f:Ln→Int)(h0:f noLn=0):
  ((setL ls x).map f).sum=(ls.map f).sum - f (lnAt ls x.cr x.de x.cu)+(if x.li=0 then 0 else f x):=by
 have e1:((setL ls x).map f).sum=((loL x.rank ls).map f).sum+((if x.li=0 then 0 else f x)+((hiL x.rank ls).map f).sum):=by
  rw[aFt h.sorted,List.map_append,List.map_append,List.sum_append,List.sum_append];split <;> simp
 have e2:(ls.map f).sum=((loL x.rank ls).map f).sum+(((eqL x.rank ls).map f).sum+((hiL x.rank ls).map f).sum):=by
  have hsp:=aB3 x.rank ls h.sorted
  calc (ls.map f).sum=((loL x.rank ls++(eqL x.rank ls++hiL x.rank ls)).map f).sum:=by rw[←hsp]
   _=_:=by rw[List.map_append,List.map_append,List.sum_append,List.sum_append]
 have e3:((eqL x.rank ls).map f).sum=f (lnAt ls x.cr x.de x.cu):=by
  unfold lnAt
  cases hl:aAl ls x.cr x.de x.cu with
  | none=>
   have hn:eqL x.rank ls=[]:=by
    unfold eqL;rw[List.filter_eq_nil_iff];intro y hy;have h1:=(aDp (ls:=ls) x.cr x.de x.cu).1 hl y hy;intro hr;exact h1 (aHw (h.good y hy).fits hf (by simpa using hr))
   rw[hn];simp[h0]
  | some y=>
   obtain⟨hm,k1,k2,k3⟩:=(aBw h x.cr x.de x.cu y).1 hl;have hy:y.rank=x.rank:=aGv k1 k2 k3;have hmem:y∈eqL x.rank ls:=by unfold eqL;exact List.mem_filter.2 ⟨hm,by simpa using hy⟩
   have hp:(eqL x.rank ls).Pairwise fun x y=>x.rank<y.rank:=by unfold eqL;exact List.Pairwise.filter _ h.sorted
   have hall:∀z∈eqL x.rank ls,z.rank=x.rank:=fun z hz=>by unfold eqL at hz;simpa using(List.mem_filter.1 hz).2
   generalize eqL x.rank ls=B at *
   match B,hmem,hp,hall with
   | [z],hmem,_,_=>rw[List.mem_singleton]at hmem;subst hmem;simp
   | z::u::r,_,hp,hall=>
    have a1:=hall z (by simp);have a2:=hall u (by simp);have a3:=(List.pairwise_cons.1 hp).1 u (by simp);omega
 omega
theorem aC0:∀(l m:List Ln),l.Pairwise (fun x y=>x.rank<y.rank)→m.Pairwise (fun x y=>x.rank<y.rank)→(∀x,x∈l↔x∈m)→l=m
 | [],[],_,_,_=>rfl
 | [],y::m,_,_,h=>absurd ((h y).2 (by simp)) (by simp)
 | x::l,[],_,_,h=>absurd ((h x).1 (by simp)) (by simp)
 | x::l,y::m,h1,h2,h=>by
  rw[List.pairwise_cons]at h1 h2
  have exy:x=y:=by
   have a:=(h x).1 (by simp);have b:=(h y).2 (by simp);rcases List.mem_cons.1 a with a|a
   ·exact a
   rcases List.mem_cons.1 b with b|b
   ·exact b.symm
   have c:=h2.1 x a;have d:=h1.1 y b;omega
  subst exy;congr 1;refine aC0 l m h1.2 h2.2 fun z=>?_
  constructor
  ·intro hz;rcases List.mem_cons.1 ((h z).1 (by simp[hz]))with e|e
   ·subst e;have:=h1.1 z hz;omega
   exact e
  intro hz;rcases List.mem_cons.1 ((h z).2 (by simp[hz]))with e|e
  ·subst e;have:=h2.1 z hz;omega
  exact e
theorem Inv.ext{ls ms:List Ln}(h:Inv ls)(k:Inv ms)(e:∀a b c,aAl ls a b c=aAl ms a b c):ls=ms:=by
 refine aC0 ls ms h.sorted k.sorted fun x=>?_
 constructor
 ·intro hx;have:=(aBw h x.cr x.de x.cu x).2 ⟨hx,rfl,rfl,rfl⟩;rw[e]at this;exact((aBw k _ _ _ _).1 this).1
 intro hx;have:=(aBw k x.cr x.de x.cu x).2 ⟨hx,rfl,rfl,rfl⟩;rw[←e]at this;exact((aBw h _ _ _ _).1 this).1
theorem aAx{ls:List Ln}{a b c:Int}{x:Ln}(h:aAl ls a b c=some x):lnAt ls a b c=x:=by unfold lnAt;rw[h];rfl
theorem aA0{ls:List Ln}{a b c:Int}(h:aAl ls a b c=none):lnAt ls a b c=noLn:=by unfold lnAt;rw[h];rfl
theorem aNh{ls:List Ln}(h:Inv ls){a b c d:Int}{x:Ln}(hx:aAl ls a b c=some x)(h0:0≤d)(h1:d≤x.li):
  Inv (setL ls (x.owe d))∧(∀a' b' c',aAl (setL ls (x.owe d)) a' b' c'=if a=a'∧b=b'∧c=c' then some (x.owe d)else aAl ls a' b' c')∧
   (∀f:Ln→Int,f noLn=0→((setL ls (x.owe d)).map f).sum=(ls.map f).sum - f x+f (x.owe d))∧(setL ls (x.owe d)).length=ls.length:=by
 obtain⟨hm,k1,k2,k3⟩:=(aBw h a b c x).1 hx;have hg:=h.good x hm;have hg2:(x.owe d).Good:=⟨hg.cr,hg.de,hg.cu,hg.ne,hg.li,⟨h0,h1⟩⟩;have hli:(x.owe d).li≠0:=by have:=hg.li;show x.li≠0;omega
 refine⟨h.set (fun _=>hg2),fun a' b' c'=>?_,fun f hf=>?_,?_⟩
 ·rw[line_set h (fun _=>hg2) hg2.fits a' b' c',if_neg hli];show(if x.cr=a'∧x.de=b'∧x.cu=c' then _ else _)=_;rw[k1,k2,k3]
 ·rw[sum_set h hg2.fits f hf,if_neg hli];congr 2;show f (lnAt ls x.cr x.de x.cu)=f x;rw[k1,k2,k3,aAx hx]
 have h2:((setL ls (x.owe d)).map fun _=>(1:Int)).sum=(ls.map fun _=>(1:Int)).sum:=by
  have e1:((setL ls (x.owe d)).map fun y:Ln=>if y=noLn then(0:Int)else 1).sum=(ls.map fun y:Ln=>if y=noLn then(0:Int)else 1).sum:=by
   rw[sum_set h hg2.fits (fun y=>if y=noLn then(0:Int)else 1) (by simp),if_neg hli];show _ - (if lnAt ls x.cr x.de x.cu=noLn then(0:Int)else 1)+_=_;rw[k1,k2,k3,aAx hx];have n1:x≠noLn:=by rintro rfl;have:=hg.li;simp[noLn]at this
   have n2:x.owe d≠noLn:=by intro e;have:=congrArg Ln.li e;exact hli this
   rw[if_neg n1,if_neg n2];omega
  have e2:∀l:List Ln,(∀y∈l,y.Good)→(l.map fun y:Ln=>if y=noLn then(0:Int)else 1)=l.map fun _=>(1:Int):=by
   intro l hl;refine List.map_congr_left fun y hy=>?_
   have n1:y≠noLn:=by rintro rfl;have:=(hl _ hy).li;simp[noLn]at this
   rw[if_neg n1]
  rw[e2 _ (h.set (fun _=>hg2)).good,e2 _ h.good]at e1;exact e1
 have e3:∀l:List Ln,(l.map fun _=>(1:Int)).sum=(l.length:Int):=by
  intro l
  induction l with
  | nil=>rfl
  | cons y r ih=>simp only[List.map_cons,List.sum_cons,List.length_cons,ih];omega
 rw[e3,e3]at h2;omega
theorem aD3{ls:List Ln}(h:Inv ls){a b c n:Int}(hab:a≠b)(h1:1≤n)(hr:n≤(lnAt ls a b c).db+(lnAt ls b a c).li - (lnAt ls b a c).db):
  Inv (aB8 ls a b c n)∧(aB8 ls a b c n).length=ls.length∧
  (∀a' b' c',aAl (aB8 ls a b c n) a' b' c'=if a=a'∧b=b'∧c=c' then(aAl ls a b c).map (fun x=>x.owe (x.db - min n x.db))else if b=a'∧a=b'∧c=c' then(aAl ls b a c).map (fun y=>y.owe (y.db+(n - min n (lnAt ls a b c).db)))else aAl ls a' b' c')∧
  (∀f:Ln→Int,f noLn=0→((aB8 ls a b c n).map f).sum=(ls.map f).sum - f (lnAt ls a b c)+f ((lnAt ls a b c).owe ((lnAt ls a b c).db - min n (lnAt ls a b c).db)) - f (lnAt ls b a c)+f ((lnAt ls b a c).owe ((lnAt ls b a c).db+(n - min n (lnAt ls a b c).db)))):=by
 have bx:=aCq h.good a b c;have by':=aCq h.good b a c
 have hown:noLn.owe 0=noLn:=rfl
 -- the first part
 obtain⟨i1,l1,s1,n1⟩:Inv (aGo ls a b c n)∧(∀a' b' c',aAl (aGo ls a b c n) a' b' c'=if a=a'∧b=b'∧c=c' then(aAl ls a b c).map (fun x=>x.owe (x.db - min n x.db))else aAl ls a' b' c')∧
   (∀f:Ln→Int,f noLn=0→((aGo ls a b c n).map f).sum=(ls.map f).sum - f (lnAt ls a b c)+f ((lnAt ls a b c).owe ((lnAt ls a b c).db - min n (lnAt ls a b c).db)))∧(aGo ls a b c n).length=ls.length:=by
  unfold aGo
  cases hl:aAl ls a b c with
  | none=>
   rw[if_neg (by simp),aA0 hl];refine⟨h,fun a' b' c'=>?_,fun f hf=>?_,rfl⟩
   ·by_cases e:a=a'∧b=b'∧c=c'
    ·rw[if_pos e];obtain⟨rfl,rfl,rfl⟩:=e;rw[hl];rfl
    rw[if_neg e]
   ·rw[show noLn.owe (noLn.db - min n noLn.db)=noLn by unfold Ln.owe noLn;simp;omega,hf];omega
  | some x=>
   simp only[Option.isSome_some,if_true];rw[aAx hl];rw[aAx hl]at bx;obtain⟨q1,q2,q3,q4⟩:=aNh h hl (d:=x.db - min n x.db) (by omega) (by omega);exact⟨q1,q2,q3,q4⟩
 have e2:push2 ls a b c n=n - min n (lnAt ls a b c).db:=by
  unfold push2
  cases hl:aAl ls a b c with
  | none=>rw[if_neg (by simp),aA0 hl];simp[noLn];omega
  | some x=>simp only[Option.isSome_some,if_true]
 have hy1:aAl (aGo ls a b c n) b a c=aAl ls b a c:=by rw[l1,if_neg (by omega)]
 have hyA:lnAt (aGo ls a b c n) b a c=lnAt ls b a c:=by unfold lnAt;rw[hy1]
 unfold aB8;rw[e2,hyA]
 by_cases hp:0<n - min n (lnAt ls a b c).db
 ·rw[if_pos hp]
  have hex:∃y,aAl ls b a c=some y:=by
   cases hl:aAl ls b a c with
   | none=>rw[aA0 hl]at by' hr;simp[noLn]at hr;omega
   | some y=>exact⟨y,rfl⟩
  obtain⟨y,hy⟩:=hex;rw[aAx hy]at by' hr ⊢
  obtain⟨q1,q2,q3,q4⟩:=aNh i1 (hy1.trans hy) (d:=y.db+(n - min n (lnAt ls a b c).db)) (by omega) (by omega);refine⟨q1,q4.trans n1,fun a' b' c'=>?_,fun f hf=>?_⟩
  ·rw[q2]
   by_cases e:b=a'∧a=b'∧c=c'
   ·rw[if_pos e,if_neg (by omega),if_pos e,hy];rfl
   rw[if_neg e,l1,if_neg e]
  rw[q3 f hf,s1 f hf]
 rw[if_neg hp];have hz:n - min n (lnAt ls a b c).db=0:=by omega
 rw[hz];refine⟨i1,n1,fun a' b' c'=>?_,fun f hf=>?_⟩
 ·rw[l1]
  by_cases e:a=a'∧b=b'∧c=c'
  ·rw[if_pos e,if_pos e]
  rw[if_neg e,if_neg e]
  by_cases e':b=a'∧a=b'∧c=c'
  ·rw[if_pos e'];obtain⟨rfl,rfl,rfl⟩:=e'
   cases aAl ls b a c with
   | none=>rfl
   | some y=>simp[Ln.owe]
  rw[if_neg e']
 rw[s1 f hf];rw[show(lnAt ls b a c).owe ((lnAt ls b a c).db+0)=lnAt ls b a c by unfold Ln.owe;simp];omega
theorem map_at{o:Option Ln}{d:Ln→Int}(h:o=none→d noLn=0):((o.map fun x=>x.owe (d x)).getD noLn)=(o.getD noLn).owe (d (o.getD noLn)):=by
 cases o with
 | none=>simp only[Option.map_none,Option.getD_none];rw[h rfl];rfl
 | some x=>rfl
theorem push_at{ls:List Ln}(h:Inv ls){a b c n:Int}(hab:a≠b)(h1:1≤n)(hr:n≤(lnAt ls a b c).db+(lnAt ls b a c).li - (lnAt ls b a c).db):
  lnAt (aB8 ls a b c n) a b c=(lnAt ls a b c).owe ((lnAt ls a b c).db - min n (lnAt ls a b c).db)∧lnAt (aB8 ls a b c n) b a c=(lnAt ls b a c).owe ((lnAt ls b a c).db+(n - min n (lnAt ls a b c).db)):=by
 obtain⟨_,_,hl,_⟩:=aD3 h hab h1 hr;have bx:=aCq h.good a b c;have by':=aCq h.good b a c
 constructor
 ·show(aAl (aB8 ls a b c n) a b c).getD noLn=_;rw[hl,if_pos ⟨rfl,rfl,rfl⟩];exact map_at (o:=aAl ls a b c) (d:=fun x=>x.db - min n x.db) (fun _=>by simp[noLn];omega)
 show(aAl (aB8 ls a b c n) b a c).getD noLn=_;rw[hl,if_neg (by omega),if_pos ⟨rfl,rfl,rfl⟩];refine map_at (o:=aAl ls b a c) (d:=fun y=>y.db+(n - min n (lnAt ls a b c).db)) (fun hn=>?_);rw[aA0 hn]at hr;simp[noLn]at hr ⊢;omega
theorem push_room{ps:List Int}{ls:List Ln}(h:Inv ls){a b c n:Int}(h1:1≤n)(hr:n≤aBm ps ls a b c):
  aBm ps (aB8 ls a b c n) a b c=aBm ps ls a b c - n∧aBm ps (aB8 ls a b c n) b a c=aBm ps ls b a c+n:=by
 have hz:¬(a=b∨a∉ps∨b∉ps):=by
  intro hz;unfold aBm at hr;rw[if_pos hz]at hr;omega
 have hz2:¬(b=a∨b∉ps∨a∉ps):=by
  intro k;refine hz ?_;rcases k with k|k|k
  ·exact .inl k.symm
  ·exact .inr (.inr k)
  exact .inr (.inl k)
 have hr':n≤(lnAt ls a b c).db+(lnAt ls b a c).li - (lnAt ls b a c).db:=by unfold aBm at hr;rwa [if_neg hz]at hr
 obtain⟨e1,e2⟩:=push_at h (fun k=>hz (.inl k)) h1 hr';unfold aBm;rw[if_neg hz,if_neg hz,if_neg hz2,if_neg hz2,e1,e2];simp only[Ln.owe]
 constructor <;> omega
theorem aGw(p c:Int):aCw p c noLn=0:=by unfold aCw noLn;simp
theorem aLx{ls:List Ln}(h:Inv ls)(a b c d p:Int)(hab:a≠b)(hd:aAl ls a b c=none→d=0):
  aCw p c ((lnAt ls a b c).owe d)=aCw p c (lnAt ls a b c)+(if p=a then d - (lnAt ls a b c).db else 0) - (if p=b then d - (lnAt ls a b c).db else 0):=by
 cases hl:aAl ls a b c with
 | none=>
  rw[aA0 hl,hd hl,show noLn.owe 0=noLn from rfl,aGw];simp[noLn]
 | some x=>
  obtain⟨_,k1,k2,k3⟩:=aAo hl;rw[aAx hl];unfold aCw Ln.owe;simp only[k1,k2,k3]
  by_cases e1:p=a
  ·have e2:¬p=b:=by omega
   simp[e1,e2,Ne.symm (show b≠a by omega)];have:¬a=b:=hab;simp[this,Ne.symm hab]
   try omega
  by_cases e2:p=b
  ·simp[e2,hab,Ne.symm hab];omega
  simp[e1,e2,Ne.symm e1,Ne.symm e2,show ¬a=p by omega,show ¬b=p by omega]
theorem push_pos{ps:List Int}{ls:List Ln}(h:Inv ls){a b c n:Int}(h1:1≤n)(hr:n≤aBm ps ls a b c)(p:Int):
  posL (aB8 ls a b c n) p c=posL ls p c - (if p=a then n else 0)+(if p=b then n else 0):=by
 have hz:¬(a=b∨a∉ps∨b∉ps):=by
  intro hz;unfold aBm at hr;rw[if_pos hz]at hr;omega
 have hab:a≠b:=fun k=>hz (.inl k)
 have hr':n≤(lnAt ls a b c).db+(lnAt ls b a c).li - (lnAt ls b a c).db:=by unfold aBm at hr;rwa [if_neg hz]at hr
 obtain⟨_,_,_,hs⟩:=aD3 h hab h1 hr';unfold posL;rw[hs (aCw p c) (aGw p c)];have bx:=aCq h.good a b c;rw[aLx h a b c _ p hab (fun k=>by rw[aA0 k];simp[noLn];omega),aLx h b a c _ p (Ne.symm hab) (fun k=>by rw[aA0 k]at hr' ⊢;simp[noLn]at hr' ⊢;omega)]
 by_cases e1:p=a
 ·have e2:¬p=b:=by omega
  rw[if_pos e1,if_neg e2,if_neg e2,if_pos e1,if_pos e1,if_neg e2];omega
 by_cases e2:p=b
 ·rw[if_neg e1,if_pos e2,if_pos e2,if_neg e1,if_neg e1,if_pos e2];omega
 rw[if_neg e1,if_neg e2,if_neg e2,if_neg e1,if_neg e1,if_neg e2];omega
structure LInv(ps:List Int)(ls:List Ln):Prop where
 inv:Inv ls
 len:ls.length≤64
 ends:∀x∈ls,x.cr∈ps∧x.de∈ps
 bd:∀p∈ps,1≤p∧p≤16
 rise:ps.Pairwise (·<·)
theorem LInv.nil:LInv [] []:=⟨Inv.nil,by simp,by simp,by simp,List.Pairwise.nil⟩
theorem aJi{ls:List Ln}(h:Inv ls)(x:Ln){y:Ln}(hy:y∈ls)(hr:y.rank=x.rank):(setL ls x).length≤ls.length:=by
 have hsp:=aB3 x.rank ls h.sorted;have hm:y∈eqL x.rank ls:=by unfold eqL;exact List.mem_filter.2 ⟨hy,by simpa using hr⟩
 have h1:1≤(eqL x.rank ls).length:=List.length_pos_of_mem hm;have h2:=congrArg List.length hsp;rw[List.length_append,List.length_append]at h2;rw[aFt h.sorted,List.length_append,List.length_append];split <;> simp <;> omega
theorem LInv.push{ps:List Int}{ls:List Ln}(h:LInv ps ls)(a b c n:Int):LInv ps (aDb ps ls a b c n):=by
 unfold aDb
 by_cases he:aDj ps ls a b c n=0
 ·rw[if_pos he];have h1:1≤n∧n≤aBm ps ls a b c:=by unfold aDj at he;(repeat' split at he) <;> omega
  have hz:¬(a=b∨a∉ps∨b∉ps):=by
   intro hz;unfold aBm at h1;rw[if_pos hz]at h1;omega
  have hr':n≤(lnAt ls a b c).db+(lnAt ls b a c).li - (lnAt ls b a c).db:=by unfold aBm at h1;rw[if_neg hz]at h1;exact h1.2
  obtain⟨i,l,f,_⟩:=aD3 h.inv (fun k=>hz (.inl k)) h1.1 hr';refine⟨i,by rw[l];exact h.len,fun x hx=>?_,h.bd,h.rise⟩;have hx2:=(aBw i x.cr x.de x.cu x).2 ⟨hx,rfl,rfl,rfl⟩;rw[f]at hx2;have ha:a∈ps:=Classical.byContradiction fun k=>hz (.inr (.inl k))
  have hb:b∈ps:=Classical.byContradiction fun k=>hz (.inr (.inr k))
  split at hx2
  ·rename_i k;rw[←k.1,←k.2.1];exact⟨ha,hb⟩
  split at hx2
  ·rename_i k;rw[←k.1,←k.2.1];exact⟨hb,ha⟩
  exact h.ends x (aAo hx2).1
 rw[if_neg he];exact h
theorem LInv.forgive{ps:List Int}{ls:List Ln}(h:LInv ps ls)(a b c n:Int):LInv ps (aKb ls a b c n):=by
 unfold aKb
 by_cases he:aKa ls a b c n=0
 ·rw[if_pos he];unfold aKa at he
  cases hl:aAl ls a b c with
  | none=>rw[hl]at he;(repeat' split at he) <;> simp_all
  | some x=>
   rw[aAx hl]at he ⊢;have h1:1≤n∧n≤x.db:=by (repeat' split at he) <;> omega
   have hg:=h.inv.good x (aAo hl).1;have hdb:=hg.db;obtain⟨i,f,_,l⟩:=aNh h.inv hl (d:=x.db - n) (by omega) (by omega);refine⟨i,by rw[l];exact h.len,fun y hy=>?_,h.bd,h.rise⟩;have hy2:=(aBw i y.cr y.de y.cu y).2 ⟨hy,rfl,rfl,rfl⟩;rw[f]at hy2;split at hy2
   ·rename_i k;obtain⟨m,k1,k2,_⟩:=aAo hl;have:=h.ends x m;rw[←k.1,←k.2.1,←k1,←k2];exact this
   exact h.ends y (aAo hy2).1
 rw[if_neg he];exact h
theorem LInv.trust{ps:List Int}{ls:List Ln}(h:LInv ps ls)(a b c n:Int):LInv ps (aAj ps ls a b c n):=by
 unfold aAj
 by_cases he:aAi ps ls a b c n=0
 ·rw[if_pos he]
  have hs:¬(a<1∨16<a∨b<1∨16<b∨c<1∨8<c∨a=b∨n<0∨1099511627776<n)∧¬(a∉ps∨b∉ps)∧¬n<(lnAt ls a b c).db∧¬(aAl ls a b c=none∧0<n∧64≤ls.length):=by
   unfold aAi at he;split at he
   ·omega
   split at he
   ·omega
   split at he
   ·omega
   split at he
   ·omega
   rename_i k1 k2 k3 k4;exact⟨k1,k2,k3,k4⟩
  obtain⟨k1,k2,k3,k4⟩:=hs;have bx:=aCq h.inv.good a b c
  have hg:(⟨a,b,c,n,(lnAt ls a b c).db⟩:Ln).li≠0→(⟨a,b,c,n,(lnAt ls a b c).db⟩:Ln).Good:=fun hn=>by
   have hn':n≠0:=hn;refine⟨⟨?_,?_⟩,⟨?_,?_⟩,⟨?_,?_⟩,?_,⟨?_,?_⟩,⟨?_,?_⟩⟩ <;> simp only <;> omega
  have hf:(⟨a,b,c,n,(lnAt ls a b c).db⟩:Ln).Fits:=aEs ⟨by omega,by omega⟩ ⟨by omega,by omega⟩ ⟨by omega,by omega⟩ ⟨by omega,by omega⟩ ⟨by omega,by omega⟩;refine⟨h.inv.set hg,?_,fun y hy=>?_,h.bd,h.rise⟩
  ·cases hl:aAl ls a b c with
   | none=>
    by_cases hn:0<n
    ·have h1:ls.length<64:=Nat.lt_of_not_le fun k=>k4 ⟨hl,hn,k⟩
     have h2:=setL_len ls ⟨a,b,c,n,(lnAt ls a b c).db⟩;omega
    ·have h0:n=0:=by omega
     have h2:=congrArg List.length (aB3 (⟨a,b,c,n,(lnAt ls a b c).db⟩:Ln).rank ls h.inv.sorted);have h3:=h.len;rw[List.length_append,List.length_append]at h2;rw[aFt h.inv.sorted,List.length_append,List.length_append,if_pos (show(⟨a,b,c,n,(lnAt ls a b c).db⟩:Ln).li=0 from h0)];simp only[List.length_nil];omega
   | some x=>
    obtain⟨m,e1,e2,e3⟩:=aAo hl;exact Nat.le_trans (aJi h.inv _ m (aGv e1 e2 e3)) h.len
  rcases(aA8 h.inv.sorted _ y).1 hy with⟨m,_⟩|⟨rfl,_⟩
  ·exact h.ends y m
  exact⟨Classical.byContradiction fun k=>k2 (.inl k),Classical.byContradiction fun k=>k2 (.inr k)⟩
 rw[if_neg he];exact h
theorem aC1{ps:List Int}{p q:Int}:q∈aA7 ps p 17↔(1≤q∧q≤16)∧(q=p∨q∈ps):=by
 unfold aA7;rw[List.mem_filter,List.mem_map]
 constructor
 ·rintro⟨⟨i,hi,rfl⟩,h⟩;rw[List.mem_range]at hi;simp at h;exact⟨⟨by omega,by omega⟩,h⟩
 rintro⟨⟨h1,h2⟩,h⟩;refine⟨⟨q.toNat - 1,List.mem_range.2 (by omega),by omega⟩,by simpa using h⟩
theorem aFu(ps:List Int)(p:Int)(k:Nat):(aA7 ps p k).Pairwise (·<·):=by
 unfold aA7;refine List.Pairwise.filter _ (List.pairwise_map.2 ?_);exact(List.pairwise_lt_range).imp fun{a b} h=>by omega
theorem aKq:∀(l m:List Int),l.Pairwise (·<·)→m.Pairwise (·<·)→(∀x,x∈l↔x∈m)→l=m
 | [],[],_,_,_=>rfl
 | [],y::m,_,_,h=>by have:=(h y).2 (by simp);cases this
 | x::l,[],_,_,h=>by have:=(h x).1 (by simp);cases this
 | x::l,y::m,hl,hm,h=>by
  rw[List.pairwise_cons]at hl hm
  have hxy:x=y:=by
   have h1:=(h x).1 (by simp);have h2:=(h y).2 (by simp);rcases List.mem_cons.1 h1 with h1|h1
   ·exact h1
   rcases List.mem_cons.1 h2 with h2|h2
   ·exact h2.symm
   have a:=hl.1 y h2;have b:=hm.1 x h1;omega
  subst hxy;rw[aKq l m hl.2 hm.2 fun z=>?_]
  constructor
  ·intro hz;have a:=hl.1 z hz;rcases List.mem_cons.1 ((h z).1 (by simp[hz]))with e|e
   ·omega
   exact e
  intro hz;have a:=hm.1 z hz;rcases List.mem_cons.1 ((h z).2 (by simp[hz]))with e|e
  ·omega
  exact e
theorem LInv.open{ps:List Int}{ls:List Ln}(h:LInv ps ls)(p:Int):LInv (aCb ps p) ls:=by
 unfold aCb;split
 ·exact h
 split
 ·exact h
 refine⟨h.inv,h.len,fun x hx=>?_,fun q hq=>(aC1.1 hq).1,aFu _ _ _⟩;obtain⟨h1,h2⟩:=h.ends x hx;exact⟨aC1.2 ⟨h.bd _ h1,.inr h1⟩,aC1.2 ⟨h.bd _ h2,.inr h2⟩⟩
theorem open_last{ps:List Int}{p:Int}(hr:ps.Pairwise (·<·))(hb:∀q∈ps,1≤q∧q≤16)(hp:1≤p∧p≤16)(hl:∀q∈ps,q<p):aCa ps p=0∧aCb ps p=ps++[p]:=by
 have hn:p∉ps:=fun h=>by have:=hl p h;omega
 have h1:¬(p<1∨16<p):=by omega
 unfold aCa aCb;rw[if_neg h1,if_neg h1,if_neg hn,if_neg hn];refine⟨rfl,aKq _ _ (aFu _ _ _) ?_ fun q=>?_⟩
 ·rw[List.pairwise_append];exact⟨hr,by simp,fun a ha b hb=>by rw[List.mem_singleton]at hb;subst hb;exact hl a ha⟩
 rw[aC1,List.mem_append,List.mem_singleton]
 constructor
 ·rintro⟨_,h|h⟩
  ·exact .inr h
  exact .inl h
 rintro(h|h)
 ·exact⟨hb q h,.inr h⟩
 subst h;exact⟨hp,.inl rfl⟩
theorem aKr{ls:List Ln}{x:Ln}(hs:ls.Pairwise fun x y=>x.rank<y.rank)(hl:∀y∈ls,y.rank<x.rank)(hx:x.li≠0):setL ls x=ls++[x]:=by
 refine aC0 _ _ (aCi hs x) ?_ fun y=>?_
 ·rw[List.pairwise_append];exact⟨hs,by simp,fun a ha b hb=>by rw[List.mem_singleton]at hb;subst hb;exact hl a ha⟩
 rw[aA8 hs,List.mem_append,List.mem_singleton]
 constructor
 ·rintro(⟨h,_⟩|⟨h,_⟩)
  ·exact .inl h
  exact .inr h
 rintro(h|h)
 ·exact .inl ⟨h,by have:=hl y h;omega⟩
 exact .inr ⟨h,hx⟩
theorem set_twice{ls:List Ln}{x y:Ln}(hs:ls.Pairwise fun x y=>x.rank<y.rank)(hr:y.rank=x.rank):setL (setL ls y) x=setL ls x:=by
 refine aC0 _ _ (aCi (aCi hs y) x) (aCi hs x) fun z=>?_
 rw[aA8 (aCi hs y),aA8 hs,aA8 hs]
 constructor
 ·rintro(⟨h|h,h2⟩|h)
  ·exact .inl ⟨h.1,h2⟩
  ·exact absurd (by rw[h.1];exact hr) h2
  exact .inr h
 rintro(⟨h,h2⟩|h)
 ·exact .inl ⟨.inl ⟨h,by rw[hr];exact h2⟩,h2⟩
 exact .inr h
def limL(ls:List Ln):List Ln:=ls.map fun x=>x.owe 0
end Go.Proofs.YtngnfdnfpiiclaaGreat
namespace Go.Proofs.YtngnfdnfpiiclaaGreat
open Go.RowKit
open Go.MapKept (Stamped stamped_iff stamped_empty stamped_push stamped_modify stamped_erase)
open Go.ChangeMaps (setBlock)
structure aKs(P:Program)(k:TypeId)(S:Value→Prop):Prop where
 check:∀(w:World) (em:Bool) (v:Value),S v→(Instr.checkKey em 10000 k v).run P w=.ok () w
 find:∀(w:World) (x:Value),S x→∀es:List MapEntry,(∀e∈es,S e.key)→
  ((Instr.findKey k x es).run P w=.ok none w∧∀e∈es,e.key≠x)∨∃j e,(Instr.findKey k x es).run P w=.ok (some (j,e.val)) w∧es[j]? = some e∧e.key=x
 stays:∀(w:World) (v:Value),S v→(Instr.keyThatStays v v).run P w=.ok v w
theorem pAJ{P:Program}{k:TypeId}{S:Value→Prop}(K:Go.Maps.Keyed P k)(h:∀v,S v→∃l,keyOf P k v=some l):aKs P k S where
 check w em v hv:=by obtain⟨l,hl⟩:=h v hv;exact K.check w em hl
 find w x hx es hes:=by
  obtain⟨l,hl⟩:=h x hx;exact K.find w hl es (fun e he=>h _ (hes e he))
 stays w v hv:=by obtain⟨l,hl⟩:=h v hv;exact K.stays w hl
def kv(e:MapEntry):Value×Value:=(e.key,e.val)
def aA2(w:World)(m:Nat)(kvs:List (Value×Value)):Prop:=
 ∃es clock,w.heap[m]? = some (.map es clock)∧Stamped es clock∧es.toList.map kv=kvs
theorem aCt{w:World}{r:Nat}{o:Obj}(hb:w.heap[r]? = some o)(o':Obj):(setBlock w r o').heap[r]? = some o':=(MapKept.heap_set hb).1
theorem aFn{w:World}{r:Nat}(o':Obj){i:Nat}(h:i≠r):(setBlock w r o').heap[i]? = w.heap[i]? := by
 show(w.heap.setIfInBounds r o')[i]? = _;rw[Array.getElem?_setIfInBounds_ne (Ne.symm h)]
structure aCf(m:Nat)(w w':World):Prop where
 os:w'.os=w.os
 tape:w'.tape=w.tape
 output:w'.output=w.output
 size:w'.heap.size=w.heap.size
 block:∀i,i≠m→w'.heap[i]? = w.heap[i]?
theorem aCf.set(w:World)(m:Nat)(o:Obj):aCf m w (setBlock w m o):=⟨rfl,rfl,rfl,by simp[setBlock],fun i hi=>aFn _ hi⟩
theorem aCf.keep{m:Nat}{w w':World}(h:aCf m w w'):Keep (·=m) w w':=⟨h.os,h.tape,h.output,by rw[h.size];exact Nat.le_refl _,fun k _ hk=>h.block k hk⟩
theorem aA2.lt{w:World}{m:Nat}{kvs:List (Value×Value)}(h:aA2 w m kvs):m<w.heap.size:=by
 obtain⟨es,clock,hb,_⟩:=h;exact(Array.getElem?_eq_some_iff.1 hb).1
theorem aA2.keep{S:Nat→Prop}{w w':World}{m:Nat}{kvs:List (Value×Value)}(h:aA2 w m kvs)(k:Keep S w w')(hs:¬S m):aA2 w' m kvs:=by
 have hlt:=h.lt;obtain⟨es,clock,hb,h2⟩:=h;exact⟨es,clock,by rw[k.block m hlt hs];exact hb,h2⟩
theorem aA2.below{w w':World}{B m:Nat}{kvs:List (Value×Value)}(h:aA2 w m kvs)(k:Below B w w')(hm:m<B):aA2 w' m kvs:=by
 obtain⟨es,clock,hb,h2⟩:=h;exact⟨es,clock,by rw[k.block m hm];exact hb,h2⟩
theorem aA2.made(w:World):aA2 (w.alloc (.map #[] 0)) w.heap.size []:=
 ⟨#[],0,heap_alloc_new w _,stamped_empty 0,rfl⟩
theorem aA2.ne_blk{w:World}{m g:Nat}{kvs:List (Value×Value)}{cs:Array Value}{t:TypeId}(h:aA2 w m kvs)(b:Blk w g cs t):m≠g:=by
 rintro rfl;obtain⟨es,clock,hb,_⟩:=h;unfold Blk at b;rw[b]at hb
 cases hb
section
variable{P:Program}{k t e:TypeId}{S:Value→Prop}{w:World}{m:Nat}{kvs:List (Value×Value)}
theorem aGx{es:Array MapEntry}(h:es.toList.map kv=kvs)(hS:∀p∈kvs,S p.1):∀x∈es.toList,S x.key:=fun x hx=>hS (kv x) (by rw[←h];exact List.mem_map_of_mem hx)
theorem aA2.look_none(h:aA2 w m kvs)(K:aKs P k S)(hS:∀p∈kvs,S p.1)(ht:P.underlying t=some (.map k e)){z:Value}(hz:(zeroValue e).run P w=.ok z w){key:Value}(hk:S key)(hno:∀p∈kvs,p.1≠key)(c:Bool):
  (Instr.lookup t (.map (some m)) key c).run P w=.ok (if c then .tuple #[z,.bool false]else z) w:=by
 obtain⟨es,clock,hb,F,hl⟩:=h;rcases K.find w key hk es.toList (aGx hl hS)with⟨h1,h2⟩|⟨j,e0,h1,h2,h3⟩
 ·simp[Instr.lookup,run_underlying ht,MapKept.run_getObj_map hb,K.check w _ key hk,h1,hz,Result.andThen]
 exact absurd h3 (hno (kv e0) (by rw[←hl];exact List.mem_map_of_mem (List.mem_of_getElem? h2)))
theorem aA2.look_some(h:aA2 w m kvs)(K:aKs P k S)(hS:∀p∈kvs,S p.1)(ht:P.underlying t=some (.map k e)){key v:Value}(hk:S key)(hin:(key,v)∈kvs)(c:Bool):
  (Instr.lookup t (.map (some m)) key c).run P w=.ok (if c then .tuple #[v,.bool true]else v) w:=by
 obtain⟨es,clock,hb,F,hl⟩:=h;rw[←hl]at hin;obtain⟨e1,he1,hkv⟩:=List.mem_map.1 hin;unfold kv at hkv
 cases hkv
 rcases K.find w e1.key hk es.toList (aGx hl hS)with⟨h1,h2⟩|⟨j,e0,h1,h2,h3⟩
 ·exact absurd rfl (h2 e1 he1)
 have hp:=((stamped_iff es clock).1 F).2.2;have hm0:e0∈es.toList:=List.mem_of_getElem? h2
 have he:e0=e1:=by
  by_cases hne:e0=e1
  ·exact hne
  exfalso;obtain⟨i0,hi0,rfl⟩:=List.getElem_of_mem hm0;obtain⟨i1,hi1,rfl⟩:=List.getElem_of_mem he1;rcases Nat.lt_trichotomy i0 i1 with h'|h'|h'
  ·exact(List.pairwise_iff_getElem.1 hp i0 i1 hi0 hi1 h') h3
  ·subst h';exact hne rfl
  exact(List.pairwise_iff_getElem.1 hp i1 i0 hi1 hi0 h') h3.symm
 subst he;simp[Instr.lookup,run_underlying ht,MapKept.run_getObj_map hb,K.check w _ _ hk,h1,Result.andThen]
theorem aA2.once(h:aA2 w m kvs):kvs.Pairwise fun p q=>p.1≠q.1:=by
 obtain⟨es,clock,hb,F,hl⟩:=h;rw[←hl,List.pairwise_map];exact((stamped_iff es clock).1 F).2.2
theorem aA2.store_new(h:aA2 w m kvs)(K:aKs P k S)(hS:∀p∈kvs,S p.1)(ht:P.underlying t=some (.map k e)){key v:Value}(hk:S key)(hno:∀p∈kvs,p.1≠key):
  ∃w',(Instr.mapUpdate t (.map (some m)) key v).run P w=.ok () w'∧aA2 w' m (kvs++[(key,v)])∧aCf m w w':=by
 obtain⟨es,clock,hb,F,hl⟩:=h;rcases K.find w key hk es.toList (aGx hl hS)with⟨h1,h2⟩|⟨j,e0,h1,h2,h3⟩
 ·refine⟨setBlock w m (.map (es.push ⟨key,v,clock⟩) (clock+1)),?_,⟨_,_,aCt hb _,stamped_push F h2,?_⟩,aCf.set _ _ _⟩
  ·simp[Instr.mapUpdate,run_underlying ht,MapKept.run_getObj_map hb,K.check w false key hk,h1,MapKept.run_setObj_map _ hb,Result.andThen,setBlock]
  rw[Array.toList_push,List.map_append,hl];rfl
 exact absurd h3 (hno (kv e0) (by rw[←hl];exact List.mem_map_of_mem (List.mem_of_getElem? h2)))
theorem found_at{es:Array MapEntry}{clock:Nat}(F:Stamped es clock){A B:List (Value×Value)}{key v:Value}(hl:es.toList.map kv=A++(key,v)::B){j:Nat}{e0:MapEntry}(h2:es.toList[j]? = some e0)(h3:e0.key=key):j=A.length:=by
 have hp:(es.toList.map kv).Pairwise fun p q=>p.1≠q.1:=by rw[List.pairwise_map];exact((stamped_iff es clock).1 F).2.2
 have hj:(es.toList.map kv)[j]? = some (kv e0):=by rw[List.getElem?_map,h2];rfl
 rw[hl]at hj hp;have hA:(A++(key,v)::B)[A.length]? = some (key,v):=by simp
 obtain⟨hj1,hj2⟩:=List.getElem?_eq_some_iff.1 hj;obtain⟨hA1,hA2⟩:=List.getElem?_eq_some_iff.1 hA;have hne:=List.pairwise_iff_getElem.1 hp;rcases Nat.lt_trichotomy j A.length with h'|h'|h'
 ·have:=hne j A.length hj1 hA1 h';rw[hj2,hA2]at this;exact absurd h3 this
 ·exact h'
 have:=hne A.length j hA1 hj1 h';rw[hj2,hA2]at this;exact absurd h3.symm this
theorem aA2.store_old(h:aA2 w m kvs)(K:aKs P k S)(hS:∀p∈kvs,S p.1)(ht:P.underlying t=some (.map k e)){A B:List (Value×Value)}{key u v:Value}(hk:S key)(hin:kvs=A++(key,u)::B):
  ∃w',(Instr.mapUpdate t (.map (some m)) key v).run P w=.ok () w'∧aA2 w' m (A++(key,v)::B)∧aCf m w w':=by
 obtain⟨es,clock,hb,F,hl⟩:=h;rcases K.find w key hk es.toList (aGx hl hS)with⟨h1,h2⟩|⟨j,e0,h1,h2,h3⟩
 ·exfalso;have:(key,u)∈es.toList.map kv:=by rw[hl,hin];simp
  obtain⟨e1,he1,hkv⟩:=List.mem_map.1 this;unfold kv at hkv
  cases hkv
  exact h2 e1 he1 rfl
 have hjA:=found_at F (hl.trans hin) h2 h3;have hj:es[j]? = some e0:=by simpa using h2
 have hkeyf:∀e',es[j]? = some e'→({ e' with key:=key,val:=v }:MapEntry).key=e'.key:=fun e' he'=>by rw[hj]at he';cases he';exact h3.symm
 have hlist:(es.modify j (fun e'=>{ e' with key:=key,val:=v })).toList=es.toList.set j { e0 with key:=key,val:=v }:=by rw[Array.toList_modify,Go.ChangeMaps.modify_eq_set _ _ _ _ h2]
 refine⟨setBlock w m (.map (es.modify j (fun e'=>{ e' with key:=key,val:=v })) clock),?_,⟨_,_,aCt hb _,stamped_modify F _ _ (fun _ _=>rfl) (fun e' _ he'=>hkeyf e' he'),?_⟩,aCf.set _ _ _⟩
 ·simp[Instr.mapUpdate,run_underlying ht,MapKept.run_getObj_map hb,K.check w false key hk,h1,hj,h3,K.stays w key hk,MapKept.run_setObj_map _ hb,Result.andThen,setBlock]
 rw[hlist,List.map_set,hl,hin,hjA];show(A++(key,u)::B).set A.length (kv { e0 with key:=key,val:=v })=_;rw[List.set_append];simp[kv]
theorem aA2.drop(h:aA2 w m kvs)(K:aKs P k S)(hS:∀p∈kvs,S p.1)(ht:P.underlying t=some (.map k e))(ty:TypeId){A B:List (Value×Value)}{key u:Value}(hk:S key)(hin:kvs=A++(key,u)::B):
  ∃w',(Builtin.delete_ #[t,k] ty #[.map (some m),key]).run P w=.ok (.tuple #[]) w'∧aA2 w' m (A++B)∧aCf m w w':=by
 obtain⟨es,clock,hb,F,hl⟩:=h;rcases K.find w key hk es.toList (aGx hl hS)with⟨h1,h2⟩|⟨j,e0,h1,h2,h3⟩
 ·exfalso;have:(key,u)∈es.toList.map kv:=by rw[hl,hin];simp
  obtain⟨e1,he1,hkv⟩:=List.mem_map.1 this;unfold kv at hkv
  cases hkv
  exact h2 e1 he1 rfl
 have hjA:=found_at F (hl.trans hin) h2 h3;have hjl:j<es.toList.length:=(List.getElem?_eq_some_iff.1 h2).1;have hjs:j<es.size:=by simpa using hjl
 have hsub:(es.eraseIdxIfInBounds j).toList=es.toList.eraseIdx j:=by
  unfold Array.eraseIdxIfInBounds;rw[dif_pos hjs];simp
 refine⟨setBlock w m (.map (es.eraseIdxIfInBounds j) clock),?_,⟨_,_,aCt hb _,stamped_erase F j,?_⟩,aCf.set _ _ _⟩
 ·simp[Builtin.delete_,run_underlying ht,MapKept.run_getObj_map hb,K.check w _ key hk,h1,MapKept.run_setObj_map _ hb,Result.andThen,setBlock]
 rw[hsub,Go.ChangeMaps.map_eraseIdx,hl,hin,hjA];rw[List.eraseIdx_append_of_length_le yL];simp
theorem aA2.drop_none(h:aA2 w m kvs)(K:aKs P k S)(hS:∀p∈kvs,S p.1)(ht:P.underlying t=some (.map k e))(ty:TypeId){key:Value}(hk:S key)(hno:∀p∈kvs,p.1≠key):
  ∃w',(Builtin.delete_ #[t,k] ty #[.map (some m),key]).run P w=.ok (.tuple #[]) w'∧aA2 w' m kvs∧aCf m w w':=by
 obtain⟨es,clock,hb,F,hl⟩:=h;rcases K.find w key hk es.toList (aGx hl hS)with⟨h1,h2⟩|⟨j,e0,h1,h2,h3⟩
 ·refine⟨setBlock w m (.map es clock),?_,⟨_,_,aCt hb _,F,hl⟩,aCf.set _ _ _⟩;simp[Builtin.delete_,run_underlying ht,MapKept.run_getObj_map hb,K.check w _ key hk,h1,MapKept.run_setObj_map _ hb,Result.andThen,setBlock]
 exact absurd h3 (hno (kv e0) (by rw[←hl];exact List.mem_map_of_mem (List.mem_of_getElem? h2)))
theorem aA2.len(h:aA2 w m kvs)(ht:P.underlying t=some (.map k e))(ty:TypeId):(Builtin.len_ #[t] ty #[.map (some m)]).run P w=.ok (.int .i64 kvs.length) w:=by
 obtain⟨es,clock,hb,F,hl⟩:=h;have e1:kvs.length=es.size:=by rw[←hl];simp
 rw[e1];simp[Builtin.len_,run_underlying ht,MapKept.run_getObj_map hb,goInt,Result.andThen]
def aB4(w:World)(m r:Nat)(kvs left:List (Value×Value)):Prop:=
 ∃es clock since seen c0,w.heap[m]? = some (.map es clock)∧Stamped es clock∧es.toList.map kv=kvs∧w.heap[r]? = some (.mapIter (some m) since seen c0)∧(∀x∈es.toList,x.born<since)∧since≤c0∧since≤clock∧(leftOf es seen).toList.map kv=left
theorem aB4.map{r:Nat}{left:List (Value×Value)}(h:aB4 w m r kvs left):aA2 w m kvs:=by
 obtain⟨es,clock,since,seen,c0,hb,F,hl,_⟩:=h;exact⟨es,clock,hb,F,hl⟩
theorem aB4.lt{r:Nat}{left:List (Value×Value)}(h:aB4 w m r kvs left):r<w.heap.size:=by
 obtain⟨es,clock,since,seen,c0,_,_,_,hr,_⟩:=h;exact(Array.getElem?_eq_some_iff.1 hr).1
theorem aB4.ne{r:Nat}{left:List (Value×Value)}(h:aB4 w m r kvs left):m≠r:=by
 obtain⟨es,clock,since,seen,c0,hb,_,_,hr,_⟩:=h;rintro rfl;rw[hb]at hr
 cases hr
theorem aB4.keep{Z:Nat→Prop}{w':World}{r:Nat}{left:List (Value×Value)}(h:aB4 w m r kvs left)(q:Keep Z w w')(hm:¬Z m)(hr:¬Z r):aB4 w' m r kvs left:=by
 have h1:=h.map.lt;have h2:=h.lt;obtain⟨es,clock,since,seen,c0,hb,F,hl,hr',rest⟩:=h;exact⟨es,clock,since,seen,c0,by rw[q.block m h1 hm];exact hb,F,hl,by rw[q.block r h2 hr];exact hr',rest⟩
theorem aB4.below{w':World}{r:Nat}{left:List (Value×Value)}(h:aB4 w m r kvs left)(q:Below w.heap.size w w'):aB4 w' m r kvs left:=by
 have h1:=h.map.lt;have h2:=h.lt;obtain⟨es,clock,since,seen,c0,hb,F,hl,hr',rest⟩:=h;exact⟨es,clock,since,seen,c0,by rw[q.block m h1];exact hb,F,hl,by rw[q.block r h2];exact hr',rest⟩
theorem aA2.range(h:aA2 w m kvs)(ht:P.underlying t=some (.map k e)):∃w',(Instr.range t (.map (some m))).run P w=.ok (.pointer (some ⟨w.heap.size,0,none⟩)) w'∧aB4 w' m w.heap.size kvs kvs∧Below w.heap.size w w':=by
 have hlt:=h.lt;obtain⟨es,clock,hb,F,hl⟩:=h;refine⟨_,run_range_map w t k e m es clock ht hb,⟨es,clock,clock,#[],clock,by rw[heap_alloc_old w _ hlt];exact hb,F,hl,heap_alloc_new w _,((stamped_iff es clock).1 F).1,Nat.le_refl _,Nat.le_refl _,?_⟩,yZ.alloc yL _⟩;rw[←hl];congr 1;unfold leftOf;simp
theorem left_push{es:Array MapEntry}{clock:Nat}(F:Stamped es clock){seen:Array Nat}{e0:MapEntry}(he:e0∈(leftOf es seen).toList):
  ∃A B,(leftOf es seen).toList=A++e0::B∧(leftOf es (seen.push e0.born)).toList=A++B:=by
 have hn:((leftOf es seen).toList.map (·.born)).Nodup:=by
  have h1:=((stamped_iff es clock).1 F).2.1;unfold leftOf;rw[Array.toList_filter];exact h1.sublist (List.Sublist.map _ List.filter_sublist)
 obtain⟨A,B,hAB⟩:=List.append_of_mem he;refine⟨A,B,hAB,?_⟩
 have e1:(leftOf es (seen.push e0.born)).toList=(leftOf es seen).toList.filter fun x=>!(x.born==e0.born):=by
  unfold leftOf;rw[Array.toList_filter,Array.toList_filter,List.filter_filter];congr 1
  funext x
  rw[contains_push]
  cases seen.contains x.born <;> cases (x.born==e0.born) <;> rfl
 rw[e1,hAB,List.filter_append,List.filter_cons];rw[hAB,List.map_append,List.map_cons]at hn;have h2:=List.nodup_append.1 hn;have hA:∀x∈A,x.born≠e0.born:=fun x hx heq=>(h2.2.2 x.born (List.mem_map_of_mem hx) e0.born (by simp)) heq
 have hB:∀x∈B,x.born≠e0.born:=fun x hx heq=>(List.nodup_cons.1 h2.2.1).1 (by rw[←heq];exact List.mem_map_of_mem hx)
 rw[List.filter_eq_self.2 (fun x hx=>by simpa using hA x hx),List.filter_eq_self.2 (fun x hx=>by simpa using hB x hx)];simp
theorem aB4.next{r:Nat}{left:List (Value×Value)}(h:aB4 w m r kvs left)(ty:TypeId):
  (left=[]∧(Instr.next (.pointer (some ⟨r,0,none⟩)) false ty).run P w=.ok (.tuple #[.bool false]) w)∨
  ∃A x B w',left=A++x::B∧(Instr.next (.pointer (some ⟨r,0,none⟩)) false ty).run P w=.ok (.tuple #[.bool true,x.1,x.2]) w'∧aB4 w' m r kvs (A++B)∧aCf r w w'∧(Instr.entry (.pointer (some ⟨r,0,none⟩))).run P w'=.ok (.tuple #[x.1,x.2]) w':=by
 have hne:=h.ne;obtain⟨es,clock,since,seen,c0,hb,F,hl,hr,hold,hsc,hsk,hleft⟩:=h;rcases run_next_at (P:=P) w ty r m since c0 seen es clock hr hb hold hsc with⟨h0,hrun⟩|⟨e0,he,w1,hal,hrun⟩
 ·refine .inl ⟨?_,hrun⟩;rw[←hleft];have:(leftOf es seen).toList=[]:=by simpa using h0
  rw[this];rfl
 obtain⟨A,B,hAB,hpush⟩:=left_push F he;have hmem:e0∈es.toList:=(mem_left he).1;have hr1:w1.heap[r]? = some (.mapIter (some m) since seen c0):=by rcases hal with rfl|rfl <;> exact hr
 have hb1:w1.heap[m]? = some (.map es clock):=by rcases hal with rfl|rfl <;> exact hb
 have hb':(setBlock w1 r (.mapIter (some m) since (seen.push e0.born) clock)).heap[m]? = some (.map es clock):=by rw[aFn _ hne];exact hb1
 have hrs:(setBlock w1 r (.mapIter (some m) since (seen.push e0.born) clock)).heap[r]? = some (.mapIter (some m) since (seen.push e0.born) clock):=aCt hr1 _;refine .inr ⟨A.map kv,kv e0,B.map kv,_,by rw[←hleft,hAB];simp,hrun,⟨es,clock,since,seen.push e0.born,clock,hb',F,hl,hrs,hold,hsk,hsk,by rw[hpush];simp⟩,?_,run_entry_at _ r m since seen es clock e0 hrs hb' hmem ((stamped_iff es clock).1 F).2.1⟩;have ht:=aCf.set w1 r (.mapIter (some m) since (seen.push e0.born) clock);rcases hal with rfl|rfl
 ·exact ht
 exact⟨ht.os,ht.tape,ht.output,ht.size,ht.block⟩
end
end Go.Proofs.YtngnfdnfpiiclaaGreat
namespace Go.Proofs.YtngnfdnfpiiclaaGreat
open Go.RowKit
theorem endsRow:(188:TypeId)<Tryz.prog.types.size:=of_decide_eq_true (by kernel_rfl)
theorem dumpLaid:laidOutB Tryz.prog=true:=by kernel_rfl
theorem endsLaw:Go.WideMaps.KeyLaw Tryz.prog 188:=deep_law_laid dumpLaid (m:=2) (by omega) endsRow (by kernel_rfl) (by rw[Tryz.underlying188])
def aDq(a b c:Int):Value:=.agg #[.int .u8 a,.int .u8 b,.int .u8 c]
def amtV(l d:Int):Value:=.agg #[.int .i64 l,.int .i64 d]
def U8(n:Int):Prop:=0≤n∧n≤255
def aLy(v:Value):Prop:=∃a b c,v=aDq a b c∧U8 a∧U8 b∧U8 c
theorem endsV_inj{a b c a' b' c':Int}(h:aDq a b c=aDq a' b' c'):a=a'∧b=b'∧c=c':=by
 unfold aDq at h;simp at h;exact h
theorem aGy{P:Program}{t:TypeId}(ht:P.underlying t=some (.int .u8))(n:Nat)(a:Int)(w:(Lit.int .u8 a).wf=true):P.keyLits (n+1) t [.int .u8 a]=some [.int .u8 a]:=by
 unfold Program.keyLits;rw[ht];simp[w]
theorem u8_wf{a:Int}(h:U8 a):(Lit.int .u8 a).wf=true:=by
 obtain⟨a1,a2⟩:=h;simp[Lit.wf,IntKind.min,IntKind.max,IntKind.signed,IntKind.bits];omega
theorem aLz(n:Nat)(a b c:Int)(wa:(Lit.int .u8 a).wf=true)(wb:(Lit.int .u8 b).wf=true)(wc:(Lit.int .u8 c).wf=true):Tryz.prog.keyLits (n+1+1) 188 [.int .u8 a,.int .u8 b,.int .u8 c]=some [.int .u8 a,.int .u8 b,.int .u8 c]:=by
 have hs:Tryz.prog.cellsOf 188=3:=by kernel_rfl
 have h1:Tryz.prog.cellsOf 68=1:=by kernel_rfl
 have h2:Tryz.prog.cellsOf 69=1:=by kernel_rfl
 have l1:=aGy Tryz.underlying68 n a wa;have l2:=aGy Tryz.underlying68 n b wb;have l3:=aGy Tryz.underlying69 n c wc;have hu:=Tryz.underlying188;rw[Program.keyLits.eq_def];dsimp only;rw[hu];dsimp only;generalize Tryz.prog=P at *;simp[hs,h1,h2,l1,l2,l3]
theorem ends_keyOf(a b c:Int)(ha:U8 a)(hb:U8 b)(hc:U8 c):∃l,keyOf Tryz.prog 188 (aDq a b c)=some l:=by
 have hk:Tryz.prog.keyType 188=true:=by kernel_rfl
 have hs:Tryz.prog.cellsOf 188=3:=by kernel_rfl
 obtain⟨n,hn⟩:∃n,Tryz.prog.types.size+1=n+1+1:=by
  have h0:0<Tryz.prog.types.size:=Nat.lt_of_le_of_lt (Nat.zero_le _) endsRow;exact⟨Tryz.prog.types.size - 1,by omega⟩
 have hl:=aLz n a b c (u8_wf ha) (u8_wf hb) (u8_wf hc);have hu:=Tryz.underlying188;have hf:(aDq a b c).formed Tryz.prog 188=true:=by simp[Value.formed,aDq,hu,hs]
 refine⟨.string (keyBytes [.int .u8 a,.int .u8 b,.int .u8 c]),?_⟩;unfold keyOf;rw[hu];dsimp only;rw[hk,hf,hn,show(aDq a b c).cells.toList=[.int .u8 a,.int .u8 b,.int .u8 c]from rfl,hl];rfl
theorem aJu:aKs Tryz.prog 188 aLy:=pAJ (Go.Maps.Keyed.of_law endsLaw) fun v ⟨a,b,c,e,ha,hb,hc⟩=>by subst e;exact ends_keyOf a b c ha hb hc
theorem zeroAmt(w:World):(zeroValue 190).run Tryz.prog w=.ok (amtV 0 0) w:=by kernel_rfl
theorem In8.u8{n:Int}(h:In8 n):U8 n:=h
def lnKV(x:Ln):Value×Value:=(aDq x.cr x.de x.cu,amtV x.li x.db)
def aCn(w:World)(m:Nat)(ls:List Ln):Prop:=∃ms:List Ln,aA2 w m (ms.map lnKV)∧ms.Perm ls
theorem aCn.lt{w:World}{m:Nat}{ls:List Ln}(h:aCn w m ls):m<w.heap.size:=by obtain⟨ms,h1,_⟩:=h;exact h1.lt
theorem aCn.keep{S:Nat→Prop}{w w':World}{m:Nat}{ls:List Ln}(h:aCn w m ls)(k:Keep S w w')(hs:¬S m):aCn w' m ls:=by obtain⟨ms,h1,h2⟩:=h;exact⟨ms,h1.keep k hs,h2⟩
theorem aCn.below{w w':World}{B m:Nat}{ls:List Ln}(h:aCn w m ls)(k:Below B w w')(hm:m<B):aCn w' m ls:=by obtain⟨ms,h1,h2⟩:=h;exact⟨ms,h1.below k hm,h2⟩
theorem aCn.ne_blk{w:World}{m g:Nat}{ls:List Ln}{cs:Array Value}{t:TypeId}(h:aCn w m ls)(b:Blk w g cs t):m≠g:=by obtain⟨ms,h1,_⟩:=h;exact h1.ne_blk b
theorem aCn.made(w:World):aCn (w.alloc (.map #[] 0)) w.heap.size []:=⟨[],aA2.made w,List.Perm.refl _⟩
section
variable{w:World}{m:Nat}{ls:List Ln}
theorem aFb{ms:List Ln}(hp:ms.Perm ls)(hI:Inv ls):∀p∈ms.map lnKV,aLy p.1:=by
 intro p hp';obtain⟨x,hx,rfl⟩:=List.mem_map.1 hp';have hf:=(hI.good x (hp.mem_iff.1 hx)).fits;exact⟨_,_,_,rfl,hf.cr,hf.de,hf.cu⟩
theorem kvs_no{ms:List Ln}(hp:ms.Perm ls){a b c:Int}(hl:aAl ls a b c=none):∀p∈ms.map lnKV,p.1≠aDq a b c:=by
 intro p hp' he;obtain⟨x,hx,rfl⟩:=List.mem_map.1 hp';obtain⟨e1,e2,e3⟩:=endsV_inj he;exact(aDp a b c).1 hl x (hp.mem_iff.1 hx) ⟨e1,e2,e3⟩
theorem aCn.look(h:aCn w m ls)(hI:Inv ls){a b c:Int}(ha:U8 a)(hb:U8 b)(hc:U8 c):
  (Instr.lookup 152 (.map (some m)) (aDq a b c) true).run Tryz.prog w=.ok (.tuple #[amtV (lnAt ls a b c).li (lnAt ls a b c).db,.bool (aAl ls a b c).isSome]) w∧
  (Instr.lookup 152 (.map (some m)) (aDq a b c) false).run Tryz.prog w=.ok (amtV (lnAt ls a b c).li (lnAt ls a b c).db) w:=by
 obtain⟨ms,h1,hp⟩:=h;have hk:aLy (aDq a b c):=⟨a,b,c,rfl,ha,hb,hc⟩
 cases hl:aAl ls a b c with
 | none=>
  rw[aA0 hl];have q:=fun o=>h1.look_none aJu (aFb hp hI) Tryz.underlying152 (zeroAmt w) hk (kvs_no hp hl) o
  exact⟨q true,q false⟩
 | some x=>
  rw[aAx hl];obtain⟨hm,e1,e2,e3⟩:=aAo hl;have hin:(aDq a b c,amtV x.li x.db)∈ms.map lnKV:=List.mem_map.2 ⟨x,hp.mem_iff.2 hm,by unfold lnKV;rw[e1,e2,e3]⟩;have q:=fun o=>h1.look_some aJu (aFb hp hI) Tryz.underlying152 hk hin o
  exact⟨q true,q false⟩
theorem aCn.len(h:aCn w m ls)(ty:TypeId):(Builtin.len_ #[152] ty #[.map (some m)]).run Tryz.prog w=.ok (.int .i64 ls.length) w:=by
 obtain⟨ms,h1,hp⟩:=h;have:=h1.len (P:=Tryz.prog) Tryz.underlying152 ty
 rwa [List.length_map,hp.length_eq]at this
theorem eqL_some(hI:Inv ls){x:Ln}(hx:x∈ls):eqL x.rank ls=[x]:=by
 have hmem:x∈eqL x.rank ls:=by unfold eqL;exact List.mem_filter.2 ⟨hx,by simp⟩
 have hp:(eqL x.rank ls).Pairwise fun x y=>x.rank<y.rank:=by unfold eqL;exact List.Pairwise.filter _ hI.sorted
 have hall:∀z∈eqL x.rank ls,z.rank=x.rank:=fun z hz=>by unfold eqL at hz;simpa using(List.mem_filter.1 hz).2
 generalize eqL x.rank ls=B at *
 match B,hmem,hp,hall with
 | [z],hmem,_,_=>rw[List.mem_singleton]at hmem;subst hmem;rfl
 | z::u::r,_,hp,hall=>
  have a1:=hall z (by simp);have a2:=hall u (by simp);have a3:=(List.pairwise_cons.1 hp).1 u (by simp);omega
theorem eqL_none(hI:Inv ls){x:Ln}(hf:x.Fits)(hl:aAl ls x.cr x.de x.cu=none):eqL x.rank ls=[]:=by
 unfold eqL;rw[List.filter_eq_nil_iff];intro y hy;have h1:=(aDp (ls:=ls) x.cr x.de x.cu).1 hl y hy;intro hr;exact h1 (aHw (hI.good y hy).fits hf (by simpa using hr))
theorem aCn.store(h:aCn w m ls)(hI:Inv ls){x:Ln}(hf:x.Fits)(h0:x.li≠0):
  ∃w',(Instr.mapUpdate 152 (.map (some m)) (aDq x.cr x.de x.cu) (amtV x.li x.db)).run Tryz.prog w=.ok () w'∧aCn w' m (setL ls x)∧aCf m w w':=by
 obtain⟨ms,h1,hp⟩:=h;have hk:aLy (aDq x.cr x.de x.cu):=⟨_,_,_,rfl,hf.cr,hf.de,hf.cu⟩;have hset:=aFt hI.sorted x;have hsp:=aB3 x.rank ls hI.sorted;rw[if_neg h0]at hset
 cases hl:aAl ls x.cr x.de x.cu with
 | none=>
  rw[eqL_none hI hf hl,List.nil_append]at hsp;obtain⟨w',hr,hm,ht⟩:=h1.store_new (v:=amtV x.li x.db) aJu (aFb hp hI) Tryz.underlying152 hk (kvs_no hp hl);refine⟨w',hr,⟨ms++[x],by rw[List.map_append];exact hm,?_⟩,ht⟩;rw[hset];refine(List.perm_append_singleton x ms).trans ((hp.cons x).trans ?_)
  conv=>lhs;rw[hsp]
  exact List.perm_middle.symm
 | some y=>
  obtain⟨hm,e1,e2,e3⟩:=aAo hl;have hr0:y.rank=x.rank:=aGv e1 e2 e3;have heq:=eqL_some hI hm;rw[hr0]at heq;rw[heq]at hsp;obtain⟨A,B,hAB⟩:=List.append_of_mem (hp.mem_iff.2 hm);subst hAB;obtain⟨w',hr,hmm,ht⟩:=h1.store_old (A:=A.map lnKV) (B:=B.map lnKV) (u:=amtV y.li y.db) (v:=amtV x.li x.db) aJu (aFb hp hI) Tryz.underlying152 hk (by rw[List.map_append,List.map_cons,show lnKV y=(aDq x.cr x.de x.cu,amtV y.li y.db) by unfold lnKV;rw[e1,e2,e3]]);refine⟨w',hr,⟨A++x::B,by rw[List.map_append,List.map_cons];exact hmm,?_⟩,ht⟩;rw[hset]
  have hp2:(y::(A++B)).Perm (y::(loL x.rank ls++hiL x.rank ls)):=by
   refine List.perm_middle.symm.trans (hp.trans ?_)
   conv=>lhs;rw[hsp]
   exact List.perm_middle
  exact List.perm_middle.trans ((hp2.cons_inv.cons x).trans List.perm_middle.symm)
theorem aCn.drop(h:aCn w m ls)(hI:Inv ls)(ty:TypeId){x:Ln}(hf:x.Fits)(h0:x.li=0):
  ∃w',(Builtin.delete_ #[152,188] ty #[.map (some m),aDq x.cr x.de x.cu]).run Tryz.prog w=.ok (.tuple #[]) w'∧aCn w' m (setL ls x)∧aCf m w w':=by
 obtain⟨ms,h1,hp⟩:=h;have hk:aLy (aDq x.cr x.de x.cu):=⟨_,_,_,rfl,hf.cr,hf.de,hf.cu⟩;have hset:=aFt hI.sorted x;have hsp:=aB3 x.rank ls hI.sorted;rw[if_pos h0,List.nil_append]at hset
 cases hl:aAl ls x.cr x.de x.cu with
 | none=>
  rw[eqL_none hI hf hl,List.nil_append]at hsp;obtain⟨w',hr,hm,ht⟩:=h1.drop_none aJu (aFb hp hI) Tryz.underlying152 ty hk (kvs_no hp hl);exact⟨w',hr,⟨ms,hm,by rw[hset,←hsp];exact hp⟩,ht⟩
 | some y=>
  obtain⟨hm,e1,e2,e3⟩:=aAo hl;have hr0:y.rank=x.rank:=aGv e1 e2 e3;have heq:=eqL_some hI hm;rw[hr0]at heq;rw[heq]at hsp;obtain⟨A,B,hAB⟩:=List.append_of_mem (hp.mem_iff.2 hm);subst hAB;obtain⟨w',hr,hmm,ht⟩:=h1.drop (A:=A.map lnKV) (B:=B.map lnKV) (u:=amtV y.li y.db) aJu (aFb hp hI) Tryz.underlying152 ty hk (by rw[List.map_append,List.map_cons,show lnKV y=(aDq x.cr x.de x.cu,amtV y.li y.db) by unfold lnKV;rw[e1,e2,e3]]);refine⟨w',hr,⟨A++B,by rw[List.map_append];exact hmm,?_⟩,ht⟩;rw[hset]
  have hp2:(y::(A++B)).Perm (y::(loL x.rank ls++hiL x.rank ls)):=by
   refine List.perm_middle.symm.trans (hp.trans ?_)
   conv=>lhs;rw[hsp]
   exact List.perm_middle
  exact hp2.cons_inv
def aBe(w:World)(m r:Nat)(ls done:List Ln):Prop:=
 ∃ms left:List Ln,aB4 w m r (ms.map lnKV) (left.map lnKV)∧ms.Perm ls∧(done++left).Perm ls
theorem aBe.lt{r:Nat}{done:List Ln}(h:aBe w m r ls done):r<w.heap.size:=by obtain⟨ms,left,h1,_⟩:=h;exact h1.lt
theorem aBe.len{r:Nat}{done:List Ln}(h:aBe w m r ls done):done.length≤ls.length:=by
 obtain⟨ms,left,_,_,h3⟩:=h;have:=h3.length_eq;rw[List.length_append]at this;omega
theorem aBe.sub{r:Nat}{done:List Ln}(h:aBe w m r ls done):∀x∈done,x∈ls:=by
 obtain⟨ms,left,_,_,h3⟩:=h;exact fun x hx=>h3.mem_iff.1 (List.mem_append_left _ hx)
theorem aBe.below{w':World}{r:Nat}{done:List Ln}(h:aBe w m r ls done)(q:Below w.heap.size w w'):aBe w' m r ls done:=by
 obtain⟨ms,left,h1,h2⟩:=h;exact⟨ms,left,h1.below q,h2⟩
theorem aBe.keep{Z:Nat→Prop}{w':World}{r:Nat}{done:List Ln}(h:aBe w m r ls done)(q:Keep Z w w')(hm:¬Z m)(hr:¬Z r):aBe w' m r ls done:=by
 obtain⟨ms,left,h1,h2⟩:=h;exact⟨ms,left,h1.keep q hm hr,h2⟩
theorem aCn.range(h:aCn w m ls):∃w',(Instr.range 152 (.map (some m))).run Tryz.prog w=.ok (.pointer (some ⟨w.heap.size,0,none⟩)) w'∧aBe w' m w.heap.size ls []∧Below w.heap.size w w':=by
 obtain⟨ms,h1,hp⟩:=h;obtain⟨w',a,b,c⟩:=h1.range (P:=Tryz.prog) Tryz.underlying152;exact⟨w',a,⟨ms,ms,b,hp,hp⟩,c⟩
theorem aBe.next{r:Nat}{done:List Ln}(h:aBe w m r ls done)(ty:TypeId):
  (done.Perm ls∧(Instr.next (.pointer (some ⟨r,0,none⟩)) false ty).run Tryz.prog w=.ok (.tuple #[.bool false]) w)∨
  ∃x w',x∈ls∧(Instr.next (.pointer (some ⟨r,0,none⟩)) false ty).run Tryz.prog w=.ok (.tuple #[.bool true,aDq x.cr x.de x.cu,amtV x.li x.db]) w'∧aBe w' m r ls (done++[x])∧aCf r w w'∧
   (Instr.entry (.pointer (some ⟨r,0,none⟩))).run Tryz.prog w'=.ok (.tuple #[aDq x.cr x.de x.cu,amtV x.li x.db]) w':=by
 obtain⟨ms,left,h1,hp,hd⟩:=h;rcases h1.next (P:=Tryz.prog) ty with⟨h0,hr⟩|⟨A,q,B,w',hl,hr,hrg,ht,hen⟩
 ·refine .inl ⟨?_,hr⟩;have:left=[]:=by simpa using h0
  rw[this,List.append_nil]at hd;exact hd
 obtain⟨A',l2,rfl,rfl,h2⟩:=List.map_eq_append_iff.1 hl;obtain⟨x,B',rfl,rfl,rfl⟩:=List.map_eq_cons_iff.1 h2;refine .inr ⟨x,w',hd.mem_iff.1 (by simp),hr,⟨ms,A'++B',by rw[List.map_append];exact hrg,hp,?_⟩,ht,hen⟩;refine List.Perm.trans ?_ hd;rw[List.append_assoc];exact List.Perm.append_left done (List.perm_middle (a:=x) (l₁:=A') (l₂:=B')).symm
end
theorem lineV_at(ls:List Ln)(a b c:Int):lineV (aAl ls a b c)=.tuple #[.agg #[.int .u8 (lnAt ls a b c).cr,.int .u8 (lnAt ls a b c).de,.int .u8 (lnAt ls a b c).cu,.int .i64 (lnAt ls a b c).li,.int .i64 (lnAt ls a b c).db],.bool (aAl ls a b c).isSome]:=by
 unfold lnAt lineV Ln.val
 cases aAl ls a b c <;> rfl
theorem aJv(ps:List Int)(ls:List Ln)(a b c n:Int)(h:a<1∨16<a∨b<1∨16<b∨c<1∨8<c∨a=b∨n<0∨1099511627776<n):aAi ps ls a b c n=1∧aAj ps ls a b c n=ls:=by
 have e:aAi ps ls a b c n=1:=by unfold aAi;rw[if_pos h]
 exact⟨e,by unfold aAj;rw[e];rfl⟩
theorem rtrust_arg{w:World}{base g:Nat}{ps:List Int}{ls:List Ln}{vp vl:Value}(a b c n:Int)(h:a<1∨16<a∨b<1∨16<b∨c<1∨8<c∨a=b∨n<0∨1099511627776<n):
  Calls Tryz.prog 82 #[.pointer (some ⟨g,0,none⟩),.int .u8 a,.int .u8 b,.int .u8 c,.int .i64 n] w (yV w (.int .i64 1)):=by
 have hs:a<1∨(1≤a∧16<a)∨(1≤a∧a≤16∧b<1)∨(1≤a∧a≤16∧1≤b∧16<b)∨(1≤a∧a≤16∧1≤b∧b≤16∧c<1)∨(1≤a∧a≤16∧1≤b∧b≤16∧1≤c∧8<c)∨(1≤a∧a≤16∧1≤b∧b≤16∧1≤c∧c≤8∧(a==b)=true)∨(1≤a∧a≤16∧1≤b∧b≤16∧1≤c∧c≤8∧(a==b)=false∧n<0)∨(1≤a∧a≤16∧1≤b∧b≤16∧1≤c∧c≤8∧(a==b)=false∧0≤n∧1099511627776<n):=by
  by_cases e:a=b
  ·have:(a==b)=true:=by simp[e]
   rw[this];simp;omega
  have:(a==b)=false:=by simp[e]
  rw[this];simp;omega
 clear h;rcases hs with h1|⟨h1,h2⟩|⟨h1,h2,h3⟩|⟨h1,h2,h3,h4⟩|⟨h1,h2,h3,h4,h5⟩|⟨h1,h2,h3,h4,h5,h6⟩|⟨h1,h2,h3,h4,h5,h6,h7⟩|⟨h1,h2,h3,h4,h5,h6,h7,h8⟩|⟨h1,h2,h3,h4,h5,h6,h7,h8,h9⟩
 all_goals
  go_enter Tryz.func82,Tryz.ntmps82;go_wp2_with fail;go_ret;exact⟨rfl,rfl⟩
theorem aNi{w:World}{base g:Nat}{ps:List Int}{ls:List Ln}{vp vl:Value}(h:RefL w base g ps ls vp vl)(hgood:∀y∈ls,y.Good)(hlen:ls.length≤64)(a b c n:Int)(x:Ln)(sx:Bool)
  (h1:1≤a)(h2:a≤16)(h3:1≤b)(h4:b≤16)(h5:1≤c)(h6:c≤8)(h7:(a==b)=false)(h8:0≤n)(h9:n≤1099511627776)(x0:0≤x.db)(x1:x.db≤1099511627776)(hd:n<x.db)
  (ca:Hid (Calls Tryz.prog 70 #[.pointer (some ⟨g,0,none⟩),.int .u8 a] w (yV w (.bool true))))
  (cb:Hid (Calls Tryz.prog 70 #[.pointer (some ⟨g,0,none⟩),.int .u8 b] w (yV w (.bool true))))
  (cx:Hid (Calls Tryz.prog 89 #[.pointer (some ⟨g,0,none⟩),.int .u8 a,.int .u8 b,.int .u8 c] w (yR w (.tuple #[.agg #[.int .u8 x.cr,.int .u8 x.de,.int .u8 x.cu,.int .i64 x.li,.int .i64 x.db],.bool sx])))):
  Calls Tryz.prog 82 #[.pointer (some ⟨g,0,none⟩),.int .u8 a,.int .u8 b,.int .u8 c,.int .i64 n] w (yR w (.int .i64 14)):=by
 have H:=yH h;have hg:=h.blk.lt;have HG:=yH hgood;obtain⟨ao,cap,rfl,hc1,hc2,_,_⟩:=aAh h.l;clear h hgood;go_enter Tryz.func82,Tryz.ntmps82;go_wp2_with fail;refine ca.out.mono ?_;rintro e w ⟨rfl,rfl⟩;go_wp2_with fail;refine cb.out.mono ?_;rintro e w ⟨rfl,rfl⟩;go_wp2_with fail;refine cx.out.mono ?_;rintro e w1 ⟨rfl,b1⟩;have KX:=yH (Blk.new w1 #[.int .u8 x.cr,.int .u8 x.de,.int .u8 x.cu,.int .i64 x.li,.int .i64 x.db] 71);have B1:=yH (b1.alloc b1.size (.cells #[.int .u8 x.cr,.int .u8 x.de,.int .u8 x.cu,.int .i64 x.li,.int .i64 x.db] 71));have dg:=(H.o.blk.below B1.o hg).cell 1;simp at dg;have hg1:=(H.o.blk.below B1.o hg).lt;clear b1;go_wp2_with fail;go_ret;exact⟨rfl,B1.o⟩
theorem aNj{w:World}{base g:Nat}{ps:List Int}{ls:List Ln}{vp vl:Value}(h:RefL w base g ps ls vp vl)(hgood:∀y∈ls,y.Good)(hlen:ls.length≤64)(a b c n:Int)(x:Ln)(sx:Bool)
  (h1:1≤a)(h2:a≤16)(h3:1≤b)(h4:b≤16)(h5:1≤c)(h6:c≤8)(h7:(a==b)=false)(h8:0≤n)(h9:n≤1099511627776)(x0:0≤x.db)(x1:x.db≤1099511627776)(hd:decide (n<x.db)=false)(hs:sx=false)(hn:0<n)(hf:64≤ls.length)
  (ca:Hid (Calls Tryz.prog 70 #[.pointer (some ⟨g,0,none⟩),.int .u8 a] w (yV w (.bool true))))
  (cb:Hid (Calls Tryz.prog 70 #[.pointer (some ⟨g,0,none⟩),.int .u8 b] w (yV w (.bool true))))
  (cx:Hid (Calls Tryz.prog 89 #[.pointer (some ⟨g,0,none⟩),.int .u8 a,.int .u8 b,.int .u8 c] w (yR w (.tuple #[.agg #[.int .u8 x.cr,.int .u8 x.de,.int .u8 x.cu,.int .i64 x.li,.int .i64 x.db],.bool sx])))):
  Calls Tryz.prog 82 #[.pointer (some ⟨g,0,none⟩),.int .u8 a,.int .u8 b,.int .u8 c,.int .i64 n] w (yR w (.int .i64 9)):=by
 have H:=yH h;have hg:=h.blk.lt;have HG:=yH hgood;obtain⟨ao,cap,rfl,hc1,hc2,_,_⟩:=aAh h.l;clear h hgood;go_enter Tryz.func82,Tryz.ntmps82;go_wp2_with fail;refine ca.out.mono ?_;rintro e w ⟨rfl,rfl⟩;go_wp2_with fail;refine cb.out.mono ?_;rintro e w ⟨rfl,rfl⟩;go_wp2_with fail;refine cx.out.mono ?_;rintro e w1 ⟨rfl,b1⟩;have KX:=yH (Blk.new w1 #[.int .u8 x.cr,.int .u8 x.de,.int .u8 x.cu,.int .i64 x.li,.int .i64 x.db] 71);have B1:=yH (b1.alloc b1.size (.cells #[.int .u8 x.cr,.int .u8 x.de,.int .u8 x.cu,.int .i64 x.li,.int .i64 x.db] 71));have dg:=(H.o.blk.below B1.o hg).cell 1;simp at dg;have hg1:=(H.o.blk.below B1.o hg).lt;clear b1;subst hs;go_wp2_with fail;go_ret;exact⟨rfl,B1.o⟩
theorem aL0{w:World}{base g:Nat}{ps:List Int}{ls:List Ln}{vp vl:Value}(h:RefL w base g ps ls vp vl)(hgood:∀y∈ls,y.Good)(hlen:ls.length≤64)(a b c n:Int)(x:Ln)(sx:Bool)
  (h1:1≤a)(h2:a≤16)(h3:1≤b)(h4:b≤16)(h5:1≤c)(h6:c≤8)(h7:(a==b)=false)(h8:0≤n)(h9:n≤1099511627776)(x0:0≤x.db)(x1:x.db≤1099511627776)(hd:decide (n<x.db)=false)(hs:sx=true)
  (ca:Hid (Calls Tryz.prog 70 #[.pointer (some ⟨g,0,none⟩),.int .u8 a] w (yV w (.bool true))))
  (cb:Hid (Calls Tryz.prog 70 #[.pointer (some ⟨g,0,none⟩),.int .u8 b] w (yV w (.bool true))))
  (cx:Hid (Calls Tryz.prog 89 #[.pointer (some ⟨g,0,none⟩),.int .u8 a,.int .u8 b,.int .u8 c] w (yR w (.tuple #[.agg #[.int .u8 x.cr,.int .u8 x.de,.int .u8 x.cu,.int .i64 x.li,.int .i64 x.db],.bool sx])))):
  Calls Tryz.prog 82 #[.pointer (some ⟨g,0,none⟩),.int .u8 a,.int .u8 b,.int .u8 c,.int .i64 n] w fun e w'=>e=.returned (.int .i64 0)∧∃vl',RefL w' base g ps (setL ls ⟨a,b,c,n,x.db⟩) vp vl'∧Keep (·=g) w w':=by
 have H:=yH h;have hg:=h.blk.lt;have HG:=yH hgood;obtain⟨ao,cap,rfl,hc1,hc2,_,_⟩:=aAh h.l;clear h hgood;go_enter Tryz.func82,Tryz.ntmps82;go_wp2_with fail;refine ca.out.mono ?_;rintro e w ⟨rfl,rfl⟩;go_wp2_with fail;refine cb.out.mono ?_;rintro e w ⟨rfl,rfl⟩;go_wp2_with fail;refine cx.out.mono ?_;rintro e w1 ⟨rfl,b1⟩;have KX:=yH (Blk.new w1 #[.int .u8 x.cr,.int .u8 x.de,.int .u8 x.cu,.int .i64 x.li,.int .i64 x.db] 71);have B1:=yH (b1.alloc b1.size (.cells #[.int .u8 x.cr,.int .u8 x.de,.int .u8 x.cu,.int .i64 x.li,.int .i64 x.db] 71));have dg:=(H.o.blk.below B1.o hg).cell 1;simp at dg;have hg1:=(H.o.blk.below B1.o hg).lt;clear b1;subst hs;have cs:=yH (aGc (H.o.below B1.o) ⟨a,b,c,n,x.db⟩ (aEs ⟨by omega,by omega⟩ ⟨by omega,by omega⟩ ⟨by omega,by omega⟩ ⟨by omega,by omega⟩ ⟨by omega,by omega⟩) (fun y hy=>(HG.o y hy).fits) (by omega));unfold Ln.val at cs;clear HG;go_wp2_with fail;refine cs.out.mono ?_;rintro e w2 ⟨rfl,vl',hr,hk⟩;have HR:=yH hr;have HK:=yH (Keep.trans (pAD B1.o) hk);clear hr hk;go_wp2_with fail;go_ret;exact⟨rfl,vl',HR.o,HK.o⟩
theorem aNk{w:World}{base g:Nat}{ps:List Int}{ls:List Ln}{vp vl:Value}(h:RefL w base g ps ls vp vl)(hgood:∀y∈ls,y.Good)(hlen:ls.length≤64)(a b c n:Int)(x:Ln)(sx:Bool)
  (h1:1≤a)(h2:a≤16)(h3:1≤b)(h4:b≤16)(h5:1≤c)(h6:c≤8)(h7:(a==b)=false)(h8:0≤n)(h9:n≤1099511627776)(x0:0≤x.db)(x1:x.db≤1099511627776)(hd:decide (n<x.db)=false)(hs:sx=false)(hn:decide (0<n)=false)
  (ca:Hid (Calls Tryz.prog 70 #[.pointer (some ⟨g,0,none⟩),.int .u8 a] w (yV w (.bool true))))
  (cb:Hid (Calls Tryz.prog 70 #[.pointer (some ⟨g,0,none⟩),.int .u8 b] w (yV w (.bool true))))
  (cx:Hid (Calls Tryz.prog 89 #[.pointer (some ⟨g,0,none⟩),.int .u8 a,.int .u8 b,.int .u8 c] w (yR w (.tuple #[.agg #[.int .u8 x.cr,.int .u8 x.de,.int .u8 x.cu,.int .i64 x.li,.int .i64 x.db],.bool sx])))):
  Calls Tryz.prog 82 #[.pointer (some ⟨g,0,none⟩),.int .u8 a,.int .u8 b,.int .u8 c,.int .i64 n] w fun e w'=>e=.returned (.int .i64 0)∧∃vl',RefL w' base g ps (setL ls ⟨a,b,c,n,x.db⟩) vp vl'∧Keep (·=g) w w':=by
 have H:=yH h;have hg:=h.blk.lt;have HG:=yH hgood;obtain⟨ao,cap,rfl,hc1,hc2,_,_⟩:=aAh h.l;clear h hgood;go_enter Tryz.func82,Tryz.ntmps82;go_wp2_with fail;refine ca.out.mono ?_;rintro e w ⟨rfl,rfl⟩;go_wp2_with fail;refine cb.out.mono ?_;rintro e w ⟨rfl,rfl⟩;go_wp2_with fail;refine cx.out.mono ?_;rintro e w1 ⟨rfl,b1⟩;have KX:=yH (Blk.new w1 #[.int .u8 x.cr,.int .u8 x.de,.int .u8 x.cu,.int .i64 x.li,.int .i64 x.db] 71);have B1:=yH (b1.alloc b1.size (.cells #[.int .u8 x.cr,.int .u8 x.de,.int .u8 x.cu,.int .i64 x.li,.int .i64 x.db] 71));have dg:=(H.o.blk.below B1.o hg).cell 1;simp at dg;have hg1:=(H.o.blk.below B1.o hg).lt;clear b1;subst hs;have cs:=yH (aGc (H.o.below B1.o) ⟨a,b,c,n,x.db⟩ (aEs ⟨by omega,by omega⟩ ⟨by omega,by omega⟩ ⟨by omega,by omega⟩ ⟨by omega,by omega⟩ ⟨by omega,by omega⟩) (fun y hy=>(HG.o y hy).fits) (by omega));unfold Ln.val at cs;clear HG;go_wp2_with fail;refine cs.out.mono ?_;rintro e w2 ⟨rfl,vl',hr,hk⟩;have HR:=yH hr;have HK:=yH (Keep.trans (pAD B1.o) hk);clear hr hk;go_wp2_with fail;go_ret;exact⟨rfl,vl',HR.o,HK.o⟩
theorem aNl{w:World}{base g:Nat}{ps:List Int}{ls:List Ln}{vp vl:Value}(h:RefL w base g ps ls vp vl)(hgood:∀y∈ls,y.Good)(hlen:ls.length≤64)(a b c n:Int)(x:Ln)(sx:Bool)
  (h1:1≤a)(h2:a≤16)(h3:1≤b)(h4:b≤16)(h5:1≤c)(h6:c≤8)(h7:(a==b)=false)(h8:0≤n)(h9:n≤1099511627776)(x0:0≤x.db)(x1:x.db≤1099511627776)(hd:decide (n<x.db)=false)(hs:sx=false)(hn:0<n)(hf:ls.length<64)
  (ca:Hid (Calls Tryz.prog 70 #[.pointer (some ⟨g,0,none⟩),.int .u8 a] w (yV w (.bool true))))
  (cb:Hid (Calls Tryz.prog 70 #[.pointer (some ⟨g,0,none⟩),.int .u8 b] w (yV w (.bool true))))
  (cx:Hid (Calls Tryz.prog 89 #[.pointer (some ⟨g,0,none⟩),.int .u8 a,.int .u8 b,.int .u8 c] w (yR w (.tuple #[.agg #[.int .u8 x.cr,.int .u8 x.de,.int .u8 x.cu,.int .i64 x.li,.int .i64 x.db],.bool sx])))):
  Calls Tryz.prog 82 #[.pointer (some ⟨g,0,none⟩),.int .u8 a,.int .u8 b,.int .u8 c,.int .i64 n] w fun e w'=>e=.returned (.int .i64 0)∧∃vl',RefL w' base g ps (setL ls ⟨a,b,c,n,x.db⟩) vp vl'∧Keep (·=g) w w':=by
 have H:=yH h;have hg:=h.blk.lt;have HG:=yH hgood;obtain⟨ao,cap,rfl,hc1,hc2,_,_⟩:=aAh h.l;clear h hgood;go_enter Tryz.func82,Tryz.ntmps82;go_wp2_with fail;refine ca.out.mono ?_;rintro e w ⟨rfl,rfl⟩;go_wp2_with fail;refine cb.out.mono ?_;rintro e w ⟨rfl,rfl⟩;go_wp2_with fail;refine cx.out.mono ?_;rintro e w1 ⟨rfl,b1⟩;have KX:=yH (Blk.new w1 #[.int .u8 x.cr,.int .u8 x.de,.int .u8 x.cu,.int .i64 x.li,.int .i64 x.db] 71);have B1:=yH (b1.alloc b1.size (.cells #[.int .u8 x.cr,.int .u8 x.de,.int .u8 x.cu,.int .i64 x.li,.int .i64 x.db] 71));have dg:=(H.o.blk.below B1.o hg).cell 1;simp at dg;have hg1:=(H.o.blk.below B1.o hg).lt;clear b1;subst hs;have cs:=yH (aGc (H.o.below B1.o) ⟨a,b,c,n,x.db⟩ (aEs ⟨by omega,by omega⟩ ⟨by omega,by omega⟩ ⟨by omega,by omega⟩ ⟨by omega,by omega⟩ ⟨by omega,by omega⟩) (fun y hy=>(HG.o y hy).fits) (by omega));unfold Ln.val at cs;clear HG;go_wp2_with fail;refine cs.out.mono ?_;rintro e w2 ⟨rfl,vl',hr,hk⟩;have HR:=yH hr;have HK:=yH (Keep.trans (pAD B1.o) hk);clear hr hk;go_wp2_with fail;go_ret;exact⟨rfl,vl',HR.o,HK.o⟩
theorem aNm{w:World}{g:Nat}(a b c n:Int)(pa:Bool)
  (h1:1≤a)(h2:a≤16)(h3:1≤b)(h4:b≤16)(h5:1≤c)(h6:c≤8)(h7:(a==b)=false)(h8:0≤n)(h9:n≤1099511627776)
  (ca:Hid (Calls Tryz.prog 70 #[.pointer (some ⟨g,0,none⟩),.int .u8 a] w (yV w (.bool pa))))
  (cb:Hid (Calls Tryz.prog 70 #[.pointer (some ⟨g,0,none⟩),.int .u8 b] w (yV w (.bool false)))):
  Calls Tryz.prog 82 #[.pointer (some ⟨g,0,none⟩),.int .u8 a,.int .u8 b,.int .u8 c,.int .i64 n] w (yV w (.int .i64 7)):=by
 cases pa
 ·go_enter Tryz.func82,Tryz.ntmps82;go_wp2_with fail;refine ca.out.mono ?_;rintro e w ⟨rfl,rfl⟩;go_wp2_with fail;go_ret;exact⟨rfl,rfl⟩
 go_enter Tryz.func82,Tryz.ntmps82;go_wp2_with fail;refine ca.out.mono ?_;rintro e w ⟨rfl,rfl⟩;go_wp2_with fail;refine cb.out.mono ?_;rintro e w ⟨rfl,rfl⟩;go_wp2_with fail;go_ret;exact⟨rfl,rfl⟩
theorem aL1{w:World}{g:Nat}(a b c n:Int)
  (h1:1≤a)(h2:a≤16)(h3:1≤b)(h4:b≤16)(h5:1≤c)(h6:c≤8)(h7:(a==b)=false)(h8:0≤n)(h9:n≤1099511627776)
  (ca:Hid (Calls Tryz.prog 70 #[.pointer (some ⟨g,0,none⟩),.int .u8 a] w (yV w (.bool false)))):
  Calls Tryz.prog 82 #[.pointer (some ⟨g,0,none⟩),.int .u8 a,.int .u8 b,.int .u8 c,.int .i64 n] w (yV w (.int .i64 7)):=by
 go_enter Tryz.func82,Tryz.ntmps82;go_wp2_with fail;refine ca.out.mono ?_;rintro e w ⟨rfl,rfl⟩;go_wp2_with fail;go_ret;exact⟨rfl,rfl⟩
theorem aFc{w:World}{base g:Nat}{ps:List Int}{ls:List Ln}{vp vl:Value}(h:RefL w base g ps ls vp vl)(hgood:∀y∈ls,y.Good)(hlen:ls.length≤64)(a b c n:Int):
  Calls Tryz.prog 82 #[.pointer (some ⟨g,0,none⟩),.int .u8 a,.int .u8 b,.int .u8 c,.int .i64 n] w fun e w'=>e=.returned (.int .i64 (aAi ps ls a b c n))∧∃vl',RefL w' base g ps (aAj ps ls a b c n) vp vl'∧Keep (·=g) w w':=by
 by_cases ha:a<1∨16<a∨b<1∨16<b∨c<1∨8<c∨a=b∨n<0∨1099511627776<n
 ·obtain⟨e1,e2⟩:=aJv ps ls a b c n ha;rw[e1,e2];exact(rtrust_arg a b c n ha (base:=base) (ps:=ps) (ls:=ls) (vp:=vp) (vl:=vl)).mono fun e w' ⟨he,hw⟩=>⟨he,vl,by rw[hw];exact h,by rw[hw];exact Keep.refl _ _⟩
 have h1:1≤a:=by omega
 have h2:a≤16:=by omega
 have h3:1≤b:=by omega
 have h4:b≤16:=by omega
 have h5:1≤c:=by omega
 have h6:c≤8:=by omega
 have h7:(a==b)=false:=by rw[beq_eq_false_iff_ne];omega
 have h8:0≤n:=by omega
 have h9:n≤1099511627776:=by omega
 have ca:=yH (aE9 h a);have cb:=yH (aE9 h b);have cx:=yH (rline_any h a b c);rw[lineV_at]at cx;have bx:=aCq hgood a b c;have E:aAi ps ls a b c n=(if a∉ps∨b∉ps then 7 else if n<(lnAt ls a b c).db then 14 else if aAl ls a b c=none∧0<n∧64≤ls.length then 9 else 0):=by unfold aAi;rw[if_neg ha]
 by_cases pa:a∈ps
 ·by_cases pb:b∈ps
  ·rw[decide_eq_true pa]at ca;rw[decide_eq_true pb]at cb;rw[if_neg (by simp[pa,pb])]at E
   by_cases hd:n<(lnAt ls a b c).db
   ·rw[if_pos hd]at E;rw[show aAj ps ls a b c n=ls by unfold aAj;rw[E];rfl,E];exact(aNi h hgood hlen a b c n _ _ h1 h2 h3 h4 h5 h6 h7 h8 h9 (by omega) (by omega) hd ca cb cx).mono fun e w' ⟨he,hb⟩=>⟨he,vl,h.below hb,pAD hb⟩
   rw[if_neg hd]at E;have hd':decide (n<(lnAt ls a b c).db)=false:=by simpa using hd
   by_cases hf:aAl ls a b c=none∧0<n∧64≤ls.length
   ·rw[if_pos hf]at E;rw[show aAj ps ls a b c n=ls by unfold aAj;rw[E];rfl,E];exact(aNj h hgood hlen a b c n _ _ h1 h2 h3 h4 h5 h6 h7 h8 h9 (by omega) (by omega) hd' (by rw[hf.1];rfl) hf.2.1 hf.2.2 ca cb cx).mono fun e w' ⟨he,hb⟩=>⟨he,vl,h.below hb,pAD hb⟩
   rw[if_neg hf]at E;rw[show aAj ps ls a b c n=setL ls ⟨a,b,c,n,(lnAt ls a b c).db⟩ by unfold aAj;rw[E];rfl,E]
   cases hl:aAl ls a b c with
   | some y=>exact aL0 h hgood hlen a b c n _ _ h1 h2 h3 h4 h5 h6 h7 h8 h9 (by omega) (by omega) hd' (by rw[hl];rfl) ca cb cx
   | none=>
    by_cases hn:0<n
    ·exact aNl h hgood hlen a b c n _ _ h1 h2 h3 h4 h5 h6 h7 h8 h9 (by omega) (by omega) hd' (by rw[hl];rfl) hn (Nat.lt_of_not_le fun k=>hf ⟨hl,hn,k⟩) ca cb cx
    exact aNk h hgood hlen a b c n _ _ h1 h2 h3 h4 h5 h6 h7 h8 h9 (by omega) (by omega) hd' (by rw[hl];rfl) (by simpa using hn) ca cb cx
  rw[if_pos (.inr pb)]at E;rw[show aAj ps ls a b c n=ls by unfold aAj;rw[E];rfl,E];rw[decide_eq_false pb]at cb;exact(aNm a b c n _ h1 h2 h3 h4 h5 h6 h7 h8 h9 ca cb).mono fun e w' ⟨he,hw⟩=>⟨he,vl,by rw[hw];exact h,by rw[hw];exact Keep.refl _ _⟩
 rw[if_pos (.inl pa)]at E;rw[show aAj ps ls a b c n=ls by unfold aAj;rw[E];rfl,E];rw[decide_eq_false pa]at ca;exact(aL1 a b c n h1 h2 h3 h4 h5 h6 h7 h8 h9 ca).mono fun e w' ⟨he,hw⟩=>⟨he,vl,by rw[hw];exact h,by rw[hw];exact Keep.refl _ _⟩
theorem lnAt_of{P:Ln→Prop}{ls:List Ln}(h:∀y∈ls,P y)(h0:P noLn)(a b c:Int):P (lnAt ls a b c):=by
 unfold lnAt
 cases e:aAl ls a b c with
 | none=>exact h0
 | some x=>exact h x (aAo e).1
end Go.Proofs.YtngnfdnfpiiclaaGreat
