/- Pieces of one proof. -/
import Derived.Test.YtngnfdnfpiiclaaGreatM02
import Derived.Maps.Keyed
import Derived.Maps.RangeRun
import Derived.DeepKeys4
import Derived.Carry
set_option linter.all false
set_option maxHeartbeats 64000000
set_option maxRecDepth 100000
namespace Go.Proofs.YtngnfdnfpiiclaaGreat
open Go.RowKit
theorem aLq{x y:Ln}(hx:x.Fits)(hy:y.Fits)(h:x.rank=y.rank):x.cr=y.cr∧x.de=y.de∧x.cu=y.cu:=by
 obtain⟨⟨a1,a2⟩,⟨b1,b2⟩,_,_,_⟩:=hx;obtain⟨⟨c1,c2⟩,⟨d1,d2⟩,_,_,_⟩:=hy;unfold Ln.rank at h;omega
theorem aIo{x y:Ln}(h1:x.cr=y.cr)(h2:x.de=y.de)(h3:x.cu=y.cu):x.rank=y.rank:=by unfold Ln.rank;rw[h1,h2,h3]
theorem is_iff{x:Ln}{a b c:Int}:x.is a b c=true↔x.cr=a∧x.de=b∧x.cu=c:=by
 unfold Ln.is;simp only[Bool.and_eq_true,beq_iff_eq,and_assoc]
structure Inv(ls:List Ln):Prop where
 good:∀x∈ls,x.Good
 sorted:ls.Pairwise fun x y=>x.rank<y.rank
theorem Inv.nil:Inv []:=⟨zV,List.Pairwise.nil⟩
def loL(r:Int)(ls:List Ln):List Ln:=ls.filter fun y=>decide (y.rank<r)
def eqL(r:Int)(ls:List Ln):List Ln:=ls.filter fun y=>decide (y.rank=r)
def hiL(r:Int)(ls:List Ln):List Ln:=ls.filter fun y=>decide (r<y.rank)
theorem aCp(r:Int):∀(ls:List Ln),ls.Pairwise (fun x y=>x.rank<y.rank)→ls=loL r ls++(eqL r ls++hiL r ls)
 | [],_=>rfl
 | x::l,h=>by
  rw[List.pairwise_cons]at h;have ih:=aCp r l h.2;rcases Int.lt_trichotomy x.rank r with h1|h1|h1
  ·have e1:loL r (x::l)=x::loL r l:=by unfold loL;rw[List.filter_cons,if_pos zR]
   have e2:eqL r (x::l)=eqL r l:=by unfold eqL;rw[List.filter_cons,if_neg zU]
   have e3:hiL r (x::l)=hiL r l:=wR
   rw[e1,e2,e3,List.cons_append,←ih]
  ·have n1:loL r l=[]:=xH
   have e1:loL r (x::l)=[]:=xY
   have e2:eqL r (x::l)=x::eqL r l:=by unfold eqL;rw[List.filter_cons,if_pos zR]
   have e3:hiL r (x::l)=hiL r l:=wR
   rw[e1,e2,e3];rw[n1]at ih;simp only[List.nil_append,List.cons_append]at ih ⊢;rw[←ih]
  have n1:loL r l=[]:=xH
  have n2:eqL r l=[]:=by unfold eqL;rw[List.filter_eq_nil_iff];intro y hy;have:=h.1 y hy;simp;omega
  have e1:loL r (x::l)=[]:=xY
  have e2:eqL r (x::l)=[]:=by unfold eqL at *;rw[List.filter_cons,if_neg zU,n2]
  have e3:hiL r (x::l)=x::hiL r l:=by unfold hiL;rw[List.filter_cons,if_pos zR]
  rw[e1,e2,e3];rw[n1,n2]at ih;simp only[List.nil_append]at ih ⊢;rw[←ih]
theorem fold_lo(x:Ln):∀(A:List Ln),(∀y∈A,y.rank<x.rank)→∀s,A.foldl (aBs x) s=(s.1++A,s.2)
 | [],_,s=>zV
 | y::r,h,s=>by
  have h1:=h y zV;rw[List.foldl_cons,fold_lo x r (fun z hz=>h z xC)];unfold aBs;rw[if_neg zQ,if_neg zQ];simp
theorem fold_eq(x:Ln):∀(A:List Ln),(∀y∈A,y.rank=x.rank)→∀s,A.foldl (aBs x) s=s
 | [],_,s=>rfl
 | y::r,h,s=>by
  rw[List.foldl_cons,show aBs x s y=s by unfold aBs;rw[if_pos (h y zV)]];exact fold_eq x r (fun z hz=>h z xC) s
theorem aIp(x:Ln):∀(A:List Ln),(∀y∈A,x.rank<y.rank)→∀o,A.foldl (aBs x) (o,true)=(o++A,true)
 | [],_,o=>zV
 | y::r,h,o=>by
  have h1:=h y zV;rw[List.foldl_cons,show aBs x (o,true) y=(o++[y],true) by unfold aBs;rw[if_neg zQ,if_neg zV]];rw[aIp x r (fun z hz=>h z xC)];simp
theorem aTb(x:Ln)(A:List Ln)(h:∀y∈A,x.rank<y.rank)(o:List Ln):(if(A.foldl (aBs x) (o,false)).2=false then(A.foldl (aBs x) (o,false)).1++[x]else(A.foldl (aBs x) (o,false)).1)=o++x::A:=by
 cases A with
 | nil=>simp
 | cons y r=>
  have h1:=h y zV;rw[List.foldl_cons,show aBs x (o,false) y=(o++[x,y],true) by unfold aBs;rw[if_neg zQ,if_pos ⟨rfl,h1⟩]];rw[aIp x r (fun z hz=>h z xC)];simp
theorem aIq{ls:List Ln}(hs:ls.Pairwise fun x y=>x.rank<y.rank)(x:Ln):setL ls x=loL x.rank ls++((if x.li=0 then []else [x])++hiL x.rank ls):=by
 have hsp:=aCp x.rank ls hs;have hlo:∀y∈loL x.rank ls,y.rank<x.rank:=fun y hy=>wH
 have heq:∀y∈eqL x.rank ls,y.rank=x.rank:=fun y hy=>by unfold eqL at hy;simpa using(List.mem_filter.1 hy).2
 have hhi:∀y∈hiL x.rank ls,x.rank<y.rank:=fun y hy=>wJ
 unfold setL aSs;generalize loL x.rank ls=A at *;generalize eqL x.rank ls=B at *;generalize hiL x.rank ls=C at *;rw[hsp,List.foldl_append,List.foldl_append,fold_lo x A hlo,fold_eq x B heq];simp only[List.nil_append]
 by_cases h0:x.li=0
 ·have e:(x.li==0)=true:=by simp[h0]
  rw[e,aIp x C hhi,if_neg zV,if_pos h0];simp
 have e:(x.li==0)=false:=by simp[h0]
 rw[e,aTb x C hhi,if_neg h0];simp
theorem aCq{ls:List Ln}(hs:ls.Pairwise fun x y=>x.rank<y.rank)(x y:Ln):y∈setL ls x↔(y∈ls∧y.rank≠x.rank)∨(y=x∧x.li≠0):=by
 rw[aIq hs];unfold loL hiL
 by_cases h0:x.li=0
 ·simp only[h0,if_true,List.nil_append,List.mem_append,List.mem_filter,decide_eq_true_eq,ne_eq,not_true,and_false,or_false]
  constructor
  ·rintro(⟨a,b⟩|⟨a,b⟩)
   ·exact⟨a,zQ⟩
   exact⟨a,zQ⟩
  rintro⟨a,b⟩;rcases Int.lt_or_gt_of_ne b with h|h
  ·exact .inl ⟨a,h⟩
  exact .inr ⟨a,h⟩
 simp only[h0,if_false,List.mem_append,List.mem_filter,decide_eq_true_eq,List.mem_singleton,ne_eq,not_false_eq_true,and_true]
 constructor
 ·rintro(⟨a,b⟩|a|⟨a,b⟩)
  ·exact .inl ⟨a,zQ⟩
  ·exact .inr a
  exact .inl ⟨a,zQ⟩
 rintro(⟨a,b⟩|a)
 ·rcases Int.lt_or_gt_of_ne b with h|h
  ·exact .inl ⟨a,h⟩
  exact .inr (.inr ⟨a,h⟩)
 exact .inr (.inl a)
theorem aMs{ls:List Ln}(hs:ls.Pairwise fun x y=>x.rank<y.rank)(x:Ln):(setL ls x).Pairwise fun x y=>x.rank<y.rank:=by
 rw[aIq hs];have hlo:∀y∈loL x.rank ls,y.rank<x.rank:=fun y hy=>wH
 have hhi:∀y∈hiL x.rank ls,x.rank<y.rank:=fun y hy=>wJ
 refine List.pairwise_append.2 ⟨List.Pairwise.filter _ hs,List.pairwise_append.2 ⟨?_,List.Pairwise.filter _ hs,?_⟩,?_⟩
 ·split <;> simp
 ·intro a ha b hb;split at ha
  ·cases ha
  rw[List.mem_singleton]at ha;subst ha;exact hhi b hb
 intro a ha b hb;have h1:=hlo a ha;rcases List.mem_append.1 hb with hb|hb
 ·split at hb
  ·cases hb
  rw[List.mem_singleton]at hb;subst hb;exact h1
 have:=hhi b hb;omega
theorem Inv.set{ls:List Ln}(h:Inv ls){x:Ln}(hx:x.li≠0→x.Good):Inv (setL ls x):=
 ⟨fun y hy=>by
         rcases(aCq h.sorted x y).1 hy with⟨a,_⟩|⟨rfl,b⟩;· exact h.good y a
         exact hx b,aMs h.sorted x⟩
theorem aBu{ls:List Ln}(h:Inv ls)(a b c:Int)(y:Ln):aAn ls a b c=some y↔y∈ls∧y.cr=a∧y.de=b∧y.cu=c:=by
 constructor
 ·exact aAq
 rintro⟨hm,h1,h2,h3⟩;rcases at_cases ls a b c with⟨k,hk,_,hl,his⟩|⟨_,_,hn⟩
 ·rw[hl];congr 1;obtain⟨e1,e2,e3⟩:=is_iff.1 his;have hr:ls[k].rank=y.rank:=aIo (e1.trans h1.symm) (e2.trans h2.symm) (e3.trans h3.symm);obtain⟨j,hj,rfl⟩:=List.getElem_of_mem hm;rcases Nat.lt_trichotomy k j with hkj|rfl|hkj
  ·have:=List.pairwise_iff_getElem.1 h.sorted k j hk hj hkj;omega
  ·rfl
  have:=List.pairwise_iff_getElem.1 h.sorted j k hj hk hkj;omega
 have:=hn y hm;rw[is_iff.2 ⟨h1,h2,h3⟩]at this
 cases this
theorem aE2{ls:List Ln}(a b c:Int):aAn ls a b c=none↔∀y∈ls,¬(y.cr=a∧y.de=b∧y.cu=c):=by
 rcases at_cases ls a b c with⟨k,hk,_,hl,his⟩|⟨_,hl,hn⟩
 ·rw[hl]
  constructor
  ·intro h;cases h
  intro h;exact absurd (is_iff.1 his) (h _ (List.getElem_mem hk))
 rw[hl];refine⟨fun _ y hy k=>?_,fun _=>rfl⟩;have:=hn y hy;rw[is_iff.2 k]at this
 cases this
theorem line_set{ls:List Ln}(h:Inv ls){x:Ln}(hx:x.li≠0→x.Good)(hf:x.Fits)(a b c:Int):
  aAn (setL ls x) a b c=if x.cr=a∧x.de=b∧x.cu=c then(if x.li=0 then none else some x)else aAn ls a b c:=by
 have h2:=h.set hx
 by_cases hk:x.cr=a∧x.de=b∧x.cu=c
 ·rw[if_pos hk]
  by_cases h0:x.li=0
  ·rw[if_pos h0,aE2];intro y hy ⟨e1,e2,e3⟩;rcases(aCq h.sorted x y).1 hy with⟨_,hn⟩|⟨_,hn⟩
   ·exact hn (aIo (e1.trans hk.1.symm) (e2.trans hk.2.1.symm) (e3.trans hk.2.2.symm))
   exact hn h0
  rw[if_neg h0,aBu h2];exact⟨(aCq h.sorted x x).2 (.inr ⟨rfl,h0⟩),hk⟩
 rw[if_neg hk]
 cases hl:aAn ls a b c with
 | none=>
  rw[aE2]at hl ⊢;intro y hy e;rcases(aCq h.sorted x y).1 hy with⟨hm,_⟩|⟨rfl,_⟩
  ·exact hl y hm e
  ·exact hk e
 | some y=>
  rw[aBu h]at hl;rw[aBu h2];refine⟨(aCq h.sorted x y).2 (.inl ⟨hl.1,?_⟩),hl.2⟩;intro hr;obtain⟨e1,e2,e3⟩:=aLq (h.good y hl.1).fits hf hr;exact hk ⟨e1.symm.trans hl.2.1,e2.symm.trans hl.2.2.1,e3.symm.trans hl.2.2.2⟩
theorem aTc{ls:List Ln}(h:Inv ls){x:Ln}(hf:x.Fits)(f:Ln→Int)(h0:f noLn=0):
  ((setL ls x).map f).sum=(ls.map f).sum - f (lnAt ls x.cr x.de x.cu)+(if x.li=0 then 0 else f x):=by
 have e1:((setL ls x).map f).sum=((loL x.rank ls).map f).sum+((if x.li=0 then 0 else f x)+((hiL x.rank ls).map f).sum):=by
  rw[aIq h.sorted,List.map_append,List.map_append,List.sum_append,List.sum_append];split <;> simp
 have e2:(ls.map f).sum=((loL x.rank ls).map f).sum+(((eqL x.rank ls).map f).sum+((hiL x.rank ls).map f).sum):=by
  have hsp:=aCp x.rank ls h.sorted
  calc (ls.map f).sum=((loL x.rank ls++(eqL x.rank ls++hiL x.rank ls)).map f).sum:=by rw[←hsp]
   _=_:=by rw[List.map_append,List.map_append,List.sum_append,List.sum_append]
 have e3:((eqL x.rank ls).map f).sum=f (lnAt ls x.cr x.de x.cu):=by
  unfold lnAt
  cases hl:aAn ls x.cr x.de x.cu with
  | none=>
   have hn:eqL x.rank ls=[]:=by
    unfold eqL;rw[List.filter_eq_nil_iff];intro y hy;have h1:=(aE2 (ls:=ls) x.cr x.de x.cu).1 hl y hy;intro hr;exact h1 (aLq (h.good y hy).fits hf (v6 hr))
   rw[hn];simp[h0]
  | some y=>
   obtain⟨hm,k1,k2,k3⟩:=(aBu h x.cr x.de x.cu y).1 hl;have hy:y.rank=x.rank:=aIo k1 k2 k3;have hmem:y∈eqL x.rank ls:=by unfold eqL;exact List.mem_filter.2 ⟨hm,v6 hy⟩
   have hp:(eqL x.rank ls).Pairwise fun x y=>x.rank<y.rank:=by unfold eqL;exact List.Pairwise.filter _ h.sorted
   have hall:∀z∈eqL x.rank ls,z.rank=x.rank:=fun z hz=>wL
   generalize eqL x.rank ls=B at *
   match B,hmem,hp,hall with
   | [z],hmem,_,_=>rw[List.mem_singleton]at hmem;subst hmem;simp
   | z::u::r,_,hp,hall=>
    have a1:=hall z zV;have a2:=hall u zV;have a3:=(List.pairwise_cons.1 hp).1 u zV;omega
 omega
theorem aFt:∀(l m:List Ln),l.Pairwise (fun x y=>x.rank<y.rank)→m.Pairwise (fun x y=>x.rank<y.rank)→(∀x,x∈l↔x∈m)→l=m
 | [],[],_,_,_=>rfl
 | [],y::m,_,_,h=>absurd ((h y).2 zV) zV
 | x::l,[],_,_,h=>absurd ((h x).1 zV) zV
 | x::l,y::m,h1,h2,h=>by
  rw[List.pairwise_cons]at h1 h2
  have exy:x=y:=by
   have a:=(h x).1 zV;have b:=(h y).2 zV;rcases List.mem_cons.1 a with a|a
   ·exact a
   rcases List.mem_cons.1 b with b|b
   ·exact b.symm
   have c:=h2.1 x a;have d:=h1.1 y b;omega
  subst exy;congr 1;refine aFt l m h1.2 h2.2 fun z=>?_
  constructor
  ·intro hz;rcases List.mem_cons.1 ((h z).1 xC)with e|e
   ·subst e;have:=h1.1 z hz;omega
   exact e
  intro hz;rcases List.mem_cons.1 ((h z).2 xC)with e|e
  ·subst e;have:=h2.1 z hz;omega
  exact e
theorem Inv.ext{ls ms:List Ln}(h:Inv ls)(k:Inv ms)(e:∀a b c,aAn ls a b c=aAn ms a b c):ls=ms:=by
 refine aFt ls ms h.sorted k.sorted fun x=>?_
 constructor
 ·intro hx;have:=(aBu h x.cr x.de x.cu x).2 ⟨hx,rfl,rfl,rfl⟩;rw[e]at this;exact((aBu k _ _ _ _).1 this).1
 intro hx;have:=(aBu k x.cr x.de x.cu x).2 ⟨hx,rfl,rfl,rfl⟩;rw[←e]at this;exact((aBu h _ _ _ _).1 this).1
theorem aAk{ls:List Ln}{a b c:Int}{x:Ln}(h:aAn ls a b c=some x):lnAt ls a b c=x:=by unfold lnAt;rw[h];rfl
theorem aAv{ls:List Ln}{a b c:Int}(h:aAn ls a b c=none):lnAt ls a b c=noLn:=by unfold lnAt;rw[h];rfl
theorem aPi{ls:List Ln}(h:Inv ls){a b c d:Int}{x:Ln}(hx:aAn ls a b c=some x)(h0:0≤d)(h1:d≤x.li):
  Inv (setL ls (x.owe d))∧(∀a' b' c',aAn (setL ls (x.owe d)) a' b' c'=if a=a'∧b=b'∧c=c' then some (x.owe d)else aAn ls a' b' c')∧
   (∀f:Ln→Int,f noLn=0→((setL ls (x.owe d)).map f).sum=(ls.map f).sum - f x+f (x.owe d))∧(setL ls (x.owe d)).length=ls.length:=by
 obtain⟨hm,k1,k2,k3⟩:=(aBu h a b c x).1 hx;have hg:=h.good x hm;have hg2:(x.owe d).Good:=⟨hg.cr,hg.de,hg.cu,hg.ne,hg.li,⟨h0,h1⟩⟩;have hli:(x.owe d).li≠0:=by have:=hg.li;show x.li≠0;omega
 refine⟨h.set (fun _=>hg2),fun a' b' c'=>?_,fun f hf=>?_,?_⟩
 ·rw[line_set h (fun _=>hg2) hg2.fits a' b' c',if_neg hli];show(if x.cr=a'∧x.de=b'∧x.cu=c' then _ else _)=_;rw[k1,k2,k3]
 ·rw[aTc h hg2.fits f hf,if_neg hli];congr 2;show f (lnAt ls x.cr x.de x.cu)=f x;rw[k1,k2,k3,aAk hx]
 have h2:((setL ls (x.owe d)).map fun _=>(1:Int)).sum=(ls.map fun _=>(1:Int)).sum:=by
  have e1:((setL ls (x.owe d)).map fun y:Ln=>if y=noLn then(0:Int)else 1).sum=(ls.map fun y:Ln=>if y=noLn then(0:Int)else 1).sum:=by
   rw[aTc h hg2.fits (fun y=>if y=noLn then(0:Int)else 1) zV,if_neg hli];show _ - (if lnAt ls x.cr x.de x.cu=noLn then(0:Int)else 1)+_=_;rw[k1,k2,k3,aAk hx];have n1:x≠noLn:=by rintro rfl;have:=hg.li;simp[noLn]at this
   have n2:x.owe d≠noLn:=by intro e;have:=congrArg Ln.li e;exact hli this
   rw[if_neg n1,if_neg n2];omega
  have e2:∀l:List Ln,(∀y∈l,y.Good)→(l.map fun y:Ln=>if y=noLn then(0:Int)else 1)=l.map fun _=>(1:Int):=by
   intro l hl;refine List.map_congr_left fun y hy=>?_
   have n1:y≠noLn:=by rintro rfl;have:=(hl _ hy).li;simp[noLn]at this
   rw[if_neg n1]
  rw[e2 _ (h.set (fun _=>hg2)).good,e2 _ h.good]at e1;exact e1
 have e3:∀l:List Ln,(l.map fun _=>(1:Int)).sum=(l.length:Int):=by
  intro l
  induction l with
  | nil=>rfl
  | cons y r ih=>simp only[List.map_cons,List.sum_cons,List.length_cons,ih];omega
 rw[e3,e3]at h2;omega
theorem aFu{ls:List Ln}(h:Inv ls){a b c n:Int}(hab:a≠b)(h1:1≤n)(hr:n≤(lnAt ls a b c).db+(lnAt ls b a c).li - (lnAt ls b a c).db):
  Inv (aCz ls a b c n)∧(aCz ls a b c n).length=ls.length∧
  (∀a' b' c',aAn (aCz ls a b c n) a' b' c'=if a=a'∧b=b'∧c=c' then(aAn ls a b c).map (fun x=>x.owe (x.db - min n x.db))else if b=a'∧a=b'∧c=c' then(aAn ls b a c).map (fun y=>y.owe (y.db+(n - min n (lnAt ls a b c).db)))else aAn ls a' b' c')∧
  (∀f:Ln→Int,f noLn=0→((aCz ls a b c n).map f).sum=(ls.map f).sum - f (lnAt ls a b c)+f ((lnAt ls a b c).owe ((lnAt ls a b c).db - min n (lnAt ls a b c).db)) - f (lnAt ls b a c)+f ((lnAt ls b a c).owe ((lnAt ls b a c).db+(n - min n (lnAt ls a b c).db)))):=by
 have bx:=aEg h.good a b c;have by':=aEg h.good b a c
 -- the first part
 obtain⟨i1,l1,s1,n1⟩:Inv (aJ9 ls a b c n)∧(∀a' b' c',aAn (aJ9 ls a b c n) a' b' c'=if a=a'∧b=b'∧c=c' then(aAn ls a b c).map (fun x=>x.owe (x.db - min n x.db))else aAn ls a' b' c')∧
   (∀f:Ln→Int,f noLn=0→((aJ9 ls a b c n).map f).sum=(ls.map f).sum - f (lnAt ls a b c)+f ((lnAt ls a b c).owe ((lnAt ls a b c).db - min n (lnAt ls a b c).db)))∧(aJ9 ls a b c n).length=ls.length:=by
  unfold aJ9
  cases hl:aAn ls a b c with
  | none=>
   rw[if_neg zV,aAv hl];refine⟨h,fun a' b' c'=>?_,fun f hf=>?_,rfl⟩
   ·by_cases e:a=a'∧b=b'∧c=c'
    ·rw[if_pos e];obtain⟨rfl,rfl,rfl⟩:=e;rw[hl];rfl
    rw[if_neg e]
   ·rw[show noLn.owe (noLn.db - min n noLn.db)=noLn by unfold Ln.owe noLn;simp;omega,hf];omega
  | some x=>
   simp only[Option.isSome_some,if_true];rw[aAk hl];rw[aAk hl]at bx;obtain⟨q1,q2,q3,q4⟩:=aPi h hl (d:=x.db - min n x.db) zQ zQ;exact⟨q1,q2,q3,q4⟩
 have e2:push2 ls a b c n=n - min n (lnAt ls a b c).db:=by
  unfold push2
  cases hl:aAn ls a b c with
  | none=>rw[if_neg zV,aAv hl];simp[noLn];omega
  | some x=>simp only[Option.isSome_some,if_true]
 have hy1:aAn (aJ9 ls a b c n) b a c=aAn ls b a c:=by rw[l1,if_neg zQ]
 have hyA:lnAt (aJ9 ls a b c n) b a c=lnAt ls b a c:=by unfold lnAt;rw[hy1]
 unfold aCz;rw[e2,hyA]
 by_cases hp:0<n - min n (lnAt ls a b c).db
 ·rw[if_pos hp]
  have hex:∃y,aAn ls b a c=some y:=by
   cases hl:aAn ls b a c with
   | none=>rw[aAv hl]at by' hr;simp[noLn]at hr;omega
   | some y=>exact⟨y,rfl⟩
  obtain⟨y,hy⟩:=hex;rw[aAk hy]at by' hr ⊢
  obtain⟨q1,q2,q3,q4⟩:=aPi i1 (hy1.trans hy) (d:=y.db+(n - min n (lnAt ls a b c).db)) zQ zQ;refine⟨q1,q4.trans n1,fun a' b' c'=>?_,fun f hf=>?_⟩
  ·rw[q2]
   by_cases e:b=a'∧a=b'∧c=c'
   ·rw[if_pos e,if_neg zQ,if_pos e,hy];rfl
   rw[if_neg e,l1,if_neg e]
  rw[q3 f hf,s1 f hf]
 rw[if_neg hp];have hz:n - min n (lnAt ls a b c).db=0:=zQ
 rw[hz];refine⟨i1,n1,fun a' b' c'=>?_,fun f hf=>?_⟩
 ·rw[l1]
  by_cases e:a=a'∧b=b'∧c=c'
  ·rw[if_pos e,if_pos e]
  rw[if_neg e,if_neg e]
  by_cases e':b=a'∧a=b'∧c=c'
  ·rw[if_pos e'];obtain⟨rfl,rfl,rfl⟩:=e'
   cases aAn ls b a c with
   | none=>rfl
   | some y=>simp[Ln.owe]
  rw[if_neg e']
 rw[s1 f hf];rw[show(lnAt ls b a c).owe ((lnAt ls b a c).db+0)=lnAt ls b a c by unfold Ln.owe;simp];omega
theorem map_at{o:Option Ln}{d:Ln→Int}(h:o=none→d noLn=0):((o.map fun x=>x.owe (d x)).getD noLn)=(o.getD noLn).owe (d (o.getD noLn)):=by
 cases o with
 | none=>simp only[Option.map_none,Option.getD_none];rw[h rfl];rfl
 | some x=>rfl
theorem push_at{ls:List Ln}(h:Inv ls){a b c n:Int}(hab:a≠b)(h1:1≤n)(hr:n≤(lnAt ls a b c).db+(lnAt ls b a c).li - (lnAt ls b a c).db):
  lnAt (aCz ls a b c n) a b c=(lnAt ls a b c).owe ((lnAt ls a b c).db - min n (lnAt ls a b c).db)∧lnAt (aCz ls a b c n) b a c=(lnAt ls b a c).owe ((lnAt ls b a c).db+(n - min n (lnAt ls a b c).db)):=by
 obtain⟨_,_,hl,_⟩:=aFu h hab h1 hr
 constructor
 ·show(aAn (aCz ls a b c n) a b c).getD noLn=_;rw[hl,if_pos ⟨rfl,rfl,rfl⟩];exact map_at (o:=aAn ls a b c) (d:=fun x=>x.db - min n x.db) (fun _=>by simp[noLn];omega)
 show(aAn (aCz ls a b c n) b a c).getD noLn=_;rw[hl,if_neg zQ,if_pos ⟨rfl,rfl,rfl⟩];refine map_at (o:=aAn ls b a c) (d:=fun y=>y.db+(n - min n (lnAt ls a b c).db)) (fun hn=>?_);rw[aAv hn]at hr;simp[noLn]at hr ⊢;omega
theorem push_room{ps:List Int}{ls:List Ln}(h:Inv ls){a b c n:Int}(h1:1≤n)(hr:n≤aB7 ps ls a b c):
  aB7 ps (aCz ls a b c n) a b c=aB7 ps ls a b c - n∧aB7 ps (aCz ls a b c n) b a c=aB7 ps ls b a c+n:=by
 have hz:¬(a=b∨a∉ps∨b∉ps):=by
  intro hz;unfold aB7 at hr;rw[if_pos hz]at hr;omega
 have hz2:¬(b=a∨b∉ps∨a∉ps):=by
  intro k;refine hz ?_;rcases k with k|k|k
  ·exact .inl k.symm
  ·exact .inr (.inr k)
  exact .inr (.inl k)
 have hr':n≤(lnAt ls a b c).db+(lnAt ls b a c).li - (lnAt ls b a c).db:=by unfold aB7 at hr;rwa [if_neg hz]at hr
 obtain⟨e1,e2⟩:=push_at h (fun k=>hz (.inl k)) h1 hr';unfold aB7;rw[if_neg hz,if_neg hz,if_neg hz2,if_neg hz2,e1,e2];simp only[Ln.owe]
 constructor <;> omega
theorem aFv(p c:Int):aBb p c noLn=0:=by unfold aBb noLn;simp
theorem aQw{ls:List Ln}(h:Inv ls)(a b c d p:Int)(hab:a≠b)(hd:aAn ls a b c=none→d=0):
  aBb p c ((lnAt ls a b c).owe d)=aBb p c (lnAt ls a b c)+(if p=a then d - (lnAt ls a b c).db else 0) - (if p=b then d - (lnAt ls a b c).db else 0):=by
 cases hl:aAn ls a b c with
 | none=>
  rw[aAv hl,hd hl,show noLn.owe 0=noLn from rfl,aFv];simp[noLn]
 | some x=>
  obtain⟨_,k1,k2,k3⟩:=aAq hl;rw[aAk hl];unfold aBb Ln.owe;simp only[k1,k2,k3]
  by_cases e1:p=a
  ·have e2:¬p=b:=zQ
   simp[e1,e2,Ne.symm (show b≠a by omega)];have:¬a=b:=hab;simp[this,Ne.symm hab]
   try omega
  by_cases e2:p=b
  ·simp[e2,hab,Ne.symm hab];omega
  simp[e1,e2,Ne.symm e1,Ne.symm e2,show ¬a=p by omega,show ¬b=p by omega]
theorem push_pos{ps:List Int}{ls:List Ln}(h:Inv ls){a b c n:Int}(h1:1≤n)(hr:n≤aB7 ps ls a b c)(p:Int):
  posL (aCz ls a b c n) p c=posL ls p c - (if p=a then n else 0)+(if p=b then n else 0):=by
 have hz:¬(a=b∨a∉ps∨b∉ps):=by
  intro hz;unfold aB7 at hr;rw[if_pos hz]at hr;omega
 have hab:a≠b:=fun k=>hz (.inl k)
 have hr':n≤(lnAt ls a b c).db+(lnAt ls b a c).li - (lnAt ls b a c).db:=by unfold aB7 at hr;rwa [if_neg hz]at hr
 obtain⟨_,_,_,hs⟩:=aFu h hab h1 hr';unfold posL;rw[hs (aBb p c) (aFv p c)];rw[aQw h a b c _ p hab (fun k=>by rw[aAv k];simp[noLn];omega),aQw h b a c _ p (Ne.symm hab) (fun k=>by rw[aAv k]at hr' ⊢;simp[noLn]at hr' ⊢;omega)]
 by_cases e1:p=a
 ·have e2:¬p=b:=zQ
  rw[if_pos e1,if_neg e2,if_neg e2,if_pos e1,if_pos e1,if_neg e2];omega
 by_cases e2:p=b
 ·rw[if_neg e1,if_pos e2,if_pos e2,if_neg e1,if_neg e1,if_pos e2];omega
 rw[if_neg e1,if_neg e2,if_neg e2,if_neg e1,if_neg e1,if_neg e2];omega
theorem aPj{α β:Type}(f:α→β→Int)(l:List α):∀(m:List β),(l.map fun a=>(m.map (f a)).sum).sum=(m.map fun b=>(l.map fun a=>f a b).sum).sum
 | []=>by
  simp only[List.map_nil,List.sum_nil]
  induction l with
  | nil=>rfl
  | cons x r ih=>simpa using ih
 | b::m=>by
  simp only[List.map_cons,List.sum_cons];rw[←aPj f l m];clear aPj
  induction l with
  | nil=>rfl
  | cons x r ih=>simp only[List.map_cons,List.sum_cons,ih];omega
theorem aTd(z d:Int):∀k:Nat,((List.range k).map fun p:Nat=>if z=(p:Int)then d else 0).sum=if 0≤z∧z<(k:Int)then d else 0
 | 0=>zU
 | k+1=>by
  rw[List.range_succ,List.map_append,List.sum_append,aTd z d k];simp only[List.map_singleton,List.sum_singleton]
  by_cases h1:z=(k:Int)
  ·rw[if_neg zQ,if_pos h1,if_pos zQ];omega
  rw[if_neg h1]
  by_cases h2:0≤z∧z<(k:Int)
  ·rw[if_pos h2,if_pos zQ];omega
  rw[if_neg h2,if_neg zQ];omega
theorem pos_zero{ls:List Ln}(h:∀x∈ls,x.Good)(c:Int):((List.range 20).map fun p:Nat=>posL ls (p:Int) c).sum=0:=by
 unfold posL;rw[aPj (fun(p:Nat) (x:Ln)=>aBb (p:Int) c x) (List.range 20) ls]
 have hz:∀x∈ls,((List.range 20).map fun p:Nat=>aBb (p:Int) c x).sum=0:=by
  intro x hx;have g:=h x hx;have g1:=g.cr;have g2:=g.de;unfold aBb
  by_cases hc:x.cu=c
  ·have e:∀l:List Nat,(l.map fun p:Nat=>if x.cu=c then(if x.cr=(p:Int)then x.db else 0) - (if x.de=(p:Int)then x.db else 0)else 0).sum=(l.map fun p:Nat=>if x.cr=(p:Int)then x.db else 0).sum - (l.map fun p:Nat=>if x.de=(p:Int)then x.db else 0).sum:=by
    intro l
    induction l with
    | nil=>rfl
    | cons q r ih=>simp only[List.map_cons,List.sum_cons,if_pos hc]at ih ⊢;omega
   rw[e,aTd,aTd,if_pos zQ,if_pos zQ];omega
  have e:∀l:List Nat,(l.map fun p:Nat=>if x.cu=c then(if x.cr=(p:Int)then x.db else 0) - (if x.de=(p:Int)then x.db else 0)else 0).sum=0:=by
   intro l
   induction l with
   | nil=>rfl
   | cons q r ih=>simp only[List.map_cons,List.sum_cons,if_neg hc]at ih ⊢;omega
  exact e _
 have e:∀l:List Ln,(∀x∈l,((List.range 20).map fun p:Nat=>aBb (p:Int) c x).sum=0)→(l.map fun x=>((List.range 20).map fun p:Nat=>aBb (p:Int) c x).sum).sum=0:=by
  intro l
  induction l with
  | nil=>intro _;rfl
  | cons y r ih=>intro hl;rw[List.map_cons,List.sum_cons,hl y zV,ih (fun x hx=>hl x (by simp[hx]))];rfl
 exact e ls hz
structure LInv(ps:List Int)(ls:List Ln):Prop where
 inv:Inv ls
 len:ls.length≤64
 ends:∀x∈ls,x.cr∈ps∧x.de∈ps
 bd:∀p∈ps,1≤p∧p≤16
 rise:ps.Pairwise (·<·)
theorem LInv.nil:LInv [] []:=⟨Inv.nil,zV,zV,zV,List.Pairwise.nil⟩
theorem aN1{ls:List Ln}(h:Inv ls)(x:Ln){y:Ln}(hy:y∈ls)(hr:y.rank=x.rank):(setL ls x).length≤ls.length:=by
 have hsp:=aCp x.rank ls h.sorted;have hm:y∈eqL x.rank ls:=by unfold eqL;exact List.mem_filter.2 ⟨hy,v6 hr⟩
 have h1:1≤(eqL x.rank ls).length:=List.length_pos_of_mem hm;have h2:=congrArg List.length hsp;rw[List.length_append,List.length_append]at h2;rw[aIq h.sorted,List.length_append,List.length_append];split <;> simp <;> omega
theorem LInv.push{ps:List Int}{ls:List Ln}(h:LInv ps ls)(a b c n:Int):LInv ps (aEn ps ls a b c n):=by
 unfold aEn
 by_cases he:aEw ps ls a b c n=0
 ·rw[if_pos he];have h1:1≤n∧n≤aB7 ps ls a b c:=by unfold aEw at he;(repeat' split at he) <;> omega
  have hz:¬(a=b∨a∉ps∨b∉ps):=by
   intro hz;unfold aB7 at h1;rw[if_pos hz]at h1;omega
  have hr':n≤(lnAt ls a b c).db+(lnAt ls b a c).li - (lnAt ls b a c).db:=by unfold aB7 at h1;rw[if_neg hz]at h1;exact h1.2
  obtain⟨i,l,f,_⟩:=aFu h.inv (fun k=>hz (.inl k)) h1.1 hr';refine⟨i,by rw[l];exact h.len,fun x hx=>?_,h.bd,h.rise⟩;have hx2:=(aBu i x.cr x.de x.cu x).2 ⟨hx,rfl,rfl,rfl⟩;rw[f]at hx2;have ha:a∈ps:=Classical.byContradiction fun k=>hz (.inr (.inl k))
  have hb:b∈ps:=Classical.byContradiction fun k=>hz (.inr (.inr k))
  split at hx2
  ·rename_i k;rw[←k.1,←k.2.1];exact⟨ha,hb⟩
  split at hx2
  ·rename_i k;rw[←k.1,←k.2.1];exact⟨hb,ha⟩
  exact h.ends x (aAq hx2).1
 rw[if_neg he];exact h
theorem LInv.forgive{ps:List Int}{ls:List Ln}(h:LInv ps ls)(a b c n:Int):LInv ps (aBe ls a b c n):=by
 unfold aBe
 by_cases he:aBh ls a b c n=0
 ·rw[if_pos he];unfold aBh at he
  cases hl:aAn ls a b c with
  | none=>rw[hl]at he;(repeat' split at he) <;> simp_all
  | some x=>
   rw[aAk hl]at he ⊢;have h1:1≤n∧n≤x.db:=by (repeat' split at he) <;> omega
   have hg:=h.inv.good x (aAq hl).1;have hdb:=hg.db;obtain⟨i,f,_,l⟩:=aPi h.inv hl (d:=x.db - n) zQ zQ;refine⟨i,by rw[l];exact h.len,fun y hy=>?_,h.bd,h.rise⟩;have hy2:=(aBu i y.cr y.de y.cu y).2 ⟨hy,rfl,rfl,rfl⟩;rw[f]at hy2;split at hy2
   ·rename_i k;obtain⟨m,k1,k2,_⟩:=aAq hl;have:=h.ends x m;rw[←k.1,←k.2.1,←k1,←k2];exact this
   exact h.ends y (aAq hy2).1
 rw[if_neg he];exact h
theorem LInv.trust{ps:List Int}{ls:List Ln}(h:LInv ps ls)(a b c n:Int):LInv ps (aA7 ps ls a b c n):=by
 unfold aA7
 by_cases he:aAo ps ls a b c n=0
 ·rw[if_pos he]
  have hs:¬(a<1∨16<a∨b<1∨16<b∨c<1∨8<c∨a=b∨n<0∨1099511627776<n)∧¬(a∉ps∨b∉ps)∧¬n<(lnAt ls a b c).db∧¬(aAn ls a b c=none∧0<n∧64≤ls.length):=by
   unfold aAo at he;split at he
   ·omega
   split at he
   ·omega
   split at he
   ·omega
   split at he
   ·omega
   rename_i k1 k2 k3 k4;exact⟨k1,k2,k3,k4⟩
  obtain⟨k1,k2,k3,k4⟩:=hs;have bx:=aEg h.inv.good a b c
  have hg:(⟨a,b,c,n,(lnAt ls a b c).db⟩:Ln).li≠0→(⟨a,b,c,n,(lnAt ls a b c).db⟩:Ln).Good:=fun hn=>by
   have hn':n≠0:=hn;refine⟨⟨?_,?_⟩,⟨?_,?_⟩,⟨?_,?_⟩,?_,⟨?_,?_⟩,⟨?_,?_⟩⟩ <;> simp only <;> omega
  have hf:(⟨a,b,c,n,(lnAt ls a b c).db⟩:Ln).Fits:=aJ8 ⟨zQ,zQ⟩ ⟨zQ,zQ⟩ ⟨zQ,zQ⟩ ⟨zQ,zQ⟩ ⟨zQ,zQ⟩;refine⟨h.inv.set hg,?_,fun y hy=>?_,h.bd,h.rise⟩
  ·cases hl:aAn ls a b c with
   | none=>
    by_cases hn:0<n
    ·have h1:ls.length<64:=Nat.lt_of_not_le fun k=>k4 ⟨hl,hn,k⟩
     have h2:=setL_len ls ⟨a,b,c,n,(lnAt ls a b c).db⟩;omega
    ·have h0:n=0:=zQ
     have h2:=congrArg List.length (aCp (⟨a,b,c,n,(lnAt ls a b c).db⟩:Ln).rank ls h.inv.sorted);have h3:=h.len;rw[List.length_append,List.length_append]at h2;rw[aIq h.inv.sorted,List.length_append,List.length_append,if_pos (show(⟨a,b,c,n,(lnAt ls a b c).db⟩:Ln).li=0 from h0)];simp only[List.length_nil];omega
   | some x=>
    obtain⟨m,e1,e2,e3⟩:=aAq hl;exact Nat.le_trans (aN1 h.inv _ m (aIo e1 e2 e3)) h.len
  rcases(aCq h.inv.sorted _ y).1 hy with⟨m,_⟩|⟨rfl,_⟩
  ·exact h.ends y m
  exact⟨Classical.byContradiction fun k=>k2 (.inl k),Classical.byContradiction fun k=>k2 (.inr k)⟩
 rw[if_neg he];exact h
theorem aEs{ps:List Int}{p q:Int}:q∈aC0 ps p 17↔(1≤q∧q≤16)∧(q=p∨q∈ps):=by
 unfold aC0;rw[List.mem_filter,List.mem_map]
 constructor
 ·rintro⟨⟨i,hi,rfl⟩,h⟩;rw[List.mem_range]at hi;simp at h;exact⟨⟨zQ,zQ⟩,h⟩
 rintro⟨⟨h1,h2⟩,h⟩;refine⟨⟨q.toNat - 1,List.mem_range.2 zQ,zQ⟩,y7⟩
theorem aMt(ps:List Int)(p:Int)(k:Nat):(aC0 ps p k).Pairwise (·<·):=by
 unfold aC0;refine List.Pairwise.filter _ (List.pairwise_map.2 ?_);exact(List.pairwise_lt_range).imp fun{a b} h=>zQ
theorem rise_ext:∀(l m:List Int),l.Pairwise (·<·)→m.Pairwise (·<·)→(∀x,x∈l↔x∈m)→l=m
 | [],[],_,_,_=>rfl
 | [],y::m,_,_,h=>by have:=(h y).2 zV;cases this
 | x::l,[],_,_,h=>by have:=(h x).1 zV;cases this
 | x::l,y::m,hl,hm,h=>by
  rw[List.pairwise_cons]at hl hm
  have hxy:x=y:=by
   have h1:=(h x).1 zV;have h2:=(h y).2 zV;rcases List.mem_cons.1 h1 with h1|h1
   ·exact h1
   rcases List.mem_cons.1 h2 with h2|h2
   ·exact h2.symm
   have a:=hl.1 y h2;have b:=hm.1 x h1;omega
  subst hxy;rw[rise_ext l m hl.2 hm.2 fun z=>?_]
  constructor
  ·intro hz;have a:=hl.1 z hz;rcases List.mem_cons.1 ((h z).1 xC)with e|e
   ·omega
   exact e
  intro hz;have a:=hm.1 z hz;rcases List.mem_cons.1 ((h z).2 xC)with e|e
  ·omega
  exact e
theorem LInv.open{ps:List Int}{ls:List Ln}(h:LInv ps ls)(p:Int):LInv (aGy ps p) ls:=by
 unfold aGy;split
 ·exact h
 split
 ·exact h
 refine⟨h.inv,h.len,fun x hx=>?_,fun q hq=>(aEs.1 hq).1,aMt _ _ _⟩;obtain⟨h1,h2⟩:=h.ends x hx;exact⟨aEs.2 ⟨h.bd _ h1,.inr h1⟩,aEs.2 ⟨h.bd _ h2,.inr h2⟩⟩
def limL(ls:List Ln):List Ln:=ls.map fun x=>x.owe 0
end Go.Proofs.YtngnfdnfpiiclaaGreat
namespace Go.Proofs.YtngnfdnfpiiclaaGreat
open Go.RowKit
open Go.MapKept (Stamped stamped_iff stamped_empty stamped_push stamped_modify stamped_erase)
open Go.ChangeMaps (setBlock)
structure aPk(P:Program)(k:TypeId)(S:Value→Prop):Prop where
 check:∀(w:World) (em:Bool) (v:Value),S v→(Instr.checkKey em 10000 k v).run P w=.ok () w
 find:∀(w:World) (x:Value),S x→∀es:List MapEntry,(∀e∈es,S e.key)→
  ((Instr.findKey k x es).run P w=.ok none w∧∀e∈es,e.key≠x)∨∃j e,(Instr.findKey k x es).run P w=.ok (some (j,e.val)) w∧es[j]? = some e∧e.key=x
 stays:∀(w:World) (v:Value),S v→(Instr.keyThatStays v v).run P w=.ok v w
theorem pAH{P:Program}{k:TypeId}{S:Value→Prop}(K:Go.Maps.Keyed P k)(h:∀v,S v→∃l,keyOf P k v=some l):aPk P k S where
 check w em v hv:=by obtain⟨l,hl⟩:=h v hv;exact K.check w em hl
 find w x hx es hes:=by
  obtain⟨l,hl⟩:=h x hx;exact K.find w hl es (fun e he=>h _ (hes e he))
 stays w v hv:=by obtain⟨l,hl⟩:=h v hv;exact K.stays w hl
def kv(e:MapEntry):Value×Value:=(e.key,e.val)
def aA6(w:World)(m:Nat)(kvs:List (Value×Value)):Prop:=
 ∃es clock,w.heap[m]? = some (.map es clock)∧Stamped es clock∧es.toList.map kv=kvs
theorem aDr{w:World}{r:Nat}{o:Obj}(hb:w.heap[r]? = some o)(o':Obj):(setBlock w r o').heap[r]? = some o':=(MapKept.heap_set hb).1
theorem aIb{w:World}{r:Nat}(o':Obj){i:Nat}(h:i≠r):(setBlock w r o').heap[i]? = w.heap[i]? := by
 show(w.heap.setIfInBounds r o')[i]? = _;rw[Array.getElem?_setIfInBounds_ne (Ne.symm h)]
structure aC4(m:Nat)(w w':World):Prop where
 os:w'.os=w.os
 tape:w'.tape=w.tape
 output:w'.output=w.output
 size:w'.heap.size=w.heap.size
 block:∀i,i≠m→w'.heap[i]? = w.heap[i]?
theorem aC4.set(w:World)(m:Nat)(o:Obj):aC4 m w (setBlock w m o):=⟨rfl,rfl,rfl,by simp[setBlock],fun i hi=>aIb _ hi⟩
theorem aC4.keep{m:Nat}{w w':World}(h:aC4 m w w'):Keep (·=m) w w':=⟨h.os,h.tape,h.output,by rw[h.size];exact Nat.le_refl _,fun k _ hk=>h.block k hk⟩
theorem aA6.lt{w:World}{m:Nat}{kvs:List (Value×Value)}(h:aA6 w m kvs):m<w.heap.size:=by
 obtain⟨es,clock,hb,_⟩:=h;exact(Array.getElem?_eq_some_iff.1 hb).1
theorem aA6.keep{S:Nat→Prop}{w w':World}{m:Nat}{kvs:List (Value×Value)}(h:aA6 w m kvs)(k:Keep S w w')(hs:¬S m):aA6 w' m kvs:=by
 have hlt:=h.lt;obtain⟨es,clock,hb,h2⟩:=h;exact⟨es,clock,by rw[k.block m hlt hs];exact hb,h2⟩
theorem aA6.below{w w':World}{B m:Nat}{kvs:List (Value×Value)}(h:aA6 w m kvs)(k:Below B w w')(hm:m<B):aA6 w' m kvs:=by
 obtain⟨es,clock,hb,h2⟩:=h;exact⟨es,clock,by rw[k.block m hm];exact hb,h2⟩
theorem aA6.made(w:World):aA6 (w.alloc (.map #[] 0)) w.heap.size []:=
 ⟨#[],0,heap_alloc_new w _,stamped_empty 0,rfl⟩
theorem aA6.ne_blk{w:World}{m g:Nat}{kvs:List (Value×Value)}{cs:Array Value}{t:TypeId}(h:aA6 w m kvs)(b:Blk w g cs t):m≠g:=by
 rintro rfl;obtain⟨es,clock,hb,_⟩:=h;unfold Blk at b;rw[b]at hb
 cases hb
section
variable{P:Program}{k t e:TypeId}{S:Value→Prop}{w:World}{m:Nat}{kvs:List (Value×Value)}
theorem aKg{es:Array MapEntry}(h:es.toList.map kv=kvs)(hS:∀p∈kvs,S p.1):∀x∈es.toList,S x.key:=fun x hx=>hS (kv x) (by rw[←h];exact List.mem_map_of_mem hx)
theorem aA6.look_none(h:aA6 w m kvs)(K:aPk P k S)(hS:∀p∈kvs,S p.1)(ht:P.underlying t=some (.map k e)){z:Value}(hz:(zeroValue e).run P w=.ok z w){key:Value}(hk:S key)(hno:∀p∈kvs,p.1≠key)(c:Bool):
  (Instr.lookup t (.map (some m)) key c).run P w=.ok (if c then .tuple #[z,.bool false]else z) w:=by
 obtain⟨es,clock,hb,F,hl⟩:=h;rcases K.find w key hk es.toList (aKg hl hS)with⟨h1,h2⟩|⟨j,e0,h1,h2,h3⟩
 ·simp[Instr.lookup,run_underlying ht,MapKept.run_getObj_map hb,K.check w _ key hk,h1,hz,Result.andThen]
 exact absurd h3 (hno (kv e0) (by rw[←hl];exact List.mem_map_of_mem (List.mem_of_getElem? h2)))
theorem aA6.look_some(h:aA6 w m kvs)(K:aPk P k S)(hS:∀p∈kvs,S p.1)(ht:P.underlying t=some (.map k e)){key v:Value}(hk:S key)(hin:(key,v)∈kvs)(c:Bool):
  (Instr.lookup t (.map (some m)) key c).run P w=.ok (if c then .tuple #[v,.bool true]else v) w:=by
 obtain⟨es,clock,hb,F,hl⟩:=h;rw[←hl]at hin;obtain⟨e1,he1,hkv⟩:=List.mem_map.1 hin;unfold kv at hkv
 cases hkv
 rcases K.find w e1.key hk es.toList (aKg hl hS)with⟨h1,h2⟩|⟨j,e0,h1,h2,h3⟩
 ·exact absurd rfl (h2 e1 he1)
 have hp:=((stamped_iff es clock).1 F).2.2;have hm0:e0∈es.toList:=List.mem_of_getElem? h2
 have he:e0=e1:=by
  by_cases hne:e0=e1
  ·exact hne
  exfalso;obtain⟨i0,hi0,rfl⟩:=List.getElem_of_mem hm0;obtain⟨i1,hi1,rfl⟩:=List.getElem_of_mem he1;rcases Nat.lt_trichotomy i0 i1 with h'|h'|h'
  ·exact(List.pairwise_iff_getElem.1 hp i0 i1 hi0 hi1 h') h3
  ·subst h';exact hne rfl
  exact(List.pairwise_iff_getElem.1 hp i1 i0 hi1 hi0 h') h3.symm
 subst he;simp[Instr.lookup,run_underlying ht,MapKept.run_getObj_map hb,K.check w _ _ hk,h1,Result.andThen]
theorem aA6.once(h:aA6 w m kvs):kvs.Pairwise fun p q=>p.1≠q.1:=by
 obtain⟨es,clock,hb,F,hl⟩:=h;rw[←hl,List.pairwise_map];exact((stamped_iff es clock).1 F).2.2
theorem aA6.store_new(h:aA6 w m kvs)(K:aPk P k S)(hS:∀p∈kvs,S p.1)(ht:P.underlying t=some (.map k e)){key v:Value}(hk:S key)(hno:∀p∈kvs,p.1≠key):
  ∃w',(Instr.mapUpdate t (.map (some m)) key v).run P w=.ok () w'∧aA6 w' m (kvs++[(key,v)])∧aC4 m w w':=by
 obtain⟨es,clock,hb,F,hl⟩:=h;rcases K.find w key hk es.toList (aKg hl hS)with⟨h1,h2⟩|⟨j,e0,h1,h2,h3⟩
 ·refine⟨setBlock w m (.map (es.push ⟨key,v,clock⟩) (clock+1)),?_,⟨_,_,aDr hb _,stamped_push F h2,?_⟩,aC4.set _ _ _⟩
  ·simp[Instr.mapUpdate,run_underlying ht,MapKept.run_getObj_map hb,K.check w false key hk,h1,MapKept.run_setObj_map _ hb,Result.andThen,setBlock]
  rw[Array.toList_push,List.map_append,hl];rfl
 exact absurd h3 (hno (kv e0) (by rw[←hl];exact List.mem_map_of_mem (List.mem_of_getElem? h2)))
theorem found_at{es:Array MapEntry}{clock:Nat}(F:Stamped es clock){A B:List (Value×Value)}{key v:Value}(hl:es.toList.map kv=A++(key,v)::B){j:Nat}{e0:MapEntry}(h2:es.toList[j]? = some e0)(h3:e0.key=key):j=A.length:=by
 have hp:(es.toList.map kv).Pairwise fun p q=>p.1≠q.1:=by rw[List.pairwise_map];exact((stamped_iff es clock).1 F).2.2
 have hj:(es.toList.map kv)[j]? = some (kv e0):=by rw[List.getElem?_map,h2];rfl
 rw[hl]at hj hp;have hA:(A++(key,v)::B)[A.length]? = some (key,v):=zV
 obtain⟨hj1,hj2⟩:=List.getElem?_eq_some_iff.1 hj;obtain⟨hA1,hA2⟩:=List.getElem?_eq_some_iff.1 hA;have hne:=List.pairwise_iff_getElem.1 hp;rcases Nat.lt_trichotomy j A.length with h'|h'|h'
 ·have:=hne j A.length hj1 hA1 h';rw[hj2,hA2]at this;exact absurd h3 this
 ·exact h'
 have:=hne A.length j hA1 hj1 h';rw[hj2,hA2]at this;exact absurd h3.symm this
theorem aA6.store_old(h:aA6 w m kvs)(K:aPk P k S)(hS:∀p∈kvs,S p.1)(ht:P.underlying t=some (.map k e)){A B:List (Value×Value)}{key u v:Value}(hk:S key)(hin:kvs=A++(key,u)::B):
  ∃w',(Instr.mapUpdate t (.map (some m)) key v).run P w=.ok () w'∧aA6 w' m (A++(key,v)::B)∧aC4 m w w':=by
 obtain⟨es,clock,hb,F,hl⟩:=h;rcases K.find w key hk es.toList (aKg hl hS)with⟨h1,h2⟩|⟨j,e0,h1,h2,h3⟩
 ·exfalso;have:(key,u)∈es.toList.map kv:=by rw[hl,hin];simp
  obtain⟨e1,he1,hkv⟩:=List.mem_map.1 this;unfold kv at hkv
  cases hkv
  exact h2 e1 he1 rfl
 have hjA:=found_at F (hl.trans hin) h2 h3;have hj:es[j]? = some e0:=zF
 have hkeyf:∀e',es[j]? = some e'→({ e' with key:=key,val:=v }:MapEntry).key=e'.key:=fun e' he'=>by rw[hj]at he';cases he';exact h3.symm
 have hlist:(es.modify j (fun e'=>{ e' with key:=key,val:=v })).toList=es.toList.set j { e0 with key:=key,val:=v }:=by rw[Array.toList_modify,Go.ChangeMaps.modify_eq_set _ _ _ _ h2]
 refine⟨setBlock w m (.map (es.modify j (fun e'=>{ e' with key:=key,val:=v })) clock),?_,⟨_,_,aDr hb _,stamped_modify F _ _ (fun _ _=>rfl) (fun e' _ he'=>hkeyf e' he'),?_⟩,aC4.set _ _ _⟩
 ·simp[Instr.mapUpdate,run_underlying ht,MapKept.run_getObj_map hb,K.check w false key hk,h1,hj,h3,K.stays w key hk,MapKept.run_setObj_map _ hb,Result.andThen,setBlock]
 rw[hlist,List.map_set,hl,hin,hjA];show(A++(key,u)::B).set A.length (kv { e0 with key:=key,val:=v })=_;rw[List.set_append];simp[kv]
theorem aA6.drop(h:aA6 w m kvs)(K:aPk P k S)(hS:∀p∈kvs,S p.1)(ht:P.underlying t=some (.map k e))(ty:TypeId){A B:List (Value×Value)}{key u:Value}(hk:S key)(hin:kvs=A++(key,u)::B):
  ∃w',(Builtin.delete_ #[t,k] ty #[.map (some m),key]).run P w=.ok (.tuple #[]) w'∧aA6 w' m (A++B)∧aC4 m w w':=by
 obtain⟨es,clock,hb,F,hl⟩:=h;rcases K.find w key hk es.toList (aKg hl hS)with⟨h1,h2⟩|⟨j,e0,h1,h2,h3⟩
 ·exfalso;have:(key,u)∈es.toList.map kv:=by rw[hl,hin];simp
  obtain⟨e1,he1,hkv⟩:=List.mem_map.1 this;unfold kv at hkv
  cases hkv
  exact h2 e1 he1 rfl
 have hjA:=found_at F (hl.trans hin) h2 h3;have hjl:j<es.toList.length:=(List.getElem?_eq_some_iff.1 h2).1;have hjs:j<es.size:=v6 hjl
 have hsub:(es.eraseIdxIfInBounds j).toList=es.toList.eraseIdx j:=by
  unfold Array.eraseIdxIfInBounds;rw[dif_pos hjs];simp
 refine⟨setBlock w m (.map (es.eraseIdxIfInBounds j) clock),?_,⟨_,_,aDr hb _,stamped_erase F j,?_⟩,aC4.set _ _ _⟩
 ·simp[Builtin.delete_,run_underlying ht,MapKept.run_getObj_map hb,K.check w _ key hk,h1,MapKept.run_setObj_map _ hb,Result.andThen,setBlock]
 rw[hsub,Go.ChangeMaps.map_eraseIdx,hl,hin,hjA];rw[List.eraseIdx_append_of_length_le yL];simp
theorem aA6.drop_none(h:aA6 w m kvs)(K:aPk P k S)(hS:∀p∈kvs,S p.1)(ht:P.underlying t=some (.map k e))(ty:TypeId){key:Value}(hk:S key)(hno:∀p∈kvs,p.1≠key):
  ∃w',(Builtin.delete_ #[t,k] ty #[.map (some m),key]).run P w=.ok (.tuple #[]) w'∧aA6 w' m kvs∧aC4 m w w':=by
 obtain⟨es,clock,hb,F,hl⟩:=h;rcases K.find w key hk es.toList (aKg hl hS)with⟨h1,h2⟩|⟨j,e0,h1,h2,h3⟩
 ·refine⟨setBlock w m (.map es clock),?_,⟨_,_,aDr hb _,F,hl⟩,aC4.set _ _ _⟩;simp[Builtin.delete_,run_underlying ht,MapKept.run_getObj_map hb,K.check w _ key hk,h1,MapKept.run_setObj_map _ hb,Result.andThen,setBlock]
 exact absurd h3 (hno (kv e0) (by rw[←hl];exact List.mem_map_of_mem (List.mem_of_getElem? h2)))
theorem aA6.len(h:aA6 w m kvs)(ht:P.underlying t=some (.map k e))(ty:TypeId):(Builtin.len_ #[t] ty #[.map (some m)]).run P w=.ok (.int .i64 kvs.length) w:=by
 obtain⟨es,clock,hb,F,hl⟩:=h;have e1:kvs.length=es.size:=by rw[←hl];simp
 rw[e1];simp[Builtin.len_,run_underlying ht,MapKept.run_getObj_map hb,goInt,Result.andThen]
def aCr(w:World)(m r:Nat)(kvs left:List (Value×Value)):Prop:=
 ∃es clock since seen c0,w.heap[m]? = some (.map es clock)∧Stamped es clock∧es.toList.map kv=kvs∧w.heap[r]? = some (.mapIter (some m) since seen c0)∧(∀x∈es.toList,x.born<since)∧since≤c0∧since≤clock∧(leftOf es seen).toList.map kv=left
theorem aCr.map{r:Nat}{left:List (Value×Value)}(h:aCr w m r kvs left):aA6 w m kvs:=by
 obtain⟨es,clock,since,seen,c0,hb,F,hl,_⟩:=h;exact⟨es,clock,hb,F,hl⟩
theorem aCr.lt{r:Nat}{left:List (Value×Value)}(h:aCr w m r kvs left):r<w.heap.size:=by
 obtain⟨es,clock,since,seen,c0,_,_,_,hr,_⟩:=h;exact(Array.getElem?_eq_some_iff.1 hr).1
theorem aCr.ne{r:Nat}{left:List (Value×Value)}(h:aCr w m r kvs left):m≠r:=by
 obtain⟨es,clock,since,seen,c0,hb,_,_,hr,_⟩:=h;rintro rfl;rw[hb]at hr
 cases hr
theorem aCr.keep{Z:Nat→Prop}{w':World}{r:Nat}{left:List (Value×Value)}(h:aCr w m r kvs left)(q:Keep Z w w')(hm:¬Z m)(hr:¬Z r):aCr w' m r kvs left:=by
 have h1:=h.map.lt;have h2:=h.lt;obtain⟨es,clock,since,seen,c0,hb,F,hl,hr',rest⟩:=h;exact⟨es,clock,since,seen,c0,by rw[q.block m h1 hm];exact hb,F,hl,by rw[q.block r h2 hr];exact hr',rest⟩
theorem aCr.below{w':World}{r:Nat}{left:List (Value×Value)}(h:aCr w m r kvs left)(q:Below w.heap.size w w'):aCr w' m r kvs left:=by
 have h1:=h.map.lt;have h2:=h.lt;obtain⟨es,clock,since,seen,c0,hb,F,hl,hr',rest⟩:=h;exact⟨es,clock,since,seen,c0,by rw[q.block m h1];exact hb,F,hl,by rw[q.block r h2];exact hr',rest⟩
theorem aA6.range(h:aA6 w m kvs)(ht:P.underlying t=some (.map k e)):∃w',(Instr.range t (.map (some m))).run P w=.ok (.pointer (some ⟨w.heap.size,0,none⟩)) w'∧aCr w' m w.heap.size kvs kvs∧Below w.heap.size w w':=by
 have hlt:=h.lt;obtain⟨es,clock,hb,F,hl⟩:=h;refine⟨_,run_range_map w t k e m es clock ht hb,⟨es,clock,clock,#[],clock,by rw[heap_alloc_old w _ hlt];exact hb,F,hl,heap_alloc_new w _,((stamped_iff es clock).1 F).1,Nat.le_refl _,Nat.le_refl _,?_⟩,yZ.alloc yL _⟩;rw[←hl];congr 1;unfold leftOf;simp
theorem left_push{es:Array MapEntry}{clock:Nat}(F:Stamped es clock){seen:Array Nat}{e0:MapEntry}(he:e0∈(leftOf es seen).toList):
  ∃A B,(leftOf es seen).toList=A++e0::B∧(leftOf es (seen.push e0.born)).toList=A++B:=by
 have hn:((leftOf es seen).toList.map (·.born)).Nodup:=by
  have h1:=((stamped_iff es clock).1 F).2.1;unfold leftOf;rw[Array.toList_filter];exact h1.sublist (List.Sublist.map _ List.filter_sublist)
 obtain⟨A,B,hAB⟩:=List.append_of_mem he;refine⟨A,B,hAB,?_⟩
 have e1:(leftOf es (seen.push e0.born)).toList=(leftOf es seen).toList.filter fun x=>!(x.born==e0.born):=by
  unfold leftOf;rw[Array.toList_filter,Array.toList_filter,List.filter_filter];congr 1
  funext x
  rw[contains_push]
  cases seen.contains x.born <;> cases (x.born==e0.born) <;> rfl
 rw[e1,hAB,List.filter_append,List.filter_cons];rw[hAB,List.map_append,List.map_cons]at hn;have h2:=List.nodup_append.1 hn;have hA:∀x∈A,x.born≠e0.born:=fun x hx heq=>(h2.2.2 x.born (List.mem_map_of_mem hx) e0.born zV) heq
 have hB:∀x∈B,x.born≠e0.born:=fun x hx heq=>(List.nodup_cons.1 h2.2.1).1 (by rw[←heq];exact List.mem_map_of_mem hx)
 rw[List.filter_eq_self.2 (fun x hx=>v6 (hA x hx)),List.filter_eq_self.2 (fun x hx=>v6 (hB x hx))];simp
theorem aCr.next{r:Nat}{left:List (Value×Value)}(h:aCr w m r kvs left)(ty:TypeId):
  (left=[]∧(Instr.next (.pointer (some ⟨r,0,none⟩)) false ty).run P w=.ok (.tuple #[.bool false]) w)∨
  ∃A x B w',left=A++x::B∧(Instr.next (.pointer (some ⟨r,0,none⟩)) false ty).run P w=.ok (.tuple #[.bool true,x.1,x.2]) w'∧aCr w' m r kvs (A++B)∧aC4 r w w'∧(Instr.entry (.pointer (some ⟨r,0,none⟩))).run P w'=.ok (.tuple #[x.1,x.2]) w':=by
 have hne:=h.ne;obtain⟨es,clock,since,seen,c0,hb,F,hl,hr,hold,hsc,hsk,hleft⟩:=h;rcases run_next_at (P:=P) w ty r m since c0 seen es clock hr hb hold hsc with⟨h0,hrun⟩|⟨e0,he,w1,hal,hrun⟩
 ·refine .inl ⟨?_,hrun⟩;rw[←hleft];have:(leftOf es seen).toList=[]:=vL
  rw[this];rfl
 obtain⟨A,B,hAB,hpush⟩:=left_push F he;have hmem:e0∈es.toList:=(mem_left he).1;have hr1:w1.heap[r]? = some (.mapIter (some m) since seen c0):=by rcases hal with rfl|rfl <;> exact hr
 have hb1:w1.heap[m]? = some (.map es clock):=by rcases hal with rfl|rfl <;> exact hb
 have hb':(setBlock w1 r (.mapIter (some m) since (seen.push e0.born) clock)).heap[m]? = some (.map es clock):=by rw[aIb _ hne];exact hb1
 have hrs:(setBlock w1 r (.mapIter (some m) since (seen.push e0.born) clock)).heap[r]? = some (.mapIter (some m) since (seen.push e0.born) clock):=aDr hr1 _;refine .inr ⟨A.map kv,kv e0,B.map kv,_,by rw[←hleft,hAB];simp,hrun,⟨es,clock,since,seen.push e0.born,clock,hb',F,hl,hrs,hold,hsk,hsk,by rw[hpush];simp⟩,?_,run_entry_at _ r m since seen es clock e0 hrs hb' hmem ((stamped_iff es clock).1 F).2.1⟩;have ht:=aC4.set w1 r (.mapIter (some m) since (seen.push e0.born) clock);rcases hal with rfl|rfl
 ·exact ht
 exact⟨ht.os,ht.tape,ht.output,ht.size,ht.block⟩
end
end Go.Proofs.YtngnfdnfpiiclaaGreat
namespace Go.Proofs.YtngnfdnfpiiclaaGreat
open Go.RowKit
theorem endsRow:(188:TypeId)<Tryz.prog.types.size:=of_decide_eq_true zW
theorem dumpLaid:laidOutB Tryz.prog=true:=zW
theorem endsLaw:Go.WideMaps.KeyLaw Tryz.prog 188:=deep_law_laid dumpLaid (m:=2) zQ endsRow zW (by rw[Tryz.underlying188])
def aE7(a b c:Int):Value:=.agg #[.int .u8 a,.int .u8 b,.int .u8 c]
def amtV(l d:Int):Value:=.agg #[.int .i64 l,.int .i64 d]
def U8(n:Int):Prop:=0≤n∧n≤255
def aQx(v:Value):Prop:=∃a b c,v=aE7 a b c∧U8 a∧U8 b∧U8 c
theorem endsV_inj{a b c a' b' c':Int}(h:aE7 a b c=aE7 a' b' c'):a=a'∧b=b'∧c=c':=by
 unfold aE7 at h;simp at h;exact h
theorem aKh{P:Program}{t:TypeId}(ht:P.underlying t=some (.int .u8))(n:Nat)(a:Int)(w:(Lit.int .u8 a).wf=true):P.keyLits (n+1) t [.int .u8 a]=some [.int .u8 a]:=by
 unfold Program.keyLits;rw[ht];simp[w]
theorem u8_wf{a:Int}(h:U8 a):(Lit.int .u8 a).wf=true:=by
 obtain⟨a1,a2⟩:=h;simp[Lit.wf,IntKind.min,IntKind.max,IntKind.signed,IntKind.bits];omega
theorem aQy(n:Nat)(a b c:Int)(wa:(Lit.int .u8 a).wf=true)(wb:(Lit.int .u8 b).wf=true)(wc:(Lit.int .u8 c).wf=true):Tryz.prog.keyLits (n+1+1) 188 [.int .u8 a,.int .u8 b,.int .u8 c]=some [.int .u8 a,.int .u8 b,.int .u8 c]:=by
 have hs:Tryz.prog.cellsOf 188=3:=zW
 have h1:Tryz.prog.cellsOf 68=1:=zW
 have h2:Tryz.prog.cellsOf 69=1:=zW
 have l1:=aKh Tryz.underlying68 n a wa;have l2:=aKh Tryz.underlying68 n b wb;have l3:=aKh Tryz.underlying69 n c wc;have hu:=Tryz.underlying188;rw[Program.keyLits.eq_def];dsimp only;rw[hu];dsimp only;generalize Tryz.prog=P at *;simp[hs,h1,h2,l1,l2,l3]
theorem ends_keyOf(a b c:Int)(ha:U8 a)(hb:U8 b)(hc:U8 c):∃l,keyOf Tryz.prog 188 (aE7 a b c)=some l:=by
 have hk:Tryz.prog.keyType 188=true:=zW
 have hs:Tryz.prog.cellsOf 188=3:=zW
 obtain⟨n,hn⟩:∃n,Tryz.prog.types.size+1=n+1+1:=by
  have h0:0<Tryz.prog.types.size:=Nat.lt_of_le_of_lt (Nat.zero_le _) endsRow;exact⟨Tryz.prog.types.size - 1,zQ⟩
 have hl:=aQy n a b c (u8_wf ha) (u8_wf hb) (u8_wf hc);have hu:=Tryz.underlying188;have hf:(aE7 a b c).formed Tryz.prog 188=true:=by simp[Value.formed,aE7,hu,hs]
 refine⟨.string (keyBytes [.int .u8 a,.int .u8 b,.int .u8 c]),?_⟩;unfold keyOf;rw[hu];dsimp only;rw[hk,hf,hn,show(aE7 a b c).cells.toList=[.int .u8 a,.int .u8 b,.int .u8 c]from rfl,hl];rfl
theorem aOf:aPk Tryz.prog 188 aQx:=pAH (Go.Maps.Keyed.of_law endsLaw) fun v ⟨a,b,c,e,ha,hb,hc⟩=>by subst e;exact ends_keyOf a b c ha hb hc
theorem zeroAmt(w:World):(zeroValue 190).run Tryz.prog w=.ok (amtV 0 0) w:=zW
theorem In8.u8{n:Int}(h:In8 n):U8 n:=h
def lnKV(x:Ln):Value×Value:=(aE7 x.cr x.de x.cu,amtV x.li x.db)
def aDj(w:World)(m:Nat)(ls:List Ln):Prop:=∃ms:List Ln,aA6 w m (ms.map lnKV)∧ms.Perm ls
theorem aDj.lt{w:World}{m:Nat}{ls:List Ln}(h:aDj w m ls):m<w.heap.size:=by obtain⟨ms,h1,_⟩:=h;exact h1.lt
theorem aDj.keep{S:Nat→Prop}{w w':World}{m:Nat}{ls:List Ln}(h:aDj w m ls)(k:Keep S w w')(hs:¬S m):aDj w' m ls:=by obtain⟨ms,h1,h2⟩:=h;exact⟨ms,h1.keep k hs,h2⟩
theorem aDj.below{w w':World}{B m:Nat}{ls:List Ln}(h:aDj w m ls)(k:Below B w w')(hm:m<B):aDj w' m ls:=by obtain⟨ms,h1,h2⟩:=h;exact⟨ms,h1.below k hm,h2⟩
theorem aDj.ne_blk{w:World}{m g:Nat}{ls:List Ln}{cs:Array Value}{t:TypeId}(h:aDj w m ls)(b:Blk w g cs t):m≠g:=by obtain⟨ms,h1,_⟩:=h;exact h1.ne_blk b
theorem aDj.made(w:World):aDj (w.alloc (.map #[] 0)) w.heap.size []:=⟨[],aA6.made w,List.Perm.refl _⟩
section
variable{w:World}{m:Nat}{ls:List Ln}
theorem aHp{ms:List Ln}(hp:ms.Perm ls)(hI:Inv ls):∀p∈ms.map lnKV,aQx p.1:=by
 intro p hp';obtain⟨x,hx,rfl⟩:=List.mem_map.1 hp';have hf:=(hI.good x (hp.mem_iff.1 hx)).fits;exact⟨_,_,_,rfl,hf.cr,hf.de,hf.cu⟩
theorem kvs_no{ms:List Ln}(hp:ms.Perm ls){a b c:Int}(hl:aAn ls a b c=none):∀p∈ms.map lnKV,p.1≠aE7 a b c:=by
 intro p hp' he;obtain⟨x,hx,rfl⟩:=List.mem_map.1 hp';obtain⟨e1,e2,e3⟩:=endsV_inj he;exact(aE2 a b c).1 hl x (hp.mem_iff.1 hx) ⟨e1,e2,e3⟩
theorem aDj.look(h:aDj w m ls)(hI:Inv ls){a b c:Int}(ha:U8 a)(hb:U8 b)(hc:U8 c):
  (Instr.lookup 152 (.map (some m)) (aE7 a b c) true).run Tryz.prog w=.ok (.tuple #[amtV (lnAt ls a b c).li (lnAt ls a b c).db,.bool (aAn ls a b c).isSome]) w∧
  (Instr.lookup 152 (.map (some m)) (aE7 a b c) false).run Tryz.prog w=.ok (amtV (lnAt ls a b c).li (lnAt ls a b c).db) w:=by
 obtain⟨ms,h1,hp⟩:=h;have hk:aQx (aE7 a b c):=⟨a,b,c,rfl,ha,hb,hc⟩
 cases hl:aAn ls a b c with
 | none=>
  rw[aAv hl];have q:=fun o=>h1.look_none aOf (aHp hp hI) Tryz.underlying152 (zeroAmt w) hk (kvs_no hp hl) o
  exact⟨q true,q false⟩
 | some x=>
  rw[aAk hl];obtain⟨hm,e1,e2,e3⟩:=aAq hl;have hin:(aE7 a b c,amtV x.li x.db)∈ms.map lnKV:=List.mem_map.2 ⟨x,hp.mem_iff.2 hm,by unfold lnKV;rw[e1,e2,e3]⟩;have q:=fun o=>h1.look_some aOf (aHp hp hI) Tryz.underlying152 hk hin o
  exact⟨q true,q false⟩
theorem aDj.len(h:aDj w m ls)(ty:TypeId):(Builtin.len_ #[152] ty #[.map (some m)]).run Tryz.prog w=.ok (.int .i64 ls.length) w:=by
 obtain⟨ms,h1,hp⟩:=h;have:=h1.len (P:=Tryz.prog) Tryz.underlying152 ty
 rwa [List.length_map,hp.length_eq]at this
theorem eqL_some(hI:Inv ls){x:Ln}(hx:x∈ls):eqL x.rank ls=[x]:=by
 have hmem:x∈eqL x.rank ls:=by unfold eqL;exact List.mem_filter.2 ⟨hx,zV⟩
 have hp:(eqL x.rank ls).Pairwise fun x y=>x.rank<y.rank:=by unfold eqL;exact List.Pairwise.filter _ hI.sorted
 have hall:∀z∈eqL x.rank ls,z.rank=x.rank:=fun z hz=>wL
 generalize eqL x.rank ls=B at *
 match B,hmem,hp,hall with
 | [z],hmem,_,_=>rw[List.mem_singleton]at hmem;subst hmem;rfl
 | z::u::r,_,hp,hall=>
  have a1:=hall z zV;have a2:=hall u zV;have a3:=(List.pairwise_cons.1 hp).1 u zV;omega
theorem eqL_none(hI:Inv ls){x:Ln}(hf:x.Fits)(hl:aAn ls x.cr x.de x.cu=none):eqL x.rank ls=[]:=by
 unfold eqL;rw[List.filter_eq_nil_iff];intro y hy;have h1:=(aE2 (ls:=ls) x.cr x.de x.cu).1 hl y hy;intro hr;exact h1 (aLq (hI.good y hy).fits hf (v6 hr))
theorem aDj.store(h:aDj w m ls)(hI:Inv ls){x:Ln}(hf:x.Fits)(h0:x.li≠0):
  ∃w',(Instr.mapUpdate 152 (.map (some m)) (aE7 x.cr x.de x.cu) (amtV x.li x.db)).run Tryz.prog w=.ok () w'∧aDj w' m (setL ls x)∧aC4 m w w':=by
 obtain⟨ms,h1,hp⟩:=h;have hk:aQx (aE7 x.cr x.de x.cu):=⟨_,_,_,rfl,hf.cr,hf.de,hf.cu⟩;have hset:=aIq hI.sorted x;have hsp:=aCp x.rank ls hI.sorted;rw[if_neg h0]at hset
 cases hl:aAn ls x.cr x.de x.cu with
 | none=>
  rw[eqL_none hI hf hl,List.nil_append]at hsp;obtain⟨w',hr,hm,ht⟩:=h1.store_new (v:=amtV x.li x.db) aOf (aHp hp hI) Tryz.underlying152 hk (kvs_no hp hl);refine⟨w',hr,⟨ms++[x],by rw[List.map_append];exact hm,?_⟩,ht⟩;rw[hset];refine(List.perm_append_singleton x ms).trans ((hp.cons x).trans ?_)
  conv=>lhs;rw[hsp]
  exact List.perm_middle.symm
 | some y=>
  obtain⟨hm,e1,e2,e3⟩:=aAq hl;have hr0:y.rank=x.rank:=aIo e1 e2 e3;have heq:=eqL_some hI hm;rw[hr0]at heq;rw[heq]at hsp;obtain⟨A,B,hAB⟩:=List.append_of_mem (hp.mem_iff.2 hm);subst hAB;obtain⟨w',hr,hmm,ht⟩:=h1.store_old (A:=A.map lnKV) (B:=B.map lnKV) (u:=amtV y.li y.db) (v:=amtV x.li x.db) aOf (aHp hp hI) Tryz.underlying152 hk zY;refine⟨w',hr,⟨A++x::B,by rw[List.map_append,List.map_cons];exact hmm,?_⟩,ht⟩;rw[hset]
  have hp2:(y::(A++B)).Perm (y::(loL x.rank ls++hiL x.rank ls)):=by
   refine List.perm_middle.symm.trans (hp.trans ?_)
   conv=>lhs;rw[hsp]
   exact List.perm_middle
  exact List.perm_middle.trans ((hp2.cons_inv.cons x).trans List.perm_middle.symm)
theorem aDj.drop(h:aDj w m ls)(hI:Inv ls)(ty:TypeId){x:Ln}(hf:x.Fits)(h0:x.li=0):
  ∃w',(Builtin.delete_ #[152,188] ty #[.map (some m),aE7 x.cr x.de x.cu]).run Tryz.prog w=.ok (.tuple #[]) w'∧aDj w' m (setL ls x)∧aC4 m w w':=by
 obtain⟨ms,h1,hp⟩:=h;have hk:aQx (aE7 x.cr x.de x.cu):=⟨_,_,_,rfl,hf.cr,hf.de,hf.cu⟩;have hset:=aIq hI.sorted x;have hsp:=aCp x.rank ls hI.sorted;rw[if_pos h0,List.nil_append]at hset
 cases hl:aAn ls x.cr x.de x.cu with
 | none=>
  rw[eqL_none hI hf hl,List.nil_append]at hsp;obtain⟨w',hr,hm,ht⟩:=h1.drop_none aOf (aHp hp hI) Tryz.underlying152 ty hk (kvs_no hp hl);exact⟨w',hr,⟨ms,hm,by rw[hset,←hsp];exact hp⟩,ht⟩
 | some y=>
  obtain⟨hm,e1,e2,e3⟩:=aAq hl;have hr0:y.rank=x.rank:=aIo e1 e2 e3;have heq:=eqL_some hI hm;rw[hr0]at heq;rw[heq]at hsp;obtain⟨A,B,hAB⟩:=List.append_of_mem (hp.mem_iff.2 hm);subst hAB;obtain⟨w',hr,hmm,ht⟩:=h1.drop (A:=A.map lnKV) (B:=B.map lnKV) (u:=amtV y.li y.db) aOf (aHp hp hI) Tryz.underlying152 ty hk zY;refine⟨w',hr,⟨A++B,by rw[List.map_append];exact hmm,?_⟩,ht⟩;rw[hset]
  have hp2:(y::(A++B)).Perm (y::(loL x.rank ls++hiL x.rank ls)):=by
   refine List.perm_middle.symm.trans (hp.trans ?_)
   conv=>lhs;rw[hsp]
   exact List.perm_middle
  exact hp2.cons_inv
def aBo(w:World)(m r:Nat)(ls done:List Ln):Prop:=
 ∃ms left:List Ln,aCr w m r (ms.map lnKV) (left.map lnKV)∧ms.Perm ls∧(done++left).Perm ls
theorem aBo.lt{r:Nat}{done:List Ln}(h:aBo w m r ls done):r<w.heap.size:=by obtain⟨ms,left,h1,_⟩:=h;exact h1.lt
theorem aBo.len{r:Nat}{done:List Ln}(h:aBo w m r ls done):done.length≤ls.length:=by
 obtain⟨ms,left,_,_,h3⟩:=h;have:=h3.length_eq;rw[List.length_append]at this;omega
theorem aBo.sub{r:Nat}{done:List Ln}(h:aBo w m r ls done):∀x∈done,x∈ls:=by
 obtain⟨ms,left,_,_,h3⟩:=h;exact fun x hx=>h3.mem_iff.1 (List.mem_append_left _ hx)
theorem aBo.below{w':World}{r:Nat}{done:List Ln}(h:aBo w m r ls done)(q:Below w.heap.size w w'):aBo w' m r ls done:=by
 obtain⟨ms,left,h1,h2⟩:=h;exact⟨ms,left,h1.below q,h2⟩
theorem aBo.keep{Z:Nat→Prop}{w':World}{r:Nat}{done:List Ln}(h:aBo w m r ls done)(q:Keep Z w w')(hm:¬Z m)(hr:¬Z r):aBo w' m r ls done:=by
 obtain⟨ms,left,h1,h2⟩:=h;exact⟨ms,left,h1.keep q hm hr,h2⟩
theorem aDj.range(h:aDj w m ls):∃w',(Instr.range 152 (.map (some m))).run Tryz.prog w=.ok (.pointer (some ⟨w.heap.size,0,none⟩)) w'∧aBo w' m w.heap.size ls []∧Below w.heap.size w w':=by
 obtain⟨ms,h1,hp⟩:=h;obtain⟨w',a,b,c⟩:=h1.range (P:=Tryz.prog) Tryz.underlying152;exact⟨w',a,⟨ms,ms,b,hp,hp⟩,c⟩
theorem aBo.next{r:Nat}{done:List Ln}(h:aBo w m r ls done)(ty:TypeId):
  (done.Perm ls∧(Instr.next (.pointer (some ⟨r,0,none⟩)) false ty).run Tryz.prog w=.ok (.tuple #[.bool false]) w)∨
  ∃x w',x∈ls∧(Instr.next (.pointer (some ⟨r,0,none⟩)) false ty).run Tryz.prog w=.ok (.tuple #[.bool true,aE7 x.cr x.de x.cu,amtV x.li x.db]) w'∧aBo w' m r ls (done++[x])∧aC4 r w w'∧
   (Instr.entry (.pointer (some ⟨r,0,none⟩))).run Tryz.prog w'=.ok (.tuple #[aE7 x.cr x.de x.cu,amtV x.li x.db]) w':=by
 obtain⟨ms,left,h1,hp,hd⟩:=h;rcases h1.next (P:=Tryz.prog) ty with⟨h0,hr⟩|⟨A,q,B,w',hl,hr,hrg,ht,hen⟩
 ·refine .inl ⟨?_,hr⟩;have:left=[]:=vL
  rw[this,List.append_nil]at hd;exact hd
 obtain⟨A',l2,rfl,rfl,h2⟩:=List.map_eq_append_iff.1 hl;obtain⟨x,B',rfl,rfl,rfl⟩:=List.map_eq_cons_iff.1 h2;refine .inr ⟨x,w',hd.mem_iff.1 zV,hr,⟨ms,A'++B',by rw[List.map_append];exact hrg,hp,?_⟩,ht,hen⟩;refine List.Perm.trans ?_ hd;rw[List.append_assoc];exact List.Perm.append_left done (List.perm_middle (a:=x) (l₁:=A') (l₂:=B')).symm
end
end Go.Proofs.YtngnfdnfpiiclaaGreat
