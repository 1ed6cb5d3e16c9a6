/-
  Pieces of one proof, without what is not wanted: LedMath, LedMath3.
-/
import Derived.Test.YtngnfdnfpiiclaaGreatV02
import Derived.Test.YtngnfdnfpiiclaaGreatV05
set_option linter.unusedSimpArgs false
set_option linter.unusedVariables false
namespace Go.Proofs.YtngnfdnfpiiclaaGreat
open Go.RowKit
theorem rank_inj {x y:Ln} (hx:x.Fits) (hy:y.Fits) (h:x.rank=y.rank):x.cr=y.cr∧x.de=y.de∧x.cu=y.cu:=by
 obtain ⟨⟨a1,a2⟩,⟨b1,b2⟩,_,_,_⟩:=hx
 obtain ⟨⟨c1,c2⟩,⟨d1,d2⟩,_,_,_⟩:=hy
 unfold Ln.rank at h
 omega
theorem rank_of {x y:Ln} (h1:x.cr=y.cr) (h2:x.de=y.de) (h3:x.cu=y.cu):x.rank=y.rank:=by unfold Ln.rank; rw [h1,h2,h3]
theorem is_iff {x:Ln} {a b c:Int}:x.is a b c=true↔x.cr=a∧x.de=b∧x.cu=c:=by
 unfold Ln.is
 simp only [Bool.and_eq_true,beq_iff_eq,and_assoc]
structure Inv (ls:List Ln):Prop where
 good:∀ x ∈ ls,x.Good
 sorted:ls.Pairwise fun x y=>x.rank<y.rank
theorem Inv.nil:Inv []:=⟨by simp,List.Pairwise.nil⟩
def loL (r:Int) (ls:List Ln):List Ln:=ls.filter fun y=>decide (y.rank<r)
def eqL (r:Int) (ls:List Ln):List Ln:=ls.filter fun y=>decide (y.rank=r)
def hiL (r:Int) (ls:List Ln):List Ln:=ls.filter fun y=>decide (r<y.rank)
theorem split_sorted (r:Int):∀ (ls:List Ln),ls.Pairwise (fun x y=>x.rank<y.rank)→ls=loL r ls++(eqL r ls++hiL r ls)
 | [],_=>rfl
 | x::l,h=>by
  rw [List.pairwise_cons] at h
  have ih:=split_sorted r l h.2
  rcases Int.lt_trichotomy x.rank r with h1 | h1 | h1
  ·have e1:loL r (x::l)=x::loL r l:=by unfold loL; rw [List.filter_cons,if_pos (by simpa using h1)]
   have e2:eqL r (x::l)=eqL r l:=by unfold eqL; rw [List.filter_cons,if_neg (by simp; omega)]
   have e3:hiL r (x::l)=hiL r l:=by unfold hiL; rw [List.filter_cons,if_neg (by simp; omega)]
   rw [e1,e2,e3,List.cons_append,← ih]
  ·have n1:loL r l=[]:=by unfold loL; rw [List.filter_eq_nil_iff]; intro y hy; have:=h.1 y hy; simp; omega
   have e1:loL r (x::l)=[]:=by unfold loL at *; rw [List.filter_cons,if_neg (by simp; omega),n1]
   have e2:eqL r (x::l)=x::eqL r l:=by unfold eqL; rw [List.filter_cons,if_pos (by simpa using h1)]
   have e3:hiL r (x::l)=hiL r l:=by unfold hiL; rw [List.filter_cons,if_neg (by simp; omega)]
   rw [e1,e2,e3]
   rw [n1] at ih
   simp only [List.nil_append,List.cons_append] at ih ⊢
   rw [← ih]
  ·have n1:loL r l=[]:=by unfold loL; rw [List.filter_eq_nil_iff]; intro y hy; have:=h.1 y hy; simp; omega
   have n2:eqL r l=[]:=by unfold eqL; rw [List.filter_eq_nil_iff]; intro y hy; have:=h.1 y hy; simp; omega
   have e1:loL r (x::l)=[]:=by unfold loL at *; rw [List.filter_cons,if_neg (by simp; omega),n1]
   have e2:eqL r (x::l)=[]:=by unfold eqL at *; rw [List.filter_cons,if_neg (by simp; omega),n2]
   have e3:hiL r (x::l)=x::hiL r l:=by unfold hiL; rw [List.filter_cons,if_pos (by simpa using h1)]
   rw [e1,e2,e3]
   rw [n1,n2] at ih
   simp only [List.nil_append] at ih ⊢
   rw [← ih]
theorem fold_lo (x:Ln):∀ (A:List Ln),(∀ y ∈ A,y.rank<x.rank)→∀ s,A.foldl (setStep x) s=(s.1++A,s.2)
 | [],_,s=>by simp
 | y::r,h,s=>by
  have h1:=h y (by simp)
  rw [List.foldl_cons,fold_lo x r (fun z hz=>h z (by simp [hz]))]
  unfold setStep
  rw [if_neg (by omega),if_neg (by omega)]
  simp
theorem fold_eq (x:Ln):∀ (A:List Ln),(∀ y ∈ A,y.rank=x.rank)→∀ s,A.foldl (setStep x) s=s
 | [],_,s=>rfl
 | y::r,h,s=>by
  rw [List.foldl_cons,show setStep x s y=s by unfold setStep; rw [if_pos (h y (by simp))]]
  exact fold_eq x r (fun z hz=>h z (by simp [hz])) s
theorem fold_hi_put (x:Ln):∀ (A:List Ln),(∀ y ∈ A,x.rank<y.rank)→∀ o,A.foldl (setStep x) (o,true)=(o++A,true)
 | [],_,o=>by simp
 | y::r,h,o=>by
  have h1:=h y (by simp)
  rw [List.foldl_cons,show setStep x (o,true) y=(o++[y],true) by unfold setStep; rw [if_neg (by omega),if_neg (by simp)]]
  rw [fold_hi_put x r (fun z hz=>h z (by simp [hz]))]
  simp
theorem fold_hi_not (x:Ln) (A:List Ln) (h:∀ y ∈ A,x.rank<y.rank) (o:List Ln):(if (A.foldl (setStep x) (o,false)).2=false then (A.foldl (setStep x) (o,false)).1++[x] else (A.foldl (setStep x) (o,false)).1)=o++x::A:=by
 cases A with
 | nil=>simp
 | cons y r =>
  have h1:=h y (by simp)
  rw [List.foldl_cons,show setStep x (o,false) y=(o++[x,y],true) by unfold setStep; rw [if_neg (by omega),if_pos ⟨rfl,h1⟩]]
  rw [fold_hi_put x r (fun z hz=>h z (by simp [hz]))]
  simp
theorem setL_eq {ls:List Ln} (hs:ls.Pairwise fun x y=>x.rank<y.rank) (x:Ln):setL ls x=loL x.rank ls++((if x.li=0 then [] else [x])++hiL x.rank ls):=by
 have hsp:=split_sorted x.rank ls hs
 have hlo:∀ y ∈ loL x.rank ls,y.rank<x.rank:=fun y hy=>by unfold loL at hy; simpa using (List.mem_filter.1 hy).2
 have heq:∀ y ∈ eqL x.rank ls,y.rank=x.rank:=fun y hy=>by unfold eqL at hy; simpa using (List.mem_filter.1 hy).2
 have hhi:∀ y ∈ hiL x.rank ls,x.rank<y.rank:=fun y hy=>by unfold hiL at hy; simpa using (List.mem_filter.1 hy).2
 unfold setL setTo
 generalize loL x.rank ls=A at *
 generalize eqL x.rank ls=B at *
 generalize hiL x.rank ls=C at *
 rw [hsp,List.foldl_append,List.foldl_append,fold_lo x A hlo,fold_eq x B heq]
 simp only [List.nil_append]
 by_cases h0:x.li=0
 ·have e:(x.li==0)=true:=by simp [h0]
  rw [e,fold_hi_put x C hhi,if_neg (by simp),if_pos h0]
  simp
 ·have e:(x.li==0)=false:=by simp [h0]
  rw [e,fold_hi_not x C hhi,if_neg h0]
  simp
theorem setL_mem_iff {ls:List Ln} (hs:ls.Pairwise fun x y=>x.rank<y.rank) (x y:Ln):y ∈ setL ls x↔(y ∈ ls∧y.rank≠x.rank)∨(y=x∧x.li≠0):=by
 rw [setL_eq hs]
 unfold loL hiL
 by_cases h0:x.li=0
 ·simp only [h0,if_true,List.nil_append,List.mem_append,List.mem_filter,decide_eq_true_eq,ne_eq,not_true,and_false,or_false]
  constructor
  ·rintro (⟨a,b⟩ | ⟨a,b⟩)
   ·exact ⟨a,by omega⟩
   ·exact ⟨a,by omega⟩
  ·rintro ⟨a,b⟩
   rcases Int.lt_or_gt_of_ne b with h | h
   ·exact .inl ⟨a,h⟩
   ·exact .inr ⟨a,h⟩
 ·simp only [h0,if_false,List.mem_append,List.mem_filter,decide_eq_true_eq,List.mem_singleton,ne_eq,not_false_eq_true,and_true]
  constructor
  ·rintro (⟨a,b⟩ | a | ⟨a,b⟩)
   ·exact .inl ⟨a,by omega⟩
   ·exact .inr a
   ·exact .inl ⟨a,by omega⟩
  ·rintro (⟨a,b⟩ | a)
   ·rcases Int.lt_or_gt_of_ne b with h | h
    ·exact .inl ⟨a,h⟩
    ·exact .inr (.inr ⟨a,h⟩)
   ·exact .inr (.inl a)
theorem setL_sorted {ls:List Ln} (hs:ls.Pairwise fun x y=>x.rank<y.rank) (x:Ln):(setL ls x).Pairwise fun x y=>x.rank<y.rank:=by
 rw [setL_eq hs]
 have hlo:∀ y ∈ loL x.rank ls,y.rank<x.rank:=fun y hy=>by unfold loL at hy; simpa using (List.mem_filter.1 hy).2
 have hhi:∀ y ∈ hiL x.rank ls,x.rank<y.rank:=fun y hy=>by unfold hiL at hy; simpa using (List.mem_filter.1 hy).2
 refine List.pairwise_append.2 ⟨List.Pairwise.filter _ hs,List.pairwise_append.2 ⟨?_,List.Pairwise.filter _ hs,?_⟩,?_⟩
 ·split <;> simp
 ·intro a ha b hb
  split at ha
  ·cases ha
  ·rw [List.mem_singleton] at ha; subst ha; exact hhi b hb
 ·intro a ha b hb
  have h1:=hlo a ha
  rcases List.mem_append.1 hb with hb | hb
  ·split at hb
   ·cases hb
   ·rw [List.mem_singleton] at hb; subst hb; exact h1
  ·have:=hhi b hb; omega
theorem Inv.set {ls:List Ln} (h:Inv ls) {x:Ln} (hx:x.li≠0→x.Good):Inv (setL ls x) :=
 ⟨fun y hy=>by
         rcases (setL_mem_iff h.sorted x y).1 hy with ⟨a,_⟩ | ⟨rfl,b⟩; · exact h.good y a
         ·exact hx b,setL_sorted h.sorted x⟩
theorem line_iff {ls:List Ln} (h:Inv ls) (a b c:Int) (y:Ln):lineL ls a b c=some y↔y ∈ ls∧y.cr=a∧y.de=b∧y.cu=c:=by
 constructor
 ·exact lineL_mem
 ·rintro ⟨hm,h1,h2,h3⟩
  rcases at_cases ls a b c with ⟨k,hk,_,hl,his⟩ | ⟨_,_,hn⟩
  ·rw [hl]
   congr 1
   obtain ⟨e1,e2,e3⟩:=is_iff.1 his
   have hr:ls[k].rank=y.rank:=rank_of (e1.trans h1.symm) (e2.trans h2.symm) (e3.trans h3.symm)
   obtain ⟨j,hj,rfl⟩:=List.getElem_of_mem hm
   rcases Nat.lt_trichotomy k j with hkj | rfl | hkj
   ·have:=List.pairwise_iff_getElem.1 h.sorted k j hk hj hkj; omega
   ·rfl
   ·have:=List.pairwise_iff_getElem.1 h.sorted j k hj hk hkj; omega
  ·have:=hn y hm
   rw [is_iff.2 ⟨h1,h2,h3⟩] at this
   cases this
theorem line_none {ls:List Ln} (a b c:Int):lineL ls a b c=none↔∀ y ∈ ls,¬ (y.cr=a∧y.de=b∧y.cu=c):=by
 rcases at_cases ls a b c with ⟨k,hk,_,hl,his⟩ | ⟨_,hl,hn⟩
 ·rw [hl]
  constructor
  ·intro h; cases h
  ·intro h; exact absurd (is_iff.1 his) (h _ (List.getElem_mem hk))
 ·rw [hl]
  refine ⟨fun _ y hy k=>?_,fun _=>rfl⟩
  have:=hn y hy
  rw [is_iff.2 k] at this
  cases this
theorem line_set {ls:List Ln} (h:Inv ls) {x:Ln} (hx:x.li≠0→x.Good) (hf:x.Fits) (a b c:Int) :
  lineL (setL ls x) a b c=if x.cr=a∧x.de=b∧x.cu=c then (if x.li=0 then none else some x) else lineL ls a b c:=by
 have h2:=h.set hx
 by_cases hk:x.cr=a∧x.de=b∧x.cu=c
 ·rw [if_pos hk]
  by_cases h0:x.li=0
  ·rw [if_pos h0,line_none]
   intro y hy ⟨e1,e2,e3⟩
   rcases (setL_mem_iff h.sorted x y).1 hy with ⟨_,hn⟩ | ⟨_,hn⟩
   ·exact hn (rank_of (e1.trans hk.1.symm) (e2.trans hk.2.1.symm) (e3.trans hk.2.2.symm))
   ·exact hn h0
  ·rw [if_neg h0,line_iff h2]
   exact ⟨(setL_mem_iff h.sorted x x).2 (.inr ⟨rfl,h0⟩),hk⟩
 ·rw [if_neg hk]
  cases hl:lineL ls a b c with
  | none =>
   rw [line_none] at hl ⊢
   intro y hy e
   rcases (setL_mem_iff h.sorted x y).1 hy with ⟨hm,_⟩ | ⟨rfl,_⟩
   ·exact hl y hm e
   ·exact hk e
  | some y =>
   rw [line_iff h] at hl
   rw [line_iff h2]
   refine ⟨(setL_mem_iff h.sorted x y).2 (.inl ⟨hl.1,?_⟩),hl.2⟩
   intro hr
   obtain ⟨e1,e2,e3⟩:=rank_inj (h.good y hl.1).fits hf hr
   exact hk ⟨e1.symm.trans hl.2.1,e2.symm.trans hl.2.2.1,e3.symm.trans hl.2.2.2⟩
theorem sum_set {ls:List Ln} (h:Inv ls) {x:Ln} (hf:x.Fits) (f:Ln→Int) (h0:f noLn=0) :
  ((setL ls x).map f).sum=(ls.map f).sum - f (lnAt ls x.cr x.de x.cu) + (if x.li=0 then 0 else f x):=by
 have e1:((setL ls x).map f).sum=((loL x.rank ls).map f).sum + ((if x.li=0 then 0 else f x) + ((hiL x.rank ls).map f).sum):=by
  rw [setL_eq h.sorted,List.map_append,List.map_append,List.sum_append,List.sum_append]
  split <;> simp
 have e2:(ls.map f).sum=((loL x.rank ls).map f).sum + (((eqL x.rank ls).map f).sum + ((hiL x.rank ls).map f).sum):=by
  have hsp:=split_sorted x.rank ls h.sorted
  calc (ls.map f).sum=((loL x.rank ls++(eqL x.rank ls++hiL x.rank ls)).map f).sum:=by rw [← hsp]
   _=_:=by rw [List.map_append,List.map_append,List.sum_append,List.sum_append]
 have e3:((eqL x.rank ls).map f).sum=f (lnAt ls x.cr x.de x.cu):=by
  unfold lnAt
  cases hl:lineL ls x.cr x.de x.cu with
  | none =>
   have hn:eqL x.rank ls=[]:=by
    unfold eqL
    rw [List.filter_eq_nil_iff]
    intro y hy
    have h1:=(line_none (ls:=ls) x.cr x.de x.cu).1 hl y hy
    intro hr
    exact h1 (rank_inj (h.good y hy).fits hf (by simpa using hr))
   rw [hn]; simp [h0]
  | some y =>
   obtain ⟨hm,k1,k2,k3⟩:=(line_iff h x.cr x.de x.cu y).1 hl
   have hy:y.rank=x.rank:=rank_of k1 k2 k3
   have hmem:y ∈ eqL x.rank ls:=by unfold eqL; exact List.mem_filter.2 ⟨hm,by simpa using hy⟩
   have hp:(eqL x.rank ls).Pairwise fun x y=>x.rank<y.rank:=by unfold eqL; exact List.Pairwise.filter _ h.sorted
   have hall:∀ z ∈ eqL x.rank ls,z.rank=x.rank:=fun z hz=>by unfold eqL at hz; simpa using (List.mem_filter.1 hz).2
   generalize eqL x.rank ls=B at *
   match B,hmem,hp,hall with
   | [z],hmem,_,_=>rw [List.mem_singleton] at hmem; subst hmem; simp
   | z::u::r,_,hp,hall =>
    have a1:=hall z (by simp)
    have a2:=hall u (by simp)
    have a3:=(List.pairwise_cons.1 hp).1 u (by simp)
    omega
 omega
end Go.Proofs.YtngnfdnfpiiclaaGreat
namespace Go.Proofs.YtngnfdnfpiiclaaGreat
open Go.RowKit
theorem sorted_ext:∀ (l m:List Ln),l.Pairwise (fun x y=>x.rank<y.rank)→m.Pairwise (fun x y=>x.rank<y.rank)→(∀ x,x ∈ l↔x ∈ m)→l=m
 | [],[],_,_,_=>rfl
 | [],y::m,_,_,h=>absurd ((h y).2 (by simp)) (by simp)
 | x::l,[],_,_,h=>absurd ((h x).1 (by simp)) (by simp)
 | x::l,y::m,h1,h2,h=>by
  rw [List.pairwise_cons] at h1 h2
  have exy:x=y:=by
   have a:=(h x).1 (by simp)
   have b:=(h y).2 (by simp)
   rcases List.mem_cons.1 a with a | a
   ·exact a
   ·rcases List.mem_cons.1 b with b | b
    ·exact b.symm
    ·have c:=h2.1 x a
     have d:=h1.1 y b
     omega
  subst exy
  congr 1
  refine sorted_ext l m h1.2 h2.2 fun z=>?_
  constructor
  ·intro hz
   rcases List.mem_cons.1 ((h z).1 (by simp [hz])) with e | e
   ·subst e; have:=h1.1 z hz; omega
   ·exact e
  ·intro hz
   rcases List.mem_cons.1 ((h z).2 (by simp [hz])) with e | e
   ·subst e; have:=h2.1 z hz; omega
   ·exact e
theorem Inv.ext {ls ms:List Ln} (h:Inv ls) (k:Inv ms) (e:∀ a b c,lineL ls a b c=lineL ms a b c):ls=ms:=by
 refine sorted_ext ls ms h.sorted k.sorted fun x=>?_
 constructor
 ·intro hx
  have:=(line_iff h x.cr x.de x.cu x).2 ⟨hx,rfl,rfl,rfl⟩
  rw [e] at this
  exact ((line_iff k _ _ _ _).1 this).1
 ·intro hx
  have:=(line_iff k x.cr x.de x.cu x).2 ⟨hx,rfl,rfl,rfl⟩
  rw [← e] at this
  exact ((line_iff h _ _ _ _).1 this).1
theorem lnAt_some {ls:List Ln} {a b c:Int} {x:Ln} (h:lineL ls a b c=some x):lnAt ls a b c=x:=by unfold lnAt; rw [h]; rfl
theorem lnAt_none {ls:List Ln} {a b c:Int} (h:lineL ls a b c=none):lnAt ls a b c=noLn:=by unfold lnAt; rw [h]; rfl
theorem owe_set {ls:List Ln} (h:Inv ls) {a b c d:Int} {x:Ln} (hx:lineL ls a b c=some x) (h0:0≤d) (h1:d≤x.li) :
  Inv (setL ls (x.owe d))∧(∀ a' b' c',lineL (setL ls (x.owe d)) a' b' c'=if a=a'∧b=b'∧c=c' then some (x.owe d) else lineL ls a' b' c') ∧
   (∀ f:Ln→Int,f noLn=0→((setL ls (x.owe d)).map f).sum=(ls.map f).sum - f x + f (x.owe d))∧(setL ls (x.owe d)).length=ls.length:=by
 obtain ⟨hm,k1,k2,k3⟩:=(line_iff h a b c x).1 hx
 have hg:=h.good x hm
 have hg2:(x.owe d).Good:=⟨hg.cr,hg.de,hg.cu,hg.ne,hg.li,⟨h0,h1⟩⟩
 have hli:(x.owe d).li≠0:=by have:=hg.li; show x.li≠0; omega
 refine ⟨h.set (fun _=>hg2),fun a' b' c'=>?_,fun f hf=>?_,?_⟩
 ·rw [line_set h (fun _=>hg2) hg2.fits a' b' c',if_neg hli]
  show (if x.cr=a'∧x.de=b'∧x.cu=c' then _ else _)=_
  rw [k1,k2,k3]
 ·rw [sum_set h hg2.fits f hf,if_neg hli]
  congr 2
  show f (lnAt ls x.cr x.de x.cu)=f x
  rw [k1,k2,k3,lnAt_some hx]
 ·have h2:((setL ls (x.owe d)).map fun _=>(1:Int)).sum=(ls.map fun _=>(1:Int)).sum:=by
   have e1:((setL ls (x.owe d)).map fun y:Ln=>if y=noLn then (0:Int) else 1).sum=(ls.map fun y:Ln=>if y=noLn then (0:Int) else 1).sum:=by
    rw [sum_set h hg2.fits (fun y=>if y=noLn then (0:Int) else 1) (by simp),if_neg hli]
    show _ - (if lnAt ls x.cr x.de x.cu=noLn then (0:Int) else 1) + _=_
    rw [k1,k2,k3,lnAt_some hx]
    have n1:x≠noLn:=by rintro rfl; have:=hg.li; simp [noLn] at this
    have n2:x.owe d≠noLn:=by intro e; have:=congrArg Ln.li e; exact hli this
    rw [if_neg n1,if_neg n2]
    omega
   have e2:∀ l:List Ln,(∀ y ∈ l,y.Good)→(l.map fun y:Ln=>if y=noLn then (0:Int) else 1)=l.map fun _=>(1:Int):=by
    intro l hl
    refine List.map_congr_left fun y hy=>?_
    have n1:y≠noLn:=by rintro rfl; have:=(hl _ hy).li; simp [noLn] at this
    rw [if_neg n1]
   rw [e2 _ (h.set (fun _=>hg2)).good,e2 _ h.good] at e1
   exact e1
  have e3:∀ l:List Ln,(l.map fun _=>(1:Int)).sum=(l.length:Int):=by
   intro l
   induction l with
   | nil=>rfl
   | cons y r ih=>simp only [List.map_cons,List.sum_cons,List.length_cons,ih]; omega
  rw [e3,e3] at h2
  omega
theorem push_done {ls:List Ln} (h:Inv ls) {a b c n:Int} (hab:a≠b) (h1:1≤n) (hr:n≤(lnAt ls a b c).db + (lnAt ls b a c).li - (lnAt ls b a c).db) :
  Inv (pushTo ls a b c n)∧(pushTo ls a b c n).length=ls.length ∧
  (∀ a' b' c',lineL (pushTo ls a b c n) a' b' c'=if a=a'∧b=b'∧c=c' then (lineL ls a b c).map (fun x=>x.owe (x.db - min n x.db)) else if b=a'∧a=b'∧c=c' then (lineL ls b a c).map (fun y=>y.owe (y.db + (n - min n (lnAt ls a b c).db))) else lineL ls a' b' c') ∧
  (∀ f:Ln→Int,f noLn=0→((pushTo ls a b c n).map f).sum=(ls.map f).sum - f (lnAt ls a b c) + f ((lnAt ls a b c).owe ((lnAt ls a b c).db - min n (lnAt ls a b c).db)) - f (lnAt ls b a c) + f ((lnAt ls b a c).owe ((lnAt ls b a c).db + (n - min n (lnAt ls a b c).db)))):=by
 have bx:=lnAt_bd h.good a b c
 have by':=lnAt_bd h.good b a c
 have hown:noLn.owe 0=noLn:=rfl
 -- the first part
 obtain ⟨i1,l1,s1,n1⟩:Inv (push1 ls a b c n)∧(∀ a' b' c',lineL (push1 ls a b c n) a' b' c'=if a=a'∧b=b'∧c=c' then (lineL ls a b c).map (fun x=>x.owe (x.db - min n x.db)) else lineL ls a' b' c') ∧
   (∀ f:Ln→Int,f noLn=0→((push1 ls a b c n).map f).sum=(ls.map f).sum - f (lnAt ls a b c) + f ((lnAt ls a b c).owe ((lnAt ls a b c).db - min n (lnAt ls a b c).db)))∧(push1 ls a b c n).length=ls.length:=by
  unfold push1
  cases hl:lineL ls a b c with
  | none =>
   rw [if_neg (by simp),lnAt_none hl]
   refine ⟨h,fun a' b' c'=>?_,fun f hf=>?_,rfl⟩
   ·by_cases e:a=a'∧b=b'∧c=c'
    ·rw [if_pos e]; obtain ⟨rfl,rfl,rfl⟩:=e; rw [hl]; rfl
    ·rw [if_neg e]
   ·rw [show noLn.owe (noLn.db - min n noLn.db)=noLn by unfold Ln.owe noLn; simp; omega,hf]; omega
  | some x =>
   simp only [Option.isSome_some,if_true]
   rw [lnAt_some hl]
   rw [lnAt_some hl] at bx
   obtain ⟨q1,q2,q3,q4⟩:=owe_set h hl (d:=x.db - min n x.db) (by omega) (by omega)
   exact ⟨q1,q2,q3,q4⟩
 have e2:push2 ls a b c n=n - min n (lnAt ls a b c).db:=by
  unfold push2
  cases hl:lineL ls a b c with
  | none=>rw [if_neg (by simp),lnAt_none hl]; simp [noLn]; omega
  | some x=>simp only [Option.isSome_some,if_true]
 have hy1:lineL (push1 ls a b c n) b a c=lineL ls b a c:=by rw [l1,if_neg (by omega)]
 have hyA:lnAt (push1 ls a b c n) b a c=lnAt ls b a c:=by unfold lnAt; rw [hy1]
 unfold pushTo
 rw [e2,hyA]
 by_cases hp:0<n - min n (lnAt ls a b c).db
 ·rw [if_pos hp]
  have hex:∃ y,lineL ls b a c=some y:=by
   cases hl:lineL ls b a c with
   | none=>rw [lnAt_none hl] at by' hr; simp [noLn] at hr; omega
   | some y=>exact ⟨y,rfl⟩
  obtain ⟨y,hy⟩:=hex
  rw [lnAt_some hy] at by' hr ⊢
  obtain ⟨q1,q2,q3,q4⟩:=owe_set i1 (hy1.trans hy) (d:=y.db + (n - min n (lnAt ls a b c).db)) (by omega) (by omega)
  refine ⟨q1,q4.trans n1,fun a' b' c'=>?_,fun f hf=>?_⟩
  ·rw [q2]
   by_cases e:b=a'∧a=b'∧c=c'
   ·rw [if_pos e,if_neg (by omega),if_pos e,hy]; rfl
   ·rw [if_neg e,l1,if_neg e]
  ·rw [q3 f hf,s1 f hf]
 ·rw [if_neg hp]
  have hz:n - min n (lnAt ls a b c).db=0:=by omega
  rw [hz]
  refine ⟨i1,n1,fun a' b' c'=>?_,fun f hf=>?_⟩
  ·rw [l1]
   by_cases e:a=a'∧b=b'∧c=c'
   ·rw [if_pos e,if_pos e]
   ·rw [if_neg e,if_neg e]
    by_cases e':b=a'∧a=b'∧c=c'
    ·rw [if_pos e']
     obtain ⟨rfl,rfl,rfl⟩:=e'
     cases lineL ls b a c with
     | none=>rfl
     | some y=>simp [Ln.owe]
    ·rw [if_neg e']
  ·rw [s1 f hf]
   rw [show (lnAt ls b a c).owe ((lnAt ls b a c).db + 0)=lnAt ls b a c by unfold Ln.owe; simp]
   omega
end Go.Proofs.YtngnfdnfpiiclaaGreat
namespace Go.Proofs.YtngnfdnfpiiclaaGreat
open Go.RowKit
theorem map_at {o:Option Ln} {d:Ln→Int} (h:o=none→d noLn=0):((o.map fun x=>x.owe (d x)).getD noLn)=(o.getD noLn).owe (d (o.getD noLn)):=by
 cases o with
 | none=>simp only [Option.map_none,Option.getD_none]; rw [h rfl]; rfl
 | some x=>rfl
theorem push_at {ls:List Ln} (h:Inv ls) {a b c n:Int} (hab:a≠b) (h1:1≤n) (hr:n≤(lnAt ls a b c).db + (lnAt ls b a c).li - (lnAt ls b a c).db) :
  lnAt (pushTo ls a b c n) a b c=(lnAt ls a b c).owe ((lnAt ls a b c).db - min n (lnAt ls a b c).db)∧lnAt (pushTo ls a b c n) b a c=(lnAt ls b a c).owe ((lnAt ls b a c).db + (n - min n (lnAt ls a b c).db)):=by
 obtain ⟨_,_,hl,_⟩:=push_done h hab h1 hr
 have bx:=lnAt_bd h.good a b c
 have by':=lnAt_bd h.good b a c
 constructor
 ·show (lineL (pushTo ls a b c n) a b c).getD noLn=_
  rw [hl,if_pos ⟨rfl,rfl,rfl⟩]
  exact map_at (o:=lineL ls a b c) (d:=fun x=>x.db - min n x.db) (fun _=>by simp [noLn]; omega)
 ·show (lineL (pushTo ls a b c n) b a c).getD noLn=_
  rw [hl,if_neg (by omega),if_pos ⟨rfl,rfl,rfl⟩]
  refine map_at (o:=lineL ls b a c) (d:=fun y=>y.db + (n - min n (lnAt ls a b c).db)) (fun hn=>?_)
  rw [lnAt_none hn] at hr
  simp [noLn] at hr ⊢
  omega
theorem push_room {ps:List Int} {ls:List Ln} (h:Inv ls) {a b c n:Int} (h1:1≤n) (hr:n≤roomL ps ls a b c) :
  roomL ps (pushTo ls a b c n) a b c=roomL ps ls a b c - n∧roomL ps (pushTo ls a b c n) b a c=roomL ps ls b a c + n:=by
 have hz:¬ (a=b∨a ∉ ps∨b ∉ ps):=by
  intro hz
  unfold roomL at hr
  rw [if_pos hz] at hr
  omega
 have hz2:¬ (b=a∨b ∉ ps∨a ∉ ps):=by
  intro k
  refine hz ?_
  rcases k with k | k | k
  ·exact .inl k.symm
  ·exact .inr (.inr k)
  ·exact .inr (.inl k)
 have hr':n≤(lnAt ls a b c).db + (lnAt ls b a c).li - (lnAt ls b a c).db:=by unfold roomL at hr; rwa [if_neg hz] at hr
 obtain ⟨e1,e2⟩:=push_at h (fun k=>hz (.inl k)) h1 hr'
 unfold roomL
 rw [if_neg hz,if_neg hz,if_neg hz2,if_neg hz2,e1,e2]
 simp only [Ln.owe]
 constructor <;> omega
theorem posOf_noLn (p c:Int):posOf p c noLn=0:=by unfold posOf noLn; simp
theorem posOf_owe {ls:List Ln} (h:Inv ls) (a b c d p:Int) (hab:a≠b) (hd:lineL ls a b c=none→d=0) :
  posOf p c ((lnAt ls a b c).owe d)=posOf p c (lnAt ls a b c) + (if p=a then d - (lnAt ls a b c).db else 0) - (if p=b then d - (lnAt ls a b c).db else 0):=by
 cases hl:lineL ls a b c with
 | none =>
  rw [lnAt_none hl,hd hl,show noLn.owe 0=noLn from rfl,posOf_noLn]
  simp [noLn]
 | some x =>
  obtain ⟨_,k1,k2,k3⟩:=lineL_mem hl
  rw [lnAt_some hl]
  unfold posOf Ln.owe
  simp only [k1,k2,k3]
  by_cases e1:p=a
  ·have e2:¬ p=b:=by omega
   simp [e1,e2,Ne.symm (show b≠a by omega)]
   have:¬ a=b:=hab
   simp [this,Ne.symm hab]
   try omega
  ·by_cases e2:p=b
   ·simp [e2,hab,Ne.symm hab]; omega
   ·simp [e1,e2,Ne.symm e1,Ne.symm e2,show ¬ a=p by omega,show ¬ b=p by omega]
theorem push_pos {ps:List Int} {ls:List Ln} (h:Inv ls) {a b c n:Int} (h1:1≤n) (hr:n≤roomL ps ls a b c) (p:Int) :
  posL (pushTo ls a b c n) p c=posL ls p c - (if p=a then n else 0) + (if p=b then n else 0):=by
 have hz:¬ (a=b∨a ∉ ps∨b ∉ ps):=by
  intro hz
  unfold roomL at hr
  rw [if_pos hz] at hr
  omega
 have hab:a≠b:=fun k=>hz (.inl k)
 have hr':n≤(lnAt ls a b c).db + (lnAt ls b a c).li - (lnAt ls b a c).db:=by unfold roomL at hr; rwa [if_neg hz] at hr
 obtain ⟨_,_,_,hs⟩:=push_done h hab h1 hr'
 unfold posL
 rw [hs (posOf p c) (posOf_noLn p c)]
 have bx:=lnAt_bd h.good a b c
 rw [posOf_owe h a b c _ p hab (fun k=>by rw [lnAt_none k]; simp [noLn]; omega),posOf_owe h b a c _ p (Ne.symm hab) (fun k=>by rw [lnAt_none k] at hr' ⊢; simp [noLn] at hr' ⊢; omega)]
 by_cases e1:p=a
 ·have e2:¬ p=b:=by omega
  rw [if_pos e1,if_neg e2,if_neg e2,if_pos e1,if_pos e1,if_neg e2]
  omega
 ·by_cases e2:p=b
  ·rw [if_neg e1,if_pos e2,if_pos e2,if_neg e1,if_neg e1,if_pos e2]
   omega
  ·rw [if_neg e1,if_neg e2,if_neg e2,if_neg e1,if_neg e1,if_neg e2]
   omega
structure LInv (ps:List Int) (ls:List Ln):Prop where
 inv:Inv ls
 len:ls.length≤64
 ends:∀ x ∈ ls,x.cr ∈ ps∧x.de ∈ ps
 bd:∀ p ∈ ps,1≤p∧p≤16
 rise:ps.Pairwise (·<·)
theorem LInv.nil:LInv [] []:=⟨Inv.nil,by simp,by simp,by simp,List.Pairwise.nil⟩
theorem setL_len_there {ls:List Ln} (h:Inv ls) (x:Ln) {y:Ln} (hy:y ∈ ls) (hr:y.rank=x.rank):(setL ls x).length≤ls.length:=by
 have hsp:=split_sorted x.rank ls h.sorted
 have hm:y ∈ eqL x.rank ls:=by unfold eqL; exact List.mem_filter.2 ⟨hy,by simpa using hr⟩
 have h1:1≤(eqL x.rank ls).length:=List.length_pos_of_mem hm
 have h2:=congrArg List.length hsp
 rw [List.length_append,List.length_append] at h2
 rw [setL_eq h.sorted,List.length_append,List.length_append]
 split <;> simp <;> omega
theorem LInv.push {ps:List Int} {ls:List Ln} (h:LInv ps ls) (a b c n:Int):LInv ps (pushL ps ls a b c n):=by
 unfold pushL
 by_cases he:pushE ps ls a b c n=0
 ·rw [if_pos he]
  have h1:1≤n∧n≤roomL ps ls a b c:=by unfold pushE at he; (repeat' split at he) <;> omega
  have hz:¬ (a=b∨a ∉ ps∨b ∉ ps):=by
   intro hz
   unfold roomL at h1
   rw [if_pos hz] at h1
   omega
  have hr':n≤(lnAt ls a b c).db + (lnAt ls b a c).li - (lnAt ls b a c).db:=by unfold roomL at h1; rw [if_neg hz] at h1; exact h1.2
  obtain ⟨i,l,f,_⟩:=push_done h.inv (fun k=>hz (.inl k)) h1.1 hr'
  refine ⟨i,by rw [l]; exact h.len,fun x hx=>?_,h.bd,h.rise⟩
  have hx2:=(line_iff i x.cr x.de x.cu x).2 ⟨hx,rfl,rfl,rfl⟩
  rw [f] at hx2
  have ha:a ∈ ps:=Classical.byContradiction fun k=>hz (.inr (.inl k))
  have hb:b ∈ ps:=Classical.byContradiction fun k=>hz (.inr (.inr k))
  split at hx2
  ·rename_i k; rw [← k.1,← k.2.1]; exact ⟨ha,hb⟩
  ·split at hx2
   ·rename_i k; rw [← k.1,← k.2.1]; exact ⟨hb,ha⟩
   ·exact h.ends x (lineL_mem hx2).1
 ·rw [if_neg he]; exact h
theorem LInv.forgive {ps:List Int} {ls:List Ln} (h:LInv ps ls) (a b c n:Int):LInv ps (forgiveL ls a b c n):=by
 unfold forgiveL
 by_cases he:forgiveE ls a b c n=0
 ·rw [if_pos he]
  unfold forgiveE at he
  cases hl:lineL ls a b c with
  | none=>rw [hl] at he; (repeat' split at he) <;> simp_all
  | some x =>
   rw [lnAt_some hl] at he ⊢
   have h1:1≤n∧n≤x.db:=by (repeat' split at he) <;> omega
   have hg:=h.inv.good x (lineL_mem hl).1
   have hdb:=hg.db
   obtain ⟨i,f,_,l⟩:=owe_set h.inv hl (d:=x.db - n) (by omega) (by omega)
   refine ⟨i,by rw [l]; exact h.len,fun y hy=>?_,h.bd,h.rise⟩
   have hy2:=(line_iff i y.cr y.de y.cu y).2 ⟨hy,rfl,rfl,rfl⟩
   rw [f] at hy2
   split at hy2
   ·rename_i k
    obtain ⟨m,k1,k2,_⟩:=lineL_mem hl
    have:=h.ends x m
    rw [← k.1,← k.2.1,← k1,← k2]; exact this
   ·exact h.ends y (lineL_mem hy2).1
 ·rw [if_neg he]; exact h
theorem LInv.trust {ps:List Int} {ls:List Ln} (h:LInv ps ls) (a b c n:Int):LInv ps (trustL ps ls a b c n):=by
 unfold trustL
 by_cases he:trustE ps ls a b c n=0
 ·rw [if_pos he]
  have hs:¬ (a<1∨16<a∨b<1∨16<b∨c<1∨8<c∨a=b∨n<0∨1099511627776<n)∧¬ (a ∉ ps∨b ∉ ps)∧¬ n<(lnAt ls a b c).db∧¬ (lineL ls a b c=none∧0<n∧64≤ls.length):=by
   unfold trustE at he
   split at he
   ·omega
   ·split at he
    ·omega
    ·split at he
     ·omega
     ·split at he
      ·omega
      ·rename_i k1 k2 k3 k4; exact ⟨k1,k2,k3,k4⟩
  obtain ⟨k1,k2,k3,k4⟩:=hs
  have bx:=lnAt_bd h.inv.good a b c
  have hg:(⟨a,b,c,n,(lnAt ls a b c).db⟩:Ln).li≠0→(⟨a,b,c,n,(lnAt ls a b c).db⟩:Ln).Good:=fun hn=>by
   have hn':n≠0:=hn
   refine ⟨⟨?_,?_⟩,⟨?_,?_⟩,⟨?_,?_⟩,?_,⟨?_,?_⟩,⟨?_,?_⟩⟩ <;> simp only <;> omega
  have hf:(⟨a,b,c,n,(lnAt ls a b c).db⟩:Ln).Fits:=fits_mk ⟨by omega,by omega⟩ ⟨by omega,by omega⟩ ⟨by omega,by omega⟩ ⟨by omega,by omega⟩ ⟨by omega,by omega⟩
  refine ⟨h.inv.set hg,?_,fun y hy=>?_,h.bd,h.rise⟩
  ·cases hl:lineL ls a b c with
   | none =>
    by_cases hn:0<n
    ·have h1:ls.length<64:=Nat.lt_of_not_le fun k=>k4 ⟨hl,hn,k⟩
     have h2:=setL_len ls ⟨a,b,c,n,(lnAt ls a b c).db⟩
     omega
    ·have h0:n=0:=by omega
     have h2:=congrArg List.length (split_sorted (⟨a,b,c,n,(lnAt ls a b c).db⟩:Ln).rank ls h.inv.sorted)
     have h3:=h.len
     rw [List.length_append,List.length_append] at h2
     rw [setL_eq h.inv.sorted,List.length_append,List.length_append,if_pos (show (⟨a,b,c,n,(lnAt ls a b c).db⟩:Ln).li=0 from h0)]
     simp only [List.length_nil]
     omega
   | some x =>
    obtain ⟨m,e1,e2,e3⟩:=lineL_mem hl
    exact Nat.le_trans (setL_len_there h.inv _ m (rank_of e1 e2 e3)) h.len
  ·rcases (setL_mem_iff h.inv.sorted _ y).1 hy with ⟨m,_⟩ | ⟨rfl,_⟩
   ·exact h.ends y m
   ·exact ⟨Classical.byContradiction fun k=>k2 (.inl k),Classical.byContradiction fun k=>k2 (.inr k)⟩
 ·rw [if_neg he]; exact h
end Go.Proofs.YtngnfdnfpiiclaaGreat
namespace Go.Proofs.YtngnfdnfpiiclaaGreat
open Go.RowKit
theorem openTo_mem {ps:List Int} {p q:Int}:q ∈ openTo ps p 17↔(1≤q∧q≤16)∧(q=p∨q ∈ ps):=by
 unfold openTo
 rw [List.mem_filter,List.mem_map]
 constructor
 ·rintro ⟨⟨i,hi,rfl⟩,h⟩
  rw [List.mem_range] at hi
  simp at h
  exact ⟨⟨by omega,by omega⟩,h⟩
 ·rintro ⟨⟨h1,h2⟩,h⟩
  refine ⟨⟨q.toNat - 1,List.mem_range.2 (by omega),by omega⟩,by simpa using h⟩
theorem openTo_rise (ps:List Int) (p:Int) (k:Nat):(openTo ps p k).Pairwise (·<·):=by
 unfold openTo
 refine List.Pairwise.filter _ (List.pairwise_map.2 ?_)
 exact (List.pairwise_lt_range).imp fun {a b} h=>by omega
theorem rise_ext:∀ (l m:List Int),l.Pairwise (·<·)→m.Pairwise (·<·)→(∀ x,x ∈ l↔x ∈ m)→l=m
 | [],[],_,_,_=>rfl
 | [],y::m,_,_,h=>by have:=(h y).2 (by simp); cases this
 | x::l,[],_,_,h=>by have:=(h x).1 (by simp); cases this
 | x::l,y::m,hl,hm,h=>by
  rw [List.pairwise_cons] at hl hm
  have hxy:x=y:=by
   have h1:=(h x).1 (by simp)
   have h2:=(h y).2 (by simp)
   rcases List.mem_cons.1 h1 with h1 | h1
   ·exact h1
   ·rcases List.mem_cons.1 h2 with h2 | h2
    ·exact h2.symm
    ·have a:=hl.1 y h2
     have b:=hm.1 x h1
     omega
  subst hxy
  rw [rise_ext l m hl.2 hm.2 fun z=>?_]
  constructor
  ·intro hz
   have a:=hl.1 z hz
   rcases List.mem_cons.1 ((h z).1 (by simp [hz])) with e | e
   ·omega
   ·exact e
  ·intro hz
   have a:=hm.1 z hz
   rcases List.mem_cons.1 ((h z).2 (by simp [hz])) with e | e
   ·omega
   ·exact e
theorem LInv.open {ps:List Int} {ls:List Ln} (h:LInv ps ls) (p:Int):LInv (openP ps p) ls:=by
 unfold openP
 split
 ·exact h
 ·split
  ·exact h
  ·refine ⟨h.inv,h.len,fun x hx=>?_,fun q hq=>(openTo_mem.1 hq).1,openTo_rise _ _ _⟩
   obtain ⟨h1,h2⟩:=h.ends x hx
   exact ⟨openTo_mem.2 ⟨h.bd _ h1,.inr h1⟩,openTo_mem.2 ⟨h.bd _ h2,.inr h2⟩⟩
def limL (ls:List Ln):List Ln:=ls.map fun x=>x.owe 0
end Go.Proofs.YtngnfdnfpiiclaaGreat
