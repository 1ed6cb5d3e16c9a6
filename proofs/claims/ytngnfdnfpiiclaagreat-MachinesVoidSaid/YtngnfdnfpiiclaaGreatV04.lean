/-
  Pieces of one proof, without what is not wanted: FlowMath, BitArr.
-/
import Derived.Test.YtngnfdnfpiiclaaGreatV01
import Derived.Test.YtngnfdnfpiiclaaGreatV03
import Derived.Laws.Rows
import Derived.Laws.Tables
import Derived.Laws.CopyOwn
set_option linter.unusedSimpArgs false
set_option linter.unusedVariables false
namespace Go.Proofs.YtngnfdnfpiiclaaGreat
structure WayX (f:Int→Int→Int) (s t:Int) (x:Nat→Int) (m:Nat):Prop where
 x0:x 0=s
 xm:x m=t
 edge:∀ i,i<m→0<f (x i) (x (i + 1))
 ne:∀ i j,i<j→j≤m→x i≠x j
 inp:∀ i,i≤m→inP (x i)
 m1:1≤m
 m15:m≤15
 least:∀ k,wk f k s t→m≤k
def wayX (f:Int→Int→Int) (s t:Int) (i:Nat):Int:=(shortW f s t).getD i 0
theorem wayX_of {f:Int→Int→Int} {B:Int} (h:GInv f B) {s t:Int} (hne:shortW f s t≠[]):∃ m,(shortW f s t).length=m + 1∧WayX f s t (wayX f s t) m:=by
 unfold wayX
 unfold shortW at hne ⊢
 by_cases hc:inP s∧inP t∧s≠t∧inS f s 16 t=true
 ·rw [if_pos hc]
  obtain ⟨hs,ht,hst,hr⟩:=hc
  have hat:=goS_at h (dst f s t) s hs hr rfl
  have hlen:=goS_len f t (dst f s t) s
  obtain ⟨d1,d2,d3⟩:=dst_spec hr
  have hx:∀ i (hi:i<(goS f t (dst f s t) s).length),(goS f t (dst f s t) s).getD i 0=(goS f t (dst f s t) s)[i]:=fun i hi=>by
   rw [List.getD_eq_getElem?_getD,List.getElem?_eq_getElem hi]
   rfl
  have hm1:1≤dst f s t:=by
   rcases Nat.eq_zero_or_pos (dst f s t) with h0 | h0
   ·rw [h0] at d1
    exact absurd (beq_iff_eq.1 (show (t==s)=true from d1)).symm hst
   ·exact h0
  refine ⟨dst f s t,hlen,⟨?_,?_,fun i hi=>?_,fun i j hij hj=>?_,fun i hi=>?_,hm1,?_,fun k hk=>?_⟩⟩
  ·rw [hx 0 (by omega),goS_head]
  ·rw [hx _ (by omega)]
   exact goS_last h hs hr rfl
  ·rw [hx i (by omega),hx (i + 1) (by omega)]
   exact ((hat i (by omega)).2.2.2 (by omega)).1
  ·rw [hx i (by omega),hx j (by omega)]
   intro e
   have h1:=(hat i (by omega)).2.2.1
   have h2:=(hat j (by omega)).2.2.1
   rw [e] at h1
   omega
  ·rw [hx i (by omega)]
   exact (hat i (by omega)).1
  ·obtain ⟨m,hm,hw⟩:=(inS_iff h s 16 t).1 hr
   have:=inS_all h hw
   rcases Nat.lt_or_ge 15 (dst f s t) with hlt | hge
   ·rw [d3 15 hlt] at this; cases this
   ·exact hge
  ·rcases Nat.lt_or_ge k (dst f s t) with hlt | hge
   ·have:=(inS_iff h s k t).2 ⟨k,Nat.le_refl _,hk⟩
    rw [d3 k hlt] at this; cases this
   ·exact hge
 ·rw [if_neg hc] at hne
  exact absurd rfl hne
theorem way_none {f:Int→Int→Int} {B:Int} (h:GInv f B) {s t:Int} (hs:inP s) (ht:inP t) (hst:s≠t) (h0:shortW f s t=[]):∀ k,¬ wk f k s t:=by
 intro k hk
 unfold shortW at h0
 rw [if_pos ⟨hs,ht,hst,inS_mono (by omega) (inS_all h hk)⟩] at h0
 have:=goS_len f t (dst f s t) s
 rw [h0] at this
 simp at this
theorem pushF_ne {f:Int→Int→Int} {a b n p q:Int} (h1:¬ (p=b∧q=a)) (h2:¬ (p=a∧q=b)):pushF f a b n p q=f p q:=by
 unfold pushF
 rw [if_neg h1,if_neg h2]
theorem pushF_at {f:Int→Int→Int} {a b n:Int} (h:a≠b):pushF f a b n a b=f a b - n:=by
 unfold pushF
 rw [if_neg (fun e=>h e.1),if_pos ⟨rfl,rfl⟩]
def pushX (f:Int→Int→Int) (x:Nat→Int) (n:Int):Nat→(Int→Int→Int)
 | 0=>f
 | i + 1=>pushF (pushX f x n i) (x i) (x (i + 1)) n
def capX (f:Int→Int→Int) (x:Nat→Int) (n:Int):Nat→Int
 | 0=>n
 | i + 1=>min (capX f x n i) (f (x i) (x (i + 1)))
def flX (x:Nat→Int) (n:Int):Nat→List Fw
 | 0=>[]
 | i + 1=>flX x n i++[⟨x i,x (i + 1),n⟩]
theorem flX_len (x:Nat→Int) (n:Int):∀ i,(flX x n i).length=i
 | 0=>rfl
 | i + 1=>by show (flX x n i++[_]).length=_; rw [List.length_append,flX_len x n i]; rfl
theorem capX_le (f:Int→Int→Int) (x:Nat→Int) (n:Int):∀ i,capX f x n i≤n
 | 0=>Int.le_refl _
 | i + 1=>Int.le_trans (Int.min_le_left _ _) (capX_le f x n i)
theorem capX_edge (f:Int→Int→Int) (x:Nat→Int) (n:Int):∀ i j,j<i→capX f x n i≤f (x j) (x (j + 1))
 | i + 1,j,h=>by
  by_cases e:j=i
  ·subst e; exact Int.min_le_right _ _
  ·exact Int.le_trans (Int.min_le_left _ _) (capX_edge f x n i j (by omega))
theorem capX_pos {f:Int→Int→Int} {x:Nat→Int} {n:Int} (h0:1≤n):∀ i,(∀ j,j<i→0<f (x j) (x (j + 1)))→1≤capX f x n i
 | 0,_=>h0
 | i + 1,h=>by
  have h1:=capX_pos h0 i (fun j hj=>h j (by omega))
  have h2:=h i (by omega)
  show 1≤min _ _
  omega
theorem capX_is (f:Int→Int→Int) (x:Nat→Int) (n:Int):∀ i,capX f x n i=n∨∃ j,j<i∧capX f x n i=f (x j) (x (j + 1))
 | 0=>.inl rfl
 | i + 1=>by
  show min (capX f x n i) (f (x i) (x (i + 1)))=n∨∃ j,j<i + 1∧min (capX f x n i) (f (x i) (x (i + 1)))=f (x j) (x (j + 1))
  rcases Int.le_total (capX f x n i) (f (x i) (x (i + 1))) with h | h
  ·rw [Int.min_eq_left h]
   rcases capX_is f x n i with h1 | ⟨j,h1,h2⟩
   ·exact .inl h1
   ·exact .inr ⟨j,by omega,h2⟩
  ·rw [Int.min_eq_right h]
   exact .inr ⟨i,by omega,rfl⟩
variable {f:Int→Int→Int} {s t:Int} {x:Nat→Int} {m:Nat} {n:Int}
theorem pushX_ahead (h:WayX f s t x m):∀ i j,i≤j→j<m→pushX f x n i (x j) (x (j + 1))=f (x j) (x (j + 1))
 | 0,j,_,_=>rfl
 | i + 1,j,hij,hj=>by
  show pushF (pushX f x n i) (x i) (x (i + 1)) n (x j) (x (j + 1))=_
  rw [pushF_ne (fun e=>h.ne i (j + 1) (by omega) (by omega) e.2.symm) (fun e=>h.ne i j (by omega) (by omega) e.1.symm)]
  exact pushX_ahead h i j (by omega) hj
theorem pushX_behind (h:WayX f s t x m):∀ i j,j<i→i≤m→pushX f x n i (x j) (x (j + 1))=f (x j) (x (j + 1)) - n
 | i + 1,j,hj,hi=>by
  show pushF (pushX f x n i) (x i) (x (i + 1)) n (x j) (x (j + 1))=_
  by_cases e:j=i
  ·subst e
   rw [pushF_at (h.ne j (j + 1) (by omega) (by omega)),pushX_ahead h j j (Nat.le_refl _) (by omega)]
  ·rw [pushF_ne (fun e2=>h.ne j (i + 1) (by omega) (by omega) e2.1) (fun e2=>h.ne j i (by omega) (by omega) e2.1)]
   exact pushX_behind h i j (by omega) (by omega)
theorem pushX_inv {B:Int} (hI:GInv f B) (h:WayX f s t x m) (h1:1≤n) (h2:∀ j,j<m→n≤f (x j) (x (j + 1))):∀ i,i≤m→GInv (pushX f x n i) B
 | 0,_=>hI
 | i + 1,hi=>(pushX_inv hI h h1 h2 i (by omega)).push h1 (by rw [pushX_ahead h i i (Nat.le_refl _) (by omega)]; exact h2 i (by omega))
theorem pushX_edge (h1:0≤n):∀ i p q,0<pushX f x n i p q→0<f p q∨∃ j,j<i∧p=x (j + 1)∧q=x j
 | 0,p,q,h=>.inl h
 | i + 1,p,q,h=>by
  have h:0<pushF (pushX f x n i) (x i) (x (i + 1)) n p q:=h
  by_cases c1:p=x (i + 1)∧q=x i
  ·exact .inr ⟨i,by omega,c1⟩
  ·have h2:0<pushX f x n i p q:=by
    by_cases c2:p=x i∧q=x (i + 1)
    ·unfold pushF at h
     rw [if_neg c1,if_pos c2] at h
     rw [c2.1,c2.2]
     omega
    ·rw [pushF_ne c1 c2] at h
     exact h
   rcases pushX_edge h1 i p q h2 with h3 | ⟨j,h3,h4⟩
   ·exact .inl h3
   ·exact .inr ⟨j,by omega,h4⟩
def tightP (f:Int→Int→Int) (d:Int→Nat) (i:Nat):Bool:=decide (0<f (((i / 16:Nat):Int) + 1) (((i % 16:Nat):Int) + 1)) && (d (((i % 16:Nat):Int) + 1)==d (((i / 16:Nat):Int) + 1) + 1)
def tightN (f:Int→Int→Int) (d:Int→Nat):Nat:=(List.range 256).countP (tightP f d)
theorem tightN_le (f:Int→Int→Int) (d:Int→Nat):tightN f d≤256:=by
 have:=List.countP_le_length (p:=tightP f d) (l:=List.range 256)
 simpa [tightN] using this
theorem pair_ix {p q:Int} (hp:inP p) (hq:inP q):∃ i,i<256∧((i / 16:Nat):Int) + 1=p∧((i % 16:Nat):Int) + 1=q:=by
 unfold inP at hp hq
 refine ⟨(p.toNat - 1) * 16 + (q.toNat - 1),by omega,by omega,by omega⟩
theorem countP_less {p q:Nat→Bool} {l:List Nat} (h:∀ x ∈ l,p x=true→q x=true) {k:Nat} (hk:k ∈ l) (h1:q k=true) (h2:p k=false):l.countP p<l.countP q:=by
 obtain ⟨a,b,rfl⟩:=List.append_of_mem hk
 have ha:=List.countP_mono_left (l:=a) (p:=p) (q:=q) (fun x hx=>h x (by simp [hx]))
 have hb:=List.countP_mono_left (l:=b) (p:=p) (q:=q) (fun x hx=>h x (by simp [hx]))
 rw [List.countP_append,List.countP_append,List.countP_cons_of_pos h1,List.countP_cons_of_neg (by simp [h2])]
 omega
structure Lab (f:Int→Int→Int) (s t:Int) (d:Int→Nat):Prop where
 s0:d s=0
 t16:d t≤16
 le:∀ u v,0<f u v→d v≤d u + 1
theorem Lab.way {d:Int→Nat} (h:Lab f s t d) (hw:WayX f s t x m):∀ i,i≤m→d (x i)≤i
 | 0,_=>by rw [hw.x0,h.s0]; exact Nat.le_refl _
 | i + 1,hi=>by
  have h1:=h.way hw i (by omega)
  have h2:=h.le _ _ (hw.edge i (by omega))
  omega
theorem Lab.rest {d:Int→Nat} (h:Lab f s t d) (hw:WayX f s t x m):∀ k,k≤m→d (x m)≤d (x (m - k)) + k
 | 0,_=>Nat.le_refl _
 | k + 1,hk=>by
  have h1:=h.rest hw k (by omega)
  have h2:=h.le _ _ (hw.edge (m - (k + 1)) (by omega))
  rw [show m - (k + 1) + 1=m - k by omega] at h2
  omega
def dstL (f:Int→Int→Int) (s v:Int):Nat:=if inS f s 16 v=true then dst f s v else 16
theorem dst_lab {B:Int} (hI:GInv f B) (hw:WayX f s t x m):Lab f s t (dstL f s)∧dstL f s t=m:=by
 have hdl:∀ v,dstL f s v≤16:=fun v=>by
  unfold dstL
  split
  ·rename_i hv; exact (dst_spec hv).2.1
  ·exact Nat.le_refl _
 refine ⟨⟨?_,hdl t,fun u v huv=>?_⟩,?_⟩
 ·have h0:inS f s 0 s=true:=by show (s==s)=true; simp
  unfold dstL
  rw [if_pos (inS_mono (by omega) h0)]
  exact dst_eq (by omega) h0 (fun k hk=>by omega)
 ·by_cases hu:inS f s 16 u=true
  ·obtain ⟨d1,d2,d3⟩:=dst_spec hu
   obtain ⟨k,k1,k2⟩:=(inS_iff hI s _ u).1 d1
   have hv:wk f (k + 1) s v:=wk_add k2 (wk_one huv)
   have hv2:=inS_mono (m:=16) (by omega) (inS_all hI hv)
   obtain ⟨e1,e2,e3⟩:=dst_spec hv2
   unfold dstL
   rw [if_pos hu,if_pos hv2]
   rcases Nat.lt_or_ge (dst f s u + 1) (dst f s v) with hlt | hge
   ·have:=e3 _ hlt
    rw [(inS_iff hI s _ v).2 ⟨k + 1,by omega,hv⟩] at this
    cases this
   ·exact hge
  ·have:dstL f s u=16:=by unfold dstL; rw [if_neg hu]
   rw [this]
   have:=hdl v
   omega
 ·have hwk:∀ i,i≤m→wk f i s (x i):=by
   intro i
   induction i with
   | zero=>intro _; exact hw.x0.symm
   | succ i ih=>intro hi; exact wk_add (ih (by omega)) (wk_one (hw.edge i (by omega)))
  have hm:=hwk m (Nat.le_refl _)
  rw [hw.xm] at hm
  have hin:inS f s m t=true:=(inS_iff hI s m t).2 ⟨m,Nat.le_refl _,hm⟩
  have h15:=hw.m15
  unfold dstL
  rw [if_pos (inS_mono (by omega) hin)]
  refine dst_eq (by omega) hin fun k hk=>?_
  cases hc:inS f s k t with
  | false=>rfl
  | true =>
   obtain ⟨j,j1,j2⟩:=(inS_iff hI s k t).1 hc
   have:=hw.least j j2
   omega
theorem Lab.push {B:Int} (hI:GInv f B) {d:Int→Nat} (h:Lab f s t d) (hw:WayX f s t x m) (hd:∀ i,i≤m→d (x i)=i) (h1:1≤n) (h2:∀ j,j<m→n≤f (x j) (x (j + 1))) (h3:∃ j,j<m∧n=f (x j) (x (j + 1))) :
  Lab (pushX f x n m) s t d∧tightN (pushX f x n m) d + 1≤tightN f d:=by
 refine ⟨⟨h.s0,h.t16,fun u v huv=>?_⟩,?_⟩
 ·rcases pushX_edge (by omega) m u v huv with q | ⟨j,j1,rfl,rfl⟩
  ·exact h.le u v q
  ·rw [hd j (by omega),hd (j + 1) (by omega)]
   omega
 ·obtain ⟨j,j1,j2⟩:=h3
  obtain ⟨k,k1,k2,k3⟩:=pair_ix (hw.inp j (by omega)) (hw.inp (j + 1) (by omega))
  refine countP_less (fun i hi hp=>?_) (List.mem_range.2 k1) ?_ ?_
  ·unfold tightP at hp ⊢
   rw [Bool.and_eq_true,decide_eq_true_eq,beq_iff_eq] at hp ⊢
   obtain ⟨p1,p2⟩:=hp
   refine ⟨?_,p2⟩
   rcases pushX_edge (by omega) m _ _ p1 with q | ⟨i',i1,e1,e2⟩
   ·exact q
   ·rw [e1,e2,hd i' (by omega),hd (i' + 1) (by omega)] at p2
    omega
  ·unfold tightP
   rw [k2,k3,Bool.and_eq_true,decide_eq_true_eq,beq_iff_eq,hd j (by omega),hd (j + 1) (by omega)]
   exact ⟨hw.edge j j1,rfl⟩
  ·unfold tightP
   rw [k2,k3,pushX_behind hw m j j1 (Nat.le_refl _),← j2]
   simp
def Bud (f:Int→Int→Int) (s t:Int) (k:Nat):Prop:=∃ d,Lab f s t d∧k + (16 - d t) * 257 + tightN f d≤4112
theorem Bud.start (f:Int→Int→Int) (s t:Int):Bud f s t 0:=by
 refine ⟨fun _=>0,⟨rfl,by omega,fun _ _ _=>by omega⟩,?_⟩
 have:tightN f (fun _=>0)=0:=by
  unfold tightN
  rw [List.countP_eq_zero]
  intro i _
  unfold tightP
  simp
 rw [this]
 dsimp only
 omega
theorem Bud.le {k:Nat} (h:Bud f s t k):k≤4112:=by
 obtain ⟨d,_,h⟩:=h
 omega
theorem Bud.next {B:Int} {k:Nat} (hI:GInv f B) (h:Bud f s t k) (hw:WayX f s t x m) (h1:1≤n) (h2:∀ j,j<m→n≤f (x j) (x (j + 1))) (h3:∃ j,j<m∧n=f (x j) (x (j + 1))) :
  Bud (pushX f x n m) s t (k + 1):=by
 obtain ⟨d,hd,hb⟩:=h
 have hup:=hd.way hw
 have hre:=hd.rest hw
 have ht:=hw.xm
 have hm15:=hw.m15
 have hdm:=hup m (Nat.le_refl _)
 rw [ht] at hdm
 by_cases he:d t=m
 ·have hall:∀ i,i≤m→d (x i)=i:=fun i hi=>by
   have q1:=hup i hi
   have q2:=hre (m - i) (by omega)
   rw [ht,show m - (m - i)=i by omega] at q2
   omega
  obtain ⟨l1,l2⟩:=hd.push hI hw hall h1 h2 h3
  exact ⟨d,l1,by omega⟩
 ·obtain ⟨l1,l2⟩:=dst_lab hI hw
  have hup:=l1.way hw
  have hre:=l1.rest hw
  have hall:∀ i,i≤m→dstL f s (x i)=i:=fun i hi=>by
   have q1:=hup i hi
   have q2:=hre (m - i) (by omega)
   rw [ht,show m - (m - i)=i by omega] at q2
   omega
  obtain ⟨l3,l4⟩:=l1.push hI hw hall h1 h2 h3
  have:=tightN_le f (dstL f s)
  refine ⟨dstL f s,l3,?_⟩
  rw [l2]
  omega
end Go.Proofs.YtngnfdnfpiiclaaGreat
namespace Go.Proofs.YtngnfdnfpiiclaaGreat
def goodL:(Int→Int→Int)→List Fw→Prop
 | _,[]=>True
 | f,x::r=>1≤x.am∧x.am≤f x.fr x.tt∧goodL (pushF f x.fr x.tt x.am) r
def foldF (f:Int→Int→Int) (l:List Fw):Int→Int→Int:=l.foldl (fun g x=>pushF g x.fr x.tt x.am) f
theorem foldF_append (f:Int→Int→Int) (a b:List Fw):foldF f (a++b)=foldF (foldF f a) b:=by unfold foldF; rw [List.foldl_append]
theorem goodL_append:∀ (a:List Fw) (f:Int→Int→Int) (b:List Fw),goodL f (a++b)↔goodL f a∧goodL (foldF f a) b
 | [],f,b=>by simp [goodL,foldF]
 | x::a,f,b=>by
  have ih:=goodL_append a (pushF f x.fr x.tt x.am) b
  show (1≤x.am∧x.am≤f x.fr x.tt∧goodL (pushF f x.fr x.tt x.am) (a++b))↔(1≤x.am∧x.am≤f x.fr x.tt∧goodL (pushF f x.fr x.tt x.am) a)∧goodL (foldF (pushF f x.fr x.tt x.am) a) b
  rw [ih]
  constructor
  ·rintro ⟨h1,h2,h3,h4⟩; exact ⟨⟨h1,h2,h3⟩,h4⟩
  ·rintro ⟨⟨h1,h2,h3⟩,h4⟩; exact ⟨h1,h2,h3,h4⟩
theorem flX_fold (f:Int→Int→Int) (x:Nat→Int) (n:Int):∀ i,foldF f (flX x n i)=pushX f x n i
 | 0=>rfl
 | i + 1=>by
  show foldF f (flX x n i++[_])=_
  rw [foldF_append,flX_fold f x n i]
  rfl
theorem flX_good {f:Int→Int→Int} {s t:Int} {x:Nat→Int} {m:Nat} {n:Int} (h:WayX f s t x m) (h1:1≤n) (h2:∀ j,j<m→n≤f (x j) (x (j + 1))):∀ i,i≤m→goodL f (flX x n i)
 | 0,_=>trivial
 | i + 1,hi=>by
  show goodL f (flX x n i++[_])
  rw [goodL_append,flX_fold]
  refine ⟨flX_good h h1 h2 i (by omega),h1,?_,trivial⟩
  show n≤pushX f x n i (x i) (x (i + 1))
  rw [pushX_ahead h i i (Nat.le_refl _) (by omega)]
  exact h2 i (by omega)
theorem flX_mem {x:Nat→Int} {n:Int} {e:Fw}:∀ {i:Nat},e ∈ flX x n i→∃ j,j<i∧e=⟨x j,x (j + 1),n⟩
 | i + 1,h=>by
  have h:e ∈ flX x n i++[⟨x i,x (i + 1),n⟩]:=h
  rcases List.mem_append.1 h with h | h
  ·obtain ⟨j,h1,h2⟩:=flX_mem h
   exact ⟨j,by omega,h2⟩
  ·exact ⟨i,by omega,by simpa using h⟩
def netL:List Fw→Int→Int
 | [],_=>0
 | x::r,p=>(if x.tt=p then x.am else 0) - (if x.fr=p then x.am else 0) + netL r p
theorem netL_append (p:Int):∀ (a b:List Fw),netL (a++b) p=netL a p + netL b p
 | [],b=>by simp [netL]
 | x::a,b=>by
  show _ + netL (a++b) p=(_ + netL a p) + netL b p
  rw [netL_append p a b]
  omega
theorem netL_flX (x:Nat→Int) (n p:Int):∀ i,netL (flX x n i) p=(if x i=p then n else 0) - (if x 0=p then n else 0)
 | 0=>by show (0:Int)=_; omega
 | i + 1=>by
  show netL (flX x n i++[_]) p=_
  rw [netL_append,netL_flX x n p i]
  show _ + ((if x (i + 1)=p then n else 0) - (if x i=p then n else 0) + 0)=_
  omega
def sumTo (g:Nat→Int):Nat→Int
 | 0=>0
 | k + 1=>sumTo g k + g k
theorem sumTo_add (g h:Nat→Int):∀ k,sumTo (fun i=>g i + h i) k=sumTo g k + sumTo h k
 | 0=>rfl
 | k + 1=>by
  show sumTo (fun i=>g i + h i) k + (g k + h k)=(sumTo g k + g k) + (sumTo h k + h k)
  rw [sumTo_add g h k]; omega
theorem sumTo_congr {g h:Nat→Int}:∀ k,(∀ i,i<k→g i=h i)→sumTo g k=sumTo h k
 | 0,_=>rfl
 | k + 1,e=>by
  show sumTo g k + g k=sumTo h k + h k
  rw [sumTo_congr k (fun i hi=>e i (by omega)),e k (by omega)]
theorem sumTo_one (j:Nat) (c:Int):∀ k,sumTo (fun i=>if i=j then c else 0) k=if j<k then c else 0
 | 0=>by simp [sumTo]
 | k + 1=>by
  show sumTo (fun i=>if i=j then c else 0) k + (if k=j then c else 0)=_
  rw [sumTo_one j c k]
  by_cases e:k=j
  ·subst e; rw [if_neg (by omega),if_pos rfl,if_pos (by omega)]; omega
  ·rw [if_neg e]
   by_cases h:j<k
   ·rw [if_pos h,if_pos (by omega)]; omega
   ·rw [if_neg h,if_neg (by omega)]; omega
theorem sumTo_bd {g:Nat→Int} {B:Int}:∀ k,(∀ i,i<k→0≤g i∧g i≤B)→0≤sumTo g k∧sumTo g k≤B * k
 | 0,_=>by simp [sumTo]
 | k + 1,h=>by
  have h1:=sumTo_bd k (fun i hi=>h i (by omega))
  have h2:=h k (by omega)
  show 0≤sumTo g k + g k∧sumTo g k + g k≤B * ((k + 1:Nat):Int)
  rw [Int.natCast_succ,Int.mul_add,Int.mul_one]
  omega
def pU (i:Nat):Int:=((i / 16:Nat):Int) + 1
def pV (i:Nat):Int:=((i % 16:Nat):Int) + 1
def outK (f:Int→Int→Int) (S:Int→Bool) (k:Nat):Int:=sumTo (fun i=>if S (pU i) && !S (pV i) then f (pU i) (pV i) else 0) k
def outS (f:Int→Int→Int) (S:Int→Bool):Int:=outK f S 256
theorem outK_bd {f:Int→Int→Int} {B:Int} (h:GInv f B) (S:Int→Bool) (k:Nat):0≤outK f S k∧outK f S k≤B * k:=by
 have hB:0≤B:=by have:=h.nn 1 1; have:=h.le 1 1; omega
 refine sumTo_bd k fun i _=>?_
 split
 ·exact ⟨h.nn _ _,h.le _ _⟩
 ·exact ⟨Int.le_refl _,hB⟩
theorem pUV_inj {i j:Nat} (h1:pU i=pU j) (h2:pV i=pV j):i=j:=by
 unfold pU at h1
 unfold pV at h2
 omega
theorem pair_pUV {p q:Int} (hp:inP p) (hq:inP q):∃ i,i<256∧pU i=p∧pV i=q:=pair_ix hp hq
theorem pushF_back (f:Int→Int→Int) (a b n:Int):pushF f a b n b a=f b a + n:=by
 unfold pushF
 rw [if_pos ⟨rfl,rfl⟩]
theorem outS_push (f:Int→Int→Int) (S:Int→Bool) {a b:Int} (n:Int) (ha:inP a) (hb:inP b) (hab:a≠b) :
  outS (pushF f a b n) S=outS f S + (if S b=true∧S a=false then n else 0) - (if S a=true∧S b=false then n else 0):=by
 obtain ⟨k1,k1l,k1u,k1v⟩:=pair_pUV hb ha
 obtain ⟨k2,k2l,k2u,k2v⟩:=pair_pUV ha hb
 have hk:k1≠k2:=by rintro rfl; exact hab (k2u.symm.trans k1u)
 have e:outS (pushF f a b n) S=sumTo (fun i=>((if S (pU i) && !S (pV i) then f (pU i) (pV i) else 0) + (if i=k1 then (if S b=true∧S a=false then n else 0) else 0)) + (if i=k2 then -(if S a=true∧S b=false then n else 0) else 0)) 256:=by
  refine sumTo_congr 256 fun i hi=>?_
  by_cases e1:i=k1
  ·subst e1
   rw [if_pos rfl,if_neg hk,k1u,k1v]
   rw [pushF_back]
   cases S b <;> cases S a <;> simp
  ·by_cases e2:i=k2
   ·subst e2
    rw [if_neg e1,if_pos rfl,k2u,k2v]
    rw [pushF_at hab]
    cases S b <;> cases S a <;> simp <;> omega
   ·rw [if_neg e1,if_neg e2]
    rw [pushF_ne (fun h=>e1 (pUV_inj (h.1.trans k1u.symm) (h.2.trans k1v.symm))) (fun h=>e2 (pUV_inj (h.1.trans k2u.symm) (h.2.trans k2v.symm)))]
    omega
 rw [e,sumTo_add,sumTo_add,sumTo_one,sumTo_one,if_pos k1l,if_pos k2l]
 unfold outS outK
 omega
theorem outS_way {f:Int→Int→Int} {s t:Int} {x:Nat→Int} {m:Nat} (h:WayX f s t x m) (n:Int) (S:Int→Bool):∀ i,i≤m→outS (pushX f x n i) S=outS f S - (if S (x 0)=true then n else 0) + (if S (x i)=true then n else 0)
 | 0,_=>by show outS f S=_; omega
 | i + 1,hi=>by
  show outS (pushF (pushX f x n i) (x i) (x (i + 1)) n) S=_
  rw [outS_push _ S n (h.inp i (by omega)) (h.inp (i + 1) hi) (h.ne i (i + 1) (by omega) hi),outS_way h n S i (by omega)]
  cases S (x i) <;> cases S (x (i + 1)) <;> simp <;> omega
structure RS where
 f:Int→Int→Int
 left:Int
 out:List Fw
def doneR (s t:Int) (σ:RS):Prop:=σ.left≤0∨shortW σ.f s t=[]
instance (s t:Int) (σ:RS):Decidable (doneR s t σ):=by unfold doneR; infer_instance
def wayR (s t:Int) (σ:RS):RS :=
 ⟨pushX σ.f (wayX σ.f s t) (capX σ.f (wayX σ.f s t) σ.left ((shortW σ.f s t).length - 1)) ((shortW σ.f s t).length - 1),σ.left - capX σ.f (wayX σ.f s t) σ.left ((shortW σ.f s t).length - 1),
  σ.out++flX (wayX σ.f s t) (capX σ.f (wayX σ.f s t) σ.left ((shortW σ.f s t).length - 1)) ((shortW σ.f s t).length - 1)⟩
def stepR (s t:Int) (σ:RS):RS:=if doneR s t σ then σ else wayR s t σ
def itR (s t:Int) (σ:RS):Nat→RS
 | 0=>σ
 | k + 1=>stepR s t (itR s t σ k)
theorem itR_done {s t:Int} {σ:RS} {k:Nat} (h:doneR s t (itR s t σ k)):∀ j,itR s t σ (k + j)=itR s t σ k
 | 0=>rfl
 | j + 1=>by
  show stepR s t (itR s t σ (k + j))=_
  rw [itR_done h j]
  unfold stepR
  rw [if_pos h]
structure RInv (f0:Int→Int→Int) (B s t want:Int) (k:Nat) (σ:RS):Prop where
 k5:k≤4113
 at_:σ=itR s t ⟨f0,want,[]⟩ k
 g:GInv σ.f B
 good:goodL f0 σ.out
 fold:foldF f0 σ.out=σ.f
 lo:0≤σ.left∨σ.left=want
 hi:σ.left≤want
 len:σ.out.length≤15 * k
 bud:0<σ.left→Bud σ.f s t k
 net:∀ p,netL σ.out p=(if t=p then want - σ.left else 0) - (if s=p then want - σ.left else 0)
 cut:∀ S:Int→Bool,S s=true→S t=false→outS σ.f S=outS f0 S - (want - σ.left)
 els:∀ e ∈ σ.out,inP e.fr∧inP e.tt∧e.fr≠e.tt∧1≤e.am∧e.am≤B
theorem RInv.start {f0:Int→Int→Int} {B:Int} (h:GInv f0 B) (s t want:Int):RInv f0 B s t want 0 ⟨f0,want,[]⟩:=by
 refine ⟨by omega,rfl,h,trivial,rfl,.inr rfl,Int.le_refl _,by simp,fun _=>Bud.start f0 s t,fun p=>?_,fun S _ _=>?_,by simp⟩
 ·show (0:Int)=(if t=p then want - want else 0) - (if s=p then want - want else 0)
  rw [Int.sub_self]; split <;> split <;> omega
 ·show outS f0 S=outS f0 S - (want - want)
  omega
theorem RInv.way {f0:Int→Int→Int} {B s t want:Int} {k:Nat} {σ:RS} (h:RInv f0 B s t want k σ) (hd:¬ doneR s t σ):∃ m n,(shortW σ.f s t).length=m + 1∧WayX σ.f s t (wayX σ.f s t) m∧n=capX σ.f (wayX σ.f s t) σ.left m∧1≤n∧n≤σ.left∧(∀ j,j<m→n≤σ.f (wayX σ.f s t j) (wayX σ.f s t (j + 1))) ∧
  wayR s t σ=⟨pushX σ.f (wayX σ.f s t) n m,σ.left - n,σ.out++flX (wayX σ.f s t) n m⟩:=by
 have h1:0<σ.left:=by
  rcases Int.lt_or_le 0 σ.left with q | q
  ·exact q
  ·exact absurd (.inl q) hd
 have h2:shortW σ.f s t≠[]:=fun e=>hd (.inr e)
 obtain ⟨m,hm,hw⟩:=wayX_of h.g h2
 refine ⟨m,_,hm,hw,rfl,capX_pos (by omega) m hw.edge,capX_le _ _ _ _,fun j hj=>capX_edge _ _ _ m j hj,?_⟩
 unfold wayR
 rw [hm,Nat.add_sub_cancel]
theorem RInv.step {f0:Int→Int→Int} {B s t want:Int} {k:Nat} {σ:RS} (h:RInv f0 B s t want k σ) (hd:¬ doneR s t σ):RInv f0 B s t want (k + 1) (wayR s t σ):=by
 obtain ⟨m,n,hm,hw,hn,n1,n2,n3,he⟩:=h.way hd
 have hpos:0<σ.left:=by omega
 have hk:=(h.bud hpos).le
 rw [he]
 refine ⟨by omega,?_,pushX_inv h.g hw n1 n3 m (Nat.le_refl _),?_,?_,?_,?_,?_,fun hl=>?_,fun p=>?_,fun S hs ht=>?_,fun e hmem=>?_⟩
 ·rw [← he]
  show _=stepR s t (itR s t ⟨f0,want,[]⟩ k)
  rw [← h.at_]
  unfold stepR
  rw [if_neg hd]
 ·show goodL f0 (σ.out++_)
  rw [goodL_append,h.fold]
  exact ⟨h.good,flX_good hw n1 n3 m (Nat.le_refl _)⟩
 ·show foldF f0 (σ.out++_)=_
  rw [foldF_append,h.fold,flX_fold]
 ·left; show 0≤σ.left - n; omega
 ·show σ.left - n≤want
  have:=h.hi; omega
 ·show (σ.out++_).length≤_
  rw [List.length_append,flX_len]
  have:=h.len
  have:=hw.m15
  omega
 ·have hl:0<σ.left - n:=hl
  refine (h.bud hpos).next h.g hw n1 n3 ?_
  rcases capX_is σ.f (wayX σ.f s t) σ.left m with q | ⟨j,q1,q2⟩
  ·rw [← hn] at q; omega
  ·exact ⟨j,q1,hn.trans q2⟩
 ·show netL (σ.out++_) p=(if t=p then want - (σ.left - n) else 0) - (if s=p then want - (σ.left - n) else 0)
  rw [netL_append,h.net p,netL_flX,hw.x0,hw.xm]
  split <;> split <;> omega
 ·show outS (pushX σ.f (wayX σ.f s t) n m) S=outS f0 S - (want - (σ.left - n))
  rw [outS_way hw n S m (Nat.le_refl _),hw.x0,hw.xm,h.cut S hs ht,hs,ht]
  simp
  omega
 ·have hmem:e ∈ σ.out++flX (wayX σ.f s t) n m:=hmem
  rcases List.mem_append.1 hmem with q | q
  ·exact h.els e q
  ·obtain ⟨j,j1,rfl⟩:=flX_mem q
   have:=n3 j j1
   have:=h.g.le (wayX σ.f s t j) (wayX σ.f s t (j + 1))
   exact ⟨hw.inp j (by omega),hw.inp (j + 1) (by omega),hw.ne j (j + 1) (by omega) (by omega),n1,by show n≤B; omega⟩
def IsRoute (f0:Int→Int→Int) (B s t want:Int) (σ:RS):Prop:=∃ k,RInv f0 B s t want k σ∧doneR s t σ
theorem IsRoute.eq {f0:Int→Int→Int} {B s t want:Int} {σ τ:RS} (h:IsRoute f0 B s t want σ) (g:IsRoute f0 B s t want τ):σ=τ:=by
 obtain ⟨k,h1,h2⟩:=h
 obtain ⟨j,g1,g2⟩:=g
 have a1:=h1.at_
 have a2:=g1.at_
 rw [a1] at h2 ⊢
 rw [a2] at g2 ⊢
 rcases Nat.le_total k j with q | q
 ·have:=itR_done h2 (j - k)
  rw [show k + (j - k)=j by omega] at this
  exact this.symm
 ·have:=itR_done g2 (k - j)
  rw [show j + (k - j)=k by omega] at this
  exact this
theorem out_reached {f:Int→Int→Int} {B:Int} (h:GInv f B) {S:Int→Bool} (hS:∀ a b,S a=true→0<f a b→S b=true):outS f S=0:=by
 have:outS f S=sumTo (fun _=>0) 256:=by
  refine sumTo_congr 256 fun i _=>?_
  cases h1:S (pU i) with
  | false=>rfl
  | true =>
   cases h2:S (pV i) with
   | true=>rfl
   | false =>
    have h3:=h.nn (pU i) (pV i)
    by_cases h4:0<f (pU i) (pV i)
    ·rw [hS _ _ h1 h4] at h2; cases h2
    ·show f (pU i) (pV i)=0
     omega
 rw [this]
 have hz:∀ k,sumTo (fun _=>0) k=0:=by
  intro k
  induction k with
  | zero=>rfl
  | succ k ih=>show sumTo (fun _=>0) k + 0=0; omega
 exact hz 256
theorem IsRoute.n0 {f0:Int→Int→Int} {B s t want:Int} {σ:RS} (h:IsRoute f0 B s t want σ):0≤want - σ.left:=by
 obtain ⟨k,h,_⟩:=h
 have:=h.hi; omega
theorem IsRoute.nw {f0:Int→Int→Int} {B s t want:Int} {σ:RS} (h:IsRoute f0 B s t want σ) (hw:1≤want):want - σ.left≤want:=by
 obtain ⟨k,h,_⟩:=h
 have:=h.lo; omega
theorem IsRoute.g {f0:Int→Int→Int} {B s t want:Int} {σ:RS} (h:IsRoute f0 B s t want σ):GInv σ.f B:=by
 obtain ⟨k,h,_⟩:=h
 exact h.g
theorem IsRoute.cut {f0:Int→Int→Int} {B s t want:Int} {σ:RS} (h:IsRoute f0 B s t want σ) (S:Int→Bool) (hs:S s=true) (ht:S t=false):outS σ.f S=outS f0 S - (want - σ.left):=by
 obtain ⟨k,h,_⟩:=h
 exact h.cut S hs ht
theorem IsRoute.le_cut {f0:Int→Int→Int} {B s t want:Int} {σ:RS} (h:IsRoute f0 B s t want σ) {S:Int→Bool} (hs:S s=true) (ht:S t=false):want - σ.left≤outS f0 S:=by
 have h1:=h.cut S hs ht
 have h2:=(outK_bd h.g S 256).1
 unfold outS at h1
 show _≤outK f0 S 256
 omega
def reachS (f:Int→Int→Int) (s:Int) (v:Int):Bool:=inS f s 16 v
theorem reachS_closed {f:Int→Int→Int} {B:Int} (h:GInv f B) (s:Int):∀ a b,reachS f s a=true→0<f a b→reachS f s b=true:=fun a b h1 h2=>by
 obtain ⟨k,_,k2⟩:=(inS_iff h s 16 a).1 h1
 exact inS_mono (by omega) (inS_all h (wk_add k2 (wk_one h2)))
theorem reachS_self (f:Int→Int→Int) (s:Int):reachS f s s=true:=inS_mono (n:=0) (by omega) (by show (s==s)=true; simp)
theorem IsRoute.less {f0:Int→Int→Int} {B s t want:Int} {σ:RS} (h:IsRoute f0 B s t want σ) (hs:inP s) (ht:inP t) (hst:s≠t) (hl:want - σ.left<want) :
  reachS σ.f s t=false∧outS f0 (reachS σ.f s)=want - σ.left:=by
 have hg:=h.g
 have hcut:=h.cut
 obtain ⟨k,hI,hD⟩:=h
 have h0:shortW σ.f s t=[]:=by
  rcases hD with q | q
  ·omega
  ·exact q
 have hno:=way_none hg hs ht hst h0
 have hrt:reachS σ.f s t=false:=by
  cases hc:reachS σ.f s t with
  | false=>rfl
  | true =>
   obtain ⟨k,_,k2⟩:=(inS_iff hg s 16 t).1 hc
   exact absurd k2 (hno k)
 refine ⟨hrt,?_⟩
 have h1:=hcut _ (reachS_self σ.f s) hrt
 rw [out_reached hg (reachS_closed hg s)] at h1
 omega
def mostW:Int:=4611686018427387904
theorem most_bd {f0:Int→Int→Int} {s t:Int} {μ:RS} (h:IsRoute f0 4398046511104 s t mostW μ) (h0:GInv f0 4398046511104) (hst:s≠t):0≤mostW - μ.left∧mostW - μ.left≤1125899906842624:=by
 have h2:=h.le_cut (S:=fun v=>v==s) (by simp) (by simpa using fun e=>hst e.symm)
 have h3:=(outK_bd h0 (fun v=>v==s) 256).2
 unfold outS at h2
 have:=h.n0
 omega
theorem most_cut {f0:Int→Int→Int} {s t:Int} {μ:RS} (h:IsRoute f0 4398046511104 s t mostW μ) (h0:GInv f0 4398046511104) (hs:inP s) (ht:inP t) (hst:s≠t):∃ S:Int→Bool,S s=true∧S t=false∧outS f0 S=mostW - μ.left:=by
 have hb:=most_bd h h0 hst
 obtain ⟨h1,h2⟩:=h.less hs ht hst (by unfold mostW at hb ⊢; omega)
 exact ⟨_,reachS_self _ _,h1,h2⟩
theorem route_min {f0:Int→Int→Int} {s t want:Int} {σ μ:RS} (hR:IsRoute f0 4398046511104 s t want σ) (hM:IsRoute f0 4398046511104 s t mostW μ) (h0:GInv f0 4398046511104) (hs:inP s) (ht:inP t) (hst:s≠t) (hw:1≤want) :
  want - σ.left=min want (mostW - μ.left):=by
 obtain ⟨S,h1,h2,h3⟩:=most_cut hM h0 hs ht hst
 have h4:=hR.le_cut h1 h2
 have h5:=hR.nw hw
 by_cases hl:want - σ.left<want
 ·obtain ⟨h6,h7⟩:=hR.less hs ht hst hl
  have h8:=hM.le_cut (reachS_self σ.f s) h6
  omega
 ·omega
end Go.Proofs.YtngnfdnfpiiclaaGreat
namespace Go.Proofs.YtngnfdnfpiiclaaGreat
open Go.RowKit
def arr (f:Nat→Bool):Array Value:=Array.ofFn (n:=192) fun i=>Value.bool (f i)
attribute [irreducible] arr
theorem wpList_build_of {P:Program} {ops:Array Oper} {rest:List Oper} {o:Oper} {a:Act} {w:World} {Q:Exit→Act→World→Prop} (hgd:o.guard=none) (t:TypeId) (parts:Array (Nat × Operand)) (ho:o.op=.build t parts)
  (ps:Array (Nat × Value)) (hp:(parts.map fun (i,x)=>(i,a.eval x))=ps) (cells:Array Value) (hrun:(Instr.build t ps).run P w=.ok (.agg cells) w)
  (h:wpList P ops Q rest (a.put o.dst (.agg cells)) w):wpList P ops Q (o::rest) a w :=
 wpList_plain hgd fun _ hK=>by
  unfold Oper.wp execOp
  simp only [ho,hp,Sem.run_bind,hrun,Result.andThen_ok]
  exact hK _ _ h
theorem wp_build_of {P:Program} {o:Oper} {a:Act} {w:World} {K:Act→World→Prop} {Q:Exit→Act→World→Prop} (t:TypeId) (parts:Array (Nat × Operand)) (ho:o.op=.build t parts)
  (ps:Array (Nat × Value)) (hp:(parts.map fun (i,x)=>(i,a.eval x))=ps) (cells:Array Value) (hrun:(Instr.build t ps).run P w=.ok (.agg cells) w)
  (h:K (a.put o.dst (.agg cells)) w):o.wp P a w K Q:=by
 unfold Oper.wp execOp
 simp only [ho,hp,Sem.run_bind,hrun,Result.andThen_ok]
 exact h
theorem Blk.row {w:World} {g:Nat} {old cs:Array Value} {t:TypeId} (h:Blk w g old t):Blk (w.setRow g cs) g cs t:=setRow_heap w g old cs t (0,0) h
end Go.Proofs.YtngnfdnfpiiclaaGreat
