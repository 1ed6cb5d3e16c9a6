/-
  Pieces of one proof, without what is not wanted: FairMath, NetMath, NetSay.
-/
import Derived.Test.YtlbjjkbppbmihaaGreatP01
import Derived.Test.YtlbjjkbppbmihaaGreatP05
import Derived.Test.YtlbjjkbppbmihaaGreatP14
import Derived.Test.YtlbjjkbppbmihaaGreatP16
import Derived.Test.YtlbjjkbppbmihaaGreatP17
set_option linter.unusedSimpArgs false
set_option linter.unusedVariables false
namespace Go.Proofs.YtlbjjkbppbmihaaGreat
def sumL (g:Fw→Int):List Fw→Int
 | []=>0
 | x::r=>g x + sumL g r
theorem sumL_append (g:Fw→Int):∀ (a b:List Fw),sumL g (a++b)=sumL g a + sumL g b
 | [],b=>by show _=0 + _; rw [List.nil_append]; omega
 | x::a,b=>by
  show g x + sumL g (a++b)=g x + sumL g a + sumL g b
  rw [sumL_append g a b]
  omega
theorem sumN_take (g:Fw→Int) (l:List Fw):∀ n,n≤l.length→sumN (fun i=>g (dbt l i)) n=sumL g (l.take n)
 | 0,_=>by simp [sumN,sumL]
 | n + 1,h=>by
  show sumN (fun i=>g (dbt l i)) n + g (dbt l n)=_
  rw [sumN_take g l n (by omega),List.take_succ_eq_append_getElem (by omega),sumL_append,dbt_get (by omega)]
  show _=_ + (g _ + 0)
  omega
theorem sumN_list (g:Fw→Int) (l:List Fw):sumN (fun i=>g (dbt l i)) l.length=sumL g l:=by
 rw [sumN_take g l _ (Nat.le_refl _),List.take_length]
theorem leftN_next2 (l:List Fw) (L:Nat→Int) (k:Nat):leftN l L (k + 1)=leftN l L k++if 0<L k then [⟨(dbt l k).fr,(dbt l k).tt,L k⟩] else []:=rfl
theorem sumL_left (g:Fw→Int) (l:List Fw) (L:Nat→Int):∀ n,sumL g (leftN l L n)=sumN (fun i=>if 0<L i then g ⟨(dbt l i).fr,(dbt l i).tt,L i⟩ else 0) n
 | 0=>rfl
 | n + 1=>by
  rw [leftN_next2,sumL_append,sumL_left g l L n]
  show _=sumN _ n + if 0<L n then g ⟨(dbt l n).fr,(dbt l n).tt,L n⟩ else 0
  split
  ·show _ + (g _ + 0)=_; omega
  ·show _ + 0=_; omega
theorem leftN_mem {l:List Fw} {L:Nat→Int} {x:Fw}:∀ n,x ∈ leftN l L n↔∃ i,i<n∧0<L i∧x=⟨(dbt l i).fr,(dbt l i).tt,L i⟩
 | 0=>by
  constructor
  ·intro h; cases h
  ·rintro ⟨i,h,_⟩; omega
 | n + 1=>by
  rw [leftN_next2,List.mem_append,leftN_mem n]
  constructor
  ·rintro (⟨i,h1,h2⟩ | h)
   ·exact ⟨i,by omega,h2⟩
   ·split at h
    ·rename_i hc
     exact ⟨n,by omega,hc,List.mem_singleton.1 h⟩
    ·cases h
  ·rintro ⟨i,h1,h2,h3⟩
   by_cases hi:i=n
   ·subst hi
    exact .inr (by rw [if_pos h2]; exact List.mem_singleton.2 h3)
   ·exact .inl ⟨i,by omega,h2,h3⟩
theorem dbt_mem {l:List Fw} {i:Nat} (h:i<l.length):dbt l i ∈ l:=by rw [dbt_get h]; exact List.getElem_mem h
theorem mem_dbt {l:List Fw} {x:Fw} (h:x ∈ l):∃ i,i<l.length∧dbt l i=x:=by
 obtain ⟨i,hi,rfl⟩:=List.getElem_of_mem h
 exact ⟨i,hi,dbt_get hi⟩
theorem leftN_sorted {l:List Fw} (hM:MayD l) (L:Nat→Int):∀ n,n≤l.length→(leftN l L n).Pairwise (fun x y=>keyD x<keyD y)
 | 0,_=>List.Pairwise.nil
 | n + 1,h=>by
  rw [leftN_next2,List.pairwise_append]
  refine ⟨leftN_sorted hM L n (by omega),?_,?_⟩
  ·split
   ·exact List.pairwise_singleton _ _
   ·exact List.Pairwise.nil
  ·intro x hx y hy
   obtain ⟨i,hi,_,rfl⟩:=(leftN_mem n).1 hx
   split at hy
   ·rw [List.mem_singleton] at hy
    subst hy
    have:=hM.lt (i:=i) (n - i - 1) (by omega)
    rw [show i + (n - i - 1) + 1=n by omega] at this
    exact this
   ·cases hy
theorem left_at {l:List Fw} {L:Nat→Int} {i:Nat} (hi:i<(leftL l L).length):∃ j,j<l.length∧0<L j∧dbt (leftL l L) i=⟨(dbt l j).fr,(dbt l j).tt,L j⟩:=(leftN_mem l.length).1 (dbt_mem hi)
theorem left_may {l:List Fw} {L:Nat→Int} (hM:MayD l) (hL:RdOk l L):MayD (leftL l L):=by
 refine ⟨fun i hi=>?_,fun i hi=>?_⟩
 ·obtain ⟨j,hj,h1,h2⟩:=left_at hi
  rw [h2]
  obtain ⟨a1,a2,a3,a4,a5⟩:=hM.ok j hj
  have h3:=hL.hi j hj
  exact ⟨a1,a2,a3,by show 1≤L j; omega,by show L j≤1099511627776; omega⟩
 ·have h:=List.pairwise_iff_getElem.1 (leftN_sorted hM L l.length (Nat.le_refl _)) i (i + 1) (by show i<(leftL l L).length; omega) hi (by omega)
  rw [dbt_get (by omega),dbt_get hi]
  exact h
theorem ofN_none {l:List Fw} {a b:Int} (h:∀ i,i<l.length→¬ ((dbt l i).fr=a∧(dbt l i).tt=b)):∀ k,k≤l.length→ofN l a b k=0
 | 0,_=>rfl
 | k + 1,hk=>by
  show (if (dbt l (l.length - (k + 1))).fr=a∧(dbt l (l.length - (k + 1))).tt=b then _ else ofN l a b k)=0
  rw [if_neg (h _ (by omega)),ofN_none h k (by omega)]
theorem ofN_at {l:List Fw} (hM:MayD l) {i:Nat} (hi:i<l.length):∀ k,k≤l.length→l.length - k≤i→ofN l (dbt l i).fr (dbt l i).tt k=(dbt l i).am
 | 0,_,h=>by omega
 | k + 1,hk,h=>by
  show (if (dbt l (l.length - (k + 1))).fr=(dbt l i).fr∧(dbt l (l.length - (k + 1))).tt=(dbt l i).tt then (dbt l (l.length - (k + 1))).am else ofN l (dbt l i).fr (dbt l i).tt k)=_
  by_cases hc:(dbt l (l.length - (k + 1))).fr=(dbt l i).fr∧(dbt l (l.length - (k + 1))).tt=(dbt l i).tt
  ·rw [if_pos hc,hM.inj (by omega) hi hc.1 hc.2]
  ·rw [if_neg hc]
   have:l.length - (k + 1)≠i:=fun e=>hc (by rw [e]; exact ⟨rfl,rfl⟩)
   exact ofN_at hM hi k (by omega) (by omega)
theorem ofL_at {l:List Fw} (hM:MayD l) {i:Nat} (hi:i<l.length):ofL l (dbt l i).fr (dbt l i).tt=(dbt l i).am:=ofN_at hM hi l.length (Nat.le_refl _) (by omega)
theorem ofL_left {l:List Fw} {L:Nat→Int} (hM:MayD l) (hL:RdOk l L) {i:Nat} (hi:i<l.length):ofL (leftL l L) (dbt l i).fr (dbt l i).tt=L i:=by
 by_cases h0:0<L i
 ·obtain ⟨j,hj,he⟩:=mem_dbt ((leftN_mem (l:=l) (L:=L) l.length).2 ⟨i,hi,h0,rfl⟩)
  have:=ofL_at (left_may hM hL) hj
  change dbt (leftL l L) j=_ at he
  rw [he] at this
  exact this
 ·have hz:L i=0:=by have:=hL.lo i hi; omega
  rw [hz]
  refine ofN_none (fun j hj hc=>?_) _ (Nat.le_refl _)
  obtain ⟨m,hm,h1,h2⟩:=left_at hj
  rw [h2] at hc
  have:=hM.inj hm hi hc.1 hc.2
  subst this
  exact h0 h1
theorem left_pos {l:List Fw} {L:Nat→Int} (hL:RdOk l L) (p:Int):stL (leftL l L) (leftL l L).length p=posD l L p:=by
 have h1:=sumN_list (fun x=>(if x.tt=p then x.am else 0) - (if x.fr=p then x.am else 0)) (leftL l L)
 have h2:=sumL_left (fun x=>(if x.tt=p then x.am else 0) - (if x.fr=p then x.am else 0)) l L l.length
 refine h1.trans (h2.trans (sumN_congr _ fun i hi=>?_))
 have:=hL.lo i hi
 unfold psD
 dsimp only
 split <;> split <;> split <;> omega
theorem left_fair {l:List Fw} {L:Nat→Int} {k:Nat} (hM:MayD l) (hln:l.length≤240) (h:IsLeast l L k):FairI (leftL l L) l:=by
 have hL:=h.inv.ok
 refine ⟨Nat.le_trans (leftN_len l L l.length) hln,hln,fun i hi=>?_,fun i hi=>?_,fun p=>?_⟩
 ·obtain ⟨j,hj,h1,h2⟩:=left_at hi
  rw [h2]
  obtain ⟨a1,a2,a3,a4,a5⟩:=hM.ok j hj
  unfold inP at a1 a2
  have h3:=hL.hi j hj
  dsimp only
  rw [ofL_at hM hj]
  exact ⟨by omega,by omega,by omega,by omega,by omega⟩
 ·obtain ⟨a1,a2,a3,a4,a5⟩:=hM.ok i hi
  unfold inP at a1 a2
  exact ⟨by omega,by omega,by omega,a5⟩
 ·unfold stW
  rw [left_pos hL,h.inv.pos]
  show posD l (amD l) p - posD l (amD l) p=0
  omega
theorem left_least {l:List Fw} {L:Nat→Int} {k:Nat} (hM:MayD l) (hln:l.length≤240) (h:IsLeast l L k):∃ far,LeastI far (leftL l L) l:=by
 have hL:=h.inv.ok
 obtain ⟨far,hf,hb⟩:=far_bounded (rdE_co l L l.length) (by have:=rdE_len l L l.length; omega) h.done
 refine ⟨far,Nat.le_trans (leftN_len l L l.length) hln,hln,fun i hi=>?_,fun i hi ho=>?_,fun i hi ho=>?_,hb⟩
 ·obtain ⟨a1,a2,_⟩:=hM.ok i hi
  unfold inP at a1 a2
  exact ⟨by omega,by omega⟩
 ·rw [ofL_left hM hL hi] at ho
  have:=hf ⟨(dbt l i).fr,(dbt l i).tt,-1⟩ ((rdE_mem _).2 ⟨i,hi,.inl ⟨ho,rfl⟩⟩) ⟨(hM.ok i hi).1,(hM.ok i hi).2.1⟩
  dsimp only at this
  omega
 ·rw [ofL_left hM hL hi] at ho
  exact hf ⟨(dbt l i).tt,(dbt l i).fr,1⟩ ((rdE_mem _).2 ⟨i,hi,.inr ⟨ho,rfl⟩⟩) ⟨(hM.ok i hi).2.1,(hM.ok i hi).1⟩
theorem left_done {l:List Fw} {L:Nat→Int} {k:Nat} (hM:MayD l) (h:IsLeast l L k):IsLeast (leftL l L) (amD (leftL l L)) 0:=by
 have hL:=h.inv.ok
 have hLM:=left_may hM hL
 obtain ⟨far,hf⟩:=roundW_none h.done
 refine ⟨RdInv.start hLM,round_free (rdE_co _ _ _) far fun e he ho=>?_⟩
 obtain ⟨j,hj,⟨h1,rfl⟩ | ⟨h1,rfl⟩⟩:=(rdE_mem _).1 he
 ·obtain ⟨i,hi,h2,h3⟩:=left_at hj
  rw [h3] at ho ⊢
  exact hf ⟨(dbt l i).fr,(dbt l i).tt,-1⟩ ((rdE_mem _).2 ⟨i,hi,.inl ⟨h2,rfl⟩⟩) ho
 ·exact absurd h1 (by show ¬ (dbt (leftL l L) j).am<(dbt (leftL l L) j).am; omega)
end Go.Proofs.YtlbjjkbppbmihaaGreat
namespace Go.Proofs.YtlbjjkbppbmihaaGreat
def owedL (ls:List Ln) (c a b:Int):Int:=(lnAt ls b a c).db
def rowF (ls:List Ln) (c a:Int):Nat→List Fw
 | 0=>[]
 | k + 1=>rowF ls c a k++if 0<owedL ls c a ((k + 1:Nat):Int) then [⟨a,((k + 1:Nat):Int),owedL ls c a ((k + 1:Nat):Int)⟩] else []
def debtsF (ls:List Ln) (c:Int):Nat→List Fw
 | 0=>[]
 | k + 1=>debtsF ls c k++rowF ls c ((k + 1:Nat):Int) 16
def debtsL (ls:List Ln) (c:Int):List Fw:=debtsF ls c 16
theorem rowF_mem {ls:List Ln} {c a:Int} {x:Fw}:∀ {n:Nat},x ∈ rowF ls c a n↔∃ k:Nat,1≤k∧k≤n∧0<owedL ls c a k∧x=⟨a,k,owedL ls c a k⟩
 | 0=>by
  constructor
  ·intro h; cases h
  ·rintro ⟨k,h1,h2,_⟩; omega
 | n + 1=>by
  unfold rowF
  rw [List.mem_append,rowF_mem]
  constructor
  ·rintro (⟨k,h1,h2,h3⟩ | h)
   ·exact ⟨k,h1,by omega,h3⟩
   ·split at h
    ·rename_i hp
     rw [List.mem_singleton] at h
     exact ⟨n + 1,by omega,Nat.le_refl _,hp,h⟩
    ·cases h
  ·rintro ⟨k,h1,h2,h3,h4⟩
   by_cases hk:k=n + 1
   ·subst hk
    right
    rw [if_pos h3,List.mem_singleton]
    exact h4
   ·exact .inl ⟨k,h1,by omega,h3,h4⟩
theorem debtsF_mem {ls:List Ln} {c:Int} {x:Fw}:∀ {n:Nat},x ∈ debtsF ls c n↔∃ a:Nat,1≤a∧a≤n∧x ∈ rowF ls c a 16
 | 0=>by
  constructor
  ·intro h; cases h
  ·rintro ⟨k,h1,h2,_⟩; omega
 | n + 1=>by
  unfold debtsF
  rw [List.mem_append,debtsF_mem]
  constructor
  ·rintro (⟨k,h1,h2,h3⟩ | h)
   ·exact ⟨k,h1,by omega,h3⟩
   ·exact ⟨n + 1,by omega,Nat.le_refl _,h⟩
  ·rintro ⟨k,h1,h2,h3⟩
   by_cases hk:k=n + 1
   ·subst hk; exact .inr h3
   ·exact .inl ⟨k,h1,by omega,h3⟩
theorem debtsL_mem {ls:List Ln} {c:Int} {x:Fw}:x ∈ debtsL ls c↔(1≤x.fr∧x.fr≤16)∧(1≤x.tt∧x.tt≤16)∧0<x.am∧x.am=owedL ls c x.fr x.tt:=by
 unfold debtsL
 rw [debtsF_mem]
 constructor
 ·rintro ⟨a,h1,h2,h3⟩
  obtain ⟨k,h4,h5,h6,rfl⟩:=rowF_mem.1 h3
  exact ⟨by dsimp only; omega,by dsimp only; omega,h6,rfl⟩
 ·rintro ⟨h1,h2,h3,h4⟩
  refine ⟨x.fr.toNat,by omega,by omega,rowF_mem.2 ⟨x.tt.toNat,by omega,by omega,?_,?_⟩⟩
  ·rw [Int.toNat_of_nonneg (by omega),Int.toNat_of_nonneg (by omega),← h4]; exact h3
  ·rw [Int.toNat_of_nonneg (by omega),Int.toNat_of_nonneg (by omega),← h4]
theorem rowF_sorted {ls:List Ln} {c a:Int}:∀ n:Nat,(rowF ls c a n).Pairwise fun x y=>keyD x<keyD y
 | 0=>List.Pairwise.nil
 | n + 1=>by
  unfold rowF
  rw [List.pairwise_append]
  refine ⟨rowF_sorted n,by split <;> simp,fun x hx y hy=>?_⟩
  obtain ⟨k,h1,h2,_,rfl⟩:=rowF_mem.1 hx
  split at hy
  ·rw [List.mem_singleton] at hy
   subst hy
   unfold keyD
   dsimp only
   omega
  ·cases hy
theorem debtsF_sorted {ls:List Ln} {c:Int}:∀ n:Nat,(debtsF ls c n).Pairwise fun x y=>keyD x<keyD y
 | 0=>List.Pairwise.nil
 | n + 1=>by
  unfold debtsF
  rw [List.pairwise_append]
  refine ⟨debtsF_sorted n,rowF_sorted 16,fun x hx y hy=>?_⟩
  obtain ⟨a,h1,h2,h3⟩:=debtsF_mem.1 hx
  obtain ⟨k,h4,h5,_,rfl⟩:=rowF_mem.1 h3
  obtain ⟨j,h6,h7,_,rfl⟩:=rowF_mem.1 hy
  unfold keyD
  dsimp only
  omega
theorem debtsL_sorted (ls:List Ln) (c:Int):(debtsL ls c).Pairwise fun x y=>keyD x<keyD y:=debtsF_sorted 16
theorem rowF_len (ls:List Ln) (c a:Int):∀ n,(rowF ls c a n).length≤n
 | 0=>Nat.le_refl _
 | n + 1=>by
  unfold rowF
  rw [List.length_append]
  have:=rowF_len ls c a n
  split <;> simp <;> omega
theorem debtsF_len (ls:List Ln) (c:Int):∀ n,(debtsF ls c n).length≤16 * n
 | 0=>Nat.le_refl _
 | n + 1=>by
  unfold debtsF
  rw [List.length_append]
  have h1:=debtsF_len ls c n
  have h2:=rowF_len ls c ((n + 1:Nat):Int) 16
  omega
theorem rowF_len2 {ls:List Ln} {c:Int} {a:Nat} (ha:1≤a) (h:¬ 0<owedL ls c a a):∀ n,(rowF ls c a n).length + (if a≤n then 1 else 0)≤n
 | 0=>by rw [if_neg (by omega)]; exact Nat.le_refl _
 | n + 1=>by
  have ih:=rowF_len2 ha h n
  unfold rowF
  rw [List.length_append]
  by_cases e:a=n + 1
  ·subst e
   rw [if_neg h,List.length_nil]
   rw [if_neg (show ¬ n + 1≤n by omega)] at ih
   rw [if_pos (Nat.le_refl _)]
   omega
  ·by_cases e2:a≤n
   ·rw [if_pos e2] at ih
    rw [if_pos (show a≤n + 1 by omega)]
    split <;> simp <;> omega
   ·rw [if_neg e2] at ih
    rw [if_neg (show ¬ a≤n + 1 by omega)]
    split <;> simp <;> omega
theorem debtsF_len2 {ls:List Ln} {c:Int} (h:∀ a:Int,¬ 0<owedL ls c a a):∀ n,n≤16→(debtsF ls c n).length≤15 * n
 | 0,_=>Nat.le_refl _
 | n + 1,hn=>by
  unfold debtsF
  rw [List.length_append]
  have h1:=debtsF_len2 h n (by omega)
  have h2:=rowF_len2 (ls:=ls) (c:=c) (a:=n + 1) (by omega) (h _) 16
  rw [if_pos hn] at h2
  omega
theorem debtsL_len2 {ls:List Ln} {c:Int} (h:∀ a:Int,¬ 0<owedL ls c a a):(debtsL ls c).length≤240:=debtsF_len2 h 16 (Nat.le_refl _)
def prefD (ls:List Ln) (c:Int) (a b:Nat):List Fw:=debtsF ls c a++rowF ls c ((a + 1:Nat):Int) b
theorem prefD_next (ls:List Ln) (c:Int) (a b:Nat):prefD ls c a (b + 1)=prefD ls c a b++if 0<owedL ls c ((a + 1:Nat):Int) ((b + 1:Nat):Int) then [⟨((a + 1:Nat):Int),((b + 1:Nat):Int),owedL ls c ((a + 1:Nat):Int) ((b + 1:Nat):Int)⟩] else []:=by
 unfold prefD
 rw [List.append_assoc]
 rfl
theorem prefD_row (ls:List Ln) (c:Int) (a:Nat):prefD ls c a 16=debtsF ls c (a + 1):=rfl
theorem prefD_zero (ls:List Ln) (c:Int) (a:Nat):prefD ls c a 0=debtsF ls c a:=List.append_nil _
theorem prefD_end (ls:List Ln) (c:Int):debtsF ls c 16=debtsL ls c:=rfl
theorem prefD_none (ls:List Ln) (c:Int):debtsF ls c 0=[]:=rfl
theorem prefD_len (ls:List Ln) (c:Int) (a b:Nat):(prefD ls c a b).length≤16 * a + b:=by
 unfold prefD
 rw [List.length_append]
 have:=debtsF_len ls c a
 have:=rowF_len ls c ((a + 1:Nat):Int) b
 omega
attribute [irreducible] debtsL debtsF rowF
theorem key_ext:∀ (l m:List Fw),l.Pairwise (fun x y=>keyD x<keyD y)→m.Pairwise (fun x y=>keyD x<keyD y)→(∀ x,x ∈ l↔x ∈ m)→l=m
 | [],[],_,_,_=>rfl
 | [],y::m,_,_,h=>by have:=(h y).2 List.mem_cons_self; cases this
 | x::l,[],_,_,h=>by have:=(h x).1 List.mem_cons_self; cases this
 | x::l,y::m,hl,hm,h=>by
  obtain ⟨a1,a2⟩:=List.pairwise_cons.1 hl
  obtain ⟨b1,b2⟩:=List.pairwise_cons.1 hm
  have hxy:x=y:=by
   rcases List.mem_cons.1 ((h x).1 List.mem_cons_self) with e | e
   ·exact e
   ·rcases List.mem_cons.1 ((h y).2 List.mem_cons_self) with e' | e'
    ·exact e'.symm
    ·have:=a1 y e'; have:=b1 x e; omega
  subst hxy
  rw [key_ext l m a2 b2 (fun z=>?_)]
  constructor
  ·intro hz
   rcases List.mem_cons.1 ((h z).1 (List.mem_cons_of_mem _ hz)) with e | e
   ·subst e; have:=a1 z hz; omega
   ·exact e
  ·intro hz
   rcases List.mem_cons.1 ((h z).2 (List.mem_cons_of_mem _ hz)) with e | e
   ·subst e; have:=b1 z hz; omega
   ·exact e
theorem dbt_sorted {D:List Fw} (h:D.Pairwise fun x y=>keyD x<keyD y) {i j:Nat} (hij:i<j) (hj:j<D.length):keyD (dbt D i)<keyD (dbt D j):=by
 rw [dbt_get hj,dbt_get (by omega)]
 exact List.pairwise_iff_getElem.1 h i j (by omega) hj hij
theorem owed_line {ps:List Int} {ls:List Ln} (h:LInv ps ls) {c a b:Int} (hp:0<owedL ls c a b):∃ y,lineL ls b a c=some y∧lnAt ls b a c=y∧y.Good∧y.cr=b∧y.de=a∧y.cu=c:=by
 unfold owedL at hp
 cases hl:lineL ls b a c with
 | none=>rw [lnAt_none hl] at hp; exact absurd hp (by decide)
 | some y =>
  obtain ⟨hm,h1,h2,h3⟩:=lineL_mem hl
  exact ⟨y,rfl,lnAt_some hl,h.inv.good y hm,h1,h2,h3⟩
theorem owed_self {ps:List Int} {ls:List Ln} (h:LInv ps ls) (c a:Int):¬ 0<owedL ls c a a:=fun hp=>by
 obtain ⟨y,_,_,hg,k1,k2,_⟩:=owed_line h hp
 exact hg.ne (k1.trans k2.symm)
theorem debts_len {ps:List Int} {ls:List Ln} (h:LInv ps ls) (c:Int):(debtsL ls c).length≤240:=debtsL_len2 (owed_self h c)
theorem debtsL_may {ps:List Int} {ls:List Ln} (h:LInv ps ls) (c:Int):MayD (debtsL ls c):=by
 refine ⟨fun i hi=>?_,fun i hi=>dbt_sorted (debtsL_sorted ls c) (Nat.lt_succ_self i) hi⟩
 obtain ⟨h1,h2,h3,h4⟩:=debtsL_mem.1 (dbt_mem hi)
 obtain ⟨y,_,hy,hg,k1,k2,_⟩:=owed_line h (c:=c) (by rw [← h4]; exact h3)
 have hd:=hg.db
 have hl:=hg.li
 have hn:=hg.ne
 have e:(dbt (debtsL ls c) i).am=y.db:=by rw [h4]; unfold owedL; rw [hy]
 exact ⟨h1,h2,by rw [← k1,← k2]; exact fun e=>hn e.symm,by omega,by omega⟩
theorem forgive_at {ps:List Int} {ls:List Ln} (h:LInv ps ls) {a b c n:Int} (h1:1≤n) (h2:n≤(lnAt ls a b c).db) :
  forgiveE ls a b c n=0∧(∀ a' b' c',lineL (forgiveL ls a b c n) a' b' c'=if a=a'∧b=b'∧c=c' then some ((lnAt ls a b c).owe ((lnAt ls a b c).db - n)) else lineL ls a' b' c') ∧
   (∀ p q,posL (forgiveL ls a b c n) p q=posL ls p q + if q=c then (if b=p then n else 0) - (if a=p then n else 0) else 0)∧(∀ q,totL (forgiveL ls a b c n) q=totL ls q - if q=c then n else 0):=by
 cases hl:lineL ls a b c with
 | none=>rw [lnAt_none hl] at h2; exact absurd h2 (by unfold noLn; dsimp only; omega)
 | some x =>
  rw [lnAt_some hl] at h2
  have hE:forgiveE ls a b c n=0:=by
   unfold forgiveE
   rw [if_neg (by omega),if_neg (by rw [hl]; simp),lnAt_some hl,if_neg (by omega)]
  obtain ⟨hm,k1,k2,k3⟩:=lineL_mem hl
  have hg:=h.inv.good x hm
  have hdb:=hg.db
  obtain ⟨_,f,s,_⟩:=owe_set h.inv hl (d:=x.db - n) (by omega) (by omega)
  have hF:forgiveL ls a b c n=setL ls (x.owe (x.db - n)):=by
   unfold forgiveL
   rw [if_pos hE,lnAt_some hl]
  refine ⟨hE,?_,fun p q=>?_,fun q=>?_⟩
  ·rw [hF,lnAt_some hl]; exact f
  ·rw [hF]
   unfold posL
   rw [s (posOf p q) (posOf_noLn p q)]
   unfold posOf Ln.owe
   simp only [k1,k2,k3]
   by_cases hq:c=q
   ·subst hq
    simp only [if_true]
    (repeat' split) <;> omega
   ·rw [if_neg hq,if_neg hq,if_neg (fun e=>hq e.symm)]
    omega
  ·rw [hF]
   unfold totL
   rw [s (totOf q) (by unfold totOf noLn; simp)]
   unfold totOf Ln.owe
   simp only [k3]
   by_cases hq:c=q
   ·subst hq
    simp only [if_true]
    omega
   ·rw [if_neg hq,if_neg hq,if_neg (fun e=>hq e.symm)]
    omega
theorem forgive_none {ls:List Ln} {a b c n:Int} (h:n<1):forgiveL ls a b c n=ls:=by
 unfold forgiveL forgiveE
 rw [if_pos h,if_neg (by decide)]
def netTo (ls:List Ln) (c:Int) (D:List Fw) (L:Nat→Int):Nat→List Ln
 | 0=>ls
 | k + 1=>forgiveL (netTo ls c D L k) (dbt D k).tt (dbt D k).fr c ((dbt D k).am - L k)
def netL (ls:List Ln) (c:Int) (L:Nat→Int):List Ln:=netTo ls c (debtsL ls c) L (debtsL ls c).length
theorem netTo_inv {ps:List Int} {ls:List Ln} (h:LInv ps ls) (c:Int) (D:List Fw) (L:Nat→Int):∀ k,LInv ps (netTo ls c D L k)
 | 0=>h
 | k + 1=>(netTo_inv h c D L k).forgive _ _ _ _
structure NetTo (ls:List Ln) (c:Int) (D:List Fw) (L:Nat→Int) (k:Nat) (ms:List Ln):Prop where
 here:∀ i,i<k→lineL ms (dbt D i).tt (dbt D i).fr c=(lineL ls (dbt D i).tt (dbt D i).fr c).map (fun x=>x.owe (L i))
 else_:∀ a b q,(∀ i,i<k→¬ (q=c∧(dbt D i).tt=a∧(dbt D i).fr=b))→lineL ms a b q=lineL ls a b q
 pos:∀ p q,posL ms p q=posL ls p q - if q=c then sumN (fun i=>psD D p i ((dbt D i).am - L i)) k else 0
 tot:∀ q,totL ms q=totL ls q - if q=c then sumN (fun i=>(dbt D i).am - L i) k else 0
theorem owe_same {x:Ln} {d:Int} (h:x.db=d):x.owe d=x:=by subst h; rfl
set_option maxHeartbeats 4000000 in
theorem net_to {ps:List Int} {ls:List Ln} (h:LInv ps ls) (c:Int) {L:Nat→Int} (hL:RdOk (debtsL ls c) L):∀ k,k≤(debtsL ls c).length→NetTo ls c (debtsL ls c) L k (netTo ls c (debtsL ls c) L k)
 | 0,_=>⟨fun i hi=>by omega,fun _ _ _ _=>rfl,fun p q=>by simp [sumN,netTo],fun q=>by simp [sumN,netTo]⟩
 | k + 1,hk=>by
  have ih:=net_to h c hL k (by omega)
  have hI:=netTo_inv h c (debtsL ls c) L k
  have hkl:k<(debtsL ls c).length:=by omega
  obtain ⟨d1,d2,d3,d4⟩:=debtsL_mem.1 (dbt_mem hkl)
  obtain ⟨y,hy,hya,hg,y1,y2,y3⟩:=owed_line h (c:=c) (by rw [← d4]; exact d3)
  have hM:=debtsL_may h c
  have hnew:∀ i,i<k→¬ ((dbt (debtsL ls c) i).tt=(dbt (debtsL ls c) k).tt∧(dbt (debtsL ls c) i).fr=(dbt (debtsL ls c) k).fr):=fun i hi e=>by
   have:=hM.inj (show i<(debtsL ls c).length by omega) hkl e.2 e.1
   omega
  have hold:lineL (netTo ls c (debtsL ls c) L k) (dbt (debtsL ls c) k).tt (dbt (debtsL ls c) k).fr c=some y:=by
   rw [ih.else_ _ _ _ (fun i hi e=>hnew i hi e.2),hy]
  have ham:(dbt (debtsL ls c) k).am=y.db:=by rw [d4]; unfold owedL; rw [hya]
  have lo:=hL.lo k hkl
  have hi_:=hL.hi k hkl
  show NetTo ls c (debtsL ls c) L (k + 1) (forgiveL (netTo ls c (debtsL ls c) L k) (dbt (debtsL ls c) k).tt (dbt (debtsL ls c) k).fr c ((dbt (debtsL ls c) k).am - L k))
  by_cases hz:(dbt (debtsL ls c) k).am - L k<1
  ·rw [forgive_none hz]
   have he:(dbt (debtsL ls c) k).am - L k=0:=by omega
   refine ⟨fun i hi=>?_,fun a b q hn=>ih.else_ a b q (fun i hi=>hn i (by omega)),fun p q=>?_,fun q=>?_⟩
   ·by_cases hik:i=k
    ·subst hik
     rw [hold,hy]
     simp only [Option.map_some]
     rw [owe_same (by omega)]
    ·exact ih.here i (by omega)
   ·rw [ih.pos p q]
    congr 1
    split
    ·rw [sumN_next,he]
     unfold psD
     simp
    ·rfl
   ·rw [ih.tot q]
    congr 1
    split
    ·rw [sumN_next,he]
     omega
    ·rfl
  ·obtain ⟨_,f,s1,s2⟩:=forgive_at hI (a:=(dbt (debtsL ls c) k).tt) (b:=(dbt (debtsL ls c) k).fr) (c:=c) (n:=(dbt (debtsL ls c) k).am - L k) (by omega) (by rw [lnAt_some hold]; omega)
   rw [lnAt_some hold] at f
   refine ⟨fun i hi=>?_,fun a b q hn=>?_,fun p q=>?_,fun q=>?_⟩
   ·rw [f]
    by_cases hik:i=k
    ·subst hik
     rw [if_pos ⟨rfl,rfl,rfl⟩,hy]
     simp only [Option.map_some]
     congr 2
     omega
    ·rw [if_neg (fun e=>hnew i (by omega) ⟨e.1.symm,e.2.1.symm⟩)]
     exact ih.here i (by omega)
   ·rw [f,if_neg (fun e=>hn k (by omega) ⟨e.2.2.symm,e.1,e.2.1⟩)]
    exact ih.else_ a b q (fun i hi=>hn i (by omega))
   ·rw [s1 p q,ih.pos p q]
    split
    ·rw [sumN_next]
     unfold psD
     omega
    ·omega
   ·rw [s2 q,ih.tot q]
    split
    ·rw [sumN_next]
     omega
    ·omega
theorem net_is {ps:List Int} {ls:List Ln} (h:LInv ps ls) (c:Int) {L:Nat→Int} (hL:RdOk (debtsL ls c) L):NetTo ls c (debtsL ls c) L (debtsL ls c).length (netL ls c L):=net_to h c hL _ (Nat.le_refl _)
theorem netL_inv {ps:List Int} {ls:List Ln} (h:LInv ps ls) (c:Int) (L:Nat→Int):LInv ps (netL ls c L):=netTo_inv h c _ L _
theorem debt_of {ps:List Int} {ls:List Ln} (h:LInv ps ls) {c a b:Int} (hp:0<owedL ls c a b):∃ i,i<(debtsL ls c).length∧dbt (debtsL ls c) i=⟨a,b,owedL ls c a b⟩:=by
 obtain ⟨y,hl,_,hg,k1,k2,_⟩:=owed_line h hp
 have h1:=hg.cr
 have h2:=hg.de
 rw [k1] at h1
 rw [k2] at h2
 exact mem_dbt (show (⟨a,b,owedL ls c a b⟩:Fw) ∈ debtsL ls c from debtsL_mem.2 ⟨h2,h1,hp,rfl⟩)
theorem owed_nn {ps:List Int} {ls:List Ln} (h:LInv ps ls) (c a b:Int):0≤owedL ls c a b:=(lnAt_bd h.inv.good b a c).1
theorem net_owed {ps:List Int} {ls:List Ln} (h:LInv ps ls) (c:Int) {L:Nat→Int} (hL:RdOk (debtsL ls c) L) :
  (∀ i,i<(debtsL ls c).length→owedL (netL ls c L) c (dbt (debtsL ls c) i).fr (dbt (debtsL ls c) i).tt=L i)∧(∀ a b q,(∀ i,i<(debtsL ls c).length→¬ (q=c∧(dbt (debtsL ls c) i).tt=b∧(dbt (debtsL ls c) i).fr=a))→owedL (netL ls c L) q a b=owedL ls q a b):=by
 have N:=net_is h c hL
 refine ⟨fun i hi=>?_,fun a b q hn=>?_⟩
 ·obtain ⟨d1,d2,d3,d4⟩:=debtsL_mem.1 (dbt_mem hi)
  obtain ⟨y,hy,_⟩:=owed_line h (c:=c) (by rw [← d4]; exact d3)
  have e:=N.here i hi
  rw [hy] at e
  unfold owedL
  rw [lnAt_some e]
  rfl
 ·unfold owedL lnAt
  rw [N.else_ b a q hn]
theorem net_debts {ps:List Int} {ls:List Ln} (h:LInv ps ls) (c:Int) {L:Nat→Int} (hL:RdOk (debtsL ls c) L):debtsL (netL ls c L) c=leftL (debtsL ls c) L:=by
 obtain ⟨n1,n2⟩:=net_owed h c hL
 refine key_ext _ _ (debtsL_sorted _ _) (leftN_sorted (debtsL_may h c) L _ (Nat.le_refl _)) (fun x=>?_)
 rw [debtsL_mem]
 show _↔x ∈ leftN (debtsL ls c) L (debtsL ls c).length
 rw [leftN_mem]
 constructor
 ·rintro ⟨h1,h2,h3,h4⟩
  by_cases hp:∃ i,i<(debtsL ls c).length∧(dbt (debtsL ls c) i).tt=x.tt∧(dbt (debtsL ls c) i).fr=x.fr
  ·obtain ⟨i,hi,e1,e2⟩:=hp
   have e:=n1 i hi
   rw [e1,e2,← h4] at e
   exact ⟨i,hi,by omega,by cases x; simp_all⟩
  ·rw [n2 _ _ _ (fun i hi e=>hp ⟨i,hi,e.2⟩)] at h4
   obtain ⟨i,hi,e⟩:=debt_of h (c:=c) (a:=x.fr) (b:=x.tt) (by rw [← h4]; exact h3)
   exact absurd ⟨i,hi,by rw [e],by rw [e]⟩ hp
 ·rintro ⟨i,hi,hp,rfl⟩
  obtain ⟨d1,d2,d3,d4⟩:=debtsL_mem.1 (dbt_mem hi)
  exact ⟨d1,d2,hp,(n1 i hi).symm⟩
theorem debtsF_congr {ls ms:List Ln} {c:Int} (h:∀ a b,owedL ls c a b=owedL ms c a b):debtsL ls c=debtsL ms c:=by
 refine key_ext _ _ (debtsL_sorted _ _) (debtsL_sorted _ _) (fun x=>?_)
 rw [debtsL_mem,debtsL_mem,h]
theorem net_else {ps:List Int} {ls:List Ln} (h:LInv ps ls) (c:Int) {L:Nat→Int} (hL:RdOk (debtsL ls c) L) {q:Int} (hq:q≠c):debtsL (netL ls c L) q=debtsL ls q :=
 debtsF_congr (fun a b=>(net_owed h c hL).2 a b q (fun i hi e=>hq e.1))
theorem sum_none {ls:List Ln} (f:Ln→Int) (h:∀ x ∈ ls,f x=0):(ls.map f).sum=0:=by
 induction ls with
 | nil=>rfl
 | cons x l ih=>rw [List.map_cons,List.sum_cons,h x List.mem_cons_self,ih (fun y hy=>h y (List.mem_cons_of_mem _ hy))]; rfl
theorem RdOk.zero (D:List Fw) (hM:MayD D):RdOk D (fun _=>0):=⟨fun _ _=>Int.le_refl _,fun i hi=>by have:=(hM.ok i hi).2.2.2.1; omega⟩
theorem debts_tot {ps:List Int} {ls:List Ln} (h:LInv ps ls) (c:Int):sumN (amD (debtsL ls c)) (debtsL ls c).length=totL ls c∧∀ p,posD (debtsL ls c) (amD (debtsL ls c)) p=posL ls p c:=by
 have hZ:=RdOk.zero (debtsL ls c) (debtsL_may h c)
 have N:=net_is h c hZ
 have hI:=netL_inv h c (fun _=>0)
 have hz:∀ x ∈ netL ls c (fun _=>0),x.cu=c→x.db=0:=fun x hx hc=>by
  have hl:=(line_iff hI.inv x.cr x.de x.cu x).2 ⟨hx,rfl,rfl,rfl⟩
  rw [hc] at hl
  have e:owedL (netL ls c fun _=>0) c x.de x.cr=x.db:=by unfold owedL; rw [lnAt_some hl]
  rw [← e]
  by_cases hp:∃ i,i<(debtsL ls c).length∧(dbt (debtsL ls c) i).tt=x.cr∧(dbt (debtsL ls c) i).fr=x.de
  ·obtain ⟨i,hi,e1,e2⟩:=hp
   rw [← e1,← e2]
   exact (net_owed h c hZ).1 i hi
  ·rw [(net_owed h c hZ).2 _ _ _ (fun i hi e=>hp ⟨i,hi,e.2⟩)]
   refine Classical.byContradiction fun hne=>hp ?_
   have:=owed_nn h c x.de x.cr
   obtain ⟨i,hi,e⟩:=debt_of h (c:=c) (a:=x.de) (b:=x.cr) (by omega)
   exact ⟨i,hi,by rw [e],by rw [e]⟩
 constructor
 ·have e:=N.tot c
  rw [if_pos rfl] at e
  have e0:totL (netL ls c fun _=>0) c=0:=sum_none _ (fun x hx=>by
   unfold totOf
   split
   ·rename_i hc; exact hz x hx hc
   ·rfl)
  rw [e0] at e
  have e2:sumN (fun i=>(dbt (debtsL ls c) i).am - 0) (debtsL ls c).length=sumN (amD (debtsL ls c)) (debtsL ls c).length:=sumN_congr _ (fun i _=>by show _ - 0=(dbt (debtsL ls c) i).am; omega)
  rw [e2] at e
  omega
 ·intro p
  have e:=N.pos p c
  rw [if_pos rfl] at e
  have e0:posL (netL ls c fun _=>0) p c=0:=sum_none _ (fun x hx=>by
   unfold posOf
   split
   ·rename_i hc; rw [hz x hx hc]; simp
   ·rfl)
  rw [e0] at e
  have e2:sumN (fun i=>psD (debtsL ls c) p i ((dbt (debtsL ls c) i).am - 0)) (debtsL ls c).length=posD (debtsL ls c) (amD (debtsL ls c)) p:=by
   unfold posD
   exact sumN_congr _ (fun i _=>by show psD _ p i (_ - 0)=psD _ p i (dbt (debtsL ls c) i).am; rw [Int.sub_zero])
  rw [e2] at e
  omega
theorem psD_sub (D:List Fw) (p:Int) (i:Nat) (m n:Int):psD D p i (m - n)=psD D p i m - psD D p i n:=by unfold psD; split <;> split <;> omega
theorem sumN_sub (f g:Nat→Int):∀ n,sumN (fun i=>f i - g i) n=sumN f n - sumN g n
 | 0=>rfl
 | n + 1=>by
  show sumN _ n + (f n - g n)=sumN f n + f n - (sumN g n + g n)
  rw [sumN_sub f g n]
  omega
theorem net_pos {ps:List Int} {ls:List Ln} (h:LInv ps ls) (c:Int) {L:Nat→Int} (hL:RdOk (debtsL ls c) L) (hp:∀ p,posD (debtsL ls c) L p=posD (debtsL ls c) (amD (debtsL ls c)) p) (p q:Int):posL (netL ls c L) p q=posL ls p q:=by
 rw [(net_is h c hL).pos p q]
 split
 ·have e:sumN (fun i=>psD (debtsL ls c) p i ((dbt (debtsL ls c) i).am - L i)) (debtsL ls c).length=posD (debtsL ls c) (amD (debtsL ls c)) p - posD (debtsL ls c) L p:=by
   unfold posD
   rw [← sumN_sub]
   exact sumN_congr _ (fun i _=>psD_sub _ _ _ _ _)
  rw [e,hp p]
  omega
 ·omega
theorem net_tot {ps:List Int} {ls:List Ln} (h:LInv ps ls) (c:Int) {L:Nat→Int} (hL:RdOk (debtsL ls c) L):totL (netL ls c L) c=sumN L (debtsL ls c).length:=by
 rw [(net_is h c hL).tot c,if_pos rfl,sumN_sub,← (debts_tot h c).1]
 show sumN (amD (debtsL ls c)) _ - (sumN (amD (debtsL ls c)) _ - sumN L _)=_
 omega
def fitFN (a b:Int) (l:List Fw):Nat→Int:=sumN (fun m=>if (dbt l m).fr=a∧(dbt l m).tt=b then (dbt l m).am else 0)
theorem sumN_at {f:Nat→Int} {i:Nat}:∀ {n:Nat},i<n→(∀ j,j<n→j≠i→f j=0)→sumN f n=f i
 | n + 1,hi,h=>by
  show sumN f n + f n=f i
  by_cases e:i=n
  ·subst e
   have:∀ k,k≤i→sumN f k=0:=fun k=>by
    induction k with
    | zero=>intro _; rfl
    | succ k ih=>intro hk; show sumN f k + f k=0; rw [ih (by omega),h k (by omega) (by omega)]; rfl
   rw [this i (Nat.le_refl _)]
   omega
  ·rw [sumN_at (show i<n by omega) (fun j hj hn=>h j (by omega) hn),h n (by omega) (fun e'=>e e'.symm)]
   omega
theorem sumN_up {f:Nat→Int} {n:Nat} (h:∀ j,j<n→0≤f j):∀ k,k≤n→0≤sumN f k∧sumN f k≤sumN f n:=by
 have h0:∀ k,k≤n→0≤sumN f k:=fun k=>by
  induction k with
  | zero=>intro _; exact Int.le_refl _
  | succ k ih=>intro hk; have h1:=ih (by omega); have h2:=h k (by omega); show 0≤sumN f k + f k; omega
 intro k hk
 refine ⟨h0 k hk,?_⟩
 have:∀ d,k + d≤n→sumN f k≤sumN f (k + d):=fun d=>by
  induction d with
  | zero=>intro _; exact Int.le_refl _
  | succ d ih=>intro hd; have h1:=ih (by omega); have h2:=h (k + d) (by omega); show _≤sumN f (k + d) + f (k + d); omega
 have:=this (n - k) (by omega)
 rwa [show k + (n - k)=n by omega] at this
theorem left_fit {D:List Fw} {L:Nat→Int} (hM:MayD D) (hL:RdOk D L) {i:Nat} (hi:i<D.length):fitFN (dbt D i).fr (dbt D i).tt (leftL D L) (leftL D L).length=L i:=by
 have h1:=sumN_list (fun x=>if x.fr=(dbt D i).fr∧x.tt=(dbt D i).tt then x.am else 0) (leftL D L)
 have h2:=sumL_left (fun x=>if x.fr=(dbt D i).fr∧x.tt=(dbt D i).tt then x.am else 0) D L D.length
 refine h1.trans (h2.trans ((sumN_at hi (fun j hj hn=>?_)).trans ?_))
 ·dsimp only
  split
  ·rw [if_neg (fun e=>hn (hM.inj hj hi e.1 e.2))]
  ·rfl
 ·dsimp only
  have:=hL.lo i hi
  split
  ·rw [if_pos ⟨rfl,rfl⟩]
  ·omega
theorem fit_bd {D:List Fw} {L:Nat→Int} (hM:MayD D) (hL:RdOk D L) {i:Nat} (hi:i<D.length) {k:Nat} (hk:k≤(leftL D L).length):0≤fitFN (dbt D i).fr (dbt D i).tt (leftL D L) k∧fitFN (dbt D i).fr (dbt D i).tt (leftL D L) k≤L i:=by
 rw [← left_fit hM hL hi]
 refine sumN_up (fun j hj=>?_) k hk
 obtain ⟨m,_,h2,h3⟩:=left_at hj
 rw [h3]
 dsimp only
 split
 ·omega
 ·exact Int.le_refl _
end Go.Proofs.YtlbjjkbppbmihaaGreat
namespace Go.Proofs.YtlbjjkbppbmihaaGreat
open Go.RowKit
def DebtsBy (g:Nat) (w:World) (ao:Option Addr) (l:List Fw):Prop :=
 0<l.length→∃ b off,ao=some ⟨b,off,none⟩∧b<w.heap.size∧b≠g∧∀ m,m<l.length→w.cell? ⟨b,off + m * 3,none⟩=some (.int .u8 (dbt l m).fr)∧w.cell? ⟨b,off + m * 3 + 1,none⟩=some (.int .u8 (dbt l m).tt)∧w.cell? ⟨b,off + m * 3 + 2,none⟩=some (.int .i64 (dbt l m).am)
theorem DebtsBy.keep {g:Nat} {w w':World} {ao:Option Addr} {l:List Fw} (h:DebtsBy g w ao l) (k:Keep (·=g) w w'):DebtsBy g w' ao l:=fun h0=>by
 obtain ⟨b,off,h1,h2,h3,h4⟩:=h h0
 refine ⟨b,off,h1,Nat.lt_of_lt_of_le h2 k.size,h3,fun m hm=>?_⟩
 obtain ⟨a1,a2,a3⟩:=h4 m hm
 exact ⟨(k.cell (p:=⟨b,off + m * 3,none⟩) h2 h3).trans a1,(k.cell (p:=⟨b,off + m * 3 + 1,none⟩) h2 h3).trans a2,(k.cell (p:=⟨b,off + m * 3 + 2,none⟩) h2 h3).trans a3⟩
theorem DebtsBy.ins {g:Nat} {w:World} {ao:Option Addr} {l:List Fw} (h:DebtsBy g w ao l):DebtsIn w ao l:=fun h0=>by
 obtain ⟨b,off,h1,h2,_,h4⟩:=h h0
 exact ⟨b,off,h1,h2,h4⟩
theorem DebtsBy.rowed {w:World} {base g ca:Nat} {e:TypeId} {ao:Option Addr} {l:List Fw} (h:Rowed w base e 3 (.slice ao l.length ca) l.length (fwCells l)) (hl:l.length≤100000000) (hg:g<base):DebtsBy g w ao l:=fun h0=>by
 obtain ⟨b,off,h1,h2,h3⟩:=reads_debts (h.reads hl) h0
 refine ⟨b,off,h1,h2,?_,h3⟩
 obtain ⟨_,hh⟩:=h
 rcases hh with ⟨hv,hn⟩ | ⟨b',cur,hv,hb,_⟩
 ·omega
 ·subst h1
  cases hv
  omega
def NetAns (ls:List Ln) (c q:Int) (gone many er:Int) (ms:List Ln):Prop :=
 (¬ ((1≤c∧c≤8)∧0≤q)∧gone=0∧many=0∧er=1∧ms=ls) ∨
 ((1≤c∧c≤8)∧0≤q∧∃ L k,IsLeast (debtsL ls c) L k∧(((k:Int)≤q∧gone=totL ls c - totL (netL ls c L) c∧many=k∧er=0∧ms=netL ls c L)∨(q<(k:Int)∧gone=0∧many=0∧er=13∧ms=ls)))
theorem NetAns.eq {ls:List Ln} {c q g1 m1 e1 g2 m2 e2:Int} {s1 s2:List Ln} (h:NetAns ls c q g1 m1 e1 s1) (k:NetAns ls c q g2 m2 e2 s2):g1=g2∧m1=m2∧e1=e2∧s1=s2:=by
 rcases h with ⟨a,rfl,rfl,rfl,rfl⟩ | ⟨a1,a2,L,j,hL,h⟩
 ·rcases k with ⟨_,rfl,rfl,rfl,rfl⟩ | ⟨b1,b2,_⟩
  ·exact ⟨rfl,rfl,rfl,rfl⟩
  ·exact absurd ⟨b1,b2⟩ a
 ·rcases k with ⟨b,_⟩ | ⟨_,_,M,i,hM,k⟩
  ·exact absurd ⟨a1,a2⟩ b
  ·obtain ⟨rfl,rfl⟩:=hL.eq hM
   rcases h with ⟨h0,rfl,rfl,rfl,rfl⟩ | ⟨h0,rfl,rfl,rfl,rfl⟩
   ·rcases k with ⟨_,rfl,rfl,rfl,rfl⟩ | ⟨k0,_⟩
    ·exact ⟨rfl,rfl,rfl,rfl⟩
    ·omega
   ·rcases k with ⟨k0,_⟩ | ⟨_,rfl,rfl,rfl,rfl⟩
    ·omega
    ·exact ⟨rfl,rfl,rfl,rfl⟩
structure DebtsProg:Prop where
 at_:∀ {w:World} {G M:Nat} {ps:List Int} {ls:List Ln},LedM w G M ps ls→LInv ps ls→∀ c:Int,In8 c →
  Calls Tryz.prog 9 #[.pointer (some ⟨G,0,none⟩),.int .u8 c] w (ListPost w 62 3 (debtsL ls c).length (fwCells (debtsL ls c)))
structure NetProg:Prop where
 at_:∀ {w:World} {G M:Nat} {ps:List Int} {ls:List Ln},LedM w G M ps ls→LInv ps ls→∀ c q:Int,In8 c→In64 q →
  Calls Tryz.prog 13 #[.pointer (some ⟨G,0,none⟩),.int .u8 c,.int .i64 q] w fun e w'=>∃ gone many er ms,NetAns ls c q gone many er ms∧e=.returned (.tuple #[.int .i64 gone,.int .i64 many,.int .i64 er])∧LedM w' G M ps ms∧Keep (·=M) w w'
end Go.Proofs.YtlbjjkbppbmihaaGreat
