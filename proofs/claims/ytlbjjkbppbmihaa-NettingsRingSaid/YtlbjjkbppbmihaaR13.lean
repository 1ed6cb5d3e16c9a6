/-
  Pieces of one proof, without what is not wanted: FairMath, RingMath, NetMath, NetGo, NRingMath, NetSay.
-/
import Derived.Test.YtlbjjkbppbmihaaR01
import Derived.Test.YtlbjjkbppbmihaaR05
import Derived.Test.YtlbjjkbppbmihaaR06
import Derived.Test.YtlbjjkbppbmihaaR10
import Derived.Test.YtlbjjkbppbmihaaR11
import Derived.Test.YtlbjjkbppbmihaaR12
import Derived.StillTailTactics
set_option linter.unusedSimpArgs false
set_option linter.unusedVariables false
namespace Go.Proofs.Ytlbjjkbppbmihaa
def sumL (g:Fw→Int):List Fw→Int
 | []=>0
 | x::r=>g x + sumL g r
theorem sumL_append (g:Fw→Int):∀ (a b:List Fw),sumL g (a++b)=sumL g a + sumL g b
 | [],b=>by show _=0 + _; rw [List.nil_append]; omega
 | x::a,b=>by
  show g x + sumL g (a++b)=g x + sumL g a + sumL g b
  rw [sumL_append g a b]
  omega
theorem sumN_take (g:Fw→Int) (l:List Fw):∀ n,n≤l.length→sumN (fun i=>g (dbt l i)) n=sumL g (l.take n)
 | 0,_=>by simp [sumN,sumL]
 | n + 1,h=>by
  show sumN (fun i=>g (dbt l i)) n + g (dbt l n)=_
  rw [sumN_take g l n (by omega),List.take_succ_eq_append_getElem (by omega),sumL_append,dbt_get (by omega)]
  show _=_ + (g _ + 0)
  omega
theorem leftN_next2 (l:List Fw) (L:Nat→Int) (k:Nat):leftN l L (k + 1)=leftN l L k++if 0<L k then [⟨(dbt l k).fr,(dbt l k).tt,L k⟩] else []:=rfl
theorem sumL_left (g:Fw→Int) (l:List Fw) (L:Nat→Int):∀ n,sumL g (leftN l L n)=sumN (fun i=>if 0<L i then g ⟨(dbt l i).fr,(dbt l i).tt,L i⟩ else 0) n
 | 0=>rfl
 | n + 1=>by
  rw [leftN_next2,sumL_append,sumL_left g l L n]
  show _=sumN _ n + if 0<L n then g ⟨(dbt l n).fr,(dbt l n).tt,L n⟩ else 0
  split
  ·show _ + (g _ + 0)=_; omega
  ·show _ + 0=_; omega
theorem leftN_mem {l:List Fw} {L:Nat→Int} {x:Fw}:∀ n,x ∈ leftN l L n↔∃ i,i<n∧0<L i∧x=⟨(dbt l i).fr,(dbt l i).tt,L i⟩
 | 0=>by
  constructor
  ·intro h; cases h
  ·rintro ⟨i,h,_⟩; omega
 | n + 1=>by
  rw [leftN_next2,List.mem_append,leftN_mem n]
  constructor
  ·rintro (⟨i,h1,h2⟩ | h)
   ·exact ⟨i,by omega,h2⟩
   ·split at h
    ·rename_i hc
     exact ⟨n,by omega,hc,List.mem_singleton.1 h⟩
    ·cases h
  ·rintro ⟨i,h1,h2,h3⟩
   by_cases hi:i=n
   ·subst hi
    exact .inr (by rw [if_pos h2]; exact List.mem_singleton.2 h3)
   ·exact .inl ⟨i,by omega,h2,h3⟩
theorem dbt_mem {l:List Fw} {i:Nat} (h:i<l.length):dbt l i ∈ l:=by rw [dbt_get h]; exact List.getElem_mem h
theorem mem_dbt {l:List Fw} {x:Fw} (h:x ∈ l):∃ i,i<l.length∧dbt l i=x:=by
 obtain ⟨i,hi,rfl⟩:=List.getElem_of_mem h
 exact ⟨i,hi,dbt_get hi⟩
theorem leftN_sorted {l:List Fw} (hM:MayD l) (L:Nat→Int):∀ n,n≤l.length→(leftN l L n).Pairwise (fun x y=>keyD x<keyD y)
 | 0,_=>List.Pairwise.nil
 | n + 1,h=>by
  rw [leftN_next2,List.pairwise_append]
  refine ⟨leftN_sorted hM L n (by omega),?_,?_⟩
  ·split
   ·exact List.pairwise_singleton _ _
   ·exact List.Pairwise.nil
  ·intro x hx y hy
   obtain ⟨i,hi,_,rfl⟩:=(leftN_mem n).1 hx
   split at hy
   ·rw [List.mem_singleton] at hy
    subst hy
    have:=hM.lt (i:=i) (n - i - 1) (by omega)
    rw [show i + (n - i - 1) + 1=n by omega] at this
    exact this
   ·cases hy
theorem left_at {l:List Fw} {L:Nat→Int} {i:Nat} (hi:i<(leftL l L).length):∃ j,j<l.length∧0<L j∧dbt (leftL l L) i=⟨(dbt l j).fr,(dbt l j).tt,L j⟩:=(leftN_mem l.length).1 (dbt_mem hi)
theorem left_may {l:List Fw} {L:Nat→Int} (hM:MayD l) (hL:RdOk l L):MayD (leftL l L):=by
 refine ⟨fun i hi=>?_,fun i hi=>?_⟩
 ·obtain ⟨j,hj,h1,h2⟩:=left_at hi
  rw [h2]
  obtain ⟨a1,a2,a3,a4,a5⟩:=hM.ok j hj
  have h3:=hL.hi j hj
  exact ⟨a1,a2,a3,by show 1≤L j; omega,by show L j≤1099511627776; omega⟩
 ·have h:=List.pairwise_iff_getElem.1 (leftN_sorted hM L l.length (Nat.le_refl _)) i (i + 1) (by show i<(leftL l L).length; omega) hi (by omega)
  rw [dbt_get (by omega),dbt_get hi]
  exact h
theorem ofN_none {l:List Fw} {a b:Int} (h:∀ i,i<l.length→¬ ((dbt l i).fr=a∧(dbt l i).tt=b)):∀ k,k≤l.length→ofN l a b k=0
 | 0,_=>rfl
 | k + 1,hk=>by
  show (if (dbt l (l.length - (k + 1))).fr=a∧(dbt l (l.length - (k + 1))).tt=b then _ else ofN l a b k)=0
  rw [if_neg (h _ (by omega)),ofN_none h k (by omega)]
theorem ofN_at {l:List Fw} (hM:MayD l) {i:Nat} (hi:i<l.length):∀ k,k≤l.length→l.length - k≤i→ofN l (dbt l i).fr (dbt l i).tt k=(dbt l i).am
 | 0,_,h=>by omega
 | k + 1,hk,h=>by
  show (if (dbt l (l.length - (k + 1))).fr=(dbt l i).fr∧(dbt l (l.length - (k + 1))).tt=(dbt l i).tt then (dbt l (l.length - (k + 1))).am else ofN l (dbt l i).fr (dbt l i).tt k)=_
  by_cases hc:(dbt l (l.length - (k + 1))).fr=(dbt l i).fr∧(dbt l (l.length - (k + 1))).tt=(dbt l i).tt
  ·rw [if_pos hc,hM.inj (by omega) hi hc.1 hc.2]
  ·rw [if_neg hc]
   have:l.length - (k + 1)≠i:=fun e=>hc (by rw [e]; exact ⟨rfl,rfl⟩)
   exact ofN_at hM hi k (by omega) (by omega)
theorem ofL_at {l:List Fw} (hM:MayD l) {i:Nat} (hi:i<l.length):ofL l (dbt l i).fr (dbt l i).tt=(dbt l i).am:=ofN_at hM hi l.length (Nat.le_refl _) (by omega)
theorem ofL_left {l:List Fw} {L:Nat→Int} (hM:MayD l) (hL:RdOk l L) {i:Nat} (hi:i<l.length):ofL (leftL l L) (dbt l i).fr (dbt l i).tt=L i:=by
 by_cases h0:0<L i
 ·obtain ⟨j,hj,he⟩:=mem_dbt ((leftN_mem (l:=l) (L:=L) l.length).2 ⟨i,hi,h0,rfl⟩)
  have:=ofL_at (left_may hM hL) hj
  change dbt (leftL l L) j=_ at he
  rw [he] at this
  exact this
 ·have hz:L i=0:=by have:=hL.lo i hi; omega
  rw [hz]
  refine ofN_none (fun j hj hc=>?_) _ (Nat.le_refl _)
  obtain ⟨m,hm,h1,h2⟩:=left_at hj
  rw [h2] at hc
  have:=hM.inj hm hi hc.1 hc.2
  subst this
  exact h0 h1
theorem left_done {l:List Fw} {L:Nat→Int} {k:Nat} (hM:MayD l) (h:IsLeast l L k):IsLeast (leftL l L) (amD (leftL l L)) 0:=by
 have hL:=h.inv.ok
 have hLM:=left_may hM hL
 obtain ⟨far,hf⟩:=roundW_none h.done
 refine ⟨RdInv.start hLM,round_free (rdE_co _ _ _) far fun e he ho=>?_⟩
 obtain ⟨j,hj,⟨h1,rfl⟩ | ⟨h1,rfl⟩⟩:=(rdE_mem _).1 he
 ·obtain ⟨i,hi,h2,h3⟩:=left_at hj
  rw [h3] at ho ⊢
  exact hf ⟨(dbt l i).fr,(dbt l i).tt,-1⟩ ((rdE_mem _).2 ⟨i,hi,.inl ⟨h2,rfl⟩⟩) ho
 ·exact absurd h1 (by show ¬ (dbt (leftL l L) j).am<(dbt (leftL l L) j).am; omega)
end Go.Proofs.Ytlbjjkbppbmihaa
namespace Go.Proofs.Ytlbjjkbppbmihaa
def rgD (n:Nat) (z:Nat→Int) (i:Nat):Fw:=⟨(i:Int) + 1,if i + 1=n then 1 else (i:Int) + 2,z i + 1⟩
def ringL (n:Nat) (z:Nat→Int):Nat→List Fw
 | 0=>[]
 | k + 1=>ringL n z k++[rgD n z k]
theorem ringL_next (n:Nat) (z:Nat→Int) (k:Nat):ringL n z (k + 1)=ringL n z k++[rgD n z k]:=rfl
theorem ringL_len (n:Nat) (z:Nat→Int):∀ k,(ringL n z k).length=k
 | 0=>rfl
 | k + 1=>by rw [ringL_next,List.length_append,ringL_len n z k]; rfl
theorem ringL_get (n:Nat) (z:Nat→Int) {i:Nat}:∀ k,i<k→(ringL n z k)[i]? = some (rgD n z i)
 | 0,h=>by omega
 | k + 1,h=>by
  rw [ringL_next]
  by_cases hi:i=k
  ·subst hi
   rw [List.getElem?_append_right (by rw [ringL_len]; omega),ringL_len,Nat.sub_self]
   rfl
  ·rw [List.getElem?_append_left (by rw [ringL_len]; omega)]
   exact ringL_get n z k (by omega)
theorem dbt_ring {n:Nat} {z:Nat→Int} {k i:Nat} (h:i<k):dbt (ringL n z k) i=rgD n z i:=by
 unfold dbt
 rw [List.getD_eq_getElem?_getD,ringL_get n z k h]
 rfl
def lsN (z:Nat→Int):Nat→Int
 | 0=>1099511627776
 | k + 1=>min (lsN z k) (z k + 1)
theorem lsN_le (z:Nat→Int):∀ K,lsN z K≤1099511627776∧∀ k,k<K→lsN z K≤z k + 1
 | 0=>⟨Int.le_refl _,fun k hk=>by omega⟩
 | K + 1=>by
  obtain ⟨h1,h2⟩:=lsN_le z K
  refine ⟨by show min _ _≤_; omega,fun k hk=>?_⟩
  show min (lsN z K) (z K + 1)≤_
  by_cases hkK:k=K
  ·subst hkK; exact Int.min_le_right _ _
  ·have:=h2 k (by omega)
   omega
theorem le_lsN {z:Nat→Int} {x:Int} (h0:x≤1099511627776):∀ K,(∀ k,k<K→x≤z k + 1)→x≤lsN z K
 | 0,_=>h0
 | K + 1,h=>by
  have h1:=le_lsN h0 K (fun k hk=>h k (by omega))
  have h2:=h K (by omega)
  show x≤min _ _
  omega
theorem minK_att (l:List Fw) (L:Nat→Int) (u:Nat→Int):∀ K,minK l L u K=1099511627776∨∃ k,k<K∧minK l L u K=avS l L (u k) (u (k + 1))
 | 0=>.inl rfl
 | K + 1=>by
  have h:minK l L u (K + 1)=min (minK l L u K) (avS l L (u K) (u (K + 1))):=rfl
  rcases Int.le_total (minK l L u K) (avS l L (u K) (u (K + 1))) with hc | hc
  ·rw [h,Int.min_eq_left hc]
   rcases minK_att l L u K with h1 | ⟨k,h1,h2⟩
   ·exact .inl h1
   ·exact .inr ⟨k,by omega,h2⟩
  ·rw [h,Int.min_eq_right hc]
   exact .inr ⟨K,by omega,rfl⟩
structure RingZ (n:Nat) (z:Nat→Int):Prop where
 n3:3≤n
 n16:n≤16
 z0:∀ i,i<n→0≤z i∧z i≤65535
section
variable {n:Nat} {z:Nat→Int}
theorem ring_may (h:RingZ n z) {m:Nat} (hm:m≤n):MayD (ringL n z m):=by
 have h3:=h.n3
 have h16:=h.n16
 refine ⟨fun i hi=>?_,fun i hi=>?_⟩
 ·rw [ringL_len] at hi
  rw [dbt_ring hi]
  have:=h.z0 i (by omega)
  unfold okD rgD inP
  dsimp only
  split <;> (refine ⟨⟨by omega,by omega⟩,⟨by omega,by omega⟩,by omega,by omega,by omega⟩)
 ·rw [ringL_len] at hi
  rw [dbt_ring (by omega),dbt_ring hi]
  unfold keyD rgD
  dsimp only
  split <;> split <;> omega
def nxR (n i:Nat):Nat:=if i + 1=n then 0 else i + 1
theorem rgD_tt (n:Nat) (z:Nat→Int) (i:Nat):(rgD n z i).tt=(nxR n i:Nat) + 1:=by
 unfold rgD nxR
 dsimp only
 split
 ·rfl
 ·rw [Int.natCast_add]; omega
theorem ring_goes (h:RingZ n z):wayD (ringL n z n) (amD (ringL n z n))≠[]:=by
 intro hd
 have h3:=h.n3
 obtain ⟨far,hf⟩:=roundW_none hd
 have step:∀ i,i<n→far ((nxR n i:Nat) + 1)≤far ((i:Int) + 1) - 1:=fun i hi=>by
  have ok:=(ring_may h (Nat.le_refl n)).ok i (by rw [ringL_len]; exact hi)
  have:=hf ⟨(dbt (ringL n z n) i).fr,(dbt (ringL n z n) i).tt,-1⟩ ((rdE_mem _).2 ⟨i,by rw [ringL_len]; exact hi,.inl ⟨by have:=ok.2.2.2.1; show 0<(dbt (ringL n z n) i).am; omega,rfl⟩⟩) ⟨ok.1,ok.2.1⟩
  rw [dbt_ring hi] at this
  dsimp only at this
  rw [rgD_tt] at this
  have e:(rgD n z i).fr=(i:Int) + 1:=rfl
  rw [e] at this
  omega
 have chain:∀ i,i<n→far ((i:Int) + 1)≤far 1 - i:=by
  intro i
  induction i with
  | zero=>intro _; show far (0 + 1)≤far 1 - 0; rw [Int.zero_add]; omega
  | succ i ih =>
   intro hi
   have h1:=ih (by omega)
   have h2:=step i (by omega)
   unfold nxR at h2
   rw [if_neg (by omega)] at h2
   omega
 have h1:=chain (n - 1) (by omega)
 have h2:=step (n - 1) (by omega)
 unfold nxR at h2
 rw [if_pos (by omega)] at h2
 have e:(((0:Nat):Int) + 1)=1:=rfl
 rw [e] at h2
 omega
def posR (n a k:Nat):Nat:=if a + k<n then a + k else a + k - n
theorem posR_nxt {n a k:Nat} (ha:a<n) (hk:k<n):nxR n (posR n a k)=posR n a (k + 1):=by
 unfold nxR posR
 split <;> split <;> split <;> omega
structure RingDone (n:Nat) (z:Nat→Int):Prop where
 least:IsLeast (ringL n z n) (nextD (ringL n z n) (amD (ringL n z n))) 1
 sum:sumN (nextD (ringL n z n) (amD (ringL n z n))) n=sumN (amD (ringL n z n)) n - lsN z n * n
 each:∀ i,i<n→nextD (ringL n z n) (amD (ringL n z n)) i=z i + 1 - lsN z n
theorem ring_done (h:RingZ n z):RingDone n z:=by
 have h3:=h.n3
 have h16:=h.n16
 have hM:=ring_may h (Nat.le_refl n)
 have hI:=RdInv.start hM
 have hne:=ring_goes h
 obtain ⟨_,c,K,hC,hK,hu,hS,hT,h1⟩:=next_is hM hI.ok hne
 have hlen:=ringL_len n z n
 have hdb:∀ i,i<n→dbt (ringL n z n) i=rgD n z i:=fun i hi=>dbt_ring hi
 generalize hl:ringL n z n=l at hM hI hne hC hK hu hS hT h1 hlen hdb
 obtain ⟨u,hu0⟩:∃ u,uW (wayD l (amD l))=u:=⟨_,rfl⟩
 rw [hu0] at hu hS hT
 -- each step is forth
 have fw:∀ k,k<K→bkS l (amD l) (u k) (u (k + 1))=false∧ixS l (amD l) (u k) (u (k + 1))<n∧u k=(ixS l (amD l) (u k) (u (k + 1)):Nat) + 1∧u (k + 1)=(nxR n (ixS l (amD l) (u k) (u (k + 1))):Nat) + 1∧c (u k) (u (k + 1)) = -1:=fun k hk=>by
  have hix:=(hS k hk).ix
  rw [hlen] at hix
  rcases (hS k hk).is with ⟨b1,b2,b3,_,b5⟩ | ⟨_,_,_,b4,_⟩
  ·rw [hdb _ hix] at b2 b3
   rw [rgD_tt] at b3
   exact ⟨b1,hix,b2.symm,b3.symm,b5⟩
  ·exact absurd b4 (by show ¬ (dbt l _).am<(dbt l _).am; omega)
 have k1:=hu.k1
 obtain ⟨a,ha⟩:∃ a,ixS l (amD l) (u 0) (u 1)=a:=⟨_,rfl⟩
 have han:a<n:=by rw [← ha]; exact (fw 0 k1).2.1
 have hat:∀ k,k<K→k≤n→ixS l (amD l) (u k) (u (k + 1))=posR n a k:=by
  intro k
  induction k with
  | zero=>intro _ _; rw [ha]; unfold posR; rw [if_pos (by omega)]; rfl
  | succ k ih =>
   intro hk hkn
   have e1:=ih (by omega) (by omega)
   have e2:=(fw k (by omega)).2.2.2.1
   have e3:=(fw (k + 1) hk).2.2.1
   rw [e1,posR_nxt han (by omega)] at e2
   omega
 have hKn:K=n:=by
  rcases Nat.lt_trichotomy K n with q | q | q
  ·have e2:=(fw (K - 1) (by omega)).2.2.2.1
   rw [hat (K - 1) (by omega) (by omega),posR_nxt han (by omega),show K - 1 + 1=K by omega,hu.back] at e2
   have e3:=(fw 0 k1).2.2.1
   rw [ha] at e3
   have e4:posR n a K=a:=by omega
   unfold posR at e4
   split at e4 <;> omega
  ·exact q
  ·have e1:=hat n q (Nat.le_refl _)
   have e2:=steps_apart hM hu hS (j:=0) (k:=n) (by omega) q
   refine absurd ?_ e2
   rw [e1,ha]
   unfold posR
   rw [if_neg (by omega)]
   omega
 have hav:∀ k,k<n→avS l (amD l) (u k) (u (k + 1))=z (posR n a k) + 1:=fun k hk=>by
  unfold avS
  rw [(fw k (by omega)).1,hat k (by omega) (by omega)]
  simp only [Bool.false_eq_true,if_false]
  show (dbt l _).am=_
  rw [hdb _ (by unfold posR; split <;> omega)]
  rfl
 have hcov:∀ i,i<n→∃ k,k<n∧posR n a k=i:=fun i hi=>by
  by_cases hc:a≤i
  ·exact ⟨i - a,by omega,by unfold posR; rw [if_pos (by omega)]; omega⟩
  ·exact ⟨i + n - a,by omega,by unfold posR; rw [if_neg (by omega)]; omega⟩
 have ham:amtD l (amD l)=minK l (amD l) u n:=by unfold amtD; rw [hu0,hK,hKn]
 have hls:amtD l (amD l)=lsN z n:=by
  rw [ham]
  obtain ⟨m1,m2⟩:=minK_le l (amD l) u n
  obtain ⟨m3,m4⟩:=lsN_le z n
  have q1:minK l (amD l) u n≤lsN z n:=le_lsN m1 n fun i hi=>by
   obtain ⟨k,hk,rfl⟩:=hcov i hi
   rw [← hav k hk]
   exact m2 k hk
  have q2:lsN z n≤minK l (amD l) u n:=le_minK m3 n fun k hk=>by
   rw [hav k hk]
   exact m4 _ (by unfold posR; split <;> omega)
  omega
 have hsu:∀ k,k≤n→sumU c u k = -(k:Int):=by
  intro k
  induction k with
  | zero=>intro _; rfl
  | succ k ih =>
   intro hk
   show sumU c u k + c (u k) (u (k + 1))=_
   rw [ih (by omega),(fw k (by omega)).2.2.2.2]
   omega
 -- one of them is gone
 obtain ⟨i0,hi0,hz0⟩:∃ i0,i0<n∧nextD l (amD l) i0=0:=by
  rcases minK_att l (amD l) u n with q | ⟨k,hk,q⟩
  ·have:=(minK_le l (amD l) u n).2 0 (by omega)
   rw [hav 0 (by omega)] at this
   have:=h.z0 (posR n a 0) (by unfold posR; split <;> omega)
   omega
  ·refine ⟨posR n a k,by unfold posR; split <;> omega,?_⟩
   have e:=hT.on k (by omega)
   rw [(fw k (by omega)).1,hat k (by omega) (by omega)] at e
   rw [e]
   simp only [Bool.false_eq_true,if_false]
   rw [ham,q,hav k hk]
   show (dbt l (posR n a k)).am + _=0
   rw [hdb _ (by unfold posR; split <;> omega)]
   show z _ + 1 + -(z _ + 1)=0
   omega
 have hstep:=hI.step hM hne
 have heach:∀ i,i<n→nextD l (amD l) i=z i + 1 - lsN z n:=fun i hi=>by
  obtain ⟨k,hk,rfl⟩:=hcov i hi
  have e:=hT.on k (by omega)
  rw [(fw k (by omega)).1,hat k (by omega) (by omega)] at e
  rw [e]
  simp only [Bool.false_eq_true,if_false]
  rw [hls]
  show (dbt l (posR n a k)).am + _=_
  rw [hdb _ (by unfold posR; split <;> omega)]
  show z _ + 1 + -(lsN z n)=_
  omega
 suffices hh:wayD l (nextD l (amD l))=[]∧sumN (nextD l (amD l)) n=sumN (amD l) n - lsN z n * n from ⟨by rw [hl]; exact ⟨hstep,hh.1⟩,by rw [hl]; exact hh.2,by rw [hl]; exact heach⟩
 refine ⟨?_,?_⟩
 ·refine round_free (rdE_co _ _ _) (fun p=>if p≤i0 + 1 then -(p + n - i0 - 2) else -(p - i0 - 2)) fun e he ho=>?_
  obtain ⟨i,hi,hc⟩:=(rdE_mem _).1 he
  rw [hlen] at hi
  rw [hdb i hi] at hc
  have et:=rgD_tt n z i
  have ef:(rgD n z i).fr=(i:Int) + 1:=rfl
  unfold nxR at et
  rcases hc with ⟨hp,rfl⟩ | ⟨_,rfl⟩
  ·have hii:i≠i0:=fun e=>by rw [e,hz0] at hp; omega
   dsimp only
   rw [et,ef]
   split <;> split <;> split <;> omega
  ·dsimp only
   rw [et,ef]
   split <;> split <;> split <;> omega
 ·have e:=hT.sum
  rw [hlen,hKn,hsu n (Nat.le_refl _),hls] at e
  rw [e,Int.mul_neg]
  omega
end
end Go.Proofs.Ytlbjjkbppbmihaa
namespace Go.Proofs.Ytlbjjkbppbmihaa
theorem sumN_next (g:Nat→Int) (n:Nat):sumN g (n + 1)=sumN g n + g n:=rfl
def owedL (ls:List Ln) (c a b:Int):Int:=(lnAt ls b a c).db
def rowF (ls:List Ln) (c a:Int):Nat→List Fw
 | 0=>[]
 | k + 1=>rowF ls c a k++if 0<owedL ls c a ((k + 1:Nat):Int) then [⟨a,((k + 1:Nat):Int),owedL ls c a ((k + 1:Nat):Int)⟩] else []
def debtsF (ls:List Ln) (c:Int):Nat→List Fw
 | 0=>[]
 | k + 1=>debtsF ls c k++rowF ls c ((k + 1:Nat):Int) 16
def debtsL (ls:List Ln) (c:Int):List Fw:=debtsF ls c 16
theorem rowF_mem {ls:List Ln} {c a:Int} {x:Fw}:∀ {n:Nat},x ∈ rowF ls c a n↔∃ k:Nat,1≤k∧k≤n∧0<owedL ls c a k∧x=⟨a,k,owedL ls c a k⟩
 | 0=>by
  constructor
  ·intro h; cases h
  ·rintro ⟨k,h1,h2,_⟩; omega
 | n + 1=>by
  unfold rowF
  rw [List.mem_append,rowF_mem]
  constructor
  ·rintro (⟨k,h1,h2,h3⟩ | h)
   ·exact ⟨k,h1,by omega,h3⟩
   ·split at h
    ·rename_i hp
     rw [List.mem_singleton] at h
     exact ⟨n + 1,by omega,Nat.le_refl _,hp,h⟩
    ·cases h
  ·rintro ⟨k,h1,h2,h3,h4⟩
   by_cases hk:k=n + 1
   ·subst hk
    right
    rw [if_pos h3,List.mem_singleton]
    exact h4
   ·exact .inl ⟨k,h1,by omega,h3,h4⟩
theorem debtsF_mem {ls:List Ln} {c:Int} {x:Fw}:∀ {n:Nat},x ∈ debtsF ls c n↔∃ a:Nat,1≤a∧a≤n∧x ∈ rowF ls c a 16
 | 0=>by
  constructor
  ·intro h; cases h
  ·rintro ⟨k,h1,h2,_⟩; omega
 | n + 1=>by
  unfold debtsF
  rw [List.mem_append,debtsF_mem]
  constructor
  ·rintro (⟨k,h1,h2,h3⟩ | h)
   ·exact ⟨k,h1,by omega,h3⟩
   ·exact ⟨n + 1,by omega,Nat.le_refl _,h⟩
  ·rintro ⟨k,h1,h2,h3⟩
   by_cases hk:k=n + 1
   ·subst hk; exact .inr h3
   ·exact .inl ⟨k,h1,by omega,h3⟩
theorem debtsL_mem {ls:List Ln} {c:Int} {x:Fw}:x ∈ debtsL ls c↔(1≤x.fr∧x.fr≤16)∧(1≤x.tt∧x.tt≤16)∧0<x.am∧x.am=owedL ls c x.fr x.tt:=by
 unfold debtsL
 rw [debtsF_mem]
 constructor
 ·rintro ⟨a,h1,h2,h3⟩
  obtain ⟨k,h4,h5,h6,rfl⟩:=rowF_mem.1 h3
  exact ⟨by dsimp only; omega,by dsimp only; omega,h6,rfl⟩
 ·rintro ⟨h1,h2,h3,h4⟩
  refine ⟨x.fr.toNat,by omega,by omega,rowF_mem.2 ⟨x.tt.toNat,by omega,by omega,?_,?_⟩⟩
  ·rw [Int.toNat_of_nonneg (by omega),Int.toNat_of_nonneg (by omega),← h4]; exact h3
  ·rw [Int.toNat_of_nonneg (by omega),Int.toNat_of_nonneg (by omega),← h4]
theorem rowF_sorted {ls:List Ln} {c a:Int}:∀ n:Nat,(rowF ls c a n).Pairwise fun x y=>keyD x<keyD y
 | 0=>List.Pairwise.nil
 | n + 1=>by
  unfold rowF
  rw [List.pairwise_append]
  refine ⟨rowF_sorted n,by split <;> simp,fun x hx y hy=>?_⟩
  obtain ⟨k,h1,h2,_,rfl⟩:=rowF_mem.1 hx
  split at hy
  ·rw [List.mem_singleton] at hy
   subst hy
   unfold keyD
   dsimp only
   omega
  ·cases hy
theorem debtsF_sorted {ls:List Ln} {c:Int}:∀ n:Nat,(debtsF ls c n).Pairwise fun x y=>keyD x<keyD y
 | 0=>List.Pairwise.nil
 | n + 1=>by
  unfold debtsF
  rw [List.pairwise_append]
  refine ⟨debtsF_sorted n,rowF_sorted 16,fun x hx y hy=>?_⟩
  obtain ⟨a,h1,h2,h3⟩:=debtsF_mem.1 hx
  obtain ⟨k,h4,h5,_,rfl⟩:=rowF_mem.1 h3
  obtain ⟨j,h6,h7,_,rfl⟩:=rowF_mem.1 hy
  unfold keyD
  dsimp only
  omega
theorem debtsL_sorted (ls:List Ln) (c:Int):(debtsL ls c).Pairwise fun x y=>keyD x<keyD y:=debtsF_sorted 16
attribute [irreducible] debtsL debtsF rowF
theorem key_ext:∀ (l m:List Fw),l.Pairwise (fun x y=>keyD x<keyD y)→m.Pairwise (fun x y=>keyD x<keyD y)→(∀ x,x ∈ l↔x ∈ m)→l=m
 | [],[],_,_,_=>rfl
 | [],y::m,_,_,h=>by have:=(h y).2 List.mem_cons_self; cases this
 | x::l,[],_,_,h=>by have:=(h x).1 List.mem_cons_self; cases this
 | x::l,y::m,hl,hm,h=>by
  obtain ⟨a1,a2⟩:=List.pairwise_cons.1 hl
  obtain ⟨b1,b2⟩:=List.pairwise_cons.1 hm
  have hxy:x=y:=by
   rcases List.mem_cons.1 ((h x).1 List.mem_cons_self) with e | e
   ·exact e
   ·rcases List.mem_cons.1 ((h y).2 List.mem_cons_self) with e' | e'
    ·exact e'.symm
    ·have:=a1 y e'; have:=b1 x e; omega
  subst hxy
  rw [key_ext l m a2 b2 (fun z=>?_)]
  constructor
  ·intro hz
   rcases List.mem_cons.1 ((h z).1 (List.mem_cons_of_mem _ hz)) with e | e
   ·subst e; have:=a1 z hz; omega
   ·exact e
  ·intro hz
   rcases List.mem_cons.1 ((h z).2 (List.mem_cons_of_mem _ hz)) with e | e
   ·subst e; have:=b1 z hz; omega
   ·exact e
theorem dbt_sorted {D:List Fw} (h:D.Pairwise fun x y=>keyD x<keyD y) {i j:Nat} (hij:i<j) (hj:j<D.length):keyD (dbt D i)<keyD (dbt D j):=by
 rw [dbt_get hj,dbt_get (by omega)]
 exact List.pairwise_iff_getElem.1 h i j (by omega) hj hij
theorem owed_line {ps:List Int} {ls:List Ln} (h:LInv ps ls) {c a b:Int} (hp:0<owedL ls c a b):∃ y,lineL ls b a c=some y∧lnAt ls b a c=y∧y.Good∧y.cr=b∧y.de=a∧y.cu=c:=by
 unfold owedL at hp
 cases hl:lineL ls b a c with
 | none=>rw [lnAt_none hl] at hp; exact absurd hp (by decide)
 | some y =>
  obtain ⟨hm,h1,h2,h3⟩:=lineL_mem hl
  exact ⟨y,rfl,lnAt_some hl,h.inv.good y hm,h1,h2,h3⟩
theorem debtsL_may {ps:List Int} {ls:List Ln} (h:LInv ps ls) (c:Int):MayD (debtsL ls c):=by
 refine ⟨fun i hi=>?_,fun i hi=>dbt_sorted (debtsL_sorted ls c) (Nat.lt_succ_self i) hi⟩
 obtain ⟨h1,h2,h3,h4⟩:=debtsL_mem.1 (dbt_mem hi)
 obtain ⟨y,_,hy,hg,k1,k2,_⟩:=owed_line h (c:=c) (by rw [← h4]; exact h3)
 have hd:=hg.db
 have hl:=hg.li
 have hn:=hg.ne
 have e:(dbt (debtsL ls c) i).am=y.db:=by rw [h4]; unfold owedL; rw [hy]
 exact ⟨h1,h2,by rw [← k1,← k2]; exact fun e=>hn e.symm,by omega,by omega⟩
theorem forgive_at {ps:List Int} {ls:List Ln} (h:LInv ps ls) {a b c n:Int} (h1:1≤n) (h2:n≤(lnAt ls a b c).db) :
  forgiveE ls a b c n=0∧(∀ a' b' c',lineL (forgiveL ls a b c n) a' b' c'=if a=a'∧b=b'∧c=c' then some ((lnAt ls a b c).owe ((lnAt ls a b c).db - n)) else lineL ls a' b' c') ∧
   (∀ p q,posL (forgiveL ls a b c n) p q=posL ls p q + if q=c then (if b=p then n else 0) - (if a=p then n else 0) else 0)∧(∀ q,totL (forgiveL ls a b c n) q=totL ls q - if q=c then n else 0):=by
 cases hl:lineL ls a b c with
 | none=>rw [lnAt_none hl] at h2; exact absurd h2 (by unfold noLn; dsimp only; omega)
 | some x =>
  rw [lnAt_some hl] at h2
  have hE:forgiveE ls a b c n=0:=by
   unfold forgiveE
   rw [if_neg (by omega),if_neg (by rw [hl]; simp),lnAt_some hl,if_neg (by omega)]
  obtain ⟨hm,k1,k2,k3⟩:=lineL_mem hl
  have hg:=h.inv.good x hm
  have hdb:=hg.db
  obtain ⟨_,f,s,_⟩:=owe_set h.inv hl (d:=x.db - n) (by omega) (by omega)
  have hF:forgiveL ls a b c n=setL ls (x.owe (x.db - n)):=by
   unfold forgiveL
   rw [if_pos hE,lnAt_some hl]
  refine ⟨hE,?_,fun p q=>?_,fun q=>?_⟩
  ·rw [hF,lnAt_some hl]; exact f
  ·rw [hF]
   unfold posL
   rw [s (posOf p q) (posOf_noLn p q)]
   unfold posOf Ln.owe
   simp only [k1,k2,k3]
   by_cases hq:c=q
   ·subst hq
    simp only [if_true]
    (repeat' split) <;> omega
   ·rw [if_neg hq,if_neg hq,if_neg (fun e=>hq e.symm)]
    omega
  ·rw [hF]
   unfold totL
   rw [s (totOf q) (by unfold totOf noLn; simp)]
   unfold totOf Ln.owe
   simp only [k3]
   by_cases hq:c=q
   ·subst hq
    simp only [if_true]
    omega
   ·rw [if_neg hq,if_neg hq,if_neg (fun e=>hq e.symm)]
    omega
theorem forgive_none {ls:List Ln} {a b c n:Int} (h:n<1):forgiveL ls a b c n=ls:=by
 unfold forgiveL forgiveE
 rw [if_pos h,if_neg (by decide)]
def netTo (ls:List Ln) (c:Int) (D:List Fw) (L:Nat→Int):Nat→List Ln
 | 0=>ls
 | k + 1=>forgiveL (netTo ls c D L k) (dbt D k).tt (dbt D k).fr c ((dbt D k).am - L k)
def netL (ls:List Ln) (c:Int) (L:Nat→Int):List Ln:=netTo ls c (debtsL ls c) L (debtsL ls c).length
theorem netTo_inv {ps:List Int} {ls:List Ln} (h:LInv ps ls) (c:Int) (D:List Fw) (L:Nat→Int):∀ k,LInv ps (netTo ls c D L k)
 | 0=>h
 | k + 1=>(netTo_inv h c D L k).forgive _ _ _ _
structure NetTo (ls:List Ln) (c:Int) (D:List Fw) (L:Nat→Int) (k:Nat) (ms:List Ln):Prop where
 here:∀ i,i<k→lineL ms (dbt D i).tt (dbt D i).fr c=(lineL ls (dbt D i).tt (dbt D i).fr c).map (fun x=>x.owe (L i))
 else_:∀ a b q,(∀ i,i<k→¬ (q=c∧(dbt D i).tt=a∧(dbt D i).fr=b))→lineL ms a b q=lineL ls a b q
 pos:∀ p q,posL ms p q=posL ls p q - if q=c then sumN (fun i=>psD D p i ((dbt D i).am - L i)) k else 0
 tot:∀ q,totL ms q=totL ls q - if q=c then sumN (fun i=>(dbt D i).am - L i) k else 0
theorem owe_same {x:Ln} {d:Int} (h:x.db=d):x.owe d=x:=by subst h; rfl
set_option maxHeartbeats 4000000 in
theorem net_to {ps:List Int} {ls:List Ln} (h:LInv ps ls) (c:Int) {L:Nat→Int} (hL:RdOk (debtsL ls c) L):∀ k,k≤(debtsL ls c).length→NetTo ls c (debtsL ls c) L k (netTo ls c (debtsL ls c) L k)
 | 0,_=>⟨fun i hi=>by omega,fun _ _ _ _=>rfl,fun p q=>by simp [sumN,netTo],fun q=>by simp [sumN,netTo]⟩
 | k + 1,hk=>by
  have ih:=net_to h c hL k (by omega)
  have hI:=netTo_inv h c (debtsL ls c) L k
  have hkl:k<(debtsL ls c).length:=by omega
  obtain ⟨d1,d2,d3,d4⟩:=debtsL_mem.1 (dbt_mem hkl)
  obtain ⟨y,hy,hya,hg,y1,y2,y3⟩:=owed_line h (c:=c) (by rw [← d4]; exact d3)
  have hM:=debtsL_may h c
  have hnew:∀ i,i<k→¬ ((dbt (debtsL ls c) i).tt=(dbt (debtsL ls c) k).tt∧(dbt (debtsL ls c) i).fr=(dbt (debtsL ls c) k).fr):=fun i hi e=>by
   have:=hM.inj (show i<(debtsL ls c).length by omega) hkl e.2 e.1
   omega
  have hold:lineL (netTo ls c (debtsL ls c) L k) (dbt (debtsL ls c) k).tt (dbt (debtsL ls c) k).fr c=some y:=by
   rw [ih.else_ _ _ _ (fun i hi e=>hnew i hi e.2),hy]
  have ham:(dbt (debtsL ls c) k).am=y.db:=by rw [d4]; unfold owedL; rw [hya]
  have lo:=hL.lo k hkl
  have hi_:=hL.hi k hkl
  show NetTo ls c (debtsL ls c) L (k + 1) (forgiveL (netTo ls c (debtsL ls c) L k) (dbt (debtsL ls c) k).tt (dbt (debtsL ls c) k).fr c ((dbt (debtsL ls c) k).am - L k))
  by_cases hz:(dbt (debtsL ls c) k).am - L k<1
  ·rw [forgive_none hz]
   have he:(dbt (debtsL ls c) k).am - L k=0:=by omega
   refine ⟨fun i hi=>?_,fun a b q hn=>ih.else_ a b q (fun i hi=>hn i (by omega)),fun p q=>?_,fun q=>?_⟩
   ·by_cases hik:i=k
    ·subst hik
     rw [hold,hy]
     simp only [Option.map_some]
     rw [owe_same (by omega)]
    ·exact ih.here i (by omega)
   ·rw [ih.pos p q]
    congr 1
    split
    ·rw [sumN_next,he]
     unfold psD
     simp
    ·rfl
   ·rw [ih.tot q]
    congr 1
    split
    ·rw [sumN_next,he]
     omega
    ·rfl
  ·obtain ⟨_,f,s1,s2⟩:=forgive_at hI (a:=(dbt (debtsL ls c) k).tt) (b:=(dbt (debtsL ls c) k).fr) (c:=c) (n:=(dbt (debtsL ls c) k).am - L k) (by omega) (by rw [lnAt_some hold]; omega)
   rw [lnAt_some hold] at f
   refine ⟨fun i hi=>?_,fun a b q hn=>?_,fun p q=>?_,fun q=>?_⟩
   ·rw [f]
    by_cases hik:i=k
    ·subst hik
     rw [if_pos ⟨rfl,rfl,rfl⟩,hy]
     simp only [Option.map_some]
     congr 2
     omega
    ·rw [if_neg (fun e=>hnew i (by omega) ⟨e.1.symm,e.2.1.symm⟩)]
     exact ih.here i (by omega)
   ·rw [f,if_neg (fun e=>hn k (by omega) ⟨e.2.2.symm,e.1,e.2.1⟩)]
    exact ih.else_ a b q (fun i hi=>hn i (by omega))
   ·rw [s1 p q,ih.pos p q]
    split
    ·rw [sumN_next]
     unfold psD
     omega
    ·omega
   ·rw [s2 q,ih.tot q]
    split
    ·rw [sumN_next]
     omega
    ·omega
theorem net_is {ps:List Int} {ls:List Ln} (h:LInv ps ls) (c:Int) {L:Nat→Int} (hL:RdOk (debtsL ls c) L):NetTo ls c (debtsL ls c) L (debtsL ls c).length (netL ls c L):=net_to h c hL _ (Nat.le_refl _)
theorem netL_inv {ps:List Int} {ls:List Ln} (h:LInv ps ls) (c:Int) (L:Nat→Int):LInv ps (netL ls c L):=netTo_inv h c _ L _
theorem debt_of {ps:List Int} {ls:List Ln} (h:LInv ps ls) {c a b:Int} (hp:0<owedL ls c a b):∃ i,i<(debtsL ls c).length∧dbt (debtsL ls c) i=⟨a,b,owedL ls c a b⟩:=by
 obtain ⟨y,hl,_,hg,k1,k2,_⟩:=owed_line h hp
 have h1:=hg.cr
 have h2:=hg.de
 rw [k1] at h1
 rw [k2] at h2
 exact mem_dbt (show (⟨a,b,owedL ls c a b⟩:Fw) ∈ debtsL ls c from debtsL_mem.2 ⟨h2,h1,hp,rfl⟩)
theorem owed_nn {ps:List Int} {ls:List Ln} (h:LInv ps ls) (c a b:Int):0≤owedL ls c a b:=(lnAt_bd h.inv.good b a c).1
theorem net_owed {ps:List Int} {ls:List Ln} (h:LInv ps ls) (c:Int) {L:Nat→Int} (hL:RdOk (debtsL ls c) L) :
  (∀ i,i<(debtsL ls c).length→owedL (netL ls c L) c (dbt (debtsL ls c) i).fr (dbt (debtsL ls c) i).tt=L i)∧(∀ a b q,(∀ i,i<(debtsL ls c).length→¬ (q=c∧(dbt (debtsL ls c) i).tt=b∧(dbt (debtsL ls c) i).fr=a))→owedL (netL ls c L) q a b=owedL ls q a b):=by
 have N:=net_is h c hL
 refine ⟨fun i hi=>?_,fun a b q hn=>?_⟩
 ·obtain ⟨d1,d2,d3,d4⟩:=debtsL_mem.1 (dbt_mem hi)
  obtain ⟨y,hy,_⟩:=owed_line h (c:=c) (by rw [← d4]; exact d3)
  have e:=N.here i hi
  rw [hy] at e
  unfold owedL
  rw [lnAt_some e]
  rfl
 ·unfold owedL lnAt
  rw [N.else_ b a q hn]
theorem net_debts {ps:List Int} {ls:List Ln} (h:LInv ps ls) (c:Int) {L:Nat→Int} (hL:RdOk (debtsL ls c) L):debtsL (netL ls c L) c=leftL (debtsL ls c) L:=by
 obtain ⟨n1,n2⟩:=net_owed h c hL
 refine key_ext _ _ (debtsL_sorted _ _) (leftN_sorted (debtsL_may h c) L _ (Nat.le_refl _)) (fun x=>?_)
 rw [debtsL_mem]
 show _↔x ∈ leftN (debtsL ls c) L (debtsL ls c).length
 rw [leftN_mem]
 constructor
 ·rintro ⟨h1,h2,h3,h4⟩
  by_cases hp:∃ i,i<(debtsL ls c).length∧(dbt (debtsL ls c) i).tt=x.tt∧(dbt (debtsL ls c) i).fr=x.fr
  ·obtain ⟨i,hi,e1,e2⟩:=hp
   have e:=n1 i hi
   rw [e1,e2,← h4] at e
   exact ⟨i,hi,by omega,by cases x; simp_all⟩
  ·rw [n2 _ _ _ (fun i hi e=>hp ⟨i,hi,e.2⟩)] at h4
   obtain ⟨i,hi,e⟩:=debt_of h (c:=c) (a:=x.fr) (b:=x.tt) (by rw [← h4]; exact h3)
   exact absurd ⟨i,hi,by rw [e],by rw [e]⟩ hp
 ·rintro ⟨i,hi,hp,rfl⟩
  obtain ⟨d1,d2,d3,d4⟩:=debtsL_mem.1 (dbt_mem hi)
  exact ⟨d1,d2,hp,(n1 i hi).symm⟩
theorem sum_none {ls:List Ln} (f:Ln→Int) (h:∀ x ∈ ls,f x=0):(ls.map f).sum=0:=by
 induction ls with
 | nil=>rfl
 | cons x l ih=>rw [List.map_cons,List.sum_cons,h x List.mem_cons_self,ih (fun y hy=>h y (List.mem_cons_of_mem _ hy))]; rfl
theorem RdOk.zero (D:List Fw) (hM:MayD D):RdOk D (fun _=>0):=⟨fun _ _=>Int.le_refl _,fun i hi=>by have:=(hM.ok i hi).2.2.2.1; omega⟩
theorem debts_tot {ps:List Int} {ls:List Ln} (h:LInv ps ls) (c:Int):sumN (amD (debtsL ls c)) (debtsL ls c).length=totL ls c∧∀ p,posD (debtsL ls c) (amD (debtsL ls c)) p=posL ls p c:=by
 have hZ:=RdOk.zero (debtsL ls c) (debtsL_may h c)
 have N:=net_is h c hZ
 have hI:=netL_inv h c (fun _=>0)
 have hz:∀ x ∈ netL ls c (fun _=>0),x.cu=c→x.db=0:=fun x hx hc=>by
  have hl:=(line_iff hI.inv x.cr x.de x.cu x).2 ⟨hx,rfl,rfl,rfl⟩
  rw [hc] at hl
  have e:owedL (netL ls c fun _=>0) c x.de x.cr=x.db:=by unfold owedL; rw [lnAt_some hl]
  rw [← e]
  by_cases hp:∃ i,i<(debtsL ls c).length∧(dbt (debtsL ls c) i).tt=x.cr∧(dbt (debtsL ls c) i).fr=x.de
  ·obtain ⟨i,hi,e1,e2⟩:=hp
   rw [← e1,← e2]
   exact (net_owed h c hZ).1 i hi
  ·rw [(net_owed h c hZ).2 _ _ _ (fun i hi e=>hp ⟨i,hi,e.2⟩)]
   refine Classical.byContradiction fun hne=>hp ?_
   have:=owed_nn h c x.de x.cr
   obtain ⟨i,hi,e⟩:=debt_of h (c:=c) (a:=x.de) (b:=x.cr) (by omega)
   exact ⟨i,hi,by rw [e],by rw [e]⟩
 constructor
 ·have e:=N.tot c
  rw [if_pos rfl] at e
  have e0:totL (netL ls c fun _=>0) c=0:=sum_none _ (fun x hx=>by
   unfold totOf
   split
   ·rename_i hc; exact hz x hx hc
   ·rfl)
  rw [e0] at e
  have e2:sumN (fun i=>(dbt (debtsL ls c) i).am - 0) (debtsL ls c).length=sumN (amD (debtsL ls c)) (debtsL ls c).length:=sumN_congr _ (fun i _=>by show _ - 0=(dbt (debtsL ls c) i).am; omega)
  rw [e2] at e
  omega
 ·intro p
  have e:=N.pos p c
  rw [if_pos rfl] at e
  have e0:posL (netL ls c fun _=>0) p c=0:=sum_none _ (fun x hx=>by
   unfold posOf
   split
   ·rename_i hc; rw [hz x hx hc]; simp
   ·rfl)
  rw [e0] at e
  have e2:sumN (fun i=>psD (debtsL ls c) p i ((dbt (debtsL ls c) i).am - 0)) (debtsL ls c).length=posD (debtsL ls c) (amD (debtsL ls c)) p:=by
   unfold posD
   exact sumN_congr _ (fun i _=>by show psD _ p i (_ - 0)=psD _ p i (dbt (debtsL ls c) i).am; rw [Int.sub_zero])
  rw [e2] at e
  omega
theorem sumN_sub (f g:Nat→Int):∀ n,sumN (fun i=>f i - g i) n=sumN f n - sumN g n
 | 0=>rfl
 | n + 1=>by
  show sumN _ n + (f n - g n)=sumN f n + f n - (sumN g n + g n)
  rw [sumN_sub f g n]
  omega
theorem net_tot {ps:List Int} {ls:List Ln} (h:LInv ps ls) (c:Int) {L:Nat→Int} (hL:RdOk (debtsL ls c) L):totL (netL ls c L) c=sumN L (debtsL ls c).length:=by
 rw [(net_is h c hL).tot c,if_pos rfl,sumN_sub,← (debts_tot h c).1]
 show sumN (amD (debtsL ls c)) _ - (sumN (amD (debtsL ls c)) _ - sumN L _)=_
 omega
end Go.Proofs.Ytlbjjkbppbmihaa
namespace Go.Proofs.Ytlbjjkbppbmihaa
open Go.RowKit
theorem net_lims {ps:List Int} {ls:List Ln} (h:LInv ps ls) (c:Int) {L:Nat→Int} (hL:RdOk (debtsL ls c) L):limL (netL ls c L)=limL ls:=by
 have N:=net_is h c hL
 have iv:=(netL_inv h c L).inv
 have f:∀ a b q,lineL (netL ls c L) a b q=lineL ls a b q∨∃ d,lineL (netL ls c L) a b q=(lineL ls a b q).map fun x=>x.owe d:=fun a b q=>by
  by_cases hp:∃ i,i<(debtsL ls c).length∧q=c∧(dbt (debtsL ls c) i).tt=a∧(dbt (debtsL ls c) i).fr=b
  ·obtain ⟨i,hi,rfl,rfl,rfl⟩:=hp
   exact .inr ⟨_,N.here i hi⟩
  ·exact .inl (N.else_ a b q (fun i hi e=>hp ⟨i,hi,e⟩))
 have hs:∀ {m:List Ln},m.Pairwise (fun x y=>x.rank<y.rank)→(limL m).Pairwise (fun x y=>x.rank<y.rank):=fun {m} hm=>by
  unfold limL
  rw [List.pairwise_map]
  exact hm
 refine sorted_ext _ _ (hs iv.sorted) (hs h.inv.sorted) fun z=>?_
 unfold limL
 rw [List.mem_map,List.mem_map]
 constructor
 ·rintro ⟨y,hy,rfl⟩
  have hl:=(line_iff iv y.cr y.de y.cu y).2 ⟨hy,rfl,rfl,rfl⟩
  rcases f y.cr y.de y.cu with e | ⟨d,e⟩
  ·rw [e] at hl
   exact ⟨y,(lineL_mem hl).1,rfl⟩
  ·rw [e] at hl
   obtain ⟨x,hx,e2⟩:=Option.map_eq_some_iff.1 hl
   exact ⟨x,(lineL_mem hx).1,by rw [← e2]; rfl⟩
 ·rintro ⟨x,hx,rfl⟩
  have hl:=(line_iff h.inv x.cr x.de x.cu x).2 ⟨hx,rfl,rfl,rfl⟩
  rcases f x.cr x.de x.cu with e | ⟨d,e⟩
  ·rw [hl] at e
   exact ⟨x,(lineL_mem e).1,rfl⟩
  ·rw [hl] at e
   exact ⟨_,(lineL_mem e).1,rfl⟩
end Go.Proofs.Ytlbjjkbppbmihaa
namespace Go.Proofs.Ytlbjjkbppbmihaa
open Go.RowKit
structure RgL (n:Nat) (z:Nat→Int) (c:Int) (k:Nat) (ls:List Ln):Prop where
 here:∀ i:Nat,i<k→lineL ls (((nxR n i:Nat):Int) + 1) ((i:Int) + 1) c=some ⟨((nxR n i:Nat):Int) + 1,(i:Int) + 1,c,z i + 1,z i + 1⟩
 else_:∀ a b q:Int,(∀ i:Nat,i<k→¬ (a=((nxR n i:Nat):Int) + 1∧b=(i:Int) + 1∧q=c))→lineL ls a b q=none
 len:ls.length≤k
theorem RgL.zero (n:Nat) (z:Nat→Int) (c:Int):RgL n z c 0 []:=⟨fun i hi=>by omega,fun _ _ _ _=>rfl,Nat.le_refl _⟩
theorem nxR_lt {n i:Nat} (hi:i<n):nxR n i<n:=by unfold nxR; split <;> omega
theorem nxR_ne {n i:Nat} (h:3≤n):nxR n i≠i:=by unfold nxR; split <;> omega
theorem nxR_back {n i:Nat} (h:3≤n) (hi:i<n):nxR n (nxR n i)≠i:=by unfold nxR; split <;> split <;> omega
structure RgStep (n:Nat) (z:Nat→Int) (c:Int) (k:Nat) (ps:List Int) (ls:List Ln):Prop where
 te:trustE ps ls ((nxR n k:Nat) + 1) ((k:Int) + 1) c (z k + 1)=0
 pe:pushE ps (trustL ps ls ((nxR n k:Nat) + 1) ((k:Int) + 1) c (z k + 1)) ((k:Int) + 1) ((nxR n k:Nat) + 1) c (z k + 1)=0
 then_:RgL n z c (k + 1) (pushL ps (trustL ps ls ((nxR n k:Nat) + 1) ((k:Int) + 1) c (z k + 1)) ((k:Int) + 1) ((nxR n k:Nat) + 1) c (z k + 1))
set_option maxHeartbeats 4000000 in
theorem RgL.step {n:Nat} {z:Nat→Int} {c:Int} {k:Nat} {ps:List Int} {ls:List Ln} (h:RgL n z c k ls) (hI:LInv ps ls) (hz:RingZ n z) (hc:1≤c∧c≤8) (hp:∀ p,1≤p→p≤(n:Int)→p ∈ ps) (hk:k<n):RgStep n z c k ps ls:=by
 have n3:=hz.n3
 have n16:=hz.n16
 obtain ⟨z0,z9⟩:=hz.z0 k hk
 have x1:=nxR_lt hk
 have x2:=nxR_ne (n:=n) (i:=k) n3
 have x3:=nxR_back n3 hk
 obtain ⟨a,ha⟩:∃ a:Int,((nxR n k:Nat):Int) + 1=a:=⟨_,rfl⟩
 obtain ⟨b,hb⟩:∃ b:Int,(k:Int) + 1=b:=⟨_,rfl⟩
 have hab:a≠b:=by omega
 have pa:a ∈ ps:=hp a (by omega) (by omega)
 have pb:b ∈ ps:=hp b (by omega) (by omega)
 have l1:lineL ls a b c=none:=h.else_ _ _ _ (fun i hi e=>by omega)
 have l2:lineL ls b a c=none:=h.else_ _ _ _ (fun i hi e=>by
  have e1:nxR n i=k:=by omega
  have e2:i=nxR n k:=by omega
  rw [e2] at e1
  exact x3 e1)
 have hlen:=h.len
 have te:trustE ps ls a b c (z k + 1)=0:=by
  unfold trustE
  rw [if_neg (by omega),if_neg (by simp [pa,pb]),lnAt_none l1,if_neg (by show ¬ z k + 1<0; omega),if_neg (by omega)]
 have tl:trustL ps ls a b c (z k + 1)=setL ls ⟨a,b,c,z k + 1,0⟩:=by
  unfold trustL
  rw [if_pos te,lnAt_none l1]
  rfl
 have good:(⟨a,b,c,z k + 1,0⟩:Ln).Good:=⟨⟨by show 1≤a; omega,by show a≤16; omega⟩,⟨by show 1≤b; omega,by show b≤16; omega⟩,hc,hab,⟨by show 1≤z k + 1; omega,by show z k + 1≤1099511627776; omega⟩,⟨Int.le_refl _,by show 0≤z k + 1; omega⟩⟩
 have IT:=hI.trust a b c (z k + 1)
 have f1:=fun a' b' c'=>line_set hI.inv (x:=⟨a,b,c,z k + 1,0⟩) (fun _=>good) good.fits a' b' c'
 rw [tl] at IT
 have hl1:=setL_len ls ⟨a,b,c,z k + 1,0⟩
 generalize hT:setL ls ⟨a,b,c,z k + 1,0⟩=lt at *
 have m1:lineL lt a b c=some ⟨a,b,c,z k + 1,0⟩:=by
  rw [f1,if_pos ⟨rfl,rfl,rfl⟩,if_neg (by show ¬ z k + 1=0; omega)]
 have m2:lineL lt b a c=none:=by
  rw [f1,if_neg (by rintro ⟨e,_⟩; exact hab e),l2]
 have rm:roomL ps lt b a c=z k + 1:=by
  unfold roomL
  rw [if_neg (by rintro (e | e | e); exact hab e.symm; exact e pb; exact e pa),lnAt_some m1,lnAt_none m2]
  show (0:Int) + (z k + 1) - 0=z k + 1
  omega
 have pe:pushE ps lt b a c (z k + 1)=0:=by
  unfold pushE
  rw [if_neg (by omega),if_neg (by rw [rm]; omega)]
 have pl:pushL ps lt b a c (z k + 1)=pushTo lt b a c (z k + 1):=by unfold pushL; rw [if_pos pe]
 obtain ⟨_,dl,f2,_⟩:=push_done IT.inv (a:=b) (b:=a) (c:=c) (n:=z k + 1) (fun e=>hab e.symm) (by omega) (by
  rw [lnAt_some m1,lnAt_none m2]
  show z k + 1≤0 + (z k + 1) - 0
  omega)
 refine ⟨?_,?_,?_⟩
 ·rw [ha,hb]; exact te
 ·rw [ha,hb,tl]; exact pe
 ·rw [ha,hb,tl,pl]
  refine ⟨fun i hi=>?_,fun a' b' q hn=>?_,?_⟩
  ·rw [f2]
   by_cases hik:i=k
   ·subst hik
    rw [ha,hb,if_neg (by rintro ⟨e,_⟩; exact hab e.symm),if_pos ⟨rfl,rfl,rfl⟩,m1,lnAt_none m2]
    simp only [Option.map_some,Ln.owe,noLn]
    rw [show (0:Int) + (z i + 1 - min (z i + 1) 0)=z i + 1 by omega]
   ·have y1:=nxR_lt (show i<n by omega)
    rw [if_neg (by
     rintro ⟨e1,e2,_⟩
     have e3:nxR n i=k:=by omega
     have e4:i=nxR n k:=by omega
     rw [e4] at e3
     exact x3 e3),if_neg (by rintro ⟨_,e2,_⟩; omega),f1,if_neg (by rintro ⟨_,e2,_⟩; dsimp only at e2; omega)]
    exact h.here i (by omega)
  ·rw [f2]
   have hk':=hn k (by omega)
   rw [ha,hb] at hk'
   by_cases e1:b=a'∧a=b'∧c=q
   ·rw [if_pos e1,m2]; rfl
   ·rw [if_neg e1,if_neg (by rintro ⟨e2,e3,e4⟩; exact hk' ⟨e2.symm,e3.symm,e4.symm⟩),f1,if_neg (by rintro ⟨e2,e3,e4⟩; exact hk' ⟨e2.symm,e3.symm,e4.symm⟩)]
    exact h.else_ _ _ _ (fun i hi=>hn i (by omega))
  ·rw [dl]; omega
theorem ringL_mem {n:Nat} {z:Nat→Int} {x:Fw}:∀ {k:Nat},x ∈ ringL n z k↔∃ i,i<k∧x=rgD n z i
 | 0=>by constructor; (intro h; cases h); (rintro ⟨i,hi,_⟩; omega)
 | k + 1=>by
  rw [ringL_next,List.mem_append,ringL_mem,List.mem_singleton]
  constructor
  ·rintro (⟨i,hi,e⟩ | e)
   ·exact ⟨i,by omega,e⟩
   ·exact ⟨k,by omega,e⟩
  ·rintro ⟨i,hi,e⟩
   by_cases hik:i=k
   ·subst hik; exact .inr e
   ·exact .inl ⟨i,by omega,e⟩
theorem MayD.sorted {l:List Fw} (h:MayD l):l.Pairwise fun x y=>keyD x<keyD y:=by
 rw [List.pairwise_iff_getElem]
 intro i j hi hj hij
 have:=h.lt (i:=i) (j - i - 1) (by omega)
 rw [show i + (j - i - 1) + 1=j by omega,dbt_get hi,dbt_get hj] at this
 exact this
theorem RgL.debts {n:Nat} {z:Nat→Int} {c:Int} {ls:List Ln} (h:RgL n z c n ls) (hz:RingZ n z):debtsL ls c=ringL n z n:=by
 refine key_ext _ _ (debtsL_sorted ls c) (ring_may hz (Nat.le_refl n)).sorted (fun x=>?_)
 have n3:=hz.n3
 have n16:=hz.n16
 rw [debtsL_mem,ringL_mem]
 constructor
 ·rintro ⟨h1,h2,h3,h4⟩
  by_cases hp:∃ i,i<n∧x.tt=(nxR n i:Nat) + 1∧x.fr=(i:Int) + 1∧c=c
  ·obtain ⟨i,hi,e1,e2,_⟩:=hp
   have hl:=h.here i hi
   rw [← e1,← e2] at hl
   have e3:x.am=z i + 1:=by rw [h4]; unfold owedL; rw [lnAt_some hl]
   refine ⟨i,hi,?_⟩
   have et:=rgD_tt n z i
   have ef:(rgD n z i).fr=(i:Int) + 1:=rfl
   have ea:(rgD n z i).am=z i + 1:=rfl
   generalize rgD n z i=y at *
   cases x
   cases y
   simp_all
  ·have hl:=h.else_ x.tt x.fr c (fun i hi e=>hp ⟨i,hi,e⟩)
   unfold owedL at h4
   rw [lnAt_none hl] at h4
   have:x.am=0:=h4
   omega
 ·rintro ⟨i,hi,rfl⟩
  have hl:=h.here i hi
  have x1:=nxR_lt hi
  obtain ⟨z0,z9⟩:=hz.z0 i hi
  have et:=rgD_tt n z i
  have ef:(rgD n z i).fr=(i:Int) + 1:=rfl
  have ea:(rgD n z i).am=z i + 1:=rfl
  rw [et,ef,ea]
  refine ⟨by omega,by omega,by omega,?_⟩
  unfold owedL
  rw [lnAt_some hl]
structure RgNet (n:Nat) (z:Nat→Int) (c:Int) (ls:List Ln) (L:Nat→Int):Prop where
 least:IsLeast (debtsL ls c) L 1
 gone:totL ls c - totL (netL ls c L) c=lsN z n * n
 each:∀ i,i<n→(lnAt (netL ls c L) ((nxR n i:Nat) + 1) ((i:Int) + 1) c).db=z i + 1 - lsN z n
theorem RgL.net {n:Nat} {z:Nat→Int} {c:Int} {ps:List Int} {ls:List Ln} (h:RgL n z c n ls) (hI:LInv ps ls) (hz:RingZ n z):RgNet n z c ls (nextD (ringL n z n) (amD (ringL n z n))):=by
 have hD:=h.debts hz
 have hr:=ring_done hz
 have hL:IsLeast (debtsL ls c) (nextD (ringL n z n) (amD (ringL n z n))) 1:=by rw [hD]; exact hr.least
 refine ⟨hL,?_,fun i hi=>?_⟩
 ·have t1:=net_tot hI c hL.inv.ok
  have t2:=(debts_tot hI c).1
  have t3:=hr.sum
  rw [hD,ringL_len] at t1 t2
  omega
 ·have e:=(net_owed hI c hL.inv.ok).1 i (by rw [hD,ringL_len]; exact hi)
  rw [hD,dbt_ring hi,rgD_tt] at e
  rw [hr.each i hi] at e
  exact e
end Go.Proofs.Ytlbjjkbppbmihaa
namespace Go.Proofs.Ytlbjjkbppbmihaa
open Go.RowKit
def DebtsBy (g:Nat) (w:World) (ao:Option Addr) (l:List Fw):Prop :=
 0<l.length→∃ b off,ao=some ⟨b,off,none⟩∧b<w.heap.size∧b≠g∧∀ m,m<l.length→w.cell? ⟨b,off + m * 3,none⟩=some (.int .u8 (dbt l m).fr)∧w.cell? ⟨b,off + m * 3 + 1,none⟩=some (.int .u8 (dbt l m).tt)∧w.cell? ⟨b,off + m * 3 + 2,none⟩=some (.int .i64 (dbt l m).am)
theorem DebtsBy.keep {g:Nat} {w w':World} {ao:Option Addr} {l:List Fw} (h:DebtsBy g w ao l) (k:Keep (·=g) w w'):DebtsBy g w' ao l:=fun h0=>by
 obtain ⟨b,off,h1,h2,h3,h4⟩:=h h0
 refine ⟨b,off,h1,Nat.lt_of_lt_of_le h2 k.size,h3,fun m hm=>?_⟩
 obtain ⟨a1,a2,a3⟩:=h4 m hm
 exact ⟨(k.cell (p:=⟨b,off + m * 3,none⟩) h2 h3).trans a1,(k.cell (p:=⟨b,off + m * 3 + 1,none⟩) h2 h3).trans a2,(k.cell (p:=⟨b,off + m * 3 + 2,none⟩) h2 h3).trans a3⟩
theorem DebtsBy.ins {g:Nat} {w:World} {ao:Option Addr} {l:List Fw} (h:DebtsBy g w ao l):DebtsIn w ao l:=fun h0=>by
 obtain ⟨b,off,h1,h2,_,h4⟩:=h h0
 exact ⟨b,off,h1,h2,h4⟩
theorem DebtsBy.rowed {w:World} {base g ca:Nat} {e:TypeId} {ao:Option Addr} {l:List Fw} (h:Rowed w base e 3 (.slice ao l.length ca) l.length (fwCells l)) (hl:l.length≤100000000) (hg:g<base):DebtsBy g w ao l:=fun h0=>by
 obtain ⟨b,off,h1,h2,h3⟩:=reads_debts (h.reads hl) h0
 refine ⟨b,off,h1,h2,?_,h3⟩
 obtain ⟨_,hh⟩:=h
 rcases hh with ⟨hv,hn⟩ | ⟨b',cur,hv,hb,_⟩
 ·omega
 ·subst h1
  cases hv
  omega
def NetAns (ls:List Ln) (c q:Int) (gone many er:Int) (ms:List Ln):Prop :=
 (¬ ((1≤c∧c≤8)∧0≤q)∧gone=0∧many=0∧er=1∧ms=ls) ∨
 ((1≤c∧c≤8)∧0≤q∧∃ L k,IsLeast (debtsL ls c) L k∧(((k:Int)≤q∧gone=totL ls c - totL (netL ls c L) c∧many=k∧er=0∧ms=netL ls c L)∨(q<(k:Int)∧gone=0∧many=0∧er=13∧ms=ls)))
theorem NetAns.eq {ls:List Ln} {c q g1 m1 e1 g2 m2 e2:Int} {s1 s2:List Ln} (h:NetAns ls c q g1 m1 e1 s1) (k:NetAns ls c q g2 m2 e2 s2):g1=g2∧m1=m2∧e1=e2∧s1=s2:=by
 rcases h with ⟨a,rfl,rfl,rfl,rfl⟩ | ⟨a1,a2,L,j,hL,h⟩
 ·rcases k with ⟨_,rfl,rfl,rfl,rfl⟩ | ⟨b1,b2,_⟩
  ·exact ⟨rfl,rfl,rfl,rfl⟩
  ·exact absurd ⟨b1,b2⟩ a
 ·rcases k with ⟨b,_⟩ | ⟨_,_,M,i,hM,k⟩
  ·exact absurd ⟨a1,a2⟩ b
  ·obtain ⟨rfl,rfl⟩:=hL.eq hM
   rcases h with ⟨h0,rfl,rfl,rfl,rfl⟩ | ⟨h0,rfl,rfl,rfl,rfl⟩
   ·rcases k with ⟨_,rfl,rfl,rfl,rfl⟩ | ⟨k0,_⟩
    ·exact ⟨rfl,rfl,rfl,rfl⟩
    ·omega
   ·rcases k with ⟨k0,_⟩ | ⟨_,rfl,rfl,rfl,rfl⟩
    ·omega
    ·exact ⟨rfl,rfl,rfl,rfl⟩
structure DebtsProg:Prop where
 at_:∀ {w:World} {G M:Nat} {ps:List Int} {ls:List Ln},LedM w G M ps ls→LInv ps ls→∀ c:Int,In8 c →
  Calls Try.prog 6 #[.pointer (some ⟨G,0,none⟩),.int .u8 c] w (ListPost w 54 3 (debtsL ls c).length (fwCells (debtsL ls c)))
structure NetProg:Prop where
 at_:∀ {w:World} {G M:Nat} {ps:List Int} {ls:List Ln},LedM w G M ps ls→LInv ps ls→∀ c q:Int,In8 c→In64 q →
  Calls Try.prog 5 #[.pointer (some ⟨G,0,none⟩),.int .u8 c,.int .i64 q] w fun e w'=>∃ gone many er ms,NetAns ls c q gone many er ms∧e=.returned (.tuple #[.int .i64 gone,.int .i64 many,.int .i64 er])∧LedM w' G M ps ms∧Keep (·=M) w w'
end Go.Proofs.Ytlbjjkbppbmihaa
