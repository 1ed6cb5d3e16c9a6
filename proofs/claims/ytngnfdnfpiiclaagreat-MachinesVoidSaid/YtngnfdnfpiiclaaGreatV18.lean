/-
  Pieces of one proof, without what is not wanted: RdMath, Ref08, AppOne, Edg.
-/
import Derived.Test.YtngnfdnfpiiclaaGreatV01
import Derived.Test.YtngnfdnfpiiclaaGreatV02
import Derived.Test.YtngnfdnfpiiclaaGreatV05
import Derived.Test.YtngnfdnfpiiclaaGreatV06
import Derived.Test.YtngnfdnfpiiclaaGreatV17
import Derived.BigQuiet
import Derived.Laws.AppendOwnNone
import Derived.Maps.AppendAt
import Derived.Deep.RegionLaw
set_option linter.unusedSimpArgs false
set_option linter.unusedVariables false
namespace Go.Proofs.YtngnfdnfpiiclaaGreat
def dbt (l:List Fw) (i:Nat):Fw:=l.getD i ⟨0,0,0⟩
def rdE (l:List Fw) (L:Nat→Int):Nat→List Ed
 | 0=>[]
 | k + 1=>rdE l L k++((if 0<L k then [⟨(dbt l k).fr,(dbt l k).tt,-1⟩] else [])++(if L k<(dbt l k).am then [⟨(dbt l k).tt,(dbt l k).fr,1⟩] else []))
theorem rdE_mem {l:List Fw} {L:Nat→Int} {e:Ed}:∀ n,e ∈ rdE l L n↔∃ i,i<n∧((0<L i∧e=⟨(dbt l i).fr,(dbt l i).tt,-1⟩)∨(L i<(dbt l i).am∧e=⟨(dbt l i).tt,(dbt l i).fr,1⟩))
 | 0=>by
  constructor
  ·intro h; cases h
  ·rintro ⟨i,h,_⟩; omega
 | n + 1=>by
  show e ∈ rdE l L n++_↔_
  rw [List.mem_append,rdE_mem n,List.mem_append]
  constructor
  ·rintro (⟨i,h1,h2⟩ | h | h)
   ·exact ⟨i,by omega,h2⟩
   ·split at h
    ·rename_i hc
     exact ⟨n,by omega,.inl ⟨hc,List.mem_singleton.1 h⟩⟩
    ·cases h
   ·split at h
    ·rename_i hc
     exact ⟨n,by omega,.inr ⟨hc,List.mem_singleton.1 h⟩⟩
    ·cases h
  ·rintro ⟨i,h1,h2⟩
   by_cases hi:i=n
   ·subst hi
    rcases h2 with ⟨h3,rfl⟩ | ⟨h3,rfl⟩
    ·exact .inr (.inl (by rw [if_pos h3]; exact List.mem_singleton.2 rfl))
    ·exact .inr (.inr (by rw [if_pos h3]; exact List.mem_singleton.2 rfl))
   ·exact .inl ⟨i,by omega,h2⟩
theorem rdE_co (l:List Fw) (L:Nat→Int) (n:Nat):∀ e ∈ rdE l L n,-128≤e.co∧e.co≤127:=by
 intro e he
 obtain ⟨i,_,⟨_,rfl⟩ | ⟨_,rfl⟩⟩:=(rdE_mem n).1 he <;> (dsimp only; omega)
theorem cost_ex (es:List Ed):∃ c,CostI es es c:=by
 have key:∀ (suf pre:List Ed) (c:Int→Int→Int),CostI es pre c→es=pre++suf→∃ c,CostI es es c:=by
  intro suf
  induction suf with
  | nil=>intro pre c h he; rw [List.append_nil] at he; exact ⟨c,by rw [← he] at h; exact h⟩
  | cons e suf ih =>
   intro pre c h he
   exact ih (pre++[e]) _ (h.step (e:=e) (by rw [he]; simp)) (by rw [he]; simp)
 exact key es [] _ (CostI.init es) rfl
theorem round_free {es:List Ed} (hco:∀ e ∈ es,-128≤e.co∧e.co≤127) (far:Int→Int) (h:∀ e ∈ es,okEd e→far e.tt≤far e.fr + e.co):roundW es=[]:=by
 refine Classical.byContradiction fun hne=>?_
 obtain ⟨c,hC⟩:=cost_ex es
 obtain ⟨K,u,hu⟩:=round_cheap hC hco hne
 have key:∀ n,n≤K→far (u n)≤far (u 0) + sumU c u n:=by
  intro n
  induction n with
  | zero=>intro _; show far (u 0)≤far (u 0) + 0; omega
  | succ n ih =>
   intro hn
   have h1:=ih (by omega)
   have h2:=hu.cost n (by omega)
   show far (u (n + 1))≤far (u 0) + (sumU c u n + c (u n) (u (n + 1)))
   rcases hC.is (u n) (u (n + 1)) with h3 | ⟨e,he,ho,e1,e2,e3⟩
   ·omega
   ·have h4:=h e he ho
    rw [e1,e2] at h4
    omega
 have h1:=key K (Nat.le_refl _)
 have h2:=hu.all
 rw [hu.back] at h1
 omega
def okD (x:Fw):Prop:=inP x.fr∧inP x.tt∧x.fr≠x.tt∧1≤x.am∧x.am≤1099511627776
def keyD (x:Fw):Int:=256 * x.fr + x.tt
instance (x:Fw):Decidable (okD x):=by unfold okD; infer_instance
def mayN (l:List Fw):Nat→Bool
 | 0=>true
 | k + 1=>mayN l k && decide (okD (dbt l k)) && (decide (k=0) || decide (keyD (dbt l (k - 1))<keyD (dbt l k)))
structure MayD (l:List Fw):Prop where
 ok:∀ i,i<l.length→okD (dbt l i)
 up:∀ i,i + 1<l.length→keyD (dbt l i)<keyD (dbt l (i + 1))
theorem mayN_iff (l:List Fw):∀ n,mayN l n=true↔(∀ i,i<n→okD (dbt l i))∧∀ i,i + 1<n→keyD (dbt l i)<keyD (dbt l (i + 1))
 | 0=>by simp [mayN]
 | n + 1=>by
  unfold mayN
  rw [Bool.and_eq_true,Bool.and_eq_true,mayN_iff l n,Bool.or_eq_true]
  simp only [decide_eq_true_eq]
  constructor
  ·rintro ⟨⟨⟨h1,h2⟩,h3⟩,h4⟩
   refine ⟨fun i hi=>?_,fun i hi=>?_⟩
   ·by_cases hn:i=n
    ·subst hn; exact h3
    ·exact h1 i (by omega)
   ·by_cases hn:i + 1=n
    ·subst hn
     rcases h4 with h4 | h4
     ·omega
     ·simpa using h4
    ·exact h2 i (by omega)
  ·rintro ⟨h1,h2⟩
   refine ⟨⟨⟨fun i hi=>h1 i (by omega),fun i hi=>h2 i (by omega)⟩,h1 n (by omega)⟩,?_⟩
   rcases Nat.eq_zero_or_pos n with h | h
   ·exact .inl h
   ·right
    have:=h2 (n - 1) (by omega)
    rwa [Nat.sub_add_cancel h] at this
section
variable {l:List Fw}
theorem MayD.lt (h:MayD l) {i:Nat}:∀ d,i + d + 1<l.length→keyD (dbt l i)<keyD (dbt l (i + d + 1))
 | 0,hd=>h.up i hd
 | d + 1,hd=>by
  have h1:=h.lt (i:=i) d (by omega)
  have h2:=h.up (i + d + 1) (by omega)
  rw [show i + (d + 1) + 1=i + d + 1 + 1 by omega]
  omega
theorem MayD.inj (h:MayD l) {i j:Nat} (hi:i<l.length) (hj:j<l.length) (h1:(dbt l i).fr=(dbt l j).fr) (h2:(dbt l i).tt=(dbt l j).tt):i=j:=by
 have hk:keyD (dbt l i)=keyD (dbt l j):=by unfold keyD; rw [h1,h2]
 rcases Nat.lt_trichotomy i j with hl | hl | hl
 ·have:=h.lt (i:=i) (j - i - 1) (by omega)
  rw [show i + (j - i - 1) + 1=j by omega] at this
  omega
 ·exact hl
 ·have:=h.lt (i:=j) (i - j - 1) (by omega)
  rw [show j + (i - j - 1) + 1=i by omega] at this
  omega
end
def lastI (p:Nat→Bool):Nat→Option Nat
 | 0=>none
 | n + 1=>if p n then some n else lastI p n
theorem lastI_some {p:Nat→Bool}:∀ {n i:Nat},lastI p n=some i→i<n∧p i=true
 | 0,i,h=>by cases h
 | n + 1,i,h=>by
  unfold lastI at h
  split at h
  ·rename_i hp
   cases h
   exact ⟨by omega,hp⟩
  ·obtain ⟨h1,h2⟩:=lastI_some h
   exact ⟨by omega,h2⟩
theorem lastI_none {p:Nat→Bool}:∀ {n:Nat},lastI p n=none→∀ i,i<n→p i=false
 | 0,_,i,hi=>by omega
 | n + 1,h,i,hi=>by
  unfold lastI at h
  split at h
  ·cases h
  ·rename_i hp
   by_cases hin:i=n
   ·subst hin; simpa using hp
   ·exact lastI_none h i (by omega)
theorem lastI_only {p:Nat→Bool} {n i:Nat} (hi:i<n) (hp:p i=true) (hu:∀ j,j<n→p j=true→j=i):lastI p n=some i:=by
 cases h:lastI p n with
 | none=>rw [lastI_none h i hi] at hp; cases hp
 | some j =>
  obtain ⟨h1,h2⟩:=lastI_some h
  rw [hu j h1 h2]
def pA (l:List Fw) (L:Nat→Int) (a b:Int) (i:Nat):Bool:=(dbt l i).fr==a && (dbt l i).tt==b && decide (0<L i)
def pB (l:List Fw) (a b:Int) (i:Nat):Bool:=(dbt l i).fr==b && (dbt l i).tt==a
def bkS (l:List Fw) (L:Nat→Int) (a b:Int):Bool:=(lastI (pA l L a b) l.length).isNone
def ixS (l:List Fw) (L:Nat→Int) (a b:Int):Nat:=match lastI (pA l L a b) l.length with
 | some i=>i
 | none=>(lastI (pB l a b) l.length).getD 0
def avS (l:List Fw) (L:Nat→Int) (a b:Int):Int:=if bkS l L a b then (dbt l (ixS l L a b)).am - L (ixS l L a b) else L (ixS l L a b)
def uW (W:List Int) (i:Nat):Int:=W.getD (i % W.length) 0
def minK (l:List Fw) (L:Nat→Int) (u:Nat→Int):Nat→Int
 | 0=>1099511627776
 | k + 1=>min (minK l L u k) (avS l L (u k) (u (k + 1)))
def updL (L:Nat→Int) (i:Nat) (v:Int):Nat→Int:=fun j=>if j=i then v else L j
def tkK (l:List Fw) (L:Nat→Int) (u:Nat→Int) (n:Int):Nat→(Nat→Int)
 | 0=>L
 | k + 1=>updL (tkK l L u n k) (ixS l L (u k) (u (k + 1))) (tkK l L u n k (ixS l L (u k) (u (k + 1))) + (if bkS l L (u k) (u (k + 1)) then n else -n))
def wayD (l:List Fw) (L:Nat→Int):List Int:=roundW (rdE l L l.length)
def amtD (l:List Fw) (L:Nat→Int):Int:=minK l L (uW (wayD l L)) (wayD l L).length
def nextD (l:List Fw) (L:Nat→Int):Nat→Int:=tkK l L (uW (wayD l L)) (amtD l L) (wayD l L).length
theorem CheapL.uW {c:Int→Int→Int} {W:List Int} {K:Nat} {u:Nat→Int} (h:CheapL c W K u):CheapL c W K (uW W):=by
 have hk:=h.k1
 have hl:=h.len
 have e0:∀ i,i<K→Go.Proofs.YtngnfdnfpiiclaaGreat.uW W i=u i:=fun i hi=>by
  unfold Go.Proofs.YtngnfdnfpiiclaaGreat.uW
  rw [hl,Nat.mod_eq_of_lt hi,List.getD_eq_getElem?_getD,h.at_ i hi]
  rfl
 have e1:∀ i,i≤K→Go.Proofs.YtngnfdnfpiiclaaGreat.uW W i=u i:=fun i hi=>by
  rcases Nat.lt_or_ge i K with h1 | h1
  ·exact e0 i h1
  ·have:i=K:=by omega
   subst this
   rw [h.back,← e0 0 hk]
   unfold Go.Proofs.YtngnfdnfpiiclaaGreat.uW
   rw [hl,Nat.mod_self,Nat.zero_mod]
 have em:∀ i,Go.Proofs.YtngnfdnfpiiclaaGreat.uW W i=u (i % K):=fun i=>by
  have hm:=Nat.mod_lt i (show 0<K by omega)
  rw [← e0 _ hm]
  unfold Go.Proofs.YtngnfdnfpiiclaaGreat.uW
  rw [hl,Nat.mod_mod]
 refine ⟨hk,h.k16,hl,fun i hi=>by rw [e0 i hi]; exact h.at_ i hi,by rw [e1 K (Nat.le_refl _),e1 0 (Nat.zero_le _)]; exact h.back,fun i=>by rw [em]; exact h.ends _,fun i=>by rw [em i,em 0,Nat.zero_mod]; exact h.least _,
  fun k i hki hi=>by rw [e0 k (by omega),e0 i hi]; exact h.apart k i hki hi,fun i hi=>by rw [e1 i (by omega),e1 (i + 1) (by omega)]; exact h.cost i hi,?_⟩
 have key:∀ n,n≤K→sumU c (Go.Proofs.YtngnfdnfpiiclaaGreat.uW W) n=sumU c u n:=by
  intro n
  induction n with
  | zero=>intro _; rfl
  | succ n ih =>
   intro hn
   show sumU c (Go.Proofs.YtngnfdnfpiiclaaGreat.uW W) n + c _ _=sumU c u n + c _ _
   rw [ih (by omega),e1 n (by omega),e1 (n + 1) hn]
 rw [key K (Nat.le_refl _)]
 exact h.all
def sumN (g:Nat→Int):Nat→Int
 | 0=>0
 | n + 1=>sumN g n + g n
theorem sumN_upd (L:Nat→Int) (i:Nat) (v:Int) (f:Nat→Int→Int):∀ n,sumN (fun j=>f j (updL L i v j)) n=sumN (fun j=>f j (L j)) n + if i<n then f i v - f i (L i) else 0
 | 0=>by simp [sumN]
 | n + 1=>by
  show sumN (fun j=>f j (updL L i v j)) n + f n (updL L i v n)=(sumN (fun j=>f j (L j)) n + f n (L n)) + _
  rw [sumN_upd L i v f n]
  unfold updL
  by_cases h:n=i
  ·subst h
   rw [if_pos rfl,if_neg (Nat.lt_irrefl _),if_pos (Nat.lt_succ_self _)]
   omega
  ·rw [if_neg h]
   by_cases h2:i<n
   ·rw [if_pos h2,if_pos (by omega)]; omega
   ·rw [if_neg h2,if_neg (by omega)]; omega
theorem sumN_le {g h:Nat→Int}:∀ n,(∀ i,i<n→g i≤h i)→sumN g n≤sumN h n
 | 0,_=>Int.le_refl _
 | n + 1,hh=>by
  have h1:=sumN_le n (fun i hi=>hh i (by omega))
  have h2:=hh n (by omega)
  show sumN g n + g n≤sumN h n + h n
  omega
theorem sumN_bd {g:Nat→Int} {B:Int}:∀ n:Nat,(∀ i,i<n→0≤g i∧g i≤B)→0≤sumN g n∧sumN g n≤B * n
 | 0,_=>by simp [sumN]
 | n + 1,h=>by
  have h1:=sumN_bd n (fun i hi=>h i (by omega))
  have h2:=h n (by omega)
  have h3:B * ((n + 1:Nat):Int)=B * (n:Int) + B:=by rw [Int.natCast_add,Int.mul_add]; simp
  show 0≤sumN g n + g n∧sumN g n + g n≤_
  omega
def psD (l:List Fw) (p:Int) (i:Nat) (n:Int):Int:=(if (dbt l i).tt=p then n else 0) - (if (dbt l i).fr=p then n else 0)
def posD (l:List Fw) (L:Nat→Int) (p:Int):Int:=sumN (fun i=>psD l p i (L i)) l.length
structure RdOk (l:List Fw) (L:Nat→Int):Prop where
 lo:∀ i,i<l.length→0≤L i
 hi:∀ i,i<l.length→L i≤(dbt l i).am
structure StD (l:List Fw) (L:Nat→Int) (c:Int→Int→Int) (a b:Int):Prop where
 ix:ixS l L a b<l.length
 is:(bkS l L a b=false∧(dbt l (ixS l L a b)).fr=a∧(dbt l (ixS l L a b)).tt=b∧0<L (ixS l L a b)∧c a b = -1) ∨
  (bkS l L a b=true∧(dbt l (ixS l L a b)).fr=b∧(dbt l (ixS l L a b)).tt=a∧L (ixS l L a b)<(dbt l (ixS l L a b)).am∧c a b=1)
theorem step_is {l:List Fw} {L:Nat→Int} (hM:MayD l) {c:Int→Int→Int} (hC:CostI (rdE l L l.length) (rdE l L l.length) c) {a b:Int} (hc:c a b≤127):StD l L c a b:=by
 rcases hC.is a b with h | ⟨e,he,ho,e1,e2,e3⟩
 ·omega
 ·by_cases hx:∃ i,i<l.length∧pA l L a b i=true
  ·obtain ⟨i,hi,hp⟩:=hx
   have hp':=hp
   unfold pA at hp'
   simp only [Bool.and_eq_true,beq_iff_eq,decide_eq_true_eq] at hp'
   obtain ⟨⟨p1,p2⟩,p3⟩:=hp'
   have hl:=lastI_only hi hp (fun j hj hq=>by
    unfold pA at hq
    simp only [Bool.and_eq_true,beq_iff_eq,decide_eq_true_eq] at hq
    exact hM.inj hj hi (by rw [hq.1.1,p1]) (by rw [hq.1.2,p2]))
   have hix:ixS l L a b=i:=by unfold ixS; rw [hl]
   have hbk:bkS l L a b=false:=by unfold bkS; rw [hl]; rfl
   have hle:=hC.le ⟨(dbt l i).fr,(dbt l i).tt,-1⟩ ((rdE_mem _).2 ⟨i,hi,.inl ⟨p3,rfl⟩⟩) ⟨(hM.ok i hi).1,(hM.ok i hi).2.1⟩
   rw [show (⟨(dbt l i).fr,(dbt l i).tt,-1⟩:Ed).fr=a from p1,show (⟨(dbt l i).fr,(dbt l i).tt,-1⟩:Ed).tt=b from p2] at hle
   have hco:c a b = -1:=by
    obtain ⟨j,_,⟨_,rfl⟩ | ⟨_,rfl⟩⟩:=(rdE_mem _).1 he
    ·exact e3
    ·have:c a b=1:=e3
     have:(-1:Int) ≥ c a b:=hle
     omega
   refine ⟨by rw [hix]; exact hi,.inl ⟨hbk,?_⟩⟩
   rw [hix]
   exact ⟨p1,p2,p3,hco⟩
  ·have hn:lastI (pA l L a b) l.length=none:=by
    cases h:lastI (pA l L a b) l.length with
    | none=>rfl
    | some i =>
     obtain ⟨h1,h2⟩:=lastI_some h
     exact absurd ⟨i,h1,h2⟩ hx
   have hbk:bkS l L a b=true:=by unfold bkS; rw [hn]; rfl
   obtain ⟨i,hi,⟨h1,rfl⟩ | ⟨h1,rfl⟩⟩:=(rdE_mem _).1 he
   ·exact absurd ⟨i,hi,by unfold pA; simp only [Bool.and_eq_true,beq_iff_eq,decide_eq_true_eq]; exact ⟨⟨e1,e2⟩,h1⟩⟩ hx
   ·have hl:=lastI_only (p:=pB l a b) hi (by unfold pB; simp only [Bool.and_eq_true,beq_iff_eq]; exact ⟨e2,e1⟩) (fun j hj hq=>by
     unfold pB at hq
     simp only [Bool.and_eq_true,beq_iff_eq] at hq
     exact hM.inj hj hi (by rw [hq.1]; exact e2.symm) (by rw [hq.2]; exact e1.symm))
    have hix:ixS l L a b=i:=by unfold ixS; rw [hn,hl]; rfl
    refine ⟨by rw [hix]; exact hi,.inr ⟨hbk,?_⟩⟩
    rw [hix]
    exact ⟨e2,e1,h1,e3⟩
theorem StD.av {l:List Fw} {L:Nat→Int} {c:Int→Int→Int} {a b:Int} (h:StD l L c a b):1≤avS l L a b:=by
 unfold avS
 rcases h.is with ⟨h1,_,_,h2,_⟩ | ⟨h1,_,_,h2,_⟩
 ·rw [h1]; simp only [Bool.false_eq_true,if_false]; omega
 ·rw [h1,if_pos rfl]; omega
theorem minK_le (l:List Fw) (L:Nat→Int) (u:Nat→Int):∀ K,minK l L u K≤1099511627776∧∀ k,k<K→minK l L u K≤avS l L (u k) (u (k + 1))
 | 0=>⟨Int.le_refl _,fun k hk=>by omega⟩
 | K + 1=>by
  obtain ⟨h1,h2⟩:=minK_le l L u K
  refine ⟨by show min _ _≤_; omega,fun k hk=>?_⟩
  show min (minK l L u K) (avS l L (u K) (u (K + 1)))≤_
  by_cases hkK:k=K
  ·subst hkK; exact Int.min_le_right _ _
  ·have:=h2 k (by omega)
   omega
theorem minK_pos (l:List Fw) (L:Nat→Int) (u:Nat→Int):∀ K,(∀ k,k<K→1≤avS l L (u k) (u (k + 1)))→1≤minK l L u K
 | 0,_=>by show (1:Int)≤1099511627776; decide
 | K + 1,h=>by
  have h1:=minK_pos l L u K (fun k hk=>h k (by omega))
  have h2:=h K (by omega)
  show 1≤min _ _
  omega
theorem steps_apart {l:List Fw} {L:Nat→Int} (hM:MayD l) {c:Int→Int→Int} {W:List Int} {K:Nat} {u:Nat→Int} (hu:CheapL c W K u) (hS:∀ k,k<K→StD l L c (u k) (u (k + 1))) {j k:Nat} (hj:j<k) (hk:k<K) :
  ixS l L (u j) (u (j + 1))≠ixS l L (u k) (u (k + 1)):=by
 intro he
 have s1:=(hS j (by omega)).is
 have s2:=(hS k hk).is
 have ok:=hM.ok _ (hS k hk).ix
 rw [he] at s1
 have hne:=hu.apart j k hj hk
 rcases s1 with ⟨_,a1,a2,_,a3⟩ | ⟨_,a1,a2,_,a3⟩ <;> rcases s2 with ⟨_,b1,b2,_,b3⟩ | ⟨_,b1,b2,_,b3⟩
 ·exact hne (a1.symm.trans b1)
 ·-- forth at j,back at k
  have e1:u j=u (k + 1):=a1.symm.trans b1
  have e2:u (j + 1)=u k:=a2.symm.trans b2
  have hj1:j + 1=k:=by
   rcases Nat.lt_or_ge (j + 1) k with q | q
   ·exact absurd e2 (hu.apart (j + 1) k q hk)
   ·omega
  have hk1:k + 1=K:=by
   rcases Nat.lt_or_ge (k + 1) K with q | q
   ·exact absurd e1 (hu.apart j (k + 1) (by omega) q)
   ·omega
  have hj0:j=0:=by
   rcases Nat.eq_zero_or_pos j with q | q
   ·exact q
   ·rw [hk1,hu.back] at e1
    exact absurd e1.symm (hu.apart 0 j q (by omega))
  subst hj0
  have hall:=hu.all
  rw [← hk1,← hj1] at hall
  have:sumU c u (0 + 1 + 1)=0 + c (u 0) (u (0 + 1)) + c (u (0 + 1)) (u (0 + 1 + 1)):=rfl
  rw [← hj1] at b3
  omega
 ·have e1:u (j + 1)=u k:=a1.symm.trans b1
  have e2:u j=u (k + 1):=a2.symm.trans b2
  have hj1:j + 1=k:=by
   rcases Nat.lt_or_ge (j + 1) k with q | q
   ·exact absurd e1 (hu.apart (j + 1) k q hk)
   ·omega
  have hk1:k + 1=K:=by
   rcases Nat.lt_or_ge (k + 1) K with q | q
   ·exact absurd e2 (hu.apart j (k + 1) (by omega) q)
   ·omega
  have hj0:j=0:=by
   rcases Nat.eq_zero_or_pos j with q | q
   ·exact q
   ·rw [hk1,hu.back] at e2
    exact absurd e2.symm (hu.apart 0 j q (by omega))
  subst hj0
  have hall:=hu.all
  rw [← hk1,← hj1] at hall
  have:sumU c u (0 + 1 + 1)=0 + c (u 0) (u (0 + 1)) + c (u (0 + 1)) (u (0 + 1 + 1)):=rfl
  rw [← hj1] at b3
  omega
 ·exact hne (a2.symm.trans b2)
structure TkI (l:List Fw) (L:Nat→Int) (c:Int→Int→Int) (u:Nat→Int) (n:Int) (k:Nat) (M:Nat→Int):Prop where
 off:∀ i,(∀ j,j<k→ixS l L (u j) (u (j + 1))≠i)→M i=L i
 on:∀ j,j<k→M (ixS l L (u j) (u (j + 1)))=L (ixS l L (u j) (u (j + 1))) + if bkS l L (u j) (u (j + 1)) then n else -n
 sum:sumN M l.length=sumN L l.length + n * sumU c u k
 pos:∀ p,posD l M p=posD l L p + (if u 0=p then n else 0) - (if u k=p then n else 0)
theorem tk_all {l:List Fw} {L:Nat→Int} (hM:MayD l) {c:Int→Int→Int} {W:List Int} {K:Nat} {u:Nat→Int} (hu:CheapL c W K u) (hS:∀ k,k<K→StD l L c (u k) (u (k + 1))) (n:Int):∀ k,k≤K→TkI l L c u n k (tkK l L u n k)
 | 0,_=>⟨fun i _=>rfl,fun j hj=>by omega,by show sumN L l.length=_ + n * 0; rw [Int.mul_zero,Int.add_zero],fun p=>by show posD l L p=_; omega⟩
 | k + 1,hk=>by
  have ih:=tk_all hM hu hS n k (by omega)
  have st:=hS k (by omega)
  have hap:∀ j,j<k→ixS l L (u j) (u (j + 1))≠ixS l L (u k) (u (k + 1)):=fun j hj=>steps_apart hM hu hS hj (by omega)
  have hat:=ih.off _ hap
  have hsum:sumU c u (k + 1)=sumU c u k + c (u k) (u (k + 1)):=rfl
  refine ⟨fun i hi=>?_,fun j hj=>?_,?_,fun p=>?_⟩
  ·show updL _ _ _ i=_
   unfold updL
   rw [if_neg (fun h=>hi k (by omega) h.symm)]
   exact ih.off i (fun j hj=>hi j (by omega))
  ·show updL _ _ _ _=_
   unfold updL
   by_cases hjk:j=k
   ·subst hjk
    rw [if_pos rfl,hat]
   ·rw [if_neg (hap j (by omega))]
    exact ih.on j (by omega)
  ·show sumN (updL (tkK l L u n k) _ _) l.length=_
   have:=sumN_upd (tkK l L u n k) (ixS l L (u k) (u (k + 1))) (tkK l L u n k (ixS l L (u k) (u (k + 1))) + (if bkS l L (u k) (u (k + 1)) then n else -n)) (fun _ x=>x) l.length
   rw [if_pos st.ix] at this
   rw [show sumN (updL (tkK l L u n k) (ixS l L (u k) (u (k + 1))) (tkK l L u n k (ixS l L (u k) (u (k + 1))) + (if bkS l L (u k) (u (k + 1)) then n else -n))) l.length=_ from this,show sumN (fun j=>tkK l L u n k j) l.length=_ from ih.sum,hsum,Int.mul_add]
   rcases st.is with ⟨h1,_,_,_,h2⟩ | ⟨h1,_,_,_,h2⟩
   ·rw [h1,h2]; simp only [Bool.false_eq_true,if_false]; omega
   ·rw [h1,h2,if_pos rfl]; omega
  ·show posD l (updL (tkK l L u n k) _ _) p=_
   have:=sumN_upd (tkK l L u n k) (ixS l L (u k) (u (k + 1))) (tkK l L u n k (ixS l L (u k) (u (k + 1))) + (if bkS l L (u k) (u (k + 1)) then n else -n)) (psD l p) l.length
   rw [if_pos st.ix] at this
   rw [show posD l (updL (tkK l L u n k) (ixS l L (u k) (u (k + 1))) (tkK l L u n k (ixS l L (u k) (u (k + 1))) + (if bkS l L (u k) (u (k + 1)) then n else -n))) p=_ from this,show sumN (fun j=>psD l p j (tkK l L u n k j)) l.length=_ from ih.pos p]
   generalize tkK l L u n k (ixS l L (u k) (u (k + 1)))=y
   unfold psD
   rcases st.is with ⟨h1,h3,h4,_,h2⟩ | ⟨h1,h3,h4,_,h2⟩
   ·rw [h1,h3,h4]; simp only [Bool.false_eq_true,if_false]; split <;> split <;> omega
   ·rw [h1,h3,h4,if_pos rfl]; split <;> split <;> omega
structure NextD (l:List Fw) (L M:Nat→Int):Prop where
 ok:RdOk l M
 sum:sumN M l.length + 1≤sumN L l.length
 pos:∀ p,posD l M p=posD l L p
theorem next_is {l:List Fw} {L:Nat→Int} (hM:MayD l) (hL:RdOk l L) (h:wayD l L≠[]):NextD l L (nextD l L)∧∃ c K,CostI (rdE l L l.length) (rdE l L l.length) c∧(wayD l L).length=K∧CheapL c (wayD l L) K (uW (wayD l L))∧(∀ k,k<K→StD l L c (uW (wayD l L) k) (uW (wayD l L) (k + 1)))∧TkI l L c (uW (wayD l L)) (amtD l L) K (nextD l L)∧1≤amtD l L:=by
 obtain ⟨c,hC⟩:=cost_ex (rdE l L l.length)
 obtain ⟨K,u0,hu0⟩:=round_cheap hC (rdE_co l L l.length) h
 have hu:=hu0.uW
 have hl:(wayD l L).length=K:=hu.len
 change CheapL c (wayD l L) K (uW (wayD l L)) at hu
 have hS:∀ k,k<K→StD l L c (uW (wayD l L) k) (uW (wayD l L) (k + 1)):=fun k hk=>step_is hM hC (hu.cost k hk).2
 have hn1:1≤amtD l L:=by
  unfold amtD
  rw [hl]
  exact minK_pos _ _ _ _ fun k hk=>(hS k hk).av
 have hle:=(minK_le l L (uW (wayD l L)) K).2
 have hT:TkI l L c (uW (wayD l L)) (amtD l L) K (nextD l L):=by
  have:=tk_all hM hu hS (amtD l L) K (Nat.le_refl _)
  unfold nextD
  rw [hl]
  exact this
 refine ⟨⟨⟨fun i hi=>?_,fun i hi=>?_⟩,?_,fun p=>?_⟩,c,K,hC,hl,hu,hS,hT,hn1⟩
 ·by_cases hx:∃ j,j<K∧ixS l L (uW (wayD l L) j) (uW (wayD l L) (j + 1))=i
  ·obtain ⟨j,hj,rfl⟩:=hx
   rw [hT.on j hj]
   have h1:=hle j hj
   have h2:=hL.lo _ hi
   unfold amtD at hn1 ⊢
   rw [hl] at hn1 ⊢
   unfold avS at h1
   split
   ·omega
   ·rename_i hb
    rw [if_neg hb] at h1
    omega
  ·rw [hT.off i (fun j hj e=>hx ⟨j,hj,e⟩)]
   exact hL.lo i hi
 ·by_cases hx:∃ j,j<K∧ixS l L (uW (wayD l L) j) (uW (wayD l L) (j + 1))=i
  ·obtain ⟨j,hj,rfl⟩:=hx
   rw [hT.on j hj]
   have h1:=hle j hj
   have h2:=hL.hi _ hi
   unfold amtD at hn1 ⊢
   rw [hl] at hn1 ⊢
   unfold avS at h1
   split
   ·rename_i hb
    rw [if_pos hb] at h1
    omega
   ·omega
  ·rw [hT.off i (fun j hj e=>hx ⟨j,hj,e⟩)]
   exact hL.hi i hi
 ·have h1:=hT.sum
  have h2:=hu.all
  have h3:amtD l L * sumU c (uW (wayD l L)) K≤amtD l L * (-1):=Int.mul_le_mul_of_nonneg_left (by omega) (by omega)
  omega
 ·have h1:=hT.pos p
  rw [hu.back] at h1
  omega
def amD (l:List Fw):Nat→Int:=fun i=>(dbt l i).am
def itD (l:List Fw):Nat→(Nat→Int)
 | 0=>amD l
 | k + 1=>nextD l (itD l k)
structure RdInv (l:List Fw) (k:Nat) (L:Nat→Int):Prop where
 at_:L=itD l k
 ok:RdOk l L
 sum:(k:Int) + sumN L l.length≤sumN (amD l) l.length
 pos:∀ p,posD l L p=posD l (amD l) p
 go:∀ j,j<k→wayD l (itD l j)≠[]
theorem RdInv.start {l:List Fw} (h:MayD l):RdInv l 0 (amD l) :=
 ⟨rfl,⟨fun i hi=>by have:=(h.ok i hi).2.2.2.1; show 0≤(dbt l i).am; omega,fun i hi=>Int.le_refl _⟩,by simp,fun p=>rfl,fun j hj=>by omega⟩
theorem RdInv.step {l:List Fw} {k:Nat} {L:Nat→Int} (hM:MayD l) (h:RdInv l k L) (hn:wayD l L≠[]):RdInv l (k + 1) (nextD l L):=by
 obtain ⟨hx,_⟩:=next_is hM h.ok hn
 refine ⟨by rw [h.at_]; rfl,hx.ok,?_,fun p=>by rw [hx.pos,h.pos],fun j hj=>?_⟩
 ·have:=hx.sum
  have:=h.sum
  rw [Int.natCast_add]
  omega
 ·by_cases hjk:j=k
  ·subst hjk; rw [← h.at_]; exact hn
  ·exact h.go j (by omega)
structure IsLeast (l:List Fw) (L:Nat→Int) (k:Nat):Prop where
 inv:RdInv l k L
 done:wayD l L=[]
theorem IsLeast.eq {l:List Fw} {L M:Nat→Int} {k j:Nat} (h:IsLeast l L k) (g:IsLeast l M j):k=j∧L=M:=by
 have hkj:k=j:=by
  rcases Nat.lt_trichotomy k j with q | q | q
  ·have:=g.inv.go k q
   rw [← h.inv.at_] at this
   exact absurd h.done this
  ·exact q
  ·have:=h.inv.go j q
   rw [← g.inv.at_] at this
   exact absurd g.done this
 subst hkj
 exact ⟨rfl,by rw [h.inv.at_,g.inv.at_]⟩
theorem RdInv.k_le {l:List Fw} {k:Nat} {L:Nat→Int} (h:RdInv l k L):(k:Int)≤sumN (amD l) l.length:=by
 have h1:=h.sum
 have h2:=(sumN_bd (g:=L) (B:=0) 0 (fun i hi=>by omega)).1
 have h3:0≤sumN L l.length:=by
  have:=sumN_le (g:=fun _=>0) (h:=L) l.length (fun i hi=>h.ok.lo i hi)
  have hz:∀ n,sumN (fun _=>0) n=0:=fun n=>by induction n with | zero=>rfl | succ n ih=>show sumN _ n + 0=0; rw [ih]; rfl
  rw [hz] at this
  exact this
 omega
theorem least_ends {l:List Fw} (hM:MayD l):∃ L k,IsLeast l L k:=by
 have key:∀ n:Nat,(∃ L k,IsLeast l L k)∨(∃ L,RdInv l n L∧wayD l L≠[]):=by
  intro n
  induction n with
  | zero =>
   by_cases hd:wayD l (amD l)=[]
   ·exact .inl ⟨_,0,RdInv.start hM,hd⟩
   ·exact .inr ⟨_,RdInv.start hM,hd⟩
  | succ n ih =>
   rcases ih with h1 | ⟨L,h1,h2⟩
   ·exact .inl h1
   ·have h3:=h1.step hM h2
    by_cases hd:wayD l (nextD l L)=[]
    ·exact .inl ⟨_,n + 1,h3,hd⟩
    ·exact .inr ⟨_,h3,hd⟩
 rcases key ((sumN (amD l) l.length).toNat + 1) with h1 | ⟨L,h1,_⟩
 ·exact h1
 ·have:=h1.k_le
  omega
end Go.Proofs.YtngnfdnfpiiclaaGreat
namespace Go.Proofs.YtngnfdnfpiiclaaGreat
end Go.Proofs.YtngnfdnfpiiclaaGreat
namespace Go.Proofs.YtngnfdnfpiiclaaGreat
open Go.RowKit
theorem dbt_get {l:List Fw} {i:Nat} (h:i<l.length):dbt l i=l[i]:=by unfold dbt; simp [h]
def DebtsIn (w:World) (ao:Option Addr) (l:List Fw):Prop :=
 0<l.length→∃ b off,ao=some ⟨b,off,none⟩∧b<w.heap.size∧∀ m,m<l.length→w.cell? ⟨b,off + m * 3,none⟩=some (.int .u8 (dbt l m).fr)∧w.cell? ⟨b,off + m * 3 + 1,none⟩=some (.int .u8 (dbt l m).tt)∧w.cell? ⟨b,off + m * 3 + 2,none⟩=some (.int .i64 (dbt l m).am)
end Go.Proofs.YtngnfdnfpiiclaaGreat
namespace Go.Proofs.YtngnfdnfpiiclaaGreat
open Go.RowKit
theorem wpList_append_one {P:Program} (w:World) {ops:Array Oper} {rest:List Oper} {o:Oper} {a:Act} {Q:Exit→Act→World→Prop} (hgd:o.guard=none) (s x:Operand) (t e:TypeId)
  (ho:o.op=.call { callee:=.builtin .append,args:=#[s,x],argTypes:=#[t,t] }) {z:Value} {sz by':Nat} (ht:P.underlying t=some (.slice e)) (hinf:(P.info? e).map (fun i=>(i.zero,i.size,i.bytes))=some (some z,sz,by')) (hzs:z.cells.size=sz) (h0:0<sz) (hby:by'≤1000)
  (base:Nat) (v:Value) (n:Nat) (xs:List Value) (hs:a.eval s=v) (hown:w.ownsRow base e sz v n xs) (g c:Nat) (vs:List Value) (hvs:vs.length=sz) (hx:a.eval x=.slice (some ⟨g,0,none⟩) 1 c) (hy:Blk w g vs.toArray e) (h1:∀ u ∈ vs,u.oneCell'=true) (hlen:n≤100000) (hbase:base≤w.heap.size)
  (h:∀ v' w',w'.ownsRow base e sz v' (n + 1) (xs++vs)→w.grownBy w' v.ownBlock→wpList P ops Q rest (a.put o.dst v') w'):wpList P ops Q (o::rest) a w:=by
 obtain ⟨i0,hi,hz0,hz1,hz2⟩:=info_parts hinf
 refine wpList_append_own w hgd s x t ho base e i0 z sz by' ht hi hz0 hz1 hz2 hzs h0 v n xs hs hown ⟨g,0,none⟩ 1 c vs hx (by rw [hvs]; omega) ?_ h1 (by unfold maxLen; omega) ?_ hbase ?_
 ·intro j u hj
  rw [Go.WideShapes.add_plain,Nat.zero_add,hy.cell j]
  simpa using hj
 ·refine Nat.le_trans (Nat.mul_le_mul_left _ hby) ?_
  omega
 ·intro v' w' h2 h3 _
  exact h v' w' h2 h3
theorem below_ag {B:Nat} {w w1 w2:World} {o:Obj} {row:Option Nat} (h:Below B w w1) (hB:B≤w1.heap.size) (hg:(w1.alloc o).grownBy w2 row) (hr:∀ k,row=some k→B≤k):Below B w w2 :=
 (h.alloc hB o).grown hg (by simp; omega) hr
end Go.Proofs.YtngnfdnfpiiclaaGreat
namespace Go.Proofs.YtngnfdnfpiiclaaGreat
open Go.RowKit Go.ChangeShapes Go.WideShapes Go.Deep
section
variable {H:Type} {enc:TypeId × Value→H} {P:Program} {w:World} {base:Nat} {spare:Nat→Bool} {held:Bool}
end
section
variable {H:Type} {enc:TypeId × Value→H} {w:World} {base:Nat} {spare:Nat→Bool} {held:Bool}
end
theorem SlIn.edges {w:World} {a:Option Addr} {len cap:Nat} {xs:List Ed} (h:SlIn Ed.vals 3 Ed.Fits w a len cap xs) (hn:len≤100000000):Reads w (.slice a xs.length cap) 3 xs.length (edCells xs):=by
 obtain ⟨h0,hl,hk,h1,h2,h3⟩:=h
 subst hl
 refine ⟨a,cap,rfl,hn,edCells_len xs,fun hp=>?_⟩
 obtain ⟨b,off,ha,hb,hc⟩:=h3 hp
 refine ⟨b,off,ha,hb,fun j hj=>?_⟩
 have hjd:j / 3<xs.length:=by omega
 have h4:=edCells_get xs (j / 3) (j % 3) (by omega) hjd
 rw [show j / 3 * 3 + j % 3=j by omega] at h4
 have hv:(xs[j / 3].vals)[j % 3]? = some (xs[j / 3].vals[j % 3]'(by rw [Ed.vals_len]; omega)):=List.getElem?_eq_getElem _
 have h5:=hc (j / 3) hjd (j % 3) _ hv
 rw [show off + j / 3 * 3 + j % 3=off + j by omega] at h5
 rw [h5,h4,hv]
end Go.Proofs.YtngnfdnfpiiclaaGreat
