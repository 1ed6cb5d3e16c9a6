/- Pieces of one proof. -/
import Derived.Test.YtngnfdnfpiiclaaGreatO04
import Derived.Test.YtngnfdnfpiiclaaGreatO09
import Derived.Shelf.SlSortCmp.NoneTotal
import Derived.Shelf.SlMaps.Clone
set_option linter.all false
set_option maxHeartbeats 64000000
set_option maxRecDepth 100000
namespace Go.Proofs.YtngnfdnfpiiclaaGreat
open Go.RowKit
def dbt(l:List Fw)(i:Nat):Fw:=l.getD i ⟨0,0,0⟩
def rdE(l:List Fw)(L:Nat→Int):Nat→List Ed
 | 0=>[]
 | k+1=>rdE l L k++((if 0<L k then [⟨(dbt l k).fr,(dbt l k).tt,-1⟩]else [])++(if L k<(dbt l k).am then [⟨(dbt l k).tt,(dbt l k).fr,1⟩]else []))
theorem aIy{l:List Fw}{L:Nat→Int}{e:Ed}:∀n,e∈rdE l L n↔∃i,i<n∧((0<L i∧e=⟨(dbt l i).fr,(dbt l i).tt,-1⟩)∨(L i<(dbt l i).am∧e=⟨(dbt l i).tt,(dbt l i).fr,1⟩))
 | 0=>by
  constructor
  ·intro h;cases h
  ·rintro⟨i,h,_⟩;omega
 | n+1=>by
  show e∈rdE l L n++_↔_;rw[List.mem_append,aIy n,List.mem_append]
  constructor
  ·rintro(⟨i,h1,h2⟩|h|h)
   ·exact⟨i,by omega,h2⟩
   ·split at h
    ·rename_i hc;exact⟨n,by omega,.inl ⟨hc,List.mem_singleton.1 h⟩⟩
    cases h
   split at h
   ·rename_i hc;exact⟨n,by omega,.inr ⟨hc,List.mem_singleton.1 h⟩⟩
   cases h
  rintro⟨i,h1,h2⟩
  by_cases hi:i=n
  ·subst hi;rcases h2 with⟨h3,rfl⟩|⟨h3,rfl⟩
   ·exact .inr (.inl (by rw[if_pos h3];exact List.mem_singleton.2 rfl))
   exact .inr (.inr (by rw[if_pos h3];exact List.mem_singleton.2 rfl))
  exact .inl ⟨i,by omega,h2⟩
theorem rdE_co(l:List Fw)(L:Nat→Int)(n:Nat):∀e∈rdE l L n,-128≤e.co∧e.co≤127:=by
 intro e he;obtain⟨i,_,⟨_,rfl⟩|⟨_,rfl⟩⟩:=(aIy n).1 he <;> (dsimp only;omega)
theorem cost_ex(es:List Ed):∃c,aGh es es c:=by
 have key:∀(suf pre:List Ed) (c:Int→Int→Int),aGh es pre c→es=pre++suf→∃c,aGh es es c:=by
  intro suf
  induction suf with
  | nil=>intro pre c h he;rw[List.append_nil]at he;exact⟨c,by rw[←he]at h;exact h⟩
  | cons e suf ih=>
   intro pre c h he;exact ih (pre++[e]) _ (h.step (e:=e) (by rw[he];simp)) (by rw[he];simp)
 exact key es [] _ (aGh.init es) rfl
def okD(x:Fw):Prop:=inP x.fr∧inP x.tt∧x.fr≠x.tt∧1≤x.am∧x.am≤1099511627776
def keyD(x:Fw):Int:=256*x.fr+x.tt
instance(x:Fw):Decidable (okD x):=by unfold okD;infer_instance
structure MayD(l:List Fw):Prop where
 ok:∀i,i<l.length→okD (dbt l i)
 up:∀i,i+1<l.length→keyD (dbt l i)<keyD (dbt l (i+1))
section
variable{l:List Fw}
theorem MayD.lt(h:MayD l){i:Nat}:∀d,i+d+1<l.length→keyD (dbt l i)<keyD (dbt l (i+d+1))
 | 0,hd=>h.up i hd
 | d+1,hd=>by
  have h1:=h.lt (i:=i) d (by omega);have h2:=h.up (i+d+1) (by omega);rw[show i+(d+1)+1=i+d+1+1 by omega];omega
theorem MayD.inj(h:MayD l){i j:Nat}(hi:i<l.length)(hj:j<l.length)(h1:(dbt l i).fr=(dbt l j).fr)(h2:(dbt l i).tt=(dbt l j).tt):i=j:=by
 have hk:keyD (dbt l i)=keyD (dbt l j):=by unfold keyD;rw[h1,h2]
 rcases Nat.lt_trichotomy i j with hl|hl|hl
 ·have:=h.lt (i:=i) (j - i - 1) (by omega);rw[show i+(j - i - 1)+1=j by omega]at this;omega
 ·exact hl
 have:=h.lt (i:=j) (i - j - 1) (by omega);rw[show j+(i - j - 1)+1=i by omega]at this;omega
end
def aHp(p:Nat→Bool):Nat→Option Nat
 | 0=>none
 | n+1=>if p n then some n else aHp p n
theorem aG3{p:Nat→Bool}:∀{n i:Nat},aHp p n=some i→i<n∧p i=true
 | 0,i,h=>by cases h
 | n+1,i,h=>by
  unfold aHp at h;split at h
  ·rename_i hp
   cases h
   exact⟨by omega,hp⟩
  obtain⟨h1,h2⟩:=aG3 h;exact⟨by omega,h2⟩
theorem aJ0{p:Nat→Bool}:∀{n:Nat},aHp p n=none→∀i,i<n→p i=false
 | 0,_,i,hi=>by omega
 | n+1,h,i,hi=>by
  unfold aHp at h;split at h
  ·cases h
  rename_i hp
  by_cases hin:i=n
  ·subst hin;simpa using hp
  exact aJ0 h i (by omega)
theorem aJ1{p:Nat→Bool}{n i:Nat}(hi:i<n)(hp:p i=true)(hu:∀j,j<n→p j=true→j=i):aHp p n=some i:=by
 cases h:aHp p n with
 | none=>rw[aJ0 h i hi]at hp;cases hp
 | some j=>
  obtain⟨h1,h2⟩:=aG3 h;rw[hu j h1 h2]
def pA(l:List Fw)(L:Nat→Int)(a b:Int)(i:Nat):Bool:=(dbt l i).fr==a && (dbt l i).tt==b && decide (0<L i)
def pB(l:List Fw)(a b:Int)(i:Nat):Bool:=(dbt l i).fr==b && (dbt l i).tt==a
def bkS(l:List Fw)(L:Nat→Int)(a b:Int):Bool:=(aHp (pA l L a b) l.length).isNone
def ixS(l:List Fw)(L:Nat→Int)(a b:Int):Nat:=match aHp (pA l L a b) l.length with
 | some i=>i
 | none=>(aHp (pB l a b) l.length).getD 0
def avS(l:List Fw)(L:Nat→Int)(a b:Int):Int:=if bkS l L a b then(dbt l (ixS l L a b)).am - L (ixS l L a b)else L (ixS l L a b)
def uW(W:List Int)(i:Nat):Int:=W.getD (i%W.length) 0
def minK(l:List Fw)(L:Nat→Int)(u:Nat→Int):Nat→Int
 | 0=>1099511627776
 | k+1=>min (minK l L u k) (avS l L (u k) (u (k+1)))
def updL(L:Nat→Int)(i:Nat)(v:Int):Nat→Int:=fun j=>if j=i then v else L j
def tkK(l:List Fw)(L:Nat→Int)(u:Nat→Int)(n:Int):Nat→(Nat→Int)
 | 0=>L
 | k+1=>updL (tkK l L u n k) (ixS l L (u k) (u (k+1))) (tkK l L u n k (ixS l L (u k) (u (k+1)))+(if bkS l L (u k) (u (k+1))then n else -n))
def wayD(l:List Fw)(L:Nat→Int):List Int:=aG9 (rdE l L l.length)
def amtD(l:List Fw)(L:Nat→Int):Int:=minK l L (uW (wayD l L)) (wayD l L).length
def aN1(l:List Fw)(L:Nat→Int):Nat→Int:=tkK l L (uW (wayD l L)) (amtD l L) (wayD l L).length
theorem aHi.uW{c:Int→Int→Int}{W:List Int}{K:Nat}{u:Nat→Int}(h:aHi c W K u):aHi c W K (uW W):=by
 have hk:=h.k1;have hl:=h.len
 have e0:∀i,i<K→Go.Proofs.YtngnfdnfpiiclaaGreat.uW W i=u i:=fun i hi=>by
  unfold Go.Proofs.YtngnfdnfpiiclaaGreat.uW;rw[hl,Nat.mod_eq_of_lt hi,List.getD_eq_getElem?_getD,h.at_ i hi];rfl
 have e1:∀i,i≤K→Go.Proofs.YtngnfdnfpiiclaaGreat.uW W i=u i:=fun i hi=>by
  rcases Nat.lt_or_ge i K with h1|h1
  ·exact e0 i h1
  have:i=K:=by omega
  subst this;rw[h.back,←e0 0 hk];unfold Go.Proofs.YtngnfdnfpiiclaaGreat.uW;rw[hl,Nat.mod_self,Nat.zero_mod]
 have em:∀i,Go.Proofs.YtngnfdnfpiiclaaGreat.uW W i=u (i%K):=fun i=>by
  have hm:=Nat.mod_lt i (show 0<K by omega);rw[←e0 _ hm];unfold Go.Proofs.YtngnfdnfpiiclaaGreat.uW;rw[hl,Nat.mod_mod]
 refine⟨hk,h.k16,hl,fun i hi=>by rw[e0 i hi];exact h.at_ i hi,by rw[e1 K yL,e1 0 (Nat.zero_le _)];exact h.back,fun i=>by rw[em];exact h.ends _,fun i=>by rw[em i,em 0,Nat.zero_mod];exact h.least _,
  fun k i hki hi=>by rw[e0 k (by omega),e0 i hi];exact h.apart k i hki hi,fun i hi=>by rw[e1 i (by omega),e1 (i+1) (by omega)];exact h.cost i hi,?_⟩
 have key:∀n,n≤K→sumU c (Go.Proofs.YtngnfdnfpiiclaaGreat.uW W) n=sumU c u n:=by
  intro n
  induction n with
  | zero=>intro _;rfl
  | succ n ih=>
   intro hn;show sumU c (Go.Proofs.YtngnfdnfpiiclaaGreat.uW W) n+c _ _=sumU c u n+c _ _;rw[ih (by omega),e1 n (by omega),e1 (n+1) hn]
 rw[key K yL];exact h.all
def sumN(g:Nat→Int):Nat→Int
 | 0=>0
 | n+1=>sumN g n+g n
theorem aKy(L:Nat→Int)(i:Nat)(v:Int)(f:Nat→Int→Int):∀n,sumN (fun j=>f j (updL L i v j)) n=sumN (fun j=>f j (L j)) n+if i<n then f i v - f i (L i)else 0
 | 0=>by simp[sumN]
 | n+1=>by
  show sumN (fun j=>f j (updL L i v j)) n+f n (updL L i v n)=(sumN (fun j=>f j (L j)) n+f n (L n))+_;rw[aKy L i v f n];unfold updL
  by_cases h:n=i
  ·subst h;rw[if_pos rfl,if_neg (Nat.lt_irrefl _),if_pos (Nat.lt_succ_self _)];omega
  rw[if_neg h]
  by_cases h2:i<n
  ·rw[if_pos h2,if_pos (by omega)];omega
  rw[if_neg h2,if_neg (by omega)];omega
theorem sumN_le{g h:Nat→Int}:∀n,(∀i,i<n→g i≤h i)→sumN g n≤sumN h n
 | 0,_=>Int.le_refl _
 | n+1,hh=>by
  have h1:=sumN_le n (fun i hi=>hh i (by omega));have h2:=hh n (by omega);show sumN g n+g n≤sumN h n+h n;omega
theorem sumN_bd{g:Nat→Int}{B:Int}:∀n:Nat,(∀i,i<n→0≤g i∧g i≤B)→0≤sumN g n∧sumN g n≤B*n
 | 0,_=>by simp[sumN]
 | n+1,h=>by
  have h1:=sumN_bd n (fun i hi=>h i (by omega));have h2:=h n (by omega);have h3:B*((n+1:Nat):Int)=B*(n:Int)+B:=by rw[Int.natCast_add,Int.mul_add];simp
  show 0≤sumN g n+g n∧sumN g n+g n≤_;omega
def psD(l:List Fw)(p:Int)(i:Nat)(n:Int):Int:=(if(dbt l i).tt=p then n else 0) - (if(dbt l i).fr=p then n else 0)
def posD(l:List Fw)(L:Nat→Int)(p:Int):Int:=sumN (fun i=>psD l p i (L i)) l.length
structure RdOk(l:List Fw)(L:Nat→Int):Prop where
 lo:∀i,i<l.length→0≤L i
 hi:∀i,i<l.length→L i≤(dbt l i).am
structure StD(l:List Fw)(L:Nat→Int)(c:Int→Int→Int)(a b:Int):Prop where
 ix:ixS l L a b<l.length
 is:(bkS l L a b=false∧(dbt l (ixS l L a b)).fr=a∧(dbt l (ixS l L a b)).tt=b∧0<L (ixS l L a b)∧c a b = -1)∨
  (bkS l L a b=true∧(dbt l (ixS l L a b)).fr=b∧(dbt l (ixS l L a b)).tt=a∧L (ixS l L a b)<(dbt l (ixS l L a b)).am∧c a b=1)
theorem step_is{l:List Fw}{L:Nat→Int}(hM:MayD l){c:Int→Int→Int}(hC:aGh (rdE l L l.length) (rdE l L l.length) c){a b:Int}(hc:c a b≤127):StD l L c a b:=by
 rcases hC.is a b with h|⟨e,he,ho,e1,e2,e3⟩
 ·omega
 by_cases hx:∃i,i<l.length∧pA l L a b i=true
 ·obtain⟨i,hi,hp⟩:=hx;have hp':=hp;unfold pA at hp';simp only[Bool.and_eq_true,beq_iff_eq,decide_eq_true_eq]at hp';obtain⟨⟨p1,p2⟩,p3⟩:=hp'
  have hl:=aJ1 hi hp (fun j hj hq=>by
   unfold pA at hq;simp only[Bool.and_eq_true,beq_iff_eq,decide_eq_true_eq]at hq;exact hM.inj hj hi (by rw[hq.1.1,p1]) (by rw[hq.1.2,p2]))
  have hix:ixS l L a b=i:=by unfold ixS;rw[hl]
  have hbk:bkS l L a b=false:=by unfold bkS;rw[hl];rfl
  have hle:=hC.le ⟨(dbt l i).fr,(dbt l i).tt,-1⟩ ((aIy _).2 ⟨i,hi,.inl ⟨p3,rfl⟩⟩) ⟨(hM.ok i hi).1,(hM.ok i hi).2.1⟩;rw[show(⟨(dbt l i).fr,(dbt l i).tt,-1⟩:Ed).fr=a from p1,show(⟨(dbt l i).fr,(dbt l i).tt,-1⟩:Ed).tt=b from p2]at hle
  have hco:c a b = -1:=by
   obtain⟨j,_,⟨_,rfl⟩|⟨_,rfl⟩⟩:=(aIy _).1 he
   ·exact e3
   have:c a b=1:=e3;have:(-1:Int) ≥ c a b:=hle;omega
  refine⟨by rw[hix];exact hi,.inl ⟨hbk,?_⟩⟩;rw[hix];exact⟨p1,p2,p3,hco⟩
 have hn:aHp (pA l L a b) l.length=none:=by
  cases h:aHp (pA l L a b) l.length with
  | none=>rfl
  | some i=>
   obtain⟨h1,h2⟩:=aG3 h;exact absurd ⟨i,h1,h2⟩ hx
 have hbk:bkS l L a b=true:=by unfold bkS;rw[hn];rfl
 obtain⟨i,hi,⟨h1,rfl⟩|⟨h1,rfl⟩⟩:=(aIy _).1 he
 ·exact absurd ⟨i,hi,by unfold pA;simp only[Bool.and_eq_true,beq_iff_eq,decide_eq_true_eq];exact⟨⟨e1,e2⟩,h1⟩⟩ hx
 have hl:=aJ1 (p:=pB l a b) hi (by unfold pB;simp only[Bool.and_eq_true,beq_iff_eq];exact⟨e2,e1⟩) (fun j hj hq=>by
  unfold pB at hq;simp only[Bool.and_eq_true,beq_iff_eq]at hq;exact hM.inj hj hi (by rw[hq.1];exact e2.symm) (by rw[hq.2];exact e1.symm))
 have hix:ixS l L a b=i:=by unfold ixS;rw[hn,hl];rfl
 refine⟨by rw[hix];exact hi,.inr ⟨hbk,?_⟩⟩;rw[hix];exact⟨e2,e1,h1,e3⟩
theorem StD.av{l:List Fw}{L:Nat→Int}{c:Int→Int→Int}{a b:Int}(h:StD l L c a b):1≤avS l L a b:=by
 unfold avS;rcases h.is with⟨h1,_,_,h2,_⟩|⟨h1,_,_,h2,_⟩
 ·rw[h1];simp only[Bool.false_eq_true,if_false];omega
 rw[h1,if_pos rfl];omega
theorem minK_le(l:List Fw)(L:Nat→Int)(u:Nat→Int):∀K,minK l L u K≤1099511627776∧∀k,k<K→minK l L u K≤avS l L (u k) (u (k+1))
 | 0=>⟨Int.le_refl _,fun k hk=>by omega⟩
 | K+1=>by
  obtain⟨h1,h2⟩:=minK_le l L u K;refine⟨by show min _ _≤_;omega,fun k hk=>?_⟩;show min (minK l L u K) (avS l L (u K) (u (K+1)))≤_
  by_cases hkK:k=K
  ·subst hkK;exact Int.min_le_right _ _
  have:=h2 k (by omega);omega
theorem minK_pos(l:List Fw)(L:Nat→Int)(u:Nat→Int):∀K,(∀k,k<K→1≤avS l L (u k) (u (k+1)))→1≤minK l L u K
 | 0,_=>by show(1:Int)≤1099511627776;decide
 | K+1,h=>by
  have h1:=minK_pos l L u K (fun k hk=>h k (by omega));have h2:=h K (by omega);show 1≤min _ _;omega
theorem aN2{l:List Fw}{L:Nat→Int}(hM:MayD l){c:Int→Int→Int}{W:List Int}{K:Nat}{u:Nat→Int}(hu:aHi c W K u)(hS:∀k,k<K→StD l L c (u k) (u (k+1))){j k:Nat}(hj:j<k)(hk:k<K):
  ixS l L (u j) (u (j+1))≠ixS l L (u k) (u (k+1)):=by
 intro he;have s1:=(hS j (by omega)).is;have s2:=(hS k hk).is;have ok:=hM.ok _ (hS k hk).ix;rw[he]at s1;have hne:=hu.apart j k hj hk;rcases s1 with⟨_,a1,a2,_,a3⟩|⟨_,a1,a2,_,a3⟩ <;> rcases s2 with⟨_,b1,b2,_,b3⟩|⟨_,b1,b2,_,b3⟩
 ·exact hne (a1.symm.trans b1)
 ·-- forth at j,back at k
  have e1:u j=u (k+1):=a1.symm.trans b1;have e2:u (j+1)=u k:=a2.symm.trans b2
  have hj1:j+1=k:=by
   rcases Nat.lt_or_ge (j+1) k with q|q
   ·exact absurd e2 (hu.apart (j+1) k q hk)
   omega
  have hk1:k+1=K:=by
   rcases Nat.lt_or_ge (k+1) K with q|q
   ·exact absurd e1 (hu.apart j (k+1) (by omega) q)
   omega
  have hj0:j=0:=by
   rcases Nat.eq_zero_or_pos j with q|q
   ·exact q
   rw[hk1,hu.back]at e1;exact absurd e1.symm (hu.apart 0 j q (by omega))
  subst hj0;have hall:=hu.all;rw[←hk1,←hj1]at hall;have:sumU c u (0+1+1)=0+c (u 0) (u (0+1))+c (u (0+1)) (u (0+1+1)):=rfl;rw[←hj1]at b3;omega
 ·have e1:u (j+1)=u k:=a1.symm.trans b1;have e2:u j=u (k+1):=a2.symm.trans b2
  have hj1:j+1=k:=by
   rcases Nat.lt_or_ge (j+1) k with q|q
   ·exact absurd e1 (hu.apart (j+1) k q hk)
   omega
  have hk1:k+1=K:=by
   rcases Nat.lt_or_ge (k+1) K with q|q
   ·exact absurd e2 (hu.apart j (k+1) (by omega) q)
   omega
  have hj0:j=0:=by
   rcases Nat.eq_zero_or_pos j with q|q
   ·exact q
   rw[hk1,hu.back]at e2;exact absurd e2.symm (hu.apart 0 j q (by omega))
  subst hj0;have hall:=hu.all;rw[←hk1,←hj1]at hall;have:sumU c u (0+1+1)=0+c (u 0) (u (0+1))+c (u (0+1)) (u (0+1+1)):=rfl;rw[←hj1]at b3;omega
 exact hne (a2.symm.trans b2)
structure TkI(l:List Fw)(L:Nat→Int)(c:Int→Int→Int)(u:Nat→Int)(n:Int)(k:Nat)(M:Nat→Int):Prop where
 off:∀i,(∀j,j<k→ixS l L (u j) (u (j+1))≠i)→M i=L i
 on:∀j,j<k→M (ixS l L (u j) (u (j+1)))=L (ixS l L (u j) (u (j+1)))+if bkS l L (u j) (u (j+1))then n else -n
 sum:sumN M l.length=sumN L l.length+n*sumU c u k
 pos:∀p,posD l M p=posD l L p+(if u 0=p then n else 0) - (if u k=p then n else 0)
theorem tk_all{l:List Fw}{L:Nat→Int}(hM:MayD l){c:Int→Int→Int}{W:List Int}{K:Nat}{u:Nat→Int}(hu:aHi c W K u)(hS:∀k,k<K→StD l L c (u k) (u (k+1)))(n:Int):∀k,k≤K→TkI l L c u n k (tkK l L u n k)
 | 0,_=>⟨fun i _=>rfl,fun j hj=>by omega,by show sumN L l.length=_+n*0;rw[Int.mul_zero,Int.add_zero],fun p=>by show posD l L p=_;omega⟩
 | k+1,hk=>by
  have ih:=tk_all hM hu hS n k (by omega);have st:=hS k (by omega);have hap:∀j,j<k→ixS l L (u j) (u (j+1))≠ixS l L (u k) (u (k+1)):=fun j hj=>aN2 hM hu hS hj (by omega)
  have hat:=ih.off _ hap;have hsum:sumU c u (k+1)=sumU c u k+c (u k) (u (k+1)):=rfl;refine⟨fun i hi=>?_,fun j hj=>?_,?_,fun p=>?_⟩
  ·show updL _ _ _ i=_;unfold updL;rw[if_neg (fun h=>hi k (by omega) h.symm)];exact ih.off i (fun j hj=>hi j (by omega))
  ·show updL _ _ _ _=_;unfold updL
   by_cases hjk:j=k
   ·subst hjk;rw[if_pos rfl,hat]
   rw[if_neg (hap j (by omega))];exact ih.on j (by omega)
  ·show sumN (updL (tkK l L u n k) _ _) l.length=_;have:=aKy (tkK l L u n k) (ixS l L (u k) (u (k+1))) (tkK l L u n k (ixS l L (u k) (u (k+1)))+(if bkS l L (u k) (u (k+1))then n else -n)) (fun _ x=>x) l.length;rw[if_pos st.ix]at this;rw[show sumN (updL (tkK l L u n k) (ixS l L (u k) (u (k+1))) (tkK l L u n k (ixS l L (u k) (u (k+1)))+(if bkS l L (u k) (u (k+1))then n else -n))) l.length=_ from this,show sumN (fun j=>tkK l L u n k j) l.length=_ from ih.sum,hsum,Int.mul_add];rcases st.is with⟨h1,_,_,_,h2⟩|⟨h1,_,_,_,h2⟩
   ·rw[h1,h2];simp only[Bool.false_eq_true,if_false];omega
   rw[h1,h2,if_pos rfl];omega
  show posD l (updL (tkK l L u n k) _ _) p=_;have:=aKy (tkK l L u n k) (ixS l L (u k) (u (k+1))) (tkK l L u n k (ixS l L (u k) (u (k+1)))+(if bkS l L (u k) (u (k+1))then n else -n)) (psD l p) l.length;rw[if_pos st.ix]at this;rw[show posD l (updL (tkK l L u n k) (ixS l L (u k) (u (k+1))) (tkK l L u n k (ixS l L (u k) (u (k+1)))+(if bkS l L (u k) (u (k+1))then n else -n))) p=_ from this,show sumN (fun j=>psD l p j (tkK l L u n k j)) l.length=_ from ih.pos p];generalize tkK l L u n k (ixS l L (u k) (u (k+1)))=y;unfold psD;rcases st.is with⟨h1,h3,h4,_,h2⟩|⟨h1,h3,h4,_,h2⟩
  ·rw[h1,h3,h4];simp only[Bool.false_eq_true,if_false];split <;> split <;> omega
  rw[h1,h3,h4,if_pos rfl];split <;> split <;> omega
structure NextD(l:List Fw)(L M:Nat→Int):Prop where
 ok:RdOk l M
 sum:sumN M l.length+1≤sumN L l.length
 pos:∀p,posD l M p=posD l L p
theorem next_is{l:List Fw}{L:Nat→Int}(hM:MayD l)(hL:RdOk l L)(h:wayD l L≠[]):NextD l L (aN1 l L)∧∃c K,aGh (rdE l L l.length) (rdE l L l.length) c∧(wayD l L).length=K∧aHi c (wayD l L) K (uW (wayD l L))∧(∀k,k<K→StD l L c (uW (wayD l L) k) (uW (wayD l L) (k+1)))∧TkI l L c (uW (wayD l L)) (amtD l L) K (aN1 l L)∧1≤amtD l L:=by
 obtain⟨c,hC⟩:=cost_ex (rdE l L l.length);obtain⟨K,u0,hu0⟩:=aN0 hC (rdE_co l L l.length) h;have hu:=hu0.uW;have hl:(wayD l L).length=K:=hu.len
 change aHi c (wayD l L) K (uW (wayD l L))at hu
 have hS:∀k,k<K→StD l L c (uW (wayD l L) k) (uW (wayD l L) (k+1)):=fun k hk=>step_is hM hC (hu.cost k hk).2
 have hn1:1≤amtD l L:=by
  unfold amtD;rw[hl];exact minK_pos _ _ _ _ fun k hk=>(hS k hk).av
 have hle:=(minK_le l L (uW (wayD l L)) K).2
 have hT:TkI l L c (uW (wayD l L)) (amtD l L) K (aN1 l L):=by
  have:=tk_all hM hu hS (amtD l L) K yL;unfold aN1;rw[hl];exact this
 refine⟨⟨⟨fun i hi=>?_,fun i hi=>?_⟩,?_,fun p=>?_⟩,c,K,hC,hl,hu,hS,hT,hn1⟩
 ·by_cases hx:∃j,j<K∧ixS l L (uW (wayD l L) j) (uW (wayD l L) (j+1))=i
  ·obtain⟨j,hj,rfl⟩:=hx;rw[hT.on j hj];have h1:=hle j hj;have h2:=hL.lo _ hi;unfold amtD at hn1 ⊢;rw[hl]at hn1 ⊢;unfold avS at h1;split
   ·omega
   rename_i hb;rw[if_neg hb]at h1;omega
  rw[hT.off i (fun j hj e=>hx ⟨j,hj,e⟩)];exact hL.lo i hi
 ·by_cases hx:∃j,j<K∧ixS l L (uW (wayD l L) j) (uW (wayD l L) (j+1))=i
  ·obtain⟨j,hj,rfl⟩:=hx;rw[hT.on j hj];have h1:=hle j hj;have h2:=hL.hi _ hi;unfold amtD at hn1 ⊢;rw[hl]at hn1 ⊢;unfold avS at h1;split
   ·rename_i hb;rw[if_pos hb]at h1;omega
   omega
  rw[hT.off i (fun j hj e=>hx ⟨j,hj,e⟩)];exact hL.hi i hi
 ·have h1:=hT.sum;have h2:=hu.all;have h3:amtD l L*sumU c (uW (wayD l L)) K≤amtD l L*(-1):=Int.mul_le_mul_of_nonneg_left (by omega) (by omega);omega
 have h1:=hT.pos p;rw[hu.back]at h1;omega
def amD(l:List Fw):Nat→Int:=fun i=>(dbt l i).am
def itD(l:List Fw):Nat→(Nat→Int)
 | 0=>amD l
 | k+1=>aN1 l (itD l k)
structure aIz(l:List Fw)(k:Nat)(L:Nat→Int):Prop where
 at_:L=itD l k
 ok:RdOk l L
 sum:(k:Int)+sumN L l.length≤sumN (amD l) l.length
 pos:∀p,posD l L p=posD l (amD l) p
 go:∀j,j<k→wayD l (itD l j)≠[]
theorem aIz.start{l:List Fw}(h:MayD l):aIz l 0 (amD l):=
 ⟨rfl,⟨fun i hi=>by have:=(h.ok i hi).2.2.2.1;show 0≤(dbt l i).am;omega,fun i hi=>Int.le_refl _⟩,by simp,fun p=>rfl,fun j hj=>by omega⟩
theorem aIz.step{l:List Fw}{k:Nat}{L:Nat→Int}(hM:MayD l)(h:aIz l k L)(hn:wayD l L≠[]):aIz l (k+1) (aN1 l L):=by
 obtain⟨hx,_⟩:=next_is hM h.ok hn;refine⟨by rw[h.at_];rfl,hx.ok,?_,fun p=>by rw[hx.pos,h.pos],fun j hj=>?_⟩
 ·have:=hx.sum;have:=h.sum;rw[Int.natCast_add];omega
 by_cases hjk:j=k
 ·subst hjk;rw[←h.at_];exact hn
 exact h.go j (by omega)
structure aN3(l:List Fw)(L:Nat→Int)(k:Nat):Prop where
 inv:aIz l k L
 done:wayD l L=[]
theorem aIz.k_le{l:List Fw}{k:Nat}{L:Nat→Int}(h:aIz l k L):(k:Int)≤sumN (amD l) l.length:=by
 have h1:=h.sum;have h2:=(sumN_bd (g:=L) (B:=0) 0 (fun i hi=>by omega)).1
 have h3:0≤sumN L l.length:=by
  have:=sumN_le (g:=fun _=>0) (h:=L) l.length (fun i hi=>h.ok.lo i hi);have hz:∀n,sumN (fun _=>0) n=0:=fun n=>by induction n with|zero=>rfl|succ n ih=>show sumN _ n+0=0;rw[ih];rfl
  rw[hz]at this;exact this
 omega
theorem least_ends{l:List Fw}(hM:MayD l):∃L k,aN3 l L k:=by
 have key:∀n:Nat,(∃L k,aN3 l L k)∨(∃L,aIz l n L∧wayD l L≠[]):=by
  intro n
  induction n with
  | zero=>
   by_cases hd:wayD l (amD l)=[]
   ·exact .inl ⟨_,0,aIz.start hM,hd⟩
   ·exact .inr ⟨_,aIz.start hM,hd⟩
  | succ n ih=>
   rcases ih with h1|⟨L,h1,h2⟩
   ·exact .inl h1
   have h3:=h1.step hM h2
   by_cases hd:wayD l (aN1 l L)=[]
   ·exact .inl ⟨_,n+1,h3,hd⟩
   exact .inr ⟨_,h3,hd⟩
 rcases key ((sumN (amD l) l.length).toNat+1)with h1|⟨L,h1,_⟩
 ·exact h1
 have:=h1.k_le;omega
theorem aKz{l:List Fw}{i:Nat}(h:i<l.length):dbt l i=l[i]:=by unfold dbt;simp[h]
def DebtsIn(w:World)(ao:Option Addr)(l:List Fw):Prop:=
 0<l.length→∃b off,ao=some ⟨b,off,none⟩∧b<w.heap.size∧∀m,m<l.length→w.cell? ⟨b,off+m*3,none⟩=some (.int .u8 (dbt l m).fr)∧w.cell? ⟨b,off+m*3+1,none⟩=some (.int .u8 (dbt l m).tt)∧w.cell? ⟨b,off+m*3+2,none⟩=some (.int .i64 (dbt l m).am)
end Go.Proofs.YtngnfdnfpiiclaaGreat
namespace Go.Proofs.YtngnfdnfpiiclaaGreat
open Go.RowKit Go.ChangeShapes Go.WideShapes Go.Deep
section
variable{H:Type}{enc:TypeId×Value→H}{P:Program}{w:World}{base:Nat}{spare:Nat→Bool}{held:Bool}
end
section
variable{H:Type}{enc:TypeId×Value→H}{w:World}{base:Nat}{spare:Nat→Bool}{held:Bool}
end
theorem SlIn.edges{w:World}{a:Option Addr}{len cap:Nat}{xs:List Ed}(h:SlIn Ed.vals 3 Ed.Fits w a len cap xs)(hn:len≤100000000):aAs w (.slice a xs.length cap) 3 xs.length (aKk xs):=by
 obtain⟨h0,hl,hk,h1,h2,h3⟩:=h;subst hl;refine⟨a,cap,rfl,hn,aNc xs,fun hp=>?_⟩;obtain⟨b,off,ha,hb,hc⟩:=h3 hp;refine⟨b,off,ha,hb,fun j hj=>?_⟩;have hjd:j/3<xs.length:=by omega
 have h4:=aNd xs (j/3) (j%3) (by omega) hjd;rw[show j/3*3+j%3=j by omega]at h4;have hv:(xs[j/3].vals)[j%3]? = some (xs[j/3].vals[j%3]'(by rw[Ed.vals_len];omega)):=List.getElem?_eq_getElem _;have h5:=hc (j/3) hjd (j%3) _ hv;rw[show off+j/3*3+j%3=off+j by omega]at h5;rw[h5,h4,hv]
end Go.Proofs.YtngnfdnfpiiclaaGreat
namespace Go.Proofs.YtngnfdnfpiiclaaGreat
open Go.RowKit Go.Shelf
def sortL_ren:Go.Shelf.Ren:=⟨fun|6=>100|15=>141|14=>140|28=>186|29=>187|20=>178|21=>179|22=>180|23=>181|24=>182|25=>183|26=>184|27=>185|46=>218|47=>219|48=>220|49=>221|50=>222|57=>257|n=>n,fun|22=>42|24=>71|25=>193|3=>3|39=>227|0=>0|53=>278|55=>44|4=>4|46=>271|45=>270|50=>275|5=>5|9=>9|66=>310|70=>313|76=>358|77=>359|n=>n,fun|n=>n⟩
theorem sortL:Go.Proofs.SlLaysF0.n6 Tryz.prog sortL_ren:={
 mixed:=by kernel_rfl
 f6:=⟨Tryz.f100.name,by decide,Tryz.func100.trans (congrArg some (by kernel_rfl))⟩
 f14:=⟨Tryz.f140.name,by decide,Tryz.func140.trans (congrArg some (by kernel_rfl))⟩
 f15:=Tryz.func141.trans (congrArg some (by kernel_rfl))
 f20:=⟨Tryz.f178.name,by decide,Tryz.func178.trans (congrArg some (by kernel_rfl))⟩
 f21:=⟨Tryz.f179.name,by decide,Tryz.func179.trans (congrArg some (by kernel_rfl))⟩
 f22:=⟨Tryz.f180.name,by decide,Tryz.func180.trans (congrArg some (by kernel_rfl))⟩
 f23:=⟨Tryz.f181.name,by decide,Tryz.func181.trans (congrArg some (by kernel_rfl))⟩
 f24:=⟨Tryz.f182.name,by decide,Tryz.func182.trans (congrArg some (by kernel_rfl))⟩
 f25:=⟨Tryz.f183.name,by decide,Tryz.func183.trans (congrArg some (by kernel_rfl))⟩
 f26:=⟨Tryz.f184.name,by decide,Tryz.func184.trans (congrArg some (by kernel_rfl))⟩
 f27:=⟨Tryz.f185.name,by decide,Tryz.func185.trans (congrArg some (by kernel_rfl))⟩
 f28:=Tryz.func186.trans (congrArg some (by kernel_rfl))
 f29:=Tryz.func187.trans (congrArg some (by kernel_rfl))
 f46:=⟨Tryz.f218.name,by decide,Tryz.func218.trans (congrArg some (by kernel_rfl))⟩
 f47:=Tryz.func219.trans (congrArg some (by kernel_rfl))
 f48:=Tryz.func220.trans (congrArg some (by kernel_rfl))
 f49:=⟨Tryz.f221.name,by decide,Tryz.func221.trans (congrArg some (by kernel_rfl))⟩
 f50:=⟨Tryz.f222.name,by decide,Tryz.func222.trans (congrArg some (by kernel_rfl))⟩
 f57:=⟨Tryz.f257.name,by decide,Tryz.func257.trans (congrArg some (by kernel_rfl))⟩
 t0:=Tryz.underlying0
 a0:=Tryz.isAgg0
 z0:=Tryz.sizeOf0
 v0:=Tryz.zeroValue0
 t3:=Tryz.underlying3
 a3:=Tryz.isAgg3
 z3:=Tryz.sizeOf3
 v3:=Tryz.zeroValue3
 t4:=Tryz.underlying4
 a4:=Tryz.isAgg4
 z4:=Tryz.sizeOf4
 v4:=Tryz.zeroValue4
 t5:=Tryz.underlying5
 a5:=Tryz.isAgg5
 z5:=Tryz.sizeOf5
 v5:=Tryz.zeroValue5
 t9:=Tryz.underlying9
 a9:=Tryz.isAgg9
 z9:=Tryz.sizeOf9
 v9:=Tryz.zeroValue9
 t22:=Tryz.underlying42
 a22:=Tryz.isAgg42
 z22:=Tryz.sizeOf42
 v22:=Tryz.zeroValue42
 t25:=Tryz.underlying193
 a25:=Tryz.isAgg193
 z25:=Tryz.sizeOf193
 v25:=Tryz.zeroValue193
 t39:=Tryz.underlying227
 a39:=Tryz.isAgg227
 z39:=Tryz.sizeOf227
 v39:=Tryz.zeroValue227
 t45:=Tryz.underlying270
 a45:=Tryz.isAgg270
 z45:=Tryz.sizeOf270
 v45:=Tryz.zeroValue270
 t46:=Tryz.underlying271
 a46:=Tryz.isAgg271
 z46:=Tryz.sizeOf271
 v46:=Tryz.zeroValue271
 t50:=Tryz.underlying275
 a50:=Tryz.isAgg275
 z50:=Tryz.sizeOf275
 v50:=Tryz.zeroValue275
 t53:=Tryz.underlying278
 a53:=Tryz.isAgg278
 z53:=Tryz.sizeOf278
 v53:=Tryz.zeroValue278
 t55:=Tryz.underlying44
 a55:=Tryz.isAgg44
 z55:=Tryz.sizeOf44
 v55:=Tryz.zeroValue44
 t66:=Tryz.underlying310
 a66:=Tryz.isAgg310
 z66:=Tryz.sizeOf310
 v66:=Tryz.zeroValue310
 t70:=Tryz.underlying313
 a70:=Tryz.isAgg313
 z70:=Tryz.sizeOf313
 v70:=Tryz.zeroValue313
 t76:=Tryz.underlying358
 a76:=Tryz.isAgg358
 z76:=Tryz.sizeOf358
 v76:=Tryz.zeroValue358
 t77:=Tryz.underlying359
 a77:=Tryz.isAgg359
 z77:=Tryz.sizeOf359
 v77:=Tryz.zeroValue359 }
end Go.Proofs.YtngnfdnfpiiclaaGreat
namespace Go.Proofs.YtngnfdnfpiiclaaGreat
open Go.RowKit
end Go.Proofs.YtngnfdnfpiiclaaGreat
namespace Go.Proofs.YtngnfdnfpiiclaaGreat
open Go.RowKit Go.Shelf Go.Sort Go.Lib
instance:Inhabited Ln:=⟨noLn⟩
def cmp3(x y:Int):Int:=if x<y then -1 else if y<x then 1 else 0
def or3(p q r:Int):Int:=if p=0 then(if q=0 then r else q)else p
def ordL(x y:Ln):Int:=or3 (cmp3 x.cu y.cu) (cmp3 x.cr y.cr) (cmp3 x.de y.de)
theorem aK0(x y:Ln):ordL x y<0↔(x.cu<y.cu∨(x.cu=y.cu∧(x.cr<y.cr∨(x.cr=y.cr∧x.de<y.de)))):=by
 unfold ordL or3 cmp3
 (repeat' split) <;> omega
theorem aI0{x y:Ln}(hx:x.Fits)(hy:y.Fits):ordL x y<0↔x.rank<y.rank:=by
 rw[aK0];obtain⟨⟨a1,a2⟩,⟨b1,b2⟩,⟨c1,c2⟩,_,_⟩:=hx;obtain⟨⟨d1,d2⟩,⟨e1,e2⟩,⟨f1,f2⟩,_,_⟩:=hy;unfold Ln.rank;omega
theorem swoL:SWO (ltOf ordL) where
 irrefl x:=by unfold ltOf;rw[decide_eq_false_iff_not,aK0];omega
 trans x y z h1 h2:=by
  unfold ltOf at *;rw[decide_eq_true_eq,aK0]at *;omega
 ntrans x y z h1 h2:=by
  unfold ltOf at *;rw[decide_eq_false_iff_not,aK0]at *;omega
theorem aJ2(ls:List Ln){j:Nat}(h:j<ls.length*5):(flatK Ln.vals 5 ls.toArray)[j]! = (aAd ls)[j]'(by rw[aBa];exact h):=by
 rw[get_flatK _ _ _ j (by simpa using h)];have h1:j/5<ls.length:=by omega
 have h2:j%5<5:=Nat.mod_lt _ (by omega);have h3:=aAp ls (j/5) (j%5) h2 h1;rw[show j/5*5+j%5=j by omega]at h3;rw[List.getElem?_eq_getElem (by rw[aBa];exact h)]at h3;have h4:(ls.toArray)[j/5]! = ls[j/5]:=by simp[h1]
 rw[h4,List.getElem!_eq_getElem?_getD,←h3];rfl
theorem aN4{w:World}{g:Nat}{cur:Array Value}{e:TypeId}{ls:List Ln}(hb:w.heap[g]? = some (.cells cur e (0,0)))(ht:cur.toList.take (ls.length*5)=aAd ls):HoldsK Ln.vals 5 w g 0 ls.toArray:=by
 intro j hj;have hj':j<ls.length*5:=by simpa using hj
 refine⟨?_,by simp[World.frozen?,hb]⟩;rw[aJ2 ls hj'];have h1:(cur.toList.take (ls.length*5))[j]? = (aAd ls)[j]? := by rw[ht]
 rw[List.getElem?_take_of_lt hj']at h1;simp only[World.cell?,hb,Nat.zero_add];simp only[Option.isSome_none,Bool.false_eq_true,if_false];rw[←Array.getElem?_toList,h1,List.getElem?_eq_getElem (by rw[aBa];exact hj')];rfl
theorem heap_lines{w:World}{g n:Nat}{os:Array Obj}{cur:Array Value}{e:TypeId}(d:Array Ln)(hb:w.heap[g]? = some (.cells cur e (0,0))):
  (sortWorldK Ln.vals 5 w g 0 n d os).heap[g]? = some (.cells (putCells id 0 (flatK Ln.vals 5 d) cur) e (0,0)):=by
 have hg:g<w.heap.size:=(Array.getElem?_eq_some_iff.1 hb).1;unfold sortWorldK putRowK;rw[heap_grow_old _ _ (by simpa using hg)];simp[putRow,mapBlock,Go.Sort.ahead,Array.getElem?_modify,hb,onCells]
theorem keep_lines{w:World}{g n:Nat}{os:Array Obj}(d:Array Ln):Keep (·=g) w (sortWorldK Ln.vals 5 w g 0 n d os):=by
 refine⟨rfl,rfl,rfl,by simp[sortWorldK,putRowK],fun k hk hne=>?_⟩;unfold sortWorldK putRowK;rw[heap_grow_old _ _ (by simpa using hk)];have:g≠k:=fun e=>hne e.symm
 simp[putRow,mapBlock,Go.Sort.ahead,Array.getElem?_modify,this]
theorem take_lines(cur:Array Value)(ls:List Ln)(h:ls.length*5≤cur.size):(putCells id 0 (flatK Ln.vals 5 ls.toArray) cur).toList.take (ls.length*5)=aAd ls:=by
 apply List.ext_getElem?;intro j
 by_cases hj:j<ls.length*5
 ·have hf:=aJ2 ls hj;rw[List.getElem?_take_of_lt hj,Array.getElem?_toList,List.getElem?_eq_getElem (by rw[aBa];exact hj),←hf];simp[putCells,hj,show j<cur.size by omega]
 rw[List.getElem?_take_eq_none (by omega),List.getElem?_eq_none (by rw[aBa];omega)]
theorem sorted_is{done ls:List Ln}(hI:Inv ls)(hp:done.Perm ls)(d:Array Ln)(h1:PermIn 0 done.toArray.size done.toArray d)(h2:SortedIn (ltOf ordL) 0 done.toArray.size d):d.toList=ls:=by
 obtain⟨hs,_,hperm⟩:=h1
 have hpd:d.toList.Perm done:=by
  have e1:d.extract 0 done.toArray.size=d:=by rw[←hs,Array.extract_size]
  rw[e1,Array.extract_size]at hperm;simpa using hperm
 have hpl:=hpd.trans hp;have hne:d.toList.Pairwise fun x y=>x.rank≠y.rank:=(hpl.symm.pairwise_iff (fun{a b} (h:a.rank≠b.rank)=>h.symm)).1 (hI.sorted.imp fun h=>by omega)
 refine aC0 _ _ ?_ hI.sorted fun x=>hpl.mem_iff
 rw[List.pairwise_iff_getElem]at hne ⊢;intro i j hi hj hij;have hn:=hne i j hi hj hij;have hi':i<d.size:=by simpa using hi
 have hj':j<d.size:=by simpa using hj
 have hso:=h2 i j (Nat.zero_le _) hij (by rw[←hs];exact hj');rw[getElem!_pos d i hi',getElem!_pos d j hj']at hso;unfold ltOf at hso;rw[decide_eq_false_iff_not,aI0 (hI.good _ (hpl.mem_iff.1 (by simp))).fits (hI.good _ (hpl.mem_iff.1 (by simp))).fits]at hso;simp only[Array.getElem_toList]at hn ⊢;omega
theorem isnan_p(x:Int)(w:World):
  Calls Tryz.prog 189 #[.int .u8 x] w (yV w (.bool false)):=by
 have hx:(x==x)=true:=by simp
 go_enter Tryz.func189,Tryz.ntmps189;go_wp2;go_ret;exact⟨rfl,rfl⟩
theorem isnan_c(x:Int)(w:World):
  Calls Tryz.prog 188 #[.int .u8 x] w (yV w (.bool false)):=by
 have hx:(x==x)=true:=by simp
 go_enter Tryz.func188,Tryz.ntmps188;go_wp2;go_ret;exact⟨rfl,rfl⟩
theorem aMe(x y:Int)(w:World):
  Calls Tryz.prog 144 #[.int .u8 x,.int .u8 y] w (yV w (.int .i64 (cmp3 x y))):=by
 have c1:=yH (fun w=>isnan_p x w);have c2:=yH (fun w=>isnan_p y w);rcases Int.lt_trichotomy x y with h|h|h
 ·rw[show cmp3 x y = -1 by unfold cmp3;rw[if_pos h]];go_enter Tryz.func144,Tryz.ntmps144;go_wp2_with fail;refine(c1.out _).mono ?_;rintro e w1 ⟨rfl,rfl⟩;go_wp2_with fail;refine(c2.out _).mono ?_;rintro e w1 ⟨rfl,rfl⟩;go_wp2_with fail;go_ret;exact⟨rfl,rfl⟩
 ·rw[show cmp3 x y=0 by unfold cmp3;rw[if_neg (by omega),if_neg (by omega)]];subst h;go_enter Tryz.func144,Tryz.ntmps144;go_wp2_with fail;refine(c1.out _).mono ?_;rintro e w1 ⟨rfl,rfl⟩;go_wp2_with fail;refine(c2.out _).mono ?_;rintro e w1 ⟨rfl,rfl⟩;go_wp2_with fail;go_ret;exact⟨rfl,rfl⟩
 rw[show cmp3 x y=1 by unfold cmp3;rw[if_neg (by omega),if_pos h]];have h2:¬x<y:=by omega
 go_enter Tryz.func144,Tryz.ntmps144;go_wp2_with fail;refine(c1.out _).mono ?_;rintro e w1 ⟨rfl,rfl⟩;go_wp2_with fail;refine(c2.out _).mono ?_;rintro e w1 ⟨rfl,rfl⟩;go_wp2_with fail;go_ret;exact⟨rfl,rfl⟩
theorem compare_c(x y:Int)(w:World):
  Calls Tryz.prog 143 #[.int .u8 x,.int .u8 y] w (yV w (.int .i64 (cmp3 x y))):=by
 have c1:=yH (fun w=>isnan_c x w);have c2:=yH (fun w=>isnan_c y w);rcases Int.lt_trichotomy x y with h|h|h
 ·rw[show cmp3 x y = -1 by unfold cmp3;rw[if_pos h]];go_enter Tryz.func143,Tryz.ntmps143;go_wp2_with fail;refine(c1.out _).mono ?_;rintro e w1 ⟨rfl,rfl⟩;go_wp2_with fail;refine(c2.out _).mono ?_;rintro e w1 ⟨rfl,rfl⟩;go_wp2_with fail;go_ret;exact⟨rfl,rfl⟩
 ·rw[show cmp3 x y=0 by unfold cmp3;rw[if_neg (by omega),if_neg (by omega)]];subst h;go_enter Tryz.func143,Tryz.ntmps143;go_wp2_with fail;refine(c1.out _).mono ?_;rintro e w1 ⟨rfl,rfl⟩;go_wp2_with fail;refine(c2.out _).mono ?_;rintro e w1 ⟨rfl,rfl⟩;go_wp2_with fail;go_ret;exact⟨rfl,rfl⟩
 rw[show cmp3 x y=1 by unfold cmp3;rw[if_neg (by omega),if_pos h]];have h2:¬x<y:=by omega
 go_enter Tryz.func143,Tryz.ntmps143;go_wp2_with fail;refine(c1.out _).mono ?_;rintro e w1 ⟨rfl,rfl⟩;go_wp2_with fail;refine(c2.out _).mono ?_;rintro e w1 ⟨rfl,rfl⟩;go_wp2_with fail;go_ret;exact⟨rfl,rfl⟩
theorem or_three(b cap:Nat)(p q r:Int)(w:World)(hlt:b<w.heap.size)(h0:w.cell? ⟨b,0,none⟩=some (.int .i64 p))(h1:w.cell? ⟨b,1,none⟩=some (.int .i64 q))(h2:w.cell? ⟨b,2,none⟩=some (.int .i64 r)):
  Calls Tryz.prog 142 #[.slice (some ⟨b,0,none⟩) 3 cap] w (yV w (.int .i64 (or3 p q r))):=by
 unfold or3
 by_cases hp:p=0
 ·rw[if_pos hp];subst hp
  by_cases hq:q=0
  ·rw[if_pos hq];subst hq
   by_cases hr:r=0
   ·subst hr;go_enter Tryz.func142,Tryz.ntmps142;go_wp2;refine wp_loop_rounds 4 ?_;rw[rounds_succ];go_wp2;rw[rounds_succ];go_wp2;rw[rounds_succ];go_wp2;rw[rounds_succ];go_wp2;go_ret;exact⟨rfl,rfl⟩
   have hb:(r==0)=false:=by simp[hr]
   go_enter Tryz.func142,Tryz.ntmps142;go_wp2;refine wp_loop_rounds 3 ?_;rw[rounds_succ];go_wp2;rw[rounds_succ];go_wp2;rw[rounds_succ];go_wp2;go_ret;exact⟨rfl,rfl⟩
  rw[if_neg hq];have hb:(q==0)=false:=by simp[hq]
  go_enter Tryz.func142,Tryz.ntmps142;go_wp2;refine wp_loop_rounds 2 ?_;rw[rounds_succ];go_wp2;rw[rounds_succ];go_wp2;go_ret;exact⟨rfl,rfl⟩
 rw[if_neg hp];have hb:(p==0)=false:=by simp[hp]
 go_enter Tryz.func142,Tryz.ntmps142;go_wp2;refine wp_loop_rounds 1 ?_;rw[rounds_succ];go_wp2;go_ret;exact⟨rfl,rfl⟩
end Go.Proofs.YtngnfdnfpiiclaaGreat
namespace Go.Proofs.YtngnfdnfpiiclaaGreat
open Go.RowKit
open Go.Shelf Go.Lib
open Go.Sort (grow flatK putCells HoldsK PermIn SortedIn SWO)
def aK1(W:World)(o:Obj)(D:Nat→Bool)(w:World):Prop:=∃q,w=if D 15 then(W.drewN q).alloc o else W.drewN q
theorem aK1.step{W w:World}{o:Obj}{D:Nat→Bool}{k:Nat}(h:aK1 W o D w)(hk:k≠15):aK1 W o (ins k D) w:=by
 obtain⟨q,hq⟩:=h;refine⟨q,?_⟩;rw[aCk D (Ne.symm hk)];exact hq
theorem aK1.below{W w:World}{o:Obj}{D:Nat→Bool}(h:aK1 W o D w):Below W.heap.size W w:=by
 obtain⟨q,hq⟩:=h;subst hq;split
 ·exact(⟨rfl,rfl,rfl,Nat.le_refl _,fun _ _=>rfl⟩:Below W.heap.size W (W.drewN q)).alloc yL _
 exact⟨rfl,rfl,rfl,Nat.le_refl _,fun _ _=>rfl⟩
theorem grow_three(w:World)(a b c:Obj)(q:Nat):∃q' os',(((w.alloc a).alloc b).drewN q).alloc c=grow (w.drewN q') os':=by
 refine⟨q,#[a,b,c],?_⟩;unfold grow World.alloc World.drewN;simp only[World.mk.injEq,and_true];apply Array.ext';simp
theorem aI1(x y:Ln)(w:World):Calls Tryz.prog 101 #[.agg #[.int .u8 x.cr,.int .u8 x.de,.int .u8 x.cu,.int .i64 x.li,.int .i64 x.db],.agg #[.int .u8 y.cr,.int .u8 y.de,.int .u8 y.cu,.int .i64 y.li,.int .i64 y.db]] w fun e w'=>e=.returned (.int .i64 (ordL x y))∧∃q os',w'=grow (w.drewN q) os':=by
 unfold ordL;have c1:=yH (fun w=>compare_c x.cu y.cu w);have c2:=yH (fun w=>aMe x.cr y.cr w);have c3:=yH (fun w=>aMe x.de y.de w);generalize cmp3 x.cu y.cu=p at *;generalize cmp3 x.cr y.cr=q at *;generalize cmp3 x.de y.de=r at *;go_enter Tryz.func101,Tryz.ntmps101;go_wp2_with fail;have hW:((w.alloc (.cells #[.int .u8 x.cr,.int .u8 x.de,.int .u8 x.cu,.int .i64 x.li,.int .i64 x.db] 71)).alloc (.cells #[.int .u8 y.cr,.int .u8 y.de,.int .u8 y.cu,.int .i64 y.li,.int .i64 y.db] 71)).heap.size=w.heap.size+2:=by simp
 have KX:=yH ((Blk.new w #[.int .u8 x.cr,.int .u8 x.de,.int .u8 x.cu,.int .i64 x.li,.int .i64 x.db] 71).alloc (.cells #[.int .u8 y.cr,.int .u8 y.de,.int .u8 y.cu,.int .i64 y.li,.int .i64 y.db] 71));have KY:=yH (pAB (w.alloc (.cells #[.int .u8 x.cr,.int .u8 x.de,.int .u8 x.cu,.int .i64 x.li,.int .i64 x.db] 71)) #[.int .u8 y.cr,.int .u8 y.de,.int .u8 y.cu,.int .i64 y.li,.int .i64 y.db] 71 (g:=w.heap.size+1) (by simp));have HW:=yH hW;have HG:=yH (fun c q=>grow_three w (.cells #[.int .u8 x.cr,.int .u8 x.de,.int .u8 x.cu,.int .i64 x.li,.int .i64 x.db] 71) (.cells #[.int .u8 y.cr,.int .u8 y.de,.int .u8 y.cu,.int .i64 y.li,.int .i64 y.db] 71) c q);generalize ((w.alloc (.cells #[.int .u8 x.cr,.int .u8 x.de,.int .u8 x.cu,.int .i64 x.li,.int .i64 x.db] 71)).alloc (.cells #[.int .u8 y.cr,.int .u8 y.de,.int .u8 y.cu,.int .i64 y.li,.int .i64 y.db] 71))=W at KX KY HW HG ⊢;clear hW
 refine aA4 (by kernel_rfl) [(.pointer (some ⟨w.heap.size,2,none⟩)),(.int .u8 x.cu),(.pointer (some ⟨w.heap.size+1,2,none⟩)),(.int .u8 y.cu),(.int .i64 p),(.pointer (some ⟨w.heap.size,0,none⟩)),(.int .u8 x.cr),(.pointer (some ⟨w.heap.size+1,0,none⟩)),(.int .u8 y.cr),(.int .i64 q),(.pointer (some ⟨w.heap.size,1,none⟩)),(.int .u8 x.de),(.pointer (some ⟨w.heap.size+1,1,none⟩)),(.int .u8 y.de),(.int .i64 r),(.slice (some ⟨w.heap.size+2,0,none⟩) 3 3),(.int .i64 (or3 p q r)),(.int .i64 (or3 p q r))]
  (aK1 W (.cells #[.int .i64 p,.int .i64 q,.int .i64 r] 3)) (by kernel_rfl) ⟨1,rfl⟩ ?_
 intro af haf;simp only[puts,Act.put,yA,yC,yF,yD,yE]at haf;subst haf;refine⟨?_,?_⟩
 ·simp only[aCd];refine⟨?_,?_,?_,?_,?_,?_,?_,?_,?_,?_,?_,?_,?_,?_,?_,?_,?_,?_,trivial⟩
  ·intro D w' hD hWt hC hI;have hS:=hI.below;have HI:=yH (hI.step (k:=0) (by decide));clear hS hI hC hWt hD;refine yO rfl ?_;go_wp2_with fail;all_goals first|exact HI|exact⟨rfl,HI⟩|rfl
  ·intro D w' hD hWt hC hI;have hS:=hI.below;have HI:=yH (hI.step (k:=1) (by decide));have hl:=yM KX.o.lt hS.size;have kk:=KX.o.below hS KX.o.lt;have d0:=kk.cell 0;have d1:=kk.cell 1;have d2:=kk.cell 2;simp at d0 d1 d2;clear kk;clear hS hI hC hWt hD;refine yO rfl ?_;go_wp2_with fail;all_goals first|exact HI|exact⟨rfl,HI⟩|rfl
  ·intro D w' hD hWt hC hI;have hS:=hI.below;have HI:=yH (hI.step (k:=2) (by decide));clear hS hI hC hWt hD;refine yO rfl ?_;go_wp2_with fail;all_goals first|exact HI|exact⟨rfl,HI⟩|rfl
  ·intro D w' hD hWt hC hI;have hS:=hI.below;have HI:=yH (hI.step (k:=3) (by decide));have hl:=yM KY.o.lt hS.size;have kk:=KY.o.below hS KY.o.lt;have d0:=kk.cell 0;have d1:=kk.cell 1;have d2:=kk.cell 2;simp at d0 d1 d2;clear kk;clear hS hI hC hWt hD;refine yO rfl ?_;go_wp2_with fail;all_goals first|exact HI|exact⟨rfl,HI⟩|rfl
  ·intro D w' hD hWt hC hI;have hS:=hI.below;have HI:=yH (hI.step (k:=4) (by decide));clear hS hI hC hWt hD;refine yO rfl ?_;go_wp2_with fail;refine(c1.out w').mono ?_;rintro e w'' ⟨rfl,rfl⟩;exact⟨rfl,HI.o⟩
  ·intro D w' hD hWt hC hI;have hS:=hI.below;have HI:=yH (hI.step (k:=5) (by decide));clear hS hI hC hWt hD;refine yO rfl ?_;go_wp2_with fail;all_goals first|exact HI|exact⟨rfl,HI⟩|rfl
  ·intro D w' hD hWt hC hI;have hS:=hI.below;have HI:=yH (hI.step (k:=6) (by decide));have hl:=yM KX.o.lt hS.size;have kk:=KX.o.below hS KX.o.lt;have d0:=kk.cell 0;have d1:=kk.cell 1;have d2:=kk.cell 2;simp at d0 d1 d2;clear kk;clear hS hI hC hWt hD;refine yO rfl ?_;go_wp2_with fail;all_goals first|exact HI|exact⟨rfl,HI⟩|rfl
  ·intro D w' hD hWt hC hI;have hS:=hI.below;have HI:=yH (hI.step (k:=7) (by decide));clear hS hI hC hWt hD;refine yO rfl ?_;go_wp2_with fail;all_goals first|exact HI|exact⟨rfl,HI⟩|rfl
  ·intro D w' hD hWt hC hI;have hS:=hI.below;have HI:=yH (hI.step (k:=8) (by decide));have hl:=yM KY.o.lt hS.size;have kk:=KY.o.below hS KY.o.lt;have d0:=kk.cell 0;have d1:=kk.cell 1;have d2:=kk.cell 2;simp at d0 d1 d2;clear kk;clear hS hI hC hWt hD;refine yO rfl ?_;go_wp2_with fail;all_goals first|exact HI|exact⟨rfl,HI⟩|rfl
  ·intro D w' hD hWt hC hI;have hS:=hI.below;have HI:=yH (hI.step (k:=9) (by decide));clear hS hI hC hWt hD;refine yO rfl ?_;go_wp2_with fail;refine(c2.out w').mono ?_;rintro e w'' ⟨rfl,rfl⟩;exact⟨rfl,HI.o⟩
  ·intro D w' hD hWt hC hI;have hS:=hI.below;have HI:=yH (hI.step (k:=10) (by decide));clear hS hI hC hWt hD;refine yO rfl ?_;go_wp2_with fail;all_goals first|exact HI|exact⟨rfl,HI⟩|rfl
  ·intro D w' hD hWt hC hI;have hS:=hI.below;have HI:=yH (hI.step (k:=11) (by decide));have hl:=yM KX.o.lt hS.size;have kk:=KX.o.below hS KX.o.lt;have d0:=kk.cell 0;have d1:=kk.cell 1;have d2:=kk.cell 2;simp at d0 d1 d2;clear kk;clear hS hI hC hWt hD;refine yO rfl ?_;go_wp2_with fail;all_goals first|exact HI|exact⟨rfl,HI⟩|rfl
  ·intro D w' hD hWt hC hI;have hS:=hI.below;have HI:=yH (hI.step (k:=12) (by decide));clear hS hI hC hWt hD;refine yO rfl ?_;go_wp2_with fail;all_goals first|exact HI|exact⟨rfl,HI⟩|rfl
  ·intro D w' hD hWt hC hI;have hS:=hI.below;have HI:=yH (hI.step (k:=13) (by decide));have hl:=yM KY.o.lt hS.size;have kk:=KY.o.below hS KY.o.lt;have d0:=kk.cell 0;have d1:=kk.cell 1;have d2:=kk.cell 2;simp at d0 d1 d2;clear kk;clear hS hI hC hWt hD;refine yO rfl ?_;go_wp2_with fail;all_goals first|exact HI|exact⟨rfl,HI⟩|rfl
  ·intro D w' hD hWt hC hI;have hS:=hI.below;have HI:=yH (hI.step (k:=14) (by decide));clear hS hI hC hWt hD;refine yO rfl ?_;go_wp2_with fail;refine(c3.out w').mono ?_;rintro e w'' ⟨rfl,rfl⟩;exact⟨rfl,HI.o⟩
  ·intro D w' hD hWt hC hI;obtain⟨t,ht⟩:=hI;rw[hD]at ht;have hz:w'.heap.size=w.heap.size+2:=by rw[ht,←HW.o];rfl
   have HI:=yH (show aK1 W (.cells #[.int .i64 p,.int .i64 q,.int .i64 r] 3) (ins 15 D) (w'.alloc (.cells #[.int .i64 p,.int .i64 q,.int .i64 r] 3))from⟨t,by rw[aF3,if_pos rfl,ht];rfl⟩);clear ht hC hWt hD;refine yO rfl ?_;go_wp2_with fail;all_goals first|exact HI|exact⟨rfl,HI⟩|exact⟨by rw[hz],HI.o⟩
  ·intro D w' hD hWt hC hI;have h15:D 15=true:=aBl hC hWt (d:=12) (by kernel_rfl);obtain⟨t,ht⟩:=hI;have KB:Blk w' (w.heap.size+2) #[.int .i64 p,.int .i64 q,.int .i64 r] 3:=by rw[ht,h15,if_pos rfl];exact pAB _ _ _ (by show _=W.heap.size;rw[HW.o])
   have HI:=yH (aK1.step (k:=16) (show aK1 W (.cells #[.int .i64 p,.int .i64 q,.int .i64 r] 3) D w' from⟨t,ht⟩) (by decide));have HO:=yH (or_three (w.heap.size+2) 3 p q r w' KB.lt (KB.cell 0) (KB.cell 1) (KB.cell 2));clear ht KB hC hWt hD h15;refine yO rfl ?_;go_wp2_with fail;refine HO.o.mono ?_;rintro e w'' ⟨rfl,rfl⟩;exact⟨rfl,HI.o⟩
  intro D w' hD hWt hC hI;have hS:=hI.below;have HI:=yH (hI.step (k:=17) (by decide));clear hS hI hC hWt hD;refine yO rfl ?_;go_wp2_with fail;all_goals first|exact HI|exact⟨rfl,HI⟩|rfl
 intro D w2 hall hI;obtain⟨t,ht⟩:=hI;rw[hall 15 (by decide),if_pos rfl]at ht;have HE:=yH (show ∃q os',w2=grow (w.drewN q) os' from by rw[ht];exact HG.o _ t);clear ht hall;go_wp2_with fail;go_ret;exact⟨rfl,HE.o⟩
theorem sortL_any{w:World}{base:Nat}{v:Value}{done ls:List Ln}(hI:Inv ls)(hp:done.Perm ls)(hl:ls.length≤64)(h:w.ownsRow base 71 5 v done.length (aAd done)):
  Calls Tryz.prog 100 #[v,.func (.func 101) #[] #[]] w fun e w'=>e=.returned (.tuple #[])∧w'.ownsRow base 71 5 v ls.length (aAd ls)∧Keep (fun b=>v.ownBlock=some b) w w':=by
 have hlen:=hp.length_eq;rcases h.2 with⟨rfl,h0⟩|⟨g,cap,cur,rfl,hbase,hb,h1,h2,h3,h4⟩
 ·rw[h0]at hlen;have:ls=[]:=List.eq_nil_of_length_eq_zero hlen.symm;subst this;refine(AnyF.slices_SortFunc_none { sortL with } none 0 (.func (.func 101) #[] #[]) w).mono ?_;rintro e w' ⟨rfl,rfl⟩;exact⟨rfl,World.ownsRow_nil _ _ _ _,Keep.refl _ _⟩
 have hg:g<w.heap.size:=(Array.getElem?_eq_some_iff.1 hb).1;have eg:∀args w,(callFunc 101 args).run Tryz.prog w=.ok (.enter 101 args) w:=enters_of Tryz.func101 (by kernel_rfl) rfl;have hcmp:CmpLays Tryz.prog 101 #[] Ln.vals 5 ordL g 0 done.toArray.size w:=fun m os dk _ x y=>aI1 x y _
 have hc:=AnyQ.slices_SortFunc (P:=Tryz.prog) sortL 5 Tryz.isAgg71 Tryz.sizeOf71 Ln.vals (fun _=>rfl) (fun x u hu=>by simp[Ln.vals]at hu;rcases hu with rfl|rfl|rfl|rfl|rfl <;> rfl) ordL swoL 101 #[] g 0 cap done.toArray w eg hcmp (aN4 hb h4) hg (by simp;omega);have hsz:done.toArray.size=done.length:=by simp
 rw[hsz]at hc;refine Calls.mono hc ?_;rintro e w' ⟨rfl,d,n,os,hp1,hs1,rfl⟩;have hd:=sorted_is hI hp d (by rw[hsz];exact hp1) (by rw[hsz];exact hs1);have hda:d=ls.toArray:=by rw[←hd]
 subst hda;refine⟨rfl,⟨aBa ls,.inr ⟨g,cap,_,by rw[hlen],hbase,heap_lines _ hb,by omega,h2,by simp[putCells,h3],take_lines cur ls (by omega)⟩⟩,(keep_lines _).mono fun k _ hk=>by rw[hk];rfl⟩
end Go.Proofs.YtngnfdnfpiiclaaGreat
namespace Go.Proofs.YtngnfdnfpiiclaaGreat
open Go.RowKit
theorem clipL_any{w:World}{base:Nat}{v:Value}{n:Nat}{xs:List Value}(h:w.ownsRow base 71 5 v n xs):
  Calls Tryz.prog 102 #[v] w (aF6 w base 71 5 n v xs):=by
 rcases h.2 with⟨rfl,h0⟩|⟨g,cap,cur,rfl,hbase,hb,h1,h2,h3,h4⟩
 ·subst h0;have hr:=aBc (P:=Tryz.prog) w 42 71 5 Tryz.underlying42 (Tryz.sizeOf71 w);have hx:=h.1;have hx2:=yH hx;clear h hx;go_enter Tryz.func102,Tryz.ntmps102;go_wp2;refine bodyPost_ret (v:=.slice none 0 0) (by simp[results,Tryz.results102,go_sem]) rfl ?_;exact⟨_,rfl,⟨hx2.out,.inl ⟨rfl,rfl⟩⟩,rfl,rfl⟩
 have hr:=aCe (P:=Tryz.prog) w 42 71 5 Tryz.underlying42 (Tryz.sizeOf71 w) g n cap h1;have HR:=yH (show aCz w base 71 5 (.slice (some ⟨g,0,none⟩) n n) n xs from⟨h.1,.inr ⟨g,cur,rfl,hbase,hb,by omega,by omega,h4⟩⟩);clear h hb h4 h3;unfold maxLen at h2;go_enter Tryz.func102,Tryz.ntmps102;go_wp2;refine bodyPost_ret (v:=.slice (some ⟨g,0,none⟩) n n) (by simp[results,Tryz.results102,go_sem]) rfl ?_;exact⟨_,rfl,HR.o,rfl,rfl⟩
theorem clipP_any{w:World}{base:Nat}{v:Value}{n:Nat}{xs:List Value}(h:w.ownsRow base 68 1 v n xs):
  Calls Tryz.prog 97 #[v] w (aF6 w base 68 1 n v xs):=by
 rcases h.2 with⟨rfl,h0⟩|⟨g,cap,cur,rfl,hbase,hb,h1,h2,h3,h4⟩
 ·subst h0;have hr:=aBc (P:=Tryz.prog) w 41 68 1 Tryz.underlying41 (Tryz.sizeOf68 w);have hx2:=yH h.1;clear h;go_enter Tryz.func97,Tryz.ntmps97;go_wp2;refine bodyPost_ret (v:=.slice none 0 0) (by simp[results,Tryz.results97,go_sem]) rfl ?_;exact⟨_,rfl,⟨hx2.out,.inl ⟨rfl,rfl⟩⟩,rfl,rfl⟩
 have hr:=aCe (P:=Tryz.prog) w 41 68 1 Tryz.underlying41 (Tryz.sizeOf68 w) g n cap h1;have HR:=yH (show aCz w base 68 1 (.slice (some ⟨g,0,none⟩) n n) n xs from⟨h.1,.inr ⟨g,cur,rfl,hbase,hb,by omega,by omega,h4⟩⟩);clear h hb h4 h3;unfold maxLen at h2;go_enter Tryz.func97,Tryz.ntmps97;go_wp2;refine bodyPost_ret (v:=.slice (some ⟨g,0,none⟩) n n) (by simp[results,Tryz.results97,go_sem]) rfl ?_;exact⟨_,rfl,HR.o,rfl,rfl⟩
def LinesAt(w:World)(M:Nat)(ls:List Ln)(s:Value)(wr:World):Prop:=
 ∃done,aBe wr M w.heap.size ls done∧wr.ownsRow (w.heap.size+1) 71 5 s done.length (aAd done)∧Below w.heap.size w wr
theorem plines_any{w:World}{G M:Nat}{ps:List Int}{ls:List Ln}(h:LedM w G M ps ls)(hI:LInv ps ls):
  Calls Tryz.prog 58 #[.pointer (some ⟨G,0,none⟩)] w (aF7 w 71 5 ls.length (aAd ls)):=by
 have C1:=yH (aKt h.blk);have HM:=yH h.map;have HI:=yH hI;clear h hI;go_enter Tryz.func58,Tryz.ntmps58;go_wp2_with fail;refine C1.o.mono ?_;rintro e w ⟨rfl,rfl⟩;have hMlt:=HM.o.lt;go_wp2_with (first|(at_range;refine aDv rfl _ rfl M ls rfl HM.o ?_;intro w0 hr0 hb0)|go_in)
 go_frame
 go_loopw [3] (LinesAt w M ls) (fun _ wr=>leftMN wr M w.heap.size)
 case atStart=>exact⟨[],hr0,World.ownsRow_nil _ _ _ _,hb0⟩
 obtain⟨done,hR,hown,hB⟩:=hrel;have hlen:=hR.len;have hleft:=hR.left;have hl64:=HI.o.len;have HR:=yH hR;have HB:=yH hB;have HO:=yH hown;clear hR hB hown;go_wp2_with (first|(at_next;refine aD4 rfl _ rfl M w.heap.size ls done rfl HR.o ?_ ?_)|go_in)
 ·intro hd;have CS:=yH (sortL_any HI.o.inv hd HI.o.len HO.o);clear hd;go_wp2_with fail;refine CS.o.mono ?_;rintro e w2 ⟨rfl,ho2,hk2⟩;have hB2:=yH (HB.o.trans (hk2.below HB.o.size (fun k hk he=>by have:=(aAn HO.o he).1;omega)));have CC:=yH (clipL_any ho2);clear ho2 hk2 CS;go_wp2_with fail;refine CC.o.mono ?_;rintro e w3 ⟨v',rfl,hrow,_,rfl⟩;have HRow:=yH hrow;clear hrow CC;go_wp2_with fail;refine bodyPost_ret (v:=v') (by simp[results,Tryz.results58,go_sem]) rfl ?_;exact⟨v',rfl,HRow.o.base (Nat.le_succ _),hB2.out⟩
 intro x w1 hx hR1 hT hen;have hb1:=HB.o.trans (hT.below yL);have hO1:=aAw HO.o hT.keep (fun b hb e=>by have:=(aAn HO.o hb).1;omega);have hb2:=((Below.refl w1.heap.size w1).alloc yL (.cells #[.int .u8 x.cr,.int .u8 x.de,.int .u8 x.cu] 188)).alloc (by simp) (.cells #[.int .i64 x.li,.int .i64 x.db] 190);have CP:=yH (fun w=>aL2 x w);have HR1:=yH hR1;have HB1:=yH hb1;have HO1:=yH hO1;have HB2:=yH hb2;clear hx hR1 hT hb1 hO1 hb2;go_wp2_with fail;refine(CP.o _).mono ?_;rintro e w3 ⟨rfl,hb3⟩;have HB3:=yT HB2 hb3;have HO3:=yH (aAc HO1.o HB3.o);have HR3:=yH (HR1.o.below HB3.o);have hz3:=yM HR1.o.lt HB3.o.size;clear hb3 hen;go_wp2_with (at_builtin;refine aA9 _ rfl (.tmp 14) (.tmp 18) rfl (w.heap.size+1) _ done rfl (HO3.o.alloc _) _ _ x rfl (Blk.new _ _ _) (by omega) (by simp;omega) ?_);intro v4 w4 hown4 hgr4;have R2:∀k,Value.ownBlock _=some k→w.heap.size+1≤k:=fun k hk=>(aAn HO3.o hk).1
 have K4:=yH (((pAD (S:=fun b=>w.heap.size+1≤b) (Below.refl w3.heap.size w3)).alloc (.cells #[.int .u8 x.cr,.int .u8 x.de,.int .u8 x.cu,.int .i64 x.li,.int .i64 x.db] 71)).grown hgr4 (fun k hk=>.inl (R2 k hk)));have O4:=yH (show w4.ownsRow (w.heap.size+1) 71 5 v4 (done++[x]).length (aAd (done++[x])) by simpa using hown4);have HR4:=yH (HR3.o.keep K4.o (by omega) (by omega));have HB4:=yH ((HB1.o.trans (HB3.o.mono HB1.o.size)).trans (K4.o.below (B:=w.heap.size) (by omega) (fun k hk he=>by omega)));have hleft4:=HR4.o.left;rw[List.length_append,List.length_singleton]at hleft4;clear R2 hown4 hgr4 hz3;go_wp2_with fail;go_roundw
 case rel=>exact⟨done++[x],HR4.o,O4.o,HB4.o⟩
 case measure=>omega
theorem aK2{ps:List Int}(hb:∀p∈ps,1≤p∧p≤16)(hr:ps.Pairwise (·<·)):aA7 ps 0 17=ps:=by
 refine aKq _ _ (aFu ps 0 17) hr fun x=>?_
 rw[aC1]
 constructor
 ·rintro⟨h1,h2|h2⟩
  ·omega
  exact h2
 intro h;exact⟨hb x h,.inr h⟩
def PartiesAt(ps:List Int)(w:World)(v q:Value)(wr:World):Prop:=
 ∃k:Nat,1≤k∧k≤17∧q=.int .u8 k∧wr.ownsRow w.heap.size 68 1 v (aA7 ps 0 k).length ((aA7 ps 0 k).map (.int .u8))∧Below w.heap.size w wr
theorem aMf{w:World}{G M:Nat}{ps:List Int}{ls:List Ln}(h:LedM w G M ps ls)(hI:LInv ps ls):
  Calls Tryz.prog 57 #[.pointer (some ⟨G,0,none⟩)] w (aF7 w 68 1 ps.length (ps.map (.int .u8))):=by
 have H:=yH h;have HI:=yH hI;have c:=yH (fun(w':World) (k:Below w.heap.size w w') (q:Int)=>aEd (h.below k).blk hI.bd q);have HE:=yH (aK2 hI.bd hI.rise);clear h hI;go_enter Tryz.func57,Tryz.ntmps57;go_wp2_with fail
 go_loopw [3,4] (PartiesAt ps w) (fun _ q _=>17 - (intOf q).toNat)
 case atStart=>exact⟨1,by omega,by omega,rfl,World.ownsRow_nil _ _ _ _,yZ⟩
 obtain⟨k,hk0,hk,rfl,hown,hb⟩:=hrel;have hl:=aGr ps 0 k;have O0:=yH hown;have B0:=yH hb;have hz:=hb.size;clear hown hb
 by_cases hkl:k≤16
 ·have N:=yH (aIf ps 0 k hk0);have cq:=yH (c.out _ B0.o (k:Int));have hk1:(k:Int)≤16:=by omega
  have s1:((k:Int)==0)=false:=by simp;omega
  by_cases s2:(k:Int)∈ps
  ·have N2:Hid (aA7 ps 0 (k+1)=aA7 ps 0 k++[(k:Int)]):=yH (by rw[N.o,s1,decide_eq_true s2];rfl);rw[decide_eq_true s2]at cq;clear N s2 s1;generalize aA7 ps 0 k=out at *;have hl2:out.length≤100000:=by omega
   go_wp2_with fail;refine cq.out.mono ?_;rintro e wr ⟨rfl,rfl⟩;go_wp2_with (at_builtin;refine aBv _ rfl (.tmp 12) (.tmp 14) rfl w.heap.size _ out rfl (O0.o.alloc _) _ _ (k:Int) rfl (Blk.new _ _ _) hl2 (by simp;omega) ?_);intro v3 w3 hown3 hgr3;have R2:∀k,Value.ownBlock _=some k→w.heap.size≤k:=fun k hk=>(aAn O0.o hk).1
   have B3:=yH ((B0.o.alloc B0.o.size (.cells #[.int .u8 (k:Int)] 68)).grown hgr3 (by simp;omega) (fun k hk=>R2 k hk));have O3:=yH (show w3.ownsRow w.heap.size 68 1 v3 (out++[(k:Int)]).length ((out++[(k:Int)]).map (.int .u8)) by simpa using hown3);clear R2 hown3 hgr3;go_wp2_with fail;go_roundw
   case rel=>exact⟨k+1,by omega,by omega,by go_num,by rw[N2.o];exact O3.o,B3.o⟩
   case measure=>simp[intOf];omega
  have N2:Hid (aA7 ps 0 (k+1)=aA7 ps 0 k):=yH (by rw[N.o,s1,decide_eq_false s2];simp);rw[decide_eq_false s2]at cq;clear N s2 s1;go_wp2_with fail;refine cq.out.mono ?_;rintro e wr ⟨rfl,rfl⟩;go_wp2_with fail;go_roundw
  case rel=>exact⟨k+1,by omega,by omega,by go_num,by rw[N2.o];exact O0.o,B0.o⟩
  case measure=>simp[intOf];omega
 obtain rfl:k=17:=by omega
 rw[HE.o]at O0;have CC:=yH (clipP_any O0.o);clear hl hk0 hk hkl;go_wp2_with fail;refine CC.o.mono ?_;rintro e w3 ⟨v',rfl,hrow,_,rfl⟩;have HRow:=yH hrow;clear hrow CC;go_wp2_with fail;refine bodyPost_ret (v:=v') (by simp[results,Tryz.results57,go_sem]) rfl ?_;exact⟨v',rfl,HRow.o,B0.o⟩
theorem clone_any{w:World}{b:Nat}{es:Array MapEntry}{clock:Nat}(hb:w.heap[b]? = some (.map es clock)):
  Calls Tryz.prog 112 #[.map (some b)] w fun e w'=>e=.returned (.map (some w.heap.size))∧w'=w.alloc (.map es clock):=by
 have hq:=fun w=>Go.Proofs.run_eql_map_nil_sl (P:=Tryz.prog) w 152 _ _ (some b) Tryz.underlying152
 go_enter Tryz.func112,Tryz.ntmps112;go_wp2;rw[run_callFunc_extern Tryz.func150 (by kernel_rfl) (by kernel_rfl) (by kernel_rfl) (e:=Extern.MapsClone.clone) (by kernel_rfl),Go.Proofs.run_maps_clone_sl w 152 hb];simp only[Result.andThen];rw[Oper.upon_value];go_wp2;rw[Go.Proofs.run_typeAssert_map_sl _ 152 20 _ _ _ Tryz.underlying152];simp only[Result.andThen];rw[Oper.upon_value];go_wp2;go_ret;exact⟨rfl,rfl⟩
def parC(ps:List Int):List Value:=((ledC ps (.map none)).toList.take 17)
theorem aEh(ps:List Int):(parC ps).length=17:=by simp[parC,aEx]
theorem aK3(ps:List Int){j:Nat}(h:j<17):(parC ps)[j]? = some (.bool (decide ((j:Int)∈ps))):=by
 unfold parC;rw[List.getElem?_take_of_lt h,Array.getElem?_toList,aEc _ _ _ h]
theorem ledC_par(ps:List Int)(v:Value):(parC ps++[v]).toArray=ledC ps v:=by
 apply Array.ext_getElem?;intro j;rw[List.getElem?_toArray]
 by_cases h:j<17
 ·rw[List.getElem?_append_left (by rw[aEh];exact h),aK3 _ h,aEc _ _ _ h]
 by_cases h2:j=17
 ·subst h2;rw[aHx,List.getElem?_append_right (by rw[aEh];omega),aEh];rfl
 rw[Array.getElem?_eq_none (by rw[aEx];omega),List.getElem?_eq_none (by simp[aEh];omega)]
theorem par_range{w:World}{g:Nat}{ps:List Int}{v:Value}{t:TypeId}(h:Blk w g (ledC ps v) t):w.rangeAt g 0 (parC ps):=by
 intro j u hu
 have hj:j<17:=by
  rcases Nat.lt_or_ge j 17 with h'|h'
  ·exact h'
  rw[List.getElem?_eq_none (by rw[aEh];exact h')]at hu;cases hu
 rw[Nat.zero_add,h.cell j,aEc _ _ _ hj,←aK3 ps hj];exact hu
theorem par_form(ps:List Int):∃b0 b1 b2 b3 b4 b5 b6 b7 b8 b9 b10 b11 b12 b13 b14 b15 b16:Bool,parC ps=[Value.bool b0,Value.bool b1,Value.bool b2,Value.bool b3,Value.bool b4,Value.bool b5,Value.bool b6,Value.bool b7,Value.bool b8,Value.bool b9,Value.bool b10,Value.bool b11,Value.bool b12,Value.bool b13,Value.bool b14,Value.bool b15,Value.bool b16]:=by
 have h:=aEh ps;refine⟨decide ((0:Int)∈ps),decide ((1:Int)∈ps),decide ((2:Int)∈ps),decide ((3:Int)∈ps),decide ((4:Int)∈ps),decide ((5:Int)∈ps),decide ((6:Int)∈ps),decide ((7:Int)∈ps),decide ((8:Int)∈ps),decide ((9:Int)∈ps),decide ((10:Int)∈ps),decide ((11:Int)∈ps),decide ((12:Int)∈ps),decide ((13:Int)∈ps),decide ((14:Int)∈ps),decide ((15:Int)∈ps),decide ((16:Int)∈ps),?_⟩;apply List.ext_getElem?;intro j
 by_cases hj:j<17
 ·rw[aK3 ps hj]
  match j,hj with
  | 0,_=>rfl
  | 1,_=>rfl
  | 2,_=>rfl
  | 3,_=>rfl
  | 4,_=>rfl
  | 5,_=>rfl
  | 6,_=>rfl
  | 7,_=>rfl
  | 8,_=>rfl
  | 9,_=>rfl
  | 10,_=>rfl
  | 11,_=>rfl
  | 12,_=>rfl
  | 13,_=>rfl
  | 14,_=>rfl
  | 15,_=>rfl
  | 16,_=>rfl
  | n+17,h=>omega
 rw[List.getElem?_eq_none (by omega),List.getElem?_eq_none (by simp;omega)]
theorem build_led(ps:List Int)(m:Nat)(w:World):(Instr.build 155 #[(0,.agg (parC ps).toArray),(1,.map (some m))]).run Tryz.prog w=.ok (.agg (ledC ps (.map (some m)))) w:=by
 rw[←ledC_par];obtain⟨b0,b1,b2,b3,b4,b5,b6,b7,b8,b9,b10,b11,b12,b13,b14,b15,b16,hb⟩:=par_form ps;rw[hb]
 have h:(Instr.build 155 #[(0,.agg [Value.bool b0,Value.bool b1,Value.bool b2,Value.bool b3,Value.bool b4,Value.bool b5,Value.bool b6,Value.bool b7,Value.bool b8,Value.bool b9,Value.bool b10,Value.bool b11,Value.bool b12,Value.bool b13,Value.bool b14,Value.bool b15,Value.bool b16].toArray),(1,.map (some m))]).run Tryz.prog=fun w=>.ok (.agg ([Value.bool b0,Value.bool b1,Value.bool b2,Value.bool b3,Value.bool b4,Value.bool b5,Value.bool b6,Value.bool b7,Value.bool b8,Value.bool b9,Value.bool b10,Value.bool b11,Value.bool b12,Value.bool b13,Value.bool b14,Value.bool b15,Value.bool b16]++[Value.map (some m)]).toArray) w:=by
  kernel_rfl
 rw[h]
def aI2(W:World)(o:Obj)(C:Array Value)(T:TypeId)(D:Nat→Bool)(w:World):Prop:=
 Below W.heap.size W w∧w.heap.size=W.heap.size+((if D 8=true then 1 else 0)+(if D 10=true then 1 else 0))∧(D 8=true→w.heap[W.heap.size]? = some o)∧(D 10=true→w.heap[W.heap.size+1]? = some (.cells C T))
theorem aI2.step{W w:World}{o:Obj}{C:Array Value}{T:TypeId}{D:Nat→Bool}{k:Nat}(h:aI2 W o C T D w)(h8:k≠8)(h10:k≠10):aI2 W o C T (ins k D) w:=by
 unfold aI2;rw[aCk D (Ne.symm h8),aCk D (Ne.symm h10)];exact h
def CopyMPost(w:World)(ps:List Int)(ls:List Ln)(e:Ending)(w':World):Prop:=
 ∃g' m',e=.returned (.pointer (some ⟨g',0,none⟩))∧LedM w' g' m' ps ls∧w.heap.size≤g'∧w.heap.size≤m'∧Below w.heap.size w w'
theorem pcopy_any{w:World}{G M:Nat}{ps:List Int}{ls:List Ln}(h:LedM w G M ps ls):
  Calls Tryz.prog 76 #[.pointer (some ⟨G,0,none⟩)] w (CopyMPost w ps ls):=by
 have C1:=yH (aFd h.blk);have HBk:=yH h.blk;obtain⟨ms,⟨es,clock,hes,hst,hkv⟩,hperm⟩:=h.map;have HM:=yH hes;have HN:Hid (∀w',w'.heap[w.heap.size]? = some (.map es clock)→aCn w' w.heap.size ls):=yH fun w' hw=>⟨ms,⟨es,clock,hw,hst,hkv⟩,hperm⟩
 have hMlt:M<w.heap.size:=h.map.lt;clear h hes hst hkv hperm;go_enter Tryz.func76,Tryz.ntmps76;go_wp2_with fail;refine C1.o.mono ?_;rintro e w ⟨rfl,rfl⟩;go_wp2_with fail
 refine aA4 (by kernel_rfl) [(.pointer (some ⟨G,0,none⟩)),(.pointer (some ⟨G,0,none⟩)),(.pointer (some ⟨G,0,none⟩)),(.agg (parC ps).toArray),(.pointer (some ⟨G,0,none⟩)),(.pointer (some ⟨G,0,none⟩)),(.pointer (some ⟨G,17,none⟩)),(.map (some M)),(.map (some w.heap.size)),(.agg (ledC ps (.map (some w.heap.size)))),(.pointer (some ⟨w.heap.size+1,0,none⟩)),(.pointer (some ⟨w.heap.size+1,0,none⟩))]
  (aI2 w (.map es clock) (ledC ps (.map (some w.heap.size))) 155) (by kernel_rfl) ⟨yZ.drew,by simp,by simp,by simp⟩ ?_
 intro af haf;simp only[puts,Act.put,yA,yC,yF,yD,yE]at haf;subst haf;refine⟨?_,?_⟩
 ·simp only[aCd];refine⟨?_,?_,?_,?_,?_,?_,?_,?_,?_,?_,?_,?_,trivial⟩
  ·intro D w' hD hWt hC hI;have hS:=hI.1;have HI:=yH (hI.step (k:=0) (by decide) (by decide));have kb:=HBk.o.below hS HBk.o.lt;have hl:=kb.lt;have d:=kb.ledMap;clear hS hI hC hWt hD kb;refine yO rfl ?_;go_wp2_with fail;all_goals first|exact HI|exact⟨rfl,HI⟩|rfl
  ·intro D w' hD hWt hC hI;have hS:=hI.1;have HI:=yH (hI.step (k:=1) (by decide) (by decide));have kb:=HBk.o.below hS HBk.o.lt;have hl:=kb.lt;have d:=kb.ledMap;clear hS hI hC hWt hD kb;refine yO rfl ?_;go_wp2_with fail;all_goals first|exact HI|exact⟨rfl,HI⟩|rfl
  ·intro D w' hD hWt hC hI;have hS:=hI.1;have HI:=yH (hI.step (k:=2) (by decide) (by decide));have kb:=HBk.o.below hS HBk.o.lt;have hl:=kb.lt;have d:=kb.ledMap;clear hS hI hC hWt hD kb;refine yO rfl ?_;go_wp2_with fail;all_goals first|exact HI|exact⟨rfl,HI⟩|rfl
  ·intro D w' hD hWt hC hI;have hS:=hI.1;have HI:=yH (hI.step (k:=3) (by decide) (by decide));have kb:=HBk.o.below hS HBk.o.lt;have hl:=kb.lt;have d:=kb.ledMap;refine yO rfl ?_;refine wp_load_mid 153 (.tmp 8) rfl G 0 rfl (parC ps) _ (par_range kb) Tryz.underlying153 rfl (by rw[aEh];kernel_rfl) ?_;exact⟨rfl,HI.o⟩
  ·intro D w' hD hWt hC hI;have hS:=hI.1;have HI:=yH (hI.step (k:=4) (by decide) (by decide));have kb:=HBk.o.below hS HBk.o.lt;have hl:=kb.lt;have d:=kb.ledMap;clear hS hI hC hWt hD kb;refine yO rfl ?_;go_wp2_with fail;all_goals first|exact HI|exact⟨rfl,HI⟩|rfl
  ·intro D w' hD hWt hC hI;have hS:=hI.1;have HI:=yH (hI.step (k:=5) (by decide) (by decide));have kb:=HBk.o.below hS HBk.o.lt;have hl:=kb.lt;have d:=kb.ledMap;clear hS hI hC hWt hD kb;refine yO rfl ?_;go_wp2_with fail;all_goals first|exact HI|exact⟨rfl,HI⟩|rfl
  ·intro D w' hD hWt hC hI;have hS:=hI.1;have HI:=yH (hI.step (k:=6) (by decide) (by decide));have kb:=HBk.o.below hS HBk.o.lt;have hl:=kb.lt;have d:=kb.ledMap;clear hS hI hC hWt hD kb;refine yO rfl ?_;go_wp2_with fail;all_goals first|exact HI|exact⟨rfl,HI⟩|rfl
  ·intro D w' hD hWt hC hI;have hS:=hI.1;have HI:=yH (hI.step (k:=7) (by decide) (by decide));have kb:=HBk.o.below hS HBk.o.lt;have hl:=kb.lt;have d:=kb.ledMap;clear hS hI hC hWt hD kb;refine yO rfl ?_;go_wp2_with fail;all_goals first|exact HI|exact⟨rfl,HI⟩|rfl
  ·intro D w' hD hWt hC hI;have h10:D 10=false:=aBp hC hD 12 10 (by kernel_rfl);obtain⟨q1,q2,q3,q4⟩:=hI;rw[hD,h10]at q2;have hz:w'.heap.size=w.heap.size:=by simpa using q2
   have hc:=clone_any (w:=w') (b:=M) (es:=es) (clock:=clock) (by rw[q1.block M hMlt];exact HM.o);rw[hz]at hc
   have HI:Hid (aI2 w (.map es clock) (ledC ps (.map (some w.heap.size))) 155 (ins 8 D) (w'.alloc (.map es clock))):=yH (by
    refine⟨q1.alloc q1.size _,?_,fun _=>?_,fun d=>?_⟩
    ·rw[aF3,aCk D (by decide),h10];simp[hz]
    ·rw[←hz];exact heap_alloc_new _ _
    rw[aCk D (by decide),h10]at d;cases d)
   have HC:=yH hc;clear q1 q2 q3 q4 hc hC hWt hD h10;refine yO rfl ?_;go_wp2_with fail;refine HC.o.mono ?_;rintro e w'' ⟨rfl,rfl⟩;exact⟨rfl,HI.o⟩
  ·intro D w' hD hWt hC hI;have hS:=hI.1;have HI:=yH (hI.step (k:=9) (by decide) (by decide));have kb:=HBk.o.below hS HBk.o.lt;have hl:=kb.lt;have d:=kb.ledMap;refine yO rfl ?_;refine aM4 155 #[(0,.tmp 9),(1,.tmp 14)] rfl #[(0,(.agg (parC ps).toArray)),(1,(.map (some w.heap.size)))] (by simp[Act.eval]) _ (build_led ps w.heap.size w') ?_;exact⟨rfl,HI.o⟩
  ·intro D w' hD hWt hC hI;have h8:D 8=true:=aBl hC hWt (d:=12) (by kernel_rfl);obtain⟨q1,q2,q3,q4⟩:=hI;rw[hD,h8]at q2;have hz:w'.heap.size=w.heap.size+1:=by simpa using q2
   have HI:Hid (aI2 w (.map es clock) (ledC ps (.map (some w.heap.size))) 155 (ins 10 D) (w'.alloc (.cells (ledC ps (.map (some w.heap.size))) 155))):=yH (by
    refine⟨q1.alloc q1.size _,?_,fun d=>?_,fun _=>?_⟩
    ·rw[aF3,aCk D (by decide),h8];simp[hz]
    ·rw[heap_alloc_old _ _ (by omega)];exact q3 h8
    rw[←hz];exact heap_alloc_new _ _)
   clear q1 q2 q3 q4 hC hWt hD h8;refine yO rfl ?_;go_wp2_with fail;all_goals first|exact HI|exact⟨rfl,HI⟩|exact⟨by rw[hz],HI.o⟩
  intro D w' hD hWt hC hI;have hS:=hI.1;have HI:=yH (hI.step (k:=11) (by decide) (by decide));have kb:=HBk.o.below hS HBk.o.lt;have hl:=kb.lt;have d:=kb.ledMap;clear hS hI hC hWt hD kb;refine yO rfl ?_;go_wp2_with fail;all_goals first|exact HI|exact⟨rfl,HI⟩|rfl
 intro D w2 hall hI;obtain⟨q1,q2,q3,q4⟩:=hI;have q3:=q3 (hall 8 (by decide));have q4:=q4 (hall 10 (by decide));have HE:=yH (show LedM w2 (w.heap.size+1) w.heap.size ps ls from⟨q4,HN.o w2 q3⟩);have HB:=yH q1;clear q1 q2 q3 q4 hall;go_wp2_with fail;refine bodyPost_ret (v:=.pointer (some ⟨w.heap.size+1,0,none⟩)) (by simp[results,Tryz.results76,go_sem]) rfl ?_;exact⟨w.heap.size+1,w.heap.size,rfl,HE.o,by omega,Nat.le_refl _,HB.o⟩
theorem aK4{w:World}{va vb:Value}{la lb:List Ln}(ha:aAs w va 5 la.length (aAd la))(hb:aAs w vb 5 lb.length (aAd lb)):
  Calls Tryz.prog 55 #[va,vb] w (yR w (.bool (decide (la=lb)))):=by
 have C:=yH (aG7 ha hb);clear ha hb;generalize decide (la=lb)=r at *;go_enter Tryz.func55,Tryz.ntmps55;go_wp2_with fail;refine C.o.mono ?_;rintro e w1 ⟨rfl,b1⟩;go_wp2_with fail;go_ret;exact⟨rfl,b1⟩
theorem aI3{w:World}{va vb:Value}{la lb:List Int}(ha:aAs w va 1 la.length (la.map (.int .u8)))(hb:aAs w vb 1 lb.length (lb.map (.int .u8))):
  Calls Tryz.prog 54 #[va,vb] w (yR w (.bool (decide (la=lb)))):=by
 have C:=yH (aF5 ha hb);clear ha hb;generalize decide (la=lb)=r at *;go_enter Tryz.func54,Tryz.ntmps54;go_wp2_with fail;refine C.o.mono ?_;rintro e w1 ⟨rfl,b1⟩;go_wp2_with fail;go_ret;exact⟨rfl,b1⟩
theorem SlIn.debts{w:World}{a:Option Addr}{len cap:Nat}{xs:List Fw}(h:SlIn Fw.vals 3 Fw.Fits w a len cap xs):DebtsIn w a xs:=by
 obtain⟨_,hl,_,_,_,h3⟩:=h;intro h0;obtain⟨b,off,ha,hb,hc⟩:=h3 (by omega);refine⟨b,off,ha,hb,fun m hm=>?_⟩;rw[aKz hm];exact⟨hc m hm 0 _ rfl,hc m hm 1 _ rfl,hc m hm 2 _ rfl⟩
theorem dbt_mem{l:List Fw}{i:Nat}(h:i<l.length):dbt l i∈l:=by rw[aKz h];exact List.getElem_mem h
def aMg(ls:List Ln)(c a b:Int):Int:=(lnAt ls b a c).db
def rowF(ls:List Ln)(c a:Int):Nat→List Fw
 | 0=>[]
 | k+1=>rowF ls c a k++if 0<aMg ls c a ((k+1:Nat):Int)then [⟨a,((k+1:Nat):Int),aMg ls c a ((k+1:Nat):Int)⟩]else []
def aI4(ls:List Ln)(c:Int):Nat→List Fw
 | 0=>[]
 | k+1=>aI4 ls c k++rowF ls c ((k+1:Nat):Int) 16
def aGi(ls:List Ln)(c:Int):List Fw:=aI4 ls c 16
theorem aFe{ls:List Ln}{c a:Int}{x:Fw}:∀{n:Nat},x∈rowF ls c a n↔∃k:Nat,1≤k∧k≤n∧0<aMg ls c a k∧x=⟨a,k,aMg ls c a k⟩
 | 0=>by
  constructor
  ·intro h;cases h
  ·rintro⟨k,h1,h2,_⟩;omega
 | n+1=>by
  unfold rowF;rw[List.mem_append,aFe]
  constructor
  ·rintro(⟨k,h1,h2,h3⟩|h)
   ·exact⟨k,h1,by omega,h3⟩
   split at h
   ·rename_i hp;rw[List.mem_singleton]at h;exact⟨n+1,by omega,Nat.le_refl _,hp,h⟩
   cases h
  rintro⟨k,h1,h2,h3,h4⟩
  by_cases hk:k=n+1
  ·subst hk
   right
   rw[if_pos h3,List.mem_singleton];exact h4
  exact .inl ⟨k,h1,by omega,h3,h4⟩
theorem aG4{ls:List Ln}{c:Int}{x:Fw}:∀{n:Nat},x∈aI4 ls c n↔∃a:Nat,1≤a∧a≤n∧x∈rowF ls c a 16
 | 0=>by
  constructor
  ·intro h;cases h
  ·rintro⟨k,h1,h2,_⟩;omega
 | n+1=>by
  unfold aI4;rw[List.mem_append,aG4]
  constructor
  ·rintro(⟨k,h1,h2,h3⟩|h)
   ·exact⟨k,h1,by omega,h3⟩
   exact⟨n+1,by omega,Nat.le_refl _,h⟩
  rintro⟨k,h1,h2,h3⟩
  by_cases hk:k=n+1
  ·subst hk;exact .inr h3
  exact .inl ⟨k,h1,by omega,h3⟩
theorem debtsL_mem{ls:List Ln}{c:Int}{x:Fw}:x∈aGi ls c↔(1≤x.fr∧x.fr≤16)∧(1≤x.tt∧x.tt≤16)∧0<x.am∧x.am=aMg ls c x.fr x.tt:=by
 unfold aGi;rw[aG4]
 constructor
 ·rintro⟨a,h1,h2,h3⟩;obtain⟨k,h4,h5,h6,rfl⟩:=aFe.1 h3;exact⟨by dsimp only;omega,by dsimp only;omega,h6,rfl⟩
 rintro⟨h1,h2,h3,h4⟩;refine⟨x.fr.toNat,by omega,by omega,aFe.2 ⟨x.tt.toNat,by omega,by omega,?_,?_⟩⟩
 ·rw[Int.toNat_of_nonneg (by omega),Int.toNat_of_nonneg (by omega),←h4];exact h3
 rw[Int.toNat_of_nonneg (by omega),Int.toNat_of_nonneg (by omega),←h4]
theorem aI5{ls:List Ln}{c a:Int}:∀n:Nat,(rowF ls c a n).Pairwise fun x y=>keyD x<keyD y
 | 0=>List.Pairwise.nil
 | n+1=>by
  unfold rowF;rw[List.pairwise_append];refine⟨aI5 n,by split <;> simp,fun x hx y hy=>?_⟩;obtain⟨k,h1,h2,_,rfl⟩:=aFe.1 hx;split at hy
  ·rw[List.mem_singleton]at hy;subst hy;unfold keyD;dsimp only;omega
  cases hy
theorem aGj{ls:List Ln}{c:Int}:∀n:Nat,(aI4 ls c n).Pairwise fun x y=>keyD x<keyD y
 | 0=>List.Pairwise.nil
 | n+1=>by
  unfold aI4;rw[List.pairwise_append];refine⟨aGj n,aI5 16,fun x hx y hy=>?_⟩;obtain⟨a,h1,h2,h3⟩:=aG4.1 hx;obtain⟨k,h4,h5,_,rfl⟩:=aFe.1 h3;obtain⟨j,h6,h7,_,rfl⟩:=aFe.1 hy;unfold keyD;dsimp only;omega
theorem aK5(ls:List Ln)(c:Int):(aGi ls c).Pairwise fun x y=>keyD x<keyD y:=aGj 16
attribute [irreducible] aGi aI4 rowF
theorem dbt_sorted{D:List Fw}(h:D.Pairwise fun x y=>keyD x<keyD y){i j:Nat}(hij:i<j)(hj:j<D.length):keyD (dbt D i)<keyD (dbt D j):=by
 rw[aKz hj,aKz (by omega)];exact List.pairwise_iff_getElem.1 h i j (by omega) hj hij
theorem owed_line{ps:List Int}{ls:List Ln}(h:LInv ps ls){c a b:Int}(hp:0<aMg ls c a b):∃y,aAl ls b a c=some y∧lnAt ls b a c=y∧y.Good∧y.cr=b∧y.de=a∧y.cu=c:=by
 unfold aMg at hp
 cases hl:aAl ls b a c with
 | none=>rw[aA0 hl]at hp;exact absurd hp (by decide)
 | some y=>
  obtain⟨hm,h1,h2,h3⟩:=aAo hl;exact⟨y,rfl,aAx hl,h.inv.good y hm,h1,h2,h3⟩
theorem debtsL_may{ps:List Int}{ls:List Ln}(h:LInv ps ls)(c:Int):MayD (aGi ls c):=by
 refine⟨fun i hi=>?_,fun i hi=>dbt_sorted (aK5 ls c) (Nat.lt_succ_self i) hi⟩;obtain⟨h1,h2,h3,h4⟩:=debtsL_mem.1 (dbt_mem hi);obtain⟨y,_,hy,hg,k1,k2,_⟩:=owed_line h (c:=c) (by rw[←h4];exact h3);have hd:=hg.db;have hl:=hg.li;have hn:=hg.ne;have e:(dbt (aGi ls c) i).am=y.db:=by rw[h4];unfold aMg;rw[hy]
 exact⟨h1,h2,by rw[←k1,←k2];exact fun e=>hn e.symm,by omega,by omega⟩
def netTo(ls:List Ln)(c:Int)(D:List Fw)(L:Nat→Int):Nat→List Ln
 | 0=>ls
 | k+1=>aKb (netTo ls c D L k) (dbt D k).tt (dbt D k).fr c ((dbt D k).am - L k)
def ntL(ls:List Ln)(c:Int)(L:Nat→Int):List Ln:=netTo ls c (aGi ls c) L (aGi ls c).length
theorem aMh{ps:List Int}{ls:List Ln}(h:LInv ps ls)(c:Int)(D:List Fw)(L:Nat→Int):∀k,LInv ps (netTo ls c D L k)
 | 0=>h
 | k+1=>(aMh h c D L k).forgive _ _ _ _
theorem ntL_inv{ps:List Int}{ls:List Ln}(h:LInv ps ls)(c:Int)(L:Nat→Int):LInv ps (ntL ls c L):=aMh h c _ L _
def aJ3(ls:List Ln)(c q:Int)(gone many er:Int)(ms:List Ln):Prop:=
 (¬((1≤c∧c≤8)∧0≤q)∧gone=0∧many=0∧er=1∧ms=ls)∨
 ((1≤c∧c≤8)∧0≤q∧∃L k,aN3 (aGi ls c) L k∧(((k:Int)≤q∧gone=totL ls c - totL (ntL ls c L) c∧many=k∧er=0∧ms=ntL ls c L)∨(q<(k:Int)∧gone=0∧many=0∧er=13∧ms=ls)))
structure Stp where
 kd:Int
 a:Int
 b:Int
 c:Int
 d:Int
 n:Int
 mx:Int
 nu:Int
 de:Int
 se:Int
deriving DecidableEq
def Stp.vals(x:Stp):List Value:=[.int .u8 x.kd,.int .u8 x.a,.int .u8 x.b,.int .u8 x.c,.int .u8 x.d,.int .i64 x.n,.int .i64 x.mx,.int .i64 x.nu,.int .i64 x.de,.int .u64 x.se]
theorem Stp.vals_len(x:Stp):x.vals.length=10:=rfl
def aGk(ls:List Stp):List Value:=ls.flatMap Stp.vals
theorem aMi(ls:List Stp):(aGk ls).length=ls.length*10:=aE5 _ 10 Stp.vals_len ls
theorem aHj(ls:List Stp)(i j:Nat)(hj:j<10)(h:i<ls.length):(aGk ls)[i*10+j]? = ls[i].vals[j]? := by
 unfold aGk;rw[aD7 _ 10 Stp.vals_len ls i j hj,List.getElem?_eq_getElem h];rfl
structure Stp.Fits(x:Stp):Prop where
 kd:In8 x.kd
 a:In8 x.a
 b:In8 x.b
 c:In8 x.c
 d:In8 x.d
 n:In64 x.n
 mx:In64 x.mx
 nu:In64 x.nu
 de:In64 x.de
 se:(0≤x.se∧x.se≤18446744073709551615)
structure Gt where
 gx:Int
 gy:Int
deriving DecidableEq
def Gt.vals(x:Gt):List Value:=[.int .i64 x.gx,.int .i64 x.gy]
theorem Gt.vals_len(x:Gt):x.vals.length=2:=rfl
def aAt(ls:List Gt):List Value:=ls.flatMap Gt.vals
def Gt.val(x:Gt):Value:=.agg #[.int .i64 x.gx,.int .i64 x.gy]
theorem aB5(ls:List Gt):(aAt ls).length=ls.length*2:=aE5 _ 2 Gt.vals_len ls
theorem aEi(ls:List Gt)(i j:Nat)(hj:j<2)(h:i<ls.length):(aAt ls)[i*2+j]? = ls[i].vals[j]? := by
 unfold aAt;rw[aD7 _ 2 Gt.vals_len ls i j hj,List.getElem?_eq_getElem h];rfl
theorem aC2(a b:List Gt):aAt (a++b)=aAt a++aAt b:=by unfold aAt;exact List.flatMap_append
theorem aN5(x:Gt):aAt [x]=x.vals:=by simp[aAt]
theorem info_gt:(Tryz.prog.info? 93).map (fun i=>(i.zero,i.size,i.bytes))=some (some (Gt.val ⟨0,0⟩),2,16):=by kernel_rfl
theorem gt_parts(x y:Gt):(x=y)∨(x≠y∧(x.gx==y.gx)=false)∨(x≠y∧(x.gx==y.gx)=true∧(x.gy==y.gy)=false):=by
 obtain⟨a0,a1⟩:=x;obtain⟨b0,b1⟩:=y
 by_cases h0:a0=b0
 case neg=>simp[h0]
 by_cases h1:a1=b1
 case neg=>simp[h0,h1]
 simp[h0,h1]
theorem sameGt_any{w:World}{va vb:Value}{la lb:List Gt}(ha:aAs w va 2 la.length (aAt la))(hb:aAs w vb 2 lb.length (aAt lb)):
  Calls Tryz.prog 51 #[va,vb] w (yR w (.bool (decide (la=lb)))):=by
 obtain⟨ao,ca,rfl,a1,a2,a3⟩:=ha;obtain⟨bo,cb,rfl,b1,b2,b3⟩:=hb;have HA:=yH a3;have HB:=yH b3;clear a2 a3 b2 b3
 by_cases hlen:la.length=lb.length
 ·have L:=yH hlen;have hll:lb.length=la.length:=hlen.symm;rw[hll];clear hll hlen b1;go_enter Tryz.func51,Tryz.ntmps51;go_wp2
  go_loopw [5] (fun i wr=>∃k:Nat,k≤la.length∧i=.int .i64 k∧Hid (la.take k=lb.take k)∧Below w.heap.size w wr) (fun i _=>la.length - (intOf i).toNat)
  case atStart=>exact⟨0,Nat.zero_le _,rfl,yH (by simp),yZ⟩
  obtain⟨k,hk,rfl,ht,hbl⟩:=hrel;have BL:=yH hbl
  by_cases hkl:k<la.length
  ·have hkb:k<lb.length:=by have:=L.o;omega
   obtain⟨b1,o1,rfl,hlt1,hc1⟩:=HA.o (by omega);obtain⟨b2,o2,rfl,hlt2,hc2⟩:=HB.o (by omega);have HC1:=yH (fun j (hj:j<la.length*2)=>(hbl.cell (p:=⟨b1,o1+j,none⟩) hlt1).trans (hc1 j hj));have HC2:=yH (fun j (hj:j<lb.length*2)=>(hbl.cell (p:=⟨b2,o2+j,none⟩) hlt2).trans (hc2 j hj))
   have d0:wr.cell? ⟨b1,o1+k*2,none⟩=some (.int .i64 la[k].gx):=by
    have q1:=HC1.o (k*2+0) (by omega);rw[aEi la k 0 (by omega) hkl]at q1
    first|exact q1|(rw[←Nat.add_assoc]at q1;exact q1)
   have d1:wr.cell? ⟨b1,o1+k*2+1,none⟩=some (.int .i64 la[k].gy):=by
    have q1:=HC1.o (k*2+1) (by omega);rw[aEi la k 1 (by omega) hkl]at q1
    first|exact q1|(rw[←Nat.add_assoc]at q1;exact q1)
   have f0:wr.cell? ⟨b2,o2+k*2,none⟩=some (.int .i64 lb[k].gx):=by
    have q1:=HC2.o (k*2+0) (by omega);rw[aEi lb k 0 (by omega) hkb]at q1
    first|exact q1|(rw[←Nat.add_assoc]at q1;exact q1)
   have f1:wr.cell? ⟨b2,o2+k*2+1,none⟩=some (.int .i64 lb[k].gy):=by
    have q1:=HC2.o (k*2+1) (by omega);rw[aEi lb k 1 (by omega) hkb]at q1
    first|exact q1|(rw[←Nat.add_assoc]at q1;exact q1)
   have hz1:b1<wr.heap.size:=yM hlt1 hbl.size;have hz2:b2<wr.heap.size:=yM hlt2 hbl.size
   have NE:=yH (fun(he:la[k]≠lb[k])=>show decide (la=lb)=false by
    rw[decide_eq_false_iff_not];rintro rfl;exact he rfl)
   have EQ:=yH (fun(he:la[k]=lb[k])=>aDs hkl hkb ht.out he);clear hc1 hc2 HC1 HC2 hbl;generalize la[k]=x at *;generalize lb[k]=y at *;rcases gt_parts x y with rfl|⟨he,s0⟩|⟨he,s0,s1⟩
   ·clear NE;go_wp2
    go_region
    all_goals
     go_wp2;go_roundw
     case rel=>exact⟨k+1,by omega,by go_num,yH (EQ.o (by first|exact rfl|trivial)),by first|exact BL.o.drew|exact BL.o⟩
     case measure=>simp[intOf];omega
   ·have E:=yH (NE.o he);clear he NE EQ;go_wp2
    go_region
    all_goals
     go_wp2;go_ret;exact⟨by rw[E.o];rfl,by first|exact BL.o.drew|exact BL.o⟩
   have E:=yH (NE.o he);clear he NE EQ;go_wp2
   go_region
   all_goals
    go_wp2;go_ret;exact⟨by rw[E.o];rfl,by first|exact BL.o.drew|exact BL.o⟩
  have E:=yH (show decide (la=lb)=true by
   have h1:=ht.out;rw[List.take_of_length_le (by omega),List.take_of_length_le (by have:=L.o;omega)]at h1;rw[decide_eq_true_eq];exact h1)
  go_wp2;go_ret;exact⟨by rw[E.o];rfl,BL.o⟩
 have E:=yH (show decide (la=lb)=false by rw[decide_eq_false_iff_not];rintro rfl;exact hlen rfl);have q:((la.length:Int)==(lb.length:Int))=false:=by simp;omega
 clear hlen;go_enter Tryz.func51,Tryz.ntmps51;go_wp2;go_ret;exact⟨by rw[E.o];rfl,yZ⟩
theorem kinds(k:Int):k=1∨k=2∨k=3∨k=4∨k=5∨k=6∨k=7∨k=8∨k=9∨k=10∨k=11∨(¬k=1∧¬k=2∧¬k=3∧¬k=4∧¬k=5∧¬k=6∧¬k=7∧¬k=8∧¬k=9∧¬k=10∧¬k=11):=by omega
structure Hs where
 ps:List Int
 ls:List Ln
 l:List Of
 N:Int
structure HInv(σ:Hs):Prop where
 li:LInv σ.ps σ.ls
 bi:BInv σ.l σ.N
 own:∀o∈σ.l,o.ow∈σ.ps
theorem HInv.start:HInv ⟨[],[],[],1⟩:=⟨LInv.nil,BInv.nil (by decide) (by decide),fun o h=>by cases h⟩
theorem aJ3.lin{ps:List Int}{ls ms:List Ln}{c q g m e:Int}(h:aJ3 ls c q g m e ms)(hI:LInv ps ls):LInv ps ms:=by
 rcases h with⟨_,_,_,_,rfl⟩|⟨_,_,L,k,_,⟨_,_,_,_,rfl⟩|⟨_,_,_,_,rfl⟩⟩
 ·exact hI
 ·exact ntL_inv hI c L
 exact hI
theorem net_ends{ps:List Int}{ls:List Ln}(hI:LInv ps ls)(c q:Int):∃r:Int×Int×Int×List Ln,aJ3 ls c q r.1 r.2.1 r.2.2.1 r.2.2.2:=by
 by_cases h:(1≤c∧c≤8)∧0≤q
 ·obtain⟨L,k,hL⟩:=least_ends (debtsL_may hI c)
  by_cases hk:(k:Int)≤q
  ·exact⟨(_,_,_,_),.inr ⟨h.1,h.2,L,k,hL,.inl ⟨hk,rfl,rfl,rfl,rfl⟩⟩⟩
  exact⟨(_,_,_,_),.inr ⟨h.1,h.2,L,k,hL,.inr ⟨by omega,rfl,rfl,rfl,rfl⟩⟩⟩
 exact⟨(_,_,_,_),.inl ⟨h,rfl,rfl,rfl,rfl⟩⟩
noncomputable def aMj(ls:List Ln)(c q:Int):Int×Int×Int×List Ln:=@Classical.epsilon _ ⟨(0,0,0,ls)⟩ (fun r=>aJ3 ls c q r.1 r.2.1 r.2.2.1 r.2.2.2)
theorem nettS_is{ps:List Int}{ls:List Ln}(hI:LInv ps ls)(c q:Int):aJ3 ls c q (aMj ls c q).1 (aMj ls c q).2.1 (aMj ls c q).2.2.1 (aMj ls c q).2.2.2:=
 @Classical.epsilon_spec _ (fun r:Int×Int×Int×List Ln=>aJ3 ls c q r.1 r.2.1 r.2.2.1 r.2.2.2) (net_ends hI c q)
noncomputable def aBg(σ:Hs)(s:Stp):Hs×Gt×Int:=
 if s.kd=1 then(⟨aCb σ.ps s.a,σ.ls,σ.l,σ.N⟩,⟨0,0⟩,aCa σ.ps s.a)
 else if s.kd=2 then(⟨σ.ps,aAj σ.ps σ.ls s.a s.b s.c s.n,σ.l,σ.N⟩,⟨0,0⟩,aAi σ.ps σ.ls s.a s.b s.c s.n)
 else if s.kd=3 then(⟨σ.ps,paidS σ.ps σ.ls s.a s.b s.c s.n,σ.l,σ.N⟩,⟨payN σ.ps s.a s.b s.c s.n (aBk (aAu σ.ps σ.ls s.c) s.a s.b s.n),0⟩,payE σ.ps s.a s.b s.c s.n (aBk (aAu σ.ps σ.ls s.c) s.a s.b s.n))
 else if s.kd=4 then
  if(aJk σ.ps σ.ls σ.l s.a s.b s.c s.d s.n s.mx).1=0 then(⟨σ.ps,(aJk σ.ps σ.ls σ.l s.a s.b s.c s.d s.n s.mx).2.ls,(aJk σ.ps σ.ls σ.l s.a s.b s.c s.d s.n s.mx).2.l,σ.N⟩,⟨((aJk σ.ps σ.ls σ.l s.a s.b s.c s.d s.n s.mx).2.fs.map Fl.gi).sum,(aJk σ.ps σ.ls σ.l s.a s.b s.c s.d s.n s.mx).2.fs.length⟩,0)
  else(σ,⟨0,0⟩,(aJk σ.ps σ.ls σ.l s.a s.b s.c s.d s.n s.mx).1)
 else if s.kd=5 then
  if(aE0 σ.ps σ.ls σ.l σ.N s.a s.c s.d s.n s.nu s.de).1=0 then(⟨σ.ps,(aE0 σ.ps σ.ls σ.l σ.N s.a s.c s.d s.n s.nu s.de).2.1.ls,(aE0 σ.ps σ.ls σ.l σ.N s.a s.c s.d s.n s.nu s.de).2.1.l,(aE0 σ.ps σ.ls σ.l σ.N s.a s.c s.d s.n s.nu s.de).2.2.1⟩,
   ⟨((aE0 σ.ps σ.ls σ.l σ.N s.a s.c s.d s.n s.nu s.de).2.1.fs.map Fl.got).sum,IntKind.i64.wrap (aE0 σ.ps σ.ls σ.l σ.N s.a s.c s.d s.n s.nu s.de).2.2.2⟩,0)
  else(σ,⟨0,0⟩,(aE0 σ.ps σ.ls σ.l σ.N s.a s.c s.d s.n s.nu s.de).1)
 else if s.kd=6 then(⟨σ.ps,σ.ls,aIo σ.l s.a s.se,σ.N⟩,⟨cancelV σ.l s.a s.se,0⟩,aNu σ.l s.a s.se)
 else if s.kd=7 then(⟨σ.ps,(aMj σ.ls s.c s.mx).2.2.2,σ.l,σ.N⟩,⟨(aMj σ.ls s.c s.mx).1,(aMj σ.ls s.c s.mx).2.1⟩,(aMj σ.ls s.c s.mx).2.2.1)
 else if s.kd=8 then(σ,⟨(lnAt σ.ls s.a s.b s.c).db,(lnAt σ.ls s.a s.b s.c).li⟩,0)
 else if s.kd=9 then(σ,⟨posL σ.ls s.a s.c,0⟩,0)
 else if s.kd=10 then(σ,⟨totL σ.ls s.c,0⟩,0)
 else if s.kd=11 then(σ,⟨leftO σ.l s.se,0⟩,if(aBt σ.l s.se).isSome=true then 0 else 7)
 else(σ,⟨0,0⟩,1)
theorem swapF_inv{ps:List Int}{ls:List Ln}{l:List Of}{N fr pt get give n most:Int}(hI:LInv ps ls)(hJ:BInv l N)(h:(aJk ps ls l fr pt get give n most).1=0):aHn ps ls l N fr pt get give n (aJk ps ls l fr pt get give n most).2:=by
 have hs:=aHn.ends (ps:=ps) (tk:=fr) (pt:=pt) (get:=get) (give:=give) 64 (aHn.start (n0:=n) hI hJ);unfold aJk at h ⊢;split at h
 ·cases h
 split at h
 ·cases h
 split at h
 ·rename_i k1 k2 k3;exact absurd h k3
 split at h
 ·cases h
 rename_i k1 k2 k3 k4;rw[if_neg k1,if_neg k2,if_neg k3,if_neg k4];exact hs
theorem open_mem{ps:List Int}(p:Int)(hb:∀q∈ps,1≤q∧q≤16){q:Int}(h:q∈ps):q∈aCb ps p:=by
 unfold aCb
 by_cases h1:p<1∨16<p
 ·rw[if_pos h1];exact h
 rw[if_neg h1]
 by_cases h2:p∈ps
 ·rw[if_pos h2];exact h
 rw[if_neg h2,aC1];exact⟨by have:=hb q h;omega,.inr h⟩
theorem HInv.step{σ:Hs}(h:HInv σ)(s:Stp):HInv (aBg σ s).1:=by
 have hl:=h.li;have hb:=h.bi;have ho:=h.own;unfold aBg
 by_cases k1:s.kd=1
 ·rw[if_pos k1];exact⟨hl.open s.a,hb,fun o hm=>open_mem _ hl.bd (ho o hm)⟩
 rw[if_neg k1]
 by_cases k2:s.kd=2
 ·rw[if_pos k2];exact⟨hl.trust _ _ _ _,hb,ho⟩
 rw[if_neg k2]
 by_cases k3:s.kd=3
 ·rw[if_pos k3];exact⟨aL8 hl _ _ _ _,hb,ho⟩
 rw[if_neg k3]
 by_cases k4:s.kd=4
 ·rw[if_pos k4]
  by_cases h0:(aJk σ.ps σ.ls σ.l s.a s.b s.c s.d s.n s.mx).1=0
  ·rw[if_pos h0];have hi:=swapF_inv hl hb h0;refine⟨hi.linv,hi.binv,fun o hm=>?_⟩;obtain⟨y,hy,e,_⟩:=hi.like o.se o (aG1 hi.binv hm);show o.ow∈σ.ps;rw[←e];exact ho y (aD5 hy).1
  rw[if_neg h0];exact h
 rw[if_neg k4]
 by_cases k5:s.kd=5
 ·rw[if_pos k5]
  by_cases h0:(aE0 σ.ps σ.ls σ.l σ.N s.a s.c s.d s.n s.nu s.de).1=0
  ·rw[if_pos h0];obtain⟨r,hr⟩:∃r,aE0 σ.ps σ.ls σ.l σ.N s.a s.c s.d s.n s.nu s.de=r:=⟨_,rfl⟩;obtain⟨e,τ,N',sq⟩:=r;rw[hr]at h0 ⊢;have h0':e=0:=h0;subst h0';obtain⟨υ,hd⟩:=aNz hl hb hr;obtain⟨h1,h2,_⟩:=hd.next
   have hold:∀o∈υ.l,o.ow∈σ.ps:=fun o hm=>by
    obtain⟨y,hy,e,_⟩:=hd.inv.like o.se o (aG1 hd.inv.binv hm);rw[←e];exact ho y (aD5 hy).1
   refine⟨h1,h2,fun o hm=>?_⟩;rcases hd.ends with⟨_,rfl,_⟩|⟨_,_,_,rfl,_⟩
   ·exact hold o hm
   rcases List.mem_append.1 hm with hm|hm
   ·exact hold o hm
   rw[List.mem_singleton]at hm;subst hm;exact hd.part
  rw[if_neg h0];exact h
 rw[if_neg k5]
 by_cases k6:s.kd=6
 ·rw[if_pos k6];refine⟨hl,hb.cancel _ _,fun o hm=>?_⟩
  change o∈aIo σ.l s.a s.se at hm
  unfold aIo at hm
  by_cases hc:aNu σ.l s.a s.se=0
  ·rw[if_pos hc]at hm;obtain⟨_,x,hx,rfl|⟨_,rfl⟩⟩:=aHz hm
   ·exact ho _ hx
   exact ho x hx
  rw[if_neg hc]at hm;exact ho o hm
 rw[if_neg k6]
 by_cases k7:s.kd=7
 ·rw[if_pos k7];exact⟨(nettS_is hl s.c s.mx).lin hl,hb,ho⟩
 rw[if_neg k7]
 by_cases k8:s.kd=8
 ·rw[if_pos k8];exact h
 rw[if_neg k8]
 by_cases k9:s.kd=9
 ·rw[if_pos k9];exact h
 rw[if_neg k9]
 by_cases k10:s.kd=10
 ·rw[if_pos k10];exact h
 rw[if_neg k10]
 by_cases k11:s.kd=11
 ·rw[if_pos k11];exact h
 rw[if_neg k11];exact h
noncomputable def runF(τ:Hs):List Stp→Nat→List Gt→Hs×Int×Nat×List Gt
 | [],_,gs=>(τ,0,0,gs)
 | s::r,i,gs=>if(aBg τ s).2.2≠0 then(τ,(aBg τ s).2.2,i,[])else runF (aBg τ s).1 r (i+1) (gs++[(aBg τ s).2.1])
noncomputable def aCm(σ:Hs)(xs:List Stp):Hs×Int×Nat×List Gt:=
 if xs.length<1∨8<xs.length then(σ,3,0,[])else if(runF σ xs 0 []).2.1≠0 then(σ,(runF σ xs 0 []).2.1,(runF σ xs 0 []).2.2.1,[])else runF σ xs 0 []
theorem runF_inv:∀(xs:List Stp) {τ:Hs} (i:Nat) (gs:List Gt),HInv τ→HInv (runF τ xs i gs).1
 | [],τ,i,gs,h=>h
 | s::r,τ,i,gs,h=>by
  unfold runF;split
  ·exact h
  exact runF_inv r (i+1) _ (h.step s)
theorem HInv.apply{σ:Hs}(h:HInv σ)(xs:List Stp):HInv (aCm σ xs).1:=by
 unfold aCm;split
 ·exact h
 split
 ·exact h
 exact runF_inv xs 0 [] h
theorem runF_drop{τ:Hs}{xs:List Stp}{k i:Nat}{gs:List Gt}(hk:k<xs.length):runF τ (xs.drop k) i gs=if(aBg τ xs[k]).2.2≠0 then(τ,(aBg τ xs[k]).2.2,i,[])else runF (aBg τ xs[k]).1 (xs.drop (k+1)) (i+1) (gs++[(aBg τ xs[k]).2.1]):=by
 rw[List.drop_eq_getElem_cons hk];rfl
theorem runF_end{τ:Hs}{xs:List Stp}{i:Nat}{gs:List Gt}:runF τ (xs.drop xs.length) i gs=(τ,0,0,gs):=by
 rw[List.drop_length];rfl
theorem applyF_err{σ τ:Hs}{xs:List Stp}{er:Int}{k:Nat}(hl:1≤xs.length∧xs.length≤8)(h:runF σ xs 0 []=(τ,er,k,[]))(he:er≠0):aCm σ xs=(σ,er,k,[]):=by
 unfold aCm;rw[if_neg (by omega),h,if_pos he]
theorem applyF_ok{σ τ:Hs}{xs:List Stp}{gs:List Gt}(hl:1≤xs.length∧xs.length≤8)(h:runF σ xs 0 []=(τ,0,0,gs)):aCm σ xs=(τ,0,0,gs):=by
 unfold aCm;rw[if_neg (by omega),h,if_neg (fun e=>e rfl)]
end Go.Proofs.YtngnfdnfpiiclaaGreat
namespace Go.Proofs.YtngnfdnfpiiclaaGreat
open Go.RowKit Go.ChangeShapes Go.WideShapes Go.Deep
section
variable{H:Type}{enc:TypeId×Value→H}{P:Program}{w:World}{base:Nat}{spare:Nat→Bool}{held:Bool}
end
theorem aG5{H:Type}{enc:TypeId×Value→H}{w:World}{base:Nat}{spare:Nat→Bool}{held:Bool}{P:Program}{t e:TypeId}{n:Nat}{v:Value}{y:DataW H×List MemPlace}(ht:P.underlying t=some (.slice e))(h:DataW.trod enc P w base spare held n t [v]=some y):∃a len cap,v=.slice a len cap:=by
 rcases open_slice ht h with⟨h0,_⟩|⟨ad,l,c,m,n,D,Pl,hcs,_⟩
 ·exact⟨_,_,_,(List.cons.inj h0).1⟩
 exact⟨_,_,_,(List.cons.inj hcs).1⟩
theorem SlIn.steps{w:World}{a:Option Addr}{len cap:Nat}{xs:List Stp}(h:SlIn Stp.vals 10 Stp.Fits w a len cap xs)(hn:len≤100000000):aAs w (.slice a xs.length cap) 10 xs.length (aGk xs):=by
 obtain⟨h0,h1,h2,h3,h4,h5⟩:=h;subst h1;refine⟨a,cap,rfl,hn,aMi xs,fun hp=>?_⟩;obtain⟨b,off,rfl,hlt,hc⟩:=h5 hp;refine⟨b,off,rfl,hlt,fun j hj=>?_⟩;have hi:j/10<xs.length:=by omega
 have hm:j%10<10:=Nat.mod_lt _ (by decide);have h4:=aHj xs (j/10) (j%10) hm hi;rw[show j/10*10+j%10=j by omega]at h4;have hv:(xs[j/10].vals)[j%10]? = some (xs[j/10].vals[j%10]'(by rw[Stp.vals_len];omega)):=List.getElem?_eq_getElem _;have h5:=hc (j/10) hi (j%10) _ hv;rw[show off+j/10*10+j%10=off+j by omega]at h5;rw[h5,h4,hv]
structure Cm where
 a:Option Addr
 n:Nat
 c:Nat
 xs:List Stp
def Cm.In(w:World)(x:Cm):Prop:=SlIn Stp.vals 10 Stp.Fits w x.a x.n x.c x.xs
section
variable{H:Type}{enc:TypeId×Value→H}{w:World}{base:Nat}{spare:Nat→Bool}{held:Bool}
end
end Go.Proofs.YtngnfdnfpiiclaaGreat
namespace Go.Proofs.YtngnfdnfpiiclaaGreat
open Go.RowKit
def Told(w:World)(base:Nat)(e:TypeId)(size:Nat)(v:Value)(n:Nat)(xs:List Value):Prop:=aCz w base e size v n xs∨w.ownsRow base e size v n xs
theorem Told.below{w w':World}{base:Nat}{e:TypeId}{size:Nat}{v:Value}{n:Nat}{xs:List Value}(h:Told w base e size v n xs)(k:Below w.heap.size w w'):Told w' base e size v n xs:=h.imp (fun h=>h.below k) (fun h=>aAc h k)
theorem Told.keep{S:Nat→Prop}{w w':World}{base:Nat}{e:TypeId}{size:Nat}{v:Value}{n:Nat}{xs:List Value}(h:Told w base e size v n xs)(k:Keep S w w')(hs:∀b,v.ownBlock=some b→¬S b):Told w' base e size v n xs:=h.imp (fun h=>h.keep k hs) (fun h=>aAw h k hs)
theorem Told.reads{w:World}{base:Nat}{e:TypeId}{size:Nat}{v:Value}{n:Nat}{xs:List Value}(h:Told w base e size v n xs)(hn:n≤100000000):aAs w v size n xs:=h.elim (fun h=>h.reads hn) (fun h=>pAG h hn)
theorem Told.own{w:World}{base:Nat}{e:TypeId}{size:Nat}{v:Value}{n:Nat}{xs:List Value}(h:Told w base e size v n xs){b:Nat}(hb:v.ownBlock=some b):base≤b∧b<w.heap.size∧∃cur,w.heap[b]? = some (.cells cur e (0,0)):=by
 rcases h with h|h
 ·obtain⟨_,h2⟩:=h;rcases h2 with⟨rfl,rfl⟩|⟨g,cur,rfl,h3,hg,_⟩
  ·cases hb
  cases hb
  exact⟨h3,lt_of_block hg,cur,hg⟩
 exact aAn h hb
theorem Told.shape{w:World}{base:Nat}{e:TypeId}{size:Nat}{v:Value}{n:Nat}{xs:List Value}(h:Told w base e size v n xs):∃ao cap,v=.slice ao n cap:=by
 rcases h with h|h
 ·obtain⟨ao,rfl,_⟩:=aM7 h;exact⟨ao,n,rfl⟩
 obtain⟨ao,cap,rfl,_⟩:=aAh h;exact⟨ao,cap,rfl⟩
theorem aAy{w:World}{a b:Nat}{cs ds:Array Value}{t u:TypeId}(h:Blk w a cs t)(k:Blk w b ds u)(hne:t≠u):a≠b:=by
 rintro rfl;unfold Blk at h k;rw[h]at k;simp at k;exact hne k.2
theorem aK6{w:World}{base:Nat}{e:TypeId}{size:Nat}{v:Value}{n:Nat}{xs:List Value}(h:Told w base e size v n xs){g:Nat}{cs:Array Value}{t:TypeId}(k:Blk w g cs t)(hne:e≠t):∀b,v.ownBlock=some b→¬b=g:=fun b hb=>by
 obtain⟨_,_,cur,hc⟩:=h.own hb;exact aAy (show Blk w b cur e from hc) k hne
def aB6(Is:World→Nat→Hs→Prop)(w:World)(g:Nat)(σ:Hs)(xs:List Stp)(e:Ending)(w':World):Prop:=
 ∃v,e=.returned (.agg #[.int .i64 (aCm σ xs).2.1,.int .i64 ((aCm σ xs).2.2.1:Nat),v])∧Told w' w.heap.size 93 2 v (aCm σ xs).2.2.2.length (aAt (aCm σ xs).2.2.2)∧Is w' g (aCm σ xs).1∧Keep (·=g) w w'
def aMk(w:World)(σ:Hs)(e:Ending)(w':World):Prop:=
 ∃vp vl vo,e=.returned (.agg #[vp,vl,vo,.int .u64 σ.N])∧Told w' w.heap.size 68 1 vp σ.ps.length (σ.ps.map (.int .u8))∧Told w' w.heap.size 71 5 vl σ.ls.length (aAd σ.ls)∧Told w' w.heap.size 75 7 vo σ.l.length (aAe σ.l)∧Below w.heap.size w w'
structure aFf(Ok:Stp→Prop)(Is:World→Nat→Hs→Prop):Prop where
 lt:∀{w:World} {g:Nat} {σ:Hs},Is w g σ→g<w.heap.size
 below:∀{w w':World} {g:Nat} {σ:Hs},Is w g σ→Below w.heap.size w w'→Is w' g σ
 other:∀{w w':World} {g k:Nat} {σ τ:Hs},Is w g σ→Is w k τ→g≠k→Keep (·=k) w w'→Is w' g σ
 rows:∀{w w':World} {g:Nat} {σ:Hs} {S:Nat→Prop},Is w g σ→Keep S w w'→(∀b,S b→∃cur e,w.heap[b]? = some (.cells cur e (0,0))∧(e=68∨e=71∨e=75∨e=87∨e=93))→Is w' g σ
 new:∀w:World,Calls Tryz.prog 11 #[] w fun e w'=>∃g,e=.returned (.pointer (some ⟨g,0,none⟩))∧Is w' g ⟨[],[],[],1⟩∧w.heap.size≤g∧Below w.heap.size w w'
 apply:∀{w:World} {g:Nat} {σ:Hs},Is w g σ→HInv σ→∀x:Cm,x.In w→(∀s∈x.xs,Ok s)→Calls Tryz.prog 16 #[.pointer (some ⟨g,0,none⟩),.agg #[.slice x.a x.n x.c]] w (aB6 Is w g σ x.xs)
 state:∀{w:World} {g:Nat} {σ:Hs},Is w g σ→HInv σ→Calls Tryz.prog 21 #[.pointer (some ⟨g,0,none⟩)] w (aMk w σ)
 copy:∀{w:World} {g:Nat} {σ:Hs},Is w g σ→HInv σ→Calls Tryz.prog 13 #[.pointer (some ⟨g,0,none⟩)] w fun e w'=>∃k,e=.returned (.pointer (some ⟨k,0,none⟩))∧Is w' k σ∧w.heap.size≤k∧Below w.heap.size w w'
def aI6:Prop:=∀w:World,Calls Tryz.prog 10 #[] w fun e w'=>e=.returned (.bool true)∧Below w.heap.size w w'
theorem Keep.trans_new{S T:Nat→Prop}{a b c:World}(h:Keep S a b)(k:Keep T b c)(hT:∀j,j<a.heap.size→T j→S j):Keep S a c:=
 ⟨k.os.trans h.os,k.tape.trans h.tape,k.output.trans h.output,Nat.le_trans h.size k.size,fun i hi hs=>(k.block i (yM hi h.size) (fun t=>hs (hT i hi t))).trans (h.block i hi hs)⟩
def FCopyPost(w:World)(ps:List Int)(ls:List Ln)(l:List Of)(N:Int)(e:Ending)(w':World):Prop:=
 ∃G M gb vb,e=.returned (.agg #[.pointer (some ⟨G,0,none⟩),.pointer (some ⟨gb,0,none⟩)])∧LedM w' G M ps ls∧PB w' w.heap.size gb l N vb∧w.heap.size≤G∧w.heap.size≤M∧Below w.heap.size w w'
def aGl:Prop:=∀{w:World} {base G M gb:Nat} {ps:List Int} {ls:List Ln} {l:List Of} {N:Int} {vb:Value},LedM w G M ps ls→LInv ps ls→PB w base gb l N vb→BInv l N→
 Calls Tryz.prog 47 #[.agg #[.pointer (some ⟨G,0,none⟩),.pointer (some ⟨gb,0,none⟩)]] w (FCopyPost w ps ls l N)
theorem aHq(ls:List Ln):∀u∈aAd ls,u.oneCell'=true:=by
 intro u hu;unfold aAd at hu;obtain⟨x,_,hx⟩:=List.mem_flatMap.1 hu;simp[Ln.vals]at hx;rcases hx with rfl|rfl|rfl|rfl|rfl <;> rfl
def aMl(W:World)(base:Nat)(ps:List Int)(ls:List Ln)(g:Value×Value×Nat)(D:Nat→Bool)(w:World):Prop:=
 Below W.heap.size W w∧(D 4=true→w.ownsRow base 68 1 g.1 ps.length (ps.map (.int .u8))∧∀b,g.1.ownBlock=some b→W.heap.size≤b)∧(D 9=true→w.ownsRow base 71 5 g.2.1 ls.length (aAd ls)∧∀b,g.2.1.ownBlock=some b→W.heap.size≤b)∧(D 11=true→W.heap.size≤g.2.2∧Blk w g.2.2 #[g.1,g.2.1] 120)
theorem aMl.step{W w w':World}{base:Nat}{ps:List Int}{ls:List Ln}{g:Value×Value×Nat}{D:Nat→Bool}{k:Nat}(h:aMl W base ps ls g D w)(hb:Below w.heap.size w w')(h4:k≠4)(h9:k≠9)(h11:k≠11):aMl W base ps ls g (ins k D) w':=by
 obtain⟨b,p,l,s⟩:=h;have e4:¬4=k:=fun e=>h4 e.symm
 have e9:¬9=k:=fun e=>h9 e.symm
 have e11:¬11=k:=fun e=>h11 e.symm
 refine⟨b.trans (hb.mono b.size),fun d=>?_,fun d=>?_,fun d=>?_⟩
 ·simp[ins,e4]at d;exact⟨aAc (p d).1 hb,(p d).2⟩
 ·simp[ins,e9]at d;exact⟨aAc (l d).1 hb,(l d).2⟩
 simp[ins,e11]at d;exact⟨(s d).1,(s d).2.below hb (s d).2.lt⟩
def CopyPost(base:Nat)(ps:List Int)(ls:List Ln)(w:World)(e:Ending)(w':World):Prop:=
 ∃g' vp' vl',e=.returned (.pointer (some ⟨g',0,none⟩))∧RefL w' base g' ps ls vp' vl'∧w.heap.size≤g'∧(∀b,vp'.ownBlock=some b→w.heap.size≤b)∧(∀b,vl'.ownBlock=some b→w.heap.size≤b)∧Below w.heap.size w w'
theorem rcopy_any{w:World}{base g:Nat}{ps:List Int}{ls:List Ln}{vp vl:Value}(h:RefL w base g ps ls vp vl)(hp:ps.length≤1000)(hl:ls.length≤1000):
  Calls Tryz.prog 78 #[.pointer (some ⟨g,0,none⟩)] w (CopyPost base ps ls w):=by
 have H:=yH h;have hg:=h.blk.lt;have hbase0:=h.ge;clear h;go_enter Tryz.func78,Tryz.ntmps78;go_wp2_with fail
 refine aBi (by kernel_rfl) (fun s:Value×Value×Nat=>[.pointer (some ⟨g,0,none⟩),.pointer (some ⟨g,0,none⟩),.pointer (some ⟨g,0,none⟩),vp,s.1,.pointer (some ⟨g,0,none⟩),.pointer (some ⟨g,0,none⟩),.pointer (some ⟨g,1,none⟩),vl,s.2.1,.agg #[s.1,s.2.1],.pointer (some ⟨s.2.2,0,none⟩),.pointer (some ⟨s.2.2,0,none⟩)])
  (aMl w base ps ls) (by kernel_rfl) (undef,undef,0) ⟨yZ.drew,by simp,by simp,by simp⟩ ?_
 intro AF hAF;simp only[puts,Act.put,yA,yC,yF,yD,yE]at hAF;have hAF2:_=AF:=funext hAF;subst hAF2;clear hAF;refine⟨?_,?_⟩
 ·simp only[aFh];refine⟨?_,?_,?_,?_,?_,?_,?_,?_,?_,?_,?_,?_,?_,trivial⟩
  ·intro s D w' hD _ _ hI;refine⟨s,fun _ _ _=>rfl,?_⟩;with_reducible refine yO rfl ?_
   have hI':=yH (hI.step yZ (k:=0) (by decide) (by decide) (by decide));have hg':g<w'.heap.size:=yM hg hI.1.size;clear hI;go_wp2_with fail;all_goals first|exact hI'|exact⟨rfl,hI'⟩|rfl
  ·intro s D w' hD _ _ hI;refine⟨s,fun _ _ _=>rfl,?_⟩;with_reducible refine yO rfl ?_
   have hI':=yH (hI.step yZ (k:=1) (by decide) (by decide) (by decide));have hg':g<w'.heap.size:=yM hg hI.1.size;clear hI;go_wp2_with fail;all_goals first|exact hI'|exact⟨rfl,hI'⟩|rfl
  ·intro s D w' hD _ _ hI;refine⟨s,fun _ _ _=>rfl,?_⟩;with_reducible refine yO rfl ?_
   have hI':=yH (hI.step yZ (k:=2) (by decide) (by decide) (by decide));have hg':g<w'.heap.size:=yM hg hI.1.size;clear hI;go_wp2_with fail;all_goals first|exact hI'|exact⟨rfl,hI'⟩|rfl
  ·intro s D w' hD _ _ hI;refine⟨s,fun _ _ _=>rfl,?_⟩;with_reducible refine yO rfl ?_
   have hI':=yH (hI.step yZ (k:=3) (by decide) (by decide) (by decide));have hg':g<w'.heap.size:=yM hg hI.1.size;have d0:=(H.o.blk.below hI.1 hg).cell 0;simp at d0;clear hI;go_wp2_with fail;all_goals first|exact hI'|exact⟨rfl,hI'⟩|rfl
  ·intro s D w' hD _ hC hI;have hN:D 10=false:=aF8 hC hD rfl ⟨⟨4,.data⟩,by simp,rfl,rfl⟩;have hN2:D 11=false:=aF8 hC hN rfl ⟨⟨10,.data⟩,by simp,rfl,rfl⟩;obtain⟨v',w2,hrun,how,hbel⟩:=aDk (P:=Tryz.prog) (w:=w') 41 41 68 aFa Tryz.underlying41 rfl (by decide) (by decide) base _ _ _ (aAc H.o.p hI.1) (by intro u hu;obtain⟨q,_,rfl⟩:=List.mem_map.1 hu;rfl) (by omega);refine⟨(v',s.2.1,s.2.2),?_,?_⟩
   ·intro j hj hDj
    match j,hj,hDj with
    | 0,_,_=>rfl
    | 1,_,_=>rfl
    | 2,_,_=>rfl
    | 3,_,_=>rfl
    | 4,_,h=>simp_all
    | 5,_,_=>rfl
    | 6,_,_=>rfl
    | 7,_,_=>rfl
    | 8,_,_=>rfl
    | 9,_,_=>rfl
    | 10,_,h=>simp_all
    | 11,_,_=>rfl
    | 12,_,_=>rfl
    | j+13,_,_=>rfl
   with_reducible refine yO rfl ?_
   refine aDt (.tmp 6) 41 rfl rfl hrun ⟨rfl,?_⟩;have hw:=hI.1.size;have hh:∀b,v'.ownBlock=some b→w.heap.size≤b:=fun b hb=>Nat.le_trans hw (aAn how hb).1
   obtain⟨q1,q2,q3,q4⟩:=hI;refine⟨q1.trans (hbel.mono q1.size),fun _=>⟨aBo how (Nat.le_trans hbase0 (Nat.le_trans (Nat.le_of_lt hg) hw)),hh⟩,fun d=>?_,fun d=>?_⟩
   ·simp[ins]at d;exact⟨aAc (q3 d).1 hbel,(q3 d).2⟩
   simp[ins,hN2]at d
  ·intro s D w' hD _ _ hI;refine⟨s,fun _ _ _=>rfl,?_⟩;with_reducible refine yO rfl ?_
   have hI':=yH (hI.step yZ (k:=5) (by decide) (by decide) (by decide));have hg':g<w'.heap.size:=yM hg hI.1.size;clear hI;go_wp2_with fail;all_goals first|exact hI'|exact⟨rfl,hI'⟩|rfl
  ·intro s D w' hD _ _ hI;refine⟨s,fun _ _ _=>rfl,?_⟩;with_reducible refine yO rfl ?_
   have hI':=yH (hI.step yZ (k:=6) (by decide) (by decide) (by decide));have hg':g<w'.heap.size:=yM hg hI.1.size;clear hI;go_wp2_with fail;all_goals first|exact hI'|exact⟨rfl,hI'⟩|rfl
  ·intro s D w' hD _ _ hI;refine⟨s,fun _ _ _=>rfl,?_⟩;with_reducible refine yO rfl ?_
   have hI':=yH (hI.step yZ (k:=7) (by decide) (by decide) (by decide));have hg':g<w'.heap.size:=yM hg hI.1.size;clear hI;go_wp2_with fail;all_goals first|exact hI'|exact⟨rfl,hI'⟩|rfl
  ·intro s D w' hD _ _ hI;refine⟨s,fun _ _ _=>rfl,?_⟩;with_reducible refine yO rfl ?_
   have hI':=yH (hI.step yZ (k:=8) (by decide) (by decide) (by decide));have hg':g<w'.heap.size:=yM hg hI.1.size;have d0:=(H.o.blk.below hI.1 hg).cell 1;simp at d0;clear hI;go_wp2_with fail;all_goals first|exact hI'|exact⟨rfl,hI'⟩|rfl
  ·intro s D w' hD _ hC hI;have hN:D 10=false:=aF8 hC hD rfl ⟨⟨9,.data⟩,by simp,rfl,rfl⟩;have hN2:D 11=false:=aF8 hC hN rfl ⟨⟨10,.data⟩,by simp,rfl,rfl⟩;obtain⟨v',w2,hrun,how,hbel⟩:=aDk (P:=Tryz.prog) (w:=w') 42 42 71 aEv Tryz.underlying42 rfl (by decide) (by decide) base _ _ _ (aAc H.o.l hI.1) (by exact aHq ls) (by omega);refine⟨(s.1,v',s.2.2),?_,?_⟩
   ·intro j hj hDj
    match j,hj,hDj with
    | 0,_,_=>rfl
    | 1,_,_=>rfl
    | 2,_,_=>rfl
    | 3,_,_=>rfl
    | 4,_,_=>rfl
    | 5,_,_=>rfl
    | 6,_,_=>rfl
    | 7,_,_=>rfl
    | 8,_,_=>rfl
    | 9,_,h=>simp_all
    | 10,_,h=>simp_all
    | 11,_,_=>rfl
    | 12,_,_=>rfl
    | j+13,_,_=>rfl
   with_reducible refine yO rfl ?_
   refine aDt (.tmp 11) 42 rfl rfl hrun ⟨rfl,?_⟩;have hw:=hI.1.size;have hh:∀b,v'.ownBlock=some b→w.heap.size≤b:=fun b hb=>Nat.le_trans hw (aAn how hb).1
   obtain⟨q1,q2,q3,q4⟩:=hI;refine⟨q1.trans (hbel.mono q1.size),fun d=>?_,fun _=>⟨aBo how (Nat.le_trans hbase0 (Nat.le_trans (Nat.le_of_lt hg) hw)),hh⟩,fun d=>?_⟩
   ·simp[ins]at d;exact⟨aAc (q2 d).1 hbel,(q2 d).2⟩
   simp[ins,hN2]at d
  ·intro s D w' hD hW _ hI;have h4:D 4=true:=hW ⟨4,.data⟩ (by simp) rfl;have h9:D 9=true:=hW ⟨9,.data⟩ (by simp) rfl;have hI':=yH (hI.step yZ (k:=10) (by decide) (by decide) (by decide));obtain⟨v1,v2,g'⟩:=s;obtain⟨a1,c1,hv1,_⟩:=aAh (hI.2.1 h4).1;obtain⟨a2,c2,hv2,_⟩:=aAh (hI.2.2.1 h9).1;clear hI;dsimp only at hv1 hv2;subst hv1 hv2;refine⟨_,fun _ _ _=>rfl,?_⟩;with_reducible refine yO rfl ?_
   go_wp2_with fail;all_goals first|exact hI'|exact⟨rfl,hI'⟩|rfl
  ·intro s D w' hD _ hC hI;have hN:D 12=false:=aF8 hC hD rfl ⟨⟨11,.data⟩,by simp,rfl,rfl⟩;refine⟨(s.1,s.2.1,w'.heap.size),?_,?_⟩
   ·intro j hj hDj
    match j,hj,hDj with
    | 0,_,_=>rfl
    | 1,_,_=>rfl
    | 2,_,_=>rfl
    | 3,_,_=>rfl
    | 4,_,_=>rfl
    | 5,_,_=>rfl
    | 6,_,_=>rfl
    | 7,_,_=>rfl
    | 8,_,_=>rfl
    | 9,_,_=>rfl
    | 10,_,_=>rfl
    | 11,_,h=>simp_all
    | 12,_,h=>simp_all
    | j+13,_,_=>rfl
   with_reducible refine yO rfl ?_
   obtain⟨q1,q2,q3,q4⟩:=hI
   have HI':Hid (aMl w base ps ls (s.1,s.2.1,w'.heap.size) (ins 11 D) (w'.alloc (.cells #[s.1,s.2.1] 120))):=yH (by
    have hbel:=(Below.refl w'.heap.size w').alloc yL (.cells #[s.1,s.2.1] 120);refine⟨q1.alloc q1.size _,fun d=>?_,fun d=>?_,fun _=>⟨q1.size,Blk.new _ _ _⟩⟩
    ·simp[ins]at d;exact⟨aAc (q2 d).1 hbel,(q2 d).2⟩
    simp[ins]at d;exact⟨aAc (q3 d).1 hbel,(q3 d).2⟩)
   clear q1 q2 q3 q4;go_wp2_with fail;all_goals first|exact HI'|exact⟨rfl,HI'⟩|rfl
  intro s D w' hD _ _ hI;refine⟨s,fun _ _ _=>rfl,?_⟩;with_reducible refine yO rfl ?_
  have hI':=yH (hI.step yZ (k:=12) (by decide) (by decide) (by decide));have hg':g<w'.heap.size:=yM hg hI.1.size;clear hI;go_wp2_with fail;all_goals first|exact hI'|exact⟨rfl,hI'⟩|rfl
 intro s D w2 hall hI;obtain⟨q1,q2,q3,q4⟩:=hI;obtain⟨o1,m1⟩:=q2 (hall 4 (by decide));obtain⟨o2,m2⟩:=q3 (hall 9 (by decide));obtain⟨n1,n2⟩:=q4 (hall 11 (by decide));clear q2 q3 q4;dsimp only;obtain⟨v1,v2,g'⟩:=s;have E:=yH (show RefL w2 base g' ps ls v1 v2 from⟨n2,Nat.le_trans hbase0 (Nat.le_trans (Nat.le_of_lt hg) n1),o1,o2⟩);clear o1 o2 n2;go_wp2_with fail;refine bodyPost_ret (v:=.pointer (some ⟨g',0,none⟩)) (by simp[results,go_sem]) rfl ?_;exact⟨g',v1,v2,rfl,E.o,n1,m1,m2,q1⟩
end Go.Proofs.YtngnfdnfpiiclaaGreat
