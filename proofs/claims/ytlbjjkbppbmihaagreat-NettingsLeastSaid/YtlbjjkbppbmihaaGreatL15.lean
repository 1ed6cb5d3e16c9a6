/-
  Pieces of one proof, without what is not wanted: NetMath, NetSay, Lives13.
-/
import Derived.Test.YtlbjjkbppbmihaaGreatL01
import Derived.Test.YtlbjjkbppbmihaaGreatL05
import Derived.Test.YtlbjjkbppbmihaaGreatL09
import Derived.Test.YtlbjjkbppbmihaaGreatL11
import Derived.Test.YtlbjjkbppbmihaaGreatL13
import Derived.Test.YtlbjjkbppbmihaaGreatL14
set_option linter.unusedSimpArgs false
set_option linter.unusedVariables false
namespace Go.Proofs.YtlbjjkbppbmihaaGreat
def owedL (ls:List Ln) (c a b:Int):Int:=(lnAt ls b a c).db
def rowF (ls:List Ln) (c a:Int):Nat→List Fw
 | 0=>[]
 | k + 1=>rowF ls c a k++if 0<owedL ls c a ((k + 1:Nat):Int) then [⟨a,((k + 1:Nat):Int),owedL ls c a ((k + 1:Nat):Int)⟩] else []
def debtsF (ls:List Ln) (c:Int):Nat→List Fw
 | 0=>[]
 | k + 1=>debtsF ls c k++rowF ls c ((k + 1:Nat):Int) 16
def debtsL (ls:List Ln) (c:Int):List Fw:=debtsF ls c 16
theorem rowF_mem {ls:List Ln} {c a:Int} {x:Fw}:∀ {n:Nat},x ∈ rowF ls c a n↔∃ k:Nat,1≤k∧k≤n∧0<owedL ls c a k∧x=⟨a,k,owedL ls c a k⟩
 | 0=>by
  constructor
  ·intro h; cases h
  ·rintro ⟨k,h1,h2,_⟩; omega
 | n + 1=>by
  unfold rowF
  rw [List.mem_append,rowF_mem]
  constructor
  ·rintro (⟨k,h1,h2,h3⟩ | h)
   ·exact ⟨k,h1,by omega,h3⟩
   ·split at h
    ·rename_i hp
     rw [List.mem_singleton] at h
     exact ⟨n + 1,by omega,Nat.le_refl _,hp,h⟩
    ·cases h
  ·rintro ⟨k,h1,h2,h3,h4⟩
   by_cases hk:k=n + 1
   ·subst hk
    right
    rw [if_pos h3,List.mem_singleton]
    exact h4
   ·exact .inl ⟨k,h1,by omega,h3,h4⟩
theorem debtsF_mem {ls:List Ln} {c:Int} {x:Fw}:∀ {n:Nat},x ∈ debtsF ls c n↔∃ a:Nat,1≤a∧a≤n∧x ∈ rowF ls c a 16
 | 0=>by
  constructor
  ·intro h; cases h
  ·rintro ⟨k,h1,h2,_⟩; omega
 | n + 1=>by
  unfold debtsF
  rw [List.mem_append,debtsF_mem]
  constructor
  ·rintro (⟨k,h1,h2,h3⟩ | h)
   ·exact ⟨k,h1,by omega,h3⟩
   ·exact ⟨n + 1,by omega,Nat.le_refl _,h⟩
  ·rintro ⟨k,h1,h2,h3⟩
   by_cases hk:k=n + 1
   ·subst hk; exact .inr h3
   ·exact .inl ⟨k,h1,by omega,h3⟩
theorem debtsL_mem {ls:List Ln} {c:Int} {x:Fw}:x ∈ debtsL ls c↔(1≤x.fr∧x.fr≤16)∧(1≤x.tt∧x.tt≤16)∧0<x.am∧x.am=owedL ls c x.fr x.tt:=by
 unfold debtsL
 rw [debtsF_mem]
 constructor
 ·rintro ⟨a,h1,h2,h3⟩
  obtain ⟨k,h4,h5,h6,rfl⟩:=rowF_mem.1 h3
  exact ⟨by dsimp only; omega,by dsimp only; omega,h6,rfl⟩
 ·rintro ⟨h1,h2,h3,h4⟩
  refine ⟨x.fr.toNat,by omega,by omega,rowF_mem.2 ⟨x.tt.toNat,by omega,by omega,?_,?_⟩⟩
  ·rw [Int.toNat_of_nonneg (by omega),Int.toNat_of_nonneg (by omega),← h4]; exact h3
  ·rw [Int.toNat_of_nonneg (by omega),Int.toNat_of_nonneg (by omega),← h4]
theorem rowF_sorted {ls:List Ln} {c a:Int}:∀ n:Nat,(rowF ls c a n).Pairwise fun x y=>keyD x<keyD y
 | 0=>List.Pairwise.nil
 | n + 1=>by
  unfold rowF
  rw [List.pairwise_append]
  refine ⟨rowF_sorted n,by split <;> simp,fun x hx y hy=>?_⟩
  obtain ⟨k,h1,h2,_,rfl⟩:=rowF_mem.1 hx
  split at hy
  ·rw [List.mem_singleton] at hy
   subst hy
   unfold keyD
   dsimp only
   omega
  ·cases hy
theorem debtsF_sorted {ls:List Ln} {c:Int}:∀ n:Nat,(debtsF ls c n).Pairwise fun x y=>keyD x<keyD y
 | 0=>List.Pairwise.nil
 | n + 1=>by
  unfold debtsF
  rw [List.pairwise_append]
  refine ⟨debtsF_sorted n,rowF_sorted 16,fun x hx y hy=>?_⟩
  obtain ⟨a,h1,h2,h3⟩:=debtsF_mem.1 hx
  obtain ⟨k,h4,h5,_,rfl⟩:=rowF_mem.1 h3
  obtain ⟨j,h6,h7,_,rfl⟩:=rowF_mem.1 hy
  unfold keyD
  dsimp only
  omega
theorem debtsL_sorted (ls:List Ln) (c:Int):(debtsL ls c).Pairwise fun x y=>keyD x<keyD y:=debtsF_sorted 16
theorem rowF_len2 {ls:List Ln} {c:Int} {a:Nat} (ha:1≤a) (h:¬ 0<owedL ls c a a):∀ n,(rowF ls c a n).length + (if a≤n then 1 else 0)≤n
 | 0=>by rw [if_neg (by omega)]; exact Nat.le_refl _
 | n + 1=>by
  have ih:=rowF_len2 ha h n
  unfold rowF
  rw [List.length_append]
  by_cases e:a=n + 1
  ·subst e
   rw [if_neg h,List.length_nil]
   rw [if_neg (show ¬ n + 1≤n by omega)] at ih
   rw [if_pos (Nat.le_refl _)]
   omega
  ·by_cases e2:a≤n
   ·rw [if_pos e2] at ih
    rw [if_pos (show a≤n + 1 by omega)]
    split <;> simp <;> omega
   ·rw [if_neg e2] at ih
    rw [if_neg (show ¬ a≤n + 1 by omega)]
    split <;> simp <;> omega
theorem debtsF_len2 {ls:List Ln} {c:Int} (h:∀ a:Int,¬ 0<owedL ls c a a):∀ n,n≤16→(debtsF ls c n).length≤15 * n
 | 0,_=>Nat.le_refl _
 | n + 1,hn=>by
  unfold debtsF
  rw [List.length_append]
  have h1:=debtsF_len2 h n (by omega)
  have h2:=rowF_len2 (ls:=ls) (c:=c) (a:=n + 1) (by omega) (h _) 16
  rw [if_pos hn] at h2
  omega
theorem debtsL_len2 {ls:List Ln} {c:Int} (h:∀ a:Int,¬ 0<owedL ls c a a):(debtsL ls c).length≤240:=debtsF_len2 h 16 (Nat.le_refl _)
attribute [irreducible] debtsL debtsF rowF
theorem key_ext:∀ (l m:List Fw),l.Pairwise (fun x y=>keyD x<keyD y)→m.Pairwise (fun x y=>keyD x<keyD y)→(∀ x,x ∈ l↔x ∈ m)→l=m
 | [],[],_,_,_=>rfl
 | [],y::m,_,_,h=>by have:=(h y).2 List.mem_cons_self; cases this
 | x::l,[],_,_,h=>by have:=(h x).1 List.mem_cons_self; cases this
 | x::l,y::m,hl,hm,h=>by
  obtain ⟨a1,a2⟩:=List.pairwise_cons.1 hl
  obtain ⟨b1,b2⟩:=List.pairwise_cons.1 hm
  have hxy:x=y:=by
   rcases List.mem_cons.1 ((h x).1 List.mem_cons_self) with e | e
   ·exact e
   ·rcases List.mem_cons.1 ((h y).2 List.mem_cons_self) with e' | e'
    ·exact e'.symm
    ·have:=a1 y e'; have:=b1 x e; omega
  subst hxy
  rw [key_ext l m a2 b2 (fun z=>?_)]
  constructor
  ·intro hz
   rcases List.mem_cons.1 ((h z).1 (List.mem_cons_of_mem _ hz)) with e | e
   ·subst e; have:=a1 z hz; omega
   ·exact e
  ·intro hz
   rcases List.mem_cons.1 ((h z).2 (List.mem_cons_of_mem _ hz)) with e | e
   ·subst e; have:=b1 z hz; omega
   ·exact e
theorem dbt_sorted {D:List Fw} (h:D.Pairwise fun x y=>keyD x<keyD y) {i j:Nat} (hij:i<j) (hj:j<D.length):keyD (dbt D i)<keyD (dbt D j):=by
 rw [dbt_get hj,dbt_get (by omega)]
 exact List.pairwise_iff_getElem.1 h i j (by omega) hj hij
theorem owed_line {ps:List Int} {ls:List Ln} (h:LInv ps ls) {c a b:Int} (hp:0<owedL ls c a b):∃ y,lineL ls b a c=some y∧lnAt ls b a c=y∧y.Good∧y.cr=b∧y.de=a∧y.cu=c:=by
 unfold owedL at hp
 cases hl:lineL ls b a c with
 | none=>rw [lnAt_none hl] at hp; exact absurd hp (by decide)
 | some y =>
  obtain ⟨hm,h1,h2,h3⟩:=lineL_mem hl
  exact ⟨y,rfl,lnAt_some hl,h.inv.good y hm,h1,h2,h3⟩
theorem owed_self {ps:List Int} {ls:List Ln} (h:LInv ps ls) (c a:Int):¬ 0<owedL ls c a a:=fun hp=>by
 obtain ⟨y,_,_,hg,k1,k2,_⟩:=owed_line h hp
 exact hg.ne (k1.trans k2.symm)
theorem debts_len {ps:List Int} {ls:List Ln} (h:LInv ps ls) (c:Int):(debtsL ls c).length≤240:=debtsL_len2 (owed_self h c)
theorem debtsL_may {ps:List Int} {ls:List Ln} (h:LInv ps ls) (c:Int):MayD (debtsL ls c):=by
 refine ⟨fun i hi=>?_,fun i hi=>dbt_sorted (debtsL_sorted ls c) (Nat.lt_succ_self i) hi⟩
 obtain ⟨h1,h2,h3,h4⟩:=debtsL_mem.1 (dbt_mem hi)
 obtain ⟨y,_,hy,hg,k1,k2,_⟩:=owed_line h (c:=c) (by rw [← h4]; exact h3)
 have hd:=hg.db
 have hl:=hg.li
 have hn:=hg.ne
 have e:(dbt (debtsL ls c) i).am=y.db:=by rw [h4]; unfold owedL; rw [hy]
 exact ⟨h1,h2,by rw [← k1,← k2]; exact fun e=>hn e.symm,by omega,by omega⟩
theorem forgive_at {ps:List Int} {ls:List Ln} (h:LInv ps ls) {a b c n:Int} (h1:1≤n) (h2:n≤(lnAt ls a b c).db) :
  forgiveE ls a b c n=0∧(∀ a' b' c',lineL (forgiveL ls a b c n) a' b' c'=if a=a'∧b=b'∧c=c' then some ((lnAt ls a b c).owe ((lnAt ls a b c).db - n)) else lineL ls a' b' c') ∧
   (∀ p q,posL (forgiveL ls a b c n) p q=posL ls p q + if q=c then (if b=p then n else 0) - (if a=p then n else 0) else 0)∧(∀ q,totL (forgiveL ls a b c n) q=totL ls q - if q=c then n else 0):=by
 cases hl:lineL ls a b c with
 | none=>rw [lnAt_none hl] at h2; exact absurd h2 (by unfold noLn; dsimp only; omega)
 | some x =>
  rw [lnAt_some hl] at h2
  have hE:forgiveE ls a b c n=0:=by
   unfold forgiveE
   rw [if_neg (by omega),if_neg (by rw [hl]; simp),lnAt_some hl,if_neg (by omega)]
  obtain ⟨hm,k1,k2,k3⟩:=lineL_mem hl
  have hg:=h.inv.good x hm
  have hdb:=hg.db
  obtain ⟨_,f,s,_⟩:=owe_set h.inv hl (d:=x.db - n) (by omega) (by omega)
  have hF:forgiveL ls a b c n=setL ls (x.owe (x.db - n)):=by
   unfold forgiveL
   rw [if_pos hE,lnAt_some hl]
  refine ⟨hE,?_,fun p q=>?_,fun q=>?_⟩
  ·rw [hF,lnAt_some hl]; exact f
  ·rw [hF]
   unfold posL
   rw [s (posOf p q) (posOf_noLn p q)]
   unfold posOf Ln.owe
   simp only [k1,k2,k3]
   by_cases hq:c=q
   ·subst hq
    simp only [if_true]
    (repeat' split) <;> omega
   ·rw [if_neg hq,if_neg hq,if_neg (fun e=>hq e.symm)]
    omega
  ·rw [hF]
   unfold totL
   rw [s (totOf q) (by unfold totOf noLn; simp)]
   unfold totOf Ln.owe
   simp only [k3]
   by_cases hq:c=q
   ·subst hq
    simp only [if_true]
    omega
   ·rw [if_neg hq,if_neg hq,if_neg (fun e=>hq e.symm)]
    omega
theorem forgive_none {ls:List Ln} {a b c n:Int} (h:n<1):forgiveL ls a b c n=ls:=by
 unfold forgiveL forgiveE
 rw [if_pos h,if_neg (by decide)]
def netTo (ls:List Ln) (c:Int) (D:List Fw) (L:Nat→Int):Nat→List Ln
 | 0=>ls
 | k + 1=>forgiveL (netTo ls c D L k) (dbt D k).tt (dbt D k).fr c ((dbt D k).am - L k)
def netL (ls:List Ln) (c:Int) (L:Nat→Int):List Ln:=netTo ls c (debtsL ls c) L (debtsL ls c).length
theorem netTo_inv {ps:List Int} {ls:List Ln} (h:LInv ps ls) (c:Int) (D:List Fw) (L:Nat→Int):∀ k,LInv ps (netTo ls c D L k)
 | 0=>h
 | k + 1=>(netTo_inv h c D L k).forgive _ _ _ _
structure NetTo (ls:List Ln) (c:Int) (D:List Fw) (L:Nat→Int) (k:Nat) (ms:List Ln):Prop where
 here:∀ i,i<k→lineL ms (dbt D i).tt (dbt D i).fr c=(lineL ls (dbt D i).tt (dbt D i).fr c).map (fun x=>x.owe (L i))
 else_:∀ a b q,(∀ i,i<k→¬ (q=c∧(dbt D i).tt=a∧(dbt D i).fr=b))→lineL ms a b q=lineL ls a b q
 pos:∀ p q,posL ms p q=posL ls p q - if q=c then sumN (fun i=>psD D p i ((dbt D i).am - L i)) k else 0
 tot:∀ q,totL ms q=totL ls q - if q=c then sumN (fun i=>(dbt D i).am - L i) k else 0
theorem owe_same {x:Ln} {d:Int} (h:x.db=d):x.owe d=x:=by subst h; rfl
set_option maxHeartbeats 4000000 in
theorem net_to {ps:List Int} {ls:List Ln} (h:LInv ps ls) (c:Int) {L:Nat→Int} (hL:RdOk (debtsL ls c) L):∀ k,k≤(debtsL ls c).length→NetTo ls c (debtsL ls c) L k (netTo ls c (debtsL ls c) L k)
 | 0,_=>⟨fun i hi=>by omega,fun _ _ _ _=>rfl,fun p q=>by simp [sumN,netTo],fun q=>by simp [sumN,netTo]⟩
 | k + 1,hk=>by
  have ih:=net_to h c hL k (by omega)
  have hI:=netTo_inv h c (debtsL ls c) L k
  have hkl:k<(debtsL ls c).length:=by omega
  obtain ⟨d1,d2,d3,d4⟩:=debtsL_mem.1 (dbt_mem hkl)
  obtain ⟨y,hy,hya,hg,y1,y2,y3⟩:=owed_line h (c:=c) (by rw [← d4]; exact d3)
  have hM:=debtsL_may h c
  have hnew:∀ i,i<k→¬ ((dbt (debtsL ls c) i).tt=(dbt (debtsL ls c) k).tt∧(dbt (debtsL ls c) i).fr=(dbt (debtsL ls c) k).fr):=fun i hi e=>by
   have:=hM.inj (show i<(debtsL ls c).length by omega) hkl e.2 e.1
   omega
  have hold:lineL (netTo ls c (debtsL ls c) L k) (dbt (debtsL ls c) k).tt (dbt (debtsL ls c) k).fr c=some y:=by
   rw [ih.else_ _ _ _ (fun i hi e=>hnew i hi e.2),hy]
  have ham:(dbt (debtsL ls c) k).am=y.db:=by rw [d4]; unfold owedL; rw [hya]
  have lo:=hL.lo k hkl
  have hi_:=hL.hi k hkl
  show NetTo ls c (debtsL ls c) L (k + 1) (forgiveL (netTo ls c (debtsL ls c) L k) (dbt (debtsL ls c) k).tt (dbt (debtsL ls c) k).fr c ((dbt (debtsL ls c) k).am - L k))
  by_cases hz:(dbt (debtsL ls c) k).am - L k<1
  ·rw [forgive_none hz]
   have he:(dbt (debtsL ls c) k).am - L k=0:=by omega
   refine ⟨fun i hi=>?_,fun a b q hn=>ih.else_ a b q (fun i hi=>hn i (by omega)),fun p q=>?_,fun q=>?_⟩
   ·by_cases hik:i=k
    ·subst hik
     rw [hold,hy]
     simp only [Option.map_some]
     rw [owe_same (by omega)]
    ·exact ih.here i (by omega)
   ·rw [ih.pos p q]
    congr 1
    split
    ·rw [sumN_next,he]
     unfold psD
     simp
    ·rfl
   ·rw [ih.tot q]
    congr 1
    split
    ·rw [sumN_next,he]
     omega
    ·rfl
  ·obtain ⟨_,f,s1,s2⟩:=forgive_at hI (a:=(dbt (debtsL ls c) k).tt) (b:=(dbt (debtsL ls c) k).fr) (c:=c) (n:=(dbt (debtsL ls c) k).am - L k) (by omega) (by rw [lnAt_some hold]; omega)
   rw [lnAt_some hold] at f
   refine ⟨fun i hi=>?_,fun a b q hn=>?_,fun p q=>?_,fun q=>?_⟩
   ·rw [f]
    by_cases hik:i=k
    ·subst hik
     rw [if_pos ⟨rfl,rfl,rfl⟩,hy]
     simp only [Option.map_some]
     congr 2
     omega
    ·rw [if_neg (fun e=>hnew i (by omega) ⟨e.1.symm,e.2.1.symm⟩)]
     exact ih.here i (by omega)
   ·rw [f,if_neg (fun e=>hn k (by omega) ⟨e.2.2.symm,e.1,e.2.1⟩)]
    exact ih.else_ a b q (fun i hi=>hn i (by omega))
   ·rw [s1 p q,ih.pos p q]
    split
    ·rw [sumN_next]
     unfold psD
     omega
    ·omega
   ·rw [s2 q,ih.tot q]
    split
    ·rw [sumN_next]
     omega
    ·omega
theorem net_is {ps:List Int} {ls:List Ln} (h:LInv ps ls) (c:Int) {L:Nat→Int} (hL:RdOk (debtsL ls c) L):NetTo ls c (debtsL ls c) L (debtsL ls c).length (netL ls c L):=net_to h c hL _ (Nat.le_refl _)
theorem netL_inv {ps:List Int} {ls:List Ln} (h:LInv ps ls) (c:Int) (L:Nat→Int):LInv ps (netL ls c L):=netTo_inv h c _ L _
theorem debt_of {ps:List Int} {ls:List Ln} (h:LInv ps ls) {c a b:Int} (hp:0<owedL ls c a b):∃ i,i<(debtsL ls c).length∧dbt (debtsL ls c) i=⟨a,b,owedL ls c a b⟩:=by
 obtain ⟨y,hl,_,hg,k1,k2,_⟩:=owed_line h hp
 have h1:=hg.cr
 have h2:=hg.de
 rw [k1] at h1
 rw [k2] at h2
 exact mem_dbt (show (⟨a,b,owedL ls c a b⟩:Fw) ∈ debtsL ls c from debtsL_mem.2 ⟨h2,h1,hp,rfl⟩)
theorem owed_nn {ps:List Int} {ls:List Ln} (h:LInv ps ls) (c a b:Int):0≤owedL ls c a b:=(lnAt_bd h.inv.good b a c).1
theorem net_owed {ps:List Int} {ls:List Ln} (h:LInv ps ls) (c:Int) {L:Nat→Int} (hL:RdOk (debtsL ls c) L) :
  (∀ i,i<(debtsL ls c).length→owedL (netL ls c L) c (dbt (debtsL ls c) i).fr (dbt (debtsL ls c) i).tt=L i)∧(∀ a b q,(∀ i,i<(debtsL ls c).length→¬ (q=c∧(dbt (debtsL ls c) i).tt=b∧(dbt (debtsL ls c) i).fr=a))→owedL (netL ls c L) q a b=owedL ls q a b):=by
 have N:=net_is h c hL
 refine ⟨fun i hi=>?_,fun a b q hn=>?_⟩
 ·obtain ⟨d1,d2,d3,d4⟩:=debtsL_mem.1 (dbt_mem hi)
  obtain ⟨y,hy,_⟩:=owed_line h (c:=c) (by rw [← d4]; exact d3)
  have e:=N.here i hi
  rw [hy] at e
  unfold owedL
  rw [lnAt_some e]
  rfl
 ·unfold owedL lnAt
  rw [N.else_ b a q hn]
theorem net_debts {ps:List Int} {ls:List Ln} (h:LInv ps ls) (c:Int) {L:Nat→Int} (hL:RdOk (debtsL ls c) L):debtsL (netL ls c L) c=leftL (debtsL ls c) L:=by
 obtain ⟨n1,n2⟩:=net_owed h c hL
 refine key_ext _ _ (debtsL_sorted _ _) (leftN_sorted (debtsL_may h c) L _ (Nat.le_refl _)) (fun x=>?_)
 rw [debtsL_mem]
 show _↔x ∈ leftN (debtsL ls c) L (debtsL ls c).length
 rw [leftN_mem]
 constructor
 ·rintro ⟨h1,h2,h3,h4⟩
  by_cases hp:∃ i,i<(debtsL ls c).length∧(dbt (debtsL ls c) i).tt=x.tt∧(dbt (debtsL ls c) i).fr=x.fr
  ·obtain ⟨i,hi,e1,e2⟩:=hp
   have e:=n1 i hi
   rw [e1,e2,← h4] at e
   exact ⟨i,hi,by omega,by cases x; simp_all⟩
  ·rw [n2 _ _ _ (fun i hi e=>hp ⟨i,hi,e.2⟩)] at h4
   obtain ⟨i,hi,e⟩:=debt_of h (c:=c) (a:=x.fr) (b:=x.tt) (by rw [← h4]; exact h3)
   exact absurd ⟨i,hi,by rw [e],by rw [e]⟩ hp
 ·rintro ⟨i,hi,hp,rfl⟩
  obtain ⟨d1,d2,d3,d4⟩:=debtsL_mem.1 (dbt_mem hi)
  exact ⟨d1,d2,hp,(n1 i hi).symm⟩
theorem debtsF_congr {ls ms:List Ln} {c:Int} (h:∀ a b,owedL ls c a b=owedL ms c a b):debtsL ls c=debtsL ms c:=by
 refine key_ext _ _ (debtsL_sorted _ _) (debtsL_sorted _ _) (fun x=>?_)
 rw [debtsL_mem,debtsL_mem,h]
theorem net_else {ps:List Int} {ls:List Ln} (h:LInv ps ls) (c:Int) {L:Nat→Int} (hL:RdOk (debtsL ls c) L) {q:Int} (hq:q≠c):debtsL (netL ls c L) q=debtsL ls q :=
 debtsF_congr (fun a b=>(net_owed h c hL).2 a b q (fun i hi e=>hq e.1))
theorem sum_none {ls:List Ln} (f:Ln→Int) (h:∀ x ∈ ls,f x=0):(ls.map f).sum=0:=by
 induction ls with
 | nil=>rfl
 | cons x l ih=>rw [List.map_cons,List.sum_cons,h x List.mem_cons_self,ih (fun y hy=>h y (List.mem_cons_of_mem _ hy))]; rfl
theorem RdOk.zero (D:List Fw) (hM:MayD D):RdOk D (fun _=>0):=⟨fun _ _=>Int.le_refl _,fun i hi=>by have:=(hM.ok i hi).2.2.2.1; omega⟩
theorem debts_tot {ps:List Int} {ls:List Ln} (h:LInv ps ls) (c:Int):sumN (amD (debtsL ls c)) (debtsL ls c).length=totL ls c∧∀ p,posD (debtsL ls c) (amD (debtsL ls c)) p=posL ls p c:=by
 have hZ:=RdOk.zero (debtsL ls c) (debtsL_may h c)
 have N:=net_is h c hZ
 have hI:=netL_inv h c (fun _=>0)
 have hz:∀ x ∈ netL ls c (fun _=>0),x.cu=c→x.db=0:=fun x hx hc=>by
  have hl:=(line_iff hI.inv x.cr x.de x.cu x).2 ⟨hx,rfl,rfl,rfl⟩
  rw [hc] at hl
  have e:owedL (netL ls c fun _=>0) c x.de x.cr=x.db:=by unfold owedL; rw [lnAt_some hl]
  rw [← e]
  by_cases hp:∃ i,i<(debtsL ls c).length∧(dbt (debtsL ls c) i).tt=x.cr∧(dbt (debtsL ls c) i).fr=x.de
  ·obtain ⟨i,hi,e1,e2⟩:=hp
   rw [← e1,← e2]
   exact (net_owed h c hZ).1 i hi
  ·rw [(net_owed h c hZ).2 _ _ _ (fun i hi e=>hp ⟨i,hi,e.2⟩)]
   refine Classical.byContradiction fun hne=>hp ?_
   have:=owed_nn h c x.de x.cr
   obtain ⟨i,hi,e⟩:=debt_of h (c:=c) (a:=x.de) (b:=x.cr) (by omega)
   exact ⟨i,hi,by rw [e],by rw [e]⟩
 constructor
 ·have e:=N.tot c
  rw [if_pos rfl] at e
  have e0:totL (netL ls c fun _=>0) c=0:=sum_none _ (fun x hx=>by
   unfold totOf
   split
   ·rename_i hc; exact hz x hx hc
   ·rfl)
  rw [e0] at e
  have e2:sumN (fun i=>(dbt (debtsL ls c) i).am - 0) (debtsL ls c).length=sumN (amD (debtsL ls c)) (debtsL ls c).length:=sumN_congr _ (fun i _=>by show _ - 0=(dbt (debtsL ls c) i).am; omega)
  rw [e2] at e
  omega
 ·intro p
  have e:=N.pos p c
  rw [if_pos rfl] at e
  have e0:posL (netL ls c fun _=>0) p c=0:=sum_none _ (fun x hx=>by
   unfold posOf
   split
   ·rename_i hc; rw [hz x hx hc]; simp
   ·rfl)
  rw [e0] at e
  have e2:sumN (fun i=>psD (debtsL ls c) p i ((dbt (debtsL ls c) i).am - 0)) (debtsL ls c).length=posD (debtsL ls c) (amD (debtsL ls c)) p:=by
   unfold posD
   exact sumN_congr _ (fun i _=>by show psD _ p i (_ - 0)=psD _ p i (dbt (debtsL ls c) i).am; rw [Int.sub_zero])
  rw [e2] at e
  omega
theorem psD_sub (D:List Fw) (p:Int) (i:Nat) (m n:Int):psD D p i (m - n)=psD D p i m - psD D p i n:=by unfold psD; split <;> split <;> omega
theorem sumN_sub (f g:Nat→Int):∀ n,sumN (fun i=>f i - g i) n=sumN f n - sumN g n
 | 0=>rfl
 | n + 1=>by
  show sumN _ n + (f n - g n)=sumN f n + f n - (sumN g n + g n)
  rw [sumN_sub f g n]
  omega
theorem net_pos {ps:List Int} {ls:List Ln} (h:LInv ps ls) (c:Int) {L:Nat→Int} (hL:RdOk (debtsL ls c) L) (hp:∀ p,posD (debtsL ls c) L p=posD (debtsL ls c) (amD (debtsL ls c)) p) (p q:Int):posL (netL ls c L) p q=posL ls p q:=by
 rw [(net_is h c hL).pos p q]
 split
 ·have e:sumN (fun i=>psD (debtsL ls c) p i ((dbt (debtsL ls c) i).am - L i)) (debtsL ls c).length=posD (debtsL ls c) (amD (debtsL ls c)) p - posD (debtsL ls c) L p:=by
   unfold posD
   rw [← sumN_sub]
   exact sumN_congr _ (fun i _=>psD_sub _ _ _ _ _)
  rw [e,hp p]
  omega
 ·omega
theorem net_tot {ps:List Int} {ls:List Ln} (h:LInv ps ls) (c:Int) {L:Nat→Int} (hL:RdOk (debtsL ls c) L):totL (netL ls c L) c=sumN L (debtsL ls c).length:=by
 rw [(net_is h c hL).tot c,if_pos rfl,sumN_sub,← (debts_tot h c).1]
 show sumN (amD (debtsL ls c)) _ - (sumN (amD (debtsL ls c)) _ - sumN L _)=_
 omega
end Go.Proofs.YtlbjjkbppbmihaaGreat
namespace Go.Proofs.YtlbjjkbppbmihaaGreat
open Go.RowKit
def DebtsBy (g:Nat) (w:World) (ao:Option Addr) (l:List Fw):Prop :=
 0<l.length→∃ b off,ao=some ⟨b,off,none⟩∧b<w.heap.size∧b≠g∧∀ m,m<l.length→w.cell? ⟨b,off + m * 3,none⟩=some (.int .u8 (dbt l m).fr)∧w.cell? ⟨b,off + m * 3 + 1,none⟩=some (.int .u8 (dbt l m).tt)∧w.cell? ⟨b,off + m * 3 + 2,none⟩=some (.int .i64 (dbt l m).am)
theorem DebtsBy.keep {g:Nat} {w w':World} {ao:Option Addr} {l:List Fw} (h:DebtsBy g w ao l) (k:Keep (·=g) w w'):DebtsBy g w' ao l:=fun h0=>by
 obtain ⟨b,off,h1,h2,h3,h4⟩:=h h0
 refine ⟨b,off,h1,Nat.lt_of_lt_of_le h2 k.size,h3,fun m hm=>?_⟩
 obtain ⟨a1,a2,a3⟩:=h4 m hm
 exact ⟨(k.cell (p:=⟨b,off + m * 3,none⟩) h2 h3).trans a1,(k.cell (p:=⟨b,off + m * 3 + 1,none⟩) h2 h3).trans a2,(k.cell (p:=⟨b,off + m * 3 + 2,none⟩) h2 h3).trans a3⟩
theorem DebtsBy.ins {g:Nat} {w:World} {ao:Option Addr} {l:List Fw} (h:DebtsBy g w ao l):DebtsIn w ao l:=fun h0=>by
 obtain ⟨b,off,h1,h2,_,h4⟩:=h h0
 exact ⟨b,off,h1,h2,h4⟩
theorem DebtsBy.rowed {w:World} {base g ca:Nat} {e:TypeId} {ao:Option Addr} {l:List Fw} (h:Rowed w base e 3 (.slice ao l.length ca) l.length (fwCells l)) (hl:l.length≤100000000) (hg:g<base):DebtsBy g w ao l:=fun h0=>by
 obtain ⟨b,off,h1,h2,h3⟩:=reads_debts (h.reads hl) h0
 refine ⟨b,off,h1,h2,?_,h3⟩
 obtain ⟨_,hh⟩:=h
 rcases hh with ⟨hv,hn⟩ | ⟨b',cur,hv,hb,_⟩
 ·omega
 ·subst h1
  cases hv
  omega
def NetAns (ls:List Ln) (c q:Int) (gone many er:Int) (ms:List Ln):Prop :=
 (¬ ((1≤c∧c≤8)∧0≤q)∧gone=0∧many=0∧er=1∧ms=ls) ∨
 ((1≤c∧c≤8)∧0≤q∧∃ L k,IsLeast (debtsL ls c) L k∧(((k:Int)≤q∧gone=totL ls c - totL (netL ls c L) c∧many=k∧er=0∧ms=netL ls c L)∨(q<(k:Int)∧gone=0∧many=0∧er=13∧ms=ls)))
theorem NetAns.eq {ls:List Ln} {c q g1 m1 e1 g2 m2 e2:Int} {s1 s2:List Ln} (h:NetAns ls c q g1 m1 e1 s1) (k:NetAns ls c q g2 m2 e2 s2):g1=g2∧m1=m2∧e1=e2∧s1=s2:=by
 rcases h with ⟨a,rfl,rfl,rfl,rfl⟩ | ⟨a1,a2,L,j,hL,h⟩
 ·rcases k with ⟨_,rfl,rfl,rfl,rfl⟩ | ⟨b1,b2,_⟩
  ·exact ⟨rfl,rfl,rfl,rfl⟩
  ·exact absurd ⟨b1,b2⟩ a
 ·rcases k with ⟨b,_⟩ | ⟨_,_,M,i,hM,k⟩
  ·exact absurd ⟨a1,a2⟩ b
  ·obtain ⟨rfl,rfl⟩:=hL.eq hM
   rcases h with ⟨h0,rfl,rfl,rfl,rfl⟩ | ⟨h0,rfl,rfl,rfl,rfl⟩
   ·rcases k with ⟨_,rfl,rfl,rfl,rfl⟩ | ⟨k0,_⟩
    ·exact ⟨rfl,rfl,rfl,rfl⟩
    ·omega
   ·rcases k with ⟨k0,_⟩ | ⟨_,rfl,rfl,rfl,rfl⟩
    ·omega
    ·exact ⟨rfl,rfl,rfl,rfl⟩
structure DebtsProg:Prop where
 at_:∀ {w:World} {G M:Nat} {ps:List Int} {ls:List Ln},LedM w G M ps ls→LInv ps ls→∀ c:Int,In8 c →
  Calls Tryz.prog 9 #[.pointer (some ⟨G,0,none⟩),.int .u8 c] w (ListPost w 62 3 (debtsL ls c).length (fwCells (debtsL ls c)))
structure NetProg:Prop where
 at_:∀ {w:World} {G M:Nat} {ps:List Int} {ls:List Ln},LedM w G M ps ls→LInv ps ls→∀ c q:Int,In8 c→In64 q →
  Calls Tryz.prog 13 #[.pointer (some ⟨G,0,none⟩),.int .u8 c,.int .i64 q] w fun e w'=>∃ gone many er ms,NetAns ls c q gone many er ms∧e=.returned (.tuple #[.int .i64 gone,.int .i64 many,.int .i64 er])∧LedM w' G M ps ms∧Keep (·=M) w w'
end Go.Proofs.YtlbjjkbppbmihaaGreat
namespace Go.Proofs.YtlbjjkbppbmihaaGreat
open Go.RowKit
def p13:List Int:=[1,2,3]
def l13:List Ln:=[⟨1,3,6,9,4⟩,⟨2,1,6,9,5⟩,⟨3,2,6,9,3⟩]
def L13:Nat→Int:=nextD lvD (amD lvD)
def m13:List Ln:=netL l13 6 L13
theorem d13:debtsL l13 6=lvD:=by decide +kernel
theorem t13:totL l13 6=12∧sumN L13 3=3:=by decide +kernel
theorem lv13_least:IsLeast (debtsL l13 6) L13 1:=by rw [d13]; exact lvD_least.1
theorem lv13_ok:RdOk (debtsL l13 6) L13:=lv13_least.inv.ok
theorem e13 (h:LInv p13 l13):debtsL m13 6=lvL:=by
 have:=net_debts h 6 lv13_ok
 rw [d13] at this
 exact this.trans lvD_least.2
theorem u13 (h:LInv p13 l13):totL m13 6=3:=by
 have:=net_tot h 6 lv13_ok
 rw [d13] at this
 exact this.trans t13.2
theorem lv13_a:NetAns l13 6 0 0 0 13 l13:=.inr ⟨by decide,by decide,L13,1,lv13_least,.inr ⟨by decide,rfl,rfl,rfl,rfl⟩⟩
theorem lv13_b (h:LInv p13 l13):NetAns l13 6 1 9 1 0 m13:=.inr ⟨by decide,by decide,L13,1,lv13_least,.inl ⟨by decide,by
 show 9=totL l13 6 - totL m13 6
 rw [u13 h,t13.1]
 rfl,rfl,rfl,rfl⟩⟩
theorem lv13_c (h:LInv p13 l13):∃ ms,NetAns m13 6 0 0 0 0 ms:=by
 have hm:LInv p13 m13:=netL_inv h 6 L13
 have hL:IsLeast (debtsL m13 6) (amD (debtsL m13 6)) 0:=by
  rw [show debtsL m13 6=leftL (debtsL l13 6) L13 from net_debts h 6 lv13_ok]
  exact left_done (debtsL_may h 6) lv13_least
 refine ⟨_,.inr ⟨by decide,by decide,_,0,hL,.inl ⟨by decide,?_,rfl,rfl,rfl⟩⟩⟩
 have h1:=net_tot hm 6 hL.inv.ok
 have h2:=(debts_tot hm 6).1
 omega
def Lives13:Prop:=∀ w,Calls Tryz.prog 5 #[] w fun e w'=>e=.returned (.bool true)∧Below w.heap.size w w'
set_option maxHeartbeats 16000000 in
set_option maxRecDepth 100000 in
theorem lives13_any (HD:DebtsProg) (HN:NetProg):Lives13:=fun w=>by
 have HDo:=Lib.hid HD
 have HNo:=Lib.hid HN
 clear HD HN
 go_enter Tryz.func5,Tryz.ntmps5
 go_wp2_with fail
 refine (new_any w).mono ?_
 rintro e w0 ⟨G,M,rfl,h0,hG,hM,hb0⟩
 have H0:=Lib.hid h0
 have B0:=Lib.hid hb0
 have I0:=Lib.hid LInv.nil
 clear h0 hb0
 have c1:=Lib.hid (open_any H0.out I0.out.bd 1)
 rw [show openE [] 1=0 by decide,show openP [] 1=[1] by decide] at c1
 have I1:Hid (LInv [1] []):=Lib.hid (by have:=LInv.open I0.out 1; rwa [show openP [] 1=[1] by decide] at this)
 go_wp2_with fail
 refine c1.out.mono ?_
 rintro e w1 ⟨rfl,h1,k1⟩
 have H1:=Lib.hid h1
 have B1:=Lib.hid (B0.out.trans (k1.below B0.out.size (fun b hb e=>by omega)))
 clear h1 k1 c1 H0 B0 I0
 have c2:=Lib.hid (open_any H1.out I1.out.bd 2)
 rw [show openE [1] 2=0 by decide,show openP [1] 2=[1,2] by decide] at c2
 have I2:Hid (LInv [1,2] []):=Lib.hid (by have:=LInv.open I1.out 2; rwa [show openP [1] 2=[1,2] by decide] at this)
 go_wp2_with fail
 refine c2.out.mono ?_
 rintro e w2 ⟨rfl,h2,k2⟩
 have H2:=Lib.hid h2
 have B2:=Lib.hid (B1.out.trans (k2.below B1.out.size (fun b hb e=>by omega)))
 clear h2 k2 c2 H1 B1 I1
 have c3:=Lib.hid (open_any H2.out I2.out.bd 3)
 rw [show openE [1,2] 3=0 by decide,show openP [1,2] 3=[1,2,3] by decide] at c3
 have I3:Hid (LInv [1,2,3] []):=Lib.hid (by have:=LInv.open I2.out 3; rwa [show openP [1,2] 3=[1,2,3] by decide] at this)
 go_wp2_with fail
 refine c3.out.mono ?_
 rintro e w3 ⟨rfl,h3,k3⟩
 have H3:=Lib.hid h3
 have B3:=Lib.hid (B2.out.trans (k3.below B2.out.size (fun b hb e=>by omega)))
 clear h3 k3 c3 H2 B2 I2
 have c4:=Lib.hid (ptrust_any (a:=2) (b:=1) (c:=6) (n:=9) H3.out I3.out (by unfold In8; decide) (by unfold In8; decide) (by unfold In8; decide))
 rw [show trustE [1,2,3] [] 2 1 6 9=0 by decide,show trustL [1,2,3] [] 2 1 6 9=[⟨2,1,6,9,0⟩] by decide] at c4
 have I4:Hid (LInv [1,2,3] [⟨2,1,6,9,0⟩]):=Lib.hid (by have:=LInv.trust I3.out 2 1 6 9; rwa [show trustL [1,2,3] [] 2 1 6 9=[⟨2,1,6,9,0⟩] by decide] at this)
 go_wp2_with fail
 refine c4.out.mono ?_
 rintro e w4 ⟨rfl,h4,k4⟩
 have H4:=Lib.hid h4
 have B4:=Lib.hid (B3.out.trans (k4.below B3.out.size (fun b hb e=>by omega)))
 clear h4 k4 c4 H3 B3 I3
 have c5:=Lib.hid (ptrust_any (a:=3) (b:=2) (c:=6) (n:=9) H4.out I4.out (by unfold In8; decide) (by unfold In8; decide) (by unfold In8; decide))
 rw [show trustE [1,2,3] [⟨2,1,6,9,0⟩] 3 2 6 9=0 by decide,show trustL [1,2,3] [⟨2,1,6,9,0⟩] 3 2 6 9=[⟨2,1,6,9,0⟩,⟨3,2,6,9,0⟩] by decide] at c5
 have I5:Hid (LInv [1,2,3] [⟨2,1,6,9,0⟩,⟨3,2,6,9,0⟩]):=Lib.hid (by have:=LInv.trust I4.out 3 2 6 9; rwa [show trustL [1,2,3] [⟨2,1,6,9,0⟩] 3 2 6 9=[⟨2,1,6,9,0⟩,⟨3,2,6,9,0⟩] by decide] at this)
 go_wp2_with fail
 refine c5.out.mono ?_
 rintro e w5 ⟨rfl,h5,k5⟩
 have H5:=Lib.hid h5
 have B5:=Lib.hid (B4.out.trans (k5.below B4.out.size (fun b hb e=>by omega)))
 clear h5 k5 c5 H4 B4 I4
 have c6:=Lib.hid (ptrust_any (a:=1) (b:=3) (c:=6) (n:=9) H5.out I5.out (by unfold In8; decide) (by unfold In8; decide) (by unfold In8; decide))
 rw [show trustE [1,2,3] [⟨2,1,6,9,0⟩,⟨3,2,6,9,0⟩] 1 3 6 9=0 by decide,show trustL [1,2,3] [⟨2,1,6,9,0⟩,⟨3,2,6,9,0⟩] 1 3 6 9=[⟨1,3,6,9,0⟩,⟨2,1,6,9,0⟩,⟨3,2,6,9,0⟩] by decide] at c6
 have I6:Hid (LInv [1,2,3] [⟨1,3,6,9,0⟩,⟨2,1,6,9,0⟩,⟨3,2,6,9,0⟩]):=Lib.hid (by have:=LInv.trust I5.out 1 3 6 9; rwa [show trustL [1,2,3] [⟨2,1,6,9,0⟩,⟨3,2,6,9,0⟩] 1 3 6 9=[⟨1,3,6,9,0⟩,⟨2,1,6,9,0⟩,⟨3,2,6,9,0⟩] by decide] at this)
 go_wp2_with fail
 refine c6.out.mono ?_
 rintro e w6 ⟨rfl,h6,k6⟩
 have H6:=Lib.hid h6
 have B6:=Lib.hid (B5.out.trans (k6.below B5.out.size (fun b hb e=>by omega)))
 clear h6 k6 c6 H5 B5 I5
 have c7:=Lib.hid (ppush_any (a:=1) (b:=2) (c:=6) (n:=5) H6.out I6.out (by unfold In8; decide) (by unfold In8; decide) (by unfold In8; decide) (by unfold In64; decide))
 rw [show pushE [1,2,3] [⟨1,3,6,9,0⟩,⟨2,1,6,9,0⟩,⟨3,2,6,9,0⟩] 1 2 6 5=0 by decide,show pushL [1,2,3] [⟨1,3,6,9,0⟩,⟨2,1,6,9,0⟩,⟨3,2,6,9,0⟩] 1 2 6 5=[⟨1,3,6,9,0⟩,⟨2,1,6,9,5⟩,⟨3,2,6,9,0⟩] by decide] at c7
 have I7:Hid (LInv [1,2,3] [⟨1,3,6,9,0⟩,⟨2,1,6,9,5⟩,⟨3,2,6,9,0⟩]):=Lib.hid (by have:=LInv.push I6.out 1 2 6 5; rwa [show pushL [1,2,3] [⟨1,3,6,9,0⟩,⟨2,1,6,9,0⟩,⟨3,2,6,9,0⟩] 1 2 6 5=[⟨1,3,6,9,0⟩,⟨2,1,6,9,5⟩,⟨3,2,6,9,0⟩] by decide] at this)
 go_wp2_with fail
 refine c7.out.mono ?_
 rintro e w7 ⟨rfl,h7,k7⟩
 have H7:=Lib.hid h7
 have B7:=Lib.hid (B6.out.trans (k7.below B6.out.size (fun b hb e=>by omega)))
 clear h7 k7 c7 H6 B6 I6
 have c8:=Lib.hid (ppush_any (a:=2) (b:=3) (c:=6) (n:=3) H7.out I7.out (by unfold In8; decide) (by unfold In8; decide) (by unfold In8; decide) (by unfold In64; decide))
 rw [show pushE [1,2,3] [⟨1,3,6,9,0⟩,⟨2,1,6,9,5⟩,⟨3,2,6,9,0⟩] 2 3 6 3=0 by decide,show pushL [1,2,3] [⟨1,3,6,9,0⟩,⟨2,1,6,9,5⟩,⟨3,2,6,9,0⟩] 2 3 6 3=[⟨1,3,6,9,0⟩,⟨2,1,6,9,5⟩,⟨3,2,6,9,3⟩] by decide] at c8
 have I8:Hid (LInv [1,2,3] [⟨1,3,6,9,0⟩,⟨2,1,6,9,5⟩,⟨3,2,6,9,3⟩]):=Lib.hid (by have:=LInv.push I7.out 2 3 6 3; rwa [show pushL [1,2,3] [⟨1,3,6,9,0⟩,⟨2,1,6,9,5⟩,⟨3,2,6,9,0⟩] 2 3 6 3=[⟨1,3,6,9,0⟩,⟨2,1,6,9,5⟩,⟨3,2,6,9,3⟩] by decide] at this)
 go_wp2_with fail
 refine c8.out.mono ?_
 rintro e w8 ⟨rfl,h8,k8⟩
 have H8:=Lib.hid h8
 have B8:=Lib.hid (B7.out.trans (k8.below B7.out.size (fun b hb e=>by omega)))
 clear h8 k8 c8 H7 B7 I7
 have c9:=Lib.hid (ppush_any (a:=3) (b:=1) (c:=6) (n:=4) H8.out I8.out (by unfold In8; decide) (by unfold In8; decide) (by unfold In8; decide) (by unfold In64; decide))
 rw [show pushE [1,2,3] [⟨1,3,6,9,0⟩,⟨2,1,6,9,5⟩,⟨3,2,6,9,3⟩] 3 1 6 4=0 by decide,show pushL [1,2,3] [⟨1,3,6,9,0⟩,⟨2,1,6,9,5⟩,⟨3,2,6,9,3⟩] 3 1 6 4=[⟨1,3,6,9,4⟩,⟨2,1,6,9,5⟩,⟨3,2,6,9,3⟩] by decide] at c9
 have I9:Hid (LInv [1,2,3] [⟨1,3,6,9,4⟩,⟨2,1,6,9,5⟩,⟨3,2,6,9,3⟩]):=Lib.hid (by have:=LInv.push I8.out 3 1 6 4; rwa [show pushL [1,2,3] [⟨1,3,6,9,0⟩,⟨2,1,6,9,5⟩,⟨3,2,6,9,3⟩] 3 1 6 4=[⟨1,3,6,9,4⟩,⟨2,1,6,9,5⟩,⟨3,2,6,9,3⟩] by decide] at this)
 go_wp2_with fail
 refine c9.out.mono ?_
 rintro e w9 ⟨rfl,h9,k9⟩
 have H9:=Lib.hid h9
 have B9:=Lib.hid (B8.out.trans (k9.below B8.out.size (fun b hb e=>by omega)))
 clear h9 k9 c9 H8 B8 I8
 have J:Hid (LInv p13 l13):=Lib.hid I9.out
 have Jm:Hid (LInv p13 m13):=Lib.hid (netL_inv J.out 6 L13)
 have HX:Hid (LedM w9 G M p13 l13):=Lib.hid H9.out
 have cD:=Lib.hid (HDo.out.at_ HX.out J.out 6 (by unfold In8; decide))
 rw [d13] at cD
 clear H9 I9
 go_wp2_with fail
 refine cD.out.mono ?_
 rintro e v0 ⟨da,rfl,ra,b0⟩
 obtain ⟨aoa,rfl,_⟩:=rowed_shape ra
 have RA0:=Lib.hid ra
 have HM0:M<v0.heap.size:=Nat.lt_of_lt_of_le HX.out.map.lt b0.size
 have HMa:M<w9.heap.size:=HX.out.map.lt
 have X0:=Lib.hid (HX.out.below b0)
 have Y0:=Lib.hid (B9.out.trans (b0.mono B9.out.size))
 have cN:=Lib.hid (HNo.out.at_ X0.out J.out 6 0 (by unfold In8; decide) (by unfold In64; decide))
 clear ra b0 cD HX B9
 go_wp2_with fail
 refine cN.out.mono ?_
 rintro e v1 ⟨gone,many,er,ms,ha,rfl,h1,k1⟩
 obtain ⟨rfl,rfl,rfl,rfl⟩:=ha.eq lv13_a
 have RA1:=Lib.hid (RA0.out.keep k1 (fun b hb e=>by have:=rowed_own RA0.out hb; omega))
 have X1:=Lib.hid h1
 have Y1:=Lib.hid (Y0.out.trans (k1.below Y0.out.size (fun b hb e=>by omega)))
 have cN2:=Lib.hid (HNo.out.at_ X1.out J.out 6 1 (by unfold In8; decide) (by unfold In64; decide))
 have S1:=k1.size
 clear ha h1 k1 cN X0 Y0 RA0
 go_wp2_with fail
 refine cN2.out.mono ?_
 rintro e v2 ⟨gone,many,er,ms,ha,rfl,h2,k2⟩
 obtain ⟨rfl,rfl,rfl,rfl⟩:=ha.eq (lv13_b J.out)
 have RA2:=Lib.hid (RA1.out.keep k2 (fun b hb e=>by have:=rowed_own RA1.out hb; omega))
 have X2:=Lib.hid h2
 have Y2:=Lib.hid (Y1.out.trans (k2.below Y1.out.size (fun b hb e=>by omega)))
 have cD2:=Lib.hid (HDo.out.at_ X2.out Jm.out 6 (by unfold In8; decide))
 rw [e13 J.out] at cD2
 have S2:=k2.size
 clear ha h2 k2 cN2 X1 Y1 RA1
 go_wp2_with fail
 refine cD2.out.mono ?_
 rintro e v3 ⟨dbv,rfl,rb,b3⟩
 obtain ⟨aob,rfl,_⟩:=rowed_shape rb
 have RB3:=Lib.hid rb
 have RA3:=Lib.hid (RA2.out.below b3)
 have X3:=Lib.hid (X2.out.below b3)
 have Y3:=Lib.hid (Y2.out.trans (b3.mono Y2.out.size))
 have cN3:=Lib.hid (HNo.out.at_ X3.out Jm.out 6 0 (by unfold In8; decide) (by unfold In64; decide))
 have HMb:M<v2.heap.size:=by omega
 clear rb b3 cD2 X2 Y2 RA2
 go_wp2_with fail
 refine cN3.out.mono ?_
 rintro e v4 ⟨gone,many,er,ms,ha,rfl,_,k4⟩
 obtain ⟨mz,hz⟩:=lv13_c J.out
 obtain ⟨rfl,rfl,rfl,rfl⟩:=ha.eq hz
 have RA4:=Lib.hid (RA3.out.keep k4 (fun b hb e=>by have:=rowed_own RA3.out hb; omega))
 have RB4:=Lib.hid (RB3.out.keep k4 (fun b hb e=>by have:=rowed_own RB3.out hb; omega))
 have Y4:=Lib.hid (Y3.out.trans (k4.below Y3.out.size (fun b hb e=>by omega)))
 clear ha hz k4 cN3 X3 Y3 RA3 RB3
 have X5:=Lib.hid ((Below.refl v4.heap.size v4).alloc (Nat.le_refl _) (.cells #[.int .u8 1,.int .u8 2,.int .i64 5,.int .u8 2,.int .u8 3,.int .i64 3,.int .u8 3,.int .u8 1,.int .i64 4] 62))
 have RL:=Lib.hid (reads_blk (cap:=3) (xs:=fwCells lvD) (n:=3) (size:=3) (Blk.new v4 #[.int .u8 1,.int .u8 2,.int .i64 5,.int .u8 2,.int .u8 3,.int .i64 3,.int .u8 3,.int .u8 1,.int .i64 4] 62) (by decide) (by decide) (fun j hj=>by rw [← Array.getElem?_toList]; rfl))
 have S3:=Lib.hid (SameFlows_any (la:=lvD) (lb:=lvD) ((RA4.out.below X5.out).reads (by decide)) RL.out)
 rw [decide_eq_true rfl] at S3
 clear RL RA4
 go_wp2_with fail
 refine S3.out.mono ?_
 rintro e v5 ⟨rfl,b5⟩
 have X6:=Lib.hid (X5.out.trans (b5.mono X5.out.size))
 have Y5:=Lib.hid (Y4.out.trans (X6.out.mono Y4.out.size))
 have RB5:=Lib.hid (RB4.out.below X6.out)
 have X7:=Lib.hid ((Below.refl v5.heap.size v5).alloc (Nat.le_refl _) (.cells #[.int .u8 1,.int .u8 2,.int .i64 2,.int .u8 3,.int .u8 1,.int .i64 1] 62))
 have RL2:=Lib.hid (reads_blk (cap:=2) (xs:=fwCells lvL) (n:=2) (size:=3) (Blk.new v5 #[.int .u8 1,.int .u8 2,.int .i64 2,.int .u8 3,.int .u8 1,.int .i64 1] 62) (by decide) (by decide) (fun j hj=>by rw [← Array.getElem?_toList]; rfl))
 have S4:=Lib.hid (SameFlows_any (la:=lvL) (lb:=lvL) ((RB5.out.below X7.out).reads (by decide)) RL2.out)
 rw [decide_eq_true rfl] at S4
 clear b5 S3 RL2 RB4 RB5 X5 Y4
 go_wp2_with fail
 refine S4.out.mono ?_
 rintro e v6 ⟨rfl,b6⟩
 have Y6:=Lib.hid (Y5.out.trans ((X7.out.trans (b6.mono X7.out.size)).mono Y5.out.size))
 clear b6 S4 X7 Y5
 go_wp2_with fail
 go_ret
 exact ⟨rfl,Y6.out⟩
end Go.Proofs.YtlbjjkbppbmihaaGreat
