/-
  Pieces of one proof, without what is not wanted: RndMath, CheapMath.
-/
import Derived.Test.YtlbjjkbppbmihaaGreatL02
set_option linter.unusedSimpArgs false
set_option linter.unusedVariables false
namespace Go.Proofs.YtlbjjkbppbmihaaGreat
structure Ed where
 fr:Int
 tt:Int
 co:Int
structure BF where
 far:Int→Int
 ahd:Int→Int
 pt:Int
 t:Int→Nat
 w:Int→Int
def upI (f:Int→Int) (a x:Int):Int→Int:=fun p=>if p=a then x else f p
theorem upI_same (f:Int→Int) (a x:Int):upI f a x a=x:=by simp [upI]
theorem upI_ne (f:Int→Int) {a x p:Int} (h:p≠a):upI f a x p=f p:=by simp [upI,h]
def okEd (e:Ed):Prop:=inP e.fr∧inP e.tt
instance (p:Int):Decidable (inP p):=by unfold inP; infer_instance
instance (e:Ed):Decidable (okEd e):=by unfold okEd; infer_instance
def stepE (n:Nat) (s:BF) (e:Ed):BF :=
 if okEd e∧s.far e.fr + e.co<s.far e.tt then ⟨upI s.far e.tt (s.far e.fr + e.co),upI s.ahd e.tt e.fr,e.tt,fun p=>if p=e.tt then n else s.t p,upI s.w e.tt e.co⟩ else s
def initB:BF:=⟨fun _=>0,fun _=>0,0,fun _=>0,fun _=>0⟩
def passE (n:Nat) (es:List Ed) (s:BF):BF:=es.foldl (stepE n) { s with pt:=0 }
def passN (es:List Ed):Nat→BF
 | 0=>initB
 | n + 1=>passE (n + 1) es (passN es n)
def itr (f:Int→Int):Nat→Int→Int
 | 0,x=>x
 | k + 1,x=>itr f k (f x)
theorem itr_add (f:Int→Int):∀ (j k:Nat) (x:Int),itr f (j + k) x=itr f k (itr f j x)
 | 0,k,x=>by rw [Nat.zero_add]; rfl
 | j + 1,k,x=>by rw [Nat.add_right_comm]; exact itr_add f j k (f x)
theorem itr_succ (f:Int→Int) (k:Nat) (x:Int):itr f (k + 1) x=f (itr f k x):=itr_add f k 1 x
def sumI (f w:Int→Int):Nat→Int→Int
 | 0,_=>0
 | k + 1,x=>w x + sumI f w k (f x)
theorem sumI_add (f w:Int→Int):∀ (j k:Nat) (x:Int),sumI f w (j + k) x=sumI f w j x + sumI f w k (itr f j x)
 | 0,k,x=>by simp [sumI,itr]
 | j + 1,k,x=>by
  rw [Nat.add_right_comm]
  show w x + sumI f w (j + k) (f x)=(w x + sumI f w j (f x)) + sumI f w k (itr f j (f x))
  rw [sumI_add f w j k (f x)]
  omega
theorem itr_off {f w:Int→Int} {v u c:Int}:∀ (k:Nat) (x:Int),(∀ i,i<k→itr (upI f v u) i x≠v)→itr (upI f v u) k x=itr f k x∧sumI (upI f v u) (upI w v c) k x=sumI f w k x
 | 0,x,_=>⟨rfl,rfl⟩
 | k + 1,x,h=>by
  have hx:x≠v:=h 0 (by omega)
  have hf:upI f v u x=f x:=upI_ne f hx
  have ih:=itr_off (w:=w) (c:=c) k (f x) (fun i hi=>by
   have:=h (i + 1) (by omega)
   show itr (upI f v u) i (f x)≠v
   rw [← hf]; exact this)
  refine ⟨?_,?_⟩
  ·show itr (upI f v u) k (upI f v u x)=itr f k (f x)
   rw [hf]; exact ih.1
  ·show upI w v c x + sumI (upI f v u) (upI w v c) k (upI f v u x)=w x + sumI f w k (f x)
   rw [hf,upI_ne w hx,ih.2]
structure BInvE (es pre:List Ed) (n:Nat) (s:BF):Prop where
 a:∀ e ∈ es,okEd e→s.t e.fr + 1<n→s.far e.tt≤s.far e.fr + e.co
 b:∀ e ∈ pre,okEd e→s.t e.fr<n→s.far e.tt≤s.far e.fr + e.co
 le:∀ v,s.t v≤n
 pos:∀ v,1≤s.t v→inP v∧inP (s.ahd v)∧s.t v≤s.t (s.ahd v) + 1∧s.far (s.ahd v) + s.w v≤s.far v∧∃ e ∈ es,e.fr=s.ahd v∧e.tt=v∧e.co=s.w v
 zero:∀ v,s.t v=0→s.ahd v=0
 pt:s.pt≠0→s.t s.pt=n
 neg:∀ v k,1≤k→itr s.ahd k v=v→inP v→sumI s.ahd s.w k v<0
theorem BInvE.none {es pre:List Ed} {n:Nat} {s:BF} (h:BInvE es pre n s):s.ahd 0=0:=by
 refine h.zero 0 ?_
 rcases Nat.eq_zero_or_pos (s.t 0) with h0 | h0
 ·exact h0
 ·have:=(h.pos 0 h0).1.1
  omega
theorem BInvE.stay {es pre:List Ed} {n:Nat} {s:BF} (h:BInvE es pre n s):∀ k,itr s.ahd k 0=0
 | 0=>rfl
 | k + 1=>by
  show itr s.ahd k (s.ahd 0)=0
  rw [h.none]; exact h.stay k
theorem BInvE.chain {es pre:List Ed} {n:Nat} {s:BF} (h:BInvE es pre n s) {v:Int} (hv:inP v):∀ (m:Nat) (u:Int),itr s.ahd m u=v→s.far v + sumI s.ahd s.w m u≤s.far u
 | 0,u,hu=>by
  have:u=v:=hu
  subst this
  simp [sumI]
 | m + 1,u,hu=>by
  have hu':itr s.ahd m (s.ahd u)=v:=hu
  have h1:1≤s.t u:=by
   rcases Nat.eq_zero_or_pos (s.t u) with h0 | h0
   ·rw [h.zero u h0,h.stay m] at hu'
    have:=hv.1
    omega
   ·exact h0
  have h2:=(h.pos u h1).2.2.2.1
  have h3:=h.chain hv m (s.ahd u) hu'
  show s.far v + (s.w u + sumI s.ahd s.w m (s.ahd u))≤s.far u
  omega
theorem BInvE.step {es pre:List Ed} {n:Nat} {s:BF} (h:BInvE es pre n s) (hn:1≤n) {e:Ed} (he:e ∈ es):BInvE es (pre++[e]) n (stepE n s e):=by
 by_cases hc:okEd e∧s.far e.fr + e.co<s.far e.tt
 ·have hs:stepE n s e=⟨upI s.far e.tt (s.far e.fr + e.co),upI s.ahd e.tt e.fr,e.tt,fun p=>if p=e.tt then n else s.t p,upI s.w e.tt e.co⟩:=by unfold stepE; rw [if_pos hc]
  obtain ⟨hok,hlt⟩:=hc
  have htu:n≤s.t e.fr + 1:=by
   rcases Nat.lt_or_ge (s.t e.fr + 1) n with h1 | h1
   ·have:=h.a e he hok h1
    omega
   ·exact h1
  have fle:∀ x,upI s.far e.tt (s.far e.fr + e.co) x≤s.far x:=fun x=>by
   by_cases hx:x=e.tt
   ·subst hx; rw [upI_same]; omega
   ·rw [upI_ne _ hx]; exact Int.le_refl _
  rw [hs]
  refine ⟨fun d hd hdo hdt=>?_,fun d hd hdo hdt=>?_,fun v=>?_,fun v hv=>?_,fun v hv=>?_,fun _=>?_,fun v k hk hit hv=>?_⟩
  ·dsimp only at hdt ⊢
   by_cases hx:d.fr=e.tt
   ·rw [if_pos hx] at hdt; omega
   ·rw [if_neg hx] at hdt
    rw [upI_ne _ hx]
    have:=h.a d hd hdo hdt
    have:=fle d.tt
    omega
  ·dsimp only at hdt ⊢
   by_cases hx:d.fr=e.tt
   ·rw [if_pos hx] at hdt; omega
   ·rw [if_neg hx] at hdt
    rw [upI_ne _ hx]
    rcases List.mem_append.1 hd with h1 | h1
    ·have:=h.b d h1 hdo hdt
     have:=fle d.tt
     omega
    ·rw [List.mem_singleton] at h1
     subst h1
     rw [upI_same]
     exact Int.le_refl _
  ·dsimp only
   split
   ·exact Nat.le_refl _
   ·exact h.le v
  ·dsimp only at hv ⊢
   by_cases hx:v=e.tt
   ·subst hx
    rw [upI_same,upI_same,upI_same,if_pos rfl]
    refine ⟨hok.2,hok.1,?_,?_,e,he,rfl,rfl,rfl⟩
    ·split
     ·omega
     ·omega
    ·by_cases hy:e.fr=e.tt
     ·rw [hy,upI_same]
      rw [hy] at hlt
      omega
     ·rw [upI_ne _ hy]; exact Int.le_refl _
   ·rw [if_neg hx] at hv
    rw [if_neg hx,upI_ne _ hx,upI_ne _ hx,upI_ne _ hx]
    obtain ⟨p1,p2,p3,p4,p5⟩:=h.pos v hv
    refine ⟨p1,p2,?_,?_,p5⟩
    ·split
     ·rename_i hy
      have:=h.le v
      omega
     ·exact p3
    ·have:=fle (s.ahd v)
     omega
  ·dsimp only at hv ⊢
   by_cases hx:v=e.tt
   ·rw [if_pos hx] at hv; omega
   ·rw [if_neg hx] at hv
    rw [upI_ne _ hx]; exact h.zero v hv
  ·dsimp only
   rw [if_pos rfl]
  ·dsimp only at hit ⊢
   -- a round that goes over the new step
   have negv:∀ k,1≤k→itr (upI s.ahd e.tt e.fr) k e.tt=e.tt→sumI (upI s.ahd e.tt e.fr) (upI s.w e.tt e.co) k e.tt<0:=by
    intro k
    induction k using Nat.strongRecOn with
    | _ k ih =>
     intro hk hit
     by_cases hm:∃ m,1≤m∧m<k∧itr (upI s.ahd e.tt e.fr) m e.tt=e.tt
     ·obtain ⟨m,m1,m2,m3⟩:=hm
      have hkm:k=m + (k - m):=by omega
      have h2:itr (upI s.ahd e.tt e.fr) (k - m) e.tt=e.tt:=by
       have:=itr_add (upI s.ahd e.tt e.fr) m (k - m) e.tt
       rw [← hkm,hit,m3] at this
       exact this.symm
      have h3:=sumI_add (upI s.ahd e.tt e.fr) (upI s.w e.tt e.co) m (k - m) e.tt
      rw [← hkm,m3] at h3
      have i1:=ih m m2 m1 m3
      have i2:=ih (k - m) (by omega) (by omega) h2
      omega
     ·match k,hk,hit with
      | k + 1,_,hit =>
       have hf:upI s.ahd e.tt e.fr e.tt=e.fr:=upI_same _ _ _
       have hit':itr (upI s.ahd e.tt e.fr) k e.fr=e.tt:=by
        have:itr (upI s.ahd e.tt e.fr) k (upI s.ahd e.tt e.fr e.tt)=e.tt:=hit
        rwa [hf] at this
       obtain ⟨o1,o2⟩:=itr_off (f:=s.ahd) (w:=s.w) (v:=e.tt) (u:=e.fr) (c:=e.co) k e.fr (fun i hi hz=>hm ⟨i + 1,by omega,by omega,by
        show itr (upI s.ahd e.tt e.fr) i (upI s.ahd e.tt e.fr e.tt)=e.tt
        rw [hf]; exact hz⟩)
       rw [hit'] at o1
       have hc:=h.chain hok.2 k e.fr o1.symm
       show upI s.w e.tt e.co e.tt + sumI (upI s.ahd e.tt e.fr) (upI s.w e.tt e.co) k (upI s.ahd e.tt e.fr e.tt)<0
       rw [hf,upI_same,o2]
       omega
   by_cases hex:∃ j,j<k∧itr (upI s.ahd e.tt e.fr) j v=e.tt
   ·obtain ⟨j,j1,j2⟩:=hex
    have h1:itr (upI s.ahd e.tt e.fr) k e.tt=e.tt:=by
     have a1:=itr_add (upI s.ahd e.tt e.fr) j k v
     have a2:=itr_add (upI s.ahd e.tt e.fr) k j v
     rw [j2] at a1
     rw [hit,j2] at a2
     rw [← a1,Nat.add_comm,a2]
    have b1:=sumI_add (upI s.ahd e.tt e.fr) (upI s.w e.tt e.co) j k v
    have b2:=sumI_add (upI s.ahd e.tt e.fr) (upI s.w e.tt e.co) k j v
    rw [j2] at b1
    rw [hit,Nat.add_comm] at b2
    have:=negv k hk h1
    omega
   ·obtain ⟨o1,o2⟩:=itr_off (f:=s.ahd) (w:=s.w) (v:=e.tt) (u:=e.fr) (c:=e.co) k v (fun i hi hz=>hex ⟨i,hi,hz⟩)
    rw [hit] at o1
    rw [o2]
    exact h.neg v k hk o1.symm hv
 ·have hs:stepE n s e=s:=by unfold stepE; rw [if_neg hc]
  rw [hs]
  refine ⟨h.a,fun d hd hdo hdt=>?_,h.le,h.pos,h.zero,h.pt,h.neg⟩
  rcases List.mem_append.1 hd with h1 | h1
  ·exact h.b d h1 hdo hdt
  ·rw [List.mem_singleton] at h1
   subst h1
   rcases Int.lt_or_le (s.far d.fr + d.co) (s.far d.tt) with h2 | h2
   ·exact absurd ⟨hdo,h2⟩ hc
   ·exact h2
theorem BInvE.start {es:List Ed} {n:Nat} {s:BF} (h:BInvE es es n s):BInvE es [] (n + 1) { s with pt:=0 } :=
 ⟨fun e he ho ht=>h.b e he ho (by have:s.t e.fr + 1<n + 1:=ht; omega),fun e he=>by simp at he,fun v=>Nat.le_succ_of_le (h.le v),h.pos,h.zero,fun hp=>absurd rfl hp,h.neg⟩
theorem BInvE.init (es:List Ed):BInvE es es 0 initB:=by
 refine ⟨fun e _ _ h=>by omega,fun e _ _ h=>by omega,fun v=>Nat.le_refl _,fun v h=>?_,fun v _=>rfl,fun h=>absurd rfl h,fun v k hk hit hv=>?_⟩
 ·have:(0:Nat) ≥ 1:=h; omega
 ·match k,hk with
  | k + 1,_ =>
   have h1:=itr_succ initB.ahd k v
   rw [hit] at h1
   have h2:v=0:=h1
   have:=hv.1
   omega
theorem BInvE.go {es:List Ed} {n:Nat} (hn:1≤n):∀ (l pre:List Ed) (s:BF),BInvE es pre n s→(∀ e ∈ l,e ∈ es)→BInvE es (pre++l) n (l.foldl (stepE n) s)
 | [],pre,s,h,_=>by rw [List.append_nil]; exact h
 | e::l,pre,s,h,hl=>by
  rw [List.foldl_cons,show pre++e::l=(pre++[e])++l by simp]
  exact BInvE.go hn l (pre++[e]) (stepE n s e) (h.step hn (hl e (List.mem_cons_self ..))) (fun d hd=>hl d (List.mem_cons_of_mem _ hd))
theorem passN_inv (es:List Ed):∀ n,BInvE es es n (passN es n)
 | 0=>BInvE.init es
 | n + 1=>by
  have:=BInvE.go (n:=n + 1) (by omega) es [] _ (passN_inv es n).start (fun e he=>he)
  rwa [List.nil_append] at this
theorem pigeon:∀ (n:Nat) (f:Nat→Nat),(∀ i,i≤n→f i<n)→∃ i j,i<j∧j≤n∧f i=f j
 | 0,f,h=>absurd (h 0 (Nat.le_refl _)) (by omega)
 | n + 1,f,h=>by
  by_cases hx:∃ i,i≤n∧f i=f (n + 1)
  ·obtain ⟨i,hi,he⟩:=hx
   exact ⟨i,n + 1,by omega,Nat.le_refl _,he⟩
  ·have hne:∀ i,i≤n→f i≠f (n + 1):=fun i hi he=>hx ⟨i,hi,he⟩
   have hlast:=h (n + 1) (Nat.le_refl _)
   obtain ⟨i,j,h1,h2,h3⟩:=pigeon n (fun i=>if f (n + 1)<f i then f i - 1 else f i) (fun i hi=>by
    have:=h i (by omega)
    have:=hne i hi
    try dsimp only
    split <;> omega)
   refine ⟨i,j,h1,by omega,?_⟩
   have a1:=hne i (by omega)
   have a2:=hne j (by omega)
   try dsimp only at h3
   split at h3 <;> split at h3 <;> omega
theorem round_found {es:List Ed} (h:(passN es 16).pt≠0):(∀ i,i≤16→inP (itr (passN es 16).ahd i (passN es 16).pt)) ∧
  ∃ k,1≤k∧k≤16∧itr (passN es 16).ahd k (itr (passN es 16).ahd 16 (passN es 16).pt)=itr (passN es 16).ahd 16 (passN es 16).pt:=by
 have hI:=passN_inv es 16
 generalize passN es 16=s at *
 have ht:=hI.pt h
 have key:∀ i,i≤16→16≤s.t (itr s.ahd i s.pt) + i:=by
  intro i
  induction i with
  | zero=>intro _; rw [show itr s.ahd 0 s.pt=s.pt from rfl,ht]; omega
  | succ i ih =>
   intro hi
   have h1:=ih (by omega)
   rw [itr_succ]
   have h2:=(hI.pos (itr s.ahd i s.pt) (by omega)).2.2.1
   omega
 have hin:∀ i,i≤16→inP (itr s.ahd i s.pt):=by
  intro i hi
  match i,hi with
  | 0,_=>exact (hI.pos s.pt (by omega)).1
  | i + 1,hi =>
   rw [itr_succ]
   exact (hI.pos (itr s.ahd i s.pt) (by have:=key i (by omega); omega)).2.1
 refine ⟨hin,?_⟩
 obtain ⟨i,j,h1,h2,h3⟩:=pigeon 16 (fun i=>(itr s.ahd i s.pt).toNat - 1) (fun i hi=>by
  have:=hin i hi
  unfold inP at this
  try dsimp only
  omega)
 have h4:itr s.ahd i s.pt=itr s.ahd j s.pt:=by
  have a:=hin i (by omega)
  have b:=hin j h2
  unfold inP at a b
  try dsimp only at h3
  omega
 refine ⟨j - i,by omega,by omega,?_⟩
 have e1:itr s.ahd 16 s.pt=itr s.ahd (16 - i) (itr s.ahd i s.pt):=by rw [← itr_add,show i + (16 - i)=16 by omega]
 have e2:itr s.ahd (j - i) (itr s.ahd i s.pt)=itr s.ahd i s.pt:=by rw [← itr_add,show i + (j - i)=j by omega,← h4]
 rw [e1,← itr_add,Nat.add_comm,itr_add,e2]
theorem still_pass {es:List Ed} {n:Nat} {s:BF} (h:(passE n es s).pt=0):∀ e ∈ es,okEd e→s.far e.tt≤s.far e.fr + e.co:=by
 have key:∀ (l:List Ed) (s:BF),s.pt≠0→(l.foldl (stepE n) s).pt≠0:=by
  intro l
  induction l with
  | nil=>intro s h; exact h
  | cons e l ih =>
   intro s h
   rw [List.foldl_cons]
   refine ih _ ?_
   unfold stepE
   split
   ·rename_i hc
    have:=hc.1.2.1
    try dsimp only
    omega
   ·exact h
 have main:∀ (l:List Ed) (s:BF),(l.foldl (stepE n) s).pt=0→∀ e ∈ l,okEd e→s.far e.tt≤s.far e.fr + e.co:=by
  intro l
  induction l with
  | nil=>intro s _ e he; simp at he
  | cons d l ih =>
   intro s h e he ho
   rw [List.foldl_cons] at h
   by_cases hc:okEd d∧s.far d.fr + d.co<s.far d.tt
   ·exfalso
    refine key l (stepE n s d) ?_ h
    unfold stepE
    rw [if_pos hc]
    have:=hc.1.2.1
    try dsimp only
    omega
   ·have hs:stepE n s d=s:=by unfold stepE; rw [if_neg hc]
    rw [hs] at h
    rcases List.mem_cons.1 he with rfl | he
    ·rcases Int.lt_or_le (s.far e.fr + e.co) (s.far e.tt) with h2 | h2
     ·exact absurd ⟨ho,h2⟩ hc
     ·exact h2
    ·exact ih s h e he ho
 exact main es { s with pt:=0 } h
end Go.Proofs.YtlbjjkbppbmihaaGreat
namespace Go.Proofs.YtlbjjkbppbmihaaGreat
def wk (f:Int→Int→Int):Nat→Int→Int→Prop
 | 0,p,q=>p=q
 | n + 1,p,q=>∃ r,0<f p r∧wk f n r q
theorem wk_add {f:Int→Int→Int}:∀ {m n:Nat} {p r q:Int},wk f m p r→wk f n r q→wk f (m + n) p q
 | 0,n,p,r,q,h1,h2=>by
  have:p=r:=h1
  subst this
  rw [Nat.zero_add]; exact h2
 | m + 1,n,p,r,q,⟨x,h1,h3⟩,h2=>by
  rw [Nat.add_right_comm]
  exact ⟨x,h1,wk_add h3 h2⟩
theorem wk_one {f:Int→Int→Int} {p q:Int} (h:0<f p q):wk f 1 p q:=⟨q,h,rfl⟩
theorem wk_split {f:Int→Int→Int}:∀ {m n:Nat} {p q:Int},wk f (m + n) p q→∃ r,wk f m p r∧wk f n r q
 | 0,n,p,q,h=>⟨p,rfl,by rwa [Nat.zero_add] at h⟩
 | m + 1,n,p,q,h=>by
  rw [Nat.add_right_comm] at h
  obtain ⟨x,h1,h2⟩:=h
  obtain ⟨r,h3,h4⟩:=wk_split h2
  exact ⟨r,⟨x,h1,h3⟩,h4⟩
theorem wk_last {f:Int→Int→Int} {n:Nat} {p q:Int} (h:wk f (n + 1) p q):∃ r,wk f n p r∧0<f r q:=by
 obtain ⟨r,h1,x,h2,h3⟩:=wk_split (m:=n) (n:=1) h
 have:x=q:=h3
 subst this
 exact ⟨r,h1,h2⟩
def parts:List Int:=(List.range 16).map fun i:Nat=>(i:Int) + 1
theorem parts_mem {p:Int}:p ∈ parts↔inP p:=by
 unfold parts inP
 simp only [List.mem_map,List.mem_range]
 constructor
 ·rintro ⟨i,hi,rfl⟩; omega
 ·rintro ⟨h1,h2⟩; exact ⟨p.toNat - 1,by omega,by omega⟩
def inS (f:Int→Int→Int) (p:Int):Nat→Int→Bool
 | 0,q=>q==p
 | n + 1,q=>inS f p n q || parts.any fun r=>inS f p n r && decide (0<f r q)
theorem inS_iff {f:Int→Int→Int} {B:Int} (h:GInv f B) (p:Int):∀ (n:Nat) (q:Int),inS f p n q=true↔∃ m,m≤n∧wk f m p q
 | 0,q=>by
  unfold inS
  rw [beq_iff_eq]
  constructor
  ·rintro rfl; exact ⟨0,Nat.le_refl _,rfl⟩
  ·rintro ⟨m,hm,hw⟩
   have:m=0:=by omega
   subst this
   exact (show p=q from hw).symm
 | n + 1,q=>by
  show (inS f p n q || parts.any fun r=>inS f p n r && decide (0<f r q))=true↔_
  rw [Bool.or_eq_true,List.any_eq_true]
  constructor
  ·rintro (h1 | ⟨r,hr,h2⟩)
   ·obtain ⟨m,hm,hw⟩:=(inS_iff h p n q).1 h1
    exact ⟨m,by omega,hw⟩
   ·rw [Bool.and_eq_true,decide_eq_true_eq] at h2
    obtain ⟨m,hm,hw⟩:=(inS_iff h p n r).1 h2.1
    exact ⟨m + 1,by omega,wk_add hw (wk_one h2.2)⟩
  ·rintro ⟨m,hm,hw⟩
   by_cases hmn:m≤n
   ·exact .inl ((inS_iff h p n q).2 ⟨m,hmn,hw⟩)
   ·have:m=n + 1:=by omega
    subst this
    obtain ⟨r,h1,h2⟩:=wk_last hw
    refine .inr ⟨r,parts_mem.2 (h.ends h2).1,?_⟩
    rw [Bool.and_eq_true,decide_eq_true_eq]
    exact ⟨(inS_iff h p n r).2 ⟨n,Nat.le_refl _,h1⟩,h2⟩
def dst (f:Int→Int→Int) (p q:Int):Nat:=((List.range 17).find? fun n=>inS f p n q).getD 0
def nxt (f:Int→Int→Int) (b:Int) (n:Nat) (p:Int):Int:=(parts.find? fun q=>decide (0<f p q) && inS f q n b).getD 0
def goS (f:Int→Int→Int) (b:Int):Nat→Int→List Int
 | 0,p=>[p]
 | n + 1,p=>p::goS f b n (nxt f b n p)
def shortW (f:Int→Int→Int) (a b:Int):List Int:=if inP a∧inP b∧a≠b∧inS f a 16 b=true then goS f b (dst f a b) a else []
end Go.Proofs.YtlbjjkbppbmihaaGreat
namespace Go.Proofs.YtlbjjkbppbmihaaGreat
def cycK (f:Int→Int) (a:Int):Nat:=(((List.range 16).map (· + 1)).find? fun k=>itr f k a==a).getD 0
theorem cycK_spec {f:Int→Int} {a:Int} (h:∃ k,1≤k∧k≤16∧itr f k a=a):1≤cycK f a∧cycK f a≤16∧itr f (cycK f a) a=a∧∀ i,1≤i→i<cycK f a→itr f i a≠a:=by
 obtain ⟨k,k1,k2,k3⟩:=h
 unfold cycK
 cases hf:((List.range 16).map (· + 1)).find? fun k=>itr f k a==a with
 | none =>
  have:=List.find?_eq_none.1 hf k (List.mem_map.2 ⟨k - 1,by simp; omega,by omega⟩)
  simp [k3] at this
 | some x =>
  obtain ⟨hq,i,hi,hxi,hlt⟩:=List.find?_eq_some_iff_getElem.1 hf
  have hx:x=i + 1:=by rw [← hxi]; simp
  have hi16:i<16:=by simpa using hi
  refine ⟨by show 1≤x; omega,by show x≤16; omega,by simpa using hq,fun j j1 j2=>?_⟩
  have j3:j<x:=j2
  have:=hlt (j - 1) (by omega)
  simp only [List.getElem_map,List.getElem_range] at this
  rw [show j - 1 + 1=j by omega] at this
  simpa using this
theorem itr_inj {f:Int→Int} {a:Int} {K:Nat} (hK:itr f K a=a) (hm:∀ i,1≤i→i<K→itr f i a≠a) {i k:Nat} (hi:1≤i) (hik:i<k) (hk:k≤K):itr f i a≠itr f k a:=by
 intro h
 refine hm (i + (K - k)) (by omega) (by omega) ?_
 rw [itr_add,h,← itr_add,show k + (K - k)=K by omega,hK]
def leastC (f:Int→Int) (a:Int):Nat→Int
 | 0=>a
 | n + 1=>min (leastC f a n) (itr f (n + 1) a)
theorem leastC_mem (f:Int→Int) (a:Int):∀ n,∃ i,i≤n∧leastC f a n=itr f i a
 | 0=>⟨0,Nat.le_refl _,rfl⟩
 | n + 1=>by
  obtain ⟨i,hi,he⟩:=leastC_mem f a n
  by_cases h:leastC f a n≤itr f (n + 1) a
  ·exact ⟨i,by omega,by show min _ _=_; rw [Int.min_eq_left h]; exact he⟩
  ·exact ⟨n + 1,Nat.le_refl _,by show min _ _=_; exact Int.min_eq_right (by omega)⟩
theorem leastC_le (f:Int→Int) (a:Int):∀ n i,i≤n→leastC f a n≤itr f i a
 | 0,i,h=>by
  have:i=0:=by omega
  subst this
  exact Int.le_refl _
 | n + 1,i,h=>by
  show min (leastC f a n) (itr f (n + 1) a)≤_
  by_cases hi:i≤n
  ·have:=leastC_le f a n i hi
   omega
  ·have:i=n + 1:=by omega
   subst this
   omega
def backL (f:Int→Int) (l:Int) (n:Nat):List Int:=l::((List.range n).map fun i=>itr f (i + 1) l).reverse
def roundL (f:Int→Int) (a:Int):List Int:=backL f (leastC f a (cycK f a - 1)) (cycK f a - 1)
def roundW (es:List Ed):List Int:=if (List.range 16).all (fun n=>(passN es (n + 1)).pt != 0) then roundL (passN es 16).ahd (itr (passN es 16).ahd 16 (passN es 16).pt) else []
theorem backL_len (f:Int→Int) (l:Int) (n:Nat):(backL f l n).length=n + 1:=by simp [backL]
theorem backL_get {f:Int→Int} {l:Int} {n:Nat} (hl:itr f (n + 1) l=l) {i:Nat} (hi:i≤n):(backL f l n)[i]? = some (itr f (n + 1 - i) l):=by
 unfold backL
 match i,hi with
 | 0,_=>rw [List.getElem?_cons_zero,Nat.sub_zero,hl]
 | i + 1,hi =>
  rw [List.getElem?_cons_succ,List.getElem?_reverse (by simp; omega),List.getElem?_map]
  simp only [List.length_map,List.length_range]
  rw [List.getElem?_range (by omega),Option.map_some]
  rw [show n - 1 - i + 1=n + 1 - (i + 1) by omega]
theorem itr_round {f:Int→Int} {a:Int} {K:Nat} (hK:itr f K a=a):∀ m,itr f (m * K) a=a
 | 0=>by simp [itr]
 | m + 1=>by rw [Nat.succ_mul,itr_add,itr_round hK m,hK]
theorem far_bd {es:List Ed} (hco:∀ e ∈ es,-128≤e.co) {n:Nat}:∀ (l:List Ed) (s:BF) (m:Nat),(∀ e ∈ l,e ∈ es)→(∀ p,-(128 * (m:Int))≤s.far p∧s.far p≤0)→∀ p,-(128 * ((m + l.length:Nat):Int))≤(l.foldl (stepE n) s).far p∧(l.foldl (stepE n) s).far p≤0
 | [],s,m,_,h,p=>by simpa using h p
 | e::l,s,m,hl,h,p=>by
  rw [List.foldl_cons]
  have hstep:∀ q,-(128 * ((m + 1:Nat):Int))≤(stepE n s e).far q∧(stepE n s e).far q≤0:=by
   intro q
   have hq:=h q
   unfold stepE
   split
   ·rename_i hc
    have h1:=h e.fr
    have h2:=h e.tt
    have h3:=hco e (hl e (List.mem_cons_self ..))
    by_cases hx:q=e.tt
    ·subst hx
     show _≤upI s.far e.tt _ e.tt∧upI s.far e.tt _ e.tt≤0
     rw [upI_same]
     omega
    ·show _≤upI s.far e.tt _ q∧upI s.far e.tt _ q≤0
     rw [upI_ne _ hx]
     omega
   ·omega
  have:=far_bd hco (n:=n) l (stepE n s e) (m + 1) (fun d hd=>hl d (List.mem_cons_of_mem _ hd)) hstep p
  rw [List.length_cons,show m + (l.length + 1)=m + 1 + l.length by omega]
  exact this
theorem passN_bd {es:List Ed} (hco:∀ e ∈ es,-128≤e.co):∀ (n:Nat) (p:Int),-(128 * ((n * es.length:Nat):Int))≤(passN es n).far p∧(passN es n).far p≤0
 | 0,p=>by
  show -(128 * ((0 * es.length:Nat):Int))≤0∧(0:Int)≤0
  omega
 | n + 1,p=>by
  have:=far_bd hco (n:=n + 1) es { passN es n with pt:=0 } (n * es.length) (fun e he=>he) (fun q=>passN_bd hco n q) p
  rw [Nat.succ_mul]
  exact this
structure IsRound (es:List Ed) (s:BF) (K:Nat) (l:Int):Prop where
 k1:1≤K
 k16:K≤16
 back:itr s.ahd K l=l
 apart:∀ i,1≤i→i<K→itr s.ahd i l≠l
 ends:∀ i,inP (itr s.ahd i l)
 least:∀ i,l≤itr s.ahd i l
 edge:∀ i,∃ e ∈ es,e.fr=itr s.ahd (i + 1) l∧e.tt=itr s.ahd i l∧e.co=s.w (itr s.ahd i l)
 cost:sumI s.ahd s.w K l<0
theorem roundW_none {es:List Ed} (h:roundW es=[]):∃ far:Int→Int,∀ e ∈ es,okEd e→far e.tt≤far e.fr + e.co:=by
 unfold roundW at h
 split at h
 ·unfold roundL backL at h; cases h
 ·rename_i hc
  have hc2:¬ ∀ n ∈ List.range 16,((passN es (n + 1)).pt != 0)=true:=fun hh=>hc (List.all_eq_true.2 hh)
  have:∃ n,(passN es (n + 1)).pt=0:=by
   refine Classical.byContradiction fun hn=>hc2 fun n _=>?_
   have:(passN es (n + 1)).pt≠0:=fun he=>hn ⟨n,he⟩
   simpa using this
  obtain ⟨n,hn⟩:=this
  exact ⟨(passN es n).far,still_pass hn⟩
theorem roundW_some {es:List Ed} (h:roundW es≠[]):∃ K l,K=cycK (passN es 16).ahd (itr (passN es 16).ahd 16 (passN es 16).pt)∧l=leastC (passN es 16).ahd (itr (passN es 16).ahd 16 (passN es 16).pt) (K - 1)∧(∀ i,inP (itr (passN es 16).ahd i (itr (passN es 16).ahd 16 (passN es 16).pt)))∧IsRound es (passN es 16) K l∧roundW es=backL (passN es 16).ahd l (K - 1):=by
 have hall:((List.range 16).all fun n=>(passN es (n + 1)).pt != 0)=true:=by
  refine Classical.byContradiction fun hc=>h ?_
  unfold roundW
  rw [if_neg hc]
 have hpt:(passN es 16).pt≠0:=by
  have:=List.all_eq_true.1 hall 15 (by simp)
  simpa using this
 have hW:roundW es=roundL (passN es 16).ahd (itr (passN es 16).ahd 16 (passN es 16).pt):=by
  unfold roundW
  rw [if_pos hall]
 rw [hW]
 obtain ⟨r1,r2⟩:=round_found hpt
 have hI:=passN_inv es 16
 generalize passN es 16=s at *
 generalize ha:itr s.ahd 16 s.pt=a at *
 obtain ⟨c1,c2,c3,c4⟩:=cycK_spec r2
 have hina:inP a:=by rw [← ha]; exact r1 16 (Nat.le_refl _)
 -- all of a's steps are parties
 have hret:∀ v,∀ k,1≤k→itr s.ahd k v=v→inP v→1≤s.t v:=by
  intro v k hk hv hin
  rcases Nat.eq_zero_or_pos (s.t v) with h0 | h0
  ·exfalso
   match k,hk with
   | k + 1,_ =>
    have:itr s.ahd k (s.ahd v)=v:=hv
    rw [hI.zero v h0,hI.stay k] at this
    have:=hin.1
    omega
  ·exact h0
 have hper:∀ i,itr s.ahd (cycK s.ahd a) (itr s.ahd i a)=itr s.ahd i a:=fun i=>by rw [← itr_add,Nat.add_comm,itr_add,c3]
 have hin:∀ i,inP (itr s.ahd i a):=by
  intro i
  induction i with
  | zero=>exact hina
  | succ i ih=>rw [itr_succ]; exact (hI.pos _ (hret _ _ c1 (hper i) ih)).2.1
 obtain ⟨i0,i1,i2⟩:=leastC_mem s.ahd a (cycK s.ahd a - 1)
 have hle:=leastC_le s.ahd a (cycK s.ahd a - 1)
 have hcyc:∀ j,itr s.ahd j (itr s.ahd i0 a)=itr s.ahd i0 a→1≤j→¬ j<cycK s.ahd a:=by
  intro j hj j1 j2
  refine c4 j j1 j2 ?_
  have e1:itr s.ahd (cycK s.ahd a - i0) (itr s.ahd j (itr s.ahd i0 a))=itr s.ahd (cycK s.ahd a - i0) (itr s.ahd i0 a):=by rw [hj]
  rw [← itr_add,← itr_add,← itr_add,show i0 + (cycK s.ahd a - i0)=cycK s.ahd a by omega,c3,show i0 + (j + (cycK s.ahd a - i0))=cycK s.ahd a + j by omega,itr_add,c3] at e1
  exact e1
 refine ⟨cycK s.ahd a,leastC s.ahd a (cycK s.ahd a - 1),rfl,rfl,hin,⟨c1,c2,?_,?_,?_,?_,fun i=>?_,?_⟩,rfl⟩
 ·rw [i2]; exact hper i0
 ·rw [i2]; exact fun i h1 h2 h3=>hcyc i h3 h1 h2
 ·rw [i2]; intro i; rw [← itr_add]; exact hin _
 ·rw [i2]
  intro i
  rw [← itr_add]
  have hmod:itr s.ahd (i0 + i) a=itr s.ahd ((i0 + i) % cycK s.ahd a) a:=by
   have:=Nat.div_add_mod (i0 + i) (cycK s.ahd a)
   rw [← this,Nat.mul_comm,itr_add,itr_round c3,Nat.mul_comm,this]
  rw [hmod,← i2]
  have:=Nat.mod_lt (i0 + i) (show 0<cycK s.ahd a by omega)
  exact hle _ (by omega)
 ·rw [i2,itr_succ,← itr_add]
  obtain ⟨_,_,_,_,q⟩:=hI.pos _ (hret _ _ c1 (hper (i0 + i)) (hin (i0 + i)))
  exact q
 ·rw [i2]
  exact hI.neg _ _ c1 (hper i0) (hin i0)
end Go.Proofs.YtlbjjkbppbmihaaGreat
namespace Go.Proofs.YtlbjjkbppbmihaaGreat
def noneF:Int→Int→Int:=fun _ _=>1048576
def costE (c:Int→Int→Int) (e:Ed):Int→Int→Int:=if okEd e then updE c e.fr e.tt (min (c e.fr e.tt) e.co) else c
structure CostI (es pre:List Ed) (c:Int→Int→Int):Prop where
 is:∀ a b,c a b=1048576∨∃ e ∈ es,okEd e∧e.fr=a∧e.tt=b∧c a b=e.co
 le:∀ e ∈ pre,okEd e→c e.fr e.tt≤e.co
theorem CostI.init (es:List Ed):CostI es [] noneF:=⟨fun _ _=>.inl rfl,by simp⟩
theorem updE_same (c:Int→Int→Int) (a b n:Int):updE c a b n a b=n:=by unfold updE; rw [if_pos ⟨rfl,rfl⟩]
theorem CostI.step {es pre:List Ed} {c:Int→Int→Int} {e:Ed} (h:CostI es pre c) (he:e ∈ es):CostI es (pre++[e]) (costE c e):=by
 unfold costE
 split
 ·rename_i ho
  refine ⟨fun a b=>?_,fun d hd hod=>?_⟩
  ·by_cases hab:a=e.fr∧b=e.tt
   ·obtain ⟨rfl,rfl⟩:=hab
    rw [updE_same]
    by_cases hc:c e.fr e.tt≤e.co
    ·rw [Int.min_eq_left hc]; exact h.is _ _
    ·rw [Int.min_eq_right (by omega)]; exact .inr ⟨e,he,ho,rfl,rfl,rfl⟩
   ·unfold updE
    rw [if_neg hab]
    exact h.is a b
  ·by_cases hde:d.fr=e.fr∧d.tt=e.tt
   ·rw [hde.1,hde.2,updE_same]
    rcases List.mem_append.1 hd with hd | hd
    ·have:=h.le d hd hod
     rw [hde.1,hde.2] at this
     omega
    ·rw [List.mem_singleton] at hd
     subst hd
     omega
   ·unfold updE
    rw [if_neg hde]
    rcases List.mem_append.1 hd with hd | hd
    ·exact h.le d hd hod
    ·rw [List.mem_singleton] at hd
     subst hd
     exact absurd ⟨rfl,rfl⟩ hde
 ·rename_i ho
  refine ⟨h.is,fun d hd hod=>?_⟩
  rcases List.mem_append.1 hd with hd | hd
  ·exact h.le d hd hod
  ·rw [List.mem_singleton] at hd
   subst hd
   exact absurd hod ho
theorem CostI.bd {es pre:List Ed} {c:Int→Int→Int} (h:CostI es pre c) (hco:∀ e ∈ es,-128≤e.co∧e.co≤127) (a b:Int):-128≤c a b∧c a b≤1048576:=by
 rcases h.is a b with hc | ⟨e,he,_,_,_,hc⟩
 ·omega
 ·have:=hco e he
  omega
def sumU (c:Int→Int→Int) (u:Nat→Int):Nat→Int
 | 0=>0
 | n + 1=>sumU c u n + c (u n) (u (n + 1))
structure CheapL (c:Int→Int→Int) (L:List Int) (K:Nat) (u:Nat→Int):Prop where
 k1:1≤K
 k16:K≤16
 len:L.length=K
 at_:∀ i,i<K→L[i]? = some (u i)
 back:u K=u 0
 ends:∀ i,inP (u i)
 least:∀ i,u 0≤u i
 apart:∀ k i,k<i→i<K→u k≠u i
 cost:∀ i,i<K → -128≤c (u i) (u (i + 1))∧c (u i) (u (i + 1))≤127
 all:sumU c u K<0
theorem round_cheap {es:List Ed} {c:Int→Int→Int} (hC:CostI es es c) (hco:∀ e ∈ es,-128≤e.co∧e.co≤127) (h:roundW es≠[]):∃ K u,CheapL c (roundW es) K u:=by
 obtain ⟨K,l,_,_,_,hR,he⟩:=roundW_some h
 have hk1:=hR.k1
 rw [he]
 generalize passN es 16=s at *
 have hu:∀ i,i<K→itr s.ahd (K - i) l=s.ahd (itr s.ahd (K - (i + 1)) l):=fun i hi=>by
  rw [show K - i=(K - (i + 1)) + 1 by omega,itr_succ]
 have hcost:∀ i,i<K→c (itr s.ahd (K - i) l) (itr s.ahd (K - (i + 1)) l)≤s.w (itr s.ahd (K - (i + 1)) l) ∧ -128≤c (itr s.ahd (K - i) l) (itr s.ahd (K - (i + 1)) l)∧c (itr s.ahd (K - i) l) (itr s.ahd (K - (i + 1)) l)≤127:=fun i hi=>by
  obtain ⟨e,hm,e1,e2,e3⟩:=hR.edge (K - (i + 1))
  rw [show K - (i + 1) + 1=K - i by omega] at e1
  have hok:okEd e:=⟨by rw [e1]; exact hR.ends _,by rw [e2]; exact hR.ends _⟩
  have h1:=hC.le e hm hok
  have h2:=hco e hm
  rw [e1,e2] at h1
  have h3:=hC.bd hco (itr s.ahd (K - i) l) (itr s.ahd (K - (i + 1)) l)
  rw [← e3]
  omega
 refine ⟨K,fun i=>itr s.ahd (K - i) l,hk1,hR.k16,by rw [backL_len]; omega,fun i hi=>?_,?_,fun i=>hR.ends _,fun i=>?_,fun k i hki hi=>?_,fun i hi=>(hcost i hi).2,?_⟩
 ·rw [backL_get (by rw [show K - 1 + 1=K by omega]; exact hR.back) (by omega)]
  rw [show K - 1 + 1 - i=K - i by omega]
 ·show itr s.ahd (K - K) l=itr s.ahd (K - 0) l
  rw [Nat.sub_self,Nat.sub_zero,hR.back]
  rfl
 ·show itr s.ahd (K - 0) l≤_
  rw [Nat.sub_zero,hR.back]
  exact hR.least _
 ·exact fun hh=>itr_inj hR.back hR.apart (i:=K - i) (k:=K - k) (by omega) (by omega) (by omega) hh.symm
 ·have key:∀ n,n≤K→sumU c (fun i=>itr s.ahd (K - i) l) n + sumI s.ahd s.w (K - n) l≤sumI s.ahd s.w K l:=by
   intro n
   induction n with
   | zero=>intro _; simp [sumU]
   | succ n ih =>
    intro hn
    have h1:=ih (by omega)
    have h2:=(hcost n (by omega)).1
    have h3:=sumI_add s.ahd s.w (K - (n + 1)) 1 l
    rw [show K - (n + 1) + 1=K - n by omega] at h3
    have h4:sumI s.ahd s.w 1 (itr s.ahd (K - (n + 1)) l)=s.w (itr s.ahd (K - (n + 1)) l):=by simp [sumI]
    show (sumU c (fun i=>itr s.ahd (K - i) l) n + c (itr s.ahd (K - n) l) (itr s.ahd (K - (n + 1)) l)) + _≤_
    omega
  have h1:=key K (Nat.le_refl _)
  rw [Nat.sub_self] at h1
  have h2:=hR.cost
  have h3:sumI s.ahd s.w 0 l=0:=rfl
  omega
end Go.Proofs.YtlbjjkbppbmihaaGreat
