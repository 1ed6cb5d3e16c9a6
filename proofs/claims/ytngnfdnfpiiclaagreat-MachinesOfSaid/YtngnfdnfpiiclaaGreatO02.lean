/- Pieces of one proof. -/
import Derived.Test.YtngnfdnfpiiclaaGreatO01
import Derived.Laws.Rows
import Derived.Deep.MidRow
import Derived.Deep.WholeRow
set_option linter.all false
set_option maxHeartbeats 64000000
set_option maxRecDepth 100000
namespace Go.Proofs.YtngnfdnfpiiclaaGreat
open Go.RowKit
structure Ed where
 fr:Int
 tt:Int
 co:Int
structure BF where
 far:Int→Int
 ahd:Int→Int
 pt:Int
 t:Int→Nat
 w:Int→Int
def upI(f:Int→Int)(a x:Int):Int→Int:=fun p=>if p=a then x else f p
theorem aDc(f:Int→Int)(a x:Int):upI f a x a=x:=by simp[upI]
theorem aDz(f:Int→Int){a x p:Int}(h:p≠a):upI f a x p=f p:=by simp[upI,h]
def okEd(e:Ed):Prop:=inP e.fr∧inP e.tt
instance(p:Int):Decidable (inP p):=by unfold inP;infer_instance
instance(e:Ed):Decidable (okEd e):=by unfold okEd;infer_instance
def aLk(n:Nat)(s:BF)(e:Ed):BF:=
 if okEd e∧s.far e.fr+e.co<s.far e.tt then⟨upI s.far e.tt (s.far e.fr+e.co),upI s.ahd e.tt e.fr,e.tt,fun p=>if p=e.tt then n else s.t p,upI s.w e.tt e.co⟩else s
def initB:BF:=⟨fun _=>0,fun _=>0,0,fun _=>0,fun _=>0⟩
def passE(n:Nat)(es:List Ed)(s:BF):BF:=es.foldl (aLk n) { s with pt:=0 }
def aB9(es:List Ed):Nat→BF
 | 0=>initB
 | n+1=>passE (n+1) es (aB9 es n)
def itr(f:Int→Int):Nat→Int→Int
 | 0,x=>x
 | k+1,x=>itr f k (f x)
theorem aBf(f:Int→Int):∀(j k:Nat) (x:Int),itr f (j+k) x=itr f k (itr f j x)
 | 0,k,x=>by rw[Nat.zero_add];rfl
 | j+1,k,x=>by rw[Nat.add_right_comm];exact aBf f j k (f x)
theorem aCr(f:Int→Int)(k:Nat)(x:Int):itr f (k+1) x=f (itr f k x):=aBf f k 1 x
def sumI(f w:Int→Int):Nat→Int→Int
 | 0,_=>0
 | k+1,x=>w x+sumI f w k (f x)
theorem aF9(f w:Int→Int):∀(j k:Nat) (x:Int),sumI f w (j+k) x=sumI f w j x+sumI f w k (itr f j x)
 | 0,k,x=>by simp[sumI,itr]
 | j+1,k,x=>by
  rw[Nat.add_right_comm];show w x+sumI f w (j+k) (f x)=(w x+sumI f w j (f x))+sumI f w k (itr f j (f x));rw[aF9 f w j k (f x)];omega
theorem aMy{f w:Int→Int}{v u c:Int}:∀(k:Nat) (x:Int),(∀i,i<k→itr (upI f v u) i x≠v)→itr (upI f v u) k x=itr f k x∧sumI (upI f v u) (upI w v c) k x=sumI f w k x
 | 0,x,_=>⟨rfl,rfl⟩
 | k+1,x,h=>by
  have hx:x≠v:=h 0 (by omega);have hf:upI f v u x=f x:=aDz f hx
  have ih:=aMy (w:=w) (c:=c) k (f x) (fun i hi=>by
   have:=h (i+1) (by omega);show itr (upI f v u) i (f x)≠v;rw[←hf];exact this)
  refine⟨?_,?_⟩
  ·show itr (upI f v u) k (upI f v u x)=itr f k (f x);rw[hf];exact ih.1
  show upI w v c x+sumI (upI f v u) (upI w v c) k (upI f v u x)=w x+sumI f w k (f x);rw[hf,aDz w hx,ih.2]
structure aDw(es pre:List Ed)(n:Nat)(s:BF):Prop where
 a:∀e∈es,okEd e→s.t e.fr+1<n→s.far e.tt≤s.far e.fr+e.co
 b:∀e∈pre,okEd e→s.t e.fr<n→s.far e.tt≤s.far e.fr+e.co
 le:∀v,s.t v≤n
 pos:∀v,1≤s.t v→inP v∧inP (s.ahd v)∧s.t v≤s.t (s.ahd v)+1∧s.far (s.ahd v)+s.w v≤s.far v∧∃e∈es,e.fr=s.ahd v∧e.tt=v∧e.co=s.w v
 zero:∀v,s.t v=0→s.ahd v=0
 pt:s.pt≠0→s.t s.pt=n
 neg:∀v k,1≤k→itr s.ahd k v=v→inP v→sumI s.ahd s.w k v<0
theorem aDw.none{es pre:List Ed}{n:Nat}{s:BF}(h:aDw es pre n s):s.ahd 0=0:=by
 refine h.zero 0 ?_;rcases Nat.eq_zero_or_pos (s.t 0)with h0|h0
 ·exact h0
 have:=(h.pos 0 h0).1.1;omega
theorem aDw.stay{es pre:List Ed}{n:Nat}{s:BF}(h:aDw es pre n s):∀k,itr s.ahd k 0=0
 | 0=>rfl
 | k+1=>by
  show itr s.ahd k (s.ahd 0)=0;rw[h.none];exact h.stay k
theorem aDw.chain{es pre:List Ed}{n:Nat}{s:BF}(h:aDw es pre n s){v:Int}(hv:inP v):∀(m:Nat) (u:Int),itr s.ahd m u=v→s.far v+sumI s.ahd s.w m u≤s.far u
 | 0,u,hu=>by
  have:u=v:=hu;subst this;simp[sumI]
 | m+1,u,hu=>by
  have hu':itr s.ahd m (s.ahd u)=v:=hu
  have h1:1≤s.t u:=by
   rcases Nat.eq_zero_or_pos (s.t u)with h0|h0
   ·rw[h.zero u h0,h.stay m]at hu';have:=hv.1;omega
   exact h0
  have h2:=(h.pos u h1).2.2.2.1;have h3:=h.chain hv m (s.ahd u) hu';show s.far v+(s.w u+sumI s.ahd s.w m (s.ahd u))≤s.far u;omega
theorem aDw.step{es pre:List Ed}{n:Nat}{s:BF}(h:aDw es pre n s)(hn:1≤n){e:Ed}(he:e∈es):aDw es (pre++[e]) n (aLk n s e):=by
 by_cases hc:okEd e∧s.far e.fr+e.co<s.far e.tt
 ·have hs:aLk n s e=⟨upI s.far e.tt (s.far e.fr+e.co),upI s.ahd e.tt e.fr,e.tt,fun p=>if p=e.tt then n else s.t p,upI s.w e.tt e.co⟩:=by unfold aLk;rw[if_pos hc]
  obtain⟨hok,hlt⟩:=hc
  have htu:n≤s.t e.fr+1:=by
   rcases Nat.lt_or_ge (s.t e.fr+1) n with h1|h1
   ·have:=h.a e he hok h1;omega
   exact h1
  have fle:∀x,upI s.far e.tt (s.far e.fr+e.co) x≤s.far x:=fun x=>by
   by_cases hx:x=e.tt
   ·subst hx;rw[aDc];omega
   rw[aDz _ hx];exact Int.le_refl _
  rw[hs];refine⟨fun d hd hdo hdt=>?_,fun d hd hdo hdt=>?_,fun v=>?_,fun v hv=>?_,fun v hv=>?_,fun _=>?_,fun v k hk hit hv=>?_⟩
  ·dsimp only at hdt ⊢
   by_cases hx:d.fr=e.tt
   ·rw[if_pos hx]at hdt;omega
   rw[if_neg hx]at hdt;rw[aDz _ hx];have:=h.a d hd hdo hdt;have:=fle d.tt;omega
  ·dsimp only at hdt ⊢
   by_cases hx:d.fr=e.tt
   ·rw[if_pos hx]at hdt;omega
   rw[if_neg hx]at hdt;rw[aDz _ hx];rcases List.mem_append.1 hd with h1|h1
   ·have:=h.b d h1 hdo hdt;have:=fle d.tt;omega
   rw[List.mem_singleton]at h1;subst h1;rw[aDc];exact Int.le_refl _
  ·dsimp only;split
   ·exact Nat.le_refl _
   exact h.le v
  ·dsimp only at hv ⊢
   by_cases hx:v=e.tt
   ·subst hx;rw[aDc,aDc,aDc,if_pos rfl];refine⟨hok.2,hok.1,?_,?_,e,he,rfl,rfl,rfl⟩
    ·split
     ·omega
     omega
    by_cases hy:e.fr=e.tt
    ·rw[hy,aDc];rw[hy]at hlt;omega
    rw[aDz _ hy];exact Int.le_refl _
   rw[if_neg hx]at hv;rw[if_neg hx,aDz _ hx,aDz _ hx,aDz _ hx];obtain⟨p1,p2,p3,p4,p5⟩:=h.pos v hv;refine⟨p1,p2,?_,?_,p5⟩
   ·split
    ·rename_i hy;have:=h.le v;omega
    exact p3
   have:=fle (s.ahd v);omega
  ·dsimp only at hv ⊢
   by_cases hx:v=e.tt
   ·rw[if_pos hx]at hv;omega
   rw[if_neg hx]at hv;rw[aDz _ hx];exact h.zero v hv
  ·dsimp only;rw[if_pos rfl]
  dsimp only at hit ⊢
  -- a round that goes over the new step
  have negv:∀k,1≤k→itr (upI s.ahd e.tt e.fr) k e.tt=e.tt→sumI (upI s.ahd e.tt e.fr) (upI s.w e.tt e.co) k e.tt<0:=by
   intro k
   induction k using Nat.strongRecOn with
   | _ k ih=>
    intro hk hit
    by_cases hm:∃m,1≤m∧m<k∧itr (upI s.ahd e.tt e.fr) m e.tt=e.tt
    ·obtain⟨m,m1,m2,m3⟩:=hm;have hkm:k=m+(k - m):=by omega
     have h2:itr (upI s.ahd e.tt e.fr) (k - m) e.tt=e.tt:=by
      have:=aBf (upI s.ahd e.tt e.fr) m (k - m) e.tt;rw[←hkm,hit,m3]at this;exact this.symm
     have h3:=aF9 (upI s.ahd e.tt e.fr) (upI s.w e.tt e.co) m (k - m) e.tt;rw[←hkm,m3]at h3;have i1:=ih m m2 m1 m3;have i2:=ih (k - m) (by omega) (by omega) h2;omega
    match k,hk,hit with
    | k+1,_,hit=>
     have hf:upI s.ahd e.tt e.fr e.tt=e.fr:=aDc _ _ _
     have hit':itr (upI s.ahd e.tt e.fr) k e.fr=e.tt:=by
      have:itr (upI s.ahd e.tt e.fr) k (upI s.ahd e.tt e.fr e.tt)=e.tt:=hit
      rwa [hf]at this
     obtain⟨o1,o2⟩:=aMy (f:=s.ahd) (w:=s.w) (v:=e.tt) (u:=e.fr) (c:=e.co) k e.fr (fun i hi hz=>hm ⟨i+1,by omega,by omega,by
      show itr (upI s.ahd e.tt e.fr) i (upI s.ahd e.tt e.fr e.tt)=e.tt;rw[hf];exact hz⟩)
     rw[hit']at o1;have hc:=h.chain hok.2 k e.fr o1.symm;show upI s.w e.tt e.co e.tt+sumI (upI s.ahd e.tt e.fr) (upI s.w e.tt e.co) k (upI s.ahd e.tt e.fr e.tt)<0;rw[hf,aDc,o2];omega
  by_cases hex:∃j,j<k∧itr (upI s.ahd e.tt e.fr) j v=e.tt
  ·obtain⟨j,j1,j2⟩:=hex
   have h1:itr (upI s.ahd e.tt e.fr) k e.tt=e.tt:=by
    have a1:=aBf (upI s.ahd e.tt e.fr) j k v;have a2:=aBf (upI s.ahd e.tt e.fr) k j v;rw[j2]at a1;rw[hit,j2]at a2;rw[←a1,Nat.add_comm,a2]
   have b1:=aF9 (upI s.ahd e.tt e.fr) (upI s.w e.tt e.co) j k v;have b2:=aF9 (upI s.ahd e.tt e.fr) (upI s.w e.tt e.co) k j v;rw[j2]at b1;rw[hit,Nat.add_comm]at b2;have:=negv k hk h1;omega
  obtain⟨o1,o2⟩:=aMy (f:=s.ahd) (w:=s.w) (v:=e.tt) (u:=e.fr) (c:=e.co) k v (fun i hi hz=>hex ⟨i,hi,hz⟩);rw[hit]at o1;rw[o2];exact h.neg v k hk o1.symm hv
 have hs:aLk n s e=s:=by unfold aLk;rw[if_neg hc]
 rw[hs];refine⟨h.a,fun d hd hdo hdt=>?_,h.le,h.pos,h.zero,h.pt,h.neg⟩;rcases List.mem_append.1 hd with h1|h1
 ·exact h.b d h1 hdo hdt
 rw[List.mem_singleton]at h1;subst h1;rcases Int.lt_or_le (s.far d.fr+d.co) (s.far d.tt)with h2|h2
 ·exact absurd ⟨hdo,h2⟩ hc
 exact h2
theorem aDw.start{es:List Ed}{n:Nat}{s:BF}(h:aDw es es n s):aDw es [] (n+1) { s with pt:=0 }:=
 ⟨fun e he ho ht=>h.b e he ho (by have:s.t e.fr+1<n+1:=ht;omega),fun e he=>by simp at he,fun v=>Nat.le_succ_of_le (h.le v),h.pos,h.zero,fun hp=>absurd rfl hp,h.neg⟩
theorem aDw.init(es:List Ed):aDw es es 0 initB:=by
 refine⟨fun e _ _ h=>by omega,fun e _ _ h=>by omega,fun v=>Nat.le_refl _,fun v h=>?_,fun v _=>rfl,fun h=>absurd rfl h,fun v k hk hit hv=>?_⟩
 ·have:(0:Nat) ≥ 1:=h;omega
 match k,hk with
 | k+1,_=>
  have h1:=aCr initB.ahd k v;rw[hit]at h1;have h2:v=0:=h1;have:=hv.1;omega
theorem aDw.go{es:List Ed}{n:Nat}(hn:1≤n):∀(l pre:List Ed) (s:BF),aDw es pre n s→(∀e∈l,e∈es)→aDw es (pre++l) n (l.foldl (aLk n) s)
 | [],pre,s,h,_=>by rw[List.append_nil];exact h
 | e::l,pre,s,h,hl=>by
  rw[List.foldl_cons,show pre++e::l=(pre++[e])++l by simp];exact aDw.go hn l (pre++[e]) (aLk n s e) (h.step hn (hl e (List.mem_cons_self ..))) (fun d hd=>hl d (List.mem_cons_of_mem _ hd))
theorem aH6(es:List Ed):∀n,aDw es es n (aB9 es n)
 | 0=>aDw.init es
 | n+1=>by
  have:=aDw.go (n:=n+1) (by omega) es [] _ (aH6 es n).start (fun e he=>he)
  rwa [List.nil_append]at this
theorem pigeon:∀(n:Nat) (f:Nat→Nat),(∀i,i≤n→f i<n)→∃i j,i<j∧j≤n∧f i=f j
 | 0,f,h=>absurd (h 0 yL) (by omega)
 | n+1,f,h=>by
  by_cases hx:∃i,i≤n∧f i=f (n+1)
  ·obtain⟨i,hi,he⟩:=hx;exact⟨i,n+1,by omega,Nat.le_refl _,he⟩
  have hne:∀i,i≤n→f i≠f (n+1):=fun i hi he=>hx ⟨i,hi,he⟩
  have hlast:=h (n+1) yL
  obtain⟨i,j,h1,h2,h3⟩:=pigeon n (fun i=>if f (n+1)<f i then f i - 1 else f i) (fun i hi=>by
   have:=h i (by omega);have:=hne i hi
   try dsimp only
   split <;> omega)
  refine⟨i,j,h1,by omega,?_⟩;have a1:=hne i (by omega);have a2:=hne j (by omega)
  try dsimp only at h3
  split at h3 <;> split at h3 <;> omega
theorem aMz{es:List Ed}(h:(aB9 es 16).pt≠0):(∀i,i≤16→inP (itr (aB9 es 16).ahd i (aB9 es 16).pt))∧
  ∃k,1≤k∧k≤16∧itr (aB9 es 16).ahd k (itr (aB9 es 16).ahd 16 (aB9 es 16).pt)=itr (aB9 es 16).ahd 16 (aB9 es 16).pt:=by
 have hI:=aH6 es 16;generalize aB9 es 16=s at *;have ht:=hI.pt h
 have key:∀i,i≤16→16≤s.t (itr s.ahd i s.pt)+i:=by
  intro i
  induction i with
  | zero=>intro _;rw[show itr s.ahd 0 s.pt=s.pt from rfl,ht];omega
  | succ i ih=>
   intro hi;have h1:=ih (by omega);rw[aCr];have h2:=(hI.pos (itr s.ahd i s.pt) (by omega)).2.2.1;omega
 have hin:∀i,i≤16→inP (itr s.ahd i s.pt):=by
  intro i hi
  match i,hi with
  | 0,_=>exact(hI.pos s.pt (by omega)).1
  | i+1,hi=>
   rw[aCr];exact(hI.pos (itr s.ahd i s.pt) (by have:=key i (by omega);omega)).2.1
 refine⟨hin,?_⟩
 obtain⟨i,j,h1,h2,h3⟩:=pigeon 16 (fun i=>(itr s.ahd i s.pt).toNat - 1) (fun i hi=>by
  have:=hin i hi;unfold inP at this
  try dsimp only
  omega)
 have h4:itr s.ahd i s.pt=itr s.ahd j s.pt:=by
  have a:=hin i (by omega);have b:=hin j h2;unfold inP at a b
  try dsimp only at h3
  omega
 refine⟨j - i,by omega,by omega,?_⟩;have e1:itr s.ahd 16 s.pt=itr s.ahd (16 - i) (itr s.ahd i s.pt):=by rw[←aBf,show i+(16 - i)=16 by omega]
 have e2:itr s.ahd (j - i) (itr s.ahd i s.pt)=itr s.ahd i s.pt:=by rw[←aBf,show i+(j - i)=j by omega,←h4]
 rw[e1,←aBf,Nat.add_comm,aBf,e2]
def wk(f:Int→Int→Int):Nat→Int→Int→Prop
 | 0,p,q=>p=q
 | n+1,p,q=>∃r,0<f p r∧wk f n r q
theorem aLl{f:Int→Int→Int}:∀{m n:Nat} {p r q:Int},wk f m p r→wk f n r q→wk f (m+n) p q
 | 0,n,p,r,q,h1,h2=>by
  have:p=r:=h1;subst this;rw[Nat.zero_add];exact h2
 | m+1,n,p,r,q,⟨x,h1,h3⟩,h2=>by
  rw[Nat.add_right_comm];exact⟨x,h1,aLl h3 h2⟩
theorem wk_one{f:Int→Int→Int}{p q:Int}(h:0<f p q):wk f 1 p q:=⟨q,h,rfl⟩
theorem wk_split{f:Int→Int→Int}:∀{m n:Nat} {p q:Int},wk f (m+n) p q→∃r,wk f m p r∧wk f n r q
 | 0,n,p,q,h=>⟨p,rfl,by rwa [Nat.zero_add]at h⟩
 | m+1,n,p,q,h=>by
  rw[Nat.add_right_comm]at h;obtain⟨x,h1,h2⟩:=h;obtain⟨r,h3,h4⟩:=wk_split h2;exact⟨r,⟨x,h1,h3⟩,h4⟩
theorem wk_last{f:Int→Int→Int}{n:Nat}{p q:Int}(h:wk f (n+1) p q):∃r,wk f n p r∧0<f r q:=by
 obtain⟨r,h1,x,h2,h3⟩:=wk_split (m:=n) (n:=1) h;have:x=q:=h3;subst this;exact⟨r,h1,h2⟩
def parts:List Int:=(List.range 16).map fun i:Nat=>(i:Int)+1
theorem aH7{p:Int}:p∈parts↔inP p:=by
 unfold parts inP;simp only[List.mem_map,List.mem_range]
 constructor
 ·rintro⟨i,hi,rfl⟩;omega
 rintro⟨h1,h2⟩;exact⟨p.toNat - 1,by omega,by omega⟩
theorem aLm(i:Nat)(h:i<parts.length):parts[i]=(i:Int)+1:=by simp[parts]
theorem aLn:parts.length=16:=by simp[parts]
def inS(f:Int→Int→Int)(p:Int):Nat→Int→Bool
 | 0,q=>q==p
 | n+1,q=>inS f p n q || parts.any fun r=>inS f p n r && decide (0<f r q)
theorem aBb{f:Int→Int→Int}{B:Int}(h:GInv f B)(p:Int):∀(n:Nat) (q:Int),inS f p n q=true↔∃m,m≤n∧wk f m p q
 | 0,q=>by
  unfold inS;rw[beq_iff_eq]
  constructor
  ·rintro rfl;exact⟨0,Nat.le_refl _,rfl⟩
  ·rintro⟨m,hm,hw⟩;have:m=0:=by omega
   subst this;exact(show p=q from hw).symm
 | n+1,q=>by
  show(inS f p n q || parts.any fun r=>inS f p n r && decide (0<f r q))=true↔_;rw[Bool.or_eq_true,List.any_eq_true]
  constructor
  ·rintro(h1|⟨r,hr,h2⟩)
   ·obtain⟨m,hm,hw⟩:=(aBb h p n q).1 h1;exact⟨m,by omega,hw⟩
   rw[Bool.and_eq_true,decide_eq_true_eq]at h2;obtain⟨m,hm,hw⟩:=(aBb h p n r).1 h2.1;exact⟨m+1,by omega,aLl hw (wk_one h2.2)⟩
  rintro⟨m,hm,hw⟩
  by_cases hmn:m≤n
  ·exact .inl ((aBb h p n q).2 ⟨m,hmn,hw⟩)
  have:m=n+1:=by omega
  subst this;obtain⟨r,h1,h2⟩:=wk_last hw;refine .inr ⟨r,aH7.2 (h.ends h2).1,?_⟩;rw[Bool.and_eq_true,decide_eq_true_eq];exact⟨(aBb h p n r).2 ⟨n,Nat.le_refl _,h1⟩,h2⟩
theorem aDu{f:Int→Int→Int}{p q:Int}{n m:Nat}(hn:n≤m)(h:inS f p n q=true):inS f p m q=true:=by
 induction m with
 | zero=>
      have:n=0:=by omega
      subst this;exact h
 | succ m ih=>
  by_cases hm:n≤m
  ·show(inS f p m q || _)=true;rw[ih hm];rfl
  have:n=m+1:=by omega
  subst this;exact h
theorem aHt{f:Int→Int→Int}:∀{m:Nat} {p q:Int},wk f m p q↔∃x:Nat→Int,x 0=p∧x m=q∧∀i,i<m→0<f (x i) (x (i+1))
 | 0,p,q=>by
  constructor
  ·intro h;exact⟨fun _=>p,rfl,h,fun i hi=>by omega⟩
  ·rintro⟨x,h1,h2,_⟩;exact h1.symm.trans h2
 | m+1,p,q=>by
  constructor
  ·rintro⟨r,h1,h2⟩;obtain⟨x,h3,h4,h5⟩:=aHt.1 h2;refine⟨fun i=>match i with|0=>p|i+1=>x i,rfl,h4,fun i hi=>?_⟩
   match i with
   | 0=>show 0<f p (x 0);rw[h3];exact h1
   | i+1=>exact h5 i (by omega)
  rintro⟨x,h1,h2,h3⟩;refine⟨x 1,?_,aHt.2 ⟨fun i=>x (i+1),rfl,h2,fun i hi=>h3 (i+1) (by omega)⟩⟩;rw[←h1];exact h3 0 (by omega)
theorem wk_short{f:Int→Int→Int}{B:Int}(h:GInv f B){p q:Int}:∀(m:Nat),wk f m p q→∃k,k≤15∧wk f k p q:=by
 intro m
 induction m using Nat.strongRecOn with
 | _ m ih=>
  intro hw
  by_cases hm:m≤15
  ·exact⟨m,hm,hw⟩
  obtain⟨x,h1,h2,h3⟩:=aHt.1 hw
  have hin:∀i,i≤16→inP (x i):=by
   intro i hi
   by_cases h0:i=0
   ·subst h0;exact(h.ends (h3 0 (by omega))).1
   have:=h3 (i - 1) (by omega);rw[show i - 1+1=i by omega]at this;exact(h.ends this).2.1
  obtain⟨i,j,c1,c2,c3⟩:=pigeon 16 (fun i=>(x i).toNat - 1) (fun i hi=>by
   have:=hin i hi;unfold inP at this
   try dsimp only
   omega)
  have hij:x i=x j:=by
   have a:=hin i (by omega);have b:=hin j c2;unfold inP at a b
   try dsimp only at c3
   omega
  have hw':wk f (m - (j - i)) p q:=by
   refine aHt.2 ⟨fun k=>if k≤i then x k else x (k+(j - i)),?_,?_,fun k hk=>?_⟩
   ·try dsimp only
    rw[if_pos (by omega)];exact h1
   ·try dsimp only
    by_cases hz:m - (j - i)≤i
    ·rw[if_pos hz,←h2];have:m=j:=by omega
     rw[show m - (j - i)=i by omega,this];exact hij
    rw[if_neg hz,←h2];congr 1;omega
   try dsimp only
   by_cases k1:k+1≤i
   ·rw[if_pos (by omega),if_pos k1];exact h3 k (by omega)
   rw[if_neg k1]
   by_cases k2:k≤i
   ·have:k=i:=by omega
    subst this;rw[if_pos k2,hij,show k+1+(j - k)=j+1 by omega];exact h3 j (by omega)
   rw[if_neg k2,show k+1+(j - i)=(k+(j - i))+1 by omega];exact h3 (k+(j - i)) (by omega)
  exact ih (m - (j - i)) (by omega) hw'
theorem aKe{f:Int→Int→Int}{B:Int}(h:GInv f B){p q:Int}{m:Nat}(hw:wk f m p q):inS f p 15 q=true:=by
 obtain⟨k,h1,h2⟩:=wk_short h m hw;exact(aBb h p 15 q).2 ⟨k,h1,h2⟩
def dst(f:Int→Int→Int)(p q:Int):Nat:=((List.range 17).find? fun n=>inS f p n q).getD 0
theorem aLo{f:Int→Int→Int}{p q:Int}{n:Nat}(hn:n≤16)(h:inS f p n q=true)(hm:∀m,m<n→inS f p m q=false):dst f p q=n:=by
 unfold dst
 have:(List.range 17).find? (fun n=>inS f p n q)=some n:=by
  rw[List.find?_eq_some_iff_getElem];refine⟨h,n,by simp;omega,by simp,fun j hj=>?_⟩;simp[hm j hj]
 rw[this];rfl
theorem aEa{f:Int→Int→Int}{p q:Int}(h:inS f p 16 q=true):inS f p (dst f p q) q=true∧dst f p q≤16∧∀m,m<dst f p q→inS f p m q=false:=by
 have key:∀n,n≤16→inS f p n q=true→∃k,k≤n∧inS f p k q=true∧∀m,m<k→inS f p m q=false:=by
  intro n
  induction n using Nat.strongRecOn with
  | _ n ih=>
   intro hn h1
   by_cases hx:∃m,m<n∧inS f p m q=true
   ·obtain⟨m,m1,m2⟩:=hx;obtain⟨k,k1,k2⟩:=ih m m1 (by omega) m2;exact⟨k,by omega,k2⟩
   refine⟨n,Nat.le_refl _,h1,fun m hm=>?_⟩
   cases hb:inS f p m q with
   | false=>rfl
   | true=>exact absurd ⟨m,hm,hb⟩ hx
 obtain⟨k,k1,k2,k3⟩:=key 16 yL h;rw[aLo k1 k2 k3];exact⟨k2,k1,k3⟩
def nxt(f:Int→Int→Int)(b:Int)(n:Nat)(p:Int):Int:=(parts.find? fun q=>decide (0<f p q) && inS f q n b).getD 0
def goS(f:Int→Int→Int)(b:Int):Nat→Int→List Int
 | 0,p=>[p]
 | n+1,p=>p::goS f b n (nxt f b n p)
def aAz(f:Int→Int→Int)(a b:Int):List Int:=if inP a∧inP b∧a≠b∧inS f a 16 b=true then goS f b (dst f a b) a else []
theorem aC9(f:Int→Int→Int)(b:Int):∀(n:Nat) (p:Int),(goS f b n p).length=n+1
 | 0,p=>rfl
 | n+1,p=>by show(goS f b n _).length+1=_;rw[aC9 f b n]
theorem parts_find{q:Int→Bool}{x:Int}(hx:inP x)(h:q x=true)(hm:∀y,inP y→y<x→q y=false):parts.find? q=some x:=by
 rw[List.find?_eq_some_iff_getElem];have hx':=hx;unfold inP at hx';refine⟨h,x.toNat - 1,by unfold parts;simp;omega,by unfold parts;simp;omega,fun j hj=>?_⟩
 have:q (parts[j]'(by unfold parts;simp;omega))=false:=by
  refine hm _ ?_ ?_
  ·unfold parts inP;simp;omega
  unfold parts;simp;omega
 simp[this]
theorem nxt_spec{f:Int→Int→Int}{B:Int}(h:GInv f B){p b:Int}{n:Nat}(h1:inS f p (n+1) b=true)(h2:inS f p n b=false)(hb:∀m,m≤n→inS f p m b=false):
  inP (nxt f b n p)∧0<f p (nxt f b n p)∧inS f (nxt f b n p) n b=true∧(∀m,m<n→inS f (nxt f b n p) m b=false)∧∀y,inP y→y<nxt f b n p→¬(0<f p y∧inS f y n b=true):=by
 obtain⟨m,hm,hw⟩:=(aBb h p (n+1) b).1 h1
 have hmn:m=n+1:=by
  rcases Nat.lt_or_ge n m with h3|h3
  ·omega
  have:=(aBb h p n b).2 ⟨m,h3,hw⟩;rw[h2]at this;cases this
 subst hmn;obtain⟨r,r1,r2⟩:=hw
 have hr:(decide (0<f p r) && inS f r n b)=true:=by
  rw[Bool.and_eq_true,decide_eq_true_eq];exact⟨r1,(aBb h r n b).2 ⟨n,Nat.le_refl _,r2⟩⟩
 cases hf:parts.find? fun q=>decide (0<f p q) && inS f q n b with
 | none=>
  have:=List.find?_eq_none.1 hf r (aH7.2 (h.ends r1).2.1);exact absurd hr this
 | some x=>
  have hx:nxt f b n p=x:=by unfold nxt;rw[hf];rfl
  rw[hx];obtain⟨hq,i,hi,hxi,hlt⟩:=List.find?_eq_some_iff_getElem.1 hf;rw[Bool.and_eq_true,decide_eq_true_eq]at hq;have hinx:inP x:=aH7.1 (List.mem_of_find?_eq_some hf);refine⟨hinx,hq.1,hq.2,fun m hm=>?_,fun y hy hyx hc=>?_⟩
  ·cases hc:inS f x m b with
   | false=>rfl
   | true=>
    obtain⟨k,k1,k2⟩:=(aBb h x m b).1 hc;have:=(aBb h p (m+1) b).2 ⟨k+1,by omega,x,hq.1,k2⟩;rw[hb (m+1) (by omega)]at this
    cases this
  unfold inP at hy hinx;have hpi:=aLm i hi;rw[aLn]at hi;have hj:y.toNat - 1<i:=by omega
  have:=hlt (y.toNat - 1) hj;have hy2:parts[y.toNat - 1]'(by rw[aLn];omega)=y:=by rw[aLm];omega
  rw[hy2]at this;simp[hc.1,hc.2]at this
def cycK(f:Int→Int)(a:Int):Nat:=(((List.range 16).map (· + 1)).find? fun k=>itr f k a==a).getD 0
theorem cycK_spec{f:Int→Int}{a:Int}(h:∃k,1≤k∧k≤16∧itr f k a=a):1≤cycK f a∧cycK f a≤16∧itr f (cycK f a) a=a∧∀i,1≤i→i<cycK f a→itr f i a≠a:=by
 obtain⟨k,k1,k2,k3⟩:=h;unfold cycK
 cases hf:((List.range 16).map (· + 1)).find? fun k=>itr f k a==a with
 | none=>
  have:=List.find?_eq_none.1 hf k (List.mem_map.2 ⟨k - 1,by simp;omega,by omega⟩);simp[k3]at this
 | some x=>
  obtain⟨hq,i,hi,hxi,hlt⟩:=List.find?_eq_some_iff_getElem.1 hf;have hx:x=i+1:=by rw[←hxi];simp
  have hi16:i<16:=by simpa using hi
  refine⟨by show 1≤x;omega,by show x≤16;omega,by simpa using hq,fun j j1 j2=>?_⟩;have j3:j<x:=j2;have:=hlt (j - 1) (by omega);simp only[List.getElem_map,List.getElem_range]at this;rw[show j - 1+1=j by omega]at this;simpa using this
theorem itr_inj{f:Int→Int}{a:Int}{K:Nat}(hK:itr f K a=a)(hm:∀i,1≤i→i<K→itr f i a≠a){i k:Nat}(hi:1≤i)(hik:i<k)(hk:k≤K):itr f i a≠itr f k a:=by
 intro h;refine hm (i+(K - k)) (by omega) (by omega) ?_;rw[aBf,h,←aBf,show k+(K - k)=K by omega,hK]
def aG8(f:Int→Int)(a:Int):Nat→Int
 | 0=>a
 | n+1=>min (aG8 f a n) (itr f (n+1) a)
theorem aJn(f:Int→Int)(a:Int):∀n,∃i,i≤n∧aG8 f a n=itr f i a
 | 0=>⟨0,Nat.le_refl _,rfl⟩
 | n+1=>by
  obtain⟨i,hi,he⟩:=aJn f a n
  by_cases h:aG8 f a n≤itr f (n+1) a
  ·exact⟨i,by omega,by show min _ _=_;rw[Int.min_eq_left h];exact he⟩
  exact⟨n+1,Nat.le_refl _,by show min _ _=_;exact Int.min_eq_right (by omega)⟩
theorem aLp(f:Int→Int)(a:Int):∀n i,i≤n→aG8 f a n≤itr f i a
 | 0,i,h=>by
  have:i=0:=by omega
  subst this;exact Int.le_refl _
 | n+1,i,h=>by
  show min (aG8 f a n) (itr f (n+1) a)≤_
  by_cases hi:i≤n
  ·have:=aLp f a n i hi;omega
  have:i=n+1:=by omega
  subst this;omega
def backL(f:Int→Int)(l:Int)(n:Nat):List Int:=l::((List.range n).map fun i=>itr f (i+1) l).reverse
def roundL(f:Int→Int)(a:Int):List Int:=backL f (aG8 f a (cycK f a - 1)) (cycK f a - 1)
def aG9(es:List Ed):List Int:=if(List.range 16).all (fun n=>(aB9 es (n+1)).pt != 0)then roundL (aB9 es 16).ahd (itr (aB9 es 16).ahd 16 (aB9 es 16).pt)else []
theorem backL_len(f:Int→Int)(l:Int)(n:Nat):(backL f l n).length=n+1:=by simp[backL]
theorem backL_get{f:Int→Int}{l:Int}{n:Nat}(hl:itr f (n+1) l=l){i:Nat}(hi:i≤n):(backL f l n)[i]? = some (itr f (n+1 - i) l):=by
 unfold backL
 match i,hi with
 | 0,_=>rw[List.getElem?_cons_zero,Nat.sub_zero,hl]
 | i+1,hi=>
  rw[List.getElem?_cons_succ,List.getElem?_reverse (by simp;omega),List.getElem?_map];simp only[List.length_map,List.length_range];rw[List.getElem?_range (by omega),Option.map_some];rw[show n - 1 - i+1=n+1 - (i+1) by omega]
theorem aLq{f:Int→Int}{a:Int}{K:Nat}(hK:itr f K a=a):∀m,itr f (m*K) a=a
 | 0=>by simp[itr]
 | m+1=>by rw[Nat.succ_mul,aBf,aLq hK m,hK]
structure IsRound(es:List Ed)(s:BF)(K:Nat)(l:Int):Prop where
 k1:1≤K
 k16:K≤16
 back:itr s.ahd K l=l
 apart:∀i,1≤i→i<K→itr s.ahd i l≠l
 ends:∀i,inP (itr s.ahd i l)
 least:∀i,l≤itr s.ahd i l
 edge:∀i,∃e∈es,e.fr=itr s.ahd (i+1) l∧e.tt=itr s.ahd i l∧e.co=s.w (itr s.ahd i l)
 cost:sumI s.ahd s.w K l<0
theorem aM0{es:List Ed}(h:aG9 es≠[]):∃K l,K=cycK (aB9 es 16).ahd (itr (aB9 es 16).ahd 16 (aB9 es 16).pt)∧l=aG8 (aB9 es 16).ahd (itr (aB9 es 16).ahd 16 (aB9 es 16).pt) (K - 1)∧(∀i,inP (itr (aB9 es 16).ahd i (itr (aB9 es 16).ahd 16 (aB9 es 16).pt)))∧IsRound es (aB9 es 16) K l∧aG9 es=backL (aB9 es 16).ahd l (K - 1):=by
 have hall:((List.range 16).all fun n=>(aB9 es (n+1)).pt != 0)=true:=by
  refine Classical.byContradiction fun hc=>h ?_
  unfold aG9;rw[if_neg hc]
 have hpt:(aB9 es 16).pt≠0:=by
  have:=List.all_eq_true.1 hall 15 (by simp);simpa using this
 have hW:aG9 es=roundL (aB9 es 16).ahd (itr (aB9 es 16).ahd 16 (aB9 es 16).pt):=by
  unfold aG9;rw[if_pos hall]
 rw[hW];obtain⟨r1,r2⟩:=aMz hpt;have hI:=aH6 es 16;generalize aB9 es 16=s at *;generalize ha:itr s.ahd 16 s.pt=a at *;obtain⟨c1,c2,c3,c4⟩:=cycK_spec r2;have hina:inP a:=by rw[←ha];exact r1 16 yL
 -- all of a's steps are parties
 have hret:∀v,∀k,1≤k→itr s.ahd k v=v→inP v→1≤s.t v:=by
  intro v k hk hv hin;rcases Nat.eq_zero_or_pos (s.t v)with h0|h0
  ·exfalso
   match k,hk with
   | k+1,_=>
    have:itr s.ahd k (s.ahd v)=v:=hv;rw[hI.zero v h0,hI.stay k]at this;have:=hin.1;omega
  exact h0
 have hper:∀i,itr s.ahd (cycK s.ahd a) (itr s.ahd i a)=itr s.ahd i a:=fun i=>by rw[←aBf,Nat.add_comm,aBf,c3]
 have hin:∀i,inP (itr s.ahd i a):=by
  intro i
  induction i with
  | zero=>exact hina
  | succ i ih=>rw[aCr];exact(hI.pos _ (hret _ _ c1 (hper i) ih)).2.1
 obtain⟨i0,i1,i2⟩:=aJn s.ahd a (cycK s.ahd a - 1);have hle:=aLp s.ahd a (cycK s.ahd a - 1)
 have hcyc:∀j,itr s.ahd j (itr s.ahd i0 a)=itr s.ahd i0 a→1≤j→¬j<cycK s.ahd a:=by
  intro j hj j1 j2;refine c4 j j1 j2 ?_;have e1:itr s.ahd (cycK s.ahd a - i0) (itr s.ahd j (itr s.ahd i0 a))=itr s.ahd (cycK s.ahd a - i0) (itr s.ahd i0 a):=by rw[hj]
  rw[←aBf,←aBf,←aBf,show i0+(cycK s.ahd a - i0)=cycK s.ahd a by omega,c3,show i0+(j+(cycK s.ahd a - i0))=cycK s.ahd a+j by omega,aBf,c3]at e1;exact e1
 refine⟨cycK s.ahd a,aG8 s.ahd a (cycK s.ahd a - 1),rfl,rfl,hin,⟨c1,c2,?_,?_,?_,?_,fun i=>?_,?_⟩,rfl⟩
 ·rw[i2];exact hper i0
 ·rw[i2];exact fun i h1 h2 h3=>hcyc i h3 h1 h2
 ·rw[i2];intro i;rw[←aBf];exact hin _
 ·rw[i2];intro i;rw[←aBf]
  have hmod:itr s.ahd (i0+i) a=itr s.ahd ((i0+i)%cycK s.ahd a) a:=by
   have:=Nat.div_add_mod (i0+i) (cycK s.ahd a);rw[←this,Nat.mul_comm,aBf,aLq c3,Nat.mul_comm,this]
  rw[hmod,←i2];have:=Nat.mod_lt (i0+i) (show 0<cycK s.ahd a by omega);exact hle _ (by omega)
 ·rw[i2,aCr,←aBf];obtain⟨_,_,_,_,q⟩:=hI.pos _ (hret _ _ c1 (hper (i0+i)) (hin (i0+i)));exact q
 rw[i2];exact hI.neg _ _ c1 (hper i0) (hin i0)
structure LeftI(f:Int→Int→Int)(b:Int)(n:Nat)(done:Int→Int→Prop)(left:Int→Int):Prop where
 lo:∀p,0≤left p∧left p≤99
 way:∀p,left p=99∨wk f (left p).toNat p b
 all:∀p m,m≤n→wk f m p b→left p≤m
 cur:∀p r,done p r→0<f p r→∀m,m≤n→wk f m r b→left p≤m+1
theorem LeftI.pass{f:Int→Int→Int}{B:Int}(g:GInv f B){b:Int}{n:Nat}{done:Int→Int→Prop}{left:Int→Int}(h:LeftI f b n done left)(hd:∀p r,inP p→inP r→done p r):LeftI f b (n+1) (fun _ _=>False) left:=by
 refine⟨h.lo,h.way,fun p m hm hw=>?_,fun p r hd=>hd.elim⟩
 match m,hm,hw with
 | 0,_,hw=>exact h.all p 0 (by omega) hw
 | m+1,hm,⟨r,h1,h2⟩=>
  obtain⟨e1,e2,_⟩:=g.ends h1;have:=h.cur p r (hd p r e1 e2) h1 m (by omega) h2;omega
theorem goS_at{f:Int→Int→Int}{B:Int}(g:GInv f B){b:Int}:∀(n:Nat) (p:Int),inP p→inS f p 16 b=true→dst f p b=n→
  ∀i (hi:i<(goS f b n p).length),inP (goS f b n p)[i]∧inS f (goS f b n p)[i] 16 b=true∧dst f (goS f b n p)[i] b+i=n∧
   ∀(hj:i+1<(goS f b n p).length),0<f (goS f b n p)[i] (goS f b n p)[i+1]∧∀z,inP z→z<(goS f b n p)[i+1]→0<f (goS f b n p)[i] z→¬(inS f z 16 b=true∧dst f z b+(i+1)=n)
 | 0,p,hp,hr,hd,i,hi=>by
  have h0:i=0:=by rw[aC9]at hi;omega
  subst h0;exact⟨hp,hr,hd,fun hj=>by rw[aC9]at hj;omega⟩
 | n+1,p,hp,hr,hd,i,hi=>by
  obtain⟨d1,d2,d3⟩:=aEa hr;rw[hd]at d1 d2 d3;obtain⟨n1,n2,n3,n4,n5⟩:=nxt_spec g d1 (d3 n (by omega)) (fun m hm=>d3 m (by omega));have hdn:=aLo (by omega) n3 n4;have ih:=goS_at g n (nxt f b n p) n1 (aDu (by omega) n3) hdn;have hlen:=aC9 f b n (nxt f b n p);have hl1:(goS f b (n+1) p).length=n+2:=aC9 f b (n+1) p
  match i,hi with
  | 0,hi=>
   refine⟨hp,hr,hd,fun hj=>?_⟩
   have e:(goS f b (n+1) p)[0+1]=nxt f b n p:=by
    show(goS f b n (nxt f b n p))[0]'(by rw[hlen];omega)=nxt f b n p
    cases n <;> rfl
   rw[e];refine⟨n2,fun z hz hzl hf hc=>n5 z hz hzl ⟨hf,?_⟩⟩;have:=(aEa hc.1).1;rw[show dst f z b=n by have:=hc.2;omega]at this;exact this
  | i+1,hi=>
   have hi':i<(goS f b n (nxt f b n p)).length:=by rw[hlen];rw[hl1]at hi;omega
   obtain⟨i1,i2,i3,i4⟩:=ih i hi';refine⟨i1,i2,?_,fun hj=>?_⟩
   ·show dst f ((goS f b n (nxt f b n p))[i]'hi') b+(i+1)=n+1;omega
   have hj':i+1<(goS f b n (nxt f b n p)).length:=by rw[hlen];rw[hl1]at hj;omega
   obtain⟨j1,j2⟩:=i4 hj';refine⟨j1,fun z hz hzl hf hc=>j2 z hz hzl hf ⟨hc.1,?_⟩⟩;have:=hc.2;omega
theorem goS_head(f:Int→Int→Int)(b:Int)(n:Nat)(p:Int):(goS f b n p)[0]'(by rw[aC9];omega)=p:=by cases n <;> rfl
theorem goS_last{f:Int→Int→Int}{B:Int}(g:GInv f B){b p:Int}{n:Nat}(hp:inP p)(hr:inS f p 16 b=true)(hd:dst f p b=n):(goS f b n p)[n]'(by rw[aC9];omega)=b:=by
 obtain⟨h1,h2,h3,_⟩:=goS_at g n p hp hr hd n (by rw[aC9];omega);have h4:dst f ((goS f b n p)[n]'(by rw[aC9];omega)) b=0:=by omega
 have h5:=(aEa h2).1;rw[h4]at h5;have:(b==(goS f b n p)[n]'(by rw[aC9];omega))=true:=h5;exact(beq_iff_eq.1 this).symm
end Go.Proofs.YtngnfdnfpiiclaaGreat
namespace Go.Proofs.YtngnfdnfpiiclaaGreat
open Go.RowKit
structure WayX(f:Int→Int→Int)(s t:Int)(x:Nat→Int)(m:Nat):Prop where
 x0:x 0=s
 xm:x m=t
 edge:∀i,i<m→0<f (x i) (x (i+1))
 ne:∀i j,i<j→j≤m→x i≠x j
 inp:∀i,i≤m→inP (x i)
 m1:1≤m
 m15:m≤15
 least:∀k,wk f k s t→m≤k
def wayX(f:Int→Int→Int)(s t:Int)(i:Nat):Int:=(aAz f s t).getD i 0
theorem wayX_of{f:Int→Int→Int}{B:Int}(h:GInv f B){s t:Int}(hne:aAz f s t≠[]):∃m,(aAz f s t).length=m+1∧WayX f s t (wayX f s t) m:=by
 unfold wayX;unfold aAz at hne ⊢
 by_cases hc:inP s∧inP t∧s≠t∧inS f s 16 t=true
 ·rw[if_pos hc];obtain⟨hs,ht,hst,hr⟩:=hc;have hat:=goS_at h (dst f s t) s hs hr rfl;have hlen:=aC9 f t (dst f s t) s;obtain⟨d1,d2,d3⟩:=aEa hr
  have hx:∀i (hi:i<(goS f t (dst f s t) s).length),(goS f t (dst f s t) s).getD i 0=(goS f t (dst f s t) s)[i]:=fun i hi=>by
   rw[List.getD_eq_getElem?_getD,List.getElem?_eq_getElem hi];rfl
  have hm1:1≤dst f s t:=by
   rcases Nat.eq_zero_or_pos (dst f s t)with h0|h0
   ·rw[h0]at d1;exact absurd (beq_iff_eq.1 (show(t==s)=true from d1)).symm hst
   exact h0
  refine⟨dst f s t,hlen,⟨?_,?_,fun i hi=>?_,fun i j hij hj=>?_,fun i hi=>?_,hm1,?_,fun k hk=>?_⟩⟩
  ·rw[hx 0 (by omega),goS_head]
  ·rw[hx _ (by omega)];exact goS_last h hs hr rfl
  ·rw[hx i (by omega),hx (i+1) (by omega)];exact((hat i (by omega)).2.2.2 (by omega)).1
  ·rw[hx i (by omega),hx j (by omega)];intro e;have h1:=(hat i (by omega)).2.2.1;have h2:=(hat j (by omega)).2.2.1;rw[e]at h1;omega
  ·rw[hx i (by omega)];exact(hat i (by omega)).1
  ·obtain⟨m,hm,hw⟩:=(aBb h s 16 t).1 hr;have:=aKe h hw;rcases Nat.lt_or_ge 15 (dst f s t)with hlt|hge
   ·rw[d3 15 hlt]at this;cases this
   exact hge
  rcases Nat.lt_or_ge k (dst f s t)with hlt|hge
  ·have:=(aBb h s k t).2 ⟨k,Nat.le_refl _,hk⟩;rw[d3 k hlt]at this;cases this
  exact hge
 rw[if_neg hc]at hne;exact absurd rfl hne
theorem way_none{f:Int→Int→Int}{B:Int}(h:GInv f B){s t:Int}(hs:inP s)(ht:inP t)(hst:s≠t)(h0:aAz f s t=[]):∀k,¬wk f k s t:=by
 intro k hk;unfold aAz at h0;rw[if_pos ⟨hs,ht,hst,aDu (by omega) (aKe h hk)⟩]at h0;have:=aC9 f t (dst f s t) s;rw[h0]at this;simp at this
theorem aHu{f:Int→Int→Int}{a b n p q:Int}(h1:¬(p=b∧q=a))(h2:¬(p=a∧q=b)):aBu f a b n p q=f p q:=by
 unfold aBu;rw[if_neg h1,if_neg h2]
theorem pushF_at{f:Int→Int→Int}{a b n:Int}(h:a≠b):aBu f a b n a b=f a b - n:=by
 unfold aBu;rw[if_neg (fun e=>h e.1),if_pos ⟨rfl,rfl⟩]
def aC4(f:Int→Int→Int)(x:Nat→Int)(n:Int):Nat→(Int→Int→Int)
 | 0=>f
 | i+1=>aBu (aC4 f x n i) (x i) (x (i+1)) n
def capX(f:Int→Int→Int)(x:Nat→Int)(n:Int):Nat→Int
 | 0=>n
 | i+1=>min (capX f x n i) (f (x i) (x (i+1)))
def flX(x:Nat→Int)(n:Int):Nat→List Fw
 | 0=>[]
 | i+1=>flX x n i++[⟨x i,x (i+1),n⟩]
theorem aM1(x:Nat→Int)(n:Int):∀i,(flX x n i).length=i
 | 0=>rfl
 | i+1=>by show(flX x n i++[_]).length=_;rw[List.length_append,aM1 x n i];rfl
theorem capX_le(f:Int→Int→Int)(x:Nat→Int)(n:Int):∀i,capX f x n i≤n
 | 0=>Int.le_refl _
 | i+1=>Int.le_trans (Int.min_le_left _ _) (capX_le f x n i)
theorem aLr(f:Int→Int→Int)(x:Nat→Int)(n:Int):∀i j,j<i→capX f x n i≤f (x j) (x (j+1))
 | i+1,j,h=>by
  by_cases e:j=i
  ·subst e;exact Int.min_le_right _ _
  exact Int.le_trans (Int.min_le_left _ _) (aLr f x n i j (by omega))
theorem capX_pos{f:Int→Int→Int}{x:Nat→Int}{n:Int}(h0:1≤n):∀i,(∀j,j<i→0<f (x j) (x (j+1)))→1≤capX f x n i
 | 0,_=>h0
 | i+1,h=>by
  have h1:=capX_pos h0 i (fun j hj=>h j (by omega));have h2:=h i (by omega);show 1≤min _ _;omega
theorem capX_is(f:Int→Int→Int)(x:Nat→Int)(n:Int):∀i,capX f x n i=n∨∃j,j<i∧capX f x n i=f (x j) (x (j+1))
 | 0=>.inl rfl
 | i+1=>by
  show min (capX f x n i) (f (x i) (x (i+1)))=n∨∃j,j<i+1∧min (capX f x n i) (f (x i) (x (i+1)))=f (x j) (x (j+1));rcases Int.le_total (capX f x n i) (f (x i) (x (i+1)))with h|h
  ·rw[Int.min_eq_left h];rcases capX_is f x n i with h1|⟨j,h1,h2⟩
   ·exact .inl h1
   exact .inr ⟨j,by omega,h2⟩
  rw[Int.min_eq_right h];exact .inr ⟨i,by omega,rfl⟩
variable{f:Int→Int→Int}{s t:Int}{x:Nat→Int}{m:Nat}{n:Int}
theorem aDl(h:WayX f s t x m):∀i j,i≤j→j<m→aC4 f x n i (x j) (x (j+1))=f (x j) (x (j+1))
 | 0,j,_,_=>rfl
 | i+1,j,hij,hj=>by
  show aBu (aC4 f x n i) (x i) (x (i+1)) n (x j) (x (j+1))=_;rw[aHu (fun e=>h.ne i (j+1) (by omega) (by omega) e.2.symm) (fun e=>h.ne i j (by omega) (by omega) e.1.symm)];exact aDl h i j (by omega) hj
theorem aHa(h:WayX f s t x m):∀i j,j<i→i≤m→aC4 f x n i (x j) (x (j+1))=f (x j) (x (j+1)) - n
 | i+1,j,hj,hi=>by
  show aBu (aC4 f x n i) (x i) (x (i+1)) n (x j) (x (j+1))=_
  by_cases e:j=i
  ·subst e;rw[pushF_at (h.ne j (j+1) (by omega) (by omega)),aDl h j j yL (by omega)]
  rw[aHu (fun e2=>h.ne j (i+1) (by omega) (by omega) e2.1) (fun e2=>h.ne j i (by omega) (by omega) e2.1)];exact aHa h i j (by omega) (by omega)
theorem aH8{B:Int}(hI:GInv f B)(h:WayX f s t x m)(h1:1≤n)(h2:∀j,j<m→n≤f (x j) (x (j+1))):∀i,i≤m→GInv (aC4 f x n i) B
 | 0,_=>hI
 | i+1,hi=>(aH8 hI h h1 h2 i (by omega)).push h1 (by rw[aDl h i i yL (by omega)];exact h2 i (by omega))
theorem aGp(h1:0≤n):∀i p q,0<aC4 f x n i p q→0<f p q∨∃j,j<i∧p=x (j+1)∧q=x j
 | 0,p,q,h=>.inl h
 | i+1,p,q,h=>by
  have h:0<aBu (aC4 f x n i) (x i) (x (i+1)) n p q:=h
  by_cases c1:p=x (i+1)∧q=x i
  ·exact .inr ⟨i,by omega,c1⟩
  have h2:0<aC4 f x n i p q:=by
   by_cases c2:p=x i∧q=x (i+1)
   ·unfold aBu at h;rw[if_neg c1,if_pos c2]at h;rw[c2.1,c2.2];omega
   rw[aHu c1 c2]at h;exact h
  rcases aGp h1 i p q h2 with h3|⟨j,h3,h4⟩
  ·exact .inl h3
  exact .inr ⟨j,by omega,h4⟩
def aJo(f:Int→Int→Int)(d:Int→Nat)(i:Nat):Bool:=decide (0<f (((i/16:Nat):Int)+1) (((i%16:Nat):Int)+1)) && (d (((i%16:Nat):Int)+1)==d (((i/16:Nat):Int)+1)+1)
def aH9(f:Int→Int→Int)(d:Int→Nat):Nat:=(List.range 256).countP (aJo f d)
theorem tightN_le(f:Int→Int→Int)(d:Int→Nat):aH9 f d≤256:=by
 have:=List.countP_le_length (p:=aJo f d) (l:=List.range 256);simpa [aH9]using this
theorem pair_ix{p q:Int}(hp:inP p)(hq:inP q):∃i,i<256∧((i/16:Nat):Int)+1=p∧((i%16:Nat):Int)+1=q:=by
 unfold inP at hp hq;refine⟨(p.toNat - 1)*16+(q.toNat - 1),by omega,by omega,by omega⟩
theorem aM2{p q:Nat→Bool}{l:List Nat}(h:∀x∈l,p x=true→q x=true){k:Nat}(hk:k∈l)(h1:q k=true)(h2:p k=false):l.countP p<l.countP q:=by
 obtain⟨a,b,rfl⟩:=List.append_of_mem hk;have ha:=List.countP_mono_left (l:=a) (p:=p) (q:=q) (fun x hx=>h x (by simp[hx]));have hb:=List.countP_mono_left (l:=b) (p:=p) (q:=q) (fun x hx=>h x (by simp[hx]));rw[List.countP_append,List.countP_append,List.countP_cons_of_pos h1,List.countP_cons_of_neg (by simp[h2])];omega
structure Lab(f:Int→Int→Int)(s t:Int)(d:Int→Nat):Prop where
 s0:d s=0
 t16:d t≤16
 le:∀u v,0<f u v→d v≤d u+1
theorem Lab.way{d:Int→Nat}(h:Lab f s t d)(hw:WayX f s t x m):∀i,i≤m→d (x i)≤i
 | 0,_=>by rw[hw.x0,h.s0];exact Nat.le_refl _
 | i+1,hi=>by
  have h1:=h.way hw i (by omega);have h2:=h.le _ _ (hw.edge i (by omega));omega
theorem Lab.rest{d:Int→Nat}(h:Lab f s t d)(hw:WayX f s t x m):∀k,k≤m→d (x m)≤d (x (m - k))+k
 | 0,_=>Nat.le_refl _
 | k+1,hk=>by
  have h1:=h.rest hw k (by omega);have h2:=h.le _ _ (hw.edge (m - (k+1)) (by omega));rw[show m - (k+1)+1=m - k by omega]at h2;omega
def dstL(f:Int→Int→Int)(s v:Int):Nat:=if inS f s 16 v=true then dst f s v else 16
theorem dst_lab{B:Int}(hI:GInv f B)(hw:WayX f s t x m):Lab f s t (dstL f s)∧dstL f s t=m:=by
 have hdl:∀v,dstL f s v≤16:=fun v=>by
  unfold dstL;split
  ·rename_i hv;exact(aEa hv).2.1
  exact Nat.le_refl _
 refine⟨⟨?_,hdl t,fun u v huv=>?_⟩,?_⟩
 ·have h0:inS f s 0 s=true:=by show(s==s)=true;simp
  unfold dstL;rw[if_pos (aDu (by omega) h0)];exact aLo (by omega) h0 (fun k hk=>by omega)
 ·by_cases hu:inS f s 16 u=true
  ·obtain⟨d1,d2,d3⟩:=aEa hu;obtain⟨k,k1,k2⟩:=(aBb hI s _ u).1 d1;have hv:wk f (k+1) s v:=aLl k2 (wk_one huv);have hv2:=aDu (m:=16) (by omega) (aKe hI hv);obtain⟨e1,e2,e3⟩:=aEa hv2;unfold dstL;rw[if_pos hu,if_pos hv2];rcases Nat.lt_or_ge (dst f s u+1) (dst f s v)with hlt|hge
   ·have:=e3 _ hlt;rw[(aBb hI s _ v).2 ⟨k+1,by omega,hv⟩]at this
    cases this
   exact hge
  have:dstL f s u=16:=by unfold dstL;rw[if_neg hu]
  rw[this];have:=hdl v;omega
 have hwk:∀i,i≤m→wk f i s (x i):=by
  intro i
  induction i with
  | zero=>intro _;exact hw.x0.symm
  | succ i ih=>intro hi;exact aLl (ih (by omega)) (wk_one (hw.edge i (by omega)))
 have hm:=hwk m yL;rw[hw.xm]at hm;have hin:inS f s m t=true:=(aBb hI s m t).2 ⟨m,Nat.le_refl _,hm⟩;have h15:=hw.m15;unfold dstL;rw[if_pos (aDu (by omega) hin)];refine aLo (by omega) hin fun k hk=>?_
 cases hc:inS f s k t with
 | false=>rfl
 | true=>
  obtain⟨j,j1,j2⟩:=(aBb hI s k t).1 hc;have:=hw.least j j2;omega
theorem Lab.push{B:Int}(hI:GInv f B){d:Int→Nat}(h:Lab f s t d)(hw:WayX f s t x m)(hd:∀i,i≤m→d (x i)=i)(h1:1≤n)(h2:∀j,j<m→n≤f (x j) (x (j+1)))(h3:∃j,j<m∧n=f (x j) (x (j+1))):
  Lab (aC4 f x n m) s t d∧aH9 (aC4 f x n m) d+1≤aH9 f d:=by
 refine⟨⟨h.s0,h.t16,fun u v huv=>?_⟩,?_⟩
 ·rcases aGp (by omega) m u v huv with q|⟨j,j1,rfl,rfl⟩
  ·exact h.le u v q
  rw[hd j (by omega),hd (j+1) (by omega)];omega
 obtain⟨j,j1,j2⟩:=h3;obtain⟨k,k1,k2,k3⟩:=pair_ix (hw.inp j (by omega)) (hw.inp (j+1) (by omega));refine aM2 (fun i hi hp=>?_) (List.mem_range.2 k1) ?_ ?_
 ·unfold aJo at hp ⊢;rw[Bool.and_eq_true,decide_eq_true_eq,beq_iff_eq]at hp ⊢;obtain⟨p1,p2⟩:=hp;refine⟨?_,p2⟩;rcases aGp (by omega) m _ _ p1 with q|⟨i',i1,e1,e2⟩
  ·exact q
  rw[e1,e2,hd i' (by omega),hd (i'+1) (by omega)]at p2;omega
 ·unfold aJo;rw[k2,k3,Bool.and_eq_true,decide_eq_true_eq,beq_iff_eq,hd j (by omega),hd (j+1) (by omega)];exact⟨hw.edge j j1,rfl⟩
 unfold aJo;rw[k2,k3,aHa hw m j j1 yL,←j2];simp
def Bud(f:Int→Int→Int)(s t:Int)(k:Nat):Prop:=∃d,Lab f s t d∧k+(16 - d t)*257+aH9 f d≤4112
theorem Bud.start(f:Int→Int→Int)(s t:Int):Bud f s t 0:=by
 refine⟨fun _=>0,⟨rfl,by omega,fun _ _ _=>by omega⟩,?_⟩
 have:aH9 f (fun _=>0)=0:=by
  unfold aH9;rw[List.countP_eq_zero];intro i _;unfold aJo;simp
 rw[this];dsimp only;omega
theorem Bud.le{k:Nat}(h:Bud f s t k):k≤4112:=by
 obtain⟨d,_,h⟩:=h;omega
theorem Bud.next{B:Int}{k:Nat}(hI:GInv f B)(h:Bud f s t k)(hw:WayX f s t x m)(h1:1≤n)(h2:∀j,j<m→n≤f (x j) (x (j+1)))(h3:∃j,j<m∧n=f (x j) (x (j+1))):
  Bud (aC4 f x n m) s t (k+1):=by
 obtain⟨d,hd,hb⟩:=h;have hup:=hd.way hw;have hre:=hd.rest hw;have ht:=hw.xm;have hm15:=hw.m15;have hdm:=hup m yL;rw[ht]at hdm
 by_cases he:d t=m
 ·have hall:∀i,i≤m→d (x i)=i:=fun i hi=>by
   have q1:=hup i hi;have q2:=hre (m - i) (by omega);rw[ht,show m - (m - i)=i by omega]at q2;omega
  obtain⟨l1,l2⟩:=hd.push hI hw hall h1 h2 h3;exact⟨d,l1,by omega⟩
 obtain⟨l1,l2⟩:=dst_lab hI hw;have hup:=l1.way hw;have hre:=l1.rest hw
 have hall:∀i,i≤m→dstL f s (x i)=i:=fun i hi=>by
  have q1:=hup i hi;have q2:=hre (m - i) (by omega);rw[ht,show m - (m - i)=i by omega]at q2;omega
 obtain⟨l3,l4⟩:=l1.push hI hw hall h1 h2 h3;have:=tightN_le f (dstL f s);refine⟨dstL f s,l3,?_⟩;rw[l2];omega
end Go.Proofs.YtngnfdnfpiiclaaGreat
namespace Go.Proofs.YtngnfdnfpiiclaaGreat
open Go.RowKit
def aGa:(Int→Int→Int)→List Fw→Prop
 | _,[]=>True
 | f,x::r=>1≤x.am∧x.am≤f x.fr x.tt∧aGa (aBu f x.fr x.tt x.am) r
def aHk(f:Int→Int→Int)(l:List Fw):Int→Int→Int:=l.foldl (fun g x=>aBu g x.fr x.tt x.am) f
theorem aHb(f:Int→Int→Int)(a b:List Fw):aHk f (a++b)=aHk (aHk f a) b:=by unfold aHk;rw[List.foldl_append]
theorem aEu:∀(a:List Fw) (f:Int→Int→Int) (b:List Fw),aGa f (a++b)↔aGa f a∧aGa (aHk f a) b
 | [],f,b=>by simp[aGa,aHk]
 | x::a,f,b=>by
  have ih:=aEu a (aBu f x.fr x.tt x.am) b;show(1≤x.am∧x.am≤f x.fr x.tt∧aGa (aBu f x.fr x.tt x.am) (a++b))↔(1≤x.am∧x.am≤f x.fr x.tt∧aGa (aBu f x.fr x.tt x.am) a)∧aGa (aHk (aBu f x.fr x.tt x.am) a) b;rw[ih]
  constructor
  ·rintro⟨h1,h2,h3,h4⟩;exact⟨⟨h1,h2,h3⟩,h4⟩
  rintro⟨⟨h1,h2,h3⟩,h4⟩;exact⟨h1,h2,h3,h4⟩
theorem aKf(f:Int→Int→Int)(x:Nat→Int)(n:Int):∀i,aHk f (flX x n i)=aC4 f x n i
 | 0=>rfl
 | i+1=>by
  show aHk f (flX x n i++[_])=_;rw[aHb,aKf f x n i];rfl
theorem flX_good{f:Int→Int→Int}{s t:Int}{x:Nat→Int}{m:Nat}{n:Int}(h:WayX f s t x m)(h1:1≤n)(h2:∀j,j<m→n≤f (x j) (x (j+1))):∀i,i≤m→aGa f (flX x n i)
 | 0,_=>trivial
 | i+1,hi=>by
  show aGa f (flX x n i++[_]);rw[aEu,aKf];refine⟨flX_good h h1 h2 i (by omega),h1,?_,trivial⟩;show n≤aC4 f x n i (x i) (x (i+1));rw[aDl h i i yL (by omega)];exact h2 i (by omega)
theorem flX_mem{x:Nat→Int}{n:Int}{e:Fw}:∀{i:Nat},e∈flX x n i→∃j,j<i∧e=⟨x j,x (j+1),n⟩
 | i+1,h=>by
  have h:e∈flX x n i++[⟨x i,x (i+1),n⟩]:=h;rcases List.mem_append.1 h with h|h
  ·obtain⟨j,h1,h2⟩:=flX_mem h;exact⟨j,by omega,h2⟩
  exact⟨i,by omega,by simpa using h⟩
def netL:List Fw→Int→Int
 | [],_=>0
 | x::r,p=>(if x.tt=p then x.am else 0) - (if x.fr=p then x.am else 0)+netL r p
theorem aFo(p:Int):∀(a b:List Fw),netL (a++b) p=netL a p+netL b p
 | [],b=>by simp[netL]
 | x::a,b=>by
  show _+netL (a++b) p=(_+netL a p)+netL b p;rw[aFo p a b];omega
theorem netL_flX(x:Nat→Int)(n p:Int):∀i,netL (flX x n i) p=(if x i=p then n else 0) - (if x 0=p then n else 0)
 | 0=>by show(0:Int)=_;omega
 | i+1=>by
  show netL (flX x n i++[_]) p=_;rw[aFo,netL_flX x n p i];show _+((if x (i+1)=p then n else 0) - (if x i=p then n else 0)+0)=_;omega
def aDd(g:Nat→Int):Nat→Int
 | 0=>0
 | k+1=>aDd g k+g k
theorem aIa(g h:Nat→Int):∀k,aDd (fun i=>g i+h i) k=aDd g k+aDd h k
 | 0=>rfl
 | k+1=>by
  show aDd (fun i=>g i+h i) k+(g k+h k)=(aDd g k+g k)+(aDd h k+h k);rw[aIa g h k];omega
theorem aFp{g h:Nat→Int}:∀k,(∀i,i<k→g i=h i)→aDd g k=aDd h k
 | 0,_=>rfl
 | k+1,e=>by
  show aDd g k+g k=aDd h k+h k;rw[aFp k (fun i hi=>e i (by omega)),e k (by omega)]
theorem aIb(j:Nat)(c:Int):∀k,aDd (fun i=>if i=j then c else 0) k=if j<k then c else 0
 | 0=>by simp[aDd]
 | k+1=>by
  show aDd (fun i=>if i=j then c else 0) k+(if k=j then c else 0)=_;rw[aIb j c k]
  by_cases e:k=j
  ·subst e;rw[if_neg (by omega),if_pos rfl,if_pos (by omega)];omega
  rw[if_neg e]
  by_cases h:j<k
  ·rw[if_pos h,if_pos (by omega)];omega
  rw[if_neg h,if_neg (by omega)];omega
theorem sumTo_bd{g:Nat→Int}{B:Int}:∀k,(∀i,i<k→0≤g i∧g i≤B)→0≤aDd g k∧aDd g k≤B*k
 | 0,_=>by simp[aDd]
 | k+1,h=>by
  have h1:=sumTo_bd k (fun i hi=>h i (by omega));have h2:=h k (by omega);show 0≤aDd g k+g k∧aDd g k+g k≤B*((k+1:Nat):Int);rw[Int.natCast_succ,Int.mul_add,Int.mul_one];omega
def pU(i:Nat):Int:=((i/16:Nat):Int)+1
def pV(i:Nat):Int:=((i%16:Nat):Int)+1
def outK(f:Int→Int→Int)(S:Int→Bool)(k:Nat):Int:=aDd (fun i=>if S (pU i) && !S (pV i)then f (pU i) (pV i)else 0) k
def outS(f:Int→Int→Int)(S:Int→Bool):Int:=outK f S 256
theorem outK_bd{f:Int→Int→Int}{B:Int}(h:GInv f B)(S:Int→Bool)(k:Nat):0≤outK f S k∧outK f S k≤B*k:=by
 have hB:0≤B:=by have:=h.nn 1 1;have:=h.le 1 1;omega
 refine sumTo_bd k fun i _=>?_
 split
 ·exact⟨h.nn _ _,h.le _ _⟩
 exact⟨Int.le_refl _,hB⟩
theorem pUV_inj{i j:Nat}(h1:pU i=pU j)(h2:pV i=pV j):i=j:=by
 unfold pU at h1;unfold pV at h2;omega
theorem pair_pUV{p q:Int}(hp:inP p)(hq:inP q):∃i,i<256∧pU i=p∧pV i=q:=pair_ix hp hq
theorem pushF_back(f:Int→Int→Int)(a b n:Int):aBu f a b n b a=f b a+n:=by
 unfold aBu;rw[if_pos ⟨rfl,rfl⟩]
theorem outS_push(f:Int→Int→Int)(S:Int→Bool){a b:Int}(n:Int)(ha:inP a)(hb:inP b)(hab:a≠b):
  outS (aBu f a b n) S=outS f S+(if S b=true∧S a=false then n else 0) - (if S a=true∧S b=false then n else 0):=by
 obtain⟨k1,k1l,k1u,k1v⟩:=pair_pUV hb ha;obtain⟨k2,k2l,k2u,k2v⟩:=pair_pUV ha hb;have hk:k1≠k2:=by rintro rfl;exact hab (k2u.symm.trans k1u)
 have e:outS (aBu f a b n) S=aDd (fun i=>((if S (pU i) && !S (pV i)then f (pU i) (pV i)else 0)+(if i=k1 then(if S b=true∧S a=false then n else 0)else 0))+(if i=k2 then -(if S a=true∧S b=false then n else 0)else 0)) 256:=by
  refine aFp 256 fun i hi=>?_
  by_cases e1:i=k1
  ·subst e1;rw[if_pos rfl,if_neg hk,k1u,k1v];rw[pushF_back]
   cases S b <;> cases S a <;> simp
  by_cases e2:i=k2
  ·subst e2;rw[if_neg e1,if_pos rfl,k2u,k2v];rw[pushF_at hab]
   cases S b <;> cases S a <;> simp <;> omega
  rw[if_neg e1,if_neg e2];rw[aHu (fun h=>e1 (pUV_inj (h.1.trans k1u.symm) (h.2.trans k1v.symm))) (fun h=>e2 (pUV_inj (h.1.trans k2u.symm) (h.2.trans k2v.symm)))];omega
 rw[e,aIa,aIa,aIb,aIb,if_pos k1l,if_pos k2l];unfold outS outK;omega
theorem outS_way{f:Int→Int→Int}{s t:Int}{x:Nat→Int}{m:Nat}(h:WayX f s t x m)(n:Int)(S:Int→Bool):∀i,i≤m→outS (aC4 f x n i) S=outS f S - (if S (x 0)=true then n else 0)+(if S (x i)=true then n else 0)
 | 0,_=>by show outS f S=_;omega
 | i+1,hi=>by
  show outS (aBu (aC4 f x n i) (x i) (x (i+1)) n) S=_;rw[outS_push _ S n (h.inp i (by omega)) (h.inp (i+1) hi) (h.ne i (i+1) (by omega) hi),outS_way h n S i (by omega)]
  cases S (x i) <;> cases S (x (i+1)) <;> simp <;> omega
structure RS where
 f:Int→Int→Int
 left:Int
 out:List Fw
def aDe(s t:Int)(σ:RS):Prop:=σ.left≤0∨aAz σ.f s t=[]
instance(s t:Int)(σ:RS):Decidable (aDe s t σ):=by unfold aDe;infer_instance
def wayR(s t:Int)(σ:RS):RS:=
 ⟨aC4 σ.f (wayX σ.f s t) (capX σ.f (wayX σ.f s t) σ.left ((aAz σ.f s t).length - 1)) ((aAz σ.f s t).length - 1),σ.left - capX σ.f (wayX σ.f s t) σ.left ((aAz σ.f s t).length - 1),
  σ.out++flX (wayX σ.f s t) (capX σ.f (wayX σ.f s t) σ.left ((aAz σ.f s t).length - 1)) ((aAz σ.f s t).length - 1)⟩
def stepR(s t:Int)(σ:RS):RS:=if aDe s t σ then σ else wayR s t σ
def itR(s t:Int)(σ:RS):Nat→RS
 | 0=>σ
 | k+1=>stepR s t (itR s t σ k)
theorem aKg{s t:Int}{σ:RS}{k:Nat}(h:aDe s t (itR s t σ k)):∀j,itR s t σ (k+j)=itR s t σ k
 | 0=>rfl
 | j+1=>by
  show stepR s t (itR s t σ (k+j))=_;rw[aKg h j];unfold stepR;rw[if_pos h]
structure RInv(f0:Int→Int→Int)(B s t want:Int)(k:Nat)(σ:RS):Prop where
 k5:k≤4113
 at_:σ=itR s t ⟨f0,want,[]⟩ k
 g:GInv σ.f B
 good:aGa f0 σ.out
 fold:aHk f0 σ.out=σ.f
 lo:0≤σ.left∨σ.left=want
 hi:σ.left≤want
 len:σ.out.length≤15*k
 bud:0<σ.left→Bud σ.f s t k
 net:∀p,netL σ.out p=(if t=p then want - σ.left else 0) - (if s=p then want - σ.left else 0)
 cut:∀S:Int→Bool,S s=true→S t=false→outS σ.f S=outS f0 S - (want - σ.left)
 els:∀e∈σ.out,inP e.fr∧inP e.tt∧e.fr≠e.tt∧1≤e.am∧e.am≤B
theorem RInv.start{f0:Int→Int→Int}{B:Int}(h:GInv f0 B)(s t want:Int):RInv f0 B s t want 0 ⟨f0,want,[]⟩:=by
 refine⟨by omega,rfl,h,trivial,rfl,.inr rfl,Int.le_refl _,by simp,fun _=>Bud.start f0 s t,fun p=>?_,fun S _ _=>?_,by simp⟩
 ·show(0:Int)=(if t=p then want - want else 0) - (if s=p then want - want else 0);rw[Int.sub_self];split <;> split <;> omega
 show outS f0 S=outS f0 S - (want - want);omega
theorem RInv.way{f0:Int→Int→Int}{B s t want:Int}{k:Nat}{σ:RS}(h:RInv f0 B s t want k σ)(hd:¬aDe s t σ):∃m n,(aAz σ.f s t).length=m+1∧WayX σ.f s t (wayX σ.f s t) m∧n=capX σ.f (wayX σ.f s t) σ.left m∧1≤n∧n≤σ.left∧(∀j,j<m→n≤σ.f (wayX σ.f s t j) (wayX σ.f s t (j+1)))∧
  wayR s t σ=⟨aC4 σ.f (wayX σ.f s t) n m,σ.left - n,σ.out++flX (wayX σ.f s t) n m⟩:=by
 have h1:0<σ.left:=by
  rcases Int.lt_or_le 0 σ.left with q|q
  ·exact q
  exact absurd (.inl q) hd
 have h2:aAz σ.f s t≠[]:=fun e=>hd (.inr e)
 obtain⟨m,hm,hw⟩:=wayX_of h.g h2;refine⟨m,_,hm,hw,rfl,capX_pos (by omega) m hw.edge,capX_le _ _ _ _,fun j hj=>aLr _ _ _ m j hj,?_⟩;unfold wayR;rw[hm,Nat.add_sub_cancel]
theorem RInv.step{f0:Int→Int→Int}{B s t want:Int}{k:Nat}{σ:RS}(h:RInv f0 B s t want k σ)(hd:¬aDe s t σ):RInv f0 B s t want (k+1) (wayR s t σ):=by
 obtain⟨m,n,hm,hw,hn,n1,n2,n3,he⟩:=h.way hd;have hpos:0<σ.left:=by omega
 have hk:=(h.bud hpos).le;rw[he];refine⟨by omega,?_,aH8 h.g hw n1 n3 m yL,?_,?_,?_,?_,?_,fun hl=>?_,fun p=>?_,fun S hs ht=>?_,fun e hmem=>?_⟩
 ·rw[←he];show _=stepR s t (itR s t ⟨f0,want,[]⟩ k);rw[←h.at_];unfold stepR;rw[if_neg hd]
 ·show aGa f0 (σ.out++_);rw[aEu,h.fold];exact⟨h.good,flX_good hw n1 n3 m yL⟩
 ·show aHk f0 (σ.out++_)=_;rw[aHb,h.fold,aKf]
 ·left;show 0≤σ.left - n;omega
 ·show σ.left - n≤want;have:=h.hi;omega
 ·show(σ.out++_).length≤_;rw[List.length_append,aM1];have:=h.len;have:=hw.m15;omega
 ·have hl:0<σ.left - n:=hl;refine(h.bud hpos).next h.g hw n1 n3 ?_;rcases capX_is σ.f (wayX σ.f s t) σ.left m with q|⟨j,q1,q2⟩
  ·rw[←hn]at q;omega
  exact⟨j,q1,hn.trans q2⟩
 ·show netL (σ.out++_) p=(if t=p then want - (σ.left - n)else 0) - (if s=p then want - (σ.left - n)else 0);rw[aFo,h.net p,netL_flX,hw.x0,hw.xm];split <;> split <;> omega
 ·show outS (aC4 σ.f (wayX σ.f s t) n m) S=outS f0 S - (want - (σ.left - n));rw[outS_way hw n S m yL,hw.x0,hw.xm,h.cut S hs ht,hs,ht];simp;omega
 have hmem:e∈σ.out++flX (wayX σ.f s t) n m:=hmem;rcases List.mem_append.1 hmem with q|q
 ·exact h.els e q
 obtain⟨j,j1,rfl⟩:=flX_mem q;have:=n3 j j1;have:=h.g.le (wayX σ.f s t j) (wayX σ.f s t (j+1));exact⟨hw.inp j (by omega),hw.inp (j+1) (by omega),hw.ne j (j+1) (by omega) (by omega),n1,by show n≤B;omega⟩
def aAm(f0:Int→Int→Int)(B s t want:Int)(σ:RS):Prop:=∃k,RInv f0 B s t want k σ∧aDe s t σ
theorem aAm.eq{f0:Int→Int→Int}{B s t want:Int}{σ τ:RS}(h:aAm f0 B s t want σ)(g:aAm f0 B s t want τ):σ=τ:=by
 obtain⟨k,h1,h2⟩:=h;obtain⟨j,g1,g2⟩:=g;have a1:=h1.at_;have a2:=g1.at_;rw[a1]at h2 ⊢;rw[a2]at g2 ⊢;rcases Nat.le_total k j with q|q
 ·have:=aKg h2 (j - k);rw[show k+(j - k)=j by omega]at this;exact this.symm
 have:=aKg g2 (k - j);rw[show j+(k - j)=k by omega]at this;exact this
theorem aM3{f:Int→Int→Int}{B:Int}(h:GInv f B){S:Int→Bool}(hS:∀a b,S a=true→0<f a b→S b=true):outS f S=0:=by
 have:outS f S=aDd (fun _=>0) 256:=by
  refine aFp 256 fun i _=>?_
  cases h1:S (pU i)with
  | false=>rfl
  | true=>
   cases h2:S (pV i)with
   | true=>rfl
   | false=>
    have h3:=h.nn (pU i) (pV i)
    by_cases h4:0<f (pU i) (pV i)
    ·rw[hS _ _ h1 h4]at h2;cases h2
    show f (pU i) (pV i)=0;omega
 rw[this]
 have hz:∀k,aDd (fun _=>0) k=0:=by
  intro k
  induction k with
  | zero=>rfl
  | succ k ih=>show aDd (fun _=>0) k+0=0;omega
 exact hz 256
theorem aAm.n0{f0:Int→Int→Int}{B s t want:Int}{σ:RS}(h:aAm f0 B s t want σ):0≤want - σ.left:=by
 obtain⟨k,h,_⟩:=h;have:=h.hi;omega
theorem aAm.nw{f0:Int→Int→Int}{B s t want:Int}{σ:RS}(h:aAm f0 B s t want σ)(hw:1≤want):want - σ.left≤want:=by
 obtain⟨k,h,_⟩:=h;have:=h.lo;omega
theorem aAm.g{f0:Int→Int→Int}{B s t want:Int}{σ:RS}(h:aAm f0 B s t want σ):GInv σ.f B:=by
 obtain⟨k,h,_⟩:=h;exact h.g
theorem aAm.cut{f0:Int→Int→Int}{B s t want:Int}{σ:RS}(h:aAm f0 B s t want σ)(S:Int→Bool)(hs:S s=true)(ht:S t=false):outS σ.f S=outS f0 S - (want - σ.left):=by
 obtain⟨k,h,_⟩:=h;exact h.cut S hs ht
theorem aAm.le_cut{f0:Int→Int→Int}{B s t want:Int}{σ:RS}(h:aAm f0 B s t want σ){S:Int→Bool}(hs:S s=true)(ht:S t=false):want - σ.left≤outS f0 S:=by
 have h1:=h.cut S hs ht;have h2:=(outK_bd h.g S 256).1;unfold outS at h1;show _≤outK f0 S 256;omega
def aIc(f:Int→Int→Int)(s:Int)(v:Int):Bool:=inS f s 16 v
theorem aKh{f:Int→Int→Int}{B:Int}(h:GInv f B)(s:Int):∀a b,aIc f s a=true→0<f a b→aIc f s b=true:=fun a b h1 h2=>by
 obtain⟨k,_,k2⟩:=(aBb h s 16 a).1 h1;exact aDu (by omega) (aKe h (aLl k2 (wk_one h2)))
theorem aFq(f:Int→Int→Int)(s:Int):aIc f s s=true:=aDu (n:=0) (by omega) (by show(s==s)=true;simp)
theorem aAm.less{f0:Int→Int→Int}{B s t want:Int}{σ:RS}(h:aAm f0 B s t want σ)(hs:inP s)(ht:inP t)(hst:s≠t)(hl:want - σ.left<want):
  aIc σ.f s t=false∧outS f0 (aIc σ.f s)=want - σ.left:=by
 have hg:=h.g;have hcut:=h.cut;obtain⟨k,hI,hD⟩:=h
 have h0:aAz σ.f s t=[]:=by
  rcases hD with q|q
  ·omega
  exact q
 have hno:=way_none hg hs ht hst h0
 have hrt:aIc σ.f s t=false:=by
  cases hc:aIc σ.f s t with
  | false=>rfl
  | true=>
   obtain⟨k,_,k2⟩:=(aBb hg s 16 t).1 hc;exact absurd k2 (hno k)
 refine⟨hrt,?_⟩;have h1:=hcut _ (aFq σ.f s) hrt;rw[aM3 hg (aKh hg s)]at h1;omega
def aC5:Int:=4611686018427387904
theorem most_bd{f0:Int→Int→Int}{s t:Int}{μ:RS}(h:aAm f0 4398046511104 s t aC5 μ)(h0:GInv f0 4398046511104)(hst:s≠t):0≤aC5 - μ.left∧aC5 - μ.left≤1125899906842624:=by
 have h2:=h.le_cut (S:=fun v=>v==s) (by simp) (by simpa using fun e=>hst e.symm);have h3:=(outK_bd h0 (fun v=>v==s) 256).2;unfold outS at h2;have:=h.n0;omega
theorem most_cut{f0:Int→Int→Int}{s t:Int}{μ:RS}(h:aAm f0 4398046511104 s t aC5 μ)(h0:GInv f0 4398046511104)(hs:inP s)(ht:inP t)(hst:s≠t):∃S:Int→Bool,S s=true∧S t=false∧outS f0 S=aC5 - μ.left:=by
 have hb:=most_bd h h0 hst;obtain⟨h1,h2⟩:=h.less hs ht hst (by unfold aC5 at hb ⊢;omega);exact⟨_,aFq _ _,h1,h2⟩
theorem route_min{f0:Int→Int→Int}{s t want:Int}{σ μ:RS}(hR:aAm f0 4398046511104 s t want σ)(hM:aAm f0 4398046511104 s t aC5 μ)(h0:GInv f0 4398046511104)(hs:inP s)(ht:inP t)(hst:s≠t)(hw:1≤want):
  want - σ.left=min want (aC5 - μ.left):=by
 obtain⟨S,h1,h2,h3⟩:=most_cut hM h0 hs ht hst;have h4:=hR.le_cut h1 h2;have h5:=hR.nw hw
 by_cases hl:want - σ.left<want
 ·obtain⟨h6,h7⟩:=hR.less hs ht hst hl;have h8:=hM.le_cut (aFq σ.f s) h6;omega
 omega
def arr(f:Nat→Bool):Array Value:=Array.ofFn (n:=192) fun i=>Value.bool (f i)
attribute [irreducible] arr
theorem aDm{P:Program}{ops:Array Oper}{rest:List Oper}{o:Oper}{a:Act}{w:World}{Q:Exit→Act→World→Prop}(hgd:o.guard=none)(t:TypeId)(parts:Array (Nat×Operand))(ho:o.op=.build t parts)
  (ps:Array (Nat×Value))(hp:(parts.map fun(i,x)=>(i,a.eval x))=ps)(cells:Array Value)(hrun:(Instr.build t ps).run P w=.ok (.agg cells) w)
  (h:wpList P ops Q rest (a.put o.dst (.agg cells)) w):wpList P ops Q (o::rest) a w:=
 wpList_plain hgd fun _ hK=>by
  unfold Oper.wp execOp;simp only[ho,hp,Sem.run_bind,hrun,Result.andThen_ok];exact hK _ _ h
theorem aM4{P:Program}{o:Oper}{a:Act}{w:World}{K:Act→World→Prop}{Q:Exit→Act→World→Prop}(t:TypeId)(parts:Array (Nat×Operand))(ho:o.op=.build t parts)
  (ps:Array (Nat×Value))(hp:(parts.map fun(i,x)=>(i,a.eval x))=ps)(cells:Array Value)(hrun:(Instr.build t ps).run P w=.ok (.agg cells) w)
  (h:K (a.put o.dst (.agg cells)) w):o.wp P a w K Q:=by
 unfold Oper.wp execOp;simp only[ho,hp,Sem.run_bind,hrun,Result.andThen_ok];exact h
theorem Blk.row{w:World}{g:Nat}{old cs:Array Value}{t:TypeId}(h:Blk w g old t):Blk (w.setRow g cs) g cs t:=setRow_heap w g old cs t (0,0) h
def gridA(v:Int→Int→Value):Array Value:=Array.ofFn (n:=289) fun i=>v ((i.val/17:Nat):Int) ((i.val%17:Nat):Int)
theorem gridA_size(v:Int→Int→Value):(gridA v).size=289:=by simp[gridA]
theorem gridA_get(v:Int→Int→Value){i:Nat}(h:i<289):(gridA v)[i]? = some (v ((i/17:Nat):Int) ((i%17:Nat):Int)):=by simp[gridA,h]
def rowA(v:Int→Int→Value)(p:Int):Array Value:=Array.ofFn (n:=17) fun i=>v p ((i.val:Nat):Int)
theorem aDn(v:Int→Int→Value)(p:Int):(rowA v p).size=17:=by simp[rowA]
theorem aE8(v:Int→Int→Value)(p:Int){i:Nat}(h:i<17):(rowA v p)[i]? = some (v p i):=by simp[rowA,h]
def graC(f:Int→Int→Int)(b:Bool):Array Value:=Array.ofFn (n:=290) fun i=>if i.val=289 then .bool b else .int .i64 (f ((i.val/17:Nat):Int) ((i.val%17:Nat):Int))
theorem aId(f:Int→Int→Int)(b:Bool):(graC f b).size=290:=by simp[graC]
theorem aIe(f:Int→Int→Int)(b:Bool):(graC f b)[289]? = some (.bool b):=by simp[graC]
theorem aHv(f:Int→Int→Int)(b:Bool){i:Nat}(h:i<289):(graC f b)[i]? = some (.int .i64 (f ((i/17:Nat):Int) ((i%17:Nat):Int))):=by
 have h1:i<290:=by omega
 have h2:i≠289:=by omega
 simp[graC,h1,h2]
theorem graC_at(f:Int→Int→Int)(b:Bool){p q:Nat}(hp:p<17)(hq:q<17):(graC f b)[p*17+q]? = some (.int .i64 (f p q)):=by
 rw[aHv _ _ (by omega),show(p*17+q)/17=p by omega,show(p*17+q)%17=q by omega]
theorem graC_set(f:Int→Int→Int)(b:Bool){p q:Nat}(hp:p<17)(hq:q<17)(n:Int):(graC f b).setIfInBounds (p*17+q) (.int .i64 n)=graC (updE f p q n) b:=by
 apply Array.ext_getElem?;intro j
 by_cases hj:j<289
 ·rw[aHv _ _ hj];unfold updE
  by_cases hi:p*17+q=j
  ·subst hi;rw[Array.getElem?_setIfInBounds_self_of_lt (by rw[aId];omega),show(p*17+q)/17=p by omega,show(p*17+q)%17=q by omega,if_pos ⟨rfl,rfl⟩]
  rw[Array.getElem?_setIfInBounds_ne hi,aHv _ _ hj,if_neg];rintro⟨e1,e2⟩;omega
 by_cases h2:j=289
 ·subst h2;rw[Array.getElem?_setIfInBounds_ne (by omega),aIe,aIe]
 rw[Array.getElem?_eq_none (by simp[aId];omega),Array.getElem?_eq_none (by rw[aId];omega)]
theorem aGq{f g:Int→Int→Int}(b:Bool)(h:∀p q:Nat,p<17→q<17→f p q=g p q):graC f b=graC g b:=by
 unfold graC;congr 1
 funext i
 by_cases hi:i.val=289
 ·simp[hi]
 rw[if_neg hi,if_neg hi,h _ _ (by omega) (by omega)]
def capA(f:Int→Int→Int):Array Value:=gridA fun p q=>.int .i64 (f p q)
theorem aLs(f:Int→Int→Int):(capA f).size=289:=gridA_size _
theorem capA_get(f:Int→Int→Int){i:Nat}(h:i<289):(capA f)[i]? = some (.int .i64 (f ((i/17:Nat):Int) ((i%17:Nat):Int))):=gridA_get _ h
theorem cap_range{w:World}{g:Nat}{f:Int→Int→Int}{b:Bool}{t:TypeId}(h:Blk w g (graC f b) t):w.rangeAt g 0 (capA f).toList:=by
 intro j v hv
 have hj:j<289:=by
  rcases Nat.lt_or_ge j 289 with h|h
  ·exact h
  rw[List.getElem?_eq_none (by simp[aLs];omega)]at hv;cases hv
 rw[Nat.zero_add,h.cell j,aHv _ _ hj];rw[Array.getElem?_toList,capA_get _ hj]at hv;exact hv
theorem Blk.cap{w:World}{g:Nat}{f:Int→Int→Int}{b:Bool}{t:TypeId}(h:Blk w g (graC f b) t){p q:Int}(h0:0≤p)(h1:p<17)(h2:0≤q)(h3:q<17):w.cell? ⟨g,p.toNat*17+q.toNat,none⟩=some (.int .i64 (f p q)):=by
 rw[h.cell,graC_at f b (by omega) (by omega),Int.toNat_of_nonneg h0,Int.toNat_of_nonneg h2]
theorem Blk.capSet{w:World}{g:Nat}{f:Int→Int→Int}{b:Bool}{t:TypeId}(h:Blk w g (graC f b) t){p q:Int}(h0:0≤p)(h1:p<17)(h2:0≤q)(h3:q<17)(n:Int):
  Blk (w.setCell ⟨g,p.toNat*17+q.toNat,none⟩ (.int .i64 n)) g (graC (updE f p q n) b) t:=by
 have:=h.set (p.toNat*17+q.toNat) (.int .i64 n);rw[graC_set f b (by omega) (by omega),Int.toNat_of_nonneg h0,Int.toNat_of_nonneg h2]at this;exact this
theorem Blk.madeG{w:World}{g:Nat}{f:Int→Int→Int}{b:Bool}{t:TypeId}(h:Blk w g (graC f b) t):w.cell? ⟨g,289,none⟩=some (.bool b):=by rw[h.cell,aIe]
theorem build_gra0(w:World):(Instr.build 327 #[(1,.bool true)]).run Tryz.prog w=.ok (.agg (graC aFi true)) w:=by
 have h:(Instr.build 327 #[(1,.bool true)]).run Tryz.prog=fun w=>.ok (.agg (graC aFi true)) w:=by kernel_rfl
 rw[h]
theorem build_gra(f:Int→Int→Int)(w:World):(Instr.build 327 #[(0,.agg (capA f)),(1,.bool true)]).run Tryz.prog w=.ok (.agg (graC f true)) w:=by
 have h:(Instr.build 327 #[(0,.agg (capA f)),(1,.bool true)]).run Tryz.prog=fun w=>.ok (.agg (graC f true)) w:=by kernel_rfl
 rw[h]
theorem zero_caps:(∀w,(zeroValue 325).run Tryz.prog w=.ok (.agg (capA aFi)) w)∧(Tryz.prog.info? 325).map (·.size)=some 289:=
 zero_of_info (by kernel_rfl)
theorem info_caps(f:Int→Int→Int):(Tryz.prog.info? 325).map (·.size)=some (capA f).size:=by rw[aLs];exact zero_caps.2
theorem aM5(f:Int→Int→Int):(Tryz.prog.info? 325).map (·.size)=some (capA f).toList.length:=by rw[Array.length_toList];exact info_caps f
attribute [irreducible] graC capA rowA gridA
def mayG(p:Int):Bool:=decide (1≤p∧p≤16)
theorem aA6{p:Int}(h:inP p):mayG p=true:=by unfold mayG;unfold inP at h;simp;omega
theorem aDg{p:Int}(h:¬inP p):mayG p=false:=by unfold mayG;unfold inP at h;simp;omega
theorem gmay_any(p:Int)(w:World):Calls Tryz.prog 291 #[.int .u8 p] w (yS w (.bool (mayG p))):=by
 have hs:(¬1≤p∧mayG p=false)∨(1≤p∧p≤16∧mayG p=true)∨(1≤p∧¬p≤16∧mayG p=false):=by unfold mayG;simp;omega
 rcases hs with⟨h1,h2⟩|⟨h1,h3,h2⟩|⟨h1,h3,h2⟩
 all_goals
  rw[h2];clear h2;go_enter Tryz.func291,Tryz.ntmps291;go_wp2;go_ret;exact⟨rfl,rfl⟩
def outF(f:Int→Int→Int):Prop:=∀p q,¬(inP p∧inP q)→f p q=0
theorem GInv.outF{f:Int→Int→Int}{B:Int}(h:GInv f B):outF f:=h.out
theorem gcap_any{w:World}{g:Nat}{f:Int→Int→Int}{b:Bool}(h:Blk w g (graC f b) 327)(ho:outF f)(p q:Int):
  Calls Tryz.prog 261 #[.pointer (some ⟨g,0,none⟩),.int .u8 p,.int .u8 q] w (yS w (.int .i64 (f p q))):=by
 have C1:=yH (gmay_any p w);have C2:=yH (gmay_any q w);have hlt:=h.lt
 by_cases hp:inP p
 ·by_cases hq:inP q
  ·rw[aA6 hp]at C1;rw[aA6 hq]at C2;obtain⟨p1,p2⟩:=hp;obtain⟨q1,q2⟩:=hq;have d:=h.cap (p:=p) (q:=q) (by omega) (by omega) (by omega) (by omega);have p3:0≤p:=by omega
   have p4:p<17:=by omega
   have q3:0≤q:=by omega
   have q4:q<17:=by omega
   clear h ho;generalize f p q=n at *;go_enter Tryz.func261,Tryz.ntmps261;go_wp2_with fail;refine C1.o.mono ?_;rintro e w ⟨rfl,rfl⟩;go_wp2_with fail;refine C2.o.mono ?_;rintro e w ⟨rfl,rfl⟩;go_wp2_with fail;go_ret;exact⟨rfl,rfl⟩
  rw[aA6 hp]at C1;rw[aDg hq]at C2;rw[ho p q (fun e=>hq e.2)];clear h ho hp hq;go_enter Tryz.func261,Tryz.ntmps261;go_wp2_with fail;refine C1.o.mono ?_;rintro e w ⟨rfl,rfl⟩;go_wp2_with fail;refine C2.o.mono ?_;rintro e w ⟨rfl,rfl⟩;go_wp2_with fail;go_ret;exact⟨rfl,rfl⟩
 rw[aDg hp]at C1;rw[ho p q (fun e=>hp e.1)];clear h ho hp;go_enter Tryz.func261,Tryz.ntmps261;go_wp2_with fail;refine C1.o.mono ?_;rintro e w ⟨rfl,rfl⟩;go_wp2_with fail;go_ret;exact⟨rfl,rfl⟩
theorem gcap_nil(p q:Int)(w:World):Calls Tryz.prog 261 #[.pointer none,.int .u8 p,.int .u8 q] w (yS w (.int .i64 0)):=by
 go_enter Tryz.func261,Tryz.ntmps261;go_wp2;go_ret;exact⟨rfl,rfl⟩
def aGb(f:Int→Int→Int)(a b n:Int):Int:=if n<1 then 1 else if f a b<n then 11 else 0
def aEn(f:Int→Int→Int)(a b n:Int):Int→Int→Int:=if 1≤n∧n≤f a b then aBu f a b n else f
theorem gpush_any{w:World}{g:Nat}{f:Int→Int→Int}{B:Int}(h:Blk w g (graC f true) 327)(hI:GInv f B)(hB:B≤4611686018427387903){a b n:Int}(hn:In64 n):
  Calls Tryz.prog 227 #[.pointer (some ⟨g,0,none⟩),.int .u8 a,.int .u8 b,.int .i64 n] w fun e w'=>e=.returned (.int .i64 (aGb f a b n))∧Blk w' g (graC (aEn f a b n) true) 327∧Keep (·=g) w w':=by
 have KB:=yH h;have dm:=h.madeG;have hlt:=h.lt;have C:=yH (gcap_any h hI.outF a b);obtain⟨n0,n1⟩:=hn
 by_cases h1:n<1
 ·have EE:=yH (show aGb f a b n=1∧aEn f a b n=f from⟨by unfold aGb;rw[if_pos h1],by unfold aEn;rw[if_neg (by omega)]⟩);clear h hI C;go_enter Tryz.func227,Tryz.ntmps227;go_wp2;go_ret;exact⟨by rw[EE.o.1];rfl,by rw[EE.o.2];exact KB.o,Keep.refl _ _⟩
 by_cases h2:f a b<n
 ·have EE:=yH (show aGb f a b n=11∧aEn f a b n=f from⟨by unfold aGb;rw[if_neg h1,if_pos h2],by unfold aEn;rw[if_neg (by omega)]⟩);clear h hI;obtain⟨x,hx⟩:∃x,f a b=x:=⟨_,rfl⟩;rw[hx]at C h2;clear hx;go_enter Tryz.func227,Tryz.ntmps227;go_wp2_with fail;refine C.o.mono ?_;rintro e w ⟨rfl,rfl⟩;go_wp2_with fail;go_ret;exact⟨by rw[EE.o.1];rfl,by rw[EE.o.2];exact KB.o,Keep.refl _ _⟩
 obtain⟨⟨a1,a2⟩,⟨b1,b2⟩,hab⟩:=hI.ends (p:=a) (q:=b) (by omega);have hbd:=hI.pair a b;have hnn:=hI.nn b a;have EE:=yH (show aGb f a b n=0∧aEn f a b n=updE (updE f a b (f a b - n)) b a (f b a+n)from⟨by unfold aGb;rw[if_neg h1,if_neg h2],by unfold aEn;rw[if_pos (by omega)];rfl⟩);obtain⟨x,hx⟩:∃x,f a b=x:=⟨_,rfl⟩;obtain⟨y,hy⟩:∃y,f b a=y:=⟨_,rfl⟩;have hy2:updE f a b (x - n) b a=y:=by unfold updE;rw[if_neg (fun e=>hab e.1.symm),hy]
 rw[hx,hy]at EE;rw[hx]at C h2 hbd;rw[hy]at hbd hnn;have HX:=yH hx;have HY2:=yH hy2;have HAB:=yH hab;clear h hI hx hy hy2 hab;go_enter Tryz.func227,Tryz.ntmps227;go_wp2_with fail;refine C.o.mono ?_;rintro e w ⟨rfl,rfl⟩;go_wp2_with fail
 refine aBq (by kernel_rfl) 14 16 [(.pointer (some ⟨g,0,none⟩)),(.int .u8 a),(.int .u8 b),(.pointer (some ⟨g,0,none⟩)),(.pointer (some ⟨g,0,none⟩)),(.pointer (some ⟨g,a.toNat*17,none⟩)),(.pointer (some ⟨g,a.toNat*17+b.toNat,none⟩)),(.int .i64 x),(.int .i64 n),(.int .i64 (x - n)),(.pointer (some ⟨g,0,none⟩)),(.pointer (some ⟨g,0,none⟩)),(.pointer (some ⟨g,a.toNat*17,none⟩)),(.pointer (some ⟨g,a.toNat*17+b.toNat,none⟩))]
  (fun w'=>Below w.heap.size w w') (by kernel_rfl) rfl (by kernel_rfl) yZ.drew ?_
 intro af haf;simp only[yG,List.append_eq,List.cons_append,List.nil_append,puts,Act.put,yA,yC,yF,yD,yE]at haf;subst haf;refine⟨?_,?_⟩
 ·simp only[yG,List.take_succ_cons,List.take_zero,aAv];refine⟨?z1,?z2,?z3,?z6,?z7,?z8,?z9,?_,?z4,?z5,?z10,?z11,?z12,?z13,trivial⟩
  case z1|z2|z3|z4|z5=>
   intro w' hS;refine yO rfl ?_;have HS:=yH hS;clear hS;go_wp2_with fail;all_goals first|exact HS|exact⟨rfl,HS⟩|rfl|exact⟨by omega,HS.o⟩
  case z6|z7|z8|z9|z10|z11|z12|z13=>
   intro w' hS;refine yO rfl ?_;have kb:=KB.o.below hS KB.o.lt;have hl:=kb.lt;have HS:=yH hS;clear hS;go_wp2_with fail;all_goals first|exact HS|exact⟨rfl,HS⟩|rfl|exact⟨by omega,HS.o⟩
  intro w' hS;refine yO rfl ?_;have kb:=KB.o.below hS KB.o.lt;have hl:=kb.lt;have d:=kb.cap (p:=a) (q:=b) (by omega) (by omega) (by omega) (by omega);rw[HX.o]at d;have HS:=yH hS;clear hS;go_wp2_with fail;all_goals first|exact HS|exact⟨rfl,HS⟩|rfl|exact⟨by omega,HS.o⟩
 simp only[yC,yA,yG];intro w' hS;refine yO rfl ?_;have kb:=yH ((KB.o.below hS KB.o.lt).capSet (p:=a) (q:=b) (by omega) (by omega) (by omega) (by omega) (x - n));have dm:=(KB.o.below hS KB.o.lt).cap (p:=a) (q:=b) (by omega) (by omega) (by omega) (by omega);have fr:=(KB.o.below hS KB.o.lt).frozen (a.toNat*17+b.toNat);have kk:=yH ((pAD (S:=(·=g)) hS).setCell (p:=⟨g,a.toNat*17+b.toNat,none⟩) (.inl rfl) (.int .i64 (x - n)));clear hS;go_wp2_with fail;generalize w'.setCell ⟨g,a.toNat*17+b.toNat,none⟩ (.int .i64 (x - n))=w2 at *;have KC:=yH KB.o;clear KB;have KB:=yH kb.out;clear kb dm fr C
 refine aBq (by kernel_rfl) 14 16 [(.pointer (some ⟨g,0,none⟩)),(.int .u8 b),(.int .u8 a),(.pointer (some ⟨g,0,none⟩)),(.pointer (some ⟨g,0,none⟩)),(.pointer (some ⟨g,b.toNat*17,none⟩)),(.pointer (some ⟨g,b.toNat*17+a.toNat,none⟩)),(.int .i64 y),(.int .i64 n),(.int .i64 (y+n)),(.pointer (some ⟨g,0,none⟩)),(.pointer (some ⟨g,0,none⟩)),(.pointer (some ⟨g,b.toNat*17,none⟩)),(.pointer (some ⟨g,b.toNat*17+a.toNat,none⟩))]
  (fun w'=>Below w2.heap.size w2 w') (by kernel_rfl) rfl (by kernel_rfl) yZ.drew ?_
 intro af haf;simp only[yG,List.append_eq,List.cons_append,List.nil_append,puts,Act.put,yA,yC,yF,yD,yE]at haf;subst haf;refine⟨?_,?_⟩
 ·simp only[yG,List.take_succ_cons,List.take_zero,aAv];refine⟨?z14,?z15,?z16,?z19,?z20,?z21,?z22,?_,?z17,?z18,?z23,?z24,?z25,?z26,trivial⟩
  case z14|z15|z16|z17|z18=>
   intro w' hS;refine yO rfl ?_;have HS:=yH hS;clear hS;go_wp2_with fail;all_goals first|exact HS|exact⟨rfl,HS⟩|rfl|exact⟨by omega,HS.o⟩
  case z19|z20|z21|z22|z23|z24|z25|z26=>
   intro w' hS;refine yO rfl ?_;have kb:=KB.o.below hS KB.o.lt;have hl:=kb.lt;have HS:=yH hS;clear hS;go_wp2_with fail;all_goals first|exact HS|exact⟨rfl,HS⟩|rfl|exact⟨by omega,HS.o⟩
  intro w' hS;refine yO rfl ?_;have kb:=KB.o.below hS KB.o.lt;have hl:=kb.lt;have d:=kb.cap (p:=b) (q:=a) (by omega) (by omega) (by omega) (by omega);rw[HY2.o]at d;have HS:=yH hS;clear hS;go_wp2_with fail;all_goals first|exact HS|exact⟨rfl,HS⟩|rfl|exact⟨by omega,HS.o⟩
 simp only[yC,yA,yG];intro w' hS;refine yO rfl ?_;have kb:=yH ((KB.o.below hS KB.o.lt).capSet (p:=b) (q:=a) (by omega) (by omega) (by omega) (by omega) (y+n));have dm:=(KB.o.below hS KB.o.lt).cap (p:=b) (q:=a) (by omega) (by omega) (by omega) (by omega);have fr:=(KB.o.below hS KB.o.lt).frozen (b.toNat*17+a.toNat);have k2:=yH ((kk.out.trans (pAD (S:=(·=g)) hS)).setCell (p:=⟨g,b.toNat*17+a.toNat,none⟩) (.inl rfl) (.int .i64 (y+n)));clear hS;go_wp2_with fail;generalize w'.setCell ⟨g,b.toNat*17+a.toNat,none⟩ (.int .i64 (y+n))=w3 at *;go_ret;exact⟨by rw[EE.o.1];rfl,by rw[EE.o.2];exact kb.out,k2.out⟩
def IsG(w:World)(v:Value)(f:Int→Int→Int):Prop:=(v=.pointer none∧f=aFi)∨∃g b,v=.pointer (some ⟨g,0,none⟩)∧Blk w g (graC f b) 327
theorem IsG.below{w w':World}{v:Value}{f:Int→Int→Int}(h:IsG w v f)(hb:Below w.heap.size w w'):IsG w' v f:=by
 rcases h with h|⟨g,b,h1,h2⟩
 ·exact .inl h
 exact .inr ⟨g,b,h1,h2.below hb h2.lt⟩
theorem gcopy_nil(w:World):Calls Tryz.prog 224 #[.pointer none] w (yS w (.pointer none)):=by
 go_enter Tryz.func224,Tryz.ntmps224;go_wp2;go_ret;exact⟨rfl,rfl⟩
theorem gcopy_any{w:World}{g:Nat}{f:Int→Int→Int}(h:Blk w g (graC f true) 327):
  Calls Tryz.prog 224 #[.pointer (some ⟨g,0,none⟩)] w fun e w'=>e=.returned (.pointer (some ⟨w.heap.size,0,none⟩))∧Blk w' w.heap.size (graC f true) 327∧Below w.heap.size w w':=by
 have d:=h.madeG;have hlt:=h.lt;have R:=yH (cap_range h);clear h;go_enter Tryz.func224,Tryz.ntmps224
 go_wp2_with first
  | ((with_reducible refine wpList_load_mid ?_ 325 (.tmp 14) ?_ g 0 ?_ (capA f).toList _ R.o Tryz.underlying325 ?_ (aM5 _) ?_);exact rfl;exact rfl;exact rfl;exact rfl;rw[Array.toArray_toList])
  | ((with_reducible refine aDm ?_ 327 #[(0,.tmp 15),(1,.const (.bool true))] ?_ #[(0,.agg (capA f)),(1,.bool true)] ?_ (graC f true) (build_gra f _) ?_);exact rfl;exact rfl;simp[Act.eval,Act.put])
 go_ret;exact⟨rfl,Blk.new _ _ _,yZ.alloc yL _⟩
end Go.Proofs.YtngnfdnfpiiclaaGreat
