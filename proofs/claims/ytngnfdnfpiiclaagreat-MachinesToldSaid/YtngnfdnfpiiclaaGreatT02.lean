/- Pieces of one proof. -/
import Derived.Test.YtngnfdnfpiiclaaGreatT01
import Derived.Laws.Rows
import Derived.Deep.MidRow
import Derived.Deep.WholeRow
import Derived.Deep.RegionLaw
import Derived.Maps.AppendAt
import Derived.StillTailTactics
import Derived.Deep.Slices
import Derived.Deep.Fields
import Derived.ChangeSame
import Derived.OpenShut
import Derived.Lib.SmallJoins
set_option linter.all false
set_option maxHeartbeats 64000000
set_option maxRecDepth 100000
namespace Go.Proofs.YtngnfdnfpiiclaaGreat
open Go.RowKit
structure Ed where
 fr:Int
 tt:Int
 co:Int
structure BF where
 far:Int→Int
 ahd:Int→Int
 pt:Int
 t:Int→Nat
 w:Int→Int
def upI(f:Int→Int)(a x:Int):Int→Int:=fun p=>if p=a then x else f p
theorem aC8(f:Int→Int)(a x:Int):upI f a x a=x:=by simp[upI]
theorem aEl(f:Int→Int){a x p:Int}(h:p≠a):upI f a x p=f p:=by simp[upI,h]
def okEd(e:Ed):Prop:=inP e.fr∧inP e.tt
instance(p:Int):Decidable (inP p):=by unfold inP;infer_instance
instance(e:Ed):Decidable (okEd e):=by unfold okEd;infer_instance
def aEg(n:Nat)(s:BF)(e:Ed):BF:=
 if okEd e∧s.far e.fr+e.co<s.far e.tt then⟨upI s.far e.tt (s.far e.fr+e.co),upI s.ahd e.tt e.fr,e.tt,fun p=>if p=e.tt then n else s.t p,upI s.w e.tt e.co⟩else s
def initB:BF:=⟨fun _=>0,fun _=>0,0,fun _=>0,fun _=>0⟩
def passE(n:Nat)(es:List Ed)(s:BF):BF:=es.foldl (aEg n) { s with pt:=0 }
def aA2(es:List Ed):Nat→BF
 | 0=>initB
 | n+1=>passE (n+1) es (aA2 es n)
def itr(f:Int→Int):Nat→Int→Int
 | 0,x=>x
 | k+1,x=>itr f k (f x)
theorem aBt(f:Int→Int):∀(j k:Nat) (x:Int),itr f (j+k) x=itr f k (itr f j x)
 | 0,k,x=>by rw[Nat.zero_add];rfl
 | j+1,k,x=>by rw[Nat.add_right_comm];exact aBt f j k (f x)
theorem aC9(f:Int→Int)(k:Nat)(x:Int):itr f (k+1) x=f (itr f k x):=aBt f k 1 x
def sumI(f w:Int→Int):Nat→Int→Int
 | 0,_=>0
 | k+1,x=>w x+sumI f w k (f x)
theorem aI3(f w:Int→Int):∀(j k:Nat) (x:Int),sumI f w (j+k) x=sumI f w j x+sumI f w k (itr f j x)
 | 0,k,x=>by simp[sumI,itr]
 | j+1,k,x=>by
  rw[Nat.add_right_comm];show w x+sumI f w (j+k) (f x)=(w x+sumI f w j (f x))+sumI f w k (itr f j (f x));rw[aI3 f w j k (f x)];omega
theorem aSf{f w:Int→Int}{v u c:Int}:∀(k:Nat) (x:Int),(∀i,i<k→itr (upI f v u) i x≠v)→itr (upI f v u) k x=itr f k x∧sumI (upI f v u) (upI w v c) k x=sumI f w k x
 | 0,x,_=>⟨rfl,rfl⟩
 | k+1,x,h=>by
  have hx:x≠v:=h 0 zQ;have hf:upI f v u x=f x:=aEl f hx
  have ih:=aSf (w:=w) (c:=c) k (f x) (fun i hi=>by
   have:=h (i+1) zQ;show itr (upI f v u) i (f x)≠v;rw[←hf];exact this)
  refine⟨?_,?_⟩
  ·show itr (upI f v u) k (upI f v u x)=itr f k (f x);rw[hf];exact ih.1
  show upI w v c x+sumI (upI f v u) (upI w v c) k (upI f v u x)=w x+sumI f w k (f x);rw[hf,aEl w hx,ih.2]
structure aFk(es pre:List Ed)(n:Nat)(s:BF):Prop where
 a:∀e∈es,okEd e→s.t e.fr+1<n→s.far e.tt≤s.far e.fr+e.co
 b:∀e∈pre,okEd e→s.t e.fr<n→s.far e.tt≤s.far e.fr+e.co
 le:∀v,s.t v≤n
 pos:∀v,1≤s.t v→inP v∧inP (s.ahd v)∧s.t v≤s.t (s.ahd v)+1∧s.far (s.ahd v)+s.w v≤s.far v∧∃e∈es,e.fr=s.ahd v∧e.tt=v∧e.co=s.w v
 zero:∀v,s.t v=0→s.ahd v=0
 pt:s.pt≠0→s.t s.pt=n
 neg:∀v k,1≤k→itr s.ahd k v=v→inP v→sumI s.ahd s.w k v<0
theorem aFk.none{es pre:List Ed}{n:Nat}{s:BF}(h:aFk es pre n s):s.ahd 0=0:=by
 refine h.zero 0 ?_;rcases Nat.eq_zero_or_pos (s.t 0)with h0|h0
 ·exact h0
 have:=(h.pos 0 h0).1.1;omega
theorem aFk.stay{es pre:List Ed}{n:Nat}{s:BF}(h:aFk es pre n s):∀k,itr s.ahd k 0=0
 | 0=>rfl
 | k+1=>by
  show itr s.ahd k (s.ahd 0)=0;rw[h.none];exact h.stay k
theorem aFk.chain{es pre:List Ed}{n:Nat}{s:BF}(h:aFk es pre n s){v:Int}(hv:inP v):∀(m:Nat) (u:Int),itr s.ahd m u=v→s.far v+sumI s.ahd s.w m u≤s.far u
 | 0,u,hu=>by
  have:u=v:=hu;subst this;simp[sumI]
 | m+1,u,hu=>by
  have hu':itr s.ahd m (s.ahd u)=v:=hu
  have h1:1≤s.t u:=by
   rcases Nat.eq_zero_or_pos (s.t u)with h0|h0
   ·rw[h.zero u h0,h.stay m]at hu';have:=hv.1;omega
   exact h0
  have h2:=(h.pos u h1).2.2.2.1;have h3:=h.chain hv m (s.ahd u) hu';show s.far v+(s.w u+sumI s.ahd s.w m (s.ahd u))≤s.far u;omega
theorem aFk.step{es pre:List Ed}{n:Nat}{s:BF}(h:aFk es pre n s)(hn:1≤n){e:Ed}(he:e∈es):aFk es (pre++[e]) n (aEg n s e):=by
 by_cases hc:okEd e∧s.far e.fr+e.co<s.far e.tt
 ·have hs:aEg n s e=⟨upI s.far e.tt (s.far e.fr+e.co),upI s.ahd e.tt e.fr,e.tt,fun p=>if p=e.tt then n else s.t p,upI s.w e.tt e.co⟩:=by unfold aEg;rw[if_pos hc]
  obtain⟨hok,hlt⟩:=hc
  have htu:n≤s.t e.fr+1:=by
   rcases Nat.lt_or_ge (s.t e.fr+1) n with h1|h1
   ·have:=h.a e he hok h1;omega
   exact h1
  have fle:∀x,upI s.far e.tt (s.far e.fr+e.co) x≤s.far x:=fun x=>by
   by_cases hx:x=e.tt
   ·subst hx;rw[aC8];omega
   rw[aEl _ hx];exact Int.le_refl _
  rw[hs];refine⟨fun d hd hdo hdt=>?_,fun d hd hdo hdt=>?_,fun v=>?_,fun v hv=>?_,fun v hv=>?_,fun _=>?_,fun v k hk hit hv=>?_⟩
  ·dsimp only at hdt ⊢
   by_cases hx:d.fr=e.tt
   ·rw[if_pos hx]at hdt;omega
   rw[if_neg hx]at hdt;rw[aEl _ hx];have:=h.a d hd hdo hdt;have:=fle d.tt;omega
  ·dsimp only at hdt ⊢
   by_cases hx:d.fr=e.tt
   ·rw[if_pos hx]at hdt;omega
   rw[if_neg hx]at hdt;rw[aEl _ hx];rcases List.mem_append.1 hd with h1|h1
   ·have:=h.b d h1 hdo hdt;have:=fle d.tt;omega
   rw[List.mem_singleton]at h1;subst h1;rw[aC8];exact Int.le_refl _
  ·dsimp only;split
   ·exact Nat.le_refl _
   exact h.le v
  ·dsimp only at hv ⊢
   by_cases hx:v=e.tt
   ·subst hx;rw[aC8,aC8,aC8,if_pos rfl];refine⟨hok.2,hok.1,?_,?_,e,he,rfl,rfl,rfl⟩
    ·split
     ·omega
     omega
    by_cases hy:e.fr=e.tt
    ·rw[hy,aC8];rw[hy]at hlt;omega
    rw[aEl _ hy];exact Int.le_refl _
   rw[if_neg hx]at hv;rw[if_neg hx,aEl _ hx,aEl _ hx,aEl _ hx];obtain⟨p1,p2,p3,p4,p5⟩:=h.pos v hv;refine⟨p1,p2,?_,?_,p5⟩
   ·split
    ·rename_i hy;have:=h.le v;omega
    exact p3
   have:=fle (s.ahd v);omega
  ·dsimp only at hv ⊢
   by_cases hx:v=e.tt
   ·rw[if_pos hx]at hv;omega
   rw[if_neg hx]at hv;rw[aEl _ hx];exact h.zero v hv
  ·dsimp only;rw[if_pos rfl]
  dsimp only at hit ⊢
  -- a round that goes over the new step
  have negv:∀k,1≤k→itr (upI s.ahd e.tt e.fr) k e.tt=e.tt→sumI (upI s.ahd e.tt e.fr) (upI s.w e.tt e.co) k e.tt<0:=by
   intro k
   induction k using Nat.strongRecOn with
   | _ k ih=>
    intro hk hit
    by_cases hm:∃m,1≤m∧m<k∧itr (upI s.ahd e.tt e.fr) m e.tt=e.tt
    ·obtain⟨m,m1,m2,m3⟩:=hm;have hkm:k=m+(k - m):=zQ
     have h2:itr (upI s.ahd e.tt e.fr) (k - m) e.tt=e.tt:=by
      have:=aBt (upI s.ahd e.tt e.fr) m (k - m) e.tt;rw[←hkm,hit,m3]at this;exact this.symm
     have h3:=aI3 (upI s.ahd e.tt e.fr) (upI s.w e.tt e.co) m (k - m) e.tt;rw[←hkm,m3]at h3;have i1:=ih m m2 m1 m3;have i2:=ih (k - m) zQ zQ h2;omega
    match k,hk,hit with
    | k+1,_,hit=>
     have hf:upI s.ahd e.tt e.fr e.tt=e.fr:=aC8 _ _ _
     have hit':itr (upI s.ahd e.tt e.fr) k e.fr=e.tt:=by
      have:itr (upI s.ahd e.tt e.fr) k (upI s.ahd e.tt e.fr e.tt)=e.tt:=hit
      rwa [hf]at this
     obtain⟨o1,o2⟩:=aSf (f:=s.ahd) (w:=s.w) (v:=e.tt) (u:=e.fr) (c:=e.co) k e.fr (fun i hi hz=>hm ⟨i+1,zQ,zQ,by
      show itr (upI s.ahd e.tt e.fr) i (upI s.ahd e.tt e.fr e.tt)=e.tt;rw[hf];exact hz⟩)
     rw[hit']at o1;have hc:=h.chain hok.2 k e.fr o1.symm;show upI s.w e.tt e.co e.tt+sumI (upI s.ahd e.tt e.fr) (upI s.w e.tt e.co) k (upI s.ahd e.tt e.fr e.tt)<0;rw[hf,aC8,o2];omega
  by_cases hex:∃j,j<k∧itr (upI s.ahd e.tt e.fr) j v=e.tt
  ·obtain⟨j,j1,j2⟩:=hex
   have h1:itr (upI s.ahd e.tt e.fr) k e.tt=e.tt:=by
    have a1:=aBt (upI s.ahd e.tt e.fr) j k v;have a2:=aBt (upI s.ahd e.tt e.fr) k j v;rw[j2]at a1;rw[hit,j2]at a2;rw[←a1,Nat.add_comm,a2]
   have b1:=aI3 (upI s.ahd e.tt e.fr) (upI s.w e.tt e.co) j k v;have b2:=aI3 (upI s.ahd e.tt e.fr) (upI s.w e.tt e.co) k j v;rw[j2]at b1;rw[hit,Nat.add_comm]at b2;have:=negv k hk h1;omega
  obtain⟨o1,o2⟩:=aSf (f:=s.ahd) (w:=s.w) (v:=e.tt) (u:=e.fr) (c:=e.co) k v (fun i hi hz=>hex ⟨i,hi,hz⟩);rw[hit]at o1;rw[o2];exact h.neg v k hk o1.symm hv
 have hs:aEg n s e=s:=by unfold aEg;rw[if_neg hc]
 rw[hs];refine⟨h.a,fun d hd hdo hdt=>?_,h.le,h.pos,h.zero,h.pt,h.neg⟩;rcases List.mem_append.1 hd with h1|h1
 ·exact h.b d h1 hdo hdt
 rw[List.mem_singleton]at h1;subst h1;rcases Int.lt_or_le (s.far d.fr+d.co) (s.far d.tt)with h2|h2
 ·exact absurd ⟨hdo,h2⟩ hc
 exact h2
theorem aFk.start{es:List Ed}{n:Nat}{s:BF}(h:aFk es es n s):aFk es [] (n+1) { s with pt:=0 }:=
 ⟨fun e he ho ht=>h.b e he ho (by have:s.t e.fr+1<n+1:=ht;omega),fun e he=>by simp at he,fun v=>Nat.le_succ_of_le (h.le v),h.pos,h.zero,fun hp=>absurd rfl hp,h.neg⟩
theorem aFk.init(es:List Ed):aFk es es 0 initB:=by
 refine⟨fun e _ _ h=>zQ,fun e _ _ h=>zQ,fun v=>Nat.le_refl _,fun v h=>?_,fun v _=>rfl,fun h=>absurd rfl h,fun v k hk hit hv=>?_⟩
 ·have:(0:Nat) ≥ 1:=h;omega
 match k,hk with
 | k+1,_=>
  have h1:=aC9 initB.ahd k v;rw[hit]at h1;have h2:v=0:=h1;have:=hv.1;omega
theorem aFk.go{es:List Ed}{n:Nat}(hn:1≤n):∀(l pre:List Ed) (s:BF),aFk es pre n s→(∀e∈l,e∈es)→aFk es (pre++l) n (l.foldl (aEg n) s)
 | [],pre,s,h,_=>by rw[List.append_nil];exact h
 | e::l,pre,s,h,hl=>by
  rw[List.foldl_cons,show pre++e::l=(pre++[e])++l by simp];exact aFk.go hn l (pre++[e]) (aEg n s e) (h.step hn (hl e (List.mem_cons_self ..))) (fun d hd=>hl d (List.mem_cons_of_mem _ hd))
theorem aLu(es:List Ed):∀n,aFk es es n (aA2 es n)
 | 0=>aFk.init es
 | n+1=>by
  have:=aFk.go (n:=n+1) zQ es [] _ (aLu es n).start (fun e he=>he)
  rwa [List.nil_append]at this
theorem pigeon:∀(n:Nat) (f:Nat→Nat),(∀i,i≤n→f i<n)→∃i j,i<j∧j≤n∧f i=f j
 | 0,f,h=>absurd (h 0 yL) zQ
 | n+1,f,h=>by
  by_cases hx:∃i,i≤n∧f i=f (n+1)
  ·obtain⟨i,hi,he⟩:=hx;exact⟨i,n+1,zQ,Nat.le_refl _,he⟩
  have hne:∀i,i≤n→f i≠f (n+1):=fun i hi he=>hx ⟨i,hi,he⟩
  have hlast:=h (n+1) yL
  obtain⟨i,j,h1,h2,h3⟩:=pigeon n (fun i=>if f (n+1)<f i then f i - 1 else f i) (fun i hi=>by
   have:=h i zQ;have:=hne i hi
   try dsimp only
   split <;> omega)
  refine⟨i,j,h1,zQ,?_⟩;have a1:=hne i zQ;have a2:=hne j zQ
  try dsimp only at h3
  split at h3 <;> split at h3 <;> omega
theorem aIa{es:List Ed}(h:(aA2 es 16).pt≠0):(∀i,i≤16→inP (itr (aA2 es 16).ahd i (aA2 es 16).pt))∧
  ∃k,1≤k∧k≤16∧itr (aA2 es 16).ahd k (itr (aA2 es 16).ahd 16 (aA2 es 16).pt)=itr (aA2 es 16).ahd 16 (aA2 es 16).pt:=by
 have hI:=aLu es 16;generalize aA2 es 16=s at *;have ht:=hI.pt h
 have key:∀i,i≤16→16≤s.t (itr s.ahd i s.pt)+i:=by
  intro i
  induction i with
  | zero=>intro _;rw[show itr s.ahd 0 s.pt=s.pt from rfl,ht];omega
  | succ i ih=>
   intro hi;have h1:=ih zQ;rw[aC9];have h2:=(hI.pos (itr s.ahd i s.pt) zQ).2.2.1;omega
 have hin:∀i,i≤16→inP (itr s.ahd i s.pt):=by
  intro i hi
  match i,hi with
  | 0,_=>exact(hI.pos s.pt zQ).1
  | i+1,hi=>
   rw[aC9];exact(hI.pos (itr s.ahd i s.pt) (by have:=key i zQ;omega)).2.1
 refine⟨hin,?_⟩
 obtain⟨i,j,h1,h2,h3⟩:=pigeon 16 (fun i=>(itr s.ahd i s.pt).toNat - 1) (fun i hi=>by
  have:=hin i hi;unfold inP at this
  try dsimp only
  omega)
 have h4:itr s.ahd i s.pt=itr s.ahd j s.pt:=by
  have a:=hin i zQ;have b:=hin j h2;unfold inP at a b
  try dsimp only at h3
  omega
 refine⟨j - i,zQ,zQ,?_⟩;have e1:itr s.ahd 16 s.pt=itr s.ahd (16 - i) (itr s.ahd i s.pt):=by rw[←aBt,show i+(16 - i)=16 by omega]
 have e2:itr s.ahd (j - i) (itr s.ahd i s.pt)=itr s.ahd i s.pt:=by rw[←aBt,show i+(j - i)=j by omega,←h4]
 rw[e1,←aBt,Nat.add_comm,aBt,e2]
def wk(f:Int→Int→Int):Nat→Int→Int→Prop
 | 0,p,q=>p=q
 | n+1,p,q=>∃r,0<f p r∧wk f n r q
theorem aP7{f:Int→Int→Int}:∀{m n:Nat} {p r q:Int},wk f m p r→wk f n r q→wk f (m+n) p q
 | 0,n,p,r,q,h1,h2=>by
  have:p=r:=h1;subst this;rw[Nat.zero_add];exact h2
 | m+1,n,p,r,q,⟨x,h1,h3⟩,h2=>by
  rw[Nat.add_right_comm];exact⟨x,h1,aP7 h3 h2⟩
theorem wk_one{f:Int→Int→Int}{p q:Int}(h:0<f p q):wk f 1 p q:=⟨q,h,rfl⟩
theorem wk_split{f:Int→Int→Int}:∀{m n:Nat} {p q:Int},wk f (m+n) p q→∃r,wk f m p r∧wk f n r q
 | 0,n,p,q,h=>⟨p,rfl,by rwa [Nat.zero_add]at h⟩
 | m+1,n,p,q,h=>by
  rw[Nat.add_right_comm]at h;obtain⟨x,h1,h2⟩:=h;obtain⟨r,h3,h4⟩:=wk_split h2;exact⟨r,⟨x,h1,h3⟩,h4⟩
theorem wk_last{f:Int→Int→Int}{n:Nat}{p q:Int}(h:wk f (n+1) p q):∃r,wk f n p r∧0<f r q:=by
 obtain⟨r,h1,x,h2,h3⟩:=wk_split (m:=n) (n:=1) h;have:x=q:=h3;subst this;exact⟨r,h1,h2⟩
def parts:List Int:=(List.range 16).map fun i:Nat=>(i:Int)+1
theorem aLv{p:Int}:p∈parts↔inP p:=by
 unfold parts inP;simp only[List.mem_map,List.mem_range]
 constructor
 ·rintro⟨i,hi,rfl⟩;omega
 rintro⟨h1,h2⟩;exact⟨p.toNat - 1,zQ,zQ⟩
theorem aP8(i:Nat)(h:i<parts.length):parts[i]=(i:Int)+1:=by simp[parts]
theorem aP9:parts.length=16:=by simp[parts]
def inS(f:Int→Int→Int)(p:Int):Nat→Int→Bool
 | 0,q=>q==p
 | n+1,q=>inS f p n q || parts.any fun r=>inS f p n r && decide (0<f r q)
theorem aBn{f:Int→Int→Int}{B:Int}(h:GInv f B)(p:Int):∀(n:Nat) (q:Int),inS f p n q=true↔∃m,m≤n∧wk f m p q
 | 0,q=>by
  unfold inS;rw[beq_iff_eq]
  constructor
  ·rintro rfl;exact⟨0,Nat.le_refl _,rfl⟩
  ·rintro⟨m,hm,hw⟩;have:m=0:=zQ
   subst this;exact(show p=q from hw).symm
 | n+1,q=>by
  show(inS f p n q || parts.any fun r=>inS f p n r && decide (0<f r q))=true↔_;rw[Bool.or_eq_true,List.any_eq_true]
  constructor
  ·rintro(h1|⟨r,hr,h2⟩)
   ·obtain⟨m,hm,hw⟩:=(aBn h p n q).1 h1;exact⟨m,zQ,hw⟩
   rw[Bool.and_eq_true,decide_eq_true_eq]at h2;obtain⟨m,hm,hw⟩:=(aBn h p n r).1 h2.1;exact⟨m+1,zQ,aP7 hw (wk_one h2.2)⟩
  rintro⟨m,hm,hw⟩
  by_cases hmn:m≤n
  ·exact .inl ((aBn h p n q).2 ⟨m,hmn,hw⟩)
  have:m=n+1:=zQ
  subst this;obtain⟨r,h1,h2⟩:=wk_last hw;refine .inr ⟨r,aLv.2 (h.ends h2).1,?_⟩;rw[Bool.and_eq_true,decide_eq_true_eq];exact⟨(aBn h p n r).2 ⟨n,Nat.le_refl _,h1⟩,h2⟩
theorem aFc{f:Int→Int→Int}{p q:Int}{n m:Nat}(hn:n≤m)(h:inS f p n q=true):inS f p m q=true:=by
 induction m with
 | zero=>
      have:n=0:=zQ
      subst this;exact h
 | succ m ih=>
  by_cases hm:n≤m
  ·show(inS f p m q || _)=true;rw[ih hm];rfl
  have:n=m+1:=zQ
  subst this;exact h
theorem aK9{f:Int→Int→Int}:∀{m:Nat} {p q:Int},wk f m p q↔∃x:Nat→Int,x 0=p∧x m=q∧∀i,i<m→0<f (x i) (x (i+1))
 | 0,p,q=>by
  constructor
  ·intro h;exact⟨fun _=>p,rfl,h,fun i hi=>zQ⟩
  ·rintro⟨x,h1,h2,_⟩;exact h1.symm.trans h2
 | m+1,p,q=>by
  constructor
  ·rintro⟨r,h1,h2⟩;obtain⟨x,h3,h4,h5⟩:=aK9.1 h2;refine⟨fun i=>match i with|0=>p|i+1=>x i,rfl,h4,fun i hi=>?_⟩
   match i with
   | 0=>show 0<f p (x 0);rw[h3];exact h1
   | i+1=>exact h5 i zQ
  rintro⟨x,h1,h2,h3⟩;refine⟨x 1,?_,aK9.2 ⟨fun i=>x (i+1),rfl,h2,fun i hi=>h3 (i+1) zQ⟩⟩;rw[←h1];exact h3 0 zQ
theorem wk_short{f:Int→Int→Int}{B:Int}(h:GInv f B){p q:Int}:∀(m:Nat),wk f m p q→∃k,k≤15∧wk f k p q:=by
 intro m
 induction m using Nat.strongRecOn with
 | _ m ih=>
  intro hw
  by_cases hm:m≤15
  ·exact⟨m,hm,hw⟩
  obtain⟨x,h1,h2,h3⟩:=aK9.1 hw
  have hin:∀i,i≤16→inP (x i):=by
   intro i hi
   by_cases h0:i=0
   ·subst h0;exact(h.ends (h3 0 zQ)).1
   have:=h3 (i - 1) zQ;rw[show i - 1+1=i by omega]at this;exact(h.ends this).2.1
  obtain⟨i,j,c1,c2,c3⟩:=pigeon 16 (fun i=>(x i).toNat - 1) (fun i hi=>by
   have:=hin i hi;unfold inP at this
   try dsimp only
   omega)
  have hij:x i=x j:=by
   have a:=hin i zQ;have b:=hin j c2;unfold inP at a b
   try dsimp only at c3
   omega
  have hw':wk f (m - (j - i)) p q:=by
   refine aK9.2 ⟨fun k=>if k≤i then x k else x (k+(j - i)),?_,?_,fun k hk=>?_⟩
   ·try dsimp only
    rw[if_pos zQ];exact h1
   ·try dsimp only
    by_cases hz:m - (j - i)≤i
    ·rw[if_pos hz,←h2];have:m=j:=zQ
     rw[show m - (j - i)=i by omega,this];exact hij
    rw[if_neg hz,←h2];congr 1;omega
   try dsimp only
   by_cases k1:k+1≤i
   ·rw[if_pos zQ,if_pos k1];exact h3 k zQ
   rw[if_neg k1]
   by_cases k2:k≤i
   ·have:k=i:=zQ
    subst this;rw[if_pos k2,hij,show k+1+(j - k)=j+1 by omega];exact h3 j zQ
   rw[if_neg k2,show k+1+(j - i)=(k+(j - i))+1 by omega];exact h3 (k+(j - i)) zQ
  exact ih (m - (j - i)) zQ hw'
theorem aO0{f:Int→Int→Int}{B:Int}(h:GInv f B){p q:Int}{m:Nat}(hw:wk f m p q):inS f p 15 q=true:=by
 obtain⟨k,h1,h2⟩:=wk_short h m hw;exact(aBn h p 15 q).2 ⟨k,h1,h2⟩
def dst(f:Int→Int→Int)(p q:Int):Nat:=((List.range 17).find? fun n=>inS f p n q).getD 0
theorem aQa{f:Int→Int→Int}{p q:Int}{n:Nat}(hn:n≤16)(h:inS f p n q=true)(hm:∀m,m<n→inS f p m q=false):dst f p q=n:=by
 unfold dst
 have:(List.range 17).find? (fun n=>inS f p n q)=some n:=by
  rw[List.find?_eq_some_iff_getElem];refine⟨h,n,zU,zV,fun j hj=>?_⟩;simp[hm j hj]
 rw[this];rfl
theorem aFz{f:Int→Int→Int}{p q:Int}(h:inS f p 16 q=true):inS f p (dst f p q) q=true∧dst f p q≤16∧∀m,m<dst f p q→inS f p m q=false:=by
 have key:∀n,n≤16→inS f p n q=true→∃k,k≤n∧inS f p k q=true∧∀m,m<k→inS f p m q=false:=by
  intro n
  induction n using Nat.strongRecOn with
  | _ n ih=>
   intro hn h1
   by_cases hx:∃m,m<n∧inS f p m q=true
   ·obtain⟨m,m1,m2⟩:=hx;obtain⟨k,k1,k2⟩:=ih m m1 zQ m2;exact⟨k,zQ,k2⟩
   refine⟨n,Nat.le_refl _,h1,fun m hm=>?_⟩
   cases hb:inS f p m q with
   | false=>rfl
   | true=>exact absurd ⟨m,hm,hb⟩ hx
 obtain⟨k,k1,k2,k3⟩:=key 16 yL h;rw[aQa k1 k2 k3];exact⟨k2,k1,k3⟩
def nxt(f:Int→Int→Int)(b:Int)(n:Nat)(p:Int):Int:=(parts.find? fun q=>decide (0<f p q) && inS f q n b).getD 0
def goS(f:Int→Int→Int)(b:Int):Nat→Int→List Int
 | 0,p=>[p]
 | n+1,p=>p::goS f b n (nxt f b n p)
def aA0(f:Int→Int→Int)(a b:Int):List Int:=if inP a∧inP b∧a≠b∧inS f a 16 b=true then goS f b (dst f a b) a else []
theorem aEh(f:Int→Int→Int)(b:Int):∀(n:Nat) (p:Int),(goS f b n p).length=n+1
 | 0,p=>rfl
 | n+1,p=>by show(goS f b n _).length+1=_;rw[aEh f b n]
theorem parts_find{q:Int→Bool}{x:Int}(hx:inP x)(h:q x=true)(hm:∀y,inP y→y<x→q y=false):parts.find? q=some x:=by
 rw[List.find?_eq_some_iff_getElem];have hx':=hx;unfold inP at hx';refine⟨h,x.toNat - 1,by unfold parts;simp;omega,by unfold parts;simp;omega,fun j hj=>?_⟩
 have:q (parts[j]'(by unfold parts;simp;omega))=false:=by
  refine hm _ ?_ ?_
  ·unfold parts inP;simp;omega
  unfold parts;simp;omega
 simp[this]
theorem nxt_spec{f:Int→Int→Int}{B:Int}(h:GInv f B){p b:Int}{n:Nat}(h1:inS f p (n+1) b=true)(h2:inS f p n b=false)(hb:∀m,m≤n→inS f p m b=false):
  inP (nxt f b n p)∧0<f p (nxt f b n p)∧inS f (nxt f b n p) n b=true∧(∀m,m<n→inS f (nxt f b n p) m b=false)∧∀y,inP y→y<nxt f b n p→¬(0<f p y∧inS f y n b=true):=by
 obtain⟨m,hm,hw⟩:=(aBn h p (n+1) b).1 h1
 have hmn:m=n+1:=by
  rcases Nat.lt_or_ge n m with h3|h3
  ·omega
  have:=(aBn h p n b).2 ⟨m,h3,hw⟩;rw[h2]at this;cases this
 subst hmn;obtain⟨r,r1,r2⟩:=hw
 have hr:(decide (0<f p r) && inS f r n b)=true:=by
  rw[Bool.and_eq_true,decide_eq_true_eq];exact⟨r1,(aBn h r n b).2 ⟨n,Nat.le_refl _,r2⟩⟩
 cases hf:parts.find? fun q=>decide (0<f p q) && inS f q n b with
 | none=>
  have:=List.find?_eq_none.1 hf r (aLv.2 (h.ends r1).2.1);exact absurd hr this
 | some x=>
  have hx:nxt f b n p=x:=by unfold nxt;rw[hf];rfl
  rw[hx];obtain⟨hq,i,hi,hxi,hlt⟩:=List.find?_eq_some_iff_getElem.1 hf;rw[Bool.and_eq_true,decide_eq_true_eq]at hq;have hinx:inP x:=aLv.1 (List.mem_of_find?_eq_some hf);refine⟨hinx,hq.1,hq.2,fun m hm=>?_,fun y hy hyx hc=>?_⟩
  ·cases hc:inS f x m b with
   | false=>rfl
   | true=>
    obtain⟨k,k1,k2⟩:=(aBn h x m b).1 hc;have:=(aBn h p (m+1) b).2 ⟨k+1,zQ,x,hq.1,k2⟩;rw[hb (m+1) zQ]at this
    cases this
  unfold inP at hy hinx;have hpi:=aP8 i hi;rw[aP9]at hi;have hj:y.toNat - 1<i:=zQ
  have:=hlt (y.toNat - 1) hj;have hy2:parts[y.toNat - 1]'(by rw[aP9];omega)=y:=uT aP8
  rw[hy2]at this;simp[hc.1,hc.2]at this
def cycK(f:Int→Int)(a:Int):Nat:=(((List.range 16).map (· + 1)).find? fun k=>itr f k a==a).getD 0
theorem aQb{f:Int→Int}{a:Int}(h:∃k,1≤k∧k≤16∧itr f k a=a):1≤cycK f a∧cycK f a≤16∧itr f (cycK f a) a=a∧∀i,1≤i→i<cycK f a→itr f i a≠a:=by
 obtain⟨k,k1,k2,k3⟩:=h;unfold cycK
 cases hf:((List.range 16).map (· + 1)).find? fun k=>itr f k a==a with
 | none=>
  have:=List.find?_eq_none.1 hf k (List.mem_map.2 ⟨k - 1,zU,zQ⟩);simp[k3]at this
 | some x=>
  obtain⟨hq,i,hi,hxi,hlt⟩:=List.find?_eq_some_iff_getElem.1 hf;have hx:x=i+1:=by rw[←hxi];simp
  have hi16:i<16:=xX
  refine⟨by show 1≤x;omega,by show x≤16;omega,wX,fun j j1 j2=>?_⟩;have j3:j<x:=j2;have:=hlt (j - 1) zQ;simp only[List.getElem_map,List.getElem_range]at this;rw[show j - 1+1=j by omega]at this;simpa using this
theorem aSg{f:Int→Int}{a:Int}{K:Nat}(hK:itr f K a=a)(hm:∀i,1≤i→i<K→itr f i a≠a){i k:Nat}(hi:1≤i)(hik:i<k)(hk:k≤K):itr f i a≠itr f k a:=by
 intro h;refine hm (i+(K - k)) zQ zQ ?_;rw[aBt,h,←aBt,show k+(K - k)=K by omega,hK]
def aH2(f:Int→Int)(a:Int):Nat→Int
 | 0=>a
 | n+1=>min (aH2 f a n) (itr f (n+1) a)
theorem aJx(f:Int→Int)(a:Int):∀n,∃i,i≤n∧aH2 f a n=itr f i a
 | 0=>⟨0,Nat.le_refl _,rfl⟩
 | n+1=>by
  obtain⟨i,hi,he⟩:=aJx f a n
  by_cases h:aH2 f a n≤itr f (n+1) a
  ·exact⟨i,zQ,by show min _ _=_;rw[Int.min_eq_left h];exact he⟩
  exact⟨n+1,Nat.le_refl _,by show min _ _=_;exact Int.min_eq_right zQ⟩
theorem aLw(f:Int→Int)(a:Int):∀n i,i≤n→aH2 f a n≤itr f i a
 | 0,i,h=>by
  have:i=0:=zQ
  subst this;exact Int.le_refl _
 | n+1,i,h=>by
  show min (aH2 f a n) (itr f (n+1) a)≤_
  by_cases hi:i≤n
  ·have:=aLw f a n i hi;omega
  have:i=n+1:=zQ
  subst this;omega
def aQc(f:Int→Int)(l:Int)(n:Nat):List Int:=l::((List.range n).map fun i=>itr f (i+1) l).reverse
def roundL(f:Int→Int)(a:Int):List Int:=aQc f (aH2 f a (cycK f a - 1)) (cycK f a - 1)
def aDm(es:List Ed):List Int:=if(List.range 16).all (fun n=>(aA2 es (n+1)).pt != 0)then roundL (aA2 es 16).ahd (itr (aA2 es 16).ahd 16 (aA2 es 16).pt)else []
theorem backL_len(f:Int→Int)(l:Int)(n:Nat):(aQc f l n).length=n+1:=by simp[aQc]
theorem backL_get{f:Int→Int}{l:Int}{n:Nat}(hl:itr f (n+1) l=l){i:Nat}(hi:i≤n):(aQc f l n)[i]? = some (itr f (n+1 - i) l):=by
 unfold aQc
 match i,hi with
 | 0,_=>rw[List.getElem?_cons_zero,Nat.sub_zero,hl]
 | i+1,hi=>
  rw[List.getElem?_cons_succ,List.getElem?_reverse zU,List.getElem?_map];simp only[List.length_map,List.length_range];rw[List.getElem?_range zQ,Option.map_some];rw[show n - 1 - i+1=n+1 - (i+1) by omega]
theorem aQd{f:Int→Int}{a:Int}{K:Nat}(hK:itr f K a=a):∀m,itr f (m*K) a=a
 | 0=>by simp[itr]
 | m+1=>by rw[Nat.succ_mul,aBt,aQd hK m,hK]
theorem far_bd{es:List Ed}(hco:∀e∈es,-128≤e.co){n:Nat}:∀(l:List Ed) (s:BF) (m:Nat),(∀e∈l,e∈es)→(∀p,-(128*(m:Int))≤s.far p∧s.far p≤0)→∀p,-(128*((m+l.length:Nat):Int))≤(l.foldl (aEg n) s).far p∧(l.foldl (aEg n) s).far p≤0
 | [],s,m,_,h,p=>uN (h p)
 | e::l,s,m,hl,h,p=>by
  rw[List.foldl_cons]
  have hstep:∀q,-(128*((m+1:Nat):Int))≤(aEg n s e).far q∧(aEg n s e).far q≤0:=by
   intro q;have hq:=h q;unfold aEg;split
   ·rename_i hc;have h1:=h e.fr;have h2:=h e.tt;have h3:=hco e (hl e (List.mem_cons_self ..))
    by_cases hx:q=e.tt
    ·subst hx;show _≤upI s.far e.tt _ e.tt∧upI s.far e.tt _ e.tt≤0;rw[aC8];omega
    show _≤upI s.far e.tt _ q∧upI s.far e.tt _ q≤0;rw[aEl _ hx];omega
   omega
  have:=far_bd hco (n:=n) l (aEg n s e) (m+1) (fun d hd=>hl d (List.mem_cons_of_mem _ hd)) hstep p;rw[List.length_cons,show m+(l.length+1)=m+1+l.length by omega];exact this
theorem passN_bd{es:List Ed}(hco:∀e∈es,-128≤e.co):∀(n:Nat) (p:Int),-(128*((n*es.length:Nat):Int))≤(aA2 es n).far p∧(aA2 es n).far p≤0
 | 0,p=>by
  show -(128*((0*es.length:Nat):Int))≤0∧(0:Int)≤0;omega
 | n+1,p=>by
  have:=far_bd hco (n:=n+1) es { aA2 es n with pt:=0 } (n*es.length) (fun e he=>he) (fun q=>passN_bd hco n q) p;rw[Nat.succ_mul];exact this
structure IsRound(es:List Ed)(s:BF)(K:Nat)(l:Int):Prop where
 k1:1≤K
 k16:K≤16
 back:itr s.ahd K l=l
 apart:∀i,1≤i→i<K→itr s.ahd i l≠l
 ends:∀i,inP (itr s.ahd i l)
 least:∀i,l≤itr s.ahd i l
 edge:∀i,∃e∈es,e.fr=itr s.ahd (i+1) l∧e.tt=itr s.ahd i l∧e.co=s.w (itr s.ahd i l)
 cost:sumI s.ahd s.w K l<0
theorem aLx{es:List Ed}(h:aDm es≠[]):∃K l,K=cycK (aA2 es 16).ahd (itr (aA2 es 16).ahd 16 (aA2 es 16).pt)∧l=aH2 (aA2 es 16).ahd (itr (aA2 es 16).ahd 16 (aA2 es 16).pt) (K - 1)∧(∀i,inP (itr (aA2 es 16).ahd i (itr (aA2 es 16).ahd 16 (aA2 es 16).pt)))∧IsRound es (aA2 es 16) K l∧aDm es=aQc (aA2 es 16).ahd l (K - 1):=by
 have hall:((List.range 16).all fun n=>(aA2 es (n+1)).pt != 0)=true:=by
  refine Classical.byContradiction fun hc=>h ?_
  unfold aDm;rw[if_neg hc]
 have hpt:(aA2 es 16).pt≠0:=by
  have:=List.all_eq_true.1 hall 15 zV;simpa using this
 have hW:aDm es=roundL (aA2 es 16).ahd (itr (aA2 es 16).ahd 16 (aA2 es 16).pt):=by
  unfold aDm;rw[if_pos hall]
 rw[hW];obtain⟨r1,r2⟩:=aIa hpt;have hI:=aLu es 16;generalize aA2 es 16=s at *;generalize ha:itr s.ahd 16 s.pt=a at *;obtain⟨c1,c2,c3,c4⟩:=aQb r2;have hina:inP a:=by rw[←ha];exact r1 16 yL
 -- all of a's steps are parties
 have hret:∀v,∀k,1≤k→itr s.ahd k v=v→inP v→1≤s.t v:=by
  intro v k hk hv hin;rcases Nat.eq_zero_or_pos (s.t v)with h0|h0
  ·exfalso
   match k,hk with
   | k+1,_=>
    have:itr s.ahd k (s.ahd v)=v:=hv;rw[hI.zero v h0,hI.stay k]at this;have:=hin.1;omega
  exact h0
 have hper:∀i,itr s.ahd (cycK s.ahd a) (itr s.ahd i a)=itr s.ahd i a:=fun i=>by rw[←aBt,Nat.add_comm,aBt,c3]
 have hin:∀i,inP (itr s.ahd i a):=by
  intro i
  induction i with
  | zero=>exact hina
  | succ i ih=>rw[aC9];exact(hI.pos _ (hret _ _ c1 (hper i) ih)).2.1
 obtain⟨i0,i1,i2⟩:=aJx s.ahd a (cycK s.ahd a - 1);have hle:=aLw s.ahd a (cycK s.ahd a - 1)
 have hcyc:∀j,itr s.ahd j (itr s.ahd i0 a)=itr s.ahd i0 a→1≤j→¬j<cycK s.ahd a:=by
  intro j hj j1 j2;refine c4 j j1 j2 ?_;have e1:itr s.ahd (cycK s.ahd a - i0) (itr s.ahd j (itr s.ahd i0 a))=itr s.ahd (cycK s.ahd a - i0) (itr s.ahd i0 a):=by rw[hj]
  rw[←aBt,←aBt,←aBt,show i0+(cycK s.ahd a - i0)=cycK s.ahd a by omega,c3,show i0+(j+(cycK s.ahd a - i0))=cycK s.ahd a+j by omega,aBt,c3]at e1;exact e1
 refine⟨cycK s.ahd a,aH2 s.ahd a (cycK s.ahd a - 1),rfl,rfl,hin,⟨c1,c2,?_,?_,?_,?_,fun i=>?_,?_⟩,rfl⟩
 ·rw[i2];exact hper i0
 ·rw[i2];exact fun i h1 h2 h3=>hcyc i h3 h1 h2
 ·rw[i2];intro i;rw[←aBt];exact hin _
 ·rw[i2];intro i;rw[←aBt]
  have hmod:itr s.ahd (i0+i) a=itr s.ahd ((i0+i)%cycK s.ahd a) a:=by
   have:=Nat.div_add_mod (i0+i) (cycK s.ahd a);rw[←this,Nat.mul_comm,aBt,aQd c3,Nat.mul_comm,this]
  rw[hmod,←i2];have:=Nat.mod_lt (i0+i) (show 0<cycK s.ahd a by omega);exact hle _ zQ
 ·rw[i2,aC9,←aBt];obtain⟨_,_,_,_,q⟩:=hI.pos _ (hret _ _ c1 (hper (i0+i)) (hin (i0+i)));exact q
 rw[i2];exact hI.neg _ _ c1 (hper i0) (hin i0)
structure LeftI(f:Int→Int→Int)(b:Int)(n:Nat)(done:Int→Int→Prop)(left:Int→Int):Prop where
 lo:∀p,0≤left p∧left p≤99
 way:∀p,left p=99∨wk f (left p).toNat p b
 all:∀p m,m≤n→wk f m p b→left p≤m
 cur:∀p r,done p r→0<f p r→∀m,m≤n→wk f m r b→left p≤m+1
theorem LeftI.pass{f:Int→Int→Int}{B:Int}(g:GInv f B){b:Int}{n:Nat}{done:Int→Int→Prop}{left:Int→Int}(h:LeftI f b n done left)(hd:∀p r,inP p→inP r→done p r):LeftI f b (n+1) (fun _ _=>False) left:=by
 refine⟨h.lo,h.way,fun p m hm hw=>?_,fun p r hd=>hd.elim⟩
 match m,hm,hw with
 | 0,_,hw=>exact h.all p 0 zQ hw
 | m+1,hm,⟨r,h1,h2⟩=>
  obtain⟨e1,e2,_⟩:=g.ends h1;have:=h.cur p r (hd p r e1 e2) h1 m zQ h2;omega
theorem goS_at{f:Int→Int→Int}{B:Int}(g:GInv f B){b:Int}:∀(n:Nat) (p:Int),inP p→inS f p 16 b=true→dst f p b=n→
  ∀i (hi:i<(goS f b n p).length),inP (goS f b n p)[i]∧inS f (goS f b n p)[i] 16 b=true∧dst f (goS f b n p)[i] b+i=n∧
   ∀(hj:i+1<(goS f b n p).length),0<f (goS f b n p)[i] (goS f b n p)[i+1]∧∀z,inP z→z<(goS f b n p)[i+1]→0<f (goS f b n p)[i] z→¬(inS f z 16 b=true∧dst f z b+(i+1)=n)
 | 0,p,hp,hr,hd,i,hi=>by
  have h0:i=0:=by rw[aEh]at hi;omega
  subst h0;exact⟨hp,hr,hd,fun hj=>by rw[aEh]at hj;omega⟩
 | n+1,p,hp,hr,hd,i,hi=>by
  obtain⟨d1,d2,d3⟩:=aFz hr;rw[hd]at d1 d2 d3;obtain⟨n1,n2,n3,n4,n5⟩:=nxt_spec g d1 (d3 n zQ) (fun m hm=>d3 m zQ);have hdn:=aQa zQ n3 n4;have ih:=goS_at g n (nxt f b n p) n1 (aFc zQ n3) hdn;have hlen:=aEh f b n (nxt f b n p);have hl1:(goS f b (n+1) p).length=n+2:=aEh f b (n+1) p
  match i,hi with
  | 0,hi=>
   refine⟨hp,hr,hd,fun hj=>?_⟩
   have e:(goS f b (n+1) p)[0+1]=nxt f b n p:=by
    show(goS f b n (nxt f b n p))[0]'(by rw[hlen];omega)=nxt f b n p
    cases n <;> rfl
   rw[e];refine⟨n2,fun z hz hzl hf hc=>n5 z hz hzl ⟨hf,?_⟩⟩;have:=(aFz hc.1).1;rw[show dst f z b=n by have:=hc.2;omega]at this;exact this
  | i+1,hi=>
   have hi':i<(goS f b n (nxt f b n p)).length:=by rw[hlen];rw[hl1]at hi;omega
   obtain⟨i1,i2,i3,i4⟩:=ih i hi';refine⟨i1,i2,?_,fun hj=>?_⟩
   ·show dst f ((goS f b n (nxt f b n p))[i]'hi') b+(i+1)=n+1;omega
   have hj':i+1<(goS f b n (nxt f b n p)).length:=by rw[hlen];rw[hl1]at hj;omega
   obtain⟨j1,j2⟩:=i4 hj';refine⟨j1,fun z hz hzl hf hc=>j2 z hz hzl hf ⟨hc.1,?_⟩⟩;have:=hc.2;omega
theorem goS_head(f:Int→Int→Int)(b:Int)(n:Nat)(p:Int):(goS f b n p)[0]'(by rw[aEh];omega)=p:=by cases n <;> rfl
theorem goS_last{f:Int→Int→Int}{B:Int}(g:GInv f B){b p:Int}{n:Nat}(hp:inP p)(hr:inS f p 16 b=true)(hd:dst f p b=n):(goS f b n p)[n]'(by rw[aEh];omega)=b:=by
 obtain⟨h1,h2,h3,_⟩:=goS_at g n p hp hr hd n (uT aEh);have h4:dst f ((goS f b n p)[n]'(by rw[aEh];omega)) b=0:=zQ
 have h5:=(aFz h2).1;rw[h4]at h5;have:(b==(goS f b n p)[n]'(by rw[aEh];omega))=true:=h5;exact(beq_iff_eq.1 this).symm
end Go.Proofs.YtngnfdnfpiiclaaGreat
namespace Go.Proofs.YtngnfdnfpiiclaaGreat
open Go.RowKit
structure WayX(f:Int→Int→Int)(s t:Int)(x:Nat→Int)(m:Nat):Prop where
 x0:x 0=s
 xm:x m=t
 edge:∀i,i<m→0<f (x i) (x (i+1))
 ne:∀i j,i<j→j≤m→x i≠x j
 inp:∀i,i≤m→inP (x i)
 m1:1≤m
 m15:m≤15
 least:∀k,wk f k s t→m≤k
def wayX(f:Int→Int→Int)(s t:Int)(i:Nat):Int:=(aA0 f s t).getD i 0
theorem wayX_of{f:Int→Int→Int}{B:Int}(h:GInv f B){s t:Int}(hne:aA0 f s t≠[]):∃m,(aA0 f s t).length=m+1∧WayX f s t (wayX f s t) m:=by
 unfold wayX;unfold aA0 at hne ⊢
 by_cases hc:inP s∧inP t∧s≠t∧inS f s 16 t=true
 ·rw[if_pos hc];obtain⟨hs,ht,hst,hr⟩:=hc;have hat:=goS_at h (dst f s t) s hs hr rfl;have hlen:=aEh f t (dst f s t) s;obtain⟨d1,d2,d3⟩:=aFz hr
  have hx:∀i (hi:i<(goS f t (dst f s t) s).length),(goS f t (dst f s t) s).getD i 0=(goS f t (dst f s t) s)[i]:=fun i hi=>by
   rw[List.getD_eq_getElem?_getD,List.getElem?_eq_getElem hi];rfl
  have hm1:1≤dst f s t:=by
   rcases Nat.eq_zero_or_pos (dst f s t)with h0|h0
   ·rw[h0]at d1;exact absurd (beq_iff_eq.1 (show(t==s)=true from d1)).symm hst
   exact h0
  refine⟨dst f s t,hlen,⟨?_,?_,fun i hi=>?_,fun i j hij hj=>?_,fun i hi=>?_,hm1,?_,fun k hk=>?_⟩⟩
  ·rw[hx 0 zQ,goS_head]
  ·rw[hx _ zQ];exact goS_last h hs hr rfl
  ·rw[hx i zQ,hx (i+1) zQ];exact((hat i zQ).2.2.2 zQ).1
  ·rw[hx i zQ,hx j zQ];intro e;have h1:=(hat i zQ).2.2.1;have h2:=(hat j zQ).2.2.1;rw[e]at h1;omega
  ·rw[hx i zQ];exact(hat i zQ).1
  ·obtain⟨m,hm,hw⟩:=(aBn h s 16 t).1 hr;have:=aO0 h hw;rcases Nat.lt_or_ge 15 (dst f s t)with hlt|hge
   ·rw[d3 15 hlt]at this;cases this
   exact hge
  rcases Nat.lt_or_ge k (dst f s t)with hlt|hge
  ·have:=(aBn h s k t).2 ⟨k,Nat.le_refl _,hk⟩;rw[d3 k hlt]at this;cases this
  exact hge
 rw[if_neg hc]at hne;exact absurd rfl hne
theorem way_none{f:Int→Int→Int}{B:Int}(h:GInv f B){s t:Int}(hs:inP s)(ht:inP t)(hst:s≠t)(h0:aA0 f s t=[]):∀k,¬wk f k s t:=by
 intro k hk;unfold aA0 at h0;rw[if_pos ⟨hs,ht,hst,aFc zQ (aO0 h hk)⟩]at h0;have:=aEh f t (dst f s t) s;rw[h0]at this;simp at this
theorem aLa{f:Int→Int→Int}{a b n p q:Int}(h1:¬(p=b∧q=a))(h2:¬(p=a∧q=b)):aB9 f a b n p q=f p q:=by
 unfold aB9;rw[if_neg h1,if_neg h2]
theorem pushF_at{f:Int→Int→Int}{a b n:Int}(h:a≠b):aB9 f a b n a b=f a b - n:=by
 unfold aB9;rw[if_neg (fun e=>h e.1),if_pos ⟨rfl,rfl⟩]
def aEc(f:Int→Int→Int)(x:Nat→Int)(n:Int):Nat→(Int→Int→Int)
 | 0=>f
 | i+1=>aB9 (aEc f x n i) (x i) (x (i+1)) n
def capX(f:Int→Int→Int)(x:Nat→Int)(n:Int):Nat→Int
 | 0=>n
 | i+1=>min (capX f x n i) (f (x i) (x (i+1)))
def flX(x:Nat→Int)(n:Int):Nat→List Fw
 | 0=>[]
 | i+1=>flX x n i++[⟨x i,x (i+1),n⟩]
theorem aSh(x:Nat→Int)(n:Int):∀i,(flX x n i).length=i
 | 0=>rfl
 | i+1=>by show(flX x n i++[_]).length=_;rw[List.length_append,aSh x n i];rfl
theorem capX_le(f:Int→Int→Int)(x:Nat→Int)(n:Int):∀i,capX f x n i≤n
 | 0=>Int.le_refl _
 | i+1=>Int.le_trans (Int.min_le_left _ _) (capX_le f x n i)
theorem aQe(f:Int→Int→Int)(x:Nat→Int)(n:Int):∀i j,j<i→capX f x n i≤f (x j) (x (j+1))
 | i+1,j,h=>by
  by_cases e:j=i
  ·subst e;exact Int.min_le_right _ _
  exact Int.le_trans (Int.min_le_left _ _) (aQe f x n i j zQ)
theorem capX_pos{f:Int→Int→Int}{x:Nat→Int}{n:Int}(h0:1≤n):∀i,(∀j,j<i→0<f (x j) (x (j+1)))→1≤capX f x n i
 | 0,_=>h0
 | i+1,h=>by
  have h1:=capX_pos h0 i (fun j hj=>h j zQ);have h2:=h i zQ;show 1≤min _ _;omega
theorem capX_is(f:Int→Int→Int)(x:Nat→Int)(n:Int):∀i,capX f x n i=n∨∃j,j<i∧capX f x n i=f (x j) (x (j+1))
 | 0=>.inl rfl
 | i+1=>by
  show min (capX f x n i) (f (x i) (x (i+1)))=n∨∃j,j<i+1∧min (capX f x n i) (f (x i) (x (i+1)))=f (x j) (x (j+1));rcases Int.le_total (capX f x n i) (f (x i) (x (i+1)))with h|h
  ·rw[Int.min_eq_left h];rcases capX_is f x n i with h1|⟨j,h1,h2⟩
   ·exact .inl h1
   exact .inr ⟨j,zQ,h2⟩
  rw[Int.min_eq_right h];exact .inr ⟨i,zQ,rfl⟩
variable{f:Int→Int→Int}{s t:Int}{x:Nat→Int}{m:Nat}{n:Int}
theorem aEw(h:WayX f s t x m):∀i j,i≤j→j<m→aEc f x n i (x j) (x (j+1))=f (x j) (x (j+1))
 | 0,j,_,_=>rfl
 | i+1,j,hij,hj=>by
  show aB9 (aEc f x n i) (x i) (x (i+1)) n (x j) (x (j+1))=_;rw[aLa (fun e=>h.ne i (j+1) zQ zQ e.2.symm) (fun e=>h.ne i j zQ zQ e.1.symm)];exact aEw h i j zQ hj
theorem aKm(h:WayX f s t x m):∀i j,j<i→i≤m→aEc f x n i (x j) (x (j+1))=f (x j) (x (j+1)) - n
 | i+1,j,hj,hi=>by
  show aB9 (aEc f x n i) (x i) (x (i+1)) n (x j) (x (j+1))=_
  by_cases e:j=i
  ·subst e;rw[pushF_at (h.ne j (j+1) zQ zQ),aEw h j j yL zQ]
  rw[aLa (fun e2=>h.ne j (i+1) zQ zQ e2.1) (fun e2=>h.ne j i zQ zQ e2.1)];exact aKm h i j zQ zQ
theorem aLy{B:Int}(hI:GInv f B)(h:WayX f s t x m)(h1:1≤n)(h2:∀j,j<m→n≤f (x j) (x (j+1))):∀i,i≤m→GInv (aEc f x n i) B
 | 0,_=>hI
 | i+1,hi=>(aLy hI h h1 h2 i zQ).push h1 (by rw[aEw h i i yL zQ];exact h2 i zQ)
theorem aJy(h1:0≤n):∀i p q,0<aEc f x n i p q→0<f p q∨∃j,j<i∧p=x (j+1)∧q=x j
 | 0,p,q,h=>.inl h
 | i+1,p,q,h=>by
  have h:0<aB9 (aEc f x n i) (x i) (x (i+1)) n p q:=h
  by_cases c1:p=x (i+1)∧q=x i
  ·exact .inr ⟨i,zQ,c1⟩
  have h2:0<aEc f x n i p q:=by
   by_cases c2:p=x i∧q=x (i+1)
   ·unfold aB9 at h;rw[if_neg c1,if_pos c2]at h;rw[c2.1,c2.2];omega
   rw[aLa c1 c2]at h;exact h
  rcases aJy h1 i p q h2 with h3|⟨j,h3,h4⟩
  ·exact .inl h3
  exact .inr ⟨j,zQ,h4⟩
def aNz(f:Int→Int→Int)(d:Int→Nat)(i:Nat):Bool:=decide (0<f (((i/16:Nat):Int)+1) (((i%16:Nat):Int)+1)) && (d (((i%16:Nat):Int)+1)==d (((i/16:Nat):Int)+1)+1)
def aLz(f:Int→Int→Int)(d:Int→Nat):Nat:=(List.range 256).countP (aNz f d)
theorem tightN_le(f:Int→Int→Int)(d:Int→Nat):aLz f d≤256:=by
 have:=List.countP_le_length (p:=aNz f d) (l:=List.range 256);simpa [aLz]using this
theorem pair_ix{p q:Int}(hp:inP p)(hq:inP q):∃i,i<256∧((i/16:Nat):Int)+1=p∧((i%16:Nat):Int)+1=q:=by
 unfold inP at hp hq;refine⟨(p.toNat - 1)*16+(q.toNat - 1),zQ,zQ,zQ⟩
theorem aSi{p q:Nat→Bool}{l:List Nat}(h:∀x∈l,p x=true→q x=true){k:Nat}(hk:k∈l)(h1:q k=true)(h2:p k=false):l.countP p<l.countP q:=by
 obtain⟨a,b,rfl⟩:=List.append_of_mem hk;have ha:=List.countP_mono_left (l:=a) (p:=p) (q:=q) (fun x hx=>h x (by simp[hx]));have hb:=List.countP_mono_left (l:=b) (p:=p) (q:=q) (fun x hx=>h x (by simp[hx]));rw[List.countP_append,List.countP_append,List.countP_cons_of_pos h1,List.countP_cons_of_neg (by simp[h2])];omega
structure Lab(f:Int→Int→Int)(s t:Int)(d:Int→Nat):Prop where
 s0:d s=0
 t16:d t≤16
 le:∀u v,0<f u v→d v≤d u+1
theorem Lab.way{d:Int→Nat}(h:Lab f s t d)(hw:WayX f s t x m):∀i,i≤m→d (x i)≤i
 | 0,_=>by rw[hw.x0,h.s0];exact Nat.le_refl _
 | i+1,hi=>by
  have h1:=h.way hw i zQ;have h2:=h.le _ _ (hw.edge i zQ);omega
theorem Lab.rest{d:Int→Nat}(h:Lab f s t d)(hw:WayX f s t x m):∀k,k≤m→d (x m)≤d (x (m - k))+k
 | 0,_=>Nat.le_refl _
 | k+1,hk=>by
  have h1:=h.rest hw k zQ;have h2:=h.le _ _ (hw.edge (m - (k+1)) zQ);rw[show m - (k+1)+1=m - k by omega]at h2;omega
def dstL(f:Int→Int→Int)(s v:Int):Nat:=if inS f s 16 v=true then dst f s v else 16
theorem dst_lab{B:Int}(hI:GInv f B)(hw:WayX f s t x m):Lab f s t (dstL f s)∧dstL f s t=m:=by
 have hdl:∀v,dstL f s v≤16:=fun v=>by
  unfold dstL;split
  ·rename_i hv;exact(aFz hv).2.1
  exact Nat.le_refl _
 refine⟨⟨?_,hdl t,fun u v huv=>?_⟩,?_⟩
 ·have h0:inS f s 0 s=true:=by show(s==s)=true;simp
  unfold dstL;rw[if_pos (aFc zQ h0)];exact aQa zQ h0 (fun k hk=>zQ)
 ·by_cases hu:inS f s 16 u=true
  ·obtain⟨d1,d2,d3⟩:=aFz hu;obtain⟨k,k1,k2⟩:=(aBn hI s _ u).1 d1;have hv:wk f (k+1) s v:=aP7 k2 (wk_one huv);have hv2:=aFc (m:=16) zQ (aO0 hI hv);obtain⟨e1,e2,e3⟩:=aFz hv2;unfold dstL;rw[if_pos hu,if_pos hv2];rcases Nat.lt_or_ge (dst f s u+1) (dst f s v)with hlt|hge
   ·have:=e3 _ hlt;rw[(aBn hI s _ v).2 ⟨k+1,zQ,hv⟩]at this
    cases this
   exact hge
  have:dstL f s u=16:=by unfold dstL;rw[if_neg hu]
  rw[this];have:=hdl v;omega
 have hwk:∀i,i≤m→wk f i s (x i):=by
  intro i
  induction i with
  | zero=>intro _;exact hw.x0.symm
  | succ i ih=>intro hi;exact aP7 (ih zQ) (wk_one (hw.edge i zQ))
 have hm:=hwk m yL;rw[hw.xm]at hm;have hin:inS f s m t=true:=(aBn hI s m t).2 ⟨m,Nat.le_refl _,hm⟩;have h15:=hw.m15;unfold dstL;rw[if_pos (aFc zQ hin)];refine aQa zQ hin fun k hk=>?_
 cases hc:inS f s k t with
 | false=>rfl
 | true=>
  obtain⟨j,j1,j2⟩:=(aBn hI s k t).1 hc;have:=hw.least j j2;omega
theorem Lab.push{B:Int}(hI:GInv f B){d:Int→Nat}(h:Lab f s t d)(hw:WayX f s t x m)(hd:∀i,i≤m→d (x i)=i)(h1:1≤n)(h2:∀j,j<m→n≤f (x j) (x (j+1)))(h3:∃j,j<m∧n=f (x j) (x (j+1))):
  Lab (aEc f x n m) s t d∧aLz (aEc f x n m) d+1≤aLz f d:=by
 refine⟨⟨h.s0,h.t16,fun u v huv=>?_⟩,?_⟩
 ·rcases aJy zQ m u v huv with q|⟨j,j1,rfl,rfl⟩
  ·exact h.le u v q
  rw[hd j zQ,hd (j+1) zQ];omega
 obtain⟨j,j1,j2⟩:=h3;obtain⟨k,k1,k2,k3⟩:=pair_ix (hw.inp j zQ) (hw.inp (j+1) zQ);refine aSi (fun i hi hp=>?_) (List.mem_range.2 k1) ?_ ?_
 ·unfold aNz at hp ⊢;rw[Bool.and_eq_true,decide_eq_true_eq,beq_iff_eq]at hp ⊢;obtain⟨p1,p2⟩:=hp;refine⟨?_,p2⟩;rcases aJy zQ m _ _ p1 with q|⟨i',i1,e1,e2⟩
  ·exact q
  rw[e1,e2,hd i' zQ,hd (i'+1) zQ]at p2;omega
 ·unfold aNz;rw[k2,k3,Bool.and_eq_true,decide_eq_true_eq,beq_iff_eq,hd j zQ,hd (j+1) zQ];exact⟨hw.edge j j1,rfl⟩
 unfold aNz;rw[k2,k3,aKm hw m j j1 yL,←j2];simp
def Bud(f:Int→Int→Int)(s t:Int)(k:Nat):Prop:=∃d,Lab f s t d∧k+(16 - d t)*257+aLz f d≤4112
theorem Bud.start(f:Int→Int→Int)(s t:Int):Bud f s t 0:=by
 refine⟨fun _=>0,⟨rfl,zQ,fun _ _ _=>zQ⟩,?_⟩
 have:aLz f (fun _=>0)=0:=by
  unfold aLz;rw[List.countP_eq_zero];intro i _;unfold aNz;simp
 rw[this];dsimp only;omega
theorem Bud.le{k:Nat}(h:Bud f s t k):k≤4112:=by
 obtain⟨d,_,h⟩:=h;omega
theorem Bud.next{B:Int}{k:Nat}(hI:GInv f B)(h:Bud f s t k)(hw:WayX f s t x m)(h1:1≤n)(h2:∀j,j<m→n≤f (x j) (x (j+1)))(h3:∃j,j<m∧n=f (x j) (x (j+1))):
  Bud (aEc f x n m) s t (k+1):=by
 obtain⟨d,hd,hb⟩:=h;have hup:=hd.way hw;have hre:=hd.rest hw;have ht:=hw.xm;have hm15:=hw.m15;have hdm:=hup m yL;rw[ht]at hdm
 by_cases he:d t=m
 ·have hall:∀i,i≤m→d (x i)=i:=fun i hi=>by
   have q1:=hup i hi;have q2:=hre (m - i) zQ;rw[ht,show m - (m - i)=i by omega]at q2;omega
  obtain⟨l1,l2⟩:=hd.push hI hw hall h1 h2 h3;exact⟨d,l1,zQ⟩
 obtain⟨l1,l2⟩:=dst_lab hI hw;have hup:=l1.way hw;have hre:=l1.rest hw
 have hall:∀i,i≤m→dstL f s (x i)=i:=fun i hi=>by
  have q1:=hup i hi;have q2:=hre (m - i) zQ;rw[ht,show m - (m - i)=i by omega]at q2;omega
 obtain⟨l3,l4⟩:=l1.push hI hw hall h1 h2 h3;have:=tightN_le f (dstL f s);refine⟨dstL f s,l3,?_⟩;rw[l2];omega
end Go.Proofs.YtngnfdnfpiiclaaGreat
namespace Go.Proofs.YtngnfdnfpiiclaaGreat
open Go.RowKit
def aI4:(Int→Int→Int)→List Fw→Prop
 | _,[]=>True
 | f,x::r=>1≤x.am∧x.am≤f x.fr x.tt∧aI4 (aB9 f x.fr x.tt x.am) r
def aK3(f:Int→Int→Int)(l:List Fw):Int→Int→Int:=l.foldl (fun g x=>aB9 g x.fr x.tt x.am) f
theorem aKn(f:Int→Int→Int)(a b:List Fw):aK3 f (a++b)=aK3 (aK3 f a) b:=by unfold aK3;rw[List.foldl_append]
theorem aGx:∀(a:List Fw) (f:Int→Int→Int) (b:List Fw),aI4 f (a++b)↔aI4 f a∧aI4 (aK3 f a) b
 | [],f,b=>by simp[aI4,aK3]
 | x::a,f,b=>by
  have ih:=aGx a (aB9 f x.fr x.tt x.am) b;show(1≤x.am∧x.am≤f x.fr x.tt∧aI4 (aB9 f x.fr x.tt x.am) (a++b))↔(1≤x.am∧x.am≤f x.fr x.tt∧aI4 (aB9 f x.fr x.tt x.am) a)∧aI4 (aK3 (aB9 f x.fr x.tt x.am) a) b;rw[ih]
  constructor
  ·rintro⟨h1,h2,h3,h4⟩;exact⟨⟨h1,h2,h3⟩,h4⟩
  rintro⟨⟨h1,h2,h3⟩,h4⟩;exact⟨h1,h2,h3,h4⟩
theorem aO1(f:Int→Int→Int)(x:Nat→Int)(n:Int):∀i,aK3 f (flX x n i)=aEc f x n i
 | 0=>rfl
 | i+1=>by
  show aK3 f (flX x n i++[_])=_;rw[aKn,aO1 f x n i];rfl
theorem flX_good{f:Int→Int→Int}{s t:Int}{x:Nat→Int}{m:Nat}{n:Int}(h:WayX f s t x m)(h1:1≤n)(h2:∀j,j<m→n≤f (x j) (x (j+1))):∀i,i≤m→aI4 f (flX x n i)
 | 0,_=>trivial
 | i+1,hi=>by
  show aI4 f (flX x n i++[_]);rw[aGx,aO1];refine⟨flX_good h h1 h2 i zQ,h1,?_,trivial⟩;show n≤aEc f x n i (x i) (x (i+1));rw[aEw h i i yL zQ];exact h2 i zQ
theorem flX_mem{x:Nat→Int}{n:Int}{e:Fw}:∀{i:Nat},e∈flX x n i→∃j,j<i∧e=⟨x j,x (j+1),n⟩
 | i+1,h=>by
  have h:e∈flX x n i++[⟨x i,x (i+1),n⟩]:=h;rcases List.mem_append.1 h with h|h
  ·obtain⟨j,h1,h2⟩:=flX_mem h;exact⟨j,zQ,h2⟩
  exact⟨i,zQ,y7⟩
def netL:List Fw→Int→Int
 | [],_=>0
 | x::r,p=>(if x.tt=p then x.am else 0) - (if x.fr=p then x.am else 0)+netL r p
theorem aIb(p:Int):∀(a b:List Fw),netL (a++b) p=netL a p+netL b p
 | [],b=>by simp[netL]
 | x::a,b=>by
  show _+netL (a++b) p=(_+netL a p)+netL b p;rw[aIb p a b];omega
theorem netL_flX(x:Nat→Int)(n p:Int):∀i,netL (flX x n i) p=(if x i=p then n else 0) - (if x 0=p then n else 0)
 | 0=>by show(0:Int)=_;omega
 | i+1=>by
  show netL (flX x n i++[_]) p=_;rw[aIb,netL_flX x n p i];show _+((if x (i+1)=p then n else 0) - (if x i=p then n else 0)+0)=_;omega
def aEo(g:Nat→Int):Nat→Int
 | 0=>0
 | k+1=>aEo g k+g k
theorem aL0(g h:Nat→Int):∀k,aEo (fun i=>g i+h i) k=aEo g k+aEo h k
 | 0=>rfl
 | k+1=>by
  show aEo (fun i=>g i+h i) k+(g k+h k)=(aEo g k+g k)+(aEo h k+h k);rw[aL0 g h k];omega
theorem aIc{g h:Nat→Int}:∀k,(∀i,i<k→g i=h i)→aEo g k=aEo h k
 | 0,_=>rfl
 | k+1,e=>by
  show aEo g k+g k=aEo h k+h k;rw[aIc k (fun i hi=>e i zQ),e k zQ]
theorem aL1(j:Nat)(c:Int):∀k,aEo (fun i=>if i=j then c else 0) k=if j<k then c else 0
 | 0=>by simp[aEo]
 | k+1=>by
  show aEo (fun i=>if i=j then c else 0) k+(if k=j then c else 0)=_;rw[aL1 j c k]
  by_cases e:k=j
  ·subst e;rw[if_neg zQ,if_pos rfl,if_pos zQ];omega
  rw[if_neg e]
  by_cases h:j<k
  ·rw[if_pos h,if_pos zQ];omega
  rw[if_neg h,if_neg zQ];omega
theorem sumTo_bd{g:Nat→Int}{B:Int}:∀k,(∀i,i<k→0≤g i∧g i≤B)→0≤aEo g k∧aEo g k≤B*k
 | 0,_=>by simp[aEo]
 | k+1,h=>by
  have h1:=sumTo_bd k (fun i hi=>h i zQ);have h2:=h k zQ;show 0≤aEo g k+g k∧aEo g k+g k≤B*((k+1:Nat):Int);rw[Int.natCast_succ,Int.mul_add,Int.mul_one];omega
def pU(i:Nat):Int:=((i/16:Nat):Int)+1
def pV(i:Nat):Int:=((i%16:Nat):Int)+1
def outK(f:Int→Int→Int)(S:Int→Bool)(k:Nat):Int:=aEo (fun i=>if S (pU i) && !S (pV i)then f (pU i) (pV i)else 0) k
def outS(f:Int→Int→Int)(S:Int→Bool):Int:=outK f S 256
theorem outK_bd{f:Int→Int→Int}{B:Int}(h:GInv f B)(S:Int→Bool)(k:Nat):0≤outK f S k∧outK f S k≤B*k:=by
 have hB:0≤B:=uS (h.nn 1 1) (h.le 1 1)
 refine sumTo_bd k fun i _=>?_
 split
 ·exact⟨h.nn _ _,h.le _ _⟩
 exact⟨Int.le_refl _,hB⟩
theorem pUV_inj{i j:Nat}(h1:pU i=pU j)(h2:pV i=pV j):i=j:=by
 unfold pU at h1;unfold pV at h2;omega
theorem pair_pUV{p q:Int}(hp:inP p)(hq:inP q):∃i,i<256∧pU i=p∧pV i=q:=pair_ix hp hq
theorem pushF_back(f:Int→Int→Int)(a b n:Int):aB9 f a b n b a=f b a+n:=by
 unfold aB9;rw[if_pos ⟨rfl,rfl⟩]
theorem outS_push(f:Int→Int→Int)(S:Int→Bool){a b:Int}(n:Int)(ha:inP a)(hb:inP b)(hab:a≠b):
  outS (aB9 f a b n) S=outS f S+(if S b=true∧S a=false then n else 0) - (if S a=true∧S b=false then n else 0):=by
 obtain⟨k1,k1l,k1u,k1v⟩:=pair_pUV hb ha;obtain⟨k2,k2l,k2u,k2v⟩:=pair_pUV ha hb;have hk:k1≠k2:=by rintro rfl;exact hab (k2u.symm.trans k1u)
 have e:outS (aB9 f a b n) S=aEo (fun i=>((if S (pU i) && !S (pV i)then f (pU i) (pV i)else 0)+(if i=k1 then(if S b=true∧S a=false then n else 0)else 0))+(if i=k2 then -(if S a=true∧S b=false then n else 0)else 0)) 256:=by
  refine aIc 256 fun i hi=>?_
  by_cases e1:i=k1
  ·subst e1;rw[if_pos rfl,if_neg hk,k1u,k1v];rw[pushF_back]
   cases S b <;> cases S a <;> simp
  by_cases e2:i=k2
  ·subst e2;rw[if_neg e1,if_pos rfl,k2u,k2v];rw[pushF_at hab]
   cases S b <;> cases S a <;> simp <;> omega
  rw[if_neg e1,if_neg e2];rw[aLa (fun h=>e1 (pUV_inj (h.1.trans k1u.symm) (h.2.trans k1v.symm))) (fun h=>e2 (pUV_inj (h.1.trans k2u.symm) (h.2.trans k2v.symm)))];omega
 rw[e,aL0,aL0,aL1,aL1,if_pos k1l,if_pos k2l];unfold outS outK;omega
theorem outS_way{f:Int→Int→Int}{s t:Int}{x:Nat→Int}{m:Nat}(h:WayX f s t x m)(n:Int)(S:Int→Bool):∀i,i≤m→outS (aEc f x n i) S=outS f S - (if S (x 0)=true then n else 0)+(if S (x i)=true then n else 0)
 | 0,_=>by show outS f S=_;omega
 | i+1,hi=>by
  show outS (aB9 (aEc f x n i) (x i) (x (i+1)) n) S=_;rw[outS_push _ S n (h.inp i zQ) (h.inp (i+1) hi) (h.ne i (i+1) zQ hi),outS_way h n S i zQ]
  cases S (x i) <;> cases S (x (i+1)) <;> simp <;> omega
structure RS where
 f:Int→Int→Int
 left:Int
 out:List Fw
def aEp(s t:Int)(σ:RS):Prop:=σ.left≤0∨aA0 σ.f s t=[]
instance(s t:Int)(σ:RS):Decidable (aEp s t σ):=by unfold aEp;infer_instance
def wayR(s t:Int)(σ:RS):RS:=
 ⟨aEc σ.f (wayX σ.f s t) (capX σ.f (wayX σ.f s t) σ.left ((aA0 σ.f s t).length - 1)) ((aA0 σ.f s t).length - 1),σ.left - capX σ.f (wayX σ.f s t) σ.left ((aA0 σ.f s t).length - 1),
  σ.out++flX (wayX σ.f s t) (capX σ.f (wayX σ.f s t) σ.left ((aA0 σ.f s t).length - 1)) ((aA0 σ.f s t).length - 1)⟩
def stepR(s t:Int)(σ:RS):RS:=if aEp s t σ then σ else wayR s t σ
def itR(s t:Int)(σ:RS):Nat→RS
 | 0=>σ
 | k+1=>stepR s t (itR s t σ k)
theorem aO2{s t:Int}{σ:RS}{k:Nat}(h:aEp s t (itR s t σ k)):∀j,itR s t σ (k+j)=itR s t σ k
 | 0=>rfl
 | j+1=>by
  show stepR s t (itR s t σ (k+j))=_;rw[aO2 h j];unfold stepR;rw[if_pos h]
structure RInv(f0:Int→Int→Int)(B s t want:Int)(k:Nat)(σ:RS):Prop where
 k5:k≤4113
 at_:σ=itR s t ⟨f0,want,[]⟩ k
 g:GInv σ.f B
 good:aI4 f0 σ.out
 fold:aK3 f0 σ.out=σ.f
 lo:0≤σ.left∨σ.left=want
 hi:σ.left≤want
 len:σ.out.length≤15*k
 bud:0<σ.left→Bud σ.f s t k
 net:∀p,netL σ.out p=(if t=p then want - σ.left else 0) - (if s=p then want - σ.left else 0)
 cut:∀S:Int→Bool,S s=true→S t=false→outS σ.f S=outS f0 S - (want - σ.left)
 els:∀e∈σ.out,inP e.fr∧inP e.tt∧e.fr≠e.tt∧1≤e.am∧e.am≤B
theorem RInv.start{f0:Int→Int→Int}{B:Int}(h:GInv f0 B)(s t want:Int):RInv f0 B s t want 0 ⟨f0,want,[]⟩:=by
 refine⟨zQ,rfl,h,trivial,rfl,.inr rfl,Int.le_refl _,zV,fun _=>Bud.start f0 s t,fun p=>?_,fun S _ _=>?_,zV⟩
 ·show(0:Int)=(if t=p then want - want else 0) - (if s=p then want - want else 0);rw[Int.sub_self];split <;> split <;> omega
 show outS f0 S=outS f0 S - (want - want);omega
theorem RInv.way{f0:Int→Int→Int}{B s t want:Int}{k:Nat}{σ:RS}(h:RInv f0 B s t want k σ)(hd:¬aEp s t σ):∃m n,(aA0 σ.f s t).length=m+1∧WayX σ.f s t (wayX σ.f s t) m∧n=capX σ.f (wayX σ.f s t) σ.left m∧1≤n∧n≤σ.left∧(∀j,j<m→n≤σ.f (wayX σ.f s t j) (wayX σ.f s t (j+1)))∧
  wayR s t σ=⟨aEc σ.f (wayX σ.f s t) n m,σ.left - n,σ.out++flX (wayX σ.f s t) n m⟩:=by
 have h1:0<σ.left:=by
  rcases Int.lt_or_le 0 σ.left with q|q
  ·exact q
  exact absurd (.inl q) hd
 have h2:aA0 σ.f s t≠[]:=fun e=>hd (.inr e)
 obtain⟨m,hm,hw⟩:=wayX_of h.g h2;refine⟨m,_,hm,hw,rfl,capX_pos zQ m hw.edge,capX_le _ _ _ _,fun j hj=>aQe _ _ _ m j hj,?_⟩;unfold wayR;rw[hm,Nat.add_sub_cancel]
theorem RInv.step{f0:Int→Int→Int}{B s t want:Int}{k:Nat}{σ:RS}(h:RInv f0 B s t want k σ)(hd:¬aEp s t σ):RInv f0 B s t want (k+1) (wayR s t σ):=by
 obtain⟨m,n,hm,hw,hn,n1,n2,n3,he⟩:=h.way hd;have hpos:0<σ.left:=zQ
 have hk:=(h.bud hpos).le;rw[he];refine⟨zQ,?_,aLy h.g hw n1 n3 m yL,?_,?_,?_,?_,?_,fun hl=>?_,fun p=>?_,fun S hs ht=>?_,fun e hmem=>?_⟩
 ·rw[←he];show _=stepR s t (itR s t ⟨f0,want,[]⟩ k);rw[←h.at_];unfold stepR;rw[if_neg hd]
 ·show aI4 f0 (σ.out++_);rw[aGx,h.fold];exact⟨h.good,flX_good hw n1 n3 m yL⟩
 ·show aK3 f0 (σ.out++_)=_;rw[aKn,h.fold,aO1]
 ·left;show 0≤σ.left - n;omega
 ·show σ.left - n≤want;have:=h.hi;omega
 ·show(σ.out++_).length≤_;rw[List.length_append,aSh];have:=h.len;have:=hw.m15;omega
 ·have hl:0<σ.left - n:=hl;refine(h.bud hpos).next h.g hw n1 n3 ?_;rcases capX_is σ.f (wayX σ.f s t) σ.left m with q|⟨j,q1,q2⟩
  ·rw[←hn]at q;omega
  exact⟨j,q1,hn.trans q2⟩
 ·show netL (σ.out++_) p=(if t=p then want - (σ.left - n)else 0) - (if s=p then want - (σ.left - n)else 0);rw[aIb,h.net p,netL_flX,hw.x0,hw.xm];split <;> split <;> omega
 ·show outS (aEc σ.f (wayX σ.f s t) n m) S=outS f0 S - (want - (σ.left - n));rw[outS_way hw n S m yL,hw.x0,hw.xm,h.cut S hs ht,hs,ht];simp;omega
 have hmem:e∈σ.out++flX (wayX σ.f s t) n m:=hmem;rcases List.mem_append.1 hmem with q|q
 ·exact h.els e q
 obtain⟨j,j1,rfl⟩:=flX_mem q;have:=n3 j j1;have:=h.g.le (wayX σ.f s t j) (wayX σ.f s t (j+1));exact⟨hw.inp j zQ,hw.inp (j+1) zQ,hw.ne j (j+1) zQ zQ,n1,by show n≤B;omega⟩
def aAj(f0:Int→Int→Int)(B s t want:Int)(σ:RS):Prop:=∃k,RInv f0 B s t want k σ∧aEp s t σ
theorem aAj.eq{f0:Int→Int→Int}{B s t want:Int}{σ τ:RS}(h:aAj f0 B s t want σ)(g:aAj f0 B s t want τ):σ=τ:=by
 obtain⟨k,h1,h2⟩:=h;obtain⟨j,g1,g2⟩:=g;have a1:=h1.at_;have a2:=g1.at_;rw[a1]at h2 ⊢;rw[a2]at g2 ⊢;rcases Nat.le_total k j with q|q
 ·have:=aO2 h2 (j - k);rw[show k+(j - k)=j by omega]at this;exact this.symm
 have:=aO2 g2 (k - j);rw[show j+(k - j)=k by omega]at this;exact this
theorem aSj{f:Int→Int→Int}{B:Int}(h:GInv f B){S:Int→Bool}(hS:∀a b,S a=true→0<f a b→S b=true):outS f S=0:=by
 have:outS f S=aEo (fun _=>0) 256:=by
  refine aIc 256 fun i _=>?_
  cases h1:S (pU i)with
  | false=>rfl
  | true=>
   cases h2:S (pV i)with
   | true=>rfl
   | false=>
    have h3:=h.nn (pU i) (pV i)
    by_cases h4:0<f (pU i) (pV i)
    ·rw[hS _ _ h1 h4]at h2;cases h2
    show f (pU i) (pV i)=0;omega
 rw[this]
 have hz:∀k,aEo (fun _=>0) k=0:=by
  intro k
  induction k with
  | zero=>rfl
  | succ k ih=>show aEo (fun _=>0) k+0=0;omega
 exact hz 256
theorem aAj.n0{f0:Int→Int→Int}{B s t want:Int}{σ:RS}(h:aAj f0 B s t want σ):0≤want - σ.left:=by
 obtain⟨k,h,_⟩:=h;have:=h.hi;omega
theorem aAj.nw{f0:Int→Int→Int}{B s t want:Int}{σ:RS}(h:aAj f0 B s t want σ)(hw:1≤want):want - σ.left≤want:=by
 obtain⟨k,h,_⟩:=h;have:=h.lo;omega
theorem aAj.g{f0:Int→Int→Int}{B s t want:Int}{σ:RS}(h:aAj f0 B s t want σ):GInv σ.f B:=by
 obtain⟨k,h,_⟩:=h;exact h.g
theorem aAj.cut{f0:Int→Int→Int}{B s t want:Int}{σ:RS}(h:aAj f0 B s t want σ)(S:Int→Bool)(hs:S s=true)(ht:S t=false):outS σ.f S=outS f0 S - (want - σ.left):=by
 obtain⟨k,h,_⟩:=h;exact h.cut S hs ht
theorem aAj.le_cut{f0:Int→Int→Int}{B s t want:Int}{σ:RS}(h:aAj f0 B s t want σ){S:Int→Bool}(hs:S s=true)(ht:S t=false):want - σ.left≤outS f0 S:=by
 have h1:=h.cut S hs ht;have h2:=(outK_bd h.g S 256).1;unfold outS at h1;show _≤outK f0 S 256;omega
def aL2(f:Int→Int→Int)(s:Int)(v:Int):Bool:=inS f s 16 v
theorem aO3{f:Int→Int→Int}{B:Int}(h:GInv f B)(s:Int):∀a b,aL2 f s a=true→0<f a b→aL2 f s b=true:=fun a b h1 h2=>by
 obtain⟨k,_,k2⟩:=(aBn h s 16 a).1 h1;exact aFc zQ (aO0 h (aP7 k2 (wk_one h2)))
theorem aId(f:Int→Int→Int)(s:Int):aL2 f s s=true:=aFc (n:=0) zQ (by show(s==s)=true;simp)
theorem aAj.less{f0:Int→Int→Int}{B s t want:Int}{σ:RS}(h:aAj f0 B s t want σ)(hs:inP s)(ht:inP t)(hst:s≠t)(hl:want - σ.left<want):
  aL2 σ.f s t=false∧outS f0 (aL2 σ.f s)=want - σ.left:=by
 have hg:=h.g;have hcut:=h.cut;obtain⟨k,hI,hD⟩:=h
 have h0:aA0 σ.f s t=[]:=by
  rcases hD with q|q
  ·omega
  exact q
 have hno:=way_none hg hs ht hst h0
 have hrt:aL2 σ.f s t=false:=by
  cases hc:aL2 σ.f s t with
  | false=>rfl
  | true=>
   obtain⟨k,_,k2⟩:=(aBn hg s 16 t).1 hc;exact absurd k2 (hno k)
 refine⟨hrt,?_⟩;have h1:=hcut _ (aId σ.f s) hrt;rw[aSj hg (aO3 hg s)]at h1;omega
def aCc:Int:=4611686018427387904
theorem aSk{f0:Int→Int→Int}{s t:Int}{μ:RS}(h:aAj f0 4398046511104 s t aCc μ)(h0:GInv f0 4398046511104)(hst:s≠t):0≤aCc - μ.left∧aCc - μ.left≤1125899906842624:=by
 have h2:=h.le_cut (S:=fun v=>v==s) zV (by simpa using fun e=>hst e.symm);have h3:=(outK_bd h0 (fun v=>v==s) 256).2;unfold outS at h2;have:=h.n0;omega
theorem most_cut{f0:Int→Int→Int}{s t:Int}{μ:RS}(h:aAj f0 4398046511104 s t aCc μ)(h0:GInv f0 4398046511104)(hs:inP s)(ht:inP t)(hst:s≠t):∃S:Int→Bool,S s=true∧S t=false∧outS f0 S=aCc - μ.left:=by
 have hb:=aSk h h0 hst;obtain⟨h1,h2⟩:=h.less hs ht hst (by unfold aCc at hb ⊢;omega);exact⟨_,aId _ _,h1,h2⟩
theorem aQf{f0:Int→Int→Int}{s t want:Int}{σ μ:RS}(hR:aAj f0 4398046511104 s t want σ)(hM:aAj f0 4398046511104 s t aCc μ)(h0:GInv f0 4398046511104)(hs:inP s)(ht:inP t)(hst:s≠t)(hw:1≤want):
  want - σ.left=min want (aCc - μ.left):=by
 obtain⟨S,h1,h2,h3⟩:=most_cut hM h0 hs ht hst;have h4:=hR.le_cut h1 h2;have h5:=hR.nw hw
 by_cases hl:want - σ.left<want
 ·obtain⟨h6,h7⟩:=hR.less hs ht hst hl;have h8:=hM.le_cut (aId σ.f s) h6;omega
 omega
def arr(f:Nat→Bool):Array Value:=Array.ofFn (n:=192) fun i=>Value.bool (f i)
attribute [irreducible] arr
theorem aEx{P:Program}{ops:Array Oper}{rest:List Oper}{o:Oper}{a:Act}{w:World}{Q:Exit→Act→World→Prop}(hgd:o.guard=none)(t:TypeId)(parts:Array (Nat×Operand))(ho:o.op=.build t parts)
  (ps:Array (Nat×Value))(hp:(parts.map fun(i,x)=>(i,a.eval x))=ps)(cells:Array Value)(hrun:(Instr.build t ps).run P w=.ok (.agg cells) w)
  (h:wpList P ops Q rest (a.put o.dst (.agg cells)) w):wpList P ops Q (o::rest) a w:=
 wpList_plain hgd fun _ hK=>by
  unfold Oper.wp execOp;simp only[ho,hp,Sem.run_bind,hrun,Result.andThen_ok];exact hK _ _ h
theorem aSl{P:Program}{o:Oper}{a:Act}{w:World}{K:Act→World→Prop}{Q:Exit→Act→World→Prop}(t:TypeId)(parts:Array (Nat×Operand))(ho:o.op=.build t parts)
  (ps:Array (Nat×Value))(hp:(parts.map fun(i,x)=>(i,a.eval x))=ps)(cells:Array Value)(hrun:(Instr.build t ps).run P w=.ok (.agg cells) w)
  (h:K (a.put o.dst (.agg cells)) w):o.wp P a w K Q:=by
 unfold Oper.wp execOp;simp only[ho,hp,Sem.run_bind,hrun,Result.andThen_ok];exact h
theorem Blk.row{w:World}{g:Nat}{old cs:Array Value}{t:TypeId}(h:Blk w g old t):Blk (w.setRow g cs) g cs t:=setRow_heap w g old cs t (0,0) h
def aO4(v:Int→Int→Value):Array Value:=Array.ofFn (n:=289) fun i=>v ((i.val/17:Nat):Int) ((i.val%17:Nat):Int)
theorem aHj(v:Int→Int→Value):(aO4 v).size=289:=by simp[aO4]
theorem aI5(v:Int→Int→Value){i:Nat}(h:i<289):(aO4 v)[i]? = some (v ((i/17:Nat):Int) ((i%17:Nat):Int)):=by simp[aO4,h]
theorem gridA_at(v:Int→Int→Value){p q:Nat}(hp:p<17)(hq:q<17):(aO4 v)[p*17+q]? = some (v p q):=by
 rw[aI5 _ zQ,show(p*17+q)/17=p by omega,show(p*17+q)%17=q by omega]
theorem gridA_set(v:Int→Int→Value){p q:Nat}(hp:p<17)(hq:q<17)(u:Value):(aO4 v).setIfInBounds (p*17+q) u=aO4 fun a b=>if a=p∧b=q then u else v a b:=by
 apply Array.ext_getElem?;intro j
 by_cases hj:j<289
 ·rw[aI5 _ hj]
  by_cases hi:p*17+q=j
  ·subst hi;rw[Array.getElem?_setIfInBounds_self_of_lt (uT aHj),show(p*17+q)/17=p by omega,show(p*17+q)%17=q by omega,if_pos ⟨rfl,rfl⟩]
  rw[Array.getElem?_setIfInBounds_ne hi,aI5 _ hj,if_neg];rintro⟨e1,e2⟩;omega
 rw[Array.getElem?_eq_none (by simp[aHj];omega),Array.getElem?_eq_none (uT aHj)]
def rowA(v:Int→Int→Value)(p:Int):Array Value:=Array.ofFn (n:=17) fun i=>v p ((i.val:Nat):Int)
theorem aEd(v:Int→Int→Value)(p:Int):(rowA v p).size=17:=by simp[rowA]
theorem aF0(v:Int→Int→Value)(p:Int){i:Nat}(h:i<17):(rowA v p)[i]? = some (v p i):=by simp[rowA,h]
def graC(f:Int→Int→Int)(b:Bool):Array Value:=Array.ofFn (n:=290) fun i=>if i.val=289 then .bool b else .int .i64 (f ((i.val/17:Nat):Int) ((i.val%17:Nat):Int))
theorem aL3(f:Int→Int→Int)(b:Bool):(graC f b).size=290:=by simp[graC]
theorem aL4(f:Int→Int→Int)(b:Bool):(graC f b)[289]? = some (.bool b):=by simp[graC]
theorem aLb(f:Int→Int→Int)(b:Bool){i:Nat}(h:i<289):(graC f b)[i]? = some (.int .i64 (f ((i/17:Nat):Int) ((i%17:Nat):Int))):=by
 have h1:i<290:=zQ
 have h2:i≠289:=zQ
 simp[graC,h1,h2]
theorem graC_at(f:Int→Int→Int)(b:Bool){p q:Nat}(hp:p<17)(hq:q<17):(graC f b)[p*17+q]? = some (.int .i64 (f p q)):=by
 rw[aLb _ _ zQ,show(p*17+q)/17=p by omega,show(p*17+q)%17=q by omega]
theorem graC_set(f:Int→Int→Int)(b:Bool){p q:Nat}(hp:p<17)(hq:q<17)(n:Int):(graC f b).setIfInBounds (p*17+q) (.int .i64 n)=graC (updE f p q n) b:=by
 apply Array.ext_getElem?;intro j
 by_cases hj:j<289
 ·rw[aLb _ _ hj];unfold updE
  by_cases hi:p*17+q=j
  ·subst hi;rw[Array.getElem?_setIfInBounds_self_of_lt (uT aL3),show(p*17+q)/17=p by omega,show(p*17+q)%17=q by omega,if_pos ⟨rfl,rfl⟩]
  rw[Array.getElem?_setIfInBounds_ne hi,aLb _ _ hj,if_neg];rintro⟨e1,e2⟩;omega
 by_cases h2:j=289
 ·subst h2;rw[Array.getElem?_setIfInBounds_ne zQ,aL4,aL4]
 rw[Array.getElem?_eq_none (by simp[aL3];omega),Array.getElem?_eq_none (uT aL3)]
theorem aJz{f g:Int→Int→Int}(b:Bool)(h:∀p q:Nat,p<17→q<17→f p q=g p q):graC f b=graC g b:=by
 unfold graC;congr 1
 funext i
 by_cases hi:i.val=289
 ·simp[hi]
 rw[if_neg hi,if_neg hi,h _ _ zQ zQ]
def capA(f:Int→Int→Int):Array Value:=aO4 fun p q=>.int .i64 (f p q)
theorem aQg(f:Int→Int→Int):(capA f).size=289:=aHj _
theorem capA_get(f:Int→Int→Int){i:Nat}(h:i<289):(capA f)[i]? = some (.int .i64 (f ((i/17:Nat):Int) ((i%17:Nat):Int))):=aI5 _ h
theorem cap_range{w:World}{g:Nat}{f:Int→Int→Int}{b:Bool}{t:TypeId}(h:Blk w g (graC f b) t):w.rangeAt g 0 (capA f).toList:=by
 intro j v hv
 have hj:j<289:=by
  rcases Nat.lt_or_ge j 289 with h|h
  ·exact h
  rw[List.getElem?_eq_none (by simp[aQg];omega)]at hv;cases hv
 rw[Nat.zero_add,h.cell j,aLb _ _ hj];rw[Array.getElem?_toList,capA_get _ hj]at hv;exact hv
theorem Blk.cap{w:World}{g:Nat}{f:Int→Int→Int}{b:Bool}{t:TypeId}(h:Blk w g (graC f b) t){p q:Int}(h0:0≤p)(h1:p<17)(h2:0≤q)(h3:q<17):w.cell? ⟨g,p.toNat*17+q.toNat,none⟩=some (.int .i64 (f p q)):=by
 rw[h.cell,graC_at f b zQ zQ,Int.toNat_of_nonneg h0,Int.toNat_of_nonneg h2]
theorem Blk.capSet{w:World}{g:Nat}{f:Int→Int→Int}{b:Bool}{t:TypeId}(h:Blk w g (graC f b) t){p q:Int}(h0:0≤p)(h1:p<17)(h2:0≤q)(h3:q<17)(n:Int):
  Blk (w.setCell ⟨g,p.toNat*17+q.toNat,none⟩ (.int .i64 n)) g (graC (updE f p q n) b) t:=by
 have:=h.set (p.toNat*17+q.toNat) (.int .i64 n);rw[graC_set f b zQ zQ,Int.toNat_of_nonneg h0,Int.toNat_of_nonneg h2]at this;exact this
theorem Blk.madeG{w:World}{g:Nat}{f:Int→Int→Int}{b:Bool}{t:TypeId}(h:Blk w g (graC f b) t):w.cell? ⟨g,289,none⟩=some (.bool b):=by rw[h.cell,aL4]
theorem build_gra0(w:World):(Instr.build 327 #[(1,.bool true)]).run Tryz.prog w=.ok (.agg (graC aH0 true)) w:=by
 have h:(Instr.build 327 #[(1,.bool true)]).run Tryz.prog=fun w=>.ok (.agg (graC aH0 true)) w:=zW
 rw[h]
theorem build_gra(f:Int→Int→Int)(w:World):(Instr.build 327 #[(0,.agg (capA f)),(1,.bool true)]).run Tryz.prog w=.ok (.agg (graC f true)) w:=by
 have h:(Instr.build 327 #[(0,.agg (capA f)),(1,.bool true)]).run Tryz.prog=fun w=>.ok (.agg (graC f true)) w:=zW
 rw[h]
theorem zero_caps:(∀w,(zeroValue 325).run Tryz.prog w=.ok (.agg (capA aH0)) w)∧(Tryz.prog.info? 325).map (·.size)=some 289:=
 zero_of_info zW
theorem info_caps(f:Int→Int→Int):(Tryz.prog.info? 325).map (·.size)=some (capA f).size:=by rw[aQg];exact zero_caps.2
theorem aSm(f:Int→Int→Int):(Tryz.prog.info? 325).map (·.size)=some (capA f).toList.length:=by rw[Array.length_toList];exact info_caps f
attribute [irreducible] graC capA rowA aO4
def mayG(p:Int):Bool:=decide (1≤p∧p≤16)
theorem aA8{p:Int}(h:inP p):mayG p=true:=by unfold mayG;unfold inP at h;simp;omega
theorem aDd{p:Int}(h:¬inP p):mayG p=false:=by unfold mayG;unfold inP at h;simp;omega
theorem gmay_any(p:Int)(w:World):Calls Tryz.prog 291 #[.int .u8 p] w (yS w (.bool (mayG p))):=by
 have hs:(¬1≤p∧mayG p=false)∨(1≤p∧p≤16∧mayG p=true)∨(1≤p∧¬p≤16∧mayG p=false):=by unfold mayG;simp;omega
 rcases hs with⟨h1,h2⟩|⟨h1,h3,h2⟩|⟨h1,h3,h2⟩
 all_goals
  rw[h2];clear h2;go_enter Tryz.func291,Tryz.ntmps291;go_wp2;go_ret;exact⟨rfl,rfl⟩
def outF(f:Int→Int→Int):Prop:=∀p q,¬(inP p∧inP q)→f p q=0
theorem GInv.outF{f:Int→Int→Int}{B:Int}(h:GInv f B):outF f:=h.out
theorem gcap_any{w:World}{g:Nat}{f:Int→Int→Int}{b:Bool}(h:Blk w g (graC f b) 327)(ho:outF f)(p q:Int):
  Calls Tryz.prog 261 #[.pointer (some ⟨g,0,none⟩),.int .u8 p,.int .u8 q] w (yS w (.int .i64 (f p q))):=by
 have C1:=yH (gmay_any p w);have C2:=yH (gmay_any q w)
 by_cases hp:inP p
 ·by_cases hq:inP q
  ·rw[aA8 hp]at C1;rw[aA8 hq]at C2;obtain⟨p1,p2⟩:=hp;obtain⟨q1,q2⟩:=hq;have d:=h.cap (p:=p) (q:=q) zQ zQ zQ zQ;have p3:0≤p:=zQ
   have p4:p<17:=zQ
   have q3:0≤q:=zQ
   have q4:q<17:=zQ
   clear h ho;generalize f p q=n at *;go_enter Tryz.func261,Tryz.ntmps261;go_wp2_with fail;refine C1.o.mono ?_;rintro e w ⟨rfl,rfl⟩;go_wp2_with fail;refine C2.o.mono ?_;rintro e w ⟨rfl,rfl⟩;go_wp2_with fail;go_ret;exact⟨rfl,rfl⟩
  rw[aA8 hp]at C1;rw[aDd hq]at C2;rw[ho p q (fun e=>hq e.2)];clear h ho hp hq;go_enter Tryz.func261,Tryz.ntmps261;go_wp2_with fail;refine C1.o.mono ?_;rintro e w ⟨rfl,rfl⟩;go_wp2_with fail;refine C2.o.mono ?_;rintro e w ⟨rfl,rfl⟩;go_wp2_with fail;go_ret;exact⟨rfl,rfl⟩
 rw[aDd hp]at C1;rw[ho p q (fun e=>hp e.1)];clear h ho hp;go_enter Tryz.func261,Tryz.ntmps261;go_wp2_with fail;refine C1.o.mono ?_;rintro e w ⟨rfl,rfl⟩;go_wp2_with fail;go_ret;exact⟨rfl,rfl⟩
theorem gcap_nil(p q:Int)(w:World):Calls Tryz.prog 261 #[.pointer none,.int .u8 p,.int .u8 q] w (yS w (.int .i64 0)):=by
 go_enter Tryz.func261,Tryz.ntmps261;go_wp2;go_ret;exact⟨rfl,rfl⟩
def aI6(f:Int→Int→Int)(a b n:Int):Int:=if n<1 then 1 else if f a b<n then 11 else 0
def aGq(f:Int→Int→Int)(a b n:Int):Int→Int→Int:=if 1≤n∧n≤f a b then aB9 f a b n else f
theorem gpush_any{w:World}{g:Nat}{f:Int→Int→Int}{B:Int}(h:Blk w g (graC f true) 327)(hI:GInv f B)(hB:B≤4611686018427387903){a b n:Int}(hn:In64 n):
  Calls Tryz.prog 227 #[.pointer (some ⟨g,0,none⟩),.int .u8 a,.int .u8 b,.int .i64 n] w fun e w'=>e=.returned (.int .i64 (aI6 f a b n))∧Blk w' g (graC (aGq f a b n) true) 327∧Keep (·=g) w w':=by
 have KB:=yH h;have dm:=h.madeG;have C:=yH (gcap_any h hI.outF a b);obtain⟨n0,n1⟩:=hn
 by_cases h1:n<1
 ·have EE:=yH (show aI6 f a b n=1∧aGq f a b n=f from⟨by unfold aI6;rw[if_pos h1],by unfold aGq;rw[if_neg zQ]⟩);clear h hI C;go_enter Tryz.func227,Tryz.ntmps227;go_wp2;go_ret;exact⟨zR,by rw[EE.o.2];exact KB.o,Keep.refl _ _⟩
 by_cases h2:f a b<n
 ·have EE:=yH (show aI6 f a b n=11∧aGq f a b n=f from⟨by unfold aI6;rw[if_neg h1,if_pos h2],by unfold aGq;rw[if_neg zQ]⟩);clear h hI;obtain⟨x,hx⟩:∃x,f a b=x:=⟨_,rfl⟩;rw[hx]at C h2;clear hx;go_enter Tryz.func227,Tryz.ntmps227;go_wp2_with fail;refine C.o.mono ?_;rintro e w ⟨rfl,rfl⟩;go_wp2_with fail;go_ret;exact⟨zR,by rw[EE.o.2];exact KB.o,Keep.refl _ _⟩
 obtain⟨⟨a1,a2⟩,⟨b1,b2⟩,hab⟩:=hI.ends (p:=a) (q:=b) zQ;have hbd:=hI.pair a b;have hnn:=hI.nn b a;have EE:=yH (show aI6 f a b n=0∧aGq f a b n=updE (updE f a b (f a b - n)) b a (f b a+n)from⟨by unfold aI6;rw[if_neg h1,if_neg h2],by unfold aGq;rw[if_pos zQ];rfl⟩);obtain⟨x,hx⟩:∃x,f a b=x:=⟨_,rfl⟩;obtain⟨y,hy⟩:∃y,f b a=y:=⟨_,rfl⟩;have hy2:updE f a b (x - n) b a=y:=by unfold updE;rw[if_neg (fun e=>hab e.1.symm),hy]
 rw[hx,hy]at EE;rw[hx]at C h2 hbd;rw[hy]at hbd hnn;have HX:=yH hx;have HY2:=yH hy2;clear h hI hx hy hy2 hab;go_enter Tryz.func227,Tryz.ntmps227;go_wp2_with fail;refine C.o.mono ?_;rintro e w ⟨rfl,rfl⟩;go_wp2_with fail
 refine aCf zW 14 16 [(.pointer (some ⟨g,0,none⟩)),(.int .u8 a),(.int .u8 b),(.pointer (some ⟨g,0,none⟩)),(.pointer (some ⟨g,0,none⟩)),(.pointer (some ⟨g,a.toNat*17,none⟩)),(.pointer (some ⟨g,a.toNat*17+b.toNat,none⟩)),(.int .i64 x),(.int .i64 n),(.int .i64 (x - n)),(.pointer (some ⟨g,0,none⟩)),(.pointer (some ⟨g,0,none⟩)),(.pointer (some ⟨g,a.toNat*17,none⟩)),(.pointer (some ⟨g,a.toNat*17+b.toNat,none⟩))]
  (fun w'=>Below w.heap.size w w') zW rfl zW yZ.drew ?_
 intro af haf;simp only[yG,List.append_eq,List.cons_append,List.nil_append,puts,Act.put,yA,yC,yF,yD,yE]at haf;subst haf;refine⟨?_,?_⟩
 ·simp only[yG,List.take_succ_cons,List.take_zero,aA6];refine⟨?z1,?z2,?z3,?z4,?z5,?z6,?z7,?_,?z8,?z9,?z10,?z11,?z12,?z13,trivial⟩
  case z1|z2|z3|z4|z5|z6|z7|z8|z9|z10|z11|z12|z13=>
   intro w' hS;refine yO rfl ?_;have HS:=yH hS;clear hS;go_wp2_with fail;all_goals first|exact HS|exact⟨rfl,HS⟩|rfl|exact⟨zQ,HS.o⟩
  intro w' hS;refine yO rfl ?_;have kb:=KB.o.below hS KB.o.lt;have d:=kb.cap (p:=a) (q:=b) zQ zQ zQ zQ;rw[HX.o]at d;have HS:=yH hS;clear hS;go_wp2_with fail;all_goals first|exact HS|exact⟨rfl,HS⟩|rfl|exact⟨zQ,HS.o⟩
 simp only[yC,yA,yG];intro w' hS;refine yO rfl ?_;have kb:=yH ((KB.o.below hS KB.o.lt).capSet (p:=a) (q:=b) zQ zQ zQ zQ (x - n));have dm:=(KB.o.below hS KB.o.lt).cap (p:=a) (q:=b) zQ zQ zQ zQ;have fr:=(KB.o.below hS KB.o.lt).frozen (a.toNat*17+b.toNat);have kk:=yH ((pAD (S:=(·=g)) hS).setCell (p:=⟨g,a.toNat*17+b.toNat,none⟩) (.inl rfl) (.int .i64 (x - n)));clear hS;go_wp2_with fail;generalize w'.setCell ⟨g,a.toNat*17+b.toNat,none⟩ (.int .i64 (x - n))=w2 at *;clear KB;have KB:=yH kb.out;clear kb dm fr C
 refine aCf zW 14 16 [(.pointer (some ⟨g,0,none⟩)),(.int .u8 b),(.int .u8 a),(.pointer (some ⟨g,0,none⟩)),(.pointer (some ⟨g,0,none⟩)),(.pointer (some ⟨g,b.toNat*17,none⟩)),(.pointer (some ⟨g,b.toNat*17+a.toNat,none⟩)),(.int .i64 y),(.int .i64 n),(.int .i64 (y+n)),(.pointer (some ⟨g,0,none⟩)),(.pointer (some ⟨g,0,none⟩)),(.pointer (some ⟨g,b.toNat*17,none⟩)),(.pointer (some ⟨g,b.toNat*17+a.toNat,none⟩))]
  (fun w'=>Below w2.heap.size w2 w') zW rfl zW yZ.drew ?_
 intro af haf;simp only[yG,List.append_eq,List.cons_append,List.nil_append,puts,Act.put,yA,yC,yF,yD,yE]at haf;subst haf;refine⟨?_,?_⟩
 ·simp only[yG,List.take_succ_cons,List.take_zero,aA6];refine⟨?z14,?z15,?z16,?z17,?z18,?z19,?z20,?_,?z21,?z22,?z23,?z24,?z25,?z26,trivial⟩
  case z14|z15|z16|z17|z18|z19|z20|z21|z22|z23|z24|z25|z26=>
   intro w' hS;refine yO rfl ?_;have HS:=yH hS;clear hS;go_wp2_with fail;all_goals first|exact HS|exact⟨rfl,HS⟩|rfl|exact⟨zQ,HS.o⟩
  intro w' hS;refine yO rfl ?_;have kb:=KB.o.below hS KB.o.lt;have d:=kb.cap (p:=b) (q:=a) zQ zQ zQ zQ;rw[HY2.o]at d;have HS:=yH hS;clear hS;go_wp2_with fail;all_goals first|exact HS|exact⟨rfl,HS⟩|rfl|exact⟨zQ,HS.o⟩
 simp only[yC,yA,yG];intro w' hS;refine yO rfl ?_;have kb:=yH ((KB.o.below hS KB.o.lt).capSet (p:=b) (q:=a) zQ zQ zQ zQ (y+n));have dm:=(KB.o.below hS KB.o.lt).cap (p:=b) (q:=a) zQ zQ zQ zQ;have fr:=(KB.o.below hS KB.o.lt).frozen (b.toNat*17+a.toNat);have k2:=yH ((kk.out.trans (pAD (S:=(·=g)) hS)).setCell (p:=⟨g,b.toNat*17+a.toNat,none⟩) (.inl rfl) (.int .i64 (y+n)));clear hS;go_wp2_with fail;generalize w'.setCell ⟨g,b.toNat*17+a.toNat,none⟩ (.int .i64 (y+n))=w3 at *;go_ret;exact⟨zR,by rw[EE.o.2];exact kb.out,k2.out⟩
def IsG(w:World)(v:Value)(f:Int→Int→Int):Prop:=(v=.pointer none∧f=aH0)∨∃g b,v=.pointer (some ⟨g,0,none⟩)∧Blk w g (graC f b) 327
theorem IsG.below{w w':World}{v:Value}{f:Int→Int→Int}(h:IsG w v f)(hb:Below w.heap.size w w'):IsG w' v f:=by
 rcases h with h|⟨g,b,h1,h2⟩
 ·exact .inl h
 exact .inr ⟨g,b,h1,h2.below hb h2.lt⟩
theorem gcopy_nil(w:World):Calls Tryz.prog 224 #[.pointer none] w (yS w (.pointer none)):=by
 go_enter Tryz.func224,Tryz.ntmps224;go_wp2;go_ret;exact⟨rfl,rfl⟩
theorem gcopy_any{w:World}{g:Nat}{f:Int→Int→Int}(h:Blk w g (graC f true) 327):
  Calls Tryz.prog 224 #[.pointer (some ⟨g,0,none⟩)] w fun e w'=>e=.returned (.pointer (some ⟨w.heap.size,0,none⟩))∧Blk w' w.heap.size (graC f true) 327∧Below w.heap.size w w':=by
 have d:=h.madeG;have R:=yH (cap_range h);clear h;go_enter Tryz.func224,Tryz.ntmps224
 go_wp2_with first
  | ((with_reducible refine wpList_load_mid ?_ 325 (.tmp 14) ?_ g 0 ?_ (capA f).toList _ R.o Tryz.underlying325 ?_ (aSm _) ?_);exact rfl;exact rfl;exact rfl;exact rfl;rw[Array.toArray_toList])
  | ((with_reducible refine aEx ?_ 327 #[(0,.tmp 15),(1,.const (.bool true))] ?_ #[(0,.agg (capA f)),(1,.bool true)] ?_ (graC f true) (build_gra f _) ?_);exact rfl;exact rfl;simp[Act.eval,Act.put])
 go_ret;exact⟨rfl,Blk.new _ _ _,yZ.alloc yL _⟩
def lineV(o:Option Ln):Value:=match o with|some x=>.tuple #[x.val,.bool true]|none=>.tuple #[noLn.val,.bool false]
theorem aQh:(Tryz.prog.info? 71).map (fun i=>(i.zero,i.size,i.bytes))=some (some noLn.val,5,24):=zW
theorem aI7(w:World){ops:Array Oper}{rest:List Oper}{o:Oper}{a:Act}{Q:Exit→Act→World→Prop}(hgd:o.guard=none)(s x:Operand)
  (ho:o.op=.call { callee:=.builtin .append,args:=#[s,x],argTypes:=#[42,42] })(base:Nat)(v:Value)(ls:List Ln)(hs:a.eval s=v)
  (hown:w.ownsRow base 71 5 v ls.length (aA9 ls))(g c:Nat)(y:Ln)(hx:a.eval x=.slice (some ⟨g,0,none⟩) 1 c)(hy:Blk w g #[.int .u8 y.cr,.int .u8 y.de,.int .u8 y.cu,.int .i64 y.li,.int .i64 y.db] 71)(hlen:ls.length≤100000)(hbase:base≤w.heap.size)
  (h:∀v' w',w'.ownsRow base 71 5 v' (ls++[y]).length (aA9 (ls++[y]))→w.grownBy w' v.ownBlock→wpList Tryz.prog ops Q rest (a.put o.dst v') w'):wpList Tryz.prog ops Q (o::rest) a w:=by
 obtain⟨i0,hi,hz0,hz1,hz2⟩:=info_parts aQh;refine wpList_append_own w hgd s x 42 ho base 71 i0 noLn.val 5 24 Tryz.underlying42 hi hz0 hz1 hz2 rfl zX v ls.length (aA9 ls) hs hown ⟨g,0,none⟩ 1 c y.vals hx rfl ?_ ?_ zE zQ hbase ?_
 ·intro j u hj;have:=hy.cell j;rw[Go.WideShapes.add_plain]
  match j,hj with
  | 0,hj=>simp[Ln.vals]at hj;subst hj;simpa using this
  | 1,hj=>simp[Ln.vals]at hj;subst hj;simpa using this
  | 2,hj=>simp[Ln.vals]at hj;subst hj;simpa using this
  | 3,hj=>simp[Ln.vals]at hj;subst hj;simpa using this
  | 4,hj=>simp[Ln.vals]at hj;subst hj;simpa using this
  | j+5,hj=>simp[Ln.vals]at hj
 ·intro u hu;simp[Ln.vals]at hu;rcases hu with rfl|rfl|rfl|rfl|rfl <;> rfl
 intro v' w' h1 h2 _;refine h v' w' ?_ h2;rw[aNm,aSc,List.length_append];exact h1
def aC0(ps:List Int)(p:Int)(k:Nat):List Int:=((List.range (k - 1)).map fun i:Nat=>(i:Int)+1).filter fun q=>q==p || decide (q∈ps)
theorem aSn(ps:List Int)(p:Int)(k:Nat)(h:1≤k):aC0 ps p (k+1)=aC0 ps p k++(if((k:Int)==p || decide ((k:Int)∈ps))=true then [(k:Int)]else []):=by
 unfold aC0;rw[show k+1 - 1=(k - 1)+1 by omega,List.range_succ,List.map_append,List.filter_append];congr 1;rw[List.map_singleton,show((k - 1:Nat):Int)+1=(k:Int) by omega];simp only[List.filter_cons,List.filter_nil]
theorem aN0(ps:List Int)(p:Int)(k:Nat):(aC0 ps p k).length≤k:=by
 unfold aC0;refine Nat.le_trans (List.length_filter_le _ _) ?_;simp
def aH1(ps:List Int)(p:Int):Int:=if p<1∨16<p then 1 else if p∈ps then 8 else 0
def aGt(ps:List Int)(p:Int):List Int:=if p<1∨16<p then ps else if p∈ps then ps else aC0 ps p 17
theorem aN1:(Tryz.prog.info? 68).map (fun i=>(i.zero,i.size,i.bytes))=some (some (.int .u8 0),1,1):=zW
theorem aEy(w:World){ops:Array Oper}{rest:List Oper}{o:Oper}{a:Act}{Q:Exit→Act→World→Prop}(hgd:o.guard=none)(s x:Operand)
  (ho:o.op=.call { callee:=.builtin .append,args:=#[s,x],argTypes:=#[41,41] })(base:Nat)(v:Value)(ps:List Int)(hs:a.eval s=v)
  (hown:w.ownsRow base 68 1 v ps.length (ps.map (.int .u8)))(g c:Nat)(y:Int)(hx:a.eval x=.slice (some ⟨g,0,none⟩) 1 c)(hy:Blk w g #[.int .u8 y] 68)(hlen:ps.length≤100000)(hbase:base≤w.heap.size)
  (h:∀v' w',w'.ownsRow base 68 1 v' (ps++[y]).length ((ps++[y]).map (.int .u8))→w.grownBy w' v.ownBlock→wpList Tryz.prog ops Q rest (a.put o.dst v') w'):wpList Tryz.prog ops Q (o::rest) a w:=by
 obtain⟨i0,hi,hz0,hz1,hz2⟩:=info_parts aN1;refine wpList_append_own w hgd s x 41 ho base 68 i0 (.int .u8 0) 1 1 Tryz.underlying41 hi hz0 hz1 hz2 rfl zX v ps.length (ps.map (.int .u8)) hs hown ⟨g,0,none⟩ 1 c [.int .u8 y] hx rfl ?_ ?_ zE zQ hbase ?_
 ·intro j u hj;have:=hy.cell j;rw[Go.WideShapes.add_plain]
  match j,hj with
  | 0,hj=>simp at hj;subst hj;simpa using this
  | j+1,hj=>simp at hj
 ·intro u hu;simp at hu;subst hu;rfl
 intro v' w' h1 h2 _;refine h v' w' ?_ h2;rw[List.map_append,List.length_append];exact h1
theorem aI8{w:World}{base:Nat}{v:Value}{n:Nat}{xs:List Value}(h:w.ownsRow base 209 3 v n xs):
  Calls Tryz.prog 228 #[v] w (aHi w base 209 3 n v xs):=by
 rcases h.2 with⟨rfl,h0⟩|⟨g,cap,cur,rfl,hbase,hb,h1,h2,h3,h4⟩
 ·subst h0;have hr:=aBi (P:=Tryz.prog) w 203 209 3 Tryz.underlying203 (Tryz.sizeOf209 w);have hx:=h.1;have hx2:=yH hx;clear h hx;go_enter Tryz.func228,Tryz.ntmps228;go_wp2;refine bodyPost_ret (v:=.slice none 0 0) (by simp[results,Tryz.results228,go_sem]) rfl ?_;exact⟨_,rfl,⟨hx2.out,.inl ⟨rfl,rfl⟩⟩,rfl,rfl⟩
 have hr:=aCg (P:=Tryz.prog) w 203 209 3 Tryz.underlying203 (Tryz.sizeOf209 w) g n cap h1;have HR:=yH (show aBk w base 209 3 (.slice (some ⟨g,0,none⟩) n n) n xs from⟨h.1,.inr ⟨g,cur,rfl,hbase,hb,zQ,zQ,h4⟩⟩);clear h hb h4 h3;unfold maxLen at h2;go_enter Tryz.func228,Tryz.ntmps228;go_wp2;refine bodyPost_ret (v:=.slice (some ⟨g,0,none⟩) n n) (by simp[results,Tryz.results228,go_sem]) rfl ?_;exact⟨_,rfl,HR.o,rfl,rfl⟩
theorem Blk.capSetN{w:World}{g:Nat}{f:Int→Int→Int}{b:Bool}{t:TypeId}(h:Blk w g (graC f b) t){p q:Nat}(hp:p<17)(hq:q<17)(n:Int):
  Blk (w.setCell ⟨g,p*17+q,none⟩ (.int .i64 n)) g (graC (updE f p q n) b) t:=by
 have:=h.set (p*17+q) (.int .i64 n);rw[graC_set f b hp hq]at this;exact this
theorem Blk.capN{w:World}{g:Nat}{f:Int→Int→Int}{b:Bool}{t:TypeId}(h:Blk w g (graC f b) t){p q:Nat}(hp:p<17)(hq:q<17):w.cell? ⟨g,p*17+q,none⟩=some (.int .i64 (f p q)):=by
 rw[h.cell,graC_at f b hp hq]
def aNp(rf:Int→Int→Int)(m:Nat)(a b:Int):Int:=if a*17+b<m then rf a b else 0
theorem partF_zero(rf:Int→Int→Int):graC (aNp rf 0) true=graC aH0 true:=aJz true fun p q hp hq=>by unfold aNp aH0;rw[if_neg zQ]
theorem partF_next(rf:Int→Int→Int){p q:Nat}(hp:p<17)(hq:q<17):graC (updE (aNp rf (p*17+q)) p q (rf p q)) true=graC (aNp rf (p*17+(q+1))) true:=aJz true fun a b ha hb=>by
 unfold updE aNp
 by_cases h:(a:Int)=p∧(b:Int)=q
 ·rw[if_pos h,if_pos zQ,h.1,h.2]
 rw[if_neg h]
 by_cases h2:(a:Int)*17+b<((p*17+q:Nat):Int)
 ·rw[if_pos h2,if_pos zQ]
 rw[if_neg h2,if_neg zQ]
theorem partF_all(rf:Int→Int→Int):graC (aNp rf (17*17)) true=graC rf true:=aJz true fun p q hp hq=>by unfold aNp;rw[if_pos zQ]
def GOfAt(w:World)(rf:Int→Int→Int)(i:Value)(wr:World):Prop:=
 ∃p:Nat,p≤17∧i=.int .i64 p∧Blk wr w.heap.size (graC (aNp rf (p*17)) true) 327∧Below w.heap.size w wr
def GOfIn(w:World)(rf:Int→Int→Int)(p:Nat)(i:Value)(wr:World):Prop:=
 ∃q:Nat,q≤17∧i=.int .i64 q∧Blk wr w.heap.size (graC (aNp rf (p*17+q)) true) 327∧Below w.heap.size w wr
theorem gof_any{w:World}{lv:Value}{c:Int}{rf:Int→Int→Int}
  (hr:∀w',Below w.heap.size w w'→∀p q:Int,In8 p→In8 q→Calls Tryz.prog 229 #[lv,.int .u8 p,.int .u8 q,.int .u8 c] w' fun e w''=>e=.returned (.int .i64 (rf p q))∧Below w'.heap.size w' w''):
  Calls Tryz.prog 193 #[lv,.int .u8 c] w fun e w'=>e=.returned (.pointer (some ⟨w.heap.size,0,none⟩))∧Blk w' w.heap.size (graC rf true) 327∧Below w.heap.size w w':=by
 have HR:=yH hr;clear hr;have B0:=yH ((Below.refl w.heap.size w).alloc yL (.cells (graC aH0 true) 327));have K0:=Blk.new w (graC aH0 true) 327
 have K0':=yH (show Blk (w.alloc (.cells (graC aH0 true) 327)) w.heap.size (graC (aNp rf (0*17)) true) 327 from by
  rw[show 0*17=0 from rfl,partF_zero];exact K0)
 clear K0;go_enter Tryz.func193,Tryz.ntmps193;go_wp2_with ((with_reducible refine aEx ?_ 327 #[(1,.const (.bool true))] ?_ #[(1,.bool true)] ?_ (graC aH0 true) (build_gra0 _) ?_);exact rfl;exact rfl;simp[Act.eval,Act.put])
 go_loopw [10] (GOfAt w rf) (fun i _=>17 - (intOf i).toNat)
 case atStart=>exact⟨0,zQ,rfl,K0'.o,B0.o⟩
 clear K0' B0;obtain⟨p,hp,rfl,hG,hB⟩:=hrel;have G1:=yH hG;have B1:=yH hB;clear hG hB
 by_cases hp2:p<17
 ·have hpi:(p:Int)<17:=zQ
  go_wp2_with fail
  go_loopw [13] (GOfIn w rf p) (fun i _=>17 - (intOf i).toNat)
  case atStart=>exact⟨0,zQ,rfl,G1.o,B1.o⟩
  clear G1 B1;obtain⟨q,hq,rfl,hG,hB⟩:=hrel;have G1:=yH hG;have B1:=yH hB;clear hG hB
  by_cases hq2:q<17
  ·have hqi:(q:Int)<17:=zQ
   have CR:=yH (fun w' (k:Below wr.heap.size wr w')=>HR.o w' (B1.o.trans (k.mono B1.o.size)) p q x6 x6);have NX:=yH (partF_next rf hp2 hq2);obtain⟨n,hn⟩:∃n,rf p q=n:=⟨_,rfl⟩;rw[hn]at CR NX;clear hn;go_wp2_with fail
   refine aCf zW 14 16 [(.pointer (some ⟨w.heap.size,0,none⟩)),(.int .i64 p),(.int .i64 q),lv,(.int .i64 p),(.int .u8 p),(.int .i64 q),(.int .u8 q),(.int .u8 c),(.int .i64 n),(.pointer (some ⟨w.heap.size,0,none⟩)),(.pointer (some ⟨w.heap.size,0,none⟩)),(.pointer (some ⟨w.heap.size,p*17,none⟩)),(.pointer (some ⟨w.heap.size,p*17+q,none⟩))]
    (fun w'=>Below wr.heap.size wr w') zW rfl zW yZ.drew ?_
   intro af haf;simp only[yG,List.append_eq,List.cons_append,List.nil_append,puts,Act.put,yA,yC,yF,yD,yE]at haf;subst haf;refine⟨?_,?_⟩
   ·simp only[yG,List.take_succ_cons,List.take_zero,aA6];refine⟨?z1,?z2,?z3,?z4,?z5,?z6,?z7,?z8,?z9,?_,?z10,?z11,?z12,?z13,trivial⟩
    case z1|z2|z3|z4|z5|z6|z7|z8|z9|z10|z11|z12|z13=>
     intro w' hS;refine yO rfl ?_;have HS:=yH hS;clear hS;go_wp2_with fail;all_goals first|exact HS|exact⟨rfl,HS⟩|rfl|exact⟨zQ,HS.o⟩
    intro w' hS;refine yO rfl ?_;have HS:=yH hS;clear hS;go_wp2_with fail;refine(CR.o w' HS.o).mono ?_;rintro e w'' ⟨rfl,hb2⟩;exact⟨rfl,andB HS.o hb2⟩
   simp only[yC,yA,yG];intro w' hS;refine yO rfl ?_;have kb:=yH ((G1.o.below hS G1.o.lt).capSetN hp2 hq2 n);have dm:=(G1.o.below hS G1.o.lt).capN hp2 hq2;have fr:=(G1.o.below hS G1.o.lt).frozen (p*17+q);have k4:=yH (((B1.o.trans (hS.mono B1.o.size)).setCell (p:=⟨w.heap.size,p*17+q,none⟩) zV (.int .i64 n)));clear hS;go_wp2_with fail;generalize w'.setCell ⟨w.heap.size,p*17+q,none⟩ (.int .i64 n)=w4 at *;go_roundw
   case rel=>exact⟨q+1,zQ,by go_num,by rw[←NX.o];exact kb.out,k4.out⟩
   case measure=>simp[intOf];omega
  have hq17:q=17:=zQ
  subst hq17;go_wp2_with fail;go_roundw
  case rel=>exact⟨p+1,zQ,by go_num,by rw[show(p+1)*17=p*17+17 by omega];exact G1.o,B1.o⟩
  case measure=>simp[intOf];omega
 have hp17:p=17:=zQ
 subst hp17;rw[partF_all]at G1;go_wp2_with fail;go_ret;exact⟨rfl,G1.o,B1.o⟩
theorem rowA_set(v:Int→Int→Value)(p:Int){i:Nat}(hi:i<17)(u:Value):(rowA v p).setIfInBounds i u=rowA (fun a q=>if q=(i:Int)then u else v a q) p:=by
 apply Array.ext_getElem?;intro j
 by_cases hj:j<17
 ·rw[aF0 _ p hj]
  by_cases h:i=j
  ·subst h;rw[Array.getElem?_setIfInBounds_self_of_lt (by rw[aEd];exact hj),if_pos rfl]
  rw[Array.getElem?_setIfInBounds_ne h,aF0 v p hj,if_neg zQ]
 rw[Array.getElem?_eq_none (by simp[aEd];omega),Array.getElem?_eq_none (uT aEd)]
theorem aN2{v u:Int→Int→Value}{p p':Int}(h:∀i:Nat,i<17→v p i=u p' i):rowA v p=rowA u p':=by
 apply Array.ext_getElem?;intro j
 by_cases hj:j<17
 ·rw[aF0 v p hj,aF0 u p' hj,h j hj]
 rw[Array.getElem?_eq_none (uT aEd),Array.getElem?_eq_none (uT aEd)]
def inA(b:Int→Bool):Array Value:=rowA (fun _ q=>.bool (b q)) 0
theorem aI9(b:Int→Bool):(inA b).size=17:=aEd _ _
theorem aSo(b:Int→Bool){i:Nat}(h:i<17):(inA b)[i]? = some (.bool (b i)):=aF0 _ _ h
theorem inA_set(b:Int→Bool){i:Nat}(hi:i<17)(u:Bool):(inA b).setIfInBounds i (.bool u)=inA fun q=>if q=(i:Int)then u else b q:=by
 unfold inA;rw[rowA_set _ _ hi];refine aN2 fun j hj=>?_
 dsimp only;split <;> rfl
theorem inA_one(b:Int→Bool):(inA b).all (·.oneCell')=true:=by
 rw[Array.all_eq_true];intro i hi;have h17:i<17:=by rw[aI9]at hi;exact hi
 have:=aSo b h17;rw[Array.getElem?_eq_getElem hi]at this;simp only[Option.some.injEq]at this;rw[this];rfl
theorem Blk.inAt{w:World}{g:Nat}{b:Int→Bool}{t:TypeId}(h:Blk w g (inA b) t){p:Int}(h0:0≤p)(h1:p<17):w.cell? ⟨g,p.toNat,none⟩=some (.bool (b p)):=by
 rw[h.cell,aSo b zQ,Int.toNat_of_nonneg h0]
theorem Blk.inSet{w:World}{g:Nat}{b:Int→Bool}{t:TypeId}(h:Blk w g (inA b) t){p:Int}(h0:0≤p)(h1:p<17)(u:Bool):Blk (w.setCell ⟨g,p.toNat,none⟩ (.bool u)) g (inA fun q=>if q=p then u else b q) t:=by
 have:=h.set p.toNat (.bool u);rw[inA_set b zQ,Int.toNat_of_nonneg h0]at this;exact this
attribute [irreducible] inA
theorem aF1{w:World}{base:Nat}{e:TypeId}{size:Nat}{v:Value}{n:Nat}{xs:List Value}(h:aBk w base e size v n xs):
  ∃(ao:Option Addr),v=.slice ao n n∧(0<n→∃g,ao=some ⟨g,0,none⟩∧base≤g∧g<w.heap.size∧∀j,j<n*size→w.cell? ⟨g,j,none⟩=xs[j]?):=by
 obtain⟨h1,h2⟩:=h;rcases h2 with⟨rfl,rfl⟩|⟨g,cur,rfl,hb,hg,h3,h4,h5⟩
 ·exact⟨none,rfl,fun h=>absurd h zQ⟩
 refine⟨some ⟨g,0,none⟩,rfl,fun _=>⟨g,rfl,hb,lt_of_block hg,fun j hj=>?_⟩⟩;have:w.cell? ⟨g,j,none⟩=cur[j]? := by simp[World.cell?,hg]
 rw[this,←h5,List.getElem?_take_of_lt hj,Array.getElem?_toList]
theorem aBk.look{w:World}{base:Nat}{e:TypeId}{size:Nat}{v:Value}{n:Nat}{xs:List Value}(h:aBk w base e size v n xs):
  ∃(ao:Option Addr) (cap:Nat),v=.slice ao n cap∧n≤cap∧cap≤maxLen∧xs.length=n*size∧(0<n→∃b,ao=some ⟨b,0,none⟩∧base≤b∧b<w.heap.size∧(∀j,j<n*size→w.cell? ⟨b,j,none⟩=xs[j]?)∧∀j,w.frozen? ⟨b,j,none⟩=false):=by
 obtain⟨h1,h2⟩:=h;rcases h2 with⟨rfl,rfl⟩|⟨g,cur,rfl,hb,hg,hm,hc,ht⟩
 ·exact⟨none,0,rfl,Nat.le_refl _,zX,h1,fun h=>absurd h zQ⟩
 have hB:Blk w g cur e:=hg;refine⟨some ⟨g,0,none⟩,n,rfl,Nat.le_refl _,hm,h1,fun _=>⟨g,rfl,hb,lt_of_block hg,fun j hj=>?_,fun j=>hB.frozen j⟩⟩;rw[hB.cell,←ht,List.getElem?_take_of_lt hj,Array.getElem?_toList]
def aL5(e:TypeId)(L:List Int)(w:World)(en:Ending)(w':World):Prop:=
 ∃v,en=.returned v∧aBk w' w.heap.size e 1 v L.length (L.map (.int .u8))∧Below w.heap.size w w'
def RowA(w:World)(base:Nat)(e:TypeId)(size:Nat)(v:Value)(n:Nat)(xs:List Value):Prop:=
 xs.length=n*size∧((v=.slice none 0 0∧n=0)∨∃g cap cur,v=.slice (some ⟨g,0,none⟩) n cap∧base≤g∧w.heap[g]? = some (.cells cur e (0,0))∧n≤cap∧cap≤maxLen∧cap*size≤cur.size∧cur.toList.take (n*size)=xs)
theorem pAF{w:World}{base:Nat}{e:TypeId}{size:Nat}{v:Value}{n:Nat}{xs:List Value}(h:aBk w base e size v n xs):RowA w base e size v n xs:=by
 obtain⟨h1,h2⟩:=h;refine⟨h1,?_⟩;rcases h2 with h2|⟨g,cur,hv,hb,hg,c1,c2,c3⟩
 ·exact .inl h2
 exact .inr ⟨g,n,cur,hv,hb,hg,Nat.le_refl _,c1,c2,c3⟩
section
variable{w w':World}{base:Nat}{e:TypeId}{size:Nat}{v:Value}{n:Nat}{xs:List Value}
theorem RowA.keep{S:Nat→Prop}(h:RowA w base e size v n xs)(k:Keep S w w')(hs:∀b,v.ownBlock=some b→¬S b):RowA w' base e size v n xs:=by
 obtain⟨h1,h2⟩:=h;refine⟨h1,?_⟩;rcases h2 with h2|⟨g,cap,cur,rfl,hb,hg,hr⟩
 ·exact .inl h2
 refine .inr ⟨g,cap,cur,rfl,hb,?_,hr⟩;rw[k.block g (lt_of_block hg) (hs g rfl)];exact hg
theorem RowA.below(h:RowA w base e size v n xs)(k:Below w.heap.size w w'):RowA w' base e size v n xs:=
 h.keep (pAD (S:=fun _=>False) k) (fun _ _=>id)
theorem RowA.type(h:RowA w base e size v n xs){b:Nat}(hb:v.ownBlock=some b):base≤b∧b<w.heap.size∧∃cur,w.heap[b]? = some (.cells cur e (0,0)):=by
 obtain⟨_,h2⟩:=h;rcases h2 with⟨rfl,_⟩|⟨g,cap,cur,rfl,hge,hg,_⟩
 ·cases hb
 cases hb;exact⟨hge,lt_of_block hg,cur,hg⟩
theorem RowA.look(h:RowA w base e size v n xs)(h2:1≤size):
  ∃(ao:Option Addr) (cap:Nat),v=.slice ao n cap∧n≤cap∧cap≤maxLen∧xs.length=n*size∧(0<n→∃b,ao=some ⟨b,0,none⟩∧base≤b∧b<w.heap.size∧(∀j,j<n*size→w.cell? ⟨b,j,none⟩=xs[j]?)∧∀j,w.frozen? ⟨b,j,none⟩=false):=by
 obtain⟨h1,h2⟩:=h;rcases h2 with⟨rfl,rfl⟩|⟨g,cap,cur,rfl,hb,hg,c1,c2,c3,c4⟩
 ·exact⟨none,0,rfl,Nat.le_refl _,zX,h1,fun h=>absurd h zQ⟩
 have hB:Blk w g cur e:=hg;refine⟨some ⟨g,0,none⟩,cap,rfl,c1,c2,h1,fun _=>⟨g,rfl,hb,lt_of_block hg,fun j hj=>?_,fun j=>hB.frozen j⟩⟩;rw[hB.cell,←c4,List.getElem?_take_of_lt hj,Array.getElem?_toList]
end
theorem aL6(f:Int→Int→Int)(x:Nat→Int)(n:Int)(i:Nat):capX f x n (i+1)=min (capX f x n i) (f (x i) (x (i+1))):=rfl
theorem RefG.drewN{w:World}{base g k:Nat}{es:List Fw}{vl:Value}(h:RefG w base g es vl):RefG (w.drewN k) base g es vl:=⟨h.blk,h.ge,h.row⟩
theorem aDn{w:World}{g h:Nat}{cs ds:Array Value}{t u:TypeId}(a:Blk w g cs t)(b:Blk w h ds u)(hn:t≠u):g≠h:=by
 rintro rfl;have e:=a.out;rw[b.out]at e;simp only[Option.some.injEq,Obj.cells.injEq]at e;exact hn e.2.1.symm
def MostPost(f:Int→Int→Int)(s t:Int)(w:World)(en:Ending)(w':World):Prop:=
 ∃μ:RS,en=.returned (.int .i64 (aCc - μ.left))∧aAj f 4398046511104 s t aCc μ∧Below w.heap.size w w'
end Go.Proofs.YtngnfdnfpiiclaaGreat
namespace Go.Proofs.YtngnfdnfpiiclaaGreat
open Go.RowKit Go.ChangeShapes Go.WideShapes Go.Deep
section
variable{H:Type}{enc:TypeId×Value→H}{P:Program}{w:World}{base:Nat}{spare:Nat→Bool}{held:Bool}
end
theorem In8.of_wf{n:Int}(h:(Lit.int .u8 n).wf=true):In8 n:=by
 simp[Lit.wf,IntKind.min,IntKind.max,IntKind.signed,IntKind.bits]at h;exact⟨zQ,zQ⟩
end Go.Proofs.YtngnfdnfpiiclaaGreat
namespace Go.Proofs.YtngnfdnfpiiclaaGreat
open Go.RowKit
structure Of where
 se:Int
 ow:Int
 sl:Int
 bu:Int
 lf:Int
 nu:Int
 de:Int
deriving DecidableEq
def Of.vals(x:Of):List Value:=[.int .u64 x.se,.int .u8 x.ow,.int .u8 x.sl,.int .u8 x.bu,.int .i64 x.lf,.int .i64 x.nu,.int .i64 x.de]
theorem Of.vals_len(x:Of):x.vals.length=7:=rfl
def aAb(ls:List Of):List Value:=ls.flatMap Of.vals
def Of.val(x:Of):Value:=.agg #[.int .u64 x.se,.int .u8 x.ow,.int .u8 x.sl,.int .u8 x.bu,.int .i64 x.lf,.int .i64 x.nu,.int .i64 x.de]
theorem aAt(ls:List Of):(aAb ls).length=ls.length*7:=aFx _ 7 Of.vals_len ls
theorem aAh(ls:List Of)(i j:Nat)(hj:j<7)(h:i<ls.length):(aAb ls)[i*7+j]? = ls[i].vals[j]? := by
 unfold aAb;rw[aE7 _ 7 Of.vals_len ls i j hj,List.getElem?_eq_getElem h];rfl
theorem aBb(a b:List Of):aAb (a++b)=aAb a++aAb b:=by unfold aAb;exact List.flatMap_append
theorem aIe(x:Of):aAb [x]=x.vals:=by simp[aAb]
structure Of.Fits(x:Of):Prop where
 se:(0≤x.se∧x.se≤18446744073709551615)
 ow:In8 x.ow
 sl:In8 x.sl
 bu:In8 x.bu
 lf:In64 x.lf
 nu:In64 x.nu
 de:In64 x.de
theorem aGy(l:List Of):∀u∈aAb l,u.oneCell'=true:=by
 intro u hu;unfold aAb at hu;obtain⟨x,_,hx⟩:=List.mem_flatMap.1 hu;simp[Of.vals]at hx;rcases hx with rfl|rfl|rfl|rfl|rfl|rfl|rfl <;> rfl
theorem info_of:(Tryz.prog.info? 75).map (fun i=>(i.zero,i.size,i.bytes))=some (some (Of.val ⟨0,0,0,0,0,0,0⟩),7,40):=zW
theorem aK4(w:World){ops:Array Oper}{rest:List Oper}{o:Oper}{a:Act}{Q:Exit→Act→World→Prop}(hgd:o.guard=none)(s x:Operand)
  (ho:o.op=.call { callee:=.builtin .append,args:=#[s,x],argTypes:=#[43,43] })(base:Nat)(v:Value)(ls:List Of)(hs:a.eval s=v)
  (hown:w.ownsRow base 75 7 v ls.length (aAb ls))(g c:Nat)(y:Of)(hx:a.eval x=.slice (some ⟨g,0,none⟩) 1 c)(hy:Blk w g #[.int .u64 y.se,.int .u8 y.ow,.int .u8 y.sl,.int .u8 y.bu,.int .i64 y.lf,.int .i64 y.nu,.int .i64 y.de] 75)(hlen:ls.length≤100000)(hbase:base≤w.heap.size)
  (h:∀v' w',w'.ownsRow base 75 7 v' (ls++[y]).length (aAb (ls++[y]))→w.grownBy w' v.ownBlock→wpList Tryz.prog ops Q rest (a.put o.dst v') w'):wpList Tryz.prog ops Q (o::rest) a w:=by
 obtain⟨i0,hi,hz0,hz1,hz2⟩:=info_parts info_of;refine wpList_append_own w hgd s x 43 ho base 75 i0 (Of.val ⟨0,0,0,0,0,0,0⟩) 7 40 Tryz.underlying43 hi hz0 hz1 hz2 rfl zX v ls.length (aAb ls) hs hown ⟨g,0,none⟩ 1 c y.vals hx rfl ?_ ?_ zE zQ hbase ?_
 ·intro j u hj;have:=hy.cell j;rw[Go.WideShapes.add_plain]
  match j,hj with
  | 0,hj=>simp[Of.vals]at hj;subst hj;simpa using this
  | 1,hj=>simp[Of.vals]at hj;subst hj;simpa using this
  | 2,hj=>simp[Of.vals]at hj;subst hj;simpa using this
  | 3,hj=>simp[Of.vals]at hj;subst hj;simpa using this
  | 4,hj=>simp[Of.vals]at hj;subst hj;simpa using this
  | 5,hj=>simp[Of.vals]at hj;subst hj;simpa using this
  | 6,hj=>simp[Of.vals]at hj;subst hj;simpa using this
  | j+7,hj=>simp[Of.vals]at hj
 ·intro u hu;simp[Of.vals]at hu;rcases hu with rfl|rfl|rfl|rfl|rfl|rfl|rfl <;> rfl
 intro v' w' h1 h2 _;refine h v' w' ?_ h2;rw[aBb,aIe,List.length_append];exact h1
theorem of_parts(x y:Of):(x=y)∨(x≠y∧(x.se==y.se)=false)∨(x≠y∧(x.se==y.se)=true∧(x.ow==y.ow)=false)∨(x≠y∧(x.se==y.se)=true∧(x.ow==y.ow)=true∧(x.sl==y.sl)=false)∨(x≠y∧(x.se==y.se)=true∧(x.ow==y.ow)=true∧(x.sl==y.sl)=true∧(x.bu==y.bu)=false)∨(x≠y∧(x.se==y.se)=true∧(x.ow==y.ow)=true∧(x.sl==y.sl)=true∧(x.bu==y.bu)=true∧(x.lf==y.lf)=false)∨(x≠y∧(x.se==y.se)=true∧(x.ow==y.ow)=true∧(x.sl==y.sl)=true∧(x.bu==y.bu)=true∧(x.lf==y.lf)=true∧(x.nu==y.nu)=false)∨(x≠y∧(x.se==y.se)=true∧(x.ow==y.ow)=true∧(x.sl==y.sl)=true∧(x.bu==y.bu)=true∧(x.lf==y.lf)=true∧(x.nu==y.nu)=true∧(x.de==y.de)=false):=by
 obtain⟨a0,a1,a2,a3,a4,a5,a6⟩:=x;obtain⟨b0,b1,b2,b3,b4,b5,b6⟩:=y
 by_cases h0:a0=b0
 case neg=>simp[h0]
 by_cases h1:a1=b1
 case neg=>simp[h0,h1]
 by_cases h2:a2=b2
 case neg=>simp[h0,h1,h2]
 by_cases h3:a3=b3
 case neg=>simp[h0,h1,h2,h3]
 by_cases h4:a4=b4
 case neg=>simp[h0,h1,h2,h3,h4]
 by_cases h5:a5=b5
 case neg=>simp[h0,h1,h2,h3,h4,h5]
 by_cases h6:a6=b6
 case neg=>simp[h0,h1,h2,h3,h4,h5,h6]
 simp[h0,h1,h2,h3,h4,h5,h6]
theorem sameOf_any{w:World}{va vb:Value}{la lb:List Of}(ha:aBm w va 7 la.length (aAb la))(hb:aBm w vb 7 lb.length (aAb lb)):
  Calls Tryz.prog 96 #[va,vb] w (yR w (.bool (decide (la=lb)))):=by
 obtain⟨ao,ca,rfl,a1,a2,a3⟩:=ha;obtain⟨bo,cb,rfl,b1,b2,b3⟩:=hb;have HA:=yH a3;have HB:=yH b3;clear a2 a3 b2 b3
 by_cases hlen:la.length=lb.length
 ·have L:=yH hlen;have hll:lb.length=la.length:=hlen.symm;rw[hll];clear hll hlen b1;go_enter Tryz.func96,Tryz.ntmps96;go_wp2
  go_loopw [5] (fun i wr=>∃k:Nat,k≤la.length∧i=.int .i64 k∧Hid (la.take k=lb.take k)∧Below w.heap.size w wr) (fun i _=>la.length - (intOf i).toNat)
  case atStart=>exact⟨0,Nat.zero_le _,rfl,yH zV,yZ⟩
  obtain⟨k,hk,rfl,ht,hbl⟩:=hrel;have BL:=yH hbl
  by_cases hkl:k<la.length
  ·have hkb:k<lb.length:=xL
   obtain⟨b1,o1,rfl,hlt1,hc1⟩:=HA.o zQ;obtain⟨b2,o2,rfl,hlt2,hc2⟩:=HB.o zQ;have HC1:=yH (fun j (hj:j<la.length*7)=>(hbl.cell (p:=⟨b1,o1+j,none⟩) hlt1).trans (hc1 j hj));have HC2:=yH (fun j (hj:j<lb.length*7)=>(hbl.cell (p:=⟨b2,o2+j,none⟩) hlt2).trans (hc2 j hj))
   have d0:wr.cell? ⟨b1,o1+k*7,none⟩=some (.int .u64 la[k].se):=by
    have q1:=HC1.o (k*7+0) zQ;rw[aAh la k 0 zQ hkl]at q1
    first|exact q1|(rw[←Nat.add_assoc]at q1;exact q1)
   have d1:wr.cell? ⟨b1,o1+k*7+1,none⟩=some (.int .u8 la[k].ow):=by
    have q1:=HC1.o (k*7+1) zQ;rw[aAh la k 1 zQ hkl]at q1
    first|exact q1|(rw[←Nat.add_assoc]at q1;exact q1)
   have d2:wr.cell? ⟨b1,o1+k*7+2,none⟩=some (.int .u8 la[k].sl):=by
    have q1:=HC1.o (k*7+2) zQ;rw[aAh la k 2 zQ hkl]at q1
    first|exact q1|(rw[←Nat.add_assoc]at q1;exact q1)
   have d3:wr.cell? ⟨b1,o1+k*7+3,none⟩=some (.int .u8 la[k].bu):=by
    have q1:=HC1.o (k*7+3) zQ;rw[aAh la k 3 zQ hkl]at q1
    first|exact q1|(rw[←Nat.add_assoc]at q1;exact q1)
   have d4:wr.cell? ⟨b1,o1+k*7+4,none⟩=some (.int .i64 la[k].lf):=by
    have q1:=HC1.o (k*7+4) zQ;rw[aAh la k 4 zQ hkl]at q1
    first|exact q1|(rw[←Nat.add_assoc]at q1;exact q1)
   have d5:wr.cell? ⟨b1,o1+k*7+5,none⟩=some (.int .i64 la[k].nu):=by
    have q1:=HC1.o (k*7+5) zQ;rw[aAh la k 5 zQ hkl]at q1
    first|exact q1|(rw[←Nat.add_assoc]at q1;exact q1)
   have d6:wr.cell? ⟨b1,o1+k*7+6,none⟩=some (.int .i64 la[k].de):=by
    have q1:=HC1.o (k*7+6) zQ;rw[aAh la k 6 zQ hkl]at q1
    first|exact q1|(rw[←Nat.add_assoc]at q1;exact q1)
   have f0:wr.cell? ⟨b2,o2+k*7,none⟩=some (.int .u64 lb[k].se):=by
    have q1:=HC2.o (k*7+0) zQ;rw[aAh lb k 0 zQ hkb]at q1
    first|exact q1|(rw[←Nat.add_assoc]at q1;exact q1)
   have f1:wr.cell? ⟨b2,o2+k*7+1,none⟩=some (.int .u8 lb[k].ow):=by
    have q1:=HC2.o (k*7+1) zQ;rw[aAh lb k 1 zQ hkb]at q1
    first|exact q1|(rw[←Nat.add_assoc]at q1;exact q1)
   have f2:wr.cell? ⟨b2,o2+k*7+2,none⟩=some (.int .u8 lb[k].sl):=by
    have q1:=HC2.o (k*7+2) zQ;rw[aAh lb k 2 zQ hkb]at q1
    first|exact q1|(rw[←Nat.add_assoc]at q1;exact q1)
   have f3:wr.cell? ⟨b2,o2+k*7+3,none⟩=some (.int .u8 lb[k].bu):=by
    have q1:=HC2.o (k*7+3) zQ;rw[aAh lb k 3 zQ hkb]at q1
    first|exact q1|(rw[←Nat.add_assoc]at q1;exact q1)
   have f4:wr.cell? ⟨b2,o2+k*7+4,none⟩=some (.int .i64 lb[k].lf):=by
    have q1:=HC2.o (k*7+4) zQ;rw[aAh lb k 4 zQ hkb]at q1
    first|exact q1|(rw[←Nat.add_assoc]at q1;exact q1)
   have f5:wr.cell? ⟨b2,o2+k*7+5,none⟩=some (.int .i64 lb[k].nu):=by
    have q1:=HC2.o (k*7+5) zQ;rw[aAh lb k 5 zQ hkb]at q1
    first|exact q1|(rw[←Nat.add_assoc]at q1;exact q1)
   have f6:wr.cell? ⟨b2,o2+k*7+6,none⟩=some (.int .i64 lb[k].de):=by
    have q1:=HC2.o (k*7+6) zQ;rw[aAh lb k 6 zQ hkb]at q1
    first|exact q1|(rw[←Nat.add_assoc]at q1;exact q1)
   have NE:=yH (fun(he:la[k]≠lb[k])=>show decide (la=lb)=false by
    rw[decide_eq_false_iff_not];rintro rfl;exact he rfl)
   have EQ:=yH (fun(he:la[k]=lb[k])=>aFa hkl hkb ht.out he);clear hc1 hc2 HC1 HC2 hbl;generalize la[k]=x at *;generalize lb[k]=y at *;rcases of_parts x y with rfl|⟨he,s0⟩|⟨he,s0,s1⟩|⟨he,s0,s1,s2⟩|⟨he,s0,s1,s2,s3⟩|⟨he,s0,s1,s2,s3,s4⟩|⟨he,s0,s1,s2,s3,s4,s5⟩|⟨he,s0,s1,s2,s3,s4,s5,s6⟩
   ·clear NE;go_wp2
    go_region
    all_goals
     go_wp2;go_roundw
     case rel=>exact⟨k+1,zQ,by go_num,yH (EQ.o (by first|exact rfl|trivial)),by first|exact BL.o.drew|exact BL.o⟩
     case measure=>simp[intOf];omega
   ·have E:=yH (NE.o he);clear he NE EQ;go_wp2
    go_region
    all_goals
     go_wp2;go_ret;exact⟨zT,by first|exact BL.o.drew|exact BL.o⟩
   ·have E:=yH (NE.o he);clear he NE EQ;go_wp2
    go_region
    all_goals
     go_wp2;go_ret;exact⟨zT,by first|exact BL.o.drew|exact BL.o⟩
   ·have E:=yH (NE.o he);clear he NE EQ;go_wp2
    go_region
    all_goals
     go_wp2;go_ret;exact⟨zT,by first|exact BL.o.drew|exact BL.o⟩
   ·have E:=yH (NE.o he);clear he NE EQ;go_wp2
    go_region
    all_goals
     go_wp2;go_ret;exact⟨zT,by first|exact BL.o.drew|exact BL.o⟩
   ·have E:=yH (NE.o he);clear he NE EQ;go_wp2
    go_region
    all_goals
     go_wp2;go_ret;exact⟨zT,by first|exact BL.o.drew|exact BL.o⟩
   ·have E:=yH (NE.o he);clear he NE EQ;go_wp2
    go_region
    all_goals
     go_wp2;go_ret;exact⟨zT,by first|exact BL.o.drew|exact BL.o⟩
   have E:=yH (NE.o he);clear he NE EQ;go_wp2
   go_region
   all_goals
    go_wp2;go_ret;exact⟨zT,by first|exact BL.o.drew|exact BL.o⟩
  have E:=yH (show decide (la=lb)=true by
   have h1:=ht.out;rw[List.take_of_length_le zQ,List.take_of_length_le xL]at h1;rw[decide_eq_true_eq];exact h1)
  go_wp2;go_ret;exact⟨zT,BL.o⟩
 have E:=yH (show decide (la=lb)=false by rw[decide_eq_false_iff_not];rintro rfl;exact hlen rfl);have q:((la.length:Int)==(lb.length:Int))=false:=zU
 clear hlen;go_enter Tryz.func96,Tryz.ntmps96;go_wp2;go_ret;exact⟨zT,yZ⟩
theorem aNq{w:World}{va vb:Value}{la lb:List Of}(ha:aBm w va 7 la.length (aAb la))(hb:aBm w vb 7 lb.length (aAb lb)):
  Calls Tryz.prog 56 #[va,vb] w (yR w (.bool (decide (la=lb)))):=by
 have C:=yH (sameOf_any ha hb);clear ha hb;generalize decide (la=lb)=r at *;go_enter Tryz.func56,Tryz.ntmps56;go_wp2_with fail;refine C.o.mono ?_;rintro e w1 ⟨rfl,b1⟩;go_wp2_with fail;go_ret;exact⟨rfl,b1⟩
end Go.Proofs.YtngnfdnfpiiclaaGreat
