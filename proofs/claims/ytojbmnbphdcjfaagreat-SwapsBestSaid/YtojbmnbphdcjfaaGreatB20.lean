/-
  Pieces of one proof, without what is not wanted: BestW, SwapMath, SwapInv, SwapFacts, FirstsM, SwapSay, AppOne, Ref01g, Ref01h, Given11.
-/
import Derived.Test.YtojbmnbphdcjfaaGreatB01
import Derived.Test.YtojbmnbphdcjfaaGreatB02
import Derived.Test.YtojbmnbphdcjfaaGreatB05
import Derived.Test.YtojbmnbphdcjfaaGreatB06
import Derived.Test.YtojbmnbphdcjfaaGreatB14
import Derived.Test.YtojbmnbphdcjfaaGreatB15
import Derived.Test.YtojbmnbphdcjfaaGreatB16
import Derived.Test.YtojbmnbphdcjfaaGreatB17
import Derived.Test.YtojbmnbphdcjfaaGreatB19
import Derived.Laws.AppendOwnNone
import Derived.Deep.RegionWith
set_option linter.unusedSimpArgs false
set_option linter.unusedVariables false
namespace Go.Proofs.YtojbmnbphdcjfaaGreat
open Go.RowKit
def noWorse (x y:Of):Bool:=decide (cmpR y.nu y.de x.nu x.de≤0)
def insO (out:List Of) (x:Of):List Of:=out.takeWhile (noWorse x)++x::out.dropWhile (noWorse x)
def bestStep (s b:Int) (out:List Of) (x:Of):List Of:=if x.sl=s∧x.bu=b then insO out x else out
def bestO (l:List Of) (s b:Int):List Of:=l.foldl (bestStep s b) []
def ltO (x y:Of):Prop:=x.nu * y.de<y.nu * x.de∨(x.nu * y.de=y.nu * x.de∧x.se<y.se)
def ordO (x y:Of):Int:=orI (cmpR x.nu x.de y.nu y.de) (cmpI x.se y.se)
theorem cmpR_may {an ad bn bd:Int} (h1:mayB an ad=true) (h2:mayB bn bd=true):cmpR an ad bn bd=cmpI (an * bd) (bn * ad):=by unfold cmpR; rw [if_pos ⟨h1,h2⟩]
theorem ordO_lt {x y:Of} (hx:x.may) (hy:y.may):ordO x y<0↔ltO x y:=by
 unfold ordO
 rw [cmpR_may hx.2.2.2.2.2 hy.2.2.2.2.2]
 unfold ltO orI cmpI
 generalize x.nu * y.de=p
 generalize y.nu * x.de=q
 (repeat' split) <;> omega
theorem sgn3 {a1 d1 a2 d2 a3 d3:Int} (h1:1≤d1) (h2:1≤d2) (h3:1≤d3):d2 * (a1 * d3 - a3 * d1)=d3 * (a1 * d2 - a2 * d1) + d1 * (a2 * d3 - a3 * d2):=by
 simp only [Int.mul_sub]
 have e1:d2 * (a1 * d3)=d3 * (a1 * d2):=by rw [← Int.mul_assoc,Int.mul_comm d2 a1,Int.mul_comm d3,Int.mul_assoc]
 have e2:d2 * (a3 * d1)=d1 * (a3 * d2):=by rw [← Int.mul_assoc,Int.mul_comm d2 a3,Int.mul_comm d1,Int.mul_assoc]
 have e3:d3 * (a2 * d1)=d1 * (a2 * d3):=by rw [← Int.mul_assoc,Int.mul_comm d3 a2,Int.mul_comm d1,Int.mul_assoc]
 omega
theorem sgn_three {d1 d2 d3 u v t:Int} (h1:1≤d1) (h2:1≤d2) (h3:1≤d3) (h:d2 * t=d3 * u + d1 * v):(u<0→v≤0→t<0)∧(u≤0→v<0→t<0)∧(u=0→v=0→t=0)∧(0<u→0≤v→0<t)∧(0≤u→0<v→0<t):=by
 refine ⟨fun a b=>?_,fun a b=>?_,fun a b=>?_,fun a b=>?_,fun a b=>?_⟩
 ·have p:=Int.mul_neg_of_pos_of_neg (show 0<d3 by omega) a
  have q:=Int.mul_nonpos_of_nonneg_of_nonpos (show 0≤d1 by omega) b
  by_cases c:0≤t
  ·have:=Int.mul_nonneg (show 0≤d2 by omega) c; omega
  ·omega
 ·have p:=Int.mul_neg_of_pos_of_neg (show 0<d1 by omega) b
  have q:=Int.mul_nonpos_of_nonneg_of_nonpos (show 0≤d3 by omega) a
  by_cases c:0≤t
  ·have:=Int.mul_nonneg (show 0≤d2 by omega) c; omega
  ·omega
 ·subst a b
  rw [Int.mul_zero,Int.mul_zero,Int.add_zero] at h
  rcases Int.mul_eq_zero.1 h with e | e <;> omega
 ·have p:=Int.mul_pos (show 0<d3 by omega) a
  have q:=Int.mul_nonneg (show 0≤d1 by omega) b
  by_cases c:t≤0
  ·have:=Int.mul_nonpos_of_nonneg_of_nonpos (show 0≤d2 by omega) c; omega
  ·omega
 ·have p:=Int.mul_pos (show 0<d1 by omega) b
  have q:=Int.mul_nonneg (show 0≤d3 by omega) a
  by_cases c:t≤0
  ·have:=Int.mul_nonpos_of_nonneg_of_nonpos (show 0≤d2 by omega) c; omega
  ·omega
theorem Of.may.de {x:Of} (h:x.may):1≤x.de:=(may_bd h.2.2.2.2.2).2.1
theorem ltO_trans {x y z:Of} (hx:x.may) (hy:y.may) (hz:z.may) (h1:ltO x y) (h2:ltO y z):ltO x z:=by
 have k:=sgn_three hx.de hy.de hz.de (sgn3 (a1:=x.nu) (a2:=y.nu) (a3:=z.nu) hx.de hy.de hz.de)
 unfold ltO at *
 generalize x.nu * y.de=a at *
 generalize y.nu * x.de=b at *
 generalize y.nu * z.de=c at *
 generalize z.nu * y.de=d at *
 generalize x.nu * z.de=e at *
 generalize z.nu * x.de=f at *
 obtain ⟨k1,k2,k3,k4,k5⟩:=k
 rcases h1 with h1 | ⟨h1,s1⟩
 ·have:=k1 (by omega) (by omega); omega
 ·rcases h2 with h2 | ⟨h2,s2⟩
  ·have:=k2 (by omega) (by omega); omega
  ·have:=k3 (by omega) (by omega); omega
theorem ltO_ntrans {x y z:Of} (hx:x.may) (hy:y.may) (hz:z.may) (h1:¬ ltO x y) (h2:¬ ltO y z):¬ ltO x z:=by
 have k:=sgn_three hx.de hy.de hz.de (sgn3 (a1:=x.nu) (a2:=y.nu) (a3:=z.nu) hx.de hy.de hz.de)
 unfold ltO at *
 generalize x.nu * y.de=a at *
 generalize y.nu * x.de=b at *
 generalize y.nu * z.de=c at *
 generalize z.nu * y.de=d at *
 generalize x.nu * z.de=e at *
 generalize z.nu * x.de=f at *
 obtain ⟨k1,k2,k3,k4,k5⟩:=k
 by_cases u:b<a
 ·have:=k4 (by omega) (by omega); omega
 ·have ue:a=b:=by omega
  by_cases v:d<c
  ·have:=k5 (by omega) (by omega); omega
  ·have:=k3 (by omega) (by omega); omega
theorem ltO_irrefl (x:Of):¬ ltO x x:=by unfold ltO; omega
theorem ltO_total {x y:Of} (h:x.se≠y.se) (h1:¬ ltO x y):ltO y x:=by
 unfold ltO at *
 generalize x.nu * y.de=a at *
 generalize y.nu * x.de=b at *
 omega
theorem ltO_asymm {x y:Of} (h1:ltO x y) (h2:ltO y x):False:=by
 unfold ltO at *
 generalize x.nu * y.de=a at *
 generalize y.nu * x.de=b at *
 omega
theorem noWorse_lt {x y:Of} (hx:x.may) (hy:y.may) (hs:y.se<x.se) (h:noWorse x y=true):ltO y x:=by
 unfold noWorse at h
 rw [cmpR_may hy.2.2.2.2.2 hx.2.2.2.2.2] at h
 unfold ltO
 generalize x.nu * y.de=a at *
 generalize y.nu * x.de=b at *
 unfold cmpI at h
 split at h
 ·omega
 ·split at h
  ·simp at h
  ·omega
theorem worse_lt {x y:Of} (hx:x.may) (hy:y.may) (h:noWorse x y=false):ltO x y:=by
 unfold noWorse at h
 rw [cmpR_may hy.2.2.2.2.2 hx.2.2.2.2.2] at h
 unfold ltO
 generalize x.nu * y.de=a at *
 generalize y.nu * x.de=b at *
 unfold cmpI at h
 split at h
 ·simp at h
 ·split at h
  ·omega
  ·simp at h
theorem insO_perm (out:List Of) (x:Of):(insO out x).Perm (out++[x]):=by
 unfold insO
 have h1:(out.takeWhile (noWorse x)++x::out.dropWhile (noWorse x)).Perm (x::(out.takeWhile (noWorse x)++out.dropWhile (noWorse x))):=List.perm_middle
 rw [List.takeWhile_append_dropWhile] at h1
 exact h1.trans (List.perm_append_singleton x out).symm
theorem mem_takeWhile {p:Of→Bool}:∀ {l:List Of} {y:Of},y ∈ l.takeWhile p→p y=true
 | x::r,y,h=>by
  rw [List.takeWhile_cons] at h
  split at h
  ·rcases List.mem_cons.1 h with rfl | h
   ·assumption
   ·exact mem_takeWhile h
  ·simp at h
theorem insO_sorted {out:List Of} {x:Of} (hm:∀ y ∈ out,y.may) (hx:x.may) (hs:∀ y ∈ out,y.se<x.se) (ho:out.Pairwise ltO):(insO out x).Pairwise ltO:=by
 unfold insO
 have hsplit:out.takeWhile (noWorse x)++out.dropWhile (noWorse x)=out:=List.takeWhile_append_dropWhile
 have h1:∀ y ∈ out.takeWhile (noWorse x),y ∈ out∧noWorse x y=true:=fun y hy=>⟨by rw [← hsplit]; exact List.mem_append_left _ hy,mem_takeWhile hy⟩
 have h2:∀ y ∈ out.dropWhile (noWorse x),y ∈ out:=fun y hy=>by rw [← hsplit]; exact List.mem_append_right _ hy
 rw [← hsplit,List.pairwise_append] at ho
 obtain ⟨o1,o2,o3⟩:=ho
 have h3:∀ y ∈ out.dropWhile (noWorse x),ltO x y:=by
  cases hd:out.dropWhile (noWorse x) with
  | nil=>simp
  | cons z r =>
   rw [hd] at o2 h2
   have hz:noWorse x z=false:=by
    have:=List.head_dropWhile_not (noWorse x) (l:=out) (by rw [hd]; simp)
    simpa [hd] using this
   have hz2:=worse_lt hx (hm z (h2 z (by simp))) hz
   intro y hy
   rcases List.mem_cons.1 hy with rfl | hy
   ·exact hz2
   ·exact ltO_trans hx (hm z (h2 z (by simp))) (hm y (h2 y (by simp [hy]))) hz2 ((List.pairwise_cons.1 o2).1 y hy)
 rw [List.pairwise_append]
 refine ⟨o1,List.pairwise_cons.2 ⟨h3,o2⟩,fun y hy z hz=>?_⟩
 obtain ⟨hyo,hyn⟩:=h1 y hy
 have hyx:=noWorse_lt hx (hm y hyo) (hs y hyo) hyn
 rcases List.mem_cons.1 hz with rfl | hz
 ·exact hyx
 ·exact o3 y hy z hz
def ofPair (s b:Int) (x:Of):Bool:=decide (x.sl=s∧x.bu=b)
theorem foldl_best {s b:Int}:∀ (l out:List Of),(∀ x ∈ l,x.may)→(∀ x ∈ out,x.may)→l.Pairwise (fun x y=>x.se<y.se)→(∀ y ∈ out,∀ x ∈ l,y.se<x.se)→out.Pairwise ltO →
  (l.foldl (bestStep s b) out).Perm (out++l.filter (ofPair s b))∧(l.foldl (bestStep s b) out).Pairwise ltO
 | [],out,_,_,_,_,ho=>by simpa using ho
 | x::r,out,h1,h2,h3,h4,ho=>by
  obtain ⟨h3a,h3b⟩:=List.pairwise_cons.1 h3
  rw [List.foldl_cons]
  by_cases hp:x.sl=s∧x.bu=b
  ·have e:bestStep s b out x=insO out x:=by unfold bestStep; rw [if_pos hp]
   have hi:=insO_perm out x
   have hmem:∀ y ∈ insO out x,y ∈ out∨y=x:=fun y hy=>by
    have:=hi.mem_iff.1 hy
    simpa using this
   rw [e]
   obtain ⟨p,q⟩:=foldl_best r (insO out x) (fun y hy=>h1 y (by simp [hy])) (fun y hy=>by rcases hmem y hy with h | rfl; exact h2 y h; exact h1 y (by simp)) h3b
    (fun y hy z hz=>by rcases hmem y hy with h | rfl; exact h4 y h z (by simp [hz]); exact h3a z hz) (insO_sorted h2 (h1 x (by simp)) (fun y hy=>h4 y hy x (by simp)) ho)
   refine ⟨p.trans ?_,q⟩
   rw [List.filter_cons,if_pos (by unfold ofPair; simpa using hp)]
   exact (hi.append_right _).trans (by simp)
  ·have e:bestStep s b out x=out:=by unfold bestStep; rw [if_neg hp]
   rw [e]
   obtain ⟨p,q⟩:=foldl_best r out (fun y hy=>h1 y (by simp [hy])) h2 h3b (fun y hy z hz=>h4 y hy z (by simp [hz])) ho
   refine ⟨?_,q⟩
   rw [List.filter_cons,if_neg (by unfold ofPair; simpa using hp)]
   exact p
theorem bestO_is {l:List Of} (h1:∀ x ∈ l,x.may) (h3:l.Pairwise (fun x y=>x.se<y.se)) (s b:Int):(bestO l s b).Perm (l.filter (ofPair s b))∧(bestO l s b).Pairwise ltO:=by
 have:=foldl_best (s:=s) (b:=b) l [] h1 (by simp) h3 (by simp) List.Pairwise.nil
 simpa [bestO] using this
end Go.Proofs.YtojbmnbphdcjfaaGreat
namespace Go.Proofs.YtojbmnbphdcjfaaGreat
noncomputable def routeS (f:Int→Int→Int) (a b n:Int):RS:=@Classical.epsilon RS ⟨⟨f,n,[]⟩⟩ (fun μ=>IsRoute f 4398046511104 a b n μ)
theorem routeS_is {f:Int→Int→Int} (h:GInv f 4398046511104) (a b n:Int):IsRoute f 4398046511104 a b n (routeS f a b n) :=
 @Classical.epsilon_spec RS (fun μ=>IsRoute f 4398046511104 a b n μ) (route_ends h a b n)
noncomputable def mostS (ps:List Int) (ls:List Ln) (c a b:Int):Int:=mostW - (routeS (roomF ps ls c) a b mostW).left
theorem goesS {ps:List Int} {ls:List Ln} (h:LInv ps ls) (o:Of) (tk pt:Int):Goes ps ls o tk pt (mostS ps ls o.sl o.ow pt) (mostS ps ls o.bu tk o.ow) :=
 ⟨⟨_,routeS_is (roomF_inv h _) _ _ _,rfl⟩,_,routeS_is (roomF_inv h _) _ _ _,rfl⟩
theorem Goes.eqS {ps:List Int} {ls:List Ln} {o:Of} {tk pt m1 m2:Int} (h:LInv ps ls) (g:Goes ps ls o tk pt m1 m2):m1=mostS ps ls o.sl o.ow pt∧m2=mostS ps ls o.bu tk o.ow:=by
 obtain ⟨⟨μ,h1,rfl⟩,ν,h2,rfl⟩:=g
 unfold mostS
 rw [h1.eq (routeS_is (roomF_inv h _) _ _ _),h2.eq (routeS_is (roomF_inv h _) _ _ _)]
 exact ⟨rfl,rfl⟩
noncomputable def mayS (ps:List Int) (ls:List Ln) (l:List Of) (tk pt want most s:Int):Int:=match findO l s with
 | none=>0
 | some o=>mayO o ps tk pt want most (mostS ps ls o.sl o.ow pt) (mostS ps ls o.bu tk o.ow)
theorem mayS_eq {ps:List Int} {ls:List Ln} (h:LInv ps ls) {l:List Of} {tk pt want most s m1 m2:Int} (g:∀ o,findO l s=some o→Goes ps ls o tk pt m1 m2):mayV l ps s tk pt want most m1 m2=mayS ps ls l tk pt want most s:=by
 unfold mayV mayS
 cases hf:findO l s with
 | none=>rfl
 | some o =>
  obtain ⟨e1,e2⟩:=(g o hf).eqS h
  simp only []
  rw [e1,e2]
theorem mayS_nn {ps:List Int} {ls:List Ln} (h:LInv ps ls) {l:List Of} {N:Int} (hJ:BInv l N) (tk pt want most s:Int):0≤mayS ps ls l tk pt want most s∧mayS ps ls l tk pt want most s≤max want 0:=by
 obtain ⟨m1,m2,g,h1,h2⟩:=goes_some h l s tk pt
 rw [← mayS_eq h g]
 exact mayV_nn hJ h1
noncomputable def paidS (ps:List Int) (ls:List Ln) (a b c n:Int):List Ln:=payL ps ls a b c n (routeS (roomF ps ls c) a b n)
noncomputable def filledS (ps:List Int) (ls:List Ln) (o:Of) (tk pt n x:Int):List Ln:=paidS ps (if pt=o.ow then ls else paidS ps ls o.ow pt o.sl n) tk o.ow o.bu x
theorem paidS_inv {ps:List Int} {ls:List Ln} (h:LInv ps ls) (a b c n:Int):LInv ps (paidS ps ls a b c n):=payL_inv h _ _ _ _ _
theorem filledS_is {ps:List Int} {ls:List Ln} (h:LInv ps ls) (o:Of) (tk pt n x:Int):Filled ps ls o tk pt n x (filledS ps ls o tk pt n x):=by
 unfold filledS
 by_cases e:pt=o.ow
 ·rw [if_pos e]
  exact ⟨ls,_,.inl ⟨e,rfl⟩,routeS_is (roomF_inv h _) _ _ _,rfl⟩
 ·rw [if_neg e]
  exact ⟨_,_,.inr ⟨e,_,routeS_is (roomF_inv h _) _ _ _,rfl⟩,routeS_is (roomF_inv (paidS_inv h _ _ _ _) _) _ _ _,rfl⟩
theorem filledS_inv {ps:List Int} {ls:List Ln} (h:LInv ps ls) (o:Of) (tk pt n x:Int):LInv ps (filledS ps ls o tk pt n x):=(filledS_is h o tk pt n x).inv h
def okS (ps:List Int) (ls:List Ln) (l:List Of) (tk pt n s:Int):Prop:=1≤n∧n≤mayS ps ls l tk pt n 1099511627776 s
theorem okS_iff {ps:List Int} {ls:List Ln} (h:LInv ps ls) {l:List Of} {tk pt n s m1 m2:Int} (g:∀ o,findO l s=some o→Goes ps ls o tk pt m1 m2):doOk l ps s tk pt n m1 m2↔okS ps ls l tk pt n s:=by
 unfold doOk okS
 rw [mayS_eq h g]
theorem may_okS {ps:List Int} {ls:List Ln} (h:LInv ps ls) {l:List Of} {tk pt want most s k:Int} (hk:k=mayS ps ls l tk pt want most s) (h1:1≤k):okS ps ls l tk pt k s∧k≤want:=by
 obtain ⟨m1,m2,g,b1,b2⟩:=goes_some h l s tk pt
 have e:mayV l ps s tk pt want most m1 m2=k:=by rw [mayS_eq h g,hk]
 obtain ⟨a,b,_⟩:=may_do b1 b2 e h1
 exact ⟨(okS_iff h g).1 a,b⟩
noncomputable def firstS (ps:List Int) (ls:List Ln) (l:List Of) (tk pt want most:Int):List Of→Option (Int × Int)
 | []=>none
 | o::os=>if 0<mayS ps ls l tk pt want most o.se then some (o.se,mayS ps ls l tk pt want most o.se) else firstS ps ls l tk pt want most os
theorem firstS_some {ps:List Int} {ls:List Ln} {l:List Of} {tk pt want most:Int}:∀ {os:List Of} {s k:Int},firstS ps ls l tk pt want most os=some (s,k)→0<k∧k=mayS ps ls l tk pt want most s∧∃ o ∈ os,o.se=s
 | [],s,k,h=>by simp [firstS] at h
 | o::os,s,k,h=>by
  unfold firstS at h
  split at h
  ·rename_i hp
   simp only [Option.some.injEq,Prod.mk.injEq] at h
   obtain ⟨rfl,rfl⟩:=h
   exact ⟨hp,rfl,o,List.mem_cons_self,rfl⟩
  ·obtain ⟨h1,h2,o',h3,h4⟩:=firstS_some h
   exact ⟨h1,h2,o',List.mem_cons_of_mem _ h3,h4⟩
structure Fl where
 se:Int
 got:Int
 gi:Int
structure SwS where
 ls:List Ln
 l:List Of
 fs:List Fl
 n:Int
noncomputable def nextS (ps:List Int) (tk pt:Int) (σ:SwS) (s k:Int):SwS:=match findO σ.l s with
 | none=>σ
 | some o=>⟨filledS ps σ.ls o tk pt k (upN (k * o.nu) o.de),takeL σ.l s k,σ.fs++[⟨s,k,upN (k * o.nu) o.de⟩],σ.n - k⟩
noncomputable def swapN (ps:List Int) (tk pt get give:Int):Nat→SwS→Int × SwS
 | fuel,σ=>if σ.n≤0 then (0,σ) else match firstS ps σ.ls σ.l tk pt σ.n 1099511627776 (bestO σ.l get give) with
  | none=>(11,σ)
  | some (s,k)=>if σ.fs.length=64 then (13,σ) else match fuel with
   | 0=>(13,σ)
   | f + 1=>swapN ps tk pt get give f (nextS ps tk pt σ s k)
theorem swapN_done {ps:List Int} {tk pt get give:Int} {fuel:Nat} {σ:SwS} (h:σ.n≤0):swapN ps tk pt get give fuel σ=(0,σ):=by
 cases fuel <;> (unfold swapN; rw [if_pos h])
theorem swapN_none {ps:List Int} {tk pt get give:Int} {fuel:Nat} {σ:SwS} (h:¬ σ.n≤0) (hf:firstS ps σ.ls σ.l tk pt σ.n 1099511627776 (bestO σ.l get give)=none):swapN ps tk pt get give fuel σ=(11,σ):=by
 cases fuel <;> (unfold swapN; rw [if_neg h,hf])
theorem swapN_full {ps:List Int} {tk pt get give:Int} {fuel:Nat} {σ:SwS} {s k:Int} (h:¬ σ.n≤0) (hf:firstS ps σ.ls σ.l tk pt σ.n 1099511627776 (bestO σ.l get give)=some (s,k)) (hl:σ.fs.length=64):swapN ps tk pt get give fuel σ=(13,σ):=by
 cases fuel <;> (unfold swapN; rw [if_neg h,hf]; simp only []; rw [if_pos hl])
theorem swapN_next {ps:List Int} {tk pt get give:Int} {fuel:Nat} {σ:SwS} {s k:Int} (h:¬ σ.n≤0) (hf:firstS ps σ.ls σ.l tk pt σ.n 1099511627776 (bestO σ.l get give)=some (s,k)) (hl:¬ σ.fs.length=64):swapN ps tk pt get give (fuel + 1) σ=swapN ps tk pt get give fuel (nextS ps tk pt σ s k):=by
 conv=>lhs; unfold swapN
 rw [if_neg h,hf]
 simp only []
 rw [if_neg hl]
def swMay (fr pt get give n most:Int):Prop:=(1≤fr∧fr≤16)∧(1≤pt∧pt≤16)∧(1≤get∧get≤8)∧(1≤give∧give≤8)∧get≠give∧(1≤n∧n≤1099511627776)∧1≤most∧most≤1099511627776
instance (fr pt get give n most:Int):Decidable (swMay fr pt get give n most):=by unfold swMay; infer_instance
noncomputable def swapF (ps:List Int) (ls:List Ln) (l:List Of) (fr pt get give n most:Int):Int × SwS :=
 if ¬ swMay fr pt get give n most then (1,⟨ls,l,[],n⟩) else if fr ∉ ps∨pt ∉ ps then (7,⟨ls,l,[],n⟩) else
  if (swapN ps fr pt get give 64 ⟨ls,l,[],n⟩).1≠0 then swapN ps fr pt get give 64 ⟨ls,l,[],n⟩ else
  if most<((swapN ps fr pt get give 64 ⟨ls,l,[],n⟩).2.fs.map Fl.gi).sum then (12,(swapN ps fr pt get give 64 ⟨ls,l,[],n⟩).2) else swapN ps fr pt get give 64 ⟨ls,l,[],n⟩
end Go.Proofs.YtojbmnbphdcjfaaGreat
namespace Go.Proofs.YtojbmnbphdcjfaaGreat
theorem best_mem {l:List Of} {N:Int} (h:BInv l N) {s b:Int} {o:Of} (ho:o ∈ bestO l s b):o ∈ l∧o.sl=s∧o.bu=b:=by
 have h1:=((bestO_is h.may h.rise s b).1.mem_iff).1 ho
 rw [List.mem_filter] at h1
 obtain ⟨h2,h3⟩:=h1
 simp [ofPair] at h3
 exact ⟨h2,h3.1,h3.2⟩
theorem find_of {l:List Of} {N:Int} (h:BInv l N) {o:Of} (ho:o ∈ l):findO l o.se=some o:=by
 cases hf:findO l o.se with
 | none =>
  unfold findO at hf
  rw [List.find?_eq_none] at hf
  exact absurd (by simp) (hf o ho)
 | some o' =>
  obtain ⟨h1,h2⟩:=findO_mem hf
  have key:∀ {m:List Of},m.Pairwise (fun x y=>x.se<y.se)→o ∈ m→o' ∈ m→o=o':=by
   intro m hm
   induction m with
   | nil=>intro a; cases a
   | cons z m ih =>
    intro a b
    have hz:=(List.pairwise_cons.1 hm).1
    rcases List.mem_cons.1 a with ea | a
    ·rcases List.mem_cons.1 b with eb | b
     ·rw [ea,eb]
     ·have:=hz _ b; rw [← ea] at this; omega
    ·rcases List.mem_cons.1 b with eb | b
     ·have:=hz _ a; rw [← eb] at this; omega
     ·exact ih (List.pairwise_cons.1 hm).2 a b
  rw [key h.rise ho h1]
def likeO (a b:Of):Prop:=a.ow=b.ow∧a.sl=b.sl∧a.bu=b.bu∧a.nu=b.nu∧a.de=b.de
theorem take_like {l:List Of} {N:Int} (h:BInv l N) {s n:Int} {o:Of} (hf:findO l s=some o) (h1:1≤n) (h2:n≤o.lf) {t:Int} {x:Of} (hx:findO (takeL l s n) t=some x):∃ y,findO l t=some y∧likeO y x:=by
 obtain ⟨hm,hs⟩:=findO_mem hx
 rw [take_facts h hf h1 h2] at hm
 obtain ⟨_,y,hy,hor⟩:=setO_mem hm
 rcases hor with rfl | ⟨_,rfl⟩
 ·exact ⟨x,by rw [← hs]; exact find_of h hy,rfl,rfl,rfl,rfl,rfl⟩
 ·exact ⟨y,by rw [← hs]; exact find_of h hy,rfl,rfl,rfl,rfl,rfl⟩
def flBy (l0:List Of) (tk pt:Int) (f:Fl) (p c:Int):Int:=match findO l0 f.se with
 | none=>0
 | some o=>fillBy o tk pt f.got f.gi p c
structure SwInv (ps:List Int) (ls0:List Ln) (l0:List Of) (N tk pt get give n0:Int) (σ:SwS):Prop where
 linv:LInv ps σ.ls
 binv:BInv σ.l N
 lim:limL σ.ls=limL ls0
 like:∀ s o,findO σ.l s=some o→∃ y,findO l0 s=some y∧likeO y o
 fs:∀ f ∈ σ.fs,∃ o,findO l0 f.se=some o∧o.sl=get∧o.bu=give∧o.ow≠tk∧o.ow ∈ ps∧(1≤f.got∧f.got≤1099511627776)∧1≤f.gi∧f.gi≤1099511627776
 sum:(σ.fs.map Fl.got).sum + σ.n=n0
 pos:∀ p c,posL σ.ls p c=posL ls0 p c + (σ.fs.map fun f=>flBy l0 tk pt f p c).sum
theorem SwInv.start {ps:List Int} {ls0:List Ln} {l0:List Of} {N tk pt get give n0:Int} (hI:LInv ps ls0) (hJ:BInv l0 N):SwInv ps ls0 l0 N tk pt get give n0 ⟨ls0,l0,[],n0⟩ :=
 ⟨hI,hJ,rfl,fun s o h=>⟨o,h,rfl,rfl,rfl,rfl,rfl⟩,fun f hf=>(by cases hf),(by simp),fun p c=>(by simp)⟩
theorem SwInv.step {ps:List Int} {ls0:List Ln} {l0:List Of} {N tk pt get give n0:Int} {σ:SwS} (h:SwInv ps ls0 l0 N tk pt get give n0 σ) {s k:Int} (hf:firstS ps σ.ls σ.l tk pt σ.n 1099511627776 (bestO σ.l get give)=some (s,k)) :
  1≤k∧k≤σ.n∧okS ps σ.ls σ.l tk pt k s∧(∃ o,findO σ.l s=some o∧o ∈ bestO σ.l get give∧k≤o.lf)∧SwInv ps ls0 l0 N tk pt get give n0 (nextS ps tk pt σ s k):=by
 obtain ⟨h1,h2,o,h3,rfl⟩:=firstS_some hf
 obtain ⟨hm,hsl,hbu⟩:=best_mem h.binv h3
 have hfo:=find_of h.binv hm
 obtain ⟨ok,hle⟩:=may_okS h.linv h2 (by omega)
 have hG:=goesS h.linv o tk pt
 have hG':∀ o',findO σ.l o.se=some o'→Goes ps σ.ls o' tk pt (mostS ps σ.ls o.sl o.ow pt) (mostS ps σ.ls o.bu tk o.ow):=fun o' ho'=>by rw [hfo] at ho'; cases ho'; exact hG
 have hd:=(okS_iff h.linv hG').2 ok
 obtain ⟨o',ho',⟨k1,k2,k3,k4⟩,k5,_,_⟩:=hd.facts
 rw [hfo] at ho'
 cases ho'
 obtain ⟨f1,f2,f3,f4,f5⟩:=filled_facts h.linv h.binv hfo hG hd rfl (filledS_is h.linv o tk pt k (upN (k * o.nu) o.de))
 obtain ⟨_,_,_,_,⟨l1,l2⟩,_⟩:=h.binv.may o hm
 obtain ⟨y,hy,y1,y2,y3,y4,y5⟩:=h.like o.se o hfo
 refine ⟨by omega,hle,ok,⟨o,hfo,h3,k5⟩,?_⟩
 have e:nextS ps tk pt σ o.se k=⟨filledS ps σ.ls o tk pt k (upN (k * o.nu) o.de),takeL σ.l o.se k,σ.fs++[⟨o.se,k,upN (k * o.nu) o.de⟩],σ.n - k⟩:=by
  unfold nextS
  rw [hfo]
 rw [e]
 refine ⟨filledS_inv h.linv _ _ _ _ _,h.binv.take _ _,f1.symm.trans h.lim,fun t x hx=>?_,fun f hf=>?_,?_,fun p c=>?_⟩
 ·obtain ⟨z,hz,z1,z2,z3,z4,z5⟩:=take_like h.binv hfo (by omega) k5 hx
  obtain ⟨v,hv,v1,v2,v3,v4,v5⟩:=h.like t z hz
  exact ⟨v,hv,v1.trans z1,v2.trans z2,v3.trans z3,v4.trans z4,v5.trans z5⟩
 ·rcases List.mem_append.1 hf with hf | hf
  ·exact h.fs f hf
  ·rw [List.mem_singleton] at hf
   subst hf
   exact ⟨y,hy,by rw [y2,hsl],by rw [y3,hbu],by rw [y1]; exact k1,by rw [y1]; exact k2,⟨by show 1≤k; omega,by show k≤1099511627776; omega⟩,f3,f4⟩
 ·have:=h.sum
  simp only [List.map_append,List.map_cons,List.map_nil,List.sum_append,List.sum_cons,List.sum_nil]
  omega
 ·show posL (filledS ps σ.ls o tk pt k (upN (k * o.nu) o.de)) p c=_
  rw [f2 p c,h.pos p c]
  simp only [List.map_append,List.map_cons,List.map_nil,List.sum_append,List.sum_cons,List.sum_nil]
  have e2:flBy l0 tk pt ⟨o.se,k,upN (k * o.nu) o.de⟩ p c=fillBy o tk pt k (upN (k * o.nu) o.de) p c:=by
   unfold flBy
   simp only [hy]
   unfold fillBy
   rw [y1,y2,y3]
  rw [e2]
  omega
theorem SwInv.ends {ps:List Int} {ls0:List Ln} {l0:List Of} {N tk pt get give n0:Int}:∀ (fuel:Nat) {σ:SwS},SwInv ps ls0 l0 N tk pt get give n0 σ→SwInv ps ls0 l0 N tk pt get give n0 (swapN ps tk pt get give fuel σ).2
 | fuel,σ,h=>by
  by_cases hn:σ.n≤0
  ·rw [swapN_done hn]; exact h
  ·cases hf:firstS ps σ.ls σ.l tk pt σ.n 1099511627776 (bestO σ.l get give) with
   | none=>rw [swapN_none hn hf]; exact h
   | some sk =>
    obtain ⟨s,k⟩:=sk
    by_cases hl:σ.fs.length=64
    ·rw [swapN_full hn hf hl]; exact h
    ·cases fuel with
     | zero =>
      have e:swapN ps tk pt get give 0 σ=(13,σ):=by
       unfold swapN
       rw [if_neg hn,hf]
       simp only []
       rw [if_neg hl]
      rw [e]; exact h
     | succ fuel=>rw [swapN_next hn hf hl]; exact SwInv.ends fuel (h.step hf).2.2.2.2
theorem SwInv.got_nn {ps:List Int} {ls0:List Ln} {l0:List Of} {N tk pt get give n0:Int} {σ:SwS} (h:SwInv ps ls0 l0 N tk pt get give n0 σ):0≤(σ.fs.map Fl.got).sum:=by
 have key:∀ l:List Fl,(∀ f ∈ l,1≤f.got)→0≤(l.map Fl.got).sum:=by
  intro l
  induction l with
  | nil=>intro _; simp
  | cons x l ih =>
   intro hx
   have a:=hx x List.mem_cons_self
   have b:=ih (fun y hy=>hx y (List.mem_cons_of_mem _ hy))
   rw [List.map_cons,List.sum_cons]
   omega
 exact key _ (fun f hf=>by obtain ⟨o,_,_,_,_,_,a,_⟩:=h.fs f hf; exact a.1)
theorem SwInv.given_bd {ps:List Int} {ls0:List Ln} {l0:List Of} {N tk pt get give n0:Int} {σ:SwS} (h:SwInv ps ls0 l0 N tk pt get give n0 σ):0≤(σ.fs.map Fl.gi).sum∧(σ.fs.map Fl.gi).sum≤1099511627776 * (σ.fs.length:Int):=by
 have key:∀ l:List Fl,(∀ f ∈ l,1≤f.gi∧f.gi≤1099511627776)→0≤(l.map Fl.gi).sum∧(l.map Fl.gi).sum≤1099511627776 * (l.length:Int):=by
  intro l
  induction l with
  | nil=>intro _; simp
  | cons x l ih =>
   intro hx
   have a:=hx x List.mem_cons_self
   have b:=ih (fun y hy=>hx y (List.mem_cons_of_mem _ hy))
   rw [List.map_cons,List.sum_cons,List.length_cons]
   constructor <;> omega
 exact key _ (fun f hf=>by obtain ⟨o,_,_,_,_,_,_,a,b⟩:=h.fs f hf; exact ⟨a,b⟩)
end Go.Proofs.YtojbmnbphdcjfaaGreat
namespace Go.Proofs.YtojbmnbphdcjfaaGreat
theorem swapN_ind {ps:List Int} {tk pt get give:Int} (C:SwS→Prop) (hs:∀ σ s k,C σ→¬ σ.n≤0→firstS ps σ.ls σ.l tk pt σ.n 1099511627776 (bestO σ.l get give)=some (s,k)→¬ σ.fs.length=64→C (nextS ps tk pt σ s k)):∀ (fuel:Nat) {σ:SwS},C σ→C (swapN ps tk pt get give fuel σ).2
 | fuel,σ,h=>by
  by_cases hn:σ.n≤0
  ·rw [swapN_done hn]; exact h
  ·cases hf:firstS ps σ.ls σ.l tk pt σ.n 1099511627776 (bestO σ.l get give) with
   | none=>rw [swapN_none hn hf]; exact h
   | some sk =>
    obtain ⟨s,k⟩:=sk
    by_cases hl:σ.fs.length=64
    ·rw [swapN_full hn hf hl]; exact h
    ·cases fuel with
     | zero =>
      have e:swapN ps tk pt get give 0 σ=(13,σ):=by
       unfold swapN
       rw [if_neg hn,hf]
       simp only []
       rw [if_neg hl]
      rw [e]; exact h
     | succ fuel=>rw [swapN_next hn hf hl]; exact swapN_ind C hs fuel (hs σ s k h hn hf hl)
theorem swapN_ok {ps:List Int} {tk pt get give:Int}:∀ (fuel:Nat) {σ:SwS},(swapN ps tk pt get give fuel σ).1=0→(swapN ps tk pt get give fuel σ).2.n≤0
 | fuel,σ,h=>by
  by_cases hn:σ.n≤0
  ·rw [swapN_done hn]; exact hn
  ·cases hf:firstS ps σ.ls σ.l tk pt σ.n 1099511627776 (bestO σ.l get give) with
   | none=>rw [swapN_none hn hf] at h; exact absurd h (by show ¬ (11:Int)=0; decide)
   | some sk =>
    obtain ⟨s,k⟩:=sk
    by_cases hl:σ.fs.length=64
    ·rw [swapN_full hn hf hl] at h; exact absurd h (by show ¬ (13:Int)=0; decide)
    ·cases fuel with
     | zero =>
      have e:swapN ps tk pt get give 0 σ=(13,σ):=by
       unfold swapN
       rw [if_neg hn,hf]
       simp only []
       rw [if_neg hl]
      rw [e] at h; exact absurd h (by show ¬ (13:Int)=0; decide)
     | succ fuel =>
      rw [swapN_next hn hf hl] at h ⊢
      exact swapN_ok fuel h
structure SwDone (ps:List Int) (ls:List Ln) (l:List Of) (N fr pt get give n most:Int) (σ:SwS):Prop where
 inv:SwInv ps ls l N fr pt get give n σ
 got:(σ.fs.map Fl.got).sum=n
 given:(σ.fs.map Fl.gi).sum≤most
 len:σ.fs.length≤64
 may:swMay fr pt get give n most
 parts:fr ∈ ps∧pt ∈ ps
 is:swapN ps fr pt get give 64 ⟨ls,l,[],n⟩=(0,σ)
theorem swapF_done {ps:List Int} {ls:List Ln} {l:List Of} {N fr pt get give n most:Int} {σ:SwS} (hI:LInv ps ls) (hJ:BInv l N) (h:swapF ps ls l fr pt get give n most=(0,σ)):SwDone ps ls l N fr pt get give n most σ:=by
 unfold swapF at h
 by_cases hm:swMay fr pt get give n most
 ·rw [if_neg (fun q=>q hm)] at h
  by_cases hp:fr ∉ ps∨pt ∉ ps
  ·rw [if_pos hp] at h
   exact absurd (congrArg Prod.fst h) (by show ¬ (7:Int)=0; decide)
  ·rw [if_neg hp] at h
   by_cases he:(swapN ps fr pt get give 64 ⟨ls,l,[],n⟩).1≠0
   ·rw [if_pos he] at h
    exact absurd (congrArg Prod.fst h) he
   ·rw [if_neg he] at h
    have he:=Decidable.not_not.1 he
    by_cases hg:most<((swapN ps fr pt get give 64 ⟨ls,l,[],n⟩).2.fs.map Fl.gi).sum
    ·rw [if_pos hg] at h
     exact absurd (congrArg Prod.fst h) (by show ¬ (12:Int)=0; decide)
    ·rw [if_neg hg] at h
     have hn1:=swapN_ok 64 he
     have hinv:=SwInv.ends (tk:=fr) (pt:=pt) (get:=get) (give:=give) 64 (SwInv.start hI hJ (tk:=fr) (pt:=pt) (get:=get) (give:=give) (n0:=n))
     have hn2:0≤(swapN ps fr pt get give 64 ⟨ls,l,[],n⟩).2.n∧(swapN ps fr pt get give 64 ⟨ls,l,[],n⟩).2.fs.length≤64:=by
      have:=swapN_ind (ps:=ps) (tk:=fr) (pt:=pt) (get:=get) (give:=give) (fun σ=>SwInv ps ls l N fr pt get give n σ∧0≤σ.n∧σ.fs.length≤64) (fun σ s k hc hn hf hl=>by
       obtain ⟨i1,i2,i3⟩:=hc
       obtain ⟨a,b,c,⟨o,ho,_,_⟩,d⟩:=i1.step hf
       refine ⟨d,?_,?_⟩
       ·unfold nextS
        rw [ho]
        show 0≤σ.n - k
        omega
       ·unfold nextS
        rw [ho]
        show (σ.fs++[_]).length≤64
        rw [List.length_append,List.length_singleton]
        omega) 64 (σ:=⟨ls,l,[],n⟩) ⟨SwInv.start hI hJ,by have:=hm.2.2.2.2.2.1.1; show 0≤n; omega,by simp⟩
      exact this.2
     rw [h] at hn1 hn2 hg hinv
     dsimp only at hn1 hn2 hg hinv
     refine ⟨hinv,?_,by show _≤most; omega,hn2.2,hm,⟨Decidable.not_not.1 fun q=>hp (.inl q),Decidable.not_not.1 fun q=>hp (.inr q)⟩,h⟩
     have:=hinv.sum
     have q1:σ.n≤0:=hn1
     have q2:0≤σ.n:=hn2.1
     omega
 ·rw [if_pos hm] at h
  exact absurd (congrArg Prod.fst h) (by show ¬ (1:Int)=0; decide)
end Go.Proofs.YtojbmnbphdcjfaaGreat
namespace Go.Proofs.YtojbmnbphdcjfaaGreat
open Go.RowKit
def FirstsP (ps:List Int) (tk pt get give:Int) (falls:Bool):List Fl→List Ln→List Of→Int→Int→List Ln→List Of→Prop
 | [],ls,l,_,_,ls',l'=>ls=ls'∧l=l'
 | f::fs,ls,l,want,most,ls',l'=>firstS ps ls l tk pt want most (bestO l get give)=some (f.se,f.got)∧∃ o,findO l f.se=some o∧f.gi=upN (f.got * o.nu) o.de ∧
   FirstsP ps tk pt get give falls fs (filledS ps ls o tk pt f.got f.gi) (takeL l f.se f.got) (if falls then want else want - f.got) (if falls then most - f.gi else most) ls' l'
theorem firstS_pos {ps:List Int} {ls:List Ln} {l:List Of} {tk pt want most:Int}:∀ {os:List Of} {s k:Int},firstS ps ls l tk pt want most os=some (s,k)→∃ m,∃ hm:m<os.length,os[m].se=s∧mayS ps ls l tk pt want most s=k∧0<k∧∀ j (hj:j<m),¬ 0<mayS ps ls l tk pt want most (os[j]'(Nat.lt_trans hj hm)).se
 | [],s,k,h=>by simp [firstS] at h
 | o::os,s,k,h=>by
  unfold firstS at h
  split at h
  ·rename_i hp
   simp only [Option.some.injEq,Prod.mk.injEq] at h
   obtain ⟨rfl,rfl⟩:=h
   exact ⟨0,by simp,rfl,rfl,hp,fun j hj=>absurd hj (by omega)⟩
  ·rename_i hp
   obtain ⟨m,hm,h1,h2,h3,h4⟩:=firstS_pos h
   refine ⟨m + 1,by simpa using hm,h1,h2,h3,fun j hj=>?_⟩
   cases j with
   | zero=>exact hp
   | succ j=>exact h4 j (by omega)
theorem swapN_firsts {ps:List Int} {tk pt get give:Int}:∀ (fuel:Nat) {σ σ':SwS},swapN ps tk pt get give fuel σ=(0,σ')→∃ fs,σ'.fs=σ.fs++fs∧FirstsP ps tk pt get give false fs σ.ls σ.l σ.n 1099511627776 σ'.ls σ'.l
 | fuel,σ,σ',h=>by
  by_cases hn:σ.n≤0
  ·rw [swapN_done hn] at h
   obtain rfl:=(Prod.mk.inj h).2
   exact ⟨[],by simp,rfl,rfl⟩
  ·cases hf:firstS ps σ.ls σ.l tk pt σ.n 1099511627776 (bestO σ.l get give) with
   | none=>rw [swapN_none hn hf] at h; exact absurd (Prod.mk.inj h).1 (by decide)
   | some sk =>
    obtain ⟨s,k⟩:=sk
    by_cases hl:σ.fs.length=64
    ·rw [swapN_full hn hf hl] at h; exact absurd (Prod.mk.inj h).1 (by decide)
    ·cases fuel with
     | zero =>
      have e:swapN ps tk pt get give 0 σ=(13,σ):=by
       unfold swapN
       rw [if_neg hn,hf]
       simp only []
       rw [if_neg hl]
      rw [e] at h; exact absurd (Prod.mk.inj h).1 (by decide)
     | succ fuel =>
      rw [swapN_next hn hf hl] at h
      obtain ⟨fs,h1,h2⟩:=swapN_firsts fuel h
      cases ho:findO σ.l s with
      | none =>
       obtain ⟨m,hm,e1,e2,e3,_⟩:=firstS_pos hf
       unfold mayS at e2
       rw [ho] at e2
       simp only [] at e2
       omega
      | some o =>
       have en:nextS ps tk pt σ s k=⟨filledS ps σ.ls o tk pt k (upN (k * o.nu) o.de),takeL σ.l s k,σ.fs++[⟨s,k,upN (k * o.nu) o.de⟩],σ.n - k⟩:=by
        unfold nextS
        rw [ho]
       rw [en] at h1 h2
       refine ⟨⟨s,k,upN (k * o.nu) o.de⟩::fs,by rw [h1]; simp,hf,o,ho,rfl,?_⟩
       simpa using h2
def OffersIn (w:World) (b:Nat) (os:List Of):Prop:=∀ w',Below w.heap.size w w'→b<w'.heap.size∧∀ k (hk:k<os.length),
 w'.cell? ⟨b,k * 7,none⟩=some (.int .u64 os[k].se)∧w'.cell? ⟨b,k * 7 + 1,none⟩=some (.int .u8 os[k].ow)∧w'.cell? ⟨b,k * 7 + 2,none⟩=some (.int .u8 os[k].sl)∧w'.cell? ⟨b,k * 7 + 3,none⟩=some (.int .u8 os[k].bu)∧w'.cell? ⟨b,k * 7 + 4,none⟩=some (.int .i64 os[k].lf)∧w'.cell? ⟨b,k * 7 + 5,none⟩=some (.int .i64 os[k].nu)∧w'.cell? ⟨b,k * 7 + 6,none⟩=some (.int .i64 os[k].de)
theorem OffersIn.below {w w':World} {b:Nat} {os:List Of} (h:OffersIn w b os) (k:Below w.heap.size w w'):OffersIn w' b os:=fun w2 q=>h w2 (andB k q)
theorem look_offers {w:World} {base:Nat} {e:TypeId} {v:Value} {os:List Of} (h:Rowed w base e 7 v os.length (ofCells os)) (hp:0<os.length):∃ b cap,v=.slice (some ⟨b,0,none⟩) os.length cap∧os.length≤cap∧cap≤maxLen∧OffersIn w b os:=by
 obtain ⟨ao,cap,rfl,h1,h2,_,h4⟩:=h.look
 obtain ⟨b,rfl,_,hb,hc,_⟩:=h4 hp
 refine ⟨b,cap,rfl,h1,h2,fun w' q=>⟨Nat.lt_of_lt_of_le hb q.size,fun k hk=>?_⟩⟩
 exact of_cells (w:=w') (fun j hj=>by rw [q.cell (p:=⟨b,j,none⟩) hb]; exact hc j hj) hk
end Go.Proofs.YtojbmnbphdcjfaaGreat
namespace Go.Proofs.YtojbmnbphdcjfaaGreat
open Go.RowKit
theorem pmayS_any (HMy:FMayProg) {w:World} {base G M gb:Nat} {ps:List Int} {ls:List Ln} {l:List Of} {N:Int} {vb:Value} (hL:LedM w G M ps ls) (hI:LInv ps ls) (hP:PB w base gb l N vb) (hJ:BInv l N)
  (s tk pt want most:Int) (hs:0≤s∧s≤18446744073709551615) (ht:In8 tk) (hto:In8 pt) (hw:In64 want) (hmo:In64 most) :
  Calls Tryz.prog 65 #[.agg #[.pointer (some ⟨G,0,none⟩),.pointer (some ⟨gb,0,none⟩)],.int .u64 s,.int .u8 tk,.int .u8 pt,.int .i64 want,.int .i64 most] w fun e w'=>e=.returned (.int .i64 (mayS ps ls l tk pt want most s))∧Below w.heap.size w w':=by
 obtain ⟨m1,m2,g,_,_⟩:=goes_some hI l s tk pt
 rw [← mayS_eq hI g]
 exact HMy hL hI hP hJ s tk pt want most m1 m2 hs ht hto hw hmo g
def PDoS (w:World) (base G M gb:Nat) (ps:List Int) (ls:List Ln) (l:List Of) (N:Int) (vb:Value) (s tk pt n:Int) (e:Ending) (w':World):Prop :=
 (¬ okS ps ls l tk pt n s∧e=.returned (.tuple #[noFill,.int .i64 1])∧Below w.heap.size w w') ∨
 (okS ps ls l tk pt n s∧∃ o x vb',findO l s=some o∧x=upN (n * o.nu) o.de∧e=.returned (.tuple #[.agg #[.int .u64 s,.int .u8 tk,.int .u8 pt,.int .i64 n,.int .i64 x],.int .i64 0]) ∧
  LedM w' G M ps (filledS ps ls o tk pt n x)∧PB w' base gb (takeL l s n) N vb'∧Keep (fun k=>k=G∨k=M∨Foot gb vb k) w w'∧Moved w vb vb')
theorem pdoS_any (HD:FDoProg) {w:World} {base G M gb:Nat} {ps:List Int} {ls:List Ln} {l:List Of} {N:Int} {vb:Value} (hL:LedM w G M ps ls) (hI:LInv ps ls) (hP:PB w base gb l N vb) (hJ:BInv l N)
  (s tk pt n:Int) (hs:0≤s∧s≤18446744073709551615) (ht:In8 tk) (hto:In8 pt) (hn:In64 n) :
  Calls Tryz.prog 67 #[.agg #[.pointer (some ⟨G,0,none⟩),.pointer (some ⟨gb,0,none⟩)],.int .u64 s,.int .u8 tk,.int .u8 pt,.int .i64 n] w (PDoS w base G M gb ps ls l N vb s tk pt n):=by
 obtain ⟨m1,m2,g,_,_⟩:=goes_some hI l s tk pt
 refine (HD hL hI hP hJ s tk pt n m1 m2 hs ht hto hn g).mono ?_
 rintro e w' (⟨a,b,c⟩ | ⟨a,o,x,ls',vb',b,c,d,f,h1,h2,h3,h4⟩)
 ·exact .inl ⟨fun q=>a ((okS_iff hI g).2 q),b,c⟩
 ·rw [d.eq (filledS_is hI o tk pt n x)] at h1
  exact .inr ⟨(okS_iff hI g).1 a,o,x,vb',b,c,f,h1,h2,h3,h4⟩
end Go.Proofs.YtojbmnbphdcjfaaGreat
namespace Go.Proofs.YtojbmnbphdcjfaaGreat
open Go.RowKit
theorem wpList_append_one {P:Program} (w:World) {ops:Array Oper} {rest:List Oper} {o:Oper} {a:Act} {Q:Exit→Act→World→Prop} (hgd:o.guard=none) (s x:Operand) (t e:TypeId)
  (ho:o.op=.call { callee:=.builtin .append,args:=#[s,x],argTypes:=#[t,t] }) {z:Value} {sz by':Nat} (ht:P.underlying t=some (.slice e)) (hinf:(P.info? e).map (fun i=>(i.zero,i.size,i.bytes))=some (some z,sz,by')) (hzs:z.cells.size=sz) (h0:0<sz) (hby:by'≤1000)
  (base:Nat) (v:Value) (n:Nat) (xs:List Value) (hs:a.eval s=v) (hown:w.ownsRow base e sz v n xs) (g c:Nat) (vs:List Value) (hvs:vs.length=sz) (hx:a.eval x=.slice (some ⟨g,0,none⟩) 1 c) (hy:Blk w g vs.toArray e) (h1:∀ u ∈ vs,u.oneCell'=true) (hlen:n≤100000) (hbase:base≤w.heap.size)
  (h:∀ v' w',w'.ownsRow base e sz v' (n + 1) (xs++vs)→w.grownBy w' v.ownBlock→wpList P ops Q rest (a.put o.dst v') w'):wpList P ops Q (o::rest) a w:=by
 obtain ⟨i0,hi,hz0,hz1,hz2⟩:=info_parts hinf
 refine wpList_append_own w hgd s x t ho base e i0 z sz by' ht hi hz0 hz1 hz2 hzs h0 v n xs hs hown ⟨g,0,none⟩ 1 c vs hx (by rw [hvs]; omega) ?_ h1 (by unfold maxLen; omega) ?_ hbase ?_
 ·intro j u hj
  rw [Go.WideShapes.add_plain,Nat.zero_add,hy.cell j]
  simpa using hj
 ·refine Nat.le_trans (Nat.mul_le_mul_left _ hby) ?_
  omega
 ·intro v' w' h2 h3 _
  exact h v' w' h2 h3
theorem below_ag {B:Nat} {w w1 w2:World} {o:Obj} {row:Option Nat} (h:Below B w w1) (hB:B≤w1.heap.size) (hg:(w1.alloc o).grownBy w2 row) (hr:∀ k,row=some k→B≤k):Below B w w2 :=
 (h.alloc hB o).grown hg (by simp; omega) hr
end Go.Proofs.YtojbmnbphdcjfaaGreat
namespace Go.Proofs.YtojbmnbphdcjfaaGreat
open Go.RowKit
def signed (neg:Bool) (x:Nat):Int:=if neg then -(x:Int) else x
end Go.Proofs.YtojbmnbphdcjfaaGreat
namespace Go.Proofs.YtojbmnbphdcjfaaGreat
open Go.RowKit
def Lst (k:IntKind) (w:World) (a:Option Addr) (cap:Nat) (zs:List Int):Prop :=
 (zs=[]∧(a=none→cap=0))∨∃ b off,a=some ⟨b,off,none⟩∧zs≠[]∧b<w.heap.size∧∀ i (h:i<zs.length),w.cell? ⟨b,off + i,none⟩=some (.int k zs[i])
end Go.Proofs.YtojbmnbphdcjfaaGreat
namespace Go.Proofs.YtojbmnbphdcjfaaGreat
open Go.RowKit
def Fl.vals (tk pt:Int) (f:Fl):List Value:=[.int .u64 f.se,.int .u8 tk,.int .u8 pt,.int .i64 f.got,.int .i64 f.gi]
def flCells (tk pt:Int) (fs:List Fl):List Value:=fs.flatMap (Fl.vals tk pt)
theorem flCells_len (tk pt:Int) (fs:List Fl):(flCells tk pt fs).length=fs.length * 5:=flat_len _ 5 (fun _=>rfl) fs
theorem flCells_get (tk pt:Int) (fs:List Fl) (i j:Nat) (hj:j<5) (h:i<fs.length):(flCells tk pt fs)[i * 5 + j]? = (fs[i].vals tk pt)[j]? := by
 unfold flCells
 rw [flat_get _ 5 (fun _=>rfl) fs i j hj,List.getElem?_eq_getElem h]
 rfl
theorem flCells_next (tk pt:Int) (fs:List Fl) (f:Fl):flCells tk pt (fs++[f])=flCells tk pt fs++f.vals tk pt:=by
 unfold flCells
 rw [List.flatMap_append]
 simp
theorem own_cell5 {w:World} {base n cap:Nat} {ao:Option Addr} {e:TypeId} {tk pt:Int} {fs:List Fl} (h:w.ownsRow base e 5 (.slice ao n cap) n (flCells tk pt fs)) {k:Nat} (hk:k<fs.length) :
  ∃ b,ao=some ⟨b,0,none⟩∧∀ w',Below w.heap.size w w'→b<w'.heap.size∧∀ j,j<5→w'.cell? ⟨b,k * 5 + j,none⟩=(fs[k].vals tk pt)[j]? := by
 obtain ⟨hl,h2⟩:=h
 have hz:=flCells_len tk pt fs
 rcases h2 with ⟨h2,h3⟩ | ⟨g,cap',cur,hv,hge,hg,hnc,hcm,hsz,htk⟩
 ·have:=hl
  rw [h3] at this
  omega
 ·cases hv
  have hB:Blk w g cur e:=hg
  refine ⟨g,rfl,fun w' k'=>⟨(hB.below k' hB.lt).lt,fun j hj=>?_⟩⟩
  rw [(hB.below k' hB.lt).cell]
  have e:=flCells_get tk pt fs k j hj hk
  rw [← htk,List.getElem?_take_of_lt (by omega)] at e
  rw [Array.getElem?_toList] at e
  exact e
theorem info_i64:(Tryz.prog.info? 2).map (fun i=>(i.zero,i.size,i.bytes))=some (some (.int .i64 0),1,8):=by kernel_rfl
theorem own_lst {w:World} {base n cap:Nat} {ao:Option Addr} {e:TypeId} {zs:List Int} (h:w.ownsRow base e 1 (.slice ao n cap) n (zs.map (.int .i64))) (hn:n=zs.length):Lst .i64 w ao cap zs:=by
 obtain ⟨hl,h2⟩:=h
 rcases h2 with ⟨h2,h3⟩ | ⟨g,cap',cur,hv,hge,hg,hnc,hcm,hsz,htk⟩
 ·cases h2
  refine .inl ⟨List.eq_nil_of_length_eq_zero (by omega),fun _=>rfl⟩
 ·cases hv
  have hB:Blk w g cur e:=hg
  by_cases hz:zs=[]
  ·exact .inl ⟨hz,fun h=>by cases h⟩
  ·refine .inr ⟨g,0,rfl,hz,hB.lt,fun i hi=>?_⟩
   rw [Nat.zero_add,hB.cell]
   have e:(zs.map (Value.int .i64))[i]? = some (.int .i64 zs[i]):=by rw [List.getElem?_map,List.getElem?_eq_getElem hi]; rfl
   rw [← htk,List.getElem?_take_of_lt (by omega),Array.getElem?_toList] at e
   exact e
end Go.Proofs.YtojbmnbphdcjfaaGreat
