/-
  Pieces of one proof, without what is not wanted: SwapMath, SwapInv, Ref04d, Ref04e, PlaceMath, PlaceDone.
-/
import Derived.Test.YtngnfdnfpiiclaaGreatV02
import Derived.Test.YtngnfdnfpiiclaaGreatV13
import Derived.Test.YtngnfdnfpiiclaaGreatV15
set_option linter.unusedSimpArgs false
set_option linter.unusedVariables false
namespace Go.Proofs.YtngnfdnfpiiclaaGreat
noncomputable def routeS (f:Int→Int→Int) (a b n:Int):RS:=@Classical.epsilon RS ⟨⟨f,n,[]⟩⟩ (fun μ=>IsRoute f 4398046511104 a b n μ)
theorem routeS_is {f:Int→Int→Int} (h:GInv f 4398046511104) (a b n:Int):IsRoute f 4398046511104 a b n (routeS f a b n) :=
 @Classical.epsilon_spec RS (fun μ=>IsRoute f 4398046511104 a b n μ) (route_ends h a b n)
noncomputable def mostS (ps:List Int) (ls:List Ln) (c a b:Int):Int:=mostW - (routeS (roomF ps ls c) a b mostW).left
theorem goesS {ps:List Int} {ls:List Ln} (h:LInv ps ls) (o:Of) (tk pt:Int):Goes ps ls o tk pt (mostS ps ls o.sl o.ow pt) (mostS ps ls o.bu tk o.ow) :=
 ⟨⟨_,routeS_is (roomF_inv h _) _ _ _,rfl⟩,_,routeS_is (roomF_inv h _) _ _ _,rfl⟩
theorem Goes.eqS {ps:List Int} {ls:List Ln} {o:Of} {tk pt m1 m2:Int} (h:LInv ps ls) (g:Goes ps ls o tk pt m1 m2):m1=mostS ps ls o.sl o.ow pt∧m2=mostS ps ls o.bu tk o.ow:=by
 obtain ⟨⟨μ,h1,rfl⟩,ν,h2,rfl⟩:=g
 unfold mostS
 rw [h1.eq (routeS_is (roomF_inv h _) _ _ _),h2.eq (routeS_is (roomF_inv h _) _ _ _)]
 exact ⟨rfl,rfl⟩
theorem mostS_bd {ps:List Int} {ls:List Ln} (h:LInv ps ls) (c a b:Int):0≤mostS ps ls c a b∧mostS ps ls c a b≤1125899906842624 :=
 most_any_bd (roomF_inv h c) (routeS_is (roomF_inv h c) a b mostW)
noncomputable def mayS (ps:List Int) (ls:List Ln) (l:List Of) (tk pt want most s:Int):Int:=match findO l s with
 | none=>0
 | some o=>mayO o ps tk pt want most (mostS ps ls o.sl o.ow pt) (mostS ps ls o.bu tk o.ow)
theorem mayS_eq {ps:List Int} {ls:List Ln} (h:LInv ps ls) {l:List Of} {tk pt want most s m1 m2:Int} (g:∀ o,findO l s=some o→Goes ps ls o tk pt m1 m2):mayV l ps s tk pt want most m1 m2=mayS ps ls l tk pt want most s:=by
 unfold mayV mayS
 cases hf:findO l s with
 | none=>rfl
 | some o =>
  obtain ⟨e1,e2⟩:=(g o hf).eqS h
  simp only []
  rw [e1,e2]
noncomputable def paidS (ps:List Int) (ls:List Ln) (a b c n:Int):List Ln:=payL ps ls a b c n (routeS (roomF ps ls c) a b n)
noncomputable def filledS (ps:List Int) (ls:List Ln) (o:Of) (tk pt n x:Int):List Ln:=paidS ps (if pt=o.ow then ls else paidS ps ls o.ow pt o.sl n) tk o.ow o.bu x
theorem paidS_inv {ps:List Int} {ls:List Ln} (h:LInv ps ls) (a b c n:Int):LInv ps (paidS ps ls a b c n):=payL_inv h _ _ _ _ _
theorem filledS_is {ps:List Int} {ls:List Ln} (h:LInv ps ls) (o:Of) (tk pt n x:Int):Filled ps ls o tk pt n x (filledS ps ls o tk pt n x):=by
 unfold filledS
 by_cases e:pt=o.ow
 ·rw [if_pos e]
  exact ⟨ls,_,.inl ⟨e,rfl⟩,routeS_is (roomF_inv h _) _ _ _,rfl⟩
 ·rw [if_neg e]
  exact ⟨_,_,.inr ⟨e,_,routeS_is (roomF_inv h _) _ _ _,rfl⟩,routeS_is (roomF_inv (paidS_inv h _ _ _ _) _) _ _ _,rfl⟩
theorem filledS_inv {ps:List Int} {ls:List Ln} (h:LInv ps ls) (o:Of) (tk pt n x:Int):LInv ps (filledS ps ls o tk pt n x):=(filledS_is h o tk pt n x).inv h
def okS (ps:List Int) (ls:List Ln) (l:List Of) (tk pt n s:Int):Prop:=1≤n∧n≤mayS ps ls l tk pt n 1099511627776 s
theorem okS_iff {ps:List Int} {ls:List Ln} (h:LInv ps ls) {l:List Of} {tk pt n s m1 m2:Int} (g:∀ o,findO l s=some o→Goes ps ls o tk pt m1 m2):doOk l ps s tk pt n m1 m2↔okS ps ls l tk pt n s:=by
 unfold doOk okS
 rw [mayS_eq h g]
theorem may_okS {ps:List Int} {ls:List Ln} (h:LInv ps ls) {l:List Of} {tk pt want most s k:Int} (hk:k=mayS ps ls l tk pt want most s) (h1:1≤k):okS ps ls l tk pt k s∧k≤want:=by
 obtain ⟨m1,m2,g,b1,b2⟩:=goes_some h l s tk pt
 have e:mayV l ps s tk pt want most m1 m2=k:=by rw [mayS_eq h g,hk]
 obtain ⟨a,b,_⟩:=may_do b1 b2 e h1
 exact ⟨(okS_iff h g).1 a,b⟩
noncomputable def firstS (ps:List Int) (ls:List Ln) (l:List Of) (tk pt want most:Int):List Of→Option (Int × Int)
 | []=>none
 | o::os=>if 0<mayS ps ls l tk pt want most o.se then some (o.se,mayS ps ls l tk pt want most o.se) else firstS ps ls l tk pt want most os
theorem firstS_some {ps:List Int} {ls:List Ln} {l:List Of} {tk pt want most:Int}:∀ {os:List Of} {s k:Int},firstS ps ls l tk pt want most os=some (s,k)→0<k∧k=mayS ps ls l tk pt want most s∧∃ o ∈ os,o.se=s
 | [],s,k,h=>by simp [firstS] at h
 | o::os,s,k,h=>by
  unfold firstS at h
  split at h
  ·rename_i hp
   simp only [Option.some.injEq,Prod.mk.injEq] at h
   obtain ⟨rfl,rfl⟩:=h
   exact ⟨hp,rfl,o,List.mem_cons_self,rfl⟩
  ·obtain ⟨h1,h2,o',h3,h4⟩:=firstS_some h
   exact ⟨h1,h2,o',List.mem_cons_of_mem _ h3,h4⟩
structure Fl where
 se:Int
 got:Int
 gi:Int
structure SwS where
 ls:List Ln
 l:List Of
 fs:List Fl
 n:Int
noncomputable def nextS (ps:List Int) (tk pt:Int) (σ:SwS) (s k:Int):SwS:=match findO σ.l s with
 | none=>σ
 | some o=>⟨filledS ps σ.ls o tk pt k (upN (k * o.nu) o.de),takeL σ.l s k,σ.fs++[⟨s,k,upN (k * o.nu) o.de⟩],σ.n - k⟩
noncomputable def swapN (ps:List Int) (tk pt get give:Int):Nat→SwS→Int × SwS
 | fuel,σ=>if σ.n≤0 then (0,σ) else match firstS ps σ.ls σ.l tk pt σ.n 1099511627776 (bestO σ.l get give) with
  | none=>(11,σ)
  | some (s,k)=>if σ.fs.length=64 then (13,σ) else match fuel with
   | 0=>(13,σ)
   | f + 1=>swapN ps tk pt get give f (nextS ps tk pt σ s k)
theorem swapN_done {ps:List Int} {tk pt get give:Int} {fuel:Nat} {σ:SwS} (h:σ.n≤0):swapN ps tk pt get give fuel σ=(0,σ):=by
 cases fuel <;> (unfold swapN; rw [if_pos h])
theorem swapN_none {ps:List Int} {tk pt get give:Int} {fuel:Nat} {σ:SwS} (h:¬ σ.n≤0) (hf:firstS ps σ.ls σ.l tk pt σ.n 1099511627776 (bestO σ.l get give)=none):swapN ps tk pt get give fuel σ=(11,σ):=by
 cases fuel <;> (unfold swapN; rw [if_neg h,hf])
theorem swapN_full {ps:List Int} {tk pt get give:Int} {fuel:Nat} {σ:SwS} {s k:Int} (h:¬ σ.n≤0) (hf:firstS ps σ.ls σ.l tk pt σ.n 1099511627776 (bestO σ.l get give)=some (s,k)) (hl:σ.fs.length=64):swapN ps tk pt get give fuel σ=(13,σ):=by
 cases fuel <;> (unfold swapN; rw [if_neg h,hf]; simp only []; rw [if_pos hl])
theorem swapN_next {ps:List Int} {tk pt get give:Int} {fuel:Nat} {σ:SwS} {s k:Int} (h:¬ σ.n≤0) (hf:firstS ps σ.ls σ.l tk pt σ.n 1099511627776 (bestO σ.l get give)=some (s,k)) (hl:¬ σ.fs.length=64):swapN ps tk pt get give (fuel + 1) σ=swapN ps tk pt get give fuel (nextS ps tk pt σ s k):=by
 conv=>lhs; unfold swapN
 rw [if_neg h,hf]
 simp only []
 rw [if_neg hl]
def swMay (fr pt get give n most:Int):Prop:=(1≤fr∧fr≤16)∧(1≤pt∧pt≤16)∧(1≤get∧get≤8)∧(1≤give∧give≤8)∧get≠give∧(1≤n∧n≤1099511627776)∧1≤most∧most≤1099511627776
instance (fr pt get give n most:Int):Decidable (swMay fr pt get give n most):=by unfold swMay; infer_instance
noncomputable def swapF (ps:List Int) (ls:List Ln) (l:List Of) (fr pt get give n most:Int):Int × SwS :=
 if ¬ swMay fr pt get give n most then (1,⟨ls,l,[],n⟩) else if fr ∉ ps∨pt ∉ ps then (7,⟨ls,l,[],n⟩) else
  if (swapN ps fr pt get give 64 ⟨ls,l,[],n⟩).1≠0 then swapN ps fr pt get give 64 ⟨ls,l,[],n⟩ else
  if most<((swapN ps fr pt get give 64 ⟨ls,l,[],n⟩).2.fs.map Fl.gi).sum then (12,(swapN ps fr pt get give 64 ⟨ls,l,[],n⟩).2) else swapN ps fr pt get give 64 ⟨ls,l,[],n⟩
end Go.Proofs.YtngnfdnfpiiclaaGreat
namespace Go.Proofs.YtngnfdnfpiiclaaGreat
theorem best_mem {l:List Of} {N:Int} (h:BInv l N) {s b:Int} {o:Of} (ho:o ∈ bestO l s b):o ∈ l∧o.sl=s∧o.bu=b:=by
 have h1:=((bestO_is h.may h.rise s b).1.mem_iff).1 ho
 rw [List.mem_filter] at h1
 obtain ⟨h2,h3⟩:=h1
 simp [ofPair] at h3
 exact ⟨h2,h3.1,h3.2⟩
theorem find_of {l:List Of} {N:Int} (h:BInv l N) {o:Of} (ho:o ∈ l):findO l o.se=some o:=by
 cases hf:findO l o.se with
 | none =>
  unfold findO at hf
  rw [List.find?_eq_none] at hf
  exact absurd (by simp) (hf o ho)
 | some o' =>
  obtain ⟨h1,h2⟩:=findO_mem hf
  have key:∀ {m:List Of},m.Pairwise (fun x y=>x.se<y.se)→o ∈ m→o' ∈ m→o=o':=by
   intro m hm
   induction m with
   | nil=>intro a; cases a
   | cons z m ih =>
    intro a b
    have hz:=(List.pairwise_cons.1 hm).1
    rcases List.mem_cons.1 a with ea | a
    ·rcases List.mem_cons.1 b with eb | b
     ·rw [ea,eb]
     ·have:=hz _ b; rw [← ea] at this; omega
    ·rcases List.mem_cons.1 b with eb | b
     ·have:=hz _ a; rw [← eb] at this; omega
     ·exact ih (List.pairwise_cons.1 hm).2 a b
  rw [key h.rise ho h1]
def likeO (a b:Of):Prop:=a.ow=b.ow∧a.sl=b.sl∧a.bu=b.bu∧a.nu=b.nu∧a.de=b.de
theorem take_like {l:List Of} {N:Int} (h:BInv l N) {s n:Int} {o:Of} (hf:findO l s=some o) (h1:1≤n) (h2:n≤o.lf) {t:Int} {x:Of} (hx:findO (takeL l s n) t=some x):∃ y,findO l t=some y∧likeO y x:=by
 obtain ⟨hm,hs⟩:=findO_mem hx
 rw [take_facts h hf h1 h2] at hm
 obtain ⟨_,y,hy,hor⟩:=setO_mem hm
 rcases hor with rfl | ⟨_,rfl⟩
 ·exact ⟨x,by rw [← hs]; exact find_of h hy,rfl,rfl,rfl,rfl,rfl⟩
 ·exact ⟨y,by rw [← hs]; exact find_of h hy,rfl,rfl,rfl,rfl,rfl⟩
def flBy (l0:List Of) (tk pt:Int) (f:Fl) (p c:Int):Int:=match findO l0 f.se with
 | none=>0
 | some o=>fillBy o tk pt f.got f.gi p c
structure SwInv (ps:List Int) (ls0:List Ln) (l0:List Of) (N tk pt get give n0:Int) (σ:SwS):Prop where
 linv:LInv ps σ.ls
 binv:BInv σ.l N
 lim:limL σ.ls=limL ls0
 like:∀ s o,findO σ.l s=some o→∃ y,findO l0 s=some y∧likeO y o
 fs:∀ f ∈ σ.fs,∃ o,findO l0 f.se=some o∧o.sl=get∧o.bu=give∧o.ow≠tk∧o.ow ∈ ps∧(1≤f.got∧f.got≤1099511627776)∧1≤f.gi∧f.gi≤1099511627776
 sum:(σ.fs.map Fl.got).sum + σ.n=n0
 pos:∀ p c,posL σ.ls p c=posL ls0 p c + (σ.fs.map fun f=>flBy l0 tk pt f p c).sum
theorem SwInv.start {ps:List Int} {ls0:List Ln} {l0:List Of} {N tk pt get give n0:Int} (hI:LInv ps ls0) (hJ:BInv l0 N):SwInv ps ls0 l0 N tk pt get give n0 ⟨ls0,l0,[],n0⟩ :=
 ⟨hI,hJ,rfl,fun s o h=>⟨o,h,rfl,rfl,rfl,rfl,rfl⟩,fun f hf=>(by cases hf),(by simp),fun p c=>(by simp)⟩
theorem SwInv.step {ps:List Int} {ls0:List Ln} {l0:List Of} {N tk pt get give n0:Int} {σ:SwS} (h:SwInv ps ls0 l0 N tk pt get give n0 σ) {s k:Int} (hf:firstS ps σ.ls σ.l tk pt σ.n 1099511627776 (bestO σ.l get give)=some (s,k)) :
  1≤k∧k≤σ.n∧okS ps σ.ls σ.l tk pt k s∧(∃ o,findO σ.l s=some o∧o ∈ bestO σ.l get give∧k≤o.lf)∧SwInv ps ls0 l0 N tk pt get give n0 (nextS ps tk pt σ s k):=by
 obtain ⟨h1,h2,o,h3,rfl⟩:=firstS_some hf
 obtain ⟨hm,hsl,hbu⟩:=best_mem h.binv h3
 have hfo:=find_of h.binv hm
 obtain ⟨ok,hle⟩:=may_okS h.linv h2 (by omega)
 have hG:=goesS h.linv o tk pt
 have hG':∀ o',findO σ.l o.se=some o'→Goes ps σ.ls o' tk pt (mostS ps σ.ls o.sl o.ow pt) (mostS ps σ.ls o.bu tk o.ow):=fun o' ho'=>by rw [hfo] at ho'; cases ho'; exact hG
 have hd:=(okS_iff h.linv hG').2 ok
 obtain ⟨o',ho',⟨k1,k2,k3,k4⟩,k5,_,_⟩:=hd.facts
 rw [hfo] at ho'
 cases ho'
 obtain ⟨f1,f2,f3,f4,f5⟩:=filled_facts h.linv h.binv hfo hG hd rfl (filledS_is h.linv o tk pt k (upN (k * o.nu) o.de))
 obtain ⟨_,_,_,_,⟨l1,l2⟩,_⟩:=h.binv.may o hm
 obtain ⟨y,hy,y1,y2,y3,y4,y5⟩:=h.like o.se o hfo
 refine ⟨by omega,hle,ok,⟨o,hfo,h3,k5⟩,?_⟩
 have e:nextS ps tk pt σ o.se k=⟨filledS ps σ.ls o tk pt k (upN (k * o.nu) o.de),takeL σ.l o.se k,σ.fs++[⟨o.se,k,upN (k * o.nu) o.de⟩],σ.n - k⟩:=by
  unfold nextS
  rw [hfo]
 rw [e]
 refine ⟨filledS_inv h.linv _ _ _ _ _,h.binv.take _ _,f1.symm.trans h.lim,fun t x hx=>?_,fun f hf=>?_,?_,fun p c=>?_⟩
 ·obtain ⟨z,hz,z1,z2,z3,z4,z5⟩:=take_like h.binv hfo (by omega) k5 hx
  obtain ⟨v,hv,v1,v2,v3,v4,v5⟩:=h.like t z hz
  exact ⟨v,hv,v1.trans z1,v2.trans z2,v3.trans z3,v4.trans z4,v5.trans z5⟩
 ·rcases List.mem_append.1 hf with hf | hf
  ·exact h.fs f hf
  ·rw [List.mem_singleton] at hf
   subst hf
   exact ⟨y,hy,by rw [y2,hsl],by rw [y3,hbu],by rw [y1]; exact k1,by rw [y1]; exact k2,⟨by show 1≤k; omega,by show k≤1099511627776; omega⟩,f3,f4⟩
 ·have:=h.sum
  simp only [List.map_append,List.map_cons,List.map_nil,List.sum_append,List.sum_cons,List.sum_nil]
  omega
 ·show posL (filledS ps σ.ls o tk pt k (upN (k * o.nu) o.de)) p c=_
  rw [f2 p c,h.pos p c]
  simp only [List.map_append,List.map_cons,List.map_nil,List.sum_append,List.sum_cons,List.sum_nil]
  have e2:flBy l0 tk pt ⟨o.se,k,upN (k * o.nu) o.de⟩ p c=fillBy o tk pt k (upN (k * o.nu) o.de) p c:=by
   unfold flBy
   simp only [hy]
   unfold fillBy
   rw [y1,y2,y3]
  rw [e2]
  omega
theorem SwInv.ends {ps:List Int} {ls0:List Ln} {l0:List Of} {N tk pt get give n0:Int}:∀ (fuel:Nat) {σ:SwS},SwInv ps ls0 l0 N tk pt get give n0 σ→SwInv ps ls0 l0 N tk pt get give n0 (swapN ps tk pt get give fuel σ).2
 | fuel,σ,h=>by
  by_cases hn:σ.n≤0
  ·rw [swapN_done hn]; exact h
  ·cases hf:firstS ps σ.ls σ.l tk pt σ.n 1099511627776 (bestO σ.l get give) with
   | none=>rw [swapN_none hn hf]; exact h
   | some sk =>
    obtain ⟨s,k⟩:=sk
    by_cases hl:σ.fs.length=64
    ·rw [swapN_full hn hf hl]; exact h
    ·cases fuel with
     | zero =>
      have e:swapN ps tk pt get give 0 σ=(13,σ):=by
       unfold swapN
       rw [if_neg hn,hf]
       simp only []
       rw [if_neg hl]
      rw [e]; exact h
     | succ fuel=>rw [swapN_next hn hf hl]; exact SwInv.ends fuel (h.step hf).2.2.2.2
theorem SwInv.got_nn {ps:List Int} {ls0:List Ln} {l0:List Of} {N tk pt get give n0:Int} {σ:SwS} (h:SwInv ps ls0 l0 N tk pt get give n0 σ):0≤(σ.fs.map Fl.got).sum:=by
 have key:∀ l:List Fl,(∀ f ∈ l,1≤f.got)→0≤(l.map Fl.got).sum:=by
  intro l
  induction l with
  | nil=>intro _; simp
  | cons x l ih =>
   intro hx
   have a:=hx x List.mem_cons_self
   have b:=ih (fun y hy=>hx y (List.mem_cons_of_mem _ hy))
   rw [List.map_cons,List.sum_cons]
   omega
 exact key _ (fun f hf=>by obtain ⟨o,_,_,_,_,_,a,_⟩:=h.fs f hf; exact a.1)
theorem SwInv.given_bd {ps:List Int} {ls0:List Ln} {l0:List Of} {N tk pt get give n0:Int} {σ:SwS} (h:SwInv ps ls0 l0 N tk pt get give n0 σ):0≤(σ.fs.map Fl.gi).sum∧(σ.fs.map Fl.gi).sum≤1099511627776 * (σ.fs.length:Int):=by
 have key:∀ l:List Fl,(∀ f ∈ l,1≤f.gi∧f.gi≤1099511627776)→0≤(l.map Fl.gi).sum∧(l.map Fl.gi).sum≤1099511627776 * (l.length:Int):=by
  intro l
  induction l with
  | nil=>intro _; simp
  | cons x l ih =>
   intro hx
   have a:=hx x List.mem_cons_self
   have b:=ih (fun y hy=>hx y (List.mem_cons_of_mem _ hy))
   rw [List.map_cons,List.sum_cons,List.length_cons]
   constructor <;> omega
 exact key _ (fun f hf=>by obtain ⟨o,_,_,_,_,_,_,a,b⟩:=h.fs f hf; exact ⟨a,b⟩)
end Go.Proofs.YtngnfdnfpiiclaaGreat
namespace Go.Proofs.YtngnfdnfpiiclaaGreat
open Go.RowKit
def okO (nx:Int) (l:List Of):Prop:=l.Pairwise (fun x y=>x.se<y.se)∧∀ x ∈ l,x.may∧x.se≠0∧x.se<nx
end Go.Proofs.YtngnfdnfpiiclaaGreat
namespace Go.Proofs.YtngnfdnfpiiclaaGreat
open Go.RowKit
theorem wp_append_pair {P:Program} {w w':World} {o:Oper} {a:Act} {K:Act→World→Prop} {Q:Exit→Act→World→Prop} (y x:Operand) (t:TypeId) {u v v':Value}
  (ho:o.op=.call { callee:=.builtin .append,args:=#[y,x],argTypes:=#[t,t] }) (hy:a.eval y=u) (hx:a.eval x=v)
  (hr:(Builtin.append_ #[t,t] o.type #[u,v]).run P w=.ok v' w') (h:K (a.put o.dst v') w'):o.wp P a w K Q:=by
 unfold Oper.wp execOp
 simp only [ho,resolve,invoke,builtin,Sem.run_bind,Sem.run_pure,Result.andThen_ok,List.map_toArray,List.map_cons,List.map_nil,hy,hx,hr]
 exact h
def placeE (l:List Of) (x:Of):Int:=if ¬ x.may then 1 else if l.length=32∨x.se=18446744073709551615 then 9 else 0
def placeS (l:List Of) (x:Of):Int:=if placeE l x=0 then x.se else 0
def placeL (l:List Of) (x:Of):List Of:=if placeE l x=0 then l++[x] else l
def placeN (l:List Of) (x:Of):Int:=if placeE l x=0 then x.se + 1 else x.se
end Go.Proofs.YtngnfdnfpiiclaaGreat
namespace Go.Proofs.YtngnfdnfpiiclaaGreat
def agO (l:List Of) (sl bu nu de:Int):List Of:=(bestO l bu sl).takeWhile fun x=>decide (cmpR x.nu x.de de nu≤0)
theorem mayB_turn {n d:Int} (h:mayB n d=true):mayB d n=true:=by
 obtain ⟨h1,h2,h3,h4,h5⟩:=may_bd h
 exact decide_eq_true ⟨h2,h1,h4,h3,by rw [Int.gcd_comm]; exact h5⟩
theorem cmp_le {a b n d:Int} (h1:mayB a b=true) (h2:mayB n d=true):cmpR a b d n≤0↔a * n≤d * b:=by
 rw [cmpR_may h1 (mayB_turn h2)]
 unfold cmpI
 split
 ·constructor <;> intro <;> omega
 ·split
  ·constructor <;> intro <;> omega
  ·constructor <;> intro <;> omega
theorem mem_ag {l:List Of} {N:Int} (h:BInv l N) {sl bu nu de:Int} {o:Of} (ho:o ∈ agO l sl bu nu de):o ∈ l∧o.sl=bu∧o.bu=sl∧cmpR o.nu o.de de nu≤0:=by
 have h1:=mem_takeWhile ho
 obtain ⟨a,b,c⟩:=best_mem h ((List.takeWhile_sublist _).subset ho)
 exact ⟨a,b,c,by simpa using h1⟩
theorem rate_more {k a b nu de:Int} (h1:mayB a b=true) (h2:mayB nu de=true) (hc:cmpR a b de nu≤0) (hk:1≤k):(upN (k * a) b - 1) * nu<k * de:=by
 have q:=(cmp_le h1 h2).1 hc
 have d1:=may_bd h1
 have d2:=may_bd h2
 have hu:(upN (k * a) b - 1) * b<k * a:=by
  have e:=Int.emod_add_mul_ediv (k * a) b
  have e0:=Int.emod_nonneg (k * a) (show b≠0 by omega)
  have e1:=Int.emod_lt_of_pos (k * a) (show 0<b by omega)
  unfold upN
  split
  ·rename_i hz
   rw [hz] at e
   have:(k * a / b - 1) * b=b * (k * a / b) - b:=by rw [Int.sub_mul,Int.mul_comm,Int.one_mul]
   omega
  ·rename_i hz
   have:(k * a / b + 1 - 1) * b=b * (k * a / b):=by rw [Int.add_sub_cancel,Int.mul_comm]
   omega
 have s1:(upN (k * a) b - 1) * b * nu<k * a * nu:=Int.mul_lt_mul_of_pos_right hu (by omega)
 have s2:k * (a * nu)≤k * (de * b):=Int.mul_le_mul_of_nonneg_left q (by omega)
 have s3:((upN (k * a) b - 1) * nu) * b<(k * de) * b:=by
  have e1:((upN (k * a) b - 1) * nu) * b=(upN (k * a) b - 1) * b * nu:=by rw [Int.mul_right_comm]
  have e2:(k * de) * b=k * (de * b):=by rw [Int.mul_assoc]
  have e3:k * a * nu=k * (a * nu):=by rw [Int.mul_assoc]
  rw [e1,e2]; omega
 exact Int.lt_of_mul_lt_mul_right s3 (by omega)
noncomputable def nextP (ps:List Int) (ow:Int) (σ:SwS) (s k:Int):SwS:=match findO σ.l s with
 | none=>σ
 | some o=>⟨filledS ps σ.ls o ow ow k (upN (k * o.nu) o.de),takeL σ.l s k,σ.fs++[⟨s,k,upN (k * o.nu) o.de⟩],σ.n - upN (k * o.nu) o.de⟩
noncomputable def placeG (ps:List Int) (ow sl bu nu de:Int):Nat→SwS→Int × SwS
 | fuel,σ=>if σ.n≤0 then (0,σ) else match firstS ps σ.ls σ.l ow ow 1099511627776 σ.n (agO σ.l sl bu nu de) with
  | none=>(0,σ)
  | some (s,k)=>if σ.fs.length=64 then (13,σ) else match fuel with
   | 0=>(13,σ)
   | f + 1=>placeG ps ow sl bu nu de f (nextP ps ow σ s k)
theorem placeG_done {ps:List Int} {ow sl bu nu de:Int} {fuel:Nat} {σ:SwS} (h:σ.n≤0):placeG ps ow sl bu nu de fuel σ=(0,σ):=by
 cases fuel <;> (unfold placeG; rw [if_pos h])
theorem placeG_none {ps:List Int} {ow sl bu nu de:Int} {fuel:Nat} {σ:SwS} (h:¬ σ.n≤0) (hf:firstS ps σ.ls σ.l ow ow 1099511627776 σ.n (agO σ.l sl bu nu de)=none):placeG ps ow sl bu nu de fuel σ=(0,σ):=by
 cases fuel <;> (unfold placeG; rw [if_neg h,hf])
theorem placeG_full {ps:List Int} {ow sl bu nu de:Int} {fuel:Nat} {σ:SwS} {s k:Int} (h:¬ σ.n≤0) (hf:firstS ps σ.ls σ.l ow ow 1099511627776 σ.n (agO σ.l sl bu nu de)=some (s,k)) (hl:σ.fs.length=64):placeG ps ow sl bu nu de fuel σ=(13,σ):=by
 cases fuel <;> (unfold placeG; rw [if_neg h,hf]; simp only []; rw [if_pos hl])
theorem placeG_zero {ps:List Int} {ow sl bu nu de:Int} {σ:SwS} {s k:Int} (h:¬ σ.n≤0) (hf:firstS ps σ.ls σ.l ow ow 1099511627776 σ.n (agO σ.l sl bu nu de)=some (s,k)):placeG ps ow sl bu nu de 0 σ=(13,σ):=by
 by_cases hl:σ.fs.length=64
 ·exact placeG_full h hf hl
 ·unfold placeG
  rw [if_neg h,hf]
  simp only []
  rw [if_neg hl]
theorem placeG_next {ps:List Int} {ow sl bu nu de:Int} {fuel:Nat} {σ:SwS} {s k:Int} (h:¬ σ.n≤0) (hf:firstS ps σ.ls σ.l ow ow 1099511627776 σ.n (agO σ.l sl bu nu de)=some (s,k)) (hl:¬ σ.fs.length=64):placeG ps ow sl bu nu de (fuel + 1) σ=placeG ps ow sl bu nu de fuel (nextP ps ow σ s k):=by
 conv=>lhs; unfold placeG
 rw [if_neg h,hf]
 simp only []
 rw [if_neg hl]
noncomputable def placeEnd (N ow sl bu nu de:Int) (r:Int × SwS):Int × SwS × Int × Int :=
 if r.1≠0 then (r.1,r.2,N,0) else if r.2.n≤0 then (0,r.2,N,0) else
  (placeE r.2.l ⟨N,ow,sl,bu,r.2.n,nu,de⟩,⟨r.2.ls,placeL r.2.l ⟨N,ow,sl,bu,r.2.n,nu,de⟩,r.2.fs,r.2.n⟩,placeN r.2.l ⟨N,ow,sl,bu,r.2.n,nu,de⟩,placeS r.2.l ⟨N,ow,sl,bu,r.2.n,nu,de⟩)
noncomputable def placeF (ps:List Int) (ls:List Ln) (l:List Of) (N ow sl bu lf nu de:Int):Int × SwS × Int × Int :=
 if ¬ (Of.mk 0 ow sl bu lf nu de).may then (1,⟨ls,l,[],lf⟩,N,0) else if ow ∉ ps then (7,⟨ls,l,[],lf⟩,N,0) else
  placeEnd N ow sl bu nu de (placeG ps ow sl bu nu de 64 ⟨ls,l,[],lf⟩)
structure PlInv (ps:List Int) (ls0:List Ln) (l0:List Of) (N ow sl bu nu de n0:Int) (σ:SwS):Prop where
 linv:LInv ps σ.ls
 binv:BInv σ.l N
 lim:limL σ.ls=limL ls0
 like:∀ s o,findO σ.l s=some o→∃ y,findO l0 s=some y∧likeO y o
 fs:∀ f ∈ σ.fs,∃ o,findO l0 f.se=some o∧o.sl=bu∧o.bu=sl∧o.ow≠ow∧o.ow ∈ ps∧cmpR o.nu o.de de nu≤0∧(1≤f.got∧f.got≤1099511627776)∧(1≤f.gi∧f.gi≤1099511627776)∧f.gi=upN (f.got * o.nu) o.de∧mayB o.nu o.de=true
 sum:(σ.fs.map Fl.gi).sum + σ.n=n0
 nn:0≤σ.n
 len:σ.fs.length≤64
 pos:∀ p c,posL σ.ls p c=posL ls0 p c + (σ.fs.map fun f=>flBy l0 ow ow f p c).sum
theorem PlInv.start {ps:List Int} {ls0:List Ln} {l0:List Of} {N ow sl bu nu de n0:Int} (hI:LInv ps ls0) (hJ:BInv l0 N) (hn:0≤n0):PlInv ps ls0 l0 N ow sl bu nu de n0 ⟨ls0,l0,[],n0⟩ :=
 ⟨hI,hJ,rfl,fun s o h=>⟨o,h,rfl,rfl,rfl,rfl,rfl⟩,fun f hf=>(by cases hf),(by simp),hn,(by simp),fun p c=>(by simp)⟩
theorem PlInv.step {ps:List Int} {ls0:List Ln} {l0:List Of} {N ow sl bu nu de n0:Int} {σ:SwS} (h:PlInv ps ls0 l0 N ow sl bu nu de n0 σ) {s k:Int} (hf:firstS ps σ.ls σ.l ow ow 1099511627776 σ.n (agO σ.l sl bu nu de)=some (s,k)) :
  1≤k∧k≤1099511627776∧okS ps σ.ls σ.l ow ow k s∧∃ o,findO σ.l s=some o∧o ∈ agO σ.l sl bu nu de∧k≤o.lf∧1≤upN (k * o.nu) o.de∧upN (k * o.nu) o.de≤σ.n ∧
   nextP ps ow σ s k=⟨filledS ps σ.ls o ow ow k (upN (k * o.nu) o.de),takeL σ.l s k,σ.fs++[⟨s,k,upN (k * o.nu) o.de⟩],σ.n - upN (k * o.nu) o.de⟩ ∧
   (¬ σ.fs.length=64→PlInv ps ls0 l0 N ow sl bu nu de n0 (nextP ps ow σ s k)):=by
 obtain ⟨h1,h2,o,h3,rfl⟩:=firstS_some hf
 obtain ⟨hm,hsl,hbu,hcm⟩:=mem_ag h.binv h3
 have hfo:=find_of h.binv hm
 obtain ⟨ok,hle⟩:=may_okS h.linv h2 (by omega)
 have hG:=goesS h.linv o ow ow
 have hG':∀ o',findO σ.l o.se=some o'→Goes ps σ.ls o' ow ow (mostS ps σ.ls o.sl o.ow ow) (mostS ps σ.ls o.bu ow o.ow):=fun o' ho'=>by rw [hfo] at ho'; cases ho'; exact hG
 have hd:=(okS_iff h.linv hG').2 ok
 obtain ⟨o',ho',⟨k1,k2,k3,k4⟩,k5,_,_⟩:=hd.facts
 rw [hfo] at ho'
 cases ho'
 obtain ⟨f1,f2,f3,f4,f5⟩:=filled_facts h.linv h.binv hfo hG hd rfl (filledS_is h.linv o ow ow k (upN (k * o.nu) o.de))
 obtain ⟨_,_,_,_,⟨l1,l2⟩,hmr⟩:=h.binv.may o hm
 obtain ⟨y,hy,y1,y2,y3,y4,y5⟩:=h.like o.se o hfo
 -- what is given is no more than what is left
 have hb1:=mostS_bd h.linv o.sl o.ow ow
 have hb2:=mostS_bd h.linv o.bu ow o.ow
 have hmd:=may_do hb1.1 hb2.1 (by rw [mayS_eq h.linv hG']; exact h2.symm) (show 1≤k by omega)
 obtain ⟨_,_,hn1,o2,ho2,hfit⟩:=hmd
 rw [hfo] at ho2
 cases ho2
 have hup:=(up_fits hmr (g:=min (min σ.n 1099511627776) (mostS ps σ.ls o.bu ow o.ow)) (by omega) (by omega) (show 0≤k by omega) hfit).2.2
 have e:nextP ps ow σ o.se k=⟨filledS ps σ.ls o ow ow k (upN (k * o.nu) o.de),takeL σ.l o.se k,σ.fs++[⟨o.se,k,upN (k * o.nu) o.de⟩],σ.n - upN (k * o.nu) o.de⟩:=by
  unfold nextP
  rw [hfo]
 refine ⟨by omega,hle,ok,o,hfo,h3,k5,f3,by omega,e,fun hl=>?_⟩
 rw [e]
 refine ⟨filledS_inv h.linv _ _ _ _ _,h.binv.take _ _,f1.symm.trans h.lim,fun t x hx=>?_,fun f hf=>?_,?_,?_,?_,fun p c=>?_⟩
 ·obtain ⟨z,hz,z1,z2,z3,z4,z5⟩:=take_like h.binv hfo (by omega) k5 hx
  obtain ⟨v,hv,v1,v2,v3,v4,v5⟩:=h.like t z hz
  exact ⟨v,hv,v1.trans z1,v2.trans z2,v3.trans z3,v4.trans z4,v5.trans z5⟩
 ·rcases List.mem_append.1 hf with hf | hf
  ·exact h.fs f hf
  ·rw [List.mem_singleton] at hf
   subst hf
   exact ⟨y,hy,by rw [y2,hsl],by rw [y3,hbu],by rw [y1]; exact k1,by rw [y1]; exact k2,by rw [y4,y5]; exact hcm,⟨by show 1≤k; omega,by show k≤1099511627776; omega⟩,⟨f3,f4⟩,by rw [y4,y5],by rw [y4,y5]; exact hmr⟩
 ·have:=h.sum
  simp only [List.map_append,List.map_cons,List.map_nil,List.sum_append,List.sum_cons,List.sum_nil]
  omega
 ·show 0≤σ.n - upN (k * o.nu) o.de
  omega
 ·have:=h.len
  rw [List.length_append,List.length_singleton]
  omega
 ·show posL (filledS ps σ.ls o ow ow k (upN (k * o.nu) o.de)) p c=_
  rw [f2 p c,h.pos p c]
  simp only [List.map_append,List.map_cons,List.map_nil,List.sum_append,List.sum_cons,List.sum_nil]
  have e2:flBy l0 ow ow ⟨o.se,k,upN (k * o.nu) o.de⟩ p c=fillBy o ow ow k (upN (k * o.nu) o.de) p c:=by
   unfold flBy
   simp only [hy]
   unfold fillBy
   rw [y1,y2,y3]
  rw [e2]
  omega
theorem placeG_ind {ps:List Int} {ow sl bu nu de:Int} (C:SwS→Prop) (hs:∀ σ s k,C σ→¬ σ.n≤0→firstS ps σ.ls σ.l ow ow 1099511627776 σ.n (agO σ.l sl bu nu de)=some (s,k)→¬ σ.fs.length=64→C (nextP ps ow σ s k)):∀ (fuel:Nat) {σ:SwS},C σ→C (placeG ps ow sl bu nu de fuel σ).2
 | fuel,σ,h=>by
  by_cases hn:σ.n≤0
  ·rw [placeG_done hn]; exact h
  ·cases hf:firstS ps σ.ls σ.l ow ow 1099511627776 σ.n (agO σ.l sl bu nu de) with
   | none=>rw [placeG_none hn hf]; exact h
   | some sk =>
    obtain ⟨s,k⟩:=sk
    by_cases hl:σ.fs.length=64
    ·rw [placeG_full hn hf hl]; exact h
    ·cases fuel with
     | zero=>rw [placeG_zero hn hf]; exact h
     | succ fuel=>rw [placeG_next hn hf hl]; exact placeG_ind C hs fuel (hs σ s k h hn hf hl)
theorem PlInv.ends {ps:List Int} {ls0:List Ln} {l0:List Of} {N ow sl bu nu de n0:Int} (fuel:Nat) {σ:SwS} (h:PlInv ps ls0 l0 N ow sl bu nu de n0 σ):PlInv ps ls0 l0 N ow sl bu nu de n0 (placeG ps ow sl bu nu de fuel σ).2:=by
 refine placeG_ind (fun σ=>PlInv ps ls0 l0 N ow sl bu nu de n0 σ) (fun σ s k hc hn hf hl=>?_) fuel h
 obtain ⟨_,_,_,_,_,_,_,_,_,_,q⟩:=hc.step hf
 exact q hl
theorem placeG_ok {ps:List Int} {ow sl bu nu de:Int}:∀ (fuel:Nat) {σ σ':SwS},placeG ps ow sl bu nu de fuel σ=(0,σ')→σ'.n≤0∨firstS ps σ'.ls σ'.l ow ow 1099511627776 σ'.n (agO σ'.l sl bu nu de)=none
 | fuel,σ,σ',h=>by
  by_cases hn:σ.n≤0
  ·rw [placeG_done hn] at h
   obtain rfl:=(Prod.mk.inj h).2
   exact .inl hn
  ·cases hf:firstS ps σ.ls σ.l ow ow 1099511627776 σ.n (agO σ.l sl bu nu de) with
   | none =>
    rw [placeG_none hn hf] at h
    obtain rfl:=(Prod.mk.inj h).2
    exact .inr hf
   | some sk =>
    obtain ⟨s,k⟩:=sk
    by_cases hl:σ.fs.length=64
    ·rw [placeG_full hn hf hl] at h; exact absurd (Prod.mk.inj h).1 (by decide)
    ·cases fuel with
     | zero=>rw [placeG_zero hn hf] at h; exact absurd (Prod.mk.inj h).1 (by decide)
     | succ fuel=>rw [placeG_next hn hf hl] at h; exact placeG_ok fuel h
theorem PlInv.gi_nn {ps:List Int} {ls0:List Ln} {l0:List Of} {N ow sl bu nu de n0:Int} {σ:SwS} (h:PlInv ps ls0 l0 N ow sl bu nu de n0 σ):0≤(σ.fs.map Fl.gi).sum:=by
 have key:∀ l:List Fl,(∀ f ∈ l,1≤f.gi)→0≤(l.map Fl.gi).sum:=by
  intro l
  induction l with
  | nil=>intro _; simp
  | cons x l ih =>
   intro hx
   have a:=hx x List.mem_cons_self
   have b:=ih (fun y hy=>hx y (List.mem_cons_of_mem _ hy))
   rw [List.map_cons,List.sum_cons]
   omega
 exact key _ (fun f hf=>by obtain ⟨o,_,_,_,_,_,_,_,a,_⟩:=h.fs f hf; exact a.1)
end Go.Proofs.YtngnfdnfpiiclaaGreat
namespace Go.Proofs.YtngnfdnfpiiclaaGreat
structure PlDone (ps:List Int) (ls:List Ln) (l:List Of) (N ow sl bu lf nu de:Int) (σ:SwS) (N' sq:Int) (τ:SwS):Prop where
 may:(Of.mk 0 ow sl bu lf nu de).may
 part:ow ∈ ps
 inv:PlInv ps ls l N ow sl bu nu de lf τ
 is:placeG ps ow sl bu nu de 64 ⟨ls,l,[],lf⟩=(0,τ)
 ends:(τ.n=0∧σ=τ∧N'=N∧sq=0)∨(1≤τ.n∧firstS ps τ.ls τ.l ow ow 1099511627776 τ.n (agO τ.l sl bu nu de)=none∧placeE τ.l ⟨N,ow,sl,bu,τ.n,nu,de⟩=0∧σ=⟨τ.ls,τ.l++[⟨N,ow,sl,bu,τ.n,nu,de⟩],τ.fs,τ.n⟩∧N'=N + 1∧sq=N)
theorem placeF_done {ps:List Int} {ls:List Ln} {l:List Of} {N ow sl bu lf nu de:Int} {σ:SwS} {N' sq:Int} (hI:LInv ps ls) (hJ:BInv l N) (h:placeF ps ls l N ow sl bu lf nu de=(0,σ,N',sq)):∃ τ,PlDone ps ls l N ow sl bu lf nu de σ N' sq τ:=by
 unfold placeF at h
 by_cases hm:(Of.mk 0 ow sl bu lf nu de).may
 ·rw [if_neg (fun q=>q hm)] at h
  by_cases hp:ow ∉ ps
  ·rw [if_pos hp] at h
   exact absurd (congrArg Prod.fst h) (by show ¬ (7:Int)=0; decide)
  ·rw [if_neg hp] at h
   obtain ⟨r,hr⟩:∃ r,placeG ps ow sl bu nu de 64 ⟨ls,l,[],lf⟩=r:=⟨_,rfl⟩
   obtain ⟨e,τ⟩:=r
   have hinv:=PlInv.ends (ow:=ow) (sl:=sl) (bu:=bu) (nu:=nu) (de:=de) 64 (PlInv.start hI hJ (ow:=ow) (sl:=sl) (bu:=bu) (nu:=nu) (de:=de) (n0:=lf) (by have:=hm.2.2.2.2.1.1; show 0≤lf; exact Int.le_trans (by decide) this))
   rw [hr] at h hinv
   unfold placeEnd at h
   by_cases he:e=0
   ·subst he
    rw [if_neg (by simp)] at h
    refine ⟨τ,hm,Decidable.not_not.1 hp,hinv,hr,?_⟩
    have hnn:=hinv.nn
    by_cases hz:τ.n≤0
    ·rw [if_pos hz] at h
     obtain ⟨_,h2⟩:=Prod.mk.inj h
     obtain ⟨h3,h4⟩:=Prod.mk.inj h2
     obtain ⟨h5,h6⟩:=Prod.mk.inj h4
     exact .inl ⟨by show τ.n=0; have q:0≤τ.n:=hnn; omega,h3.symm,h5.symm,h6.symm⟩
    ·rw [if_neg hz] at h
     obtain ⟨h1,h2⟩:=Prod.mk.inj h
     obtain ⟨h3,h4⟩:=Prod.mk.inj h2
     obtain ⟨h5,h6⟩:=Prod.mk.inj h4
     have h1':placeE τ.l ⟨N,ow,sl,bu,τ.n,nu,de⟩=0:=h1
     rcases placeG_ok 64 hr with q | q
     ·exact absurd q hz
     ·refine .inr ⟨by omega,q,h1',?_,?_,?_⟩
      ·rw [← h3]
       show _=_
       simp only [placeL,h1',if_true]
      ·rw [← h5]
       show placeN τ.l _=_
       unfold placeN
       rw [if_pos h1']
      ·rw [← h6]
       show placeS τ.l _=_
       unfold placeS
       rw [if_pos h1']
   ·rw [if_pos (by simpa using he)] at h
    exact absurd (congrArg Prod.fst h) (by simpa using he)
 ·rw [if_pos hm] at h
  exact absurd (congrArg Prod.fst h) (by show ¬ (1:Int)=0; decide)
theorem PlDone.rate {ps:List Int} {ls:List Ln} {l:List Of} {N ow sl bu lf nu de:Int} {σ:SwS} {N' sq:Int} {τ:SwS} (h:PlDone ps ls l N ow sl bu lf nu de σ N' sq τ) {f:Fl} (hf:f ∈ τ.fs):(f.gi - 1) * nu<f.got * de:=by
 obtain ⟨o,_,_,_,_,_,hc,⟨g1,_⟩,_,e,hm⟩:=h.inv.fs f hf
 rw [e]
 exact rate_more hm h.may.2.2.2.2.2 hc g1
end Go.Proofs.YtngnfdnfpiiclaaGreat
