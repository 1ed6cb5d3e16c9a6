/-
  Pieces of one proof, without what is not wanted: SwapInv, SwapFacts, PFills, PFills2.
-/
import Derived.Test.YtojbmnbphdcjfaaGreatE02
import Derived.Test.YtojbmnbphdcjfaaGreatE14
import Derived.Test.YtojbmnbphdcjfaaGreatE17
import Derived.Test.YtojbmnbphdcjfaaGreatE19
import Derived.Test.YtojbmnbphdcjfaaGreatE20
import Derived.Laws.EntriesVeiled
import Derived.Shelf.Abstract
set_option linter.unusedSimpArgs false
set_option linter.unusedVariables false
namespace Go.Proofs.YtojbmnbphdcjfaaGreat
theorem best_mem {l:List Of} {N:Int} (h:BInv l N) {s b:Int} {o:Of} (ho:o ∈ bestO l s b):o ∈ l∧o.sl=s∧o.bu=b:=by
 have h1:=((bestO_is h.may h.rise s b).1.mem_iff).1 ho
 rw [List.mem_filter] at h1
 obtain ⟨h2,h3⟩:=h1
 simp [ofPair] at h3
 exact ⟨h2,h3.1,h3.2⟩
theorem find_of {l:List Of} {N:Int} (h:BInv l N) {o:Of} (ho:o ∈ l):findO l o.se=some o:=by
 cases hf:findO l o.se with
 | none =>
  unfold findO at hf
  rw [List.find?_eq_none] at hf
  exact absurd (by simp) (hf o ho)
 | some o' =>
  obtain ⟨h1,h2⟩:=findO_mem hf
  have key:∀ {m:List Of},m.Pairwise (fun x y=>x.se<y.se)→o ∈ m→o' ∈ m→o=o':=by
   intro m hm
   induction m with
   | nil=>intro a; cases a
   | cons z m ih =>
    intro a b
    have hz:=(List.pairwise_cons.1 hm).1
    rcases List.mem_cons.1 a with ea | a
    ·rcases List.mem_cons.1 b with eb | b
     ·rw [ea,eb]
     ·have:=hz _ b; rw [← ea] at this; omega
    ·rcases List.mem_cons.1 b with eb | b
     ·have:=hz _ a; rw [← eb] at this; omega
     ·exact ih (List.pairwise_cons.1 hm).2 a b
  rw [key h.rise ho h1]
def likeO (a b:Of):Prop:=a.ow=b.ow∧a.sl=b.sl∧a.bu=b.bu∧a.nu=b.nu∧a.de=b.de
theorem take_like {l:List Of} {N:Int} (h:BInv l N) {s n:Int} {o:Of} (hf:findO l s=some o) (h1:1≤n) (h2:n≤o.lf) {t:Int} {x:Of} (hx:findO (takeL l s n) t=some x):∃ y,findO l t=some y∧likeO y x:=by
 obtain ⟨hm,hs⟩:=findO_mem hx
 rw [take_facts h hf h1 h2] at hm
 obtain ⟨_,y,hy,hor⟩:=setO_mem hm
 rcases hor with rfl | ⟨_,rfl⟩
 ·exact ⟨x,by rw [← hs]; exact find_of h hy,rfl,rfl,rfl,rfl,rfl⟩
 ·exact ⟨y,by rw [← hs]; exact find_of h hy,rfl,rfl,rfl,rfl,rfl⟩
def flBy (l0:List Of) (tk pt:Int) (f:Fl) (p c:Int):Int:=match findO l0 f.se with
 | none=>0
 | some o=>fillBy o tk pt f.got f.gi p c
structure SwInv (ps:List Int) (ls0:List Ln) (l0:List Of) (N tk pt get give n0:Int) (σ:SwS):Prop where
 linv:LInv ps σ.ls
 binv:BInv σ.l N
 lim:limL σ.ls=limL ls0
 like:∀ s o,findO σ.l s=some o→∃ y,findO l0 s=some y∧likeO y o
 fs:∀ f ∈ σ.fs,∃ o,findO l0 f.se=some o∧o.sl=get∧o.bu=give∧o.ow≠tk∧o.ow ∈ ps∧(1≤f.got∧f.got≤1099511627776)∧1≤f.gi∧f.gi≤1099511627776
 sum:(σ.fs.map Fl.got).sum + σ.n=n0
 pos:∀ p c,posL σ.ls p c=posL ls0 p c + (σ.fs.map fun f=>flBy l0 tk pt f p c).sum
theorem SwInv.start {ps:List Int} {ls0:List Ln} {l0:List Of} {N tk pt get give n0:Int} (hI:LInv ps ls0) (hJ:BInv l0 N):SwInv ps ls0 l0 N tk pt get give n0 ⟨ls0,l0,[],n0⟩ :=
 ⟨hI,hJ,rfl,fun s o h=>⟨o,h,rfl,rfl,rfl,rfl,rfl⟩,fun f hf=>(by cases hf),(by simp),fun p c=>(by simp)⟩
theorem SwInv.step {ps:List Int} {ls0:List Ln} {l0:List Of} {N tk pt get give n0:Int} {σ:SwS} (h:SwInv ps ls0 l0 N tk pt get give n0 σ) {s k:Int} (hf:firstS ps σ.ls σ.l tk pt σ.n 1099511627776 (bestO σ.l get give)=some (s,k)) :
  1≤k∧k≤σ.n∧okS ps σ.ls σ.l tk pt k s∧(∃ o,findO σ.l s=some o∧o ∈ bestO σ.l get give∧k≤o.lf)∧SwInv ps ls0 l0 N tk pt get give n0 (nextS ps tk pt σ s k):=by
 obtain ⟨h1,h2,o,h3,rfl⟩:=firstS_some hf
 obtain ⟨hm,hsl,hbu⟩:=best_mem h.binv h3
 have hfo:=find_of h.binv hm
 obtain ⟨ok,hle⟩:=may_okS h.linv h2 (by omega)
 have hG:=goesS h.linv o tk pt
 have hG':∀ o',findO σ.l o.se=some o'→Goes ps σ.ls o' tk pt (mostS ps σ.ls o.sl o.ow pt) (mostS ps σ.ls o.bu tk o.ow):=fun o' ho'=>by rw [hfo] at ho'; cases ho'; exact hG
 have hd:=(okS_iff h.linv hG').2 ok
 obtain ⟨o',ho',⟨k1,k2,k3,k4⟩,k5,_,_⟩:=hd.facts
 rw [hfo] at ho'
 cases ho'
 obtain ⟨f1,f2,f3,f4,f5⟩:=filled_facts h.linv h.binv hfo hG hd rfl (filledS_is h.linv o tk pt k (upN (k * o.nu) o.de))
 obtain ⟨_,_,_,_,⟨l1,l2⟩,_⟩:=h.binv.may o hm
 obtain ⟨y,hy,y1,y2,y3,y4,y5⟩:=h.like o.se o hfo
 refine ⟨by omega,hle,ok,⟨o,hfo,h3,k5⟩,?_⟩
 have e:nextS ps tk pt σ o.se k=⟨filledS ps σ.ls o tk pt k (upN (k * o.nu) o.de),takeL σ.l o.se k,σ.fs++[⟨o.se,k,upN (k * o.nu) o.de⟩],σ.n - k⟩:=by
  unfold nextS
  rw [hfo]
 rw [e]
 refine ⟨filledS_inv h.linv _ _ _ _ _,h.binv.take _ _,f1.symm.trans h.lim,fun t x hx=>?_,fun f hf=>?_,?_,fun p c=>?_⟩
 ·obtain ⟨z,hz,z1,z2,z3,z4,z5⟩:=take_like h.binv hfo (by omega) k5 hx
  obtain ⟨v,hv,v1,v2,v3,v4,v5⟩:=h.like t z hz
  exact ⟨v,hv,v1.trans z1,v2.trans z2,v3.trans z3,v4.trans z4,v5.trans z5⟩
 ·rcases List.mem_append.1 hf with hf | hf
  ·exact h.fs f hf
  ·rw [List.mem_singleton] at hf
   subst hf
   exact ⟨y,hy,by rw [y2,hsl],by rw [y3,hbu],by rw [y1]; exact k1,by rw [y1]; exact k2,⟨by show 1≤k; omega,by show k≤1099511627776; omega⟩,f3,f4⟩
 ·have:=h.sum
  simp only [List.map_append,List.map_cons,List.map_nil,List.sum_append,List.sum_cons,List.sum_nil]
  omega
 ·show posL (filledS ps σ.ls o tk pt k (upN (k * o.nu) o.de)) p c=_
  rw [f2 p c,h.pos p c]
  simp only [List.map_append,List.map_cons,List.map_nil,List.sum_append,List.sum_cons,List.sum_nil]
  have e2:flBy l0 tk pt ⟨o.se,k,upN (k * o.nu) o.de⟩ p c=fillBy o tk pt k (upN (k * o.nu) o.de) p c:=by
   unfold flBy
   simp only [hy]
   unfold fillBy
   rw [y1,y2,y3]
  rw [e2]
  omega
theorem SwInv.ends {ps:List Int} {ls0:List Ln} {l0:List Of} {N tk pt get give n0:Int}:∀ (fuel:Nat) {σ:SwS},SwInv ps ls0 l0 N tk pt get give n0 σ→SwInv ps ls0 l0 N tk pt get give n0 (swapN ps tk pt get give fuel σ).2
 | fuel,σ,h=>by
  by_cases hn:σ.n≤0
  ·rw [swapN_done hn]; exact h
  ·cases hf:firstS ps σ.ls σ.l tk pt σ.n 1099511627776 (bestO σ.l get give) with
   | none=>rw [swapN_none hn hf]; exact h
   | some sk =>
    obtain ⟨s,k⟩:=sk
    by_cases hl:σ.fs.length=64
    ·rw [swapN_full hn hf hl]; exact h
    ·cases fuel with
     | zero =>
      have e:swapN ps tk pt get give 0 σ=(13,σ):=by
       unfold swapN
       rw [if_neg hn,hf]
       simp only []
       rw [if_neg hl]
      rw [e]; exact h
     | succ fuel=>rw [swapN_next hn hf hl]; exact SwInv.ends fuel (h.step hf).2.2.2.2
theorem flBy_none {l0:List Of} {tk pt:Int} {f:Fl} {p c:Int} {o:Of} (hf:findO l0 f.se=some o) (h1:p≠tk) (h2:p≠pt) (h3:p≠o.ow):flBy l0 tk pt f p c=0:=by
 unfold flBy
 simp only [hf]
 unfold fillBy
 rw [if_neg (fun e=>h3 e.2),if_neg (fun e=>h2 e.2),if_neg (fun e=>h1 e.2),if_neg (fun e=>h3 e.2)]
 rfl
theorem flBy_taker {l0:List Of} {tk pt:Int} {f:Fl} {get give:Int} {o:Of} (hf:findO l0 f.se=some o) (h1:o.sl=get) (h2:o.bu=give) (h3:o.ow≠tk) (hg:get≠give):flBy l0 tk pt f tk give = -f.gi:=by
 unfold flBy
 simp only [hf]
 unfold fillBy
 rw [if_neg (fun e=>hg (h1.symm.trans e.1.symm)),if_neg (fun e=>hg (h1.symm.trans e.1.symm)),if_pos ⟨h2.symm,rfl⟩,if_neg (fun e=>h3 e.2.symm)]
 omega
theorem sum_zero {α:Type} {g:α→Int}:∀ (l:List α),(∀ x ∈ l,g x=0)→(l.map g).sum=0
 | [],_=>rfl
 | x::l,h=>by
  rw [List.map_cons,List.sum_cons,h x List.mem_cons_self,sum_zero l (fun y hy=>h y (List.mem_cons_of_mem _ hy))]
  rfl
theorem sum_neg {α:Type} {g k:α→Int}:∀ (l:List α),(∀ x ∈ l,g x = -k x)→(l.map g).sum = -(l.map k).sum
 | [],_=>rfl
 | x::l,h=>by
  rw [List.map_cons,List.sum_cons,List.map_cons,List.sum_cons,h x List.mem_cons_self,sum_neg l (fun y hy=>h y (List.mem_cons_of_mem _ hy))]
  omega
theorem SwInv.aside {ps:List Int} {ls0:List Ln} {l0:List Of} {N tk pt get give n0:Int} {σ:SwS} (h:SwInv ps ls0 l0 N tk pt get give n0 σ) {p:Int} (h1:p≠tk) (h2:p≠pt) (h3:∀ f ∈ σ.fs,∀ o,findO l0 f.se=some o→p≠o.ow) (c:Int):posL σ.ls p c=posL ls0 p c:=by
 rw [h.pos p c,sum_zero σ.fs (fun f hf=>by
  obtain ⟨o,ho,_⟩:=h.fs f hf
  exact flBy_none ho h1 h2 (h3 f hf o ho))]
 omega
theorem SwInv.giver {ps:List Int} {ls0:List Ln} {l0:List Of} {N tk pt get give n0:Int} {σ:SwS} (h:SwInv ps ls0 l0 N tk pt get give n0 σ) (hg:get≠give):posL σ.ls tk give=posL ls0 tk give + -(σ.fs.map Fl.gi).sum:=by
 rw [h.pos tk give,sum_neg (k:=Fl.gi) σ.fs (fun f hf=>by
  obtain ⟨o,ho,a,b,c,_⟩:=h.fs f hf
  exact flBy_taker ho a b c hg)]
theorem SwInv.got_nn {ps:List Int} {ls0:List Ln} {l0:List Of} {N tk pt get give n0:Int} {σ:SwS} (h:SwInv ps ls0 l0 N tk pt get give n0 σ):0≤(σ.fs.map Fl.got).sum:=by
 have key:∀ l:List Fl,(∀ f ∈ l,1≤f.got)→0≤(l.map Fl.got).sum:=by
  intro l
  induction l with
  | nil=>intro _; simp
  | cons x l ih =>
   intro hx
   have a:=hx x List.mem_cons_self
   have b:=ih (fun y hy=>hx y (List.mem_cons_of_mem _ hy))
   rw [List.map_cons,List.sum_cons]
   omega
 exact key _ (fun f hf=>by obtain ⟨o,_,_,_,_,_,a,_⟩:=h.fs f hf; exact a.1)
theorem SwInv.given_bd {ps:List Int} {ls0:List Ln} {l0:List Of} {N tk pt get give n0:Int} {σ:SwS} (h:SwInv ps ls0 l0 N tk pt get give n0 σ):0≤(σ.fs.map Fl.gi).sum∧(σ.fs.map Fl.gi).sum≤1099511627776 * (σ.fs.length:Int):=by
 have key:∀ l:List Fl,(∀ f ∈ l,1≤f.gi∧f.gi≤1099511627776)→0≤(l.map Fl.gi).sum∧(l.map Fl.gi).sum≤1099511627776 * (l.length:Int):=by
  intro l
  induction l with
  | nil=>intro _; simp
  | cons x l ih =>
   intro hx
   have a:=hx x List.mem_cons_self
   have b:=ih (fun y hy=>hx y (List.mem_cons_of_mem _ hy))
   rw [List.map_cons,List.sum_cons,List.length_cons]
   constructor <;> omega
 exact key _ (fun f hf=>by obtain ⟨o,_,_,_,_,_,_,a,b⟩:=h.fs f hf; exact ⟨a,b⟩)
end Go.Proofs.YtojbmnbphdcjfaaGreat
namespace Go.Proofs.YtojbmnbphdcjfaaGreat
theorem swapN_ind {ps:List Int} {tk pt get give:Int} (C:SwS→Prop) (hs:∀ σ s k,C σ→¬ σ.n≤0→firstS ps σ.ls σ.l tk pt σ.n 1099511627776 (bestO σ.l get give)=some (s,k)→¬ σ.fs.length=64→C (nextS ps tk pt σ s k)):∀ (fuel:Nat) {σ:SwS},C σ→C (swapN ps tk pt get give fuel σ).2
 | fuel,σ,h=>by
  by_cases hn:σ.n≤0
  ·rw [swapN_done hn]; exact h
  ·cases hf:firstS ps σ.ls σ.l tk pt σ.n 1099511627776 (bestO σ.l get give) with
   | none=>rw [swapN_none hn hf]; exact h
   | some sk =>
    obtain ⟨s,k⟩:=sk
    by_cases hl:σ.fs.length=64
    ·rw [swapN_full hn hf hl]; exact h
    ·cases fuel with
     | zero =>
      have e:swapN ps tk pt get give 0 σ=(13,σ):=by
       unfold swapN
       rw [if_neg hn,hf]
       simp only []
       rw [if_neg hl]
      rw [e]; exact h
     | succ fuel=>rw [swapN_next hn hf hl]; exact swapN_ind C hs fuel (hs σ s k h hn hf hl)
theorem swapN_ok {ps:List Int} {tk pt get give:Int}:∀ (fuel:Nat) {σ:SwS},(swapN ps tk pt get give fuel σ).1=0→(swapN ps tk pt get give fuel σ).2.n≤0
 | fuel,σ,h=>by
  by_cases hn:σ.n≤0
  ·rw [swapN_done hn]; exact hn
  ·cases hf:firstS ps σ.ls σ.l tk pt σ.n 1099511627776 (bestO σ.l get give) with
   | none=>rw [swapN_none hn hf] at h; exact absurd h (by show ¬ (11:Int)=0; decide)
   | some sk =>
    obtain ⟨s,k⟩:=sk
    by_cases hl:σ.fs.length=64
    ·rw [swapN_full hn hf hl] at h; exact absurd h (by show ¬ (13:Int)=0; decide)
    ·cases fuel with
     | zero =>
      have e:swapN ps tk pt get give 0 σ=(13,σ):=by
       unfold swapN
       rw [if_neg hn,hf]
       simp only []
       rw [if_neg hl]
      rw [e] at h; exact absurd h (by show ¬ (13:Int)=0; decide)
     | succ fuel =>
      rw [swapN_next hn hf hl] at h ⊢
      exact swapN_ok fuel h
structure SwDone (ps:List Int) (ls:List Ln) (l:List Of) (N fr pt get give n most:Int) (σ:SwS):Prop where
 inv:SwInv ps ls l N fr pt get give n σ
 got:(σ.fs.map Fl.got).sum=n
 given:(σ.fs.map Fl.gi).sum≤most
 len:σ.fs.length≤64
 may:swMay fr pt get give n most
 parts:fr ∈ ps∧pt ∈ ps
 is:swapN ps fr pt get give 64 ⟨ls,l,[],n⟩=(0,σ)
theorem swapF_done {ps:List Int} {ls:List Ln} {l:List Of} {N fr pt get give n most:Int} {σ:SwS} (hI:LInv ps ls) (hJ:BInv l N) (h:swapF ps ls l fr pt get give n most=(0,σ)):SwDone ps ls l N fr pt get give n most σ:=by
 unfold swapF at h
 by_cases hm:swMay fr pt get give n most
 ·rw [if_neg (fun q=>q hm)] at h
  by_cases hp:fr ∉ ps∨pt ∉ ps
  ·rw [if_pos hp] at h
   exact absurd (congrArg Prod.fst h) (by show ¬ (7:Int)=0; decide)
  ·rw [if_neg hp] at h
   by_cases he:(swapN ps fr pt get give 64 ⟨ls,l,[],n⟩).1≠0
   ·rw [if_pos he] at h
    exact absurd (congrArg Prod.fst h) he
   ·rw [if_neg he] at h
    have he:=Decidable.not_not.1 he
    by_cases hg:most<((swapN ps fr pt get give 64 ⟨ls,l,[],n⟩).2.fs.map Fl.gi).sum
    ·rw [if_pos hg] at h
     exact absurd (congrArg Prod.fst h) (by show ¬ (12:Int)=0; decide)
    ·rw [if_neg hg] at h
     have hn1:=swapN_ok 64 he
     have hinv:=SwInv.ends (tk:=fr) (pt:=pt) (get:=get) (give:=give) 64 (SwInv.start hI hJ (tk:=fr) (pt:=pt) (get:=get) (give:=give) (n0:=n))
     have hn2:0≤(swapN ps fr pt get give 64 ⟨ls,l,[],n⟩).2.n∧(swapN ps fr pt get give 64 ⟨ls,l,[],n⟩).2.fs.length≤64:=by
      have:=swapN_ind (ps:=ps) (tk:=fr) (pt:=pt) (get:=get) (give:=give) (fun σ=>SwInv ps ls l N fr pt get give n σ∧0≤σ.n∧σ.fs.length≤64) (fun σ s k hc hn hf hl=>by
       obtain ⟨i1,i2,i3⟩:=hc
       obtain ⟨a,b,c,⟨o,ho,_,_⟩,d⟩:=i1.step hf
       refine ⟨d,?_,?_⟩
       ·unfold nextS
        rw [ho]
        show 0≤σ.n - k
        omega
       ·unfold nextS
        rw [ho]
        show (σ.fs++[_]).length≤64
        rw [List.length_append,List.length_singleton]
        omega) 64 (σ:=⟨ls,l,[],n⟩) ⟨SwInv.start hI hJ,by have:=hm.2.2.2.2.2.1.1; show 0≤n; omega,by simp⟩
      exact this.2
     rw [h] at hn1 hn2 hg hinv
     dsimp only at hn1 hn2 hg hinv
     refine ⟨hinv,?_,by show _≤most; omega,hn2.2,hm,⟨Decidable.not_not.1 fun q=>hp (.inl q),Decidable.not_not.1 fun q=>hp (.inr q)⟩,h⟩
     have:=hinv.sum
     have q1:σ.n≤0:=hn1
     have q2:0≤σ.n:=hn2.1
     omega
 ·rw [if_pos hm] at h
  exact absurd (congrArg Prod.fst h) (by show ¬ (1:Int)=0; decide)
end Go.Proofs.YtojbmnbphdcjfaaGreat
namespace Go.Proofs.YtojbmnbphdcjfaaGreat
open Go.RowKit
def leastN:Int→List Int→Int
 | n,[]=>n
 | n,v::vs=>if min n v<1 then 0 else leastN (min n v) vs
structure Bnd (w:World) (rv:Value) (b:Nat × Int):Prop where
 enter:∀ args w',(callFunc b.1 args).run Tryz.prog w'=.ok (.enter b.1 args) w'
 call:∀ w',Below w.heap.size w w'→Calls Tryz.prog b.1 #[rv] w' fun e w''=>e=.returned (.int .i64 b.2)∧Below w'.heap.size w' w''
theorem Bnd.below {w w':World} {rv:Value} {b:Nat × Int} (h:Bnd w rv b) (k:Below w.heap.size w w'):Bnd w' rv b:=⟨h.enter,fun w2 q=>h.call w2 (andB k q)⟩
def bndV (rv:Value) (b:Nat × Int):Value:=.func (.func b.1) #[rv] #[]
def LeastAt (W:World) (bs:List (Nat × Int)) (n i:Value) (wr:World):Prop :=
 ∃ (k:Nat) (m:Int),k≤bs.length∧i=.int .i64 k∧n=.int .i64 m∧(m≤1099511627776 ∧ -9223372036854775808≤m)∧Below W.heap.size W wr∧Hid (leastN 1099511627776 (bs.map (·.2))=leastN m ((bs.drop k).map (·.2)))
set_option maxHeartbeats 4000000 in
set_option maxRecDepth 100000 in
theorem least_any {w:World} {g:Nat} {rv:Value} {bs:List (Nat × Int)} {t:TypeId} (hk:Blk w g (bs.map (bndV rv)).toArray t) (hb:∀ b ∈ bs,Bnd w rv b) (h64:∀ b ∈ bs,In64 b.2) (hl:bs.length≤100) :
  Calls Tryz.prog 118 #[.slice (some ⟨g,0,none⟩) bs.length bs.length] w fun e w'=>e=.returned (.int .i64 (leastN 1099511627776 (bs.map (·.2))))∧Below w.heap.size w w':=by
 have K:=Lib.hid hk
 have HB:=Lib.hid hb
 have H64:=Lib.hid h64
 clear hk hb h64
 go_enter Tryz.func118,Tryz.ntmps118
 go_wp2_with fail
 go_loopw [3,8] (LeastAt w bs) (fun _ i _=>bs.length - (intOf i).toNat)
 case atStart=>exact ⟨0,_,by omega,rfl,rfl,by omega,Below.refl _ _,Lib.hid rfl⟩
 case round =>
  obtain ⟨k,m,hkl,rfl,rfl,⟨m1,m2⟩,hB,HE⟩:=hrel
  have BB:=Lib.hid hB
  clear hB
  by_cases hlt:k<bs.length
  ·have hki:(k:Int)<(bs.length:Int):=by omega
   have hk0:(0:Int)≤(k:Int):=by omega
   have q0:decide ((k:Int)<(bs.length:Int))=true:=by simpa using hlt
   have KK:=Lib.hid (K.out.below BB.out K.out.lt)
   have d0:=KK.out.cell k
   have kl:=KK.out.lt
   simp only [List.getElem?_toArray,List.getElem?_map,List.getElem?_eq_getElem hlt,Option.map_some] at d0
   have HBk:=Lib.hid ((HB.out bs[k] (List.getElem_mem _)).below BB.out)
   have h64:=H64.out bs[k] (List.getElem_mem _)
   have HD:Hid (bs.drop k=bs[k]::bs.drop (k + 1)):=Lib.hid (List.drop_eq_getElem_cons hlt)
   generalize bs[k]=b at *
   obtain ⟨f,v⟩:=b
   unfold bndV at d0
   dsimp only at d0 h64
   have hv1:=h64.1
   have hv2:=h64.2
   clear h64
   have CB:=Lib.hid (HBk.out.call wr (Below.refl _ _))
   have EN:=HBk.out.enter #[rv] wr
   dsimp only at CB EN
   have HM:Hid (leastN m (((f,v)::bs.drop (k + 1)).map (·.2))=if min m v<1 then 0 else leastN (min m v) ((bs.drop (k + 1)).map (·.2))):=Lib.hid rfl
   clear HBk
   go_wp2_with fail
   refine CB.out.mono ?_
   rintro e w1 ⟨rfl,b1⟩
   have B1:=Lib.hid (BB.out.trans (b1.mono BB.out.size))
   clear b1 CB EN d0 kl
   by_cases hz:min m v<1
   ·have q1:decide (min m v<1)=true:=by simpa using hz
    have HZ:=Lib.hid hz
    clear hz
    go_wp2_with fail
    go_ret
    exact ⟨by rw [HE.out,HD.out,HM.out.trans (if_pos HZ.out)]; rfl,B1.out⟩
   ·have q1:decide (min m v<1)=false:=by simpa using hz
    have HZ:=Lib.hid hz
    clear hz
    go_wp2_with fail
    exact ⟨⟨k + 1,_,by omega,by go_num,rfl,by omega,B1.out,Lib.hid (by rw [HE.out,HD.out]; exact HM.out.trans (if_neg (by have:=HZ.out; omega)))⟩,by simp [intOf]; omega⟩
  ·have hkn:k=bs.length:=by omega
   subst hkn
   have q0:decide (((bs.length:Nat):Int)<(bs.length:Int))=false:=by simp
   have HM:Hid (leastN m ((bs.drop bs.length).map (·.2))=m):=Lib.hid (by rw [List.drop_length]; rfl)
   go_wp2_with fail
   go_ret
   exact ⟨by rw [HE.out,HM.out]; rfl,BB.out⟩
abbrev filV (lp:Option Addr) (o:Of) (tk pt want most:Int):Value:=.agg #[.pointer lp,.int .u64 o.se,.int .u8 o.ow,.int .u8 o.sl,.int .u8 o.bu,.int .i64 o.lf,.int .i64 o.nu,.int .i64 o.de,.int .u8 tk,.int .u8 pt,.int .i64 want,.int .i64 most]
abbrev filC (lp:Option Addr) (o:Of) (tk pt want most:Int):Array Value:=#[.pointer lp,.int .u64 o.se,.int .u8 o.ow,.int .u8 o.sl,.int .u8 o.bu,.int .i64 o.lf,.int .i64 o.nu,.int .i64 o.de,.int .u8 tk,.int .u8 pt,.int .i64 want,.int .i64 most]
theorem fwanted_any (lp:Option Addr) (o:Of) (tk pt want most:Int) (w:World):Calls Tryz.prog 119 #[filV lp o tk pt want most] w fun e w'=>e=.returned (.int .i64 want)∧Below w.heap.size w w':=by
 have B:=Lib.hid ((Below.refl w.heap.size w).alloc (Nat.le_refl _) (.cells (filC lp o tk pt want most) 183))
 unfold filV
 go_enter Tryz.func119,Tryz.ntmps119
 go_wp2_with fail
 go_ret
 exact ⟨rfl,B.out⟩
theorem fleft_any (lp:Option Addr) (o:Of) (tk pt want most:Int) (w:World):Calls Tryz.prog 120 #[filV lp o tk pt want most] w fun e w'=>e=.returned (.int .i64 o.lf)∧Below w.heap.size w w':=by
 have B:=Lib.hid ((Below.refl w.heap.size w).alloc (Nat.le_refl _) (.cells (filC lp o tk pt want most) 183))
 unfold filV
 go_enter Tryz.func120,Tryz.ntmps120
 go_wp2_with fail
 go_ret
 exact ⟨rfl,B.out⟩
theorem fallowed_any (lp:Option Addr) (o:Of) (tk pt want most:Int) (w:World):Calls Tryz.prog 171 #[filV lp o tk pt want most] w fun e w'=>e=.returned (.int .i64 most)∧Below w.heap.size w w':=by
 have B:=Lib.hid ((Below.refl w.heap.size w).alloc (Nat.le_refl _) (.cells (filC lp o tk pt want most) 183))
 unfold filV
 go_enter Tryz.func171,Tryz.ntmps171
 go_wp2_with fail
 go_ret
 exact ⟨rfl,B.out⟩
theorem fsold_any (HM:MostProg) {w:World} {G M:Nat} {ps:List Int} {ls:List Ln} {o:Of} (h:LedM w G M ps ls) (hI:LInv ps ls) (hf:o.Fits) (tk pt want most:Int) (hp:In8 pt) {m1 m2:Int} (g:Goes ps ls o tk pt m1 m2) :
  Calls Tryz.prog 121 #[filV (some ⟨G,0,none⟩) o tk pt want most] w fun e w'=>e=.returned (.int .i64 (if pt=o.ow then 1099511627776 else m1))∧Below w.heap.size w w':=by
 have bw:=(Below.refl w.heap.size w).alloc (Nat.le_refl _) (.cells (filC (some ⟨G,0,none⟩) o tk pt want most) 183)
 have B:=Lib.hid bw
 obtain ⟨⟨μ,h1,h2⟩,_⟩:=g
 have CM:=Lib.hid (pmost9_any HM (h.below bw) hI hf.ow hp hf.sl h1)
 rw [h2] at CM
 clear bw h hI hf hp h1 h2
 unfold filV
 by_cases he:pt=o.ow
 ·rw [if_pos he]
  subst he
  have q0:(o.ow==o.ow)=true:=by simp
  clear CM
  go_enter Tryz.func121,Tryz.ntmps121
  go_wp2_with fail
  go_ret
  exact ⟨rfl,B.out⟩
 ·rw [if_neg he]
  have q0:(pt==o.ow)=false:=by simpa using he
  clear he
  go_enter Tryz.func121,Tryz.ntmps121
  go_wp2_with fail
  refine CM.out.mono ?_
  rintro e w1 ⟨rfl,b1⟩
  have B1:=Lib.hid (B.out.trans (b1.mono B.out.size))
  clear b1
  go_wp2_with fail
  go_ret
  exact ⟨rfl,B1.out⟩
theorem fbought_any (HM:MostProg) {w:World} {G M:Nat} {ps:List Int} {ls:List Ln} {o:Of} (h:LedM w G M ps ls) (hI:LInv ps ls) (hf:o.Fits) (tk pt want most:Int) (ht:In8 tk) {m1 m2:Int} (g:Goes ps ls o tk pt m1 m2) :
  Calls Tryz.prog 172 #[filV (some ⟨G,0,none⟩) o tk pt want most] w fun e w'=>e=.returned (.int .i64 m2)∧Below w.heap.size w w':=by
 have bw:=(Below.refl w.heap.size w).alloc (Nat.le_refl _) (.cells (filC (some ⟨G,0,none⟩) o tk pt want most) 183)
 have B:=Lib.hid bw
 obtain ⟨_,μ,h1,h2⟩:=g
 have CM:=Lib.hid (pmost9_any HM (h.below bw) hI ht hf.ow hf.bu h1)
 rw [h2] at CM
 clear bw h hI hf ht h1 h2
 unfold filV
 go_enter Tryz.func172,Tryz.ntmps172
 go_wp2_with fail
 refine CM.out.mono ?_
 rintro e w1 ⟨rfl,b1⟩
 have B1:=Lib.hid (B.out.trans (b1.mono B.out.size))
 clear b1
 go_wp2_with fail
 go_ret
 exact ⟨rfl,B1.out⟩
end Go.Proofs.YtojbmnbphdcjfaaGreat
namespace Go.Proofs.YtojbmnbphdcjfaaGreat
open Go.RowKit
theorem leastN_bd:∀ (vs:List Int) {n:Int},n≤1099511627776 → -9223372036854775808≤n→(∀ v ∈ vs,-9223372036854775808≤v)→In64 (leastN n vs)
 | [],n,h1,h2,_=>⟨by unfold leastN; omega,by unfold leastN; omega⟩
 | v::vs,n,h1,h2,h=>by
  unfold leastN
  split
  ·exact ⟨by omega,by omega⟩
  ·rename_i hz
   have:=h v (List.mem_cons_self)
   exact leastN_bd vs (by omega) (by omega) (fun x hx=>h x (List.mem_cons_of_mem _ hx))
set_option maxHeartbeats 8000000 in
set_option maxRecDepth 100000 in
theorem ffits_any (HM:MostProg) {w:World} {G M:Nat} {ps:List Int} {ls:List Ln} {o:Of} (h:LedM w G M ps ls) (hI:LInv ps ls) (hf:o.Fits) (tk pt want most:Int) (ht:In8 tk) (hm:In64 most) {m1 m2:Int} (g:Goes ps ls o tk pt m1 m2) :
  Calls Tryz.prog 122 #[filV (some ⟨G,0,none⟩) o tk pt want most] w fun e w'=>e=.returned (.int .i64 (fitN (leastN 1099511627776 [most,m2]) o.nu o.de))∧Below w.heap.size w w':=by
 have bw:=(Below.refl w.heap.size w).alloc (Nat.le_refl _) (.cells (filC (some ⟨G,0,none⟩) o tk pt want most) 183)
 have KX:=Lib.hid (Blk.new w (filC (some ⟨G,0,none⟩) o tk pt want most) 183)
 have B:=Lib.hid bw
 have hbd:=g.bd hI
 have H64a:=Lib.hid hm
 have H64b:Hid (In64 m2):=Lib.hid ⟨by omega,by omega⟩
 have H64l:Hid (In64 (leastN 1099511627776 [most,m2])):=Lib.hid (leastN_bd _ (by omega) (by omega) (by intro v hv; simp only [List.mem_cons,List.not_mem_nil,or_false] at hv; rcases hv with rfl | rfl; exact hm.1; omega))
 have HF:=Lib.hid hf
 have L:=h.below bw
 have HA:Hid (Bnd (w.alloc (.cells (filC (some ⟨G,0,none⟩) o tk pt want most) 183)) (filV (some ⟨G,0,none⟩) o tk pt want most) (171,most)):=Lib.hid
  ⟨enters_of Tryz.func171 (by kernel_rfl) rfl,fun w' k=>fallowed_any _ o tk pt want most w'⟩
 have HBo:Hid (Bnd (w.alloc (.cells (filC (some ⟨G,0,none⟩) o tk pt want most) 183)) (filV (some ⟨G,0,none⟩) o tk pt want most) (172,m2)):=Lib.hid
  ⟨enters_of Tryz.func172 (by kernel_rfl) rfl,fun w' k=>fbought_any HM (L.below k) hI hf tk pt want most ht g⟩
 clear bw h hI hf hm hbd L g
 go_enter Tryz.func122,Tryz.ntmps122
 go_upto_region 1 with fail
 generalize w.alloc (.cells #[.pointer (some ⟨G,0,none⟩),.int .u64 o.se,.int .u8 o.ow,.int .u8 o.sl,.int .u8 o.bu,.int .i64 o.lf,.int .i64 o.nu,.int .i64 o.de,.int .u8 tk,.int .u8 pt,.int .i64 want,.int .i64 most] 183)=W at *
 refine region_ghost (by kernel_rfl) (fun g:Nat→Nat=>[(filV (some ⟨G,0,none⟩) o tk pt want most),(.func (.func 171) #[(filV (some ⟨G,0,none⟩) o tk pt want most)] #[]),(filV (some ⟨G,0,none⟩) o tk pt want most),(.func (.func 172) #[(filV (some ⟨G,0,none⟩) o tk pt want most)] #[]),(.slice (some ⟨g 4,0,none⟩) 2 2),(.int .i64 (leastN 1099511627776 [most,m2])),(.pointer (some ⟨w.heap.size,1,none⟩)),(.pointer (some ⟨w.heap.size,6,none⟩)),(.agg #[.int .i64 o.nu,.int .i64 o.de]),(.int .i64 (fitN (leastN 1099511627776 [most,m2]) o.nu o.de)),(.int .i64 (fitN (leastN 1099511627776 [most,m2]) o.nu o.de))])
  (Lays W [(⟨4,4,(.cells #[(.func (.func 171) #[(filV (some ⟨G,0,none⟩) o tk pt want most)] #[]),(.func (.func 172) #[(filV (some ⟨G,0,none⟩) o tk pt want most)] #[])] 185),(.cells #[(.func (.func 171) #[(filV (some ⟨G,0,none⟩) o tk pt want most)] #[]),(.func (.func 172) #[(filV (some ⟨G,0,none⟩) o tk pt want most)] #[])] 185)⟩:Spec)]) (by kernel_rfl) (fun _=>0) (Lays.start _ _ _) ?_
 intro AF hAF
 simp only [List.toList_toArray,puts,Act.put,List.getD_cons_zero,List.getD_cons_succ,List.setIfInBounds_toArray,List.set_cons_succ,List.set_cons_zero] at hAF
 have hAF2:_=AF:=funext hAF
 subst hAF2
 clear hAF
 refine ⟨?_,?_⟩
 ·simp only [List.toList_toArray,EachG]
  refine ⟨?_,?_,?_,?_,?_,?_,?_,?_,?_,?_,?_,trivial⟩
  ·intro g D w' hD hW hC hI
   refine ⟨g,fun _ _ _=>rfl,?_⟩
   with_reducible refine OpTo.plain ?_ ?_
   exact rfl
   have hS:=hI.below
   have hl0:=Nat.lt_of_lt_of_le KX.out.lt hS.size
   have d0_0:=(KX.out.below hS KX.out.lt).cell 0
   have d0_1:=(KX.out.below hS KX.out.lt).cell 1
   have d0_2:=(KX.out.below hS KX.out.lt).cell 2
   have d0_3:=(KX.out.below hS KX.out.lt).cell 3
   have d0_4:=(KX.out.below hS KX.out.lt).cell 4
   have d0_5:=(KX.out.below hS KX.out.lt).cell 5
   have d0_6:=(KX.out.below hS KX.out.lt).cell 6
   have d0_7:=(KX.out.below hS KX.out.lt).cell 7
   have d0_8:=(KX.out.below hS KX.out.lt).cell 8
   have d0_9:=(KX.out.below hS KX.out.lt).cell 9
   have d0_10:=(KX.out.below hS KX.out.lt).cell 10
   have d0_11:=(KX.out.below hS KX.out.lt).cell 11
   simp at d0_0 d0_1 d0_2 d0_3 d0_4 d0_5 d0_6 d0_7 d0_8 d0_9 d0_10 d0_11
   have HS:=Lib.hid (hI.step (Below.refl _ _) (k:=0) (by rfl))
   clear hI hS hC hW hD
   go_wp2_with fail
   all_goals first | exact HS.out | exact ⟨rfl,HS.out⟩ | rfl
  ·intro g D w' hD hW hC hI
   refine ⟨g,fun _ _ _=>rfl,?_⟩
   with_reducible refine OpTo.plain ?_ ?_
   exact rfl
   have hS:=hI.below
   have HS:=Lib.hid (hI.step (Below.refl _ _) (k:=1) (by rfl))
   clear hI hS hC hW hD
   go_wp2_with fail
   all_goals first | exact HS.out | exact ⟨rfl,HS.out⟩ | rfl
  ·intro g D w' hD hW hC hI
   refine ⟨g,fun _ _ _=>rfl,?_⟩
   with_reducible refine OpTo.plain ?_ ?_
   exact rfl
   have hS:=hI.below
   have hl0:=Nat.lt_of_lt_of_le KX.out.lt hS.size
   have d0_0:=(KX.out.below hS KX.out.lt).cell 0
   have d0_1:=(KX.out.below hS KX.out.lt).cell 1
   have d0_2:=(KX.out.below hS KX.out.lt).cell 2
   have d0_3:=(KX.out.below hS KX.out.lt).cell 3
   have d0_4:=(KX.out.below hS KX.out.lt).cell 4
   have d0_5:=(KX.out.below hS KX.out.lt).cell 5
   have d0_6:=(KX.out.below hS KX.out.lt).cell 6
   have d0_7:=(KX.out.below hS KX.out.lt).cell 7
   have d0_8:=(KX.out.below hS KX.out.lt).cell 8
   have d0_9:=(KX.out.below hS KX.out.lt).cell 9
   have d0_10:=(KX.out.below hS KX.out.lt).cell 10
   have d0_11:=(KX.out.below hS KX.out.lt).cell 11
   simp at d0_0 d0_1 d0_2 d0_3 d0_4 d0_5 d0_6 d0_7 d0_8 d0_9 d0_10 d0_11
   have HS:=Lib.hid (hI.step (Below.refl _ _) (k:=2) (by rfl))
   clear hI hS hC hW hD
   go_wp2_with fail
   all_goals first | exact HS.out | exact ⟨rfl,HS.out⟩ | rfl
  ·intro g D w' hD hW hC hI
   refine ⟨g,fun _ _ _=>rfl,?_⟩
   with_reducible refine OpTo.plain ?_ ?_
   exact rfl
   have hS:=hI.below
   have HS:=Lib.hid (hI.step (Below.refl _ _) (k:=3) (by rfl))
   clear hI hS hC hW hD
   go_wp2_with fail
   all_goals first | exact HS.out | exact ⟨rfl,HS.out⟩ | rfl
  ·intro g D w' hD hW hC hI
   refine ⟨upd g 4 w'.heap.size,vals_upd _ (fun g:Nat→Nat=>[(filV (some ⟨G,0,none⟩) o tk pt want most),(.func (.func 171) #[(filV (some ⟨G,0,none⟩) o tk pt want most)] #[]),(filV (some ⟨G,0,none⟩) o tk pt want most),(.func (.func 172) #[(filV (some ⟨G,0,none⟩) o tk pt want most)] #[]),(.slice (some ⟨g 4,0,none⟩) 2 2),(.int .i64 (leastN 1099511627776 [most,m2])),(.pointer (some ⟨w.heap.size,1,none⟩)),(.pointer (some ⟨w.heap.size,6,none⟩)),(.agg #[.int .i64 o.nu,.int .i64 o.de]),(.int .i64 (fitN (leastN 1099511627776 [most,m2]) o.nu o.de)),(.int .i64 (fitN (leastN 1099511627776 [most,m2]) o.nu o.de))]) g 4 _ 12 hC hD ?_,?_⟩
   ·intro j hj
    match j,hj with
    | 0,_=>exact .inr rfl
    | 1,_=>exact .inr rfl
    | 2,_=>exact .inr rfl
    | 3,_=>exact .inr rfl
    | 4,_=>exact .inl (.inl rfl)
    | 5,_=>exact .inr rfl
    | 6,_=>exact .inr rfl
    | 7,_=>exact .inr rfl
    | 8,_=>exact .inr rfl
    | 9,_=>exact .inr rfl
    | 10,_=>exact .inr rfl
    | j + 11,_=>exact .inr rfl
   with_reducible refine OpTo.plain ?_ ?_
   exact rfl
   have HS:=Lib.hid (hI.lay (⟨4,4,(.cells #[(.func (.func 171) #[(filV (some ⟨G,0,none⟩) o tk pt want most)] #[]),(.func (.func 172) #[(filV (some ⟨G,0,none⟩) o tk pt want most)] #[])] 185),(.cells #[(.func (.func 171) #[(filV (some ⟨G,0,none⟩) o tk pt want most)] #[]),(.func (.func 172) #[(filV (some ⟨G,0,none⟩) o tk pt want most)] #[])] 185)⟩:Spec) (by simp) (by rfl) (.inl rfl) (by rfl) (fun s' hs' _=>List.mem_singleton.1 hs') (.cells #[(.func (.func 171) #[(filV (some ⟨G,0,none⟩) o tk pt want most)] #[]),(.func (.func 172) #[(filV (some ⟨G,0,none⟩) o tk pt want most)] #[])] 185) rfl)
   clear hI hC hW hD
   go_wp2_with fail
   all_goals first | exact HS.out | exact ⟨rfl,HS.out⟩ | rfl
  ·intro g D w' hD hW hC hI
   refine ⟨g,fun _ _ _=>rfl,?_⟩
   with_reducible refine OpTo.plain ?_ ?_
   exact rfl
   have hS:=hI.below
   have HI:=Lib.hid hI
   have HC:=Lib.hid (least_any (bs:=[(171,most),(172,m2)]) (rv:=(filV (some ⟨G,0,none⟩) o tk pt want most)) (show Blk w' (g 4) (List.map (bndV (filV (some ⟨G,0,none⟩) o tk pt want most)) [(171,most),(172,m2)]).toArray 185 from (hI.full (⟨4,4,(.cells #[(.func (.func 171) #[(filV (some ⟨G,0,none⟩) o tk pt want most)] #[]),(.func (.func 172) #[(filV (some ⟨G,0,none⟩) o tk pt want most)] #[])] 185),(.cells #[(.func (.func 171) #[(filV (some ⟨G,0,none⟩) o tk pt want most)] #[]),(.func (.func 172) #[(filV (some ⟨G,0,none⟩) o tk pt want most)] #[])] 185)⟩:Spec) (by simp) (waited_done hC hW (d:=12) (by kernel_rfl)) (waited_done hC hW (d:=12) (by kernel_rfl))).2) (by intro b hb; simp only [List.mem_cons,List.not_mem_nil,or_false] at hb; rcases hb with rfl | rfl; exact HA.out.below hS; exact HBo.out.below hS) (by intro b hb; simp only [List.mem_cons,List.not_mem_nil,or_false] at hb; rcases hb with rfl | rfl; exact H64a.out; exact H64b.out) (by simp))
   clear hI hS hC hW hD
   go_wp2_with fail
   refine HC.out.mono ?_
   rintro e w'' ⟨rfl,hb2⟩
   exact ⟨rfl,HI.out.step hb2 (by rfl)⟩
  ·intro g D w' hD hW hC hI
   refine ⟨g,fun _ _ _=>rfl,?_⟩
   with_reducible refine OpTo.plain ?_ ?_
   exact rfl
   have hS:=hI.below
   have HS:=Lib.hid (hI.step (Below.refl _ _) (k:=6) (by rfl))
   clear hI hS hC hW hD
   go_wp2_with fail
   all_goals first | exact HS.out | exact ⟨rfl,HS.out⟩ | rfl
  ·intro g D w' hD hW hC hI
   refine ⟨g,fun _ _ _=>rfl,?_⟩
   with_reducible refine OpTo.plain ?_ ?_
   exact rfl
   have hS:=hI.below
   have HS:=Lib.hid (hI.step (Below.refl _ _) (k:=7) (by rfl))
   clear hI hS hC hW hD
   go_wp2_with fail
   all_goals first | exact HS.out | exact ⟨rfl,HS.out⟩ | rfl
  ·intro g D w' hD hW hC hI
   refine ⟨g,fun _ _ _=>rfl,?_⟩
   with_reducible refine OpTo.plain ?_ ?_
   exact rfl
   have hS:=hI.below
   have hl0:=Nat.lt_of_lt_of_le KX.out.lt hS.size
   have d0_0:=(KX.out.below hS KX.out.lt).cell 0
   have d0_1:=(KX.out.below hS KX.out.lt).cell 1
   have d0_2:=(KX.out.below hS KX.out.lt).cell 2
   have d0_3:=(KX.out.below hS KX.out.lt).cell 3
   have d0_4:=(KX.out.below hS KX.out.lt).cell 4
   have d0_5:=(KX.out.below hS KX.out.lt).cell 5
   have d0_6:=(KX.out.below hS KX.out.lt).cell 6
   have d0_7:=(KX.out.below hS KX.out.lt).cell 7
   have d0_8:=(KX.out.below hS KX.out.lt).cell 8
   have d0_9:=(KX.out.below hS KX.out.lt).cell 9
   have d0_10:=(KX.out.below hS KX.out.lt).cell 10
   have d0_11:=(KX.out.below hS KX.out.lt).cell 11
   simp at d0_0 d0_1 d0_2 d0_3 d0_4 d0_5 d0_6 d0_7 d0_8 d0_9 d0_10 d0_11
   have HS:=Lib.hid (hI.step (Below.refl _ _) (k:=8) (by rfl))
   clear hI hS hC hW hD
   go_wp2_with fail
   all_goals first | exact HS.out | exact ⟨rfl,HS.out⟩ | rfl
  ·intro g D w' hD hW hC hI
   refine ⟨g,fun _ _ _=>rfl,?_⟩
   with_reducible refine OpTo.plain ?_ ?_
   exact rfl
   have hS:=hI.below
   have HI:=Lib.hid hI
   have HC:=Lib.hid (fits_any (leastN 1099511627776 [most,m2]) o.nu o.de w' H64l.out HF.out.nu HF.out.de)
   clear hI hS hC hW hD
   go_wp2_with fail
   refine HC.out.mono ?_
   rintro e w'' ⟨rfl,hb2⟩
   exact ⟨rfl,HI.out.step hb2 (by rfl)⟩
  ·intro g D w' hD hW hC hI
   refine ⟨g,fun _ _ _=>rfl,?_⟩
   with_reducible refine OpTo.plain ?_ ?_
   exact rfl
   have hS:=hI.below
   have HS:=Lib.hid (hI.step (Below.refl _ _) (k:=10) (by rfl))
   clear hI hS hC hW hD
   go_wp2_with fail
   all_goals first | exact HS.out | exact ⟨rfl,HS.out⟩ | rfl
 ·intro g D w' hall hI
  have B1:=Lib.hid (B.out.trans (hI.below.mono B.out.size))
  clear hall hI
  go_wp2_with fail
  go_ret
  exact ⟨rfl,B1.out⟩
end Go.Proofs.YtojbmnbphdcjfaaGreat
