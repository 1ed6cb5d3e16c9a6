/- Pieces of one proof. -/
import Derived.Test.YtojbmnbphdcjfaaGreatP30
set_option linter.all false
set_option maxHeartbeats 64000000
set_option maxRecDepth 100000
namespace Go.Proofs.YtojbmnbphdcjfaaGreat
open Go.RowKit
theorem best_mem{l:List Of}{N:Int}(h:BInv l N){s b:Int}{o:Of}(ho:o∈aBu l s b):o∈l∧o.sl=s∧o.bu=b:=by
 have h1:=((bestO_is h.may h.rise s b).1.mem_iff).1 ho;rw[List.mem_filter]at h1;obtain⟨h2,h3⟩:=h1;simp[aBj]at h3;exact⟨h2,h3.1,h3.2⟩
theorem aSl{l:List Of}{N:Int}(h:BInv l N){o:Of}(ho:o∈l):aBs l o.se=some o:=by
 cases hf:aBs l o.se with
 | none=>
  unfold aBs at hf;rw[List.find?_eq_none]at hf;exact absurd (by simp) (hf o ho)
 | some o'=>
  obtain⟨h1,h2⟩:=aC1 hf
  have key:∀{m:List Of},m.Pairwise (fun x y=>x.se<y.se)→o∈m→o'∈m→o=o':=by
   intro m hm
   induction m with
   | nil=>intro a;cases a
   | cons z m ih=>
    intro a b;have hz:=(List.pairwise_cons.1 hm).1;rcases List.mem_cons.1 a with ea|a
    ·rcases List.mem_cons.1 b with eb|b
     ·rw[ea,eb]
     have:=hz _ b;rw[←ea]at this;omega
    rcases List.mem_cons.1 b with eb|b
    ·have:=hz _ a;rw[←eb]at this;omega
    exact ih (List.pairwise_cons.1 hm).2 a b
  rw[key h.rise ho h1]
def likeO(a b:Of):Prop:=a.ow=b.ow∧a.sl=b.sl∧a.bu=b.bu∧a.nu=b.nu∧a.de=b.de
theorem take_like{l:List Of}{N:Int}(h:BInv l N){s n:Int}{o:Of}(hf:aBs l s=some o)(h1:1≤n)(h2:n≤o.lf){t:Int}{x:Of}(hx:aBs (aCo l s n) t=some x):∃y,aBs l t=some y∧likeO y x:=by
 obtain⟨hm,hs⟩:=aC1 hx;rw[take_facts h hf h1 h2]at hm;obtain⟨_,y,hy,hor⟩:=aOa hm;rcases hor with rfl|⟨_,rfl⟩
 ·exact⟨x,by rw[←hs];exact aSl h hy,rfl,rfl,rfl,rfl,rfl⟩
 exact⟨y,by rw[←hs];exact aSl h hy,rfl,rfl,rfl,rfl,rfl⟩
def flBy(l0:List Of)(tk pt:Int)(f:Fl)(p c:Int):Int:=match aBs l0 f.se with
 | none=>0
 | some o=>aP4 o tk pt f.got f.gi p c
structure aE5(ps:List Int)(ls0:List Ln)(l0:List Of)(N tk pt get give n0:Int)(σ:SwS):Prop where
 linv:LInv ps σ.ls
 binv:BInv σ.l N
 lim:limL σ.ls=limL ls0
 like:∀s o,aBs σ.l s=some o→∃y,aBs l0 s=some y∧likeO y o
 fs:∀f∈σ.fs,∃o,aBs l0 f.se=some o∧o.sl=get∧o.bu=give∧o.ow≠tk∧o.ow∈ps∧(1≤f.got∧f.got≤1099511627776)∧1≤f.gi∧f.gi≤1099511627776
 sum:(σ.fs.map Fl.got).sum+σ.n=n0
 pos:∀p c,posL σ.ls p c=posL ls0 p c+(σ.fs.map fun f=>flBy l0 tk pt f p c).sum
theorem aE5.start{ps:List Int}{ls0:List Ln}{l0:List Of}{N tk pt get give n0:Int}(hI:LInv ps ls0)(hJ:BInv l0 N):aE5 ps ls0 l0 N tk pt get give n0 ⟨ls0,l0,[],n0⟩:=
 ⟨hI,hJ,rfl,fun s o h=>⟨o,h,rfl,rfl,rfl,rfl,rfl⟩,fun f hf=>(by cases hf),(by simp),fun p c=>(by simp)⟩
theorem aE5.step{ps:List Int}{ls0:List Ln}{l0:List Of}{N tk pt get give n0:Int}{σ:SwS}(h:aE5 ps ls0 l0 N tk pt get give n0 σ){s k:Int}(hf:aBh ps σ.ls σ.l tk pt σ.n 1099511627776 (aBu σ.l get give)=some (s,k)):
  1≤k∧k≤σ.n∧okS ps σ.ls σ.l tk pt k s∧(∃o,aBs σ.l s=some o∧o∈aBu σ.l get give∧k≤o.lf)∧aE5 ps ls0 l0 N tk pt get give n0 (aGc ps tk pt σ s k):=by
 obtain⟨h1,h2,o,h3,rfl⟩:=aLx hf;obtain⟨hm,hsl,hbu⟩:=best_mem h.binv h3;have hfo:=aSl h.binv hm;obtain⟨ok,hle⟩:=may_okS h.linv h2 (by omega);have hG:=goesS h.linv o tk pt;have hG':∀o',aBs σ.l o.se=some o'→Goes ps σ.ls o' tk pt (aE3 ps σ.ls o.sl o.ow pt) (aE3 ps σ.ls o.bu tk o.ow):=fun o' ho'=>by rw[hfo]at ho';cases ho';exact hG
 have hd:=(aJh h.linv hG').2 ok;obtain⟨o',ho',⟨k1,k2,k3,k4⟩,k5,_,_⟩:=hd.facts;rw[hfo]at ho'
 cases ho'
 obtain⟨f1,f2,f3,f4,f5⟩:=aP5 h.linv h.binv hfo hG hd rfl (aHe h.linv o tk pt k (upN (k*o.nu) o.de));obtain⟨_,_,_,_,⟨l1,l2⟩,_⟩:=h.binv.may o hm;obtain⟨y,hy,y1,y2,y3,y4,y5⟩:=h.like o.se o hfo;refine⟨by omega,hle,ok,⟨o,hfo,h3,k5⟩,?_⟩
 have e:aGc ps tk pt σ o.se k=⟨aC9 ps σ.ls o tk pt k (upN (k*o.nu) o.de),aCo σ.l o.se k,σ.fs++[⟨o.se,k,upN (k*o.nu) o.de⟩],σ.n - k⟩:=by
  unfold aGc;rw[hfo]
 rw[e];refine⟨aSk h.linv _ _ _ _ _,h.binv.take _ _,f1.symm.trans h.lim,fun t x hx=>?_,fun f hf=>?_,?_,fun p c=>?_⟩
 ·obtain⟨z,hz,z1,z2,z3,z4,z5⟩:=take_like h.binv hfo (by omega) k5 hx;obtain⟨v,hv,v1,v2,v3,v4,v5⟩:=h.like t z hz;exact⟨v,hv,v1.trans z1,v2.trans z2,v3.trans z3,v4.trans z4,v5.trans z5⟩
 ·rcases List.mem_append.1 hf with hf|hf
  ·exact h.fs f hf
  rw[List.mem_singleton]at hf;subst hf;exact⟨y,hy,by rw[y2,hsl],by rw[y3,hbu],by rw[y1];exact k1,by rw[y1];exact k2,⟨by show 1≤k;omega,by show k≤1099511627776;omega⟩,f3,f4⟩
 ·have:=h.sum;simp only[List.map_append,List.map_cons,List.map_nil,List.sum_append,List.sum_cons,List.sum_nil];omega
 show posL (aC9 ps σ.ls o tk pt k (upN (k*o.nu) o.de)) p c=_;rw[f2 p c,h.pos p c];simp only[List.map_append,List.map_cons,List.map_nil,List.sum_append,List.sum_cons,List.sum_nil]
 have e2:flBy l0 tk pt ⟨o.se,k,upN (k*o.nu) o.de⟩ p c=aP4 o tk pt k (upN (k*o.nu) o.de) p c:=by
  unfold flBy;simp only[hy];unfold aP4;rw[y1,y2,y3]
 rw[e2];omega
theorem aE5.ends{ps:List Int}{ls0:List Ln}{l0:List Of}{N tk pt get give n0:Int}:∀(fuel:Nat) {σ:SwS},aE5 ps ls0 l0 N tk pt get give n0 σ→aE5 ps ls0 l0 N tk pt get give n0 (aBe ps tk pt get give fuel σ).2
 | fuel,σ,h=>by
  by_cases hn:σ.n≤0
  ·rw[aEp hn];exact h
  cases hf:aBh ps σ.ls σ.l tk pt σ.n 1099511627776 (aBu σ.l get give)with
  | none=>rw[aEq hn hf];exact h
  | some sk=>
   obtain⟨s,k⟩:=sk
   by_cases hl:σ.fs.length=64
   ·rw[aFp hn hf hl];exact h
   cases fuel with
   | zero=>
    have e:aBe ps tk pt get give 0 σ=(13,σ):=by
     unfold aBe;rw[if_neg hn,hf];simp only[];rw[if_neg hl]
    rw[e];exact h
   | succ fuel=>rw[aD8 hn hf hl];exact aE5.ends fuel (h.step hf).2.2.2.2
theorem aE5.got_nn{ps:List Int}{ls0:List Ln}{l0:List Of}{N tk pt get give n0:Int}{σ:SwS}(h:aE5 ps ls0 l0 N tk pt get give n0 σ):0≤(σ.fs.map Fl.got).sum:=by
 have key:∀l:List Fl,(∀f∈l,1≤f.got)→0≤(l.map Fl.got).sum:=by
  intro l
  induction l with
  | nil=>intro _;simp
  | cons x l ih=>
   intro hx;have a:=hx x List.mem_cons_self;have b:=ih (fun y hy=>hx y (List.mem_cons_of_mem _ hy));rw[List.map_cons,List.sum_cons];omega
 exact key _ (fun f hf=>by obtain⟨o,_,_,_,_,_,a,_⟩:=h.fs f hf;exact a.1)
theorem aE5.given_bd{ps:List Int}{ls0:List Ln}{l0:List Of}{N tk pt get give n0:Int}{σ:SwS}(h:aE5 ps ls0 l0 N tk pt get give n0 σ):0≤(σ.fs.map Fl.gi).sum∧(σ.fs.map Fl.gi).sum≤1099511627776*(σ.fs.length:Int):=by
 have key:∀l:List Fl,(∀f∈l,1≤f.gi∧f.gi≤1099511627776)→0≤(l.map Fl.gi).sum∧(l.map Fl.gi).sum≤1099511627776*(l.length:Int):=by
  intro l
  induction l with
  | nil=>intro _;simp
  | cons x l ih=>
   intro hx;have a:=hx x List.mem_cons_self;have b:=ih (fun y hy=>hx y (List.mem_cons_of_mem _ hy));rw[List.map_cons,List.sum_cons,List.length_cons]
   constructor <;> omega
 exact key _ (fun f hf=>by obtain⟨o,_,_,_,_,_,_,a,b⟩:=h.fs f hf;exact⟨a,b⟩)
theorem aAi{P:Program}{fn:Func}{p u x:Tmp}{ty:TypeId}(h:fn.results=#[.cell p ty,.tmp u,.tmp x])(tmps:Array Value)(w:World)(g:Nat)(t:TypeId)(cs:Array Value)(d:TypeDesc)(v v2:Value)
  (hp:tmps.getD p undef=.pointer (some ⟨g,0,none⟩))(hg:w.heap[g]? = some (.cells cs t (0,0)))
  (hu:P.underlying ty=some d)(hd:(match d with | .struct _ | .array _ _=>true|_=>false)=true)(hi:(P.info? ty).map (·.size)=some cs.size)(hv:tmps.getD u undef=v)(hv2:tmps.getD x undef=v2):
  (results fn tmps).run P w=.ok (.tuple #[.agg cs,v,v2]) w:=by
 have h1:=results_cell_row (P:=P) (fn:={ fn with results:=#[.cell p ty] }) rfl tmps w g t cs (0,0) d hp hg hu hd hi
 have h2:((asAddr (tmps.getD p undef)).run P w).andThen (fun a w₁=>(loadVar ty a).run P w₁)=.ok (.agg cs) w:=by
  simpa [results,Sem.run_bind,Result.andThen]using h1
 have h3:(results fn tmps).run P w=((asAddr (tmps.getD p undef)).run P w).andThen fun a w₁=>((loadVar ty a).run P w₁).andThen fun v w₂=>.ok (.tuple #[v,tmps.getD u undef,tmps.getD x undef]) w₂:=by
  simp only[results,h];simp[Sem.run_bind,Result.andThen]
 rw[h3];rw[hp]at h2 ⊢;simp only[asAddr,Sem.run_pure,Result.andThen_ok]at h2 ⊢;rw[h2];simp only[Result.andThen_ok,hv,hv2]
end Go.Proofs.YtojbmnbphdcjfaaGreat
