/- Pieces of one proof. -/
import Derived.Test.YtngnfdnfpiiclaaGreatB08
set_option linter.all false
set_option maxHeartbeats 64000000
set_option maxRecDepth 100000
namespace Go.Proofs.YtngnfdnfpiiclaaGreat
open Go.RowKit
theorem aJd{l:List Of}{N:Int}(h:BInv l N){s b:Int}{o:Of}(ho:o∈aC1 l s b):o∈l∧o.sl=s∧o.bu=b:=by
 have h1:=((bestO_is h.may h.rise s b).1.mem_iff).1 ho;rw[List.mem_filter]at h1;obtain⟨h2,h3⟩:=h1;simp[aBc]at h3;exact⟨h2,h3.1,h3.2⟩
theorem aJ6{l:List Of}{N:Int}(h:BInv l N){o:Of}(ho:o∈l):aBb l o.se=some o:=by
 cases hf:aBb l o.se with
 | none=>
  unfold aBb at hf;rw[List.find?_eq_none]at hf;exact absurd (by simp) (hf o ho)
 | some o'=>
  obtain⟨h1,h2⟩:=aCc hf
  have key:∀{m:List Of},m.Pairwise (fun x y=>x.se<y.se)→o∈m→o'∈m→o=o':=by
   intro m hm
   induction m with
   | nil=>intro a;cases a
   | cons z m ih=>
    intro a b;have hz:=(List.pairwise_cons.1 hm).1;rcases List.mem_cons.1 a with ea|a
    ·rcases List.mem_cons.1 b with eb|b
     ·rw[ea,eb]
     have:=hz _ b;rw[←ea]at this;omega
    rcases List.mem_cons.1 b with eb|b
    ·have:=hz _ a;rw[←eb]at this;omega
    exact ih (List.pairwise_cons.1 hm).2 a b
  rw[key h.rise ho h1]
def likeO(a b:Of):Prop:=a.ow=b.ow∧a.sl=b.sl∧a.bu=b.bu∧a.nu=b.nu∧a.de=b.de
theorem aQv{l:List Of}{N:Int}(h:BInv l N){s n:Int}{o:Of}(hf:aBb l s=some o)(h1:1≤n)(h2:n≤o.lf){t:Int}{x:Of}(hx:aBb (aDu l s n) t=some x):∃y,aBb l t=some y∧likeO y x:=by
 obtain⟨hm,hs⟩:=aCc hx;rw[take_facts h hf h1 h2]at hm;obtain⟨_,y,hy,hor⟩:=aLe hm;rcases hor with rfl|⟨_,rfl⟩
 ·exact⟨x,by rw[←hs];exact aJ6 h hy,rfl,rfl,rfl,rfl,rfl⟩
 exact⟨y,by rw[←hs];exact aJ6 h hy,rfl,rfl,rfl,rfl,rfl⟩
def flBy(l0:List Of)(tk pt:Int)(f:Fl)(p c:Int):Int:=match aBb l0 f.se with
 | none=>0
 | some o=>aMm o tk pt f.got f.gi p c
structure aE1(ps:List Int)(ls0:List Ln)(l0:List Of)(N tk pt get give n0:Int)(σ:SwS):Prop where
 linv:LInv ps σ.ls
 binv:BInv σ.l N
 lim:limL σ.ls=limL ls0
 like:∀s o,aBb σ.l s=some o→∃y,aBb l0 s=some y∧likeO y o
 fs:∀f∈σ.fs,∃o,aBb l0 f.se=some o∧o.sl=get∧o.bu=give∧o.ow≠tk∧o.ow∈ps∧(1≤f.got∧f.got≤1099511627776)∧1≤f.gi∧f.gi≤1099511627776
 sum:(σ.fs.map Fl.got).sum+σ.n=n0
 pos:∀p c,posL σ.ls p c=posL ls0 p c+(σ.fs.map fun f=>flBy l0 tk pt f p c).sum
theorem aE1.start{ps:List Int}{ls0:List Ln}{l0:List Of}{N tk pt get give n0:Int}(hI:LInv ps ls0)(hJ:BInv l0 N):aE1 ps ls0 l0 N tk pt get give n0 ⟨ls0,l0,[],n0⟩:=
 ⟨hI,hJ,rfl,fun s o h=>⟨o,h,rfl,rfl,rfl,rfl,rfl⟩,fun f hf=>(by cases hf),(by simp),fun p c=>(by simp)⟩
theorem aE1.step{ps:List Int}{ls0:List Ln}{l0:List Of}{N tk pt get give n0:Int}{σ:SwS}(h:aE1 ps ls0 l0 N tk pt get give n0 σ){s k:Int}(hf:aAx ps σ.ls σ.l tk pt σ.n 1099511627776 (aC1 σ.l get give)=some (s,k)):
  1≤k∧k≤σ.n∧okS ps σ.ls σ.l tk pt k s∧(∃o,aBb σ.l s=some o∧o∈aC1 σ.l get give∧k≤o.lf)∧aE1 ps ls0 l0 N tk pt get give n0 (aMq ps tk pt σ s k):=by
 obtain⟨h1,h2,o,h3,rfl⟩:=aIl hf;obtain⟨hm,hsl,hbu⟩:=aJd h.binv h3;have hfo:=aJ6 h.binv hm;obtain⟨ok,hle⟩:=may_okS h.linv h2 (by omega);have hG:=goesS h.linv o tk pt;have hG':∀o',aBb σ.l o.se=some o'→Goes ps σ.ls o' tk pt (aJc ps σ.ls o.sl o.ow pt) (aJc ps σ.ls o.bu tk o.ow):=fun o' ho'=>by rw[hfo]at ho';cases ho';exact hG
 have hd:=(aMp h.linv hG').2 ok;obtain⟨o',ho',⟨k1,k2,k3,k4⟩,k5,_,_⟩:=hd.facts;rw[hfo]at ho'
 cases ho'
 obtain⟨f1,f2,f3,f4,f5⟩:=aKq h.linv h.binv hfo hG hd rfl (aHm h.linv o tk pt k (upN (k*o.nu) o.de));obtain⟨_,_,_,_,⟨l1,l2⟩,_⟩:=h.binv.may o hm;obtain⟨y,hy,y1,y2,y3,y4,y5⟩:=h.like o.se o hfo;refine⟨by omega,hle,ok,⟨o,hfo,h3,k5⟩,?_⟩
 have e:aMq ps tk pt σ o.se k=⟨aCx ps σ.ls o tk pt k (upN (k*o.nu) o.de),aDu σ.l o.se k,σ.fs++[⟨o.se,k,upN (k*o.nu) o.de⟩],σ.n - k⟩:=by
  unfold aMq;rw[hfo]
 rw[e];refine⟨aMo h.linv _ _ _ _ _,h.binv.take _ _,f1.symm.trans h.lim,fun t x hx=>?_,fun f hf=>?_,?_,fun p c=>?_⟩
 ·obtain⟨z,hz,z1,z2,z3,z4,z5⟩:=aQv h.binv hfo (by omega) k5 hx;obtain⟨v,hv,v1,v2,v3,v4,v5⟩:=h.like t z hz;exact⟨v,hv,v1.trans z1,v2.trans z2,v3.trans z3,v4.trans z4,v5.trans z5⟩
 ·rcases List.mem_append.1 hf with hf|hf
  ·exact h.fs f hf
  rw[List.mem_singleton]at hf;subst hf;exact⟨y,hy,by rw[y2,hsl],by rw[y3,hbu],by rw[y1];exact k1,by rw[y1];exact k2,⟨by show 1≤k;omega,by show k≤1099511627776;omega⟩,f3,f4⟩
 ·have:=h.sum;simp only[List.map_append,List.map_cons,List.map_nil,List.sum_append,List.sum_cons,List.sum_nil];omega
 show posL (aCx ps σ.ls o tk pt k (upN (k*o.nu) o.de)) p c=_;rw[f2 p c,h.pos p c];simp only[List.map_append,List.map_cons,List.map_nil,List.sum_append,List.sum_cons,List.sum_nil]
 have e2:flBy l0 tk pt ⟨o.se,k,upN (k*o.nu) o.de⟩ p c=aMm o tk pt k (upN (k*o.nu) o.de) p c:=by
  unfold flBy;simp only[hy];unfold aMm;rw[y1,y2,y3]
 rw[e2];omega
theorem aE1.ends{ps:List Int}{ls0:List Ln}{l0:List Of}{N tk pt get give n0:Int}:∀(fuel:Nat) {σ:SwS},aE1 ps ls0 l0 N tk pt get give n0 σ→aE1 ps ls0 l0 N tk pt get give n0 (aB3 ps tk pt get give fuel σ).2
 | fuel,σ,h=>by
  by_cases hn:σ.n≤0
  ·rw[aHn hn];exact h
  cases hf:aAx ps σ.ls σ.l tk pt σ.n 1099511627776 (aC1 σ.l get give)with
  | none=>rw[aHo hn hf];exact h
  | some sk=>
   obtain⟨s,k⟩:=sk
   by_cases hl:σ.fs.length=64
   ·rw[aHp hn hf hl];exact h
   cases fuel with
   | zero=>
    have e:aB3 ps tk pt get give 0 σ=(13,σ):=by
     unfold aB3;rw[if_neg hn,hf];simp only[];rw[if_neg hl]
    rw[e];exact h
   | succ fuel=>rw[aHq hn hf hl];exact aE1.ends fuel (h.step hf).2.2.2.2
theorem aE1.got_nn{ps:List Int}{ls0:List Ln}{l0:List Of}{N tk pt get give n0:Int}{σ:SwS}(h:aE1 ps ls0 l0 N tk pt get give n0 σ):0≤(σ.fs.map Fl.got).sum:=by
 have key:∀l:List Fl,(∀f∈l,1≤f.got)→0≤(l.map Fl.got).sum:=by
  intro l
  induction l with
  | nil=>intro _;simp
  | cons x l ih=>
   intro hx;have a:=hx x List.mem_cons_self;have b:=ih (fun y hy=>hx y (List.mem_cons_of_mem _ hy));rw[List.map_cons,List.sum_cons];omega
 exact key _ (fun f hf=>by obtain⟨o,_,_,_,_,_,a,_⟩:=h.fs f hf;exact a.1)
theorem aE1.given_bd{ps:List Int}{ls0:List Ln}{l0:List Of}{N tk pt get give n0:Int}{σ:SwS}(h:aE1 ps ls0 l0 N tk pt get give n0 σ):0≤(σ.fs.map Fl.gi).sum∧(σ.fs.map Fl.gi).sum≤1099511627776*(σ.fs.length:Int):=by
 have key:∀l:List Fl,(∀f∈l,1≤f.gi∧f.gi≤1099511627776)→0≤(l.map Fl.gi).sum∧(l.map Fl.gi).sum≤1099511627776*(l.length:Int):=by
  intro l
  induction l with
  | nil=>intro _;simp
  | cons x l ih=>
   intro hx;have a:=hx x List.mem_cons_self;have b:=ih (fun y hy=>hx y (List.mem_cons_of_mem _ hy));rw[List.map_cons,List.sum_cons,List.length_cons]
   constructor <;> omega
 exact key _ (fun f hf=>by obtain⟨o,_,_,_,_,_,_,a,b⟩:=h.fs f hf;exact⟨a,b⟩)
def okO(nx:Int)(l:List Of):Prop:=l.Pairwise (fun x y=>x.se<y.se)∧∀x∈l,x.may∧x.se≠0∧x.se<nx
theorem aNq{P:Program}{w w':World}{o:Oper}{a:Act}{K:Act→World→Prop}{Q:Exit→Act→World→Prop}(y x:Operand)(t:TypeId){u v v':Value}
  (ho:o.op=.call { callee:=.builtin .append,args:=#[y,x],argTypes:=#[t,t] })(hy:a.eval y=u)(hx:a.eval x=v)
  (hr:(Builtin.append_ #[t,t] o.type #[u,v]).run P w=.ok v' w')(h:K (a.put o.dst v') w'):o.wp P a w K Q:=by
 unfold Oper.wp execOp;simp only[ho,resolve,invoke,builtin,Sem.run_bind,Sem.run_pure,Result.andThen_ok,List.map_toArray,List.map_cons,List.map_nil,hy,hx,hr];exact h
def aC2(l:List Of)(x:Of):Int:=if ¬x.may then 1 else if l.length=32∨x.se=18446744073709551615 then 9 else 0
def aFs(l:List Of)(x:Of):Int:=if aC2 l x=0 then x.se else 0
def aFd(l:List Of)(x:Of):List Of:=if aC2 l x=0 then l++[x]else l
def aE2(l:List Of)(x:Of):Int:=if aC2 l x=0 then x.se+1 else x.se
def agO(l:List Of)(sl bu nu de:Int):List Of:=(aC1 l bu sl).takeWhile fun x=>decide (cmpR x.nu x.de de nu≤0)
theorem mayB_turn{n d:Int}(h:mayB n d=true):mayB d n=true:=by
 obtain⟨h1,h2,h3,h4,h5⟩:=aE0 h;exact decide_eq_true ⟨h2,h1,h4,h3,by rw[Int.gcd_comm];exact h5⟩
theorem cmp_le{a b n d:Int}(h1:mayB a b=true)(h2:mayB n d=true):cmpR a b d n≤0↔a*n≤d*b:=by
 rw[aLf h1 (mayB_turn h2)];unfold cmpI;split
 ·constructor <;> intro <;> omega
 split
 ·constructor <;> intro <;> omega
 constructor <;> intro <;> omega
theorem mem_ag{l:List Of}{N:Int}(h:BInv l N){sl bu nu de:Int}{o:Of}(ho:o∈agO l sl bu nu de):o∈l∧o.sl=bu∧o.bu=sl∧cmpR o.nu o.de de nu≤0:=by
 have h1:=aF6 ho;obtain⟨a,b,c⟩:=aJd h ((List.takeWhile_sublist _).subset ho);exact⟨a,b,c,by simpa using h1⟩
theorem rate_more{k a b nu de:Int}(h1:mayB a b=true)(h2:mayB nu de=true)(hc:cmpR a b de nu≤0)(hk:1≤k):(upN (k*a) b - 1)*nu<k*de:=by
 have q:=(cmp_le h1 h2).1 hc;have d1:=aE0 h1;have d2:=aE0 h2
 have hu:(upN (k*a) b - 1)*b<k*a:=by
  have e:=Int.emod_add_mul_ediv (k*a) b;have e0:=Int.emod_nonneg (k*a) (show b≠0 by omega);unfold upN;split
  ·rename_i hz;rw[hz]at e;have:(k*a/b - 1)*b=b*(k*a/b) - b:=by rw[Int.sub_mul,Int.mul_comm,Int.one_mul]
   omega
  rename_i hz;have:(k*a/b+1 - 1)*b=b*(k*a/b):=by rw[Int.add_sub_cancel,Int.mul_comm]
  omega
 have s1:(upN (k*a) b - 1)*b*nu<k*a*nu:=Int.mul_lt_mul_of_pos_right hu (by omega);have s2:k*(a*nu)≤k*(de*b):=Int.mul_le_mul_of_nonneg_left q (by omega)
 have s3:((upN (k*a) b - 1)*nu)*b<(k*de)*b:=by
  have e1:((upN (k*a) b - 1)*nu)*b=(upN (k*a) b - 1)*b*nu:=by rw[Int.mul_right_comm]
  have e2:(k*de)*b=k*(de*b):=by rw[Int.mul_assoc]
  have e3:k*a*nu=k*(a*nu):=by rw[Int.mul_assoc]
  rw[e1,e2];omega
 exact Int.lt_of_mul_lt_mul_right s3 (by omega)
noncomputable def aS8(ps:List Int)(ow:Int)(σ:SwS)(s k:Int):SwS:=match aBb σ.l s with
 | none=>σ
 | some o=>⟨aCx ps σ.ls o ow ow k (upN (k*o.nu) o.de),aDu σ.l s k,σ.fs++[⟨s,k,upN (k*o.nu) o.de⟩],σ.n - upN (k*o.nu) o.de⟩
noncomputable def aB1(ps:List Int)(ow sl bu nu de:Int):Nat→SwS→Int×SwS
 | fuel,σ=>if σ.n≤0 then(0,σ)else match aAx ps σ.ls σ.l ow ow 1099511627776 σ.n (agO σ.l sl bu nu de)with
  | none=>(0,σ)
  | some (s,k)=>if σ.fs.length=64 then(13,σ)else match fuel with
   | 0=>(13,σ)
   | f+1=>aB1 ps ow sl bu nu de f (aS8 ps ow σ s k)
theorem aIm{ps:List Int}{ow sl bu nu de:Int}{fuel:Nat}{σ:SwS}(h:σ.n≤0):aB1 ps ow sl bu nu de fuel σ=(0,σ):=by
 cases fuel <;> (unfold aB1;rw[if_pos h])
theorem aIn{ps:List Int}{ow sl bu nu de:Int}{fuel:Nat}{σ:SwS}(h:¬σ.n≤0)(hf:aAx ps σ.ls σ.l ow ow 1099511627776 σ.n (agO σ.l sl bu nu de)=none):aB1 ps ow sl bu nu de fuel σ=(0,σ):=by
 cases fuel <;> (unfold aB1;rw[if_neg h,hf])
theorem aF7{ps:List Int}{ow sl bu nu de:Int}{fuel:Nat}{σ:SwS}{s k:Int}(h:¬σ.n≤0)(hf:aAx ps σ.ls σ.l ow ow 1099511627776 σ.n (agO σ.l sl bu nu de)=some (s,k))(hl:σ.fs.length=64):aB1 ps ow sl bu nu de fuel σ=(13,σ):=by
 cases fuel <;> (unfold aB1;rw[if_neg h,hf];simp only[];rw[if_pos hl])
theorem aMr{ps:List Int}{ow sl bu nu de:Int}{σ:SwS}{s k:Int}(h:¬σ.n≤0)(hf:aAx ps σ.ls σ.l ow ow 1099511627776 σ.n (agO σ.l sl bu nu de)=some (s,k)):aB1 ps ow sl bu nu de 0 σ=(13,σ):=by
 by_cases hl:σ.fs.length=64
 ·exact aF7 h hf hl
 unfold aB1;rw[if_neg h,hf];simp only[];rw[if_neg hl]
theorem aIo{ps:List Int}{ow sl bu nu de:Int}{fuel:Nat}{σ:SwS}{s k:Int}(h:¬σ.n≤0)(hf:aAx ps σ.ls σ.l ow ow 1099511627776 σ.n (agO σ.l sl bu nu de)=some (s,k))(hl:¬σ.fs.length=64):aB1 ps ow sl bu nu de (fuel+1) σ=aB1 ps ow sl bu nu de fuel (aS8 ps ow σ s k):=by
 conv=>lhs;unfold aB1
 rw[if_neg h,hf];simp only[];rw[if_neg hl]
noncomputable def aHr(N ow sl bu nu de:Int)(r:Int×SwS):Int×SwS×Int×Int:=
 if r.1≠0 then(r.1,r.2,N,0)else if r.2.n≤0 then(0,r.2,N,0)else
  (aC2 r.2.l ⟨N,ow,sl,bu,r.2.n,nu,de⟩,⟨r.2.ls,aFd r.2.l ⟨N,ow,sl,bu,r.2.n,nu,de⟩,r.2.fs,r.2.n⟩,aE2 r.2.l ⟨N,ow,sl,bu,r.2.n,nu,de⟩,aFs r.2.l ⟨N,ow,sl,bu,r.2.n,nu,de⟩)
noncomputable def aBz(ps:List Int)(ls:List Ln)(l:List Of)(N ow sl bu lf nu de:Int):Int×SwS×Int×Int:=
 if ¬(Of.mk 0 ow sl bu lf nu de).may then(1,⟨ls,l,[],lf⟩,N,0)else if ow∉ps then(7,⟨ls,l,[],lf⟩,N,0)else
  aHr N ow sl bu nu de (aB1 ps ow sl bu nu de 64 ⟨ls,l,[],lf⟩)
structure aF8(ps:List Int)(ls0:List Ln)(l0:List Of)(N ow sl bu nu de n0:Int)(σ:SwS):Prop where
 linv:LInv ps σ.ls
 binv:BInv σ.l N
 lim:limL σ.ls=limL ls0
 like:∀s o,aBb σ.l s=some o→∃y,aBb l0 s=some y∧likeO y o
 fs:∀f∈σ.fs,∃o,aBb l0 f.se=some o∧o.sl=bu∧o.bu=sl∧o.ow≠ow∧o.ow∈ps∧cmpR o.nu o.de de nu≤0∧(1≤f.got∧f.got≤1099511627776)∧(1≤f.gi∧f.gi≤1099511627776)∧f.gi=upN (f.got*o.nu) o.de∧mayB o.nu o.de=true
 sum:(σ.fs.map Fl.gi).sum+σ.n=n0
 nn:0≤σ.n
 len:σ.fs.length≤64
 pos:∀p c,posL σ.ls p c=posL ls0 p c+(σ.fs.map fun f=>flBy l0 ow ow f p c).sum
theorem aF8.start{ps:List Int}{ls0:List Ln}{l0:List Of}{N ow sl bu nu de n0:Int}(hI:LInv ps ls0)(hJ:BInv l0 N)(hn:0≤n0):aF8 ps ls0 l0 N ow sl bu nu de n0 ⟨ls0,l0,[],n0⟩:=
 ⟨hI,hJ,rfl,fun s o h=>⟨o,h,rfl,rfl,rfl,rfl,rfl⟩,fun f hf=>(by cases hf),(by simp),hn,(by simp),fun p c=>(by simp)⟩
theorem aF8.step{ps:List Int}{ls0:List Ln}{l0:List Of}{N ow sl bu nu de n0:Int}{σ:SwS}(h:aF8 ps ls0 l0 N ow sl bu nu de n0 σ){s k:Int}(hf:aAx ps σ.ls σ.l ow ow 1099511627776 σ.n (agO σ.l sl bu nu de)=some (s,k)):
  1≤k∧k≤1099511627776∧okS ps σ.ls σ.l ow ow k s∧∃o,aBb σ.l s=some o∧o∈agO σ.l sl bu nu de∧k≤o.lf∧1≤upN (k*o.nu) o.de∧upN (k*o.nu) o.de≤σ.n∧
   aS8 ps ow σ s k=⟨aCx ps σ.ls o ow ow k (upN (k*o.nu) o.de),aDu σ.l s k,σ.fs++[⟨s,k,upN (k*o.nu) o.de⟩],σ.n - upN (k*o.nu) o.de⟩∧
   (¬σ.fs.length=64→aF8 ps ls0 l0 N ow sl bu nu de n0 (aS8 ps ow σ s k)):=by
 obtain⟨h1,h2,o,h3,rfl⟩:=aIl hf;obtain⟨hm,hsl,hbu,hcm⟩:=mem_ag h.binv h3;have hfo:=aJ6 h.binv hm;obtain⟨ok,hle⟩:=may_okS h.linv h2 (by omega);have hG:=goesS h.linv o ow ow;have hG':∀o',aBb σ.l o.se=some o'→Goes ps σ.ls o' ow ow (aJc ps σ.ls o.sl o.ow ow) (aJc ps σ.ls o.bu ow o.ow):=fun o' ho'=>by rw[hfo]at ho';cases ho';exact hG
 have hd:=(aMp h.linv hG').2 ok;obtain⟨o',ho',⟨k1,k2,k3,k4⟩,k5,_,_⟩:=hd.facts;rw[hfo]at ho'
 cases ho'
 obtain⟨f1,f2,f3,f4,f5⟩:=aKq h.linv h.binv hfo hG hd rfl (aHm h.linv o ow ow k (upN (k*o.nu) o.de));obtain⟨_,_,_,_,⟨l1,l2⟩,hmr⟩:=h.binv.may o hm;obtain⟨y,hy,y1,y2,y3,y4,y5⟩:=h.like o.se o hfo
 -- what is given is no more than what is left
 have hb1:=mostS_bd h.linv o.sl o.ow ow;have hb2:=mostS_bd h.linv o.bu ow o.ow;have hmd:=may_do hb1.1 hb2.1 (by rw[aPa h.linv hG'];exact h2.symm) (show 1≤k by omega);obtain⟨_,_,hn1,o2,ho2,hfit⟩:=hmd;rw[hfo]at ho2
 cases ho2
 have hup:=(aS6 hmr (g:=min (min σ.n 1099511627776) (aJc ps σ.ls o.bu ow o.ow)) (by omega) (by omega) (show 0≤k by omega) hfit).2.2
 have e:aS8 ps ow σ o.se k=⟨aCx ps σ.ls o ow ow k (upN (k*o.nu) o.de),aDu σ.l o.se k,σ.fs++[⟨o.se,k,upN (k*o.nu) o.de⟩],σ.n - upN (k*o.nu) o.de⟩:=by
  unfold aS8;rw[hfo]
 refine⟨by omega,hle,ok,o,hfo,h3,k5,f3,by omega,e,fun hl=>?_⟩;rw[e];refine⟨aMo h.linv _ _ _ _ _,h.binv.take _ _,f1.symm.trans h.lim,fun t x hx=>?_,fun f hf=>?_,?_,?_,?_,fun p c=>?_⟩
 ·obtain⟨z,hz,z1,z2,z3,z4,z5⟩:=aQv h.binv hfo (by omega) k5 hx;obtain⟨v,hv,v1,v2,v3,v4,v5⟩:=h.like t z hz;exact⟨v,hv,v1.trans z1,v2.trans z2,v3.trans z3,v4.trans z4,v5.trans z5⟩
 ·rcases List.mem_append.1 hf with hf|hf
  ·exact h.fs f hf
  rw[List.mem_singleton]at hf;subst hf;exact⟨y,hy,by rw[y2,hsl],by rw[y3,hbu],by rw[y1];exact k1,by rw[y1];exact k2,by rw[y4,y5];exact hcm,⟨by show 1≤k;omega,by show k≤1099511627776;omega⟩,⟨f3,f4⟩,by rw[y4,y5],by rw[y4,y5];exact hmr⟩
 ·have:=h.sum;simp only[List.map_append,List.map_cons,List.map_nil,List.sum_append,List.sum_cons,List.sum_nil];omega
 ·show 0≤σ.n - upN (k*o.nu) o.de;omega
 ·have:=h.len;rw[List.length_append,List.length_singleton];omega
 show posL (aCx ps σ.ls o ow ow k (upN (k*o.nu) o.de)) p c=_;rw[f2 p c,h.pos p c];simp only[List.map_append,List.map_cons,List.map_nil,List.sum_append,List.sum_cons,List.sum_nil]
 have e2:flBy l0 ow ow ⟨o.se,k,upN (k*o.nu) o.de⟩ p c=aMm o ow ow k (upN (k*o.nu) o.de) p c:=by
  unfold flBy;simp only[hy];unfold aMm;rw[y1,y2,y3]
 rw[e2];omega
theorem aOa{ps:List Int}{ow sl bu nu de:Int}(C:SwS→Prop)(hs:∀σ s k,C σ→¬σ.n≤0→aAx ps σ.ls σ.l ow ow 1099511627776 σ.n (agO σ.l sl bu nu de)=some (s,k)→¬σ.fs.length=64→C (aS8 ps ow σ s k)):∀(fuel:Nat) {σ:SwS},C σ→C (aB1 ps ow sl bu nu de fuel σ).2
 | fuel,σ,h=>by
  by_cases hn:σ.n≤0
  ·rw[aIm hn];exact h
  cases hf:aAx ps σ.ls σ.l ow ow 1099511627776 σ.n (agO σ.l sl bu nu de)with
  | none=>rw[aIn hn hf];exact h
  | some sk=>
   obtain⟨s,k⟩:=sk
   by_cases hl:σ.fs.length=64
   ·rw[aF7 hn hf hl];exact h
   cases fuel with
   | zero=>rw[aMr hn hf];exact h
   | succ fuel=>rw[aIo hn hf hl];exact aOa C hs fuel (hs σ s k h hn hf hl)
theorem aF8.ends{ps:List Int}{ls0:List Ln}{l0:List Of}{N ow sl bu nu de n0:Int}(fuel:Nat){σ:SwS}(h:aF8 ps ls0 l0 N ow sl bu nu de n0 σ):aF8 ps ls0 l0 N ow sl bu nu de n0 (aB1 ps ow sl bu nu de fuel σ).2:=by
 refine aOa (fun σ=>aF8 ps ls0 l0 N ow sl bu nu de n0 σ) (fun σ s k hc hn hf hl=>?_) fuel h;obtain⟨_,_,_,_,_,_,_,_,_,_,q⟩:=hc.step hf;exact q hl
theorem aQw{ps:List Int}{ow sl bu nu de:Int}:∀(fuel:Nat) {σ σ':SwS},aB1 ps ow sl bu nu de fuel σ=(0,σ')→σ'.n≤0∨aAx ps σ'.ls σ'.l ow ow 1099511627776 σ'.n (agO σ'.l sl bu nu de)=none
 | fuel,σ,σ',h=>by
  by_cases hn:σ.n≤0
  ·rw[aIm hn]at h;obtain rfl:=(Prod.mk.inj h).2;exact .inl hn
  cases hf:aAx ps σ.ls σ.l ow ow 1099511627776 σ.n (agO σ.l sl bu nu de)with
  | none=>
   rw[aIn hn hf]at h;obtain rfl:=(Prod.mk.inj h).2;exact .inr hf
  | some sk=>
   obtain⟨s,k⟩:=sk
   by_cases hl:σ.fs.length=64
   ·rw[aF7 hn hf hl]at h;exact absurd (Prod.mk.inj h).1 (by decide)
   cases fuel with
   | zero=>rw[aMr hn hf]at h;exact absurd (Prod.mk.inj h).1 (by decide)
   | succ fuel=>rw[aIo hn hf hl]at h;exact aQw fuel h
theorem aF8.gi_nn{ps:List Int}{ls0:List Ln}{l0:List Of}{N ow sl bu nu de n0:Int}{σ:SwS}(h:aF8 ps ls0 l0 N ow sl bu nu de n0 σ):0≤(σ.fs.map Fl.gi).sum:=by
 have key:∀l:List Fl,(∀f∈l,1≤f.gi)→0≤(l.map Fl.gi).sum:=by
  intro l
  induction l with
  | nil=>intro _;simp
  | cons x l ih=>
   intro hx;have a:=hx x List.mem_cons_self;have b:=ih (fun y hy=>hx y (List.mem_cons_of_mem _ hy));rw[List.map_cons,List.sum_cons];omega
 exact key _ (fun f hf=>by obtain⟨o,_,_,_,_,_,_,_,a,_⟩:=h.fs f hf;exact a.1)
structure aQx(ps:List Int)(ls:List Ln)(l:List Of)(N ow sl bu lf nu de:Int)(σ:SwS)(N' sq:Int)(τ:SwS):Prop where
 may:(Of.mk 0 ow sl bu lf nu de).may
 part:ow∈ps
 inv:aF8 ps ls l N ow sl bu nu de lf τ
 is:aB1 ps ow sl bu nu de 64 ⟨ls,l,[],lf⟩=(0,τ)
 ends:(τ.n=0∧σ=τ∧N'=N∧sq=0)∨(1≤τ.n∧aAx ps τ.ls τ.l ow ow 1099511627776 τ.n (agO τ.l sl bu nu de)=none∧aC2 τ.l ⟨N,ow,sl,bu,τ.n,nu,de⟩=0∧σ=⟨τ.ls,τ.l++[⟨N,ow,sl,bu,τ.n,nu,de⟩],τ.fs,τ.n⟩∧N'=N+1∧sq=N)
theorem aMs{ps:List Int}{ls:List Ln}{l:List Of}{N ow sl bu lf nu de:Int}{σ:SwS}{N' sq:Int}(hI:LInv ps ls)(hJ:BInv l N)(h:aBz ps ls l N ow sl bu lf nu de=(0,σ,N',sq)):∃τ,aQx ps ls l N ow sl bu lf nu de σ N' sq τ:=by
 unfold aBz at h
 by_cases hm:(Of.mk 0 ow sl bu lf nu de).may
 ·rw[if_neg (fun q=>q hm)]at h
  by_cases hp:ow∉ps
  ·rw[if_pos hp]at h;exact absurd (congrArg Prod.fst h) (by show ¬(7:Int)=0;decide)
  rw[if_neg hp]at h;obtain⟨r,hr⟩:∃r,aB1 ps ow sl bu nu de 64 ⟨ls,l,[],lf⟩=r:=⟨_,rfl⟩;obtain⟨e,τ⟩:=r;have hinv:=aF8.ends (ow:=ow) (sl:=sl) (bu:=bu) (nu:=nu) (de:=de) 64 (aF8.start hI hJ (ow:=ow) (sl:=sl) (bu:=bu) (nu:=nu) (de:=de) (n0:=lf) (by have:=hm.2.2.2.2.1.1;show 0≤lf;exact Int.le_trans (by decide) this));rw[hr]at h hinv;unfold aHr at h
  by_cases he:e=0
  ·subst he;rw[if_neg (by simp)]at h;refine⟨τ,hm,Decidable.not_not.1 hp,hinv,hr,?_⟩;have hnn:=hinv.nn
   by_cases hz:τ.n≤0
   ·rw[if_pos hz]at h;obtain⟨_,h2⟩:=Prod.mk.inj h;obtain⟨h3,h4⟩:=Prod.mk.inj h2;obtain⟨h5,h6⟩:=Prod.mk.inj h4;exact .inl ⟨by show τ.n=0;have q:0≤τ.n:=hnn;omega,h3.symm,h5.symm,h6.symm⟩
   rw[if_neg hz]at h;obtain⟨h1,h2⟩:=Prod.mk.inj h;obtain⟨h3,h4⟩:=Prod.mk.inj h2;obtain⟨h5,h6⟩:=Prod.mk.inj h4;have h1':aC2 τ.l ⟨N,ow,sl,bu,τ.n,nu,de⟩=0:=h1;rcases aQw 64 hr with q|q
   ·exact absurd q hz
   refine .inr ⟨by omega,q,h1',?_,?_,?_⟩
   ·rw[←h3];show _=_;simp only[aFd,h1',if_true]
   ·rw[←h5];show aE2 τ.l _=_;unfold aE2;rw[if_pos h1']
   rw[←h6];show aFs τ.l _=_;unfold aFs;rw[if_pos h1']
  rw[if_pos (by simpa using he)]at h;exact absurd (congrArg Prod.fst h) (by simpa using he)
 rw[if_pos hm]at h;exact absurd (congrArg Prod.fst h) (by show ¬(1:Int)=0;decide)
theorem aQx.rate{ps:List Int}{ls:List Ln}{l:List Of}{N ow sl bu lf nu de:Int}{σ:SwS}{N' sq:Int}{τ:SwS}(h:aQx ps ls l N ow sl bu lf nu de σ N' sq τ){f:Fl}(hf:f∈τ.fs):(f.gi - 1)*nu<f.got*de:=by
 obtain⟨o,_,_,_,_,_,hc,⟨g1,_⟩,_,e,hm⟩:=h.inv.fs f hf;rw[e];exact rate_more hm h.may.2.2.2.2.2 hc g1
theorem aG6{P:Program}{ops:Array Oper}{o:Oper}{a:Act}{w:World}{K:Act→World→Prop}{Q:Exit→Act→World→Prop}{E:Prop}
  (hg:o.guard=none)(s x:Operand)(t:TypeId)(hop:o.op=Op.call { callee:=Callee.builtin Builtin.append,args:=#[s,x],argTypes:=#[t,t] })
  (base:Nat)(e:TypeId){z:Value}(ht:P.underlying t=some (.slice e))(hz0:z.cells.size=7)(hi:(P.info? e).map (fun i=>(i.zero,i.size,i.bytes))=some (some z,7,40))(v:Value)(l:List Of)(hs:a.eval s=v)(hown:w.ownsRow base e 7 v l.length (aAb l))
  (g c:Nat)(y:Of)(hx:a.eval x=.slice (some ⟨g,0,none⟩) 1 c)(hy:Blk w g #[.int .u64 y.se,.int .u8 y.ow,.int .u8 y.sl,.int .u8 y.bu,.int .i64 y.lf,.int .i64 y.nu,.int .i64 y.de] e)(hlen:l.length≤100000)(hbase:base≤w.heap.size)
  (hK:∀v' w',w'.ownsRow base e 7 v' (l++[y]).length (aAb (l++[y]))→w.grownBy w' v.ownBlock→(v'.ownBlock=v.ownBlock∨v'.ownBlock=some w.heap.size)→K (a.put o.dst v') w'):
  if Region.wanted o (yielded ops a.tmps)=true then Oper.wp P o a w K Q else E:=by
 have hw:Region.wanted o (yielded ops a.tmps)=true:=by simp[Region.wanted,hg]
 rw[if_pos hw];obtain⟨i0,hi1,hi2,hi3,hi4⟩:=info_parts hi
 obtain⟨v',w',hr,h2,h3,_,h5⟩:=run_append_own_at (P:=P) w base t o.type e i0 z 7 40 ht hi1 hi2 hi3 hi4 hz0 (by decide) v l.length (aAb l) hown ⟨g,0,none⟩ 1 c y.vals rfl (fun j u hj=>by
   have:=hy.cell j;rw[Go.WideShapes.add_plain,Nat.zero_add,this]
   match j,hj with
   | 0,hj=>simpa [Of.vals]using hj
   | 1,hj=>simpa [Of.vals]using hj
   | 2,hj=>simpa [Of.vals]using hj
   | 3,hj=>simpa [Of.vals]using hj
   | 4,hj=>simpa [Of.vals]using hj
   | 5,hj=>simpa [Of.vals]using hj
   | 6,hj=>simpa [Of.vals]using hj
   | j+7,hj=>simp[Of.vals]at hj) (by intro u hu;simp[Of.vals]at hu;rcases hu with rfl|rfl|rfl|rfl|rfl|rfl|rfl <;> rfl) (by unfold maxLen;omega) (by omega) hbase
 rw[←aIb,←aA9]at h2;refine aNq s x t hop hs hx hr ?_;exact hK v' w' (by rw[List.length_append];exact h2) h3 h5
theorem BInv.place{l:List Of}{x:Of}(h:BInv l x.se):BInv (aFd l x) (aE2 l x):=by
 unfold aFd aE2
 by_cases e:aC2 l x=0
 ·rw[if_pos e,if_pos e];unfold aC2 at e;split at e
  ·simp at e
  rename_i hm;have hm:=Decidable.not_not.1 hm;split at e
  ·simp at e
  rename_i h2;have:=h.len;have:=h.n1;have:=h.n2;have hl:l.length≠32:=fun k=>h2 (.inl k)
  have hs:x.se≠18446744073709551615:=fun k=>h2 (.inr k)
  refine⟨fun y hy=>?_,?_,fun y hy=>?_,by rw[List.length_append,List.length_singleton];omega,by omega,by omega⟩
  ·rcases List.mem_append.1 hy with hy|hy
   ·exact h.may y hy
   rw[List.mem_singleton]at hy;rw[hy];exact hm
  ·rw[List.pairwise_append];refine⟨h.rise,by simp,fun a ha b hb=>?_⟩;rw[List.mem_singleton]at hb;rw[hb];exact(h.bd a ha).2
  rcases List.mem_append.1 hy with hy|hy
  ·have:=h.bd y hy;omega
  rw[List.mem_singleton]at hy;rw[hy];omega
 rw[if_neg e,if_neg e];exact h
theorem PB.setN{w:World}{base g:Nat}{l:List Of}{N:Int}{vl:Value}(h:PB w base g l N vl)(M:Int):PB (w.setCell ⟨g,1,none⟩ (.int .u64 M)) base g l M vl:=by
 have k2:Keep (·=g) w (w.setCell ⟨g,1,none⟩ (.int .u64 M)):=Keep.setCell (S:=(·=g)) (Keep.refl _ _) (p:=⟨g,1,none⟩) (.inl rfl) _;exact⟨by simpa using h.blk.set 1 (.int .u64 M),h.ge,aBq h.row k2 (fun b hb e=>h.apart b hb e)⟩
theorem appended{W w':World}{base g cap:Nat}{ao:Option Addr}{l:List Of}{x:Of}{N:Int}{c:Obj}{v':Value}(h:PB W base g l N (.slice ao l.length cap))(ho:w'.ownsRow base 197 7 v' (l++[x]).length (aAb (l++[x])))
  (hgr:(W.drew.alloc c).grownBy w' (Value.ownBlock (.slice ao l.length cap)))(hat:v'.ownBlock=Value.ownBlock (.slice ao l.length cap)∨v'.ownBlock=some (W.drew.alloc c).heap.size):
  Blk w' g #[.slice ao l.length cap,.int .u64 N] 158∧(PB (w'.setCell ⟨g,0,none⟩ v') base g (l++[x]) N v'∧(Keep (Foot g (.slice ao l.length cap)) W (w'.setCell ⟨g,0,none⟩ v')∧aEg W (.slice ao l.length cap) v')∧
   ∀{a:Nat} {cs:Array Value} {t:TypeId},Blk W a cs t→(¬Foot g (.slice ao l.length cap) a)→Blk (w'.setCell ⟨g,0,none⟩ v') a cs t):=by
 have hB:Blk w' g #[.slice ao l.length cap,.int .u64 N] 158:=Blk.grown ((h.blk.drew).alloc _) hgr (fun e=>(h.apart _ e) rfl);have k2:Keep (·=g) w' (w'.setCell ⟨g,0,none⟩ v'):=Keep.setCell (S:=(·=g)) (Keep.refl _ _) (p:=⟨g,0,none⟩) (.inl rfl) _;have k1:Keep (Foot g (.slice ao l.length cap)) W w':=((Keep.refl _ W).drew.alloc _).grown hgr (fun k hk=>.inl (.inr hk));have hgl:=h.blk.lt;have k3:=k1.trans (k2.mono fun k _ hk=>.inl hk);refine⟨hB,⟨by simpa using hB.set 0 v',h.ge,aBq ho k2 ?_⟩,⟨k3,?_⟩,fun ha hf=>ha.keep k3 hf⟩
 ·intro b hb e;rcases hat with q|q
  ·rw[hb]at q;exact h.apart b q.symm e
  rw[hb]at q;cases q;rw[←e]at hgl;simp at hgl;omega
 intro b hb;rcases hat with q|q
 ·exact .inl (by rw[←q];exact hb)
 rw[hb]at q;cases q;exact .inr (by simp)
theorem pplace_r1{W:World}{R:Nat}{x:Of}{pv:Value}(HN:Hid (∀w',Below W.heap.size W w'→Calls Tryz.prog 60 #[pv] w' fun e w''=>e=.returned (.int .u64 x.se)∧w'=w''))(KR:Hid (Blk W R #[.int .i64 x.nu,.int .i64 x.de] 73)){Q:Exit→Act→World→Prop}{c5 c6 c7 c8 c9 c10 c12 c13 c14 c15 c16 c17 c18 c19 c20 c21 c22 c23 c24 c25 c26 c27 c28 c29 c30 c31 c32 c33 c34 c35 c36 c37 c38 c39 c40 c41 c42 c43 c44 c45 c46 c47 c48 c49 c50 c51 c52 c53 c54 c55 c56 c57 c58 c59 c60 c61:Value}
  (hq:∀a w6,W.heap.size≤a→Blk w6 a #[.int .u64 x.se,.int .u8 x.ow,.int .u8 x.sl,.int .u8 x.bu,.int .i64 x.lf,.int .i64 x.nu,.int .i64 x.de] 197→Below W.heap.size W w6→Q .normal ⟨#[pv,(.int .u8 x.ow),(.int .u8 x.sl),(.int .u8 x.bu),(.int .i64 x.lf),c5,c6,c7,c8,c9,c10,(.pointer (some ⟨R,0,none⟩)),c12,c13,(.pointer (some ⟨a,0,none⟩)),pv,(.int .u64 x.se),(.int .u8 x.ow),(.int .u8 x.sl),(.int .u8 x.bu),(.int .i64 x.lf),(.agg #[.int .i64 x.nu,.int .i64 x.de]),(.agg #[.int .u64 x.se,.int .u8 x.ow,.int .u8 x.sl,.int .u8 x.bu,.int .i64 x.lf,.int .i64 x.nu,.int .i64 x.de]),c23,c24,c25,c26,c27,c28,c29,c30,c31,c32,c33,c34,c35,c36,c37,c38,c39,c40,c41,c42,c43,c44,c45,c46,c47,c48,c49,c50,c51,c52,c53,c54,c55,c56,c57,c58,c59,c60,c61],[]⟩ w6):
  Code.wp Tryz.prog (((Tryz.f243.body).bind (aE7 1)).getD .skip) Q ⟨#[pv,(.int .u8 x.ow),(.int .u8 x.sl),(.int .u8 x.bu),(.int .i64 x.lf),c5,c6,c7,c8,c9,c10,(.pointer (some ⟨R,0,none⟩)),c12,c13,c14,c15,c16,c17,c18,c19,c20,c21,c22,c23,c24,c25,c26,c27,c28,c29,c30,c31,c32,c33,c34,c35,c36,c37,c38,c39,c40,c41,c42,c43,c44,c45,c46,c47,c48,c49,c50,c51,c52,c53,c54,c55,c56,c57,c58,c59,c60,c61],[]⟩ W:=by
 conv=>arg 2;whnf
 have HQ:=yH hq;clear hq
 refine aA5 (by kernel_rfl) (fun g:Nat→Nat=>[pv,(.int .u64 x.se),(.int .u8 x.ow),(.int .u8 x.sl),(.int .u8 x.bu),(.int .i64 x.lf),(.agg #[.int .i64 x.nu,.int .i64 x.de]),(.agg #[.int .u64 x.se,.int .u8 x.ow,.int .u8 x.sl,.int .u8 x.bu,.int .i64 x.lf,.int .i64 x.nu,.int .i64 x.de]),(.pointer (some ⟨g 8,0,none⟩)),undef])
  (Lays W [(⟨8,9,(.cells #[.int .u64 0,.int .u8 0,.int .u8 0,.int .u8 0,.int .i64 0,.int .i64 0,.int .i64 0] 197),(.cells #[.int .u64 x.se,.int .u8 x.ow,.int .u8 x.sl,.int .u8 x.bu,.int .i64 x.lf,.int .i64 x.nu,.int .i64 x.de] 197)⟩:Spec)]) (by kernel_rfl) (fun _=>0) (Lays.start _ _ _) ?_
 intro AF hAF;simp only[yG,puts,Act.put,yA,yC,yF,yD,yE]at hAF;have hAF2:_=AF:=funext hAF;subst hAF2;clear hAF;refine⟨?_,?_⟩
 ·simp only[yG,aFm];refine⟨?_,?_,?_,?_,?_,?_,?_,?_,?_,?_,trivial⟩
  ·intro g D w' hD hW hC hI;refine⟨g,fun _ _ _=>rfl,?_⟩;with_reducible refine yO rfl ?_
   have HS:=yH (hI.step yZ (k:=0) (by rfl));clear hI hC hW hD;go_wp2_with fail;all_goals first|exact HS|exact⟨rfl,HS⟩|rfl
  ·intro g D w' hD hW hC hI;refine⟨g,fun _ _ _=>rfl,?_⟩;with_reducible refine yO rfl ?_
   have hS:=hI.below;have HI:=yH hI;have HC:=yH (HN.out w' hS);clear hI hS hC hW hD;go_wp2_with fail;refine HC.out.mono ?_;rintro e w'' ⟨rfl,rfl⟩;exact⟨rfl,HI.out.step yZ (by rfl)⟩
  ·intro g D w' hD hW hC hI;refine⟨g,fun _ _ _=>rfl,?_⟩;with_reducible refine yO rfl ?_
   have HS:=yH (hI.step yZ (k:=2) (by rfl));clear hI hC hW hD;go_wp2_with fail;all_goals first|exact HS|exact⟨rfl,HS⟩|rfl
  ·intro g D w' hD hW hC hI;refine⟨g,fun _ _ _=>rfl,?_⟩;with_reducible refine yO rfl ?_
   have HS:=yH (hI.step yZ (k:=3) (by rfl));clear hI hC hW hD;go_wp2_with fail;all_goals first|exact HS|exact⟨rfl,HS⟩|rfl
  ·intro g D w' hD hW hC hI;refine⟨g,fun _ _ _=>rfl,?_⟩;with_reducible refine yO rfl ?_
   have HS:=yH (hI.step yZ (k:=4) (by rfl));clear hI hC hW hD;go_wp2_with fail;all_goals first|exact HS|exact⟨rfl,HS⟩|rfl
  ·intro g D w' hD hW hC hI;refine⟨g,fun _ _ _=>rfl,?_⟩;with_reducible refine yO rfl ?_
   have HS:=yH (hI.step yZ (k:=5) (by rfl));clear hI hC hW hD;go_wp2_with fail;all_goals first|exact HS|exact⟨rfl,HS⟩|rfl
  ·intro g D w' hD hW hC hI;refine⟨g,fun _ _ _=>rfl,?_⟩;with_reducible refine yO rfl ?_
   have hS:=hI.below;have d0_0:=(KR.out.below hS KR.out.lt).cell 0;have d0_1:=(KR.out.below hS KR.out.lt).cell 1;simp at d0_0 d0_1;have HS:=yH (hI.step yZ (k:=6) (by rfl));clear hI hS hC hW hD;go_wp2_with fail;all_goals first|exact HS|exact⟨rfl,HS⟩|rfl
  ·intro g D w' hD hW hC hI;refine⟨g,fun _ _ _=>rfl,?_⟩;with_reducible refine yO rfl ?_
   have HS:=yH (hI.step yZ (k:=7) (by rfl));clear hI hC hW hD;go_wp2_with fail;all_goals first|exact HS|exact⟨rfl,HS⟩|rfl
  ·intro g D w' hD hW hC hI;have hN:D 9=false:=aBl hC hD 12 9 (by kernel_rfl);refine⟨upd g 8 w'.heap.size,aC3 _ (fun g:Nat→Nat=>[pv,(.int .u64 x.se),(.int .u8 x.ow),(.int .u8 x.sl),(.int .u8 x.bu),(.int .i64 x.lf),(.agg #[.int .i64 x.nu,.int .i64 x.de]),(.agg #[.int .u64 x.se,.int .u8 x.ow,.int .u8 x.sl,.int .u8 x.bu,.int .i64 x.lf,.int .i64 x.nu,.int .i64 x.de]),(.pointer (some ⟨g 8,0,none⟩)),undef]) g 8 _ 12 hC hD ?_,?_⟩
   ·intro j hj
    match j,hj with
    | 0,_=>exact .inr rfl
    | 1,_=>exact .inr rfl
    | 2,_=>exact .inr rfl
    | 3,_=>exact .inr rfl
    | 4,_=>exact .inr rfl
    | 5,_=>exact .inr rfl
    | 6,_=>exact .inr rfl
    | 7,_=>exact .inr rfl
    | 8,_=>exact .inl (.inl rfl)
    | 9,_=>exact .inr rfl
    | j+10,_=>exact .inr rfl
   with_reducible refine yO rfl ?_
   have HS:=yH (hI.lay (⟨8,9,(.cells #[.int .u64 0,.int .u8 0,.int .u8 0,.int .u8 0,.int .i64 0,.int .i64 0,.int .i64 0] 197),(.cells #[.int .u64 x.se,.int .u8 x.ow,.int .u8 x.sl,.int .u8 x.bu,.int .i64 x.lf,.int .i64 x.nu,.int .i64 x.de] 197)⟩:Spec) (by simp) (by rfl) (.inr hN) (by rfl) (fun s' hs' _=>List.mem_singleton.1 hs') (.cells #[.int .u64 0,.int .u8 0,.int .u8 0,.int .u8 0,.int .i64 0,.int .i64 0,.int .i64 0] 197) rfl);clear hI hC hW hD hN;go_wp2_with fail;all_goals first|exact HS|exact⟨rfl,HS⟩|rfl
  intro g D w' hD hW hC hI;have hP:D 8=true:=aA0 hC hW (d:=12) (by kernel_rfl);obtain⟨hg,hk⟩:=hI.zeroed (⟨8,9,(.cells #[.int .u64 0,.int .u8 0,.int .u8 0,.int .u8 0,.int .i64 0,.int .i64 0,.int .i64 0] 197),(.cells #[.int .u64 x.se,.int .u8 x.ow,.int .u8 x.sl,.int .u8 x.bu,.int .i64 x.lf,.int .i64 x.nu,.int .i64 x.de] 197)⟩:Spec) (by simp) hP hD;refine⟨g,fun _ _ _=>rfl,?_⟩;with_reducible refine yO rfl ?_
  refine wp_store_row 197 (.tmp 14) (.tmp 22) rfl (g 8) #[.int .u64 x.se,.int .u8 x.ow,.int .u8 x.sl,.int .u8 x.bu,.int .i64 x.lf,.int .i64 x.nu,.int .i64 x.de] rfl rfl 197 _ hk (by kernel_rfl) rfl (by simp[Value.oneCell']) ⟨rfl,?_⟩;exact hI.fill (⟨8,9,(.cells #[.int .u64 0,.int .u8 0,.int .u8 0,.int .u8 0,.int .i64 0,.int .i64 0,.int .i64 0] 197),(.cells #[.int .u64 x.se,.int .u8 x.ow,.int .u8 x.sl,.int .u8 x.bu,.int .i64 x.lf,.int .i64 x.nu,.int .i64 x.de] 197)⟩:Spec) (by simp) (by rfl) (show(9:Nat)≠8 by decide) (fun s' hs' _=>List.mem_singleton.1 hs') hP (aAc _ _) (setRow_heap w' (g 8) _ _ 197 (0,0) hk)
 intro g D w6 hall hI;obtain⟨h1,h2⟩:=hI.full (⟨8,9,(.cells #[.int .u64 0,.int .u8 0,.int .u8 0,.int .u8 0,.int .i64 0,.int .i64 0,.int .i64 0] 197),(.cells #[.int .u64 x.se,.int .u8 x.ow,.int .u8 x.sl,.int .u8 x.bu,.int .i64 x.lf,.int .i64 x.nu,.int .i64 x.de] 197)⟩:Spec) (by simp) (hall 8 (by decide)) (hall 9 (by decide));exact HQ.out (g 8) w6 h1 h2 hI.below
theorem pplace_any{w:World}{base g:Nat}{l:List Of}{x:Of}{vl:Value}(h:PB w base g l x.se vl)(hI:BInv l x.se)(hx:x.Fits):
  Calls Tryz.prog 243 #[.pointer (some ⟨g,0,none⟩),.int .u8 x.ow,.int .u8 x.sl,.int .u8 x.bu,.int .i64 x.lf,.agg #[.int .i64 x.nu,.int .i64 x.de]] w fun e w'=>e=.returned (.tuple #[.int .u64 (aFs l x),.int .i64 (aC2 l x)])∧∃vl',PB w' base g (aFd l x) (aE2 l x) vl'∧Keep (Foot g vl) w w'∧aEg w vl vl':=by
 have bw:=(Below.refl w.heap.size w).alloc yL (.cells #[.int .i64 x.nu,.int .i64 x.de] 73);have H1:=yH (h.below bw);have KR:=yH (Blk.new w #[.int .i64 x.nu,.int .i64 x.de] 73);have B1:=yH bw;have HI:=yH hI;have HX:=yH hx;have HG:=yH (h.below bw).blk;have HL:=yH (fun b (hb:Foot g vl b)=>(h.lt hb).2);clear bw h hI hx;go_enter Tryz.func243,Tryz.ntmps243;go_wp2_with fail;generalize hWW:w.alloc (.cells #[.int .i64 x.nu,.int .i64 x.de] 73)=W at *;clear hWW;refine pplace_r1 (yH (fun w' k=>aI9 (HG.out.below k HG.out.lt))) KR ?_;intro a w2 ha hA b2;have H2:=yH (H1.out.below b2);have B2:=yT B1 b2;have HA:=yH hA;have HAF:=yH (show ¬Foot g vl a from fun hf=>by have:=HL.out a hf;have:=B1.out.size;omega);have CM:=yH (aMj H2.out.blk HI.out.n1);have CY:=yH (pmay_any x w2 HX.out);have a0:=hA.cell 0;have a1:=hA.cell 1;have a2:=hA.cell 2;have a3:=hA.cell 3;have a4:=hA.cell 4;have a5:=hA.cell 5;have a6:=hA.cell 6;simp at a0 a1 a2 a3 a4 a5 a6;have hlen:=HI.out.len;clear ha hA b2 H1 B1 HG KR HL
 by_cases hm:¬x.may
 ·have e1:aC2 l x=1:=by unfold aC2;rw[if_pos hm]
  have E:=yH (show aC2 l x=1∧aFs l x=0∧aFd l x=l∧aE2 l x=x.se from⟨e1,by unfold aFs;rw[e1];rfl,by unfold aFd;rw[e1];rfl,by unfold aE2;rw[e1];rfl⟩);rw[decide_eq_false hm]at CY;clear e1 hm;go_wp2_with fail;refine CM.out.mono ?_;rintro e w2 ⟨rfl,rfl⟩;go_wp2_with fail;refine CY.out.mono ?_;rintro e w3 ⟨rfl,b3⟩;have H3:=yH (H2.out.below b3);have B3:=yT B2 b3;clear b3 H2 B2 CM CY a0 a1 a2 a3 a4 a5 a6;go_wp2_with fail;refine bodyPost_ret (v:=.tuple #[.int .u64 0,.int .i64 1]) (by simp[results,Tryz.results243,go_sem]) rfl ?_;rw[E.out.1,E.out.2.1,E.out.2.2.1,E.out.2.2.2];exact⟨rfl,vl,H3.out,pAD B3.out,aEg.refl _ _⟩
 have hm:=Decidable.not_not.1 hm;rw[decide_eq_true hm]at CY;obtain⟨ao,cap,hvl,hc1,hc2,_⟩:=aAg H2.out.row;subst hvl;unfold maxLen at hc2;go_wp2_with fail;refine CM.out.mono ?_;rintro e w2 ⟨rfl,rfl⟩;go_wp2_with fail;refine CY.out.mono ?_;rintro e w3 ⟨rfl,b3⟩;have HG4:=yH (H2.out.below b3);have HA4:=yB HA b3;have HA4b:=HAF;have B3:=yT B2 b3;clear b3 H2 B2 CM CY a0 a1 a2 a3 a4 a5 a6 HA HAF;have d0:=HG4.out.blk.cell 0;have a0:=HA4.out.cell 0;simp at d0 a0
 by_cases hf:l.length=32∨x.se=18446744073709551615
 ·have e1:aC2 l x=9:=by unfold aC2;rw[if_neg (by simpa using hm),if_pos hf]
  have E:=yH (show aC2 l x=9∧aFs l x=0∧aFd l x=l∧aE2 l x=x.se from⟨e1,by unfold aFs;rw[e1];rfl,by unfold aFd;rw[e1];rfl,by unfold aE2;rw[e1];rfl⟩);clear e1
  by_cases h32:l.length=32
  ·have q1:((l.length:Int)==32)=true:=by rw[h32];rfl
   clear hf h32;go_wp2_with fail;refine bodyPost_ret (v:=.tuple #[.int .u64 0,.int .i64 9]) (by simp[results,Tryz.results243,go_sem]) rfl ?_;rw[E.out.1,E.out.2.1,E.out.2.2.1,E.out.2.2.2];exact⟨rfl,_,HG4.out,pAD B3.out,aEg.refl _ _⟩
  have q1:((l.length:Int)==32)=false:=by simp;omega
  have hse:x.se=18446744073709551615:=by rcases hf with h|h;exact absurd h h32;exact h
  have q2:(x.se==18446744073709551615)=true:=by simpa using hse
  clear hf h32 hse;go_wp2_with fail;refine bodyPost_ret (v:=.tuple #[.int .u64 0,.int .i64 9]) (by simp[results,Tryz.results243,go_sem]) rfl ?_;rw[E.out.1,E.out.2.1,E.out.2.2.1,E.out.2.2.2];exact⟨rfl,_,HG4.out,pAD B3.out,aEg.refl _ _⟩
 have e1:aC2 l x=0:=by unfold aC2;rw[if_neg (by simpa using hm),if_neg hf]
 have E:=yH (show aC2 l x=0∧aFs l x=x.se∧aFd l x=l++[x]∧aE2 l x=x.se+1 from⟨e1,by unfold aFs;rw[if_pos e1],by unfold aFd;rw[if_pos e1],by unfold aE2;rw[if_pos e1]⟩);have q1:((l.length:Int)==32)=false:=by simp;omega
 have q2:(x.se==18446744073709551615)=false:=by simp;omega
 have hn:=HI.out.n2;have hn1:=HI.out.n1;have hse1:x.se+1≤18446744073709551615:=by omega
 clear e1 hf;go_wp2_with fail;clear d0 a0;generalize w3=W at *;have hgl:=HG4.out.blk.lt;have d0:=HG4.out.blk.cell 0;simp at d0;have a0:=HA4.out.cell 0;have a1:=HA4.out.cell 1;have a2:=HA4.out.cell 2;have a3:=HA4.out.cell 3;have a4:=HA4.out.cell 4;have a5:=HA4.out.cell 5;have a6:=HA4.out.cell 6;simp at a0 a1 a2 a3 a4 a5 a6;have hbs:=Nat.le_trans HG4.out.ge (Nat.le_of_lt hgl)
 go_region_law (refine aG6 rfl (.tmp 47) (.tmp 49) 156 rfl base 197 Tryz.underlying156 rfl aJa (.slice ao l.length cap) l rfl (aAf HG4.out.row (yZ.drew.alloc yL _)) W.heap.size 1 x rfl (Blk.new W.drew _ _) (by omega) (by simp;omega) ?_;intro v' w' ho hgr hat;have HAP:=yH (appended HG4.out ho hgr hat);have hB:=HAP.out.1;have d1:=hB.cell 0;have f1:=hB.frozen 0;have l1:=hB.lt;simp at d1;obtain⟨ao',cap',hv',_⟩:=aAg ho;obtain⟨ln,hln⟩:∃ln,(l++[x]).length=ln:=⟨_,rfl⟩;rw[hln]at hv';subst hv';clear hln;clear ho hgr hat hB d0)
 all_goals
  have HE:=yH HAP.out.2;clear HAP d1 f1 l1;have e0:=HE.out.1.blk.cell 1;have e1:=HE.out.1.blk.lt;have e2:=HE.out.1.blk.frozen 1;have e3:=HE.out.2.2 HA4.out HA4b.out;have e4:=e3.cell 0;simp at e0 e4;clear e3;go_wp2;refine bodyPost_ret (v:=.tuple #[.int .u64 x.se,.int .i64 0]) (by simp[results,Tryz.results243,go_sem]) rfl ?_;have k3:Keep (·=g) (w'.setCell ⟨g,0,none⟩ (.slice ao' ln cap')) ((w'.setCell ⟨g,0,none⟩ (.slice ao' ln cap')).setCell ⟨g,1,none⟩ (.int .u64 (x.se+1))):=Keep.setCell (S:=(·=g)) (Keep.refl _ _) (p:=⟨g,1,none⟩) (.inl rfl) _;rw[E.out.1,E.out.2.1,E.out.2.2.1,E.out.2.2.2];exact⟨rfl,_,HE.out.1.setN _,(pAD B3.out).trans (HE.out.2.1.1.trans (k3.mono fun k _ hk=>.inl hk)),HE.out.2.1.2.of_le B3.out.size⟩
theorem aQx.next{ps:List Int}{ls:List Ln}{l:List Of}{N ow sl bu lf nu de:Int}{σ:SwS}{N' sq:Int}{τ:SwS}(h:aQx ps ls l N ow sl bu lf nu de σ N' sq τ):LInv ps σ.ls∧BInv σ.l N'∧σ.fs=τ.fs:=by
 rcases h.ends with⟨_,rfl,rfl,_⟩|⟨_,_,e,rfl,rfl,_⟩
 ·exact⟨h.inv.linv,h.inv.binv,rfl⟩
 refine⟨h.inv.linv,?_,rfl⟩;have q:=BInv.place (l:=τ.l) (x:=⟨N,ow,sl,bu,τ.n,nu,de⟩) h.inv.binv;unfold aFd aE2 at q;rw[if_pos e,if_pos e]at q;exact q
def noneF:Int→Int→Int:=fun _ _=>1048576
def costE(c:Int→Int→Int)(e:Ed):Int→Int→Int:=if okEd e then updE c e.fr e.tt (min (c e.fr e.tt) e.co)else c
structure aJe(es pre:List Ed)(c:Int→Int→Int):Prop where
 is:∀a b,c a b=1048576∨∃e∈es,okEd e∧e.fr=a∧e.tt=b∧c a b=e.co
 le:∀e∈pre,okEd e→c e.fr e.tt≤e.co
theorem aJe.init(es:List Ed):aJe es [] noneF:=⟨fun _ _=>.inl rfl,by simp⟩
theorem aQy(c:Int→Int→Int)(a b n:Int):updE c a b n a b=n:=by unfold updE;rw[if_pos ⟨rfl,rfl⟩]
theorem aJe.step{es pre:List Ed}{c:Int→Int→Int}{e:Ed}(h:aJe es pre c)(he:e∈es):aJe es (pre++[e]) (costE c e):=by
 unfold costE;split
 ·rename_i ho;refine⟨fun a b=>?_,fun d hd hod=>?_⟩
  ·by_cases hab:a=e.fr∧b=e.tt
   ·obtain⟨rfl,rfl⟩:=hab;rw[aQy]
    by_cases hc:c e.fr e.tt≤e.co
    ·rw[Int.min_eq_left hc];exact h.is _ _
    rw[Int.min_eq_right (by omega)];exact .inr ⟨e,he,ho,rfl,rfl,rfl⟩
   unfold updE;rw[if_neg hab];exact h.is a b
  by_cases hde:d.fr=e.fr∧d.tt=e.tt
  ·rw[hde.1,hde.2,aQy];rcases List.mem_append.1 hd with hd|hd
   ·have:=h.le d hd hod;rw[hde.1,hde.2]at this;omega
   rw[List.mem_singleton]at hd;subst hd;omega
  unfold updE;rw[if_neg hde];rcases List.mem_append.1 hd with hd|hd
  ·exact h.le d hd hod
  rw[List.mem_singleton]at hd;subst hd;exact absurd ⟨rfl,rfl⟩ hde
 rename_i ho;refine⟨h.is,fun d hd hod=>?_⟩;rcases List.mem_append.1 hd with hd|hd
 ·exact h.le d hd hod
 rw[List.mem_singleton]at hd;subst hd;exact absurd hod ho
theorem aJe.bd{es pre:List Ed}{c:Int→Int→Int}(h:aJe es pre c)(hco:∀e∈es,-128≤e.co∧e.co≤127)(a b:Int):-128≤c a b∧c a b≤1048576:=by
 rcases h.is a b with hc|⟨e,he,_,_,_,hc⟩
 ·omega
 have:=hco e he;omega
def sumU(c:Int→Int→Int)(u:Nat→Int):Nat→Int
 | 0=>0
 | n+1=>sumU c u n+c (u n) (u (n+1))
structure aKr(c:Int→Int→Int)(L:List Int)(K:Nat)(u:Nat→Int):Prop where
 k1:1≤K
 k16:K≤16
 len:L.length=K
 at_:∀i,i<K→L[i]? = some (u i)
 back:u K=u 0
 ends:∀i,inP (u i)
 least:∀i,u 0≤u i
 apart:∀k i,k<i→i<K→u k≠u i
 cost:∀i,i<K → -128≤c (u i) (u (i+1))∧c (u i) (u (i+1))≤127
 all:sumU c u K<0
theorem aIp{es:List Ed}{c:Int→Int→Int}(hC:aJe es es c)(hco:∀e∈es,-128≤e.co∧e.co≤127)(h:aDk es≠[]):∃K u,aKr c (aDk es) K u:=by
 obtain⟨K,l,_,_,_,hR,he⟩:=aLu h;have hk1:=hR.k1;rw[he];generalize aA2 es 16=s at *
 have hcost:∀i,i<K→c (itr s.ahd (K - i) l) (itr s.ahd (K - (i+1)) l)≤s.w (itr s.ahd (K - (i+1)) l) ∧ -128≤c (itr s.ahd (K - i) l) (itr s.ahd (K - (i+1)) l)∧c (itr s.ahd (K - i) l) (itr s.ahd (K - (i+1)) l)≤127:=fun i hi=>by
  obtain⟨e,hm,e1,e2,e3⟩:=hR.edge (K - (i+1));rw[show K - (i+1)+1=K - i by omega]at e1;have hok:okEd e:=⟨by rw[e1];exact hR.ends _,by rw[e2];exact hR.ends _⟩;have h1:=hC.le e hm hok;have h2:=hco e hm;rw[e1,e2]at h1;have h3:=hC.bd hco (itr s.ahd (K - i) l) (itr s.ahd (K - (i+1)) l);rw[←e3];omega
 refine⟨K,fun i=>itr s.ahd (K - i) l,hk1,hR.k16,by rw[backL_len];omega,fun i hi=>?_,?_,fun i=>hR.ends _,fun i=>?_,fun k i hki hi=>?_,fun i hi=>(hcost i hi).2,?_⟩
 ·rw[backL_get (by rw[show K - 1+1=K by omega];exact hR.back) (by omega)];rw[show K - 1+1 - i=K - i by omega]
 ·show itr s.ahd (K - K) l=itr s.ahd (K - 0) l;rw[Nat.sub_self,Nat.sub_zero,hR.back];rfl
 ·show itr s.ahd (K - 0) l≤_;rw[Nat.sub_zero,hR.back];exact hR.least _
 ·exact fun hh=>aSa hR.back hR.apart (i:=K - i) (k:=K - k) (by omega) (by omega) (by omega) hh.symm
 have key:∀n,n≤K→sumU c (fun i=>itr s.ahd (K - i) l) n+sumI s.ahd s.w (K - n) l≤sumI s.ahd s.w K l:=by
  intro n
  induction n with
  | zero=>intro _;simp[sumU]
  | succ n ih=>
   intro hn;have h1:=ih (by omega);have h2:=(hcost n (by omega)).1;have h3:=aI0 s.ahd s.w (K - (n+1)) 1 l;rw[show K - (n+1)+1=K - n by omega]at h3;have h4:sumI s.ahd s.w 1 (itr s.ahd (K - (n+1)) l)=s.w (itr s.ahd (K - (n+1)) l):=by simp[sumI]
   show(sumU c (fun i=>itr s.ahd (K - i) l) n+c (itr s.ahd (K - n) l) (itr s.ahd (K - (n+1)) l))+_≤_;omega
 have h1:=key K yL;rw[Nat.sub_self]at h1;have h2:=hR.cost;have h3:sumI s.ahd s.w 0 l=0:=rfl;omega
def dbt(l:List Fw)(i:Nat):Fw:=l.getD i ⟨0,0,0⟩
def rdE(l:List Fw)(L:Nat→Int):Nat→List Ed
 | 0=>[]
 | k+1=>rdE l L k++((if 0<L k then [⟨(dbt l k).fr,(dbt l k).tt,-1⟩]else [])++(if L k<(dbt l k).am then [⟨(dbt l k).tt,(dbt l k).fr,1⟩]else []))
theorem aJ7{l:List Fw}{L:Nat→Int}{e:Ed}:∀n,e∈rdE l L n↔∃i,i<n∧((0<L i∧e=⟨(dbt l i).fr,(dbt l i).tt,-1⟩)∨(L i<(dbt l i).am∧e=⟨(dbt l i).tt,(dbt l i).fr,1⟩))
 | 0=>by
  constructor
  ·intro h;cases h
  ·rintro⟨i,h,_⟩;omega
 | n+1=>by
  show e∈rdE l L n++_↔_;rw[List.mem_append,aJ7 n,List.mem_append]
  constructor
  ·rintro(⟨i,h1,h2⟩|h|h)
   ·exact⟨i,by omega,h2⟩
   ·split at h
    ·rename_i hc;exact⟨n,by omega,.inl ⟨hc,List.mem_singleton.1 h⟩⟩
    cases h
   split at h
   ·rename_i hc;exact⟨n,by omega,.inr ⟨hc,List.mem_singleton.1 h⟩⟩
   cases h
  rintro⟨i,h1,h2⟩
  by_cases hi:i=n
  ·subst hi;rcases h2 with⟨h3,rfl⟩|⟨h3,rfl⟩
   ·exact .inr (.inl (by rw[if_pos h3];exact List.mem_singleton.2 rfl))
   exact .inr (.inr (by rw[if_pos h3];exact List.mem_singleton.2 rfl))
  exact .inl ⟨i,by omega,h2⟩
theorem rdE_len(l:List Fw)(L:Nat→Int):∀n,(rdE l L n).length≤2*n
 | 0=>Nat.le_refl _
 | n+1=>by
  have:=rdE_len l L n;show(rdE l L n++_).length≤_;rw[List.length_append,List.length_append];have h1:(if 0<L n then [(⟨(dbt l n).fr,(dbt l n).tt,-1⟩:Ed)]else []).length≤1:=by split <;> simp
  have h2:(if L n<(dbt l n).am then [(⟨(dbt l n).tt,(dbt l n).fr,1⟩:Ed)]else []).length≤1:=by split <;> simp
  omega
theorem rdE_co(l:List Fw)(L:Nat→Int)(n:Nat):∀e∈rdE l L n,-128≤e.co∧e.co≤127:=by
 intro e he;obtain⟨i,_,⟨_,rfl⟩|⟨_,rfl⟩⟩:=(aJ7 n).1 he <;> (dsimp only;omega)
theorem aS9(es:List Ed):∃c,aJe es es c:=by
 have key:∀(suf pre:List Ed) (c:Int→Int→Int),aJe es pre c→es=pre++suf→∃c,aJe es es c:=by
  intro suf
  induction suf with
  | nil=>intro pre c h he;rw[List.append_nil]at he;exact⟨c,by rw[←he]at h;exact h⟩
  | cons e suf ih=>
   intro pre c h he;exact ih (pre++[e]) _ (h.step (e:=e) (by rw[he];simp)) (by rw[he];simp)
 exact key es [] _ (aJe.init es) rfl
theorem round_free{es:List Ed}(hco:∀e∈es,-128≤e.co∧e.co≤127)(far:Int→Int)(h:∀e∈es,okEd e→far e.tt≤far e.fr+e.co):aDk es=[]:=by
 refine Classical.byContradiction fun hne=>?_
 obtain⟨c,hC⟩:=aS9 es;obtain⟨K,u,hu⟩:=aIp hC hco hne
 have key:∀n,n≤K→far (u n)≤far (u 0)+sumU c u n:=by
  intro n
  induction n with
  | zero=>intro _;show far (u 0)≤far (u 0)+0;omega
  | succ n ih=>
   intro hn;have h1:=ih (by omega);have h2:=hu.cost n (by omega);show far (u (n+1))≤far (u 0)+(sumU c u n+c (u n) (u (n+1)));rcases hC.is (u n) (u (n+1))with h3|⟨e,he,ho,e1,e2,e3⟩
   ·omega
   have h4:=h e he ho;rw[e1,e2]at h4;omega
 have h1:=key K yL;have h2:=hu.all;rw[hu.back]at h1;omega
def okD(x:Fw):Prop:=inP x.fr∧inP x.tt∧x.fr≠x.tt∧1≤x.am∧x.am≤1099511627776
def keyD(x:Fw):Int:=256*x.fr+x.tt
instance(x:Fw):Decidable (okD x):=by unfold okD;infer_instance
def mayN(l:List Fw):Nat→Bool
 | 0=>true
 | k+1=>mayN l k && decide (okD (dbt l k)) && (decide (k=0) || decide (keyD (dbt l (k - 1))<keyD (dbt l k)))
structure MayD(l:List Fw):Prop where
 ok:∀i,i<l.length→okD (dbt l i)
 up:∀i,i+1<l.length→keyD (dbt l i)<keyD (dbt l (i+1))
theorem mayN_iff(l:List Fw):∀n,mayN l n=true↔(∀i,i<n→okD (dbt l i))∧∀i,i+1<n→keyD (dbt l i)<keyD (dbt l (i+1))
 | 0=>by simp[mayN]
 | n+1=>by
  unfold mayN;rw[Bool.and_eq_true,Bool.and_eq_true,mayN_iff l n,Bool.or_eq_true];simp only[decide_eq_true_eq]
  constructor
  ·rintro⟨⟨⟨h1,h2⟩,h3⟩,h4⟩;refine⟨fun i hi=>?_,fun i hi=>?_⟩
   ·by_cases hn:i=n
    ·subst hn;exact h3
    exact h1 i (by omega)
   by_cases hn:i+1=n
   ·subst hn;rcases h4 with h4|h4
    ·omega
    simpa using h4
   exact h2 i (by omega)
  rintro⟨h1,h2⟩;refine⟨⟨⟨fun i hi=>h1 i (by omega),fun i hi=>h2 i (by omega)⟩,h1 n (by omega)⟩,?_⟩;rcases Nat.eq_zero_or_pos n with h|h
  ·exact .inl h
  right
  have:=h2 (n - 1) (by omega)
  rwa [Nat.sub_add_cancel h]at this
theorem mayD_iff(l:List Fw):mayN l l.length=true↔MayD l:=by
 rw[mayN_iff];exact⟨fun h=>⟨h.1,h.2⟩,fun h=>⟨h.ok,h.up⟩⟩
section
variable{l:List Fw}
theorem MayD.lt(h:MayD l){i:Nat}:∀d,i+d+1<l.length→keyD (dbt l i)<keyD (dbt l (i+d+1))
 | 0,hd=>h.up i hd
 | d+1,hd=>by
  have h1:=h.lt (i:=i) d (by omega);have h2:=h.up (i+d+1) (by omega);rw[show i+(d+1)+1=i+d+1+1 by omega];omega
theorem MayD.inj(h:MayD l){i j:Nat}(hi:i<l.length)(hj:j<l.length)(h1:(dbt l i).fr=(dbt l j).fr)(h2:(dbt l i).tt=(dbt l j).tt):i=j:=by
 have hk:keyD (dbt l i)=keyD (dbt l j):=by unfold keyD;rw[h1,h2]
 rcases Nat.lt_trichotomy i j with hl|hl|hl
 ·have:=h.lt (i:=i) (j - i - 1) (by omega);rw[show i+(j - i - 1)+1=j by omega]at this;omega
 ·exact hl
 have:=h.lt (i:=j) (i - j - 1) (by omega);rw[show j+(i - j - 1)+1=i by omega]at this;omega
end
def aK4(p:Nat→Bool):Nat→Option Nat
 | 0=>none
 | n+1=>if p n then some n else aK4 p n
theorem aJ8{p:Nat→Bool}:∀{n i:Nat},aK4 p n=some i→i<n∧p i=true
 | 0,i,h=>by cases h
 | n+1,i,h=>by
  unfold aK4 at h;split at h
  ·rename_i hp
   cases h
   exact⟨by omega,hp⟩
  obtain⟨h1,h2⟩:=aJ8 h;exact⟨by omega,h2⟩
theorem aOb{p:Nat→Bool}:∀{n:Nat},aK4 p n=none→∀i,i<n→p i=false
 | 0,_,i,hi=>by omega
 | n+1,h,i,hi=>by
  unfold aK4 at h;split at h
  ·cases h
  rename_i hp
  by_cases hin:i=n
  ·subst hin;simpa using hp
  exact aOb h i (by omega)
theorem aJ9{p:Nat→Bool}{n i:Nat}(hi:i<n)(hp:p i=true)(hu:∀j,j<n→p j=true→j=i):aK4 p n=some i:=by
 cases h:aK4 p n with
 | none=>rw[aOb h i hi]at hp;cases hp
 | some j=>
  obtain⟨h1,h2⟩:=aJ8 h;rw[hu j h1 h2]
def pA(l:List Fw)(L:Nat→Int)(a b:Int)(i:Nat):Bool:=(dbt l i).fr==a && (dbt l i).tt==b && decide (0<L i)
def pB(l:List Fw)(a b:Int)(i:Nat):Bool:=(dbt l i).fr==b && (dbt l i).tt==a
def bkS(l:List Fw)(L:Nat→Int)(a b:Int):Bool:=(aK4 (pA l L a b) l.length).isNone
def ixS(l:List Fw)(L:Nat→Int)(a b:Int):Nat:=match aK4 (pA l L a b) l.length with
 | some i=>i
 | none=>(aK4 (pB l a b) l.length).getD 0
def avS(l:List Fw)(L:Nat→Int)(a b:Int):Int:=if bkS l L a b then(dbt l (ixS l L a b)).am - L (ixS l L a b)else L (ixS l L a b)
def uW(W:List Int)(i:Nat):Int:=W.getD (i%W.length) 0
def minK(l:List Fw)(L:Nat→Int)(u:Nat→Int):Nat→Int
 | 0=>1099511627776
 | k+1=>min (minK l L u k) (avS l L (u k) (u (k+1)))
def updL(L:Nat→Int)(i:Nat)(v:Int):Nat→Int:=fun j=>if j=i then v else L j
def tkK(l:List Fw)(L:Nat→Int)(u:Nat→Int)(n:Int):Nat→(Nat→Int)
 | 0=>L
 | k+1=>updL (tkK l L u n k) (ixS l L (u k) (u (k+1))) (tkK l L u n k (ixS l L (u k) (u (k+1)))+(if bkS l L (u k) (u (k+1))then n else -n))
def wayD(l:List Fw)(L:Nat→Int):List Int:=aDk (rdE l L l.length)
def amtD(l:List Fw)(L:Nat→Int):Int:=minK l L (uW (wayD l L)) (wayD l L).length
def aKa(l:List Fw)(L:Nat→Int):Nat→Int:=tkK l L (uW (wayD l L)) (amtD l L) (wayD l L).length
theorem aKr.uW{c:Int→Int→Int}{W:List Int}{K:Nat}{u:Nat→Int}(h:aKr c W K u):aKr c W K (uW W):=by
 have hk:=h.k1;have hl:=h.len
 have e0:∀i,i<K→Go.Proofs.YtngnfdnfpiiclaaGreat.uW W i=u i:=fun i hi=>by
  unfold Go.Proofs.YtngnfdnfpiiclaaGreat.uW;rw[hl,Nat.mod_eq_of_lt hi,List.getD_eq_getElem?_getD,h.at_ i hi];rfl
 have e1:∀i,i≤K→Go.Proofs.YtngnfdnfpiiclaaGreat.uW W i=u i:=fun i hi=>by
  rcases Nat.lt_or_ge i K with h1|h1
  ·exact e0 i h1
  have:i=K:=by omega
  subst this;rw[h.back,←e0 0 hk];unfold Go.Proofs.YtngnfdnfpiiclaaGreat.uW;rw[hl,Nat.mod_self,Nat.zero_mod]
 have em:∀i,Go.Proofs.YtngnfdnfpiiclaaGreat.uW W i=u (i%K):=fun i=>by
  have hm:=Nat.mod_lt i (show 0<K by omega);rw[←e0 _ hm];unfold Go.Proofs.YtngnfdnfpiiclaaGreat.uW;rw[hl,Nat.mod_mod]
 refine⟨hk,h.k16,hl,fun i hi=>by rw[e0 i hi];exact h.at_ i hi,by rw[e1 K yL,e1 0 (Nat.zero_le _)];exact h.back,fun i=>by rw[em];exact h.ends _,fun i=>by rw[em i,em 0,Nat.zero_mod];exact h.least _,
  fun k i hki hi=>by rw[e0 k (by omega),e0 i hi];exact h.apart k i hki hi,fun i hi=>by rw[e1 i (by omega),e1 (i+1) (by omega)];exact h.cost i hi,?_⟩
 have key:∀n,n≤K→sumU c (Go.Proofs.YtngnfdnfpiiclaaGreat.uW W) n=sumU c u n:=by
  intro n
  induction n with
  | zero=>intro _;rfl
  | succ n ih=>
   intro hn;show sumU c (Go.Proofs.YtngnfdnfpiiclaaGreat.uW W) n+c _ _=sumU c u n+c _ _;rw[ih (by omega),e1 n (by omega),e1 (n+1) hn]
 rw[key K yL];exact h.all
def sumN(g:Nat→Int):Nat→Int
 | 0=>0
 | n+1=>sumN g n+g n
theorem aPb(L:Nat→Int)(i:Nat)(v:Int)(f:Nat→Int→Int):∀n,sumN (fun j=>f j (updL L i v j)) n=sumN (fun j=>f j (L j)) n+if i<n then f i v - f i (L i)else 0
 | 0=>by simp[sumN]
 | n+1=>by
  show sumN (fun j=>f j (updL L i v j)) n+f n (updL L i v n)=(sumN (fun j=>f j (L j)) n+f n (L n))+_;rw[aPb L i v f n];unfold updL
  by_cases h:n=i
  ·subst h;rw[if_pos rfl,if_neg (Nat.lt_irrefl _),if_pos (Nat.lt_succ_self _)];omega
  rw[if_neg h]
  by_cases h2:i<n
  ·rw[if_pos h2,if_pos (by omega)];omega
  rw[if_neg h2,if_neg (by omega)];omega
theorem sumN_le{g h:Nat→Int}:∀n,(∀i,i<n→g i≤h i)→sumN g n≤sumN h n
 | 0,_=>Int.le_refl _
 | n+1,hh=>by
  have h1:=sumN_le n (fun i hi=>hh i (by omega));have h2:=hh n (by omega);show sumN g n+g n≤sumN h n+h n;omega
theorem aPc{g:Nat→Int}{B:Int}:∀n:Nat,(∀i,i<n→0≤g i∧g i≤B)→0≤sumN g n∧sumN g n≤B*n
 | 0,_=>by simp[sumN]
 | n+1,h=>by
  have h1:=aPc n (fun i hi=>h i (by omega));have h2:=h n (by omega);have h3:B*((n+1:Nat):Int)=B*(n:Int)+B:=by rw[Int.natCast_add,Int.mul_add];simp
  show 0≤sumN g n+g n∧sumN g n+g n≤_;omega
def psD(l:List Fw)(p:Int)(i:Nat)(n:Int):Int:=(if(dbt l i).tt=p then n else 0) - (if(dbt l i).fr=p then n else 0)
def posD(l:List Fw)(L:Nat→Int)(p:Int):Int:=sumN (fun i=>psD l p i (L i)) l.length
structure RdOk(l:List Fw)(L:Nat→Int):Prop where
 lo:∀i,i<l.length→0≤L i
 hi:∀i,i<l.length→L i≤(dbt l i).am
structure StD(l:List Fw)(L:Nat→Int)(c:Int→Int→Int)(a b:Int):Prop where
 ix:ixS l L a b<l.length
 is:(bkS l L a b=false∧(dbt l (ixS l L a b)).fr=a∧(dbt l (ixS l L a b)).tt=b∧0<L (ixS l L a b)∧c a b = -1)∨
  (bkS l L a b=true∧(dbt l (ixS l L a b)).fr=b∧(dbt l (ixS l L a b)).tt=a∧L (ixS l L a b)<(dbt l (ixS l L a b)).am∧c a b=1)
theorem step_is{l:List Fw}{L:Nat→Int}(hM:MayD l){c:Int→Int→Int}(hC:aJe (rdE l L l.length) (rdE l L l.length) c){a b:Int}(hc:c a b≤127):StD l L c a b:=by
 rcases hC.is a b with h|⟨e,he,ho,e1,e2,e3⟩
 ·omega
 by_cases hx:∃i,i<l.length∧pA l L a b i=true
 ·obtain⟨i,hi,hp⟩:=hx;have hp':=hp;unfold pA at hp';simp only[Bool.and_eq_true,beq_iff_eq,decide_eq_true_eq]at hp';obtain⟨⟨p1,p2⟩,p3⟩:=hp'
  have hl:=aJ9 hi hp (fun j hj hq=>by
   unfold pA at hq;simp only[Bool.and_eq_true,beq_iff_eq,decide_eq_true_eq]at hq;exact hM.inj hj hi (by rw[hq.1.1,p1]) (by rw[hq.1.2,p2]))
  have hix:ixS l L a b=i:=by unfold ixS;rw[hl]
  have hbk:bkS l L a b=false:=by unfold bkS;rw[hl];rfl
  have hle:=hC.le ⟨(dbt l i).fr,(dbt l i).tt,-1⟩ ((aJ7 _).2 ⟨i,hi,.inl ⟨p3,rfl⟩⟩) ⟨(hM.ok i hi).1,(hM.ok i hi).2.1⟩;rw[show(⟨(dbt l i).fr,(dbt l i).tt,-1⟩:Ed).fr=a from p1,show(⟨(dbt l i).fr,(dbt l i).tt,-1⟩:Ed).tt=b from p2]at hle
  have hco:c a b = -1:=by
   obtain⟨j,_,⟨_,rfl⟩|⟨_,rfl⟩⟩:=(aJ7 _).1 he
   ·exact e3
   have:c a b=1:=e3;have:(-1:Int) ≥ c a b:=hle;omega
  refine⟨by rw[hix];exact hi,.inl ⟨hbk,?_⟩⟩;rw[hix];exact⟨p1,p2,p3,hco⟩
 have hn:aK4 (pA l L a b) l.length=none:=by
  cases h:aK4 (pA l L a b) l.length with
  | none=>rfl
  | some i=>
   obtain⟨h1,h2⟩:=aJ8 h;exact absurd ⟨i,h1,h2⟩ hx
 have hbk:bkS l L a b=true:=by unfold bkS;rw[hn];rfl
 obtain⟨i,hi,⟨h1,rfl⟩|⟨h1,rfl⟩⟩:=(aJ7 _).1 he
 ·exact absurd ⟨i,hi,by unfold pA;simp only[Bool.and_eq_true,beq_iff_eq,decide_eq_true_eq];exact⟨⟨e1,e2⟩,h1⟩⟩ hx
 have hl:=aJ9 (p:=pB l a b) hi (by unfold pB;simp only[Bool.and_eq_true,beq_iff_eq];exact⟨e2,e1⟩) (fun j hj hq=>by
  unfold pB at hq;simp only[Bool.and_eq_true,beq_iff_eq]at hq;exact hM.inj hj hi (by rw[hq.1];exact e2.symm) (by rw[hq.2];exact e1.symm))
 have hix:ixS l L a b=i:=by unfold ixS;rw[hn,hl];rfl
 refine⟨by rw[hix];exact hi,.inr ⟨hbk,?_⟩⟩;rw[hix];exact⟨e2,e1,h1,e3⟩
theorem StD.av{l:List Fw}{L:Nat→Int}{c:Int→Int→Int}{a b:Int}(h:StD l L c a b):1≤avS l L a b:=by
 unfold avS;rcases h.is with⟨h1,_,_,h2,_⟩|⟨h1,_,_,h2,_⟩
 ·rw[h1];simp only[Bool.false_eq_true,if_false];omega
 rw[h1,if_pos rfl];omega
theorem aKb(l:List Fw)(L:Nat→Int)(u:Nat→Int):∀K,minK l L u K≤1099511627776∧∀k,k<K→minK l L u K≤avS l L (u k) (u (k+1))
 | 0=>⟨Int.le_refl _,fun k hk=>by omega⟩
 | K+1=>by
  obtain⟨h1,h2⟩:=aKb l L u K;refine⟨by show min _ _≤_;omega,fun k hk=>?_⟩;show min (minK l L u K) (avS l L (u K) (u (K+1)))≤_
  by_cases hkK:k=K
  ·subst hkK;exact Int.min_le_right _ _
  have:=h2 k (by omega);omega
theorem aPd(l:List Fw)(L:Nat→Int)(u:Nat→Int):∀K,(∀k,k<K→1≤avS l L (u k) (u (k+1)))→1≤minK l L u K
 | 0,_=>by show(1:Int)≤1099511627776;decide
 | K+1,h=>by
  have h1:=aPd l L u K (fun k hk=>h k (by omega));have h2:=h K (by omega);show 1≤min _ _;omega
theorem aMt{l:List Fw}{L:Nat→Int}(hM:MayD l){c:Int→Int→Int}{W:List Int}{K:Nat}{u:Nat→Int}(hu:aKr c W K u)(hS:∀k,k<K→StD l L c (u k) (u (k+1))){j k:Nat}(hj:j<k)(hk:k<K):
  ixS l L (u j) (u (j+1))≠ixS l L (u k) (u (k+1)):=by
 intro he;have s1:=(hS j (by omega)).is;have s2:=(hS k hk).is;rw[he]at s1;have hne:=hu.apart j k hj hk;rcases s1 with⟨_,a1,a2,_,a3⟩|⟨_,a1,a2,_,a3⟩ <;> rcases s2 with⟨_,b1,b2,_,b3⟩|⟨_,b1,b2,_,b3⟩
 ·exact hne (a1.symm.trans b1)
 ·-- forth at j,back at k
  have e1:u j=u (k+1):=a1.symm.trans b1;have e2:u (j+1)=u k:=a2.symm.trans b2
  have hj1:j+1=k:=by
   rcases Nat.lt_or_ge (j+1) k with q|q
   ·exact absurd e2 (hu.apart (j+1) k q hk)
   omega
  have hk1:k+1=K:=by
   rcases Nat.lt_or_ge (k+1) K with q|q
   ·exact absurd e1 (hu.apart j (k+1) (by omega) q)
   omega
  have hj0:j=0:=by
   rcases Nat.eq_zero_or_pos j with q|q
   ·exact q
   rw[hk1,hu.back]at e1;exact absurd e1.symm (hu.apart 0 j q (by omega))
  subst hj0;have hall:=hu.all;rw[←hk1,←hj1]at hall;have:sumU c u (0+1+1)=0+c (u 0) (u (0+1))+c (u (0+1)) (u (0+1+1)):=rfl;rw[←hj1]at b3;omega
 ·have e1:u (j+1)=u k:=a1.symm.trans b1;have e2:u j=u (k+1):=a2.symm.trans b2
  have hj1:j+1=k:=by
   rcases Nat.lt_or_ge (j+1) k with q|q
   ·exact absurd e1 (hu.apart (j+1) k q hk)
   omega
  have hk1:k+1=K:=by
   rcases Nat.lt_or_ge (k+1) K with q|q
   ·exact absurd e2 (hu.apart j (k+1) (by omega) q)
   omega
  have hj0:j=0:=by
   rcases Nat.eq_zero_or_pos j with q|q
   ·exact q
   rw[hk1,hu.back]at e2;exact absurd e2.symm (hu.apart 0 j q (by omega))
  subst hj0;have hall:=hu.all;rw[←hk1,←hj1]at hall;have:sumU c u (0+1+1)=0+c (u 0) (u (0+1))+c (u (0+1)) (u (0+1+1)):=rfl;rw[←hj1]at b3;omega
 exact hne (a2.symm.trans b2)
structure TkI(l:List Fw)(L:Nat→Int)(c:Int→Int→Int)(u:Nat→Int)(n:Int)(k:Nat)(M:Nat→Int):Prop where
 off:∀i,(∀j,j<k→ixS l L (u j) (u (j+1))≠i)→M i=L i
 on:∀j,j<k→M (ixS l L (u j) (u (j+1)))=L (ixS l L (u j) (u (j+1)))+if bkS l L (u j) (u (j+1))then n else -n
 sum:sumN M l.length=sumN L l.length+n*sumU c u k
 pos:∀p,posD l M p=posD l L p+(if u 0=p then n else 0) - (if u k=p then n else 0)
theorem tk_all{l:List Fw}{L:Nat→Int}(hM:MayD l){c:Int→Int→Int}{W:List Int}{K:Nat}{u:Nat→Int}(hu:aKr c W K u)(hS:∀k,k<K→StD l L c (u k) (u (k+1)))(n:Int):∀k,k≤K→TkI l L c u n k (tkK l L u n k)
 | 0,_=>⟨fun i _=>rfl,fun j hj=>by omega,by show sumN L l.length=_+n*0;rw[Int.mul_zero,Int.add_zero],fun p=>by show posD l L p=_;omega⟩
 | k+1,hk=>by
  have ih:=tk_all hM hu hS n k (by omega);have st:=hS k (by omega);have hap:∀j,j<k→ixS l L (u j) (u (j+1))≠ixS l L (u k) (u (k+1)):=fun j hj=>aMt hM hu hS hj (by omega)
  have hat:=ih.off _ hap;have hsum:sumU c u (k+1)=sumU c u k+c (u k) (u (k+1)):=rfl;refine⟨fun i hi=>?_,fun j hj=>?_,?_,fun p=>?_⟩
  ·show updL _ _ _ i=_;unfold updL;rw[if_neg (fun h=>hi k (by omega) h.symm)];exact ih.off i (fun j hj=>hi j (by omega))
  ·show updL _ _ _ _=_;unfold updL
   by_cases hjk:j=k
   ·subst hjk;rw[if_pos rfl,hat]
   rw[if_neg (hap j (by omega))];exact ih.on j (by omega)
  ·show sumN (updL (tkK l L u n k) _ _) l.length=_;have:=aPb (tkK l L u n k) (ixS l L (u k) (u (k+1))) (tkK l L u n k (ixS l L (u k) (u (k+1)))+(if bkS l L (u k) (u (k+1))then n else -n)) (fun _ x=>x) l.length;rw[if_pos st.ix]at this;rw[show sumN (updL (tkK l L u n k) (ixS l L (u k) (u (k+1))) (tkK l L u n k (ixS l L (u k) (u (k+1)))+(if bkS l L (u k) (u (k+1))then n else -n))) l.length=_ from this,show sumN (fun j=>tkK l L u n k j) l.length=_ from ih.sum,hsum,Int.mul_add];rcases st.is with⟨h1,_,_,_,h2⟩|⟨h1,_,_,_,h2⟩
   ·rw[h1,h2];simp only[Bool.false_eq_true,if_false];omega
   rw[h1,h2,if_pos rfl];omega
  show posD l (updL (tkK l L u n k) _ _) p=_;have:=aPb (tkK l L u n k) (ixS l L (u k) (u (k+1))) (tkK l L u n k (ixS l L (u k) (u (k+1)))+(if bkS l L (u k) (u (k+1))then n else -n)) (psD l p) l.length;rw[if_pos st.ix]at this;rw[show posD l (updL (tkK l L u n k) (ixS l L (u k) (u (k+1))) (tkK l L u n k (ixS l L (u k) (u (k+1)))+(if bkS l L (u k) (u (k+1))then n else -n))) p=_ from this,show sumN (fun j=>psD l p j (tkK l L u n k j)) l.length=_ from ih.pos p];generalize tkK l L u n k (ixS l L (u k) (u (k+1)))=y;unfold psD;rcases st.is with⟨h1,h3,h4,_,h2⟩|⟨h1,h3,h4,_,h2⟩
  ·rw[h1,h3,h4];simp only[Bool.false_eq_true,if_false];split <;> split <;> omega
  rw[h1,h3,h4,if_pos rfl];split <;> split <;> omega
structure NextD(l:List Fw)(L M:Nat→Int):Prop where
 ok:RdOk l M
 sum:sumN M l.length+1≤sumN L l.length
 pos:∀p,posD l M p=posD l L p
theorem next_is{l:List Fw}{L:Nat→Int}(hM:MayD l)(hL:RdOk l L)(h:wayD l L≠[]):NextD l L (aKa l L)∧∃c K,aJe (rdE l L l.length) (rdE l L l.length) c∧(wayD l L).length=K∧aKr c (wayD l L) K (uW (wayD l L))∧(∀k,k<K→StD l L c (uW (wayD l L) k) (uW (wayD l L) (k+1)))∧TkI l L c (uW (wayD l L)) (amtD l L) K (aKa l L)∧1≤amtD l L:=by
 obtain⟨c,hC⟩:=aS9 (rdE l L l.length);obtain⟨K,u0,hu0⟩:=aIp hC (rdE_co l L l.length) h;have hu:=hu0.uW;have hl:(wayD l L).length=K:=hu.len
 change aKr c (wayD l L) K (uW (wayD l L))at hu
 have hS:∀k,k<K→StD l L c (uW (wayD l L) k) (uW (wayD l L) (k+1)):=fun k hk=>step_is hM hC (hu.cost k hk).2
 have hn1:1≤amtD l L:=by
  unfold amtD;rw[hl];exact aPd _ _ _ _ fun k hk=>(hS k hk).av
 have hle:=(aKb l L (uW (wayD l L)) K).2
 have hT:TkI l L c (uW (wayD l L)) (amtD l L) K (aKa l L):=by
  have:=tk_all hM hu hS (amtD l L) K yL;unfold aKa;rw[hl];exact this
 refine⟨⟨⟨fun i hi=>?_,fun i hi=>?_⟩,?_,fun p=>?_⟩,c,K,hC,hl,hu,hS,hT,hn1⟩
 ·by_cases hx:∃j,j<K∧ixS l L (uW (wayD l L) j) (uW (wayD l L) (j+1))=i
  ·obtain⟨j,hj,rfl⟩:=hx;rw[hT.on j hj];have h1:=hle j hj;have h2:=hL.lo _ hi;unfold amtD at hn1 ⊢;rw[hl]at hn1 ⊢;unfold avS at h1;split
   ·omega
   rename_i hb;rw[if_neg hb]at h1;omega
  rw[hT.off i (fun j hj e=>hx ⟨j,hj,e⟩)];exact hL.lo i hi
 ·by_cases hx:∃j,j<K∧ixS l L (uW (wayD l L) j) (uW (wayD l L) (j+1))=i
  ·obtain⟨j,hj,rfl⟩:=hx;rw[hT.on j hj];have h1:=hle j hj;have h2:=hL.hi _ hi;unfold amtD at hn1 ⊢;rw[hl]at hn1 ⊢;unfold avS at h1;split
   ·rename_i hb;rw[if_pos hb]at h1;omega
   omega
  rw[hT.off i (fun j hj e=>hx ⟨j,hj,e⟩)];exact hL.hi i hi
 ·have h1:=hT.sum;have h2:=hu.all;have h3:amtD l L*sumU c (uW (wayD l L)) K≤amtD l L*(-1):=Int.mul_le_mul_of_nonneg_left (by omega) (by omega);omega
 have h1:=hT.pos p;rw[hu.back]at h1;omega
def amD(l:List Fw):Nat→Int:=fun i=>(dbt l i).am
def itD(l:List Fw):Nat→(Nat→Int)
 | 0=>amD l
 | k+1=>aKa l (itD l k)
structure aJf(l:List Fw)(k:Nat)(L:Nat→Int):Prop where
 at_:L=itD l k
 ok:RdOk l L
 sum:(k:Int)+sumN L l.length≤sumN (amD l) l.length
 pos:∀p,posD l L p=posD l (amD l) p
 go:∀j,j<k→wayD l (itD l j)≠[]
theorem aJf.start{l:List Fw}(h:MayD l):aJf l 0 (amD l):=
 ⟨rfl,⟨fun i hi=>by have:=(h.ok i hi).2.2.2.1;show 0≤(dbt l i).am;omega,fun i hi=>Int.le_refl _⟩,by simp,fun p=>rfl,fun j hj=>by omega⟩
theorem aJf.step{l:List Fw}{k:Nat}{L:Nat→Int}(hM:MayD l)(h:aJf l k L)(hn:wayD l L≠[]):aJf l (k+1) (aKa l L):=by
 obtain⟨hx,_⟩:=next_is hM h.ok hn;refine⟨by rw[h.at_];rfl,hx.ok,?_,fun p=>by rw[hx.pos,h.pos],fun j hj=>?_⟩
 ·have:=hx.sum;have:=h.sum;rw[Int.natCast_add];omega
 by_cases hjk:j=k
 ·subst hjk;rw[←h.at_];exact hn
 exact h.go j (by omega)
structure aG7(l:List Fw)(L:Nat→Int)(k:Nat):Prop where
 inv:aJf l k L
 done:wayD l L=[]
theorem aG7.eq{l:List Fw}{L M:Nat→Int}{k j:Nat}(h:aG7 l L k)(g:aG7 l M j):k=j∧L=M:=by
 have hkj:k=j:=by
  rcases Nat.lt_trichotomy k j with q|q|q
  ·have:=g.inv.go k q;rw[←h.inv.at_]at this;exact absurd h.done this
  ·exact q
  have:=h.inv.go j q;rw[←g.inv.at_]at this;exact absurd g.done this
 subst hkj;exact⟨rfl,by rw[h.inv.at_,g.inv.at_]⟩
theorem aJf.k_le{l:List Fw}{k:Nat}{L:Nat→Int}(h:aJf l k L):(k:Int)≤sumN (amD l) l.length:=by
 have h1:=h.sum;have h2:=(aPc (g:=L) (B:=0) 0 (fun i hi=>by omega)).1
 have h3:0≤sumN L l.length:=by
  have:=sumN_le (g:=fun _=>0) (h:=L) l.length (fun i hi=>h.ok.lo i hi);have hz:∀n,sumN (fun _=>0) n=0:=fun n=>by induction n with|zero=>rfl|succ n ih=>show sumN _ n+0=0;rw[ih];rfl
  rw[hz]at this;exact this
 omega
theorem aOc{l:List Fw}(hM:MayD l):∃L k,aG7 l L k:=by
 have key:∀n:Nat,(∃L k,aG7 l L k)∨(∃L,aJf l n L∧wayD l L≠[]):=by
  intro n
  induction n with
  | zero=>
   by_cases hd:wayD l (amD l)=[]
   ·exact .inl ⟨_,0,aJf.start hM,hd⟩
   ·exact .inr ⟨_,aJf.start hM,hd⟩
  | succ n ih=>
   rcases ih with h1|⟨L,h1,h2⟩
   ·exact .inl h1
   have h3:=h1.step hM h2
   by_cases hd:wayD l (aKa l L)=[]
   ·exact .inl ⟨_,n+1,h3,hd⟩
   exact .inr ⟨_,h3,hd⟩
 rcases key ((sumN (amD l) l.length).toNat+1)with h1|⟨L,h1,_⟩
 ·exact h1
 have:=h1.k_le;omega
theorem am_bd{l:List Fw}(hM:MayD l):0≤sumN (amD l) l.length∧sumN (amD l) l.length≤1099511627776*(l.length:Int):=
 aPc l.length fun i hi=>⟨by have:=(hM.ok i hi).2.2.2.1;show 0≤(dbt l i).am;omega,(hM.ok i hi).2.2.2.2⟩
def uR(W:List Int)(k:Nat):Int:=uW W (k+W.length - 1)
theorem uW_add(W:List Int)(k:Nat):uW W (k+W.length)=uW W k:=by
 unfold uW;rw[Nat.add_mod_right]
theorem aG8(W:List Int)(k:Nat):uR W (k+1)=uW W k:=by
 unfold uR;rw[show k+1+W.length - 1=k+W.length by omega];exact uW_add W k
theorem uR_zero{W:List Int}(h:0<W.length):uR W 0=uW W (W.length - 1):=by
 unfold uR;rw[show 0+W.length - 1=W.length - 1 by omega]
def sgm(K:Nat):Nat→Nat
 | 0=>K - 1
 | k+1=>k
theorem aKs{K k:Nat}(h:k<K):sgm K k<K:=by
 cases k with
 | zero=>show K - 1<K;omega
 | succ k=>show k<K;omega
theorem sgm_ne{K j k:Nat}(hj:j<k)(hk:k<K):sgm K j≠sgm K k:=by
 cases k with
 | zero=>omega
 | succ k=>
  cases j with
  | zero=>show K - 1≠k;omega
  | succ j=>show j≠k;omega
theorem aB5{W:List Int}(h:0<W.length)(k:Nat):uR W k=uW W (sgm W.length k)∧uR W (k+1)=uW W (sgm W.length k+1):=by
 cases k with
 | zero=>
  refine⟨uR_zero h,?_⟩;rw[aG8];show uW W 0=uW W (W.length - 1+1);rw[show W.length - 1+1=0+W.length by omega,uW_add]
 | succ k=>exact⟨aG8 W k,aG8 W (k+1)⟩
theorem aTa{l:List Fw}{L:Nat→Int}{u:Nat→Int}{x:Int}(h0:x≤1099511627776):∀K,(∀k,k<K→x≤avS l L (u k) (u (k+1)))→x≤minK l L u K
 | 0,_=>h0
 | K+1,h=>by
  have h1:=aTa h0 K (fun k hk=>h k (by omega));have h2:=h K (by omega);show x≤min _ _;omega
theorem minK_rot{l:List Fw}{L:Nat→Int}{W:List Int}(h:0<W.length):minK l L (uR W) W.length=minK l L (uW W) W.length:=by
 obtain⟨a1,a2⟩:=aKb l L (uR W) W.length;obtain⟨b1,b2⟩:=aKb l L (uW W) W.length
 have h1:minK l L (uW W) W.length≤minK l L (uR W) W.length:=aTa b1 _ fun k hk=>by
  rw[(aB5 h k).1,(aB5 h k).2];exact b2 _ (aKs hk)
 have h2:minK l L (uR W) W.length≤minK l L (uW W) W.length:=aTa a1 _ fun k hk=>by
  by_cases hk1:k+1<W.length
  ·have:=a2 (k+1) hk1;rw[aG8,aG8]at this;exact this
  have hk2:k=W.length - 1:=by omega
  have:=a2 0 h;rw[(aB5 h 0).1,(aB5 h 0).2]at this;rw[hk2];exact this
 omega
theorem tk_gen{l:List Fw}{L:Nat→Int}{s:Nat→Int}{n:Int}{K:Nat}(hap:∀j k,j<k→k<K→ixS l L (s j) (s (j+1))≠ixS l L (s k) (s (k+1))):
  ∀k,k≤K→(∀i,(∀j,j<k→ixS l L (s j) (s (j+1))≠i)→tkK l L s n k i=L i)∧(∀j,j<k→tkK l L s n k (ixS l L (s j) (s (j+1)))=L (ixS l L (s j) (s (j+1)))+if bkS l L (s j) (s (j+1))then n else -n)
 | 0,_=>⟨fun i _=>rfl,fun j hj=>by omega⟩
 | k+1,hk=>by
  obtain⟨ih1,ih2⟩:=tk_gen hap k (by omega);have hat:=ih1 _ (fun j hj=>hap j k hj (by omega));refine⟨fun i hi=>?_,fun j hj=>?_⟩
  ·show updL _ _ _ i=_;unfold updL;rw[if_neg (fun h=>hi k (by omega) h.symm)];exact ih1 i (fun j hj=>hi j (by omega))
  show updL _ _ _ _=_;unfold updL
  by_cases hjk:j=k
  ·subst hjk;rw[if_pos rfl,hat]
  rw[if_neg (hap j k (by omega) (by omega))];exact ih2 j (by omega)
theorem tk_rot{l:List Fw}{L:Nat→Int}{W:List Int}{n:Int}(h:0<W.length)(hap:∀j k,j<k→k<W.length→ixS l L (uW W j) (uW W (j+1))≠ixS l L (uW W k) (uW W (k+1))):tkK l L (uR W) n W.length=tkK l L (uW W) n W.length:=by
 have hap2:∀j k,j<W.length→k<W.length→j≠k→ixS l L (uW W j) (uW W (j+1))≠ixS l L (uW W k) (uW W (k+1)):=fun j k hj hk hjk=>by
  rcases Nat.lt_or_ge j k with q|q
  ·exact hap j k q hk
  exact(hap k j (by omega) hj).symm
 have hapR:∀j k,j<k→k<W.length→ixS l L (uR W j) (uR W (j+1))≠ixS l L (uR W k) (uR W (k+1)):=fun j k hj hk=>by
  rw[(aB5 h j).1,(aB5 h j).2,(aB5 h k).1,(aB5 h k).2];exact hap2 _ _ (aKs (by omega)) (aKs hk) (sgm_ne hj hk)
 obtain⟨a1,a2⟩:=tk_gen (n:=n) hapR W.length yL;obtain⟨b1,b2⟩:=tk_gen (n:=n) hap W.length yL
 funext i
 by_cases hx:∃j,j<W.length∧ixS l L (uR W j) (uR W (j+1))=i
 ·obtain⟨j,hj,rfl⟩:=hx;rw[a2 j hj,(aB5 h j).1,(aB5 h j).2,b2 _ (aKs hj)]
 rw[a1 i (fun j hj e=>hx ⟨j,hj,e⟩),b1 i (fun j hj e=>?_)]
 by_cases hj1:j+1<W.length
 ·exact hx ⟨j+1,hj1,by rw[aG8,aG8];exact e⟩
 have hj2:j=W.length - 1:=by omega
 refine hx ⟨0,h,?_⟩;rw[(aB5 h 0).1,(aB5 h 0).2];rw[hj2]at e;exact e
structure CanI(l:List Fw)(L:Nat→Int)(c:Int→Int→Int)(W:List Int)(n:Int):Prop where
 k1:1≤W.length
 k16:W.length≤16
 st:∀k,k<W.length→StD l L c (uR W k) (uR W (k+1))
 apart:∀j k,j<k→k<W.length→ixS l L (uR W j) (uR W (j+1))≠ixS l L (uR W k) (uR W (k+1))
 least:minK l L (uR W) W.length=n
 next:tkK l L (uR W) n W.length=aKa l L
 n1:1≤n
 n9:n≤1099511627776
 n_le:∀k,k<W.length→n≤avS l L (uR W k) (uR W (k+1))
 at_:∀k,(h:k<W.length)→W[k]=uR W (k+1)
 last:∀h:W.length - 1<W.length,W[W.length - 1]=uR W 0
 ends:∀k,1≤uR W k∧uR W k≤16
theorem can_of{l:List Fw}{L:Nat→Int}(hM:MayD l)(hL:RdOk l L)(h:wayD l L≠[]):∃c,CanI l L c (wayD l L) (amtD l L):=by
 obtain⟨_,c,K,hC,hK,hu,hS,hT,h1⟩:=next_is hM hL h;subst hK;have hap:∀j k,j<k→k<(wayD l L).length→ixS l L (uW (wayD l L) j) (uW (wayD l L) (j+1))≠ixS l L (uW (wayD l L) k) (uW (wayD l L) (k+1)):=fun j k hj hk=>aMt hM hu hS hj hk
 have h0:0<(wayD l L).length:=hu.k1;obtain⟨m1,m2⟩:=aKb l L (uW (wayD l L)) (wayD l L).length
 have hat:∀k,(hk:k<(wayD l L).length)→(wayD l L)[k]=uW (wayD l L) k:=fun k hk=>by
  unfold uW;rw[Nat.mod_eq_of_lt hk,List.getD_eq_getElem?_getD,List.getElem?_eq_getElem hk];rfl
 refine⟨c,hu.k1,hu.k16,fun k hk=>?_,fun j k hj hk=>?_,minK_rot h0,tk_rot h0 hap,h1,m1,fun k hk=>?_,fun k hk=>?_,fun hk=>?_,fun k=>?_⟩
 ·rw[(aB5 h0 k).1,(aB5 h0 k).2];exact hS _ (aKs hk)
 ·rw[(aB5 h0 j).1,(aB5 h0 j).2,(aB5 h0 k).1,(aB5 h0 k).2];rcases Nat.lt_or_ge (sgm (wayD l L).length j) (sgm (wayD l L).length k)with q|q
  ·exact hap _ _ q (aKs hk)
  have:=sgm_ne hj hk;exact(hap _ _ (by omega) (aKs (by omega))).symm
 ·rw[(aB5 h0 k).1,(aB5 h0 k).2];exact m2 _ (aKs hk)
 ·rw[hat k hk,aG8]
 ·rw[hat _ hk,uR_zero h0]
 have:=hu.ends (k+(wayD l L).length - 1);unfold inP at this;exact this
theorem aF9{l:List Fw}{i:Nat}(h:i<l.length):dbt l i=l[i]:=by unfold dbt;simp[h]
def aFk(w:World)(ao:Option Addr)(l:List Fw):Prop:=
 0<l.length→∃b off,ao=some ⟨b,off,none⟩∧b<w.heap.size∧∀m,m<l.length→w.cell? ⟨b,off+m*3,none⟩=some (.int .u8 (dbt l m).fr)∧w.cell? ⟨b,off+m*3+1,none⟩=some (.int .u8 (dbt l m).tt)∧w.cell? ⟨b,off+m*3+2,none⟩=some (.int .i64 (dbt l m).am)
theorem aTb{w:World}{ao:Option Addr}{cap:Nat}{l:List Fw}(h:aB7 w (.slice ao l.length cap) 3 l.length (aAn l)):aFk w ao l:=by
 obtain⟨ao',cap',hv,_,_,hcell⟩:=h
 cases hv
 intro h0;obtain⟨b,off,h1,h2,h3⟩:=hcell h0;refine⟨b,off,h1,h2,fun m hm=>?_⟩;rw[aF9 hm];refine⟨?_,?_,?_⟩
 ·have:=h3 (m*3+0) (by omega);rw[aCk l m 0 (by omega) hm,show off+(m*3+0)=off+m*3 by omega]at this;exact this
 ·have:=h3 (m*3+1) (by omega);rw[aCk l m 1 (by omega) hm,show off+(m*3+1)=off+m*3+1 by omega]at this;exact this
 have:=h3 (m*3+2) (by omega);rw[aCk l m 2 (by omega) hm,show off+(m*3+2)=off+m*3+2 by omega]at this;exact this
theorem aFk.below{w w':World}{ao:Option Addr}{l:List Fw}(h:aFk w ao l)(hb:Below w.heap.size w w'):aFk w' ao l:=by
 intro h0;obtain⟨b,off,h1,h2,h3⟩:=h h0;refine⟨b,off,h1,yM h2 hb.size,fun m hm=>?_⟩;obtain⟨a1,a2,a3⟩:=h3 m hm;exact⟨(hb.cell (p:=⟨b,off+m*3,none⟩) h2).trans a1,(hb.cell (p:=⟨b,off+m*3+1,none⟩) h2).trans a2,(hb.cell (p:=⟨b,off+m*3+2,none⟩) h2).trans a3⟩
def aJg(l:List Fw):Prop:=∀m,m<l.length→(0≤(dbt l m).fr∧(dbt l m).fr≤255)∧(0≤(dbt l m).tt∧(dbt l m).tt≤255) ∧ -9223372036854775808≤(dbt l m).am∧(dbt l m).am≤9223372036854775807
theorem aG9(l:List Fw)(k:Nat):mayN l (k+1)=(mayN l k && decide (okD (dbt l k)) && (decide (k=0) || decide (keyD (dbt l (k - 1))<keyD (dbt l k)))):=rfl
theorem aMu{l:List Fw}:∀{n:Nat} (k:Nat),k≤n→mayN l k=false→mayN l n=false
 | 0,k,hk,h=>by
  have:k=0:=by omega
  subst this;exact h
 | n+1,k,hk,h=>by
  by_cases hkn:k=n+1
  ·subst hkn;exact h
  rw[aG9,aMu k (by omega) h];rfl
theorem aAy{P:Program}(w:World){ops:Array Oper}{rest:List Oper}{o:Oper}{a:Act}{Q:Exit→Act→World→Prop}(hgd:o.guard=none)(s x:Operand)(t e:TypeId)
  (ho:o.op=.call { callee:=.builtin .append,args:=#[s,x],argTypes:=#[t,t] }){z:Value}{sz by':Nat}(ht:P.underlying t=some (.slice e))(hinf:(P.info? e).map (fun i=>(i.zero,i.size,i.bytes))=some (some z,sz,by'))(hzs:z.cells.size=sz)(h0:0<sz)(hby:by'≤1000)
  (base:Nat)(v:Value)(n:Nat)(xs:List Value)(hs:a.eval s=v)(hown:w.ownsRow base e sz v n xs)(g c:Nat)(vs:List Value)(hvs:vs.length=sz)(hx:a.eval x=.slice (some ⟨g,0,none⟩) 1 c)(hy:Blk w g vs.toArray e)(h1:∀u∈vs,u.oneCell'=true)(hlen:n≤100000)(hbase:base≤w.heap.size)
  (h:∀v' w',w'.ownsRow base e sz v' (n+1) (xs++vs)→w.grownBy w' v.ownBlock→wpList P ops Q rest (a.put o.dst v') w'):wpList P ops Q (o::rest) a w:=by
 obtain⟨i0,hi,hz0,hz1,hz2⟩:=info_parts hinf;refine wpList_append_own w hgd s x t ho base e i0 z sz by' ht hi hz0 hz1 hz2 hzs h0 v n xs hs hown ⟨g,0,none⟩ 1 c vs hx (by rw[hvs];omega) ?_ h1 (by unfold maxLen;omega) ?_ hbase ?_
 ·intro j u hj;rw[Go.WideShapes.add_plain,Nat.zero_add,hy.cell j];simpa using hj
 ·refine Nat.le_trans (Nat.mul_le_mul_left _ hby) ?_;omega
 intro v' w' h2 h3 _;exact h v' w' h2 h3
theorem aGa{B:Nat}{w w1 w2:World}{o:Obj}{row:Option Nat}(h:Below B w w1)(hB:B≤w1.heap.size)(hg:(w1.alloc o).grownBy w2 row)(hr:∀k,row=some k→B≤k):Below B w w2:=
 (h.alloc hB o).grown hg (by simp;omega) hr
end Go.Proofs.YtngnfdnfpiiclaaGreat
namespace Go.Proofs.YtngnfdnfpiiclaaGreat
open Go.RowKit Go.ChangeShapes Go.WideShapes Go.Deep
def Ed.val(x:Ed):Value:=.agg #[.int .u8 x.fr,.int .u8 x.tt,.int .i8 x.co]
theorem aD2(a b:List Ed):aCl (a++b)=aCl a++aCl b:=by unfold aCl;exact List.flatMap_append
theorem aGb(x:Ed):aCl [x]=x.vals:=by simp[aCl]
section
variable{H:Type}{enc:TypeId×Value→H}{P:Program}{w:World}{base:Nat}{spare:Nat→Bool}{held:Bool}
end
theorem aPe:(Tryz.prog.info? 377).map (fun i=>(i.zero,i.size,i.bytes))=some (some (Ed.val ⟨0,0,0⟩),3,3):=by kernel_rfl
section
variable{H:Type}{enc:TypeId×Value→H}{w:World}{base:Nat}{spare:Nat→Bool}{held:Bool}
end
theorem SlIn.edges{w:World}{a:Option Addr}{len cap:Nat}{xs:List Ed}(h:SlIn Ed.vals 3 Ed.Fits w a len cap xs)(hn:len≤100000000):aB7 w (.slice a xs.length cap) 3 xs.length (aCl xs):=by
 obtain⟨h0,hl,hk,h1,h2,h3⟩:=h;subst hl;refine⟨a,cap,rfl,hn,aSk xs,fun hp=>?_⟩;obtain⟨b,off,ha,hb,hc⟩:=h3 hp;refine⟨b,off,ha,hb,fun j hj=>?_⟩;have hjd:j/3<xs.length:=by omega
 have h4:=aL6 xs (j/3) (j%3) (by omega) hjd;rw[show j/3*3+j%3=j by omega]at h4;have hv:(xs[j/3].vals)[j%3]? = some (xs[j/3].vals[j%3]'(by rw[Ed.vals_len];omega)):=List.getElem?_eq_getElem _;have h5:=hc (j/3) hjd (j%3) _ hv;rw[show off+j/3*3+j%3=off+j by omega]at h5;rw[h5,h4,hv]
end Go.Proofs.YtngnfdnfpiiclaaGreat
namespace Go.Proofs.YtngnfdnfpiiclaaGreat
open Go.RowKit
def srC(far ahd:Int→Int):Array Value:=ltA far++ahA ahd
theorem aFe(far ahd:Int→Int):(srC far ahd).size=34:=by unfold srC;rw[Array.size_append,aK9,aFb]
theorem aIq(far ahd:Int→Int){i:Nat}(h:i<17):(srC far ahd)[i]? = some (.int .i64 (far i)):=by
 unfold srC;rw[Array.getElem?_append_left (by rw[aK9];exact h),ltA_get far h]
theorem aGc(far ahd:Int→Int){i:Nat}(h:i<17):(srC far ahd)[17+i]? = some (.int .u8 (ahd i)):=by
 unfold srC;rw[Array.getElem?_append_right (by rw[aK9];omega),aK9,Nat.add_sub_cancel_left,aL7 ahd h]
theorem srC_setFar(far ahd:Int→Int){i:Nat}(hi:i<17)(n:Int):(srC far ahd).setIfInBounds i (.int .i64 n)=srC (upI far i n) ahd:=by
 apply Array.ext_getElem?;intro j
 by_cases e:i=j
 ·subst e;rw[Array.getElem?_setIfInBounds_self_of_lt (by rw[aFe];omega),aIq _ _ hi,aC4]
 rw[Array.getElem?_setIfInBounds_ne e]
 by_cases hj:j<17
 ·rw[aIq _ _ hj,aIq _ _ hj,aEj _ (by omega)]
 by_cases hj2:j<34
 ·have:=aGc far ahd (i:=j - 17) (by omega);have h2:=aGc (upI far i n) ahd (i:=j - 17) (by omega);rw[show 17+(j - 17)=j by omega]at this h2;rw[this,h2]
 rw[Array.getElem?_eq_none (by rw[aFe];omega),Array.getElem?_eq_none (by rw[aFe];omega)]
theorem srC_setAhd(far ahd:Int→Int){i:Nat}(hi:i<17)(n:Int):(srC far ahd).setIfInBounds (17+i) (.int .u8 n)=srC far (upI ahd i n):=by
 apply Array.ext_getElem?;intro j
 by_cases e:17+i=j
 ·subst e;rw[Array.getElem?_setIfInBounds_self_of_lt (by rw[aFe];omega),aGc _ _ hi,aC4]
 rw[Array.getElem?_setIfInBounds_ne e]
 by_cases hj:j<17
 ·rw[aIq _ _ hj,aIq _ _ hj]
 by_cases hj2:j<34
 ·have:=aGc far ahd (i:=j - 17) (by omega);have h2:=aGc far (upI ahd i n) (i:=j - 17) (by omega);rw[aEj _ (by omega)]at h2;rw[show 17+(j - 17)=j by omega]at this h2;rw[this,h2]
 rw[Array.getElem?_eq_none (by rw[aFe];omega),Array.getElem?_eq_none (by rw[aFe];omega)]
attribute [irreducible] srC
theorem Blk.srFar{w:World}{g:Nat}{far ahd:Int→Int}{t:TypeId}(h:Blk w g (srC far ahd) t){p:Int}(h0:0≤p)(h1:p<17):w.cell? ⟨g,p.toNat,none⟩=some (.int .i64 (far p)):=by
 rw[h.cell,aIq _ _ (by omega),Int.toNat_of_nonneg h0]
theorem Blk.srAhd{w:World}{g:Nat}{far ahd:Int→Int}{t:TypeId}(h:Blk w g (srC far ahd) t){p:Int}(h0:0≤p)(h1:p<17):w.cell? ⟨g,17+p.toNat,none⟩=some (.int .u8 (ahd p)):=by
 rw[h.cell,aGc _ _ (by omega),Int.toNat_of_nonneg h0]
theorem pAJ{w:World}{g:Nat}{far ahd:Int→Int}{t:TypeId}(h:Blk w g (srC far ahd) t){p:Int}(h0:0≤p)(h1:p<17)(n:Int):Blk (w.setCell ⟨g,p.toNat,none⟩ (.int .i64 n)) g (srC (upI far p n) ahd) t:=by
 have:=h.set p.toNat (.int .i64 n);rw[srC_setFar _ _ (by omega),Int.toNat_of_nonneg h0]at this;exact this
theorem pAK{w:World}{g:Nat}{far ahd:Int→Int}{t:TypeId}(h:Blk w g (srC far ahd) t){p:Int}(h0:0≤p)(h1:p<17)(n:Int):Blk (w.setCell ⟨g,17+p.toNat,none⟩ (.int .u8 n)) g (srC far (upI ahd p n)) t:=by
 have:=h.set (17+p.toNat) (.int .u8 n);rw[srC_setAhd _ _ (by omega),Int.toNat_of_nonneg h0]at this;exact this
def ShrtAt(w:World)(g:Nat)(es:List Ed)(k:Nat)(lv i:Value)(wr:World):Prop:=
 ∃(j:Nat) (s:BF),j≤es.length∧i=.int .i64 j∧Hid (s=(es.take j).foldl (aEe (k+1)) { aA2 es k with pt:=0 })∧lv=.int .u8 s.pt∧Blk wr g (srC s.far s.ahd) 399∧Below g w wr
theorem aTc{w:World}{g k:Nat}{ao:Option Addr}{cap:Nat}{es:List Ed}(h:Blk w g (srC (aA2 es k).far (aA2 es k).ahd) 399)(hk:k<16)(hfit:∀e∈es,e.Fits)(hln:es.length≤600)
  (hes:0<es.length→∃b off,ao=some ⟨b,off,none⟩∧b<g∧∀m,(hm:m<es.length)→∀j,j<3→w.cell? ⟨b,off+m*3+j,none⟩=es[m].vals[j]?):
  Calls Tryz.prog 309 #[.pointer (some ⟨g,0,none⟩),.slice ao es.length cap] w fun e w'=>e=.returned (.int .u8 (aA2 es (k+1)).pt)∧Blk w' g (srC (aA2 es (k+1)).far (aA2 es (k+1)).ahd) 399∧Below g w w':=by
 have K0:=yH h;have HF:=yH hfit;have HC:=yH hes;have HB:=yH (passN_bd (es:=es) (fun e he=>(hfit e he).co.1) k);have CM:=yH (fun p (w:World)=>aL8 p w);clear h hfit hes;go_enter Tryz.func309,Tryz.ntmps309;go_wp2_with fail
 go_loopw [5,11] (ShrtAt w g es k) (fun _ i _=>es.length - (intOf i).toNat)
 case atStart=>exact⟨0,_,by omega,rfl,yH rfl,rfl,K0.out,yZ⟩
 clear K0;obtain⟨j,s,hj,rfl,hs,rfl,hF,hB⟩:=hrel;have KS:=yH hF;have BB:=yH hB;clear hF hB
 by_cases hjl:j<es.length
 ·obtain⟨b,off,rfl,hbg,hcell⟩:=HC.out (by omega);have d0:=(BB.out.cell (p:=⟨b,off+j*3,none⟩) hbg).trans (hcell j hjl 0 (by omega));have d1:=(BB.out.cell (p:=⟨b,off+j*3+1,none⟩) hbg).trans (hcell j hjl 1 (by omega));have d2:=(BB.out.cell (p:=⟨b,off+j*3+2,none⟩) hbg).trans (hcell j hjl 2 (by omega));simp only[Ed.vals,List.getElem?_cons_zero,List.getElem?_cons_succ]at d0 d1 d2;have hfx:=HF.out es[j] (List.getElem_mem hjl)
  have hfold:(es.take (j+1)).foldl (aEe (k+1)) { aA2 es k with pt:=0 }=aEe (k+1) s es[j]:=by
   rw[List.take_succ_eq_append_getElem hjl,List.foldl_append,←hs.out];rfl
  have hbd:=far_bd (es:=es) (fun e he=>(HF.out e he).co.1) (n:=k+1) (es.take j) { aA2 es k with pt:=0 } (k*es.length) (fun e he=>List.mem_of_mem_take he) HB.out;rw[←hs.out]at hbd
  have hm:k*es.length+(es.take j).length≤9600:=by
   have h1:(es.take j).length≤j:=by simp;omega
   have h2:k*es.length≤15*es.length:=Nat.mul_le_mul_right _ (by omega);omega
  have HBD:Hid (∀p,-1228800≤s.far p∧s.far p≤0):=yH fun p=>by have:=hbd p;omega
  have HFD:=yH hfold;generalize es[j]=x at *;obtain⟨fr,tt,co⟩:=x;dsimp only at d0 d1 d2;obtain⟨⟨f0,f9⟩,⟨t0,t9⟩,⟨c0,c9⟩⟩:=hfx;dsimp only at f0 f9 t0 t9 c0 c9;have KX:=yH (Blk.new wr #[.int .u8 fr,.int .u8 tt,.int .i8 co] 377);have KS2:=yH (KS.out.alloc (.cells #[.int .u8 fr,.int .u8 tt,.int .i8 co] 377));have hgr:g<wr.heap.size:=KS.out.lt;have BB2:=yH (BB.out.alloc (Nat.le_of_lt hgr) (.cells #[.int .u8 fr,.int .u8 tt,.int .i8 co] 377));have CF:=yH (CM.out fr (wr.alloc (.cells #[.int .u8 fr,.int .u8 tt,.int .i8 co] 377)));have CT:=yH (CM.out tt (wr.alloc (.cells #[.int .u8 fr,.int .u8 tt,.int .i8 co] 377)));clear hcell hfold hbd hm hs KS BB
  by_cases o1:inP fr
  ·rw[aA6 o1]at CF
   by_cases o2:inP tt
   ·rw[aA6 o2]at CT;have o1':=o1;have o2':=o2;obtain⟨p1,p2⟩:=o1';obtain⟨p3,p4⟩:=o2';obtain⟨df,hdf⟩:∃df,s.far fr=df:=⟨_,rfl⟩;obtain⟨dt,hdt⟩:∃dt,s.far tt=dt:=⟨_,rfl⟩;have HDF:=yH hdf;have HDT:=yH hdt;have b1:=HBD.out fr;have b2:=HBD.out tt;have kf:=KS2.out.srFar (p:=fr) (by omega) (by omega);have kt:=KS2.out.srFar (p:=tt) (by omega) (by omega);rw[hdf]at b1 kf;rw[hdt]at b2 kt;obtain⟨b3,b4⟩:=b1;obtain⟨b5,b6⟩:=b2;clear hdf hdt;go_wp2_with fail;refine CF.out.mono ?_;rintro e w1 ⟨rfl,rfl⟩;clear CF;go_wp2_with fail;refine CT.out.mono ?_;rintro e w1 ⟨rfl,rfl⟩;clear CT;go_wp2_with fail;generalize hW:wr.alloc (.cells #[.int .u8 fr,.int .u8 tt,.int .i8 co] 377)=W at *;generalize wr.heap.size=X at *;clear hW d0 d1 d2;have e0:=KX.out.cell 0;have e1:=KX.out.cell 1;have e2:=KX.out.cell 2;simp at e0 e1 e2
    by_cases hless:df+co<dt
    ·have cless:decide (df+co<dt)=true:=by simpa using hless
     have NX:Hid ((⟨upI s.far tt (df+co),upI s.ahd tt fr,tt,fun p=>if p=tt then k+1 else s.t p,upI s.w tt co⟩:BF)=(es.take (j+1)).foldl (aEe (k+1)) { aA2 es k with pt:=0 }):=yH (by
      rw[HFD.out];unfold aEe;rw[if_pos ⟨⟨o1,o2⟩,by show s.far fr+co<s.far tt;rw[HDF.out,HDT.out];exact hless⟩];dsimp only;rw[HDF.out])
     have ft:=KS2.out.frozen tt.toNat;have ka:=KS2.out.srAhd (p:=tt) (by omega) (by omega);have fa:=KS2.out.frozen (17+tt.toNat);clear hless
     go_quiet (fail)
     go_wp2
     go_quiet (fail)
     go_wp2
     go_region
     all_goals
      go_wp2
      go_region
      all_goals
       go_wp2;go_roundw
       case rel=>
        refine⟨j+1,_,by omega,by go_num,NX,rfl,?_,?_⟩
        ·refine pAK ?_ (by omega) (by omega) _;refine pAJ ?_ (by omega) (by omega) _;exact KS2.out
        refine Below.drew ?_;refine Below.setCell (p:=⟨g,17+tt.toNat,none⟩) ?_ (Nat.le_refl g) _;refine Below.setCell (p:=⟨g,tt.toNat,none⟩) ?_ (Nat.le_refl g) _;exact⟨BB2.out.os,BB2.out.tape,BB2.out.output,BB2.out.size,BB2.out.block⟩
       case measure=>simp[intOf];omega
    have cless:decide (df+co<dt)=false:=by simpa using hless
    have NX:Hid (s=(es.take (j+1)).foldl (aEe (k+1)) { aA2 es k with pt:=0 }):=yH (by
     rw[HFD.out];unfold aEe;rw[if_neg (fun h=>hless (by have:=h.2;rw[HDF.out,HDT.out]at this;exact this))])
    clear hless
    go_quiet (fail)
    go_wp2
    go_quiet (fail)
    go_wp2;go_roundw
    case rel=>exact⟨j+1,s,by omega,by go_num,NX,rfl,KS2.out,⟨BB2.out.os,BB2.out.tape,BB2.out.output,BB2.out.size,BB2.out.block⟩⟩
    case measure=>simp[intOf];omega
   rw[aDb o2]at CT
   have NX:Hid (s=(es.take (j+1)).foldl (aEe (k+1)) { aA2 es k with pt:=0 }):=yH (by
    rw[HFD.out];unfold aEe;rw[if_neg (fun h=>o2 h.1.2)])
   clear o1 o2;go_wp2_with fail;refine CF.out.mono ?_;rintro e w1 ⟨rfl,rfl⟩;clear CF;go_wp2_with fail;refine CT.out.mono ?_;rintro e w1 ⟨rfl,rfl⟩;clear CT;go_wp2_with fail;go_roundw
   case rel=>exact⟨j+1,s,by omega,by go_num,NX,rfl,KS2.out,BB2.out⟩
   case measure=>simp[intOf];omega
  rw[aDb o1]at CF
  have NX:Hid (s=(es.take (j+1)).foldl (aEe (k+1)) { aA2 es k with pt:=0 }):=yH (by
   rw[HFD.out];unfold aEe;rw[if_neg (fun h=>o1 h.1.1)])
  clear o1 CT;go_wp2_with fail;refine CF.out.mono ?_;rintro e w1 ⟨rfl,rfl⟩;clear CF;go_wp2_with fail;go_roundw
  case rel=>exact⟨j+1,s,by omega,by go_num,NX,rfl,KS2.out,BB2.out⟩
  case measure=>simp[intOf];omega
 have hjj:es.take j=es:=List.take_of_length_le (by omega);rw[hjj]at hs;have hE:s=aA2 es (k+1):=hs.out;subst hE;clear hs hjj;go_wp2_with fail;go_ret;exact⟨rfl,KS.out,BB.out⟩
theorem aTd:(∀w,(zeroValue 399).run Tryz.prog w=.ok (.agg (srC (fun _=>0) (fun _=>0))) w)∧(Tryz.prog.info? 399).map (·.size)=some 34:=by
 have h:srC (fun _=>0) (fun _=>0)=#[.int .i64 0,.int .i64 0,.int .i64 0,.int .i64 0,.int .i64 0,.int .i64 0,.int .i64 0,.int .i64 0,.int .i64 0,.int .i64 0,.int .i64 0,.int .i64 0,.int .i64 0,.int .i64 0,.int .i64 0,.int .i64 0,.int .i64 0,
   .int .u8 0,.int .u8 0,.int .u8 0,.int .u8 0,.int .u8 0,.int .u8 0,.int .u8 0,.int .u8 0,.int .u8 0,.int .u8 0,.int .u8 0,.int .u8 0,.int .u8 0,.int .u8 0,.int .u8 0,.int .u8 0,.int .u8 0]:=by
  apply Array.ext (by rw[aFe];rfl);intro i h1 h2;have h34:i<34:=by rw[aFe]at h1;exact h1
  have e:(srC (fun _=>0) (fun _=>0))[i]=if i<17 then .int .i64 0 else .int .u8 0:=by
   have q:(srC (fun _=>0) (fun _=>0))[i]? = some (if i<17 then Value.int .i64 0 else .int .u8 0):=by
    by_cases hi:i<17
    ·rw[aIq _ _ hi,if_pos hi]
    have:=aGc (fun _=>0) (fun _=>0) (i:=i - 17) (by omega);rw[show 17+(i - 17)=i by omega]at this;rw[this,if_neg hi]
   rw[Array.getElem?_eq_getElem h1]at q;simpa using q
  rw[e];have hi:i=0∨i=1∨i=2∨i=3∨i=4∨i=5∨i=6∨i=7∨i=8∨i=9∨i=10∨i=11∨i=12∨i=13∨i=14∨i=15∨i=16∨i=17∨i=18∨i=19∨i=20∨i=21∨i=22∨i=23∨i=24∨i=25∨i=26∨i=27∨i=28∨i=29∨i=30∨i=31∨i=32∨i=33:=by omega
  rcases hi with rfl|rfl|rfl|rfl|rfl|rfl|rfl|rfl|rfl|rfl|rfl|rfl|rfl|rfl|rfl|rfl|rfl|rfl|rfl|rfl|rfl|rfl|rfl|rfl|rfl|rfl|rfl|rfl|rfl|rfl|rfl|rfl|rfl|rfl <;> rfl
 rw[h];exact zero_of_info (by kernel_rfl)
theorem roundW_go{es:List Ed}(h:∀n,n<16→(aA2 es (n+1)).pt≠0):aDk es≠[]:=by
 unfold aDk;rw[if_pos (List.all_eq_true.2 fun n hn=>by simpa using h n (by simpa using hn))];unfold roundL aP5;simp
theorem aOd{f:Int→Int}{p x:Int}{n:Nat}:x∈aDc f p n↔∃i,i<n∧itr f i p=x:=by unfold aDc;simp
theorem aQz{f:Int→Int}{l:Int}{K:Nat}(h1:1≤K)(hK:itr f K l=l):aDc f (f l) K=aP5 f l (K - 1):=by
 obtain⟨n,rfl⟩:∃n,K=n+1:=⟨K - 1,by omega⟩;rw[aL5];show itr f (n+1) l::_=_;rw[hK];rfl
theorem least_is{f:Int→Int}{a m:Int}{K:Nat}(h1:1≤K)(hm:m∈aDc f a K)(hle:∀x∈aDc f a K,m≤x):m=aHz f a (K - 1):=by
 obtain⟨i,i1,i2⟩:=aJv f a (K - 1);obtain⟨j,j1,j2⟩:=aOd.1 hm;have a1:=hle (aHz f a (K - 1)) (aOd.2 ⟨i,by omega,i2.symm⟩);have a2:=aLt f a (K - 1) j (by omega);omega
def RdAt(w:World)(es:List Ed)(lv i:Value)(wr:World):Prop:=
 ∃k:Nat,k<16∧i=.int .i64 ((k:Int)+1)∧(∀j,j<k→(aA2 es (j+1)).pt≠0)∧Blk wr w.heap.size (srC (aA2 es k).far (aA2 es k).ahd) 399∧Below w.heap.size w wr
def HpAt(w:World)(s:BF)(lv i:Value)(wr:World):Prop:=
 ∃j:Nat,j≤16∧i=.int .i64 j∧lv=.int .u8 (itr s.ahd j s.pt)∧Blk wr w.heap.size (srC s.far s.ahd) 399∧Below w.heap.size w wr
theorem pround_any{w:World}{ao:Option Addr}{cap:Nat}{es:List Ed}(hr:aB7 w (.slice ao es.length cap) 3 es.length (aCl es))(hfit:∀e∈es,e.Fits)(hln:es.length≤600):
  Calls Tryz.prog 283 #[.slice ao es.length cap] w (aL2 68 (aDk es) w):=by
 obtain⟨ao',cap',hv,_,_,hcell⟩:=hr
 cases hv
 have HC:Hid (0<es.length→∃b off,ao=some ⟨b,off,none⟩∧b<w.heap.size∧∀m,(hm:m<es.length)→∀j,j<3→w.cell? ⟨b,off+m*3+j,none⟩=es[m].vals[j]?):=yH fun h0=>by
  obtain⟨b,off,h1,h2,h3⟩:=hcell h0;refine⟨b,off,h1,h2,fun m hm j hj=>?_⟩;have:=h3 (m*3+j) (by omega);rw[aL6 es m j hj hm]at this;rw[←this,Nat.add_assoc]
 have HF:=yH hfit;clear hcell hfit;have hz:=aTd.1;have B0:=yH ((Below.refl w.heap.size w).alloc yL (.cells (srC (fun _=>0) (fun _=>0)) 399));have K0:=yH (Blk.new w (srC (fun _=>0) (fun _=>0)) 399);go_enter Tryz.func283,Tryz.ntmps283;go_wp2_with fail
 go_step3
 go_wp2_with fail
 go_step3
 go_wp2_with fail
 go_loopw [4,5] (RdAt w es) (fun _ i _=>17 - (intOf i).toNat)
 case atStart=>exact⟨0,by omega,rfl,fun j h=>by omega,K0.out,B0.out⟩
 clear K0 B0 hz;obtain⟨k,hk,rfl,hall,hK,hB⟩:=hrel;have KS:=yH hK;have BB:=yH hB;have HALL:=yH hall;clear hK hB hall
 have CS:=yH (aTc (cap:=cap) KS.out hk HF.out hln (fun h0=>by
  obtain⟨b,off,h1,h2,h3⟩:=HC.out h0;exact⟨b,off,h1,h2,fun m hm j hj=>(BB.out.cell (p:=⟨b,off+m*3+j,none⟩) h2).trans (h3 m hm j hj)⟩))
 go_wp2_with fail;refine CS.out.mono ?_;rintro e w1 ⟨rfl,hK1,hB1⟩;have KS1:=yH hK1;have B1:=yH (BB.out.trans hB1);clear hK1 hB1 CS KS BB
 by_cases hpt:(aA2 es (k+1)).pt=0
 ·have q0:((aA2 es (k+1)).pt==0)=true:=by simpa using hpt
  have HL:=yH (aSl hk hpt);clear hpt;generalize (aA2 es (k+1)).pt=pt at *;go_wp2_with fail;rw[Exit.noGoto_ret];refine bodyPost_ret (v:=.slice none 0 0) (by simp[results,Tryz.results283,go_sem]) rfl ?_;rw[HL.out];exact⟨_,rfl,⟨rfl,.inl ⟨rfl,rfl⟩⟩,B1.out⟩
 have q0:((aA2 es (k+1)).pt==0)=false:=by simpa using hpt
 have HALL1:Hid (∀j,j<k+1→(aA2 es (j+1)).pt≠0):=yH fun j hj=>by
  by_cases e:j=k
  ·subst e;exact hpt
  exact HALL.out j (by omega)
 clear hpt HALL
 by_cases hk15:k=15
 ·subst hk15;have hne:=roundW_go (fun n hn=>HALL1.out n (by omega));obtain⟨K,l,hK,hl,hin,hR,hW⟩:=aLu hne;have hpt16:(aA2 es 16).pt≠0:=HALL1.out 15 (by omega);have HFND:=yH (aH7 hpt16).1;have HCY:=yH (aP4 (aH7 hpt16).2);have KS2:Hid (Blk w1 w.heap.size (srC (aA2 es 16).far (aA2 es 16).ahd) 399):=yH KS1.out;have q1:((aA2 es 16).pt==0)=false:=q0;have E15:(aA2 es (15+1)).pt=(aA2 es 16).pt:=rfl;clear q0 hne hpt16 HALL1 KS1;simp only[E15];have HIN:=yH hin;have HR:=yH hR;have HW:=yH hW;have HK:=yH hK;have HL:=yH hl;clear hin hR hW E15 hK hl;generalize aA2 es 16=s at *;go_wp2_with fail
  go_loopw [4,17] (HpAt w s) (fun _ i _=>16 - (intOf i).toNat)
  case atStart=>exact⟨0,by omega,rfl,rfl,KS2.out,B1.out⟩
  clear KS2 B1;obtain⟨j,hj,rfl,rfl,hK1,hB1⟩:=hrel;have KS:=yH hK1;have BB:=yH hB1;have hgl:=hK1.lt;clear hK1 hB1
  by_cases hj16:j<16
  ·obtain⟨x1,x2⟩:=HFND.out j (by omega);have IS:=yH (aC5 s.ahd j s.pt);generalize itr s.ahd j s.pt=x at *;have dk:=KS.out.srAhd (p:=x) (by omega) (by omega);have hji:(j:Int)<16:=by omega
   go_wp2_with fail;go_roundw
   case rel=>exact⟨j+1,by omega,by go_num,by rw[IS.out],KS.out,BB.out⟩
   case measure=>simp[intOf];omega
  obtain rfl:j=16:=by omega
  obtain⟨c1,c2,c3,c4⟩:=HCY.out;have e1:=HK.out;have e2:=HL.out;have hin:=HIN.out;generalize itr s.ahd 16 s.pt=a at *;rw[←e1]at c1 c2 c3 c4
  have CT:=yH (aJy (w:=wr) (g:=w.heap.size) (off:=17) (ah:=s.ahd) (p:=a) (n:=K) hgl (fun c hc=>by rw[KS.out.cell,aGc _ _ hc]) (fun i _=>hin i)
   (fun i j hij hj=>by
    rcases Nat.eq_zero_or_pos i with h0|h0
    ·subst h0;exact fun e=>c4 j (by omega) hj e.symm
    exact aSa c3 c4 h0 hij (by omega)) (.inr ⟨0,by omega,c3.symm⟩) c1 c2)
  have LM:Hid (∀m,m∈aDc s.ahd a K→(∀x∈aDc s.ahd a K,m≤x)→m=l):=yH fun m h1 h2=>by rw[least_is c1 h1 h2,e2]
  have LL:=yH (aNz s.ahd a K);generalize aDc s.ahd a K=L at *;have C1:=yH c1;have C2:=yH c2;clear c1 c2 c3 c4 e1 e2 hin HFND HCY HK HL HIN;go_wp2_with fail;refine CT.out.mono ?_;rintro e w2 ⟨v1,rfl,hrow,hb2⟩;have KS2:=yH (KS.out.below hb2 hgl);have B2:=yT BB hb2;have CM:=yH (minP_any (hrow.reads (by rw[LL.out];have:=C2.out;omega)) (by rw[LL.out];have:=C1.out;omega));clear CT hrow hb2 KS BB;go_wp2_with fail;refine CM.out.mono ?_;rintro e w3 ⟨m,rfl,hm1,hm2,rfl⟩;obtain rfl:=LM.out m hm1 hm2;obtain⟨m1,m2⟩:=HR.out.ends 0;have m1:1≤m:=m1;have m2:m≤16:=m2;have dk:=KS2.out.srAhd (p:=m) (by omega) (by omega);have hg3:=KS2.out.lt
  have CT:=yH (aJy (w:=w3) (g:=w.heap.size) (off:=17) (ah:=s.ahd) (p:=s.ahd m) (n:=K) hg3 (fun c hc=>by rw[KS2.out.cell,aGc _ _ hc]) (fun i _=>HR.out.ends (i+1))
   (fun i j hij hj=>aSa HR.out.back HR.out.apart (i:=i+1) (k:=j+1) (by omega) (by omega) (by omega)) (.inr ⟨0,by have:=C1.out;omega,by
    show s.ahd m=itr s.ahd (K+1) m;rw[aC5,HR.out.back]⟩) C1.out C2.out)
  rw[aQz C1.out HR.out.back,←HW.out]at CT;clear CM hm1 hm2 LM LL;generalize aDk es=R at *;generalize s.ahd m=y at *;go_wp2_with fail;refine CT.out.mono ?_;rintro e w4 ⟨v2,rfl,hrow,hb4⟩;have R4:=yH (hrow.base (b':=w.heap.size) (Nat.le_of_lt hg3));have B4:=yT B2 hb4;clear CT hrow hb4;go_wp2_with fail;rw[Exit.noGoto_ret];refine bodyPost_ret (v:=v2) (by simp[results,Tryz.results283,go_sem]) rfl ?_;exact⟨v2,rfl,R4.out,B4.out⟩
 have hk2:((k:Int)+1==16)=false:=by simp;omega
 generalize (aA2 es (k+1)).pt=pt at *;go_wp2_with fail;go_roundw
 case rel=>exact⟨k+1,by omega,by go_num,HALL1.out,KS1.out,B1.out⟩
 case measure=>simp[intOf];omega
end Go.Proofs.YtngnfdnfpiiclaaGreat
