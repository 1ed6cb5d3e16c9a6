/- Pieces of one proof. -/
import Derived.Test.YtngnfdnfpiiclaaGreatO08
set_option linter.all false
set_option maxHeartbeats 64000000
set_option maxRecDepth 100000
namespace Go.Proofs.YtngnfdnfpiiclaaGreat
open Go.RowKit
def aBx(x y:Of):Bool:=decide (cmpR y.nu y.de x.nu x.de≤0)
def insO(out:List Of)(x:Of):List Of:=out.takeWhile (aBx x)++x::out.dropWhile (aBx x)
def aEf(s b:Int)(out:List Of)(x:Of):List Of:=if x.sl=s∧x.bu=b then insO out x else out
def aHm(l:List Of)(s b:Int):List Of:=l.foldl (aEf s b) []
def ltO(x y:Of):Prop:=x.nu*y.de<y.nu*x.de∨(x.nu*y.de=y.nu*x.de∧x.se<y.se)
theorem aKx{an ad bn bd:Int}(h1:mayB an ad=true)(h2:mayB bn bd=true):cmpR an ad bn bd=cmpI (an*bd) (bn*ad):=by unfold cmpR;rw[if_pos ⟨h1,h2⟩]
theorem sgn3{a1 d1 a2 d2 a3 d3:Int}(h1:1≤d1)(h2:1≤d2)(h3:1≤d3):d2*(a1*d3 - a3*d1)=d3*(a1*d2 - a2*d1)+d1*(a2*d3 - a3*d2):=by
 simp only[Int.mul_sub];have e1:d2*(a1*d3)=d3*(a1*d2):=by rw[←Int.mul_assoc,Int.mul_comm d2 a1,Int.mul_comm d3,Int.mul_assoc]
 have e2:d2*(a3*d1)=d1*(a3*d2):=by rw[←Int.mul_assoc,Int.mul_comm d2 a3,Int.mul_comm d1,Int.mul_assoc]
 have e3:d3*(a2*d1)=d1*(a2*d3):=by rw[←Int.mul_assoc,Int.mul_comm d3 a2,Int.mul_comm d1,Int.mul_assoc]
 omega
theorem sgn_three{d1 d2 d3 u v t:Int}(h1:1≤d1)(h2:1≤d2)(h3:1≤d3)(h:d2*t=d3*u+d1*v):(u<0→v≤0→t<0)∧(u≤0→v<0→t<0)∧(u=0→v=0→t=0)∧(0<u→0≤v→0<t)∧(0≤u→0<v→0<t):=by
 refine⟨fun a b=>?_,fun a b=>?_,fun a b=>?_,fun a b=>?_,fun a b=>?_⟩
 ·have p:=Int.mul_neg_of_pos_of_neg (show 0<d3 by omega) a;have q:=Int.mul_nonpos_of_nonneg_of_nonpos (show 0≤d1 by omega) b
  by_cases c:0≤t
  ·have:=Int.mul_nonneg (show 0≤d2 by omega) c;omega
  omega
 ·have p:=Int.mul_neg_of_pos_of_neg (show 0<d1 by omega) b;have q:=Int.mul_nonpos_of_nonneg_of_nonpos (show 0≤d3 by omega) a
  by_cases c:0≤t
  ·have:=Int.mul_nonneg (show 0≤d2 by omega) c;omega
  omega
 ·subst a b;rw[Int.mul_zero,Int.mul_zero,Int.add_zero]at h;rcases Int.mul_eq_zero.1 h with e|e <;> omega
 ·have p:=Int.mul_pos (show 0<d3 by omega) a;have q:=Int.mul_nonneg (show 0≤d1 by omega) b
  by_cases c:t≤0
  ·have:=Int.mul_nonpos_of_nonneg_of_nonpos (show 0≤d2 by omega) c;omega
  omega
 have p:=Int.mul_pos (show 0<d1 by omega) b;have q:=Int.mul_nonneg (show 0≤d3 by omega) a
 by_cases c:t≤0
 ·have:=Int.mul_nonpos_of_nonneg_of_nonpos (show 0≤d2 by omega) c;omega
 omega
theorem Of.may.de{x:Of}(h:x.may):1≤x.de:=(aIn h.2.2.2.2.2).2.1
theorem ltO_trans{x y z:Of}(hx:x.may)(hy:y.may)(hz:z.may)(h1:ltO x y)(h2:ltO y z):ltO x z:=by
 have k:=sgn_three hx.de hy.de hz.de (sgn3 (a1:=x.nu) (a2:=y.nu) (a3:=z.nu) hx.de hy.de hz.de);unfold ltO at *;generalize x.nu*y.de=a at *;generalize y.nu*x.de=b at *;generalize y.nu*z.de=c at *;generalize z.nu*y.de=d at *;generalize x.nu*z.de=e at *;generalize z.nu*x.de=f at *;obtain⟨k1,k2,k3,k4,k5⟩:=k;rcases h1 with h1|⟨h1,s1⟩
 ·have:=k1 (by omega) (by omega);omega
 rcases h2 with h2|⟨h2,s2⟩
 ·have:=k2 (by omega) (by omega);omega
 have:=k3 (by omega) (by omega);omega
theorem noWorse_lt{x y:Of}(hx:x.may)(hy:y.may)(hs:y.se<x.se)(h:aBx x y=true):ltO y x:=by
 unfold aBx at h;rw[aKx hy.2.2.2.2.2 hx.2.2.2.2.2]at h;unfold ltO;generalize x.nu*y.de=a at *;generalize y.nu*x.de=b at *;unfold cmpI at h;split at h
 ·omega
 split at h
 ·simp at h
 omega
theorem worse_lt{x y:Of}(hx:x.may)(hy:y.may)(h:aBx x y=false):ltO x y:=by
 unfold aBx at h;rw[aKx hy.2.2.2.2.2 hx.2.2.2.2.2]at h;unfold ltO;generalize x.nu*y.de=a at *;generalize y.nu*x.de=b at *;unfold cmpI at h;split at h
 ·simp at h
 split at h
 ·omega
 simp at h
theorem insO_perm(out:List Of)(x:Of):(insO out x).Perm (out++[x]):=by
 unfold insO;have h1:(out.takeWhile (aBx x)++x::out.dropWhile (aBx x)).Perm (x::(out.takeWhile (aBx x)++out.dropWhile (aBx x))):=List.perm_middle;rw[List.takeWhile_append_dropWhile]at h1;exact h1.trans (List.perm_append_singleton x out).symm
theorem aEg{p:Of→Bool}:∀{l:List Of} {y:Of},y∈l.takeWhile p→p y=true
 | x::r,y,h=>by
  rw[List.takeWhile_cons]at h;split at h
  ·rcases List.mem_cons.1 h with rfl|h
   ·assumption
   exact aEg h
  simp at h
theorem aNv{out:List Of}{x:Of}(hm:∀y∈out,y.may)(hx:x.may)(hs:∀y∈out,y.se<x.se)(ho:out.Pairwise ltO):(insO out x).Pairwise ltO:=by
 unfold insO;have hsplit:out.takeWhile (aBx x)++out.dropWhile (aBx x)=out:=List.takeWhile_append_dropWhile;have h1:∀y∈out.takeWhile (aBx x),y∈out∧aBx x y=true:=fun y hy=>⟨by rw[←hsplit];exact List.mem_append_left _ hy,aEg hy⟩
 have h2:∀y∈out.dropWhile (aBx x),y∈out:=fun y hy=>by rw[←hsplit];exact List.mem_append_right _ hy
 rw[←hsplit,List.pairwise_append]at ho;obtain⟨o1,o2,o3⟩:=ho
 have h3:∀y∈out.dropWhile (aBx x),ltO x y:=by
  cases hd:out.dropWhile (aBx x)with
  | nil=>simp
  | cons z r=>
   rw[hd]at o2 h2
   have hz:aBx x z=false:=by
    have:=List.head_dropWhile_not (aBx x) (l:=out) (by rw[hd];simp);simpa [hd]using this
   have hz2:=worse_lt hx (hm z (h2 z (by simp))) hz;intro y hy;rcases List.mem_cons.1 hy with rfl|hy
   ·exact hz2
   exact ltO_trans hx (hm z (h2 z (by simp))) (hm y (h2 y (by simp[hy]))) hz2 ((List.pairwise_cons.1 o2).1 y hy)
 rw[List.pairwise_append];refine⟨o1,List.pairwise_cons.2 ⟨h3,o2⟩,fun y hy z hz=>?_⟩;obtain⟨hyo,hyn⟩:=h1 y hy;have hyx:=noWorse_lt hx (hm y hyo) (hs y hyo) hyn;rcases List.mem_cons.1 hz with rfl|hz
 ·exact hyx
 exact o3 y hy z hz
def aIq(s b:Int)(x:Of):Bool:=decide (x.sl=s∧x.bu=b)
theorem aGz{s b:Int}:∀(l out:List Of),(∀x∈l,x.may)→(∀x∈out,x.may)→l.Pairwise (fun x y=>x.se<y.se)→(∀y∈out,∀x∈l,y.se<x.se)→out.Pairwise ltO→
  (l.foldl (aEf s b) out).Perm (out++l.filter (aIq s b))∧(l.foldl (aEf s b) out).Pairwise ltO
 | [],out,_,_,_,_,ho=>by simpa using ho
 | x::r,out,h1,h2,h3,h4,ho=>by
  obtain⟨h3a,h3b⟩:=List.pairwise_cons.1 h3;rw[List.foldl_cons]
  by_cases hp:x.sl=s∧x.bu=b
  ·have e:aEf s b out x=insO out x:=by unfold aEf;rw[if_pos hp]
   have hi:=insO_perm out x
   have hmem:∀y∈insO out x,y∈out∨y=x:=fun y hy=>by
    have:=hi.mem_iff.1 hy;simpa using this
   rw[e]
   obtain⟨p,q⟩:=aGz r (insO out x) (fun y hy=>h1 y (by simp[hy])) (fun y hy=>by rcases hmem y hy with h|rfl;exact h2 y h;exact h1 y (by simp)) h3b
    (fun y hy z hz=>by rcases hmem y hy with h|rfl;exact h4 y h z (by simp[hz]);exact h3a z hz) (aNv h2 (h1 x (by simp)) (fun y hy=>h4 y hy x (by simp)) ho)
   refine⟨p.trans ?_,q⟩;rw[List.filter_cons,if_pos (by unfold aIq;simpa using hp)];exact(hi.append_right _).trans (by simp)
  have e:aEf s b out x=out:=by unfold aEf;rw[if_neg hp]
  rw[e];obtain⟨p,q⟩:=aGz r out (fun y hy=>h1 y (by simp[hy])) h2 h3b (fun y hy z hz=>h4 y hy z (by simp[hz])) ho;refine⟨?_,q⟩;rw[List.filter_cons,if_neg (by unfold aIq;simpa using hp)];exact p
theorem bestO_is{l:List Of}(h1:∀x∈l,x.may)(h3:l.Pairwise (fun x y=>x.se<y.se))(s b:Int):(aHm l s b).Perm (l.filter (aIq s b))∧(aHm l s b).Pairwise ltO:=by
 have:=aGz (s:=s) (b:=b) l [] h1 (by simp) h3 (by simp) List.Pairwise.nil;simpa [aHm]using this
noncomputable def aBk(f:Int→Int→Int)(a b n:Int):RS:=@Classical.epsilon RS ⟨⟨f,n,[]⟩⟩ (fun μ=>aAm f 4398046511104 a b n μ)
theorem aBy{f:Int→Int→Int}(h:GInv f 4398046511104)(a b n:Int):aAm f 4398046511104 a b n (aBk f a b n):=
 @Classical.epsilon_spec RS (fun μ=>aAm f 4398046511104 a b n μ) (aGs h a b n)
noncomputable def aGg(ps:List Int)(ls:List Ln)(c a b:Int):Int:=aC5 - (aBk (aAu ps ls c) a b aC5).left
theorem goesS{ps:List Int}{ls:List Ln}(h:LInv ps ls)(o:Of)(tk pt:Int):Goes ps ls o tk pt (aGg ps ls o.sl o.ow pt) (aGg ps ls o.bu tk o.ow):=
 ⟨⟨_,aBy (aA3 h _) _ _ _,rfl⟩,_,aBy (aA3 h _) _ _ _,rfl⟩
theorem Goes.eqS{ps:List Int}{ls:List Ln}{o:Of}{tk pt m1 m2:Int}(h:LInv ps ls)(g:Goes ps ls o tk pt m1 m2):m1=aGg ps ls o.sl o.ow pt∧m2=aGg ps ls o.bu tk o.ow:=by
 obtain⟨⟨μ,h1,rfl⟩,ν,h2,rfl⟩:=g;unfold aGg;rw[h1.eq (aBy (aA3 h _) _ _ _),h2.eq (aBy (aA3 h _) _ _ _)];exact⟨rfl,rfl⟩
theorem mostS_bd{ps:List Int}{ls:List Ln}(h:LInv ps ls)(c a b:Int):0≤aGg ps ls c a b∧aGg ps ls c a b≤1125899906842624:=
 aFy (aA3 h c) (aBy (aA3 h c) a b aC5)
noncomputable def mayS(ps:List Int)(ls:List Ln)(l:List Of)(tk pt want most s:Int):Int:=match aBt l s with
 | none=>0
 | some o=>mayO o ps tk pt want most (aGg ps ls o.sl o.ow pt) (aGg ps ls o.bu tk o.ow)
theorem aNw{ps:List Int}{ls:List Ln}(h:LInv ps ls){l:List Of}{tk pt want most s m1 m2:Int}(g:∀o,aBt l s=some o→Goes ps ls o tk pt m1 m2):mayV l ps s tk pt want most m1 m2=mayS ps ls l tk pt want most s:=by
 unfold mayV mayS
 cases hf:aBt l s with
 | none=>rfl
 | some o=>
  obtain⟨e1,e2⟩:=(g o hf).eqS h;simp only[];rw[e1,e2]
noncomputable def paidS(ps:List Int)(ls:List Ln)(a b c n:Int):List Ln:=payL ps ls a b c n (aBk (aAu ps ls c) a b n)
noncomputable def aDx(ps:List Int)(ls:List Ln)(o:Of)(tk pt n x:Int):List Ln:=paidS ps (if pt=o.ow then ls else paidS ps ls o.ow pt o.sl n) tk o.ow o.bu x
theorem aL8{ps:List Int}{ls:List Ln}(h:LInv ps ls)(a b c n:Int):LInv ps (paidS ps ls a b c n):=aKv h _ _ _ _ _
theorem aG0{ps:List Int}{ls:List Ln}(h:LInv ps ls)(o:Of)(tk pt n x:Int):Filled ps ls o tk pt n x (aDx ps ls o tk pt n x):=by
 unfold aDx
 by_cases e:pt=o.ow
 ·rw[if_pos e];exact⟨ls,_,.inl ⟨e,rfl⟩,aBy (aA3 h _) _ _ _,rfl⟩
 rw[if_neg e];exact⟨_,_,.inr ⟨e,_,aBy (aA3 h _) _ _ _,rfl⟩,aBy (aA3 (aL8 h _ _ _ _) _) _ _ _,rfl⟩
theorem aIr{ps:List Int}{ls:List Ln}(h:LInv ps ls)(o:Of)(tk pt n x:Int):LInv ps (aDx ps ls o tk pt n x):=(aG0 h o tk pt n x).inv h
def okS(ps:List Int)(ls:List Ln)(l:List Of)(tk pt n s:Int):Prop:=1≤n∧n≤mayS ps ls l tk pt n 1099511627776 s
theorem aNx{ps:List Int}{ls:List Ln}(h:LInv ps ls){l:List Of}{tk pt n s m1 m2:Int}(g:∀o,aBt l s=some o→Goes ps ls o tk pt m1 m2):doOk l ps s tk pt n m1 m2↔okS ps ls l tk pt n s:=by
 unfold doOk okS;rw[aNw h g]
theorem may_okS{ps:List Int}{ls:List Ln}(h:LInv ps ls){l:List Of}{tk pt want most s k:Int}(hk:k=mayS ps ls l tk pt want most s)(h1:1≤k):okS ps ls l tk pt k s∧k≤want:=by
 obtain⟨m1,m2,g,b1,b2⟩:=goes_some h l s tk pt;have e:mayV l ps s tk pt want most m1 m2=k:=by rw[aNw h g,hk]
 obtain⟨a,b,_⟩:=may_do b1 b2 e h1;exact⟨(aNx h g).1 a,b⟩
noncomputable def aCg(ps:List Int)(ls:List Ln)(l:List Of)(tk pt want most:Int):List Of→Option (Int×Int)
 | []=>none
 | o::os=>if 0<mayS ps ls l tk pt want most o.se then some (o.se,mayS ps ls l tk pt want most o.se)else aCg ps ls l tk pt want most os
theorem aFz{ps:List Int}{ls:List Ln}{l:List Of}{tk pt want most:Int}:∀{os:List Of} {s k:Int},aCg ps ls l tk pt want most os=some (s,k)→0<k∧k=mayS ps ls l tk pt want most s∧∃o∈os,o.se=s
 | [],s,k,h=>by simp[aCg]at h
 | o::os,s,k,h=>by
  unfold aCg at h;split at h
  ·rename_i hp;simp only[Option.some.injEq,Prod.mk.injEq]at h;obtain⟨rfl,rfl⟩:=h;exact⟨hp,rfl,o,List.mem_cons_self,rfl⟩
  obtain⟨h1,h2,o',h3,h4⟩:=aFz h;exact⟨h1,h2,o',List.mem_cons_of_mem _ h3,h4⟩
structure Fl where
 se:Int
 got:Int
 gi:Int
structure SwS where
 ls:List Ln
 l:List Of
 fs:List Fl
 n:Int
noncomputable def nextS(ps:List Int)(tk pt:Int)(σ:SwS)(s k:Int):SwS:=match aBt σ.l s with
 | none=>σ
 | some o=>⟨aDx ps σ.ls o tk pt k (upN (k*o.nu) o.de),aJj σ.l s k,σ.fs++[⟨s,k,upN (k*o.nu) o.de⟩],σ.n - k⟩
noncomputable def aEr(ps:List Int)(tk pt get give:Int):Nat→SwS→Int×SwS
 | fuel,σ=>if σ.n≤0 then(0,σ)else match aCg ps σ.ls σ.l tk pt σ.n 1099511627776 (aHm σ.l get give)with
  | none=>(11,σ)
  | some (s,k)=>if σ.fs.length=64 then(13,σ)else match fuel with
   | 0=>(13,σ)
   | f+1=>aEr ps tk pt get give f (nextS ps tk pt σ s k)
theorem swapN_done{ps:List Int}{tk pt get give:Int}{fuel:Nat}{σ:SwS}(h:σ.n≤0):aEr ps tk pt get give fuel σ=(0,σ):=by
 cases fuel <;> (unfold aEr;rw[if_pos h])
theorem swapN_none{ps:List Int}{tk pt get give:Int}{fuel:Nat}{σ:SwS}(h:¬σ.n≤0)(hf:aCg ps σ.ls σ.l tk pt σ.n 1099511627776 (aHm σ.l get give)=none):aEr ps tk pt get give fuel σ=(11,σ):=by
 cases fuel <;> (unfold aEr;rw[if_neg h,hf])
theorem swapN_full{ps:List Int}{tk pt get give:Int}{fuel:Nat}{σ:SwS}{s k:Int}(h:¬σ.n≤0)(hf:aCg ps σ.ls σ.l tk pt σ.n 1099511627776 (aHm σ.l get give)=some (s,k))(hl:σ.fs.length=64):aEr ps tk pt get give fuel σ=(13,σ):=by
 cases fuel <;> (unfold aEr;rw[if_neg h,hf];simp only[];rw[if_pos hl])
theorem swapN_next{ps:List Int}{tk pt get give:Int}{fuel:Nat}{σ:SwS}{s k:Int}(h:¬σ.n≤0)(hf:aCg ps σ.ls σ.l tk pt σ.n 1099511627776 (aHm σ.l get give)=some (s,k))(hl:¬σ.fs.length=64):aEr ps tk pt get give (fuel+1) σ=aEr ps tk pt get give fuel (nextS ps tk pt σ s k):=by
 conv=>lhs;unfold aEr
 rw[if_neg h,hf];simp only[];rw[if_neg hl]
def swMay(fr pt get give n most:Int):Prop:=(1≤fr∧fr≤16)∧(1≤pt∧pt≤16)∧(1≤get∧get≤8)∧(1≤give∧give≤8)∧get≠give∧(1≤n∧n≤1099511627776)∧1≤most∧most≤1099511627776
instance(fr pt get give n most:Int):Decidable (swMay fr pt get give n most):=by unfold swMay;infer_instance
noncomputable def aJk(ps:List Int)(ls:List Ln)(l:List Of)(fr pt get give n most:Int):Int×SwS:=
 if ¬swMay fr pt get give n most then(1,⟨ls,l,[],n⟩)else if fr∉ps∨pt∉ps then(7,⟨ls,l,[],n⟩)else
  if(aEr ps fr pt get give 64 ⟨ls,l,[],n⟩).1≠0 then aEr ps fr pt get give 64 ⟨ls,l,[],n⟩else
  if most<((aEr ps fr pt get give 64 ⟨ls,l,[],n⟩).2.fs.map Fl.gi).sum then(12,(aEr ps fr pt get give 64 ⟨ls,l,[],n⟩).2)else aEr ps fr pt get give 64 ⟨ls,l,[],n⟩
theorem best_mem{l:List Of}{N:Int}(h:BInv l N){s b:Int}{o:Of}(ho:o∈aHm l s b):o∈l∧o.sl=s∧o.bu=b:=by
 have h1:=((bestO_is h.may h.rise s b).1.mem_iff).1 ho;rw[List.mem_filter]at h1;obtain⟨h2,h3⟩:=h1;simp[aIq]at h3;exact⟨h2,h3.1,h3.2⟩
theorem aG1{l:List Of}{N:Int}(h:BInv l N){o:Of}(ho:o∈l):aBt l o.se=some o:=by
 cases hf:aBt l o.se with
 | none=>
  unfold aBt at hf;rw[List.find?_eq_none]at hf;exact absurd (by simp) (hf o ho)
 | some o'=>
  obtain⟨h1,h2⟩:=aD5 hf
  have key:∀{m:List Of},m.Pairwise (fun x y=>x.se<y.se)→o∈m→o'∈m→o=o':=by
   intro m hm
   induction m with
   | nil=>intro a;cases a
   | cons z m ih=>
    intro a b;have hz:=(List.pairwise_cons.1 hm).1;rcases List.mem_cons.1 a with ea|a
    ·rcases List.mem_cons.1 b with eb|b
     ·rw[ea,eb]
     have:=hz _ b;rw[←ea]at this;omega
    rcases List.mem_cons.1 b with eb|b
    ·have:=hz _ a;rw[←eb]at this;omega
    exact ih (List.pairwise_cons.1 hm).2 a b
  rw[key h.rise ho h1]
def likeO(a b:Of):Prop:=a.ow=b.ow∧a.sl=b.sl∧a.bu=b.bu∧a.nu=b.nu∧a.de=b.de
theorem aL9{l:List Of}{N:Int}(h:BInv l N){s n:Int}{o:Of}(hf:aBt l s=some o)(h1:1≤n)(h2:n≤o.lf){t:Int}{x:Of}(hx:aBt (aJj l s n) t=some x):∃y,aBt l t=some y∧likeO y x:=by
 obtain⟨hm,hs⟩:=aD5 hx;rw[take_facts h hf h1 h2]at hm;obtain⟨_,y,hy,hor⟩:=aHz hm;rcases hor with rfl|⟨_,rfl⟩
 ·exact⟨x,by rw[←hs];exact aG1 h hy,rfl,rfl,rfl,rfl,rfl⟩
 exact⟨y,by rw[←hs];exact aG1 h hy,rfl,rfl,rfl,rfl,rfl⟩
def flBy(l0:List Of)(tk pt:Int)(f:Fl)(p c:Int):Int:=match aBt l0 f.se with
 | none=>0
 | some o=>aIp o tk pt f.got f.gi p c
structure aHn(ps:List Int)(ls0:List Ln)(l0:List Of)(N tk pt get give n0:Int)(σ:SwS):Prop where
 linv:LInv ps σ.ls
 binv:BInv σ.l N
 lim:limL σ.ls=limL ls0
 like:∀s o,aBt σ.l s=some o→∃y,aBt l0 s=some y∧likeO y o
 fs:∀f∈σ.fs,∃o,aBt l0 f.se=some o∧o.sl=get∧o.bu=give∧o.ow≠tk∧o.ow∈ps∧(1≤f.got∧f.got≤1099511627776)∧1≤f.gi∧f.gi≤1099511627776
 sum:(σ.fs.map Fl.got).sum+σ.n=n0
 pos:∀p c,posL σ.ls p c=posL ls0 p c+(σ.fs.map fun f=>flBy l0 tk pt f p c).sum
theorem aHn.start{ps:List Int}{ls0:List Ln}{l0:List Of}{N tk pt get give n0:Int}(hI:LInv ps ls0)(hJ:BInv l0 N):aHn ps ls0 l0 N tk pt get give n0 ⟨ls0,l0,[],n0⟩:=
 ⟨hI,hJ,rfl,fun s o h=>⟨o,h,rfl,rfl,rfl,rfl,rfl⟩,fun f hf=>(by cases hf),(by simp),fun p c=>(by simp)⟩
theorem aHn.step{ps:List Int}{ls0:List Ln}{l0:List Of}{N tk pt get give n0:Int}{σ:SwS}(h:aHn ps ls0 l0 N tk pt get give n0 σ){s k:Int}(hf:aCg ps σ.ls σ.l tk pt σ.n 1099511627776 (aHm σ.l get give)=some (s,k)):
  1≤k∧k≤σ.n∧okS ps σ.ls σ.l tk pt k s∧(∃o,aBt σ.l s=some o∧o∈aHm σ.l get give∧k≤o.lf)∧aHn ps ls0 l0 N tk pt get give n0 (nextS ps tk pt σ s k):=by
 obtain⟨h1,h2,o,h3,rfl⟩:=aFz hf;obtain⟨hm,hsl,hbu⟩:=best_mem h.binv h3;have hfo:=aG1 h.binv hm;obtain⟨ok,hle⟩:=may_okS h.linv h2 (by omega);have hG:=goesS h.linv o tk pt;have hG':∀o',aBt σ.l o.se=some o'→Goes ps σ.ls o' tk pt (aGg ps σ.ls o.sl o.ow pt) (aGg ps σ.ls o.bu tk o.ow):=fun o' ho'=>by rw[hfo]at ho';cases ho';exact hG
 have hd:=(aNx h.linv hG').2 ok;obtain⟨o',ho',⟨k1,k2,k3,k4⟩,k5,_,_⟩:=hd.facts;rw[hfo]at ho'
 cases ho'
 obtain⟨f1,f2,f3,f4,f5⟩:=aHg h.linv h.binv hfo hG hd rfl (aG0 h.linv o tk pt k (upN (k*o.nu) o.de));obtain⟨_,_,_,_,⟨l1,l2⟩,_⟩:=h.binv.may o hm;obtain⟨y,hy,y1,y2,y3,y4,y5⟩:=h.like o.se o hfo;refine⟨by omega,hle,ok,⟨o,hfo,h3,k5⟩,?_⟩
 have e:nextS ps tk pt σ o.se k=⟨aDx ps σ.ls o tk pt k (upN (k*o.nu) o.de),aJj σ.l o.se k,σ.fs++[⟨o.se,k,upN (k*o.nu) o.de⟩],σ.n - k⟩:=by
  unfold nextS;rw[hfo]
 rw[e];refine⟨aIr h.linv _ _ _ _ _,h.binv.take _ _,f1.symm.trans h.lim,fun t x hx=>?_,fun f hf=>?_,?_,fun p c=>?_⟩
 ·obtain⟨z,hz,z1,z2,z3,z4,z5⟩:=aL9 h.binv hfo (by omega) k5 hx;obtain⟨v,hv,v1,v2,v3,v4,v5⟩:=h.like t z hz;exact⟨v,hv,v1.trans z1,v2.trans z2,v3.trans z3,v4.trans z4,v5.trans z5⟩
 ·rcases List.mem_append.1 hf with hf|hf
  ·exact h.fs f hf
  rw[List.mem_singleton]at hf;subst hf;exact⟨y,hy,by rw[y2,hsl],by rw[y3,hbu],by rw[y1];exact k1,by rw[y1];exact k2,⟨by show 1≤k;omega,by show k≤1099511627776;omega⟩,f3,f4⟩
 ·have:=h.sum;simp only[List.map_append,List.map_cons,List.map_nil,List.sum_append,List.sum_cons,List.sum_nil];omega
 show posL (aDx ps σ.ls o tk pt k (upN (k*o.nu) o.de)) p c=_;rw[f2 p c,h.pos p c];simp only[List.map_append,List.map_cons,List.map_nil,List.sum_append,List.sum_cons,List.sum_nil]
 have e2:flBy l0 tk pt ⟨o.se,k,upN (k*o.nu) o.de⟩ p c=aIp o tk pt k (upN (k*o.nu) o.de) p c:=by
  unfold flBy;simp only[hy];unfold aIp;rw[y1,y2,y3]
 rw[e2];omega
theorem aHn.ends{ps:List Int}{ls0:List Ln}{l0:List Of}{N tk pt get give n0:Int}:∀(fuel:Nat) {σ:SwS},aHn ps ls0 l0 N tk pt get give n0 σ→aHn ps ls0 l0 N tk pt get give n0 (aEr ps tk pt get give fuel σ).2
 | fuel,σ,h=>by
  by_cases hn:σ.n≤0
  ·rw[swapN_done hn];exact h
  cases hf:aCg ps σ.ls σ.l tk pt σ.n 1099511627776 (aHm σ.l get give)with
  | none=>rw[swapN_none hn hf];exact h
  | some sk=>
   obtain⟨s,k⟩:=sk
   by_cases hl:σ.fs.length=64
   ·rw[swapN_full hn hf hl];exact h
   cases fuel with
   | zero=>
    have e:aEr ps tk pt get give 0 σ=(13,σ):=by
     unfold aEr;rw[if_neg hn,hf];simp only[];rw[if_neg hl]
    rw[e];exact h
   | succ fuel=>rw[swapN_next hn hf hl];exact aHn.ends fuel (h.step hf).2.2.2.2
def okO(nx:Int)(l:List Of):Prop:=l.Pairwise (fun x y=>x.se<y.se)∧∀x∈l,x.may∧x.se≠0∧x.se<nx
theorem okO.nil(nx:Int):okO nx []:=⟨List.Pairwise.nil,by simp⟩
theorem rise_takeO{l:List Of}{k:Nat}(hk:k<l.length)(h:(l.take k).Pairwise fun x y=>x.se<y.se)(hs:∀hk0:0<k,(l[k - 1]'(by omega)).se<l[k].se):(l.take (k+1)).Pairwise fun x y=>x.se<y.se:=by
 rw[List.take_succ_eq_append_getElem hk,List.pairwise_append];refine⟨h,by simp,fun a ha b hb=>?_⟩;rw[List.mem_singleton]at hb;subst hb;obtain⟨j,hj,rfl⟩:=List.mem_take_iff_getElem.1 ha;have hk0:0<k:=by omega
 by_cases hjk:j=k - 1
 ·subst hjk;exact hs hk0
 have h1:=List.pairwise_iff_getElem.1 h j (k - 1) (by simp;omega) (by simp;omega) (by omega);have h2:=hs hk0;simp only[List.getElem_take]at h1;omega
theorem okO.next{nx:Int}{l:List Of}{k:Nat}(hk:k<l.length)(h:okO nx (l.take k))(h1:l[k].may)(h2:l[k].se≠0)(h3:l[k].se<nx)(hs:∀hk0:0<k,(l[k - 1]'(by omega)).se<l[k].se):okO nx (l.take (k+1)):=by
 refine⟨rise_takeO hk h.1 hs,fun x hx=>?_⟩;rw[List.take_succ_eq_append_getElem hk,List.mem_append,List.mem_singleton]at hx;rcases hx with hx|rfl
 ·exact h.2 x hx
 exact⟨h1,h2,h3⟩
theorem okO.bad{nx:Int}{l:List Of}{k:Nat}(hk:k<l.length)(h:¬l[k].may∨l[k].se=0∨nx≤l[k].se∨∃hk0:0<k,l[k].se≤(l[k - 1]'(by omega)).se):¬okO nx l:=by
 rintro⟨h1,h2⟩;have h3:=h2 l[k] (List.getElem_mem _);rcases h with h|h|h|⟨hk0,h⟩
 ·exact h h3.1
 ·exact h3.2.1 h
 ·have:=h3.2.2;omega
 have:=List.pairwise_iff_getElem.1 h1 (k - 1) k (by omega) hk (by omega);omega
theorem aIs{w:World}{ao:Option Addr}{cap:Nat}{l:List Of}(h:aAs w (.slice ao l.length cap) 7 l.length (aAe l))(h0:ao=none→cap=0)(hn:l.length≤1000)(ty:TypeId):
  ∃v' w',(Builtin.append_ #[43,43] ty #[.slice none 0 0,.slice ao l.length cap]).run Tryz.prog w=.ok v' w'∧w'.ownsRow w.heap.size 75 7 v' l.length (aAe l)∧Below w.heap.size w w':=by
 obtain⟨i,hi1,hi2,hi3,hi4⟩:=info_parts aKj;have hz:=World.ownsRow_nil w w.heap.size 75 7
 cases ao with
 | none=>
  have hc:=h0 rfl
  have hl:l=[]:=by
   rcases l with _|⟨x,r⟩
   ·rfl
   exfalso;have:=(h.ofNone h0 rfl).1;simp at this
  subst hl;subst hc;exact⟨_,_,run_append_owned_none (P:=Tryz.prog) (w:=w) w.heap.size 43 ty 75 i 7 Tryz.underlying43 hi1 (.slice none 0 0) 0 [] hz,hz,yZ⟩
 | some ad=>
  obtain⟨v',w',hr,h2,h3,_⟩:=run_append_own (P:=Tryz.prog) w w.heap.size 43 ty 75 i (noOf.val) 7 40 Tryz.underlying43 hi1 hi2 hi3 hi4 rfl (by decide) (.slice none 0 0) 0 [] hz ad l.length cap (aAe l) (aCh l) (fun j u hj=>h.src ad rfl j u hj) (aB2 l) (by unfold maxLen;omega) (by omega) yL;simp only[Nat.zero_add,List.nil_append]at h2;exact⟨v',w',hr,h2,(Below.refl w.heap.size w).grown h3 yL (fun k hk=>by cases hk)⟩
theorem aG2{P:Program}{ops:Array Oper}{rest:List Oper}{o:Oper}{a:Act}{w w':World}{Q:Exit→Act→World→Prop}(hgd:o.guard=none)(x:Operand)(t:TypeId){v v':Value}
  (ho:o.op=.call { callee:=.builtin .append,args:=#[.const (.slice none 0 0),x],argTypes:=#[t,t] })(hx:a.eval x=v)
  (hr:(Builtin.append_ #[t,t] o.type #[.slice none 0 0,v]).run P w=.ok v' w')(h:wpList P ops Q rest (a.put o.dst v') w'):wpList P ops Q (o::rest) a w:=
 wpList_plain hgd fun _ hK=>aDt x t ho hx hr (hK _ _ h)
theorem bof_f1{W:World}{b o n cap:Nat}{i nx:Int}{x y:Of}(HB:Hid (b<W.heap.size))(HX0:Hid (W.cell? ⟨b,o+i.toNat*7,none⟩=some (.int .u64 x.se)))(HX1:Hid (W.cell? ⟨b,o+i.toNat*7+1,none⟩=some (.int .u8 x.ow)))(HX2:Hid (W.cell? ⟨b,o+i.toNat*7+2,none⟩=some (.int .u8 x.sl)))(HX3:Hid (W.cell? ⟨b,o+i.toNat*7+3,none⟩=some (.int .u8 x.bu)))(HX4:Hid (W.cell? ⟨b,o+i.toNat*7+4,none⟩=some (.int .i64 x.lf)))(HX5:Hid (W.cell? ⟨b,o+i.toNat*7+5,none⟩=some (.int .i64 x.nu)))(HX6:Hid (W.cell? ⟨b,o+i.toNat*7+6,none⟩=some (.int .i64 x.de)))(i4:0≤i)(i1:i<(n:Int))(hn:n≤32)(CM:Hid (∀w',Calls Tryz.prog 111 #[.agg #[.int .u64 x.se,.int .u8 x.ow,.int .u8 x.sl,.int .u8 x.bu,.int .i64 x.lf,.int .i64 x.nu,.int .i64 x.de]] w' fun e w''=>e=.returned (.bool false)∧Below w'.heap.size w' w'')){Q:Exit→Act→World→Prop}{c2 c3 c4 c5 c7 c8 c9 c10 c11 c12 c13 c14 c15 c16 c17 c18 c19 c20 c21 c22 c23 c24 c25 c26 c27 c28 c29 c30 c31 c32 c33 c34 c35 c36 c37 c38 c39 c40 c41 c42 c43 c44 c45 c46 c47 c48 c49 c50 c51 c52 c53 c54 c55 c56 c57 c58 c59 c60 c61 c62 c63:Value}
  (hq:∀w6,(fun w'=>Below W.heap.size W w') w6→Q .normal ⟨#[(.slice (some ⟨b,o,none⟩) n cap),(.int .u64 nx),c2,c3,c4,c5,(.int .i64 i),c7,c8,c9,c10,c11,c12,c13,c14,c15,(.slice (some ⟨b,o,none⟩) n cap),(.int .i64 i),(.pointer (some ⟨b,o+i.toNat*7,none⟩)),(.agg #[.int .u64 x.se,.int .u8 x.ow,.int .u8 x.sl,.int .u8 x.bu,.int .i64 x.lf,.int .i64 x.nu,.int .i64 x.de]),(.bool false),(.bool true),(.bool true),undef,undef,undef,undef,undef,undef,(.bool true),(.bool true),undef,undef,undef,undef,undef,undef,undef,undef,undef,undef,undef,undef,undef,undef,undef,undef,(.bool true),(.bool true),undef,undef,undef,undef,undef,undef,undef,(.bool true),c57,c58,c59,c60,c61,c62,c63],[]⟩ w6):
  Code.wp Tryz.prog (((Tryz.f69.body).bind (aAr 6)).getD .skip) Q ⟨#[(.slice (some ⟨b,o,none⟩) n cap),(.int .u64 nx),c2,c3,c4,c5,(.int .i64 i),c7,c8,c9,c10,c11,c12,c13,c14,c15,c16,c17,c18,c19,c20,c21,c22,c23,c24,c25,c26,c27,c28,c29,c30,c31,c32,c33,c34,c35,c36,c37,c38,c39,c40,c41,c42,c43,c44,c45,c46,c47,c48,c49,c50,c51,c52,c53,c54,c55,c56,c57,c58,c59,c60,c61,c62,c63],[]⟩ W:=by
 conv=>arg 2;whnf
 have HQ:=yH hq;clear hq
 refine aAg (by kernel_rfl) [(.slice (some ⟨b,o,none⟩) n cap),(.int .i64 i),(.pointer (some ⟨b,o+i.toNat*7,none⟩)),(.agg #[.int .u64 x.se,.int .u8 x.ow,.int .u8 x.sl,.int .u8 x.bu,.int .i64 x.lf,.int .i64 x.nu,.int .i64 x.de]),(.bool false),(.bool true),(.bool true),undef,undef,undef,undef,undef,undef,(.bool true),(.bool true),undef,undef,undef,undef,undef,undef,undef,undef,undef,undef,undef,undef,undef,undef,undef,undef,(.bool true),(.bool true),undef,undef,undef,undef,undef,undef,undef,(.bool true)]
  (fun w'=>Below W.heap.size W w') (by kernel_rfl) yZ.drew ?_
 intro af haf;simp only[yG,List.append_eq,List.cons_append,List.nil_append,puts,Act.put,yA,yC,yF,yD,yE]at haf;subst haf;refine⟨?_,?_⟩
 ·simp only[yG,List.append_eq,List.cons_append,List.nil_append,aAv];refine⟨?z1,?z2,?z3,?_,?_,?z4,?z5,?z11,?z12,?z13,?z14,?z15,?z16,?z6,?z7,?z17,?z18,?z19,?z20,?z21,?z22,?z23,?z24,?z25,?z26,?z27,?z28,?z29,?z30,?z31,?z32,?z8,?z9,?z33,?z34,?z35,?z36,?z37,?z38,?z39,?z10,trivial⟩
  case z1|z2|z3|z4|z5|z6|z7|z8|z9|z10=>
   intro w' hS;refine yO rfl ?_;have HS:=yH hS;clear hS;go_wp2_with fail;all_goals first|exact HS|exact⟨rfl,HS⟩|rfl|exact⟨by omega,HS.o⟩
  case z11|z12|z13|z14|z15|z16|z17|z18|z19|z20|z21|z22|z23|z24|z25|z26|z27|z28|z29|z30|z31|z32|z33|z34|z35|z36|z37|z38|z39=>
   intro w' hS;refine pAC (by kernel_rfl) rfl hS
  ·intro w' hS;refine yO rfl ?_;have hlt:=yM HB.o hS.size;have e0:=(hS.cell (p:=⟨b,o+i.toNat*7,none⟩) HB.o).trans HX0.o;have e1:=(hS.cell (p:=⟨b,o+i.toNat*7+1,none⟩) HB.o).trans HX1.o;have e2:=(hS.cell (p:=⟨b,o+i.toNat*7+2,none⟩) HB.o).trans HX2.o;have e3:=(hS.cell (p:=⟨b,o+i.toNat*7+3,none⟩) HB.o).trans HX3.o;have e4:=(hS.cell (p:=⟨b,o+i.toNat*7+4,none⟩) HB.o).trans HX4.o;have e5:=(hS.cell (p:=⟨b,o+i.toNat*7+5,none⟩) HB.o).trans HX5.o;have e6:=(hS.cell (p:=⟨b,o+i.toNat*7+6,none⟩) HB.o).trans HX6.o;have HS:=yH hS;clear hS;go_wp2_with fail;all_goals first|exact HS|exact⟨rfl,HS⟩|rfl|exact⟨by omega,HS.o⟩
  intro w' hS;refine yO rfl ?_;have HS:=yH hS;clear hS;go_wp2_with fail;refine(CM.o w').mono ?_;rintro e w'' ⟨rfl,hb2⟩;exact⟨rfl,andB HS.o hb2⟩
 intro w6 b6;exact HQ.o w6 b6
theorem bof_f2{W:World}{b o n cap:Nat}{i nx:Int}{x y:Of}(HB:Hid (b<W.heap.size))(HX0:Hid (W.cell? ⟨b,o+i.toNat*7,none⟩=some (.int .u64 x.se)))(HX1:Hid (W.cell? ⟨b,o+i.toNat*7+1,none⟩=some (.int .u8 x.ow)))(HX2:Hid (W.cell? ⟨b,o+i.toNat*7+2,none⟩=some (.int .u8 x.sl)))(HX3:Hid (W.cell? ⟨b,o+i.toNat*7+3,none⟩=some (.int .u8 x.bu)))(HX4:Hid (W.cell? ⟨b,o+i.toNat*7+4,none⟩=some (.int .i64 x.lf)))(HX5:Hid (W.cell? ⟨b,o+i.toNat*7+5,none⟩=some (.int .i64 x.nu)))(HX6:Hid (W.cell? ⟨b,o+i.toNat*7+6,none⟩=some (.int .i64 x.de)))(i4:0≤i)(i1:i<(n:Int))(hn:n≤32)(CM:Hid (∀w',Calls Tryz.prog 111 #[.agg #[.int .u64 x.se,.int .u8 x.ow,.int .u8 x.sl,.int .u8 x.bu,.int .i64 x.lf,.int .i64 x.nu,.int .i64 x.de]] w' fun e w''=>e=.returned (.bool true)∧Below w'.heap.size w' w''))(c2:(x.se==0)=true){Q:Exit→Act→World→Prop}{c2 c3 c4 c5 c7 c8 c9 c10 c11 c12 c13 c14 c15 c16 c17 c18 c19 c20 c21 c22 c23 c24 c25 c26 c27 c28 c29 c30 c31 c32 c33 c34 c35 c36 c37 c38 c39 c40 c41 c42 c43 c44 c45 c46 c47 c48 c49 c50 c51 c52 c53 c54 c55 c56 c57 c58 c59 c60 c61 c62 c63:Value}
  (hq:∀w6,(fun w'=>Below W.heap.size W w') w6→Q .normal ⟨#[(.slice (some ⟨b,o,none⟩) n cap),(.int .u64 nx),c2,c3,c4,c5,(.int .i64 i),c7,c8,c9,c10,c11,c12,c13,c14,c15,(.slice (some ⟨b,o,none⟩) n cap),(.int .i64 i),(.pointer (some ⟨b,o+i.toNat*7,none⟩)),(.agg #[.int .u64 x.se,.int .u8 x.ow,.int .u8 x.sl,.int .u8 x.bu,.int .i64 x.lf,.int .i64 x.nu,.int .i64 x.de]),(.bool true),(.bool false),(.bool false),(.slice (some ⟨b,o,none⟩) n cap),(.int .i64 i),(.pointer (some ⟨b,o+i.toNat*7,none⟩)),(.pointer (some ⟨b,o+i.toNat*7,none⟩)),(.int .u64 x.se),(.bool true),(.bool true),(.bool true),undef,undef,undef,undef,undef,undef,undef,undef,undef,undef,undef,undef,undef,undef,undef,undef,(.bool true),(.bool true),undef,undef,undef,undef,undef,undef,undef,(.bool true),c57,c58,c59,c60,c61,c62,c63],[]⟩ w6):
  Code.wp Tryz.prog (((Tryz.f69.body).bind (aAr 6)).getD .skip) Q ⟨#[(.slice (some ⟨b,o,none⟩) n cap),(.int .u64 nx),c2,c3,c4,c5,(.int .i64 i),c7,c8,c9,c10,c11,c12,c13,c14,c15,c16,c17,c18,c19,c20,c21,c22,c23,c24,c25,c26,c27,c28,c29,c30,c31,c32,c33,c34,c35,c36,c37,c38,c39,c40,c41,c42,c43,c44,c45,c46,c47,c48,c49,c50,c51,c52,c53,c54,c55,c56,c57,c58,c59,c60,c61,c62,c63],[]⟩ W:=by
 conv=>arg 2;whnf
 have HQ:=yH hq;clear hq
 refine aAg (by kernel_rfl) [(.slice (some ⟨b,o,none⟩) n cap),(.int .i64 i),(.pointer (some ⟨b,o+i.toNat*7,none⟩)),(.agg #[.int .u64 x.se,.int .u8 x.ow,.int .u8 x.sl,.int .u8 x.bu,.int .i64 x.lf,.int .i64 x.nu,.int .i64 x.de]),(.bool true),(.bool false),(.bool false),(.slice (some ⟨b,o,none⟩) n cap),(.int .i64 i),(.pointer (some ⟨b,o+i.toNat*7,none⟩)),(.pointer (some ⟨b,o+i.toNat*7,none⟩)),(.int .u64 x.se),(.bool true),(.bool true),(.bool true),undef,undef,undef,undef,undef,undef,undef,undef,undef,undef,undef,undef,undef,undef,undef,undef,(.bool true),(.bool true),undef,undef,undef,undef,undef,undef,undef,(.bool true)]
  (fun w'=>Below W.heap.size W w') (by kernel_rfl) yZ.drew ?_
 intro af haf;simp only[yG,List.append_eq,List.cons_append,List.nil_append,puts,Act.put,yA,yC,yF,yD,yE]at haf;subst haf;refine⟨?_,?_⟩
 ·simp only[yG,List.append_eq,List.cons_append,List.nil_append,aAv];refine⟨?z1,?z2,?z3,?_,?_,?z4,?z5,?z11,?z12,?z13,?z14,?_,?z15,?z6,?z7,?z16,?z17,?z18,?z19,?z20,?z21,?z22,?z23,?z24,?z25,?z26,?z27,?z28,?z29,?z30,?z31,?z8,?z9,?z32,?z33,?z34,?z35,?z36,?z37,?z38,?z10,trivial⟩
  case z1|z2|z3|z4|z5|z6|z7|z8|z9|z10=>
   intro w' hS;refine yO rfl ?_;have HS:=yH hS;clear hS;go_wp2_with fail;all_goals first|exact HS|exact⟨rfl,HS⟩|rfl|exact⟨by omega,HS.o⟩
  case z11|z12|z13|z14|z15=>
   intro w' hS;refine OpTo.wanted ?_ ?_
   kernel_rfl
   have HS:=yH hS;clear hS;go_wp2_with fail;all_goals first|exact HS|exact⟨rfl,HS⟩|rfl|exact⟨by omega,HS.o⟩
  case z16|z17|z18|z19|z20|z21|z22|z23|z24|z25|z26|z27|z28|z29|z30|z31|z32|z33|z34|z35|z36|z37|z38=>
   intro w' hS;refine pAC (by kernel_rfl) rfl hS
  ·intro w' hS;refine yO rfl ?_;have hlt:=yM HB.o hS.size;have e0:=(hS.cell (p:=⟨b,o+i.toNat*7,none⟩) HB.o).trans HX0.o;have e1:=(hS.cell (p:=⟨b,o+i.toNat*7+1,none⟩) HB.o).trans HX1.o;have e2:=(hS.cell (p:=⟨b,o+i.toNat*7+2,none⟩) HB.o).trans HX2.o;have e3:=(hS.cell (p:=⟨b,o+i.toNat*7+3,none⟩) HB.o).trans HX3.o;have e4:=(hS.cell (p:=⟨b,o+i.toNat*7+4,none⟩) HB.o).trans HX4.o;have e5:=(hS.cell (p:=⟨b,o+i.toNat*7+5,none⟩) HB.o).trans HX5.o;have e6:=(hS.cell (p:=⟨b,o+i.toNat*7+6,none⟩) HB.o).trans HX6.o;have HS:=yH hS;clear hS;go_wp2_with fail;all_goals first|exact HS|exact⟨rfl,HS⟩|rfl|exact⟨by omega,HS.o⟩
  ·intro w' hS;refine yO rfl ?_;have HS:=yH hS;clear hS;go_wp2_with fail;refine(CM.o w').mono ?_;rintro e w'' ⟨rfl,hb2⟩;exact⟨rfl,andB HS.o hb2⟩
  intro w' hS;refine OpTo.wanted ?_ ?_
  kernel_rfl
  have hlt:=yM HB.o hS.size;have e0:=(hS.cell (p:=⟨b,o+i.toNat*7,none⟩) HB.o).trans HX0.o;have e1:=(hS.cell (p:=⟨b,o+i.toNat*7+1,none⟩) HB.o).trans HX1.o;have e2:=(hS.cell (p:=⟨b,o+i.toNat*7+2,none⟩) HB.o).trans HX2.o;have e3:=(hS.cell (p:=⟨b,o+i.toNat*7+3,none⟩) HB.o).trans HX3.o;have e4:=(hS.cell (p:=⟨b,o+i.toNat*7+4,none⟩) HB.o).trans HX4.o;have e5:=(hS.cell (p:=⟨b,o+i.toNat*7+5,none⟩) HB.o).trans HX5.o;have e6:=(hS.cell (p:=⟨b,o+i.toNat*7+6,none⟩) HB.o).trans HX6.o;have HS:=yH hS;clear hS;go_wp2_with fail;all_goals first|exact HS|exact⟨rfl,HS⟩|rfl|exact⟨by omega,HS.o⟩
 intro w6 b6;exact HQ.o w6 b6
theorem bof_t3{W:World}{b o n cap:Nat}{i nx:Int}{x y:Of}(HB:Hid (b<W.heap.size))(HX0:Hid (W.cell? ⟨b,o+i.toNat*7,none⟩=some (.int .u64 x.se)))(HX1:Hid (W.cell? ⟨b,o+i.toNat*7+1,none⟩=some (.int .u8 x.ow)))(HX2:Hid (W.cell? ⟨b,o+i.toNat*7+2,none⟩=some (.int .u8 x.sl)))(HX3:Hid (W.cell? ⟨b,o+i.toNat*7+3,none⟩=some (.int .u8 x.bu)))(HX4:Hid (W.cell? ⟨b,o+i.toNat*7+4,none⟩=some (.int .i64 x.lf)))(HX5:Hid (W.cell? ⟨b,o+i.toNat*7+5,none⟩=some (.int .i64 x.nu)))(HX6:Hid (W.cell? ⟨b,o+i.toNat*7+6,none⟩=some (.int .i64 x.de)))(i4:0≤i)(i1:i<(n:Int))(hn:n≤32)(CM:Hid (∀w',Calls Tryz.prog 111 #[.agg #[.int .u64 x.se,.int .u8 x.ow,.int .u8 x.sl,.int .u8 x.bu,.int .i64 x.lf,.int .i64 x.nu,.int .i64 x.de]] w' fun e w''=>e=.returned (.bool true)∧Below w'.heap.size w' w''))(c2:(x.se==0)=false)(s0:decide (0<i)=true)(HY:Hid (W.cell? ⟨b,o+(i.toNat - 1)*7,none⟩=some (.int .u64 y.se)))(i0:0<i)(c3:decide (x.se≤y.se)=true){Q:Exit→Act→World→Prop}{c2 c3 c4 c5 c7 c8 c9 c10 c11 c12 c13 c14 c15 c16 c17 c18 c19 c20 c21 c22 c23 c24 c25 c26 c27 c28 c29 c30 c31 c32 c33 c34 c35 c36 c37 c38 c39 c40 c41 c42 c43 c44 c45 c46 c47 c48 c49 c50 c51 c52 c53 c54 c55 c56 c57 c58 c59 c60 c61 c62 c63:Value}
  (hq:∀w6,(fun w'=>Below W.heap.size W w') w6→Q .normal ⟨#[(.slice (some ⟨b,o,none⟩) n cap),(.int .u64 nx),c2,c3,c4,c5,(.int .i64 i),c7,c8,c9,c10,c11,c12,c13,c14,c15,(.slice (some ⟨b,o,none⟩) n cap),(.int .i64 i),(.pointer (some ⟨b,o+i.toNat*7,none⟩)),(.agg #[.int .u64 x.se,.int .u8 x.ow,.int .u8 x.sl,.int .u8 x.bu,.int .i64 x.lf,.int .i64 x.nu,.int .i64 x.de]),(.bool true),(.bool false),(.bool false),(.slice (some ⟨b,o,none⟩) n cap),(.int .i64 i),(.pointer (some ⟨b,o+i.toNat*7,none⟩)),(.pointer (some ⟨b,o+i.toNat*7,none⟩)),(.int .u64 x.se),(.bool false),(.bool false),(.bool false),(.int .i64 i),(.bool true),(.bool true),(.slice (some ⟨b,o,none⟩) n cap),(.int .i64 i),(.pointer (some ⟨b,o+i.toNat*7,none⟩)),(.pointer (some ⟨b,o+i.toNat*7,none⟩)),(.int .u64 x.se),(.slice (some ⟨b,o,none⟩) n cap),(.int .i64 i),(.int .i64 (i - 1)),(.pointer (some ⟨b,o+(i.toNat - 1)*7,none⟩)),(.pointer (some ⟨b,o+(i.toNat - 1)*7,none⟩)),(.int .u64 y.se),(.bool true),(.bool true),(.bool true),(.bool true),undef,undef,undef,undef,undef,undef,undef,(.bool true),c57,c58,c59,c60,c61,c62,c63],[]⟩ w6):
  Code.wp Tryz.prog (((Tryz.f69.body).bind (aAr 6)).getD .skip) Q ⟨#[(.slice (some ⟨b,o,none⟩) n cap),(.int .u64 nx),c2,c3,c4,c5,(.int .i64 i),c7,c8,c9,c10,c11,c12,c13,c14,c15,c16,c17,c18,c19,c20,c21,c22,c23,c24,c25,c26,c27,c28,c29,c30,c31,c32,c33,c34,c35,c36,c37,c38,c39,c40,c41,c42,c43,c44,c45,c46,c47,c48,c49,c50,c51,c52,c53,c54,c55,c56,c57,c58,c59,c60,c61,c62,c63],[]⟩ W:=by
 conv=>arg 2;whnf
 have HQ:=yH hq;clear hq
 refine aAg (by kernel_rfl) [(.slice (some ⟨b,o,none⟩) n cap),(.int .i64 i),(.pointer (some ⟨b,o+i.toNat*7,none⟩)),(.agg #[.int .u64 x.se,.int .u8 x.ow,.int .u8 x.sl,.int .u8 x.bu,.int .i64 x.lf,.int .i64 x.nu,.int .i64 x.de]),(.bool true),(.bool false),(.bool false),(.slice (some ⟨b,o,none⟩) n cap),(.int .i64 i),(.pointer (some ⟨b,o+i.toNat*7,none⟩)),(.pointer (some ⟨b,o+i.toNat*7,none⟩)),(.int .u64 x.se),(.bool false),(.bool false),(.bool false),(.int .i64 i),(.bool true),(.bool true),(.slice (some ⟨b,o,none⟩) n cap),(.int .i64 i),(.pointer (some ⟨b,o+i.toNat*7,none⟩)),(.pointer (some ⟨b,o+i.toNat*7,none⟩)),(.int .u64 x.se),(.slice (some ⟨b,o,none⟩) n cap),(.int .i64 i),(.int .i64 (i - 1)),(.pointer (some ⟨b,o+(i.toNat - 1)*7,none⟩)),(.pointer (some ⟨b,o+(i.toNat - 1)*7,none⟩)),(.int .u64 y.se),(.bool true),(.bool true),(.bool true),(.bool true),undef,undef,undef,undef,undef,undef,undef,(.bool true)]
  (fun w'=>Below W.heap.size W w') (by kernel_rfl) yZ.drew ?_
 intro af haf;simp only[yG,List.append_eq,List.cons_append,List.nil_append,puts,Act.put,yA,yC,yF,yD,yE]at haf;subst haf;refine⟨?_,?_⟩
 ·simp only[yG,List.append_eq,List.cons_append,List.nil_append,aAv];refine⟨?z1,?z2,?z3,?_,?_,?z4,?z5,?z11,?z12,?z13,?z14,?z30,?z15,?z6,?z7,?z16,?z17,?z18,?z19,?z20,?z21,?z22,?z31,?z23,?z24,?z25,?z26,?z27,?_,?z28,?z29,?z8,?z9,?z32,?z33,?z34,?z35,?z36,?z37,?z38,?z10,trivial⟩
  case z1|z2|z3|z4|z5|z6|z7|z8|z9|z10=>
   intro w' hS;refine yO rfl ?_;have HS:=yH hS;clear hS;go_wp2_with fail;all_goals first|exact HS|exact⟨rfl,HS⟩|rfl|exact⟨by omega,HS.o⟩
  case z11|z12|z13|z14|z15|z16|z17|z18|z19|z20|z21|z22|z23|z24|z25|z26|z27|z28|z29=>
   intro w' hS;refine OpTo.wanted ?_ ?_
   kernel_rfl
   have HS:=yH hS;clear hS;go_wp2_with fail;all_goals first|exact HS|exact⟨rfl,HS⟩|rfl|exact⟨by omega,HS.o⟩
  case z30|z31=>
   intro w' hS;refine OpTo.wanted ?_ ?_
   kernel_rfl
   have hlt:=yM HB.o hS.size;have e0:=(hS.cell (p:=⟨b,o+i.toNat*7,none⟩) HB.o).trans HX0.o;have e1:=(hS.cell (p:=⟨b,o+i.toNat*7+1,none⟩) HB.o).trans HX1.o;have e2:=(hS.cell (p:=⟨b,o+i.toNat*7+2,none⟩) HB.o).trans HX2.o;have e3:=(hS.cell (p:=⟨b,o+i.toNat*7+3,none⟩) HB.o).trans HX3.o;have e4:=(hS.cell (p:=⟨b,o+i.toNat*7+4,none⟩) HB.o).trans HX4.o;have e5:=(hS.cell (p:=⟨b,o+i.toNat*7+5,none⟩) HB.o).trans HX5.o;have e6:=(hS.cell (p:=⟨b,o+i.toNat*7+6,none⟩) HB.o).trans HX6.o;have HS:=yH hS;clear hS;go_wp2_with fail;all_goals first|exact HS|exact⟨rfl,HS⟩|rfl|exact⟨by omega,HS.o⟩
  case z32|z33|z34|z35|z36|z37|z38=>
   intro w' hS;refine pAC (by kernel_rfl) rfl hS
  ·intro w' hS;refine yO rfl ?_;have hlt:=yM HB.o hS.size;have e0:=(hS.cell (p:=⟨b,o+i.toNat*7,none⟩) HB.o).trans HX0.o;have e1:=(hS.cell (p:=⟨b,o+i.toNat*7+1,none⟩) HB.o).trans HX1.o;have e2:=(hS.cell (p:=⟨b,o+i.toNat*7+2,none⟩) HB.o).trans HX2.o;have e3:=(hS.cell (p:=⟨b,o+i.toNat*7+3,none⟩) HB.o).trans HX3.o;have e4:=(hS.cell (p:=⟨b,o+i.toNat*7+4,none⟩) HB.o).trans HX4.o;have e5:=(hS.cell (p:=⟨b,o+i.toNat*7+5,none⟩) HB.o).trans HX5.o;have e6:=(hS.cell (p:=⟨b,o+i.toNat*7+6,none⟩) HB.o).trans HX6.o;have HS:=yH hS;clear hS;go_wp2_with fail;all_goals first|exact HS|exact⟨rfl,HS⟩|rfl|exact⟨by omega,HS.o⟩
  ·intro w' hS;refine yO rfl ?_;have HS:=yH hS;clear hS;go_wp2_with fail;refine(CM.o w').mono ?_;rintro e w'' ⟨rfl,hb2⟩;exact⟨rfl,andB HS.o hb2⟩
  intro w' hS;refine OpTo.wanted ?_ ?_
  kernel_rfl
  have hlt:=yM HB.o hS.size;have e0:=(hS.cell (p:=⟨b,o+(i.toNat - 1)*7,none⟩) HB.o).trans HY.o;have HS:=yH hS;clear hS;go_wp2_with fail;all_goals first|exact HS|exact⟨rfl,HS⟩|rfl|exact⟨by omega,HS.o⟩
 intro w6 b6;exact HQ.o w6 b6
theorem bof_t4{W:World}{b o n cap:Nat}{i nx:Int}{x y:Of}(HB:Hid (b<W.heap.size))(HX0:Hid (W.cell? ⟨b,o+i.toNat*7,none⟩=some (.int .u64 x.se)))(HX1:Hid (W.cell? ⟨b,o+i.toNat*7+1,none⟩=some (.int .u8 x.ow)))(HX2:Hid (W.cell? ⟨b,o+i.toNat*7+2,none⟩=some (.int .u8 x.sl)))(HX3:Hid (W.cell? ⟨b,o+i.toNat*7+3,none⟩=some (.int .u8 x.bu)))(HX4:Hid (W.cell? ⟨b,o+i.toNat*7+4,none⟩=some (.int .i64 x.lf)))(HX5:Hid (W.cell? ⟨b,o+i.toNat*7+5,none⟩=some (.int .i64 x.nu)))(HX6:Hid (W.cell? ⟨b,o+i.toNat*7+6,none⟩=some (.int .i64 x.de)))(i4:0≤i)(i1:i<(n:Int))(hn:n≤32)(CM:Hid (∀w',Calls Tryz.prog 111 #[.agg #[.int .u64 x.se,.int .u8 x.ow,.int .u8 x.sl,.int .u8 x.bu,.int .i64 x.lf,.int .i64 x.nu,.int .i64 x.de]] w' fun e w''=>e=.returned (.bool true)∧Below w'.heap.size w' w''))(c2:(x.se==0)=false)(s0:decide (0<i)=true)(HY:Hid (W.cell? ⟨b,o+(i.toNat - 1)*7,none⟩=some (.int .u64 y.se)))(i0:0<i)(c3:decide (x.se≤y.se)=false)(c4:decide (nx≤x.se)=true){Q:Exit→Act→World→Prop}{c2 c3 c4 c5 c7 c8 c9 c10 c11 c12 c13 c14 c15 c16 c17 c18 c19 c20 c21 c22 c23 c24 c25 c26 c27 c28 c29 c30 c31 c32 c33 c34 c35 c36 c37 c38 c39 c40 c41 c42 c43 c44 c45 c46 c47 c48 c49 c50 c51 c52 c53 c54 c55 c56 c57 c58 c59 c60 c61 c62 c63:Value}
  (hq:∀w6,(fun w'=>Below W.heap.size W w') w6→Q .normal ⟨#[(.slice (some ⟨b,o,none⟩) n cap),(.int .u64 nx),c2,c3,c4,c5,(.int .i64 i),c7,c8,c9,c10,c11,c12,c13,c14,c15,(.slice (some ⟨b,o,none⟩) n cap),(.int .i64 i),(.pointer (some ⟨b,o+i.toNat*7,none⟩)),(.agg #[.int .u64 x.se,.int .u8 x.ow,.int .u8 x.sl,.int .u8 x.bu,.int .i64 x.lf,.int .i64 x.nu,.int .i64 x.de]),(.bool true),(.bool false),(.bool false),(.slice (some ⟨b,o,none⟩) n cap),(.int .i64 i),(.pointer (some ⟨b,o+i.toNat*7,none⟩)),(.pointer (some ⟨b,o+i.toNat*7,none⟩)),(.int .u64 x.se),(.bool false),(.bool false),(.bool false),(.int .i64 i),(.bool true),(.bool true),(.slice (some ⟨b,o,none⟩) n cap),(.int .i64 i),(.pointer (some ⟨b,o+i.toNat*7,none⟩)),(.pointer (some ⟨b,o+i.toNat*7,none⟩)),(.int .u64 x.se),(.slice (some ⟨b,o,none⟩) n cap),(.int .i64 i),(.int .i64 (i - 1)),(.pointer (some ⟨b,o+(i.toNat - 1)*7,none⟩)),(.pointer (some ⟨b,o+(i.toNat - 1)*7,none⟩)),(.int .u64 y.se),(.bool false),(.bool false),(.bool false),(.bool false),(.slice (some ⟨b,o,none⟩) n cap),(.int .i64 i),(.pointer (some ⟨b,o+i.toNat*7,none⟩)),(.pointer (some ⟨b,o+i.toNat*7,none⟩)),(.int .u64 x.se),(.int .u64 nx),(.bool true),(.bool true),c57,c58,c59,c60,c61,c62,c63],[]⟩ w6):
  Code.wp Tryz.prog (((Tryz.f69.body).bind (aAr 6)).getD .skip) Q ⟨#[(.slice (some ⟨b,o,none⟩) n cap),(.int .u64 nx),c2,c3,c4,c5,(.int .i64 i),c7,c8,c9,c10,c11,c12,c13,c14,c15,c16,c17,c18,c19,c20,c21,c22,c23,c24,c25,c26,c27,c28,c29,c30,c31,c32,c33,c34,c35,c36,c37,c38,c39,c40,c41,c42,c43,c44,c45,c46,c47,c48,c49,c50,c51,c52,c53,c54,c55,c56,c57,c58,c59,c60,c61,c62,c63],[]⟩ W:=by
 conv=>arg 2;whnf
 have HQ:=yH hq;clear hq
 refine aAg (by kernel_rfl) [(.slice (some ⟨b,o,none⟩) n cap),(.int .i64 i),(.pointer (some ⟨b,o+i.toNat*7,none⟩)),(.agg #[.int .u64 x.se,.int .u8 x.ow,.int .u8 x.sl,.int .u8 x.bu,.int .i64 x.lf,.int .i64 x.nu,.int .i64 x.de]),(.bool true),(.bool false),(.bool false),(.slice (some ⟨b,o,none⟩) n cap),(.int .i64 i),(.pointer (some ⟨b,o+i.toNat*7,none⟩)),(.pointer (some ⟨b,o+i.toNat*7,none⟩)),(.int .u64 x.se),(.bool false),(.bool false),(.bool false),(.int .i64 i),(.bool true),(.bool true),(.slice (some ⟨b,o,none⟩) n cap),(.int .i64 i),(.pointer (some ⟨b,o+i.toNat*7,none⟩)),(.pointer (some ⟨b,o+i.toNat*7,none⟩)),(.int .u64 x.se),(.slice (some ⟨b,o,none⟩) n cap),(.int .i64 i),(.int .i64 (i - 1)),(.pointer (some ⟨b,o+(i.toNat - 1)*7,none⟩)),(.pointer (some ⟨b,o+(i.toNat - 1)*7,none⟩)),(.int .u64 y.se),(.bool false),(.bool false),(.bool false),(.bool false),(.slice (some ⟨b,o,none⟩) n cap),(.int .i64 i),(.pointer (some ⟨b,o+i.toNat*7,none⟩)),(.pointer (some ⟨b,o+i.toNat*7,none⟩)),(.int .u64 x.se),(.int .u64 nx),(.bool true),(.bool true)]
  (fun w'=>Below W.heap.size W w') (by kernel_rfl) yZ.drew ?_
 intro af haf;simp only[yG,List.append_eq,List.cons_append,List.nil_append,puts,Act.put,yA,yC,yF,yD,yE]at haf;subst haf;refine⟨?_,?_⟩
 ·simp only[yG,List.append_eq,List.cons_append,List.nil_append,aAv];refine⟨?z1,?z2,?z3,?_,?_,?z4,?z5,?z11,?z12,?z13,?z14,?z36,?z15,?z6,?z7,?z16,?z17,?z18,?z19,?z20,?z21,?z22,?z37,?z23,?z24,?z25,?z26,?z27,?_,?z28,?z29,?z8,?z9,?z30,?z31,?z32,?z33,?z38,?z34,?z35,?z10,trivial⟩
  case z1|z2|z3|z4|z5|z6|z7|z8|z9|z10=>
   intro w' hS;refine yO rfl ?_;have HS:=yH hS;clear hS;go_wp2_with fail;all_goals first|exact HS|exact⟨rfl,HS⟩|rfl|exact⟨by omega,HS.o⟩
  case z11|z12|z13|z14|z15|z16|z17|z18|z19|z20|z21|z22|z23|z24|z25|z26|z27|z28|z29|z30|z31|z32|z33|z34|z35=>
   intro w' hS;refine OpTo.wanted ?_ ?_
   kernel_rfl
   have HS:=yH hS;clear hS;go_wp2_with fail;all_goals first|exact HS|exact⟨rfl,HS⟩|rfl|exact⟨by omega,HS.o⟩
  case z36|z37|z38=>
   intro w' hS;refine OpTo.wanted ?_ ?_
   kernel_rfl
   have hlt:=yM HB.o hS.size;have e0:=(hS.cell (p:=⟨b,o+i.toNat*7,none⟩) HB.o).trans HX0.o;have e1:=(hS.cell (p:=⟨b,o+i.toNat*7+1,none⟩) HB.o).trans HX1.o;have e2:=(hS.cell (p:=⟨b,o+i.toNat*7+2,none⟩) HB.o).trans HX2.o;have e3:=(hS.cell (p:=⟨b,o+i.toNat*7+3,none⟩) HB.o).trans HX3.o;have e4:=(hS.cell (p:=⟨b,o+i.toNat*7+4,none⟩) HB.o).trans HX4.o;have e5:=(hS.cell (p:=⟨b,o+i.toNat*7+5,none⟩) HB.o).trans HX5.o;have e6:=(hS.cell (p:=⟨b,o+i.toNat*7+6,none⟩) HB.o).trans HX6.o;have HS:=yH hS;clear hS;go_wp2_with fail;all_goals first|exact HS|exact⟨rfl,HS⟩|rfl|exact⟨by omega,HS.o⟩
  ·intro w' hS;refine yO rfl ?_;have hlt:=yM HB.o hS.size;have e0:=(hS.cell (p:=⟨b,o+i.toNat*7,none⟩) HB.o).trans HX0.o;have e1:=(hS.cell (p:=⟨b,o+i.toNat*7+1,none⟩) HB.o).trans HX1.o;have e2:=(hS.cell (p:=⟨b,o+i.toNat*7+2,none⟩) HB.o).trans HX2.o;have e3:=(hS.cell (p:=⟨b,o+i.toNat*7+3,none⟩) HB.o).trans HX3.o;have e4:=(hS.cell (p:=⟨b,o+i.toNat*7+4,none⟩) HB.o).trans HX4.o;have e5:=(hS.cell (p:=⟨b,o+i.toNat*7+5,none⟩) HB.o).trans HX5.o;have e6:=(hS.cell (p:=⟨b,o+i.toNat*7+6,none⟩) HB.o).trans HX6.o;have HS:=yH hS;clear hS;go_wp2_with fail;all_goals first|exact HS|exact⟨rfl,HS⟩|rfl|exact⟨by omega,HS.o⟩
  ·intro w' hS;refine yO rfl ?_;have HS:=yH hS;clear hS;go_wp2_with fail;refine(CM.o w').mono ?_;rintro e w'' ⟨rfl,hb2⟩;exact⟨rfl,andB HS.o hb2⟩
  intro w' hS;refine OpTo.wanted ?_ ?_
  kernel_rfl
  have hlt:=yM HB.o hS.size;have e0:=(hS.cell (p:=⟨b,o+(i.toNat - 1)*7,none⟩) HB.o).trans HY.o;have HS:=yH hS;clear hS;go_wp2_with fail;all_goals first|exact HS|exact⟨rfl,HS⟩|rfl|exact⟨by omega,HS.o⟩
 intro w6 b6;exact HQ.o w6 b6
theorem bof_f4{W:World}{b o n cap:Nat}{i nx:Int}{x y:Of}(HB:Hid (b<W.heap.size))(HX0:Hid (W.cell? ⟨b,o+i.toNat*7,none⟩=some (.int .u64 x.se)))(HX1:Hid (W.cell? ⟨b,o+i.toNat*7+1,none⟩=some (.int .u8 x.ow)))(HX2:Hid (W.cell? ⟨b,o+i.toNat*7+2,none⟩=some (.int .u8 x.sl)))(HX3:Hid (W.cell? ⟨b,o+i.toNat*7+3,none⟩=some (.int .u8 x.bu)))(HX4:Hid (W.cell? ⟨b,o+i.toNat*7+4,none⟩=some (.int .i64 x.lf)))(HX5:Hid (W.cell? ⟨b,o+i.toNat*7+5,none⟩=some (.int .i64 x.nu)))(HX6:Hid (W.cell? ⟨b,o+i.toNat*7+6,none⟩=some (.int .i64 x.de)))(i4:0≤i)(i1:i<(n:Int))(hn:n≤32)(CM:Hid (∀w',Calls Tryz.prog 111 #[.agg #[.int .u64 x.se,.int .u8 x.ow,.int .u8 x.sl,.int .u8 x.bu,.int .i64 x.lf,.int .i64 x.nu,.int .i64 x.de]] w' fun e w''=>e=.returned (.bool true)∧Below w'.heap.size w' w''))(c2:(x.se==0)=false)(s0:decide (0<i)=false)(c4:decide (nx≤x.se)=true){Q:Exit→Act→World→Prop}{c2 c3 c4 c5 c7 c8 c9 c10 c11 c12 c13 c14 c15 c16 c17 c18 c19 c20 c21 c22 c23 c24 c25 c26 c27 c28 c29 c30 c31 c32 c33 c34 c35 c36 c37 c38 c39 c40 c41 c42 c43 c44 c45 c46 c47 c48 c49 c50 c51 c52 c53 c54 c55 c56 c57 c58 c59 c60 c61 c62 c63:Value}
  (hq:∀w6,(fun w'=>Below W.heap.size W w') w6→Q .normal ⟨#[(.slice (some ⟨b,o,none⟩) n cap),(.int .u64 nx),c2,c3,c4,c5,(.int .i64 i),c7,c8,c9,c10,c11,c12,c13,c14,c15,(.slice (some ⟨b,o,none⟩) n cap),(.int .i64 i),(.pointer (some ⟨b,o+i.toNat*7,none⟩)),(.agg #[.int .u64 x.se,.int .u8 x.ow,.int .u8 x.sl,.int .u8 x.bu,.int .i64 x.lf,.int .i64 x.nu,.int .i64 x.de]),(.bool true),(.bool false),(.bool false),(.slice (some ⟨b,o,none⟩) n cap),(.int .i64 i),(.pointer (some ⟨b,o+i.toNat*7,none⟩)),(.pointer (some ⟨b,o+i.toNat*7,none⟩)),(.int .u64 x.se),(.bool false),(.bool false),(.bool false),(.int .i64 i),(.bool false),(.bool false),undef,undef,undef,undef,undef,undef,undef,undef,undef,undef,undef,undef,(.bool false),(.bool false),(.bool false),(.slice (some ⟨b,o,none⟩) n cap),(.int .i64 i),(.pointer (some ⟨b,o+i.toNat*7,none⟩)),(.pointer (some ⟨b,o+i.toNat*7,none⟩)),(.int .u64 x.se),(.int .u64 nx),(.bool true),(.bool true),c57,c58,c59,c60,c61,c62,c63],[]⟩ w6):
  Code.wp Tryz.prog (((Tryz.f69.body).bind (aAr 6)).getD .skip) Q ⟨#[(.slice (some ⟨b,o,none⟩) n cap),(.int .u64 nx),c2,c3,c4,c5,(.int .i64 i),c7,c8,c9,c10,c11,c12,c13,c14,c15,c16,c17,c18,c19,c20,c21,c22,c23,c24,c25,c26,c27,c28,c29,c30,c31,c32,c33,c34,c35,c36,c37,c38,c39,c40,c41,c42,c43,c44,c45,c46,c47,c48,c49,c50,c51,c52,c53,c54,c55,c56,c57,c58,c59,c60,c61,c62,c63],[]⟩ W:=by
 conv=>arg 2;whnf
 have HQ:=yH hq;clear hq
 refine aAg (by kernel_rfl) [(.slice (some ⟨b,o,none⟩) n cap),(.int .i64 i),(.pointer (some ⟨b,o+i.toNat*7,none⟩)),(.agg #[.int .u64 x.se,.int .u8 x.ow,.int .u8 x.sl,.int .u8 x.bu,.int .i64 x.lf,.int .i64 x.nu,.int .i64 x.de]),(.bool true),(.bool false),(.bool false),(.slice (some ⟨b,o,none⟩) n cap),(.int .i64 i),(.pointer (some ⟨b,o+i.toNat*7,none⟩)),(.pointer (some ⟨b,o+i.toNat*7,none⟩)),(.int .u64 x.se),(.bool false),(.bool false),(.bool false),(.int .i64 i),(.bool false),(.bool false),undef,undef,undef,undef,undef,undef,undef,undef,undef,undef,undef,undef,(.bool false),(.bool false),(.bool false),(.slice (some ⟨b,o,none⟩) n cap),(.int .i64 i),(.pointer (some ⟨b,o+i.toNat*7,none⟩)),(.pointer (some ⟨b,o+i.toNat*7,none⟩)),(.int .u64 x.se),(.int .u64 nx),(.bool true),(.bool true)]
  (fun w'=>Below W.heap.size W w') (by kernel_rfl) yZ.drew ?_
 intro af haf;simp only[yG,List.append_eq,List.cons_append,List.nil_append,puts,Act.put,yA,yC,yF,yD,yE]at haf;subst haf;refine⟨?_,?_⟩
 ·simp only[yG,List.append_eq,List.cons_append,List.nil_append,aAv];refine⟨?z1,?z2,?z3,?_,?_,?z4,?z5,?z11,?z12,?z13,?z14,?z26,?z15,?z6,?z7,?z16,?z17,?z18,?z28,?z29,?z30,?z31,?z32,?z33,?z34,?z35,?z36,?z37,?z38,?z39,?z19,?z8,?z9,?z20,?z21,?z22,?z23,?z27,?z24,?z25,?z10,trivial⟩
  case z1|z2|z3|z4|z5|z6|z7|z8|z9|z10=>
   intro w' hS;refine yO rfl ?_;have HS:=yH hS;clear hS;go_wp2_with fail;all_goals first|exact HS|exact⟨rfl,HS⟩|rfl|exact⟨by omega,HS.o⟩
  case z11|z12|z13|z14|z15|z16|z17|z18|z19|z20|z21|z22|z23|z24|z25=>
   intro w' hS;refine OpTo.wanted ?_ ?_
   kernel_rfl
   have HS:=yH hS;clear hS;go_wp2_with fail;all_goals first|exact HS|exact⟨rfl,HS⟩|rfl|exact⟨by omega,HS.o⟩
  case z26|z27=>
   intro w' hS;refine OpTo.wanted ?_ ?_
   kernel_rfl
   have hlt:=yM HB.o hS.size;have e0:=(hS.cell (p:=⟨b,o+i.toNat*7,none⟩) HB.o).trans HX0.o;have e1:=(hS.cell (p:=⟨b,o+i.toNat*7+1,none⟩) HB.o).trans HX1.o;have e2:=(hS.cell (p:=⟨b,o+i.toNat*7+2,none⟩) HB.o).trans HX2.o;have e3:=(hS.cell (p:=⟨b,o+i.toNat*7+3,none⟩) HB.o).trans HX3.o;have e4:=(hS.cell (p:=⟨b,o+i.toNat*7+4,none⟩) HB.o).trans HX4.o;have e5:=(hS.cell (p:=⟨b,o+i.toNat*7+5,none⟩) HB.o).trans HX5.o;have e6:=(hS.cell (p:=⟨b,o+i.toNat*7+6,none⟩) HB.o).trans HX6.o;have HS:=yH hS;clear hS;go_wp2_with fail;all_goals first|exact HS|exact⟨rfl,HS⟩|rfl|exact⟨by omega,HS.o⟩
  case z28|z29|z30|z31|z32|z33|z34|z35|z36|z37|z38|z39=>
   intro w' hS;refine pAC (by kernel_rfl) rfl hS
  ·intro w' hS;refine yO rfl ?_;have hlt:=yM HB.o hS.size;have e0:=(hS.cell (p:=⟨b,o+i.toNat*7,none⟩) HB.o).trans HX0.o;have e1:=(hS.cell (p:=⟨b,o+i.toNat*7+1,none⟩) HB.o).trans HX1.o;have e2:=(hS.cell (p:=⟨b,o+i.toNat*7+2,none⟩) HB.o).trans HX2.o;have e3:=(hS.cell (p:=⟨b,o+i.toNat*7+3,none⟩) HB.o).trans HX3.o;have e4:=(hS.cell (p:=⟨b,o+i.toNat*7+4,none⟩) HB.o).trans HX4.o;have e5:=(hS.cell (p:=⟨b,o+i.toNat*7+5,none⟩) HB.o).trans HX5.o;have e6:=(hS.cell (p:=⟨b,o+i.toNat*7+6,none⟩) HB.o).trans HX6.o;have HS:=yH hS;clear hS;go_wp2_with fail;all_goals first|exact HS|exact⟨rfl,HS⟩|rfl|exact⟨by omega,HS.o⟩
  intro w' hS;refine yO rfl ?_;have HS:=yH hS;clear hS;go_wp2_with fail;refine(CM.o w').mono ?_;rintro e w'' ⟨rfl,hb2⟩;exact⟨rfl,andB HS.o hb2⟩
 intro w6 b6;exact HQ.o w6 b6
theorem bof_t5{W:World}{b o n cap:Nat}{i nx:Int}{x y:Of}(HB:Hid (b<W.heap.size))(HX0:Hid (W.cell? ⟨b,o+i.toNat*7,none⟩=some (.int .u64 x.se)))(HX1:Hid (W.cell? ⟨b,o+i.toNat*7+1,none⟩=some (.int .u8 x.ow)))(HX2:Hid (W.cell? ⟨b,o+i.toNat*7+2,none⟩=some (.int .u8 x.sl)))(HX3:Hid (W.cell? ⟨b,o+i.toNat*7+3,none⟩=some (.int .u8 x.bu)))(HX4:Hid (W.cell? ⟨b,o+i.toNat*7+4,none⟩=some (.int .i64 x.lf)))(HX5:Hid (W.cell? ⟨b,o+i.toNat*7+5,none⟩=some (.int .i64 x.nu)))(HX6:Hid (W.cell? ⟨b,o+i.toNat*7+6,none⟩=some (.int .i64 x.de)))(i4:0≤i)(i1:i<(n:Int))(hn:n≤32)(CM:Hid (∀w',Calls Tryz.prog 111 #[.agg #[.int .u64 x.se,.int .u8 x.ow,.int .u8 x.sl,.int .u8 x.bu,.int .i64 x.lf,.int .i64 x.nu,.int .i64 x.de]] w' fun e w''=>e=.returned (.bool true)∧Below w'.heap.size w' w''))(c2:(x.se==0)=false)(s0:decide (0<i)=true)(HY:Hid (W.cell? ⟨b,o+(i.toNat - 1)*7,none⟩=some (.int .u64 y.se)))(i0:0<i)(c3:decide (x.se≤y.se)=false)(c4:decide (nx≤x.se)=false){Q:Exit→Act→World→Prop}{c2 c3 c4 c5 c7 c8 c9 c10 c11 c12 c13 c14 c15 c16 c17 c18 c19 c20 c21 c22 c23 c24 c25 c26 c27 c28 c29 c30 c31 c32 c33 c34 c35 c36 c37 c38 c39 c40 c41 c42 c43 c44 c45 c46 c47 c48 c49 c50 c51 c52 c53 c54 c55 c56 c57 c58 c59 c60 c61 c62 c63:Value}
  (hq:∀w6,(fun w'=>Below W.heap.size W w') w6→Q .normal ⟨#[(.slice (some ⟨b,o,none⟩) n cap),(.int .u64 nx),c2,c3,c4,c5,(.int .i64 i),c7,c8,c9,c10,c11,c12,c13,c14,c15,(.slice (some ⟨b,o,none⟩) n cap),(.int .i64 i),(.pointer (some ⟨b,o+i.toNat*7,none⟩)),(.agg #[.int .u64 x.se,.int .u8 x.ow,.int .u8 x.sl,.int .u8 x.bu,.int .i64 x.lf,.int .i64 x.nu,.int .i64 x.de]),(.bool true),(.bool false),(.bool false),(.slice (some ⟨b,o,none⟩) n cap),(.int .i64 i),(.pointer (some ⟨b,o+i.toNat*7,none⟩)),(.pointer (some ⟨b,o+i.toNat*7,none⟩)),(.int .u64 x.se),(.bool false),(.bool false),(.bool false),(.int .i64 i),(.bool true),(.bool true),(.slice (some ⟨b,o,none⟩) n cap),(.int .i64 i),(.pointer (some ⟨b,o+i.toNat*7,none⟩)),(.pointer (some ⟨b,o+i.toNat*7,none⟩)),(.int .u64 x.se),(.slice (some ⟨b,o,none⟩) n cap),(.int .i64 i),(.int .i64 (i - 1)),(.pointer (some ⟨b,o+(i.toNat - 1)*7,none⟩)),(.pointer (some ⟨b,o+(i.toNat - 1)*7,none⟩)),(.int .u64 y.se),(.bool false),(.bool false),(.bool false),(.bool false),(.slice (some ⟨b,o,none⟩) n cap),(.int .i64 i),(.pointer (some ⟨b,o+i.toNat*7,none⟩)),(.pointer (some ⟨b,o+i.toNat*7,none⟩)),(.int .u64 x.se),(.int .u64 nx),(.bool false),(.bool false),c57,c58,c59,c60,c61,c62,c63],[]⟩ w6):
  Code.wp Tryz.prog (((Tryz.f69.body).bind (aAr 6)).getD .skip) Q ⟨#[(.slice (some ⟨b,o,none⟩) n cap),(.int .u64 nx),c2,c3,c4,c5,(.int .i64 i),c7,c8,c9,c10,c11,c12,c13,c14,c15,c16,c17,c18,c19,c20,c21,c22,c23,c24,c25,c26,c27,c28,c29,c30,c31,c32,c33,c34,c35,c36,c37,c38,c39,c40,c41,c42,c43,c44,c45,c46,c47,c48,c49,c50,c51,c52,c53,c54,c55,c56,c57,c58,c59,c60,c61,c62,c63],[]⟩ W:=by
 conv=>arg 2;whnf
 have HQ:=yH hq;clear hq
 refine aAg (by kernel_rfl) [(.slice (some ⟨b,o,none⟩) n cap),(.int .i64 i),(.pointer (some ⟨b,o+i.toNat*7,none⟩)),(.agg #[.int .u64 x.se,.int .u8 x.ow,.int .u8 x.sl,.int .u8 x.bu,.int .i64 x.lf,.int .i64 x.nu,.int .i64 x.de]),(.bool true),(.bool false),(.bool false),(.slice (some ⟨b,o,none⟩) n cap),(.int .i64 i),(.pointer (some ⟨b,o+i.toNat*7,none⟩)),(.pointer (some ⟨b,o+i.toNat*7,none⟩)),(.int .u64 x.se),(.bool false),(.bool false),(.bool false),(.int .i64 i),(.bool true),(.bool true),(.slice (some ⟨b,o,none⟩) n cap),(.int .i64 i),(.pointer (some ⟨b,o+i.toNat*7,none⟩)),(.pointer (some ⟨b,o+i.toNat*7,none⟩)),(.int .u64 x.se),(.slice (some ⟨b,o,none⟩) n cap),(.int .i64 i),(.int .i64 (i - 1)),(.pointer (some ⟨b,o+(i.toNat - 1)*7,none⟩)),(.pointer (some ⟨b,o+(i.toNat - 1)*7,none⟩)),(.int .u64 y.se),(.bool false),(.bool false),(.bool false),(.bool false),(.slice (some ⟨b,o,none⟩) n cap),(.int .i64 i),(.pointer (some ⟨b,o+i.toNat*7,none⟩)),(.pointer (some ⟨b,o+i.toNat*7,none⟩)),(.int .u64 x.se),(.int .u64 nx),(.bool false),(.bool false)]
  (fun w'=>Below W.heap.size W w') (by kernel_rfl) yZ.drew ?_
 intro af haf;simp only[yG,List.append_eq,List.cons_append,List.nil_append,puts,Act.put,yA,yC,yF,yD,yE]at haf;subst haf;refine⟨?_,?_⟩
 ·simp only[yG,List.append_eq,List.cons_append,List.nil_append,aAv];refine⟨?z1,?z2,?z3,?_,?_,?z4,?z5,?z11,?z12,?z13,?z14,?z36,?z15,?z6,?z7,?z16,?z17,?z18,?z19,?z20,?z21,?z22,?z37,?z23,?z24,?z25,?z26,?z27,?_,?z28,?z29,?z8,?z9,?z30,?z31,?z32,?z33,?z38,?z34,?z35,?z10,trivial⟩
  case z1|z2|z3|z4|z5|z6|z7|z8|z9|z10=>
   intro w' hS;refine yO rfl ?_;have HS:=yH hS;clear hS;go_wp2_with fail;all_goals first|exact HS|exact⟨rfl,HS⟩|rfl|exact⟨by omega,HS.o⟩
  case z11|z12|z13|z14|z15|z16|z17|z18|z19|z20|z21|z22|z23|z24|z25|z26|z27|z28|z29|z30|z31|z32|z33|z34|z35=>
   intro w' hS;refine OpTo.wanted ?_ ?_
   kernel_rfl
   have HS:=yH hS;clear hS;go_wp2_with fail;all_goals first|exact HS|exact⟨rfl,HS⟩|rfl|exact⟨by omega,HS.o⟩
  case z36|z37|z38=>
   intro w' hS;refine OpTo.wanted ?_ ?_
   kernel_rfl
   have hlt:=yM HB.o hS.size;have e0:=(hS.cell (p:=⟨b,o+i.toNat*7,none⟩) HB.o).trans HX0.o;have e1:=(hS.cell (p:=⟨b,o+i.toNat*7+1,none⟩) HB.o).trans HX1.o;have e2:=(hS.cell (p:=⟨b,o+i.toNat*7+2,none⟩) HB.o).trans HX2.o;have e3:=(hS.cell (p:=⟨b,o+i.toNat*7+3,none⟩) HB.o).trans HX3.o;have e4:=(hS.cell (p:=⟨b,o+i.toNat*7+4,none⟩) HB.o).trans HX4.o;have e5:=(hS.cell (p:=⟨b,o+i.toNat*7+5,none⟩) HB.o).trans HX5.o;have e6:=(hS.cell (p:=⟨b,o+i.toNat*7+6,none⟩) HB.o).trans HX6.o;have HS:=yH hS;clear hS;go_wp2_with fail;all_goals first|exact HS|exact⟨rfl,HS⟩|rfl|exact⟨by omega,HS.o⟩
  ·intro w' hS;refine yO rfl ?_;have hlt:=yM HB.o hS.size;have e0:=(hS.cell (p:=⟨b,o+i.toNat*7,none⟩) HB.o).trans HX0.o;have e1:=(hS.cell (p:=⟨b,o+i.toNat*7+1,none⟩) HB.o).trans HX1.o;have e2:=(hS.cell (p:=⟨b,o+i.toNat*7+2,none⟩) HB.o).trans HX2.o;have e3:=(hS.cell (p:=⟨b,o+i.toNat*7+3,none⟩) HB.o).trans HX3.o;have e4:=(hS.cell (p:=⟨b,o+i.toNat*7+4,none⟩) HB.o).trans HX4.o;have e5:=(hS.cell (p:=⟨b,o+i.toNat*7+5,none⟩) HB.o).trans HX5.o;have e6:=(hS.cell (p:=⟨b,o+i.toNat*7+6,none⟩) HB.o).trans HX6.o;have HS:=yH hS;clear hS;go_wp2_with fail;all_goals first|exact HS|exact⟨rfl,HS⟩|rfl|exact⟨by omega,HS.o⟩
  ·intro w' hS;refine yO rfl ?_;have HS:=yH hS;clear hS;go_wp2_with fail;refine(CM.o w').mono ?_;rintro e w'' ⟨rfl,hb2⟩;exact⟨rfl,andB HS.o hb2⟩
  intro w' hS;refine OpTo.wanted ?_ ?_
  kernel_rfl
  have hlt:=yM HB.o hS.size;have e0:=(hS.cell (p:=⟨b,o+(i.toNat - 1)*7,none⟩) HB.o).trans HY.o;have HS:=yH hS;clear hS;go_wp2_with fail;all_goals first|exact HS|exact⟨rfl,HS⟩|rfl|exact⟨by omega,HS.o⟩
 intro w6 b6;exact HQ.o w6 b6
theorem bof_f5{W:World}{b o n cap:Nat}{i nx:Int}{x y:Of}(HB:Hid (b<W.heap.size))(HX0:Hid (W.cell? ⟨b,o+i.toNat*7,none⟩=some (.int .u64 x.se)))(HX1:Hid (W.cell? ⟨b,o+i.toNat*7+1,none⟩=some (.int .u8 x.ow)))(HX2:Hid (W.cell? ⟨b,o+i.toNat*7+2,none⟩=some (.int .u8 x.sl)))(HX3:Hid (W.cell? ⟨b,o+i.toNat*7+3,none⟩=some (.int .u8 x.bu)))(HX4:Hid (W.cell? ⟨b,o+i.toNat*7+4,none⟩=some (.int .i64 x.lf)))(HX5:Hid (W.cell? ⟨b,o+i.toNat*7+5,none⟩=some (.int .i64 x.nu)))(HX6:Hid (W.cell? ⟨b,o+i.toNat*7+6,none⟩=some (.int .i64 x.de)))(i4:0≤i)(i1:i<(n:Int))(hn:n≤32)(CM:Hid (∀w',Calls Tryz.prog 111 #[.agg #[.int .u64 x.se,.int .u8 x.ow,.int .u8 x.sl,.int .u8 x.bu,.int .i64 x.lf,.int .i64 x.nu,.int .i64 x.de]] w' fun e w''=>e=.returned (.bool true)∧Below w'.heap.size w' w''))(c2:(x.se==0)=false)(s0:decide (0<i)=false)(c4:decide (nx≤x.se)=false){Q:Exit→Act→World→Prop}{c2 c3 c4 c5 c7 c8 c9 c10 c11 c12 c13 c14 c15 c16 c17 c18 c19 c20 c21 c22 c23 c24 c25 c26 c27 c28 c29 c30 c31 c32 c33 c34 c35 c36 c37 c38 c39 c40 c41 c42 c43 c44 c45 c46 c47 c48 c49 c50 c51 c52 c53 c54 c55 c56 c57 c58 c59 c60 c61 c62 c63:Value}
  (hq:∀w6,(fun w'=>Below W.heap.size W w') w6→Q .normal ⟨#[(.slice (some ⟨b,o,none⟩) n cap),(.int .u64 nx),c2,c3,c4,c5,(.int .i64 i),c7,c8,c9,c10,c11,c12,c13,c14,c15,(.slice (some ⟨b,o,none⟩) n cap),(.int .i64 i),(.pointer (some ⟨b,o+i.toNat*7,none⟩)),(.agg #[.int .u64 x.se,.int .u8 x.ow,.int .u8 x.sl,.int .u8 x.bu,.int .i64 x.lf,.int .i64 x.nu,.int .i64 x.de]),(.bool true),(.bool false),(.bool false),(.slice (some ⟨b,o,none⟩) n cap),(.int .i64 i),(.pointer (some ⟨b,o+i.toNat*7,none⟩)),(.pointer (some ⟨b,o+i.toNat*7,none⟩)),(.int .u64 x.se),(.bool false),(.bool false),(.bool false),(.int .i64 i),(.bool false),(.bool false),undef,undef,undef,undef,undef,undef,undef,undef,undef,undef,undef,undef,(.bool false),(.bool false),(.bool false),(.slice (some ⟨b,o,none⟩) n cap),(.int .i64 i),(.pointer (some ⟨b,o+i.toNat*7,none⟩)),(.pointer (some ⟨b,o+i.toNat*7,none⟩)),(.int .u64 x.se),(.int .u64 nx),(.bool false),(.bool false),c57,c58,c59,c60,c61,c62,c63],[]⟩ w6):
  Code.wp Tryz.prog (((Tryz.f69.body).bind (aAr 6)).getD .skip) Q ⟨#[(.slice (some ⟨b,o,none⟩) n cap),(.int .u64 nx),c2,c3,c4,c5,(.int .i64 i),c7,c8,c9,c10,c11,c12,c13,c14,c15,c16,c17,c18,c19,c20,c21,c22,c23,c24,c25,c26,c27,c28,c29,c30,c31,c32,c33,c34,c35,c36,c37,c38,c39,c40,c41,c42,c43,c44,c45,c46,c47,c48,c49,c50,c51,c52,c53,c54,c55,c56,c57,c58,c59,c60,c61,c62,c63],[]⟩ W:=by
 conv=>arg 2;whnf
 have HQ:=yH hq;clear hq
 refine aAg (by kernel_rfl) [(.slice (some ⟨b,o,none⟩) n cap),(.int .i64 i),(.pointer (some ⟨b,o+i.toNat*7,none⟩)),(.agg #[.int .u64 x.se,.int .u8 x.ow,.int .u8 x.sl,.int .u8 x.bu,.int .i64 x.lf,.int .i64 x.nu,.int .i64 x.de]),(.bool true),(.bool false),(.bool false),(.slice (some ⟨b,o,none⟩) n cap),(.int .i64 i),(.pointer (some ⟨b,o+i.toNat*7,none⟩)),(.pointer (some ⟨b,o+i.toNat*7,none⟩)),(.int .u64 x.se),(.bool false),(.bool false),(.bool false),(.int .i64 i),(.bool false),(.bool false),undef,undef,undef,undef,undef,undef,undef,undef,undef,undef,undef,undef,(.bool false),(.bool false),(.bool false),(.slice (some ⟨b,o,none⟩) n cap),(.int .i64 i),(.pointer (some ⟨b,o+i.toNat*7,none⟩)),(.pointer (some ⟨b,o+i.toNat*7,none⟩)),(.int .u64 x.se),(.int .u64 nx),(.bool false),(.bool false)]
  (fun w'=>Below W.heap.size W w') (by kernel_rfl) yZ.drew ?_
 intro af haf;simp only[yG,List.append_eq,List.cons_append,List.nil_append,puts,Act.put,yA,yC,yF,yD,yE]at haf;subst haf;refine⟨?_,?_⟩
 ·simp only[yG,List.append_eq,List.cons_append,List.nil_append,aAv];refine⟨?z1,?z2,?z3,?_,?_,?z4,?z5,?z11,?z12,?z13,?z14,?z26,?z15,?z6,?z7,?z16,?z17,?z18,?z28,?z29,?z30,?z31,?z32,?z33,?z34,?z35,?z36,?z37,?z38,?z39,?z19,?z8,?z9,?z20,?z21,?z22,?z23,?z27,?z24,?z25,?z10,trivial⟩
  case z1|z2|z3|z4|z5|z6|z7|z8|z9|z10=>
   intro w' hS;refine yO rfl ?_;have HS:=yH hS;clear hS;go_wp2_with fail;all_goals first|exact HS|exact⟨rfl,HS⟩|rfl|exact⟨by omega,HS.o⟩
  case z11|z12|z13|z14|z15|z16|z17|z18|z19|z20|z21|z22|z23|z24|z25=>
   intro w' hS;refine OpTo.wanted ?_ ?_
   kernel_rfl
   have HS:=yH hS;clear hS;go_wp2_with fail;all_goals first|exact HS|exact⟨rfl,HS⟩|rfl|exact⟨by omega,HS.o⟩
  case z26|z27=>
   intro w' hS;refine OpTo.wanted ?_ ?_
   kernel_rfl
   have hlt:=yM HB.o hS.size;have e0:=(hS.cell (p:=⟨b,o+i.toNat*7,none⟩) HB.o).trans HX0.o;have e1:=(hS.cell (p:=⟨b,o+i.toNat*7+1,none⟩) HB.o).trans HX1.o;have e2:=(hS.cell (p:=⟨b,o+i.toNat*7+2,none⟩) HB.o).trans HX2.o;have e3:=(hS.cell (p:=⟨b,o+i.toNat*7+3,none⟩) HB.o).trans HX3.o;have e4:=(hS.cell (p:=⟨b,o+i.toNat*7+4,none⟩) HB.o).trans HX4.o;have e5:=(hS.cell (p:=⟨b,o+i.toNat*7+5,none⟩) HB.o).trans HX5.o;have e6:=(hS.cell (p:=⟨b,o+i.toNat*7+6,none⟩) HB.o).trans HX6.o;have HS:=yH hS;clear hS;go_wp2_with fail;all_goals first|exact HS|exact⟨rfl,HS⟩|rfl|exact⟨by omega,HS.o⟩
  case z28|z29|z30|z31|z32|z33|z34|z35|z36|z37|z38|z39=>
   intro w' hS;refine pAC (by kernel_rfl) rfl hS
  ·intro w' hS;refine yO rfl ?_;have hlt:=yM HB.o hS.size;have e0:=(hS.cell (p:=⟨b,o+i.toNat*7,none⟩) HB.o).trans HX0.o;have e1:=(hS.cell (p:=⟨b,o+i.toNat*7+1,none⟩) HB.o).trans HX1.o;have e2:=(hS.cell (p:=⟨b,o+i.toNat*7+2,none⟩) HB.o).trans HX2.o;have e3:=(hS.cell (p:=⟨b,o+i.toNat*7+3,none⟩) HB.o).trans HX3.o;have e4:=(hS.cell (p:=⟨b,o+i.toNat*7+4,none⟩) HB.o).trans HX4.o;have e5:=(hS.cell (p:=⟨b,o+i.toNat*7+5,none⟩) HB.o).trans HX5.o;have e6:=(hS.cell (p:=⟨b,o+i.toNat*7+6,none⟩) HB.o).trans HX6.o;have HS:=yH hS;clear hS;go_wp2_with fail;all_goals first|exact HS|exact⟨rfl,HS⟩|rfl|exact⟨by omega,HS.o⟩
  intro w' hS;refine yO rfl ?_;have HS:=yH hS;clear hS;go_wp2_with fail;refine(CM.o w').mono ?_;rintro e w'' ⟨rfl,hb2⟩;exact⟨rfl,andB HS.o hb2⟩
 intro w6 b6;exact HQ.o w6 b6
def BOfPost(w:World)(l:List Of)(nx:Int)(e:Ending)(w':World):Prop:=
 Below w.heap.size w w'∧((l.length≤32∧okO nx l∧nx≠0∧∃g vl,e=.returned (.tuple #[.pointer (some ⟨g,0,none⟩),.int .i64 0])∧RefB w' w.heap.size g l nx vl)∨
  (e=.returned (.tuple #[.pointer none,.int .i64 9])∧32<l.length)∨(e=.returned (.tuple #[.pointer none,.int .i64 1])∧l.length≤32∧¬(okO nx l∧nx≠0)))
def BOfAt(w:World)(l:List Of)(nx:Int)(i:Value)(wr:World):Prop:=
 ∃k:Nat,k≤l.length∧i=.int .i64 k∧Hid (okO nx (l.take k))∧Below w.heap.size w wr
theorem bof_any{w:World}{ao:Option Addr}{cap:Nat}{l:List Of}{nx:Int}(hp:aAs w (.slice ao l.length cap) 7 l.length (aAe l))(h0:ao=none→cap=0)(hln:l.length≤100):
  Calls Tryz.prog 69 #[.slice ao l.length cap,.int .u64 nx] w (BOfPost w l nx):=by
 have HP:=yH hp;have H0:=yH h0;obtain⟨_,_,hv,_,hxl,hrd⟩:=hp
 cases hv
 have HR:=yH hrd;clear hxl hrd h0
 by_cases h32:32<l.length
 ·have q0:decide (32<(l.length:Int))=true:=by simp;omega
  go_enter Tryz.func69,Tryz.ntmps69;go_wp2_with fail;refine bodyPost_ret (v:=.tuple #[.pointer none,.int .i64 9]) (by simp[results,Tryz.results69,go_sem]) rfl ?_;exact⟨yZ,.inr (.inl ⟨rfl,h32⟩)⟩
 have h32:l.length≤32:=by omega
 have q0:decide (32<(l.length:Int))=false:=by simp;omega
 go_enter Tryz.func69,Tryz.ntmps69;go_wp2_with fail
 go_loopw [6] (BOfAt w l nx) (fun i _=>l.length - (intOf i).toNat)
 case atStart=>exact⟨0,Nat.zero_le _,rfl,yH (okO.nil _),yZ⟩
 obtain⟨k,hk,rfl,HO,hB⟩:=hrel;have B1:=yH hB;clear hB
 by_cases hkl:k<l.length
 ·obtain⟨b,o,rfl,hb,hc⟩:=HR.o (by omega);have HB:Hid (b<wr.heap.size):=yH (yM hb B1.o.size);have HC:=yH (fun j (hj:j<l.length) i (hi:i<7)=>((B1.o.cell (p:=⟨b,o+(j*7+i),none⟩) hb).trans (hc (j*7+i) (by omega))).trans (aAf l j i hi hj));clear hb hc;have hkm:k - 1<l.length:=by omega
  generalize hi:((k:Nat):Int)=i;have i1:i<(l.length:Int):=by omega
  have i4:0≤i:=by omega
  have i2:i.toNat=k:=by omega
  have i3:i.toNat - 1=k - 1:=by omega
  have HIi:=yH hi;clear hi;have HX0:Hid (wr.cell? ⟨b,o+i.toNat*7,none⟩=some (.int .u64 l[k].se)):=yH (by rw[i2];exact HC.o k hkl 0 (by omega));have HX1:Hid (wr.cell? ⟨b,o+i.toNat*7+1,none⟩=some (.int .u8 l[k].ow)):=yH (by rw[i2,Nat.add_assoc];exact HC.o k hkl 1 (by omega));have HX2:Hid (wr.cell? ⟨b,o+i.toNat*7+2,none⟩=some (.int .u8 l[k].sl)):=yH (by rw[i2,Nat.add_assoc];exact HC.o k hkl 2 (by omega));have HX3:Hid (wr.cell? ⟨b,o+i.toNat*7+3,none⟩=some (.int .u8 l[k].bu)):=yH (by rw[i2,Nat.add_assoc];exact HC.o k hkl 3 (by omega));have HX4:Hid (wr.cell? ⟨b,o+i.toNat*7+4,none⟩=some (.int .i64 l[k].lf)):=yH (by rw[i2,Nat.add_assoc];exact HC.o k hkl 4 (by omega));have HX5:Hid (wr.cell? ⟨b,o+i.toNat*7+5,none⟩=some (.int .i64 l[k].nu)):=yH (by rw[i2,Nat.add_assoc];exact HC.o k hkl 5 (by omega));have HX6:Hid (wr.cell? ⟨b,o+i.toNat*7+6,none⟩=some (.int .i64 l[k].de)):=yH (by rw[i2,Nat.add_assoc];exact HC.o k hkl 6 (by omega));have HY:Hid (wr.cell? ⟨b,o+(i.toNat - 1)*7,none⟩=some (.int .u64 (l[k - 1]'hkm).se)):=yH (by rw[i3];exact HC.o (k - 1) hkm 0 (by omega));have CM:=yH (fun w'=>omay_any l[k] w');have BD:=yH (fun h=>okO.bad (nx:=nx) hkl h);have NX:=yH (fun h1 h2 h3 hs=>okO.next hkl HO.o h1 h2 h3 hs);clear HC i2 i3 HO
  by_cases hm:l[k].may
  case neg=>
   have HBad:=yH (BD.o (.inl hm));rw[decide_eq_false hm]at CM;clear hm NX BD;generalize l[k]=x at *;go_wp2_with fail;refine bof_f1 (y:=x) HB HX0 HX1 HX2 HX3 HX4 HX5 HX6 i4 i1 h32 CM ?_;intro w6 b6;have B6:=yT B1 b6;clear b6;go_wp2_with fail;refine bodyPost_ret (v:=.tuple #[.pointer none,.int .i64 1]) (by simp[results,Tryz.results69,go_sem]) rfl ?_;exact⟨B6.o,.inr (.inr ⟨rfl,h32,fun h=>HBad.o h.1⟩)⟩
  rw[decide_eq_true hm]at CM
  by_cases hz:l[k].se=0
  ·have HBad:=yH (BD.o (.inr (.inl hz)));have c2:(l[k].se==0)=true:=by simpa using hz
   clear hm NX BD hz;generalize l[k]=x at *;go_wp2_with fail;refine bof_f2 (y:=x) HB HX0 HX1 HX2 HX3 HX4 HX5 HX6 i4 i1 h32 CM c2 ?_;intro w6 b6;have B6:=yT B1 b6;clear b6;go_wp2_with fail;refine bodyPost_ret (v:=.tuple #[.pointer none,.int .i64 1]) (by simp[results,Tryz.results69,go_sem]) rfl ?_;exact⟨B6.o,.inr (.inr ⟨rfl,h32,fun h=>HBad.o h.1⟩)⟩
  have c2:(l[k].se==0)=false:=by simpa using hz
  by_cases hk0:0<k
  ·have s0:decide (0<i)=true:=by rw[decide_eq_true_eq];have:=HIi.o;omega
   have i0:0<i:=by have:=HIi.o;omega
   by_cases hle:l[k].se≤(l[k - 1]'hkm).se
   ·have HBad:=yH (BD.o (.inr (.inr (.inr ⟨hk0,hle⟩))));have c3:decide (l[k].se≤(l[k - 1]'hkm).se)=true:=by simpa using hle
    clear hm NX BD hz hle;generalize l[k]=x at *;generalize l[k - 1]'hkm=y at *;go_wp2_with fail;refine bof_t3 HB HX0 HX1 HX2 HX3 HX4 HX5 HX6 i4 i1 h32 CM c2 s0 HY i0 c3 ?_;intro w6 b6;have B6:=yT B1 b6;clear b6;go_wp2_with fail;refine bodyPost_ret (v:=.tuple #[.pointer none,.int .i64 1]) (by simp[results,Tryz.results69,go_sem]) rfl ?_;exact⟨B6.o,.inr (.inr ⟨rfl,h32,fun h=>HBad.o h.1⟩)⟩
   have c3:decide (l[k].se≤(l[k - 1]'hkm).se)=false:=by simpa using hle
   by_cases hx:nx≤l[k].se
   ·have HBad:=yH (BD.o (.inr (.inr (.inl hx))));have c4:decide (nx≤l[k].se)=true:=by simpa using hx
    clear hm NX BD hz hle hx;generalize l[k]=x at *;generalize l[k - 1]'hkm=y at *;go_wp2_with fail;refine bof_t4 HB HX0 HX1 HX2 HX3 HX4 HX5 HX6 i4 i1 h32 CM c2 s0 HY i0 c3 c4 ?_;intro w6 b6;have B6:=yT B1 b6;clear b6;go_wp2_with fail;refine bodyPost_ret (v:=.tuple #[.pointer none,.int .i64 1]) (by simp[results,Tryz.results69,go_sem]) rfl ?_;exact⟨B6.o,.inr (.inr ⟨rfl,h32,fun h=>HBad.o h.1⟩)⟩
   have c4:decide (nx≤l[k].se)=false:=by simpa using hx
   have HN:=yH (NX.o hm hz (by omega) (fun _=>by omega));have hk1:k+1≤l.length:=hkl;clear hm NX BD hz hle hx;generalize l[k]=x at *;generalize l[k - 1]'hkm=y at *;clear hkl hkm hk;go_wp2_with fail;refine bof_t5 HB HX0 HX1 HX2 HX3 HX4 HX5 HX6 i4 i1 h32 CM c2 s0 HY i0 c3 c4 ?_;intro w6 b6;have B6:=yT B1 b6;clear b6;go_wp2_with fail;go_roundw
   case rel=>exact⟨k+1,hk1,by have:=HIi.o;first|go_num|(congr 1;omega),HN,B6.o⟩
   case measure=>have:=HIi.o;simp[intOf];omega
  have s0:decide (0<i)=false:=by have:=HIi.o;simp;omega
  by_cases hx:nx≤l[k].se
  ·have HBad:=yH (BD.o (.inr (.inr (.inl hx))));have c4:decide (nx≤l[k].se)=true:=by simpa using hx
   clear hm NX BD hz hx;generalize l[k]=x at *;go_wp2_with fail;refine bof_f4 (y:=x) HB HX0 HX1 HX2 HX3 HX4 HX5 HX6 i4 i1 h32 CM c2 s0 c4 ?_;intro w6 b6;have B6:=yT B1 b6;clear b6;go_wp2_with fail;refine bodyPost_ret (v:=.tuple #[.pointer none,.int .i64 1]) (by simp[results,Tryz.results69,go_sem]) rfl ?_;exact⟨B6.o,.inr (.inr ⟨rfl,h32,fun h=>HBad.o h.1⟩)⟩
  have c4:decide (nx≤l[k].se)=false:=by simpa using hx
  have HN:=yH (NX.o hm hz (by omega) (fun h=>absurd h hk0));have hk1:k+1≤l.length:=hkl;clear hm NX BD hz hx;generalize l[k]=x at *;clear hkl hkm hk HY;go_wp2_with fail;refine bof_f5 (y:=x) HB HX0 HX1 HX2 HX3 HX4 HX5 HX6 i4 i1 h32 CM c2 s0 c4 ?_;intro w6 b6;have B6:=yT B1 b6;clear b6;go_wp2_with fail;go_roundw
  case rel=>exact⟨k+1,hk1,by have:=HIi.o;first|go_num|(congr 1;omega),HN,B6.o⟩
  case measure=>have:=HIi.o;simp[intOf];omega
 have HK:Hid (okO nx l):=yH (by have:=HO.o;rwa [List.take_of_length_le (by omega)]at this);clear HO
 by_cases hz:nx=0
 ·have c5:(nx==0)=true:=by simpa using hz
  have HZ:=yH hz;clear hz;go_wp2_with fail;refine bodyPost_ret (v:=.tuple #[.pointer none,.int .i64 1]) (by simp[results,Tryz.results69,go_sem]) rfl ?_;exact⟨B1.o,.inr (.inr ⟨rfl,h32,fun h=>h.2 HZ.o⟩)⟩
 have c5:(nx==0)=false:=by simpa using hz
 obtain⟨v',w2,hrun,how,hbel⟩:=aIs (HP.o.below B1.o) H0.o (by omega) 43;have HOw:=yH how;have HBl:=yH hbel;obtain⟨av,cv,hv,_⟩:=aAh how;subst hv;clear how hbel;go_wp2_with (at_builtin;refine aG2 rfl (.tmp 59) 43 rfl rfl hrun ?_);have B2:=yH (B1.o.trans (HBl.o.mono B1.o.size));have bx:=(Below.refl w2.heap.size w2).alloc yL (.cells #[.slice av l.length cv,.int .u64 nx] 122);refine bodyPost_ret (v:=.tuple #[.pointer (some ⟨w2.heap.size,0,none⟩),.int .i64 0]) (by simp[results,Tryz.results69,go_sem]) rfl ?_;exact⟨B2.o.trans (bx.mono B2.o.size),.inl ⟨h32,HK.o,hz,w2.heap.size,_,rfl,⟨Blk.new _ _ _,B2.o.size,aBo (aAc HOw.o bx) B1.o.size⟩⟩⟩
theorem aJl{P:Program}{w w':World}{o:Oper}{a:Act}{K:Act→World→Prop}{Q:Exit→Act→World→Prop}(y x:Operand)(t:TypeId){u v v':Value}
  (ho:o.op=.call { callee:=.builtin .append,args:=#[y,x],argTypes:=#[t,t] })(hy:a.eval y=u)(hx:a.eval x=v)
  (hr:(Builtin.append_ #[t,t] o.type #[u,v]).run P w=.ok v' w')(h:K (a.put o.dst v') w'):o.wp P a w K Q:=by
 unfold Oper.wp execOp;simp only[ho,resolve,invoke,builtin,Sem.run_bind,Sem.run_pure,Result.andThen_ok,List.map_toArray,List.map_cons,List.map_nil,hy,hx,hr];exact h
def aHh(l:List Of)(x:Of):Int:=if ¬x.may then 1 else if l.length=32∨x.se=18446744073709551615 then 9 else 0
def placeS(l:List Of)(x:Of):Int:=if aHh l x=0 then x.se else 0
def aMa(l:List Of)(x:Of):List Of:=if aHh l x=0 then l++[x]else l
def aJy(l:List Of)(x:Of):Int:=if aHh l x=0 then x.se+1 else x.se
def agO(l:List Of)(sl bu nu de:Int):List Of:=(aHm l bu sl).takeWhile fun x=>decide (cmpR x.nu x.de de nu≤0)
theorem mayB_turn{n d:Int}(h:mayB n d=true):mayB d n=true:=by
 obtain⟨h1,h2,h3,h4,h5⟩:=aIn h;exact decide_eq_true ⟨h2,h1,h4,h3,by rw[Int.gcd_comm];exact h5⟩
theorem cmp_le{a b n d:Int}(h1:mayB a b=true)(h2:mayB n d=true):cmpR a b d n≤0↔a*n≤d*b:=by
 rw[aKx h1 (mayB_turn h2)];unfold cmpI;split
 ·constructor <;> intro <;> omega
 split
 ·constructor <;> intro <;> omega
 constructor <;> intro <;> omega
theorem mem_ag{l:List Of}{N:Int}(h:BInv l N){sl bu nu de:Int}{o:Of}(ho:o∈agO l sl bu nu de):o∈l∧o.sl=bu∧o.bu=sl∧cmpR o.nu o.de de nu≤0:=by
 have h1:=aEg ho;obtain⟨a,b,c⟩:=best_mem h ((List.takeWhile_sublist _).subset ho);exact⟨a,b,c,by simpa using h1⟩
theorem rate_more{k a b nu de:Int}(h1:mayB a b=true)(h2:mayB nu de=true)(hc:cmpR a b de nu≤0)(hk:1≤k):(upN (k*a) b - 1)*nu<k*de:=by
 have q:=(cmp_le h1 h2).1 hc;have d1:=aIn h1;have d2:=aIn h2
 have hu:(upN (k*a) b - 1)*b<k*a:=by
  have e:=Int.emod_add_mul_ediv (k*a) b;have e0:=Int.emod_nonneg (k*a) (show b≠0 by omega);have e1:=Int.emod_lt_of_pos (k*a) (show 0<b by omega);unfold upN;split
  ·rename_i hz;rw[hz]at e;have:(k*a/b - 1)*b=b*(k*a/b) - b:=by rw[Int.sub_mul,Int.mul_comm,Int.one_mul]
   omega
  rename_i hz;have:(k*a/b+1 - 1)*b=b*(k*a/b):=by rw[Int.add_sub_cancel,Int.mul_comm]
  omega
 have s1:(upN (k*a) b - 1)*b*nu<k*a*nu:=Int.mul_lt_mul_of_pos_right hu (by omega);have s2:k*(a*nu)≤k*(de*b):=Int.mul_le_mul_of_nonneg_left q (by omega)
 have s3:((upN (k*a) b - 1)*nu)*b<(k*de)*b:=by
  have e1:((upN (k*a) b - 1)*nu)*b=(upN (k*a) b - 1)*b*nu:=by rw[Int.mul_right_comm]
  have e2:(k*de)*b=k*(de*b):=by rw[Int.mul_assoc]
  have e3:k*a*nu=k*(a*nu):=by rw[Int.mul_assoc]
  rw[e1,e2];omega
 exact Int.lt_of_mul_lt_mul_right s3 (by omega)
noncomputable def aNy(ps:List Int)(ow:Int)(σ:SwS)(s k:Int):SwS:=match aBt σ.l s with
 | none=>σ
 | some o=>⟨aDx ps σ.ls o ow ow k (upN (k*o.nu) o.de),aJj σ.l s k,σ.fs++[⟨s,k,upN (k*o.nu) o.de⟩],σ.n - upN (k*o.nu) o.de⟩
noncomputable def aCy(ps:List Int)(ow sl bu nu de:Int):Nat→SwS→Int×SwS
 | fuel,σ=>if σ.n≤0 then(0,σ)else match aCg ps σ.ls σ.l ow ow 1099511627776 σ.n (agO σ.l sl bu nu de)with
  | none=>(0,σ)
  | some (s,k)=>if σ.fs.length=64 then(13,σ)else match fuel with
   | 0=>(13,σ)
   | f+1=>aCy ps ow sl bu nu de f (aNy ps ow σ s k)
theorem aIt{ps:List Int}{ow sl bu nu de:Int}{fuel:Nat}{σ:SwS}(h:σ.n≤0):aCy ps ow sl bu nu de fuel σ=(0,σ):=by
 cases fuel <;> (unfold aCy;rw[if_pos h])
theorem aIu{ps:List Int}{ow sl bu nu de:Int}{fuel:Nat}{σ:SwS}(h:¬σ.n≤0)(hf:aCg ps σ.ls σ.l ow ow 1099511627776 σ.n (agO σ.l sl bu nu de)=none):aCy ps ow sl bu nu de fuel σ=(0,σ):=by
 cases fuel <;> (unfold aCy;rw[if_neg h,hf])
theorem aF0{ps:List Int}{ow sl bu nu de:Int}{fuel:Nat}{σ:SwS}{s k:Int}(h:¬σ.n≤0)(hf:aCg ps σ.ls σ.l ow ow 1099511627776 σ.n (agO σ.l sl bu nu de)=some (s,k))(hl:σ.fs.length=64):aCy ps ow sl bu nu de fuel σ=(13,σ):=by
 cases fuel <;> (unfold aCy;rw[if_neg h,hf];simp only[];rw[if_pos hl])
theorem aIv{ps:List Int}{ow sl bu nu de:Int}{σ:SwS}{s k:Int}(h:¬σ.n≤0)(hf:aCg ps σ.ls σ.l ow ow 1099511627776 σ.n (agO σ.l sl bu nu de)=some (s,k)):aCy ps ow sl bu nu de 0 σ=(13,σ):=by
 by_cases hl:σ.fs.length=64
 ·exact aF0 h hf hl
 unfold aCy;rw[if_neg h,hf];simp only[];rw[if_neg hl]
theorem aIw{ps:List Int}{ow sl bu nu de:Int}{fuel:Nat}{σ:SwS}{s k:Int}(h:¬σ.n≤0)(hf:aCg ps σ.ls σ.l ow ow 1099511627776 σ.n (agO σ.l sl bu nu de)=some (s,k))(hl:¬σ.fs.length=64):aCy ps ow sl bu nu de (fuel+1) σ=aCy ps ow sl bu nu de fuel (aNy ps ow σ s k):=by
 conv=>lhs;unfold aCy
 rw[if_neg h,hf];simp only[];rw[if_neg hl]
noncomputable def placeEnd(N ow sl bu nu de:Int)(r:Int×SwS):Int×SwS×Int×Int:=
 if r.1≠0 then(r.1,r.2,N,0)else if r.2.n≤0 then(0,r.2,N,0)else
  (aHh r.2.l ⟨N,ow,sl,bu,r.2.n,nu,de⟩,⟨r.2.ls,aMa r.2.l ⟨N,ow,sl,bu,r.2.n,nu,de⟩,r.2.fs,r.2.n⟩,aJy r.2.l ⟨N,ow,sl,bu,r.2.n,nu,de⟩,placeS r.2.l ⟨N,ow,sl,bu,r.2.n,nu,de⟩)
noncomputable def aE0(ps:List Int)(ls:List Ln)(l:List Of)(N ow sl bu lf nu de:Int):Int×SwS×Int×Int:=
 if ¬(Of.mk 0 ow sl bu lf nu de).may then(1,⟨ls,l,[],lf⟩,N,0)else if ow∉ps then(7,⟨ls,l,[],lf⟩,N,0)else
  placeEnd N ow sl bu nu de (aCy ps ow sl bu nu de 64 ⟨ls,l,[],lf⟩)
structure aHo(ps:List Int)(ls0:List Ln)(l0:List Of)(N ow sl bu nu de n0:Int)(σ:SwS):Prop where
 linv:LInv ps σ.ls
 binv:BInv σ.l N
 lim:limL σ.ls=limL ls0
 like:∀s o,aBt σ.l s=some o→∃y,aBt l0 s=some y∧likeO y o
 fs:∀f∈σ.fs,∃o,aBt l0 f.se=some o∧o.sl=bu∧o.bu=sl∧o.ow≠ow∧o.ow∈ps∧cmpR o.nu o.de de nu≤0∧(1≤f.got∧f.got≤1099511627776)∧(1≤f.gi∧f.gi≤1099511627776)∧f.gi=upN (f.got*o.nu) o.de∧mayB o.nu o.de=true
 sum:(σ.fs.map Fl.gi).sum+σ.n=n0
 nn:0≤σ.n
 len:σ.fs.length≤64
 pos:∀p c,posL σ.ls p c=posL ls0 p c+(σ.fs.map fun f=>flBy l0 ow ow f p c).sum
theorem aHo.start{ps:List Int}{ls0:List Ln}{l0:List Of}{N ow sl bu nu de n0:Int}(hI:LInv ps ls0)(hJ:BInv l0 N)(hn:0≤n0):aHo ps ls0 l0 N ow sl bu nu de n0 ⟨ls0,l0,[],n0⟩:=
 ⟨hI,hJ,rfl,fun s o h=>⟨o,h,rfl,rfl,rfl,rfl,rfl⟩,fun f hf=>(by cases hf),(by simp),hn,(by simp),fun p c=>(by simp)⟩
theorem aHo.step{ps:List Int}{ls0:List Ln}{l0:List Of}{N ow sl bu nu de n0:Int}{σ:SwS}(h:aHo ps ls0 l0 N ow sl bu nu de n0 σ){s k:Int}(hf:aCg ps σ.ls σ.l ow ow 1099511627776 σ.n (agO σ.l sl bu nu de)=some (s,k)):
  1≤k∧k≤1099511627776∧okS ps σ.ls σ.l ow ow k s∧∃o,aBt σ.l s=some o∧o∈agO σ.l sl bu nu de∧k≤o.lf∧1≤upN (k*o.nu) o.de∧upN (k*o.nu) o.de≤σ.n∧
   aNy ps ow σ s k=⟨aDx ps σ.ls o ow ow k (upN (k*o.nu) o.de),aJj σ.l s k,σ.fs++[⟨s,k,upN (k*o.nu) o.de⟩],σ.n - upN (k*o.nu) o.de⟩∧
   (¬σ.fs.length=64→aHo ps ls0 l0 N ow sl bu nu de n0 (aNy ps ow σ s k)):=by
 obtain⟨h1,h2,o,h3,rfl⟩:=aFz hf;obtain⟨hm,hsl,hbu,hcm⟩:=mem_ag h.binv h3;have hfo:=aG1 h.binv hm;obtain⟨ok,hle⟩:=may_okS h.linv h2 (by omega);have hG:=goesS h.linv o ow ow;have hG':∀o',aBt σ.l o.se=some o'→Goes ps σ.ls o' ow ow (aGg ps σ.ls o.sl o.ow ow) (aGg ps σ.ls o.bu ow o.ow):=fun o' ho'=>by rw[hfo]at ho';cases ho';exact hG
 have hd:=(aNx h.linv hG').2 ok;obtain⟨o',ho',⟨k1,k2,k3,k4⟩,k5,_,_⟩:=hd.facts;rw[hfo]at ho'
 cases ho'
 obtain⟨f1,f2,f3,f4,f5⟩:=aHg h.linv h.binv hfo hG hd rfl (aG0 h.linv o ow ow k (upN (k*o.nu) o.de));obtain⟨_,_,_,_,⟨l1,l2⟩,hmr⟩:=h.binv.may o hm;obtain⟨y,hy,y1,y2,y3,y4,y5⟩:=h.like o.se o hfo
 -- what is given is no more than what is left
 have hb1:=mostS_bd h.linv o.sl o.ow ow;have hb2:=mostS_bd h.linv o.bu ow o.ow;have hmd:=may_do hb1.1 hb2.1 (by rw[aNw h.linv hG'];exact h2.symm) (show 1≤k by omega);obtain⟨_,_,hn1,o2,ho2,hfit⟩:=hmd;rw[hfo]at ho2
 cases ho2
 have hup:=(up_fits hmr (g:=min (min σ.n 1099511627776) (aGg ps σ.ls o.bu ow o.ow)) (by omega) (by omega) (show 0≤k by omega) hfit).2.2
 have e:aNy ps ow σ o.se k=⟨aDx ps σ.ls o ow ow k (upN (k*o.nu) o.de),aJj σ.l o.se k,σ.fs++[⟨o.se,k,upN (k*o.nu) o.de⟩],σ.n - upN (k*o.nu) o.de⟩:=by
  unfold aNy;rw[hfo]
 refine⟨by omega,hle,ok,o,hfo,h3,k5,f3,by omega,e,fun hl=>?_⟩;rw[e];refine⟨aIr h.linv _ _ _ _ _,h.binv.take _ _,f1.symm.trans h.lim,fun t x hx=>?_,fun f hf=>?_,?_,?_,?_,fun p c=>?_⟩
 ·obtain⟨z,hz,z1,z2,z3,z4,z5⟩:=aL9 h.binv hfo (by omega) k5 hx;obtain⟨v,hv,v1,v2,v3,v4,v5⟩:=h.like t z hz;exact⟨v,hv,v1.trans z1,v2.trans z2,v3.trans z3,v4.trans z4,v5.trans z5⟩
 ·rcases List.mem_append.1 hf with hf|hf
  ·exact h.fs f hf
  rw[List.mem_singleton]at hf;subst hf;exact⟨y,hy,by rw[y2,hsl],by rw[y3,hbu],by rw[y1];exact k1,by rw[y1];exact k2,by rw[y4,y5];exact hcm,⟨by show 1≤k;omega,by show k≤1099511627776;omega⟩,⟨f3,f4⟩,by rw[y4,y5],by rw[y4,y5];exact hmr⟩
 ·have:=h.sum;simp only[List.map_append,List.map_cons,List.map_nil,List.sum_append,List.sum_cons,List.sum_nil];omega
 ·show 0≤σ.n - upN (k*o.nu) o.de;omega
 ·have:=h.len;rw[List.length_append,List.length_singleton];omega
 show posL (aDx ps σ.ls o ow ow k (upN (k*o.nu) o.de)) p c=_;rw[f2 p c,h.pos p c];simp only[List.map_append,List.map_cons,List.map_nil,List.sum_append,List.sum_cons,List.sum_nil]
 have e2:flBy l0 ow ow ⟨o.se,k,upN (k*o.nu) o.de⟩ p c=aIp o ow ow k (upN (k*o.nu) o.de) p c:=by
  unfold flBy;simp only[hy];unfold aIp;rw[y1,y2,y3]
 rw[e2];omega
theorem aJz{ps:List Int}{ow sl bu nu de:Int}(C:SwS→Prop)(hs:∀σ s k,C σ→¬σ.n≤0→aCg ps σ.ls σ.l ow ow 1099511627776 σ.n (agO σ.l sl bu nu de)=some (s,k)→¬σ.fs.length=64→C (aNy ps ow σ s k)):∀(fuel:Nat) {σ:SwS},C σ→C (aCy ps ow sl bu nu de fuel σ).2
 | fuel,σ,h=>by
  by_cases hn:σ.n≤0
  ·rw[aIt hn];exact h
  cases hf:aCg ps σ.ls σ.l ow ow 1099511627776 σ.n (agO σ.l sl bu nu de)with
  | none=>rw[aIu hn hf];exact h
  | some sk=>
   obtain⟨s,k⟩:=sk
   by_cases hl:σ.fs.length=64
   ·rw[aF0 hn hf hl];exact h
   cases fuel with
   | zero=>rw[aIv hn hf];exact h
   | succ fuel=>rw[aIw hn hf hl];exact aJz C hs fuel (hs σ s k h hn hf hl)
theorem aHo.ends{ps:List Int}{ls0:List Ln}{l0:List Of}{N ow sl bu nu de n0:Int}(fuel:Nat){σ:SwS}(h:aHo ps ls0 l0 N ow sl bu nu de n0 σ):aHo ps ls0 l0 N ow sl bu nu de n0 (aCy ps ow sl bu nu de fuel σ).2:=by
 refine aJz (fun σ=>aHo ps ls0 l0 N ow sl bu nu de n0 σ) (fun σ s k hc hn hf hl=>?_) fuel h;obtain⟨_,_,_,_,_,_,_,_,_,_,q⟩:=hc.step hf;exact q hl
theorem aMb{ps:List Int}{ow sl bu nu de:Int}:∀(fuel:Nat) {σ σ':SwS},aCy ps ow sl bu nu de fuel σ=(0,σ')→σ'.n≤0∨aCg ps σ'.ls σ'.l ow ow 1099511627776 σ'.n (agO σ'.l sl bu nu de)=none
 | fuel,σ,σ',h=>by
  by_cases hn:σ.n≤0
  ·rw[aIt hn]at h;obtain rfl:=(Prod.mk.inj h).2;exact .inl hn
  cases hf:aCg ps σ.ls σ.l ow ow 1099511627776 σ.n (agO σ.l sl bu nu de)with
  | none=>
   rw[aIu hn hf]at h;obtain rfl:=(Prod.mk.inj h).2;exact .inr hf
  | some sk=>
   obtain⟨s,k⟩:=sk
   by_cases hl:σ.fs.length=64
   ·rw[aF0 hn hf hl]at h;exact absurd (Prod.mk.inj h).1 (by decide)
   cases fuel with
   | zero=>rw[aIv hn hf]at h;exact absurd (Prod.mk.inj h).1 (by decide)
   | succ fuel=>rw[aIw hn hf hl]at h;exact aMb fuel h
structure aMc(ps:List Int)(ls:List Ln)(l:List Of)(N ow sl bu lf nu de:Int)(σ:SwS)(N' sq:Int)(τ:SwS):Prop where
 may:(Of.mk 0 ow sl bu lf nu de).may
 part:ow∈ps
 inv:aHo ps ls l N ow sl bu nu de lf τ
 is:aCy ps ow sl bu nu de 64 ⟨ls,l,[],lf⟩=(0,τ)
 ends:(τ.n=0∧σ=τ∧N'=N∧sq=0)∨(1≤τ.n∧aCg ps τ.ls τ.l ow ow 1099511627776 τ.n (agO τ.l sl bu nu de)=none∧aHh τ.l ⟨N,ow,sl,bu,τ.n,nu,de⟩=0∧σ=⟨τ.ls,τ.l++[⟨N,ow,sl,bu,τ.n,nu,de⟩],τ.fs,τ.n⟩∧N'=N+1∧sq=N)
theorem aNz{ps:List Int}{ls:List Ln}{l:List Of}{N ow sl bu lf nu de:Int}{σ:SwS}{N' sq:Int}(hI:LInv ps ls)(hJ:BInv l N)(h:aE0 ps ls l N ow sl bu lf nu de=(0,σ,N',sq)):∃τ,aMc ps ls l N ow sl bu lf nu de σ N' sq τ:=by
 unfold aE0 at h
 by_cases hm:(Of.mk 0 ow sl bu lf nu de).may
 ·rw[if_neg (fun q=>q hm)]at h
  by_cases hp:ow∉ps
  ·rw[if_pos hp]at h;exact absurd (congrArg Prod.fst h) (by show ¬(7:Int)=0;decide)
  rw[if_neg hp]at h;obtain⟨r,hr⟩:∃r,aCy ps ow sl bu nu de 64 ⟨ls,l,[],lf⟩=r:=⟨_,rfl⟩;obtain⟨e,τ⟩:=r;have hinv:=aHo.ends (ow:=ow) (sl:=sl) (bu:=bu) (nu:=nu) (de:=de) 64 (aHo.start hI hJ (ow:=ow) (sl:=sl) (bu:=bu) (nu:=nu) (de:=de) (n0:=lf) (by have:=hm.2.2.2.2.1.1;show 0≤lf;exact Int.le_trans (by decide) this));rw[hr]at h hinv;unfold placeEnd at h
  by_cases he:e=0
  ·subst he;rw[if_neg (by simp)]at h;refine⟨τ,hm,Decidable.not_not.1 hp,hinv,hr,?_⟩;have hnn:=hinv.nn
   by_cases hz:τ.n≤0
   ·rw[if_pos hz]at h;obtain⟨_,h2⟩:=Prod.mk.inj h;obtain⟨h3,h4⟩:=Prod.mk.inj h2;obtain⟨h5,h6⟩:=Prod.mk.inj h4;exact .inl ⟨by show τ.n=0;have q:0≤τ.n:=hnn;omega,h3.symm,h5.symm,h6.symm⟩
   rw[if_neg hz]at h;obtain⟨h1,h2⟩:=Prod.mk.inj h;obtain⟨h3,h4⟩:=Prod.mk.inj h2;obtain⟨h5,h6⟩:=Prod.mk.inj h4;have h1':aHh τ.l ⟨N,ow,sl,bu,τ.n,nu,de⟩=0:=h1;rcases aMb 64 hr with q|q
   ·exact absurd q hz
   refine .inr ⟨by omega,q,h1',?_,?_,?_⟩
   ·rw[←h3];show _=_;simp only[aMa,h1',if_true]
   ·rw[←h5];show aJy τ.l _=_;unfold aJy;rw[if_pos h1']
   rw[←h6];show placeS τ.l _=_;unfold placeS;rw[if_pos h1']
  rw[if_pos (by simpa using he)]at h;exact absurd (congrArg Prod.fst h) (by simpa using he)
 rw[if_pos hm]at h;exact absurd (congrArg Prod.fst h) (by show ¬(1:Int)=0;decide)
theorem aMc.rate{ps:List Int}{ls:List Ln}{l:List Of}{N ow sl bu lf nu de:Int}{σ:SwS}{N' sq:Int}{τ:SwS}(h:aMc ps ls l N ow sl bu lf nu de σ N' sq τ){f:Fl}(hf:f∈τ.fs):(f.gi - 1)*nu<f.got*de:=by
 obtain⟨o,_,_,_,_,_,hc,⟨g1,_⟩,_,e,hm⟩:=h.inv.fs f hf;rw[e];exact rate_more hm h.may.2.2.2.2.2 hc g1
theorem aIx{P:Program}{ops:Array Oper}{o:Oper}{a:Act}{w:World}{K:Act→World→Prop}{Q:Exit→Act→World→Prop}{E:Prop}
  (hg:o.guard=none)(s x:Operand)(t:TypeId)(hop:o.op=Op.call { callee:=Callee.builtin Builtin.append,args:=#[s,x],argTypes:=#[t,t] })
  (base:Nat)(e:TypeId){z:Value}(ht:P.underlying t=some (.slice e))(hz0:z.cells.size=7)(hi:(P.info? e).map (fun i=>(i.zero,i.size,i.bytes))=some (some z,7,40))(v:Value)(l:List Of)(hs:a.eval s=v)(hown:w.ownsRow base e 7 v l.length (aAe l))
  (g c:Nat)(y:Of)(hx:a.eval x=.slice (some ⟨g,0,none⟩) 1 c)(hy:Blk w g #[.int .u64 y.se,.int .u8 y.ow,.int .u8 y.sl,.int .u8 y.bu,.int .i64 y.lf,.int .i64 y.nu,.int .i64 y.de] e)(hlen:l.length≤100000)(hbase:base≤w.heap.size)
  (hK:∀v' w',w'.ownsRow base e 7 v' (l++[y]).length (aAe (l++[y]))→w.grownBy w' v.ownBlock→(v'.ownBlock=v.ownBlock∨v'.ownBlock=some w.heap.size)→K (a.put o.dst v') w'):
  if Region.wanted o (yielded ops a.tmps)=true then Oper.wp P o a w K Q else E:=by
 have hw:Region.wanted o (yielded ops a.tmps)=true:=by simp[Region.wanted,hg]
 rw[if_pos hw];obtain⟨i0,hi1,hi2,hi3,hi4⟩:=info_parts hi
 obtain⟨v',w',hr,h2,h3,_,h5⟩:=run_append_own_at (P:=P) w base t o.type e i0 z 7 40 ht hi1 hi2 hi3 hi4 hz0 (by decide) v l.length (aAe l) hown ⟨g,0,none⟩ 1 c y.vals rfl (fun j u hj=>by
   have:=hy.cell j;rw[Go.WideShapes.add_plain,Nat.zero_add,this]
   match j,hj with
   | 0,hj=>simpa [Of.vals]using hj
   | 1,hj=>simpa [Of.vals]using hj
   | 2,hj=>simpa [Of.vals]using hj
   | 3,hj=>simpa [Of.vals]using hj
   | 4,hj=>simpa [Of.vals]using hj
   | 5,hj=>simpa [Of.vals]using hj
   | 6,hj=>simpa [Of.vals]using hj
   | j+7,hj=>simp[Of.vals]at hj) (by intro u hu;simp[Of.vals]at hu;rcases hu with rfl|rfl|rfl|rfl|rfl|rfl|rfl <;> rfl) (by unfold maxLen;omega) (by omega) hbase
 rw[←aIh,←aFl]at h2;refine aJl s x t hop hs hx hr ?_;exact hK v' w' (by rw[List.length_append];exact h2) h3 h5
theorem BInv.place{l:List Of}{x:Of}(h:BInv l x.se):BInv (aMa l x) (aJy l x):=by
 unfold aMa aJy
 by_cases e:aHh l x=0
 ·rw[if_pos e,if_pos e];unfold aHh at e;split at e
  ·simp at e
  rename_i hm;have hm:=Decidable.not_not.1 hm;split at e
  ·simp at e
  rename_i h2;have:=h.len;have:=h.n1;have:=h.n2;have hl:l.length≠32:=fun k=>h2 (.inl k)
  have hs:x.se≠18446744073709551615:=fun k=>h2 (.inr k)
  refine⟨fun y hy=>?_,?_,fun y hy=>?_,by rw[List.length_append,List.length_singleton];omega,by omega,by omega⟩
  ·rcases List.mem_append.1 hy with hy|hy
   ·exact h.may y hy
   rw[List.mem_singleton]at hy;rw[hy];exact hm
  ·rw[List.pairwise_append];refine⟨h.rise,by simp,fun a ha b hb=>?_⟩;rw[List.mem_singleton]at hb;rw[hb];exact(h.bd a ha).2
  rcases List.mem_append.1 hy with hy|hy
  ·have:=h.bd y hy;omega
  rw[List.mem_singleton]at hy;rw[hy];omega
 rw[if_neg e,if_neg e];exact h
theorem appended{W w':World}{base g cap:Nat}{ao:Option Addr}{l:List Of}{x:Of}{N:Int}{c:Obj}{v':Value}(h:PB W base g l N (.slice ao l.length cap))(ho:w'.ownsRow base 197 7 v' (l++[x]).length (aAe (l++[x])))
  (hgr:(W.drew.alloc c).grownBy w' (Value.ownBlock (.slice ao l.length cap)))(hat:v'.ownBlock=Value.ownBlock (.slice ao l.length cap)∨v'.ownBlock=some (W.drew.alloc c).heap.size):
  Blk w' g #[.slice ao l.length cap,.int .u64 N] 158∧(PB (w'.setCell ⟨g,0,none⟩ v') base g (l++[x]) N v'∧(Keep (Foot g (.slice ao l.length cap)) W (w'.setCell ⟨g,0,none⟩ v')∧Moved W (.slice ao l.length cap) v')∧
   ∀{a:Nat} {cs:Array Value} {t:TypeId},Blk W a cs t→(¬Foot g (.slice ao l.length cap) a)→Blk (w'.setCell ⟨g,0,none⟩ v') a cs t):=by
 have hB:Blk w' g #[.slice ao l.length cap,.int .u64 N] 158:=Blk.grown ((h.blk.drew).alloc _) hgr (fun e=>(h.apart _ e) rfl);have k2:Keep (·=g) w' (w'.setCell ⟨g,0,none⟩ v'):=Keep.setCell (S:=(·=g)) (Keep.refl _ _) (p:=⟨g,0,none⟩) (.inl rfl) _;have k1:Keep (Foot g (.slice ao l.length cap)) W w':=((Keep.refl _ W).drew.alloc _).grown hgr (fun k hk=>.inl (.inr hk));have hgl:=h.blk.lt;have k3:=k1.trans (k2.mono fun k _ hk=>.inl hk);refine⟨hB,⟨by simpa using hB.set 0 v',h.ge,aAw ho k2 ?_⟩,⟨k3,?_⟩,fun ha hf=>ha.keep k3 hf⟩
 ·intro b hb e;rcases hat with q|q
  ·rw[hb]at q;exact h.apart b q.symm e
  rw[hb]at q;cases q;rw[←e]at hgl;simp at hgl;omega
 intro b hb;rcases hat with q|q
 ·exact .inl (by rw[←q];exact hb)
 rw[hb]at q;cases q;exact .inr (by simp)
theorem aMc.next{ps:List Int}{ls:List Ln}{l:List Of}{N ow sl bu lf nu de:Int}{σ:SwS}{N' sq:Int}{τ:SwS}(h:aMc ps ls l N ow sl bu lf nu de σ N' sq τ):LInv ps σ.ls∧BInv σ.l N'∧σ.fs=τ.fs:=by
 rcases h.ends with⟨_,rfl,rfl,_⟩|⟨_,_,e,rfl,rfl,_⟩
 ·exact⟨h.inv.linv,h.inv.binv,rfl⟩
 refine⟨h.inv.linv,?_,rfl⟩;have q:=BInv.place (l:=τ.l) (x:=⟨N,ow,sl,bu,τ.n,nu,de⟩) h.inv.binv;unfold aMa aJy at q;rw[if_pos e,if_pos e]at q;exact q
def noneF:Int→Int→Int:=fun _ _=>1048576
def costE(c:Int→Int→Int)(e:Ed):Int→Int→Int:=if okEd e then updE c e.fr e.tt (min (c e.fr e.tt) e.co)else c
structure aGh(es pre:List Ed)(c:Int→Int→Int):Prop where
 is:∀a b,c a b=1048576∨∃e∈es,okEd e∧e.fr=a∧e.tt=b∧c a b=e.co
 le:∀e∈pre,okEd e→c e.fr e.tt≤e.co
theorem aGh.init(es:List Ed):aGh es [] noneF:=⟨fun _ _=>.inl rfl,by simp⟩
theorem aMd(c:Int→Int→Int)(a b n:Int):updE c a b n a b=n:=by unfold updE;rw[if_pos ⟨rfl,rfl⟩]
theorem aGh.step{es pre:List Ed}{c:Int→Int→Int}{e:Ed}(h:aGh es pre c)(he:e∈es):aGh es (pre++[e]) (costE c e):=by
 unfold costE;split
 ·rename_i ho;refine⟨fun a b=>?_,fun d hd hod=>?_⟩
  ·by_cases hab:a=e.fr∧b=e.tt
   ·obtain⟨rfl,rfl⟩:=hab;rw[aMd]
    by_cases hc:c e.fr e.tt≤e.co
    ·rw[Int.min_eq_left hc];exact h.is _ _
    rw[Int.min_eq_right (by omega)];exact .inr ⟨e,he,ho,rfl,rfl,rfl⟩
   unfold updE;rw[if_neg hab];exact h.is a b
  by_cases hde:d.fr=e.fr∧d.tt=e.tt
  ·rw[hde.1,hde.2,aMd];rcases List.mem_append.1 hd with hd|hd
   ·have:=h.le d hd hod;rw[hde.1,hde.2]at this;omega
   rw[List.mem_singleton]at hd;subst hd;omega
  unfold updE;rw[if_neg hde];rcases List.mem_append.1 hd with hd|hd
  ·exact h.le d hd hod
  rw[List.mem_singleton]at hd;subst hd;exact absurd ⟨rfl,rfl⟩ hde
 rename_i ho;refine⟨h.is,fun d hd hod=>?_⟩;rcases List.mem_append.1 hd with hd|hd
 ·exact h.le d hd hod
 rw[List.mem_singleton]at hd;subst hd;exact absurd hod ho
theorem aGh.bd{es pre:List Ed}{c:Int→Int→Int}(h:aGh es pre c)(hco:∀e∈es,-128≤e.co∧e.co≤127)(a b:Int):-128≤c a b∧c a b≤1048576:=by
 rcases h.is a b with hc|⟨e,he,_,_,_,hc⟩
 ·omega
 have:=hco e he;omega
def sumU(c:Int→Int→Int)(u:Nat→Int):Nat→Int
 | 0=>0
 | n+1=>sumU c u n+c (u n) (u (n+1))
structure aHi(c:Int→Int→Int)(L:List Int)(K:Nat)(u:Nat→Int):Prop where
 k1:1≤K
 k16:K≤16
 len:L.length=K
 at_:∀i,i<K→L[i]? = some (u i)
 back:u K=u 0
 ends:∀i,inP (u i)
 least:∀i,u 0≤u i
 apart:∀k i,k<i→i<K→u k≠u i
 cost:∀i,i<K → -128≤c (u i) (u (i+1))∧c (u i) (u (i+1))≤127
 all:sumU c u K<0
theorem aN0{es:List Ed}{c:Int→Int→Int}(hC:aGh es es c)(hco:∀e∈es,-128≤e.co∧e.co≤127)(h:aG9 es≠[]):∃K u,aHi c (aG9 es) K u:=by
 obtain⟨K,l,_,_,_,hR,he⟩:=aM0 h;have hk1:=hR.k1;rw[he];generalize aB9 es 16=s at *
 have hu:∀i,i<K→itr s.ahd (K - i) l=s.ahd (itr s.ahd (K - (i+1)) l):=fun i hi=>by
  rw[show K - i=(K - (i+1))+1 by omega,aCr]
 have hcost:∀i,i<K→c (itr s.ahd (K - i) l) (itr s.ahd (K - (i+1)) l)≤s.w (itr s.ahd (K - (i+1)) l) ∧ -128≤c (itr s.ahd (K - i) l) (itr s.ahd (K - (i+1)) l)∧c (itr s.ahd (K - i) l) (itr s.ahd (K - (i+1)) l)≤127:=fun i hi=>by
  obtain⟨e,hm,e1,e2,e3⟩:=hR.edge (K - (i+1));rw[show K - (i+1)+1=K - i by omega]at e1;have hok:okEd e:=⟨by rw[e1];exact hR.ends _,by rw[e2];exact hR.ends _⟩;have h1:=hC.le e hm hok;have h2:=hco e hm;rw[e1,e2]at h1;have h3:=hC.bd hco (itr s.ahd (K - i) l) (itr s.ahd (K - (i+1)) l);rw[←e3];omega
 refine⟨K,fun i=>itr s.ahd (K - i) l,hk1,hR.k16,by rw[backL_len];omega,fun i hi=>?_,?_,fun i=>hR.ends _,fun i=>?_,fun k i hki hi=>?_,fun i hi=>(hcost i hi).2,?_⟩
 ·rw[backL_get (by rw[show K - 1+1=K by omega];exact hR.back) (by omega)];rw[show K - 1+1 - i=K - i by omega]
 ·show itr s.ahd (K - K) l=itr s.ahd (K - 0) l;rw[Nat.sub_self,Nat.sub_zero,hR.back];rfl
 ·show itr s.ahd (K - 0) l≤_;rw[Nat.sub_zero,hR.back];exact hR.least _
 ·exact fun hh=>itr_inj hR.back hR.apart (i:=K - i) (k:=K - k) (by omega) (by omega) (by omega) hh.symm
 have key:∀n,n≤K→sumU c (fun i=>itr s.ahd (K - i) l) n+sumI s.ahd s.w (K - n) l≤sumI s.ahd s.w K l:=by
  intro n
  induction n with
  | zero=>intro _;simp[sumU]
  | succ n ih=>
   intro hn;have h1:=ih (by omega);have h2:=(hcost n (by omega)).1;have h3:=aF9 s.ahd s.w (K - (n+1)) 1 l;rw[show K - (n+1)+1=K - n by omega]at h3;have h4:sumI s.ahd s.w 1 (itr s.ahd (K - (n+1)) l)=s.w (itr s.ahd (K - (n+1)) l):=by simp[sumI]
   show(sumU c (fun i=>itr s.ahd (K - i) l) n+c (itr s.ahd (K - n) l) (itr s.ahd (K - (n+1)) l))+_≤_;omega
 have h1:=key K yL;rw[Nat.sub_self]at h1;have h2:=hR.cost;have h3:sumI s.ahd s.w 0 l=0:=rfl;omega
end Go.Proofs.YtngnfdnfpiiclaaGreat
