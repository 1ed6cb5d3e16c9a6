/- Pieces of one proof. -/
import Derived.Test.YtaeocliklpcgmaaGreatB18
import Derived.Laws.EntriesVeiled
import Derived.Shelf.Abstract
set_option linter.all false
set_option maxHeartbeats 64000000
set_option maxRecDepth 100000
namespace Go.Proofs.YtaeocliklpcgmaaGreat
open Go.RowKit
def agO(l:List Of)(sl bu nu de:Int):List Of:=(aC6 l bu sl).takeWhile fun x=>decide (cmpR x.nu x.de de nu≤0)
theorem mayB_turn{n d:Int}(h:mayB n d=true):mayB d n=true:=by
 obtain⟨h1,h2,h3,h4,h5⟩:=aCe h;exact decide_eq_true ⟨h2,h1,h4,h3,by rw[Int.gcd_comm];exact h5⟩
theorem cmp_le{a b n d:Int}(h1:mayB a b=true)(h2:mayB n d=true):cmpR a b d n≤0↔a*n≤d*b:=by
 rw[aIb h1 (mayB_turn h2)];unfold cmpI;split
 ·constructor <;> intro <;> omega
 split
 ·constructor <;> intro <;> omega
 constructor <;> intro <;> omega
theorem mem_ag{l:List Of}{N:Int}(h:BInv l N){sl bu nu de:Int}{o:Of}(ho:o∈agO l sl bu nu de):o∈l∧o.sl=bu∧o.bu=sl∧cmpR o.nu o.de de nu≤0:=by
 have h1:=aEs ho;obtain⟨a,b,c⟩:=aD4 h ((List.takeWhile_sublist _).subset ho);exact⟨a,b,c,by simpa using h1⟩
theorem aGt{p:Of→Bool}{R:Of→Of→Prop}(hp:∀x y,R x y→p y=true→p x=true):∀{l:List Of},l.Pairwise R→∀{x:Of},x∈l→p x=true→x∈l.takeWhile p
 | [],_,x,hx,_=>by cases hx
 | z::l,hl,x,hx,h=>by
  obtain⟨h1,h2⟩:=List.pairwise_cons.1 hl;rcases List.mem_cons.1 hx with rfl|hx
  ·rw[List.takeWhile_cons,if_pos h];exact List.mem_cons_self
  rw[List.takeWhile_cons,if_pos (hp z x (h1 x hx) h)];exact List.mem_cons_of_mem _ (aGt hp h2 hx h)
theorem ag_all{l:List Of}{N:Int}(h:BInv l N){sl bu nu de:Int}(hm:mayB nu de=true){o:Of}(ho:o∈aC6 l bu sl)(hc:cmpR o.nu o.de de nu≤0):o∈agO l sl bu nu de:=by
 have hs:=(aLc h.may h.rise bu sl).2
 have hs2:(aC6 l bu sl).Pairwise fun x y=>(x.may∧y.may)∧ltO x y:=by
  have hall:∀x∈aC6 l bu sl,x.may:=fun x hx=>h.may x (aD4 h hx).1
  revert hs hall
  generalize aC6 l bu sl=m;intro hs hall
  induction m with
  | nil=>exact List.Pairwise.nil
  | cons z m ih=>
   obtain⟨a,b⟩:=List.pairwise_cons.1 hs;exact List.pairwise_cons.2 ⟨fun y hy=>⟨⟨hall z List.mem_cons_self,hall y (List.mem_cons_of_mem _ hy)⟩,a y hy⟩,ih b fun y hy=>hall y (List.mem_cons_of_mem _ hy)⟩
 refine aGt (R:=fun x y=>(x.may∧y.may)∧ltO x y) (fun x y hxy hy=>?_) hs2 ho (by simpa using hc);obtain⟨⟨hx,hy'⟩,hlt⟩:=hxy;have hy2:cmpR y.nu y.de de nu≤0:=by simpa using hy
 have q1:=(cmp_le hy'.2.2.2.2.2 hm).1 hy2;have q2:x.nu*y.de≤y.nu*x.de:=by unfold ltO at hlt;omega
 have d1:=aCe hm;have d2:=aCe hy'.2.2.2.2.2;have d3:=aCe hx.2.2.2.2.2
 have q3:x.nu*nu≤de*x.de:=by
  have a1:x.nu*y.de*nu≤y.nu*x.de*nu:=Int.mul_le_mul_of_nonneg_right q2 (by omega);have a2:y.nu*nu*x.de≤de*y.de*x.de:=Int.mul_le_mul_of_nonneg_right q1 (by omega)
  have a3:(x.nu*nu)*y.de≤(de*x.de)*y.de:=by
   have e1:(x.nu*nu)*y.de=x.nu*y.de*nu:=by rw[Int.mul_right_comm]
   have e2:(de*x.de)*y.de=de*y.de*x.de:=by rw[Int.mul_right_comm]
   have e3:y.nu*x.de*nu=y.nu*nu*x.de:=by rw[Int.mul_right_comm]
   rw[e1,e2];omega
  exact Int.le_of_mul_le_mul_right a3 (by omega)
 simpa using(cmp_le hx.2.2.2.2.2 hm).2 q3
theorem rate_more{k a b nu de:Int}(h1:mayB a b=true)(h2:mayB nu de=true)(hc:cmpR a b de nu≤0)(hk:1≤k):(upN (k*a) b - 1)*nu<k*de:=by
 have q:=(cmp_le h1 h2).1 hc;have d1:=aCe h1;have d2:=aCe h2
 have hu:(upN (k*a) b - 1)*b<k*a:=by
  have e:=Int.emod_add_mul_ediv (k*a) b;have e0:=Int.emod_nonneg (k*a) (show b≠0 by omega);have e1:=Int.emod_lt_of_pos (k*a) (show 0<b by omega);unfold upN;split
  ·rename_i hz;rw[hz]at e;have:(k*a/b - 1)*b=b*(k*a/b) - b:=by rw[Int.sub_mul,Int.mul_comm,Int.one_mul]
   omega
  rename_i hz;have:(k*a/b+1 - 1)*b=b*(k*a/b):=by rw[Int.add_sub_cancel,Int.mul_comm]
  omega
 have s1:(upN (k*a) b - 1)*b*nu<k*a*nu:=Int.mul_lt_mul_of_pos_right hu (by omega);have s2:k*(a*nu)≤k*(de*b):=Int.mul_le_mul_of_nonneg_left q (by omega)
 have s3:((upN (k*a) b - 1)*nu)*b<(k*de)*b:=by
  have e1:((upN (k*a) b - 1)*nu)*b=(upN (k*a) b - 1)*b*nu:=by rw[Int.mul_right_comm]
  have e2:(k*de)*b=k*(de*b):=by rw[Int.mul_assoc]
  have e3:k*a*nu=k*(a*nu):=by rw[Int.mul_assoc]
  rw[e1,e2];omega
 exact Int.lt_of_mul_lt_mul_right s3 (by omega)
noncomputable def aJk(ps:List Int)(ow:Int)(σ:SwS)(s k:Int):SwS:=match aA4 σ.l s with
 | none=>σ
 | some o=>⟨aB5 ps σ.ls o ow ow k (upN (k*o.nu) o.de),aCx σ.l s k,σ.fs++[⟨s,k,upN (k*o.nu) o.de⟩],σ.n - upN (k*o.nu) o.de⟩
noncomputable def aA5(ps:List Int)(ow sl bu nu de:Int):Nat→SwS→Int×SwS
 | fuel,σ=>if σ.n≤0 then(0,σ)else match aAv ps σ.ls σ.l ow ow 1099511627776 σ.n (agO σ.l sl bu nu de)with
  | none=>(0,σ)
  | some (s,k)=>if σ.fs.length=64 then(13,σ)else match fuel with
   | 0=>(13,σ)
   | f+1=>aA5 ps ow sl bu nu de f (aJk ps ow σ s k)
theorem aDv{ps:List Int}{ow sl bu nu de:Int}{fuel:Nat}{σ:SwS}(h:σ.n≤0):aA5 ps ow sl bu nu de fuel σ=(0,σ):=by
 cases fuel <;> (unfold aA5;rw[if_pos h])
theorem aDw{ps:List Int}{ow sl bu nu de:Int}{fuel:Nat}{σ:SwS}(h:¬σ.n≤0)(hf:aAv ps σ.ls σ.l ow ow 1099511627776 σ.n (agO σ.l sl bu nu de)=none):aA5 ps ow sl bu nu de fuel σ=(0,σ):=by
 cases fuel <;> (unfold aA5;rw[if_neg h,hf])
theorem aDx{ps:List Int}{ow sl bu nu de:Int}{fuel:Nat}{σ:SwS}{s k:Int}(h:¬σ.n≤0)(hf:aAv ps σ.ls σ.l ow ow 1099511627776 σ.n (agO σ.l sl bu nu de)=some (s,k))(hl:σ.fs.length=64):aA5 ps ow sl bu nu de fuel σ=(13,σ):=by
 cases fuel <;> (unfold aA5;rw[if_neg h,hf];simp only[];rw[if_pos hl])
theorem aGc{ps:List Int}{ow sl bu nu de:Int}{σ:SwS}{s k:Int}(h:¬σ.n≤0)(hf:aAv ps σ.ls σ.l ow ow 1099511627776 σ.n (agO σ.l sl bu nu de)=some (s,k)):aA5 ps ow sl bu nu de 0 σ=(13,σ):=by
 by_cases hl:σ.fs.length=64
 ·exact aDx h hf hl
 unfold aA5;rw[if_neg h,hf];simp only[];rw[if_neg hl]
theorem aCy{ps:List Int}{ow sl bu nu de:Int}{fuel:Nat}{σ:SwS}{s k:Int}(h:¬σ.n≤0)(hf:aAv ps σ.ls σ.l ow ow 1099511627776 σ.n (agO σ.l sl bu nu de)=some (s,k))(hl:¬σ.fs.length=64):aA5 ps ow sl bu nu de (fuel+1) σ=aA5 ps ow sl bu nu de fuel (aJk ps ow σ s k):=by
 conv=>lhs;unfold aA5
 rw[if_neg h,hf];simp only[];rw[if_neg hl]
noncomputable def aD5(N ow sl bu nu de:Int)(r:Int×SwS):Int×SwS×Int×Int:=
 if r.1≠0 then(r.1,r.2,N,0)else if r.2.n≤0 then(0,r.2,N,0)else
  (aBs r.2.l ⟨N,ow,sl,bu,r.2.n,nu,de⟩,⟨r.2.ls,aCf r.2.l ⟨N,ow,sl,bu,r.2.n,nu,de⟩,r.2.fs,r.2.n⟩,aBt r.2.l ⟨N,ow,sl,bu,r.2.n,nu,de⟩,aC9 r.2.l ⟨N,ow,sl,bu,r.2.n,nu,de⟩)
noncomputable def aDy(ps:List Int)(ls:List Ln)(l:List Of)(N ow sl bu lf nu de:Int):Int×SwS×Int×Int:=
 if ¬(Of.mk 0 ow sl bu lf nu de).may then(1,⟨ls,l,[],lf⟩,N,0)else if ow∉ps then(7,⟨ls,l,[],lf⟩,N,0)else
  aD5 N ow sl bu nu de (aA5 ps ow sl bu nu de 64 ⟨ls,l,[],lf⟩)
structure aD1(ps:List Int)(ls0:List Ln)(l0:List Of)(N ow sl bu nu de n0:Int)(σ:SwS):Prop where
 linv:LInv ps σ.ls
 binv:BInv σ.l N
 lim:limL σ.ls=limL ls0
 like:∀s o,aA4 σ.l s=some o→∃y,aA4 l0 s=some y∧likeO y o
 fs:∀f∈σ.fs,∃o,aA4 l0 f.se=some o∧o.sl=bu∧o.bu=sl∧o.ow≠ow∧o.ow∈ps∧cmpR o.nu o.de de nu≤0∧(1≤f.got∧f.got≤1099511627776)∧(1≤f.gi∧f.gi≤1099511627776)∧f.gi=upN (f.got*o.nu) o.de∧mayB o.nu o.de=true
 sum:(σ.fs.map Fl.gi).sum+σ.n=n0
 nn:0≤σ.n
 len:σ.fs.length≤64
 pos:∀p c,posL σ.ls p c=posL ls0 p c+(σ.fs.map fun f=>flBy l0 ow ow f p c).sum
theorem aD1.start{ps:List Int}{ls0:List Ln}{l0:List Of}{N ow sl bu nu de n0:Int}(hI:LInv ps ls0)(hJ:BInv l0 N)(hn:0≤n0):aD1 ps ls0 l0 N ow sl bu nu de n0 ⟨ls0,l0,[],n0⟩:=
 ⟨hI,hJ,rfl,fun s o h=>⟨o,h,rfl,rfl,rfl,rfl,rfl⟩,fun f hf=>(by cases hf),(by simp),hn,(by simp),fun p c=>(by simp)⟩
theorem aD1.step{ps:List Int}{ls0:List Ln}{l0:List Of}{N ow sl bu nu de n0:Int}{σ:SwS}(h:aD1 ps ls0 l0 N ow sl bu nu de n0 σ){s k:Int}(hf:aAv ps σ.ls σ.l ow ow 1099511627776 σ.n (agO σ.l sl bu nu de)=some (s,k)):
  1≤k∧k≤1099511627776∧okS ps σ.ls σ.l ow ow k s∧∃o,aA4 σ.l s=some o∧o∈agO σ.l sl bu nu de∧k≤o.lf∧1≤upN (k*o.nu) o.de∧upN (k*o.nu) o.de≤σ.n∧
   aJk ps ow σ s k=⟨aB5 ps σ.ls o ow ow k (upN (k*o.nu) o.de),aCx σ.l s k,σ.fs++[⟨s,k,upN (k*o.nu) o.de⟩],σ.n - upN (k*o.nu) o.de⟩∧
   (¬σ.fs.length=64→aD1 ps ls0 l0 N ow sl bu nu de n0 (aJk ps ow σ s k)):=by
 obtain⟨h1,h2,o,h3,rfl⟩:=aJg hf;obtain⟨hm,hsl,hbu,hcm⟩:=mem_ag h.binv h3;have hfo:=aLe h.binv hm;obtain⟨ok,hle⟩:=may_okS h.linv h2 (by omega);have hG:=goesS h.linv o ow ow;have hG':∀o',aA4 σ.l o.se=some o'→Goes ps σ.ls o' ow ow (aD0 ps σ.ls o.sl o.ow ow) (aD0 ps σ.ls o.bu ow o.ow):=fun o' ho'=>by rw[hfo]at ho';cases ho';exact hG
 have hd:=(aLd h.linv hG').2 ok;obtain⟨o',ho',⟨k1,k2,k3,k4⟩,k5,_,_⟩:=hd.facts;rw[hfo]at ho'
 cases ho'
 obtain⟨f1,f2,f3,f4,f5⟩:=aMr h.linv h.binv hfo hG hd rfl (aHc h.linv o ow ow k (upN (k*o.nu) o.de));obtain⟨_,_,_,_,⟨l1,l2⟩,hmr⟩:=h.binv.may o hm;obtain⟨y,hy,y1,y2,y3,y4,y5⟩:=h.like o.se o hfo
 -- what is given is no more than what is left
 have hb1:=mostS_bd h.linv o.sl o.ow ow;have hb2:=mostS_bd h.linv o.bu ow o.ow;have hmd:=may_do hb1.1 hb2.1 (by rw[aJe h.linv hG'];exact h2.symm) (show 1≤k by omega);obtain⟨_,_,hn1,o2,ho2,hfit⟩:=hmd;rw[hfo]at ho2
 cases ho2
 have hup:=(aOf hmr (g:=min (min σ.n 1099511627776) (aD0 ps σ.ls o.bu ow o.ow)) (by omega) (by omega) (show 0≤k by omega) hfit).2.2
 have e:aJk ps ow σ o.se k=⟨aB5 ps σ.ls o ow ow k (upN (k*o.nu) o.de),aCx σ.l o.se k,σ.fs++[⟨o.se,k,upN (k*o.nu) o.de⟩],σ.n - upN (k*o.nu) o.de⟩:=by
  unfold aJk;rw[hfo]
 refine⟨by omega,hle,ok,o,hfo,h3,k5,f3,by omega,e,fun hl=>?_⟩;rw[e];refine⟨aJf h.linv _ _ _ _ _,h.binv.take _ _,f1.symm.trans h.lim,fun t x hx=>?_,fun f hf=>?_,?_,?_,?_,fun p c=>?_⟩
 ·obtain⟨z,hz,z1,z2,z3,z4,z5⟩:=take_like h.binv hfo (by omega) k5 hx;obtain⟨v,hv,v1,v2,v3,v4,v5⟩:=h.like t z hz;exact⟨v,hv,v1.trans z1,v2.trans z2,v3.trans z3,v4.trans z4,v5.trans z5⟩
 ·rcases List.mem_append.1 hf with hf|hf
  ·exact h.fs f hf
  rw[List.mem_singleton]at hf;subst hf;exact⟨y,hy,by rw[y2,hsl],by rw[y3,hbu],by rw[y1];exact k1,by rw[y1];exact k2,by rw[y4,y5];exact hcm,⟨by show 1≤k;omega,by show k≤1099511627776;omega⟩,⟨f3,f4⟩,by rw[y4,y5],by rw[y4,y5];exact hmr⟩
 ·have:=h.sum;simp only[List.map_append,List.map_cons,List.map_nil,List.sum_append,List.sum_cons,List.sum_nil];omega
 ·show 0≤σ.n - upN (k*o.nu) o.de;omega
 ·have:=h.len;rw[List.length_append,List.length_singleton];omega
 show posL (aB5 ps σ.ls o ow ow k (upN (k*o.nu) o.de)) p c=_;rw[f2 p c,h.pos p c];simp only[List.map_append,List.map_cons,List.map_nil,List.sum_append,List.sum_cons,List.sum_nil]
 have e2:flBy l0 ow ow ⟨o.se,k,upN (k*o.nu) o.de⟩ p c=aMq o ow ow k (upN (k*o.nu) o.de) p c:=by
  unfold flBy;simp only[hy];unfold aMq;rw[y1,y2,y3]
 rw[e2];omega
theorem aKm{ps:List Int}{ow sl bu nu de:Int}(C:SwS→Prop)(hs:∀σ s k,C σ→¬σ.n≤0→aAv ps σ.ls σ.l ow ow 1099511627776 σ.n (agO σ.l sl bu nu de)=some (s,k)→¬σ.fs.length=64→C (aJk ps ow σ s k)):∀(fuel:Nat) {σ:SwS},C σ→C (aA5 ps ow sl bu nu de fuel σ).2
 | fuel,σ,h=>by
  by_cases hn:σ.n≤0
  ·rw[aDv hn];exact h
  cases hf:aAv ps σ.ls σ.l ow ow 1099511627776 σ.n (agO σ.l sl bu nu de)with
  | none=>rw[aDw hn hf];exact h
  | some sk=>
   obtain⟨s,k⟩:=sk
   by_cases hl:σ.fs.length=64
   ·rw[aDx hn hf hl];exact h
   cases fuel with
   | zero=>rw[aGc hn hf];exact h
   | succ fuel=>rw[aCy hn hf hl];exact aKm C hs fuel (hs σ s k h hn hf hl)
theorem aD1.ends{ps:List Int}{ls0:List Ln}{l0:List Of}{N ow sl bu nu de n0:Int}(fuel:Nat){σ:SwS}(h:aD1 ps ls0 l0 N ow sl bu nu de n0 σ):aD1 ps ls0 l0 N ow sl bu nu de n0 (aA5 ps ow sl bu nu de fuel σ).2:=by
 refine aKm (fun σ=>aD1 ps ls0 l0 N ow sl bu nu de n0 σ) (fun σ s k hc hn hf hl=>?_) fuel h;obtain⟨_,_,_,_,_,_,_,_,_,_,q⟩:=hc.step hf;exact q hl
theorem aM0{ps:List Int}{ow sl bu nu de:Int}:∀(fuel:Nat) {σ σ':SwS},aA5 ps ow sl bu nu de fuel σ=(0,σ')→σ'.n≤0∨aAv ps σ'.ls σ'.l ow ow 1099511627776 σ'.n (agO σ'.l sl bu nu de)=none
 | fuel,σ,σ',h=>by
  by_cases hn:σ.n≤0
  ·rw[aDv hn]at h;obtain rfl:=(Prod.mk.inj h).2;exact .inl hn
  cases hf:aAv ps σ.ls σ.l ow ow 1099511627776 σ.n (agO σ.l sl bu nu de)with
  | none=>
   rw[aDw hn hf]at h;obtain rfl:=(Prod.mk.inj h).2;exact .inr hf
  | some sk=>
   obtain⟨s,k⟩:=sk
   by_cases hl:σ.fs.length=64
   ·rw[aDx hn hf hl]at h;exact absurd (Prod.mk.inj h).1 (by decide)
   cases fuel with
   | zero=>rw[aGc hn hf]at h;exact absurd (Prod.mk.inj h).1 (by decide)
   | succ fuel=>rw[aCy hn hf hl]at h;exact aM0 fuel h
theorem aKn{ps:List Int}{ls:List Ln}{l:List Of}{tk pt want most:Int}:∀{os:List Of},aAv ps ls l tk pt want most os=none→∀o∈os,¬0<mayS ps ls l tk pt want most o.se
 | [],_,o,ho=>by cases ho
 | z::os,h,o,ho=>by
  unfold aAv at h;split at h
  ·exact absurd h (by simp)
  rename_i hp;rcases List.mem_cons.1 ho with rfl|ho
  ·exact hp
  exact aKn h o ho
theorem aHr{ps:List Int}{ls:List Ln}{l:List Of}{tk pt want most:Int}{p:Of→Bool}{r:Int×Int}:∀{os:List Of},aAv ps ls l tk pt want most (os.takeWhile p)=some r→aAv ps ls l tk pt want most os=some r
 | [],h=>h
 | z::os,h=>by
  rw[List.takeWhile_cons]at h;split at h
  ·unfold aAv at h ⊢;split at h
   ·rename_i hp;rw[if_pos hp];exact h
   rename_i hp;rw[if_neg hp];exact aHr h
  simp[aAv]at h
theorem aD1.gi_nn{ps:List Int}{ls0:List Ln}{l0:List Of}{N ow sl bu nu de n0:Int}{σ:SwS}(h:aD1 ps ls0 l0 N ow sl bu nu de n0 σ):0≤(σ.fs.map Fl.gi).sum:=by
 have key:∀l:List Fl,(∀f∈l,1≤f.gi)→0≤(l.map Fl.gi).sum:=by
  intro l
  induction l with
  | nil=>intro _;simp
  | cons x l ih=>
   intro hx;have a:=hx x List.mem_cons_self;have b:=ih (fun y hy=>hx y (List.mem_cons_of_mem _ hy));rw[List.map_cons,List.sum_cons];omega
 exact key _ (fun f hf=>by obtain⟨o,_,_,_,_,_,_,_,a,_⟩:=h.fs f hf;exact a.1)
theorem aEt{ps:List Int}{ls0:List Ln}{l0:List Of}{N ow sl bu nu de n0:Int}:∀(fuel:Nat) {σ σ':SwS},aD1 ps ls0 l0 N ow sl bu nu de n0 σ→aA5 ps ow sl bu nu de fuel σ=(0,σ')→∃fs,σ'.fs=σ.fs++fs∧aLf ps ow ow bu sl true fs σ.ls σ.l 1099511627776 σ.n σ'.ls σ'.l
 | fuel,σ,σ',hc,h=>by
  by_cases hn:σ.n≤0
  ·rw[aDv hn]at h;obtain rfl:=(Prod.mk.inj h).2;exact⟨[],by simp,rfl,rfl⟩
  cases hf:aAv ps σ.ls σ.l ow ow 1099511627776 σ.n (agO σ.l sl bu nu de)with
  | none=>
   rw[aDw hn hf]at h;obtain rfl:=(Prod.mk.inj h).2;exact⟨[],by simp,rfl,rfl⟩
  | some sk=>
   obtain⟨s,k⟩:=sk
   by_cases hl:σ.fs.length=64
   ·rw[aDx hn hf hl]at h;exact absurd (Prod.mk.inj h).1 (by decide)
   cases fuel with
   | zero=>rw[aGc hn hf]at h;exact absurd (Prod.mk.inj h).1 (by decide)
   | succ fuel=>
    rw[aCy hn hf hl]at h;obtain⟨_,_,_,o,ho,_,_,_,_,e,q⟩:=hc.step hf;obtain⟨fs,h1,h2⟩:=aEt fuel (q hl) h;rw[e]at h1 h2;refine⟨⟨s,k,upN (k*o.nu) o.de⟩::fs,by rw[h1];simp,aHr hf,o,ho,rfl,?_⟩;simpa using h2
structure aJl(ps:List Int)(ls:List Ln)(l:List Of)(N ow sl bu lf nu de:Int)(σ:SwS)(N' sq:Int)(τ:SwS):Prop where
 may:(Of.mk 0 ow sl bu lf nu de).may
 part:ow∈ps
 inv:aD1 ps ls l N ow sl bu nu de lf τ
 is:aA5 ps ow sl bu nu de 64 ⟨ls,l,[],lf⟩=(0,τ)
 ends:(τ.n=0∧σ=τ∧N'=N∧sq=0)∨(1≤τ.n∧aAv ps τ.ls τ.l ow ow 1099511627776 τ.n (agO τ.l sl bu nu de)=none∧aBs τ.l ⟨N,ow,sl,bu,τ.n,nu,de⟩=0∧σ=⟨τ.ls,τ.l++[⟨N,ow,sl,bu,τ.n,nu,de⟩],τ.fs,τ.n⟩∧N'=N+1∧sq=N)
theorem aOq{ps:List Int}{ls:List Ln}{l:List Of}{N ow sl bu lf nu de:Int}{σ:SwS}{N' sq:Int}(hI:LInv ps ls)(hJ:BInv l N)(h:aDy ps ls l N ow sl bu lf nu de=(0,σ,N',sq)):∃τ,aJl ps ls l N ow sl bu lf nu de σ N' sq τ:=by
 unfold aDy at h
 by_cases hm:(Of.mk 0 ow sl bu lf nu de).may
 ·rw[if_neg (fun q=>q hm)]at h
  by_cases hp:ow∉ps
  ·rw[if_pos hp]at h;exact absurd (congrArg Prod.fst h) (by show ¬(7:Int)=0;decide)
  rw[if_neg hp]at h;obtain⟨r,hr⟩:∃r,aA5 ps ow sl bu nu de 64 ⟨ls,l,[],lf⟩=r:=⟨_,rfl⟩;obtain⟨e,τ⟩:=r;have hinv:=aD1.ends (ow:=ow) (sl:=sl) (bu:=bu) (nu:=nu) (de:=de) 64 (aD1.start hI hJ (ow:=ow) (sl:=sl) (bu:=bu) (nu:=nu) (de:=de) (n0:=lf) (by have:=hm.2.2.2.2.1.1;show 0≤lf;exact Int.le_trans (by decide) this));rw[hr]at h hinv;unfold aD5 at h
  by_cases he:e=0
  ·subst he;rw[if_neg (by simp)]at h;refine⟨τ,hm,Decidable.not_not.1 hp,hinv,hr,?_⟩;have hnn:=hinv.nn
   by_cases hz:τ.n≤0
   ·rw[if_pos hz]at h;obtain⟨_,h2⟩:=Prod.mk.inj h;obtain⟨h3,h4⟩:=Prod.mk.inj h2;obtain⟨h5,h6⟩:=Prod.mk.inj h4;exact .inl ⟨by show τ.n=0;have q:0≤τ.n:=hnn;omega,h3.symm,h5.symm,h6.symm⟩
   rw[if_neg hz]at h;obtain⟨h1,h2⟩:=Prod.mk.inj h;obtain⟨h3,h4⟩:=Prod.mk.inj h2;obtain⟨h5,h6⟩:=Prod.mk.inj h4;have h1':aBs τ.l ⟨N,ow,sl,bu,τ.n,nu,de⟩=0:=h1;rcases aM0 64 hr with q|q
   ·exact absurd q hz
   refine .inr ⟨by omega,q,h1',?_,?_,?_⟩
   ·rw[←h3];show _=_;simp only[aCf,h1',if_true]
   ·rw[←h5];show aBt τ.l _=_;unfold aBt;rw[if_pos h1']
   rw[←h6];show aC9 τ.l _=_;unfold aC9;rw[if_pos h1']
  rw[if_pos (by simpa using he)]at h;exact absurd (congrArg Prod.fst h) (by simpa using he)
 rw[if_pos hm]at h;exact absurd (congrArg Prod.fst h) (by show ¬(1:Int)=0;decide)
theorem aJl.rest{ps:List Int}{ls:List Ln}{l:List Of}{N ow sl bu lf nu de:Int}{σ:SwS}{N' sq:Int}{τ:SwS}(h:aJl ps ls l N ow sl bu lf nu de σ N' sq τ)(h1:1≤τ.n){o:Of}(ho:o∈aC6 τ.l bu sl)(hc:cmpR o.nu o.de de nu≤0):mayS ps τ.ls τ.l ow ow 1099511627776 τ.n o.se=0:=by
 rcases h.ends with⟨q,_⟩|⟨_,q,_⟩
 ·omega
 have a:=aKn q o (ag_all h.inv.binv h.may.2.2.2.2.2 ho hc);have b:=(mayS_nn h.inv.linv h.inv.binv ow ow 1099511627776 τ.n o.se).1;omega
theorem aJl.rate{ps:List Int}{ls:List Ln}{l:List Of}{N ow sl bu lf nu de:Int}{σ:SwS}{N' sq:Int}{τ:SwS}(h:aJl ps ls l N ow sl bu lf nu de σ N' sq τ){f:Fl}(hf:f∈τ.fs):(f.gi - 1)*nu<f.got*de:=by
 obtain⟨o,_,_,_,_,_,hc,⟨g1,_⟩,_,e,hm⟩:=h.inv.fs f hf;rw[e];exact rate_more hm h.may.2.2.2.2.2 hc g1
theorem aJl.next{ps:List Int}{ls:List Ln}{l:List Of}{N ow sl bu lf nu de:Int}{σ:SwS}{N' sq:Int}{τ:SwS}(h:aJl ps ls l N ow sl bu lf nu de σ N' sq τ):LInv ps σ.ls∧BInv σ.l N'∧σ.fs=τ.fs:=by
 rcases h.ends with⟨_,rfl,rfl,_⟩|⟨_,_,e,rfl,rfl,_⟩
 ·exact⟨h.inv.linv,h.inv.binv,rfl⟩
 refine⟨h.inv.linv,?_,rfl⟩;have q:=BInv.place (l:=τ.l) (x:=⟨N,ow,sl,bu,τ.n,nu,de⟩) h.inv.binv;unfold aCf aBt at q;rw[if_pos e,if_pos e]at q;exact q
def aA2:Int→List Int→Int
 | n,[]=>n
 | n,v::vs=>if min n v<1 then 0 else aA2 (min n v) vs
structure Bnd(w:World)(rv:Value)(b:Nat×Int):Prop where
 enter:∀args w',(callFunc b.1 args).run Tryz.prog w'=.ok (.enter b.1 args) w'
 call:∀w',Below w.heap.size w w'→Calls Tryz.prog b.1 #[rv] w' fun e w''=>e=.returned (.int .i64 b.2)∧Below w'.heap.size w' w''
theorem Bnd.below{w w':World}{rv:Value}{b:Nat×Int}(h:Bnd w rv b)(k:Below w.heap.size w w'):Bnd w' rv b:=⟨h.enter,fun w2 q=>h.call w2 (andB k q)⟩
def bndV(rv:Value)(b:Nat×Int):Value:=.func (.func b.1) #[rv] #[]
def LeastAt(W:World)(bs:List (Nat×Int))(n i:Value)(wr:World):Prop:=
 ∃(k:Nat) (m:Int),k≤bs.length∧i=.int .i64 k∧n=.int .i64 m∧(m≤1099511627776 ∧ -9223372036854775808≤m)∧Below W.heap.size W wr∧Hid (aA2 1099511627776 (bs.map (·.2))=aA2 m ((bs.drop k).map (·.2)))
theorem aM1{w:World}{g:Nat}{rv:Value}{bs:List (Nat×Int)}{t:TypeId}(hk:Blk w g (bs.map (bndV rv)).toArray t)(hb:∀b∈bs,Bnd w rv b)(h64:∀b∈bs,In64 b.2)(hl:bs.length≤100):
  Calls Tryz.prog 81 #[.slice (some ⟨g,0,none⟩) bs.length bs.length] w (yR w (.int .i64 (aA2 1099511627776 (bs.map (·.2))))):=by
 have K:=yH hk;have HB:=yH hb;have H64:=yH h64;clear hk hb h64;go_enter Tryz.func81,Tryz.ntmps81;go_wp2_with fail
 go_loopw [3,8] (LeastAt w bs) (fun _ i _=>bs.length - (intOf i).toNat)
 case atStart=>exact⟨0,_,by omega,rfl,rfl,by omega,yZ,yH rfl⟩
 obtain⟨k,m,hkl,rfl,rfl,⟨m1,m2⟩,hB,HE⟩:=hrel;have BB:=yH hB;clear hB
 by_cases hlt:k<bs.length
 ·have hki:(k:Int)<(bs.length:Int):=by omega
  have hk0:(0:Int)≤(k:Int):=by omega
  have q0:decide ((k:Int)<(bs.length:Int))=true:=by simpa using hlt
  have KK:=yH (K.out.below BB.out K.out.lt);have d0:=KK.out.cell k;have kl:=KK.out.lt;simp only[List.getElem?_toArray,List.getElem?_map,List.getElem?_eq_getElem hlt,Option.map_some]at d0;have HBk:=yH ((HB.out bs[k] (List.getElem_mem _)).below BB.out);have h64:=H64.out bs[k] (List.getElem_mem _);have HD:Hid (bs.drop k=bs[k]::bs.drop (k+1)):=yH (List.drop_eq_getElem_cons hlt);generalize bs[k]=b at *;obtain⟨f,v⟩:=b;unfold bndV at d0;dsimp only at d0 h64;have hv1:=h64.1;have hv2:=h64.2;clear h64;have CB:=yH (HBk.out.call wr yZ);have EN:=HBk.out.enter #[rv] wr;dsimp only at CB EN;have HM:Hid (aA2 m (((f,v)::bs.drop (k+1)).map (·.2))=if min m v<1 then 0 else aA2 (min m v) ((bs.drop (k+1)).map (·.2))):=yH rfl;clear HBk;go_wp2_with fail;refine CB.out.mono ?_;rintro e w1 ⟨rfl,b1⟩;have B1:=yT BB b1;clear b1 CB EN d0 kl
  by_cases hz:min m v<1
  ·have q1:decide (min m v<1)=true:=by simpa using hz
   have HZ:=yH hz;clear hz;go_wp2_with fail;go_ret;exact⟨by rw[HE.out,HD.out,HM.out.trans (if_pos HZ.out)];rfl,B1.out⟩
  have q1:decide (min m v<1)=false:=by simpa using hz
  have HZ:=yH hz;clear hz;go_wp2_with fail;exact⟨⟨k+1,_,by omega,by go_num,rfl,by omega,B1.out,yH (by rw[HE.out,HD.out];exact HM.out.trans (if_neg (by have:=HZ.out;omega)))⟩,by simp[intOf];omega⟩
 have hkn:k=bs.length:=by omega
 subst hkn;have q0:decide (((bs.length:Nat):Int)<(bs.length:Int))=false:=by simp
 have HM:Hid (aA2 m ((bs.drop bs.length).map (·.2))=m):=yH (by rw[List.drop_length];rfl);go_wp2_with fail;go_ret;exact⟨by rw[HE.out,HM.out];rfl,BB.out⟩
abbrev filV(lp:Option Addr)(o:Of)(tk pt want most:Int):Value:=.agg #[.pointer lp,.int .u64 o.se,.int .u8 o.ow,.int .u8 o.sl,.int .u8 o.bu,.int .i64 o.lf,.int .i64 o.nu,.int .i64 o.de,.int .u8 tk,.int .u8 pt,.int .i64 want,.int .i64 most]
abbrev filC(lp:Option Addr)(o:Of)(tk pt want most:Int):Array Value:=#[.pointer lp,.int .u64 o.se,.int .u8 o.ow,.int .u8 o.sl,.int .u8 o.bu,.int .i64 o.lf,.int .i64 o.nu,.int .i64 o.de,.int .u8 tk,.int .u8 pt,.int .i64 want,.int .i64 most]
theorem aOr(lp:Option Addr)(o:Of)(tk pt want most:Int)(w:World):Calls Tryz.prog 82 #[filV lp o tk pt want most] w (yR w (.int .i64 want)):=by
 have B:=yH ((Below.refl w.heap.size w).alloc yL (.cells (filC lp o tk pt want most) 146));unfold filV;go_enter Tryz.func82,Tryz.ntmps82;go_wp2_with fail;go_ret;exact⟨rfl,B.out⟩
theorem fleft_any(lp:Option Addr)(o:Of)(tk pt want most:Int)(w:World):Calls Tryz.prog 83 #[filV lp o tk pt want most] w (yR w (.int .i64 o.lf)):=by
 have B:=yH ((Below.refl w.heap.size w).alloc yL (.cells (filC lp o tk pt want most) 146));unfold filV;go_enter Tryz.func83,Tryz.ntmps83;go_wp2_with fail;go_ret;exact⟨rfl,B.out⟩
theorem aM2(lp:Option Addr)(o:Of)(tk pt want most:Int)(w:World):Calls Tryz.prog 135 #[filV lp o tk pt want most] w (yR w (.int .i64 most)):=by
 have B:=yH ((Below.refl w.heap.size w).alloc yL (.cells (filC lp o tk pt want most) 146));unfold filV;go_enter Tryz.func135,Tryz.ntmps135;go_wp2_with fail;go_ret;exact⟨rfl,B.out⟩
theorem fsold_any(HM:aDd){w:World}{G M:Nat}{ps:List Int}{ls:List Ln}{o:Of}(h:LedM w G M ps ls)(hI:LInv ps ls)(hf:o.Fits)(tk pt want most:Int)(hp:In8 pt){m1 m2:Int}(g:Goes ps ls o tk pt m1 m2):
  Calls Tryz.prog 84 #[filV (some ⟨G,0,none⟩) o tk pt want most] w fun e w'=>e=.returned (.int .i64 (if pt=o.ow then 1099511627776 else m1))∧Below w.heap.size w w':=by
 have bw:=(Below.refl w.heap.size w).alloc yL (.cells (filC (some ⟨G,0,none⟩) o tk pt want most) 146);have B:=yH bw;obtain⟨⟨μ,h1,h2⟩,_⟩:=g;have CM:=yH (aJ9 HM (h.below bw) hI hf.ow hp hf.sl h1);rw[h2]at CM;clear bw h hI hf hp h1 h2;unfold filV
 by_cases he:pt=o.ow
 ·rw[if_pos he];subst he;have q0:(o.ow==o.ow)=true:=by simp
  clear CM;go_enter Tryz.func84,Tryz.ntmps84;go_wp2_with fail;go_ret;exact⟨rfl,B.out⟩
 rw[if_neg he];have q0:(pt==o.ow)=false:=by simpa using he
 clear he;go_enter Tryz.func84,Tryz.ntmps84;go_wp2_with fail;refine CM.out.mono ?_;rintro e w1 ⟨rfl,b1⟩;have B1:=yT B b1;clear b1;go_wp2_with fail;go_ret;exact⟨rfl,B1.out⟩
theorem aOs(HM:aDd){w:World}{G M:Nat}{ps:List Int}{ls:List Ln}{o:Of}(h:LedM w G M ps ls)(hI:LInv ps ls)(hf:o.Fits)(tk pt want most:Int)(ht:In8 tk){m1 m2:Int}(g:Goes ps ls o tk pt m1 m2):
  Calls Tryz.prog 136 #[filV (some ⟨G,0,none⟩) o tk pt want most] w (yR w (.int .i64 m2)):=by
 have bw:=(Below.refl w.heap.size w).alloc yL (.cells (filC (some ⟨G,0,none⟩) o tk pt want most) 146);have B:=yH bw;obtain⟨_,μ,h1,h2⟩:=g;have CM:=yH (aJ9 HM (h.below bw) hI ht hf.ow hf.bu h1);rw[h2]at CM;clear bw h hI hf ht h1 h2;unfold filV;go_enter Tryz.func136,Tryz.ntmps136;go_wp2_with fail;refine CM.out.mono ?_;rintro e w1 ⟨rfl,b1⟩;have B1:=yT B b1;clear b1;go_wp2_with fail;go_ret;exact⟨rfl,B1.out⟩
theorem aJm:∀(vs:List Int) {n:Int},n≤1099511627776 → -9223372036854775808≤n→(∀v∈vs,-9223372036854775808≤v)→In64 (aA2 n vs)
 | [],n,h1,h2,_=>⟨by unfold aA2;omega,by unfold aA2;omega⟩
 | v::vs,n,h1,h2,h=>by
  unfold aA2;split
  ·exact⟨by omega,by omega⟩
  rename_i hz;have:=h v (List.mem_cons_self);exact aJm vs (by omega) (by omega) (fun x hx=>h x (List.mem_cons_of_mem _ hx))
theorem ffits_any(HM:aDd){w:World}{G M:Nat}{ps:List Int}{ls:List Ln}{o:Of}(h:LedM w G M ps ls)(hI:LInv ps ls)(hf:o.Fits)(tk pt want most:Int)(ht:In8 tk)(hm:In64 most){m1 m2:Int}(g:Goes ps ls o tk pt m1 m2):
  Calls Tryz.prog 85 #[filV (some ⟨G,0,none⟩) o tk pt want most] w (yR w (.int .i64 (fitN (aA2 1099511627776 [most,m2]) o.nu o.de))):=by
 have bw:=(Below.refl w.heap.size w).alloc yL (.cells (filC (some ⟨G,0,none⟩) o tk pt want most) 146);have KX:=yH (pAA w (filC (some ⟨G,0,none⟩) o tk pt want most) 146);have B:=yH bw;have hbd:=g.bd hI;have H64a:=yH hm;have H64b:Hid (In64 m2):=yH ⟨by omega,by omega⟩;have H64l:Hid (In64 (aA2 1099511627776 [most,m2])):=yH (aJm _ (by omega) (by omega) (by intro v hv;simp only[yI,yJ,or_false]at hv;rcases hv with rfl|rfl;exact hm.1;omega));have HF:=yH hf;have L:=h.below bw
 have HA:Hid (Bnd (w.alloc (.cells (filC (some ⟨G,0,none⟩) o tk pt want most) 146)) (filV (some ⟨G,0,none⟩) o tk pt want most) (135,most)):=yH
  ⟨enters_of Tryz.func135 (by kernel_rfl) rfl,fun w' k=>aM2 _ o tk pt want most w'⟩
 have HBo:Hid (Bnd (w.alloc (.cells (filC (some ⟨G,0,none⟩) o tk pt want most) 146)) (filV (some ⟨G,0,none⟩) o tk pt want most) (136,m2)):=yH
  ⟨enters_of Tryz.func136 (by kernel_rfl) rfl,fun w' k=>aOs HM (L.below k) hI hf tk pt want most ht g⟩
 clear bw h hI hf hm hbd L g;go_enter Tryz.func85,Tryz.ntmps85
 go_upto_region 1 with fail
 generalize w.alloc (.cells #[.pointer (some ⟨G,0,none⟩),.int .u64 o.se,.int .u8 o.ow,.int .u8 o.sl,.int .u8 o.bu,.int .i64 o.lf,.int .i64 o.nu,.int .i64 o.de,.int .u8 tk,.int .u8 pt,.int .i64 want,.int .i64 most] 146)=W at *
 refine aA3 (by kernel_rfl) (fun g:Nat→Nat=>[(filV (some ⟨G,0,none⟩) o tk pt want most),(.func (.func 135) #[(filV (some ⟨G,0,none⟩) o tk pt want most)] #[]),(filV (some ⟨G,0,none⟩) o tk pt want most),(.func (.func 136) #[(filV (some ⟨G,0,none⟩) o tk pt want most)] #[]),(.slice (some ⟨g 4,0,none⟩) 2 2),(.int .i64 (aA2 1099511627776 [most,m2])),(.pointer (some ⟨w.heap.size,1,none⟩)),(.pointer (some ⟨w.heap.size,6,none⟩)),(.agg #[.int .i64 o.nu,.int .i64 o.de]),(.int .i64 (fitN (aA2 1099511627776 [most,m2]) o.nu o.de)),(.int .i64 (fitN (aA2 1099511627776 [most,m2]) o.nu o.de))])
  (Lays W [(⟨4,4,(.cells #[(.func (.func 135) #[(filV (some ⟨G,0,none⟩) o tk pt want most)] #[]),(.func (.func 136) #[(filV (some ⟨G,0,none⟩) o tk pt want most)] #[])] 148),(.cells #[(.func (.func 135) #[(filV (some ⟨G,0,none⟩) o tk pt want most)] #[]),(.func (.func 136) #[(filV (some ⟨G,0,none⟩) o tk pt want most)] #[])] 148)⟩:Spec)]) (by kernel_rfl) (fun _=>0) (Lays.start _ _ _) ?_
 intro AF hAF;simp only[yG,puts,Act.put,yA,yC,yF,yD,yE]at hAF;have hAF2:_=AF:=funext hAF;subst hAF2;clear hAF;refine⟨?_,?_⟩
 ·simp only[yG,aEy];refine⟨?_,?_,?_,?_,?_,?_,?_,?_,?_,?_,?_,trivial⟩
  ·intro g D w' hD hW hC hI;refine⟨g,fun _ _ _=>rfl,?_⟩;with_reducible refine yO rfl ?_
   have hS:=hI.below;have hl0:=yM KX.out.lt hS.size;have d0_0:=(KX.out.below hS KX.out.lt).cell 0;have d0_1:=(KX.out.below hS KX.out.lt).cell 1;have d0_2:=(KX.out.below hS KX.out.lt).cell 2;have d0_3:=(KX.out.below hS KX.out.lt).cell 3;have d0_4:=(KX.out.below hS KX.out.lt).cell 4;have d0_5:=(KX.out.below hS KX.out.lt).cell 5;have d0_6:=(KX.out.below hS KX.out.lt).cell 6;have d0_7:=(KX.out.below hS KX.out.lt).cell 7;have d0_8:=(KX.out.below hS KX.out.lt).cell 8;have d0_9:=(KX.out.below hS KX.out.lt).cell 9;have d0_10:=(KX.out.below hS KX.out.lt).cell 10;have d0_11:=(KX.out.below hS KX.out.lt).cell 11;simp at d0_0 d0_1 d0_2 d0_3 d0_4 d0_5 d0_6 d0_7 d0_8 d0_9 d0_10 d0_11;have HS:=yH (hI.step yZ (k:=0) (by rfl));clear hI hS hC hW hD;go_wp2_with fail;all_goals first|exact HS|exact⟨rfl,HS⟩|rfl
  ·intro g D w' hD hW hC hI;refine⟨g,fun _ _ _=>rfl,?_⟩;with_reducible refine yO rfl ?_
   have hS:=hI.below;have HS:=yH (hI.step yZ (k:=1) (by rfl));clear hI hS hC hW hD;go_wp2_with fail;all_goals first|exact HS|exact⟨rfl,HS⟩|rfl
  ·intro g D w' hD hW hC hI;refine⟨g,fun _ _ _=>rfl,?_⟩;with_reducible refine yO rfl ?_
   have hS:=hI.below;have hl0:=yM KX.out.lt hS.size;have d0_0:=(KX.out.below hS KX.out.lt).cell 0;have d0_1:=(KX.out.below hS KX.out.lt).cell 1;have d0_2:=(KX.out.below hS KX.out.lt).cell 2;have d0_3:=(KX.out.below hS KX.out.lt).cell 3;have d0_4:=(KX.out.below hS KX.out.lt).cell 4;have d0_5:=(KX.out.below hS KX.out.lt).cell 5;have d0_6:=(KX.out.below hS KX.out.lt).cell 6;have d0_7:=(KX.out.below hS KX.out.lt).cell 7;have d0_8:=(KX.out.below hS KX.out.lt).cell 8;have d0_9:=(KX.out.below hS KX.out.lt).cell 9;have d0_10:=(KX.out.below hS KX.out.lt).cell 10;have d0_11:=(KX.out.below hS KX.out.lt).cell 11;simp at d0_0 d0_1 d0_2 d0_3 d0_4 d0_5 d0_6 d0_7 d0_8 d0_9 d0_10 d0_11;have HS:=yH (hI.step yZ (k:=2) (by rfl));clear hI hS hC hW hD;go_wp2_with fail;all_goals first|exact HS|exact⟨rfl,HS⟩|rfl
  ·intro g D w' hD hW hC hI;refine⟨g,fun _ _ _=>rfl,?_⟩;with_reducible refine yO rfl ?_
   have hS:=hI.below;have HS:=yH (hI.step yZ (k:=3) (by rfl));clear hI hS hC hW hD;go_wp2_with fail;all_goals first|exact HS|exact⟨rfl,HS⟩|rfl
  ·intro g D w' hD hW hC hI;refine⟨upd g 4 w'.heap.size,aCz _ (fun g:Nat→Nat=>[(filV (some ⟨G,0,none⟩) o tk pt want most),(.func (.func 135) #[(filV (some ⟨G,0,none⟩) o tk pt want most)] #[]),(filV (some ⟨G,0,none⟩) o tk pt want most),(.func (.func 136) #[(filV (some ⟨G,0,none⟩) o tk pt want most)] #[]),(.slice (some ⟨g 4,0,none⟩) 2 2),(.int .i64 (aA2 1099511627776 [most,m2])),(.pointer (some ⟨w.heap.size,1,none⟩)),(.pointer (some ⟨w.heap.size,6,none⟩)),(.agg #[.int .i64 o.nu,.int .i64 o.de]),(.int .i64 (fitN (aA2 1099511627776 [most,m2]) o.nu o.de)),(.int .i64 (fitN (aA2 1099511627776 [most,m2]) o.nu o.de))]) g 4 _ 12 hC hD ?_,?_⟩
   ·intro j hj
    match j,hj with
    | 0,_=>exact .inr rfl
    | 1,_=>exact .inr rfl
    | 2,_=>exact .inr rfl
    | 3,_=>exact .inr rfl
    | 4,_=>exact .inl (.inl rfl)
    | 5,_=>exact .inr rfl
    | 6,_=>exact .inr rfl
    | 7,_=>exact .inr rfl
    | 8,_=>exact .inr rfl
    | 9,_=>exact .inr rfl
    | 10,_=>exact .inr rfl
    | j+11,_=>exact .inr rfl
   with_reducible refine yO rfl ?_
   have HS:=yH (hI.lay (⟨4,4,(.cells #[(.func (.func 135) #[(filV (some ⟨G,0,none⟩) o tk pt want most)] #[]),(.func (.func 136) #[(filV (some ⟨G,0,none⟩) o tk pt want most)] #[])] 148),(.cells #[(.func (.func 135) #[(filV (some ⟨G,0,none⟩) o tk pt want most)] #[]),(.func (.func 136) #[(filV (some ⟨G,0,none⟩) o tk pt want most)] #[])] 148)⟩:Spec) (by simp) (by rfl) (.inl rfl) (by rfl) (fun s' hs' _=>List.mem_singleton.1 hs') (.cells #[(.func (.func 135) #[(filV (some ⟨G,0,none⟩) o tk pt want most)] #[]),(.func (.func 136) #[(filV (some ⟨G,0,none⟩) o tk pt want most)] #[])] 148) rfl);clear hI hC hW hD;go_wp2_with fail;all_goals first|exact HS|exact⟨rfl,HS⟩|rfl
  ·intro g D w' hD hW hC hI;refine⟨g,fun _ _ _=>rfl,?_⟩;with_reducible refine yO rfl ?_
   have hS:=hI.below;have HI:=yH hI;have HC:=yH (aM1 (bs:=[(135,most),(136,m2)]) (rv:=(filV (some ⟨G,0,none⟩) o tk pt want most)) (show Blk w' (g 4) (List.map (bndV (filV (some ⟨G,0,none⟩) o tk pt want most)) [(135,most),(136,m2)]).toArray 148 from(hI.full (⟨4,4,(.cells #[(.func (.func 135) #[(filV (some ⟨G,0,none⟩) o tk pt want most)] #[]),(.func (.func 136) #[(filV (some ⟨G,0,none⟩) o tk pt want most)] #[])] 148),(.cells #[(.func (.func 135) #[(filV (some ⟨G,0,none⟩) o tk pt want most)] #[]),(.func (.func 136) #[(filV (some ⟨G,0,none⟩) o tk pt want most)] #[])] 148)⟩:Spec) (by simp) (aA1 hC hW (d:=12) (by kernel_rfl)) (aA1 hC hW (d:=12) (by kernel_rfl))).2) (by intro b hb;simp only[yI,yJ,or_false]at hb;rcases hb with rfl|rfl;exact HA.out.below hS;exact HBo.out.below hS) (by intro b hb;simp only[yI,yJ,or_false]at hb;rcases hb with rfl|rfl;exact H64a.out;exact H64b.out) (by simp));clear hI hS hC hW hD;go_wp2_with fail;refine HC.out.mono ?_;rintro e w'' ⟨rfl,hb2⟩;exact⟨rfl,HI.out.step hb2 (by rfl)⟩
  ·intro g D w' hD hW hC hI;refine⟨g,fun _ _ _=>rfl,?_⟩;with_reducible refine yO rfl ?_
   have hS:=hI.below;have HS:=yH (hI.step yZ (k:=6) (by rfl));clear hI hS hC hW hD;go_wp2_with fail;all_goals first|exact HS|exact⟨rfl,HS⟩|rfl
  ·intro g D w' hD hW hC hI;refine⟨g,fun _ _ _=>rfl,?_⟩;with_reducible refine yO rfl ?_
   have hS:=hI.below;have HS:=yH (hI.step yZ (k:=7) (by rfl));clear hI hS hC hW hD;go_wp2_with fail;all_goals first|exact HS|exact⟨rfl,HS⟩|rfl
  ·intro g D w' hD hW hC hI;refine⟨g,fun _ _ _=>rfl,?_⟩;with_reducible refine yO rfl ?_
   have hS:=hI.below;have hl0:=yM KX.out.lt hS.size;have d0_0:=(KX.out.below hS KX.out.lt).cell 0;have d0_1:=(KX.out.below hS KX.out.lt).cell 1;have d0_2:=(KX.out.below hS KX.out.lt).cell 2;have d0_3:=(KX.out.below hS KX.out.lt).cell 3;have d0_4:=(KX.out.below hS KX.out.lt).cell 4;have d0_5:=(KX.out.below hS KX.out.lt).cell 5;have d0_6:=(KX.out.below hS KX.out.lt).cell 6;have d0_7:=(KX.out.below hS KX.out.lt).cell 7;have d0_8:=(KX.out.below hS KX.out.lt).cell 8;have d0_9:=(KX.out.below hS KX.out.lt).cell 9;have d0_10:=(KX.out.below hS KX.out.lt).cell 10;have d0_11:=(KX.out.below hS KX.out.lt).cell 11;simp at d0_0 d0_1 d0_2 d0_3 d0_4 d0_5 d0_6 d0_7 d0_8 d0_9 d0_10 d0_11;have HS:=yH (hI.step yZ (k:=8) (by rfl));clear hI hS hC hW hD;go_wp2_with fail;all_goals first|exact HS|exact⟨rfl,HS⟩|rfl
  ·intro g D w' hD hW hC hI;refine⟨g,fun _ _ _=>rfl,?_⟩;with_reducible refine yO rfl ?_
   have hS:=hI.below;have HI:=yH hI;have HC:=yH (fits_any (aA2 1099511627776 [most,m2]) o.nu o.de w' H64l.out HF.out.nu HF.out.de);clear hI hS hC hW hD;go_wp2_with fail;refine HC.out.mono ?_;rintro e w'' ⟨rfl,hb2⟩;exact⟨rfl,HI.out.step hb2 (by rfl)⟩
  intro g D w' hD hW hC hI;refine⟨g,fun _ _ _=>rfl,?_⟩;with_reducible refine yO rfl ?_
  have hS:=hI.below;have HS:=yH (hI.step yZ (k:=10) (by rfl));clear hI hS hC hW hD;go_wp2_with fail;all_goals first|exact HS|exact⟨rfl,HS⟩|rfl
 intro g D w' hall hI;have B1:=yH (B.out.trans (hI.below.mono B.out.size));clear hall hI;go_wp2_with fail;go_ret;exact⟨rfl,B1.out⟩
end Go.Proofs.YtaeocliklpcgmaaGreat
