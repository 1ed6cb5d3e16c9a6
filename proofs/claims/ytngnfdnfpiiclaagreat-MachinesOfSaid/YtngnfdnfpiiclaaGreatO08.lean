/- Pieces of one proof. -/
import Derived.Test.YtngnfdnfpiiclaaGreatO07
import Derived.Laws.EntriesVeiled
import Derived.WalkSmall
import Derived.Laws.Bits64b
import Derived.Lib.Mul64
import Derived.Laws.Externs
import Derived.Deep.CutBlock
import Derived.Lib.Strings
import Derived.Lib.Small
import Derived.Lib.BitFns
import Derived.Lib.Slices
import Derived.Lib.Walk
import Derived.Lib.ItoaNum
import Derived.Deep.RegionWith
import Derived.ScopeJumps
import Derived.WalkMore
import Derived.LoopN
import Derived.Lib.SliceRun
set_option linter.all false
set_option maxHeartbeats 64000000
set_option maxRecDepth 100000
namespace Go.Proofs.YtngnfdnfpiiclaaGreat
open Go.RowKit
def aAu(ps:List Int)(ls:List Ln)(c a b:Int):Int:=aBm ps ls a b c
theorem aA3{ps:List Int}{ls:List Ln}(h:LInv ps ls)(c:Int):GInv (aAu ps ls c) 4398046511104:=by
 refine⟨fun p q=>(aHr h.inv.good p q c).1,fun p q=>?_,fun p q hi=>?_,fun p=>?_⟩
 ·have h1:=(aHr (ps:=ps) h.inv.good p q c).2;have h2:=(aHr (ps:=ps) h.inv.good q p c).2;unfold aAu;omega
 ·unfold aAu aBm;rw[if_pos]
  by_cases h1:p∈ps
  ·by_cases h2:q∈ps
   ·exact absurd ⟨h.bd p h1,h.bd q h2⟩ hi
   exact .inr (.inr h2)
  exact .inr (.inl h1)
 unfold aAu aBm;rw[if_pos (.inl rfl)]
theorem gof_led{w:World}{G M:Nat}{ps:List Int}{ls:List Ln}(h:LedM w G M ps ls)(hI:LInv ps ls){c:Int}(hc:In8 c):
  Calls Tryz.prog 193 #[.pointer (some ⟨G,0,none⟩),.int .u8 c] w fun e w'=>e=.returned (.pointer (some ⟨w.heap.size,0,none⟩))∧Blk w' w.heap.size (graC (aAu ps ls c) true) 327∧Below w.heap.size w w':=
 gof_any fun w' k p q hp hq=>room_any (h.below k) hI hp hq hc
theorem aJw{ps:List Int}{ls:List Ln}(h:Inv ls){a b c n:Int}(h1:1≤n)(hr:n≤aBm ps ls a b c){p q d:Int}
  (k1:¬(a=p∧b=q∧c=d))(k2:¬(a=q∧b=p∧c=d)):aBm ps (aB8 ls a b c n) p q d=aBm ps ls p q d:=by
 have hz:¬(a=b∨a∉ps∨b∉ps):=by
  intro hz;unfold aBm at hr;rw[if_pos hz]at hr;omega
 have hr2:=hr;unfold aBm at hr2;rw[if_neg hz]at hr2;obtain⟨_,_,h3,_⟩:=aD3 h (fun e=>hz (.inl e)) h1 hr2
 have e1:lnAt (aB8 ls a b c n) p q d=lnAt ls p q d:=by
  unfold lnAt;rw[h3 p q d,if_neg k1,if_neg (fun e=>k2 ⟨e.2.1,e.1,e.2.2⟩)]
 have e2:lnAt (aB8 ls a b c n) q p d=lnAt ls q p d:=by
  unfold lnAt;rw[h3 q p d,if_neg k2,if_neg (fun e=>k1 ⟨e.2.1,e.1,e.2.2⟩)]
 unfold aBm;rw[e1,e2]
theorem room_push{ps:List Int}{ls:List Ln}(h:LInv ps ls)(a b c n:Int):aAu ps (aDb ps ls a b c n) c=aEn (aAu ps ls c) a b n:=by
 funext p q
 unfold aEn
 by_cases hc:1≤n∧n≤aAu ps ls c a b
 ·rw[if_pos hc];obtain⟨h1,h2⟩:=hc;have h2':n≤aBm ps ls a b c:=h2;have he:aDj ps ls a b c n=0:=by unfold aDj;rw[if_neg (by omega),if_neg (by omega)]
  have hl:aDb ps ls a b c n=aB8 ls a b c n:=by unfold aDb;rw[if_pos he]
  rw[hl];obtain⟨r1,r2⟩:=push_room (ps:=ps) h.inv h1 h2';unfold aBu aAu
  by_cases c1:p=b∧q=a
  ·rw[if_pos c1,c1.1,c1.2];exact r2
  rw[if_neg c1]
  by_cases c2:p=a∧q=b
  ·rw[if_pos c2,c2.1,c2.2];exact r1
  rw[if_neg c2];exact aJw h.inv h1 h2' (fun e=>c2 ⟨e.1.symm,e.2.1.symm⟩) (fun e=>c1 ⟨e.2.1.symm,e.1.symm⟩)
 rw[if_neg hc]
 have he:aDj ps ls a b c n≠0:=by
  unfold aDj;have hc':¬(1≤n∧n≤aBm ps ls a b c):=hc;split
  ·decide
  split
  ·decide
  exact absurd ⟨by omega,by omega⟩ hc'
 unfold aDb;rw[if_neg he]
theorem room_else{ps:List Int}{ls:List Ln}(h:LInv ps ls)(a b n:Int){c d:Int}(hd:c≠d):aAu ps (aDb ps ls a b c n) d=aAu ps ls d:=by
 funext p q
 unfold aDb
 by_cases he:aDj ps ls a b c n=0
 ·rw[if_pos he];have h1:1≤n∧n≤aBm ps ls a b c:=by unfold aDj at he;(repeat' split at he) <;> omega
  exact aJw h.inv h1.1 h1.2 (fun e=>hd e.2.2) (fun e=>hd e.2.2)
 rw[if_neg he]
def aCc(ps:List Int)(c:Int)(ls:List Ln)(l:List Fw):List Ln:=l.foldl (fun ls x=>aDb ps ls x.fr x.tt c x.am) ls
theorem aL3{ps:List Int}{c:Int}{ls:List Ln}{l:List Fw}{k:Nat}(h:k<l.length):aCc ps c ls (l.take (k+1))=aDb ps (aCc ps c ls (l.take k)) l[k].fr l[k].tt c l[k].am:=by
 unfold aCc;rw[List.take_succ_eq_append_getElem h,List.foldl_append];rfl
theorem aEe{ps:List Int}{c:Int}:∀(l:List Fw) {ls:List Ln},LInv ps ls→LInv ps (aCc ps c ls l)
 | [],_,h=>h
 | x::l,_,h=>aEe l (h.push x.fr x.tt c x.am)
theorem aHd{ps:List Int}{c d:Int}(hd:c≠d):∀(l:List Fw) {ls:List Ln},LInv ps ls→aAu ps (aCc ps c ls l) d=aAu ps ls d
 | [],_,_=>rfl
 | x::l,ls,h=>by
  show aAu ps (aCc ps c (aDb ps ls x.fr x.tt c x.am) l) d=_;rw[aHd hd l (h.push _ _ _ _),room_else h _ _ _ hd]
theorem push_lims{ls:List Ln}(h:Inv ls){a b c n:Int}(hab:a≠b)(h1:1≤n)(hr:n≤(lnAt ls a b c).db+(lnAt ls b a c).li - (lnAt ls b a c).db):limL (aB8 ls a b c n)=limL ls:=by
 obtain⟨i,_,f,_⟩:=aD3 h hab h1 hr
 have hs:∀{m:List Ln},m.Pairwise (fun x y=>x.rank<y.rank)→(limL m).Pairwise (fun x y=>x.rank<y.rank):=fun{m} hm=>by
  unfold limL;rw[List.pairwise_map];exact hm
 refine aC0 _ _ (hs i.sorted) (hs h.sorted) fun z=>?_
 unfold limL;rw[List.mem_map,List.mem_map]
 constructor
 ·rintro⟨y,hy,rfl⟩;have hl:=(aBw i y.cr y.de y.cu y).2 ⟨hy,rfl,rfl,rfl⟩;rw[f]at hl;split at hl
  ·obtain⟨x,hx,e⟩:=Option.map_eq_some_iff.1 hl;exact⟨x,(aAo hx).1,by rw[←e];rfl⟩
  split at hl
  ·obtain⟨x,hx,e⟩:=Option.map_eq_some_iff.1 hl;exact⟨x,(aAo hx).1,by rw[←e];rfl⟩
  exact⟨y,(aAo hl).1,rfl⟩
 rintro⟨x,hx,rfl⟩;have hl:=(aBw h x.cr x.de x.cu x).2 ⟨hx,rfl,rfl,rfl⟩;have hf:=f x.cr x.de x.cu;split at hf
 ·rename_i k;obtain⟨k1,k2,k3⟩:=k;rw[←k1,←k2,←k3]at hl;rw[hl]at hf;exact⟨_,(aAo hf).1,rfl⟩
 split at hf
 ·rename_i k;obtain⟨k1,k2,k3⟩:=k;rw[←k1,←k2,←k3]at hl;rw[hl]at hf;exact⟨_,(aAo hf).1,rfl⟩
 rw[hl]at hf;exact⟨x,(aAo hf).1,rfl⟩
theorem aL4{ps:List Int}{ls:List Ln}{a b c n:Int}(h1:1≤n)(hr:n≤aBm ps ls a b c):aDb ps ls a b c n=aB8 ls a b c n∧a≠b∧n≤(lnAt ls a b c).db+(lnAt ls b a c).li - (lnAt ls b a c).db:=by
 have hz:¬(a=b∨a∉ps∨b∉ps):=by
  intro hz;unfold aBm at hr;rw[if_pos hz]at hr;omega
 have hr2:=hr;unfold aBm at hr2;rw[if_neg hz]at hr2;have he:aDj ps ls a b c n=0:=by unfold aDj;rw[if_neg (by omega),if_neg (by omega)]
 exact⟨by unfold aDb;rw[if_pos he],fun e=>hz (.inl e),hr2⟩
theorem aEz{ps:List Int}{c:Int}:∀(l:List Fw) {ls:List Ln},LInv ps ls→limL (aCc ps c ls l)=limL ls
 | [],_,_=>rfl
 | x::l,ls,h=>by
  show limL (aCc ps c (aDb ps ls x.fr x.tt c x.am) l)=_;rw[aEz l (h.push _ _ _ _)]
  by_cases he:aDj ps ls x.fr x.tt c x.am=0
  ·have h1:1≤x.am∧x.am≤aBm ps ls x.fr x.tt c:=by unfold aDj at he;(repeat' split at he) <;> omega
   obtain⟨e,k1,k2⟩:=aL4 h1.1 h1.2;rw[e];exact push_lims h.inv k1 h1.1 k2
  unfold aDb;rw[if_neg he]
theorem aJx{x:Ln}{p c:Int}(h:x.cu≠c):aCw p c x=0:=by unfold aCw;rw[if_neg h]
theorem aKu{ls:List Ln}(h:Inv ls){a b c n:Int}(hab:a≠b)(h1:1≤n)(hr:n≤(lnAt ls a b c).db+(lnAt ls b a c).li - (lnAt ls b a c).db)(p:Int){d:Int}(hd:c≠d):posL (aB8 ls a b c n) p d=posL ls p d:=by
 obtain⟨_,_,_,hs⟩:=aD3 h hab h1 hr;unfold posL;rw[hs (aCw p d) (aGw p d)]
 have key:∀a b m,aCw p d ((lnAt ls a b c).owe m)=aCw p d (lnAt ls a b c):=by
  intro a b m
  cases hl:aAl ls a b c with
  | none=>rw[aA0 hl];unfold aCw noLn Ln.owe;simp
  | some x=>
   have hc:=(aAo hl).2.2.2;rw[aAx hl,aJx (x:=x) (by omega),aJx (x:=x.owe m) (by show x.cu≠d;omega)]
 rw[key,key];omega
theorem aIl{ps:List Int}{c:Int}(p:Int):∀(l:List Fw) {ls:List Ln},LInv ps ls→aGa (aAu ps ls c) l→∀d,posL (aCc ps c ls l) p d=posL ls p d+(if d=c then netL l p else 0)
 | [],ls,_,_,d=>by show posL ls p d=posL ls p d+(if d=c then 0 else 0);split <;> omega
 | x::l,ls,h,⟨h1,h2,h3⟩,d=>by
  have e:aAu ps (aDb ps ls x.fr x.tt c x.am) c=aBu (aAu ps ls c) x.fr x.tt x.am:=by
   rw[room_push h];unfold aEn;rw[if_pos ⟨h1,h2⟩]
  show posL (aCc ps c (aDb ps ls x.fr x.tt c x.am) l) p d=_;rw[aIl p l (h.push _ _ _ _) (by rw[e];exact h3) d];obtain⟨k,k1,k2⟩:=aL4 (ps:=ps) (ls:=ls) h1 h2;rw[k]
  by_cases hd:d=c
  ·subst hd;rw[if_pos rfl,if_pos rfl,push_pos (ps:=ps) h.inv h1 h2 p];show _=_+((if x.tt=p then x.am else 0) - (if x.fr=p then x.am else 0)+netL l p);have e1:(if p=x.fr then x.am else 0)=(if x.fr=p then x.am else 0):=by simp only[eq_comm]
   have e2:(if p=x.tt then x.am else 0)=(if x.tt=p then x.am else 0):=by simp only[eq_comm]
   rw[e1,e2];omega
  rw[if_neg hd,if_neg hd,aKu h.inv k1 h1 k2 p (fun e=>hd e.symm)]
theorem aAm.good{f0:Int→Int→Int}{B s t want:Int}{σ:RS}(h:aAm f0 B s t want σ):aGa f0 σ.out∧aHk f0 σ.out=σ.f:=by
 obtain⟨k,h,_⟩:=h;exact⟨h.good,h.fold⟩
theorem aAm.net{f0:Int→Int→Int}{B s t want:Int}{σ:RS}(h:aAm f0 B s t want σ)(p:Int):netL σ.out p=(if t=p then want - σ.left else 0) - (if s=p then want - σ.left else 0):=by
 obtain⟨k,h,_⟩:=h;exact h.net p
theorem aAm.els{f0:Int→Int→Int}{B s t want:Int}{σ:RS}(h:aAm f0 B s t want σ):∀e∈σ.out,inP e.fr∧inP e.tt∧e.fr≠e.tt∧1≤e.am∧e.am≤B:=by
 obtain⟨k,h,_⟩:=h;exact h.els
def aCu(a b c n:Int):Prop:=inP a∧inP b∧a≠b∧1≤c∧c≤8∧1≤n∧n≤1099511627776
instance(a b c n:Int):Decidable (aCu a b c n):=by unfold aCu;infer_instance
def aCx(e0:Int)(has:Int→Bool)(a b c n got:Int):Int:=if e0=2 then 2 else if ¬aCu a b c n then 1 else if has a=false∨has b=false then 7 else if got<n then 11 else 0
theorem aNp(has:Int→Bool)(a b c n got:Int):(aCx 1 has a b c n got=1∧¬aCu a b c n)∨(aCx 1 has a b c n got=7∧aCu a b c n∧(has a=false∨has b=false))∨(aCx 1 has a b c n got=11∧aCu a b c n∧has a=true∧has b=true∧got<n)∨(aCx 1 has a b c n got=0∧aCu a b c n∧has a=true∧has b=true∧¬got<n):=by
 unfold aCx;rw[if_neg (by decide)]
 by_cases h1:aCu a b c n
 ·rw[if_neg (by simpa using h1)]
  by_cases h2:has a=false∨has b=false
  ·rw[if_pos h2];exact .inr (.inl ⟨rfl,h1,h2⟩)
  rw[if_neg h2];have h3:has a=true∧has b=true:=by simpa using h2
  by_cases h4:got<n
  ·rw[if_pos h4];exact .inr (.inr (.inl ⟨rfl,h1,h3.1,h3.2,h4⟩))
  rw[if_neg h4];exact .inr (.inr (.inr ⟨rfl,h1,h3.1,h3.2,h4⟩))
 rw[if_pos h1];exact .inl ⟨rfl,h1⟩
def payE(ps:List Int)(a b c n:Int)(σ:RS):Int:=aCx 1 (fun p=>decide (p∈ps)) a b c n (n - σ.left)
def payN(ps:List Int)(a b c n:Int)(σ:RS):Int:=if payE ps a b c n σ=0 then(σ.out.length:Int)else 0
def payL(ps:List Int)(ls:List Ln)(a b c n:Int)(σ:RS):List Ln:=if payE ps a b c n σ=0 then aCc ps c ls σ.out else ls
theorem aKv{ps:List Int}{ls:List Ln}(h:LInv ps ls)(a b c n:Int)(σ:RS):LInv ps (payL ps ls a b c n σ):=by
 unfold payL;split
 ·exact aEe _ h
 exact h
theorem ymay_any(p:Int)(w:World):Calls Tryz.prog 292 #[.int .u8 p] w (yS w (.bool (mayG p))):=by
 have hs:(¬1≤p∧mayG p=false)∨(1≤p∧p≤16∧mayG p=true)∨(1≤p∧¬p≤16∧mayG p=false):=by unfold mayG;simp;omega
 rcases hs with⟨h1,h2⟩|⟨h1,h3,h2⟩|⟨h1,h3,h2⟩
 all_goals
  rw[h2];clear h2;go_enter Tryz.func292,Tryz.ntmps292;go_wp2;go_ret;exact⟨rfl,rfl⟩
theorem pmay9_any(lp:Option Addr)(a b c n:Int)(ao:Option Addr)(k cap:Nat)(got:Int)(w:World):
  Calls Tryz.prog 264 #[.agg #[.pointer lp,.int .u8 a,.int .u8 b,.int .u8 c,.int .i64 n,.slice ao k cap,.int .i64 got]] w (yR w (.bool (decide (aCu a b c n)))):=by
 have B:=yH ((Below.refl w.heap.size w).alloc yL (.cells #[.pointer lp,.int .u8 a,.int .u8 b,.int .u8 c,.int .i64 n,.slice ao k cap,.int .i64 got] 283));have C1:=yH (ymay_any a);have C2:=yH (ymay_any b);obtain⟨r,hr⟩:∃r,decide (aCu a b c n)=r:=⟨_,rfl⟩;rw[hr]
 have hs:(mayG a=false∧r=false)∨(mayG a=true∧mayG b=false∧r=false)∨(mayG a=true∧mayG b=true∧(a==b)=true∧r=false)∨
   (mayG a=true∧mayG b=true∧(a==b)=false∧¬1≤c∧r=false)∨(mayG a=true∧mayG b=true∧(a==b)=false∧1≤c∧¬c≤8∧r=false)∨
   (mayG a=true∧mayG b=true∧(a==b)=false∧1≤c∧c≤8∧¬1≤n∧r=false)∨
   (mayG a=true∧mayG b=true∧(a==b)=false∧1≤c∧c≤8∧1≤n∧decide (n≤1099511627776)=false∧r=false)∨(mayG a=true∧mayG b=true∧(a==b)=false∧1≤c∧c≤8∧1≤n∧n≤1099511627776∧r=true):=by
  have hf:¬aCu a b c n→r=false:=fun h=>by rw[←hr];exact decide_eq_false h
  unfold aCu at hf hr
  by_cases h1:inP a
  ·by_cases h2:inP b
   ·by_cases h3:a=b
    ·exact .inr (.inr (.inl ⟨aA6 h1,aA6 h2,by simp[h3],hf (fun o=>o.2.2.1 h3)⟩))
    have h3':(a==b)=false:=by simp[h3]
    by_cases h4:1≤c
    ·by_cases h5:c≤8
     ·by_cases h6:1≤n
      ·by_cases h7:n≤1099511627776
       ·exact .inr (.inr (.inr (.inr (.inr (.inr (.inr ⟨aA6 h1,aA6 h2,h3',h4,h5,h6,h7,by rw[←hr];exact decide_eq_true ⟨h1,h2,h3,h4,h5,h6,h7⟩⟩))))))
       exact .inr (.inr (.inr (.inr (.inr (.inr (.inl ⟨aA6 h1,aA6 h2,h3',h4,h5,h6,by simp[h7],hf (fun o=>h7 o.2.2.2.2.2.2)⟩))))))
      exact .inr (.inr (.inr (.inr (.inr (.inl ⟨aA6 h1,aA6 h2,h3',h4,h5,h6,hf (fun o=>h6 o.2.2.2.2.2.1)⟩)))))
     exact .inr (.inr (.inr (.inr (.inl ⟨aA6 h1,aA6 h2,h3',h4,h5,hf (fun o=>h5 o.2.2.2.2.1)⟩))))
    exact .inr (.inr (.inr (.inl ⟨aA6 h1,aA6 h2,h3',h4,hf (fun o=>h4 o.2.2.2.1)⟩)))
   exact .inr (.inl ⟨aA6 h1,aDg h2,hf (fun o=>h2 o.2.1)⟩)
  exact .inl ⟨aDg h1,hf (fun o=>h1 o.1)⟩
 clear hr;have hneq:(a != b)=!(a==b):=rfl;rcases hs with⟨h1,h2⟩|⟨h1,h3,h2⟩|⟨h1,h3,h4,h2⟩|⟨h1,h3,h4,h5,h2⟩|⟨h1,h3,h4,h5,h6,h2⟩|⟨h1,h3,h4,h5,h6,h7,h2⟩|⟨h1,h3,h4,h5,h6,h7,h8,h2⟩|⟨h1,h3,h4,h5,h6,h7,h8,h2⟩
 ·rw[h1]at C1;rw[h2];clear h1 h2;go_enter Tryz.func264,Tryz.ntmps264;go_wp2_with fail;refine(C1.o _).mono ?_;rintro e w1 ⟨rfl,rfl⟩;go_wp2_with fail;go_ret;exact⟨rfl,B.o⟩
 all_goals
  rw[h1]at C1;rw[h3]at C2;rw[h2];clear h1 h3 h2;go_enter Tryz.func264,Tryz.ntmps264;go_wp2_with fail;refine(C1.o _).mono ?_;rintro e w1 ⟨rfl,rfl⟩;go_wp2_with fail;refine(C2.o _).mono ?_;rintro e w1 ⟨rfl,rfl⟩;go_wp2_with fail;go_ret;exact⟨rfl,B.o⟩
theorem popen0_any{w:World}{g m:Nat}{ps:List Int}{ls:List Ln}(h:LedM w g m ps ls):
  Calls Tryz.prog 151 #[.pointer (some ⟨g,0,none⟩),.int .u8 0] w (yS w (.int .i64 1)):=by
 have C1:=yH (aFd h.blk);have C2:=yH (aCl 0 w);rw[show mayP 0=false by rfl]at C2;clear h;go_enter Tryz.func151,Tryz.ntmps151;go_wp2_with fail;refine C1.o.mono ?_;rintro e w ⟨rfl,rfl⟩;go_wp2_with fail;refine C2.o.mono ?_;rintro e w ⟨rfl,rfl⟩;go_wp2_with fail;go_ret;exact⟨rfl,rfl⟩
abbrev payV(lp:Option Addr)(a b c n:Int)(ao:Option Addr)(k cap:Nat)(got:Int):Value:=.agg #[.pointer lp,.int .u8 a,.int .u8 b,.int .u8 c,.int .i64 n,.slice ao k cap,.int .i64 got]
structure aFv(w:World)(lp:Option Addr)(e0:Int)(has:Int→Bool):Prop where
 open0:∀w',Below w.heap.size w w'→Calls Tryz.prog 151 #[.pointer lp,.int .u8 0] w' fun e w''=>e=.returned (.int .i64 e0)∧w'=w''
 has:∀w',Below w.heap.size w w'→∀p,Calls Tryz.prog 67 #[.pointer lp,.int .u8 p] w' fun e w''=>e=.returned (.bool (has p))∧w'=w''
theorem aFv.below{w w':World}{lp:Option Addr}{e0:Int}{has:Int→Bool}(h:aFv w lp e0 has)(k:Below w.heap.size w w'):aFv w' lp e0 has:=⟨fun w2 q=>h.open0 w2 (andB k q),fun w2 q=>h.has w2 (andB k q)⟩
theorem aNq{w:World}{g m:Nat}{ps:List Int}{ls:List Ln}(h:LedM w g m ps ls)(hI:LInv ps ls):aFv w (some ⟨g,0,none⟩) 1 (fun p=>decide (p∈ps)):=
 ⟨fun w' k=>popen0_any (h.below k),fun w' k p=>aEd (h.below k).blk hI.bd p⟩
theorem chk1_any{w:World}{lp:Option Addr}{e0:Int}{has:Int→Bool}(h:aFv w lp e0 has)(a b c n:Int)(ao:Option Addr)(k cap:Nat)(got:Int):
  Calls Tryz.prog 262 #[payV lp a b c n ao k cap got] w (yR w (.bool (e0==2))):=by
 unfold payV;have bw:=(Below.refl w.heap.size w).alloc yL (.cells #[.pointer lp,.int .u8 a,.int .u8 b,.int .u8 c,.int .i64 n,.slice ao k cap,.int .i64 got] 283);have C:=yH (h.open0 _ bw);have B:=yH bw;clear bw h;go_enter Tryz.func262,Tryz.ntmps262;go_wp2_with fail;refine C.o.mono ?_;rintro e w1 ⟨rfl,rfl⟩;go_wp2_with fail;go_ret;exact⟨rfl,B.o⟩
theorem chk2_any(w:World)(lp:Option Addr)(a b c n:Int)(ao:Option Addr)(k cap:Nat)(got:Int):
  Calls Tryz.prog 263 #[payV lp a b c n ao k cap got] w (yR w (.bool (!decide (aCu a b c n)))):=by
 unfold payV;have bw:=(Below.refl w.heap.size w).alloc yL (.cells #[.pointer lp,.int .u8 a,.int .u8 b,.int .u8 c,.int .i64 n,.slice ao k cap,.int .i64 got] 283);have B:=yH bw;have C:=yH (pmay9_any lp a b c n ao k cap got);clear bw;generalize decide (aCu a b c n)=r at *;go_enter Tryz.func263,Tryz.ntmps263;go_wp2_with fail;refine(C.o _).mono ?_;rintro e w1 ⟨rfl,b1⟩;have B1:=yT B b1;clear b1;go_wp2_with fail;go_ret;exact⟨rfl,B1.o⟩
theorem chk3_any{w:World}{lp:Option Addr}{e0:Int}{has:Int→Bool}(h:aFv w lp e0 has)(a b c n:Int)(ao:Option Addr)(k cap:Nat)(got:Int):
  Calls Tryz.prog 265 #[payV lp a b c n ao k cap got] w (yR w (.bool (!has a || !has b))):=by
 unfold payV;have bw:=(Below.refl w.heap.size w).alloc yL (.cells #[.pointer lp,.int .u8 a,.int .u8 b,.int .u8 c,.int .i64 n,.slice ao k cap,.int .i64 got] 283);have C1:=yH (h.has _ bw a);have C2:=yH (h.has _ bw b);have B:=yH bw;clear bw h;generalize has a=x at *;generalize has b=y at *
 cases x
 ·go_enter Tryz.func265,Tryz.ntmps265;go_wp2_with fail;refine C1.o.mono ?_;rintro e w1 ⟨rfl,rfl⟩;go_wp2_with fail;go_ret;exact⟨rfl,B.o⟩
 go_enter Tryz.func265,Tryz.ntmps265;go_wp2_with fail;refine C1.o.mono ?_;rintro e w1 ⟨rfl,rfl⟩;go_wp2_with fail;refine C2.o.mono ?_;rintro e w1 ⟨rfl,rfl⟩;go_wp2_with fail;go_ret;exact⟨rfl,B.o⟩
theorem chk4_any(w:World)(lp:Option Addr)(a b c n:Int)(ao:Option Addr)(k cap:Nat)(got:Int):
  Calls Tryz.prog 266 #[payV lp a b c n ao k cap got] w (yR w (.bool (decide (got<n)))):=by
 unfold payV;have B:=yH ((Below.refl w.heap.size w).alloc yL (.cells #[.pointer lp,.int .u8 a,.int .u8 b,.int .u8 c,.int .i64 n,.slice ao k cap,.int .i64 got] 283));go_enter Tryz.func266,Tryz.ntmps266;go_wp2_with fail;go_ret;exact⟨rfl,B.o⟩
abbrev aNr:Array Value:=#[.int .i64 2,.func (.func 262) #[] #[],.int .i64 1,.func (.func 263) #[] #[],.int .i64 7,.func (.func 265) #[] #[],.int .i64 11,.func (.func 266) #[] #[]]
theorem checks_any(w:World):Calls Tryz.prog 230 #[] w fun e w'=>e=.returned (.slice (some ⟨w.heap.size,0,none⟩) 4 4)∧Blk w' w.heap.size aNr 332∧Below w.heap.size w w':=by
 have B:=yH ((Below.refl w.heap.size w).alloc yL (.cells aNr 332));have K:=yH (Blk.new w aNr 332);go_enter Tryz.func230,Tryz.ntmps230;go_wp2_with fail;go_ret;exact⟨rfl,K.o,B.o⟩
def WrongAt(e0:Int)(has:Int→Bool)(a b c n got:Int)(W:World)(i:Value)(wr:World):Prop:=
 ∃j:Int,0≤j∧j≤4∧i=.int .i64 j∧Below W.heap.size W wr∧(1≤j→e0≠2)∧(2≤j→aCu a b c n)∧(3≤j→has a=true∧has b=true)∧(4≤j→¬got<n)
theorem wrong_any{w:World}{lp:Option Addr}{e0:Int}{has:Int→Bool}(h:aFv w lp e0 has)(a b c n:Int)(ao:Option Addr)(k cap:Nat)(got:Int):
  Calls Tryz.prog 194 #[payV lp a b c n ao k cap got] w (yR w (.int .i64 (aCx e0 has a b c n got))):=by
 have bw:=(Below.refl w.heap.size w).alloc yL (.cells #[.pointer lp,.int .u8 a,.int .u8 b,.int .u8 c,.int .i64 n,.slice ao k cap,.int .i64 got] 283);have H:=yH (h.below bw);have KX:=yH (Blk.new w #[.pointer lp,.int .u8 a,.int .u8 b,.int .u8 c,.int .i64 n,.slice ao k cap,.int .i64 got] 283);have B:=yH bw;clear bw h;unfold payV;go_enter Tryz.func194,Tryz.ntmps194;go_wp2_with fail;generalize w.alloc (.cells #[.pointer lp,.int .u8 a,.int .u8 b,.int .u8 c,.int .i64 n,.slice ao k cap,.int .i64 got] 283)=W at *;refine(checks_any W).mono ?_;rintro e w1 ⟨rfl,hk,hb⟩;have K1:=yH hk;have B1:=yH hb;have hWs:=hk.lt;have hws:=KX.o.lt;clear hk hb;go_wp2_with fail
 go_loopw [7] (WrongAt e0 has a b c n got w1) (fun i _=>4 - (intOf i).toNat)
 case atStart=>exact⟨0,by omega,by omega,rfl,yZ,by omega,by omega,by omega,by omega⟩
 obtain⟨j,j0,j4,rfl,hB,e1,e2,e3,e4⟩:=hrel;have KC:=K1.o.below hB hWs;have KP:=(KX.o.below B1.o hws).below hB (yM hws B1.o.size);have HH:=yH ((H.o.below B1.o).below hB);have d0:=KP.cell 0;have d1:=KP.cell 1;have d2:=KP.cell 2;have d3:=KP.cell 3;have d4:=KP.cell 4;have d5:=KP.cell 5;have d6:=KP.cell 6;have hlp:=KP.lt;have hlc:=KC.lt;simp at d0 d1 d2 d3 d4 d5 d6;have BJ:=yH hB;have BT:=yH (B.o.trans ((B1.o.trans (hB.mono B1.o.size)).mono B.o.size));have c0:=KC.cell 0;have c1:=KC.cell 1;have c2:=KC.cell 2;have c3:=KC.cell 3;have c4:=KC.cell 4;have c5:=KC.cell 5;have c6:=KC.cell 6;have c7:=KC.cell 7;simp at c0 c1 c2 c3 c4 c5 c6 c7;clear hB KC KP;have hcase:j=0∨j=1∨j=2∨j=3∨j=4:=by omega
 rcases hcase with rfl|rfl|rfl|rfl|rfl
 ·have KT:=yH (Blk.new wr #[.int .i64 2,.func (.func 262) #[] #[]] 332);have bt:=(Below.refl wr.heap.size wr).alloc yL (.cells #[.int .i64 2,.func (.func 262) #[] #[]] 332);have CC:=yH (chk1_any (HH.o.below bt) a b c n ao k cap got);have BX:=yT BJ bt;have BY:=yT BT bt;clear bt
  by_cases hx:e0=2
  ·have E:Hid (aCx e0 has a b c n got=2):=yH (by
    unfold aCx;rw[if_pos hx])
   rw[show(e0==2)=true by simpa using hx]at CC;clear e1 e2 e3 e4 hx;go_wp2_with fail;refine CC.o.mono ?_;rintro e w2 ⟨rfl,b2⟩;have t0:=(KT.o.below b2 KT.o.lt).cell 0;have tl:=(KT.o.below b2 KT.o.lt).lt;simp at t0;have BZ:=yT BY b2;clear b2 CC c0 c1 c2 c3 c4 c5 c6 c7 d0 d1 d2 d3 d4 d5 d6;go_wp2_with fail;go_ret;exact⟨by rw[E.o];rfl,BZ.o⟩
  rw[show(e0==2)=false by simpa using hx]at CC;have N:Hid (e0≠2):=yH (by exact hx);have E1:=yH e1;have E2:=yH e2;have E3:=yH e3;clear e1 e2 e3 e4 hx;go_wp2_with fail;refine CC.o.mono ?_;rintro e w2 ⟨rfl,b2⟩;have BZ:=yT BX b2;clear b2 CC c0 c1 c2 c3 c4 c5 c6 c7 d0 d1 d2 d3 d4 d5 d6;go_wp2_with fail;exact⟨⟨1,by omega,by omega,rfl,BZ.o,fun _=>N.o,by omega,by omega,by omega⟩,by decide⟩
 ·have KT:=yH (Blk.new wr #[.int .i64 1,.func (.func 263) #[] #[]] 332);have bt:=(Below.refl wr.heap.size wr).alloc yL (.cells #[.int .i64 1,.func (.func 263) #[] #[]] 332);have CC:=yH (chk2_any (wr.alloc (.cells #[.int .i64 1,.func (.func 263) #[] #[]] 332)) lp a b c n ao k cap got);have BX:=yT BJ bt;have BY:=yT BT bt;clear bt
  by_cases hx:¬aCu a b c n
  ·have E:Hid (aCx e0 has a b c n got=1):=yH (by
    unfold aCx;rw[if_neg (e1 (by omega)),if_pos hx])
   rw[show(!decide (aCu a b c n))=true by simpa using hx]at CC;clear e1 e2 e3 e4 hx;go_wp2_with fail;refine CC.o.mono ?_;rintro e w2 ⟨rfl,b2⟩;have t0:=(KT.o.below b2 KT.o.lt).cell 0;have tl:=(KT.o.below b2 KT.o.lt).lt;simp at t0;have BZ:=yT BY b2;clear b2 CC c0 c1 c2 c3 c4 c5 c6 c7 d0 d1 d2 d3 d4 d5 d6;go_wp2_with fail;go_ret;exact⟨by rw[E.o];rfl,BZ.o⟩
  rw[show(!decide (aCu a b c n))=false by simpa using hx]at CC;have N:Hid (aCu a b c n):=yH (by simpa using hx);have E1:=yH e1;have E2:=yH e2;have E3:=yH e3;clear e1 e2 e3 e4 hx;go_wp2_with fail;refine CC.o.mono ?_;rintro e w2 ⟨rfl,b2⟩;have BZ:=yT BX b2;clear b2 CC c0 c1 c2 c3 c4 c5 c6 c7 d0 d1 d2 d3 d4 d5 d6;go_wp2_with fail;exact⟨⟨2,by omega,by omega,rfl,BZ.o,fun _=>E1.o (by omega),fun _=>N.o,by omega,by omega⟩,by decide⟩
 ·have KT:=yH (Blk.new wr #[.int .i64 7,.func (.func 265) #[] #[]] 332);have bt:=(Below.refl wr.heap.size wr).alloc yL (.cells #[.int .i64 7,.func (.func 265) #[] #[]] 332);have CC:=yH (chk3_any (HH.o.below bt) a b c n ao k cap got);have BX:=yT BJ bt;have BY:=yT BT bt;clear bt
  by_cases hx:has a=false∨has b=false
  ·have E:Hid (aCx e0 has a b c n got=7):=yH (by
    unfold aCx;rw[if_neg (e1 (by omega)),if_neg (by simpa using e2 (by omega)),if_pos hx])
   rw[show(!has a || !has b)=true by rcases hx with h|h <;> simp[h]]at CC;clear e1 e2 e3 e4 hx;go_wp2_with fail;refine CC.o.mono ?_;rintro e w2 ⟨rfl,b2⟩;have t0:=(KT.o.below b2 KT.o.lt).cell 0;have tl:=(KT.o.below b2 KT.o.lt).lt;simp at t0;have BZ:=yT BY b2;clear b2 CC c0 c1 c2 c3 c4 c5 c6 c7 d0 d1 d2 d3 d4 d5 d6;go_wp2_with fail;go_ret;exact⟨by rw[E.o];rfl,BZ.o⟩
  rw[show(!has a || !has b)=false by simp at hx;simp[hx]]at CC;have N:Hid (has a=true∧has b=true):=yH (by simpa using hx);have E1:=yH e1;have E2:=yH e2;have E3:=yH e3;clear e1 e2 e3 e4 hx;go_wp2_with fail;refine CC.o.mono ?_;rintro e w2 ⟨rfl,b2⟩;have BZ:=yT BX b2;clear b2 CC c0 c1 c2 c3 c4 c5 c6 c7 d0 d1 d2 d3 d4 d5 d6;go_wp2_with fail;exact⟨⟨3,by omega,by omega,rfl,BZ.o,fun _=>E1.o (by omega),fun _=>E2.o (by omega),fun _=>N.o,by omega⟩,by decide⟩
 ·have KT:=yH (Blk.new wr #[.int .i64 11,.func (.func 266) #[] #[]] 332);have bt:=(Below.refl wr.heap.size wr).alloc yL (.cells #[.int .i64 11,.func (.func 266) #[] #[]] 332);have CC:=yH (chk4_any (wr.alloc (.cells #[.int .i64 11,.func (.func 266) #[] #[]] 332)) lp a b c n ao k cap got);have BX:=yT BJ bt;have BY:=yT BT bt;clear bt
  by_cases hx:got<n
  ·have E:Hid (aCx e0 has a b c n got=11):=yH (by
    unfold aCx;rw[if_neg (e1 (by omega)),if_neg (by simpa using e2 (by omega)),if_neg (by simp[e3 (by omega)]),if_pos hx])
   rw[show decide (got<n)=true by simpa using hx]at CC;clear e1 e2 e3 e4 hx;go_wp2_with fail;refine CC.o.mono ?_;rintro e w2 ⟨rfl,b2⟩;have t0:=(KT.o.below b2 KT.o.lt).cell 0;have tl:=(KT.o.below b2 KT.o.lt).lt;simp at t0;have BZ:=yT BY b2;clear b2 CC c0 c1 c2 c3 c4 c5 c6 c7 d0 d1 d2 d3 d4 d5 d6;go_wp2_with fail;go_ret;exact⟨by rw[E.o];rfl,BZ.o⟩
  rw[show decide (got<n)=false by simpa using hx]at CC;have N:Hid (¬got<n):=yH (by exact hx);have E1:=yH e1;have E2:=yH e2;have E3:=yH e3;clear e1 e2 e3 e4 hx;go_wp2_with fail;refine CC.o.mono ?_;rintro e w2 ⟨rfl,b2⟩;have BZ:=yT BX b2;clear b2 CC c0 c1 c2 c3 c4 c5 c6 c7 d0 d1 d2 d3 d4 d5 d6;go_wp2_with fail;exact⟨⟨4,by omega,by omega,rfl,BZ.o,fun _=>E1.o (by omega),fun _=>E2.o (by omega),fun _=>E3.o (by omega),fun _=>by have:=N.o;omega⟩,by decide⟩
 have E:Hid (aCx e0 has a b c n got=0):=yH (by
  unfold aCx;rw[if_neg (e1 (by omega)),if_neg (by simpa using e2 (by omega)),if_neg (by simp[e3 (by omega)]),if_neg (e4 (by omega))])
 clear e1 e2 e3 e4 d0 d1 d2 d3 d4 d5 d6 c0 c1 c2 c3 c4 c5 c6 c7;go_wp2_with fail;go_ret;exact⟨by rw[E.o];rfl,BT.o⟩
def PayAt(w:World)(G M:Nat)(ps:List Int)(ls:List Ln)(c:Int)(l:List Fw)(W:World)(i:Value)(wr:World):Prop:=
 ∃k:Nat,k≤l.length∧i=.int .i64 k∧LedM wr G M ps (aCc ps c ls (l.take k))∧Keep (·=M) W wr
theorem ppay_any(HR:aD0){w:World}{G M:Nat}{ps:List Int}{ls:List Ln}{a b c n:Int}{σ:RS}(h:LedM w G M ps ls)(hI:LInv ps ls)(ha:In8 a)(hb:In8 b)(hc:In8 c)(hn:In64 n)(hσ:aAm (aAu ps ls c) 4398046511104 a b n σ):
  Calls Tryz.prog 153 #[.pointer (some ⟨G,0,none⟩),.int .u8 a,.int .u8 b,.int .u8 c,.int .i64 n] w fun e w'=>e=.returned (.tuple #[.int .i64 (payN ps a b c n σ),.int .i64 (payE ps a b c n σ)])∧LedM w' G M ps (payL ps ls a b c n σ)∧Keep (·=M) w w':=by
 have bw:=(Below.refl w.heap.size w).alloc yL (.cells #[.pointer (some ⟨G,0,none⟩),.int .u8 a,.int .u8 b,.int .u8 c,.int .i64 n,.slice none 0 0,.int .i64 0] 283);have L1:=yH (h.below bw);have KX:=yH (Blk.new w #[.pointer (some ⟨G,0,none⟩),.int .u8 a,.int .u8 b,.int .u8 c,.int .i64 n,.slice none 0 0,.int .i64 0] 283);have B0:=yH bw;have hGl:=h.blk.lt;have hMl:=h.map.lt;have II:=yH hI;have HA:=yH ha;have HB:=yH hb;have HC:=yH hc;have HN:=yH hn;have HS:=yH hσ;have hsl:=hσ.len;clear bw h hI ha hb hc hn hσ;go_enter Tryz.func153,Tryz.ntmps153;go_wp2_with fail;generalize w.alloc (.cells #[.pointer (some ⟨G,0,none⟩),.int .u8 a,.int .u8 b,.int .u8 c,.int .i64 n,.slice none 0 0,.int .i64 0] 283)=W at *;have hwW:=B0.o.size;have hXl:=KX.o.lt;refine(gof_led L1.o II.o HC.o).mono ?_;rintro e w1 ⟨rfl,hk,hb1⟩;have CR:=yH (HR.at_ (IsM.of hk) (aA3 II.o c) HA.o HB.o HN.o HS.o);have L2:=yH (L1.o.below hb1);have K2:=yB KX hb1;have B2:=yH (B0.o.trans (hb1.mono hwW));have hWw1:=hb1.size;obtain⟨got,hgot⟩:∃got,n - σ.left=got:=⟨_,rfl⟩;rw[hgot]at CR;have HG:=yH hgot;clear hk hb1 L1 KX B0 hgot;go_wp2_with fail;refine CR.o.mono ?_;rintro e w3 ⟨v',rfl,hr,hb3⟩;obtain⟨ao,cap,rfl,hcap,hmx,_,hrow⟩:=hr.look (by decide);have L3:=yH (L2.o.below hb3);have K3:=yB K2 hb3;have B3:=yT B2 hb3;have R3:=yH hr;have d5:=K3.o.cell 5;have d6:=K3.o.cell 6;have f5:=K3.o.frozen 5;have f6:=K3.o.frozen 6;have l3:=K3.o.lt;have b2s:=B2.o.size;simp at d5 d6;clear hb3 hr L2 K2 B2 CR hrow
 go_upto_region 3 with fail
 have K4:=(K3.o.set 5 (.slice ao σ.out.length cap)).set 6 (.int .i64 got);have E4:=yH ((Keep.refl (·=w.heap.size) w3).setCell (p:=⟨w.heap.size,5,none⟩) (.inl rfl) (.slice ao σ.out.length cap) |>.setCell (p:=⟨w.heap.size,6,none⟩) (.inl rfl) (.int .i64 got));have B4:=yH ((B3.o.setCell (p:=⟨w.heap.size,5,none⟩) yL (.slice ao σ.out.length cap)).setCell (p:=⟨w.heap.size,6,none⟩) yL (.int .i64 got));have L4:=yH (L3.o.keep E4.o (by show ¬G=w.heap.size;omega) (by show ¬M=w.heap.size;omega));have R4:=yH (R3.o.keep E4.o (fun bb hbb=>by have:=(R3.o.type hbb).1;show ¬bb=w.heap.size;omega));have KX4:=yH (show Blk _ w.heap.size #[.pointer (some ⟨G,0,none⟩),.int .u8 a,.int .u8 b,.int .u8 c,.int .i64 n,.slice ao σ.out.length cap,.int .i64 got] 283 from by simpa using K4);clear K3 B3 L3 R3 E4 d5 d6 f5 f6 l3 K4;generalize (w3.setCell ⟨w.heap.size,5,none⟩ (.slice ao σ.out.length cap)).setCell ⟨w.heap.size,6,none⟩ (.int .i64 got)=W4 at *;have d0:=KX4.o.cell 0;have d1:=KX4.o.cell 1;have d2:=KX4.o.cell 2;have d3:=KX4.o.cell 3;have d4:=KX4.o.cell 4;have d5:=KX4.o.cell 5;have d6:=KX4.o.cell 6;have hl4:=KX4.o.lt;simp at d0 d1 d2 d3 d4 d5 d6;have CW:=yH (wrong_any (aNq L4.o II.o) a b c n ao σ.out.length cap got);obtain⟨er,her⟩:∃er,aCx 1 (fun p=>decide (p∈ps)) a b c n got=er:=⟨_,rfl⟩;rw[her]at CW;have EE:Hid (payE ps a b c n σ=er):=yH (by unfold payE;rw[HG.o];exact her);clear her
 by_cases h0:er=0
 ·subst h0;have PN:Hid (payN ps a b c n σ=(σ.out.length:Int)∧payL ps ls a b c n σ=aCc ps c ls σ.out):=yH (by unfold payN payL;rw[if_pos EE.o,if_pos EE.o];exact⟨rfl,rfl⟩);go_wp2_with fail;refine CW.o.mono ?_;rintro e w5 ⟨rfl,hb5⟩;have L5:=yH (L4.o.below hb5);have B5:=yT B4 hb5;have R5:=yH (R4.o.below hb5);have KX5:=yH (KX4.o.below hb5 hl4);clear hb5 L4 B4 R4 CW d0 d1 d2 d3 d4 d5 d6 KX4 hl4;have d5:=KX5.o.cell 5;have hl5:=KX5.o.lt;simp at d5;obtain⟨L,hL⟩:∃L,σ.out=L:=⟨_,rfl⟩;have EL:=yH (HS.o.els);have hGM:G≠M:=fun e=>L5.o.ne e.symm
  rw[hL]at R5 PN EL hsl hcap d5 KX5 ⊢;have hb1w:w.heap.size<w1.heap.size:=by omega
  go_wp2_with fail
  go_loopw [42] (PayAt w G M ps ls c L w5) (fun i _=>L.length - (intOf i).toNat)
  case atStart=>exact⟨0,by omega,rfl,L5.o,Keep.refl _ _⟩
  obtain⟨k,hk,rfl,hLL,hKK⟩:=hrel;have LL:=yH hLL;have KK:=yH hKK;have RR:=yH (R5.o.keep hKK (fun bb hbb=>by have:=(R5.o.type hbb).1;show ¬bb=M;omega));have KZ:=yH (KX5.o.keep hKK (by show ¬w.heap.size=M;omega));clear hLL hKK
  by_cases hkl:k<L.length
  ·have hki:(k:Int)<(L.length:Int):=by omega
   have hk0:(0:Int)≤(k:Int):=by omega
   have q0:decide ((k:Int)<(L.length:Int))=true:=by simpa using hkl
   obtain⟨ao1,ca1,hv,_,_,_,hlk⟩:=RR.o.look (by decide);simp only[Value.slice.injEq]at hv;obtain⟨h1,_,h2⟩:=hv;subst h1;subst h2;obtain⟨bl,rfl,hblb,hbl,hc,_⟩:=hlk (by omega);clear hlk;have e0:=(hc (k*3+0) (by omega)).trans (aD9 L k 0 (by omega) hkl);have e1:=(hc (k*3+1) (by omega)).trans (aD9 L k 1 (by omega) hkl);have e2:=(hc (k*3+2) (by omega)).trans (aD9 L k 2 (by omega) hkl);rw[Nat.add_zero]at e0;clear hc;have NX:=yH (aL3 (ps:=ps) (c:=c) (ls:=ls) hkl);have el:=EL.o L[k] (List.getElem_mem _);have IK:=yH (aEe (ps:=ps) (c:=c) (L.take k) II.o);generalize aCc ps c ls (L.take k)=lk at *;obtain⟨x,hx⟩:∃x,L[k]=x:=⟨_,rfl⟩;rw[hx]at NX el e0 e1 e2;clear hx;obtain⟨fr,tt,am⟩:=x;obtain⟨⟨a1,a2⟩,⟨b1,b2⟩,_,n1,n2⟩:=el;dsimp only at a1 a2 b1 b2 n1 n2 NX;simp[Fw.vals]at e0 e1 e2;have bt:=(Below.refl wr.heap.size wr).alloc yL (.cells #[.int .u8 fr,.int .u8 tt,.int .i64 am] 209);have CP:=yH (ppush_any (LL.o.below bt) IK.o (a:=fr) (b:=tt) (c:=c) (n:=am) ⟨by omega,by omega⟩ ⟨by omega,by omega⟩ HC.o ⟨by omega,by omega⟩);have KT:=yH (KK.o.trans (pAD (S:=(·=M)) bt));have HK:=yH hkl;clear bt a1 a2 b1 b2 n1 n2;go_wp2_with fail;refine CP.o.mono ?_;rintro e w6 ⟨rfl,hL6,k6⟩;have L6:=yH hL6;have K6:=yH (KT.o.trans k6);clear hL6 k6 CP e0 e1 e2;go_wp2_with fail;exact⟨⟨k+1,by have:=HK.o;omega,by go_num,by rw[NX.o];exact L6.o,K6.o⟩,by simp[intOf];have:=HK.o;omega⟩
  have hkn:k=L.length:=by omega
  subst hkn;have q0:decide (((L.length:Nat):Int)<(L.length:Int))=false:=by simp
  rw[List.take_length]at LL;have d5:=KZ.o.cell 5;have hl5:=KZ.o.lt;simp at d5;have BE:=yH ((pAD (S:=(·=M)) B5.o).trans KK.o);go_wp2_with fail;refine bodyPost_ret (v:=.tuple #[.int .i64 (L.length:Nat),.int .i64 0]) (by simp[results,Tryz.results153,go_sem]) rfl ?_;rw[PN.o.1,PN.o.2,EE.o];exact⟨rfl,LL.o,BE.o⟩
 have q0:(er==0)=false:=by simpa using h0
 have PN:Hid (payN ps a b c n σ=0∧payL ps ls a b c n σ=ls):=yH (by unfold payN payL;rw[if_neg (by rw[EE.o];exact h0),if_neg (by rw[EE.o];exact h0)];exact⟨rfl,rfl⟩);clear h0;go_wp2_with fail;refine CW.o.mono ?_;rintro e w5 ⟨rfl,hb5⟩;have L5:=yH (L4.o.below hb5);have B5:=yT B4 hb5;clear hb5 L4 B4 R4 CW d0 d1 d2 d3 d4 d5 d6 KX4;go_wp2_with fail;refine bodyPost_ret (v:=.tuple #[.int .i64 0,.int .i64 er]) (by simp[results,Tryz.results153,go_sem]) rfl ?_;rw[PN.o.1,PN.o.2,EE.o];exact⟨rfl,L5.o,pAD B5.o⟩
def whole(neg:Bool)(f:Nat→Bool):Array Value:=#[Value.bool neg]++arr f
attribute [irreducible] whole
def okN(x:Int):Int:=if In64 x then x else 0
def erN(x:Int):Int:=if In64 x then 0 else 10
def ans(x:Int):Value:=.tuple #[.int .i64 (okN x),.int .i64 (erN x)]
def upN(n den:Int):Int:=if n%den=0 then n/den else n/den+1
def upV(a num den:Int):Value:=if a<0∨num<0∨den<1 then .tuple #[.int .i64 0,.int .i64 1]else ans (upN (a*num) den)
theorem ans_of(x:Int)(h:In64 x):ans x=.tuple #[.int .i64 x,.int .i64 0]:=by simp[ans,okN,erN,h]
theorem aHe(a b:Int):(if a<b then b else a)=max a b:=by split <;> omega
theorem aKw(x y k:Int):Int.gcd (x - y*k) y=Int.gcd x y:=by
 rw[Int.sub_eq_add_neg,←Int.mul_neg];exact Int.gcd_add_mul_left_left y x (-k)
theorem aFw(x y k:Int)(hy:1≤y)(hxy:y<x)(hk:k=max 1 (x/y - 1)):1≤x - y*k∧x - y*k<x∧1≤k∧y*k<x:=by
 have hd:=Int.mul_ediv_add_emod x y;have hm:=Int.emod_nonneg x (show y≠0 by omega)
 have hq:1≤x/y:=by
  rcases Int.lt_or_le (x/y) 1 with h|h
  ·have:=Int.emod_lt_of_pos x (show 0<y by omega);have h2:y*(x/y)≤y*0:=Int.mul_le_mul_of_nonneg_left (by omega) (by omega);omega
  exact h
 have hk1:1≤k:=by omega
 have hyk:y≤y*k:=by have:=Int.mul_le_mul_of_nonneg_left hk1 (show 0≤y by omega);omega
 have hlt:y*k<x:=by
  by_cases h:x/y=1
  ·have:k=1:=by omega
   subst this;omega
  have:k=x/y - 1:=by omega
  have e:y*k=y*(x/y) - y:=by rw[this,Int.mul_sub,Int.mul_one]
  omega
 omega
def CommonAt(g:Nat)(u v:Value):Prop:=∃x y:Int,u=.int .i64 x∧v=.int .i64 y∧1≤x∧1≤y∧x≤9223372036854775807∧y≤9223372036854775807∧Int.gcd x y=g
theorem aHf(x y:Int)(hy:1≤y)(hx:x≤9223372036854775807)(hxy:y<x):
  wrap64 (x - wrap64 (y*max 1 (wrap64 (wrap64 (x/y) - 1))))=x - y*max 1 (x/y - 1):=by
 obtain⟨h1,h2,h3,h4⟩:=aFw x y _ hy hxy rfl;have hq0:=Int.ediv_nonneg (show 0≤x by omega) (show 0≤y by omega);have hq1:=Int.ediv_le_self y (show 0≤x by omega);rw[aDy (x/y) ⟨by omega,by omega⟩,aDy (x/y - 1) ⟨by omega,by omega⟩];generalize max 1 (x/y - 1)=k at *;have hyk:0≤y*k:=Int.mul_nonneg (by omega) (by omega);rw[aDy (y*k) ⟨by omega,by omega⟩,aDy (x - y*k) ⟨by omega,by omega⟩]
theorem common_any(a b:Int)(w:World)(ha:In64 a)(hb:In64 b)(h1:1≤a)(h2:1≤b):
  Calls Tryz.prog 191 #[.int .i64 a,.int .i64 b] w (yV w (.int .i64 (Int.gcd a b))):=by
 have HA:=yH ha;have HB:=yH hb;clear ha hb;go_enter Tryz.func191,Tryz.ntmps191;go_wp2
 go_loopw [0,1] (fun u v wr=>CommonAt (Int.gcd a b) u v∧wr=w) (fun u v _=>(intOf u+intOf v).toNat)
 case atStart=>exact⟨⟨a,b,rfl,rfl,h1,h2,HA.o.2,HB.o.2,rfl⟩,rfl⟩
 obtain⟨⟨x,y,rfl,rfl,hx1,hy1,hx2,hy2,hg⟩,rfl⟩:=hrel;have HG:=yH hg;clear hg;rcases Int.lt_trichotomy x y with hlt|heq|hgt
 ·obtain⟨q1,q2,q3,q4⟩:=aFw y x _ hx1 hlt rfl;have hw:=aHf y x hx1 hy2 hlt;have hs:=aKw y x (max 1 (y/x - 1));have e1:Int.tdiv y x=y/x:=Int.tdiv_eq_ediv_of_nonneg (by omega);have hne:(x==y)=false:=by simp;omega
  have hng:¬x > y:=by omega
  have HW:=yH hw;have HS:=yH hs;have Q1:=yH q1;have Q2:=yH q2;have HL:=yH hy2;have HX:=yH hx2;clear hw hs q1 q2 q3 q4;go_wp2;refine⟨⟨⟨x,_,rfl,rfl,hx1,?_,hx2,?_,?_⟩,trivial⟩,?_⟩
  ·(try rw[aHe]);rw[HW.o];exact Q1.o
  ·(try rw[aHe]);rw[HW.o];have:=Q2.o;omega
  ·(try rw[aHe]);rw[HW.o,Int.gcd_comm,HS.o,Int.gcd_comm];exact HG.o
  (try rw[aHe]);rw[HW.o];have:=Q1.o;have:=Q2.o;simp[intOf];omega
 ·subst heq;have e:Int.gcd x x=x:=by rw[Int.gcd_self];omega
  have hnn:(x != x)=false:=by simp
  go_wp2;go_ret;exact⟨by rw[←HG.o,e];rfl,rfl⟩
 obtain⟨q1,q2,q3,q4⟩:=aFw x y _ hy1 hgt rfl;have hw:=aHf x y hy1 hx2 hgt;have hs:=aKw x y (max 1 (x/y - 1));have e1:Int.tdiv x y=x/y:=Int.tdiv_eq_ediv_of_nonneg (by omega);have hne:(x==y)=false:=by simp;omega
 have HW:=yH hw;have HS:=yH hs;have Q1:=yH q1;have Q2:=yH q2;clear hw hs q1 q2 q3 q4;go_wp2;refine⟨⟨⟨_,y,rfl,rfl,?_,hy1,?_,hy2,?_⟩,trivial⟩,?_⟩
 ·(try rw[aHe]);rw[HW.o];exact Q1.o
 ·(try rw[aHe]);rw[HW.o];have:=Q2.o;omega
 ·(try rw[aHe]);rw[HW.o,HS.o];exact HG.o
 (try rw[aHe]);rw[HW.o];have:=Q1.o;have:=Q2.o;simp[intOf];omega
def MayN(n d:Int):Prop:=1≤n∧1≤d∧n≤1099511627776∧d≤1099511627776∧Int.gcd n d=1
instance(n d:Int):Decidable (MayN n d):=inferInstanceAs (Decidable (_∧_))
def mayB(n d:Int):Bool:=decide (MayN n d)
theorem aHy{n d:Int}(h:¬(1≤n∧1≤d∧n≤1099511627776∧d≤1099511627776)):mayB n d=false:=
 decide_eq_false (fun k:MayN n d=>h ⟨k.1,k.2.1,k.2.2.1,k.2.2.2.1⟩)
theorem mayB_in{n d:Int}(h:1≤n∧1≤d∧n≤1099511627776∧d≤1099511627776):mayB n d=((Int.gcd n d:Int)==1):=by
 by_cases k:Int.gcd n d=1
 ·have e1:mayB n d=true:=decide_eq_true (show MayN n d from⟨h.1,h.2.1,h.2.2.1,h.2.2.2,k⟩);rw[e1,k];rfl
 have e1:mayB n d=false:=decide_eq_false (fun e:MayN n d=>k e.2.2.2.2);rw[e1];symm;simp;omega
theorem rrmay_any(n d:Int)(w:World):
  Calls Tryz.prog 149 #[.agg #[.int .i64 n,.int .i64 d]] w (yR w (.bool (mayB n d))):=by
 have hs:n<1∨(1≤n∧d<1)∨(1≤n∧1≤d∧1099511627776<n)∨(1≤n∧1≤d∧n≤1099511627776∧1099511627776<d)∨(1≤n∧1≤d∧n≤1099511627776∧d≤1099511627776):=by omega
 have hb:Below w.heap.size w (w.alloc (.cells #[.int .i64 n,.int .i64 d] 73)):=yZ.alloc yL _;have HB:=yH hb;clear hb;rcases hs with h1|⟨h1,h2⟩|⟨h1,h2,h3⟩|⟨h1,h2,h3,h4⟩|⟨h1,h2,h3,h4⟩
 ·have HM:=yH (aHy (n:=n) (d:=d) (by omega));go_enter Tryz.func149,Tryz.ntmps149;go_wp2;go_ret;exact⟨by rw[HM.o];rfl,HB.o⟩
 ·have HM:=yH (aHy (n:=n) (d:=d) (by omega));go_enter Tryz.func149,Tryz.ntmps149;go_wp2;go_ret;exact⟨by rw[HM.o];rfl,HB.o⟩
 ·have HM:=yH (aHy (n:=n) (d:=d) (by omega));go_enter Tryz.func149,Tryz.ntmps149;go_wp2;go_ret;exact⟨by rw[HM.o];rfl,HB.o⟩
 ·have HM:=yH (aHy (n:=n) (d:=d) (by omega));go_enter Tryz.func149,Tryz.ntmps149;go_wp2;go_ret;exact⟨by rw[HM.o];rfl,HB.o⟩
 have HM:=yH (mayB_in (n:=n) (d:=d) ⟨h1,h2,h3,h4⟩);have c:=yH (fun w=>common_any n d w ⟨by omega,by omega⟩ ⟨by omega,by omega⟩ h1 h2);go_enter Tryz.func149,Tryz.ntmps149;go_wp2_with fail;refine(c.out _).mono ?_;rintro e w1 ⟨rfl,rfl⟩;go_wp2_with fail;go_ret;exact⟨by rw[HM.o];rfl,HB.o⟩
def upV2(a n d:Int):Value:=if mayB n d then upV a n d else .tuple #[.int .i64 0,.int .i64 1]
theorem gcd_mod(a b:Int):Int.gcd b (a%b)=Int.gcd a b:=by
 have:=aKw a b (a/b);rw[show a - b*(a/b)=a%b by have:=Int.mul_ediv_add_emod a b;omega]at this;rw[Int.gcd_comm,this]
theorem aNs(a b:Int)(w:World)(ha:In64 a)(hb:In64 b)(h1:1≤a)(h2:1≤b):
  Calls Tryz.prog 258 #[.int .i64 a,.int .i64 b] w (yR w (.int .i64 (Int.gcd a b))):=by
 have HA:=yH ha;have HB:=yH hb;clear ha hb;go_enter Tryz.func258,Tryz.ntmps258;go_wp2;refine wp_scope_jumps 0 (fun a' w'=>Below w.heap.size w w'∧∃(x y:Int) (u2 u3 u4 u5 u6 u7 u8 u9 u10 u11:Value),a'={ tmps:=#[.int .i64 x,.int .i64 y,u2,u3,u4,u5,u6,u7,u8,u9,u10,u11],defers:=[] }∧1≤x∧0≤y∧x≤9223372036854775807∧y≤9223372036854775807∧Int.gcd x y=Int.gcd a b) (fun a' _=>(intOf (a'.tmps.getD 1 undef)).toNat) rfl ?_ ?_
 ·by_cases hb:b=0
  ·omega
  have hnb:(b==0)=false:=by simp;omega
  have HG:=yH (gcd_mod a b);have HLT:=yH (Int.emod_lt_of_pos a (show 0<b by omega));have HGE:=yH (Int.emod_nonneg a hb);go_wp2
  go_step3
  go_wp2
  go_region
  all_goals
   go_wp2
   go_step3
   exact⟨rfl,yZ.drew,b,_,_,_,_,_,_,_,_,_,_,_,rfl,h2,HGE.o,HB.o.2,by have:=HLT.o;have:=HB.o.2;omega,HG.o⟩
 rintro a' w' ⟨bel,x,y,u2,u3,u4,u5,u6,u7,u8,u9,u10,u11,rfl,hx,hy,hx2,hy2,hg⟩;have HG:=yH hg;clear hg
 by_cases hb:y=0
 ·subst hb;have e:((Int.gcd x 0:Nat):Int)=x:=by rw[Int.gcd_zero_right];omega
  have hnn:((0:Int)==0)=true:=rfl;go_wp2;simp only[Exit.jump];go_ret;exact⟨by rw[←HG.o,e];rfl,bel⟩
 have hnb:(y==0)=false:=by simp;omega
 have HS:=yH (gcd_mod x y);have HLT:=yH (Int.emod_lt_of_pos x (show 0<y by omega));have HGE:=yH (Int.emod_nonneg x hb);go_wp2
 go_region
 all_goals
  go_wp2
  go_step3
  refine⟨rfl,⟨bel.drew,y,_,_,_,_,_,_,_,_,_,_,_,rfl,by omega,HGE.o,hy2,by have:=HLT.o;omega,by rw[HS.o];exact HG.o⟩,?_⟩;have:=HLT.o;have:=HGE.o;simp[intOf];omega
def ofRN(n d:Int):Int:=if n<1∨d<1 then 0 else if 1099511627776<n/Int.gcd n d∨1099511627776<d/Int.gcd n d then 0 else n/Int.gcd n d
def ofD(n d:Int):Int:=if n<1∨d<1 then 0 else if 1099511627776<n/Int.gcd n d∨1099511627776<d/Int.gcd n d then 0 else d/Int.gcd n d
def ofE(n d:Int):Int:=if n<1∨d<1 then 1 else if 1099511627776<n/Int.gcd n d∨1099511627776<d/Int.gcd n d then 10 else 0
def ofV(n d:Int):Value:=.tuple #[.agg #[.int .i64 (ofRN n d),.int .i64 (ofD n d)],.int .i64 (ofE n d)]
theorem ofV_arg{n d:Int}(h:n<1∨d<1):ofV n d=.tuple #[.agg #[.int .i64 0,.int .i64 0],.int .i64 1]:=by simp[ofV,ofRN,ofD,ofE,h]
theorem ofV_over{n d g:Int}(h:1≤n)(h2:1≤d)(hg:(Int.gcd n d:Int)=g)(ho:1099511627776<n/g∨1099511627776<d/g):ofV n d=.tuple #[.agg #[.int .i64 0,.int .i64 0],.int .i64 10]:=by
 have hn:¬(n<1∨d<1):=by omega
 subst hg;simp[ofV,ofRN,ofD,ofE,hn,ho]
theorem ofV_good{n d g:Int}(h:1≤n)(h2:1≤d)(hg:(Int.gcd n d:Int)=g)(ho:¬(1099511627776<n/g∨1099511627776<d/g)):ofV n d=.tuple #[.agg #[.int .i64 (n/g),.int .i64 (d/g)],.int .i64 0]:=by
 have hn:¬(n<1∨d<1):=by omega
 subst hg;simp[ofV,ofRN,ofD,ofE,hn,ho]
theorem gcd_bd{n d:Int}(h:1≤n)(hd:1≤d):(1:Int)≤Int.gcd n d∧0≤n/Int.gcd n d∧n/Int.gcd n d≤n∧0≤d/Int.gcd n d∧d/Int.gcd n d≤d:=by
 have h1:0<Int.gcd n d:=Int.gcd_pos_of_ne_zero_left _ (by omega);exact⟨by omega,Int.ediv_nonneg (by omega) (by omega),Int.ediv_le_self _ (by omega),Int.ediv_nonneg (by omega) (by omega),Int.ediv_le_self _ (by omega)⟩
theorem of_arg(n d:Int)(w:World)(h:n<1∨d<1):
  Calls Tryz.prog 223 #[.int .i64 n,.int .i64 d] w (yR w (ofV n d)):=by
 rw[ofV_arg h];have q2:Blk (w.alloc (.cells #[.int .i64 0,.int .i64 0] 73)) w.heap.size #[.int .i64 0,.int .i64 0] 73:=Blk.new _ _ _;have hlt:=q2.lt;clear q2;have hs:n<1∨(1≤n∧d<1):=by omega
 clear h;rcases hs with h1|⟨h1,h2⟩
 all_goals
  go_enter Tryz.func223,Tryz.ntmps223;go_wp2;refine bodyPost_ret (v:=.tuple #[.agg #[.int .i64 0,.int .i64 0],.int .i64 1]) (aA5 rfl _ _ w.heap.size 73 #[.int .i64 0,.int .i64 0] _ _ rfl (Blk.new w #[.int .i64 0,.int .i64 0] 73).out Tryz.underlying73 rfl (by kernel_rfl) rfl) rfl ⟨rfl,?_⟩;exact(yZ.alloc yL _)
theorem of_two(n d g x y:Int)(w:World)(h1:1≤n)(h2:1≤d)(hn:In64 n)(hd:In64 d)(hg:(Int.gcd n d:Int)=g)(hx:n/g=x)(hy:d/g=y)(hx0:0≤x)(hy0:0≤y)(hxn:x≤n)(hyd:y≤d)(hg0:1≤g):
  Calls Tryz.prog 223 #[.int .i64 n,.int .i64 d] w fun e w'=>e=.returned (if 1099511627776<x∨1099511627776<y then .tuple #[.agg #[.int .i64 0,.int .i64 0],.int .i64 10]else .tuple #[.agg #[.int .i64 x,.int .i64 y],.int .i64 0])∧Below w.heap.size w w':=by
 have c:=yH (fun w=>aNs n d w hn hd h1 h2);rw[hg]at c;have e1:Int.tdiv n g=x:=by rw[←hx];exact Int.tdiv_eq_ediv_of_nonneg (by omega)
 have e2:Int.tdiv d g=y:=by rw[←hy];exact Int.tdiv_eq_ediv_of_nonneg (by omega)
 have ew1:wrap64 x=x:=aDy x ⟨by omega,by have:=hn.2;omega⟩;have ew2:wrap64 y=y:=aDy y ⟨by omega,by have:=hd.2;omega⟩;have q2:Blk (w.alloc (.cells #[.int .i64 0,.int .i64 0] 73)) w.heap.size #[.int .i64 0,.int .i64 0] 73:=Blk.new _ _ _;have b0:Below w.heap.size w (w.alloc (.cells #[.int .i64 0,.int .i64 0] 73)):=yZ.alloc yL _;have Q2:=yH q2;have B0:=yH b0;have hs:1099511627776<x∨(x≤1099511627776∧1099511627776<y)∨(x≤1099511627776∧y≤1099511627776):=by omega
 clear q2 b0 hn hd;rcases hs with o1|⟨o1,o2⟩|⟨o1,o2⟩
 ·rw[if_pos (.inl o1)];go_enter Tryz.func223,Tryz.ntmps223;go_wp2_with fail;refine(c.out _).mono ?_;rintro e w1 ⟨rfl,bw⟩;have k1:=Q2.o.below bw Q2.o.lt;have B1:=yH (B0.o.trans (bw.mono (by simp)));have d0:=k1.cell 0;have d1:=k1.cell 1;simp at d0 d1;have f1:=k1.frozen;have hz:=k1.lt;have K1:=yH k1;clear k1 bw;go_wp2
  go_region
  all_goals
   go_wp2;refine bodyPost_ret (v:=.tuple #[.agg #[.int .i64 0,.int .i64 0],.int .i64 10]) (aA5 rfl _ _ w.heap.size 73 #[.int .i64 0,.int .i64 0] _ _ rfl (Blk.drew (((K1.o.set 0 (.int .i64 0)).set 1 (.int .i64 0)).alloc _)).out Tryz.underlying73 rfl (by kernel_rfl) rfl) rfl ⟨rfl,?_⟩
   first
   | exact((((B1.o.alloc B1.o.size _).drew).setCell yL _).setCell yL _)
   | exact((((B1.o.setCell yL _).setCell yL _).alloc (by simpa using B1.o.size) _).drew)
 ·rw[if_pos (.inr o2)];go_enter Tryz.func223,Tryz.ntmps223;go_wp2_with fail;refine(c.out _).mono ?_;rintro e w1 ⟨rfl,bw⟩;have k1:=Q2.o.below bw Q2.o.lt;have B1:=yH (B0.o.trans (bw.mono (by simp)));have d0:=k1.cell 0;have d1:=k1.cell 1;simp at d0 d1;have f1:=k1.frozen;have hz:=k1.lt;have K1:=yH k1;clear k1 bw;go_wp2
  go_region
  all_goals
   go_wp2;refine bodyPost_ret (v:=.tuple #[.agg #[.int .i64 0,.int .i64 0],.int .i64 10]) (aA5 rfl _ _ w.heap.size 73 #[.int .i64 0,.int .i64 0] _ _ rfl (Blk.drew (((K1.o.set 0 (.int .i64 0)).set 1 (.int .i64 0)).alloc _)).out Tryz.underlying73 rfl (by kernel_rfl) rfl) rfl ⟨rfl,?_⟩
   first
   | exact((((B1.o.alloc B1.o.size _).drew).setCell yL _).setCell yL _)
   | exact((((B1.o.setCell yL _).setCell yL _).alloc (by simpa using B1.o.size) _).drew)
 rw[if_neg (by omega)];go_enter Tryz.func223,Tryz.ntmps223;go_wp2_with fail;refine(c.out _).mono ?_;rintro e w1 ⟨rfl,bw⟩;have k1:=Q2.o.below bw Q2.o.lt;have B1:=yH (B0.o.trans (bw.mono (by simp)));have d0:=k1.cell 0;have d1:=k1.cell 1;simp at d0 d1;have f1:=k1.frozen;have hz:=k1.lt;have K1:=yH k1;clear k1 bw;go_wp2
 go_region
 all_goals
  go_wp2;refine bodyPost_ret (v:=.tuple #[.agg #[.int .i64 x,.int .i64 y],.int .i64 0]) (aA5 rfl _ _ w.heap.size 73 #[.int .i64 x,.int .i64 y] _ _ rfl (Blk.drew (((K1.o.set 0 (.int .i64 x)).set 1 (.int .i64 y)).alloc _)).out Tryz.underlying73 rfl (by kernel_rfl) rfl) rfl ⟨rfl,?_⟩
  first
  | exact((((B1.o.alloc B1.o.size _).drew).setCell yL _).setCell yL _)
  | exact((((B1.o.setCell yL _).setCell yL _).alloc (by simpa using B1.o.size) _).drew)
theorem of_rat(n d:Int)(w:World)(hn:In64 n)(hd:In64 d):
  Calls Tryz.prog 223 #[.int .i64 n,.int .i64 d] w (yR w (ofV n d)):=by
 by_cases h:n<1∨d<1
 ·exact of_arg n d w h
 obtain⟨g0,x0,xn,y0,yd⟩:=gcd_bd (n:=n) (d:=d) (by omega) (by omega);have:=of_two n d _ _ _ w (by omega) (by omega) hn hd rfl rfl rfl x0 y0 xn yd g0;refine this.mono fun e w' ⟨he,hb⟩=>⟨?_,hb⟩
 rw[he]
 by_cases ho:1099511627776<n/Int.gcd n d∨1099511627776<d/Int.gcd n d
 ·rw[if_pos ho,ofV_over (by omega) (by omega) rfl ho]
 rw[if_neg ho,ofV_good (by omega) (by omega) rfl ho]
theorem aIm(n d:Int):mayB n d=true↔MayN n d:=by simp[mayB]
theorem of_self{n d:Int}(h:MayN n d):ofRN n d=n∧ofD n d=d:=by
 obtain⟨h1,h2,h3,h4,h5⟩:=h;have hn:¬(n<1∨d<1):=by omega
 have e1:n/(1:Int)=n:=Int.ediv_one n;have e2:d/(1:Int)=d:=Int.ediv_one d;have ho:¬(1099511627776<n∨1099511627776<d):=by omega
 simp[ofRN,ofD,hn,h5,ho]
theorem of_not{n d:Int}(h:¬MayN n d):(ofRN n d=n∧ofD n d=d∧n=0∧d=0)∨ofRN n d≠n∨ofD n d≠d:=by
 unfold ofRN ofD
 by_cases hn:n<1∨d<1
 ·rw[if_pos hn,if_pos hn];omega
 rw[if_neg hn,if_neg hn]
 by_cases ho:1099511627776<n/Int.gcd n d∨1099511627776<d/Int.gcd n d
 ·rw[if_pos ho,if_pos ho];omega
 rw[if_neg ho,if_neg ho]
 right
 rcases Classical.em (n/Int.gcd n d=n)with e|e
 ·have g1:Int.gcd n d=1:=by
   have hd:=Int.mul_ediv_cancel' (Int.gcd_dvd_left (a:=n) (b:=d));rw[e]at hd;have hnn:n*((Int.gcd n d:Int) - 1)=0:=by rw[Int.mul_sub,Int.mul_one,Int.mul_comm];omega
   rcases Int.mul_eq_zero.1 hnn with h|h <;> omega
  rw[g1]at ho;have e1:n/((1:Nat):Int)=n:=Int.ediv_one n;have e2:d/((1:Nat):Int)=d:=Int.ediv_one d;rw[e1,e2]at ho;exact absurd ⟨by omega,by omega,by omega,by omega,g1⟩ h
 exact .inl e
def alN(n d:Int):Int:=if mayB n d then n else 0
def alD(n d:Int):Int:=if mayB n d then d else 0
theorem aNt(n d:Int)(w:World)(hn:In64 n)(hd:In64 d):
  Calls Tryz.prog 190 #[.agg #[.int .i64 n,.int .i64 d]] w (yR w (.agg #[.int .i64 (alN n d),.int .i64 (alD n d)])):=by
 have c:=yH (fun w=>of_rat n d w hn hd);unfold ofV at c
 have hs:(ofRN n d=n∧ofD n d=d∧alN n d=n∧alD n d=d)∨(ofRN n d≠n∧alN n d=0∧alD n d=0)∨(ofRN n d=n∧ofD n d≠d∧alN n d=0∧alD n d=0):=by
  unfold alN alD
  by_cases hm:MayN n d
  ·rw[(aIm n d).2 hm];obtain⟨a,b⟩:=of_self hm;exact .inl ⟨a,b,rfl,rfl⟩
  have e:mayB n d=false:=by rw[Bool.eq_false_iff];exact fun h=>hm ((aIm n d).1 h)
  rw[e];rcases of_not hm with⟨a,b,rfl,rfl⟩|h|h
  ·exact .inl ⟨a,b,rfl,rfl⟩
  ·exact .inr (.inl ⟨h,rfl,rfl⟩)
  by_cases h':ofRN n d=n
  ·exact .inr (.inr ⟨h',h,rfl,rfl⟩)
  exact .inr (.inl ⟨h',rfl,rfl⟩)
 generalize ofRN n d=x at *;generalize ofD n d=y at *;generalize ofE n d=z at *;have k1:Blk ((w.alloc (.cells #[.int .i64 n,.int .i64 d] 73)).alloc (.cells #[.int .i64 0,.int .i64 0] 73)) w.heap.size #[.int .i64 n,.int .i64 d] 73:=(Blk.new _ _ _).alloc _;have k2:Blk ((w.alloc (.cells #[.int .i64 n,.int .i64 d] 73)).alloc (.cells #[.int .i64 0,.int .i64 0] 73)) (w.heap.size+1) #[.int .i64 0,.int .i64 0] 73:=pAB _ _ _ (by simp);have b0:Below w.heap.size w ((w.alloc (.cells #[.int .i64 n,.int .i64 d] 73)).alloc (.cells #[.int .i64 0,.int .i64 0] 73)):=(yZ.alloc yL _).alloc (by simp) _;have K1:=yH k1;have K2:=yH k2;have B0:=yH b0;clear k1 k2 b0 hn hd;rcases hs with⟨e1,e2,e3,e4⟩|⟨e1,e3,e4⟩|⟨e1,e2,e3,e4⟩
 ·rw[e3,e4];subst e1 e2;clear e3 e4;go_enter Tryz.func190,Tryz.ntmps190;go_wp2_with fail;refine(c.out _).mono ?_;rintro e w1 ⟨rfl,bw⟩;have q1:=K1.o.below bw K1.o.lt;have q2:=K2.o.below bw K2.o.lt;have B1:=yH (B0.o.trans (bw.mono (by simp;omega)));have d0:=q1.cell 0;have d1:=q1.cell 1;have e0:=q2.cell 0;have e1:=q2.cell 1;simp at d0 d1 e0 e1;have f2:=q2.frozen;have hz:=q1.lt;have hz2:=q2.lt;have Q1:=yH q1;have Q2:=yH q2;clear q1 q2 bw;go_wp2;refine bodyPost_ret (v:=.agg #[.int .i64 x,.int .i64 y]) (results_cell_row rfl _ _ (w.heap.size+1) 73 #[.int .i64 x,.int .i64 y] (0,0) _ rfl (((Q2.o.set 0 (.int .i64 x)).set 1 (.int .i64 y)).alloc _).out Tryz.underlying73 rfl (by kernel_rfl)) rfl ⟨by simp,?_⟩;exact(((B1.o.setCell (by simp) _).setCell (by simp) _).alloc (by simpa using B1.o.size) _)
 ·rw[e3,e4];have e5:(x==n)=false:=by simp[e1]
  clear e1 e3 e4;go_enter Tryz.func190,Tryz.ntmps190;go_wp2_with fail;refine(c.out _).mono ?_;rintro e w1 ⟨rfl,bw⟩;have q1:=K1.o.below bw K1.o.lt;have q2:=K2.o.below bw K2.o.lt;have B1:=yH (B0.o.trans (bw.mono (by simp;omega)));have d0:=q1.cell 0;have d1:=q1.cell 1;have e0:=q2.cell 0;have e1:=q2.cell 1;simp at d0 d1 e0 e1;have f2:=q2.frozen;have hz:=q1.lt;have hz2:=q2.lt;have Q1:=yH q1;have Q2:=yH q2;clear q1 q2 bw;go_wp2;refine bodyPost_ret (v:=.agg #[.int .i64 0,.int .i64 0]) (results_cell_row rfl _ _ (w.heap.size+1) 73 #[.int .i64 0,.int .i64 0] (0,0) _ rfl (((Q2.o.set 0 (.int .i64 0)).set 1 (.int .i64 0)).alloc _).out Tryz.underlying73 rfl (by kernel_rfl)) rfl ⟨by simp,?_⟩;exact(((B1.o.setCell (by simp) _).setCell (by simp) _).alloc (by simpa using B1.o.size) _)
 rw[e3,e4];subst e1;have e5:(y==d)=false:=by simp[e2]
 clear e2 e3 e4;go_enter Tryz.func190,Tryz.ntmps190;go_wp2_with fail;refine(c.out _).mono ?_;rintro e w1 ⟨rfl,bw⟩;have q1:=K1.o.below bw K1.o.lt;have q2:=K2.o.below bw K2.o.lt;have B1:=yH (B0.o.trans (bw.mono (by simp;omega)));have d0:=q1.cell 0;have d1:=q1.cell 1;have e0:=q2.cell 0;have e1:=q2.cell 1;simp at d0 d1 e0 e1;have f2:=q2.frozen;have hz:=q1.lt;have hz2:=q2.lt;have Q1:=yH q1;have Q2:=yH q2;clear q1 q2 bw;go_wp2;refine bodyPost_ret (v:=.agg #[.int .i64 0,.int .i64 0]) (results_cell_row rfl _ _ (w.heap.size+1) 73 #[.int .i64 0,.int .i64 0] (0,0) _ rfl (((Q2.o.set 0 (.int .i64 0)).set 1 (.int .i64 0)).alloc _).out Tryz.underlying73 rfl (by kernel_rfl)) rfl ⟨by simp,?_⟩;exact(((B1.o.setCell (by simp) _).setCell (by simp) _).alloc (by simpa using B1.o.size) _)
theorem al_cases(n d:Int):(mayB n d=true∧alN n d=n∧alD n d=d∧1≤n∧1≤d∧n≤1099511627776∧d≤1099511627776)∨(mayB n d=false∧alN n d=0∧alD n d=0):=by
 unfold alN alD
 by_cases hm:MayN n d
 ·rw[(aIm n d).2 hm];exact .inl ⟨rfl,rfl,rfl,hm.1,hm.2.1,hm.2.2.1,hm.2.2.2.1⟩
 have e:mayB n d=false:=by rw[Bool.eq_false_iff];exact fun h=>hm ((aIm n d).1 h)
 rw[e];exact .inr ⟨rfl,rfl,rfl⟩
theorem rtmay_any(n d:Int)(w:World)(hn:In64 n)(hd:In64 d):
  Calls Tryz.prog 148 #[.agg #[.int .i64 n,.int .i64 d]] w (yR w (.bool (mayB n d))):=by
 have c:=yH (fun w=>aNt n d w hn hd);have B0:=yH ((Below.refl w.heap.size w).alloc yL (.cells #[.int .i64 n,.int .i64 d] 73));clear hn hd;rcases al_cases n d with⟨hm,h1,h2,h3,h4,h5,h6⟩|⟨hm,h1,h2⟩
 ·rw[h1,h2]at c;rw[hm];have e1:(n==0)=false:=by simp;omega
  clear h1 h2 h4 h5 h6 h3;go_enter Tryz.func148,Tryz.ntmps148;go_wp2_with fail;refine(c.out _).mono ?_;rintro e w1 ⟨rfl,b1⟩;go_wp2_with fail;go_ret;exact⟨rfl,B0.o.trans (b1.mono (by simp))⟩
 rw[h1,h2]at c;rw[hm];clear h1 h2;go_enter Tryz.func148,Tryz.ntmps148;go_wp2_with fail;refine(c.out _).mono ?_;rintro e w1 ⟨rfl,b1⟩;go_wp2_with fail;go_ret;exact⟨rfl,B0.o.trans (b1.mono (by simp))⟩
def fitN(n num den:Int):Int:=if mayB num den=true∧0≤n then min (n*den/num) 1099511627776 else 0
def cmpI(x y:Int):Int:=if x<y then -1 else if y<x then 1 else 0
def cmpR(an ad bn bd:Int):Int:=if mayB an ad=true∧mayB bn bd=true then cmpI (an*bd) (bn*ad)else 0
theorem aIn{n d:Int}(h:mayB n d=true):1≤n∧1≤d∧n≤1099511627776∧d≤1099511627776∧Int.gcd n d=1:=(aIm n d).1 h
theorem up_le(y num n den:Int)(hy:0≤y)(hn:0≤n)(h1:1≤num)(h2:1≤den)(hn2:n≤9223372036854775807):
  (upN (y*num) den≤n)↔y≤n*den/num:=by
 rw[Int.le_ediv_iff_mul_le (by omega)];generalize y*num=x;have hm:=Int.emod_nonneg x (show den≠0 by omega);have hm2:=Int.emod_lt_of_pos x (show 0<den by omega);have hd:=Int.mul_ediv_add_emod x den;rw[Int.mul_comm n];unfold upN;generalize x/den=q at *;generalize x%den=r at *;split
 ·constructor
  ·intro h;have:=Int.mul_le_mul_of_nonneg_left h (show 0≤den by omega);omega
  intro h;rcases Int.lt_or_le n q with k|k
  ·have:=Int.mul_le_mul_of_nonneg_left (show n+1≤q by omega) (show 0≤den by omega);rw[Int.mul_add]at this;omega
  exact k
 constructor
 ·intro h;have:=Int.mul_le_mul_of_nonneg_left h (show 0≤den by omega);rw[Int.mul_add]at this;omega
 intro h;rcases Int.lt_or_le q n with k|k
 ·omega
 have:=Int.mul_le_mul_of_nonneg_left k (show 0≤den by omega);omega
def Of.may(x:Of):Prop:=(1≤x.ow∧x.ow≤16)∧(1≤x.sl∧x.sl≤8)∧(1≤x.bu∧x.bu≤8)∧x.sl≠x.bu∧(1≤x.lf∧x.lf≤1099511627776)∧mayB x.nu x.de=true
instance(x:Of):Decidable x.may:=by unfold Of.may;infer_instance
theorem omay_any(x:Of)(w:World):
  Calls Tryz.prog 111 #[.agg #[.int .u64 x.se,.int .u8 x.ow,.int .u8 x.sl,.int .u8 x.bu,.int .i64 x.lf,.int .i64 x.nu,.int .i64 x.de]] w (yR w (.bool (decide x.may))):=by
 have B0:=yH ((Below.refl w.heap.size w).alloc yL (.cells #[.int .u64 x.se,.int .u8 x.ow,.int .u8 x.sl,.int .u8 x.bu,.int .i64 x.lf,.int .i64 x.nu,.int .i64 x.de] 75));have C:=yH (rrmay_any x.nu x.de)
 by_cases h0:x.ow<1
 ·rw[decide_eq_false (fun k:x.may=>by have:=k.1;omega)];clear C;go_enter Tryz.func111,Tryz.ntmps111;go_wp2_with fail;go_ret;exact⟨rfl,B0.o⟩
 by_cases h1:16<x.ow
 ·rw[decide_eq_false (fun k:x.may=>by have:=k.1;omega)];clear C;go_enter Tryz.func111,Tryz.ntmps111;go_wp2_with fail;go_ret;exact⟨rfl,B0.o⟩
 by_cases h2:x.sl<1
 ·rw[decide_eq_false (fun k:x.may=>by have:=k.2.1;omega)];clear C;go_enter Tryz.func111,Tryz.ntmps111;go_wp2_with fail;go_ret;exact⟨rfl,B0.o⟩
 by_cases h3:8<x.sl
 ·rw[decide_eq_false (fun k:x.may=>by have:=k.2.1;omega)];clear C;go_enter Tryz.func111,Tryz.ntmps111;go_wp2_with fail;go_ret;exact⟨rfl,B0.o⟩
 by_cases h4:x.bu<1
 ·rw[decide_eq_false (fun k:x.may=>by have:=k.2.2.1;omega)];clear C;go_enter Tryz.func111,Tryz.ntmps111;go_wp2_with fail;go_ret;exact⟨rfl,B0.o⟩
 by_cases h5:8<x.bu
 ·rw[decide_eq_false (fun k:x.may=>by have:=k.2.2.1;omega)];clear C;go_enter Tryz.func111,Tryz.ntmps111;go_wp2_with fail;go_ret;exact⟨rfl,B0.o⟩
 by_cases h6:x.sl=x.bu
 ·rw[decide_eq_false (fun k:x.may=>by exact k.2.2.2.1 h6)];clear C;have e1:(x.sl==x.bu)=true:=by simpa using h6
  have e2:(x.sl != x.bu)=false:=by simpa using h6
  clear h6;go_enter Tryz.func111,Tryz.ntmps111;go_wp2_with fail;go_ret;exact⟨rfl,B0.o⟩
 have e1:(x.sl==x.bu)=false:=by simpa using h6
 have e2:(x.sl != x.bu)=true:=by simpa using h6
 by_cases h7:¬1≤x.lf
 ·rw[decide_eq_false (fun k:x.may=>by have:=k.2.2.2.2.1;omega)];clear C;have e3:decide (1≤x.lf)=false:=by simpa using h7
  go_enter Tryz.func111,Tryz.ntmps111;go_wp2_with fail;go_ret;exact⟨rfl,B0.o⟩
 have h7:=Decidable.not_not.1 h7;have e3:decide (1≤x.lf)=true:=by simpa using h7
 by_cases h8:¬x.lf≤1099511627776
 ·rw[decide_eq_false (fun k:x.may=>by have:=k.2.2.2.2.1;omega)];clear C;have e4:decide (x.lf≤1099511627776)=false:=by simpa using h8
  go_enter Tryz.func111,Tryz.ntmps111;go_wp2_with fail;go_ret;exact⟨rfl,B0.o⟩
 have h8:=Decidable.not_not.1 h8;have e4:decide (x.lf≤1099511627776)=true:=by simpa using h8
 have hd:decide x.may=mayB x.nu x.de:=by
  cases hb:mayB x.nu x.de with
  | true=>exact decide_eq_true ⟨by omega,by omega,by omega,h6,⟨h7,h8⟩,hb⟩
  | false=>exact decide_eq_false (fun k=>by have:=k.2.2.2.2.2;rw[hb]at this;cases this)
 rw[hd];clear hd;generalize mayB x.nu x.de=r at *;go_enter Tryz.func111,Tryz.ntmps111;go_wp2_with fail;refine(C.o _).mono ?_;rintro e w1 ⟨rfl,b1⟩;have B1:=yT B0 b1;clear b1 C B0;go_wp2_with fail;go_ret;exact⟨rfl,B1.o⟩
structure RefB(w:World)(base g:Nat)(l:List Of)(N:Int)(vl:Value):Prop where
 blk:Blk w g #[vl,.int .u64 N] 122
 ge:base≤g
 row:w.ownsRow base 75 7 vl l.length (aAe l)
theorem RefB.keep{S:Nat→Prop}{w w':World}{base g:Nat}{l:List Of}{N:Int}{vl:Value}(h:RefB w base g l N vl)(k:Keep S w w')(h1:¬S g)(h2:∀b,vl.ownBlock=some b→¬S b):RefB w' base g l N vl:=⟨h.blk.keep k h1,h.ge,aAw h.row k h2⟩
theorem RefB.below{w w':World}{base g:Nat}{l:List Of}{N:Int}{vl:Value}(h:RefB w base g l N vl)(k:Below w.heap.size w w'):RefB w' base g l N vl:=h.keep (pAD (S:=fun _=>False) k) id (fun _ _=>id)
def aBt(l:List Of)(s:Int):Option Of:=l.find? fun x=>x.se==s
def noOf:Of:=⟨0,0,0,0,0,0,0⟩
theorem of_cells{w:World}{b:Nat}{ls:List Of}(h:∀j,j<ls.length*7→w.cell? ⟨b,j,none⟩=(aAe ls)[j]?){k:Nat}(hk:k<ls.length):
  w.cell? ⟨b,k*7,none⟩=some (.int .u64 ls[k].se)∧w.cell? ⟨b,k*7+1,none⟩=some (.int .u8 ls[k].ow)∧w.cell? ⟨b,k*7+2,none⟩=some (.int .u8 ls[k].sl)∧w.cell? ⟨b,k*7+3,none⟩=some (.int .u8 ls[k].bu)∧w.cell? ⟨b,k*7+4,none⟩=some (.int .i64 ls[k].lf)∧w.cell? ⟨b,k*7+5,none⟩=some (.int .i64 ls[k].nu)∧w.cell? ⟨b,k*7+6,none⟩=some (.int .i64 ls[k].de):=by
 refine⟨?_,?_,?_,?_,?_,?_,?_⟩
 ·exact(h (k*7+0) (by omega)).trans (aAf ls k 0 (by omega) hk)
 ·exact(h (k*7+1) (by omega)).trans (aAf ls k 1 (by omega) hk)
 ·exact(h (k*7+2) (by omega)).trans (aAf ls k 2 (by omega) hk)
 ·exact(h (k*7+3) (by omega)).trans (aAf ls k 3 (by omega) hk)
 ·exact(h (k*7+4) (by omega)).trans (aAf ls k 4 (by omega) hk)
 ·exact(h (k*7+5) (by omega)).trans (aAf ls k 5 (by omega) hk)
 exact(h (k*7+6) (by omega)).trans (aAf ls k 6 (by omega) hk)
theorem aAb{P:Program}{ops:Array Oper}{rest:List Oper}{o:Oper}{a:Act}{w:World}{Q:Exit→Act→World→Prop}(hgd:o.guard=none)(ty:TypeId)(x y:Operand)(ho:o.op=.store ty x y)
  (g:Nat)(cells:Array Value)(hx:a.eval x=.pointer (some ⟨g,0,none⟩))(hy:a.eval y=.agg cells)
  (t:TypeId)(old:Array Value)(hg:w.heap[g]? = some (.cells old t (0,0)))(hi:(P.info? ty).map (·.size)=some cells.size)
  (hold:old.size=cells.size)(h1:cells.all (·.oneCell')=true)
  (h:wpList P ops Q rest (a.put o.dst undef) (w.setRow g cells)):wpList P ops Q (o::rest) a w:=
 wpList_plain hgd fun _ hK=>wp_store_row ty x y ho g cells hx hy t old hg hi hold h1 (hK _ _ h)
def Of.put(s n:Int)(x:Of):Of:=if x.se=s then{ x with lf:=n }else x
def setO(l:List Of)(s n:Int):List Of:=(l.map (Of.put s n)).filter fun x=>decide (0<x.lf)
theorem setO_len(l:List Of)(s n:Int):(setO l s n).length≤l.length:=by
 unfold setO;exact Nat.le_trans (List.length_filter_le _ _) (by simp)
def cancelV(l:List Of)(ow s:Int):Int:=match aBt l s with|none=>0|some x=>if x.ow=ow then x.lf else 0
def aNu(l:List Of)(ow s:Int):Int:=match aBt l s with|none=>7|some x=>if x.ow=ow then 0 else 15
def aIo(l:List Of)(ow s:Int):List Of:=if aNu l ow s=0 then setO l s 0 else l
def takeE(l:List Of)(s n:Int):Int:=match aBt l s with|none=>7|some x=>if n<1∨x.lf<n then 1 else 0
def leftO(l:List Of)(s:Int):Int:=match aBt l s with|none=>0|some x=>x.lf
def aJj(l:List Of)(s n:Int):List Of:=if takeE l s n=0 then setO l s (leftO l s - n)else l
theorem aD5{l:List Of}{s:Int}{x:Of}(h:aBt l s=some x):x∈l∧x.se=s:=by
 unfold aBt at h;exact⟨List.mem_of_find?_eq_some h,by have:=List.find?_some h;simpa using this⟩
def aFx(W:World)(base:Nat)(l:List Of)(N:Int)(s:Value×Nat)(D:Nat→Bool)(w:World):Prop:=
 Below W.heap.size W w∧(D 4=true→w.ownsRow base 75 7 s.1 l.length (aAe l)∧∀b,s.1.ownBlock=some b→W.heap.size≤b)∧(D 10=true→W.heap.size≤s.2∧Blk w s.2 #[s.1,.int .u64 N] 122)
theorem aFx.step{W w w':World}{base:Nat}{l:List Of}{N:Int}{s:Value×Nat}{D:Nat→Bool}{k:Nat}(h:aFx W base l N s D w)(hb:Below w.heap.size w w')(h4:k≠4)(h10:k≠10):aFx W base l N s (ins k D) w':=by
 obtain⟨b,p,q⟩:=h;have e4:¬4=k:=fun e=>h4 e.symm
 have e10:¬10=k:=fun e=>h10 e.symm
 refine⟨b.trans (hb.mono b.size),fun d=>?_,fun d=>?_⟩
 ·simp[ins,e4]at d;exact⟨aAc (p d).1 hb,(p d).2⟩
 simp[ins,e10]at d;exact⟨(q d).1,(q d).2.below hb (q d).2.lt⟩
theorem aFx.boxed{W w:World}{base:Nat}{l:List Of}{N:Int}{s:Value×Nat}{D:Nat→Bool}(h:aFx W base l N s D w)(hP:D 4=true):aFx W base l N (s.1,w.heap.size) (ins 10 D) (w.alloc (.cells #[s.1,.int .u64 N] 122)):=by
 obtain⟨b,p,q⟩:=h;have hb:=(Below.refl w.heap.size w).alloc yL (.cells #[s.1,.int .u64 N] 122);exact⟨b.trans (hb.mono b.size),fun _=>⟨aAc (p hP).1 hb,(p hP).2⟩,fun _=>⟨b.size,Blk.new _ _ _⟩⟩
def CopyBPost(base:Nat)(l:List Of)(N:Int)(w:World)(e:Ending)(w':World):Prop:=
 ∃g' vl',e=.returned (.pointer (some ⟨g',0,none⟩))∧RefB w' base g' l N vl'∧w.heap.size≤g'∧(∀b,vl'.ownBlock=some b→w.heap.size≤b)∧Below w.heap.size w w'
theorem bcopy_any{w:World}{base g:Nat}{l:List Of}{N:Int}{vl:Value}(h:RefB w base g l N vl)(hl:l.length≤1000):
  Calls Tryz.prog 79 #[.pointer (some ⟨g,0,none⟩)] w (CopyBPost base l N w):=by
 have H:=yH h;have hg:=h.blk.lt;have hbase0:=h.ge;clear h;go_enter Tryz.func79,Tryz.ntmps79;go_wp2_with fail
 refine aBi (by kernel_rfl) (fun s:Value×Nat=>[(.pointer (some ⟨g,0,none⟩)),(.pointer (some ⟨g,0,none⟩)),(.pointer (some ⟨g,0,none⟩)),vl,s.1,(.pointer (some ⟨g,0,none⟩)),(.pointer (some ⟨g,0,none⟩)),(.pointer (some ⟨g,1,none⟩)),(.int .u64 N),(.agg #[s.1,.int .u64 N]),(.pointer (some ⟨s.2,0,none⟩)),(.pointer (some ⟨s.2,0,none⟩))])
  (aFx w base l N) (by kernel_rfl) (undef,0) ⟨yZ.drew,by simp,by simp⟩ ?_
 intro AF hAF;simp only[puts,Act.put,yA,yC,yF,yD,yE]at hAF;have hAF2:_=AF:=funext hAF;subst hAF2;clear hAF;refine⟨?_,?_⟩
 ·simp only[aFh];refine⟨?_,?_,?_,?_,?_,?_,?_,?_,?_,?_,?_,?_,trivial⟩
  ·intro s D w' hD hW hC hI;refine⟨s,fun _ _ _=>rfl,?_⟩;with_reducible refine yO rfl ?_
   have hI':=yH (hI.step yZ (k:=0) (by decide) (by decide));have hg':g<w'.heap.size:=yM hg hI.1.size;clear hI hC hW hD;go_wp2_with fail;all_goals first|exact hI'|exact⟨rfl,hI'⟩|rfl
  ·intro s D w' hD hW hC hI;refine⟨s,fun _ _ _=>rfl,?_⟩;with_reducible refine yO rfl ?_
   have hI':=yH (hI.step yZ (k:=1) (by decide) (by decide));have hg':g<w'.heap.size:=yM hg hI.1.size;clear hI hC hW hD;go_wp2_with fail;all_goals first|exact hI'|exact⟨rfl,hI'⟩|rfl
  ·intro s D w' hD hW hC hI;refine⟨s,fun _ _ _=>rfl,?_⟩;with_reducible refine yO rfl ?_
   have hI':=yH (hI.step yZ (k:=2) (by decide) (by decide));have hg':g<w'.heap.size:=yM hg hI.1.size;clear hI hC hW hD;go_wp2_with fail;all_goals first|exact hI'|exact⟨rfl,hI'⟩|rfl
  ·intro s D w' hD hW hC hI;refine⟨s,fun _ _ _=>rfl,?_⟩;with_reducible refine yO rfl ?_
   have hI':=yH (hI.step yZ (k:=3) (by decide) (by decide));have hg':g<w'.heap.size:=yM hg hI.1.size;have d0:=(H.o.blk.below hI.1 hg).cell 0;simp at d0;clear hI hC hW hD;go_wp2_with fail;all_goals first|exact hI'|exact⟨rfl,hI'⟩|rfl
  ·intro s D w' hD hW hC hI;have hN:D 9=false:=aAa hC hD 9 (by kernel_rfl);have hN2:D 10=false:=aAa hC hD 10 (by kernel_rfl);have hN3:D 11=false:=aAa hC hD 11 (by kernel_rfl);obtain⟨v',w2,hrun,how,hbel⟩:=aDk (P:=Tryz.prog) (w:=w') 43 43 75 aKj Tryz.underlying43 rfl (by decide) (by decide) base _ _ _ (aAc H.o.row hI.1) (aB2 l) (by omega);refine⟨(v',s.2),?_,?_⟩
   ·intro j hj hDj
    match j,hj,hDj with
    | 0,_,_=>rfl
    | 1,_,_=>rfl
    | 2,_,_=>rfl
    | 3,_,_=>rfl
    | 4,_,h=>simp_all
    | 5,_,_=>rfl
    | 6,_,_=>rfl
    | 7,_,_=>rfl
    | 8,_,_=>rfl
    | 9,_,h=>simp_all
    | 10,_,_=>rfl
    | 11,_,_=>rfl
    | j+12,_,_=>rfl
   with_reducible refine yO rfl ?_
   refine aDt (.tmp 6) 43 rfl rfl hrun ⟨rfl,?_⟩;have hw:=hI.1.size;have hh:∀b,v'.ownBlock=some b→w.heap.size≤b:=fun b hb=>Nat.le_trans hw (aAn how hb).1
   obtain⟨q1,q2,q3⟩:=hI;refine⟨q1.trans (hbel.mono q1.size),fun _=>⟨aBo how (Nat.le_trans hbase0 (Nat.le_trans (Nat.le_of_lt hg) hw)),hh⟩,fun d=>?_⟩;simp[ins,hN2]at d
  ·intro s D w' hD hW hC hI;refine⟨s,fun _ _ _=>rfl,?_⟩;with_reducible refine yO rfl ?_
   have hI':=yH (hI.step yZ (k:=5) (by decide) (by decide));have hg':g<w'.heap.size:=yM hg hI.1.size;clear hI hC hW hD;go_wp2_with fail;all_goals first|exact hI'|exact⟨rfl,hI'⟩|rfl
  ·intro s D w' hD hW hC hI;refine⟨s,fun _ _ _=>rfl,?_⟩;with_reducible refine yO rfl ?_
   have hI':=yH (hI.step yZ (k:=6) (by decide) (by decide));have hg':g<w'.heap.size:=yM hg hI.1.size;clear hI hC hW hD;go_wp2_with fail;all_goals first|exact hI'|exact⟨rfl,hI'⟩|rfl
  ·intro s D w' hD hW hC hI;refine⟨s,fun _ _ _=>rfl,?_⟩;with_reducible refine yO rfl ?_
   have hI':=yH (hI.step yZ (k:=7) (by decide) (by decide));have hg':g<w'.heap.size:=yM hg hI.1.size;clear hI hC hW hD;go_wp2_with fail;all_goals first|exact hI'|exact⟨rfl,hI'⟩|rfl
  ·intro s D w' hD hW hC hI;refine⟨s,fun _ _ _=>rfl,?_⟩;with_reducible refine yO rfl ?_
   have hI':=yH (hI.step yZ (k:=8) (by decide) (by decide));have hg':g<w'.heap.size:=yM hg hI.1.size;have d0:=(H.o.blk.below hI.1 hg).cell 1;simp at d0;clear hI hC hW hD;go_wp2_with fail;all_goals first|exact hI'|exact⟨rfl,hI'⟩|rfl
  ·intro s D w' hD hW hC hI;have hP:D 4=true:=aAk hC hW (by kernel_rfl);refine⟨s,fun _ _ _=>rfl,?_⟩;with_reducible refine yO rfl ?_
   have HS:=yH (hI.step yZ (k:=9) (by decide) (by decide));obtain⟨ao,cap,hv,_⟩:=aAh (hI.2.1 hP).1;clear hC hW hD hP hI;obtain⟨s1,s2⟩:=s;dsimp only at hv HS ⊢;subst hv;go_wp2_with fail;all_goals first|exact HS|exact⟨rfl,HS⟩|rfl
  ·intro s D w' hD hW hC hI;have hP:D 4=true:=aAk hC hW (by kernel_rfl);have hN3:D 11=false:=aAa hC hD 11 (by kernel_rfl);refine⟨(s.1,w'.heap.size),?_,?_⟩
   ·intro j hj hDj
    match j,hj,hDj with
    | 0,_,_=>rfl
    | 1,_,_=>rfl
    | 2,_,_=>rfl
    | 3,_,_=>rfl
    | 4,_,_=>rfl
    | 5,_,_=>rfl
    | 6,_,_=>rfl
    | 7,_,_=>rfl
    | 8,_,_=>rfl
    | 9,_,_=>rfl
    | 10,_,h=>simp_all
    | 11,_,h=>simp_all
    | j+12,_,_=>rfl
   with_reducible refine yO rfl ?_
   have HS:=yH (hI.boxed hP);obtain⟨q1,q2,q3⟩:=hI;obtain⟨ao,cap,hv,_⟩:=aAh (q2 hP).1;clear hC hW hD q1 q2 q3 hP hN3;obtain⟨s1,s2⟩:=s;dsimp only at hv HS ⊢;subst hv;go_wp2_with fail;all_goals first|exact HS|exact⟨rfl,HS⟩|rfl
  intro s D w' hD hW hC hI;refine⟨s,fun _ _ _=>rfl,?_⟩;with_reducible refine yO rfl ?_
  have hI':=yH (hI.step yZ (k:=11) (by decide) (by decide));have hg':g<w'.heap.size:=yM hg hI.1.size;clear hI hC hW hD;go_wp2_with fail;all_goals first|exact hI'|exact⟨rfl,hI'⟩|rfl
 intro s D w2 hall hI;obtain⟨q1,q2,q3⟩:=hI;have Q1:=yH q1;have Q2:=yH (q2 (hall 4 (by decide)));have Q3:=yH (q3 (hall 10 (by decide)));clear q1 q2 q3 hall;dsimp only;go_wp2_with fail;go_ret;exact⟨s.2,s.1,rfl,⟨Q3.o.2,Nat.le_trans hbase0 (Nat.le_trans (Nat.le_of_lt hg) Q3.o.1),Q2.o.1⟩,Q3.o.1,Q2.o.2,Q1.o⟩
structure PB(w:World)(base g:Nat)(l:List Of)(N:Int)(vl:Value):Prop where
 blk:Blk w g #[vl,.int .u64 N] 158
 ge:base≤g
 row:w.ownsRow base 197 7 vl l.length (aAe l)
def Foot(g:Nat)(vl:Value)(b:Nat):Prop:=b=g∨vl.ownBlock=some b
def Moved(w:World)(vl vl':Value):Prop:=∀b,vl'.ownBlock=some b→vl.ownBlock=some b∨w.heap.size≤b
theorem PB.keep{S:Nat→Prop}{w w':World}{base g:Nat}{l:List Of}{N:Int}{vl:Value}(h:PB w base g l N vl)(k:Keep S w w')(h1:¬S g)(h2:∀b,vl.ownBlock=some b→¬S b):PB w' base g l N vl:=⟨h.blk.keep k h1,h.ge,aAw h.row k h2⟩
theorem PB.below{w w':World}{base g:Nat}{l:List Of}{N:Int}{vl:Value}(h:PB w base g l N vl)(k:Below w.heap.size w w'):PB w' base g l N vl:=h.keep (pAD (S:=fun _=>False) k) id (fun _ _=>id)
theorem PB.lt{w:World}{base g:Nat}{l:List Of}{N:Int}{vl:Value}(h:PB w base g l N vl){b:Nat}(hb:Foot g vl b):base≤b∧b<w.heap.size:=by
 rcases hb with rfl|hb
 ·exact⟨h.ge,h.blk.lt⟩
 exact⟨(aAn h.row hb).1,(aAn h.row hb).2.1⟩
theorem PB.apart{w:World}{base g:Nat}{l:List Of}{N:Int}{vl:Value}(h:PB w base g l N vl):∀b,vl.ownBlock=some b→b≠g:=aBz h.row h.blk (by decide)
structure BInv(l:List Of)(N:Int):Prop where
 may:∀x∈l,x.may
 rise:l.Pairwise fun x y=>x.se<y.se
 bd:∀x∈l,1≤x.se∧x.se<N
 len:l.length≤32
 n1:1≤N
 n2:N≤18446744073709551615
theorem BInv.nil{N:Int}(h1:1≤N)(h2:N≤18446744073709551615):BInv [] N:=⟨by simp,List.Pairwise.nil,by simp,by simp,h1,h2⟩
theorem aL5(c:Int)(w:World):
  Calls Tryz.prog 147 #[.int .u8 c] w fun e w'=>e=.returned (.bool (decide (1≤c∧c≤8)))∧w'=w:=by
 by_cases h1:1≤c
 ·have e1:decide (1≤c)=true:=by simpa using h1
  by_cases h2:c≤8
  ·rw[decide_eq_true ⟨h1,h2⟩];have e2:decide (c≤8)=true:=by simpa using h2
   clear h1 h2;go_enter Tryz.func147,Tryz.ntmps147;go_wp2;go_ret;exact⟨rfl,rfl⟩
  rw[decide_eq_false (fun k=>h2 k.2)];have e2:decide (c≤8)=false:=by simpa using h2
  clear h1 h2;go_enter Tryz.func147,Tryz.ntmps147;go_wp2;go_ret;exact⟨rfl,rfl⟩
 rw[decide_eq_false (fun k=>h1 k.1)];have e1:decide (1≤c)=false:=by simpa using h1
 clear h1;go_enter Tryz.func147,Tryz.ntmps147;go_wp2;go_ret;exact⟨rfl,rfl⟩
theorem pmay_any(x:Of)(w:World)(hf:x.Fits):
  Calls Tryz.prog 107 #[.agg #[.int .u64 x.se,.int .u8 x.ow,.int .u8 x.sl,.int .u8 x.bu,.int .i64 x.lf,.int .i64 x.nu,.int .i64 x.de]] w (yR w (.bool (decide x.may))):=by
 have B0:=yH ((Below.refl w.heap.size w).alloc yL (.cells #[.int .u64 x.se,.int .u8 x.ow,.int .u8 x.sl,.int .u8 x.bu,.int .i64 x.lf,.int .i64 x.nu,.int .i64 x.de] 197));have C:=yH (fun w=>rtmay_any x.nu x.de w hf.nu hf.de);have C1:=yH (fun w=>aL5 x.sl w);have C2:=yH (fun w=>aL5 x.bu w);clear hf
 by_cases h0:¬1≤x.ow
 ·rw[decide_eq_false (fun k:x.may=>by have:=k.1;omega)];clear C C1 C2;have e1:decide (1≤x.ow)=false:=by simpa using h0
  clear h0;go_enter Tryz.func107,Tryz.ntmps107;go_wp2_with fail;go_ret;exact⟨rfl,B0.o⟩
 have h0:=Decidable.not_not.1 h0;have e1:decide (1≤x.ow)=true:=by simpa using h0
 by_cases h1:¬x.ow≤16
 ·rw[decide_eq_false (fun k:x.may=>by have:=k.1;omega)];clear C C1 C2;have e2:decide (x.ow≤16)=false:=by simpa using h1
  clear h0 h1;go_enter Tryz.func107,Tryz.ntmps107;go_wp2_with fail;go_ret;exact⟨rfl,B0.o⟩
 have h1:=Decidable.not_not.1 h1;have e2:decide (x.ow≤16)=true:=by simpa using h1
 by_cases h2:¬(1≤x.sl∧x.sl≤8)
 ·rw[decide_eq_false (fun k:x.may=>h2 k.2.1)];rw[decide_eq_false h2]at C1;clear C C2 h0 h1 h2;go_enter Tryz.func107,Tryz.ntmps107;go_wp2_with fail;refine(C1.o _).mono ?_;rintro e w1 ⟨rfl,rfl⟩;go_wp2_with fail;go_ret;exact⟨rfl,B0.o⟩
 have h2:=Decidable.not_not.1 h2;rw[decide_eq_true h2]at C1
 by_cases h3:¬(1≤x.bu∧x.bu≤8)
 ·rw[decide_eq_false (fun k:x.may=>h3 k.2.2.1)];rw[decide_eq_false h3]at C2;clear C h0 h1 h2 h3;go_enter Tryz.func107,Tryz.ntmps107;go_wp2_with fail;refine(C1.o _).mono ?_;rintro e w1 ⟨rfl,rfl⟩;go_wp2_with fail;refine(C2.o _).mono ?_;rintro e w1 ⟨rfl,rfl⟩;go_wp2_with fail;go_ret;exact⟨rfl,B0.o⟩
 have h3:=Decidable.not_not.1 h3;rw[decide_eq_true h3]at C2
 by_cases h4:x.sl=x.bu
 ·rw[decide_eq_false (fun k:x.may=>k.2.2.2.1 h4)];have e3:(x.sl==x.bu)=true:=by simpa using h4
  have e4:(x.sl != x.bu)=false:=by simpa using h4
  clear C h0 h1 h2 h3 h4;go_enter Tryz.func107,Tryz.ntmps107;go_wp2_with fail;refine(C1.o _).mono ?_;rintro e w1 ⟨rfl,rfl⟩;go_wp2_with fail;refine(C2.o _).mono ?_;rintro e w1 ⟨rfl,rfl⟩;go_wp2_with fail;go_ret;exact⟨rfl,B0.o⟩
 have e3:(x.sl==x.bu)=false:=by simpa using h4
 have e4:(x.sl != x.bu)=true:=by simpa using h4
 by_cases h5:¬1≤x.lf
 ·rw[decide_eq_false (fun k:x.may=>by have:=k.2.2.2.2.1;omega)];have e5:decide (1≤x.lf)=false:=by simpa using h5
  clear C h0 h1 h2 h3 h4 h5;go_enter Tryz.func107,Tryz.ntmps107;go_wp2_with fail;refine(C1.o _).mono ?_;rintro e w1 ⟨rfl,rfl⟩;go_wp2_with fail;refine(C2.o _).mono ?_;rintro e w1 ⟨rfl,rfl⟩;go_wp2_with fail;go_ret;exact⟨rfl,B0.o⟩
 have h5:=Decidable.not_not.1 h5;have e5:decide (1≤x.lf)=true:=by simpa using h5
 by_cases h6:¬x.lf≤1099511627776
 ·rw[decide_eq_false (fun k:x.may=>by have:=k.2.2.2.2.1;omega)];have e6:decide (x.lf≤1099511627776)=false:=by simpa using h6
  clear C h0 h1 h2 h3 h4 h5 h6;go_enter Tryz.func107,Tryz.ntmps107;go_wp2_with fail;refine(C1.o _).mono ?_;rintro e w1 ⟨rfl,rfl⟩;go_wp2_with fail;refine(C2.o _).mono ?_;rintro e w1 ⟨rfl,rfl⟩;go_wp2_with fail;go_ret;exact⟨rfl,B0.o⟩
 have h6:=Decidable.not_not.1 h6;have e6:decide (x.lf≤1099511627776)=true:=by simpa using h6
 have hd:decide x.may=mayB x.nu x.de:=by
  cases hb:mayB x.nu x.de with
  | true=>exact decide_eq_true ⟨⟨h0,h1⟩,h2,h3,h4,⟨h5,h6⟩,hb⟩
  | false=>exact decide_eq_false (fun k=>by have:=k.2.2.2.2.2;rw[hb]at this;cases this)
 rw[hd];clear hd h0 h1 h2 h3 h4 h5 h6;generalize mayB x.nu x.de=r at *;go_enter Tryz.func107,Tryz.ntmps107;go_wp2_with fail;refine(C1.o _).mono ?_;rintro e w1 ⟨rfl,rfl⟩;go_wp2_with fail;refine(C2.o _).mono ?_;rintro e w1 ⟨rfl,rfl⟩;go_wp2_with fail;refine(C.o _).mono ?_;rintro e w1 ⟨rfl,b1⟩;have B1:=yT B0 b1;clear b1 C B0;go_wp2_with fail;go_ret;exact⟨rfl,B1.o⟩
theorem pnew_any(w:World)(base:Nat)(hb:base≤w.heap.size):
  Calls Tryz.prog 44 #[] w fun e w'=>e=.returned (.pointer (some ⟨w.heap.size,0,none⟩))∧PB w' base w.heap.size [] 1 (.slice none 0 0)∧Below w.heap.size w w':=by
 have K:=yH (Blk.new w #[.slice none 0 0,.int .u64 1] 158);go_enter Tryz.func44,Tryz.ntmps44;go_wp2;go_ret;exact⟨rfl,⟨K.o,hb,World.ownsRow_nil _ _ _ _⟩,yZ.alloc yL _⟩
theorem aL6{w:World}{g:Nat}{vl:Value}{N:Int}(h:Blk w g #[vl,.int .u64 N] 158):
  Calls Tryz.prog 60 #[.pointer (some ⟨g,0,none⟩)] w (yS w (.int .u64 N)):=by
 have hl:=h.lt;have d1:=h.cell 1;simp at d1;clear h;go_enter Tryz.func60,Tryz.ntmps60;go_wp2;go_ret;exact⟨rfl,rfl⟩
theorem pmade_any{w:World}{g:Nat}{vl:Value}{N:Int}(h:Blk w g #[vl,.int .u64 N] 158)(h1:1≤N):
  Calls Tryz.prog 113 #[.pointer (some ⟨g,0,none⟩)] w (yS w (.bool true)):=by
 have C:=yH (aL6 h);have e1:(N==0)=false:=by simp;omega
 have e2:(N != 0)=true:=by simp;omega
 clear h h1;go_enter Tryz.func113,Tryz.ntmps113;go_wp2_with fail;refine C.o.mono ?_;rintro e w ⟨rfl,rfl⟩;go_wp2_with fail;go_ret;exact⟨rfl,rfl⟩
theorem ball_any{w:World}{g:Nat}{ao:Option Addr}{n c:Nat}{N:Int}(h:Blk w g #[.slice ao n c,.int .u64 N] 158):
  Calls Tryz.prog 104 #[.pointer (some ⟨g,0,none⟩)] w (yS w (.slice ao n c)):=by
 have hl:=h.lt;have d1:=h.cell 0;simp at d1;clear h;go_enter Tryz.func104,Tryz.ntmps104;go_wp2;go_ret;exact⟨rfl,rfl⟩
def posO(l:List Of)(s:Int):Nat:=l.findIdx fun x=>x.se==s
theorem aGf{w:World}{g:Nat}{e:TypeId}:∀(vs:List Value) (o:Nat) (cur:Array Value),w.heap[g]? = some (.cells cur e (0,0))→o+vs.length≤cur.size→
  ∃cur',(w.setCells g o vs).heap[g]? = some (.cells cur' e (0,0))∧cur'.toList=cur.toList.take o++vs++cur.toList.drop (o+vs.length)
 | [],o,cur,h,hs=>⟨cur,h,by simp⟩
 | v::r,o,cur,h,hs=>by
  have hl:o<cur.size:=by simp at hs;omega
  have h2:(w.setCell ⟨g,o,none⟩ v).heap[g]? = some (.cells (cur.setIfInBounds o v) e (0,0)):=Blk.set (show Blk w g cur e from h) o v;obtain⟨cur',h3,h4⟩:=aGf (w:=w.setCell ⟨g,o,none⟩ v) r (o+1) _ h2 (by simp at hs ⊢;omega);refine⟨cur',by rw[World.setCells];exact h3,?_⟩;rw[h4,Array.toList_setIfInBounds];have hl':o<cur.toList.length:=by simpa using hl
  rw[List.take_set,List.drop_set_of_lt (by omega),List.take_succ_eq_append_getElem hl',List.set_append_right _ _ (by simp;omega)];simp[List.length_take,Nat.min_eq_left (Nat.le_of_lt hl),show o+1+r.length=o+(r.length+1) by omega]
def zOff:Value:=.agg #[.int .u64 0,.int .u8 0,.int .u8 0,.int .u8 0,.int .i64 0,.int .i64 0,.int .i64 0]
theorem aL7:(Tryz.prog.info? 197).map (fun i=>(i.zero,i.size,i.bytes))=some (some zOff,7,40):=by kernel_rfl
theorem BInv.others{l:List Of}{N:Int}(h:BInv l N){s:Int}(hp:posO l s<l.length):(∀x∈l.take (posO l s),x.se≠s∧0<x.lf)∧(∀x∈l.drop (posO l s+1),x.se≠s∧0<x.lf)∧l[posO l s].se=s:=by
 have hlf:∀x∈l,0<x.lf:=fun x hx=>by have:=(h.may x hx).2.2.2.2.1;omega
 have hat:l[posO l s].se=s:=by
  have:=List.findIdx_getElem (p:=fun x:Of=>x.se==s) (xs:=l) (w:=hp);exact eq_of_beq this
 refine⟨fun x hx=>⟨?_,hlf x (List.mem_of_mem_take hx)⟩,fun x hx=>⟨?_,hlf x (List.mem_of_mem_drop hx)⟩,hat⟩
 ·obtain⟨j,hj,rfl⟩:=List.mem_take_iff_getElem.1 hx;have:=List.not_of_lt_findIdx (p:=fun x:Of=>x.se==s) (xs:=l) (i:=j) (by unfold posO at hj;omega);simpa using this
 obtain⟨j,hj,rfl⟩:=List.mem_drop_iff_getElem.1 hx;have:=List.pairwise_iff_getElem.1 h.rise (posO l s) (posO l s+1+j) hp (by omega) (by omega);intro e;omega
theorem aHz{l:List Of}{s n:Int}{y:Of}(h:y∈setO l s n):0<y.lf∧∃x∈l,y=x∨(x.se=s∧y={ x with lf:=n }):=by
 unfold setO at h;obtain⟨h1,h2⟩:=List.mem_filter.1 h;obtain⟨x,hx,rfl⟩:=List.mem_map.1 h1;refine⟨by simpa using h2,x,hx,?_⟩;unfold Of.put;split
 ·rename_i e;exact .inr ⟨e,rfl⟩
 exact .inl rfl
theorem setO_se(l:List Of)(s n:Int):((l.map (Of.put s n)).map Of.se)=l.map Of.se:=by
 rw[List.map_map];apply List.map_congr_left;intro x _;show(Of.put s n x).se=x.se;unfold Of.put;split <;> rfl
theorem BInv.set{l:List Of}{N:Int}(h:BInv l N){s n:Int}(hn:n≤1099511627776):BInv (setO l s n) N:=by
 refine⟨fun y hy=>?_,?_,fun y hy=>?_,Nat.le_trans (setO_len l s n) h.len,h.n1,h.n2⟩
 ·obtain⟨h0,x,hx,rfl|⟨_,rfl⟩⟩:=aHz hy
  ·exact h.may _ hx
  obtain⟨a,b,c,d,e,f⟩:=h.may _ hx;exact⟨a,b,c,d,⟨by have:0<n:=h0;show 1≤n;omega,hn⟩,f⟩
 ·have h1:(l.map (Of.put s n)).Pairwise fun x y=>x.se<y.se:=by
   rw[←List.pairwise_map (f:=Of.se) (R:=fun a b:Int=>a<b),setO_se,List.pairwise_map];exact h.rise
  exact h1.filter _
 obtain⟨_,x,hx,rfl|⟨_,rfl⟩⟩:=aHz hy
 ·exact h.bd _ hx
 have:=h.bd _ hx;exact this
theorem BInv.cancel{l:List Of}{N:Int}(h:BInv l N)(ow s:Int):BInv (aIo l ow s) N:=by
 unfold aIo;split
 ·exact h.set (by omega)
 exact h
theorem leftO_bd{l:List Of}{N:Int}(h:BInv l N)(s:Int):0≤leftO l s∧leftO l s≤1099511627776:=by
 unfold leftO
 cases hf:aBt l s with
 | none=>simp
 | some x=>have:=(h.may _ (aD5 hf).1).2.2.2.2.1;simp only;omega
theorem takeE_pos{l:List Of}{s n:Int}(h:takeE l s n=0):1≤n:=by
 unfold takeE at h;split at h
 ·omega
 split at h
 ·omega
 omega
theorem BInv.take{l:List Of}{N:Int}(h:BInv l N)(s n:Int):BInv (aJj l s n) N:=by
 unfold aJj;split
 ·rename_i e;have:=leftO_bd h s;have:=takeE_pos e;exact h.set (by omega)
 exact h
def OwnPost(w:World)(e:TypeId)(l:List Of)(en:Ending)(w':World):Prop:=
 ∃v',en=.returned v'∧w'.ownsRow w.heap.size e 7 v' l.length (aAe l)∧Below w.heap.size w w'
theorem cloneO_any{w:World}{base:Nat}{v:Value}{l:List Of}(h:w.ownsRow base 197 7 v l.length (aAe l))(hl:l.length≤1000):
  Calls Tryz.prog 114 #[v] w (OwnPost w 197 l):=by
 have q22:∀(w:World) (a:Option Addr) (n c n' c':Nat),(binOp .eql 156 (.slice a n c) (.slice none n' c')).run Tryz.prog w=.ok (.bool a.isNone) w:=fun w a n c n' c'=>Lib.run_eql_slice_nil w _ _ a n c n' c' Tryz.underlying156
 rcases h.2 with⟨rfl,h0⟩|⟨g,cap,cur,rfl,hbase,hb,h1,h2,h3,h4⟩
 ·have hl0:=List.eq_nil_of_length_eq_zero h0;subst hl0;clear h h0;go_enter Tryz.func114,Tryz.ntmps114;go_wp2;refine bodyPost_ret (v:=.slice none 0 0) (by simp[results,Tryz.results114,go_sem]) rfl ?_;exact⟨_,rfl,World.ownsRow_nil _ _ _ _,yZ⟩
 obtain⟨i0,hi1,hi2,hi3,hi4⟩:=info_parts aL7;have HC:=yH (h.cells (g:=g) rfl);have HL:=yH hl;have HX:=yH h.1;clear h hb h1 h2 h3 h4 hl;go_enter Tryz.func114,Tryz.ntmps114;go_wp2_with (at_builtin;refine wpList_append_own _ rfl _ _ 156 rfl w.heap.size 197 i0 zOff 7 40 Tryz.underlying156 hi1 hi2 hi3 hi4 rfl (by decide) _ _ _ rfl (World.ownsRow_made w #[] 0 yL (Nat.zero_le _) (by simp)) ⟨g,0,none⟩ l.length cap (aAe l) rfl ?qc1 ?qc2 ?qc3 ?qc4 ?qc5 ?qc6 ?_)
 case qc1=>exact HX.o
 case qc2=>
  intro j u hj;exact Lib.cell?_alloc_some _ (HC.o j u hj)
 case qc3=>exact aB2 l
 case qc4=>rw[Nat.zero_add];have:=HL.o;unfold maxLen;omega
 case qc5=>rw[Nat.zero_add];have:=HL.o;omega
 case qc6=>simp
 intro v' w1 hown hgrow hnil;have HO:=yH (show w1.ownsRow w.heap.size 197 7 v' l.length (aAe l) by simpa using hown);have HB:=yH (((Below.refl w.heap.size w).alloc yL (.cells #[] 197)).grown hgrow (by simp) (by intro k hk;simp[Value.ownBlock]at hk;omega));clear hown hgrow hnil;go_wp2;refine bodyPost_ret (v:=v') (by simp[results,Tryz.results114,go_sem]) rfl ?_;exact⟨v',rfl,HO.o,HB.o⟩
theorem clipO_any{w:World}{base:Nat}{v:Value}{n:Nat}{xs:List Value}(h:w.ownsRow base 75 7 v n xs):
  Calls Tryz.prog 145 #[v] w (aF6 w base 75 7 n v xs):=by
 rcases h.2 with⟨rfl,h0⟩|⟨g,cap,cur,rfl,hbase,hb,h1,h2,h3,h4⟩
 ·subst h0;have hr:=aBc (P:=Tryz.prog) w 43 75 7 Tryz.underlying43 (Tryz.sizeOf75 w);have hx:=h.1;have hx2:=yH hx;clear h hx;go_enter Tryz.func145,Tryz.ntmps145;go_wp2;refine bodyPost_ret (v:=.slice none 0 0) (by simp[results,Tryz.results145,go_sem]) rfl ?_;exact⟨_,rfl,⟨hx2.out,.inl ⟨rfl,rfl⟩⟩,rfl,rfl⟩
 have hr:=aCe (P:=Tryz.prog) w 43 75 7 Tryz.underlying43 (Tryz.sizeOf75 w) g n cap h1;have HR:=yH (show aCz w base 75 7 (.slice (some ⟨g,0,none⟩) n n) n xs from⟨h.1,.inr ⟨g,cur,rfl,hbase,hb,by omega,by omega,h4⟩⟩);clear h hb h4 h3;unfold maxLen at h2;go_enter Tryz.func145,Tryz.ntmps145;go_wp2;refine bodyPost_ret (v:=.slice (some ⟨g,0,none⟩) n n) (by simp[results,Tryz.results145,go_sem]) rfl ?_;exact⟨_,rfl,HR.o,rfl,rfl⟩
def ToldAt(w:World)(l:List Of)(v i:Value)(wr:World):Prop:=
 ∃k:Nat,k≤l.length∧i=.int .i64 k∧wr.ownsRow w.heap.size 75 7 v (l.take k).length (aAe (l.take k))∧Below w.heap.size w wr
theorem told_any{w:World}{base:Nat}{v:Value}{l:List Of}(h:w.ownsRow base 197 7 v l.length (aAe l))(hl:l.length≤1000):
  Calls Tryz.prog 103 #[v] w (aF7 w 75 7 l.length (aAe l)):=by
 obtain⟨ao,cap,rfl,hc1,hc2,hc3,hc4⟩:=aAh h;have HC:=yH hc4;unfold maxLen at hc2;clear hc3 hc4 h;go_enter Tryz.func103,Tryz.ntmps103;go_wp2_with fail
 go_loopw [3,8] (ToldAt w l) (fun _ i _=>l.length - (intOf i).toNat)
 case atStart=>exact⟨0,Nat.zero_le _,rfl,World.ownsRow_nil _ _ _ _,yZ⟩
 obtain⟨k,hk,rfl,hown,hb⟩:=hrel
 by_cases hkl:k<l.length
 ·obtain⟨b,rfl,hb1,hb2,hcell,_⟩:=HC.o (by omega);obtain⟨e0,e1,e2,e3,e4,e5,e6⟩:=of_cells (w:=wr) (fun j hj=>by rw[hb.cell (p:=⟨b,j,none⟩) hb2];exact hcell j hj) hkl;have NX:=yH (List.take_succ_eq_append_getElem hkl);have hlk:(l.take k).length≤1000:=Nat.le_trans (List.length_take_le _ _) (by omega);clear hcell;generalize l[k]=y at *;generalize l.take k=out at *;have bw:=(Below.refl wr.heap.size wr).alloc yL (.cells #[.int .u64 y.se,.int .u8 y.ow,.int .u8 y.sl,.int .u8 y.bu,.int .i64 y.lf,.int .i64 y.nu,.int .i64 y.de] 197);have K0:=yH (Blk.new wr #[.int .u64 y.se,.int .u8 y.ow,.int .u8 y.sl,.int .u8 y.bu,.int .i64 y.lf,.int .i64 y.nu,.int .i64 y.de] 197);have OY:=yH (aAc hown bw);have BY:=yH (hb.trans (bw.mono hb.size));have hl2:out.length≤100000:=by omega
  clear hown hb bw;go_wp2_with (at_builtin;refine aHl _ rfl (.tmp 12) (.tmp 14) rfl w.heap.size _ out rfl (OY.o.alloc _) _ _ y rfl (pAB _ _ _ (by simp)) hl2 (by have:=BY.o.size;simp at this ⊢;omega) ?_);intro v3 w3 hown3 hgr3;have R2:∀k,Value.ownBlock _=some k→w.heap.size≤k:=fun k hk=>(aAn OY.o hk).1
  have B3:=yH ((BY.o.alloc BY.o.size _).grown hgr3 (by have:=BY.o.size;simp at this ⊢;omega) (fun k hk=>R2 k hk));have O3:=yH (show w3.ownsRow w.heap.size 75 7 v3 (out++[y]).length (aAe (out++[y])) by simpa using hown3);clear R2 hown3 hgr3;go_wp2_with fail;go_roundw
  case rel=>exact⟨k+1,by omega,by go_num,by rw[NX.o];exact O3.o,B3.o⟩
  case measure=>simp[intOf];omega
 have hke:l.take k=l:=List.take_of_length_le (by omega);rw[hke]at hown;have CC:=yH (clipO_any hown);have HB:=yH hb;clear hown hb hke;go_wp2_with fail;refine CC.o.mono ?_;rintro e w3 ⟨v',rfl,hrow,_,rfl⟩;have HRow:=yH hrow;clear hrow CC;go_wp2_with fail;refine bodyPost_ret (v:=v') (by simp[results,Tryz.results103,go_sem]) rfl ?_;exact⟨v',rfl,HRow.o,HB.o⟩
theorem pall_of{w:World}{base:Nat}{pv v:Value}{l:List Of}(hc:Calls Tryz.prog 104 #[pv] w (yS w v))(h:w.ownsRow base 197 7 v l.length (aAe l))(hl:l.length≤1000):
  Calls Tryz.prog 59 #[pv] w (aF7 w 75 7 l.length (aAe l)):=by
 have C1:=yH hc;have C2:=yH (told_any h hl);clear hc h;go_enter Tryz.func59,Tryz.ntmps59;go_wp2_with fail;refine C1.o.mono ?_;rintro e w ⟨rfl,rfl⟩;go_wp2_with fail;refine C2.o.mono ?_;rintro e w1 ⟨v',rfl,h1,b1⟩;have H1:=yH (And.intro h1 b1);clear h1 b1;go_wp2_with fail;refine bodyPost_ret (v:=v') (by simp[results,Tryz.results59,go_sem]) rfl ?_;exact⟨v',rfl,H1.o.1,H1.o.2⟩
theorem pall_any{w:World}{base g:Nat}{l:List Of}{N:Int}{vl:Value}(h:PB w base g l N vl)(hl:l.length≤1000):
  Calls Tryz.prog 59 #[.pointer (some ⟨g,0,none⟩)] w (aF7 w 75 7 l.length (aAe l)):=by
 obtain⟨ao,cap,rfl,_⟩:=aAh h.row;exact pall_of (ball_any h.blk) h.row hl
def mayO(o:Of)(ps:List Int)(tk pt want most m1 m2:Int):Int:=if o.ow=tk∨o.ow∉ps∨tk∉ps∨pt∉ps∨want<1∨most<1 then 0 else
 min (if pt=o.ow then min want o.lf else min (min want o.lf) m1) (fitN (min (min most 1099511627776) m2) o.nu o.de)
def mayV(l:List Of)(ps:List Int)(s tk pt want most m1 m2:Int):Int:=match aBt l s with
 | none=>0
 | some o=>mayO o ps tk pt want most m1 m2
def Goes(ps:List Int)(ls:List Ln)(o:Of)(tk pt m1 m2:Int):Prop:=
 (∃μ,aAm (aAu ps ls o.sl) 4398046511104 o.ow pt aC5 μ∧aC5 - μ.left=m1)∧∃μ,aAm (aAu ps ls o.bu) 4398046511104 tk o.ow aC5 μ∧aC5 - μ.left=m2
theorem goes_ends{ps:List Int}{ls:List Ln}(h:LInv ps ls)(o:Of)(tk pt:Int):∃m1 m2,Goes ps ls o tk pt m1 m2:=by
 obtain⟨μ,h1⟩:=aGs (aA3 h o.sl) o.ow pt aC5;obtain⟨ν,h2⟩:=aGs (aA3 h o.bu) tk o.ow aC5;exact⟨_,_,⟨μ,h1,rfl⟩,ν,h2,rfl⟩
theorem aFy{f:Int→Int→Int}(h0:GInv f 4398046511104){s t:Int}{μ:RS}(h:aAm f 4398046511104 s t aC5 μ):0≤aC5 - μ.left∧aC5 - μ.left≤1125899906842624:=by
 by_cases hi:inP s∧inP t∧s≠t
 ·exact most_bd h h0 hi.2.2
 rw[route_out h0 hi h];show 0≤aC5 - aC5∧aC5 - aC5≤1125899906842624;omega
theorem Goes.bd{ps:List Int}{ls:List Ln}(h:LInv ps ls){o:Of}{tk pt m1 m2:Int}(g:Goes ps ls o tk pt m1 m2):(0≤m1∧m1≤1125899906842624)∧0≤m2∧m2≤1125899906842624:=by
 obtain⟨⟨μ,h1,rfl⟩,ν,h2,rfl⟩:=g;exact⟨aFy (aA3 h _) h1,aFy (aA3 h _) h2⟩
def doOk(l:List Of)(ps:List Int)(s tk pt n m1 m2:Int):Prop:=1≤n∧n≤mayV l ps s tk pt n 1099511627776 m1 m2
theorem doOk.facts{l:List Of}{ps:List Int}{s tk pt n m1 m2:Int}(h:doOk l ps s tk pt n m1 m2):
  ∃o,aBt l s=some o∧(o.ow≠tk∧o.ow∈ps∧tk∈ps∧pt∈ps)∧n≤o.lf∧(pt=o.ow∨n≤m1)∧n≤fitN (min 1099511627776 m2) o.nu o.de:=by
 obtain⟨h1,h2⟩:=h;unfold mayV at h2
 cases hf:aBt l s with
 | none=>rw[hf]at h2;simp at h2;omega
 | some o=>
  rw[hf]at h2;simp only[mayO]at h2;split at h2
  ·omega
  rename_i hb;refine⟨o,rfl,⟨fun h=>hb (.inl h),Classical.byContradiction fun h=>hb (.inr (.inl h)),Classical.byContradiction fun h=>hb (.inr (.inr (.inl h))),Classical.byContradiction fun h=>hb (.inr (.inr (.inr (.inl h))))⟩,?_,?_,?_⟩
  ·split at h2 <;> omega
  ·split at h2
   ·rename_i h;exact .inl h
   exact .inr (by omega)
  have e:min (min 1099511627776 1099511627776) m2=min (1099511627776:Int) m2:=by omega
  rw[e]at h2;omega
theorem up_fits{n g nu de:Int}(hm:mayB nu de=true)(h0:0≤g)(hg:g≤1099511627776)(hn:0≤n)(h:n≤fitN g nu de):
  upV2 n nu de=.tuple #[.int .i64 (upN (n*nu) de),.int .i64 0]∧0≤upN (n*nu) de∧upN (n*nu) de≤g:=by
 unfold fitN at h;rw[if_pos ⟨hm,h0⟩]at h;obtain⟨h1,h2,h3,h4,_⟩:=aIn hm;have hu:=(up_le n nu g de hn h0 h1 h2 (by omega)).2 (by omega)
 have h5:0≤upN (n*nu) de:=by
  have:=Int.ediv_nonneg (Int.mul_nonneg hn (show 0≤nu by omega)) (show 0≤de by omega);unfold upN;split <;> omega
 refine⟨?_,h5,hu⟩;have hi:In64 (upN (n*nu) de):=⟨by omega,by omega⟩;rw[upV2,hm,if_pos rfl,upV,if_neg (by omega),ans_of _ hi]
def Filled(ps:List Int)(ls:List Ln)(o:Of)(tk pt n x:Int)(ls':List Ln):Prop:=
 ∃ls1 τ,((pt=o.ow∧ls1=ls)∨(pt≠o.ow∧∃σ,aAm (aAu ps ls o.sl) 4398046511104 o.ow pt n σ∧ls1=payL ps ls o.ow pt o.sl n σ))∧aAm (aAu ps ls1 o.bu) 4398046511104 tk o.ow x τ∧ls'=payL ps ls1 tk o.ow o.bu x τ
theorem Filled.inv{ps:List Int}{ls:List Ln}{o:Of}{tk pt n x:Int}{l1:List Ln}(h:Filled ps ls o tk pt n x l1)(hI:LInv ps ls):LInv ps l1:=by
 obtain⟨a,σ,ha,hσ,rfl⟩:=h;refine aKv ?_ _ _ _ _ _;rcases ha with⟨h1,rfl⟩|⟨h1,α,h2,rfl⟩
 ·exact hI
 exact aKv hI _ _ _ _ _
theorem fitN_mono{a b nu de:Int}(h0:0≤a)(h:a≤b):fitN a nu de≤fitN b nu de:=by
 unfold fitN
 by_cases hm:mayB nu de=true
 ·rw[if_pos ⟨hm,h0⟩,if_pos ⟨hm,by omega⟩];have hb:=aIn hm;have h1:a*de≤b*de:=Int.mul_le_mul_of_nonneg_right h (by omega);have:=Int.ediv_le_ediv (show 0<nu by omega) h1;omega
 rw[if_neg (fun q=>hm q.1),if_neg (fun q=>hm q.1)];omega
theorem may_do{l:List Of}{ps:List Int}{s tk pt want most m1 m2 n:Int}(h1:0≤m1)(h2:0≤m2)(hn:mayV l ps s tk pt want most m1 m2=n)(h:1≤n):
  doOk l ps s tk pt n m1 m2∧n≤want∧1≤most∧∃o,aBt l s=some o∧n≤fitN (min (min most 1099511627776) m2) o.nu o.de:=by
 unfold mayV at hn
 cases hf:aBt l s with
 | none=>rw[hf]at hn;simp at hn;omega
 | some o=>
  rw[hf]at hn;simp only[mayO]at hn
  by_cases hb:o.ow=tk∨o.ow∉ps∨tk∉ps∨pt∉ps∨want<1∨most<1
  ·rw[if_pos hb]at hn;omega
  rw[if_neg hb]at hn
  have hb2:¬(o.ow=tk∨o.ow∉ps∨tk∉ps∨pt∉ps∨n<1∨(1099511627776:Int)<1):=by
   intro q;rcases q with q|q|q|q|q|q
   ·exact hb (.inl q)
   ·exact hb (.inr (.inl q))
   ·exact hb (.inr (.inr (.inl q)))
   ·exact hb (.inr (.inr (.inr (.inl q))))
   ·omega
   omega
  have hmo:¬most<1:=fun q=>hb (.inr (.inr (.inr (.inr (.inr q)))))
  have hmn:=fitN_mono (nu:=o.nu) (de:=o.de) (a:=min (min most 1099511627776) m2) (b:=min (min 1099511627776 1099511627776) m2) (by omega) (by omega);have hle:n≤want∧n≤fitN (min (min most 1099511627776) m2) o.nu o.de:=by split at hn <;> omega
  refine⟨⟨h,?_⟩,hle.1,by omega,o,rfl,hle.2⟩;unfold mayV;rw[hf];simp only[mayO];rw[if_neg hb2];split at hn
  ·rename_i hp;rw[if_pos hp];omega
  rename_i hp;rw[if_neg hp];omega
theorem take_facts{l:List Of}{N:Int}(h:BInv l N){s n:Int}{o:Of}(hf:aBt l s=some o)(h1:1≤n)(h2:n≤o.lf):
  aJj l s n=setO l s (o.lf - n):=by
 unfold aJj takeE leftO;rw[hf];simp only[];rw[if_pos (show(if n<1∨o.lf<n then(1:Int)else 0)=0 from if_neg (by omega))]
theorem pay_goes{ps:List Int}{ls:List Ln}(hI:LInv ps ls){a b c n m:Int}{σ μ:RS}(ha:a∈ps)(hb:b∈ps)(hab:a≠b)(hc:1≤c∧c≤8)(h1:1≤n)(h2:n≤1099511627776)
  (hσ:aAm (aAu ps ls c) 4398046511104 a b n σ)(hμ:aAm (aAu ps ls c) 4398046511104 a b aC5 μ)(hm:aC5 - μ.left=m)(hnm:n≤m):
  payE ps a b c n σ=0∧payL ps ls a b c n σ=aCc ps c ls σ.out∧n - σ.left=n:=by
 have pa:=hI.bd a ha;have pb:=hI.bd b hb;have MIN:=route_min hσ hμ (aA3 hI c) pa pb hab h1;rw[hm]at MIN;have hg:n - σ.left=n:=by rw[MIN];omega
 have PE:payE ps a b c n σ=0:=by
  unfold payE;rcases aNp (fun p=>decide (p∈ps)) a b c n (n - σ.left)with⟨_,q⟩|⟨_,_,q⟩|⟨_,_,_,_,q⟩|⟨q,_⟩
  ·exact absurd ⟨pa,pb,hab,hc.1,hc.2,h1,h2⟩ q
  ·rcases q with q|q
   ·exact absurd ha (by simpa using q)
   exact absurd hb (by simpa using q)
  ·omega
  exact q
 exact⟨PE,by unfold payL;rw[if_pos PE],hg⟩
theorem pay_pos{ps:List Int}{ls:List Ln}(hI:LInv ps ls){a b c n:Int}{σ:RS}(hσ:aAm (aAu ps ls c) 4398046511104 a b n σ)(hg:n - σ.left=n)(p d:Int):
  posL (aCc ps c ls σ.out) p d=posL ls p d+(if d=c then(if b=p then n else 0) - (if a=p then n else 0)else 0):=by
 rw[aIl p σ.out hI hσ.good.1 d,hσ.net p,hg]
def aIp(o:Of)(tk pt n x p c:Int):Int:=
 (((if c=o.sl∧p=o.ow then -n else 0)+(if c=o.sl∧p=pt then n else 0))+(if c=o.bu∧p=tk then -x else 0))+(if c=o.bu∧p=o.ow then x else 0)
theorem aHg{ps:List Int}{ls ls':List Ln}(hI:LInv ps ls){l:List Of}{N:Int}(hJ:BInv l N){s tk pt n m1 m2 x:Int}{o:Of}(hf:aBt l s=some o)(hG:Goes ps ls o tk pt m1 m2)(hd:doOk l ps s tk pt n m1 m2)(hx:x=upN (n*o.nu) o.de)(hF:Filled ps ls o tk pt n x ls'):
  limL ls=limL ls'∧(∀p c,posL ls' p c=posL ls p c+aIp o tk pt n x p c)∧1≤x∧x≤1099511627776∧x≤m2:=by
 obtain⟨o',hf',⟨k1,k2,k3,k4⟩,k5,k6,k7⟩:=hd.facts;rw[hf]at hf'
 cases hf'
 have hB:=hG.bd hI;obtain⟨⟨μ,hμ,em⟩,ν,hν,en⟩:=hG;obtain⟨_,⟨s1,s2⟩,⟨b1,b2⟩,hsb,⟨l1,l2⟩,hm⟩:=hJ.may o (aD5 hf).1;have hn1:=hd.1;have hb:=aIn hm;obtain⟨u1,u2,u3⟩:=up_fits hm (g:=min 1099511627776 m2) (by omega) (by omega) (by omega) k7;rw[←hx]at u2 u3
 have hx1:1≤x:=by
  have hp:1≤n*o.nu:=by have:=Int.mul_le_mul hn1 hb.1 (by omega) (by omega);omega
  rw[hx];unfold upN;have h0:0≤n*o.nu/o.de:=Int.ediv_nonneg (by omega) (by omega);split
  ·rename_i h;have hd2:=Int.mul_ediv_add_emod (n*o.nu) o.de;rw[h]at hd2;rcases Int.lt_or_le (n*o.nu/o.de) 1 with k|k
   ·have:n*o.nu/o.de=0:=by omega
    rw[this]at hd2;omega
   exact k
  omega
 obtain⟨ls1,τ,hA,hτ,rfl⟩:=hF
 have hroom:LInv ps ls1∧aAu ps ls1 o.bu=aAu ps ls o.bu∧limL ls=limL ls1∧∀p c,posL ls1 p c=posL ls p c+((if c=o.sl∧p=o.ow then -n else 0)+(if c=o.sl∧p=pt then n else 0)):=by
  rcases hA with⟨hp,rfl⟩|⟨hp,σ,hσ,rfl⟩
  ·refine⟨hI,rfl,rfl,fun p c=>?_⟩;subst hp
   by_cases h:c=o.sl∧p=o.ow
   ·rw[if_pos h,if_pos h];omega
   rw[if_neg h,if_neg h];omega
  have hn:n≤m1:=by rcases k6 with h|h;exact absurd h hp;exact h
  obtain⟨e1,e2,e3⟩:=pay_goes hI k2 k4 (fun e=>hp e.symm) ⟨s1,s2⟩ hn1 (by omega) hσ hμ em hn;rw[e2];refine⟨aEe _ hI,aHd hsb _ hI,(aEz _ hI).symm,fun p c=>?_⟩;rw[pay_pos hI hσ e3];clear hμ hν hσ hτ hm hx hb u1
  repeat' split
  all_goals omega
 obtain⟨hI1,hr,hl,hpos⟩:=hroom;rw[hr]at hτ;rw[←hr]at hν hτ;obtain⟨e1,e2,e3⟩:=pay_goes hI1 k3 k2 (fun e=>k1 e.symm) ⟨b1,b2⟩ hx1 (by omega) hτ hν en (by omega);rw[e2];refine⟨hl.trans (aEz _ hI1).symm,fun p c=>?_,hx1,by omega,by omega⟩;rw[pay_pos hI1 hτ e3,hpos];unfold aIp;generalize (if c=o.sl∧p=o.ow then -n else 0)+(if c=o.sl∧p=pt then n else 0)=S;clear hμ hν hτ hm hx hb u1 hpos
 repeat' split
 all_goals omega
theorem goes_some{ps:List Int}{ls:List Ln}(hI:LInv ps ls)(l:List Of)(s tk pt:Int):∃m1 m2,(∀o,aBt l s=some o→Goes ps ls o tk pt m1 m2)∧0≤m1∧0≤m2:=by
 cases hf:aBt l s with
 | none=>exact⟨0,0,(fun o h=>by cases h),by omega,by omega⟩
 | some o=>
  obtain⟨m1,m2,g⟩:=goes_ends hI o tk pt;have:=g.bd hI;exact⟨m1,m2,(fun o' h=>by cases h;exact g),by omega,by omega⟩
end Go.Proofs.YtngnfdnfpiiclaaGreat
