/- Pieces of one proof. -/
import Derived.Test.YtngnfdnfpiiclaaGreatM03
import Derived.Test.YtngnfdnfpiiclaaGreatM06
import Derived.Laws.EntriesVeiled
import Derived.WalkSmall
import Derived.Laws.Bits64b
import Derived.Lib.Mul64
import Derived.Laws.Externs
import Derived.Deep.CutBlock
import Derived.Lib.Strings
import Derived.Lib.Small
import Derived.Lib.BitFns
import Derived.Lib.Slices
import Derived.Lib.Walk
import Derived.Lib.ItoaNum
import Derived.Deep.RegionWith
import Derived.ScopeJumps
import Derived.WalkMore
import Derived.LoopN
set_option linter.all false
set_option maxHeartbeats 64000000
set_option maxRecDepth 100000
namespace Go.Proofs.YtngnfdnfpiiclaaGreat
open Go.RowKit
def aAw(ps:List Int)(ls:List Ln)(c a b:Int):Int:=aB7 ps ls a b c
theorem aAz{ps:List Int}{ls:List Ln}(h:LInv ps ls)(c:Int):GInv (aAw ps ls c) 4398046511104:=by
 refine⟨fun p q=>(aO3 h.inv.good p q c).1,fun p q=>?_,fun p q hi=>?_,fun p=>?_⟩
 ·have h1:=(aO3 (ps:=ps) h.inv.good p q c).2;have h2:=(aO3 (ps:=ps) h.inv.good q p c).2;unfold aAw;omega
 ·unfold aAw aB7;rw[if_pos]
  by_cases h1:p∈ps
  ·by_cases h2:q∈ps
   ·exact absurd ⟨h.bd p h1,h.bd q h2⟩ hi
   exact .inr (.inr h2)
  exact .inr (.inl h1)
 unfold aAw aB7;rw[if_pos (.inl rfl)]
theorem gof_led{w:World}{G M:Nat}{ps:List Int}{ls:List Ln}(h:LedM w G M ps ls)(hI:LInv ps ls){c:Int}(hc:In8 c):
  Calls Tryz.prog 193 #[.pointer (some ⟨G,0,none⟩),.int .u8 c] w fun e w'=>e=.returned (.pointer (some ⟨w.heap.size,0,none⟩))∧Blk w' w.heap.size (graC (aAw ps ls c) true) 327∧Below w.heap.size w w':=
 gof_any fun w' k p q hp hq=>room_any (h.below k) hI hp hq hc
theorem aOg{ps:List Int}{ls:List Ln}(h:Inv ls){a b c n:Int}(h1:1≤n)(hr:n≤aB7 ps ls a b c){p q d:Int}
  (k1:¬(a=p∧b=q∧c=d))(k2:¬(a=q∧b=p∧c=d)):aB7 ps (aCz ls a b c n) p q d=aB7 ps ls p q d:=by
 have hz:¬(a=b∨a∉ps∨b∉ps):=by
  intro hz;unfold aB7 at hr;rw[if_pos hz]at hr;omega
 have hr2:=hr;unfold aB7 at hr2;rw[if_neg hz]at hr2;obtain⟨_,_,h3,_⟩:=aFu h (fun e=>hz (.inl e)) h1 hr2
 have e1:lnAt (aCz ls a b c n) p q d=lnAt ls p q d:=by
  unfold lnAt;rw[h3 p q d,if_neg k1,if_neg (fun e=>k2 ⟨e.2.1,e.1,e.2.2⟩)]
 have e2:lnAt (aCz ls a b c n) q p d=lnAt ls q p d:=by
  unfold lnAt;rw[h3 q p d,if_neg k2,if_neg (fun e=>k1 ⟨e.2.1,e.1,e.2.2⟩)]
 unfold aB7;rw[e1,e2]
theorem room_push{ps:List Int}{ls:List Ln}(h:LInv ps ls)(a b c n:Int):aAw ps (aEn ps ls a b c n) c=aGu (aAw ps ls c) a b n:=by
 funext p q
 unfold aGu
 by_cases hc:1≤n∧n≤aAw ps ls c a b
 ·rw[if_pos hc];obtain⟨h1,h2⟩:=hc;have h2':n≤aB7 ps ls a b c:=h2;have he:aEw ps ls a b c n=0:=wD
  have hl:aEn ps ls a b c n=aCz ls a b c n:=by unfold aEn;rw[if_pos he]
  rw[hl];obtain⟨r1,r2⟩:=push_room (ps:=ps) h.inv h1 h2';unfold aCd aAw
  by_cases c1:p=b∧q=a
  ·rw[if_pos c1,c1.1,c1.2];exact r2
  rw[if_neg c1]
  by_cases c2:p=a∧q=b
  ·rw[if_pos c2,c2.1,c2.2];exact r1
  rw[if_neg c2];exact aOg h.inv h1 h2' (fun e=>c2 ⟨e.1.symm,e.2.1.symm⟩) (fun e=>c1 ⟨e.2.1.symm,e.1.symm⟩)
 rw[if_neg hc]
 have he:aEw ps ls a b c n≠0:=by
  unfold aEw;have hc':¬(1≤n∧n≤aB7 ps ls a b c):=hc;split
  ·decide
  split
  ·decide
  exact absurd ⟨zQ,zQ⟩ hc'
 unfold aEn;rw[if_neg he]
theorem room_else{ps:List Int}{ls:List Ln}(h:LInv ps ls)(a b n:Int){c d:Int}(hd:c≠d):aAw ps (aEn ps ls a b c n) d=aAw ps ls d:=by
 funext p q
 unfold aEn
 by_cases he:aEw ps ls a b c n=0
 ·rw[if_pos he];have h1:1≤n∧n≤aB7 ps ls a b c:=by unfold aEw at he;(repeat' split at he) <;> omega
  exact aOg h.inv h1.1 h1.2 (fun e=>hd e.2.2) (fun e=>hd e.2.2)
 rw[if_neg he]
def aC1(ps:List Int)(c:Int)(ls:List Ln)(l:List Fw):List Ln:=l.foldl (fun ls x=>aEn ps ls x.fr x.tt c x.am) ls
theorem aQ1{ps:List Int}{c:Int}{ls:List Ln}{l:List Fw}{k:Nat}(h:k<l.length):aC1 ps c ls (l.take (k+1))=aEn ps (aC1 ps c ls (l.take k)) l[k].fr l[k].tt c l[k].am:=by
 unfold aC1;rw[List.take_succ_eq_append_getElem h,List.foldl_append];rfl
theorem aF8{ps:List Int}{c:Int}:∀(l:List Fw) {ls:List Ln},LInv ps ls→LInv ps (aC1 ps c ls l)
 | [],_,h=>h
 | x::l,_,h=>aF8 l (h.push x.fr x.tt c x.am)
theorem aK1{ps:List Int}{c d:Int}(hd:c≠d):∀(l:List Fw) {ls:List Ln},LInv ps ls→aAw ps (aC1 ps c ls l) d=aAw ps ls d
 | [],_,_=>rfl
 | x::l,ls,h=>by
  show aAw ps (aC1 ps c (aEn ps ls x.fr x.tt c x.am) l) d=_;rw[aK1 hd l (h.push _ _ _ _),room_else h _ _ _ hd]
theorem push_lims{ls:List Ln}(h:Inv ls){a b c n:Int}(hab:a≠b)(h1:1≤n)(hr:n≤(lnAt ls a b c).db+(lnAt ls b a c).li - (lnAt ls b a c).db):limL (aCz ls a b c n)=limL ls:=by
 obtain⟨i,_,f,_⟩:=aFu h hab h1 hr
 have hs:∀{m:List Ln},m.Pairwise (fun x y=>x.rank<y.rank)→(limL m).Pairwise (fun x y=>x.rank<y.rank):=fun{m} hm=>by
  unfold limL;rw[List.pairwise_map];exact hm
 refine aFt _ _ (hs i.sorted) (hs h.sorted) fun z=>?_
 unfold limL;rw[List.mem_map,List.mem_map]
 constructor
 ·rintro⟨y,hy,rfl⟩;have hl:=(aBu i y.cr y.de y.cu y).2 ⟨hy,rfl,rfl,rfl⟩;rw[f]at hl;split at hl
  ·obtain⟨x,hx,e⟩:=Option.map_eq_some_iff.1 hl;exact⟨x,(aAq hx).1,by rw[←e];rfl⟩
  split at hl
  ·obtain⟨x,hx,e⟩:=Option.map_eq_some_iff.1 hl;exact⟨x,(aAq hx).1,by rw[←e];rfl⟩
  exact⟨y,(aAq hl).1,rfl⟩
 rintro⟨x,hx,rfl⟩;have hl:=(aBu h x.cr x.de x.cu x).2 ⟨hx,rfl,rfl,rfl⟩;have hf:=f x.cr x.de x.cu;split at hf
 ·rename_i k;obtain⟨k1,k2,k3⟩:=k;rw[←k1,←k2,←k3]at hl;rw[hl]at hf;exact⟨_,(aAq hf).1,rfl⟩
 split at hf
 ·rename_i k;obtain⟨k1,k2,k3⟩:=k;rw[←k1,←k2,←k3]at hl;rw[hl]at hf;exact⟨_,(aAq hf).1,rfl⟩
 rw[hl]at hf;exact⟨x,(aAq hf).1,rfl⟩
theorem aQ2{ps:List Int}{ls:List Ln}{a b c n:Int}(h1:1≤n)(hr:n≤aB7 ps ls a b c):aEn ps ls a b c n=aCz ls a b c n∧a≠b∧n≤(lnAt ls a b c).db+(lnAt ls b a c).li - (lnAt ls b a c).db:=by
 have hz:¬(a=b∨a∉ps∨b∉ps):=by
  intro hz;unfold aB7 at hr;rw[if_pos hz]at hr;omega
 have hr2:=hr;unfold aB7 at hr2;rw[if_neg hz]at hr2;have he:aEw ps ls a b c n=0:=wD
 exact⟨by unfold aEn;rw[if_pos he],fun e=>hz (.inl e),hr2⟩
theorem aG6{ps:List Int}{c:Int}:∀(l:List Fw) {ls:List Ln},LInv ps ls→limL (aC1 ps c ls l)=limL ls
 | [],_,_=>rfl
 | x::l,ls,h=>by
  show limL (aC1 ps c (aEn ps ls x.fr x.tt c x.am) l)=_;rw[aG6 l (h.push _ _ _ _)]
  by_cases he:aEw ps ls x.fr x.tt c x.am=0
  ·have h1:1≤x.am∧x.am≤aB7 ps ls x.fr x.tt c:=by unfold aEw at he;(repeat' split at he) <;> omega
   obtain⟨e,k1,k2⟩:=aQ2 h1.1 h1.2;rw[e];exact push_lims h.inv k1 h1.1 k2
  unfold aEn;rw[if_neg he]
theorem aOh{x:Ln}{p c:Int}(h:x.cu≠c):aBb p c x=0:=by unfold aBb;rw[if_neg h]
theorem aPl{ls:List Ln}(h:Inv ls){a b c n:Int}(hab:a≠b)(h1:1≤n)(hr:n≤(lnAt ls a b c).db+(lnAt ls b a c).li - (lnAt ls b a c).db)(p:Int){d:Int}(hd:c≠d):posL (aCz ls a b c n) p d=posL ls p d:=by
 obtain⟨_,_,_,hs⟩:=aFu h hab h1 hr;unfold posL;rw[hs (aBb p d) (aFv p d)]
 have key:∀a b m,aBb p d ((lnAt ls a b c).owe m)=aBb p d (lnAt ls a b c):=by
  intro a b m
  cases hl:aAn ls a b c with
  | none=>rw[aAv hl];unfold aBb noLn Ln.owe;simp
  | some x=>
   have hc:=(aAq hl).2.2.2;rw[aAk hl,aOh (x:=x) zQ,aOh (x:=x.owe m) (by show x.cu≠d;omega)]
 rw[key,key];omega
theorem aMw{ps:List Int}{c:Int}(p:Int):∀(l:List Fw) {ls:List Ln},LInv ps ls→aJe (aAw ps ls c) l→∀d,posL (aC1 ps c ls l) p d=posL ls p d+(if d=c then netL l p else 0)
 | [],ls,_,_,d=>by show posL ls p d=posL ls p d+(if d=c then 0 else 0);split <;> omega
 | x::l,ls,h,⟨h1,h2,h3⟩,d=>by
  have e:aAw ps (aEn ps ls x.fr x.tt c x.am) c=aCd (aAw ps ls c) x.fr x.tt x.am:=by
   rw[room_push h];unfold aGu;rw[if_pos ⟨h1,h2⟩]
  show posL (aC1 ps c (aEn ps ls x.fr x.tt c x.am) l) p d=_;rw[aMw p l (h.push _ _ _ _) (by rw[e];exact h3) d];obtain⟨k,k1,k2⟩:=aQ2 (ps:=ps) (ls:=ls) h1 h2;rw[k]
  by_cases hd:d=c
  ·subst hd;rw[if_pos rfl,if_pos rfl,push_pos (ps:=ps) h.inv h1 h2 p];show _=_+((if x.tt=p then x.am else 0) - (if x.fr=p then x.am else 0)+netL l p);have e1:(if p=x.fr then x.am else 0)=(if x.fr=p then x.am else 0):=by simp only[eq_comm]
   have e2:(if p=x.tt then x.am else 0)=(if x.tt=p then x.am else 0):=by simp only[eq_comm]
   rw[e1,e2];omega
  rw[if_neg hd,if_neg hd,aPl h.inv k1 h1 k2 p (fun e=>hd e.symm)]
theorem aAl.good{f0:Int→Int→Int}{B s t want:Int}{σ:RS}(h:aAl f0 B s t want σ):aJe f0 σ.out∧aLg f0 σ.out=σ.f:=by
 obtain⟨k,h,_⟩:=h;exact⟨h.good,h.fold⟩
theorem aAl.net{f0:Int→Int→Int}{B s t want:Int}{σ:RS}(h:aAl f0 B s t want σ)(p:Int):netL σ.out p=(if t=p then want - σ.left else 0) - (if s=p then want - σ.left else 0):=by
 obtain⟨k,h,_⟩:=h;exact h.net p
theorem aAl.els{f0:Int→Int→Int}{B s t want:Int}{σ:RS}(h:aAl f0 B s t want σ):∀e∈σ.out,inP e.fr∧inP e.tt∧e.fr≠e.tt∧1≤e.am∧e.am≤B:=by
 obtain⟨k,h,_⟩:=h;exact h.els
def aDi(a b c n:Int):Prop:=inP a∧inP b∧a≠b∧1≤c∧c≤8∧1≤n∧n≤1099511627776
instance(a b c n:Int):Decidable (aDi a b c n):=by unfold aDi;infer_instance
def aDy(e0:Int)(has:Int→Bool)(a b c n got:Int):Int:=if e0=2 then 2 else if ¬aDi a b c n then 1 else if has a=false∨has b=false then 7 else if got<n then 11 else 0
theorem aMx(has:Int→Bool)(a b c n got:Int):(aDy 1 has a b c n got=1∧¬aDi a b c n)∨(aDy 1 has a b c n got=7∧aDi a b c n∧(has a=false∨has b=false))∨(aDy 1 has a b c n got=11∧aDi a b c n∧has a=true∧has b=true∧got<n)∨(aDy 1 has a b c n got=0∧aDi a b c n∧has a=true∧has b=true∧¬got<n):=by
 unfold aDy;rw[if_neg zX]
 by_cases h1:aDi a b c n
 ·rw[if_neg zR]
  by_cases h2:has a=false∨has b=false
  ·rw[if_pos h2];exact .inr (.inl ⟨rfl,h1,h2⟩)
  rw[if_neg h2];have h3:has a=true∧has b=true:=zF
  by_cases h4:got<n
  ·rw[if_pos h4];exact .inr (.inr (.inl ⟨rfl,h1,h3.1,h3.2,h4⟩))
  rw[if_neg h4];exact .inr (.inr (.inr ⟨rfl,h1,h3.1,h3.2,h4⟩))
 rw[if_pos h1];exact .inl ⟨rfl,h1⟩
def payE(ps:List Int)(a b c n:Int)(σ:RS):Int:=aDy 1 (fun p=>decide (p∈ps)) a b c n (n - σ.left)
def payN(ps:List Int)(a b c n:Int)(σ:RS):Int:=if payE ps a b c n σ=0 then(σ.out.length:Int)else 0
def payL(ps:List Int)(ls:List Ln)(a b c n:Int)(σ:RS):List Ln:=if payE ps a b c n σ=0 then aC1 ps c ls σ.out else ls
theorem aLs{ps:List Int}{ls:List Ln}(h:LInv ps ls)(a b c n:Int)(σ:RS):LInv ps (payL ps ls a b c n σ):=by
 unfold payL;split
 ·exact aF8 _ h
 exact h
theorem ymay_any(p:Int)(w:World):Calls Tryz.prog 292 #[.int .u8 p] w (yS w (.bool (mayG p))):=by
 have hs:(¬1≤p∧mayG p=false)∨(1≤p∧p≤16∧mayG p=true)∨(1≤p∧¬p≤16∧mayG p=false):=by unfold mayG;simp;omega
 rcases hs with⟨h1,h2⟩|⟨h1,h3,h2⟩|⟨h1,h3,h2⟩
 all_goals
  rw[h2];clear h2;go_enter Tryz.func292,Tryz.ntmps292;go_wp2;go_ret;exact⟨rfl,rfl⟩
theorem pmay9_any(lp:Option Addr)(a b c n:Int)(ao:Option Addr)(k cap:Nat)(got:Int)(w:World):
  Calls Tryz.prog 264 #[.agg #[.pointer lp,.int .u8 a,.int .u8 b,.int .u8 c,.int .i64 n,.slice ao k cap,.int .i64 got]] w (yR w (.bool (decide (aDi a b c n)))):=by
 have B:=yH ((Below.refl w.heap.size w).alloc yL (.cells #[.pointer lp,.int .u8 a,.int .u8 b,.int .u8 c,.int .i64 n,.slice ao k cap,.int .i64 got] 283));have C1:=yH (ymay_any a);have C2:=yH (ymay_any b);obtain⟨r,hr⟩:∃r,decide (aDi a b c n)=r:=⟨_,rfl⟩;rw[hr]
 have hs:(mayG a=false∧r=false)∨(mayG a=true∧mayG b=false∧r=false)∨(mayG a=true∧mayG b=true∧(a==b)=true∧r=false)∨
   (mayG a=true∧mayG b=true∧(a==b)=false∧¬1≤c∧r=false)∨(mayG a=true∧mayG b=true∧(a==b)=false∧1≤c∧¬c≤8∧r=false)∨
   (mayG a=true∧mayG b=true∧(a==b)=false∧1≤c∧c≤8∧¬1≤n∧r=false)∨
   (mayG a=true∧mayG b=true∧(a==b)=false∧1≤c∧c≤8∧1≤n∧decide (n≤1099511627776)=false∧r=false)∨(mayG a=true∧mayG b=true∧(a==b)=false∧1≤c∧c≤8∧1≤n∧n≤1099511627776∧r=true):=by
  have hf:¬aDi a b c n→r=false:=fun h=>by rw[←hr];exact decide_eq_false h
  unfold aDi at hf hr
  by_cases h1:inP a
  ·by_cases h2:inP b
   ·by_cases h3:a=b
    ·exact .inr (.inr (.inl ⟨aBa h1,aBa h2,by simp[h3],hf (fun o=>o.2.2.1 h3)⟩))
    have h3':(a==b)=false:=by simp[h3]
    by_cases h4:1≤c
    ·by_cases h5:c≤8
     ·by_cases h6:1≤n
      ·by_cases h7:n≤1099511627776
       ·exact .inr (.inr (.inr (.inr (.inr (.inr (.inr ⟨aBa h1,aBa h2,h3',h4,h5,h6,h7,by rw[←hr];exact decide_eq_true ⟨h1,h2,h3,h4,h5,h6,h7⟩⟩))))))
       exact .inr (.inr (.inr (.inr (.inr (.inr (.inl ⟨aBa h1,aBa h2,h3',h4,h5,h6,by simp[h7],hf (fun o=>h7 o.2.2.2.2.2.2)⟩))))))
      exact .inr (.inr (.inr (.inr (.inr (.inl ⟨aBa h1,aBa h2,h3',h4,h5,h6,hf (fun o=>h6 o.2.2.2.2.2.1)⟩)))))
     exact .inr (.inr (.inr (.inr (.inl ⟨aBa h1,aBa h2,h3',h4,h5,hf (fun o=>h5 o.2.2.2.2.1)⟩))))
    exact .inr (.inr (.inr (.inl ⟨aBa h1,aBa h2,h3',h4,hf (fun o=>h4 o.2.2.2.1)⟩)))
   exact .inr (.inl ⟨aBa h1,aDf h2,hf (fun o=>h2 o.2.1)⟩)
  exact .inl ⟨aDf h1,hf (fun o=>h1 o.1)⟩
 clear hr;have hneq:(a != b)=!(a==b):=rfl;rcases hs with⟨h1,h2⟩|⟨h1,h3,h2⟩|⟨h1,h3,h4,h2⟩|⟨h1,h3,h4,h5,h2⟩|⟨h1,h3,h4,h5,h6,h2⟩|⟨h1,h3,h4,h5,h6,h7,h2⟩|⟨h1,h3,h4,h5,h6,h7,h8,h2⟩|⟨h1,h3,h4,h5,h6,h7,h8,h2⟩
 ·rw[h1]at C1;rw[h2];clear h1 h2;go_enter Tryz.func264,Tryz.ntmps264;go_wp2_with fail;refine(C1.o _).mono ?_;rintro e w1 ⟨rfl,rfl⟩;go_wp2_with fail;go_ret;exact⟨rfl,B.o⟩
 all_goals
  rw[h1]at C1;rw[h3]at C2;rw[h2];clear h1 h3 h2;go_enter Tryz.func264,Tryz.ntmps264;go_wp2_with fail;refine(C1.o _).mono ?_;rintro e w1 ⟨rfl,rfl⟩;go_wp2_with fail;refine(C2.o _).mono ?_;rintro e w1 ⟨rfl,rfl⟩;go_wp2_with fail;go_ret;exact⟨rfl,B.o⟩
theorem popen0_any{w:World}{g m:Nat}{ps:List Int}{ls:List Ln}(h:LedM w g m ps ls):
  Calls Tryz.prog 151 #[.pointer (some ⟨g,0,none⟩),.int .u8 0] w (yS w (.int .i64 1)):=by
 have C1:=yH (aF6 h.blk);have C2:=yH (aDh 0 w);rw[show mayP 0=false by rfl]at C2;clear h;go_enter Tryz.func151,Tryz.ntmps151;go_wp2_with fail;refine C1.o.mono ?_;rintro e w ⟨rfl,rfl⟩;go_wp2_with fail;refine C2.o.mono ?_;rintro e w ⟨rfl,rfl⟩;go_wp2_with fail;go_ret;exact⟨rfl,rfl⟩
abbrev payV(lp:Option Addr)(a b c n:Int)(ao:Option Addr)(k cap:Nat)(got:Int):Value:=.agg #[.pointer lp,.int .u8 a,.int .u8 b,.int .u8 c,.int .i64 n,.slice ao k cap,.int .i64 got]
structure aFn(w:World)(lp:Option Addr)(e0:Int)(has:Int→Bool):Prop where
 open0:∀w',Below w.heap.size w w'→Calls Tryz.prog 151 #[.pointer lp,.int .u8 0] w' fun e w''=>e=.returned (.int .i64 e0)∧w'=w''
 has:∀w',Below w.heap.size w w'→∀p,Calls Tryz.prog 67 #[.pointer lp,.int .u8 p] w' fun e w''=>e=.returned (.bool (has p))∧w'=w''
theorem aFn.below{w w':World}{lp:Option Addr}{e0:Int}{has:Int→Bool}(h:aFn w lp e0 has)(k:Below w.heap.size w w'):aFn w' lp e0 has:=⟨fun w2 q=>h.open0 w2 (andB k q),fun w2 q=>h.has w2 (andB k q)⟩
theorem aIr{w:World}{g m:Nat}{ps:List Int}{ls:List Ln}(h:LedM w g m ps ls)(hI:LInv ps ls):aFn w (some ⟨g,0,none⟩) 1 (fun p=>decide (p∈ps)):=
 ⟨fun w' k=>popen0_any (h.below k),fun w' k p=>aF7 (h.below k).blk hI.bd p⟩
theorem chk1_any{w:World}{lp:Option Addr}{e0:Int}{has:Int→Bool}(h:aFn w lp e0 has)(a b c n:Int)(ao:Option Addr)(k cap:Nat)(got:Int):
  Calls Tryz.prog 262 #[payV lp a b c n ao k cap got] w (yR w (.bool (e0==2))):=by
 unfold payV;have bw:=(Below.refl w.heap.size w).alloc yL (.cells #[.pointer lp,.int .u8 a,.int .u8 b,.int .u8 c,.int .i64 n,.slice ao k cap,.int .i64 got] 283);have C:=yH (h.open0 _ bw);have B:=yH bw;clear bw h;go_enter Tryz.func262,Tryz.ntmps262;go_wp2_with fail;refine C.o.mono ?_;rintro e w1 ⟨rfl,rfl⟩;go_wp2_with fail;go_ret;exact⟨rfl,B.o⟩
theorem chk2_any(w:World)(lp:Option Addr)(a b c n:Int)(ao:Option Addr)(k cap:Nat)(got:Int):
  Calls Tryz.prog 263 #[payV lp a b c n ao k cap got] w (yR w (.bool (!decide (aDi a b c n)))):=by
 unfold payV;have bw:=(Below.refl w.heap.size w).alloc yL (.cells #[.pointer lp,.int .u8 a,.int .u8 b,.int .u8 c,.int .i64 n,.slice ao k cap,.int .i64 got] 283);have B:=yH bw;have C:=yH (pmay9_any lp a b c n ao k cap got);clear bw;generalize decide (aDi a b c n)=r at *;go_enter Tryz.func263,Tryz.ntmps263;go_wp2_with fail;refine(C.o _).mono ?_;rintro e w1 ⟨rfl,b1⟩;have B1:=yT B b1;clear b1;go_wp2_with fail;go_ret;exact⟨rfl,B1.o⟩
theorem chk3_any{w:World}{lp:Option Addr}{e0:Int}{has:Int→Bool}(h:aFn w lp e0 has)(a b c n:Int)(ao:Option Addr)(k cap:Nat)(got:Int):
  Calls Tryz.prog 265 #[payV lp a b c n ao k cap got] w (yR w (.bool (!has a || !has b))):=by
 unfold payV;have bw:=(Below.refl w.heap.size w).alloc yL (.cells #[.pointer lp,.int .u8 a,.int .u8 b,.int .u8 c,.int .i64 n,.slice ao k cap,.int .i64 got] 283);have C1:=yH (h.has _ bw a);have C2:=yH (h.has _ bw b);have B:=yH bw;clear bw h;generalize has a=x at *;generalize has b=y at *
 cases x
 ·go_enter Tryz.func265,Tryz.ntmps265;go_wp2_with fail;refine C1.o.mono ?_;rintro e w1 ⟨rfl,rfl⟩;go_wp2_with fail;go_ret;exact⟨rfl,B.o⟩
 go_enter Tryz.func265,Tryz.ntmps265;go_wp2_with fail;refine C1.o.mono ?_;rintro e w1 ⟨rfl,rfl⟩;go_wp2_with fail;refine C2.o.mono ?_;rintro e w1 ⟨rfl,rfl⟩;go_wp2_with fail;go_ret;exact⟨rfl,B.o⟩
theorem chk4_any(w:World)(lp:Option Addr)(a b c n:Int)(ao:Option Addr)(k cap:Nat)(got:Int):
  Calls Tryz.prog 266 #[payV lp a b c n ao k cap got] w (yR w (.bool (decide (got<n)))):=by
 unfold payV;have B:=yH ((Below.refl w.heap.size w).alloc yL (.cells #[.pointer lp,.int .u8 a,.int .u8 b,.int .u8 c,.int .i64 n,.slice ao k cap,.int .i64 got] 283));go_enter Tryz.func266,Tryz.ntmps266;go_wp2_with fail;go_ret;exact⟨rfl,B.o⟩
abbrev aTh:Array Value:=#[.int .i64 2,.func (.func 262) #[] #[],.int .i64 1,.func (.func 263) #[] #[],.int .i64 7,.func (.func 265) #[] #[],.int .i64 11,.func (.func 266) #[] #[]]
theorem checks_any(w:World):Calls Tryz.prog 230 #[] w fun e w'=>e=.returned (.slice (some ⟨w.heap.size,0,none⟩) 4 4)∧Blk w' w.heap.size aTh 332∧Below w.heap.size w w':=by
 have B:=yH ((Below.refl w.heap.size w).alloc yL (.cells aTh 332));have K:=yH (Blk.new w aTh 332);go_enter Tryz.func230,Tryz.ntmps230;go_wp2_with fail;go_ret;exact⟨rfl,K.o,B.o⟩
def WrongAt(e0:Int)(has:Int→Bool)(a b c n got:Int)(W:World)(i:Value)(wr:World):Prop:=
 ∃j:Int,0≤j∧j≤4∧i=.int .i64 j∧Below W.heap.size W wr∧(1≤j→e0≠2)∧(2≤j→aDi a b c n)∧(3≤j→has a=true∧has b=true)∧(4≤j→¬got<n)
theorem wrong_any{w:World}{lp:Option Addr}{e0:Int}{has:Int→Bool}(h:aFn w lp e0 has)(a b c n:Int)(ao:Option Addr)(k cap:Nat)(got:Int):
  Calls Tryz.prog 194 #[payV lp a b c n ao k cap got] w (yR w (.int .i64 (aDy e0 has a b c n got))):=by
 have bw:=(Below.refl w.heap.size w).alloc yL (.cells #[.pointer lp,.int .u8 a,.int .u8 b,.int .u8 c,.int .i64 n,.slice ao k cap,.int .i64 got] 283);have H:=yH (h.below bw);have KX:=yH (Blk.new w #[.pointer lp,.int .u8 a,.int .u8 b,.int .u8 c,.int .i64 n,.slice ao k cap,.int .i64 got] 283);have B:=yH bw;clear bw h;unfold payV;go_enter Tryz.func194,Tryz.ntmps194;go_wp2_with fail;generalize w.alloc (.cells #[.pointer lp,.int .u8 a,.int .u8 b,.int .u8 c,.int .i64 n,.slice ao k cap,.int .i64 got] 283)=W at *;refine(checks_any W).mono ?_;rintro e w1 ⟨rfl,hk,hb⟩;have K1:=yH hk;have B1:=yH hb;have hWs:=hk.lt;have hws:=KX.o.lt;clear hk hb;go_wp2_with fail
 go_loopw [7] (WrongAt e0 has a b c n got w1) (fun i _=>4 - (intOf i).toNat)
 case atStart=>exact⟨0,zQ,zQ,rfl,yZ,zQ,zQ,zQ,zQ⟩
 obtain⟨j,j0,j4,rfl,hB,e1,e2,e3,e4⟩:=hrel;have KC:=K1.o.below hB hWs;have KP:=(KX.o.below B1.o hws).below hB (yM hws B1.o.size);have HH:=yH ((H.o.below B1.o).below hB);have d0:=KP.cell 0;have d1:=KP.cell 1;have d2:=KP.cell 2;have d3:=KP.cell 3;have d4:=KP.cell 4;have d5:=KP.cell 5;have d6:=KP.cell 6;have hlp:=KP.lt;simp at d0 d1 d2 d3 d4 d5 d6;have BJ:=yH hB;have BT:=yH (B.o.trans ((B1.o.trans (hB.mono B1.o.size)).mono B.o.size));have c0:=KC.cell 0;have c1:=KC.cell 1;have c2:=KC.cell 2;have c3:=KC.cell 3;have c4:=KC.cell 4;have c5:=KC.cell 5;have c6:=KC.cell 6;have c7:=KC.cell 7;simp at c0 c1 c2 c3 c4 c5 c6 c7;clear hB KC KP;have hcase:j=0∨j=1∨j=2∨j=3∨j=4:=zQ
 rcases hcase with rfl|rfl|rfl|rfl|rfl
 ·have KT:=yH (Blk.new wr #[.int .i64 2,.func (.func 262) #[] #[]] 332);have bt:=(Below.refl wr.heap.size wr).alloc yL (.cells #[.int .i64 2,.func (.func 262) #[] #[]] 332);have CC:=yH (chk1_any (HH.o.below bt) a b c n ao k cap got);have BX:=yT BJ bt;have BY:=yT BT bt;clear bt
  by_cases hx:e0=2
  ·have E:Hid (aDy e0 has a b c n got=2):=yH (by
    unfold aDy;rw[if_pos hx])
   rw[show(e0==2)=true by simpa using hx]at CC;clear e1 e2 e3 e4 hx;go_wp2_with fail;refine CC.o.mono ?_;rintro e w2 ⟨rfl,b2⟩;have t0:=(KT.o.below b2 KT.o.lt).cell 0;simp at t0;have BZ:=yT BY b2;clear b2 CC c0 c1 c2 c3 c4 c5 c6 c7 d0 d1 d2 d3 d4 d5 d6;go_wp2_with fail;go_ret;exact⟨zT,BZ.o⟩
  rw[show(e0==2)=false by simpa using hx]at CC;have N:Hid (e0≠2):=yH (by exact hx);clear e1 e2 e3 e4 hx;go_wp2_with fail;refine CC.o.mono ?_;rintro e w2 ⟨rfl,b2⟩;have BZ:=yT BX b2;clear b2 CC c0 c1 c2 c3 c4 c5 c6 c7 d0 d1 d2 d3 d4 d5 d6;go_wp2_with fail;exact⟨⟨1,zQ,zQ,rfl,BZ.o,fun _=>N.o,zQ,zQ,zQ⟩,zX⟩
 ·have KT:=yH (Blk.new wr #[.int .i64 1,.func (.func 263) #[] #[]] 332);have bt:=(Below.refl wr.heap.size wr).alloc yL (.cells #[.int .i64 1,.func (.func 263) #[] #[]] 332);have CC:=yH (chk2_any (wr.alloc (.cells #[.int .i64 1,.func (.func 263) #[] #[]] 332)) lp a b c n ao k cap got);have BX:=yT BJ bt;have BY:=yT BT bt;clear bt
  by_cases hx:¬aDi a b c n
  ·have E:Hid (aDy e0 has a b c n got=1):=yH (by
    unfold aDy;rw[if_neg (e1 zQ),if_pos hx])
   rw[show(!decide (aDi a b c n))=true by simpa using hx]at CC;clear e1 e2 e3 e4 hx;go_wp2_with fail;refine CC.o.mono ?_;rintro e w2 ⟨rfl,b2⟩;have t0:=(KT.o.below b2 KT.o.lt).cell 0;simp at t0;have BZ:=yT BY b2;clear b2 CC c0 c1 c2 c3 c4 c5 c6 c7 d0 d1 d2 d3 d4 d5 d6;go_wp2_with fail;go_ret;exact⟨zT,BZ.o⟩
  rw[show(!decide (aDi a b c n))=false by simpa using hx]at CC;have N:Hid (aDi a b c n):=yH vY;have E1:=yH e1;clear e1 e2 e3 e4 hx;go_wp2_with fail;refine CC.o.mono ?_;rintro e w2 ⟨rfl,b2⟩;have BZ:=yT BX b2;clear b2 CC c0 c1 c2 c3 c4 c5 c6 c7 d0 d1 d2 d3 d4 d5 d6;go_wp2_with fail;exact⟨⟨2,zQ,zQ,rfl,BZ.o,fun _=>E1.o zQ,fun _=>N.o,zQ,zQ⟩,zX⟩
 ·have KT:=yH (Blk.new wr #[.int .i64 7,.func (.func 265) #[] #[]] 332);have bt:=(Below.refl wr.heap.size wr).alloc yL (.cells #[.int .i64 7,.func (.func 265) #[] #[]] 332);have CC:=yH (chk3_any (HH.o.below bt) a b c n ao k cap got);have BX:=yT BJ bt;have BY:=yT BT bt;clear bt
  by_cases hx:has a=false∨has b=false
  ·have E:Hid (aDy e0 has a b c n got=7):=yH (by
    unfold aDy;rw[if_neg (e1 zQ),if_neg vT,if_pos hx])
   rw[show(!has a || !has b)=true by rcases hx with h|h <;> simp[h]]at CC;clear e1 e2 e3 e4 hx;go_wp2_with fail;refine CC.o.mono ?_;rintro e w2 ⟨rfl,b2⟩;have t0:=(KT.o.below b2 KT.o.lt).cell 0;simp at t0;have BZ:=yT BY b2;clear b2 CC c0 c1 c2 c3 c4 c5 c6 c7 d0 d1 d2 d3 d4 d5 d6;go_wp2_with fail;go_ret;exact⟨zT,BZ.o⟩
  rw[show(!has a || !has b)=false by simp at hx;simp[hx]]at CC;have N:Hid (has a=true∧has b=true):=yH vY;have E1:=yH e1;have E2:=yH e2;clear e1 e2 e3 e4 hx;go_wp2_with fail;refine CC.o.mono ?_;rintro e w2 ⟨rfl,b2⟩;have BZ:=yT BX b2;clear b2 CC c0 c1 c2 c3 c4 c5 c6 c7 d0 d1 d2 d3 d4 d5 d6;go_wp2_with fail;exact⟨⟨3,zQ,zQ,rfl,BZ.o,fun _=>E1.o zQ,fun _=>E2.o zQ,fun _=>N.o,zQ⟩,zX⟩
 ·have KT:=yH (Blk.new wr #[.int .i64 11,.func (.func 266) #[] #[]] 332);have bt:=(Below.refl wr.heap.size wr).alloc yL (.cells #[.int .i64 11,.func (.func 266) #[] #[]] 332);have CC:=yH (chk4_any (wr.alloc (.cells #[.int .i64 11,.func (.func 266) #[] #[]] 332)) lp a b c n ao k cap got);have BX:=yT BJ bt;have BY:=yT BT bt;clear bt
  by_cases hx:got<n
  ·have E:Hid (aDy e0 has a b c n got=11):=yH (by
    unfold aDy;rw[if_neg (e1 zQ),if_neg vT,if_neg (by simp[e3 zQ]),if_pos hx])
   rw[show decide (got<n)=true by simpa using hx]at CC;clear e1 e2 e3 e4 hx;go_wp2_with fail;refine CC.o.mono ?_;rintro e w2 ⟨rfl,b2⟩;have t0:=(KT.o.below b2 KT.o.lt).cell 0;simp at t0;have BZ:=yT BY b2;clear b2 CC c0 c1 c2 c3 c4 c5 c6 c7 d0 d1 d2 d3 d4 d5 d6;go_wp2_with fail;go_ret;exact⟨zT,BZ.o⟩
  rw[show decide (got<n)=false by simpa using hx]at CC;have N:Hid (¬got<n):=yH (by exact hx);have E1:=yH e1;have E2:=yH e2;have E3:=yH e3;clear e1 e2 e3 e4 hx;go_wp2_with fail;refine CC.o.mono ?_;rintro e w2 ⟨rfl,b2⟩;have BZ:=yT BX b2;clear b2 CC c0 c1 c2 c3 c4 c5 c6 c7 d0 d1 d2 d3 d4 d5 d6;go_wp2_with fail;exact⟨⟨4,zQ,zQ,rfl,BZ.o,fun _=>E1.o zQ,fun _=>E2.o zQ,fun _=>E3.o zQ,fun _=>uV N.o⟩,zX⟩
 have E:Hid (aDy e0 has a b c n got=0):=yH (by
  unfold aDy;rw[if_neg (e1 zQ),if_neg vT,if_neg (by simp[e3 zQ]),if_neg (e4 zQ)])
 clear e1 e2 e3 e4 d0 d1 d2 d3 d4 d5 d6 c0 c1 c2 c3 c4 c5 c6 c7;go_wp2_with fail;go_ret;exact⟨zT,BT.o⟩
theorem aOi(HM:aEq){w:World}{G M:Nat}{ps:List Int}{ls:List Ln}{a b c:Int}{μ:RS}(h:LedM w G M ps ls)(hI:LInv ps ls)(ha:In8 a)(hb:In8 b)(hc:In8 c)(hμ:aAl (aAw ps ls c) 4398046511104 a b aCg μ):
  Calls Tryz.prog 315 #[.pointer (some ⟨G,0,none⟩),.int .u8 a,.int .u8 b,.int .u8 c] w (yR w (.int .i64 (aCg - μ.left))):=by
 have C1:=yH (gof_led h hI hc);have HI:=yH (aAz hI c);have HR:=yH hμ;clear h hI hμ;go_enter Tryz.func315,Tryz.ntmps315;go_wp2_with fail;refine C1.o.mono ?_;rintro e w1 ⟨rfl,hk,hb1⟩;have C2:=yH (HM.at_ (IsM.of hk) HI.o ha hb HR.o);have B1:=yH hb1;obtain⟨m,hm⟩:∃m,aCg - μ.left=m:=⟨_,rfl⟩;rw[hm]at C2;have HE:=yH hm;clear hk hb1 hm;go_wp2_with fail;refine C2.o.mono ?_;rintro e w2 ⟨rfl,hb2⟩;have B2:=yT B1 hb2;clear hb2;go_wp2_with fail;go_ret;exact⟨by rw[HE.o];rfl,B2.o⟩
def PayAt(w:World)(G M:Nat)(ps:List Int)(ls:List Ln)(c:Int)(l:List Fw)(W:World)(i:Value)(wr:World):Prop:=
 ∃k:Nat,k≤l.length∧i=.int .i64 k∧LedM wr G M ps (aC1 ps c ls (l.take k))∧Keep (·=M) W wr
theorem aLt(HR:aEe){w:World}{G M:Nat}{ps:List Int}{ls:List Ln}{a b c n:Int}{σ:RS}(h:LedM w G M ps ls)(hI:LInv ps ls)(ha:In8 a)(hb:In8 b)(hc:In8 c)(hn:In64 n)(hσ:aAl (aAw ps ls c) 4398046511104 a b n σ):
  Calls Tryz.prog 153 #[.pointer (some ⟨G,0,none⟩),.int .u8 a,.int .u8 b,.int .u8 c,.int .i64 n] w fun e w'=>e=.returned (.tuple #[.int .i64 (payN ps a b c n σ),.int .i64 (payE ps a b c n σ)])∧LedM w' G M ps (payL ps ls a b c n σ)∧Keep (·=M) w w':=by
 have bw:=(Below.refl w.heap.size w).alloc yL (.cells #[.pointer (some ⟨G,0,none⟩),.int .u8 a,.int .u8 b,.int .u8 c,.int .i64 n,.slice none 0 0,.int .i64 0] 283);have L1:=yH (h.below bw);have KX:=yH (Blk.new w #[.pointer (some ⟨G,0,none⟩),.int .u8 a,.int .u8 b,.int .u8 c,.int .i64 n,.slice none 0 0,.int .i64 0] 283);have B0:=yH bw;have hGl:=h.blk.lt;have hMl:=h.map.lt;have II:=yH hI;have HA:=yH ha;have HB:=yH hb;have HC:=yH hc;have HN:=yH hn;have HS:=yH hσ;have hsl:=hσ.len;clear bw h hI ha hb hc hn hσ;go_enter Tryz.func153,Tryz.ntmps153;go_wp2_with fail;generalize w.alloc (.cells #[.pointer (some ⟨G,0,none⟩),.int .u8 a,.int .u8 b,.int .u8 c,.int .i64 n,.slice none 0 0,.int .i64 0] 283)=W at *;have hwW:=B0.o.size;have hXl:=KX.o.lt;refine(gof_led L1.o II.o HC.o).mono ?_;rintro e w1 ⟨rfl,hk,hb1⟩;have CR:=yH (HR.at_ (IsM.of hk) (aAz II.o c) HA.o HB.o HN.o HS.o);have L2:=yH (L1.o.below hb1);have K2:=yB KX hb1;have B2:=yH (B0.o.trans (hb1.mono hwW));have hWw1:=hb1.size;obtain⟨got,hgot⟩:∃got,n - σ.left=got:=⟨_,rfl⟩;rw[hgot]at CR;have HG:=yH hgot;clear hk hb1 L1 KX B0 hgot;go_wp2_with fail;refine CR.o.mono ?_;rintro e w3 ⟨v',rfl,hr,hb3⟩;obtain⟨ao,cap,rfl,hcap,hmx,_,hrow⟩:=hr.look zX;have L3:=yH (L2.o.below hb3);have K3:=yB K2 hb3;have B3:=yT B2 hb3;have R3:=yH hr;have d5:=K3.o.cell 5;have d6:=K3.o.cell 6;have f5:=K3.o.frozen 5;have f6:=K3.o.frozen 6;have b2s:=B2.o.size;simp at d5 d6;clear hb3 hr L2 K2 B2 CR hrow
 go_upto_region 3 with fail
 have K4:=(K3.o.set 5 (.slice ao σ.out.length cap)).set 6 (.int .i64 got);have E4:=yH ((Keep.refl (·=w.heap.size) w3).setCell (p:=⟨w.heap.size,5,none⟩) (.inl rfl) (.slice ao σ.out.length cap) |>.setCell (p:=⟨w.heap.size,6,none⟩) (.inl rfl) (.int .i64 got));have B4:=yH ((B3.o.setCell (p:=⟨w.heap.size,5,none⟩) yL (.slice ao σ.out.length cap)).setCell (p:=⟨w.heap.size,6,none⟩) yL (.int .i64 got));have L4:=yH (L3.o.keep E4.o (by show ¬G=w.heap.size;omega) (by show ¬M=w.heap.size;omega));have R4:=yH (R3.o.keep E4.o (fun bb hbb=>by have:=(R3.o.type hbb).1;show ¬bb=w.heap.size;omega));have KX4:=yH (show Blk _ w.heap.size #[.pointer (some ⟨G,0,none⟩),.int .u8 a,.int .u8 b,.int .u8 c,.int .i64 n,.slice ao σ.out.length cap,.int .i64 got] 283 from by simpa using K4);clear K3 B3 L3 R3 E4 d5 d6 f5 f6 K4;generalize (w3.setCell ⟨w.heap.size,5,none⟩ (.slice ao σ.out.length cap)).setCell ⟨w.heap.size,6,none⟩ (.int .i64 got)=W4 at *;have d0:=KX4.o.cell 0;have d1:=KX4.o.cell 1;have d2:=KX4.o.cell 2;have d3:=KX4.o.cell 3;have d4:=KX4.o.cell 4;have d5:=KX4.o.cell 5;have d6:=KX4.o.cell 6;have hl4:=KX4.o.lt;simp at d0 d1 d2 d3 d4 d5 d6;have CW:=yH (wrong_any (aIr L4.o II.o) a b c n ao σ.out.length cap got);obtain⟨er,her⟩:∃er,aDy 1 (fun p=>decide (p∈ps)) a b c n got=er:=⟨_,rfl⟩;rw[her]at CW;have EE:Hid (payE ps a b c n σ=er):=yH (by unfold payE;rw[HG.o];exact her);clear her
 by_cases h0:er=0
 ·subst h0;have PN:Hid (payN ps a b c n σ=(σ.out.length:Int)∧payL ps ls a b c n σ=aC1 ps c ls σ.out):=yH (by unfold payN payL;rw[if_pos EE.o,if_pos EE.o];exact⟨rfl,rfl⟩);go_wp2_with fail;refine CW.o.mono ?_;rintro e w5 ⟨rfl,hb5⟩;have L5:=yH (L4.o.below hb5);have B5:=yT B4 hb5;have R5:=yH (R4.o.below hb5);have KX5:=yH (KX4.o.below hb5 hl4);clear hb5 L4 B4 R4 CW d0 d1 d2 d3 d4 d5 d6 KX4 hl4;have d5:=KX5.o.cell 5;simp at d5;obtain⟨L,hL⟩:∃L,σ.out=L:=⟨_,rfl⟩;have EL:=yH (HS.o.els);rw[hL]at R5 PN EL hsl hcap d5 KX5 ⊢;have hb1w:w.heap.size<w1.heap.size:=zQ
  go_wp2_with fail
  go_loopw [42] (PayAt w G M ps ls c L w5) (fun i _=>L.length - (intOf i).toNat)
  case atStart=>exact⟨0,zQ,rfl,L5.o,Keep.refl _ _⟩
  obtain⟨k,hk,rfl,hLL,hKK⟩:=hrel;have LL:=yH hLL;have KK:=yH hKK;have RR:=yH (R5.o.keep hKK (fun bb hbb=>by have:=(R5.o.type hbb).1;show ¬bb=M;omega));have KZ:=yH (KX5.o.keep hKK (by show ¬w.heap.size=M;omega));clear hLL hKK
  by_cases hkl:k<L.length
  ·have hki:(k:Int)<(L.length:Int):=zQ
   have hk0:(0:Int)≤(k:Int):=zQ
   obtain⟨ao1,ca1,hv,_,_,_,hlk⟩:=RR.o.look zX;simp only[Value.slice.injEq]at hv;obtain⟨h1,_,h2⟩:=hv;subst h1;subst h2;obtain⟨bl,rfl,hblb,hbl,hc,_⟩:=hlk zQ;clear hlk;have e0:=(hc (k*3+0) zQ).trans (aCn L k 0 zQ hkl);have e1:=(hc (k*3+1) zQ).trans (aCn L k 1 zQ hkl);have e2:=(hc (k*3+2) zQ).trans (aCn L k 2 zQ hkl);rw[Nat.add_zero]at e0;clear hc;have NX:=yH (aQ1 (ps:=ps) (c:=c) (ls:=ls) hkl);have el:=EL.o L[k] (List.getElem_mem _);have IK:=yH (aF8 (ps:=ps) (c:=c) (L.take k) II.o);generalize aC1 ps c ls (L.take k)=lk at *;obtain⟨x,hx⟩:∃x,L[k]=x:=⟨_,rfl⟩;rw[hx]at NX el e0 e1 e2;clear hx;obtain⟨fr,tt,am⟩:=x;obtain⟨⟨a1,a2⟩,⟨b1,b2⟩,_,n1,n2⟩:=el;dsimp only at a1 a2 b1 b2 n1 n2 NX;simp[Fw.vals]at e0 e1 e2;have bt:=(Below.refl wr.heap.size wr).alloc yL (.cells #[.int .u8 fr,.int .u8 tt,.int .i64 am] 209);have CP:=yH (ppush_any (LL.o.below bt) IK.o (a:=fr) (b:=tt) (c:=c) (n:=am) ⟨zQ,zQ⟩ ⟨zQ,zQ⟩ HC.o ⟨zQ,zQ⟩);have KT:=yH (KK.o.trans (pAD (S:=(·=M)) bt));have HK:=yH hkl;clear bt a1 a2 b1 b2 n1 n2;go_wp2_with fail;refine CP.o.mono ?_;rintro e w6 ⟨rfl,hL6,k6⟩;have L6:=yH hL6;have K6:=yH (KT.o.trans k6);clear hL6 k6 CP e0 e1 e2;go_wp2_with fail;exact⟨⟨k+1,uV HK.o,by go_num,by rw[NX.o];exact L6.o,K6.o⟩,by simp[intOf];have:=HK.o;omega⟩
  have hkn:k=L.length:=zQ
  subst hkn;rw[List.take_length]at LL;have d5:=KZ.o.cell 5;simp at d5;have BE:=yH ((pAD (S:=(·=M)) B5.o).trans KK.o);go_wp2_with fail;refine bodyPost_ret (v:=.tuple #[.int .i64 (L.length:Nat),.int .i64 0]) (by simp[results,Tryz.results153,go_sem]) rfl ?_;rw[PN.o.1,PN.o.2,EE.o];exact⟨rfl,LL.o,BE.o⟩
 have q0:(er==0)=false:=vL
 have PN:Hid (payN ps a b c n σ=0∧payL ps ls a b c n σ=ls):=yH (by unfold payN payL;rw[if_neg (by rw[EE.o];exact h0),if_neg (by rw[EE.o];exact h0)];exact⟨rfl,rfl⟩);clear h0;go_wp2_with fail;refine CW.o.mono ?_;rintro e w5 ⟨rfl,hb5⟩;have L5:=yH (L4.o.below hb5);have B5:=yT B4 hb5;clear hb5 L4 B4 R4 CW d0 d1 d2 d3 d4 d5 d6 KX4;go_wp2_with fail;refine bodyPost_ret (v:=.tuple #[.int .i64 0,.int .i64 er]) (by simp[results,Tryz.results153,go_sem]) rfl ?_;rw[PN.o.1,PN.o.2,EE.o];exact⟨rfl,L5.o,pAD B5.o⟩
def whole(neg:Bool)(f:Nat→Bool):Array Value:=#[Value.bool neg]++arr f
attribute [irreducible] whole
end Go.Proofs.YtngnfdnfpiiclaaGreat
namespace Go.Proofs.YtngnfdnfpiiclaaGreat
open Go.RowKit Go.Lib
theorem aQ3(x y c:Int)(hx:0≤x)(hy:0≤y)(hc0:0≤c)(hc:c≤1)(w:World):
  (callFunc 277 #[.int .u64 x,.int .u64 y,.int .u64 c]).run Tryz.prog w=
   .ok (.value (.tuple #[.int .u64 ((x+y+c)%18446744073709551616),.int .u64 ((x+y+c)/18446744073709551616)])) w:=by
 rw[run_callFunc_extern Tryz.func277 zW zW zW (e:=add64Entry) zW,run_add64 x y c hx hy hc0 hc];rfl
theorem maskN(a:Nat)(ha:a<18446744073709551616):bits .and .u64 (a:Int) 4294967295=((a%4294967296:Nat):Int):=by
 have h:=bits_and_u64_nat a 4294967295 ha zQ;have e:a &&& 4294967295=a%4294967296:=Nat.and_two_pow_sub_one_eq_mod a 32;rw[e]at h;exact h
theorem divN(a:Nat):(a:Int)/4294967296=((a/4294967296:Nat):Int):=zQ
theorem mulN(a b:Nat):(a:Int)*(b:Int)=((a*b:Nat):Int):=(Int.natCast_mul a b).symm
theorem addN(a b:Nat):(a:Int)+(b:Int)=((a+b:Nat):Int):=(Int.natCast_add a b).symm
theorem aQ4(a:Nat)(ha:a<18446744073709551616):IntKind.u64.wrap (a:Int)=(a:Int):=uX aB1
theorem wrapM(a:Nat):IntKind.u64.wrap (a:Int)=((a%18446744073709551616:Nat):Int):=uX aB1
theorem mul64_nat(x y:Nat)(hx:x<18446744073709551616)(hy:y<18446744073709551616)(w:World):
  Calls Tryz.prog 321 #[.int .u64 x,.int .u64 y] w fun e w'=>
   e=.returned (.tuple #[.int .u64 ((x*y/18446744073709551616:Nat):Int),.int .u64 ((x*y%18446744073709551616:Nat):Int)])∧w=w':=by
 obtain⟨bd,bt,bw,hhi⟩:=Lib.mul64_hi x y hx hy;have ba:=Lib.half_mul_le (a:=x/4294967296) (b:=y/4294967296) zQ zQ;have bb:=Lib.half_mul_le (a:=x/4294967296) (b:=y%4294967296) zQ zQ;have bc:=Lib.half_mul_le (a:=x%4294967296) (b:=y/4294967296) zQ zQ;have ba':x/4294967296*(y/4294967296)<18446744073709551616:=zQ
 have bb':x/4294967296*(y%4294967296)<18446744073709551616:=zQ
 have bc':x%4294967296*(y/4294967296)<18446744073709551616:=zQ
 have hmul:x*y/18446744073709551616<18446744073709551616:=by
  have:=Nat.mul_lt_mul'' hx hy;omega
 generalize ht:x/4294967296*(y%4294967296)+x%4294967296*(y%4294967296)/4294967296=t at *;have Ht:=yH ht;clear ht;have Hhi:=yH hhi;clear hhi;go_enter Tryz.func321,Tryz.ntmps321;go_wp2;simp only[maskN x hx,maskN y hy,divN,mulN,addN,aQ4 _ bd,aQ4 _ bb',Ht.o,aQ4 _ bt,maskN _ bt,aQ4 _ bc',aQ4 _ bw,aQ4 _ ba'];rw[aQ4 _ (show x/4294967296*(y/4294967296)+t/4294967296<18446744073709551616 by have:=Hhi.o;omega),addN,aQ4 _ (uV Hhi.o),Hhi.o,wrapM];go_ret2;exact⟨rfl,rfl⟩
theorem aG7(x y:Int)(w:World)(hx:aD8 x)(hy:aD8 y):
  Calls Tryz.prog 321 #[.int .u64 x,.int .u64 y] w fun e w'=>
   e=.returned (.tuple #[.int .u64 (x*y/18446744073709551616),.int .u64 (x*y%18446744073709551616)])∧w=w':=by
 unfold aD8 at hx hy;obtain⟨X,rfl⟩:=Int.eq_ofNat_of_zero_le hx.1;obtain⟨Y,rfl⟩:=Int.eq_ofNat_of_zero_le hy.1;exact mul64_nat X Y zQ zQ w
end Go.Proofs.YtngnfdnfpiiclaaGreat
namespace Go.Proofs.YtngnfdnfpiiclaaGreat
open Go.RowKit
def LenOf(x n:Nat):Prop:=x<2 ^ n∧(x=0∨2 ^ n≤2*x)
theorem len8_get(j:Int)(h0:0≤j)(h1:j<256)(hp:j.toNat<Lib.len8tab.size):(Lib.len8tab[j.toNat].toNat:Int)=Lib.bitLen j.toNat:=by
 rw[←Lib.len8_of j h0 zQ,Lib.len8,getElem?_pos Lib.len8tab j.toNat hp];rfl
theorem aE3(x j:Int)(k:Nat)(h0:0≤x)(h1:x≤18446744073709551615)(hj0:0≤j)(hj1:j<256)(hj:j.toNat=x.toNat/2 ^ k)(hk:2 ^ k≤x.toNat)(hp:j.toNat<Lib.len8tab.size):
  wrap64 (k+wrap64 (Lib.len8tab[j.toNat].toNat:Int))=Lib.bitLen x.toNat:=by
 have h8:=Lib.bitLen_le8' j hj0 zQ;have hs:=Lib.bitLen_shift k x.toNat hk zQ
 have hk64:k<64:=by
  rcases Nat.lt_or_ge k 64 with h|h
  ·exact h
  have:=Nat.pow_le_pow_right (n:=2) zQ h;omega
 rw[len8_get j hj0 hj1 hp,hs,←hj,aDk (Lib.bitLen j.toNat) yN,aDk _ yN];omega
theorem len_close0(x:Int)(h0:0≤x)(h1:x<256)(hp:x.toNat<Lib.len8tab.size):
  wrap64 (wrap64 (Lib.len8tab[x.toNat].toNat:Int))=Lib.bitLen x.toNat:=by
 have h8:=Lib.bitLen_le8' x h0 zQ;rw[len8_get x h0 h1 hp,aDk (Lib.bitLen x.toNat) yN,aDk _ yN]
theorem aK2(x:Nat)(h:x<2 ^ 64)(h0:0<x):1≤Lib.bitLen x∧Lib.bitLen x≤64∧LenOf x (Lib.bitLen x):=by
 obtain⟨h1,h2,h3⟩:=Lib.bitLenAux_bounds 64 x h zQ;have h4:=Lib.bitLen_le x 64 zQ h;unfold Lib.bitLen at *;refine⟨h1,h4,h3,.inr ?_⟩;obtain⟨n,hn⟩:∃n,Lib.bitLenAux 64 x=n+1:=⟨Lib.bitLenAux 64 x - 1,zQ⟩;rw[hn]at h2 ⊢;rw[Nat.pow_succ];simp only[Nat.add_sub_cancel]at h2;omega
theorem len64_any(x:Int)(w:World)(h0:0≤x)(h1:x≤18446744073709551615):
  Calls Tryz.prog 187 #[.int .u64 x] w (yS w (.int .i64 (Lib.bitLen x.toNat))):=by
 have hsz:(Lib.len8tab.size:Int)=256:=by rw[Lib.len8tab_size];rfl
 go_enter Tryz.func187,Tryz.ntmps187;go_wp2;all_goals (go_ret;refine⟨congrArg Ending.returned (congrArg (Value.int IntKind.i64) ?_),rfl⟩)
 ·exact aE3 x _ 56 h0 h1 zQ zQ zQ zQ _
 ·exact aE3 x _ 48 h0 h1 zQ zQ zQ zQ _
 ·exact aE3 x _ 40 h0 h1 zQ zQ zQ zQ _
 ·exact aE3 x _ 32 h0 h1 zQ zQ zQ zQ _
 ·exact aE3 x _ 24 h0 h1 zQ zQ zQ zQ _
 ·exact aE3 x _ 16 h0 h1 zQ zQ zQ zQ _
 ·exact aE3 x _ 8 h0 h1 zQ zQ zQ zQ _
 exact len_close0 x h0 zQ _
theorem lz64_any(x:Int)(w:World)(h0:0<x)(h1:x≤18446744073709551615):
  Calls Tryz.prog 352 #[.int .u64 x] w (yS w (.int .i64 (64 - (Lib.bitLen x.toNat:Int)))):=by
 have hb:=(aK2 x.toNat zQ zQ).2.1;go_enter Tryz.func352,Tryz.ntmps352;go_wp2_with fail;refine(len64_any x _ zQ h1).mono ?_;rintro e w' ⟨rfl,rfl⟩;go_wp2;go_ret;exact⟨rfl,rfl⟩
structure aG8(Y yn1 yn0 u d q r:Nat):Prop where
 le:(u*4294967296+d)/Y≤q
 hi:q≤4294967297
 rem:q*yn1+r=u
 small:r<4294967296
structure aK3(Y yn1 yn0 u d:Nat):Prop where
 y:Y=yn1*4294967296+yn0
 y1:2147483648≤yn1
 y1':yn1<4294967296
 y0:yn0<4294967296
 u:u<Y
 d:d<4294967296
theorem aG8.start{Y yn1 yn0 u d:Nat}(D:aK3 Y yn1 yn0 u d):aG8 Y yn1 yn0 u d (u/yn1) (u%yn1):=by
 obtain⟨hy,h1,h1',h0,hu,hd⟩:=D;have e1:(u*4294967296+d)/Y≤(u*4294967296+d)/(4294967296*yn1):=Nat.div_le_div_left zQ zQ;have e2:(u*4294967296+d)/(4294967296*yn1)=u/yn1:=by rw[←Nat.div_div_eq_div_mul];congr 1;omega
 refine⟨zQ,?_,by rw[Nat.mul_comm];exact Nat.div_add_mod u yn1,by have:=Nat.mod_lt u (show 0<yn1 by omega);omega⟩;have:u/yn1<4294967298:=by rw[Nat.div_lt_iff_lt_mul zQ];omega
 omega
theorem aG8.mulY{Y yn1 yn0 u d q r:Nat}(D:aK3 Y yn1 yn0 u d)(G:aG8 Y yn1 yn0 u d q r):q*Y+r*4294967296=u*4294967296+q*yn0:=by
 have h:=G.rem;rw[D.y,Nat.mul_add,←Nat.mul_assoc,←h];generalize q*yn1=a;omega
theorem aG8.done{Y yn1 yn0 u d q r:Nat}(D:aK3 Y yn1 yn0 u d)(G:aG8 Y yn1 yn0 u d q r)(h:q*yn0≤4294967296*r+d):q=(u*4294967296+d)/Y:=by
 have h1:=G.mulY D;have h2:q≤(u*4294967296+d)/Y:=wM
 have:=G.le;omega
theorem aTi{Y yn1 yn0 u d:Nat}(D:aK3 Y yn1 yn0 u d):(u*4294967296+d)/Y<4294967296:=by
 obtain⟨hy,h1,h1',h0,hu,hd⟩:=D;rw[Nat.div_lt_iff_lt_mul zQ];omega
theorem aG8.step{Y yn1 yn0 u d q r:Nat}(D:aK3 Y yn1 yn0 u d)(G:aG8 Y yn1 yn0 u d q r)(h:4294967296≤q∨4294967296*r+d<q*yn0):
  1≤q∧(u*4294967296+d)/Y≤q - 1∧(q - 1)*yn1+(r+yn1)=u∧q - 1≤4294967296:=by
 have h1:=G.mulY D;have hl:=aTi D
 have hq:1≤q:=by
  rcases Nat.eq_zero_or_pos q with rfl|h0
  ·rcases h with h|h
   ·omega
   simp at h
  exact h0
 have hlt:(u*4294967296+d)/Y<q:=by
  rcases h with h|h
  ·omega
  rw[Nat.div_lt_iff_lt_mul (uV D.u)];omega
 have hr:=G.rem;obtain⟨p,rfl⟩:∃p,q=p+1:=⟨q - 1,zQ⟩;simp only[Nat.add_sub_cancel];rw[Nat.add_mul]at hr;exact⟨hq,zQ,zQ,uV G.hi⟩
theorem pAI{Y yn1 yn0 u d q r:Nat}(D:aK3 Y yn1 yn0 u d)(h1:(u*4294967296+d)/Y≤q)(h2:q*yn1+r=u)(h3:q≤4294967296)(h4:4294967296≤r):q=(u*4294967296+d)/Y:=by
 have h0:=D.y0
 have h5:q*Y+r*4294967296=u*4294967296+q*yn0:=by
  rw[D.y,Nat.mul_add,←Nat.mul_assoc,←h2];generalize q*yn1=a;omega
 have h6:q*yn0≤4294967296*4294967295:=Nat.mul_le_mul h3 zQ;have h7:q≤(u*4294967296+d)/Y:=wM
 omega
def GuessAt(Y yn1 yn0 u d:Nat)(a b:Value):Prop:=∃q r:Nat,a=.int .u64 q∧b=.int .u64 r∧aG8 Y yn1 yn0 u d q r
theorem aTj{u n:Nat}(hu:u<18446744073709551616)(hn:0<n):IntKind.u64.wrap ((u:Int)/(n:Int))=((u/n:Nat):Int):=by
 have:u/n≤u:=Nat.div_le_self u n;rw[←Int.natCast_ediv,aB1];generalize u/n=k at *;omega
theorem guess_r{u n:Nat}(hu:u<18446744073709551616):IntKind.u64.wrap ((u:Int) - IntKind.u64.wrap (((u/n:Nat):Int)*(n:Int)))=((u%n:Nat):Int):=by
 have h:=Nat.div_add_mod u n;rw[Nat.mul_comm]at h;rw[←Int.natCast_mul,aB1,aB1];generalize u/n*n=p at *;omega
theorem aQ5{a b:Nat}(ha:a<4294967296)(hb:b<4294967296):IntKind.u64.wrap ((a:Int)*(b:Int))=((a*b:Nat):Int):=by
 have h:a*b≤4294967295*4294967295:=Nat.mul_le_mul zQ zQ;rw[←Int.natCast_mul,aB1];generalize a*b=p at *;omega
theorem div_rest{u d Y:Nat}(hY:0<Y∧Y<18446744073709551616)(hd:d<4294967296):
  IntKind.u64.wrap (IntKind.u64.wrap (IntKind.u64.wrap ((u:Int)*4294967296)+(d:Int)) - IntKind.u64.wrap ((((u*4294967296+d)/Y:Nat):Int)*(Y:Int)))=(((u*4294967296+d)%Y:Nat):Int):=by
 have h:=Nat.div_add_mod (u*4294967296+d) Y;have hm:=Nat.mod_lt (u*4294967296+d) hY.1;rw[Nat.mul_comm Y]at h;rw[←Int.natCast_mul];simp only[aB1];generalize (u*4294967296+d)/Y*Y=p at *;generalize (u*4294967296+d)%Y=m at *;omega
theorem aTk(hi lo y:Nat)(w:World)(hh:0<hi)(hy:hi<y)(hy2:y<18446744073709551616)(hlo:lo<18446744073709551616)
  (s Y yn1 yn0 u L d1 d0:Nat)(hs':Hid (64 - (Lib.bitLen y:Int)=s))(hs2:s≤63)
  (r1:IntKind.u64.wrap ((y:Int)*2 ^ s)=(Y:Int))(r2:(Y:Int)/4294967296=(yn1:Int))(r3:bits .and .u64 (Y:Int) 4294967295=(yn0:Int))
  (r4:bits .or .u64 (IntKind.u64.wrap ((hi:Int)*2 ^ s)) ((lo:Int)/2 ^ (64 - s))=(u:Int))(r5:IntKind.u64.wrap ((lo:Int)*2 ^ s)=(L:Int))
  (r6:(L:Int)/4294967296=(d1:Int))(r7:bits .and .u64 (L:Int) 4294967295=(d0:Int))
  (D1:Hid (aK3 Y yn1 yn0 u d1))(D0:Hid (∀u',u'<Y→aK3 Y yn1 yn0 u' d0))
  (hY:Y<18446744073709551616)(hY0:9223372036854775808≤Y)(hu:u<Y)(hyn1:2147483648≤yn1)(hyn1':yn1<4294967296)(hyn0:yn0<4294967296)(hd1:d1<4294967296)(hd0:d0<4294967296):
  Calls Tryz.prog 344 #[.int .u64 hi,.int .u64 lo,.int .u64 y] w fun e w'=>
   e=.returned (.tuple #[.int .u64 ((((u*4294967296+d1)/Y:Nat):Int)*4294967296+((((u*4294967296+d1)%Y*4294967296+d0)/Y:Nat):Int)),.int .u64 (((((u*4294967296+d1)%Y*4294967296+d0)%Y:Nat):Int)/2 ^ s)])∧w=w':=by
 go_enter Tryz.func344,Tryz.ntmps344;go_wp2_with fail;refine(lz64_any y _ zQ zQ).mono ?_;rw[Int.toNat_natCast,hs'.out];rintro e w' ⟨rfl,rfl⟩;have e15:IntKind.u64.wrap ((u:Int)/(yn1:Int))=((u/yn1:Nat):Int):=aTj zQ zQ;have e16:IntKind.u64.wrap ((u:Int) - IntKind.u64.wrap (((u/yn1:Nat):Int)*(yn1:Int)))=((u%yn1:Nat):Int):=guess_r zQ;have G0:=yH (aG8.start D1.o);generalize u/yn1=q0 at e15 e16 G0;generalize u%yn1=r0 at e16 G0
 go_upto_block 0 with fail
 go_cut [15,16] (fun a _ w'=>a=.int .u64 (((u*4294967296+d1)/Y:Nat):Int)∧w=w')
 case first=>
  go_wp2_with fail
  go_loop [15,16] (GuessAt Y yn1 yn0 u d1) (fun a _=>(intOf a).toNat)
  case atStart=>exact⟨q0,r0,rfl,rfl,G0.o⟩
  obtain⟨q,r,rfl,rfl,G⟩:=hrel;have h1:=G.hi;have h2:=G.small;have hg:=yH G;clear G
  by_cases hq:(4294967296:Int)≤(q:Int)
  ·have st:=yH (aG8.step D1.o hg.out (.inl zQ))
   by_cases hr:(4294967296:Int)≤(r:Int)+(yn1:Int)
   ·go_wp2
    go_meet
    case rel=>exact⟨xF,rfl⟩
   go_wp2
   go_round
   case rel=>exact⟨q - 1,r+yn1,by congr 1;omega,by congr 1,⟨st.out.2.1,zQ,st.out.2.2.1,zQ⟩⟩
   case measure=>simp[intOf];omega
  have n1:IntKind.u64.wrap ((q:Int)*(yn0:Int))=((q*yn0:Nat):Int):=aQ5 zQ hyn0
  by_cases ht:4294967296*r+d1<q*yn0
  ·have st:=yH (aG8.step D1.o hg.out (.inr ht));have h1q:(1:Int)≤q:=uV st.out.1
   have ht':4294967296*(r:Int)+(d1:Int)<((q*yn0:Nat):Int):=zQ
   clear ht;generalize q*yn0=p at *
   by_cases hr:(4294967296:Int)≤(r:Int)+(yn1:Int)
   ·go_wp2
    go_meet
    case rel=>exact⟨xF,rfl⟩
   go_wp2
   go_round
   case rel=>exact⟨q - 1,r+yn1,by congr 1;omega,by congr 1,⟨st.out.2.1,zQ,st.out.2.2.1,zQ⟩⟩
   case measure=>simp[intOf];omega
  have he:=yH (aG8.done D1.o hg.out zQ);have ht':((q*yn0:Nat):Int)≤4294967296*(r:Int)+(d1:Int):=zQ
  clear ht;generalize q*yn0=p at *;go_wp2
  go_meet
  case rel=>exact⟨by rw[←he.out],rfl⟩
 obtain⟨rfl,rfl⟩:=hcut;have e17:=div_rest (u:=u) (d:=d1) (Y:=Y) zQ hd1;have hql:(u*4294967296+d1)/Y<4294967296:=aTi D1.o;have hu2:(u*4294967296+d1)%Y<Y:=Nat.mod_lt _ zQ;have D2:=yH (D0.o _ hu2);generalize k1:(u*4294967296+d1)/Y=Q1 at *;generalize k2:(u*4294967296+d1)%Y=v at *;have K1:=yH k1;have K2:=yH k2;clear k1 k2;have e15:IntKind.u64.wrap ((v:Int)/(yn1:Int))=((v/yn1:Nat):Int):=aTj zQ zQ;have e16:IntKind.u64.wrap ((v:Int) - IntKind.u64.wrap (((v/yn1:Nat):Int)*(yn1:Int)))=((v%yn1:Nat):Int):=guess_r zQ;have G0:=yH (aG8.start D2.o);generalize v/yn1=q0 at e15 e16 G0;generalize v%yn1=r0 at e16 G0
 go_upto_block 2 with fail
 go_cut [16,18] (fun _ a w'=>a=.int .u64 (((v*4294967296+d0)/Y:Nat):Int)∧w=w')
 case first=>
  go_wp2_with fail
  go_loop [18,16] (GuessAt Y yn1 yn0 v d0) (fun a _=>(intOf a).toNat)
  case atStart=>exact⟨q0,r0,rfl,rfl,G0.o⟩
  obtain⟨q,r,rfl,rfl,G⟩:=hrel;have h1:=G.hi;have h2:=G.small;have hg:=yH G;clear G
  by_cases hq:(4294967296:Int)≤(q:Int)
  ·have st:=yH (aG8.step D2.o hg.out (.inl zQ))
   by_cases hr:(4294967296:Int)≤(r:Int)+(yn1:Int)
   ·go_wp2
    go_meet
    case rel=>exact⟨xG,rfl⟩
   go_wp2
   go_round
   case rel=>exact⟨q - 1,r+yn1,by congr 1;omega,by congr 1,⟨st.out.2.1,zQ,st.out.2.2.1,zQ⟩⟩
   case measure=>simp[intOf];omega
  have n1:IntKind.u64.wrap ((q:Int)*(yn0:Int))=((q*yn0:Nat):Int):=aQ5 zQ hyn0
  by_cases ht:4294967296*r+d0<q*yn0
  ·have st:=yH (aG8.step D2.o hg.out (.inr ht));have h1q:(1:Int)≤q:=uV st.out.1
   have ht':4294967296*(r:Int)+(d0:Int)<((q*yn0:Nat):Int):=zQ
   clear ht;generalize q*yn0=p at *
   by_cases hr:(4294967296:Int)≤(r:Int)+(yn1:Int)
   ·go_wp2
    go_meet
    case rel=>exact⟨xG,rfl⟩
   go_wp2
   go_round
   case rel=>exact⟨q - 1,r+yn1,by congr 1;omega,by congr 1,⟨st.out.2.1,zQ,st.out.2.2.1,zQ⟩⟩
   case measure=>simp[intOf];omega
  have he:=yH (aG8.done D2.o hg.out zQ);have ht':((q*yn0:Nat):Int)≤4294967296*(r:Int)+(d0:Int):=zQ
  clear ht;generalize q*yn0=p at *;go_wp2
  go_meet
  case rel=>exact⟨by rw[←he.out],rfl⟩
 obtain⟨rfl,rfl⟩:=hcut;have e18:=div_rest (u:=v) (d:=d0) (Y:=Y) zQ hd0;have hql2:(v*4294967296+d0)/Y<4294967296:=aTi D2.o;have hv2:(v*4294967296+d0)%Y<Y:=Nat.mod_lt _ zQ;generalize k3:(v*4294967296+d0)/Y=Q0 at e18 hql2 ⊢;generalize k4:(v*4294967296+d0)%Y=z at e18 hv2;have K3:=yH k3;have K4:=yH k4;clear k3 k4;go_wp2;go_ret2;refine⟨?_,rfl⟩;simp only[Array.getD_eq_getD_getElem?,List.getElem?_toArray,List.getElem?_cons_succ,List.getElem?_cons_zero,Option.getD_some];simp only[K1.o,K2.o,K3.o,K4.o]
theorem shl_or{hi lo s:Nat}(hs:s≤63)(hh:hi*2 ^ s<18446744073709551616)(hlo:lo<18446744073709551616):
  bits .or .u64 (IntKind.u64.wrap ((hi:Int)*2 ^ s)) ((lo:Int)/2 ^ (64 - s))=((hi*2 ^ s+lo/2 ^ (64 - s):Nat):Int):=by
 have e1:IntKind.u64.wrap ((hi:Int)*2 ^ s)=((hi*2 ^ s:Nat):Int):=by
  rw[show((hi:Int)*2 ^ s)=((hi*2 ^ s:Nat):Int) by simp,aB1];omega
 have hp:(2:Nat) ^ s*2 ^ (64 - s)=18446744073709551616:=by rw[←Nat.pow_add,show s+(64 - s)=64 by omega]
 have hl:lo/2 ^ (64 - s)<2 ^ s:=by rw[Nat.div_lt_iff_lt_mul (Nat.two_pow_pos _)];omega
 have e2:((lo:Int)/2 ^ (64 - s))=((lo/2 ^ (64 - s):Nat):Int):=zV
 have hl2:lo/2 ^ (64 - s)≤lo:=Nat.div_le_self _ _;rw[e1,e2,bits_or_u64_nat _ _ hh zQ,Nat.mul_comm,←Nat.two_pow_add_eq_or_of_lt hl]
theorem div64_zero(lo y:Nat)(w:World)(hy:0<y)(hy2:y<18446744073709551616)(hlo:lo<18446744073709551616):
  Calls Tryz.prog 344 #[.int .u64 0,.int .u64 lo,.int .u64 y] w fun e w'=>
   e=.returned (.tuple #[.int .u64 ((lo/y:Nat):Int),.int .u64 ((lo%y:Nat):Int)])∧Below w.heap.size w w':=by
 have n1:IntKind.u64.wrap ((lo:Int)/(y:Int))=((lo/y:Nat):Int):=aTj zQ zQ;go_enter Tryz.func344,Tryz.ntmps344;go_wp2
 go_quiet (fail)
 go_wp2;go_ret2;exact⟨rfl,below_drewN yZ _⟩
theorem two_digits(a d Y:Nat)(hY:0<Y):
  (a*4294967296+d)/Y=a/Y*4294967296+(a%Y*4294967296+d)/Y∧(a*4294967296+d)%Y=(a%Y*4294967296+d)%Y:=by
 have h:a*4294967296+d=Y*(a/Y*4294967296)+(a%Y*4294967296+d):=by
  have:=Nat.div_add_mod a Y;rw[←Nat.mul_assoc];generalize Y*(a/Y)=p at *;omega
 constructor
 ·rw[h,Nat.mul_add_div hY]
 rw[h,Nat.mul_add_mod]
theorem aTl(u L N:Nat)(h:u*18446744073709551616+L=N):(u*4294967296+L/4294967296)*4294967296+L%4294967296=N:=by
 have h2:=Nat.div_add_mod L 4294967296;generalize L/4294967296=p at *;generalize L%4294967296=q at *;rw[Nat.add_mul,Nat.mul_assoc,←h,←h2,Nat.mul_comm p];simp only[Nat.reduceMul,Nat.add_assoc]
theorem shl_digits(hi lo s:Nat)(hs:s≤63):
  (hi*2 ^ s+lo/2 ^ (64 - s))*18446744073709551616+lo*2 ^ s%18446744073709551616=(hi*18446744073709551616+lo)*2 ^ s:=by
 have hp:(2:Nat) ^ (64 - s)*2 ^ s=18446744073709551616:=by rw[←Nat.pow_add,show 64 - s+s=64 by omega]
 have e:lo/2 ^ (64 - s)=lo*2 ^ s/18446744073709551616:=by rw[←hp,Nat.mul_div_mul_right _ _ (Nat.two_pow_pos s)]
 rw[e,Nat.add_mul,Nat.add_mul,Nat.mul_right_comm hi];generalize hi*2 ^ s=p at *;generalize lo*2 ^ s=q at *;omega
theorem div64_pos(hi lo y:Nat)(w:World)(hh:0<hi)(hy:hi<y)(hy2:y<18446744073709551616)(hlo:lo<18446744073709551616):
  Calls Tryz.prog 344 #[.int .u64 hi,.int .u64 lo,.int .u64 y] w fun e w'=>
   e=.returned (.tuple #[.int .u64 (((hi*18446744073709551616+lo)/y:Nat):Int),.int .u64 (((hi*18446744073709551616+lo)%y:Nat):Int)])∧w=w':=by
 obtain⟨b1,b2,b3,b4⟩:=aK2 y zQ zQ;obtain⟨s,hs,hs2,hs3⟩:∃s:Nat,64 - (Lib.bitLen y:Int)=s∧s≤63∧Lib.bitLen y+s=64:=⟨64 - Lib.bitLen y,zQ,zQ,zQ⟩;have hp:=Nat.two_pow_pos s
 have p1:y*2 ^ s<18446744073709551616:=by
  have h:=Nat.mul_lt_mul_of_pos_right b3 hp;rw[←Nat.pow_add,hs3]at h;exact h
 have p2:9223372036854775808≤y*2 ^ s:=by
  have h:=Nat.mul_le_mul_right (2 ^ s) (b4.resolve_left zQ);rw[←Nat.pow_add,hs3,Nat.mul_assoc]at h;generalize y*2 ^ s=p at *;omega
 have p3:hi*2 ^ s+2 ^ s≤y*2 ^ s:=by
  have:=Nat.mul_le_mul_right (2 ^ s) hy;rw[Nat.succ_mul]at this;exact this
 have hp2:(2:Nat) ^ (64 - s)*2 ^ s=18446744073709551616:=by rw[←Nat.pow_add,show 64 - s+s=64 by omega]
 have hl:lo/2 ^ (64 - s)<2 ^ s:=by rw[Nat.div_lt_iff_lt_mul (Nat.two_pow_pos _),Nat.mul_comm];omega
 have r4:=shl_or (hi:=hi) (lo:=lo) hs2 zQ hlo;have hdig:=shl_digits hi lo s hs2;have e1:(y:Int)*2 ^ s=((y*2 ^ s:Nat):Int):=zV
 have e5:(lo:Int)*2 ^ s=((lo*2 ^ s:Nat):Int):=zV
 have hc:=aTk hi lo y w hh hy hy2 hlo s (y*2 ^ s) (y*2 ^ s/4294967296) (y*2 ^ s%4294967296) (hi*2 ^ s+lo/2 ^ (64 - s)) (lo*2 ^ s%18446744073709551616)
  (lo*2 ^ s%18446744073709551616/4294967296) (lo*2 ^ s%18446744073709551616%4294967296) (yH hs) hs2
  (by rw[e1,aB1];omega) zQ (maskN _ p1) r4 (by rw[e5,aB1];omega) zQ (maskN _ zQ)
  (yH ⟨zQ,zQ,zQ,zQ,zQ,zQ⟩) (yH (fun u' hu'=>⟨zQ,zQ,zQ,zQ,hu',zQ⟩))
  p1 p2 zQ zQ zQ zQ zQ zQ
 refine hc.mono ?_;rintro e w' ⟨rfl,rfl⟩;refine⟨?_,rfl⟩;have hN:((hi*2 ^ s+lo/2 ^ (64 - s))*4294967296+lo*2 ^ s%18446744073709551616/4294967296)*4294967296+lo*2 ^ s%18446744073709551616%4294967296=(hi*18446744073709551616+lo)*2 ^ s:=aTl _ _ _ hdig;obtain⟨t1,t2⟩:=two_digits ((hi*2 ^ s+lo/2 ^ (64 - s))*4294967296+lo*2 ^ s%18446744073709551616/4294967296) (lo*2 ^ s%18446744073709551616%4294967296) (y*2 ^ s) zQ;rw[hN,Nat.mul_div_mul_right _ _ hp]at t1;rw[hN,Nat.mul_mod_mul_right]at t2;rw[←t2,t1]
 have e6:(((hi*18446744073709551616+lo)%y*2 ^ s:Nat):Int)/2 ^ s=(((hi*18446744073709551616+lo)%y:Nat):Int):=by
  rw[show((2:Int) ^ s)=((2 ^ s:Nat):Int) by simp,←Int.natCast_ediv,Nat.mul_div_cancel _ hp]
 rw[e6];simp only[Int.natCast_add,Int.natCast_mul];rfl
theorem div64_any(hi lo y:Int)(w:World)(hh:0≤hi)(hy:hi<y)(hy2:y<18446744073709551616)(hlo:aD8 lo):
  Calls Tryz.prog 344 #[.int .u64 hi,.int .u64 lo,.int .u64 y] w fun e w'=>
   e=.returned (.tuple #[.int .u64 ((hi*18446744073709551616+lo)/y),.int .u64 ((hi*18446744073709551616+lo)%y)])∧Below w.heap.size w w':=by
 unfold aD8 at hlo;obtain⟨H,rfl⟩:=Int.eq_ofNat_of_zero_le hh;obtain⟨L,rfl⟩:=Int.eq_ofNat_of_zero_le hlo.1;obtain⟨Y,rfl⟩:=Int.eq_ofNat_of_zero_le (show 0≤y by omega);rcases Nat.eq_zero_or_pos H with rfl|hH
 ·refine(div64_zero L Y w zQ zQ zQ).mono ?_;rintro e w' ⟨rfl,hb⟩;refine⟨?_,hb⟩;simp
 refine(div64_pos H L Y w hH zQ zQ zQ).mono ?_;rintro e w' ⟨rfl,rfl⟩;refine⟨?_,yZ⟩;simp
def hi64(x:Int):Int:=x/18446744073709551616%18446744073709551616
def lo64(x:Int):Int:=x%18446744073709551616
def aLi(x:Int):Value:=.agg #[.int .u64 (hi64 x),.int .u64 (lo64 x)]
theorem aTm(x:Int):aD8 (hi64 x):=by unfold hi64 aD8;omega
theorem aTn(x:Int):aD8 (lo64 x):=by unfold lo64 aD8;omega
theorem aCj(x:Int):aLi x=.agg #[.int .u64 (hi64 x),.int .u64 (lo64 x)]:=rfl
theorem aPm(x a b:Int)(ha:a=hi64 x)(hb:b=lo64 x):Value.agg #[.int .u64 a,.int .u64 b]=aLi x:=by rw[ha,hb];rfl
def okN(x:Int):Int:=if In64 x then x else 0
def erN(x:Int):Int:=if In64 x then 0 else 10
def ans(x:Int):Value:=.tuple #[.int .i64 (okN x),.int .i64 (erN x)]
theorem aG9(n:Int)(w:World)(h:In64 n):
  Calls Tryz.prog 238 #[.int .i64 n] w (yR w (aLi n)):=by
 have hv:=yH (aPm n (IntKind.u64.wrap (n/9223372036854775808)) (IntKind.u64.wrap n) (by unfold In64 at h;rw[aB1,hi64];omega) (by rw[aB1,lo64]));obtain⟨h1,h2⟩:=h;go_enter Tryz.func238,Tryz.ntmps238;go_wp2;refine bodyPost_ret (v:=aLi n) ?_ rfl ⟨rfl,yZ.alloc yL _⟩;simp[results,Tryz.results238,go_sem];exact hv.out
theorem plus_any(x y:Int)(w:World):
  Calls Tryz.prog 237 #[aLi x,aLi y] w (yR w (aLi (x+y))):=by
 have bx:=aTn x;have by':=aTn y;have cx:=aTm x;have cy:=aTm y
 have hv:=yH (aPm (x+y) ((hi64 x+hi64 y+(lo64 x+lo64 y)/18446744073709551616)%18446744073709551616) ((lo64 x+lo64 y)%18446744073709551616) (by unfold hi64 lo64;omega) (by unfold lo64;omega));have a1:=fun w=>aQ3 (lo64 x) (lo64 y) 0 bx.1 by'.1 zQ zQ w
 unfold aD8 at bx by' cx cy
 have a2:=fun w=>aQ3 (hi64 x) (hi64 y) ((lo64 x+lo64 y)/18446744073709551616) cx.1 cy.1 zQ zQ w
 simp only[Int.add_zero]at a1;rw[aCj,aCj];go_enter Tryz.func237,Tryz.ntmps237;go_wp2;refine bodyPost_ret (v:=aLi (x+y)) ?_ rfl ⟨rfl,((yZ.alloc yL _).alloc zV _).alloc zU _⟩;simp[results,Tryz.results237,go_sem];exact hv.out
theorem prod_hi(a b:Int)(ha:In64 a)(hb:In64 b):
  ((a%18446744073709551616)*(b%18446744073709551616)/18446744073709551616 - (if a<0 then b else 0) - (if b<0 then a else 0))%18446744073709551616=hi64 (a*b):=by
 unfold hi64 In64 at *;obtain⟨s,hs,hs2⟩:∃s:Int,a%18446744073709551616=a+s*18446744073709551616∧s=if a<0 then 1 else 0:=⟨_,by split <;> omega,rfl⟩
 obtain⟨t,ht,ht2⟩:∃t:Int,b%18446744073709551616=b+t*18446744073709551616∧t=if b<0 then 1 else 0:=⟨_,by split <;> omega,rfl⟩
 rw[hs,ht];have e1:(if a<0 then b else 0)=s*b:=by rw[hs2];split <;> simp
 have e2:(if b<0 then a else 0)=t*a:=by rw[ht2];split <;> simp
 rw[e1,e2]
 have e3:(a+s*18446744073709551616)*(b+t*18446744073709551616)=a*b+(s*b+t*a+s*t*18446744073709551616)*18446744073709551616:=by
  simp only[Int.add_mul,Int.mul_add]
  rw[show s*18446744073709551616*b=s*b*18446744073709551616 by rw[Int.mul_assoc,Int.mul_comm 18446744073709551616 b,←Int.mul_assoc],
   show s*18446744073709551616*(t*18446744073709551616)=s*t*18446744073709551616*18446744073709551616 by
    rw[←Int.mul_assoc,Int.mul_assoc s 18446744073709551616 t,Int.mul_comm 18446744073709551616 t,←Int.mul_assoc],
   show a*(t*18446744073709551616)=t*a*18446744073709551616 by rw[←Int.mul_assoc,Int.mul_comm a t]]
  omega
 rw[e3];generalize a*b=p at *;generalize s*b=q at *;generalize t*a=r at *;generalize s*t=u at *;omega
theorem mul_u64_bd(a b:Int)(ha:aD8 a)(hb:aD8 b):0≤a*b/18446744073709551616∧a*b/18446744073709551616<18446744073709551616:=by
 unfold aD8 at *;have h0:0≤a*b:=Int.mul_nonneg ha.1 hb.1;have h1:a*b≤18446744073709551615*18446744073709551615:=Int.mul_le_mul zQ zQ hb.1 zQ;omega
theorem prod_lo(a b:Int):(a%18446744073709551616)*(b%18446744073709551616)%18446744073709551616=lo64 (a*b):=by
 unfold lo64;rw[←Int.mul_emod]
theorem aTo(a b:Int)(w:World)(ha:In64 a)(hb:In64 b):
  Calls Tryz.prog 343 #[.int .i64 a,.int .i64 b] w (yR w (aLi (a*b))):=by
 have hh:=yH (prod_hi a b ha hb);have hl:=yH (prod_lo a b);have ua:IntKind.u64.wrap a=a%18446744073709551616:=aB1 a;have ub:IntKind.u64.wrap b=b%18446744073709551616:=aB1 b;have ia:aD8 (a%18446744073709551616):=by unfold aD8;omega
 have ib:aD8 (b%18446744073709551616):=by unfold aD8;omega
 obtain⟨a1,a2⟩:=ha;obtain⟨b1,b2⟩:=hb
 by_cases na:a<0 <;> by_cases nb:b<0
 all_goals
  go_enter Tryz.func343,Tryz.ntmps343;go_wp2_with (go_at_call 321;refine(aG7 _ _ _ ia ib).mono ?_;rintro e w' ⟨rfl,rfl⟩);refine bodyPost_ret (v:=aLi (a*b)) ?_ rfl ⟨rfl,yZ.alloc yL _⟩;simp[results,Tryz.results343,go_sem];refine aPm _ _ _ ?_ hl.out;rw[←hh.out]
  try simp only[aB1]
  have hP:=mul_u64_bd _ _ ia ib;generalize a%18446744073709551616*(b%18446744073709551616)=p at hP ⊢
  (repeat' split) <;> omega
theorem aTp(a b c d:Int)(w:World):
  (Op.equalIn 10000 340 (.agg #[.int .u64 a,.int .u64 b]) (.agg #[.int .u64 c,.int .u64 d])).run Tryz.prog w=.ok (a==c && b==d) w:=by
 have h:=aJ7 (P:=Tryz.prog) 9999 340 44 2 Tryz.underlying340 (fun w=>zW) (fun w=>zW) #[.int .u64 a,.int .u64 b] #[.int .u64 c,.int .u64 d] rfl rfl
  (fun i=>if i=0 then a==c else b==d) (by
   intro i x y w hx hy
   match i,hx,hy with
   | 0,hx,hy=>simp at hx hy;subst hx hy;exact run_equalIn_int w 9998 44 .u64 .u64 a c Tryz.underlying44
   | 1,hx,hy=>simp at hx hy;subst hx hy;exact run_equalIn_int w 9998 44 .u64 .u64 b d Tryz.underlying44
   | n+2,hx,_=>simp at hx) w
 rw[h];simp[List.range_succ]
theorem narrow_eq(x:Int)(h1:-170141183460469231731687303715884105728≤x)(h2:x<170141183460469231731687303715884105728):
  wrap64 (lo64 x)=x∨(¬In64 x∧(hi64 (wrap64 (lo64 x))==hi64 x && lo64 (wrap64 (lo64 x))==lo64 x)=false):=by
 obtain⟨h3,h4⟩:=aN6 (lo64 x);generalize wrap64 (lo64 x)=y at *;unfold In64 hi64 lo64 at *
 by_cases h:y=x
 ·exact .inl h
 right
 constructor
 ·omega
 rw[Bool.and_eq_false_iff];left;rw[beq_eq_false_iff_ne];omega
theorem aHq(x:Int)(w:World)(h1:-170141183460469231731687303715884105728≤x)(h2:x<170141183460469231731687303715884105728):
  Calls Tryz.prog 239 #[aLi x] w (yR w (ans x)):=by
 have hq:=aTp;have h64:=(aN6 (lo64 x)).1;have key:=narrow_eq x h1 h2;clear h1 h2;rw[aCj];go_enter Tryz.func239,Tryz.ntmps239;go_wp2;have hk:=Blk.new w #[Value.int IntKind.u64 (hi64 x),Value.int IntKind.u64 (lo64 x)] 340;have hbw:Below w.heap.size w (w.alloc (Obj.cells #[Value.int IntKind.u64 (hi64 x),Value.int IntKind.u64 (lo64 x)] 340)):=yZ.alloc yL _;have hs:w.heap.size<(w.alloc (Obj.cells #[Value.int IntKind.u64 (hi64 x),Value.int IntKind.u64 (lo64 x)] 340)).heap.size:=zV
 generalize w.alloc (Obj.cells #[Value.int IntKind.u64 (hi64 x),Value.int IntKind.u64 (lo64 x)] 340)=W at *;have hc0:W.cell? ⟨w.heap.size,0,none⟩=some (.int .u64 (hi64 x)):=hk.cell 0;have hc1:W.cell? ⟨w.heap.size,1,none⟩=some (.int .u64 (lo64 x)):=hk.cell 1;generalize wrap64 (lo64 x)=y at *;have hfit:In64 x→okN x=x∧erN x=0:=fun h=>by simp[okN,erN,h]
 have hnot:¬In64 x→okN x=0∧erN x=10:=fun h=>by simp[okN,erN,h]
 have hk1:=yH hfit;have hk2:=yH hnot;clear hfit hnot;rcases key with rfl|⟨hn,hne⟩
 ·go_region_held3 (fun w'=>w'.cell? ⟨w.heap.size,0,none⟩=some (.int .u64 (hi64 y))∧w'.cell? ⟨w.heap.size,1,none⟩=some (.int .u64 (lo64 y))) (go_keep)
   (first|(go_at_call 238;refine(aG9 _ _ h64).mono ?_;simp only[aCj];rintro e w' ⟨rfl,hb⟩;have c0:=(bcell hb).1 _ 0 hs;have c1:=(bcell hb).1 _ 1 hs))
  go_wp2;go_ret2;refine⟨by rw[ans,(hk1.out h64).1,(hk1.out h64).2];rfl,hbw.trans ((pAA hb).mono zU)⟩
 go_region_held3 (fun w'=>w'.cell? ⟨w.heap.size,0,none⟩=some (.int .u64 (hi64 x))∧w'.cell? ⟨w.heap.size,1,none⟩=some (.int .u64 (lo64 x))) (go_keep)
  (first|(go_at_call 238;refine(aG9 _ _ h64).mono ?_;simp only[aCj];rintro e w' ⟨rfl,hb⟩;have c0:=(bcell hb).1 _ 0 hs;have c1:=(bcell hb).1 _ 1 hs))
 go_wp2;go_ret2;exact⟨by rw[ans,(hk2.out hn).1,(hk2.out hn).2];rfl,hbw.trans ((pAA hb).mono zU)⟩
theorem add_any(a b:Int)(w:World)(ha:In64 a)(hb:In64 b):
  Calls Tryz.prog 320 #[.int .i64 a,.int .i64 b] w (yR w (ans (a+b))):=by
 have h1:-170141183460469231731687303715884105728≤a+b∧a+b<170141183460469231731687303715884105728:=by unfold In64 at ha hb;omega
 go_enter Tryz.func320,Tryz.ntmps320;go_wp2_with fail;refine(aG9 a _ ha).mono ?_;rintro e w1 ⟨rfl,b1⟩;go_wp2_with fail;refine(aG9 b _ hb).mono ?_;rintro e w2 ⟨rfl,b2⟩;go_wp2_with fail;refine(plus_any a b _).mono ?_;rintro e w3 ⟨rfl,b3⟩;go_wp2_with fail;refine(aHq (a+b) _ h1.1 h1.2).mono ?_;rintro e w4 ⟨rfl,b4⟩;unfold ans;go_wp2;go_ret2;exact⟨rfl,andB (andB (andB b1 b2) b3) b4⟩
theorem mul_bd(a b:Int)(ha:In64 a)(hb:In64 b):-170141183460469231731687303715884105728≤a*b∧a*b<170141183460469231731687303715884105728:=by
 unfold In64 at *
 have h:(a*b).natAbs≤9223372036854775808*9223372036854775808:=by
  rw[Int.natAbs_mul];exact Nat.mul_le_mul zQ zQ
 omega
theorem sum_take(zs:List Int)(k:Nat)(h:k<zs.length):(zs.take (k+1)).sum=(zs.take k).sum+zs[k]:=by
 rw[List.take_succ_eq_append_getElem h,List.sum_append];simp
theorem sum_bd(zs:List Int)(hz:∀z∈zs,In64 z):-9223372036854775808*(zs.length:Int)≤zs.sum∧zs.sum≤9223372036854775807*(zs.length:Int):=by
 induction zs with
 | nil=>simp
 | cons z l ih=>
  have h1:=hz z zV;have h2:=ih (fun y hy=>hz y vS);unfold In64 at h1;simp only[List.sum_cons,List.length_cons];omega
def SumAt1(zs:List Int)(w:World)(i:Value)(wr:World):Prop:=
 ∃k:Nat,k≤zs.length∧i=.int .i64 k∧Blk wr w.heap.size #[.int .u64 (hi64 (zs.take k).sum),.int .u64 (lo64 (zs.take k).sum)] 340∧Below w.heap.size w wr
theorem sum_any(b off cap:Nat)(zs:List Int)(w:World)(hz:∀z∈zs,In64 z)(hl:zs.length≤140737488355328)(hlt:b<w.heap.size)
  (hc:∀i (h:i<zs.length),w.cell? ⟨b,off+i,none⟩=some (.int .i64 zs[i])):
  Calls Tryz.prog 199 #[.slice (some ⟨b,off,none⟩) zs.length cap] w (yR w (ans zs.sum)):=by
 have ht:=yH hz;have hcc:=yH hc;have hbd:=yH (sum_bd zs hz);clear hz hc;go_enter Tryz.func199,Tryz.ntmps199;go_wp2
 go_loopw [9] (SumAt1 zs w) (fun i _=>zs.length - (intOf i).toNat)
 case atStart=>exact⟨0,Nat.zero_le _,rfl,Blk.new _ _ _,yZ.alloc yL _⟩
 obtain⟨k,hk,rfl,hblk,hb⟩:=hrel;have hg:=hblk.lt;have hc0:wr.cell? ⟨w.heap.size,0,none⟩=some (.int .u64 (hi64 (zs.take k).sum)):=hblk.cell 0;have hc1:wr.cell? ⟨w.heap.size,1,none⟩=some (.int .u64 (lo64 (zs.take k).sum)):=hblk.cell 1;have hf:=hblk.frozen
 by_cases hkl:k<zs.length
 ·have hcell:wr.cell? ⟨b,off+k,none⟩=some (.int .i64 zs[k]):=by rw[hb.cell (p:=⟨b,off+k,none⟩) hlt];exact hcc.out k hkl
  have hz:=ht.out zs[k] zV;have hs:=yH (sum_take zs k hkl);generalize zs[k]=z at *;generalize (zs.take k).sum=s at *;go_wp2
  go_region_with (first|(go_at_call 238;refine(aG9 _ _ hz).mono ?_;simp only[aCj];rintro e w' ⟨rfl,hb1⟩;obtain⟨kc,kf,ks⟩:=keepB hb1 (g:=w.heap.size) (by simp;exact hg))|(go_at_call 237;simp only[←aCj];refine(plus_any _ _ _).mono ?_;simp only[aCj];rintro e w' ⟨rfl,hb2⟩;obtain⟨lc,lf,ls⟩:=keepB hb2 (g:=w.heap.size) (by first|exact ks|(simp;exact ks))))
  all_goals
   go_wp2;go_roundw
   case rel=>
    have h3:=((((hblk.drew.below hb1 hg).below hb2 ks).set 0 (.int .u64 (hi64 (s+z)))).set 1 (.int .u64 (lo64 (s+z))));exact⟨k+1,zQ,by go_num,by rw[hs.out];exact h3,((andB (hb.trans ((pAA hb1).mono (Nat.le_of_lt hg))) hb2).setCell yL _).setCell yL _⟩
   case measure=>simp[intOf];omega
 have hkk:zs.take k=zs:=List.take_of_length_le zQ;rw[hkk]at hc0 hc1;have hbd2:=hbd.out;have hw:=aHq zs.sum wr zQ zQ;have hn:=yH hw;clear hw hbd2 hblk hkk;go_wp2_with fail;simp only[←aCj];refine hn.out.mono ?_;rintro e w4 ⟨rfl,b4⟩;unfold ans;go_wp2;go_ret2;exact⟨rfl,hb.trans (b4.mono (Nat.le_of_lt hg))⟩
def aTq(n den:Int):Int:=if In64 (n/den)then n%den else 0
def divV(n den:Int):Value:=.tuple #[.int .i64 (okN (n/den)),.int .i64 (aTq n den),.int .i64 (erN (n/den))]
theorem aOj(a num den:Int)(w:World)(hbad:a<0∨num<0∨den<1):
  Calls Tryz.prog 319 #[.int .i64 a,.int .i64 num,.int .i64 den] w (yR w (.tuple #[.int .i64 0,.int .i64 0,.int .i64 1])):=by
 by_cases h1:a<0
 ·go_enter Tryz.func319,Tryz.ntmps319;go_wp2_with fail
  go_ret3
  exact⟨rfl,yZ⟩
 by_cases h2:num<0
 ·go_enter Tryz.func319,Tryz.ntmps319;go_wp2_with fail
  go_ret3
  exact⟨rfl,yZ⟩
 have h3:den<1:=zQ
 go_enter Tryz.func319,Tryz.ntmps319;go_wp2_with fail
 go_ret3
 exact⟨rfl,yZ⟩
theorem div_facts(n den:Int)(h0:0≤n)(h1:n<170141183460469231731687303715884105728)(hd:1≤den)(hd2:In64 den):
  hi64 n=n/18446744073709551616∧hi64 n*18446744073709551616+lo64 n=n∧(den≤hi64 n→¬In64 (n/den))∧
  (hi64 n<den→aD8 (n/den))∧In64 (n%den):=by
 unfold In64 at hd2;have e:hi64 n=n/18446744073709551616:=by unfold hi64;omega
 have hm:=Int.emod_nonneg n (show den≠0 by omega);have hm2:=Int.emod_lt_of_pos n (show 0<den by omega);have hq:=Int.ediv_nonneg h0 (show 0≤den by omega);have hdm:=Int.mul_ediv_add_emod n den;refine⟨e,by rw[e];unfold lo64;omega,?_,?_,yN⟩
 ·intro h hc;unfold In64 at hc;rw[e]at h;have h2:den*(n/den)≤den*9223372036854775807:=Int.mul_le_mul_of_nonneg_left hc.2 zQ;generalize den*(n/den)=p at *;omega
 intro h;rw[e]at h;refine⟨hq,?_⟩;rw[Int.ediv_lt_iff_lt_mul zQ];omega
theorem aOk(a num den:Int)(w:World)(ha:In64 a)(hn:In64 num)(hd:In64 den)(h1:0≤a)(h2:0≤num)(h3:1≤den):
  Calls Tryz.prog 319 #[.int .i64 a,.int .i64 num,.int .i64 den] w (yR w (divV (a*num) den)):=by
 have hmb:=mul_bd a num ha hn;have h0:0≤a*num:=Int.mul_nonneg h1 h2;obtain⟨f1,f2,f3,f4,f5⟩:=div_facts (a*num) den h0 hmb.2 h3 hd;have hpr:=yH (fun w=>aTo a num w ha hn);have bl:=aTn (a*num);have bh:=aTm (a*num);unfold In64 at ha hn hd;unfold aD8 at bl bh;have ud:IntKind.u64.wrap den=den:=uX aB1
 have F2:=yH f2;have F3:=yH f3;have F4:=yH f4;have F5:=yH f5;clear f1 f2 f3 f4 f5 h0 hmb;generalize hN:a*num=n at *;clear hN
 by_cases hb:den≤hi64 n
 ·have hv:divV n den=.tuple #[.int .i64 0,.int .i64 0,.int .i64 10]:=by simp[divV,aTq,okN,erN,F3.o hb]
  have HV:=yH hv;clear hv;go_enter Tryz.func319,Tryz.ntmps319;go_wp2_with fail;refine(hpr.out _).mono ?_;simp only[aCj];rintro e w1 ⟨rfl,b1⟩;go_wp2_with fail
  go_ret3
  exact⟨by rw[HV.o];rfl,b1.trans (yZ.alloc b1.size _)⟩
 have hlt:hi64 n<den:=zQ
 have hq:=F4.o hlt;have hd6:=yH (fun w=>div64_any (hi64 n) (lo64 n) den w bh.1 hlt zQ bl)
 have hwq:aLi (n/den)=.agg #[.int .u64 0,.int .u64 (n/den)]:=by
  unfold aD8 at hq;rw[aCj,show hi64 (n/den)=0 by unfold hi64;omega,show lo64 (n/den)=n/den by unfold lo64;omega]
 have hnar:=yH (fun w=>aHq (n/den) w (by unfold aD8 at hq;omega) (by unfold aD8 at hq;omega));rw[hwq]at hnar;have hr:=F5.o;clear hwq
 by_cases hf:In64 (n/den)
 ·have hv:divV n den=.tuple #[.int .i64 (n/den),.int .i64 (n%den),.int .i64 0]:=wS
  have hans:ans (n/den)=.tuple #[.int .i64 (n/den),.int .i64 0]:=by simp[ans,okN,erN,hf]
  rw[hans]at hnar;have HV:=yH hv;clear hv hans;go_enter Tryz.func319,Tryz.ntmps319;go_wp2_with fail;refine(hpr.out _).mono ?_;simp only[aCj];rintro e w1 ⟨rfl,b1⟩;go_wp2_with fail;refine(hd6.out _).mono ?_;rw[F2.o];rintro e w2 ⟨rfl,b2⟩;go_wp2_with fail;refine(hnar.out _).mono ?_;rintro e w3 ⟨rfl,b3⟩;go_wp2_with fail
  go_ret3
  refine⟨by have e:=HV.o;rw[←aDk _ hr]at e;rw[e];rfl,?_⟩;have c1:Below w.heap.size w (w1.alloc (.cells #[.int .u64 (hi64 n),.int .u64 (lo64 n)] 340)):=b1.alloc b1.size _;exact andB (andB c1 b2) b3
 have hv:divV n den=.tuple #[.int .i64 0,.int .i64 0,.int .i64 10]:=wS
 have hans:ans (n/den)=.tuple #[.int .i64 0,.int .i64 10]:=by simp[ans,okN,erN,hf]
 rw[hans]at hnar;have HV:=yH hv;clear hv hans;go_enter Tryz.func319,Tryz.ntmps319;go_wp2_with fail;refine(hpr.out _).mono ?_;simp only[aCj];rintro e w1 ⟨rfl,b1⟩;go_wp2_with fail;refine(hd6.out _).mono ?_;rw[F2.o];rintro e w2 ⟨rfl,b2⟩;go_wp2_with fail;refine(hnar.out _).mono ?_;rintro e w3 ⟨rfl,b3⟩;go_wp2_with fail
 go_ret3
 refine⟨by rw[HV.o];rfl,?_⟩;have c1:Below w.heap.size w (w1.alloc (.cells #[.int .u64 (hi64 n),.int .u64 (lo64 n)] 340)):=b1.alloc b1.size _;exact andB (andB c1 b2) b3
def aN2(a num den:Int):Value:=if a<0∨num<0∨den<1 then .tuple #[.int .i64 0,.int .i64 1]else ans (a*num/den)
theorem down_any(a num den:Int)(w:World)(ha:In64 a)(hn:In64 num)(hd:In64 den):
  Calls Tryz.prog 351 #[.int .i64 a,.int .i64 num,.int .i64 den] w (yR w (aN2 a num den)):=by
 by_cases hbad:a<0∨num<0∨den<1
 ·have hv:=yH (show aN2 a num den=.tuple #[.int .i64 0,.int .i64 1] by simp[aN2,hbad]);have hc:=yH (fun w=>aOj a num den w hbad);clear hbad;go_enter Tryz.func351,Tryz.ntmps351;go_wp2_with fail;refine(hc.out _).mono ?_;rintro e w1 ⟨rfl,b1⟩;go_wp2_with fail;go_ret2;exact⟨by rw[hv.out];rfl,b1⟩
 have hv:=yH (show aN2 a num den=ans (a*num/den) by simp[aN2,hbad]);have hc:=yH (fun w=>aOk a num den w ha hn hd zQ zQ zQ);clear hbad;go_enter Tryz.func351,Tryz.ntmps351;go_wp2_with fail;refine(hc.out _).mono ?_;unfold divV;rintro e w1 ⟨rfl,b1⟩;go_wp2_with fail;go_ret2;exact⟨by rw[hv.out];rfl,b1⟩
def upN(n den:Int):Int:=if n%den=0 then n/den else n/den+1
def upV(a num den:Int):Value:=if a<0∨num<0∨den<1 then .tuple #[.int .i64 0,.int .i64 1]else ans (upN (a*num) den)
theorem up_any(a num den:Int)(w:World)(ha:In64 a)(hn:In64 num)(hd:In64 den):
  Calls Tryz.prog 303 #[.int .i64 a,.int .i64 num,.int .i64 den] w (yR w (upV a num den)):=by
 by_cases hbad:a<0∨num<0∨den<1
 ·have hv:=yH (show upV a num den=.tuple #[.int .i64 0,.int .i64 1] by simp[upV,hbad]);have hc:=yH (fun w=>aOj a num den w hbad);clear hbad;go_enter Tryz.func303,Tryz.ntmps303;go_wp2_with fail;refine(hc.out _).mono ?_;rintro e w1 ⟨rfl,b1⟩;go_wp2_with fail;go_ret2;exact⟨by rw[hv.out];rfl,b1⟩
 have hv:=yH (show upV a num den=ans (upN (a*num) den) by simp[upV,hbad]);have hc:=yH (fun w=>aOk a num den w ha hn hd zQ zQ zQ);have h0:0≤a*num:=Int.mul_nonneg zQ zQ;have hq0:0≤a*num/den:=Int.ediv_nonneg h0 zQ;clear hbad;generalize a*num=n at *
 by_cases hf:In64 (n/den)
 ·by_cases hz:n%den=0
  ·have hdv:divV n den=.tuple #[.int .i64 (n/den),.int .i64 0,.int .i64 0]:=by simp[divV,aTq,okN,erN,hf,hz]
   have hans:ans (upN n den)=.tuple #[.int .i64 (n/den),.int .i64 0]:=by simp[ans,upN,hz,okN,erN,hf]
   have hA:=yH hans;rw[hdv]at hc;clear hdv hans hz;go_enter Tryz.func303,Tryz.ntmps303;go_wp2_with fail;refine(hc.out _).mono ?_;rintro e w1 ⟨rfl,b1⟩;go_wp2_with fail;go_ret2;exact⟨by rw[hv.out,hA.out];rfl,b1⟩
  have hdv:divV n den=.tuple #[.int .i64 (n/den),.int .i64 (n%den),.int .i64 0]:=wS
  have hans:upN n den=n/den+1:=by simp[upN,hz]
  have hA:=yH hans;have hb:(n%den==0)=false:=xC
  have hadd:=yH (fun w=>add_any (n/den) 1 w hf yN);rw[hdv]at hc;clear hdv hans hz;go_enter Tryz.func303,Tryz.ntmps303;go_wp2_with fail;refine(hc.out _).mono ?_;rintro e w1 ⟨rfl,b1⟩;go_wp2_with fail;refine(hadd.out _).mono ?_;unfold ans;rintro e w2 ⟨rfl,b2⟩;go_wp2_with fail;go_ret2;exact⟨by rw[hv.out,hA.out];rfl,andB b1 b2⟩
 have hdv:divV n den=.tuple #[.int .i64 0,.int .i64 0,.int .i64 10]:=wS
 have hnf:¬In64 (upN n den):=by unfold upN;unfold In64 at *;split <;> omega
 have hans:ans (upN n den)=.tuple #[.int .i64 0,.int .i64 10]:=by simp[ans,okN,erN,hnf]
 have hA:=yH hans;rw[hdv]at hc;clear hdv hans hnf;go_enter Tryz.func303,Tryz.ntmps303;go_wp2_with fail;refine(hc.out _).mono ?_;rintro e w1 ⟨rfl,b1⟩;go_wp2_with fail;go_ret2;exact⟨by rw[hv.out,hA.out];rfl,b1⟩
theorem ans_of(x:Int)(h:In64 x):ans x=.tuple #[.int .i64 x,.int .i64 0]:=by simp[ans,okN,erN,h]
theorem ans_not(x:Int)(h:¬In64 x):ans x=.tuple #[.int .i64 0,.int .i64 10]:=by simp[ans,okN,erN,h]
theorem gcd_step(x y k:Int):Int.gcd (x - y*k) y=Int.gcd x y:=by
 rw[Int.sub_eq_add_neg,←Int.mul_neg];exact Int.gcd_add_mul_left_left y x (-k)
def MayN(n d:Int):Prop:=1≤n∧1≤d∧n≤1099511627776∧d≤1099511627776∧Int.gcd n d=1
instance(n d:Int):Decidable (MayN n d):=inferInstanceAs (Decidable (_∧_))
def mayB(n d:Int):Bool:=decide (MayN n d)
def aOl(a n d:Int):Value:=if mayB n d then aN2 a n d else .tuple #[.int .i64 0,.int .i64 1]
def upV2(a n d:Int):Value:=if mayB n d then upV a n d else .tuple #[.int .i64 0,.int .i64 1]
theorem aPn(a b:Int):Int.gcd b (a%b)=Int.gcd a b:=by
 have:=gcd_step a b (a/b);rw[show a - b*(a/b)=a%b by have:=Int.mul_ediv_add_emod a b;omega]at this;rw[Int.gcd_comm,this]
theorem aTr(a b:Int)(w:World)(ha:In64 a)(hb:In64 b)(h1:1≤a)(h2:1≤b):
  Calls Tryz.prog 258 #[.int .i64 a,.int .i64 b] w (yR w (.int .i64 (Int.gcd a b))):=by
 have HB:=yH hb;clear ha hb;go_enter Tryz.func258,Tryz.ntmps258;go_wp2;refine wp_scope_jumps 0 (fun a' w'=>Below w.heap.size w w'∧∃(x y:Int) (u2 u3 u4 u5 u6 u7 u8 u9 u10 u11:Value),a'={ tmps:=#[.int .i64 x,.int .i64 y,u2,u3,u4,u5,u6,u7,u8,u9,u10,u11],defers:=[] }∧1≤x∧0≤y∧x≤9223372036854775807∧y≤9223372036854775807∧Int.gcd x y=Int.gcd a b) (fun a' _=>(intOf (a'.tmps.getD 1 undef)).toNat) rfl ?_ ?_
 ·by_cases hb:b=0
  ·omega
  have hnb:(b==0)=false:=zU
  have HG:=yH (aPn a b);have HLT:=yH (Int.emod_lt_of_pos a (show 0<b by omega));have HGE:=yH (Int.emod_nonneg a hb);go_wp2
  go_step3
  go_wp2
  go_region
  all_goals
   go_wp2
   go_step3
   exact⟨rfl,yZ.drew,b,_,_,_,_,_,_,_,_,_,_,_,rfl,h2,HGE.o,HB.o.2,uQ HLT.o HB.o.2,HG.o⟩
 rintro a' w' ⟨bel,x,y,u2,u3,u4,u5,u6,u7,u8,u9,u10,u11,rfl,hx,hy,hx2,hy2,hg⟩;have HG:=yH hg;clear hg
 by_cases hb:y=0
 ·subst hb;have e:((Int.gcd x 0:Nat):Int)=x:=uX Int.gcd_zero_right
  go_wp2;simp only[Exit.jump];go_ret;exact⟨by rw[←HG.o,e];rfl,bel⟩
 have hnb:(y==0)=false:=zU
 have HS:=yH (aPn x y);have HLT:=yH (Int.emod_lt_of_pos x (show 0<y by omega));have HGE:=yH (Int.emod_nonneg x hb);go_wp2
 go_region
 all_goals
  go_wp2
  go_step3
  refine⟨rfl,⟨bel.drew,y,_,_,_,_,_,_,_,_,_,_,_,rfl,zQ,HGE.o,hy2,vD,by rw[HS.o];exact HG.o⟩,?_⟩;have:=HLT.o;have:=HGE.o;simp[intOf];omega
def ofRN(n d:Int):Int:=if n<1∨d<1 then 0 else if 1099511627776<n/Int.gcd n d∨1099511627776<d/Int.gcd n d then 0 else n/Int.gcd n d
def ofD(n d:Int):Int:=if n<1∨d<1 then 0 else if 1099511627776<n/Int.gcd n d∨1099511627776<d/Int.gcd n d then 0 else d/Int.gcd n d
def ofE(n d:Int):Int:=if n<1∨d<1 then 1 else if 1099511627776<n/Int.gcd n d∨1099511627776<d/Int.gcd n d then 10 else 0
def ofV(n d:Int):Value:=.tuple #[.agg #[.int .i64 (ofRN n d),.int .i64 (ofD n d)],.int .i64 (ofE n d)]
theorem ofV_arg{n d:Int}(h:n<1∨d<1):ofV n d=.tuple #[.agg #[.int .i64 0,.int .i64 0],.int .i64 1]:=by simp[ofV,ofRN,ofD,ofE,h]
theorem ofV_over{n d g:Int}(h:1≤n)(h2:1≤d)(hg:(Int.gcd n d:Int)=g)(ho:1099511627776<n/g∨1099511627776<d/g):ofV n d=.tuple #[.agg #[.int .i64 0,.int .i64 0],.int .i64 10]:=by
 have hn:¬(n<1∨d<1):=zQ
 subst hg;simp[ofV,ofRN,ofD,ofE,hn,ho]
theorem ofV_good{n d g:Int}(h:1≤n)(h2:1≤d)(hg:(Int.gcd n d:Int)=g)(ho:¬(1099511627776<n/g∨1099511627776<d/g)):ofV n d=.tuple #[.agg #[.int .i64 (n/g),.int .i64 (d/g)],.int .i64 0]:=by
 have hn:¬(n<1∨d<1):=zQ
 subst hg;simp[ofV,ofRN,ofD,ofE,hn,ho]
theorem gcd_bd{n d:Int}(h:1≤n)(hd:1≤d):(1:Int)≤Int.gcd n d∧0≤n/Int.gcd n d∧n/Int.gcd n d≤n∧0≤d/Int.gcd n d∧d/Int.gcd n d≤d:=by
 have h1:0<Int.gcd n d:=Int.gcd_pos_of_ne_zero_left _ zQ;exact⟨zQ,Int.ediv_nonneg zQ zQ,Int.ediv_le_self _ zQ,Int.ediv_nonneg zQ zQ,Int.ediv_le_self _ zQ⟩
theorem of_arg(n d:Int)(w:World)(h:n<1∨d<1):
  Calls Tryz.prog 223 #[.int .i64 n,.int .i64 d] w (yR w (ofV n d)):=by
 rw[ofV_arg h];have hs:n<1∨(1≤n∧d<1):=zQ
 clear h;rcases hs with h1|⟨h1,h2⟩
 all_goals
  go_enter Tryz.func223,Tryz.ntmps223;go_wp2;refine bodyPost_ret (v:=.tuple #[.agg #[.int .i64 0,.int .i64 0],.int .i64 1]) (aAj rfl _ _ w.heap.size 73 #[.int .i64 0,.int .i64 0] _ _ rfl (Blk.new w #[.int .i64 0,.int .i64 0] 73).out Tryz.underlying73 rfl zW rfl) rfl ⟨rfl,?_⟩;exact(yZ.alloc yL _)
theorem of_two(n d g x y:Int)(w:World)(h1:1≤n)(h2:1≤d)(hn:In64 n)(hd:In64 d)(hg:(Int.gcd n d:Int)=g)(hx:n/g=x)(hy:d/g=y)(hx0:0≤x)(hy0:0≤y)(hxn:x≤n)(hyd:y≤d)(hg0:1≤g):
  Calls Tryz.prog 223 #[.int .i64 n,.int .i64 d] w fun e w'=>e=.returned (if 1099511627776<x∨1099511627776<y then .tuple #[.agg #[.int .i64 0,.int .i64 0],.int .i64 10]else .tuple #[.agg #[.int .i64 x,.int .i64 y],.int .i64 0])∧Below w.heap.size w w':=by
 have c:=yH (fun w=>aTr n d w hn hd h1 h2);rw[hg]at c;have e1:Int.tdiv n g=x:=wA
 have e2:Int.tdiv d g=y:=wB
 have ew1:wrap64 x=x:=aDk x ⟨zQ,uV hn.2⟩;have ew2:wrap64 y=y:=aDk y ⟨zQ,uV hd.2⟩;have q2:Blk (w.alloc (.cells #[.int .i64 0,.int .i64 0] 73)) w.heap.size #[.int .i64 0,.int .i64 0] 73:=Blk.new _ _ _;have b0:Below w.heap.size w (w.alloc (.cells #[.int .i64 0,.int .i64 0] 73)):=yZ.alloc yL _;have Q2:=yH q2;have B0:=yH b0;have hs:1099511627776<x∨(x≤1099511627776∧1099511627776<y)∨(x≤1099511627776∧y≤1099511627776):=zQ
 clear q2 b0 hn hd;rcases hs with o1|⟨o1,o2⟩|⟨o1,o2⟩
 ·rw[if_pos (.inl o1)];go_enter Tryz.func223,Tryz.ntmps223;go_wp2_with fail;refine(c.out _).mono ?_;rintro e w1 ⟨rfl,bw⟩;have k1:=Q2.o.below bw Q2.o.lt;have B1:=yH (B0.o.trans (bw.mono zV));have d0:=k1.cell 0;have d1:=k1.cell 1;simp at d0 d1;have f1:=k1.frozen;have hz:=k1.lt;have K1:=yH k1;clear k1 bw;go_wp2
  go_region
  all_goals
   go_wp2;refine bodyPost_ret (v:=.tuple #[.agg #[.int .i64 0,.int .i64 0],.int .i64 10]) (aAj rfl _ _ w.heap.size 73 #[.int .i64 0,.int .i64 0] _ _ rfl (Blk.drew (((K1.o.set 0 (.int .i64 0)).set 1 (.int .i64 0)).alloc _)).out Tryz.underlying73 rfl zW rfl) rfl ⟨rfl,?_⟩
   first
   | exact((((B1.o.alloc B1.o.size _).drew).setCell yL _).setCell yL _)
   | exact((((B1.o.setCell yL _).setCell yL _).alloc zL _).drew)
 ·rw[if_pos (.inr o2)];go_enter Tryz.func223,Tryz.ntmps223;go_wp2_with fail;refine(c.out _).mono ?_;rintro e w1 ⟨rfl,bw⟩;have k1:=Q2.o.below bw Q2.o.lt;have B1:=yH (B0.o.trans (bw.mono zV));have d0:=k1.cell 0;have d1:=k1.cell 1;simp at d0 d1;have f1:=k1.frozen;have hz:=k1.lt;have K1:=yH k1;clear k1 bw;go_wp2
  go_region
  all_goals
   go_wp2;refine bodyPost_ret (v:=.tuple #[.agg #[.int .i64 0,.int .i64 0],.int .i64 10]) (aAj rfl _ _ w.heap.size 73 #[.int .i64 0,.int .i64 0] _ _ rfl (Blk.drew (((K1.o.set 0 (.int .i64 0)).set 1 (.int .i64 0)).alloc _)).out Tryz.underlying73 rfl zW rfl) rfl ⟨rfl,?_⟩
   first
   | exact((((B1.o.alloc B1.o.size _).drew).setCell yL _).setCell yL _)
   | exact((((B1.o.setCell yL _).setCell yL _).alloc zL _).drew)
 rw[if_neg zQ];go_enter Tryz.func223,Tryz.ntmps223;go_wp2_with fail;refine(c.out _).mono ?_;rintro e w1 ⟨rfl,bw⟩;have k1:=Q2.o.below bw Q2.o.lt;have B1:=yH (B0.o.trans (bw.mono zV));have d0:=k1.cell 0;have d1:=k1.cell 1;simp at d0 d1;have f1:=k1.frozen;have hz:=k1.lt;have K1:=yH k1;clear k1 bw;go_wp2
 go_region
 all_goals
  go_wp2;refine bodyPost_ret (v:=.tuple #[.agg #[.int .i64 x,.int .i64 y],.int .i64 0]) (aAj rfl _ _ w.heap.size 73 #[.int .i64 x,.int .i64 y] _ _ rfl (Blk.drew (((K1.o.set 0 (.int .i64 x)).set 1 (.int .i64 y)).alloc _)).out Tryz.underlying73 rfl zW rfl) rfl ⟨rfl,?_⟩
  first
  | exact((((B1.o.alloc B1.o.size _).drew).setCell yL _).setCell yL _)
  | exact((((B1.o.setCell yL _).setCell yL _).alloc zL _).drew)
theorem of_rat(n d:Int)(w:World)(hn:In64 n)(hd:In64 d):
  Calls Tryz.prog 223 #[.int .i64 n,.int .i64 d] w (yR w (ofV n d)):=by
 by_cases h:n<1∨d<1
 ·exact of_arg n d w h
 obtain⟨g0,x0,xn,y0,yd⟩:=gcd_bd (n:=n) (d:=d) zQ zQ;have:=of_two n d _ _ _ w zQ zQ hn hd rfl rfl rfl x0 y0 xn yd g0;refine this.mono fun e w' ⟨he,hb⟩=>⟨?_,hb⟩
 rw[he]
 by_cases ho:1099511627776<n/Int.gcd n d∨1099511627776<d/Int.gcd n d
 ·rw[if_pos ho,ofV_over zQ zQ rfl ho]
 rw[if_neg ho,ofV_good zQ zQ rfl ho]
theorem aIs(n d:Int):mayB n d=true↔MayN n d:=by simp[mayB]
theorem of_self{n d:Int}(h:MayN n d):ofRN n d=n∧ofD n d=d:=by
 obtain⟨h1,h2,h3,h4,h5⟩:=h;have hn:¬(n<1∨d<1):=zQ
 have e1:n/(1:Int)=n:=Int.ediv_one n;have e2:d/(1:Int)=d:=Int.ediv_one d;have ho:¬(1099511627776<n∨1099511627776<d):=zQ
 simp[ofRN,ofD,hn,h5,ho]
theorem of_not{n d:Int}(h:¬MayN n d):(ofRN n d=n∧ofD n d=d∧n=0∧d=0)∨ofRN n d≠n∨ofD n d≠d:=by
 unfold ofRN ofD
 by_cases hn:n<1∨d<1
 ·rw[if_pos hn,if_pos hn];omega
 rw[if_neg hn,if_neg hn]
 by_cases ho:1099511627776<n/Int.gcd n d∨1099511627776<d/Int.gcd n d
 ·rw[if_pos ho,if_pos ho];omega
 rw[if_neg ho,if_neg ho]
 right
 rcases Classical.em (n/Int.gcd n d=n)with e|e
 ·have g1:Int.gcd n d=1:=by
   have hd:=Int.mul_ediv_cancel' (Int.gcd_dvd_left (a:=n) (b:=d));rw[e]at hd;have hnn:n*((Int.gcd n d:Int) - 1)=0:=by rw[Int.mul_sub,Int.mul_one,Int.mul_comm];omega
   rcases Int.mul_eq_zero.1 hnn with h|h <;> omega
  rw[g1]at ho;have e1:n/((1:Nat):Int)=n:=Int.ediv_one n;have e2:d/((1:Nat):Int)=d:=Int.ediv_one d;rw[e1,e2]at ho;exact absurd ⟨zQ,zQ,zQ,zQ,g1⟩ h
 exact .inl e
def alN(n d:Int):Int:=if mayB n d then n else 0
def alD(n d:Int):Int:=if mayB n d then d else 0
theorem aMy(n d:Int)(w:World)(hn:In64 n)(hd:In64 d):
  Calls Tryz.prog 190 #[.agg #[.int .i64 n,.int .i64 d]] w (yR w (.agg #[.int .i64 (alN n d),.int .i64 (alD n d)])):=by
 have c:=yH (fun w=>of_rat n d w hn hd);unfold ofV at c
 have hs:(ofRN n d=n∧ofD n d=d∧alN n d=n∧alD n d=d)∨(ofRN n d≠n∧alN n d=0∧alD n d=0)∨(ofRN n d=n∧ofD n d≠d∧alN n d=0∧alD n d=0):=by
  unfold alN alD
  by_cases hm:MayN n d
  ·rw[(aIs n d).2 hm];obtain⟨a,b⟩:=of_self hm;exact .inl ⟨a,b,rfl,rfl⟩
  have e:mayB n d=false:=xV
  rw[e];rcases of_not hm with⟨a,b,rfl,rfl⟩|h|h
  ·exact .inl ⟨a,b,rfl,rfl⟩
  ·exact .inr (.inl ⟨h,rfl,rfl⟩)
  by_cases h':ofRN n d=n
  ·exact .inr (.inr ⟨h',h,rfl,rfl⟩)
  exact .inr (.inl ⟨h',rfl,rfl⟩)
 generalize ofRN n d=x at *;generalize ofD n d=y at *;generalize ofE n d=z at *;have k1:Blk ((w.alloc (.cells #[.int .i64 n,.int .i64 d] 73)).alloc (.cells #[.int .i64 0,.int .i64 0] 73)) w.heap.size #[.int .i64 n,.int .i64 d] 73:=(Blk.new _ _ _).alloc _;have k2:Blk ((w.alloc (.cells #[.int .i64 n,.int .i64 d] 73)).alloc (.cells #[.int .i64 0,.int .i64 0] 73)) (w.heap.size+1) #[.int .i64 0,.int .i64 0] 73:=pAB _ _ _ zV;have b0:Below w.heap.size w ((w.alloc (.cells #[.int .i64 n,.int .i64 d] 73)).alloc (.cells #[.int .i64 0,.int .i64 0] 73)):=(yZ.alloc yL _).alloc zV _;have K1:=yH k1;have K2:=yH k2;have B0:=yH b0;clear k1 k2 b0 hn hd;rcases hs with⟨e1,e2,e3,e4⟩|⟨e1,e3,e4⟩|⟨e1,e2,e3,e4⟩
 ·rw[e3,e4];subst e1 e2;clear e3 e4;go_enter Tryz.func190,Tryz.ntmps190;go_wp2_with fail;refine(c.out _).mono ?_;rintro e w1 ⟨rfl,bw⟩;have q1:=K1.o.below bw K1.o.lt;have q2:=K2.o.below bw K2.o.lt;have B1:=yH (B0.o.trans (bw.mono zU));have d0:=q1.cell 0;have d1:=q1.cell 1;have e0:=q2.cell 0;have e1:=q2.cell 1;simp at d0 d1 e0 e1;have f2:=q2.frozen;have hz:=q1.lt;have hz2:=q2.lt;have Q2:=yH q2;clear q1 q2 bw;go_wp2;refine bodyPost_ret (v:=.agg #[.int .i64 x,.int .i64 y]) (results_cell_row rfl _ _ (w.heap.size+1) 73 #[.int .i64 x,.int .i64 y] (0,0) _ rfl (((Q2.o.set 0 (.int .i64 x)).set 1 (.int .i64 y)).alloc _).out Tryz.underlying73 rfl zW) rfl ⟨zV,?_⟩;exact(((B1.o.setCell zV _).setCell zV _).alloc zL _)
 ·rw[e3,e4];have e5:(x==n)=false:=by simp[e1]
  clear e1 e3 e4;go_enter Tryz.func190,Tryz.ntmps190;go_wp2_with fail;refine(c.out _).mono ?_;rintro e w1 ⟨rfl,bw⟩;have q1:=K1.o.below bw K1.o.lt;have q2:=K2.o.below bw K2.o.lt;have B1:=yH (B0.o.trans (bw.mono zU));have d0:=q1.cell 0;have d1:=q1.cell 1;have e0:=q2.cell 0;have e1:=q2.cell 1;simp at d0 d1 e0 e1;have f2:=q2.frozen;have hz:=q1.lt;have hz2:=q2.lt;have Q2:=yH q2;clear q1 q2 bw;go_wp2;refine bodyPost_ret (v:=.agg #[.int .i64 0,.int .i64 0]) (results_cell_row rfl _ _ (w.heap.size+1) 73 #[.int .i64 0,.int .i64 0] (0,0) _ rfl (((Q2.o.set 0 (.int .i64 0)).set 1 (.int .i64 0)).alloc _).out Tryz.underlying73 rfl zW) rfl ⟨zV,?_⟩;exact(((B1.o.setCell zV _).setCell zV _).alloc zL _)
 rw[e3,e4];subst e1;have e5:(y==d)=false:=by simp[e2]
 clear e2 e3 e4;go_enter Tryz.func190,Tryz.ntmps190;go_wp2_with fail;refine(c.out _).mono ?_;rintro e w1 ⟨rfl,bw⟩;have q1:=K1.o.below bw K1.o.lt;have q2:=K2.o.below bw K2.o.lt;have B1:=yH (B0.o.trans (bw.mono zU));have d0:=q1.cell 0;have d1:=q1.cell 1;have e0:=q2.cell 0;have e1:=q2.cell 1;simp at d0 d1 e0 e1;have f2:=q2.frozen;have hz:=q1.lt;have hz2:=q2.lt;have Q2:=yH q2;clear q1 q2 bw;go_wp2;refine bodyPost_ret (v:=.agg #[.int .i64 0,.int .i64 0]) (results_cell_row rfl _ _ (w.heap.size+1) 73 #[.int .i64 0,.int .i64 0] (0,0) _ rfl (((Q2.o.set 0 (.int .i64 0)).set 1 (.int .i64 0)).alloc _).out Tryz.underlying73 rfl zW) rfl ⟨zV,?_⟩;exact(((B1.o.setCell zV _).setCell zV _).alloc zL _)
theorem aPo(n d:Int):(mayB n d=true∧alN n d=n∧alD n d=d∧1≤n∧1≤d∧n≤1099511627776∧d≤1099511627776)∨(mayB n d=false∧alN n d=0∧alD n d=0):=by
 unfold alN alD
 by_cases hm:MayN n d
 ·rw[(aIs n d).2 hm];exact .inl ⟨rfl,rfl,rfl,hm.1,hm.2.1,hm.2.2.1,hm.2.2.2.1⟩
 have e:mayB n d=false:=xV
 rw[e];exact .inr ⟨rfl,rfl,rfl⟩
theorem aHa(n d:Int)(w:World)(hn:In64 n)(hd:In64 d):
  Calls Tryz.prog 148 #[.agg #[.int .i64 n,.int .i64 d]] w (yR w (.bool (mayB n d))):=by
 have c:=yH (fun w=>aMy n d w hn hd);have B0:=yH ((Below.refl w.heap.size w).alloc yL (.cells #[.int .i64 n,.int .i64 d] 73));clear hn hd;rcases aPo n d with⟨hm,h1,h2,h3,h4,h5,h6⟩|⟨hm,h1,h2⟩
 ·rw[h1,h2]at c;rw[hm];have e1:(n==0)=false:=zU
  clear h1 h2 h4 h5 h6 h3;go_enter Tryz.func148,Tryz.ntmps148;go_wp2_with fail;refine(c.out _).mono ?_;rintro e w1 ⟨rfl,b1⟩;go_wp2_with fail;go_ret;exact⟨rfl,B0.o.trans (b1.mono zV)⟩
 rw[h1,h2]at c;rw[hm];clear h1 h2;go_enter Tryz.func148,Tryz.ntmps148;go_wp2_with fail;refine(c.out _).mono ?_;rintro e w1 ⟨rfl,b1⟩;go_wp2_with fail;go_ret;exact⟨rfl,B0.o.trans (b1.mono zV)⟩
theorem aMz(n d:Int)(w:World)(hn:In64 n)(hd:In64 d):
  Calls Tryz.prog 305 #[.agg #[.int .i64 n,.int .i64 d]] w (yR w (.agg #[.int .i64 (alD n d),.int .i64 (alN n d)])):=by
 have c:=yH (fun w=>aMy n d w hn hd);have k1:Blk ((w.alloc (.cells #[.int .i64 n,.int .i64 d] 73)).alloc (.cells #[.int .i64 0,.int .i64 0] 73)) w.heap.size #[.int .i64 n,.int .i64 d] 73:=(Blk.new _ _ _).alloc _;have k2:Blk ((w.alloc (.cells #[.int .i64 n,.int .i64 d] 73)).alloc (.cells #[.int .i64 0,.int .i64 0] 73)) (w.heap.size+1) #[.int .i64 0,.int .i64 0] 73:=pAB _ _ _ zV;have b0:Below w.heap.size w ((w.alloc (.cells #[.int .i64 n,.int .i64 d] 73)).alloc (.cells #[.int .i64 0,.int .i64 0] 73)):=(yZ.alloc yL _).alloc zV _;have K1:=yH k1;have K2:=yH k2;have B0:=yH b0;clear k1 k2 b0 hn hd;generalize alN n d=x at *;generalize alD n d=y at *;go_enter Tryz.func305,Tryz.ntmps305;go_wp2_with fail;refine(c.out _).mono ?_;rintro e w1 ⟨rfl,bw⟩;have q1:=K1.o.below bw K1.o.lt;have q2:=K2.o.below bw K2.o.lt;have B1:=yH (B0.o.trans (bw.mono zU));have d0:=q1.cell 0;have d1:=q1.cell 1;have e0:=q2.cell 0;have e1:=q2.cell 1;simp at d0 d1 e0 e1;have f1:=q1.frozen;have f2:=q2.frozen;have Q2:=yH q2;clear q1 q2 bw;go_wp2;refine bodyPost_ret (v:=.agg #[.int .i64 y,.int .i64 x]) (results_cell_row rfl _ _ (w.heap.size+1) 73 #[.int .i64 y,.int .i64 x] (0,0) _ rfl ((((Q2.o.setOther zV _).setOther zV _).set 0 (.int .i64 y)).set 1 (.int .i64 x)).out Tryz.underlying73 rfl zW) rfl ⟨zV,?_⟩;exact((((B1.o.setCell zV _).setCell zV _).setCell zV _).setCell zV _)
theorem rdown_rat(a n d:Int)(w:World)(ha:In64 a)(hn:In64 n)(hd:In64 d):
  Calls Tryz.prog 342 #[.int .i64 a,.agg #[.int .i64 n,.int .i64 d]] w (yR w (aOl a n d)):=by
 have c1:=yH (fun w=>aHa n d w hn hd);have c2:=yH (fun w=>down_any a n d w ha hn hd);have hb0:Below w.heap.size w (w.alloc (.cells #[.int .i64 n,.int .i64 d] 73)):=yZ.alloc yL _;have k0:Blk (w.alloc (.cells #[.int .i64 n,.int .i64 d] 73)) w.heap.size #[.int .i64 n,.int .i64 d] 73:=Blk.new _ _ _;obtain⟨x,y,hv⟩:∃x y,aN2 a n d=.tuple #[.int .i64 x,.int .i64 y]:=by unfold aN2 ans;split <;> exact⟨_,_,rfl⟩
 unfold aOl;rw[hv]at c2 ⊢;clear hv ha hn hd;have K0:=yH k0;have B0:=yH hb0;clear k0 hb0
 cases hm:mayB n d
 ·rw[hm]at c1;go_enter Tryz.func342,Tryz.ntmps342;go_wp2_with fail;refine(c1.out _).mono ?_;rintro e w1 ⟨rfl,b1⟩;go_wp2_with fail;go_ret2;exact⟨zV,B0.o.trans (b1.mono zV)⟩
 rw[hm]at c1;go_enter Tryz.func342,Tryz.ntmps342;go_wp2_with fail;refine(c1.out _).mono ?_;rintro e w1 ⟨rfl,b1⟩;have k1:=K0.o.below b1 K0.o.lt;have d0:=k1.cell 0;have d1:=k1.cell 1;simp at d0 d1;go_wp2_with fail;refine(c2.out _).mono ?_;rintro e w2 ⟨rfl,b2⟩;go_wp2_with fail;go_ret2;exact⟨zV,B0.o.trans ((b1.mono zV).trans (b2.mono wF))⟩
theorem rup_rat(a n d:Int)(w:World)(ha:In64 a)(hn:In64 n)(hd:In64 d):
  Calls Tryz.prog 275 #[.int .i64 a,.agg #[.int .i64 n,.int .i64 d]] w (yR w (upV2 a n d)):=by
 have c1:=yH (fun w=>aHa n d w hn hd);have c2:=yH (fun w=>up_any a n d w ha hn hd);have hb0:Below w.heap.size w (w.alloc (.cells #[.int .i64 n,.int .i64 d] 73)):=yZ.alloc yL _;have k0:Blk (w.alloc (.cells #[.int .i64 n,.int .i64 d] 73)) w.heap.size #[.int .i64 n,.int .i64 d] 73:=Blk.new _ _ _;obtain⟨x,y,hv⟩:∃x y,upV a n d=.tuple #[.int .i64 x,.int .i64 y]:=by unfold upV ans;split <;> exact⟨_,_,rfl⟩
 unfold upV2;rw[hv]at c2 ⊢;clear hv ha hn hd;have K0:=yH k0;have B0:=yH hb0;clear k0 hb0
 cases hm:mayB n d
 ·rw[hm]at c1;go_enter Tryz.func275,Tryz.ntmps275;go_wp2_with fail;refine(c1.out _).mono ?_;rintro e w1 ⟨rfl,b1⟩;go_wp2_with fail;go_ret2;exact⟨zV,B0.o.trans (b1.mono zV)⟩
 rw[hm]at c1;go_enter Tryz.func275,Tryz.ntmps275;go_wp2_with fail;refine(c1.out _).mono ?_;rintro e w1 ⟨rfl,b1⟩;have k1:=K0.o.below b1 K0.o.lt;have d0:=k1.cell 0;have d1:=k1.cell 1;simp at d0 d1;go_wp2_with fail;refine(c2.out _).mono ?_;rintro e w2 ⟨rfl,b2⟩;go_wp2_with fail;go_ret2;exact⟨zV,B0.o.trans ((b1.mono zV).trans (b2.mono wF))⟩
theorem mayB_swap(n d:Int):mayB d n=mayB n d:=by
 unfold mayB;rw[decide_eq_decide];unfold MayN;rw[Int.gcd_comm d n]
 constructor <;> (intro h;omega)
def fitN(n num den:Int):Int:=if mayB num den=true∧0≤n then min (n*den/num) 1099511627776 else 0
theorem fits_any(n num den:Int)(w:World)(ha:In64 n)(hn:In64 num)(hd:In64 den):
  Calls Tryz.prog 316 #[.int .i64 n,.agg #[.int .i64 num,.int .i64 den]] w (yR w (.int .i64 (fitN n num den))):=by
 have c1:=yH (fun w=>aMz num den w hn hd);have B0:=yH ((Below.refl w.heap.size w).alloc yL (.cells #[.int .i64 num,.int .i64 den] 73));have c2:=yH (fun w=>rdown_rat n (alD num den) (alN num den) w ha (by unfold alD;split <;> first|exact hd|decide) (by unfold alN;split <;> first|exact hn|decide))
 have hs:(aOl n (alD num den) (alN num den)=.tuple #[.int .i64 0,.int .i64 1]∧fitN n num den=0)∨
   (∃q:Int,aOl n (alD num den) (alN num den)=.tuple #[.int .i64 q,.int .i64 0]∧fitN n num den=min q 1099511627776)∨
   (aOl n (alD num den) (alN num den)=.tuple #[.int .i64 0,.int .i64 10]∧fitN n num den=1099511627776):=by
  unfold aOl fitN;rcases aPo num den with⟨hm,h1,h2,h3,h4,h5,h6⟩|⟨hm,h1,h2⟩
  ·rw[h1,h2,mayB_swap,hm,if_pos rfl]
   by_cases h0:n<0
   ·exact .inl ⟨by rw[aN2,if_pos (.inl h0)],by rw[if_neg zQ]⟩
   rw[aN2,if_neg zQ,if_pos ⟨rfl,zQ⟩]
   by_cases hq:In64 (n*den/num)
   ·exact .inr (.inl ⟨_,ans_of _ hq,rfl⟩)
   refine .inr (.inr ⟨ans_not _ hq,?_⟩);have:0≤n*den/num:=Int.ediv_nonneg (Int.mul_nonneg zQ zQ) zQ;unfold In64 at hq;omega
  rw[h1,h2,hm];exact .inl ⟨rfl,zV⟩
 generalize alD num den=x at *;generalize alN num den=y at *;clear ha hn hd;rcases hs with⟨e1,e2⟩|⟨q,e1,e2⟩|⟨e1,e2⟩
 all_goals
  rw[e1]at c2;rw[e2];clear e1 e2;go_enter Tryz.func316,Tryz.ntmps316;go_wp2_with fail;refine(c1.out _).mono ?_;rintro e w1 ⟨rfl,b1⟩;go_wp2_with fail;refine(c2.out _).mono ?_;rintro e w2 ⟨rfl,b2⟩;go_wp2_with fail;go_ret;exact⟨rfl,B0.o.trans ((b1.mono zV).trans (b2.mono wF))⟩
def cmpI(x y:Int):Int:=if x<y then -1 else if y<x then 1 else 0
def orI(p q:Int):Int:=if p=0 then q else p
theorem aQ6(x:Int)(w:World):
  Calls Tryz.prog 340 #[.int .u64 x] w (yV w (.bool false)):=by
 go_enter Tryz.func340,Tryz.ntmps340;go_wp2;go_ret;exact⟨rfl,rfl⟩
theorem aIt(x y:Int)(w:World):
  Calls Tryz.prog 314 #[.int .u64 x,.int .u64 y] w (yV w (.int .i64 (cmpI x y))):=by
 have c1:=yH (fun w=>aQ6 x w);have c2:=yH (fun w=>aQ6 y w);rcases Int.lt_trichotomy x y with h|h|h
 ·rw[show cmpI x y = -1 by unfold cmpI;rw[if_pos h]];go_enter Tryz.func314,Tryz.ntmps314;go_wp2_with fail;refine(c1.out _).mono ?_;rintro e w1 ⟨rfl,rfl⟩;go_wp2_with fail;refine(c2.out _).mono ?_;rintro e w1 ⟨rfl,rfl⟩;go_wp2_with fail;go_ret;exact⟨rfl,rfl⟩
 ·rw[show cmpI x y=0 by unfold cmpI;rw[if_neg zQ,if_neg zQ]];subst h;go_enter Tryz.func314,Tryz.ntmps314;go_wp2_with fail;refine(c1.out _).mono ?_;rintro e w1 ⟨rfl,rfl⟩;go_wp2_with fail;refine(c2.out _).mono ?_;rintro e w1 ⟨rfl,rfl⟩;go_wp2_with fail;go_ret;exact⟨rfl,rfl⟩
 rw[show cmpI x y=1 by unfold cmpI;rw[if_neg zQ,if_pos h]];go_enter Tryz.func314,Tryz.ntmps314;go_wp2_with fail;refine(c1.out _).mono ?_;rintro e w1 ⟨rfl,rfl⟩;go_wp2_with fail;refine(c2.out _).mono ?_;rintro e w1 ⟨rfl,rfl⟩;go_wp2_with fail;go_ret;exact⟨rfl,rfl⟩
theorem or_two(b cap:Nat)(p q:Int)(w:World)(hlt:b<w.heap.size)(h0:w.cell? ⟨b,0,none⟩=some (.int .i64 p))(h1:w.cell? ⟨b,1,none⟩=some (.int .i64 q)):
  Calls Tryz.prog 142 #[.slice (some ⟨b,0,none⟩) 2 cap] w (yV w (.int .i64 (orI p q))):=by
 unfold orI
 by_cases hp:p=0
 ·rw[if_pos hp];subst hp
  by_cases hq:q=0
  ·subst hq;go_enter Tryz.func142,Tryz.ntmps142;go_wp2;refine wp_loop_rounds 3 ?_;rw[rounds_succ];go_wp2;rw[rounds_succ];go_wp2;rw[rounds_succ];go_wp2;go_ret;exact⟨rfl,rfl⟩
  have hb:(q==0)=false:=by simp[hq]
  go_enter Tryz.func142,Tryz.ntmps142;go_wp2;refine wp_loop_rounds 2 ?_;rw[rounds_succ];go_wp2;rw[rounds_succ];go_wp2;go_ret;exact⟨rfl,rfl⟩
 rw[if_neg hp];have hb:(p==0)=false:=by simp[hp]
 go_enter Tryz.func142,Tryz.ntmps142;go_wp2;refine wp_loop_rounds 1 ?_;rw[rounds_succ];go_wp2;go_ret;exact⟨rfl,rfl⟩
theorem aQ7(x y:Int):orI (cmpI (x/18446744073709551616) (y/18446744073709551616)) (cmpI (x%18446744073709551616) (y%18446744073709551616))=cmpI x y:=by
 unfold orI cmpI;split <;> (repeat' split at *) <;> omega
def cmpR(an ad bn bd:Int):Int:=if mayB an ad=true∧mayB bn bd=true then cmpI (an*bd) (bn*ad)else 0
theorem aE4{n d:Int}(h:mayB n d=true):1≤n∧1≤d∧n≤1099511627776∧d≤1099511627776∧Int.gcd n d=1:=(aIs n d).1 h
theorem aTs(an ad bn bd:Int)(w:World)(h1:In64 an)(h2:In64 ad)(h3:In64 bn)(h4:In64 bd):
  Calls Tryz.prog 306 #[.agg #[.int .i64 an,.int .i64 ad],.agg #[.int .i64 bn,.int .i64 bd]] w (yR w (.int .i64 (cmpR an ad bn bd))):=by
 have c1:=yH (fun w=>aHa an ad w h1 h2);have c2:=yH (fun w=>aHa bn bd w h3 h4);have k1:Blk ((w.alloc (.cells #[.int .i64 an,.int .i64 ad] 73)).alloc (.cells #[.int .i64 bn,.int .i64 bd] 73)) w.heap.size #[.int .i64 an,.int .i64 ad] 73:=(Blk.new _ _ _).alloc _;have k2:Blk ((w.alloc (.cells #[.int .i64 an,.int .i64 ad] 73)).alloc (.cells #[.int .i64 bn,.int .i64 bd] 73)) (w.heap.size+1) #[.int .i64 bn,.int .i64 bd] 73:=pAB _ _ _ zV;have b0:Below w.heap.size w ((w.alloc (.cells #[.int .i64 an,.int .i64 ad] 73)).alloc (.cells #[.int .i64 bn,.int .i64 bd] 73)):=(yZ.alloc yL _).alloc zV _;have K1:=yH k1;have K2:=yH k2;have B0:=yH b0;clear k1 k2 b0 h1 h2 h3 h4
 by_cases hm:mayB an ad=true
 ·by_cases hm2:mayB bn bd=true
  ·rw[show cmpR an ad bn bd=cmpI (an*bd) (bn*ad) by unfold cmpR;rw[if_pos ⟨hm,hm2⟩],←aQ7];obtain⟨p1,p2,p3,p4,_⟩:=aE4 hm;obtain⟨q1,q2,q3,q4,_⟩:=aE4 hm2;rw[hm]at c1;rw[hm2]at c2;have u1:IntKind.u64.wrap an=an:=aKx _ ⟨zQ,zQ⟩;have u2:IntKind.u64.wrap ad=ad:=aKx _ ⟨zQ,zQ⟩;have u3:IntKind.u64.wrap bn=bn:=aKx _ ⟨zQ,zQ⟩;have u4:IntKind.u64.wrap bd=bd:=aKx _ ⟨zQ,zQ⟩;have cm1:=yH (fun w=>aG7 an bd w ⟨zQ,zQ⟩ ⟨zQ,zQ⟩);have cm2:=yH (fun w=>aG7 bn ad w ⟨zQ,zQ⟩ ⟨zQ,zQ⟩);have cc:=yH aIt;generalize an*bd=x at *;generalize bn*ad=y at *;clear hm hm2 p1 p2 p3 p4 q1 q2 q3 q4;go_enter Tryz.func306,Tryz.ntmps306;go_wp2_with fail;refine(c1.out _).mono ?_;rintro e w1 ⟨rfl,b1⟩;have B1:=yH (B0.o.trans (b1.mono zU));have r1:=K1.o.below b1 K1.o.lt;have r2:=K2.o.below b1 K2.o.lt;have d0:=r1.cell 0;have d1:=r1.cell 1;have e0:=r2.cell 0;have e1:=r2.cell 1;simp at d0 d1 e0 e1;have R1:=yH r1;have R2:=yH r2;clear r1 r2 b1;go_wp2_with fail;refine(c2.out _).mono ?_;rintro e w2 ⟨rfl,b2⟩;have B2:=yT B1 b2;have r1:=R1.o.below b2 R1.o.lt;have r2:=R2.o.below b2 R2.o.lt;clear d0 d1 e0 e1;have d0:=r1.cell 0;have d1:=r1.cell 1;have e0:=r2.cell 0;have e1:=r2.cell 1;simp at d0 d1 e0 e1;clear r1 r2 b2;go_wp2_with fail;refine(cm1.out _).mono ?_;rintro e w2 ⟨rfl,rfl⟩;go_wp2_with fail;refine(cm2.out _).mono ?_;rintro e w2 ⟨rfl,rfl⟩;go_wp2_with fail;refine(cc.out _ _ _).mono ?_;rintro e w2 ⟨rfl,rfl⟩;go_wp2_with fail;refine(cc.out _ _ _).mono ?_;rintro e w2 ⟨rfl,rfl⟩;go_wp2_with fail;refine(or_two w2.heap.size _ (cmpI (x/18446744073709551616) (y/18446744073709551616)) (cmpI (x%18446744073709551616) (y%18446744073709551616)) _ zV zV zV).mono ?_;rintro e w2 ⟨rfl,rfl⟩;go_wp2_with fail;go_ret;exact⟨rfl,B2.o.alloc B2.o.size _⟩
  rw[show cmpR an ad bn bd=0 by unfold cmpR;rw[if_neg (by simp[hm2])]];simp only[Bool.not_eq_true]at hm2;rw[hm]at c1;rw[hm2]at c2;clear hm hm2;go_enter Tryz.func306,Tryz.ntmps306;go_wp2_with fail;refine(c1.out _).mono ?_;rintro e w1 ⟨rfl,b1⟩;have B1:=yH (B0.o.trans (b1.mono zU));have r2:=K2.o.below b1 K2.o.lt;have e0:=r2.cell 0;have e1:=r2.cell 1;simp at e0 e1;clear r2 b1;go_wp2_with fail;refine(c2.out _).mono ?_;rintro e w2 ⟨rfl,b2⟩;go_wp2_with fail;go_ret;exact⟨rfl,B1.o.trans (b2.mono B1.o.size)⟩
 rw[show cmpR an ad bn bd=0 by unfold cmpR;rw[if_neg (by simp[hm])]];simp only[Bool.not_eq_true]at hm;rw[hm]at c1;clear hm;go_enter Tryz.func306,Tryz.ntmps306;go_wp2_with fail;refine(c1.out _).mono ?_;rintro e w1 ⟨rfl,b1⟩;go_wp2_with fail;go_ret;exact⟨rfl,B0.o.trans (b1.mono zU)⟩
end Go.Proofs.YtngnfdnfpiiclaaGreat
