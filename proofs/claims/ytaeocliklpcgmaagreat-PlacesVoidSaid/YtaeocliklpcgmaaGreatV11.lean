/- Pieces of one proof. -/
import Derived.Test.YtaeocliklpcgmaaGreatV05
import Derived.Test.YtaeocliklpcgmaaGreatV10
import Derived.Laws.EntriesVeiled
import Derived.WalkSmall
import Derived.Deep.MidRow
import Derived.Laws.Bits64b
import Derived.Lib.Mul64
import Derived.Laws.Externs
set_option linter.all false
set_option maxHeartbeats 64000000
set_option maxRecDepth 100000
namespace Go.Proofs.YtaeocliklpcgmaaGreat
open Go.RowKit
def aBg(ps:List Int)(ls:List Ln)(c a b:Int):Int:=aA9 ps ls a b c
theorem aAm{ps:List Int}{ls:List Ln}(h:LInv ps ls)(c:Int):GInv (aBg ps ls c) 4398046511104:=by
 refine⟨fun p q=>(aG8 h.inv.good p q c).1,fun p q=>?_,fun p q hi=>?_,fun p=>?_⟩
 ·have h1:=(aG8 (ps:=ps) h.inv.good p q c).2;have h2:=(aG8 (ps:=ps) h.inv.good q p c).2;unfold aBg;omega
 ·unfold aBg aA9;rw[if_pos]
  by_cases h1:p∈ps
  ·by_cases h2:q∈ps
   ·exact absurd ⟨h.bd p h1,h.bd q h2⟩ hi
   exact .inr (.inr h2)
  exact .inr (.inl h1)
 unfold aBg aA9;rw[if_pos (.inl rfl)]
theorem gof_led{w:World}{G M:Nat}{ps:List Int}{ls:List Ln}(h:LedM w G M ps ls)(hI:LInv ps ls){c:Int}(hc:In8 c):
  Calls Tryz.prog 184 #[.pointer (some ⟨G,0,none⟩),.int .u8 c] w fun e w'=>e=.returned (.pointer (some ⟨w.heap.size,0,none⟩))∧Blk w' w.heap.size (graC (aBg ps ls c) true) 268∧Below w.heap.size w w':=
 gof_any fun w' k p q hp hq=>room_any (h.below k) hI hp hq hc
theorem aI0{ps:List Int}{ls:List Ln}(h:Inv ls){a b c n:Int}(h1:1≤n)(hr:n≤aA9 ps ls a b c){p q d:Int}
  (k1:¬(a=p∧b=q∧c=d))(k2:¬(a=q∧b=p∧c=d)):aA9 ps (aBn ls a b c n) p q d=aA9 ps ls p q d:=by
 have hz:¬(a=b∨a∉ps∨b∉ps):=by
  intro hz;unfold aA9 at hr;rw[if_pos hz]at hr;omega
 have hr2:=hr;unfold aA9 at hr2;rw[if_neg hz]at hr2;obtain⟨_,_,h3,_⟩:=aDn h (fun e=>hz (.inl e)) h1 hr2
 have e1:lnAt (aBn ls a b c n) p q d=lnAt ls p q d:=by
  unfold lnAt;rw[h3 p q d,if_neg k1,if_neg (fun e=>k2 ⟨e.2.1,e.1,e.2.2⟩)]
 have e2:lnAt (aBn ls a b c n) q p d=lnAt ls q p d:=by
  unfold lnAt;rw[h3 q p d,if_neg k2,if_neg (fun e=>k1 ⟨e.2.1,e.1,e.2.2⟩)]
 unfold aA9;rw[e1,e2]
theorem room_push{ps:List Int}{ls:List Ln}(h:LInv ps ls)(a b c n:Int):aBg ps (aCo ps ls a b c n) c=aD6 (aBg ps ls c) a b n:=by
 funext p q
 unfold aD6
 by_cases hc:1≤n∧n≤aBg ps ls c a b
 ·rw[if_pos hc];obtain⟨h1,h2⟩:=hc;have h2':n≤aA9 ps ls a b c:=h2;have he:aCz ps ls a b c n=0:=by unfold aCz;rw[if_neg (by omega),if_neg (by omega)]
  have hl:aCo ps ls a b c n=aBn ls a b c n:=by unfold aCo;rw[if_pos he]
  rw[hl];obtain⟨r1,r2⟩:=push_room (ps:=ps) h.inv h1 h2';unfold aBd aBg
  by_cases c1:p=b∧q=a
  ·rw[if_pos c1,c1.1,c1.2];exact r2
  rw[if_neg c1]
  by_cases c2:p=a∧q=b
  ·rw[if_pos c2,c2.1,c2.2];exact r1
  rw[if_neg c2];exact aI0 h.inv h1 h2' (fun e=>c2 ⟨e.1.symm,e.2.1.symm⟩) (fun e=>c1 ⟨e.2.1.symm,e.1.symm⟩)
 rw[if_neg hc]
 have he:aCz ps ls a b c n≠0:=by
  unfold aCz;have hc':¬(1≤n∧n≤aA9 ps ls a b c):=hc;split
  ·decide
  split
  ·decide
  exact absurd ⟨by omega,by omega⟩ hc'
 unfold aCo;rw[if_neg he]
theorem room_else{ps:List Int}{ls:List Ln}(h:LInv ps ls)(a b n:Int){c d:Int}(hd:c≠d):aBg ps (aCo ps ls a b c n) d=aBg ps ls d:=by
 funext p q
 unfold aCo
 by_cases he:aCz ps ls a b c n=0
 ·rw[if_pos he];have h1:1≤n∧n≤aA9 ps ls a b c:=by unfold aCz at he;(repeat' split at he) <;> omega
  exact aI0 h.inv h1.1 h1.2 (fun e=>hd e.2.2) (fun e=>hd e.2.2)
 rw[if_neg he]
def aBr(ps:List Int)(c:Int)(ls:List Ln)(l:List Fw):List Ln:=l.foldl (fun ls x=>aCo ps ls x.fr x.tt c x.am) ls
theorem aKy{ps:List Int}{c:Int}{ls:List Ln}{l:List Fw}{k:Nat}(h:k<l.length):aBr ps c ls (l.take (k+1))=aCo ps (aBr ps c ls (l.take k)) l[k].fr l[k].tt c l[k].am:=by
 unfold aBr;rw[List.take_succ_eq_append_getElem h,List.foldl_append];rfl
theorem aDw{ps:List Int}{c:Int}:∀(l:List Fw) {ls:List Ln},LInv ps ls→LInv ps (aBr ps c ls l)
 | [],_,h=>h
 | x::l,_,h=>aDw l (h.push x.fr x.tt c x.am)
theorem aGw{ps:List Int}{c d:Int}(hd:c≠d):∀(l:List Fw) {ls:List Ln},LInv ps ls→aBg ps (aBr ps c ls l) d=aBg ps ls d
 | [],_,_=>rfl
 | x::l,ls,h=>by
  show aBg ps (aBr ps c (aCo ps ls x.fr x.tt c x.am) l) d=_;rw[aGw hd l (h.push _ _ _ _),room_else h _ _ _ hd]
def limL(ls:List Ln):List Ln:=ls.map fun x=>x.owe 0
theorem push_lims{ls:List Ln}(h:Inv ls){a b c n:Int}(hab:a≠b)(h1:1≤n)(hr:n≤(lnAt ls a b c).db+(lnAt ls b a c).li - (lnAt ls b a c).db):limL (aBn ls a b c n)=limL ls:=by
 obtain⟨i,_,f,_⟩:=aDn h hab h1 hr
 have hs:∀{m:List Ln},m.Pairwise (fun x y=>x.rank<y.rank)→(limL m).Pairwise (fun x y=>x.rank<y.rank):=fun{m} hm=>by
  unfold limL;rw[List.pairwise_map];exact hm
 refine aEx _ _ (hs i.sorted) (hs h.sorted) fun z=>?_
 unfold limL;rw[List.mem_map,List.mem_map]
 constructor
 ·rintro⟨y,hy,rfl⟩;have hl:=(aBi i y.cr y.de y.cu y).2 ⟨hy,rfl,rfl,rfl⟩;rw[f]at hl;split at hl
  ·obtain⟨x,hx,e⟩:=Option.map_eq_some_iff.1 hl;exact⟨x,(aAo hx).1,by rw[←e];rfl⟩
  split at hl
  ·obtain⟨x,hx,e⟩:=Option.map_eq_some_iff.1 hl;exact⟨x,(aAo hx).1,by rw[←e];rfl⟩
  exact⟨y,(aAo hl).1,rfl⟩
 rintro⟨x,hx,rfl⟩;have hl:=(aBi h x.cr x.de x.cu x).2 ⟨hx,rfl,rfl,rfl⟩;have hf:=f x.cr x.de x.cu;split at hf
 ·rename_i k;obtain⟨k1,k2,k3⟩:=k;rw[←k1,←k2,←k3]at hl;rw[hl]at hf;exact⟨_,(aAo hf).1,rfl⟩
 split at hf
 ·rename_i k;obtain⟨k1,k2,k3⟩:=k;rw[←k1,←k2,←k3]at hl;rw[hl]at hf;exact⟨_,(aAo hf).1,rfl⟩
 rw[hl]at hf;exact⟨x,(aAo hf).1,rfl⟩
theorem aKz{ps:List Int}{ls:List Ln}{a b c n:Int}(h1:1≤n)(hr:n≤aA9 ps ls a b c):aCo ps ls a b c n=aBn ls a b c n∧a≠b∧n≤(lnAt ls a b c).db+(lnAt ls b a c).li - (lnAt ls b a c).db:=by
 have hz:¬(a=b∨a∉ps∨b∉ps):=by
  intro hz;unfold aA9 at hr;rw[if_pos hz]at hr;omega
 have hr2:=hr;unfold aA9 at hr2;rw[if_neg hz]at hr2;have he:aCz ps ls a b c n=0:=by unfold aCz;rw[if_neg (by omega),if_neg (by omega)]
 exact⟨by unfold aCo;rw[if_pos he],fun e=>hz (.inl e),hr2⟩
theorem aEj{ps:List Int}{c:Int}:∀(l:List Fw) {ls:List Ln},LInv ps ls→limL (aBr ps c ls l)=limL ls
 | [],_,_=>rfl
 | x::l,ls,h=>by
  show limL (aBr ps c (aCo ps ls x.fr x.tt c x.am) l)=_;rw[aEj l (h.push _ _ _ _)]
  by_cases he:aCz ps ls x.fr x.tt c x.am=0
  ·have h1:1≤x.am∧x.am≤aA9 ps ls x.fr x.tt c:=by unfold aCz at he;(repeat' split at he) <;> omega
   obtain⟨e,k1,k2⟩:=aKz h1.1 h1.2;rw[e];exact push_lims h.inv k1 h1.1 k2
  unfold aCo;rw[if_neg he]
theorem aI1{x:Ln}{p c:Int}(h:x.cu≠c):aF5 p c x=0:=by unfold aF5;rw[if_neg h]
theorem aJu{ls:List Ln}(h:Inv ls){a b c n:Int}(hab:a≠b)(h1:1≤n)(hr:n≤(lnAt ls a b c).db+(lnAt ls b a c).li - (lnAt ls b a c).db)(p:Int){d:Int}(hd:c≠d):posL (aBn ls a b c n) p d=posL ls p d:=by
 obtain⟨_,_,_,hs⟩:=aDn h hab h1 hr;unfold posL;rw[hs (aF5 p d) (aGc p d)]
 have key:∀a b m,aF5 p d ((lnAt ls a b c).owe m)=aF5 p d (lnAt ls a b c):=by
  intro a b m
  cases hl:aAl ls a b c with
  | none=>rw[aAs hl];unfold aF5 noLn Ln.owe;simp
  | some x=>
   have hc:=(aAo hl).2.2.2;rw[aAr hl,aI1 (x:=x) (by omega),aI1 (x:=x.owe m) (by show x.cu≠d;omega)]
 rw[key,key];omega
theorem aH6{ps:List Int}{c:Int}(p:Int):∀(l:List Fw) {ls:List Ln},LInv ps ls→aFt (aBg ps ls c) l→∀d,posL (aBr ps c ls l) p d=posL ls p d+(if d=c then netL l p else 0)
 | [],ls,_,_,d=>by show posL ls p d=posL ls p d+(if d=c then 0 else 0);split <;> omega
 | x::l,ls,h,⟨h1,h2,h3⟩,d=>by
  have e:aBg ps (aCo ps ls x.fr x.tt c x.am) c=aBd (aBg ps ls c) x.fr x.tt x.am:=by
   rw[room_push h];unfold aD6;rw[if_pos ⟨h1,h2⟩]
  show posL (aBr ps c (aCo ps ls x.fr x.tt c x.am) l) p d=_;rw[aH6 p l (h.push _ _ _ _) (by rw[e];exact h3) d];obtain⟨k,k1,k2⟩:=aKz (ps:=ps) (ls:=ls) h1 h2;rw[k]
  by_cases hd:d=c
  ·subst hd;rw[if_pos rfl,if_pos rfl,push_pos (ps:=ps) h.inv h1 h2 p];show _=_+((if x.tt=p then x.am else 0) - (if x.fr=p then x.am else 0)+netL l p);have e1:(if p=x.fr then x.am else 0)=(if x.fr=p then x.am else 0):=by simp only[eq_comm]
   have e2:(if p=x.tt then x.am else 0)=(if x.tt=p then x.am else 0):=by simp only[eq_comm]
   rw[e1,e2];omega
  rw[if_neg hd,if_neg hd,aJu h.inv k1 h1 k2 p (fun e=>hd e.symm)]
theorem aAc.good{f0:Int→Int→Int}{B s t want:Int}{σ:RS}(h:aAc f0 B s t want σ):aFt f0 σ.out∧aG5 f0 σ.out=σ.f:=by
 obtain⟨k,h,_⟩:=h;exact⟨h.good,h.fold⟩
theorem aAc.net{f0:Int→Int→Int}{B s t want:Int}{σ:RS}(h:aAc f0 B s t want σ)(p:Int):netL σ.out p=(if t=p then want - σ.left else 0) - (if s=p then want - σ.left else 0):=by
 obtain⟨k,h,_⟩:=h;exact h.net p
theorem aAc.els{f0:Int→Int→Int}{B s t want:Int}{σ:RS}(h:aAc f0 B s t want σ):∀e∈σ.out,inP e.fr∧inP e.tt∧e.fr≠e.tt∧1≤e.am∧e.am≤B:=by
 obtain⟨k,h,_⟩:=h;exact h.els
def aB2(a b c n:Int):Prop:=inP a∧inP b∧a≠b∧1≤c∧c≤8∧1≤n∧n≤1099511627776
instance(a b c n:Int):Decidable (aB2 a b c n):=by unfold aB2;infer_instance
def aB5(e0:Int)(has:Int→Bool)(a b c n got:Int):Int:=if e0=2 then 2 else if ¬aB2 a b c n then 1 else if has a=false∨has b=false then 7 else if got<n then 11 else 0
theorem aMe(has:Int→Bool)(a b c n got:Int):(aB5 1 has a b c n got=1∧¬aB2 a b c n)∨(aB5 1 has a b c n got=7∧aB2 a b c n∧(has a=false∨has b=false))∨(aB5 1 has a b c n got=11∧aB2 a b c n∧has a=true∧has b=true∧got<n)∨(aB5 1 has a b c n got=0∧aB2 a b c n∧has a=true∧has b=true∧¬got<n):=by
 unfold aB5;rw[if_neg (by decide)]
 by_cases h1:aB2 a b c n
 ·rw[if_neg (by simpa using h1)]
  by_cases h2:has a=false∨has b=false
  ·rw[if_pos h2];exact .inr (.inl ⟨rfl,h1,h2⟩)
  rw[if_neg h2];have h3:has a=true∧has b=true:=by simpa using h2
  by_cases h4:got<n
  ·rw[if_pos h4];exact .inr (.inr (.inl ⟨rfl,h1,h3.1,h3.2,h4⟩))
  rw[if_neg h4];exact .inr (.inr (.inr ⟨rfl,h1,h3.1,h3.2,h4⟩))
 rw[if_pos h1];exact .inl ⟨rfl,h1⟩
def payE(ps:List Int)(a b c n:Int)(σ:RS):Int:=aB5 1 (fun p=>decide (p∈ps)) a b c n (n - σ.left)
def payN(ps:List Int)(a b c n:Int)(σ:RS):Int:=if payE ps a b c n σ=0 then(σ.out.length:Int)else 0
def payL(ps:List Int)(ls:List Ln)(a b c n:Int)(σ:RS):List Ln:=if payE ps a b c n σ=0 then aBr ps c ls σ.out else ls
theorem aHi{ps:List Int}{ls:List Ln}(h:LInv ps ls)(a b c n:Int)(σ:RS):LInv ps (payL ps ls a b c n σ):=by
 unfold payL;split
 ·exact aDw _ h
 exact h
theorem ymay_any(p:Int)(w:World):Calls Tryz.prog 237 #[.int .u8 p] w (yS w (.bool (mayG p))):=by
 have hs:(¬1≤p∧mayG p=false)∨(1≤p∧p≤16∧mayG p=true)∨(1≤p∧¬p≤16∧mayG p=false):=by unfold mayG;simp;omega
 rcases hs with⟨h1,h2⟩|⟨h1,h3,h2⟩|⟨h1,h3,h2⟩
 all_goals
  rw[h2];clear h2;go_enter Tryz.func237,Tryz.ntmps237;go_wp2;go_ret;exact⟨rfl,rfl⟩
theorem pmay9_any(lp:Option Addr)(a b c n:Int)(ao:Option Addr)(k cap:Nat)(got:Int)(w:World):
  Calls Tryz.prog 228 #[.agg #[.pointer lp,.int .u8 a,.int .u8 b,.int .u8 c,.int .i64 n,.slice ao k cap,.int .i64 got]] w (yR w (.bool (decide (aB2 a b c n)))):=by
 have B:=yH ((Below.refl w.heap.size w).alloc yL (.cells #[.pointer lp,.int .u8 a,.int .u8 b,.int .u8 c,.int .i64 n,.slice ao k cap,.int .i64 got] 244));have C1:=yH (ymay_any a);have C2:=yH (ymay_any b);obtain⟨r,hr⟩:∃r,decide (aB2 a b c n)=r:=⟨_,rfl⟩;rw[hr]
 have hs:(mayG a=false∧r=false)∨(mayG a=true∧mayG b=false∧r=false)∨(mayG a=true∧mayG b=true∧(a==b)=true∧r=false)∨
   (mayG a=true∧mayG b=true∧(a==b)=false∧¬1≤c∧r=false)∨(mayG a=true∧mayG b=true∧(a==b)=false∧1≤c∧¬c≤8∧r=false)∨
   (mayG a=true∧mayG b=true∧(a==b)=false∧1≤c∧c≤8∧¬1≤n∧r=false)∨
   (mayG a=true∧mayG b=true∧(a==b)=false∧1≤c∧c≤8∧1≤n∧decide (n≤1099511627776)=false∧r=false)∨(mayG a=true∧mayG b=true∧(a==b)=false∧1≤c∧c≤8∧1≤n∧n≤1099511627776∧r=true):=by
  have hf:¬aB2 a b c n→r=false:=fun h=>by rw[←hr];exact decide_eq_false h
  unfold aB2 at hf hr
  by_cases h1:inP a
  ·by_cases h2:inP b
   ·by_cases h3:a=b
    ·exact .inr (.inr (.inl ⟨aAv h1,aAv h2,by simp[h3],hf (fun o=>o.2.2.1 h3)⟩))
    have h3':(a==b)=false:=by simp[h3]
    by_cases h4:1≤c
    ·by_cases h5:c≤8
     ·by_cases h6:1≤n
      ·by_cases h7:n≤1099511627776
       ·exact .inr (.inr (.inr (.inr (.inr (.inr (.inr ⟨aAv h1,aAv h2,h3',h4,h5,h6,h7,by rw[←hr];exact decide_eq_true ⟨h1,h2,h3,h4,h5,h6,h7⟩⟩))))))
       exact .inr (.inr (.inr (.inr (.inr (.inr (.inl ⟨aAv h1,aAv h2,h3',h4,h5,h6,by simp[h7],hf (fun o=>h7 o.2.2.2.2.2.2)⟩))))))
      exact .inr (.inr (.inr (.inr (.inr (.inl ⟨aAv h1,aAv h2,h3',h4,h5,h6,hf (fun o=>h6 o.2.2.2.2.2.1)⟩)))))
     exact .inr (.inr (.inr (.inr (.inl ⟨aAv h1,aAv h2,h3',h4,h5,hf (fun o=>h5 o.2.2.2.2.1)⟩))))
    exact .inr (.inr (.inr (.inl ⟨aAv h1,aAv h2,h3',h4,hf (fun o=>h4 o.2.2.2.1)⟩)))
   exact .inr (.inl ⟨aAv h1,aCv h2,hf (fun o=>h2 o.2.1)⟩)
  exact .inl ⟨aCv h1,hf (fun o=>h1 o.1)⟩
 clear hr;have hneq:(a != b)=!(a==b):=rfl;rcases hs with⟨h1,h2⟩|⟨h1,h3,h2⟩|⟨h1,h3,h4,h2⟩|⟨h1,h3,h4,h5,h2⟩|⟨h1,h3,h4,h5,h6,h2⟩|⟨h1,h3,h4,h5,h6,h7,h2⟩|⟨h1,h3,h4,h5,h6,h7,h8,h2⟩|⟨h1,h3,h4,h5,h6,h7,h8,h2⟩
 ·rw[h1]at C1;rw[h2];clear h1 h2;go_enter Tryz.func228,Tryz.ntmps228;go_wp2_with fail;refine(C1.out _).mono ?_;rintro e w1 ⟨rfl,rfl⟩;go_wp2_with fail;go_ret;exact⟨rfl,B.out⟩
 all_goals
  rw[h1]at C1;rw[h3]at C2;rw[h2];clear h1 h3 h2;go_enter Tryz.func228,Tryz.ntmps228;go_wp2_with fail;refine(C1.out _).mono ?_;rintro e w1 ⟨rfl,rfl⟩;go_wp2_with fail;refine(C2.out _).mono ?_;rintro e w1 ⟨rfl,rfl⟩;go_wp2_with fail;go_ret;exact⟨rfl,B.out⟩
theorem popen0_any{w:World}{g m:Nat}{ps:List Int}{ls:List Ln}(h:LedM w g m ps ls):
  Calls Tryz.prog 34 #[.pointer (some ⟨g,0,none⟩),.int .u8 0] w (yS w (.int .i64 1)):=by
 have C1:=yH (aE0 h.blk);have C2:=yH (aCd 0 w);rw[show mayP 0=false by rfl]at C2;clear h;go_enter Tryz.func34,Tryz.ntmps34;go_wp2_with fail;refine C1.out.mono ?_;rintro e w ⟨rfl,rfl⟩;go_wp2_with fail;refine C2.out.mono ?_;rintro e w ⟨rfl,rfl⟩;go_wp2_with fail;go_ret;exact⟨rfl,rfl⟩
abbrev payV(lp:Option Addr)(a b c n:Int)(ao:Option Addr)(k cap:Nat)(got:Int):Value:=.agg #[.pointer lp,.int .u8 a,.int .u8 b,.int .u8 c,.int .i64 n,.slice ao k cap,.int .i64 got]
structure aCl(w:World)(lp:Option Addr)(e0:Int)(has:Int→Bool):Prop where
 open0:∀w',Below w.heap.size w w'→Calls Tryz.prog 34 #[.pointer lp,.int .u8 0] w' fun e w''=>e=.returned (.int .i64 e0)∧w'=w''
 has:∀w',Below w.heap.size w w'→∀p,Calls Tryz.prog 91 #[.pointer lp,.int .u8 p] w' fun e w''=>e=.returned (.bool (has p))∧w'=w''
theorem aCl.below{w w':World}{lp:Option Addr}{e0:Int}{has:Int→Bool}(h:aCl w lp e0 has)(k:Below w.heap.size w w'):aCl w' lp e0 has:=⟨fun w2 q=>h.open0 w2 (andB k q),fun w2 q=>h.has w2 (andB k q)⟩
theorem aDx{w:World}{g m:Nat}{ps:List Int}{ls:List Ln}(h:LedM w g m ps ls)(hI:LInv ps ls):aCl w (some ⟨g,0,none⟩) 1 (fun p=>decide (p∈ps)):=
 ⟨fun w' k=>popen0_any (h.below k),fun w' k p=>aGf (h.below k).blk hI.bd p⟩
theorem chk1_any{w:World}{lp:Option Addr}{e0:Int}{has:Int→Bool}(h:aCl w lp e0 has)(a b c n:Int)(ao:Option Addr)(k cap:Nat)(got:Int):
  Calls Tryz.prog 226 #[payV lp a b c n ao k cap got] w (yR w (.bool (e0==2))):=by
 unfold payV;have bw:=(Below.refl w.heap.size w).alloc yL (.cells #[.pointer lp,.int .u8 a,.int .u8 b,.int .u8 c,.int .i64 n,.slice ao k cap,.int .i64 got] 244);have C:=yH (h.open0 _ bw);have B:=yH bw;clear bw h;go_enter Tryz.func226,Tryz.ntmps226;go_wp2_with fail;refine C.out.mono ?_;rintro e w1 ⟨rfl,rfl⟩;go_wp2_with fail;go_ret;exact⟨rfl,B.out⟩
theorem chk2_any(w:World)(lp:Option Addr)(a b c n:Int)(ao:Option Addr)(k cap:Nat)(got:Int):
  Calls Tryz.prog 227 #[payV lp a b c n ao k cap got] w (yR w (.bool (!decide (aB2 a b c n)))):=by
 unfold payV;have bw:=(Below.refl w.heap.size w).alloc yL (.cells #[.pointer lp,.int .u8 a,.int .u8 b,.int .u8 c,.int .i64 n,.slice ao k cap,.int .i64 got] 244);have B:=yH bw;have C:=yH (pmay9_any lp a b c n ao k cap got);clear bw;generalize decide (aB2 a b c n)=r at *;go_enter Tryz.func227,Tryz.ntmps227;go_wp2_with fail;refine(C.out _).mono ?_;rintro e w1 ⟨rfl,b1⟩;have B1:=yT B b1;clear b1;go_wp2_with fail;go_ret;exact⟨rfl,B1.out⟩
theorem chk3_any{w:World}{lp:Option Addr}{e0:Int}{has:Int→Bool}(h:aCl w lp e0 has)(a b c n:Int)(ao:Option Addr)(k cap:Nat)(got:Int):
  Calls Tryz.prog 229 #[payV lp a b c n ao k cap got] w (yR w (.bool (!has a || !has b))):=by
 unfold payV;have bw:=(Below.refl w.heap.size w).alloc yL (.cells #[.pointer lp,.int .u8 a,.int .u8 b,.int .u8 c,.int .i64 n,.slice ao k cap,.int .i64 got] 244);have C1:=yH (h.has _ bw a);have C2:=yH (h.has _ bw b);have B:=yH bw;clear bw h;generalize has a=x at *;generalize has b=y at *
 cases x
 ·go_enter Tryz.func229,Tryz.ntmps229;go_wp2_with fail;refine C1.out.mono ?_;rintro e w1 ⟨rfl,rfl⟩;go_wp2_with fail;go_ret;exact⟨rfl,B.out⟩
 go_enter Tryz.func229,Tryz.ntmps229;go_wp2_with fail;refine C1.out.mono ?_;rintro e w1 ⟨rfl,rfl⟩;go_wp2_with fail;refine C2.out.mono ?_;rintro e w1 ⟨rfl,rfl⟩;go_wp2_with fail;go_ret;exact⟨rfl,B.out⟩
theorem chk4_any(w:World)(lp:Option Addr)(a b c n:Int)(ao:Option Addr)(k cap:Nat)(got:Int):
  Calls Tryz.prog 230 #[payV lp a b c n ao k cap got] w (yR w (.bool (decide (got<n)))):=by
 unfold payV;have B:=yH ((Below.refl w.heap.size w).alloc yL (.cells #[.pointer lp,.int .u8 a,.int .u8 b,.int .u8 c,.int .i64 n,.slice ao k cap,.int .i64 got] 244));go_enter Tryz.func230,Tryz.ntmps230;go_wp2_with fail;go_ret;exact⟨rfl,B.out⟩
abbrev aMf:Array Value:=#[.int .i64 2,.func (.func 226) #[] #[],.int .i64 1,.func (.func 227) #[] #[],.int .i64 7,.func (.func 229) #[] #[],.int .i64 11,.func (.func 230) #[] #[]]
theorem checks_any(w:World):Calls Tryz.prog 214 #[] w fun e w'=>e=.returned (.slice (some ⟨w.heap.size,0,none⟩) 4 4)∧Blk w' w.heap.size aMf 282∧Below w.heap.size w w':=by
 have B:=yH ((Below.refl w.heap.size w).alloc yL (.cells aMf 282));have K:=yH (pAA w aMf 282);go_enter Tryz.func214,Tryz.ntmps214;go_wp2_with fail;go_ret;exact⟨rfl,K.out,B.out⟩
def WrongAt(e0:Int)(has:Int→Bool)(a b c n got:Int)(W:World)(i:Value)(wr:World):Prop:=
 ∃j:Int,0≤j∧j≤4∧i=.int .i64 j∧Below W.heap.size W wr∧(1≤j→e0≠2)∧(2≤j→aB2 a b c n)∧(3≤j→has a=true∧has b=true)∧(4≤j→¬got<n)
theorem wrong_any{w:World}{lp:Option Addr}{e0:Int}{has:Int→Bool}(h:aCl w lp e0 has)(a b c n:Int)(ao:Option Addr)(k cap:Nat)(got:Int):
  Calls Tryz.prog 188 #[payV lp a b c n ao k cap got] w (yR w (.int .i64 (aB5 e0 has a b c n got))):=by
 have bw:=(Below.refl w.heap.size w).alloc yL (.cells #[.pointer lp,.int .u8 a,.int .u8 b,.int .u8 c,.int .i64 n,.slice ao k cap,.int .i64 got] 244);have H:=yH (h.below bw);have KX:=yH (pAA w #[.pointer lp,.int .u8 a,.int .u8 b,.int .u8 c,.int .i64 n,.slice ao k cap,.int .i64 got] 244);have B:=yH bw;clear bw h;unfold payV;go_enter Tryz.func188,Tryz.ntmps188;go_wp2_with fail;generalize w.alloc (.cells #[.pointer lp,.int .u8 a,.int .u8 b,.int .u8 c,.int .i64 n,.slice ao k cap,.int .i64 got] 244)=W at *;refine(checks_any W).mono ?_;rintro e w1 ⟨rfl,hk,hb⟩;have K1:=yH hk;have B1:=yH hb;have hWs:=hk.lt;have hws:=KX.out.lt;clear hk hb;go_wp2_with fail
 go_loopw [7] (WrongAt e0 has a b c n got w1) (fun i _=>4 - (intOf i).toNat)
 case atStart=>exact⟨0,by omega,by omega,rfl,yZ,by omega,by omega,by omega,by omega⟩
 obtain⟨j,j0,j4,rfl,hB,e1,e2,e3,e4⟩:=hrel;have KC:=K1.out.below hB hWs;have KP:=(KX.out.below B1.out hws).below hB (yM hws B1.out.size);have HH:=yH ((H.out.below B1.out).below hB);have d0:=KP.cell 0;have d1:=KP.cell 1;have d2:=KP.cell 2;have d3:=KP.cell 3;have d4:=KP.cell 4;have d5:=KP.cell 5;have d6:=KP.cell 6;have hlp:=KP.lt;have hlc:=KC.lt;simp at d0 d1 d2 d3 d4 d5 d6;have BJ:=yH hB;have BT:=yH (B.out.trans ((B1.out.trans (hB.mono B1.out.size)).mono B.out.size));have c0:=KC.cell 0;have c1:=KC.cell 1;have c2:=KC.cell 2;have c3:=KC.cell 3;have c4:=KC.cell 4;have c5:=KC.cell 5;have c6:=KC.cell 6;have c7:=KC.cell 7;simp at c0 c1 c2 c3 c4 c5 c6 c7;clear hB KC KP;have hcase:j=0∨j=1∨j=2∨j=3∨j=4:=by omega
 rcases hcase with rfl|rfl|rfl|rfl|rfl
 ·have KT:=yH (pAA wr #[.int .i64 2,.func (.func 226) #[] #[]] 282);have bt:=(Below.refl wr.heap.size wr).alloc yL (.cells #[.int .i64 2,.func (.func 226) #[] #[]] 282);have CC:=yH (chk1_any (HH.out.below bt) a b c n ao k cap got);have BX:=yT BJ bt;have BY:=yT BT bt;clear bt
  by_cases hx:e0=2
  ·have E:Hid (aB5 e0 has a b c n got=2):=yH (by
    unfold aB5;rw[if_pos hx])
   rw[show(e0==2)=true by simpa using hx]at CC;clear e1 e2 e3 e4 hx;go_wp2_with fail;refine CC.out.mono ?_;rintro e w2 ⟨rfl,b2⟩;have t0:=(KT.out.below b2 KT.out.lt).cell 0;have tl:=(KT.out.below b2 KT.out.lt).lt;simp at t0;have BZ:=yT BY b2;clear b2 CC c0 c1 c2 c3 c4 c5 c6 c7 d0 d1 d2 d3 d4 d5 d6;go_wp2_with fail;go_ret;exact⟨by rw[E.out];rfl,BZ.out⟩
  rw[show(e0==2)=false by simpa using hx]at CC;have N:Hid (e0≠2):=yH (by exact hx);have E1:=yH e1;have E2:=yH e2;have E3:=yH e3;clear e1 e2 e3 e4 hx;go_wp2_with fail;refine CC.out.mono ?_;rintro e w2 ⟨rfl,b2⟩;have BZ:=yT BX b2;clear b2 CC c0 c1 c2 c3 c4 c5 c6 c7 d0 d1 d2 d3 d4 d5 d6;go_wp2_with fail;exact⟨⟨1,by omega,by omega,rfl,BZ.out,fun _=>N.out,by omega,by omega,by omega⟩,by decide⟩
 ·have KT:=yH (pAA wr #[.int .i64 1,.func (.func 227) #[] #[]] 282);have bt:=(Below.refl wr.heap.size wr).alloc yL (.cells #[.int .i64 1,.func (.func 227) #[] #[]] 282);have CC:=yH (chk2_any (wr.alloc (.cells #[.int .i64 1,.func (.func 227) #[] #[]] 282)) lp a b c n ao k cap got);have BX:=yT BJ bt;have BY:=yT BT bt;clear bt
  by_cases hx:¬aB2 a b c n
  ·have E:Hid (aB5 e0 has a b c n got=1):=yH (by
    unfold aB5;rw[if_neg (e1 (by omega)),if_pos hx])
   rw[show(!decide (aB2 a b c n))=true by simpa using hx]at CC;clear e1 e2 e3 e4 hx;go_wp2_with fail;refine CC.out.mono ?_;rintro e w2 ⟨rfl,b2⟩;have t0:=(KT.out.below b2 KT.out.lt).cell 0;have tl:=(KT.out.below b2 KT.out.lt).lt;simp at t0;have BZ:=yT BY b2;clear b2 CC c0 c1 c2 c3 c4 c5 c6 c7 d0 d1 d2 d3 d4 d5 d6;go_wp2_with fail;go_ret;exact⟨by rw[E.out];rfl,BZ.out⟩
  rw[show(!decide (aB2 a b c n))=false by simpa using hx]at CC;have N:Hid (aB2 a b c n):=yH (by simpa using hx);have E1:=yH e1;have E2:=yH e2;have E3:=yH e3;clear e1 e2 e3 e4 hx;go_wp2_with fail;refine CC.out.mono ?_;rintro e w2 ⟨rfl,b2⟩;have BZ:=yT BX b2;clear b2 CC c0 c1 c2 c3 c4 c5 c6 c7 d0 d1 d2 d3 d4 d5 d6;go_wp2_with fail;exact⟨⟨2,by omega,by omega,rfl,BZ.out,fun _=>E1.out (by omega),fun _=>N.out,by omega,by omega⟩,by decide⟩
 ·have KT:=yH (pAA wr #[.int .i64 7,.func (.func 229) #[] #[]] 282);have bt:=(Below.refl wr.heap.size wr).alloc yL (.cells #[.int .i64 7,.func (.func 229) #[] #[]] 282);have CC:=yH (chk3_any (HH.out.below bt) a b c n ao k cap got);have BX:=yT BJ bt;have BY:=yT BT bt;clear bt
  by_cases hx:has a=false∨has b=false
  ·have E:Hid (aB5 e0 has a b c n got=7):=yH (by
    unfold aB5;rw[if_neg (e1 (by omega)),if_neg (by simpa using e2 (by omega)),if_pos hx])
   rw[show(!has a || !has b)=true by rcases hx with h|h <;> simp[h]]at CC;clear e1 e2 e3 e4 hx;go_wp2_with fail;refine CC.out.mono ?_;rintro e w2 ⟨rfl,b2⟩;have t0:=(KT.out.below b2 KT.out.lt).cell 0;have tl:=(KT.out.below b2 KT.out.lt).lt;simp at t0;have BZ:=yT BY b2;clear b2 CC c0 c1 c2 c3 c4 c5 c6 c7 d0 d1 d2 d3 d4 d5 d6;go_wp2_with fail;go_ret;exact⟨by rw[E.out];rfl,BZ.out⟩
  rw[show(!has a || !has b)=false by simp at hx;simp[hx]]at CC;have N:Hid (has a=true∧has b=true):=yH (by simpa using hx);have E1:=yH e1;have E2:=yH e2;have E3:=yH e3;clear e1 e2 e3 e4 hx;go_wp2_with fail;refine CC.out.mono ?_;rintro e w2 ⟨rfl,b2⟩;have BZ:=yT BX b2;clear b2 CC c0 c1 c2 c3 c4 c5 c6 c7 d0 d1 d2 d3 d4 d5 d6;go_wp2_with fail;exact⟨⟨3,by omega,by omega,rfl,BZ.out,fun _=>E1.out (by omega),fun _=>E2.out (by omega),fun _=>N.out,by omega⟩,by decide⟩
 ·have KT:=yH (pAA wr #[.int .i64 11,.func (.func 230) #[] #[]] 282);have bt:=(Below.refl wr.heap.size wr).alloc yL (.cells #[.int .i64 11,.func (.func 230) #[] #[]] 282);have CC:=yH (chk4_any (wr.alloc (.cells #[.int .i64 11,.func (.func 230) #[] #[]] 282)) lp a b c n ao k cap got);have BX:=yT BJ bt;have BY:=yT BT bt;clear bt
  by_cases hx:got<n
  ·have E:Hid (aB5 e0 has a b c n got=11):=yH (by
    unfold aB5;rw[if_neg (e1 (by omega)),if_neg (by simpa using e2 (by omega)),if_neg (by simp[e3 (by omega)]),if_pos hx])
   rw[show decide (got<n)=true by simpa using hx]at CC;clear e1 e2 e3 e4 hx;go_wp2_with fail;refine CC.out.mono ?_;rintro e w2 ⟨rfl,b2⟩;have t0:=(KT.out.below b2 KT.out.lt).cell 0;have tl:=(KT.out.below b2 KT.out.lt).lt;simp at t0;have BZ:=yT BY b2;clear b2 CC c0 c1 c2 c3 c4 c5 c6 c7 d0 d1 d2 d3 d4 d5 d6;go_wp2_with fail;go_ret;exact⟨by rw[E.out];rfl,BZ.out⟩
  rw[show decide (got<n)=false by simpa using hx]at CC;have N:Hid (¬got<n):=yH (by exact hx);have E1:=yH e1;have E2:=yH e2;have E3:=yH e3;clear e1 e2 e3 e4 hx;go_wp2_with fail;refine CC.out.mono ?_;rintro e w2 ⟨rfl,b2⟩;have BZ:=yT BX b2;clear b2 CC c0 c1 c2 c3 c4 c5 c6 c7 d0 d1 d2 d3 d4 d5 d6;go_wp2_with fail;exact⟨⟨4,by omega,by omega,rfl,BZ.out,fun _=>E1.out (by omega),fun _=>E2.out (by omega),fun _=>E3.out (by omega),fun _=>by have:=N.out;omega⟩,by decide⟩
 have E:Hid (aB5 e0 has a b c n got=0):=yH (by
  unfold aB5;rw[if_neg (e1 (by omega)),if_neg (by simpa using e2 (by omega)),if_neg (by simp[e3 (by omega)]),if_neg (e4 (by omega))])
 clear e1 e2 e3 e4 d0 d1 d2 d3 d4 d5 d6 c0 c1 c2 c3 c4 c5 c6 c7;go_wp2_with fail;go_ret;exact⟨by rw[E.out];rfl,BT.out⟩
theorem aI2(HM:aCs){w:World}{G M:Nat}{ps:List Int}{ls:List Ln}{a b c:Int}{μ:RS}(h:LedM w G M ps ls)(hI:LInv ps ls)(ha:In8 a)(hb:In8 b)(hc:In8 c)(hμ:aAc (aBg ps ls c) 4398046511104 a b aA7 μ):
  Calls Tryz.prog 133 #[.pointer (some ⟨G,0,none⟩),.int .u8 a,.int .u8 b,.int .u8 c] w (yR w (.int .i64 (aA7 - μ.left))):=by
 have C1:=yH (gof_led h hI hc);have HI:=yH (aAm hI c);have HR:=yH hμ;clear h hI hμ;go_enter Tryz.func133,Tryz.ntmps133;go_wp2_with fail;refine C1.out.mono ?_;rintro e w1 ⟨rfl,hk,hb1⟩;have C2:=yH (HM.at_ (IsM.of hk) HI.out ha hb HR.out);have B1:=yH hb1;obtain⟨m,hm⟩:∃m,aA7 - μ.left=m:=⟨_,rfl⟩;rw[hm]at C2;have HE:=yH hm;clear hk hb1 hm;go_wp2_with fail;refine C2.out.mono ?_;rintro e w2 ⟨rfl,hb2⟩;have B2:=yT B1 hb2;clear hb2;go_wp2_with fail;go_ret;exact⟨by rw[HE.out];rfl,B2.out⟩
def PayAt(w:World)(G M:Nat)(ps:List Int)(ls:List Ln)(c:Int)(l:List Fw)(W:World)(i:Value)(wr:World):Prop:=
 ∃k:Nat,k≤l.length∧i=.int .i64 k∧LedM wr G M ps (aBr ps c ls (l.take k))∧Keep (·=M) W wr
theorem aJv(HR:aEg){w:World}{G M:Nat}{ps:List Int}{ls:List Ln}{a b c n:Int}{σ:RS}(h:LedM w G M ps ls)(hI:LInv ps ls)(ha:In8 a)(hb:In8 b)(hc:In8 c)(hn:In64 n)(hσ:aAc (aBg ps ls c) 4398046511104 a b n σ):
  Calls Tryz.prog 140 #[.pointer (some ⟨G,0,none⟩),.int .u8 a,.int .u8 b,.int .u8 c,.int .i64 n] w fun e w'=>e=.returned (.tuple #[.int .i64 (payN ps a b c n σ),.int .i64 (payE ps a b c n σ)])∧LedM w' G M ps (payL ps ls a b c n σ)∧Keep (·=M) w w':=by
 have bw:=(Below.refl w.heap.size w).alloc yL (.cells #[.pointer (some ⟨G,0,none⟩),.int .u8 a,.int .u8 b,.int .u8 c,.int .i64 n,.slice none 0 0,.int .i64 0] 244);have L1:=yH (h.below bw);have KX:=yH (pAA w #[.pointer (some ⟨G,0,none⟩),.int .u8 a,.int .u8 b,.int .u8 c,.int .i64 n,.slice none 0 0,.int .i64 0] 244);have B0:=yH bw;have hGl:=h.blk.lt;have hMl:=h.map.lt;have II:=yH hI;have HA:=yH ha;have HB:=yH hb;have HC:=yH hc;have HN:=yH hn;have HS:=yH hσ;have hsl:=hσ.len;clear bw h hI ha hb hc hn hσ;go_enter Tryz.func140,Tryz.ntmps140;go_wp2_with fail;generalize w.alloc (.cells #[.pointer (some ⟨G,0,none⟩),.int .u8 a,.int .u8 b,.int .u8 c,.int .i64 n,.slice none 0 0,.int .i64 0] 244)=W at *;have hwW:=B0.out.size;have hXl:=KX.out.lt;refine(gof_led L1.out II.out HC.out).mono ?_;rintro e w1 ⟨rfl,hk,hb1⟩;have CR:=yH (HR.at_ (IsM.of hk) (aAm II.out c) HA.out HB.out HN.out HS.out);have L2:=yH (L1.out.below hb1);have K2:=yB KX hb1;have B2:=yH (B0.out.trans (hb1.mono hwW));have hWw1:=hb1.size;obtain⟨got,hgot⟩:∃got,n - σ.left=got:=⟨_,rfl⟩;rw[hgot]at CR;have HG:=yH hgot;clear hk hb1 L1 KX B0 hgot;go_wp2_with fail;refine CR.out.mono ?_;rintro e w3 ⟨v',rfl,hr,hb3⟩;obtain⟨ao,cap,rfl,hcap,hmx,_,hrow⟩:=hr.look (by decide);have L3:=yH (L2.out.below hb3);have K3:=yB K2 hb3;have B3:=yT B2 hb3;have R3:=yH hr;have d5:=K3.out.cell 5;have d6:=K3.out.cell 6;have f5:=K3.out.frozen 5;have f6:=K3.out.frozen 6;have l3:=K3.out.lt;have b2s:=B2.out.size;simp at d5 d6;clear hb3 hr L2 K2 B2 CR hrow
 go_upto_region 3 with fail
 have K4:=(K3.out.set 5 (.slice ao σ.out.length cap)).set 6 (.int .i64 got);have E4:=yH ((Keep.refl (·=w.heap.size) w3).setCell (p:=⟨w.heap.size,5,none⟩) (.inl rfl) (.slice ao σ.out.length cap) |>.setCell (p:=⟨w.heap.size,6,none⟩) (.inl rfl) (.int .i64 got));have B4:=yH ((B3.out.setCell (p:=⟨w.heap.size,5,none⟩) yL (.slice ao σ.out.length cap)).setCell (p:=⟨w.heap.size,6,none⟩) yL (.int .i64 got));have L4:=yH (L3.out.keep E4.out (by show ¬G=w.heap.size;omega) (by show ¬M=w.heap.size;omega));have R4:=yH (R3.out.keep E4.out (fun bb hbb=>by have:=(R3.out.type hbb).1;show ¬bb=w.heap.size;omega));have KX4:=yH (show Blk _ w.heap.size #[.pointer (some ⟨G,0,none⟩),.int .u8 a,.int .u8 b,.int .u8 c,.int .i64 n,.slice ao σ.out.length cap,.int .i64 got] 244 from by simpa using K4);clear K3 B3 L3 R3 E4 d5 d6 f5 f6 l3 K4;generalize (w3.setCell ⟨w.heap.size,5,none⟩ (.slice ao σ.out.length cap)).setCell ⟨w.heap.size,6,none⟩ (.int .i64 got)=W4 at *;have d0:=KX4.out.cell 0;have d1:=KX4.out.cell 1;have d2:=KX4.out.cell 2;have d3:=KX4.out.cell 3;have d4:=KX4.out.cell 4;have d5:=KX4.out.cell 5;have d6:=KX4.out.cell 6;have hl4:=KX4.out.lt;simp at d0 d1 d2 d3 d4 d5 d6;have CW:=yH (wrong_any (aDx L4.out II.out) a b c n ao σ.out.length cap got);obtain⟨er,her⟩:∃er,aB5 1 (fun p=>decide (p∈ps)) a b c n got=er:=⟨_,rfl⟩;rw[her]at CW;have EE:Hid (payE ps a b c n σ=er):=yH (by unfold payE;rw[HG.out];exact her);clear her
 by_cases h0:er=0
 ·subst h0;have PN:Hid (payN ps a b c n σ=(σ.out.length:Int)∧payL ps ls a b c n σ=aBr ps c ls σ.out):=yH (by unfold payN payL;rw[if_pos EE.out,if_pos EE.out];exact⟨rfl,rfl⟩);go_wp2_with fail;refine CW.out.mono ?_;rintro e w5 ⟨rfl,hb5⟩;have L5:=yH (L4.out.below hb5);have B5:=yT B4 hb5;have R5:=yH (R4.out.below hb5);have KX5:=yH (KX4.out.below hb5 hl4);clear hb5 L4 B4 R4 CW d0 d1 d2 d3 d4 d5 d6 KX4 hl4;have d5:=KX5.out.cell 5;have hl5:=KX5.out.lt;simp at d5;obtain⟨L,hL⟩:∃L,σ.out=L:=⟨_,rfl⟩;have EL:=yH (HS.out.els);have hGM:G≠M:=fun e=>L5.out.ne e.symm
  rw[hL]at R5 PN EL hsl hcap d5 KX5 ⊢;have hb1w:w.heap.size<w1.heap.size:=by omega
  go_wp2_with fail
  go_loopw [42] (PayAt w G M ps ls c L w5) (fun i _=>L.length - (intOf i).toNat)
  case atStart=>exact⟨0,by omega,rfl,L5.out,Keep.refl _ _⟩
  obtain⟨k,hk,rfl,hLL,hKK⟩:=hrel;have LL:=yH hLL;have KK:=yH hKK;have RR:=yH (R5.out.keep hKK (fun bb hbb=>by have:=(R5.out.type hbb).1;show ¬bb=M;omega));have KZ:=yH (KX5.out.keep hKK (by show ¬w.heap.size=M;omega));clear hLL hKK
  by_cases hkl:k<L.length
  ·have hki:(k:Int)<(L.length:Int):=by omega
   have hk0:(0:Int)≤(k:Int):=by omega
   have q0:decide ((k:Int)<(L.length:Int))=true:=by simpa using hkl
   obtain⟨ao1,ca1,hv,_,_,_,hlk⟩:=RR.out.look (by decide);simp only[Value.slice.injEq]at hv;obtain⟨h1,_,h2⟩:=hv;subst h1;subst h2;obtain⟨bl,rfl,hblb,hbl,hc,_⟩:=hlk (by omega);clear hlk;have e0:=(hc (k*3+0) (by omega)).trans (aDs L k 0 (by omega) hkl);have e1:=(hc (k*3+1) (by omega)).trans (aDs L k 1 (by omega) hkl);have e2:=(hc (k*3+2) (by omega)).trans (aDs L k 2 (by omega) hkl);rw[Nat.add_zero]at e0;clear hc;have NX:=yH (aKy (ps:=ps) (c:=c) (ls:=ls) hkl);have el:=EL.out L[k] (List.getElem_mem _);have IK:=yH (aDw (ps:=ps) (c:=c) (L.take k) II.out);generalize aBr ps c ls (L.take k)=lk at *;obtain⟨x,hx⟩:∃x,L[k]=x:=⟨_,rfl⟩;rw[hx]at NX el e0 e1 e2;clear hx;obtain⟨fr,tt,am⟩:=x;obtain⟨⟨a1,a2⟩,⟨b1,b2⟩,_,n1,n2⟩:=el;dsimp only at a1 a2 b1 b2 n1 n2 NX;simp[Fw.vals]at e0 e1 e2;have bt:=(Below.refl wr.heap.size wr).alloc yL (.cells #[.int .u8 fr,.int .u8 tt,.int .i64 am] 220);have CP:=yH (ppush_any (LL.out.below bt) IK.out (a:=fr) (b:=tt) (c:=c) (n:=am) ⟨by omega,by omega⟩ ⟨by omega,by omega⟩ HC.out ⟨by omega,by omega⟩);have KT:=yH (KK.out.trans (pAE (S:=(·=M)) bt));have HK:=yH hkl;clear bt a1 a2 b1 b2 n1 n2;go_wp2_with fail;refine CP.out.mono ?_;rintro e w6 ⟨rfl,hL6,k6⟩;have L6:=yH hL6;have K6:=yH (KT.out.trans k6);clear hL6 k6 CP e0 e1 e2;go_wp2_with fail;exact⟨⟨k+1,by have:=HK.out;omega,by go_num,by rw[NX.out];exact L6.out,K6.out⟩,by simp[intOf];have:=HK.out;omega⟩
  have hkn:k=L.length:=by omega
  subst hkn;have q0:decide (((L.length:Nat):Int)<(L.length:Int))=false:=by simp
  rw[List.take_length]at LL;have d5:=KZ.out.cell 5;have hl5:=KZ.out.lt;simp at d5;have BE:=yH ((pAE (S:=(·=M)) B5.out).trans KK.out);go_wp2_with fail;refine bodyPost_ret (v:=.tuple #[.int .i64 (L.length:Nat),.int .i64 0]) (by simp[results,Tryz.results140,go_sem]) rfl ?_;rw[PN.out.1,PN.out.2,EE.out];exact⟨rfl,LL.out,BE.out⟩
 have q0:(er==0)=false:=by simpa using h0
 have PN:Hid (payN ps a b c n σ=0∧payL ps ls a b c n σ=ls):=yH (by unfold payN payL;rw[if_neg (by rw[EE.out];exact h0),if_neg (by rw[EE.out];exact h0)];exact⟨rfl,rfl⟩);clear h0;go_wp2_with fail;refine CW.out.mono ?_;rintro e w5 ⟨rfl,hb5⟩;have L5:=yH (L4.out.below hb5);have B5:=yT B4 hb5;clear hb5 L4 B4 R4 CW d0 d1 d2 d3 d4 d5 d6 KX4;go_wp2_with fail;refine bodyPost_ret (v:=.tuple #[.int .i64 0,.int .i64 er]) (by simp[results,Tryz.results140,go_sem]) rfl ?_;rw[PN.out.1,PN.out.2,EE.out];exact⟨rfl,L5.out,pAE B5.out⟩
def whole(neg:Bool)(f:Nat→Bool):Array Value:=#[Value.bool neg]++arr f
attribute [irreducible] whole
end Go.Proofs.YtaeocliklpcgmaaGreat
namespace Go.Proofs.YtaeocliklpcgmaaGreat
open Go.RowKit Go.Lib
theorem aK0(x y c:Int)(hx:0≤x)(hy:0≤y)(hc0:0≤c)(hc:c≤1)(w:World):
  (callFunc 174 #[.int .u64 x,.int .u64 y,.int .u64 c]).run Tryz.prog w=
   .ok (.value (.tuple #[.int .u64 ((x+y+c)%18446744073709551616),.int .u64 ((x+y+c)/18446744073709551616)])) w:=by
 rw[run_callFunc_extern Tryz.func174 (by kernel_rfl) (by kernel_rfl) (by kernel_rfl) (e:=add64Entry) (by kernel_rfl),run_add64 x y c hx hy hc0 hc];rfl
theorem maskN(a:Nat)(ha:a<18446744073709551616):bits .and .u64 (a:Int) 4294967295=((a%4294967296:Nat):Int):=by
 have h:=bits_and_u64_nat a 4294967295 ha (by omega);have e:a &&& 4294967295=a%4294967296:=Nat.and_two_pow_sub_one_eq_mod a 32;rw[e]at h;exact h
theorem divN(a:Nat):(a:Int)/4294967296=((a/4294967296:Nat):Int):=by omega
theorem mulN(a b:Nat):(a:Int)*(b:Int)=((a*b:Nat):Int):=(Int.natCast_mul a b).symm
theorem addN(a b:Nat):(a:Int)+(b:Int)=((a+b:Nat):Int):=(Int.natCast_add a b).symm
theorem aK1(a:Nat)(ha:a<18446744073709551616):IntKind.u64.wrap (a:Int)=(a:Int):=by rw[aA4];omega
theorem wrapM(a:Nat):IntKind.u64.wrap (a:Int)=((a%18446744073709551616:Nat):Int):=by rw[aA4];omega
theorem mul64_nat(x y:Nat)(hx:x<18446744073709551616)(hy:y<18446744073709551616)(w:World):
  Calls Tryz.prog 25 #[.int .u64 x,.int .u64 y] w fun e w'=>
   e=.returned (.tuple #[.int .u64 ((x*y/18446744073709551616:Nat):Int),.int .u64 ((x*y%18446744073709551616:Nat):Int)])∧w=w':=by
 obtain⟨bd,bt,bw,hhi⟩:=Lib.mul64_hi x y hx hy;have ba:=Lib.half_mul_le (a:=x/4294967296) (b:=y/4294967296) (by omega) (by omega);have bb:=Lib.half_mul_le (a:=x/4294967296) (b:=y%4294967296) (by omega) (by omega);have bc:=Lib.half_mul_le (a:=x%4294967296) (b:=y/4294967296) (by omega) (by omega);have ba':x/4294967296*(y/4294967296)<18446744073709551616:=by omega
 have bb':x/4294967296*(y%4294967296)<18446744073709551616:=by omega
 have bc':x%4294967296*(y/4294967296)<18446744073709551616:=by omega
 have hmul:x*y/18446744073709551616<18446744073709551616:=by
  have:=Nat.mul_lt_mul'' hx hy;omega
 generalize ht:x/4294967296*(y%4294967296)+x%4294967296*(y%4294967296)/4294967296=t at *;have Ht:=yH ht;clear ht;have Hhi:=yH hhi;clear hhi;go_enter Tryz.func25,Tryz.ntmps25;go_wp2;simp only[maskN x hx,maskN y hy,divN,mulN,addN,aK1 _ bd,aK1 _ bb',Ht.out,aK1 _ bt,maskN _ bt,aK1 _ bc',aK1 _ bw,aK1 _ ba'];rw[aK1 _ (show x/4294967296*(y/4294967296)+t/4294967296<18446744073709551616 by have:=Hhi.out;omega),addN,aK1 _ (by have:=Hhi.out;omega),Hhi.out,wrapM];go_ret2;exact⟨rfl,rfl⟩
theorem aEk(x y:Int)(w:World)(hx:aCb x)(hy:aCb y):
  Calls Tryz.prog 25 #[.int .u64 x,.int .u64 y] w fun e w'=>
   e=.returned (.tuple #[.int .u64 (x*y/18446744073709551616),.int .u64 (x*y%18446744073709551616)])∧w=w':=by
 unfold aCb at hx hy;obtain⟨X,rfl⟩:=Int.eq_ofNat_of_zero_le hx.1;obtain⟨Y,rfl⟩:=Int.eq_ofNat_of_zero_le hy.1;exact mul64_nat X Y (by omega) (by omega) w
end Go.Proofs.YtaeocliklpcgmaaGreat
