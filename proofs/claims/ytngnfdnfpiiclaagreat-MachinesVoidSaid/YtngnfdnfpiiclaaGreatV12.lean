/-
  Pieces of one proof, without what is not wanted: GraphsPair, PayMath, PPay, Ref01b, Bits.
-/
import Derived.Test.YtngnfdnfpiiclaaGreatV01
import Derived.Test.YtngnfdnfpiiclaaGreatV04
import Derived.Test.YtngnfdnfpiiclaaGreatV05
import Derived.Test.YtngnfdnfpiiclaaGreatV06
import Derived.Test.YtngnfdnfpiiclaaGreatV09
import Derived.Test.YtngnfdnfpiiclaaGreatV11
import Derived.Laws.EntriesVeiled
import Derived.WalkSmall
import Derived.Deep.MidRow
import Derived.Laws.Bits64b
import Derived.Lib.Mul64
import Derived.Laws.Externs
set_option linter.unusedSimpArgs false
set_option linter.unusedVariables false
namespace Go.Proofs.YtngnfdnfpiiclaaGreat
open Go.RowKit
def roomF (ps:List Int) (ls:List Ln) (c a b:Int):Int:=roomL ps ls a b c
theorem roomF_inv {ps:List Int} {ls:List Ln} (h:LInv ps ls) (c:Int):GInv (roomF ps ls c) 4398046511104:=by
 refine ⟨fun p q=>(roomL_bd h.inv.good p q c).1,fun p q=>?_,fun p q hi=>?_,fun p=>?_⟩
 ·have h1:=(roomL_bd (ps:=ps) h.inv.good p q c).2
  have h2:=(roomL_bd (ps:=ps) h.inv.good q p c).2
  unfold roomF
  omega
 ·unfold roomF roomL
  rw [if_pos]
  by_cases h1:p ∈ ps
  ·by_cases h2:q ∈ ps
   ·exact absurd ⟨h.bd p h1,h.bd q h2⟩ hi
   ·exact .inr (.inr h2)
  ·exact .inr (.inl h1)
 ·unfold roomF roomL
  rw [if_pos (.inl rfl)]
theorem gof_led {w:World} {G M:Nat} {ps:List Int} {ls:List Ln} (h:LedM w G M ps ls) (hI:LInv ps ls) {c:Int} (hc:In8 c) :
  Calls Tryz.prog 193 #[.pointer (some ⟨G,0,none⟩),.int .u8 c] w fun e w'=>e=.returned (.pointer (some ⟨w.heap.size,0,none⟩))∧Blk w' w.heap.size (graC (roomF ps ls c) true) 327∧Below w.heap.size w w' :=
 gof_any fun w' k p q hp hq=>room_any (h.below k) hI hp hq hc
end Go.Proofs.YtngnfdnfpiiclaaGreat
namespace Go.Proofs.YtngnfdnfpiiclaaGreat
theorem room_other {ps:List Int} {ls:List Ln} (h:Inv ls) {a b c n:Int} (h1:1≤n) (hr:n≤roomL ps ls a b c) {p q d:Int}
  (k1:¬ (a=p∧b=q∧c=d)) (k2:¬ (a=q∧b=p∧c=d)):roomL ps (pushTo ls a b c n) p q d=roomL ps ls p q d:=by
 have hz:¬ (a=b∨a ∉ ps∨b ∉ ps):=by
  intro hz
  unfold roomL at hr
  rw [if_pos hz] at hr
  omega
 have hr2:=hr
 unfold roomL at hr2
 rw [if_neg hz] at hr2
 obtain ⟨_,_,h3,_⟩:=push_done h (fun e=>hz (.inl e)) h1 hr2
 have e1:lnAt (pushTo ls a b c n) p q d=lnAt ls p q d:=by
  unfold lnAt
  rw [h3 p q d,if_neg k1,if_neg (fun e=>k2 ⟨e.2.1,e.1,e.2.2⟩)]
 have e2:lnAt (pushTo ls a b c n) q p d=lnAt ls q p d:=by
  unfold lnAt
  rw [h3 q p d,if_neg k2,if_neg (fun e=>k1 ⟨e.2.1,e.1,e.2.2⟩)]
 unfold roomL
 rw [e1,e2]
theorem room_push {ps:List Int} {ls:List Ln} (h:LInv ps ls) (a b c n:Int):roomF ps (pushL ps ls a b c n) c=gPushF (roomF ps ls c) a b n:=by
 funext p q
 unfold gPushF
 by_cases hc:1≤n∧n≤roomF ps ls c a b
 ·rw [if_pos hc]
  obtain ⟨h1,h2⟩:=hc
  have h2':n≤roomL ps ls a b c:=h2
  have he:pushE ps ls a b c n=0:=by unfold pushE; rw [if_neg (by omega),if_neg (by omega)]
  have hl:pushL ps ls a b c n=pushTo ls a b c n:=by unfold pushL; rw [if_pos he]
  rw [hl]
  obtain ⟨r1,r2⟩:=push_room (ps:=ps) h.inv h1 h2'
  unfold pushF roomF
  by_cases c1:p=b∧q=a
  ·rw [if_pos c1,c1.1,c1.2]; exact r2
  ·rw [if_neg c1]
   by_cases c2:p=a∧q=b
   ·rw [if_pos c2,c2.1,c2.2]; exact r1
   ·rw [if_neg c2]
    exact room_other h.inv h1 h2' (fun e=>c2 ⟨e.1.symm,e.2.1.symm⟩) (fun e=>c1 ⟨e.2.1.symm,e.1.symm⟩)
 ·rw [if_neg hc]
  have he:pushE ps ls a b c n≠0:=by
   unfold pushE
   have hc':¬ (1≤n∧n≤roomL ps ls a b c):=hc
   split
   ·decide
   ·split
    ·decide
    ·exact absurd ⟨by omega,by omega⟩ hc'
  unfold pushL
  rw [if_neg he]
theorem room_else {ps:List Int} {ls:List Ln} (h:LInv ps ls) (a b n:Int) {c d:Int} (hd:c≠d):roomF ps (pushL ps ls a b c n) d=roomF ps ls d:=by
 funext p q
 unfold pushL
 by_cases he:pushE ps ls a b c n=0
 ·rw [if_pos he]
  have h1:1≤n∧n≤roomL ps ls a b c:=by unfold pushE at he; (repeat' split at he) <;> omega
  exact room_other h.inv h1.1 h1.2 (fun e=>hd e.2.2) (fun e=>hd e.2.2)
 ·rw [if_neg he]
end Go.Proofs.YtngnfdnfpiiclaaGreat
namespace Go.Proofs.YtngnfdnfpiiclaaGreat
def pushAll (ps:List Int) (c:Int) (ls:List Ln) (l:List Fw):List Ln:=l.foldl (fun ls x=>pushL ps ls x.fr x.tt c x.am) ls
theorem pushAll_take {ps:List Int} {c:Int} {ls:List Ln} {l:List Fw} {k:Nat} (h:k<l.length):pushAll ps c ls (l.take (k + 1))=pushL ps (pushAll ps c ls (l.take k)) l[k].fr l[k].tt c l[k].am:=by
 unfold pushAll
 rw [List.take_succ_eq_append_getElem h,List.foldl_append]
 rfl
theorem pushAll_inv {ps:List Int} {c:Int}:∀ (l:List Fw) {ls:List Ln},LInv ps ls→LInv ps (pushAll ps c ls l)
 | [],_,h=>h
 | x::l,_,h=>pushAll_inv l (h.push x.fr x.tt c x.am)
theorem pushAll_else {ps:List Int} {c d:Int} (hd:c≠d):∀ (l:List Fw) {ls:List Ln},LInv ps ls→roomF ps (pushAll ps c ls l) d=roomF ps ls d
 | [],_,_=>rfl
 | x::l,ls,h=>by
  show roomF ps (pushAll ps c (pushL ps ls x.fr x.tt c x.am) l) d=_
  rw [pushAll_else hd l (h.push _ _ _ _),room_else h _ _ _ hd]
theorem push_lims {ls:List Ln} (h:Inv ls) {a b c n:Int} (hab:a≠b) (h1:1≤n) (hr:n≤(lnAt ls a b c).db + (lnAt ls b a c).li - (lnAt ls b a c).db):limL (pushTo ls a b c n)=limL ls:=by
 obtain ⟨i,_,f,_⟩:=push_done h hab h1 hr
 have hs:∀ {m:List Ln},m.Pairwise (fun x y=>x.rank<y.rank)→(limL m).Pairwise (fun x y=>x.rank<y.rank):=fun {m} hm=>by
  unfold limL
  rw [List.pairwise_map]
  exact hm
 refine sorted_ext _ _ (hs i.sorted) (hs h.sorted) fun z=>?_
 unfold limL
 rw [List.mem_map,List.mem_map]
 constructor
 ·rintro ⟨y,hy,rfl⟩
  have hl:=(line_iff i y.cr y.de y.cu y).2 ⟨hy,rfl,rfl,rfl⟩
  rw [f] at hl
  split at hl
  ·obtain ⟨x,hx,e⟩:=Option.map_eq_some_iff.1 hl
   exact ⟨x,(lineL_mem hx).1,by rw [← e]; rfl⟩
  ·split at hl
   ·obtain ⟨x,hx,e⟩:=Option.map_eq_some_iff.1 hl
    exact ⟨x,(lineL_mem hx).1,by rw [← e]; rfl⟩
   ·exact ⟨y,(lineL_mem hl).1,rfl⟩
 ·rintro ⟨x,hx,rfl⟩
  have hl:=(line_iff h x.cr x.de x.cu x).2 ⟨hx,rfl,rfl,rfl⟩
  have hf:=f x.cr x.de x.cu
  split at hf
  ·rename_i k
   obtain ⟨k1,k2,k3⟩:=k
   rw [← k1,← k2,← k3] at hl
   rw [hl] at hf
   exact ⟨_,(lineL_mem hf).1,rfl⟩
  ·split at hf
   ·rename_i k
    obtain ⟨k1,k2,k3⟩:=k
    rw [← k1,← k2,← k3] at hl
    rw [hl] at hf
    exact ⟨_,(lineL_mem hf).1,rfl⟩
   ·rw [hl] at hf
    exact ⟨x,(lineL_mem hf).1,rfl⟩
theorem room_goes {ps:List Int} {ls:List Ln} {a b c n:Int} (h1:1≤n) (hr:n≤roomL ps ls a b c):pushL ps ls a b c n=pushTo ls a b c n∧a≠b∧n≤(lnAt ls a b c).db + (lnAt ls b a c).li - (lnAt ls b a c).db:=by
 have hz:¬ (a=b∨a ∉ ps∨b ∉ ps):=by
  intro hz
  unfold roomL at hr
  rw [if_pos hz] at hr
  omega
 have hr2:=hr
 unfold roomL at hr2
 rw [if_neg hz] at hr2
 have he:pushE ps ls a b c n=0:=by unfold pushE; rw [if_neg (by omega),if_neg (by omega)]
 exact ⟨by unfold pushL; rw [if_pos he],fun e=>hz (.inl e),hr2⟩
theorem pushAll_lims {ps:List Int} {c:Int}:∀ (l:List Fw) {ls:List Ln},LInv ps ls→limL (pushAll ps c ls l)=limL ls
 | [],_,_=>rfl
 | x::l,ls,h=>by
  show limL (pushAll ps c (pushL ps ls x.fr x.tt c x.am) l)=_
  rw [pushAll_lims l (h.push _ _ _ _)]
  by_cases he:pushE ps ls x.fr x.tt c x.am=0
  ·have h1:1≤x.am∧x.am≤roomL ps ls x.fr x.tt c:=by unfold pushE at he; (repeat' split at he) <;> omega
   obtain ⟨e,k1,k2⟩:=room_goes h1.1 h1.2
   rw [e]
   exact push_lims h.inv k1 h1.1 k2
  ·unfold pushL
   rw [if_neg he]
theorem posOf_else {x:Ln} {p c:Int} (h:x.cu≠c):posOf p c x=0:=by unfold posOf; rw [if_neg h]
theorem push_pos_else {ls:List Ln} (h:Inv ls) {a b c n:Int} (hab:a≠b) (h1:1≤n) (hr:n≤(lnAt ls a b c).db + (lnAt ls b a c).li - (lnAt ls b a c).db) (p:Int) {d:Int} (hd:c≠d):posL (pushTo ls a b c n) p d=posL ls p d:=by
 obtain ⟨_,_,_,hs⟩:=push_done h hab h1 hr
 unfold posL
 rw [hs (posOf p d) (posOf_noLn p d)]
 have key:∀ a b m,posOf p d ((lnAt ls a b c).owe m)=posOf p d (lnAt ls a b c):=by
  intro a b m
  cases hl:lineL ls a b c with
  | none=>rw [lnAt_none hl]; unfold posOf noLn Ln.owe; simp
  | some x =>
   have hc:=(lineL_mem hl).2.2.2
   rw [lnAt_some hl,posOf_else (x:=x) (by omega),posOf_else (x:=x.owe m) (by show x.cu≠d; omega)]
 rw [key,key]
 omega
theorem pushAll_pos {ps:List Int} {c:Int} (p:Int):∀ (l:List Fw) {ls:List Ln},LInv ps ls→goodL (roomF ps ls c) l→∀ d,posL (pushAll ps c ls l) p d=posL ls p d + (if d=c then netL l p else 0)
 | [],ls,_,_,d=>by show posL ls p d=posL ls p d + (if d=c then 0 else 0); split <;> omega
 | x::l,ls,h,⟨h1,h2,h3⟩,d=>by
  have e:roomF ps (pushL ps ls x.fr x.tt c x.am) c=pushF (roomF ps ls c) x.fr x.tt x.am:=by
   rw [room_push h]
   unfold gPushF
   rw [if_pos ⟨h1,h2⟩]
  show posL (pushAll ps c (pushL ps ls x.fr x.tt c x.am) l) p d=_
  rw [pushAll_pos p l (h.push _ _ _ _) (by rw [e]; exact h3) d]
  obtain ⟨k,k1,k2⟩:=room_goes (ps:=ps) (ls:=ls) h1 h2
  rw [k]
  by_cases hd:d=c
  ·subst hd
   rw [if_pos rfl,if_pos rfl,push_pos (ps:=ps) h.inv h1 h2 p]
   show _=_ + ((if x.tt=p then x.am else 0) - (if x.fr=p then x.am else 0) + netL l p)
   have e1:(if p=x.fr then x.am else 0)=(if x.fr=p then x.am else 0):=by simp only [eq_comm]
   have e2:(if p=x.tt then x.am else 0)=(if x.tt=p then x.am else 0):=by simp only [eq_comm]
   rw [e1,e2]
   omega
  ·rw [if_neg hd,if_neg hd,push_pos_else h.inv k1 h1 k2 p (fun e=>hd e.symm)]
theorem IsRoute.good {f0:Int→Int→Int} {B s t want:Int} {σ:RS} (h:IsRoute f0 B s t want σ):goodL f0 σ.out∧foldF f0 σ.out=σ.f:=by
 obtain ⟨k,h,_⟩:=h
 exact ⟨h.good,h.fold⟩
theorem IsRoute.net {f0:Int→Int→Int} {B s t want:Int} {σ:RS} (h:IsRoute f0 B s t want σ) (p:Int):netL σ.out p=(if t=p then want - σ.left else 0) - (if s=p then want - σ.left else 0):=by
 obtain ⟨k,h,_⟩:=h
 exact h.net p
theorem IsRoute.els {f0:Int→Int→Int} {B s t want:Int} {σ:RS} (h:IsRoute f0 B s t want σ):∀ e ∈ σ.out,inP e.fr∧inP e.tt∧e.fr≠e.tt∧1≤e.am∧e.am≤B:=by
 obtain ⟨k,h,_⟩:=h
 exact h.els
end Go.Proofs.YtngnfdnfpiiclaaGreat
namespace Go.Proofs.YtngnfdnfpiiclaaGreat
open Go.RowKit
def payMay (a b c n:Int):Prop:=inP a∧inP b∧a≠b∧1≤c∧c≤8∧1≤n∧n≤1099511627776
instance (a b c n:Int):Decidable (payMay a b c n):=by unfold payMay; infer_instance
def wrongE (e0:Int) (has:Int→Bool) (a b c n got:Int):Int:=if e0=2 then 2 else if ¬ payMay a b c n then 1 else if has a=false∨has b=false then 7 else if got<n then 11 else 0
theorem wrong_cases (has:Int→Bool) (a b c n got:Int):(wrongE 1 has a b c n got=1∧¬ payMay a b c n)∨(wrongE 1 has a b c n got=7∧payMay a b c n∧(has a=false∨has b=false))∨(wrongE 1 has a b c n got=11∧payMay a b c n∧has a=true∧has b=true∧got<n)∨(wrongE 1 has a b c n got=0∧payMay a b c n∧has a=true∧has b=true∧¬ got<n):=by
 unfold wrongE
 rw [if_neg (by decide)]
 by_cases h1:payMay a b c n
 ·rw [if_neg (by simpa using h1)]
  by_cases h2:has a=false∨has b=false
  ·rw [if_pos h2]; exact .inr (.inl ⟨rfl,h1,h2⟩)
  ·rw [if_neg h2]
   have h3:has a=true∧has b=true:=by simpa using h2
   by_cases h4:got<n
   ·rw [if_pos h4]; exact .inr (.inr (.inl ⟨rfl,h1,h3.1,h3.2,h4⟩))
   ·rw [if_neg h4]; exact .inr (.inr (.inr ⟨rfl,h1,h3.1,h3.2,h4⟩))
 ·rw [if_pos h1]; exact .inl ⟨rfl,h1⟩
def payE (ps:List Int) (a b c n:Int) (σ:RS):Int:=wrongE 1 (fun p=>decide (p ∈ ps)) a b c n (n - σ.left)
def payN (ps:List Int) (a b c n:Int) (σ:RS):Int:=if payE ps a b c n σ=0 then (σ.out.length:Int) else 0
def payL (ps:List Int) (ls:List Ln) (a b c n:Int) (σ:RS):List Ln:=if payE ps a b c n σ=0 then pushAll ps c ls σ.out else ls
theorem payL_inv {ps:List Int} {ls:List Ln} (h:LInv ps ls) (a b c n:Int) (σ:RS):LInv ps (payL ps ls a b c n σ):=by
 unfold payL
 split
 ·exact pushAll_inv _ h
 ·exact h
theorem ymay_any (p:Int) (w:World):Calls Tryz.prog 292 #[.int .u8 p] w fun e w'=>e=.returned (.bool (mayG p))∧w=w':=by
 have hs:(¬ 1≤p∧mayG p=false)∨(1≤p∧p≤16∧mayG p=true)∨(1≤p∧¬ p≤16∧mayG p=false):=by unfold mayG; simp; omega
 rcases hs with ⟨h1,h2⟩ | ⟨h1,h3,h2⟩ | ⟨h1,h3,h2⟩
 all_goals
  rw [h2]
  clear h2
  go_enter Tryz.func292,Tryz.ntmps292
  go_wp2
  go_ret
  exact ⟨rfl,rfl⟩
set_option maxHeartbeats 4000000 in
set_option maxRecDepth 100000 in
theorem pmay9_any (lp:Option Addr) (a b c n:Int) (ao:Option Addr) (k cap:Nat) (got:Int) (w:World) :
  Calls Tryz.prog 264 #[.agg #[.pointer lp,.int .u8 a,.int .u8 b,.int .u8 c,.int .i64 n,.slice ao k cap,.int .i64 got]] w fun e w'=>e=.returned (.bool (decide (payMay a b c n)))∧Below w.heap.size w w':=by
 have B:=Lib.hid ((Below.refl w.heap.size w).alloc (Nat.le_refl _) (.cells #[.pointer lp,.int .u8 a,.int .u8 b,.int .u8 c,.int .i64 n,.slice ao k cap,.int .i64 got] 283))
 have C1:=Lib.hid (ymay_any a)
 have C2:=Lib.hid (ymay_any b)
 obtain ⟨r,hr⟩:∃ r,decide (payMay a b c n)=r:=⟨_,rfl⟩
 rw [hr]
 have hs:(mayG a=false∧r=false)∨(mayG a=true∧mayG b=false∧r=false)∨(mayG a=true∧mayG b=true∧(a==b)=true∧r=false) ∨
   (mayG a=true∧mayG b=true∧(a==b)=false∧¬ 1≤c∧r=false)∨(mayG a=true∧mayG b=true∧(a==b)=false∧1≤c∧¬ c≤8∧r=false) ∨
   (mayG a=true∧mayG b=true∧(a==b)=false∧1≤c∧c≤8∧¬ 1≤n∧r=false) ∨
   (mayG a=true∧mayG b=true∧(a==b)=false∧1≤c∧c≤8∧1≤n∧decide (n≤1099511627776)=false∧r=false)∨(mayG a=true∧mayG b=true∧(a==b)=false∧1≤c∧c≤8∧1≤n∧n≤1099511627776∧r=true):=by
  have hf:¬ payMay a b c n→r=false:=fun h=>by rw [← hr]; exact decide_eq_false h
  unfold payMay at hf hr
  by_cases h1:inP a
  ·by_cases h2:inP b
   ·by_cases h3:a=b
    ·exact .inr (.inr (.inl ⟨mayG_true h1,mayG_true h2,by simp [h3],hf (fun o=>o.2.2.1 h3)⟩))
    ·have h3':(a==b)=false:=by simp [h3]
     by_cases h4:1≤c
     ·by_cases h5:c≤8
      ·by_cases h6:1≤n
       ·by_cases h7:n≤1099511627776
        ·exact .inr (.inr (.inr (.inr (.inr (.inr (.inr ⟨mayG_true h1,mayG_true h2,h3',h4,h5,h6,h7,by rw [← hr]; exact decide_eq_true ⟨h1,h2,h3,h4,h5,h6,h7⟩⟩))))))
        ·exact .inr (.inr (.inr (.inr (.inr (.inr (.inl ⟨mayG_true h1,mayG_true h2,h3',h4,h5,h6,by simp [h7],hf (fun o=>h7 o.2.2.2.2.2.2)⟩))))))
       ·exact .inr (.inr (.inr (.inr (.inr (.inl ⟨mayG_true h1,mayG_true h2,h3',h4,h5,h6,hf (fun o=>h6 o.2.2.2.2.2.1)⟩)))))
      ·exact .inr (.inr (.inr (.inr (.inl ⟨mayG_true h1,mayG_true h2,h3',h4,h5,hf (fun o=>h5 o.2.2.2.2.1)⟩))))
     ·exact .inr (.inr (.inr (.inl ⟨mayG_true h1,mayG_true h2,h3',h4,hf (fun o=>h4 o.2.2.2.1)⟩)))
   ·exact .inr (.inl ⟨mayG_true h1,mayG_false h2,hf (fun o=>h2 o.2.1)⟩)
  ·exact .inl ⟨mayG_false h1,hf (fun o=>h1 o.1)⟩
 clear hr
 have hneq:(a != b)=!(a==b):=rfl
 rcases hs with ⟨h1,h2⟩ | ⟨h1,h3,h2⟩ | ⟨h1,h3,h4,h2⟩ | ⟨h1,h3,h4,h5,h2⟩ | ⟨h1,h3,h4,h5,h6,h2⟩ | ⟨h1,h3,h4,h5,h6,h7,h2⟩ | ⟨h1,h3,h4,h5,h6,h7,h8,h2⟩ | ⟨h1,h3,h4,h5,h6,h7,h8,h2⟩
 ·rw [h1] at C1
  rw [h2]
  clear h1 h2
  go_enter Tryz.func264,Tryz.ntmps264
  go_wp2_with fail
  refine (C1.out _).mono ?_
  rintro e w1 ⟨rfl,rfl⟩
  go_wp2_with fail
  go_ret
  exact ⟨rfl,B.out⟩
 all_goals
  rw [h1] at C1
  rw [h3] at C2
  rw [h2]
  clear h1 h3 h2
  go_enter Tryz.func264,Tryz.ntmps264
  go_wp2_with fail
  refine (C1.out _).mono ?_
  rintro e w1 ⟨rfl,rfl⟩
  go_wp2_with fail
  refine (C2.out _).mono ?_
  rintro e w1 ⟨rfl,rfl⟩
  go_wp2_with fail
  go_ret
  exact ⟨rfl,B.out⟩
theorem popen0_any {w:World} {g m:Nat} {ps:List Int} {ls:List Ln} (h:LedM w g m ps ls) :
  Calls Tryz.prog 151 #[.pointer (some ⟨g,0,none⟩),.int .u8 0] w fun e w'=>e=.returned (.int .i64 1)∧w=w':=by
 have C1:=Lib.hid (made_any h.blk)
 have C2:=Lib.hid (partyMay_any 0 w)
 rw [show mayP 0=false by rfl] at C2
 clear h
 go_enter Tryz.func151,Tryz.ntmps151
 go_wp2_with fail
 refine C1.out.mono ?_
 rintro e w ⟨rfl,rfl⟩
 go_wp2_with fail
 refine C2.out.mono ?_
 rintro e w ⟨rfl,rfl⟩
 go_wp2_with fail
 go_ret
 exact ⟨rfl,rfl⟩
abbrev payV (lp:Option Addr) (a b c n:Int) (ao:Option Addr) (k cap:Nat) (got:Int):Value:=.agg #[.pointer lp,.int .u8 a,.int .u8 b,.int .u8 c,.int .i64 n,.slice ao k cap,.int .i64 got]
structure Answers (w:World) (lp:Option Addr) (e0:Int) (has:Int→Bool):Prop where
 open0:∀ w',Below w.heap.size w w'→Calls Tryz.prog 151 #[.pointer lp,.int .u8 0] w' fun e w''=>e=.returned (.int .i64 e0)∧w'=w''
 has:∀ w',Below w.heap.size w w'→∀ p,Calls Tryz.prog 67 #[.pointer lp,.int .u8 p] w' fun e w''=>e=.returned (.bool (has p))∧w'=w''
theorem Answers.below {w w':World} {lp:Option Addr} {e0:Int} {has:Int→Bool} (h:Answers w lp e0 has) (k:Below w.heap.size w w'):Answers w' lp e0 has:=⟨fun w2 q=>h.open0 w2 (andB k q),fun w2 q=>h.has w2 (andB k q)⟩
theorem answers_led {w:World} {g m:Nat} {ps:List Int} {ls:List Ln} (h:LedM w g m ps ls) (hI:LInv ps ls):Answers w (some ⟨g,0,none⟩) 1 (fun p=>decide (p ∈ ps)) :=
 ⟨fun w' k=>popen0_any (h.below k),fun w' k p=>has_any (h.below k).blk hI.bd p⟩
set_option maxHeartbeats 4000000 in
theorem chk1_any {w:World} {lp:Option Addr} {e0:Int} {has:Int→Bool} (h:Answers w lp e0 has) (a b c n:Int) (ao:Option Addr) (k cap:Nat) (got:Int) :
  Calls Tryz.prog 262 #[payV lp a b c n ao k cap got] w fun e w'=>e=.returned (.bool (e0==2))∧Below w.heap.size w w':=by
 unfold payV
 have bw:=(Below.refl w.heap.size w).alloc (Nat.le_refl _) (.cells #[.pointer lp,.int .u8 a,.int .u8 b,.int .u8 c,.int .i64 n,.slice ao k cap,.int .i64 got] 283)
 have C:=Lib.hid (h.open0 _ bw)
 have B:=Lib.hid bw
 clear bw h
 go_enter Tryz.func262,Tryz.ntmps262
 go_wp2_with fail
 refine C.out.mono ?_
 rintro e w1 ⟨rfl,rfl⟩
 go_wp2_with fail
 go_ret
 exact ⟨rfl,B.out⟩
set_option maxHeartbeats 4000000 in
theorem chk2_any (w:World) (lp:Option Addr) (a b c n:Int) (ao:Option Addr) (k cap:Nat) (got:Int) :
  Calls Tryz.prog 263 #[payV lp a b c n ao k cap got] w fun e w'=>e=.returned (.bool (!decide (payMay a b c n)))∧Below w.heap.size w w':=by
 unfold payV
 have bw:=(Below.refl w.heap.size w).alloc (Nat.le_refl _) (.cells #[.pointer lp,.int .u8 a,.int .u8 b,.int .u8 c,.int .i64 n,.slice ao k cap,.int .i64 got] 283)
 have B:=Lib.hid bw
 have C:=Lib.hid (pmay9_any lp a b c n ao k cap got)
 clear bw
 generalize decide (payMay a b c n)=r at *
 go_enter Tryz.func263,Tryz.ntmps263
 go_wp2_with fail
 refine (C.out _).mono ?_
 rintro e w1 ⟨rfl,b1⟩
 have B1:=Lib.hid (B.out.trans (b1.mono B.out.size))
 clear b1
 go_wp2_with fail
 go_ret
 exact ⟨rfl,B1.out⟩
set_option maxHeartbeats 4000000 in
theorem chk3_any {w:World} {lp:Option Addr} {e0:Int} {has:Int→Bool} (h:Answers w lp e0 has) (a b c n:Int) (ao:Option Addr) (k cap:Nat) (got:Int) :
  Calls Tryz.prog 265 #[payV lp a b c n ao k cap got] w fun e w'=>e=.returned (.bool (!has a || !has b))∧Below w.heap.size w w':=by
 unfold payV
 have bw:=(Below.refl w.heap.size w).alloc (Nat.le_refl _) (.cells #[.pointer lp,.int .u8 a,.int .u8 b,.int .u8 c,.int .i64 n,.slice ao k cap,.int .i64 got] 283)
 have C1:=Lib.hid (h.has _ bw a)
 have C2:=Lib.hid (h.has _ bw b)
 have B:=Lib.hid bw
 clear bw h
 generalize has a=x at *
 generalize has b=y at *
 cases x
 ·go_enter Tryz.func265,Tryz.ntmps265
  go_wp2_with fail
  refine C1.out.mono ?_
  rintro e w1 ⟨rfl,rfl⟩
  go_wp2_with fail
  go_ret
  exact ⟨rfl,B.out⟩
 ·go_enter Tryz.func265,Tryz.ntmps265
  go_wp2_with fail
  refine C1.out.mono ?_
  rintro e w1 ⟨rfl,rfl⟩
  go_wp2_with fail
  refine C2.out.mono ?_
  rintro e w1 ⟨rfl,rfl⟩
  go_wp2_with fail
  go_ret
  exact ⟨rfl,B.out⟩
set_option maxHeartbeats 4000000 in
theorem chk4_any (w:World) (lp:Option Addr) (a b c n:Int) (ao:Option Addr) (k cap:Nat) (got:Int) :
  Calls Tryz.prog 266 #[payV lp a b c n ao k cap got] w fun e w'=>e=.returned (.bool (decide (got<n)))∧Below w.heap.size w w':=by
 unfold payV
 have B:=Lib.hid ((Below.refl w.heap.size w).alloc (Nat.le_refl _) (.cells #[.pointer lp,.int .u8 a,.int .u8 b,.int .u8 c,.int .i64 n,.slice ao k cap,.int .i64 got] 283))
 go_enter Tryz.func266,Tryz.ntmps266
 go_wp2_with fail
 go_ret
 exact ⟨rfl,B.out⟩
abbrev checksC:Array Value:=#[.int .i64 2,.func (.func 262) #[] #[],.int .i64 1,.func (.func 263) #[] #[],.int .i64 7,.func (.func 265) #[] #[],.int .i64 11,.func (.func 266) #[] #[]]
theorem checks_any (w:World):Calls Tryz.prog 230 #[] w fun e w'=>e=.returned (.slice (some ⟨w.heap.size,0,none⟩) 4 4)∧Blk w' w.heap.size checksC 332∧Below w.heap.size w w':=by
 have B:=Lib.hid ((Below.refl w.heap.size w).alloc (Nat.le_refl _) (.cells checksC 332))
 have K:=Lib.hid (Blk.new w checksC 332)
 go_enter Tryz.func230,Tryz.ntmps230
 go_wp2_with fail
 go_ret
 exact ⟨rfl,K.out,B.out⟩
def WrongAt (e0:Int) (has:Int→Bool) (a b c n got:Int) (W:World) (i:Value) (wr:World):Prop :=
 ∃ j:Int,0≤j∧j≤4∧i=.int .i64 j∧Below W.heap.size W wr∧(1≤j→e0≠2)∧(2≤j→payMay a b c n)∧(3≤j→has a=true∧has b=true)∧(4≤j→¬ got<n)
set_option maxHeartbeats 8000000 in
set_option maxRecDepth 100000 in
theorem wrong_any {w:World} {lp:Option Addr} {e0:Int} {has:Int→Bool} (h:Answers w lp e0 has) (a b c n:Int) (ao:Option Addr) (k cap:Nat) (got:Int) :
  Calls Tryz.prog 194 #[payV lp a b c n ao k cap got] w fun e w'=>e=.returned (.int .i64 (wrongE e0 has a b c n got))∧Below w.heap.size w w':=by
 have bw:=(Below.refl w.heap.size w).alloc (Nat.le_refl _) (.cells #[.pointer lp,.int .u8 a,.int .u8 b,.int .u8 c,.int .i64 n,.slice ao k cap,.int .i64 got] 283)
 have H:=Lib.hid (h.below bw)
 have KX:=Lib.hid (Blk.new w #[.pointer lp,.int .u8 a,.int .u8 b,.int .u8 c,.int .i64 n,.slice ao k cap,.int .i64 got] 283)
 have B:=Lib.hid bw
 clear bw h
 unfold payV
 go_enter Tryz.func194,Tryz.ntmps194
 go_wp2_with fail
 generalize w.alloc (.cells #[.pointer lp,.int .u8 a,.int .u8 b,.int .u8 c,.int .i64 n,.slice ao k cap,.int .i64 got] 283)=W at *
 refine (checks_any W).mono ?_
 rintro e w1 ⟨rfl,hk,hb⟩
 have K1:=Lib.hid hk
 have B1:=Lib.hid hb
 have hWs:=hk.lt
 have hws:=KX.out.lt
 clear hk hb
 go_wp2_with fail
 go_loopw [7] (WrongAt e0 has a b c n got w1) (fun i _=>4 - (intOf i).toNat)
 case atStart=>exact ⟨0,by omega,by omega,rfl,Below.refl _ _,by omega,by omega,by omega,by omega⟩
 case round =>
  obtain ⟨j,j0,j4,rfl,hB,e1,e2,e3,e4⟩:=hrel
  have KC:=K1.out.below hB hWs
  have KP:=(KX.out.below B1.out hws).below hB (Nat.lt_of_lt_of_le hws B1.out.size)
  have HH:=Lib.hid ((H.out.below B1.out).below hB)
  have d0:=KP.cell 0; have d1:=KP.cell 1; have d2:=KP.cell 2; have d3:=KP.cell 3; have d4:=KP.cell 4; have d5:=KP.cell 5; have d6:=KP.cell 6
  have hlp:=KP.lt
  have hlc:=KC.lt
  simp at d0 d1 d2 d3 d4 d5 d6
  have BJ:=Lib.hid hB
  have BT:=Lib.hid (B.out.trans ((B1.out.trans (hB.mono B1.out.size)).mono B.out.size))
  have c0:=KC.cell 0; have c1:=KC.cell 1; have c2:=KC.cell 2; have c3:=KC.cell 3; have c4:=KC.cell 4; have c5:=KC.cell 5; have c6:=KC.cell 6; have c7:=KC.cell 7
  simp at c0 c1 c2 c3 c4 c5 c6 c7
  clear hB KC KP
  have hcase:j=0∨j=1∨j=2∨j=3∨j=4:=by omega
  rcases hcase with rfl | rfl | rfl | rfl | rfl
  ·have KT:=Lib.hid (Blk.new wr #[.int .i64 2,.func (.func 262) #[] #[]] 332)
   have bt:=(Below.refl wr.heap.size wr).alloc (Nat.le_refl _) (.cells #[.int .i64 2,.func (.func 262) #[] #[]] 332)
   have CC:=Lib.hid (chk1_any (HH.out.below bt) a b c n ao k cap got)
   have BX:=Lib.hid (BJ.out.trans (bt.mono BJ.out.size))
   have BY:=Lib.hid (BT.out.trans (bt.mono BT.out.size))
   clear bt
   by_cases hx:e0=2
   ·have E:Hid (wrongE e0 has a b c n got=2):=Lib.hid (by
     unfold wrongE
     rw [if_pos hx])
    rw [show (e0==2)=true by simpa using hx] at CC
    clear e1 e2 e3 e4 hx
    go_wp2_with fail
    refine CC.out.mono ?_
    rintro e w2 ⟨rfl,b2⟩
    have t0:=(KT.out.below b2 KT.out.lt).cell 0
    have tl:=(KT.out.below b2 KT.out.lt).lt
    simp at t0
    have BZ:=Lib.hid (BY.out.trans (b2.mono BY.out.size))
    clear b2 CC c0 c1 c2 c3 c4 c5 c6 c7 d0 d1 d2 d3 d4 d5 d6
    go_wp2_with fail
    go_ret
    exact ⟨by rw [E.out]; rfl,BZ.out⟩
   ·rw [show (e0==2)=false by simpa using hx] at CC
    have N:Hid (e0≠2):=Lib.hid (by exact hx)
    have E1:=Lib.hid e1
    have E2:=Lib.hid e2
    have E3:=Lib.hid e3
    clear e1 e2 e3 e4 hx
    go_wp2_with fail
    refine CC.out.mono ?_
    rintro e w2 ⟨rfl,b2⟩
    have BZ:=Lib.hid (BX.out.trans (b2.mono BX.out.size))
    clear b2 CC c0 c1 c2 c3 c4 c5 c6 c7 d0 d1 d2 d3 d4 d5 d6
    go_wp2_with fail
    exact ⟨⟨1,by omega,by omega,rfl,BZ.out,fun _=>N.out,by omega,by omega,by omega⟩,by decide⟩
  ·have KT:=Lib.hid (Blk.new wr #[.int .i64 1,.func (.func 263) #[] #[]] 332)
   have bt:=(Below.refl wr.heap.size wr).alloc (Nat.le_refl _) (.cells #[.int .i64 1,.func (.func 263) #[] #[]] 332)
   have CC:=Lib.hid (chk2_any (wr.alloc (.cells #[.int .i64 1,.func (.func 263) #[] #[]] 332)) lp a b c n ao k cap got)
   have BX:=Lib.hid (BJ.out.trans (bt.mono BJ.out.size))
   have BY:=Lib.hid (BT.out.trans (bt.mono BT.out.size))
   clear bt
   by_cases hx:¬ payMay a b c n
   ·have E:Hid (wrongE e0 has a b c n got=1):=Lib.hid (by
     unfold wrongE
     rw [if_neg (e1 (by omega)),if_pos hx])
    rw [show (!decide (payMay a b c n))=true by simpa using hx] at CC
    clear e1 e2 e3 e4 hx
    go_wp2_with fail
    refine CC.out.mono ?_
    rintro e w2 ⟨rfl,b2⟩
    have t0:=(KT.out.below b2 KT.out.lt).cell 0
    have tl:=(KT.out.below b2 KT.out.lt).lt
    simp at t0
    have BZ:=Lib.hid (BY.out.trans (b2.mono BY.out.size))
    clear b2 CC c0 c1 c2 c3 c4 c5 c6 c7 d0 d1 d2 d3 d4 d5 d6
    go_wp2_with fail
    go_ret
    exact ⟨by rw [E.out]; rfl,BZ.out⟩
   ·rw [show (!decide (payMay a b c n))=false by simpa using hx] at CC
    have N:Hid (payMay a b c n):=Lib.hid (by simpa using hx)
    have E1:=Lib.hid e1
    have E2:=Lib.hid e2
    have E3:=Lib.hid e3
    clear e1 e2 e3 e4 hx
    go_wp2_with fail
    refine CC.out.mono ?_
    rintro e w2 ⟨rfl,b2⟩
    have BZ:=Lib.hid (BX.out.trans (b2.mono BX.out.size))
    clear b2 CC c0 c1 c2 c3 c4 c5 c6 c7 d0 d1 d2 d3 d4 d5 d6
    go_wp2_with fail
    exact ⟨⟨2,by omega,by omega,rfl,BZ.out,fun _=>E1.out (by omega),fun _=>N.out,by omega,by omega⟩,by decide⟩
  ·have KT:=Lib.hid (Blk.new wr #[.int .i64 7,.func (.func 265) #[] #[]] 332)
   have bt:=(Below.refl wr.heap.size wr).alloc (Nat.le_refl _) (.cells #[.int .i64 7,.func (.func 265) #[] #[]] 332)
   have CC:=Lib.hid (chk3_any (HH.out.below bt) a b c n ao k cap got)
   have BX:=Lib.hid (BJ.out.trans (bt.mono BJ.out.size))
   have BY:=Lib.hid (BT.out.trans (bt.mono BT.out.size))
   clear bt
   by_cases hx:has a=false∨has b=false
   ·have E:Hid (wrongE e0 has a b c n got=7):=Lib.hid (by
     unfold wrongE
     rw [if_neg (e1 (by omega)),if_neg (by simpa using e2 (by omega)),if_pos hx])
    rw [show (!has a || !has b)=true by rcases hx with h | h <;> simp [h]] at CC
    clear e1 e2 e3 e4 hx
    go_wp2_with fail
    refine CC.out.mono ?_
    rintro e w2 ⟨rfl,b2⟩
    have t0:=(KT.out.below b2 KT.out.lt).cell 0
    have tl:=(KT.out.below b2 KT.out.lt).lt
    simp at t0
    have BZ:=Lib.hid (BY.out.trans (b2.mono BY.out.size))
    clear b2 CC c0 c1 c2 c3 c4 c5 c6 c7 d0 d1 d2 d3 d4 d5 d6
    go_wp2_with fail
    go_ret
    exact ⟨by rw [E.out]; rfl,BZ.out⟩
   ·rw [show (!has a || !has b)=false by simp at hx; simp [hx]] at CC
    have N:Hid (has a=true∧has b=true):=Lib.hid (by simpa using hx)
    have E1:=Lib.hid e1
    have E2:=Lib.hid e2
    have E3:=Lib.hid e3
    clear e1 e2 e3 e4 hx
    go_wp2_with fail
    refine CC.out.mono ?_
    rintro e w2 ⟨rfl,b2⟩
    have BZ:=Lib.hid (BX.out.trans (b2.mono BX.out.size))
    clear b2 CC c0 c1 c2 c3 c4 c5 c6 c7 d0 d1 d2 d3 d4 d5 d6
    go_wp2_with fail
    exact ⟨⟨3,by omega,by omega,rfl,BZ.out,fun _=>E1.out (by omega),fun _=>E2.out (by omega),fun _=>N.out,by omega⟩,by decide⟩
  ·have KT:=Lib.hid (Blk.new wr #[.int .i64 11,.func (.func 266) #[] #[]] 332)
   have bt:=(Below.refl wr.heap.size wr).alloc (Nat.le_refl _) (.cells #[.int .i64 11,.func (.func 266) #[] #[]] 332)
   have CC:=Lib.hid (chk4_any (wr.alloc (.cells #[.int .i64 11,.func (.func 266) #[] #[]] 332)) lp a b c n ao k cap got)
   have BX:=Lib.hid (BJ.out.trans (bt.mono BJ.out.size))
   have BY:=Lib.hid (BT.out.trans (bt.mono BT.out.size))
   clear bt
   by_cases hx:got<n
   ·have E:Hid (wrongE e0 has a b c n got=11):=Lib.hid (by
     unfold wrongE
     rw [if_neg (e1 (by omega)),if_neg (by simpa using e2 (by omega)),if_neg (by simp [e3 (by omega)]),if_pos hx])
    rw [show decide (got<n)=true by simpa using hx] at CC
    clear e1 e2 e3 e4 hx
    go_wp2_with fail
    refine CC.out.mono ?_
    rintro e w2 ⟨rfl,b2⟩
    have t0:=(KT.out.below b2 KT.out.lt).cell 0
    have tl:=(KT.out.below b2 KT.out.lt).lt
    simp at t0
    have BZ:=Lib.hid (BY.out.trans (b2.mono BY.out.size))
    clear b2 CC c0 c1 c2 c3 c4 c5 c6 c7 d0 d1 d2 d3 d4 d5 d6
    go_wp2_with fail
    go_ret
    exact ⟨by rw [E.out]; rfl,BZ.out⟩
   ·rw [show decide (got<n)=false by simpa using hx] at CC
    have N:Hid (¬ got<n):=Lib.hid (by exact hx)
    have E1:=Lib.hid e1
    have E2:=Lib.hid e2
    have E3:=Lib.hid e3
    clear e1 e2 e3 e4 hx
    go_wp2_with fail
    refine CC.out.mono ?_
    rintro e w2 ⟨rfl,b2⟩
    have BZ:=Lib.hid (BX.out.trans (b2.mono BX.out.size))
    clear b2 CC c0 c1 c2 c3 c4 c5 c6 c7 d0 d1 d2 d3 d4 d5 d6
    go_wp2_with fail
    exact ⟨⟨4,by omega,by omega,rfl,BZ.out,fun _=>E1.out (by omega),fun _=>E2.out (by omega),fun _=>E3.out (by omega),fun _=>by have:=N.out; omega⟩,by decide⟩
  ·have E:Hid (wrongE e0 has a b c n got=0):=Lib.hid (by
    unfold wrongE
    rw [if_neg (e1 (by omega)),if_neg (by simpa using e2 (by omega)),if_neg (by simp [e3 (by omega)]),if_neg (e4 (by omega))])
   clear e1 e2 e3 e4 d0 d1 d2 d3 d4 d5 d6 c0 c1 c2 c3 c4 c5 c6 c7
   go_wp2_with fail
   go_ret
   exact ⟨by rw [E.out]; rfl,BT.out⟩
def PayAt (w:World) (G M:Nat) (ps:List Int) (ls:List Ln) (c:Int) (l:List Fw) (W:World) (i:Value) (wr:World):Prop :=
 ∃ k:Nat,k≤l.length∧i=.int .i64 k∧LedM wr G M ps (pushAll ps c ls (l.take k))∧Keep (·=M) W wr
set_option maxHeartbeats 16000000 in
set_option maxRecDepth 100000 in
theorem ppay_any (HR:RouteProg) {w:World} {G M:Nat} {ps:List Int} {ls:List Ln} {a b c n:Int} {σ:RS} (h:LedM w G M ps ls) (hI:LInv ps ls) (ha:In8 a) (hb:In8 b) (hc:In8 c) (hn:In64 n) (hσ:IsRoute (roomF ps ls c) 4398046511104 a b n σ) :
  Calls Tryz.prog 153 #[.pointer (some ⟨G,0,none⟩),.int .u8 a,.int .u8 b,.int .u8 c,.int .i64 n] w fun e w'=>e=.returned (.tuple #[.int .i64 (payN ps a b c n σ),.int .i64 (payE ps a b c n σ)])∧LedM w' G M ps (payL ps ls a b c n σ)∧Keep (·=M) w w':=by
 have bw:=(Below.refl w.heap.size w).alloc (Nat.le_refl _) (.cells #[.pointer (some ⟨G,0,none⟩),.int .u8 a,.int .u8 b,.int .u8 c,.int .i64 n,.slice none 0 0,.int .i64 0] 283)
 have L1:=Lib.hid (h.below bw)
 have KX:=Lib.hid (Blk.new w #[.pointer (some ⟨G,0,none⟩),.int .u8 a,.int .u8 b,.int .u8 c,.int .i64 n,.slice none 0 0,.int .i64 0] 283)
 have B0:=Lib.hid bw
 have hGl:=h.blk.lt
 have hMl:=h.map.lt
 have II:=Lib.hid hI
 have HA:=Lib.hid ha
 have HB:=Lib.hid hb
 have HC:=Lib.hid hc
 have HN:=Lib.hid hn
 have HS:=Lib.hid hσ
 have hsl:=hσ.len
 clear bw h hI ha hb hc hn hσ
 go_enter Tryz.func153,Tryz.ntmps153
 go_wp2_with fail
 generalize w.alloc (.cells #[.pointer (some ⟨G,0,none⟩),.int .u8 a,.int .u8 b,.int .u8 c,.int .i64 n,.slice none 0 0,.int .i64 0] 283)=W at *
 have hwW:=B0.out.size
 have hXl:=KX.out.lt
 refine (gof_led L1.out II.out HC.out).mono ?_
 rintro e w1 ⟨rfl,hk,hb1⟩
 have CR:=Lib.hid (HR.at_ (IsM.of hk) (roomF_inv II.out c) HA.out HB.out HN.out HS.out)
 have L2:=Lib.hid (L1.out.below hb1)
 have K2:=Lib.hid (KX.out.below hb1 KX.out.lt)
 have B2:=Lib.hid (B0.out.trans (hb1.mono hwW))
 have hWw1:=hb1.size
 obtain ⟨got,hgot⟩:∃ got,n - σ.left=got:=⟨_,rfl⟩
 rw [hgot] at CR
 have HG:=Lib.hid hgot
 clear hk hb1 L1 KX B0 hgot
 go_wp2_with fail
 refine CR.out.mono ?_
 rintro e w3 ⟨v',rfl,hr,hb3⟩
 obtain ⟨ao,cap,rfl,hcap,hmx,_,hrow⟩:=hr.look (by decide)
 have L3:=Lib.hid (L2.out.below hb3)
 have K3:=Lib.hid (K2.out.below hb3 K2.out.lt)
 have B3:=Lib.hid (B2.out.trans (hb3.mono B2.out.size))
 have R3:=Lib.hid hr
 have d5:=K3.out.cell 5
 have d6:=K3.out.cell 6
 have f5:=K3.out.frozen 5
 have f6:=K3.out.frozen 6
 have l3:=K3.out.lt
 have b2s:=B2.out.size
 simp at d5 d6
 clear hb3 hr L2 K2 B2 CR hrow
 go_upto_region 3 with fail
 have K4:=(K3.out.set 5 (.slice ao σ.out.length cap)).set 6 (.int .i64 got)
 have E4:=Lib.hid ((Keep.refl (·=w.heap.size) w3).setCell (p:=⟨w.heap.size,5,none⟩) (.inl rfl) (.slice ao σ.out.length cap) |>.setCell (p:=⟨w.heap.size,6,none⟩) (.inl rfl) (.int .i64 got))
 have B4:=Lib.hid ((B3.out.setCell (p:=⟨w.heap.size,5,none⟩) (Nat.le_refl _) (.slice ao σ.out.length cap)).setCell (p:=⟨w.heap.size,6,none⟩) (Nat.le_refl _) (.int .i64 got))
 have L4:=Lib.hid (L3.out.keep E4.out (by show ¬ G=w.heap.size; omega) (by show ¬ M=w.heap.size; omega))
 have R4:=Lib.hid (R3.out.keep E4.out (fun bb hbb=>by have:=(R3.out.type hbb).1; show ¬ bb=w.heap.size; omega))
 have KX4:=Lib.hid (show Blk _ w.heap.size #[.pointer (some ⟨G,0,none⟩),.int .u8 a,.int .u8 b,.int .u8 c,.int .i64 n,.slice ao σ.out.length cap,.int .i64 got] 283 from by simpa using K4)
 clear K3 B3 L3 R3 E4 d5 d6 f5 f6 l3 K4
 generalize (w3.setCell ⟨w.heap.size,5,none⟩ (.slice ao σ.out.length cap)).setCell ⟨w.heap.size,6,none⟩ (.int .i64 got)=W4 at *
 have d0:=KX4.out.cell 0; have d1:=KX4.out.cell 1; have d2:=KX4.out.cell 2; have d3:=KX4.out.cell 3; have d4:=KX4.out.cell 4; have d5:=KX4.out.cell 5; have d6:=KX4.out.cell 6
 have hl4:=KX4.out.lt
 simp at d0 d1 d2 d3 d4 d5 d6
 have CW:=Lib.hid (wrong_any (answers_led L4.out II.out) a b c n ao σ.out.length cap got)
 obtain ⟨er,her⟩:∃ er,wrongE 1 (fun p=>decide (p ∈ ps)) a b c n got=er:=⟨_,rfl⟩
 rw [her] at CW
 have EE:Hid (payE ps a b c n σ=er):=Lib.hid (by unfold payE; rw [HG.out]; exact her)
 clear her
 by_cases h0:er=0
 ·subst h0
  have PN:Hid (payN ps a b c n σ=(σ.out.length:Int)∧payL ps ls a b c n σ=pushAll ps c ls σ.out):=Lib.hid (by unfold payN payL; rw [if_pos EE.out,if_pos EE.out]; exact ⟨rfl,rfl⟩)
  go_wp2_with fail
  refine CW.out.mono ?_
  rintro e w5 ⟨rfl,hb5⟩
  have L5:=Lib.hid (L4.out.below hb5)
  have B5:=Lib.hid (B4.out.trans (hb5.mono B4.out.size))
  have R5:=Lib.hid (R4.out.below hb5)
  have KX5:=Lib.hid (KX4.out.below hb5 hl4)
  clear hb5 L4 B4 R4 CW d0 d1 d2 d3 d4 d5 d6 KX4 hl4
  have d5:=KX5.out.cell 5
  have hl5:=KX5.out.lt
  simp at d5
  obtain ⟨L,hL⟩:∃ L,σ.out=L:=⟨_,rfl⟩
  have EL:=Lib.hid (HS.out.els)
  have hGM:G≠M:=fun e=>L5.out.ne e.symm
  rw [hL] at R5 PN EL hsl hcap d5 KX5 ⊢
  have hb1w:w.heap.size<w1.heap.size:=by omega
  go_wp2_with fail
  go_loopw [42] (PayAt w G M ps ls c L w5) (fun i _=>L.length - (intOf i).toNat)
  case atStart=>exact ⟨0,by omega,rfl,L5.out,Keep.refl _ _⟩
  case round =>
   obtain ⟨k,hk,rfl,hLL,hKK⟩:=hrel
   have LL:=Lib.hid hLL
   have KK:=Lib.hid hKK
   have RR:=Lib.hid (R5.out.keep hKK (fun bb hbb=>by have:=(R5.out.type hbb).1; show ¬ bb=M; omega))
   have KZ:=Lib.hid (KX5.out.keep hKK (by show ¬ w.heap.size=M; omega))
   clear hLL hKK
   by_cases hkl:k<L.length
   ·have hki:(k:Int)<(L.length:Int):=by omega
    have hk0:(0:Int)≤(k:Int):=by omega
    have q0:decide ((k:Int)<(L.length:Int))=true:=by simpa using hkl
    obtain ⟨ao1,ca1,hv,_,_,_,hlk⟩:=RR.out.look (by decide)
    simp only [Value.slice.injEq] at hv
    obtain ⟨h1,_,h2⟩:=hv
    subst h1
    subst h2
    obtain ⟨bl,rfl,hblb,hbl,hc,_⟩:=hlk (by omega)
    clear hlk
    have e0:=(hc (k * 3 + 0) (by omega)).trans (fwCells_get L k 0 (by omega) hkl)
    have e1:=(hc (k * 3 + 1) (by omega)).trans (fwCells_get L k 1 (by omega) hkl)
    have e2:=(hc (k * 3 + 2) (by omega)).trans (fwCells_get L k 2 (by omega) hkl)
    rw [Nat.add_zero] at e0
    clear hc
    have NX:=Lib.hid (pushAll_take (ps:=ps) (c:=c) (ls:=ls) hkl)
    have el:=EL.out L[k] (List.getElem_mem _)
    have IK:=Lib.hid (pushAll_inv (ps:=ps) (c:=c) (L.take k) II.out)
    generalize pushAll ps c ls (L.take k)=lk at *
    obtain ⟨x,hx⟩:∃ x,L[k]=x:=⟨_,rfl⟩
    rw [hx] at NX el e0 e1 e2
    clear hx
    obtain ⟨fr,tt,am⟩:=x
    obtain ⟨⟨a1,a2⟩,⟨b1,b2⟩,_,n1,n2⟩:=el
    dsimp only at a1 a2 b1 b2 n1 n2 NX
    simp [Fw.vals] at e0 e1 e2
    have bt:=(Below.refl wr.heap.size wr).alloc (Nat.le_refl _) (.cells #[.int .u8 fr,.int .u8 tt,.int .i64 am] 209)
    have CP:=Lib.hid (ppush_any (LL.out.below bt) IK.out (a:=fr) (b:=tt) (c:=c) (n:=am) ⟨by omega,by omega⟩ ⟨by omega,by omega⟩ HC.out ⟨by omega,by omega⟩)
    have KT:=Lib.hid (KK.out.trans (Keep.of_below (S:=(·=M)) bt))
    have HK:=Lib.hid hkl
    clear bt a1 a2 b1 b2 n1 n2
    go_wp2_with fail
    refine CP.out.mono ?_
    rintro e w6 ⟨rfl,hL6,k6⟩
    have L6:=Lib.hid hL6
    have K6:=Lib.hid (KT.out.trans k6)
    clear hL6 k6 CP e0 e1 e2
    go_wp2_with fail
    exact ⟨⟨k + 1,by have:=HK.out; omega,by go_num,by rw [NX.out]; exact L6.out,K6.out⟩,by simp [intOf]; have:=HK.out; omega⟩
   ·have hkn:k=L.length:=by omega
    subst hkn
    have q0:decide (((L.length:Nat):Int)<(L.length:Int))=false:=by simp
    rw [List.take_length] at LL
    have d5:=KZ.out.cell 5
    have hl5:=KZ.out.lt
    simp at d5
    have BE:=Lib.hid ((Keep.of_below (S:=(·=M)) B5.out).trans KK.out)
    go_wp2_with fail
    refine bodyPost_ret (v:=.tuple #[.int .i64 (L.length:Nat),.int .i64 0]) (by simp [results,Tryz.results153,go_sem]) rfl ?_
    rw [PN.out.1,PN.out.2,EE.out]
    exact ⟨rfl,LL.out,BE.out⟩
 ·have q0:(er==0)=false:=by simpa using h0
  have PN:Hid (payN ps a b c n σ=0∧payL ps ls a b c n σ=ls):=Lib.hid (by unfold payN payL; rw [if_neg (by rw [EE.out]; exact h0),if_neg (by rw [EE.out]; exact h0)]; exact ⟨rfl,rfl⟩)
  clear h0
  go_wp2_with fail
  refine CW.out.mono ?_
  rintro e w5 ⟨rfl,hb5⟩
  have L5:=Lib.hid (L4.out.below hb5)
  have B5:=Lib.hid (B4.out.trans (hb5.mono B4.out.size))
  clear hb5 L4 B4 R4 CW d0 d1 d2 d3 d4 d5 d6 KX4
  go_wp2_with fail
  refine bodyPost_ret (v:=.tuple #[.int .i64 0,.int .i64 er]) (by simp [results,Tryz.results153,go_sem]) rfl ?_
  rw [PN.out.1,PN.out.2,EE.out]
  exact ⟨rfl,L5.out,Keep.of_below B5.out⟩
end Go.Proofs.YtngnfdnfpiiclaaGreat
namespace Go.Proofs.YtngnfdnfpiiclaaGreat
open Go.RowKit
def whole (neg:Bool) (f:Nat→Bool):Array Value:=#[Value.bool neg]++arr f
attribute [irreducible] whole
end Go.Proofs.YtngnfdnfpiiclaaGreat
namespace Go.Proofs.YtngnfdnfpiiclaaGreat
open Go.RowKit Go.Lib
theorem run_Add64 (x y c:Int) (hx:0≤x) (hy:0≤y) (hc0:0≤c) (hc:c≤1) (w:World) :
  (callFunc 277 #[.int .u64 x,.int .u64 y,.int .u64 c]).run Tryz.prog w =
   .ok (.value (.tuple #[.int .u64 ((x + y + c) % 18446744073709551616),.int .u64 ((x + y + c) / 18446744073709551616)])) w:=by
 rw [run_callFunc_extern Tryz.func277 (by kernel_rfl) (by kernel_rfl) (by kernel_rfl) (e:=add64Entry) (by kernel_rfl),run_add64 x y c hx hy hc0 hc]
 rfl
theorem maskN (a:Nat) (ha:a<18446744073709551616):bits .and .u64 (a:Int) 4294967295=((a % 4294967296:Nat):Int):=by
 have h:=bits_and_u64_nat a 4294967295 ha (by omega)
 have e:a &&& 4294967295=a % 4294967296:=Nat.and_two_pow_sub_one_eq_mod a 32
 rw [e] at h
 exact h
theorem divN (a:Nat):(a:Int) / 4294967296=((a / 4294967296:Nat):Int):=by omega
theorem mulN (a b:Nat):(a:Int) * (b:Int)=((a * b:Nat):Int):=(Int.natCast_mul a b).symm
theorem addN (a b:Nat):(a:Int) + (b:Int)=((a + b:Nat):Int):=(Int.natCast_add a b).symm
theorem wrapN (a:Nat) (ha:a<18446744073709551616):IntKind.u64.wrap (a:Int)=(a:Int):=by rw [wrap_u64]; omega
theorem wrapM (a:Nat):IntKind.u64.wrap (a:Int)=((a % 18446744073709551616:Nat):Int):=by rw [wrap_u64]; omega
set_option maxHeartbeats 1000000 in
theorem mul64_nat (x y:Nat) (hx:x<18446744073709551616) (hy:y<18446744073709551616) (w:World) :
  Calls Tryz.prog 321 #[.int .u64 x,.int .u64 y] w fun e w' =>
   e=.returned (.tuple #[.int .u64 ((x * y / 18446744073709551616:Nat):Int),.int .u64 ((x * y % 18446744073709551616:Nat):Int)])∧w=w':=by
 obtain ⟨bd,bt,bw,hhi⟩:=Lib.mul64_hi x y hx hy
 have ba:=Lib.half_mul_le (a:=x / 4294967296) (b:=y / 4294967296) (by omega) (by omega)
 have bb:=Lib.half_mul_le (a:=x / 4294967296) (b:=y % 4294967296) (by omega) (by omega)
 have bc:=Lib.half_mul_le (a:=x % 4294967296) (b:=y / 4294967296) (by omega) (by omega)
 have ba':x / 4294967296 * (y / 4294967296)<18446744073709551616:=by omega
 have bb':x / 4294967296 * (y % 4294967296)<18446744073709551616:=by omega
 have bc':x % 4294967296 * (y / 4294967296)<18446744073709551616:=by omega
 have hmul:x * y / 18446744073709551616<18446744073709551616:=by
  have:=Nat.mul_lt_mul'' hx hy; omega
 generalize ht:x / 4294967296 * (y % 4294967296) + x % 4294967296 * (y % 4294967296) / 4294967296=t at *
 have Ht:=Lib.hid ht; clear ht
 have Hhi:=Lib.hid hhi; clear hhi
 go_enter Tryz.func321,Tryz.ntmps321
 go_wp2
 simp only [maskN x hx,maskN y hy,divN,mulN,addN,wrapN _ bd,wrapN _ bb',Ht.out,wrapN _ bt,maskN _ bt,wrapN _ bc',wrapN _ bw,wrapN _ ba']
 rw [wrapN _ (show x / 4294967296 * (y / 4294967296) + t / 4294967296<18446744073709551616 by have:=Hhi.out; omega),addN,wrapN _ (by have:=Hhi.out; omega),Hhi.out,wrapM]
 go_ret2
 exact ⟨rfl,rfl⟩
theorem mul64_any (x y:Int) (w:World) (hx:InU64 x) (hy:InU64 y) :
  Calls Tryz.prog 321 #[.int .u64 x,.int .u64 y] w fun e w' =>
   e=.returned (.tuple #[.int .u64 (x * y / 18446744073709551616),.int .u64 (x * y % 18446744073709551616)])∧w=w':=by
 unfold InU64 at hx hy
 obtain ⟨X,rfl⟩:=Int.eq_ofNat_of_zero_le hx.1
 obtain ⟨Y,rfl⟩:=Int.eq_ofNat_of_zero_le hy.1
 exact mul64_nat X Y (by omega) (by omega) w
end Go.Proofs.YtngnfdnfpiiclaaGreat
