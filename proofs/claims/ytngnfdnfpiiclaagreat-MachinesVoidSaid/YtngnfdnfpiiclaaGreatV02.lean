/-
  Pieces of one proof, without what is not wanted: Heap, Lays, Once.
-/
import Derived.Test.YtngnfdnfpiiclaaGreatV01
import Derived.Laws.Tables
import Derived.Laws.CopyOwn
set_option linter.unusedSimpArgs false
set_option linter.unusedVariables false
namespace Go.Proofs.YtngnfdnfpiiclaaGreat
open Go.RowKit
structure Keep (S:Nat→Prop) (w w':World):Prop where
 os:w'.os=w.os
 tape:w'.tape=w.tape
 output:w'.output=w.output
 size:w.heap.size≤w'.heap.size
 block:∀ k,k<w.heap.size→¬ S k→w'.heap[k]? = w.heap[k]?
theorem Keep.refl (S:Nat→Prop) (w:World):Keep S w w:=⟨rfl,rfl,rfl,Nat.le_refl _,fun _ _ _=>rfl⟩
theorem Keep.trans {S:Nat→Prop} {a b c:World} (h:Keep S a b) (k:Keep S b c):Keep S a c :=
 ⟨k.os.trans h.os,k.tape.trans h.tape,k.output.trans h.output,Nat.le_trans h.size k.size,fun i hi hs=>(k.block i (Nat.lt_of_lt_of_le hi h.size) hs).trans (h.block i hi hs)⟩
theorem Keep.mono {S S':Nat→Prop} {w w':World} (h:Keep S w w') (hS:∀ k,k<w.heap.size→S k→S' k):Keep S' w w' :=
 ⟨h.os,h.tape,h.output,h.size,fun i hi hs=>h.block i hi fun hk=>hs (hS i hi hk)⟩
theorem Keep.of_below {S:Nat→Prop} {w w':World} (h:Below w.heap.size w w'):Keep S w w':=⟨h.os,h.tape,h.output,h.size,fun i hi _=>h.block i hi⟩
theorem Keep.below {S:Nat→Prop} {w w':World} {B:Nat} (h:Keep S w w') (hB:B≤w.heap.size) (hS:∀ k,k<B→¬ S k):Below B w w' :=
 ⟨h.os,h.tape,h.output,h.size,fun i hi=>h.block i (Nat.lt_of_lt_of_le hi hB) (hS i hi)⟩
theorem Keep.cell {S:Nat→Prop} {w w':World} (h:Keep S w w') {p:Addr} (hp:p.block<w.heap.size) (hs:¬ S p.block):w'.cell? p=w.cell? p:=World.cell?_of_block (w:=w) (h.block p.block hp hs)
theorem Keep.drew {S:Nat→Prop} {a w:World} (h:Keep S a w):Keep S a w.drew:=⟨h.os,h.tape,h.output,h.size,h.block⟩
theorem Keep.alloc {S:Nat→Prop} {a w:World} (h:Keep S a w) (o:Obj):Keep S a (w.alloc o) :=
 ⟨h.os,h.tape,h.output,by have:=h.size; simp; omega,fun k hk hs=>by rw [Below.heap_alloc _ _ _ (Nat.lt_of_lt_of_le hk h.size)]; exact h.block k hk hs⟩
theorem Keep.setCell {S:Nat→Prop} {a w:World} (h:Keep S a w) {p:Addr} (hp:S p.block∨a.heap.size≤p.block) (u:Value):Keep S a (w.setCell p u) :=
 ⟨h.os,h.tape,h.output,by simpa using h.size,fun k hk hs=>by
  rw [Below.heap_setCell _ _ _ _ (by
                   rintro rfl; rcases hp with hp | hp; · exact hs hp
                   ·omega)]
  exact h.block k hk hs⟩
theorem Keep.setCells {S:Nat→Prop} {g:Nat}:∀ (vs:List Value) {a w:World} (o:Nat),Keep S a w→(S g∨a.heap.size≤g)→Keep S a (w.setCells g o vs)
 | [],_,_,_,h,_=>h
 | v::r,_,_,o,h,hg=>by
  rw [World.setCells]
  exact Keep.setCells r (o + 1) (h.setCell hg v) hg
theorem Keep.grown {S:Nat→Prop} {a w w':World} {row:Option Nat} (h:Keep S a w) (hg:w.grownBy w' row) (hr:∀ k,row=some k→S k∨a.heap.size≤k):Keep S a w':=by
 have hb:Below 0 a a:=Below.refl 0 a
 refine ⟨hg.os.trans h.os,hg.tape.trans h.tape,hg.output.trans h.output,Nat.le_trans h.size hg.size,fun k hk hs=>?_⟩
 rw [hg.block k (Nat.lt_of_lt_of_le hk h.size) (by
                          rintro e; rcases hr k e.symm with h' | h'; · exact hs h'
                          ·omega)]
 exact h.block k hk hs
theorem Blk.keep {S:Nat→Prop} {w w':World} {g:Nat} {cs:Array Value} {t:TypeId} (h:Blk w g cs t) (k:Keep S w w') (hs:¬ S g):Blk w' g cs t:=by
 unfold Blk; rw [k.block g h.lt hs]; exact h
theorem owns_keep {S:Nat→Prop} {w w':World} {base:Nat} {e:TypeId} {size:Nat} {v:Value} {n:Nat} {xs:List Value} (h:w.ownsRow base e size v n xs) (k:Keep S w w') (hs:∀ b,v.ownBlock=some b→¬ S b):w'.ownsRow base e size v n xs:=by
 obtain ⟨h1,h2⟩:=h
 refine ⟨h1,?_⟩
 rcases h2 with h2 | ⟨g,cap,cur,rfl,hb,hg,hr⟩
 ·exact .inl h2
 ·refine .inr ⟨g,cap,cur,rfl,hb,?_,hr⟩
  rw [k.block g (lt_of_block hg) (hs g rfl)]
  exact hg
theorem owns_type {w:World} {base:Nat} {e:TypeId} {size:Nat} {v:Value} {n:Nat} {xs:List Value} (h:w.ownsRow base e size v n xs) {b:Nat} (hb:v.ownBlock=some b):base≤b∧b<w.heap.size∧∃ cur,w.heap[b]? = some (.cells cur e (0,0)):=by
 obtain ⟨_,h2⟩:=h
 rcases h2 with ⟨rfl,_⟩ | ⟨g,cap,cur,rfl,hge,hg,_⟩
 ·cases hb
 ·cases hb; exact ⟨hge,lt_of_block hg,cur,hg⟩
theorem owns_ne {w:World} {base:Nat} {e:TypeId} {size:Nat} {v:Value} {n:Nat} {xs:List Value} (h:w.ownsRow base e size v n xs) {g:Nat} {cs:Array Value} {t:TypeId} (hg:Blk w g cs t) (hne:e≠t):∀ b,v.ownBlock=some b→¬ b=g:=by
 intro b hb e'
 obtain ⟨_,_,cur,hc⟩:=owns_type h hb
 subst e'
 unfold Blk at hg
 rw [hc] at hg
 simp at hg
 exact hne hg.2
theorem owns_open {w:World} {base:Nat} {e:TypeId} {size:Nat} {v:Value} {n:Nat} {xs:List Value} (h:w.ownsRow base e size v n xs) :
  ∃ (ao:Option Addr) (cap:Nat),v=.slice ao n cap∧n≤cap∧cap≤maxLen∧xs.length=n * size∧(0<n→∃ b,ao=some ⟨b,0,none⟩∧base≤b∧b<w.heap.size∧(∀ j,j<n * size→w.cell? ⟨b,j,none⟩=xs[j]?)∧∀ j,w.frozen? ⟨b,j,none⟩=false):=by
 have h':=h
 obtain ⟨h1,h2⟩:=h
 rcases h2 with ⟨rfl,rfl⟩ | ⟨g,cap,cur,rfl,hb,hg,hc1,hc2,hc3,hc4⟩
 ·exact ⟨none,0,rfl,Nat.le_refl _,by decide,h1,fun h=>absurd h (by omega)⟩
 ·exact ⟨some ⟨g,0,none⟩,cap,rfl,hc1,hc2,h1,fun _=>⟨g,rfl,hb,lt_of_block hg,fun j hj=>h'.cellAt j hj,fun j=>h'.frozenAt j⟩⟩
theorem Blk.grown {w w':World} {g:Nat} {cs:Array Value} {t:TypeId} {row:Option Nat} (h:Blk w g cs t) (hg:w.grownBy w' row) (hne:row≠some g):Blk w' g cs t:=by
 unfold Blk; rw [hg.block g h.lt (fun e=>hne e.symm)]; exact h
theorem owns_below {w w':World} {base:Nat} {e:TypeId} {size:Nat} {v:Value} {n:Nat} {xs:List Value} (h:w.ownsRow base e size v n xs) (k:Below w.heap.size w w'):w'.ownsRow base e size v n xs :=
 owns_keep h (Keep.of_below (S:=fun _=>False) k) (fun _ _=>id)
theorem owns_base {w:World} {base base':Nat} {e:TypeId} {size:Nat} {v:Value} {n:Nat} {xs:List Value} (h:w.ownsRow base e size v n xs) (hb:base'≤base):w.ownsRow base' e size v n xs:=by
 obtain ⟨h1,h2⟩:=h
 refine ⟨h1,?_⟩
 rcases h2 with h2 | ⟨g,cap,cur,rfl,hge,hr⟩
 ·exact .inl h2
 ·exact .inr ⟨g,cap,cur,rfl,by omega,hr⟩
theorem flat_get {α:Type} (f:α→List Value) (n:Nat) (hf:∀ x,(f x).length=n):∀ (l:List α) (i j:Nat),j<n→(l.flatMap f)[i * n + j]? = (l[i]?).bind fun x=>(f x)[j]?
 | [],i,j,_=>by simp
 | x::r,0,j,hj=>by simp [List.getElem?_append,hf,hj]
 | x::r,i + 1,j,hj=>by
  rw [List.flatMap_cons,List.getElem?_append_right (by rw [hf,Nat.add_mul]; omega),hf,show (i + 1) * n + j - n=i * n + j by rw [Nat.add_mul]; omega]
  rw [flat_get f n hf r i j hj]
  simp
theorem flat_len {α:Type} (f:α→List Value) (n:Nat) (hf:∀ x,(f x).length=n) (l:List α):(l.flatMap f).length=l.length * n:=by
 induction l with
 | nil=>simp
 | cons x r ih=>simp [hf,ih,Nat.add_mul]; omega
end Go.Proofs.YtngnfdnfpiiclaaGreat
namespace Go.Proofs.YtngnfdnfpiiclaaGreat
open Go.RowKit
structure Ln where
 cr:Int
 de:Int
 cu:Int
 li:Int
 db:Int
deriving DecidableEq
def Ln.vals (x:Ln):List Value:=[.int .u8 x.cr,.int .u8 x.de,.int .u8 x.cu,.int .i64 x.li,.int .i64 x.db]
theorem Ln.vals_len (x:Ln):x.vals.length=5:=rfl
def lnCells (ls:List Ln):List Value:=ls.flatMap Ln.vals
def Ln.val (x:Ln):Value:=.agg #[.int .u8 x.cr,.int .u8 x.de,.int .u8 x.cu,.int .i64 x.li,.int .i64 x.db]
theorem lnCells_len (ls:List Ln):(lnCells ls).length=ls.length * 5:=flat_len _ 5 Ln.vals_len ls
theorem lnCells_get (ls:List Ln) (i j:Nat) (hj:j<5) (h:i<ls.length):(lnCells ls)[i * 5 + j]? = ls[i].vals[j]? := by
 unfold lnCells
 rw [flat_get _ 5 Ln.vals_len ls i j hj,List.getElem?_eq_getElem h]
 rfl
def Ln.rank (x:Ln):Int:=x.cu * 65536 + x.cr * 256 + x.de
def In8 (n:Int):Prop:=0≤n∧n≤255
structure Ln.Fits (x:Ln):Prop where
 cr:In8 x.cr
 de:In8 x.de
 cu:In8 x.cu
 li:In64 x.li
 db:In64 x.db
theorem fits_mk {a b c n d:Int} (h1:0≤a∧a≤255) (h2:0≤b∧b≤255) (h3:0≤c∧c≤255) (h4:0≤n∧n≤1099511627776) (h5:0≤d∧d≤1099511627776):(⟨a,b,c,n,d⟩:Ln).Fits :=
 ⟨h1,h2,h3,⟨Int.le_trans (by decide) h4.1,Int.le_trans h4.2 (by decide)⟩,⟨Int.le_trans (by decide) h5.1,Int.le_trans h5.2 (by decide)⟩⟩
def Ln.is (x:Ln) (a b c:Int):Bool:=x.cr==a && x.de==b && x.cu==c
def atL (ls:List Ln) (a b c:Int):Int:=match ls.findIdx? (fun x=>x.is a b c) with | some i=>i | none => -1
def lineL (ls:List Ln) (a b c:Int):Option Ln:=ls.find? fun x=>x.is a b c
def noLn:Ln:=⟨0,0,0,0,0⟩
def setStep (x:Ln) (s:List Ln × Bool) (y:Ln):List Ln × Bool :=
 if y.rank=x.rank then s else if s.2=false∧x.rank<y.rank then (s.1++[x,y],true) else (s.1++[y],s.2)
def setTo (ls:List Ln) (x:Ln):List Ln × Bool:=ls.foldl (setStep x) ([],x.li==0)
def setL (ls:List Ln) (x:Ln):List Ln:=if (setTo ls x).2=false then (setTo ls x).1++[x] else (setTo ls x).1
theorem at_found {ls:List Ln} {a b c:Int} {k:Nat} (h:k<ls.length) (hn:∀ x ∈ ls.take k,x.is a b c=false) (hx:ls[k].is a b c=true):atL ls a b c=k∧lineL ls a b c=some ls[k]:=by
 have e:ls=ls.take k++ls[k]::ls.drop (k + 1):=by rw [List.getElem_cons_drop,List.take_append_drop]
 have h1:ls.findIdx? (fun x=>x.is a b c)=some k:=by
  rw [List.findIdx?_eq_some_iff_getElem]
  refine ⟨h,hx,fun j hj=>?_⟩
  have:=hn ls[j] (by rw [List.mem_take_iff_getElem]; exact ⟨j,by omega,rfl⟩)
  simp [this]
 refine ⟨by unfold atL; rw [h1],?_⟩
 unfold lineL
 rw [List.find?_eq_some_iff_getElem]
 refine ⟨hx,k,h,rfl,fun j hj=>?_⟩
 have:=hn ls[j] (by rw [List.mem_take_iff_getElem]; exact ⟨j,by omega,rfl⟩)
 simp [this]
theorem at_none {ls:List Ln} {a b c:Int} (hn:∀ x ∈ ls,x.is a b c=false):atL ls a b c = -1∧lineL ls a b c=none:=by
 refine ⟨?_,?_⟩
 ·unfold atL
  rw [List.findIdx?_eq_none_iff.2 hn]
 ·unfold lineL
  rw [List.find?_eq_none]
  intro x hx
  simp [hn x hx]
theorem at_cases (ls:List Ln) (a b c:Int):(∃ (k:Nat) (h:k<ls.length),atL ls a b c=k∧lineL ls a b c=some ls[k]∧ls[k].is a b c=true)∨(atL ls a b c = -1∧lineL ls a b c=none∧∀ x ∈ ls,x.is a b c=false):=by
 by_cases h:∀ x ∈ ls,x.is a b c=false
 ·exact .inr ⟨(at_none h).1,(at_none h).2,h⟩
 ·left
  cases hf:ls.findIdx? (fun x=>x.is a b c) with
  | none =>
   exact absurd (List.findIdx?_eq_none_iff.1 hf) h
  | some k =>
   obtain ⟨hk,hx,hn⟩:=List.findIdx?_eq_some_iff_getElem.1 hf
   obtain ⟨h1,h2⟩:=at_found hk (a:=a) (b:=b) (c:=c) (by
    intro x hx
    obtain ⟨j,hj,rfl⟩:=List.mem_take_iff_getElem.1 hx
    have:=hn j (by omega)
    simpa using this) hx
   exact ⟨k,hk,h1,h2,hx⟩
def unput (b:Bool):Nat:=cond b 0 1
theorem unput_le (b:Bool):unput b≤1:=by cases b <;> simp [unput]
theorem setStep_len (x:Ln) (s:List Ln × Bool) (y:Ln):(setStep x s y).1.length + unput (setStep x s y).2≤s.1.length + unput s.2 + 1:=by
 unfold setStep
 split
 ·omega
 ·split
  ·rename_i h
   have e1:(s.1++[x,y]).length=s.1.length + 2:=by simp
   have e2:unput true=0:=rfl
   have e3:unput false=1:=rfl
   rw [h.1]
   dsimp only
   omega
  ·have e1:(s.1++[y]).length=s.1.length + 1:=by simp
   dsimp only
   omega
theorem setTo_len (ls:List Ln) (x:Ln):(setTo ls x).1.length≤ls.length + 1:=by
 have key:∀ (l:List Ln) (s:List Ln × Bool),(l.foldl (setStep x) s).1.length + unput (l.foldl (setStep x) s).2≤s.1.length + unput s.2 + l.length:=by
  intro l
  induction l with
  | nil=>intro s; exact Nat.le_refl _
  | cons y r ih =>
   intro s
   have h1:=ih (setStep x s y)
   have h2:=setStep_len x s y
   simp only [List.foldl_cons,List.length_cons]
   omega
 have:=key ls ([],x.li==0)
 unfold setTo
 simp only [List.length_nil] at this
 have h2:=unput_le (x.li==0)
 omega
theorem lnCells_append (a b:List Ln):lnCells (a++b)=lnCells a++lnCells b:=by unfold lnCells; exact List.flatMap_append
theorem lnCells_one (x:Ln):lnCells [x]=x.vals:=by simp [lnCells]
def lnAt (ls:List Ln) (a b c:Int):Ln:=(lineL ls a b c).getD noLn
structure Ln.Good (x:Ln):Prop where
 cr:1≤x.cr∧x.cr≤16
 de:1≤x.de∧x.de≤16
 cu:1≤x.cu∧x.cu≤8
 ne:x.cr≠x.de
 li:1≤x.li∧x.li≤1099511627776
 db:0≤x.db∧x.db≤x.li
theorem Ln.Good.fits {x:Ln} (h:x.Good):x.Fits:=by
 obtain ⟨h1,h2,h3,_,h5,h6⟩:=h
 exact ⟨⟨by omega,by omega⟩,⟨by omega,by omega⟩,⟨by omega,by omega⟩,⟨by omega,by omega⟩,⟨by omega,by omega⟩⟩
theorem lineL_mem {ls:List Ln} {a b c:Int} {x:Ln} (h:lineL ls a b c=some x):x ∈ ls∧x.cr=a∧x.de=b∧x.cu=c:=by
 unfold lineL at h
 refine ⟨List.mem_of_find?_eq_some h,?_⟩
 have:=List.find?_some h
 unfold Ln.is at this
 simp only [Bool.and_eq_true,beq_iff_eq] at this
 exact ⟨this.1.1,this.1.2,this.2⟩
theorem lnAt_bd {ls:List Ln} (hg:∀ y ∈ ls,y.Good) (a b c:Int):0≤(lnAt ls a b c).db∧(lnAt ls a b c).db≤(lnAt ls a b c).li∧(lnAt ls a b c).li≤1099511627776:=by
 unfold lnAt
 cases h:lineL ls a b c with
 | none=>simp [noLn]
 | some x=>have:=hg x (lineL_mem h).1; have h5:=this.li; have h6:=this.db; simp; omega
def roomL (ps:List Int) (ls:List Ln) (a b c:Int):Int:=if a=b∨a ∉ ps∨b ∉ ps then 0 else (lnAt ls a b c).db + (lnAt ls b a c).li - (lnAt ls b a c).db
theorem roomL_bd {ps:List Int} {ls:List Ln} (hg:∀ y ∈ ls,y.Good) (a b c:Int):0≤roomL ps ls a b c∧roomL ps ls a b c≤2199023255552:=by
 unfold roomL
 have h1:=lnAt_bd hg a b c
 have h2:=lnAt_bd hg b a c
 split <;> omega
def trustE (ps:List Int) (ls:List Ln) (a b c n:Int):Int :=
 if a<1∨16<a∨b<1∨16<b∨c<1∨8<c∨a=b∨n<0∨1099511627776<n then 1
 else if a ∉ ps∨b ∉ ps then 7
 else if n<(lnAt ls a b c).db then 14
 else if lineL ls a b c=none∧0<n∧64≤ls.length then 9 else 0
def trustL (ps:List Int) (ls:List Ln) (a b c n:Int):List Ln:=if trustE ps ls a b c n=0 then setL ls ⟨a,b,c,n,(lnAt ls a b c).db⟩ else ls
def forgiveE (ls:List Ln) (a b c n:Int):Int:=if n<1 then 1 else if lineL ls a b c=none then 7 else if (lnAt ls a b c).db<n then 14 else 0
def Ln.owe (x:Ln) (d:Int):Ln:=⟨x.cr,x.de,x.cu,x.li,d⟩
def forgiveL (ls:List Ln) (a b c n:Int):List Ln:=if forgiveE ls a b c n=0 then setL ls ((lnAt ls a b c).owe ((lnAt ls a b c).db - n)) else ls
def pushE (ps:List Int) (ls:List Ln) (a b c n:Int):Int:=if n<1 then 1 else if roomL ps ls a b c<n then 11 else 0
def push1 (ls:List Ln) (a b c n:Int):List Ln:=if (lineL ls a b c).isSome=true then setL ls ((lnAt ls a b c).owe ((lnAt ls a b c).db - min n (lnAt ls a b c).db)) else ls
def push2 (ls:List Ln) (a b c n:Int):Int:=if (lineL ls a b c).isSome=true then n - min n (lnAt ls a b c).db else n
def pushTo (ls:List Ln) (a b c n:Int):List Ln :=
 if 0<push2 ls a b c n then setL (push1 ls a b c n) ((lnAt (push1 ls a b c n) b a c).owe ((lnAt (push1 ls a b c n) b a c).db + push2 ls a b c n)) else push1 ls a b c n
def pushL (ps:List Int) (ls:List Ln) (a b c n:Int):List Ln:=if pushE ps ls a b c n=0 then pushTo ls a b c n else ls
theorem setL_len (ls:List Ln) (x:Ln):(setL ls x).length≤ls.length + 1:=by
 have key:∀ (l:List Ln) (s:List Ln × Bool),(l.foldl (setStep x) s).1.length + unput (l.foldl (setStep x) s).2≤s.1.length + unput s.2 + l.length:=by
  intro l
  induction l with
  | nil=>intro s; exact Nat.le_refl _
  | cons y r ih =>
   intro s
   have h1:=ih (setStep x s y)
   have h2:=setStep_len x s y
   simp only [List.foldl_cons,List.length_cons]
   omega
 have h1:=key ls ([],x.li==0)
 have h2:=unput_le (x.li==0)
 simp only [List.length_nil] at h1
 unfold setL setTo
 split
 ·rename_i h; rw [h,show unput false=1 from rfl] at h1; simp; omega
 ·omega
def posOf (p c:Int) (x:Ln):Int:=if x.cu=c then (if x.cr=p then x.db else 0) - (if x.de=p then x.db else 0) else 0
def posL (ls:List Ln) (p c:Int):Int:=(ls.map (posOf p c)).sum
def totOf (c:Int) (x:Ln):Int:=if x.cu=c then x.db else 0
def totL (ls:List Ln) (c:Int):Int:=(ls.map (totOf c)).sum
theorem sum_le {α:Type} (f:α→Int) (m:Int):∀ (l:List α),(∀ x ∈ l,-m≤f x∧f x≤m) → -m * (l.length:Int)≤(l.map f).sum∧(l.map f).sum≤m * (l.length:Int)
 | [],_=>by simp
 | x::r,h=>by
  have h1:=h x (by simp)
  have h2:=sum_le f m r (fun y hy=>h y (by simp [hy]))
  simp only [List.map_cons,List.sum_cons,List.length_cons]
  rw [show ((r.length + 1:Nat):Int)=(r.length:Int) + 1 by omega,Int.mul_add,Int.mul_add]
  omega
theorem posOf_bd {x:Ln} (h:x.Good) (p c:Int):-1099511627776≤posOf p c x∧posOf p c x≤1099511627776:=by
 have h5:=h.li; have h6:=h.db
 unfold posOf
 (repeat' split) <;> omega
theorem totOf_bd {x:Ln} (h:x.Good) (c:Int):-1099511627776≤totOf c x∧totOf c x≤1099511627776:=by
 have h5:=h.li; have h6:=h.db
 unfold totOf
 split <;> omega
end Go.Proofs.YtngnfdnfpiiclaaGreat
namespace Go.Proofs.YtngnfdnfpiiclaaGreat
open Go.RowKit
structure Spec where
 p:Nat
 q:Nat
 zero:Obj
 full:Obj
def upd (g:Nat→Nat) (p a:Nat):Nat→Nat:=fun i=>if i=p then a else g i
theorem upd_same (g:Nat→Nat) (p a:Nat):upd g p a p=a:=by simp [upd]
theorem upd_other (g:Nat→Nat) {p i:Nat} (a:Nat) (h:i≠p):upd g p a i=g i:=by simp [upd,h]
def SpecOk (W w:World) (g:Nat→Nat) (D:Nat→Bool) (s:Spec):Prop :=
 D s.p=true→W.heap.size≤g s.p∧w.heap[g s.p]? = some (if D s.q then s.full else s.zero)
def specsApart (bs:List Spec):Bool:=bs.all fun s=>bs.all fun s'=>s.p==s'.p || (s.p != s'.q && s.q != s'.p && s.q != s'.q)
structure Lays (W:World) (bs:List Spec) (g:Nat→Nat) (D:Nat→Bool) (w:World):Prop where
 below:Below W.heap.size W w
 ok:∀ s ∈ bs,SpecOk W w g D s
 apart:∀ s ∈ bs,∀ s' ∈ bs,D s.p=true→D s'.p=true→s.p≠s'.p→g s.p≠g s'.p
theorem Lays.start (W:World) (bs:List Spec) (g:Nat→Nat):Lays W bs g (fun _=>false) W.drew :=
 ⟨(Below.refl _ _).drew,fun s _ h=>by simp at h,fun s _ s' _ h=>by simp at h⟩
theorem ins_ne {k i:Nat} (D:Nat→Bool) (h:i≠k):ins k D i=D i:=by simp [ins,h]
theorem ins_same (k:Nat) (D:Nat→Bool):ins k D k=true:=by simp [ins]
theorem Lays.step {W w w':World} {bs:List Spec} {g:Nat→Nat} {D:Nat→Bool} {k:Nat} (h:Lays W bs g D w) (hb:Below w.heap.size w w') (hk:bs.all (fun s=>s.p != k && s.q != k)=true):Lays W bs g (ins k D) w':=by
 obtain ⟨h1,h2,h3⟩:=h
 have hk':∀ s ∈ bs,s.p≠k∧s.q≠k:=fun s hs=>by
  have:=List.all_eq_true.1 hk s hs
  simpa using this
 refine ⟨h1.trans (hb.mono h1.size),fun s hs hd=>?_,fun s hs s' hs' hd hd' hne=>?_⟩
 ·rw [ins_ne D (hk' s hs).1] at hd
  obtain ⟨a,b⟩:=h2 s hs hd
  rw [ins_ne D (hk' s hs).2]
  exact ⟨a,by rw [hb.block _ (Array.getElem?_eq_some_iff.1 b).1]; exact b⟩
 ·rw [ins_ne D (hk' s hs).1] at hd
  rw [ins_ne D (hk' s' hs').1] at hd'
  exact h3 s hs s' hs' hd hd' hne
theorem Lays.lay {W w:World} {bs:List Spec} {g:Nat→Nat} {D:Nat→Bool} (h:Lays W bs g D w) (s:Spec) (hs:s ∈ bs) (ha:specsApart bs=true) (hq:s.q=s.p∨D s.q=false) (hone:bs.all (fun s'=>s'.p != s.p || s'.q==s.q)=true)
  (hsame:∀ s' ∈ bs,s'.p=s.p→s'=s) (o:Obj) (ho:o=if s.q=s.p then s.full else s.zero):Lays W bs (upd g s.p w.heap.size) (ins s.p D) (w.alloc o):=by
 obtain ⟨h1,h2,h3⟩:=h
 have hap:∀ s' ∈ bs,s'.p≠s.p→s'.q≠s.p:=fun s' hs' hne=>by
  have:=List.all_eq_true.1 (List.all_eq_true.1 ha s' hs') s hs
  simp only [Bool.or_eq_true,beq_iff_eq,Bool.and_eq_true,bne_iff_ne,ne_eq] at this
  rcases this with e | e
  ·exact absurd e hne
  ·exact e.1.2
 refine ⟨h1.alloc h1.size _,fun s' hs' hd=>?_,fun s1 hs1 s2 hs2 hd1 hd2 hne=>?_⟩
 ·by_cases he:s'.p=s.p
  ·have:=hsame s' hs' he
   subst this
   rw [upd_same]
   refine ⟨h1.size,?_⟩
   have e1:(w.alloc o).heap[w.heap.size]? = some o:=by show (w.heap.push _)[w.heap.size]? = _; simp
   rw [e1,ho]
   by_cases hqp:s'.q=s'.p
   ·rw [if_pos hqp,hqp,ins_same]; rfl
   ·rw [if_neg hqp,ins_ne D hqp]
    rcases hq with e | e
    ·exact absurd e hqp
    ·rw [e]; rfl
  ·rw [ins_ne D he] at hd
   obtain ⟨a,b⟩:=h2 s' hs' hd
   rw [upd_other g _ he,ins_ne D (hap s' hs' he)]
   exact ⟨a,by rw [Below.heap_alloc _ _ _ (Array.getElem?_eq_some_iff.1 b).1]; exact b⟩
 ·have lt:∀ s' ∈ bs,s'.p≠s.p→ins s.p D s'.p=true→g s'.p<w.heap.size:=fun s' hs' he hd=>by
   rw [ins_ne D he] at hd
   exact (Array.getElem?_eq_some_iff.1 (h2 s' hs' hd).2).1
  by_cases e1:s1.p=s.p
  ·by_cases e2:s2.p=s.p
   ·exact absurd (e1.trans e2.symm) hne
   ·have:=lt s2 hs2 e2 hd2
    rw [e1,upd_same,upd_other g _ e2]
    omega
  ·by_cases e2:s2.p=s.p
   ·have:=lt s1 hs1 e1 hd1
    rw [e2,upd_same,upd_other g _ e1]
    omega
   ·rw [upd_other g _ e1,upd_other g _ e2]
    rw [ins_ne D e1] at hd1
    rw [ins_ne D e2] at hd2
    exact h3 s1 hs1 s2 hs2 hd1 hd2 hne
theorem Lays.fill {W w w':World} {bs:List Spec} {g:Nat→Nat} {D:Nat→Bool} (h:Lays W bs g D w) (s:Spec) (hs:s ∈ bs) (ha:specsApart bs=true) (hqp:s.q≠s.p) (hsame:∀ s' ∈ bs,s'.p=s.p→s'=s) (hd:D s.p=true)
  (hk:Keep (·=g s.p) w w') (hf:w'.heap[g s.p]? = some s.full):Lays W bs g (ins s.q D) w':=by
 obtain ⟨h1,h2,h3⟩:=h
 have hg:=(h2 s hs hd).1
 have hap:∀ s' ∈ bs,s'.p≠s.p→s'.q≠s.q∧s'.p≠s.q:=fun s' hs' hne=>by
  have:=List.all_eq_true.1 (List.all_eq_true.1 ha s' hs') s hs
  simp only [Bool.or_eq_true,beq_iff_eq,Bool.and_eq_true,bne_iff_ne,ne_eq] at this
  rcases this with e | e
  ·exact absurd e hne
  ·exact ⟨e.2,e.1.1⟩
 refine ⟨⟨hk.os.trans h1.os,hk.tape.trans h1.tape,hk.output.trans h1.output,Nat.le_trans h1.size hk.size,fun i hi=>by rw [hk.block i (Nat.lt_of_lt_of_le hi h1.size) (by omega)]; exact h1.block i hi⟩,fun s' hs' hd'=>?_,fun s1 hs1 s2 hs2 hd1 hd2 hne=>?_⟩
 ·by_cases he:s'.p=s.p
  ·have:=hsame s' hs' he
   subst this
   rw [ins_same]
   exact ⟨hg,hf⟩
  ·rw [ins_ne D (hap s' hs' he).2] at hd'
   obtain ⟨a,b⟩:=h2 s' hs' hd'
   rw [ins_ne D (hap s' hs' he).1]
   exact ⟨a,by rw [hk.block _ (Array.getElem?_eq_some_iff.1 b).1 (h3 s' hs' s hs hd' hd he)]; exact b⟩
 ·have pn:∀ s' ∈ bs,s'.p≠s.q:=fun s' hs'=>by
   by_cases he:s'.p=s.p
   ·rw [he]; exact fun e=>hqp e.symm
   ·exact (hap s' hs' he).2
  rw [ins_ne D (pn s1 hs1)] at hd1
  rw [ins_ne D (pn s2 hs2)] at hd2
  exact h3 s1 hs1 s2 hs2 hd1 hd2 hne
theorem Lays.full {W w:World} {bs:List Spec} {g:Nat→Nat} {D:Nat→Bool} (h:Lays W bs g D w) (s:Spec) (hs:s ∈ bs) (hp:D s.p=true) (hq:D s.q=true):W.heap.size≤g s.p∧w.heap[g s.p]? = some s.full:=by
 obtain ⟨a,b⟩:=h.ok s hs hp
 rw [hq] at b
 exact ⟨a,b⟩
theorem Lays.zeroed {W w:World} {bs:List Spec} {g:Nat→Nat} {D:Nat→Bool} (h:Lays W bs g D w) (s:Spec) (hs:s ∈ bs) (hp:D s.p=true) (hq:D s.q=false):W.heap.size≤g s.p∧w.heap[g s.p]? = some s.zero:=by
 obtain ⟨a,b⟩:=h.ok s hs hp
 rw [hq] at b
 exact ⟨a,b⟩
def waitsFor (ops:Array Oper):Nat→Nat→Nat→Bool
 | 0,_,_=>false
 | d + 1,i,j=>match ops[i]? with
  | some o=>o.after.any fun e=>Region.binds .any e && (e.on==j || waitsFor ops d e.on j)
  | none=>false
theorem waits_not {ops:Array Oper} {D:Nat→Bool} (hC:Closed ops D) {j:Nat} (hj:D j=false):∀ (d i:Nat),waitsFor ops d i j=true→D i=false
 | 0,i,h=>by simp [waitsFor] at h
 | d + 1,i,h=>by
  unfold waitsFor at h
  split at h
  ·rename_i o ho
   obtain ⟨e,he,hb⟩:=Array.any_eq_true'.1 h
   simp only [Bool.and_eq_true,Bool.or_eq_true,beq_iff_eq] at hb
   by_cases hi:D i=true
   ·exfalso
    have hw:=hC i o ho hi e he hb.1
    rcases hb.2 with h2 | h2
    ·rw [h2,hj] at hw; cases hw
    ·rw [waits_not hC hj d e.on h2] at hw; cases hw
   ·simpa using hi
  ·cases h
theorem waited_done {ops:Array Oper} {D:Nat→Bool} (hC:Closed ops D) {o:Oper} (hw:Waited D o) {d j:Nat} (h:(o.after.any fun e=>Region.binds .any e && (e.on==j || waitsFor ops d e.on j))=true):D j=true:=by
 obtain ⟨e,he,hb⟩:=Array.any_eq_true'.1 h
 simp only [Bool.and_eq_true,Bool.or_eq_true,beq_iff_eq] at hb
 have h1:=hw e he hb.1
 rcases hb.2 with h2 | h2
 ·rw [← h2]; exact h1
 ·by_cases hj:D j=true
  ·exact hj
  ·rw [waits_not hC (by simpa using hj) d e.on h2] at h1; cases h1
theorem vals_upd {n:Nat} (ops:Array Oper) (vals:(Nat→Nat)→List Value) (g:Nat→Nat) (p a d:Nat) {D:Nat→Bool} (hC:Closed ops D) (hp:D p=false)
  (h:∀ j,j<n→(j=p∨waitsFor ops d j p=true)∨(vals g).getD j undef=(vals (upd g p a)).getD j undef):∀ j,j<n→D j=true→(vals g).getD j undef=(vals (upd g p a)).getD j undef:=by
 intro j hj hD
 rcases h j hj with (rfl | h) | h
 ·rw [hp] at hD; cases hD
 ·rw [waits_not hC hp d j h] at hD; cases hD
 ·exact h
theorem below_keepRow {w:World} (g:Nat) (cs:Array Value):Keep (·=g) w (w.setRow g cs) :=
 ⟨rfl,rfl,rfl,by simp [World.setRow],fun k _ hk=>setRow_other w g k cs (fun e=>hk e)⟩
section
variable {P:Program} {ops:Array Oper} {Q:Exit→Act→World→Prop} {a:Act}
theorem region_end {id:Nat} {w:World} (hm:P.follows .mixedOrders=true) (n d:Nat) (vals:List Value) (S:World→Prop) (hok:regionOk ops=true) (hsz:ops.size=n + 1)
  (hlast:(List.range n).all (fun j=>waitsFor ops d n j)=true) (h0:S w.drew)
  (h:∀ af,puts (fun i=>vals.getD i undef) 0 ops.toList a=af→EachTo P ops af S (ops.toList.take n)∧∀ w',S w'→OpTo P ops af (ops.toList.getD n default) w' (fun w''=>Q .normal af w'')) :
  (Code.region id ops true).wp P Q a w:=by
 obtain ⟨h1,h2⟩:=h _ rfl
 refine wp_region_any hm ?_
 have haf':frOf ops (fun i=>vals.getD i undef) (fun _=>true) a=puts (fun i=>vals.getD i undef) 0 ops.toList a:=frOf_puts hok
 have hfr:=frOf_none ops (fun i=>vals.getD i undef) a
 have hz:(fun i=>(Array.replicate ops.size false).getD i false)=fun _=>false:=by
  funext i; simp [Array.getD_eq_getD_getElem?,Array.getElem?_replicate]; split <;> rfl
 have key:=region_any (P:=P) (Q:=Q) (val:=fun i=>vals.getD i undef) (a:=a) (I:=fun D w'=>if D n=true then Q .normal (puts (fun i=>vals.getD i undef) 0 ops.toList a) w' else S w') hm hok
  (fun i o ho D w' hDi hw hc hI=>by
   rw [haf']
   have hi:i<ops.size:=by
    rcases Nat.lt_or_ge i ops.size with h' | h'
    ·exact h'
    ·simp [Array.getElem?_eq_none h'] at ho
   by_cases hin:i=n
   ·subst hin
    rw [hDi] at hI
    simp only [ins,beq_self_eq_true,Bool.true_or,if_true]
    have h3:=h2 w' hI
    rwa [List.getD_eq_getElem?_getD,Array.getElem?_toList,ho] at h3
   ·have hDn:D n=false:=waits_not hc hDi d n (List.all_eq_true.1 hlast i (by simp; omega))
    rw [hDn] at hI
    have:(ins i D) n=false:=by simp [ins,hDn]; omega
    simp only [this]
    exact h1.at (i:=i) (by rw [List.getElem?_take]; simp [show i<n by omega,ho]) w' hI)
  (fun D w' hall hI=>by
   rw [haf']
   rwa [if_pos (hall n (by omega))] at hI)
  ops.size (Array.replicate ops.size false) w.drew (by simp) (by simp) (fun j o ho hj=>by
   simp [Array.getD_eq_getD_getElem?,Array.getElem?_replicate] at hj
   split at hj <;> simp at hj) (by
   have:(Array.replicate ops.size false).getD n false=false:=by simp [Array.getD_eq_getD_getElem?,Array.getElem?_replicate]; split <;> rfl
   show if (Array.replicate ops.size false).getD n false=true then _ else S w.drew
   rw [this]
   exact h0)
 rw [hz,hfr] at key
 exact key
end
theorem wp_mapUpdate_of {P:Program} {w w':World} {o:Oper} {a:Act} {K:Act→World→Prop} {Q:Exit→Act→World→Prop} (t:TypeId) (m x v:Operand) (ho:o.op=.mapUpdate t m x v) {mv xv vv:Value}
  (hm:a.eval m=mv) (hx:a.eval x=xv) (hv:a.eval v=vv) (hr:(Instr.mapUpdate t mv xv vv).run P w=.ok () w') (h:K (a.put o.dst undef) w'):o.wp P a w K Q:=by
 unfold Oper.wp
 simp only [execOp,ho,hm,hx,hv,Sem.run_bind,hr,Result.andThen_ok]
 exact h
theorem wp_delete_of {P:Program} {w w':World} {o:Oper} {a:Act} {K:Act→World→Prop} {Q:Exit→Act→World→Prop} (m x:Operand) (t k:TypeId) {mv xv:Value}
  (ho:o.op=.call { callee:=.builtin .delete,args:=#[m,x],argTypes:=#[t,k] }) (hm:a.eval m=mv) (hx:a.eval x=xv)
  (hr:(Builtin.delete_ #[t,k] o.type #[mv,xv]).run P w=.ok (.tuple #[]) w') (h:K (a.put o.dst (.tuple #[])) w'):o.wp P a w K Q:=by
 unfold Oper.wp execOp
 simp only [ho,resolve,invoke,builtin,Sem.run_bind,Sem.run_pure,Result.andThen_ok,List.map_toArray,List.map_cons,List.map_nil,hm,hx,hr]
 exact h
end Go.Proofs.YtngnfdnfpiiclaaGreat
namespace Go.Proofs.YtngnfdnfpiiclaaGreat
open Go.RowKit
def Once (c:Nat) (S T:World→Prop) (D:Nat→Bool) (w:World):Prop:=(D c=false→S w)∧(D c=true→T w)
theorem Once.start {c:Nat} {S T:World→Prop} {w:World} (h:S w):Once c S T (fun _=>false) w:=⟨fun _=>h,fun h=>(Bool.false_ne_true h).elim⟩
theorem Once.pre {c:Nat} {S T:World→Prop} {D:Nat→Bool} {w:World} (h:Once c S T D w) (hn:D c=false):S w:=h.1 hn
theorem Once.post {c:Nat} {S T:World→Prop} {D:Nat→Bool} {w:World} (h:Once c S T D w) (hn:D c=true):T w:=h.2 hn
theorem Once.done {c:Nat} {S T:World→Prop} {D:Nat→Bool} {w:World} (h:T w):Once c S T (ins c D) w:=by
 have e:ins c D c=true:=by simp [ins]
 exact ⟨fun d=>(by rw [e] at d; cases d),fun _=>h⟩
def needStep (ops:Array Oper) (m i:Nat):Nat:=match m.testBit i with
 | true=>match ops[i]? with
  | some o=>o.after.foldl (fun m e=>match Region.binds .any e with
   | true=>m ||| 2 ^ e.on
   | false=>m) m
  | none=>m
 | false=>m
def need (ops:Array Oper) (c:Nat):Nat:=(List.range (c + 1)).reverse.foldl (needStep ops) (2 ^ c)
theorem needStep_done {ops:Array Oper} {D:Nat→Bool} (hC:Closed ops D) {m:Nat} (i:Nat) (hm:∀ j,m.testBit j=true→D j=true):∀ j,(needStep ops m i).testBit j=true→D j=true:=by
 intro j hj
 unfold needStep at hj
 split at hj
 ·rename_i hi
  split at hj
  ·rename_i o ho
   have hw:=hC i o ho (hm i hi)
   rw [← Array.foldl_toList] at hj
   have key:∀ (l:List Edge) (m:Nat),(∀ e ∈ l,e ∈ o.after)→(∀ j,m.testBit j=true→D j=true)→∀ j,(l.foldl (fun m e=>match Region.binds .any e with | true=>m ||| 2 ^ e.on | false=>m) m).testBit j=true→D j=true:=by
    intro l
    induction l with
    | nil=>intro m _ h j hj; exact h j hj
    | cons e r ih =>
     intro m he h j hj
     rw [List.foldl_cons] at hj
     refine ih _ (fun e' h'=>he e' (List.mem_cons_of_mem _ h')) ?_ j hj
     intro j' hj'
     split at hj'
     ·rename_i hb
      rw [Nat.testBit_or,Bool.or_eq_true] at hj'
      rcases hj' with hj' | hj'
      ·exact h j' hj'
      ·rw [Nat.testBit_two_pow,decide_eq_true_eq] at hj'
       subst hj'
       exact hw e (he e List.mem_cons_self) hb
     ·exact h j' hj'
   exact key _ m (fun e he=>by simpa using he) hm j hj
  ·exact hm j hj
 ·exact hm j hj
theorem need_done {ops:Array Oper} {D:Nat→Bool} (hC:Closed ops D) {c:Nat} (hc:D c=true):∀ j,(need ops c).testBit j=true→D j=true:=by
 have key:∀ (l:List Nat) (m:Nat),(∀ j,m.testBit j=true→D j=true)→∀ j,(l.foldl (needStep ops) m).testBit j=true→D j=true:=by
  intro l
  induction l with
  | nil=>intro m h j hj; exact h j hj
  | cons i r ih=>intro m h j hj; exact ih _ (needStep_done hC i h) j hj
 refine key _ _ fun j hj=>?_
 rw [Nat.testBit_two_pow,decide_eq_true_eq] at hj
 subst hj; exact hc
theorem need_not {ops:Array Oper} {D:Nat→Bool} (hC:Closed ops D) {j:Nat} (hj:D j=false) (c:Nat) (h:(need ops c).testBit j=true):D c=false:=by
 cases hc:D c with
 | false=>rfl
 | true=>rw [need_done hC hc j h] at hj; cases hj
theorem need_waited {ops:Array Oper} {D:Nat→Bool} (hC:Closed ops D) {o:Oper} (hw:Waited D o) {c:Nat} (h:(o.after.any fun e=>Region.binds .any e && (need ops e.on).testBit c)=true):D c=true:=by
 obtain ⟨e,he,hb⟩:=Array.any_eq_true'.1 h
 simp only [Bool.and_eq_true] at hb
 exact need_done hC (hw e he hb.1) c hb.2
end Go.Proofs.YtngnfdnfpiiclaaGreat
namespace Go.Proofs.YtngnfdnfpiiclaaGreat
open Go.RowKit
def regionNo (n:Nat):Code→Option Code
 | .region i ops m=>match i==n with
  | true=>some (.region i ops m)
  | false=>none
 | .seq a b=>match regionNo n a with
  | some c=>some c
  | none=>regionNo n b
 | .cond _ a b=>match regionNo n a with
  | some c=>some c
  | none=>regionNo n b
 | .block _ c=>regionNo n c
 | .scope c=>regionNo n c
 | .loop c=>regionNo n c
 | _=>none
end Go.Proofs.YtngnfdnfpiiclaaGreat
namespace Go.Proofs.YtngnfdnfpiiclaaGreat
open Go.RowKit
section
variable {P:Program} {ops:Array Oper} {Q:Exit→Act→World→Prop} {a:Act}
theorem put_put_eq {val:Nat→Value} {D:Nat→Bool} {o:Oper} {v v':Value} (h:(frOf ops val (fun _=>true) a).put o.dst v=(frOf ops val (fun _=>true) a).put o.dst v'):(frOf ops val D a).put o.dst v=(frOf ops val D a).put o.dst v':=by
 cases hd:o.dst with
 | none=>rfl
 | some d =>
  rw [hd] at h
  simp only [Act.put] at h ⊢
  have h1:=congrArg Act.tmps h
  simp only at h1
  by_cases hs:d<a.tmps.size
  ·have h2:=congrArg (fun t=>t[d]?) h1
   simp [frOf,hs] at h2
   rw [h2]
  ·have hz:(frOf ops val D a).tmps.size≤d:=by simpa [frOf] using hs
   have e:∀ x,(frOf ops val D a).tmps.setIfInBounds d x=(frOf ops val D a).tmps:=fun x=>Array.setIfInBounds_eq_of_size_le hz
   rw [e,e]
def LeftBy (af:Act) (o:Oper) (R:Value→World→Prop) (a':Act) (w':World):Prop:=∃ v,a'=af.put o.dst v∧R v w'
def OpGets (P:Program) (ops:Array Oper) (af:Act) (o:Oper) (w:World) (R:Value→World→Prop):Prop :=
 if Region.wanted o (yielded ops af.tmps) then o.wp P af w (fun a' w'=>LeftBy af o R a' w') (fun _ _ _=>False) else R undef w
theorem OpGets.plain {af:Act} {o:Oper} {w:World} {R:Value→World→Prop} (hg:o.guard=none) (h:o.wp P af w (fun a' w'=>LeftBy af o R a' w') (fun _ _ _=>False)):OpGets P ops af o w R:=by
 unfold OpGets
 rw [if_pos (by simp [Region.wanted,hg])]
 exact h
theorem OpGets.wpOp {val:Nat→Value} {i:Nat} {o:Oper} {D:Nat→Bool} {w:World} {R:Value→World→Prop} (ho:ops[i]? = some o) (hok:opOk ops i o=true) (hwt:Waited D o)
  (h:OpGets P ops (frOf ops val (fun _=>true) a) o w R) {K:Act→World→Prop} (hK:∀ v w',R v w'→K ((frOf ops val D a).put o.dst v) w') :
  Go.wpOp P ops Q i K (frOf ops val D a) w:=by
 obtain ⟨he,hwd⟩:=frOf_exec (val:=val) (a:=a) hok hwt
 unfold OpGets at h
 unfold Go.wpOp
 simp only [ho,hwd]
 split
 ·rename_i hw
  rw [if_pos hw] at h
  refine .inl ?_
  unfold Oper.wp at h ⊢
  rw [he]
  generalize (execOp (frOf ops val (fun _=>true) a).eval o).run P w=r at h
  cases r with
  | ok n w' =>
   cases n <;> simp only [Oper.upon] at h ⊢
   case value v=>obtain ⟨v',h1,h2⟩:=h; rw [put_put_eq h1]; exact hK _ _ h2
   case skip=>obtain ⟨v',h1,h2⟩:=h; rw [put_put_eq h1]; exact hK _ _ h2
   case defer d =>
    obtain ⟨v',h1,h2⟩:=h
    have:=congrArg Act.defers h1
    exfalso
    cases hdst:o.dst <;> rw [hdst] at this <;> simp only [Act.put] at this <;> exact absurd (congrArg List.length this) (by simp)
   case enter f args =>
    refine Calls.mono h fun e w'' hh=>?_
    cases e with
    | returned v=>simp only at hh ⊢; obtain ⟨v',h1,h2⟩:=hh; rw [put_put_eq h1]; exact hK _ _ h2
    | panicked c=>exact hh.elim
    | outgrown=>obtain ⟨_,_,hh⟩:=hh; exact hh.elim
   case row row args =>
    refine Rows.mono h fun v w'' hh=>?_
    obtain ⟨v',h1,h2⟩:=hh; rw [put_put_eq h1]; exact hK _ _ h2
  | halt x w' =>
   cases x <;> simp only [Oper.upon] at h ⊢
 ·rename_i hw
  rw [if_neg hw] at h
  exact hK _ _ h
def OwesF {G:Type} (P:Program) (ops:Array Oper) (vals:G→Nat→Value) (AF:G→Act) (I:G→(Nat→Bool)→World→Prop) (k:Nat) (o:Oper) (g:G) (D:Nat→Bool) (w:World):Prop :=
 (∃ g',(∀ j,j<ops.size→D j=true→vals g j=vals g' j)∧OpTo P ops (AF g') o w (I g' (ins k D))) ∨
  OpGets P ops (AF g) o w (fun v w'=>∃ g',(∀ j,j<ops.size→D j=true→vals g j=vals g' j)∧vals g' k=v∧I g' (ins k D) w')
theorem region_anyF {G:Type} {val:G→Nat→Value} {I:G→(Nat→Bool)→World→Prop} (hok:regionOk ops=true)
  (hop:∀ (i:Nat) (o:Oper),ops[i]? = some o→∀ g D w,D i=false→Waited D o→Closed ops D→I g D w→OwesF P ops val (fun g=>frOf ops (val g) (fun _=>true) a) I i o g D w)
  (hend:∀ g D w,(∀ i,i<ops.size→D i=true)→I g D w→Q .normal (frOf ops (val g) (fun _=>true) a) w) :
  ∀ (fuel:Nat) (listed:Array Bool) (g:G) (w:World),listed.size=ops.size→fuel=(listed.toList.filter (! ·)).length→Closed ops (fun i=>listed.getD i false)→I g (fun i=>listed.getD i false) w →
   wpAny P .any ops Q fuel listed (frOf ops (val g) (fun i=>listed.getD i false) a) w:=by
 have fin:∀ (listed:Array Bool) (g:G) (w:World),listed.size=ops.size→I g (fun i=>listed.getD i false) w→Region.ready .any ops listed=[] →
   Q .normal (frOf ops (val g) (fun i=>listed.getD i false) a) w:=by
  intro listed g w hsz hI hr
  have hall:=ready_all hok hsz hr
  have hall':∀ i,i<ops.size→listed.getD i false=true:=fun i hi=>by
   have:=hall i hi
   have h4:i<listed.size:=by omega
   simpa [Array.getD_eq_getD_getElem?,Array.getElem?_eq_getElem h4] using this
  rw [frOf_congr ops (val g) _ (fun _=>true) a (fun i hi=>hall' i hi)]
  exact hend g _ w hall' hI
 intro fuel
 induction fuel with
 | zero =>
  intro listed g w hsz hf hc hI
  have hz:∀ i,i<ops.size→listed.getD i true=true:=by
   intro i hi
   have h4:i<listed.size:=by omega
   have h5:listed[i] ∈ listed.toList:=by simp
   have h6:=List.filter_eq_nil_iff.1 (List.length_eq_zero_iff.1 hf.symm) _ h5
   simp only [Array.getD_eq_getD_getElem?,Array.getElem?_eq_getElem h4,Option.getD_some]
   simpa using h6
  have hr:Region.ready .any ops listed=[]:=by
   unfold Region.ready
   refine List.filter_eq_nil_iff.2 fun i hi=>?_
   have hi':i<ops.size:=by simpa using hi
   simp [hz i hi']
  exact ⟨hr,fin listed g w hsz hI hr⟩
 | succ fuel ih =>
  intro listed g w hsz hf hc hI
  refine ⟨fin listed g w hsz hI,fun i hi=>?_⟩
  obtain ⟨hun,o,ho,hall⟩:=mem_ready.1 hi
  have hisz:i<listed.size:=by
   rcases Nat.lt_or_ge i listed.size with h' | h'
   ·exact h'
   ·simp [Array.getElem?_eq_none h'] at hun
  have hun':listed.getD i false=false:=by simpa [Array.getD_eq_getD_getElem?,Array.getElem?_eq_getElem hisz] using hun
  have hwt:Waited (fun i=>listed.getD i false) o:=fun e he hb=>hall e he hb
  have heq:(ins i fun i=>listed.getD i false)=fun j=>(listed.setIfInBounds i true).getD j false:=by
   funext j
   simp only [ins,Array.getD_eq_getD_getElem?]
   by_cases hji:j=i
   ·subst hji; simp [Array.getElem?_setIfInBounds_self_of_lt hisz]
   ·rw [Array.getElem?_setIfInBounds_ne (Ne.symm hji)]; simp [hji]
  have next:∀ g' w',I g' (ins i fun i=>listed.getD i false) w'→wpAny P .any ops Q fuel (listed.setIfInBounds i true) (frOf ops (val g') (ins i fun i=>listed.getD i false) a) w':=by
   intro g' w' hw'
   rw [heq] at hw' ⊢
   refine ih _ g' w' (by simpa using hsz) ?_ ?_ hw'
   ·have hlen:((listed.setIfInBounds i true).toList.filter (! ·)).length + 1=(listed.toList.filter (! ·)).length:=by
     simp only [Array.toList_setIfInBounds]
     have hfa:listed.toList[i]? = some false:=by
      simp only [Array.getD_eq_getD_getElem?,Array.getElem?_eq_getElem hisz,Option.getD_some] at hun
      simp [hisz,hun]
     exact filter_set _ _ hfa
    omega
   ·intro j oj hoj hj e he hb
    rw [← heq] at hj ⊢
    simp only [ins,Bool.or_eq_true,beq_iff_eq] at hj ⊢
    rcases hj with rfl | hj
    ·rw [ho] at hoj; cases hoj
     exact .inr (hwt e he hb)
    ·exact .inr (hc j oj hoj hj e he hb)
  have hd:∀ d,o.dst=some d→writerOf ops d=some i:=by
   intro d hd
   have:=regionOk_at hok ho
   simp only [opOk,Bool.and_eq_true,hd,beq_iff_eq] at this
   exact this.1.1.1
  rcases hop i o ho g _ w hun' hwt hc hI with ⟨g',hag,hop'⟩ | hop'
  ·rw [frOf_vals ops (val g) (val g') _ a hag]
   exact OpTo.wpOp ho (regionOk_at hok ho) hwt hop' fun w' hw'=>next g' w' hw'
  ·refine OpGets.wpOp ho (regionOk_at hok ho) hwt hop' fun v w' hv=>?_
   obtain ⟨g',hag,hv,hI'⟩:=hv
   rw [frOf_vals ops (val g) (val g') _ a hag,← hv,frOf_put ho hd (frOf_self hok ho)]
   exact next g' w' hI'
def EachF {G:Type} (P:Program) (ops:Array Oper) (vals:G→List Value) (AF:G→Act) (I:G→(Nat→Bool)→World→Prop):Nat→List Oper→Prop
 | _,[]=>True
 | k,o::r=>(∀ g D w',D k=false→Waited D o→Closed ops D→I g D w'→OwesF P ops (fun g i=>(vals g).getD i undef) AF I k o g D w')∧EachF P ops vals AF I (k + 1) r
theorem EachF.at {G:Type} {vals:G→List Value} {AF:G→Act} {I:G→(Nat→Bool)→World→Prop}:∀ {l:List Oper} {k:Nat},EachF P ops vals AF I k l→∀ {i:Nat} {o:Oper},l[i]? = some o→∀ g D w',D (k + i)=false→Waited D o→Closed ops D→I g D w' →
   OwesF P ops (fun g i=>(vals g).getD i undef) AF I (k + i) o g D w'
 | [],_,_,i,o,h=>by simp at h
 | o::r,k,h,0,o',ho=>by simp at ho; subst ho; exact h.1
 | o::r,k,h,i + 1,o',ho=>by
  have:=EachF.at h.2 (i:=i) (by simpa using ho)
  rwa [show k + (i + 1)=k + 1 + i by omega]
theorem region_fresh {id:Nat} {w:World} (hm:P.follows .mixedOrders=true) {G:Type} (vals:G→List Value) (I:G→(Nat→Bool)→World→Prop) (hok:regionOk ops=true) (g0:G) (h0:I g0 (fun _=>false) w.drew)
  (h:∀ AF:G→Act,(∀ g,puts (fun i=>(vals g).getD i undef) 0 ops.toList a=AF g) →
   EachF P ops vals AF I 0 ops.toList∧∀ g D w',(∀ i,i<ops.size→D i=true)→I g D w'→Q .normal (AF g) w') :
  (Code.region id ops true).wp P Q a w:=by
 obtain ⟨h1,h2⟩:=h _ (fun _=>rfl)
 refine wp_region_any hm ?_
 have haf':∀ g,frOf ops (fun i=>(vals g).getD i undef) (fun _=>true) a=puts (fun i=>(vals g).getD i undef) 0 ops.toList a:=fun g=>frOf_puts hok
 have hz:(fun i=>(Array.replicate ops.size false).getD i false)=fun _=>false:=by
  funext i; simp [Array.getD_eq_getD_getElem?,Array.getElem?_replicate]; split <;> rfl
 have hfun:(fun g=>frOf ops (fun i=>(vals g).getD i undef) (fun _=>true) a)=fun g=>puts (fun i=>(vals g).getD i undef) 0 ops.toList a:=funext haf'
 have key:=region_anyF (P:=P) (Q:=Q) (val:=fun g i=>(vals g).getD i undef) (a:=a) (I:=I) hok
  (fun i o ho g D w' hDi hw hc hI=>by
   have:=h1.at (i:=i) (o:=o) (by simpa using ho) g D w' (by simpa using hDi) hw hc hI
   rw [hfun]
   simpa using this)
  (fun g D w' hall hI=>by rw [haf' g]; exact h2 g D w' hall hI)
  ops.size (Array.replicate ops.size false) g0 w.drew (by simp) (by simp) (fun j o ho hj=>by
   simp [Array.getD_eq_getD_getElem?,Array.getElem?_replicate] at hj
   split at hj <;> simp at hj) (by rw [hz]; exact h0)
 have hfr:=frOf_none ops (fun i=>(vals g0).getD i undef) a
 simp only [hz] at key
 rw [hfr] at key
 exact key
end
end Go.Proofs.YtngnfdnfpiiclaaGreat
namespace Go.Proofs.YtngnfdnfpiiclaaGreat
open Go.RowKit
end Go.Proofs.YtngnfdnfpiiclaaGreat
