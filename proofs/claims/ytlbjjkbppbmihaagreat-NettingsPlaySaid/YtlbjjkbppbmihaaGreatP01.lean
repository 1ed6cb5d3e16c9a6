/-
  Pieces of one proof, without what is not wanted: Lib, Heap, Same.
-/
import Derived.Test.YtlbjjkbppbmihaaGreatRows
import Derived.WalkKit
import Derived.WalkSpells
import Derived.WalkLawsBesides
import Derived.Lib.Hide
import Derived.BigQuiet
import Derived.Deep.RegionHeld3
import Derived.Deep.QuietTactic
import Derived.Deep.DeepCutAuto
import Derived.Deep.DeepFit
import Derived.OwnWalk
set_option linter.unusedSimpArgs false
set_option linter.unusedVariables false
namespace Go.Proofs.YtlbjjkbppbmihaaGreat
open Go.RowKit
def Blk (w:World) (g:Nat) (cs:Array Value) (t:TypeId):Prop:=w.heap[g]? = some (.cells cs t (0,0))
theorem Blk.out {w:World} {g:Nat} {cs:Array Value} {t:TypeId} (h:Blk w g cs t):w.heap[g]? = some (.cells cs t (0,0)):=h
theorem Blk.lt {w:World} {g:Nat} {cs:Array Value} {t:TypeId} (h:Blk w g cs t):g<w.heap.size:=lt_of_block h
theorem Blk.cell {w:World} {g:Nat} {cs:Array Value} {t:TypeId} (h:Blk w g cs t) (i:Nat):w.cell? ⟨g,i,none⟩=cs[i]? := by
 unfold Blk at h; simp [World.cell?,h]
theorem Blk.frozen {w:World} {g:Nat} {cs:Array Value} {t:TypeId} (h:Blk w g cs t) (i:Nat):w.frozen? ⟨g,i,none⟩=false:=by
 unfold Blk at h; simp [World.frozen?,h]
theorem Blk.set {w:World} {g:Nat} {cs:Array Value} {t:TypeId} (h:Blk w g cs t) (i:Nat) (v:Value):Blk (w.setCell ⟨g,i,none⟩ v) g (cs.setIfInBounds i v) t:=by
 have hlt:=h.lt
 have h':w.heap[g]=.cells cs t (0,0):=by unfold Blk at h; simpa [Array.getElem?_eq_getElem hlt] using h
 show (w.heap.modify g _)[g]? = _
 rw [Array.getElem?_eq_getElem (by simpa using hlt),Array.getElem_modify_self,h']
 rfl
theorem Blk.setOther {w:World} {g:Nat} {cs:Array Value} {t:TypeId} (h:Blk w g cs t) {a:Addr} (ha:g≠a.block) (v:Value):Blk (w.setCell a v) g cs t:=by
 unfold Blk; rw [Below.heap_setCell _ _ _ _ ha]; exact h
theorem Blk.alloc {w:World} {g:Nat} {cs:Array Value} {t:TypeId} (h:Blk w g cs t) (o:Obj):Blk (w.alloc o) g cs t:=by
 unfold Blk; rw [Below.heap_alloc _ _ _ h.lt]; exact h
theorem Blk.below {w w':World} {g B:Nat} {cs:Array Value} {t:TypeId} (h:Blk w g cs t) (hb:Below B w w') (hg:g<B):Blk w' g cs t:=by
 unfold Blk; rw [hb.block g hg]; exact h
theorem Blk.new (w:World) (cs:Array Value) (t:TypeId):Blk (w.alloc (.cells cs t)) w.heap.size cs t:=by
 show (w.heap.push _)[w.heap.size]? = _
 simp
theorem Blk.newAt (w:World) (cs:Array Value) (t:TypeId) {g:Nat} (h:g=w.heap.size):Blk (w.alloc (.cells cs t)) g cs t:=by subst h; exact Blk.new w cs t
theorem andB {w w1 w2:World} (h:Below w.heap.size w w1) (k:Below w1.heap.size w1 w2):Below w.heap.size w w2 :=
 h.trans (k.mono h.size)
def In64 (n:Int):Prop := -9223372036854775808≤n∧n≤9223372036854775807
instance (n:Int):Decidable (In64 n):=inferInstanceAs (Decidable (_∧_))
theorem In64.of_wf {n:Int} (h:(Lit.int .i64 n).wf=true):In64 n:=by
 simp [Lit.wf,IntKind.min,IntKind.max,IntKind.signed,IntKind.bits] at h
 unfold In64
 omega
theorem results_cell_and {P:Program} {fn:Func} {p u:Tmp} {ty:TypeId} (h:fn.results=#[.cell p ty,.tmp u]) (tmps:Array Value) (w:World) (g:Nat) (t:TypeId) (cs:Array Value) (d:TypeDesc) (v:Value)
  (hp:tmps.getD p undef=.pointer (some ⟨g,0,none⟩)) (hg:w.heap[g]? = some (.cells cs t (0,0)))
  (hu:P.underlying ty=some d) (hd:(match d with | .struct _ | .array _ _=>true | _=>false)=true) (hi:(P.info? ty).map (·.size)=some cs.size) (hv:tmps.getD u undef=v) :
  (results fn tmps).run P w=.ok (.tuple #[.agg cs,v]) w:=by
 have h1:=results_cell_row (P:=P) (fn:={ fn with results:=#[.cell p ty] }) rfl tmps w g t cs (0,0) d hp hg hu hd hi
 rw [results_cell_tmp h]
 have h2:((asAddr (tmps.getD p undef)).run P w).andThen (fun a w₁=>(loadVar ty a).run P w₁)=.ok (.agg cs) w:=by
  simpa [results,Sem.run_bind,Result.andThen] using h1
 rw [hp] at h2 ⊢
 simp only [asAddr,Sem.run_pure,Result.andThen_ok] at h2 ⊢
 rw [h2]
 simp only [Result.andThen_ok,hv]
end Go.Proofs.YtlbjjkbppbmihaaGreat
namespace Go.Proofs.YtlbjjkbppbmihaaGreat
open Go.RowKit
structure Keep (S:Nat→Prop) (w w':World):Prop where
 os:w'.os=w.os
 tape:w'.tape=w.tape
 output:w'.output=w.output
 size:w.heap.size≤w'.heap.size
 block:∀ k,k<w.heap.size→¬ S k→w'.heap[k]? = w.heap[k]?
theorem Keep.refl (S:Nat→Prop) (w:World):Keep S w w:=⟨rfl,rfl,rfl,Nat.le_refl _,fun _ _ _=>rfl⟩
theorem Keep.trans {S:Nat→Prop} {a b c:World} (h:Keep S a b) (k:Keep S b c):Keep S a c :=
 ⟨k.os.trans h.os,k.tape.trans h.tape,k.output.trans h.output,Nat.le_trans h.size k.size,fun i hi hs=>(k.block i (Nat.lt_of_lt_of_le hi h.size) hs).trans (h.block i hi hs)⟩
theorem Keep.mono {S S':Nat→Prop} {w w':World} (h:Keep S w w') (hS:∀ k,k<w.heap.size→S k→S' k):Keep S' w w' :=
 ⟨h.os,h.tape,h.output,h.size,fun i hi hs=>h.block i hi fun hk=>hs (hS i hi hk)⟩
theorem Keep.of_below {S:Nat→Prop} {w w':World} (h:Below w.heap.size w w'):Keep S w w':=⟨h.os,h.tape,h.output,h.size,fun i hi _=>h.block i hi⟩
theorem Keep.below {S:Nat→Prop} {w w':World} {B:Nat} (h:Keep S w w') (hB:B≤w.heap.size) (hS:∀ k,k<B→¬ S k):Below B w w' :=
 ⟨h.os,h.tape,h.output,h.size,fun i hi=>h.block i (Nat.lt_of_lt_of_le hi hB) (hS i hi)⟩
theorem Keep.cell {S:Nat→Prop} {w w':World} (h:Keep S w w') {p:Addr} (hp:p.block<w.heap.size) (hs:¬ S p.block):w'.cell? p=w.cell? p:=World.cell?_of_block (w:=w) (h.block p.block hp hs)
theorem Keep.drew {S:Nat→Prop} {a w:World} (h:Keep S a w):Keep S a w.drew:=⟨h.os,h.tape,h.output,h.size,h.block⟩
theorem Keep.alloc {S:Nat→Prop} {a w:World} (h:Keep S a w) (o:Obj):Keep S a (w.alloc o) :=
 ⟨h.os,h.tape,h.output,by have:=h.size; simp; omega,fun k hk hs=>by rw [Below.heap_alloc _ _ _ (Nat.lt_of_lt_of_le hk h.size)]; exact h.block k hk hs⟩
theorem Keep.setCell {S:Nat→Prop} {a w:World} (h:Keep S a w) {p:Addr} (hp:S p.block∨a.heap.size≤p.block) (u:Value):Keep S a (w.setCell p u) :=
 ⟨h.os,h.tape,h.output,by simpa using h.size,fun k hk hs=>by
  rw [Below.heap_setCell _ _ _ _ (by
                   rintro rfl; rcases hp with hp | hp; · exact hs hp
                   ·omega)]
  exact h.block k hk hs⟩
theorem Keep.grown {S:Nat→Prop} {a w w':World} {row:Option Nat} (h:Keep S a w) (hg:w.grownBy w' row) (hr:∀ k,row=some k→S k∨a.heap.size≤k):Keep S a w':=by
 have hb:Below 0 a a:=Below.refl 0 a
 refine ⟨hg.os.trans h.os,hg.tape.trans h.tape,hg.output.trans h.output,Nat.le_trans h.size hg.size,fun k hk hs=>?_⟩
 rw [hg.block k (Nat.lt_of_lt_of_le hk h.size) (by
                          rintro e; rcases hr k e.symm with h' | h'; · exact hs h'
                          ·omega)]
 exact h.block k hk hs
theorem Blk.keep {S:Nat→Prop} {w w':World} {g:Nat} {cs:Array Value} {t:TypeId} (h:Blk w g cs t) (k:Keep S w w') (hs:¬ S g):Blk w' g cs t:=by
 unfold Blk; rw [k.block g h.lt hs]; exact h
theorem owns_keep {S:Nat→Prop} {w w':World} {base:Nat} {e:TypeId} {size:Nat} {v:Value} {n:Nat} {xs:List Value} (h:w.ownsRow base e size v n xs) (k:Keep S w w') (hs:∀ b,v.ownBlock=some b→¬ S b):w'.ownsRow base e size v n xs:=by
 obtain ⟨h1,h2⟩:=h
 refine ⟨h1,?_⟩
 rcases h2 with h2 | ⟨g,cap,cur,rfl,hb,hg,hr⟩
 ·exact .inl h2
 ·refine .inr ⟨g,cap,cur,rfl,hb,?_,hr⟩
  rw [k.block g (lt_of_block hg) (hs g rfl)]
  exact hg
theorem owns_type {w:World} {base:Nat} {e:TypeId} {size:Nat} {v:Value} {n:Nat} {xs:List Value} (h:w.ownsRow base e size v n xs) {b:Nat} (hb:v.ownBlock=some b):base≤b∧b<w.heap.size∧∃ cur,w.heap[b]? = some (.cells cur e (0,0)):=by
 obtain ⟨_,h2⟩:=h
 rcases h2 with ⟨rfl,_⟩ | ⟨g,cap,cur,rfl,hge,hg,_⟩
 ·cases hb
 ·cases hb; exact ⟨hge,lt_of_block hg,cur,hg⟩
theorem owns_ne {w:World} {base:Nat} {e:TypeId} {size:Nat} {v:Value} {n:Nat} {xs:List Value} (h:w.ownsRow base e size v n xs) {g:Nat} {cs:Array Value} {t:TypeId} (hg:Blk w g cs t) (hne:e≠t):∀ b,v.ownBlock=some b→¬ b=g:=by
 intro b hb e'
 obtain ⟨_,_,cur,hc⟩:=owns_type h hb
 subst e'
 unfold Blk at hg
 rw [hc] at hg
 simp at hg
 exact hne hg.2
theorem owns_open {w:World} {base:Nat} {e:TypeId} {size:Nat} {v:Value} {n:Nat} {xs:List Value} (h:w.ownsRow base e size v n xs) :
  ∃ (ao:Option Addr) (cap:Nat),v=.slice ao n cap∧n≤cap∧cap≤maxLen∧xs.length=n * size∧(0<n→∃ b,ao=some ⟨b,0,none⟩∧base≤b∧b<w.heap.size∧(∀ j,j<n * size→w.cell? ⟨b,j,none⟩=xs[j]?)∧∀ j,w.frozen? ⟨b,j,none⟩=false):=by
 have h':=h
 obtain ⟨h1,h2⟩:=h
 rcases h2 with ⟨rfl,rfl⟩ | ⟨g,cap,cur,rfl,hb,hg,hc1,hc2,hc3,hc4⟩
 ·exact ⟨none,0,rfl,Nat.le_refl _,by decide,h1,fun h=>absurd h (by omega)⟩
 ·exact ⟨some ⟨g,0,none⟩,cap,rfl,hc1,hc2,h1,fun _=>⟨g,rfl,hb,lt_of_block hg,fun j hj=>h'.cellAt j hj,fun j=>h'.frozenAt j⟩⟩
theorem Blk.grown {w w':World} {g:Nat} {cs:Array Value} {t:TypeId} {row:Option Nat} (h:Blk w g cs t) (hg:w.grownBy w' row) (hne:row≠some g):Blk w' g cs t:=by
 unfold Blk; rw [hg.block g h.lt (fun e=>hne e.symm)]; exact h
theorem owns_below {w w':World} {base:Nat} {e:TypeId} {size:Nat} {v:Value} {n:Nat} {xs:List Value} (h:w.ownsRow base e size v n xs) (k:Below w.heap.size w w'):w'.ownsRow base e size v n xs :=
 owns_keep h (Keep.of_below (S:=fun _=>False) k) (fun _ _=>id)
theorem owns_base {w:World} {base base':Nat} {e:TypeId} {size:Nat} {v:Value} {n:Nat} {xs:List Value} (h:w.ownsRow base e size v n xs) (hb:base'≤base):w.ownsRow base' e size v n xs:=by
 obtain ⟨h1,h2⟩:=h
 refine ⟨h1,?_⟩
 rcases h2 with h2 | ⟨g,cap,cur,rfl,hge,hr⟩
 ·exact .inl h2
 ·exact .inr ⟨g,cap,cur,rfl,by omega,hr⟩
theorem flat_get {α:Type} (f:α→List Value) (n:Nat) (hf:∀ x,(f x).length=n):∀ (l:List α) (i j:Nat),j<n→(l.flatMap f)[i * n + j]? = (l[i]?).bind fun x=>(f x)[j]?
 | [],i,j,_=>by simp
 | x::r,0,j,hj=>by simp [List.getElem?_append,hf,hj]
 | x::r,i + 1,j,hj=>by
  rw [List.flatMap_cons,List.getElem?_append_right (by rw [hf,Nat.add_mul]; omega),hf,show (i + 1) * n + j - n=i * n + j by rw [Nat.add_mul]; omega]
  rw [flat_get f n hf r i j hj]
  simp
theorem flat_len {α:Type} (f:α→List Value) (n:Nat) (hf:∀ x,(f x).length=n) (l:List α):(l.flatMap f).length=l.length * n:=by
 induction l with
 | nil=>simp
 | cons x r ih=>simp [hf,ih,Nat.add_mul]; omega
end Go.Proofs.YtlbjjkbppbmihaaGreat
namespace Go.Proofs.YtlbjjkbppbmihaaGreat
open Go.RowKit
structure Ln where
 cr:Int
 de:Int
 cu:Int
 li:Int
 db:Int
deriving DecidableEq
def Ln.vals (x:Ln):List Value:=[.int .u8 x.cr,.int .u8 x.de,.int .u8 x.cu,.int .i64 x.li,.int .i64 x.db]
theorem Ln.vals_len (x:Ln):x.vals.length=5:=rfl
def lnCells (ls:List Ln):List Value:=ls.flatMap Ln.vals
def Ln.val (x:Ln):Value:=.agg #[.int .u8 x.cr,.int .u8 x.de,.int .u8 x.cu,.int .i64 x.li,.int .i64 x.db]
theorem lnCells_len (ls:List Ln):(lnCells ls).length=ls.length * 5:=flat_len _ 5 Ln.vals_len ls
theorem lnCells_get (ls:List Ln) (i j:Nat) (hj:j<5) (h:i<ls.length):(lnCells ls)[i * 5 + j]? = ls[i].vals[j]? := by
 unfold lnCells
 rw [flat_get _ 5 Ln.vals_len ls i j hj,List.getElem?_eq_getElem h]
 rfl
def Ln.rank (x:Ln):Int:=x.cu * 65536 + x.cr * 256 + x.de
def In8 (n:Int):Prop:=0≤n∧n≤255
structure Ln.Fits (x:Ln):Prop where
 cr:In8 x.cr
 de:In8 x.de
 cu:In8 x.cu
 li:In64 x.li
 db:In64 x.db
theorem fits_mk {a b c n d:Int} (h1:0≤a∧a≤255) (h2:0≤b∧b≤255) (h3:0≤c∧c≤255) (h4:0≤n∧n≤1099511627776) (h5:0≤d∧d≤1099511627776):(⟨a,b,c,n,d⟩:Ln).Fits :=
 ⟨h1,h2,h3,⟨Int.le_trans (by decide) h4.1,Int.le_trans h4.2 (by decide)⟩,⟨Int.le_trans (by decide) h5.1,Int.le_trans h5.2 (by decide)⟩⟩
def Ln.is (x:Ln) (a b c:Int):Bool:=x.cr==a && x.de==b && x.cu==c
def atL (ls:List Ln) (a b c:Int):Int:=match ls.findIdx? (fun x=>x.is a b c) with | some i=>i | none => -1
def lineL (ls:List Ln) (a b c:Int):Option Ln:=ls.find? fun x=>x.is a b c
def noLn:Ln:=⟨0,0,0,0,0⟩
def setStep (x:Ln) (s:List Ln × Bool) (y:Ln):List Ln × Bool :=
 if y.rank=x.rank then s else if s.2=false∧x.rank<y.rank then (s.1++[x,y],true) else (s.1++[y],s.2)
def setTo (ls:List Ln) (x:Ln):List Ln × Bool:=ls.foldl (setStep x) ([],x.li==0)
def setL (ls:List Ln) (x:Ln):List Ln:=if (setTo ls x).2=false then (setTo ls x).1++[x] else (setTo ls x).1
theorem setTo_take (ls:List Ln) (x:Ln) (k:Nat) (h:k<ls.length):setTo (ls.take (k + 1)) x=setStep x (setTo (ls.take k) x) ls[k]:=by
 unfold setTo
 rw [List.take_succ_eq_append_getElem h,List.foldl_append]
 rfl
theorem at_found {ls:List Ln} {a b c:Int} {k:Nat} (h:k<ls.length) (hn:∀ x ∈ ls.take k,x.is a b c=false) (hx:ls[k].is a b c=true):atL ls a b c=k∧lineL ls a b c=some ls[k]:=by
 have e:ls=ls.take k++ls[k]::ls.drop (k + 1):=by rw [List.getElem_cons_drop,List.take_append_drop]
 have h1:ls.findIdx? (fun x=>x.is a b c)=some k:=by
  rw [List.findIdx?_eq_some_iff_getElem]
  refine ⟨h,hx,fun j hj=>?_⟩
  have:=hn ls[j] (by rw [List.mem_take_iff_getElem]; exact ⟨j,by omega,rfl⟩)
  simp [this]
 refine ⟨by unfold atL; rw [h1],?_⟩
 unfold lineL
 rw [List.find?_eq_some_iff_getElem]
 refine ⟨hx,k,h,rfl,fun j hj=>?_⟩
 have:=hn ls[j] (by rw [List.mem_take_iff_getElem]; exact ⟨j,by omega,rfl⟩)
 simp [this]
theorem at_none {ls:List Ln} {a b c:Int} (hn:∀ x ∈ ls,x.is a b c=false):atL ls a b c = -1∧lineL ls a b c=none:=by
 refine ⟨?_,?_⟩
 ·unfold atL
  rw [List.findIdx?_eq_none_iff.2 hn]
 ·unfold lineL
  rw [List.find?_eq_none]
  intro x hx
  simp [hn x hx]
theorem at_cases (ls:List Ln) (a b c:Int):(∃ (k:Nat) (h:k<ls.length),atL ls a b c=k∧lineL ls a b c=some ls[k]∧ls[k].is a b c=true)∨(atL ls a b c = -1∧lineL ls a b c=none∧∀ x ∈ ls,x.is a b c=false):=by
 by_cases h:∀ x ∈ ls,x.is a b c=false
 ·exact .inr ⟨(at_none h).1,(at_none h).2,h⟩
 ·left
  cases hf:ls.findIdx? (fun x=>x.is a b c) with
  | none =>
   exact absurd (List.findIdx?_eq_none_iff.1 hf) h
  | some k =>
   obtain ⟨hk,hx,hn⟩:=List.findIdx?_eq_some_iff_getElem.1 hf
   obtain ⟨h1,h2⟩:=at_found hk (a:=a) (b:=b) (c:=c) (by
    intro x hx
    obtain ⟨j,hj,rfl⟩:=List.mem_take_iff_getElem.1 hx
    have:=hn j (by omega)
    simpa using this) hx
   exact ⟨k,hk,h1,h2,hx⟩
def unput (b:Bool):Nat:=cond b 0 1
theorem unput_le (b:Bool):unput b≤1:=by cases b <;> simp [unput]
theorem setStep_len (x:Ln) (s:List Ln × Bool) (y:Ln):(setStep x s y).1.length + unput (setStep x s y).2≤s.1.length + unput s.2 + 1:=by
 unfold setStep
 split
 ·omega
 ·split
  ·rename_i h
   have e1:(s.1++[x,y]).length=s.1.length + 2:=by simp
   have e2:unput true=0:=rfl
   have e3:unput false=1:=rfl
   rw [h.1]
   dsimp only
   omega
  ·have e1:(s.1++[y]).length=s.1.length + 1:=by simp
   dsimp only
   omega
theorem setTo_len (ls:List Ln) (x:Ln):(setTo ls x).1.length≤ls.length + 1:=by
 have key:∀ (l:List Ln) (s:List Ln × Bool),(l.foldl (setStep x) s).1.length + unput (l.foldl (setStep x) s).2≤s.1.length + unput s.2 + l.length:=by
  intro l
  induction l with
  | nil=>intro s; exact Nat.le_refl _
  | cons y r ih =>
   intro s
   have h1:=ih (setStep x s y)
   have h2:=setStep_len x s y
   simp only [List.foldl_cons,List.length_cons]
   omega
 have:=key ls ([],x.li==0)
 unfold setTo
 simp only [List.length_nil] at this
 have h2:=unput_le (x.li==0)
 omega
theorem lnCells_append (a b:List Ln):lnCells (a++b)=lnCells a++lnCells b:=by unfold lnCells; exact List.flatMap_append
theorem lnCells_one (x:Ln):lnCells [x]=x.vals:=by simp [lnCells]
def lnAt (ls:List Ln) (a b c:Int):Ln:=(lineL ls a b c).getD noLn
structure Ln.Good (x:Ln):Prop where
 cr:1≤x.cr∧x.cr≤16
 de:1≤x.de∧x.de≤16
 cu:1≤x.cu∧x.cu≤8
 ne:x.cr≠x.de
 li:1≤x.li∧x.li≤1099511627776
 db:0≤x.db∧x.db≤x.li
theorem Ln.Good.fits {x:Ln} (h:x.Good):x.Fits:=by
 obtain ⟨h1,h2,h3,_,h5,h6⟩:=h
 exact ⟨⟨by omega,by omega⟩,⟨by omega,by omega⟩,⟨by omega,by omega⟩,⟨by omega,by omega⟩,⟨by omega,by omega⟩⟩
theorem lineL_mem {ls:List Ln} {a b c:Int} {x:Ln} (h:lineL ls a b c=some x):x ∈ ls∧x.cr=a∧x.de=b∧x.cu=c:=by
 unfold lineL at h
 refine ⟨List.mem_of_find?_eq_some h,?_⟩
 have:=List.find?_some h
 unfold Ln.is at this
 simp only [Bool.and_eq_true,beq_iff_eq] at this
 exact ⟨this.1.1,this.1.2,this.2⟩
theorem lnAt_bd {ls:List Ln} (hg:∀ y ∈ ls,y.Good) (a b c:Int):0≤(lnAt ls a b c).db∧(lnAt ls a b c).db≤(lnAt ls a b c).li∧(lnAt ls a b c).li≤1099511627776:=by
 unfold lnAt
 cases h:lineL ls a b c with
 | none=>simp [noLn]
 | some x=>have:=hg x (lineL_mem h).1; have h5:=this.li; have h6:=this.db; simp; omega
theorem lnAt_fits {ls:List Ln} (hg:∀ y ∈ ls,y.Good) (a b c:Int):(lnAt ls a b c).Fits:=by
 unfold lnAt
 cases h:lineL ls a b c with
 | none=>exact ⟨⟨by decide,by decide⟩,⟨by decide,by decide⟩,⟨by decide,by decide⟩,⟨by decide,by decide⟩,⟨by decide,by decide⟩⟩
 | some x=>exact (hg x (lineL_mem h).1).fits
def roomL (ps:List Int) (ls:List Ln) (a b c:Int):Int:=if a=b∨a ∉ ps∨b ∉ ps then 0 else (lnAt ls a b c).db + (lnAt ls b a c).li - (lnAt ls b a c).db
theorem roomL_bd {ps:List Int} {ls:List Ln} (hg:∀ y ∈ ls,y.Good) (a b c:Int):0≤roomL ps ls a b c∧roomL ps ls a b c≤2199023255552:=by
 unfold roomL
 have h1:=lnAt_bd hg a b c
 have h2:=lnAt_bd hg b a c
 split <;> omega
def trustE (ps:List Int) (ls:List Ln) (a b c n:Int):Int :=
 if a<1∨16<a∨b<1∨16<b∨c<1∨8<c∨a=b∨n<0∨1099511627776<n then 1
 else if a ∉ ps∨b ∉ ps then 7
 else if n<(lnAt ls a b c).db then 14
 else if lineL ls a b c=none∧0<n∧64≤ls.length then 9 else 0
def trustL (ps:List Int) (ls:List Ln) (a b c n:Int):List Ln:=if trustE ps ls a b c n=0 then setL ls ⟨a,b,c,n,(lnAt ls a b c).db⟩ else ls
def forgiveE (ls:List Ln) (a b c n:Int):Int:=if n<1 then 1 else if lineL ls a b c=none then 7 else if (lnAt ls a b c).db<n then 14 else 0
def Ln.owe (x:Ln) (d:Int):Ln:=⟨x.cr,x.de,x.cu,x.li,d⟩
def forgiveL (ls:List Ln) (a b c n:Int):List Ln:=if forgiveE ls a b c n=0 then setL ls ((lnAt ls a b c).owe ((lnAt ls a b c).db - n)) else ls
def pushE (ps:List Int) (ls:List Ln) (a b c n:Int):Int:=if n<1 then 1 else if roomL ps ls a b c<n then 11 else 0
def push1 (ls:List Ln) (a b c n:Int):List Ln:=if (lineL ls a b c).isSome=true then setL ls ((lnAt ls a b c).owe ((lnAt ls a b c).db - min n (lnAt ls a b c).db)) else ls
def push2 (ls:List Ln) (a b c n:Int):Int:=if (lineL ls a b c).isSome=true then n - min n (lnAt ls a b c).db else n
def pushTo (ls:List Ln) (a b c n:Int):List Ln :=
 if 0<push2 ls a b c n then setL (push1 ls a b c n) ((lnAt (push1 ls a b c n) b a c).owe ((lnAt (push1 ls a b c n) b a c).db + push2 ls a b c n)) else push1 ls a b c n
def pushL (ps:List Int) (ls:List Ln) (a b c n:Int):List Ln:=if pushE ps ls a b c n=0 then pushTo ls a b c n else ls
theorem setL_mem {ls:List Ln} {x y:Ln} (h:y ∈ setL ls x):y ∈ ls∨(y=x∧x.li≠0):=by
 have key:∀ (l:List Ln) (s:List Ln × Bool),(∀ y ∈ s.1,y ∈ ls∨(y=x∧x.li≠0))→(s.2=false→x.li≠0)→(∀ y ∈ l,y ∈ ls) →
   (∀ y ∈ (l.foldl (setStep x) s).1,y ∈ ls∨(y=x∧x.li≠0))∧((l.foldl (setStep x) s).2=false→x.li≠0):=by
  intro l
  induction l with
  | nil=>intro s h1 h2 _; exact ⟨h1,h2⟩
  | cons z r ih =>
   intro s h1 h2 h3
   rw [List.foldl_cons]
   refine ih _ ?_ ?_ (fun y hy=>h3 y (by simp [hy]))
   ·intro y hy
    unfold setStep at hy
    split at hy
    ·exact h1 y hy
    ·split at hy
     ·rename_i h4
      simp only [List.mem_append,List.mem_cons,List.not_mem_nil,or_false] at hy
      rcases hy with hy | rfl | rfl
      ·exact h1 y hy
      ·exact .inr ⟨rfl,h2 h4.1⟩
      ·exact .inl (h3 _ (by simp))
     ·simp only [List.mem_append,List.mem_singleton] at hy
      rcases hy with hy | rfl
      ·exact h1 y hy
      ·exact .inl (h3 _ (by simp))
   ·intro hf
    unfold setStep at hf
    split at hf
    ·exact h2 hf
    ·split at hf
     ·cases hf
     ·exact h2 hf
 have k:=key ls ([],x.li==0) (by simp) (by intro h e; rw [e] at h; cases h) (fun y hy=>hy)
 unfold setL setTo at h
 split at h
 ·rename_i h4
  rcases List.mem_append.1 h with h | h
  ·exact k.1 y h
  ·rw [List.mem_singleton] at h; exact .inr ⟨h,k.2 h4⟩
 ·exact k.1 y h
theorem setL_len (ls:List Ln) (x:Ln):(setL ls x).length≤ls.length + 1:=by
 have key:∀ (l:List Ln) (s:List Ln × Bool),(l.foldl (setStep x) s).1.length + unput (l.foldl (setStep x) s).2≤s.1.length + unput s.2 + l.length:=by
  intro l
  induction l with
  | nil=>intro s; exact Nat.le_refl _
  | cons y r ih =>
   intro s
   have h1:=ih (setStep x s y)
   have h2:=setStep_len x s y
   simp only [List.foldl_cons,List.length_cons]
   omega
 have h1:=key ls ([],x.li==0)
 have h2:=unput_le (x.li==0)
 simp only [List.length_nil] at h1
 unfold setL setTo
 split
 ·rename_i h; rw [h,show unput false=1 from rfl] at h1; simp; omega
 ·omega
def posOf (p c:Int) (x:Ln):Int:=if x.cu=c then (if x.cr=p then x.db else 0) - (if x.de=p then x.db else 0) else 0
def posL (ls:List Ln) (p c:Int):Int:=(ls.map (posOf p c)).sum
def totOf (c:Int) (x:Ln):Int:=if x.cu=c then x.db else 0
def totL (ls:List Ln) (c:Int):Int:=(ls.map (totOf c)).sum
theorem sum_next {α:Type} (f:α→Int) (l:List α) (k:Nat) (h:k<l.length):((l.take (k + 1)).map f).sum=((l.take k).map f).sum + f l[k]:=by
 rw [List.take_succ_eq_append_getElem h,List.map_append,List.sum_append]; simp
theorem sum_le {α:Type} (f:α→Int) (m:Int):∀ (l:List α),(∀ x ∈ l,-m≤f x∧f x≤m) → -m * (l.length:Int)≤(l.map f).sum∧(l.map f).sum≤m * (l.length:Int)
 | [],_=>by simp
 | x::r,h=>by
  have h1:=h x (by simp)
  have h2:=sum_le f m r (fun y hy=>h y (by simp [hy]))
  simp only [List.map_cons,List.sum_cons,List.length_cons]
  rw [show ((r.length + 1:Nat):Int)=(r.length:Int) + 1 by omega,Int.mul_add,Int.mul_add]
  omega
theorem posOf_bd {x:Ln} (h:x.Good) (p c:Int):-1099511627776≤posOf p c x∧posOf p c x≤1099511627776:=by
 have h5:=h.li; have h6:=h.db
 unfold posOf
 (repeat' split) <;> omega
theorem totOf_bd {x:Ln} (h:x.Good) (c:Int):-1099511627776≤totOf c x∧totOf c x≤1099511627776:=by
 have h5:=h.li; have h6:=h.db
 unfold totOf
 split <;> omega
end Go.Proofs.YtlbjjkbppbmihaaGreat
namespace Go.Proofs.YtlbjjkbppbmihaaGreat
open Go.RowKit
def Reads (w:World) (v:Value) (size n:Nat) (xs:List Value):Prop :=
 ∃ (ao:Option Addr) (cap:Nat),v=.slice ao n cap∧n≤100000000∧xs.length=n * size∧(0<n→∃ b off,ao=some ⟨b,off,none⟩∧b<w.heap.size∧∀ j,j<n * size→w.cell? ⟨b,off + j,none⟩=xs[j]?)
theorem Reads.of_owns {w:World} {base:Nat} {e:TypeId} {size:Nat} {v:Value} {n:Nat} {xs:List Value} (h:w.ownsRow base e size v n xs) (hn:n≤100000000):Reads w v size n xs:=by
 obtain ⟨ao,cap,rfl,_,_,h3,h4⟩:=owns_open h
 refine ⟨ao,cap,rfl,hn,h3,fun hp=>?_⟩
 obtain ⟨b,rfl,_,hb,hc,_⟩:=h4 hp
 exact ⟨b,0,rfl,hb,fun j hj=>by rw [Nat.zero_add]; exact hc j hj⟩
theorem Reads.keep {S:Nat→Prop} {w w':World} {v:Value} {size n:Nat} {xs:List Value} (h:Reads w v size n xs) (k:Keep S w w') (hs:∀ b,v.ownBlock=some b→¬ S b):Reads w' v size n xs:=by
 obtain ⟨ao,cap,rfl,h1,h2,h3⟩:=h
 refine ⟨ao,cap,rfl,h1,h2,fun hp=>?_⟩
 obtain ⟨b,off,rfl,hb,hc⟩:=h3 hp
 exact ⟨b,off,rfl,Nat.lt_of_lt_of_le hb k.size,fun j hj=>by rw [k.cell (p:=⟨b,off + j,none⟩) hb (hs b rfl)]; exact hc j hj⟩
theorem Reads.below {w w':World} {v:Value} {size n:Nat} {xs:List Value} (h:Reads w v size n xs) (k:Below w.heap.size w w'):Reads w' v size n xs :=
 h.keep (Keep.of_below (S:=fun _=>False) k) (fun _ _=>id)
theorem take_eq_next {α:Type} {l m:List α} {k:Nat} (h:k<l.length) (hm:k<m.length) (he:l.take k=m.take k) (hx:l[k]=m[k]):l.take (k + 1)=m.take (k + 1):=by
 rw [List.take_succ_eq_append_getElem h,List.take_succ_eq_append_getElem hm,he,hx]
set_option maxHeartbeats 4000000 in
theorem sameParty_any {w:World} {va vb:Value} {la lb:List Int} (ha:Reads w va 1 la.length (la.map (.int .u8))) (hb:Reads w vb 1 lb.length (lb.map (.int .u8))) :
  Calls Tryz.prog 78 #[va,vb] w fun e w'=>e=.returned (.bool (decide (la=lb)))∧Below w.heap.size w w':=by
 obtain ⟨ao,ca,rfl,a1,a2,a3⟩:=ha
 obtain ⟨bo,cb,rfl,b1,b2,b3⟩:=hb
 have HA:=Lib.hid a3; have HB:=Lib.hid b3
 clear a2 a3 b2 b3
 by_cases hlen:la.length=lb.length
 ·have L:=Lib.hid hlen
  have hll:lb.length=la.length:=hlen.symm
  rw [hll]
  clear hll hlen b1
  go_enter Tryz.func78,Tryz.ntmps78
  go_wp2
  go_loopw [5] (fun i wr=>∃ k:Nat,k≤la.length∧i=.int .i64 k∧Hid (la.take k=lb.take k)∧Below w.heap.size w wr) (fun i _=>la.length - (intOf i).toNat)
  case atStart=>exact ⟨0,Nat.zero_le _,rfl,Lib.hid (by simp),Below.refl _ _⟩
  case round =>
   obtain ⟨k,hk,rfl,ht,hbl⟩:=hrel
   have BL:=Lib.hid hbl
   by_cases hkl:k<la.length
   ·have hkb:k<lb.length:=by have:=L.out; omega
    obtain ⟨b1,o1,rfl,hlt1,hc1⟩:=HA.out (by omega)
    obtain ⟨b2,o2,rfl,hlt2,hc2⟩:=HB.out (by omega)
    have HC1:=Lib.hid (fun j (hj:j<la.length * 1)=>(hbl.cell (p:=⟨b1,o1 + j,none⟩) hlt1).trans (hc1 j hj))
    have HC2:=Lib.hid (fun j (hj:j<lb.length * 1)=>(hbl.cell (p:=⟨b2,o2 + j,none⟩) hlt2).trans (hc2 j hj))
    have d1:wr.cell? ⟨b1,o1 + k,none⟩=some (.int .u8 la[k]):=by rw [HC1.out k (by omega)]; simp [hkl]
    have d2:wr.cell? ⟨b2,o2 + k,none⟩=some (.int .u8 lb[k]):=by rw [HC2.out k (by omega)]; simp [hkb]
    have hz1:b1<wr.heap.size:=Nat.lt_of_lt_of_le hlt1 hbl.size
    have hz2:b2<wr.heap.size:=Nat.lt_of_lt_of_le hlt2 hbl.size
    have NE:=Lib.hid (fun (he:la[k]≠lb[k])=>show decide (la=lb)=false by
     rw [decide_eq_false_iff_not]; rintro rfl; exact he rfl)
    have EQ:=Lib.hid (fun (he:la[k]=lb[k])=>take_eq_next hkl hkb ht.out he)
    clear hc1 hc2 HC1 HC2 hbl
    generalize la[k]=x at *
    generalize lb[k]=y at *
    by_cases he:x=y
    ·subst he
     go_wp2
     go_region
     all_goals
      go_wp2
      go_roundw
      case rel=>exact ⟨k + 1,by omega,by go_num,Lib.hid (EQ.out (by first | exact rfl | trivial)),by first | exact BL.out.drew | exact BL.out⟩
      case measure=>simp [intOf]; omega
    ·have q:(x==y)=false:=by simp [he]
     have E:=Lib.hid (NE.out he)
     clear he NE EQ
     go_wp2
     go_region
     all_goals
      go_wp2
      go_ret
      exact ⟨by rw [E.out]; rfl,by first | exact BL.out.drew | exact BL.out⟩
   ·have E:=Lib.hid (show decide (la=lb)=true by
     have h1:=ht.out
     rw [List.take_of_length_le (by omega),List.take_of_length_le (by have:=L.out; omega)] at h1
     rw [decide_eq_true_eq]; exact h1)
    go_wp2
    go_ret
    exact ⟨by rw [E.out]; rfl,BL.out⟩
 ·have E:=Lib.hid (show decide (la=lb)=false by rw [decide_eq_false_iff_not]; rintro rfl; exact hlen rfl)
  have q:((la.length:Int)==(lb.length:Int))=false:=by simp; omega
  clear hlen
  go_enter Tryz.func78,Tryz.ntmps78
  go_wp2
  go_ret
  exact ⟨by rw [E.out]; rfl,Below.refl _ _⟩
theorem ln_parts (x y:Ln):(x=y)∨(x≠y∧(x.cr==y.cr)=false)∨(x≠y∧(x.cr==y.cr)=true∧(x.de==y.de)=false)∨(x≠y∧(x.cr==y.cr)=true∧(x.de==y.de)=true∧(x.cu==y.cu)=false)∨(x≠y∧(x.cr==y.cr)=true∧(x.de==y.de)=true∧(x.cu==y.cu)=true∧(x.li==y.li)=false)∨(x≠y∧(x.cr==y.cr)=true∧(x.de==y.de)=true∧(x.cu==y.cu)=true∧(x.li==y.li)=true∧(x.db==y.db)=false):=by
 obtain ⟨a,b,c,d,e⟩:=x
 obtain ⟨a',b',c',d',e'⟩:=y
 by_cases h1:a=a' <;> by_cases h2:b=b' <;> by_cases h3:c=c' <;> by_cases h4:d=d' <;> by_cases h5:e=e' <;> simp [h1,h2,h3,h4,h5]
set_option maxHeartbeats 4000000 in
theorem sameLine_any {w:World} {va vb:Value} {la lb:List Ln} (ha:Reads w va 5 la.length (lnCells la)) (hb:Reads w vb 5 lb.length (lnCells lb)) :
  Calls Tryz.prog 52 #[va,vb] w fun e w'=>e=.returned (.bool (decide (la=lb)))∧Below w.heap.size w w':=by
 obtain ⟨ao,ca,rfl,a1,a2,a3⟩:=ha
 obtain ⟨bo,cb,rfl,b1,b2,b3⟩:=hb
 have HA:=Lib.hid a3; have HB:=Lib.hid b3
 clear a2 a3 b2 b3
 by_cases hlen:la.length=lb.length
 ·have L:=Lib.hid hlen
  have hll:lb.length=la.length:=hlen.symm
  rw [hll]
  clear hll hlen b1
  go_enter Tryz.func52,Tryz.ntmps52
  go_wp2
  go_loopw [5] (fun i wr=>∃ k:Nat,k≤la.length∧i=.int .i64 k∧Hid (la.take k=lb.take k)∧Below w.heap.size w wr) (fun i _=>la.length - (intOf i).toNat)
  case atStart=>exact ⟨0,Nat.zero_le _,rfl,Lib.hid (by simp),Below.refl _ _⟩
  case round =>
   obtain ⟨k,hk,rfl,ht,hbl⟩:=hrel
   have BL:=Lib.hid hbl
   by_cases hkl:k<la.length
   ·have hkb:k<lb.length:=by have:=L.out; omega
    obtain ⟨b1,o1,rfl,hlt1,hc1⟩:=HA.out (by omega)
    obtain ⟨b2,o2,rfl,hlt2,hc2⟩:=HB.out (by omega)
    have HC1:=Lib.hid (fun j (hj:j<la.length * 5)=>(hbl.cell (p:=⟨b1,o1 + j,none⟩) hlt1).trans (hc1 j hj))
    have HC2:=Lib.hid (fun j (hj:j<lb.length * 5)=>(hbl.cell (p:=⟨b2,o2 + j,none⟩) hlt2).trans (hc2 j hj))
    have d0:wr.cell? ⟨b1,o1 + k * 5,none⟩=some (.int .u8 la[k].cr):=by
     have q1:=HC1.out (k * 5 + 0) (by omega)
     rw [lnCells_get la k 0 (by omega) hkl] at q1
     first | exact q1 | (rw [← Nat.add_assoc] at q1; exact q1)
    have d1:wr.cell? ⟨b1,o1 + k * 5 + 1,none⟩=some (.int .u8 la[k].de):=by
     have q1:=HC1.out (k * 5 + 1) (by omega)
     rw [lnCells_get la k 1 (by omega) hkl] at q1
     first | exact q1 | (rw [← Nat.add_assoc] at q1; exact q1)
    have d2:wr.cell? ⟨b1,o1 + k * 5 + 2,none⟩=some (.int .u8 la[k].cu):=by
     have q1:=HC1.out (k * 5 + 2) (by omega)
     rw [lnCells_get la k 2 (by omega) hkl] at q1
     first | exact q1 | (rw [← Nat.add_assoc] at q1; exact q1)
    have d3:wr.cell? ⟨b1,o1 + k * 5 + 3,none⟩=some (.int .i64 la[k].li):=by
     have q1:=HC1.out (k * 5 + 3) (by omega)
     rw [lnCells_get la k 3 (by omega) hkl] at q1
     first | exact q1 | (rw [← Nat.add_assoc] at q1; exact q1)
    have d4:wr.cell? ⟨b1,o1 + k * 5 + 4,none⟩=some (.int .i64 la[k].db):=by
     have q1:=HC1.out (k * 5 + 4) (by omega)
     rw [lnCells_get la k 4 (by omega) hkl] at q1
     first | exact q1 | (rw [← Nat.add_assoc] at q1; exact q1)
    have f0:wr.cell? ⟨b2,o2 + k * 5,none⟩=some (.int .u8 lb[k].cr):=by
     have q1:=HC2.out (k * 5 + 0) (by omega)
     rw [lnCells_get lb k 0 (by omega) hkb] at q1
     first | exact q1 | (rw [← Nat.add_assoc] at q1; exact q1)
    have f1:wr.cell? ⟨b2,o2 + k * 5 + 1,none⟩=some (.int .u8 lb[k].de):=by
     have q1:=HC2.out (k * 5 + 1) (by omega)
     rw [lnCells_get lb k 1 (by omega) hkb] at q1
     first | exact q1 | (rw [← Nat.add_assoc] at q1; exact q1)
    have f2:wr.cell? ⟨b2,o2 + k * 5 + 2,none⟩=some (.int .u8 lb[k].cu):=by
     have q1:=HC2.out (k * 5 + 2) (by omega)
     rw [lnCells_get lb k 2 (by omega) hkb] at q1
     first | exact q1 | (rw [← Nat.add_assoc] at q1; exact q1)
    have f3:wr.cell? ⟨b2,o2 + k * 5 + 3,none⟩=some (.int .i64 lb[k].li):=by
     have q1:=HC2.out (k * 5 + 3) (by omega)
     rw [lnCells_get lb k 3 (by omega) hkb] at q1
     first | exact q1 | (rw [← Nat.add_assoc] at q1; exact q1)
    have f4:wr.cell? ⟨b2,o2 + k * 5 + 4,none⟩=some (.int .i64 lb[k].db):=by
     have q1:=HC2.out (k * 5 + 4) (by omega)
     rw [lnCells_get lb k 4 (by omega) hkb] at q1
     first | exact q1 | (rw [← Nat.add_assoc] at q1; exact q1)
    have hz1:b1<wr.heap.size:=Nat.lt_of_lt_of_le hlt1 hbl.size
    have hz2:b2<wr.heap.size:=Nat.lt_of_lt_of_le hlt2 hbl.size
    have NE:=Lib.hid (fun (he:la[k]≠lb[k])=>show decide (la=lb)=false by
     rw [decide_eq_false_iff_not]; rintro rfl; exact he rfl)
    have EQ:=Lib.hid (fun (he:la[k]=lb[k])=>take_eq_next hkl hkb ht.out he)
    clear hc1 hc2 HC1 HC2 hbl
    generalize la[k]=x at *
    generalize lb[k]=y at *
    have hs:(x=y)∨(x≠y∧(x.cr==y.cr)=false)∨(x≠y∧(x.cr==y.cr)=true∧(x.de==y.de)=false)∨(x≠y∧(x.cr==y.cr)=true∧(x.de==y.de)=true∧(x.cu==y.cu)=false)∨(x≠y∧(x.cr==y.cr)=true∧(x.de==y.de)=true∧(x.cu==y.cu)=true∧(x.li==y.li)=false)∨(x≠y∧(x.cr==y.cr)=true∧(x.de==y.de)=true∧(x.cu==y.cu)=true∧(x.li==y.li)=true∧(x.db==y.db)=false):=ln_parts x y
    rcases hs with rfl | ⟨he,s1⟩ | ⟨he,s1,s2⟩ | ⟨he,s1,s2,s3⟩ | ⟨he,s1,s2,s3,s4⟩ | ⟨he,s1,s2,s3,s4,s5⟩
    ·clear NE
     go_wp2
     go_region
     all_goals
      go_wp2
      go_roundw
      case rel=>exact ⟨k + 1,by omega,by go_num,Lib.hid (EQ.out (by first | exact rfl | trivial)),by first | exact BL.out.drew | exact BL.out⟩
      case measure=>simp [intOf]; omega
    ·have E:=Lib.hid (NE.out he)
     clear he NE EQ
     go_wp2
     go_region
     all_goals
      go_wp2
      go_ret
      exact ⟨by rw [E.out]; rfl,by first | exact BL.out.drew | exact BL.out⟩
    ·have E:=Lib.hid (NE.out he)
     clear he NE EQ
     go_wp2
     go_region
     all_goals
      go_wp2
      go_ret
      exact ⟨by rw [E.out]; rfl,by first | exact BL.out.drew | exact BL.out⟩
    ·have E:=Lib.hid (NE.out he)
     clear he NE EQ
     go_wp2
     go_region
     all_goals
      go_wp2
      go_ret
      exact ⟨by rw [E.out]; rfl,by first | exact BL.out.drew | exact BL.out⟩
    ·have E:=Lib.hid (NE.out he)
     clear he NE EQ
     go_wp2
     go_region
     all_goals
      go_wp2
      go_ret
      exact ⟨by rw [E.out]; rfl,by first | exact BL.out.drew | exact BL.out⟩
    ·have E:=Lib.hid (NE.out he)
     clear he NE EQ
     go_wp2
     go_region
     all_goals
      go_wp2
      go_ret
      exact ⟨by rw [E.out]; rfl,by first | exact BL.out.drew | exact BL.out⟩
   ·have E:=Lib.hid (show decide (la=lb)=true by
     have h1:=ht.out
     rw [List.take_of_length_le (by omega),List.take_of_length_le (by have:=L.out; omega)] at h1
     rw [decide_eq_true_eq]; exact h1)
    go_wp2
    go_ret
    exact ⟨by rw [E.out]; rfl,BL.out⟩
 ·have E:=Lib.hid (show decide (la=lb)=false by rw [decide_eq_false_iff_not]; rintro rfl; exact hlen rfl)
  have q:((la.length:Int)==(lb.length:Int))=false:=by simp; omega
  clear hlen
  go_enter Tryz.func52,Tryz.ntmps52
  go_wp2
  go_ret
  exact ⟨by rw [E.out]; rfl,Below.refl _ _⟩
end Go.Proofs.YtlbjjkbppbmihaaGreat
namespace Go.Proofs.YtlbjjkbppbmihaaGreat
open Go.RowKit
theorem run_slice_clip {P:Program} (w:World) (t e:TypeId) (sz:Nat) (ht:P.underlying t=some (.slice e)) (hs:(sizeOf e).run P w=.ok sz w) (b n cap:Nat) (h:n≤cap) :
  (Instr.sliceAt t (.slice (some ⟨b,0,none⟩) n cap) none (some (.int .i64 n)) (some (.int .i64 n))).run P w=.ok (.slice (some ⟨b,0,none⟩) n n) w:=by
 have he:P.elem t=e:=by simp [Program.elem,ht]
 simp [Instr.sliceAt,Instr.slice,run_underlying ht,Instr.sliceBounds,run_sliceBound,hs,h,Result.andThen,Addr.add]
theorem run_slice_clip_none {P:Program} (w:World) (t e:TypeId) (sz:Nat) (ht:P.underlying t=some (.slice e)) (hs:(sizeOf e).run P w=.ok sz w) :
  (Instr.sliceAt t (.slice none 0 0) none (some (.int .i64 0)) (some (.int .i64 0))).run P w=.ok (.slice none 0 0) w:=by
 simp [Instr.sliceAt,Instr.slice,run_underlying ht,Instr.sliceBounds,run_sliceBound,hs,Result.andThen,Addr.add]
def Rowed (w:World) (base:Nat) (e:TypeId) (size:Nat) (v:Value) (n:Nat) (xs:List Value):Prop :=
 xs.length=n * size∧((v=.slice none 0 0∧n=0)∨∃ g cur,v=.slice (some ⟨g,0,none⟩) n n∧base≤g∧w.heap[g]? = some (.cells cur e (0,0))∧n≤maxLen∧n * size≤cur.size∧cur.toList.take (n * size)=xs)
theorem Rowed.keep {S:Nat→Prop} {w w':World} {base:Nat} {e:TypeId} {size:Nat} {v:Value} {n:Nat} {xs:List Value} (h:Rowed w base e size v n xs) (k:Keep S w w') (hs:∀ b,v.ownBlock=some b→¬ S b):Rowed w' base e size v n xs:=by
 obtain ⟨h1,h2⟩:=h
 refine ⟨h1,?_⟩
 rcases h2 with h2 | ⟨g,cur,rfl,hb,hg,hr⟩
 ·exact .inl h2
 ·refine .inr ⟨g,cur,rfl,hb,?_,hr⟩
  rw [k.block g (lt_of_block hg) (hs g rfl)]
  exact hg
theorem Rowed.below {w w':World} {base:Nat} {e:TypeId} {size:Nat} {v:Value} {n:Nat} {xs:List Value} (h:Rowed w base e size v n xs) (k:Below w.heap.size w w'):Rowed w' base e size v n xs :=
 h.keep (Keep.of_below (S:=fun _=>False) k) (fun _ _=>id)
theorem Rowed.base {w:World} {base b':Nat} {e:TypeId} {size:Nat} {v:Value} {n:Nat} {xs:List Value} (h:Rowed w base e size v n xs) (hb:b'≤base):Rowed w b' e size v n xs:=by
 obtain ⟨h1,h2⟩:=h
 refine ⟨h1,?_⟩
 rcases h2 with h2 | ⟨g,cur,hv,hg,hr⟩
 ·exact .inl h2
 ·exact .inr ⟨g,cur,hv,Nat.le_trans hb hg,hr⟩
theorem Rowed.type {w:World} {base:Nat} {e:TypeId} {size:Nat} {v:Value} {n:Nat} {xs:List Value} (h:Rowed w base e size v n xs) {b:Nat} (hb:v.ownBlock=some b):base≤b∧b<w.heap.size∧∃ cur,w.heap[b]? = some (.cells cur e (0,0)):=by
 obtain ⟨_,h2⟩:=h
 rcases h2 with ⟨rfl,_⟩ | ⟨g,cur,rfl,hge,hg,_⟩
 ·cases hb
 ·cases hb; exact ⟨hge,lt_of_block hg,cur,hg⟩
theorem Rowed.reads {w:World} {base:Nat} {e:TypeId} {size:Nat} {v:Value} {n:Nat} {xs:List Value} (h:Rowed w base e size v n xs) (hn:n≤100000000):Reads w v size n xs:=by
 obtain ⟨h1,h2⟩:=h
 rcases h2 with ⟨rfl,rfl⟩ | ⟨g,cur,rfl,_,hg,_,hc,ht⟩
 ·exact ⟨none,0,rfl,by omega,h1,fun h=>by omega⟩
 ·refine ⟨_,n,rfl,hn,h1,fun hp=>⟨g,0,rfl,lt_of_block hg,fun j hj=>?_⟩⟩
  rw [Nat.zero_add]
  show w.cell? ⟨g,j,none⟩=_
  simp only [World.cell?,hg,Option.isSome_none,Bool.false_eq_true,if_false]
  rw [← ht,List.getElem?_take_of_lt hj,Array.getElem?_toList]
def ClipPost (w:World) (base:Nat) (e:TypeId) (size n:Nat) (v:Value) (xs:List Value) (en:Ending) (w':World):Prop :=
 ∃ v',en=.returned v'∧Rowed w' base e size v' n xs∧v'.ownBlock=v.ownBlock∧w'=w
def ListPost (w:World) (e:TypeId) (size n:Nat) (xs:List Value) (en:Ending) (w':World):Prop :=
 ∃ v',en=.returned v'∧Rowed w' w.heap.size e size v' n xs∧Below w.heap.size w w'
end Go.Proofs.YtlbjjkbppbmihaaGreat
namespace Go.Proofs.YtlbjjkbppbmihaaGreat
open Go.RowKit
def Twinned (w:World) (base g:Nat) (e:TypeId) (size n:Nat) (xs marks:List Value):Prop:=w.ownsRow base e size (.slice (some ⟨g,0,none⟩) (n + 2) (n + 2)) (n + 2) (xs++marks)
theorem Twinned.cells {w:World} {base g:Nat} {e:TypeId} {size n:Nat} {xs marks:List Value} (h:Twinned w base g e size n xs marks):g<w.heap.size∧∀ j,j<(n + 2) * size→w.cell? ⟨g,j,none⟩=(xs++marks)[j]? := by
 obtain ⟨ao,cap,hv,_,_,_,hr⟩:=owns_open h
 cases hv
 obtain ⟨b,hb,_,hlt,hc,_⟩:=hr (by omega)
 cases hb
 exact ⟨hlt,hc⟩
end Go.Proofs.YtlbjjkbppbmihaaGreat
