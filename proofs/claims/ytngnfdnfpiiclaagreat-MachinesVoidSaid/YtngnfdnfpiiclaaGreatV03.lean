/-
  Pieces of one proof, without what is not wanted: Same, Flw, Ref05, GraphMath, RndMath, LeastMath.
-/
import Derived.Test.YtngnfdnfpiiclaaGreatV01
import Derived.Test.YtngnfdnfpiiclaaGreatV02
import Derived.OwnWalk
import Derived.BigQuiet
import Derived.Laws.AppendOwnNone
set_option linter.unusedSimpArgs false
set_option linter.unusedVariables false
namespace Go.Proofs.YtngnfdnfpiiclaaGreat
open Go.RowKit
def Reads (w:World) (v:Value) (size n:Nat) (xs:List Value):Prop :=
 ∃ (ao:Option Addr) (cap:Nat),v=.slice ao n cap∧n≤100000000∧xs.length=n * size∧(0<n→∃ b off,ao=some ⟨b,off,none⟩∧b<w.heap.size∧∀ j,j<n * size→w.cell? ⟨b,off + j,none⟩=xs[j]?)
theorem Reads.of_owns {w:World} {base:Nat} {e:TypeId} {size:Nat} {v:Value} {n:Nat} {xs:List Value} (h:w.ownsRow base e size v n xs) (hn:n≤100000000):Reads w v size n xs:=by
 obtain ⟨ao,cap,rfl,_,_,h3,h4⟩:=owns_open h
 refine ⟨ao,cap,rfl,hn,h3,fun hp=>?_⟩
 obtain ⟨b,rfl,_,hb,hc,_⟩:=h4 hp
 exact ⟨b,0,rfl,hb,fun j hj=>by rw [Nat.zero_add]; exact hc j hj⟩
theorem Reads.keep {S:Nat→Prop} {w w':World} {v:Value} {size n:Nat} {xs:List Value} (h:Reads w v size n xs) (k:Keep S w w') (hs:∀ b,v.ownBlock=some b→¬ S b):Reads w' v size n xs:=by
 obtain ⟨ao,cap,rfl,h1,h2,h3⟩:=h
 refine ⟨ao,cap,rfl,h1,h2,fun hp=>?_⟩
 obtain ⟨b,off,rfl,hb,hc⟩:=h3 hp
 exact ⟨b,off,rfl,Nat.lt_of_lt_of_le hb k.size,fun j hj=>by rw [k.cell (p:=⟨b,off + j,none⟩) hb (hs b rfl)]; exact hc j hj⟩
theorem Reads.below {w w':World} {v:Value} {size n:Nat} {xs:List Value} (h:Reads w v size n xs) (k:Below w.heap.size w w'):Reads w' v size n xs :=
 h.keep (Keep.of_below (S:=fun _=>False) k) (fun _ _=>id)
theorem take_eq_next {α:Type} {l m:List α} {k:Nat} (h:k<l.length) (hm:k<m.length) (he:l.take k=m.take k) (hx:l[k]=m[k]):l.take (k + 1)=m.take (k + 1):=by
 rw [List.take_succ_eq_append_getElem h,List.take_succ_eq_append_getElem hm,he,hx]
end Go.Proofs.YtngnfdnfpiiclaaGreat
namespace Go.Proofs.YtngnfdnfpiiclaaGreat
open Go.RowKit
theorem run_slice_clip {P:Program} (w:World) (t e:TypeId) (sz:Nat) (ht:P.underlying t=some (.slice e)) (hs:(sizeOf e).run P w=.ok sz w) (b n cap:Nat) (h:n≤cap) :
  (Instr.sliceAt t (.slice (some ⟨b,0,none⟩) n cap) none (some (.int .i64 n)) (some (.int .i64 n))).run P w=.ok (.slice (some ⟨b,0,none⟩) n n) w:=by
 have he:P.elem t=e:=by simp [Program.elem,ht]
 simp [Instr.sliceAt,Instr.slice,run_underlying ht,Instr.sliceBounds,run_sliceBound,hs,h,Result.andThen,Addr.add]
theorem run_slice_clip_none {P:Program} (w:World) (t e:TypeId) (sz:Nat) (ht:P.underlying t=some (.slice e)) (hs:(sizeOf e).run P w=.ok sz w) :
  (Instr.sliceAt t (.slice none 0 0) none (some (.int .i64 0)) (some (.int .i64 0))).run P w=.ok (.slice none 0 0) w:=by
 simp [Instr.sliceAt,Instr.slice,run_underlying ht,Instr.sliceBounds,run_sliceBound,hs,Result.andThen,Addr.add]
def Rowed (w:World) (base:Nat) (e:TypeId) (size:Nat) (v:Value) (n:Nat) (xs:List Value):Prop :=
 xs.length=n * size∧((v=.slice none 0 0∧n=0)∨∃ g cur,v=.slice (some ⟨g,0,none⟩) n n∧base≤g∧w.heap[g]? = some (.cells cur e (0,0))∧n≤maxLen∧n * size≤cur.size∧cur.toList.take (n * size)=xs)
theorem Rowed.keep {S:Nat→Prop} {w w':World} {base:Nat} {e:TypeId} {size:Nat} {v:Value} {n:Nat} {xs:List Value} (h:Rowed w base e size v n xs) (k:Keep S w w') (hs:∀ b,v.ownBlock=some b→¬ S b):Rowed w' base e size v n xs:=by
 obtain ⟨h1,h2⟩:=h
 refine ⟨h1,?_⟩
 rcases h2 with h2 | ⟨g,cur,rfl,hb,hg,hr⟩
 ·exact .inl h2
 ·refine .inr ⟨g,cur,rfl,hb,?_,hr⟩
  rw [k.block g (lt_of_block hg) (hs g rfl)]
  exact hg
theorem Rowed.below {w w':World} {base:Nat} {e:TypeId} {size:Nat} {v:Value} {n:Nat} {xs:List Value} (h:Rowed w base e size v n xs) (k:Below w.heap.size w w'):Rowed w' base e size v n xs :=
 h.keep (Keep.of_below (S:=fun _=>False) k) (fun _ _=>id)
theorem Rowed.base {w:World} {base b':Nat} {e:TypeId} {size:Nat} {v:Value} {n:Nat} {xs:List Value} (h:Rowed w base e size v n xs) (hb:b'≤base):Rowed w b' e size v n xs:=by
 obtain ⟨h1,h2⟩:=h
 refine ⟨h1,?_⟩
 rcases h2 with h2 | ⟨g,cur,hv,hg,hr⟩
 ·exact .inl h2
 ·exact .inr ⟨g,cur,hv,Nat.le_trans hb hg,hr⟩
theorem Rowed.type {w:World} {base:Nat} {e:TypeId} {size:Nat} {v:Value} {n:Nat} {xs:List Value} (h:Rowed w base e size v n xs) {b:Nat} (hb:v.ownBlock=some b):base≤b∧b<w.heap.size∧∃ cur,w.heap[b]? = some (.cells cur e (0,0)):=by
 obtain ⟨_,h2⟩:=h
 rcases h2 with ⟨rfl,_⟩ | ⟨g,cur,rfl,hge,hg,_⟩
 ·cases hb
 ·cases hb; exact ⟨hge,lt_of_block hg,cur,hg⟩
theorem Rowed.reads {w:World} {base:Nat} {e:TypeId} {size:Nat} {v:Value} {n:Nat} {xs:List Value} (h:Rowed w base e size v n xs) (hn:n≤100000000):Reads w v size n xs:=by
 obtain ⟨h1,h2⟩:=h
 rcases h2 with ⟨rfl,rfl⟩ | ⟨g,cur,rfl,_,hg,_,hc,ht⟩
 ·exact ⟨none,0,rfl,by omega,h1,fun h=>by omega⟩
 ·refine ⟨_,n,rfl,hn,h1,fun hp=>⟨g,0,rfl,lt_of_block hg,fun j hj=>?_⟩⟩
  rw [Nat.zero_add]
  show w.cell? ⟨g,j,none⟩=_
  simp only [World.cell?,hg,Option.isSome_none,Bool.false_eq_true,if_false]
  rw [← ht,List.getElem?_take_of_lt hj,Array.getElem?_toList]
def ClipPost (w:World) (base:Nat) (e:TypeId) (size n:Nat) (v:Value) (xs:List Value) (en:Ending) (w':World):Prop :=
 ∃ v',en=.returned v'∧Rowed w' base e size v' n xs∧v'.ownBlock=v.ownBlock∧w'=w
def ListPost (w:World) (e:TypeId) (size n:Nat) (xs:List Value) (en:Ending) (w':World):Prop :=
 ∃ v',en=.returned v'∧Rowed w' w.heap.size e size v' n xs∧Below w.heap.size w w'
end Go.Proofs.YtngnfdnfpiiclaaGreat
namespace Go.Proofs.YtngnfdnfpiiclaaGreat
open Go.RowKit
def Twinned (w:World) (base g:Nat) (e:TypeId) (size n:Nat) (xs marks:List Value):Prop:=w.ownsRow base e size (.slice (some ⟨g,0,none⟩) (n + 2) (n + 2)) (n + 2) (xs++marks)
theorem Twinned.cells {w:World} {base g:Nat} {e:TypeId} {size n:Nat} {xs marks:List Value} (h:Twinned w base g e size n xs marks):g<w.heap.size∧∀ j,j<(n + 2) * size→w.cell? ⟨g,j,none⟩=(xs++marks)[j]? := by
 obtain ⟨ao,cap,hv,_,_,_,hr⟩:=owns_open h
 cases hv
 obtain ⟨b,hb,_,hlt,hc,_⟩:=hr (by omega)
 cases hb
 exact ⟨hlt,hc⟩
end Go.Proofs.YtngnfdnfpiiclaaGreat
namespace Go.Proofs.YtngnfdnfpiiclaaGreat
open Go.RowKit
structure Fw where
 fr:Int
 tt:Int
 am:Int
deriving DecidableEq
def Fw.vals (x:Fw):List Value:=[.int .u8 x.fr,.int .u8 x.tt,.int .i64 x.am]
theorem Fw.vals_len (x:Fw):x.vals.length=3:=rfl
def fwCells (ls:List Fw):List Value:=ls.flatMap Fw.vals
def Fw.val (x:Fw):Value:=.agg #[.int .u8 x.fr,.int .u8 x.tt,.int .i64 x.am]
theorem fwCells_len (ls:List Fw):(fwCells ls).length=ls.length * 3:=flat_len _ 3 Fw.vals_len ls
theorem fwCells_get (ls:List Fw) (i j:Nat) (hj:j<3) (h:i<ls.length):(fwCells ls)[i * 3 + j]? = ls[i].vals[j]? := by
 unfold fwCells
 rw [flat_get _ 3 Fw.vals_len ls i j hj,List.getElem?_eq_getElem h]
 rfl
structure Fw.Fits (x:Fw):Prop where
 fr:In8 x.fr
 tt:In8 x.tt
 am:In64 x.am
theorem info_fw:(Tryz.prog.info? 209).map (fun i=>(i.zero,i.size,i.bytes))=some (some (Fw.val ⟨0,0,0⟩),3,16):=by kernel_rfl
end Go.Proofs.YtngnfdnfpiiclaaGreat
namespace Go.Proofs.YtngnfdnfpiiclaaGreat
open Go.RowKit
structure RefG (w:World) (base g:Nat) (es:List Fw) (vl:Value):Prop where
 blk:Blk w g #[vl] 248
 ge:base≤g
 row:w.ownsRow base 209 3 vl es.length (fwCells es)
end Go.Proofs.YtngnfdnfpiiclaaGreat
namespace Go.Proofs.YtngnfdnfpiiclaaGreat
open Go.RowKit
end Go.Proofs.YtngnfdnfpiiclaaGreat
namespace Go.Proofs.YtngnfdnfpiiclaaGreat
def inP (p:Int):Prop:=1≤p∧p≤16
def updE (f:Int→Int→Int) (a b n p q:Int):Int:=if p=a∧q=b then n else f p q
structure GInv (f:Int→Int→Int) (B:Int):Prop where
 nn:∀ p q,0≤f p q
 pair:∀ p q,f p q + f q p≤B
 out:∀ p q,¬ (inP p∧inP q)→f p q=0
 self:∀ p,f p p=0
theorem GInv.le {f:Int→Int→Int} {B:Int} (h:GInv f B) (p q:Int):f p q≤B:=by have:=h.pair p q; have:=h.nn q p; omega
theorem GInv.ends {f:Int→Int→Int} {B:Int} (h:GInv f B) {p q:Int} (h0:0<f p q):inP p∧inP q∧p≠q:=by
 by_cases hi:inP p∧inP q
 ·refine ⟨hi.1,hi.2,?_⟩
  rintro rfl
  have:=h.self p
  omega
 ·have:=h.out p q hi; omega
def zeroF (_ _:Int):Int:=0
theorem GInv.zero {B:Int} (h:0≤B):GInv zeroF B:=⟨fun _ _=>Int.le_refl _,fun _ _=>by unfold zeroF; omega,fun _ _ _=>rfl,fun _=>rfl⟩
def pushF (f:Int→Int→Int) (a b n p q:Int):Int:=if p=b∧q=a then f b a + n else if p=a∧q=b then f a b - n else f p q
theorem GInv.push {f:Int→Int→Int} {B:Int} (h:GInv f B) {a b n:Int} (h1:1≤n) (h2:n≤f a b):GInv (pushF f a b n) B:=by
 obtain ⟨ha,hb,hne⟩:=h.ends (p:=a) (q:=b) (by omega)
 have hba:=h.nn b a
 refine ⟨fun p q=>?_,fun p q=>?_,fun p q hi=>?_,fun p=>?_⟩
 ·unfold pushF
  have:=h.nn p q
  split
  ·omega
  ·split <;> omega
 ·have hp:=h.pair p q
  have hab:=h.pair a b
  by_cases c1:p=b∧q=a
  ·obtain ⟨rfl,rfl⟩:=c1
   have e1:pushF f q p n p q=f p q + n:=by unfold pushF; rw [if_pos ⟨rfl,rfl⟩]
   have e2:pushF f q p n q p=f q p - n:=by unfold pushF; rw [if_neg (fun e=>hne e.1),if_pos ⟨rfl,rfl⟩]
   omega
  ·by_cases c2:p=a∧q=b
   ·obtain ⟨rfl,rfl⟩:=c2
    have e1:pushF f p q n p q=f p q - n:=by unfold pushF; rw [if_neg (fun e=>hne e.1),if_pos ⟨rfl,rfl⟩]
    have e2:pushF f p q n q p=f q p + n:=by unfold pushF; rw [if_pos ⟨rfl,rfl⟩]
    omega
   ·have e1:pushF f a b n p q=f p q:=by unfold pushF; rw [if_neg c1,if_neg c2]
    have e2:pushF f a b n q p=f q p:=by unfold pushF; rw [if_neg (fun e=>c2 ⟨e.2,e.1⟩),if_neg (fun e=>c1 ⟨e.2,e.1⟩)]
    omega
 ·unfold pushF
  rw [if_neg (fun e=>hi ⟨by rw [e.1]; exact hb,by rw [e.2]; exact ha⟩),if_neg (fun e=>hi ⟨by rw [e.1]; exact ha,by rw [e.2]; exact hb⟩)]
  exact h.out p q hi
 ·unfold pushF
  rw [if_neg (fun e=>hne (e.2.symm.trans e.1)),if_neg (fun e=>hne (e.1.symm.trans e.2))]
  exact h.self p
end Go.Proofs.YtngnfdnfpiiclaaGreat
namespace Go.Proofs.YtngnfdnfpiiclaaGreat
structure Ed where
 fr:Int
 tt:Int
 co:Int
structure BF where
 far:Int→Int
 ahd:Int→Int
 pt:Int
 t:Int→Nat
 w:Int→Int
def upI (f:Int→Int) (a x:Int):Int→Int:=fun p=>if p=a then x else f p
theorem upI_same (f:Int→Int) (a x:Int):upI f a x a=x:=by simp [upI]
theorem upI_ne (f:Int→Int) {a x p:Int} (h:p≠a):upI f a x p=f p:=by simp [upI,h]
def okEd (e:Ed):Prop:=inP e.fr∧inP e.tt
instance (p:Int):Decidable (inP p):=by unfold inP; infer_instance
instance (e:Ed):Decidable (okEd e):=by unfold okEd; infer_instance
def stepE (n:Nat) (s:BF) (e:Ed):BF :=
 if okEd e∧s.far e.fr + e.co<s.far e.tt then ⟨upI s.far e.tt (s.far e.fr + e.co),upI s.ahd e.tt e.fr,e.tt,fun p=>if p=e.tt then n else s.t p,upI s.w e.tt e.co⟩ else s
def initB:BF:=⟨fun _=>0,fun _=>0,0,fun _=>0,fun _=>0⟩
def passE (n:Nat) (es:List Ed) (s:BF):BF:=es.foldl (stepE n) { s with pt:=0 }
def passN (es:List Ed):Nat→BF
 | 0=>initB
 | n + 1=>passE (n + 1) es (passN es n)
def itr (f:Int→Int):Nat→Int→Int
 | 0,x=>x
 | k + 1,x=>itr f k (f x)
theorem itr_add (f:Int→Int):∀ (j k:Nat) (x:Int),itr f (j + k) x=itr f k (itr f j x)
 | 0,k,x=>by rw [Nat.zero_add]; rfl
 | j + 1,k,x=>by rw [Nat.add_right_comm]; exact itr_add f j k (f x)
theorem itr_succ (f:Int→Int) (k:Nat) (x:Int):itr f (k + 1) x=f (itr f k x):=itr_add f k 1 x
def sumI (f w:Int→Int):Nat→Int→Int
 | 0,_=>0
 | k + 1,x=>w x + sumI f w k (f x)
theorem sumI_add (f w:Int→Int):∀ (j k:Nat) (x:Int),sumI f w (j + k) x=sumI f w j x + sumI f w k (itr f j x)
 | 0,k,x=>by simp [sumI,itr]
 | j + 1,k,x=>by
  rw [Nat.add_right_comm]
  show w x + sumI f w (j + k) (f x)=(w x + sumI f w j (f x)) + sumI f w k (itr f j (f x))
  rw [sumI_add f w j k (f x)]
  omega
theorem itr_off {f w:Int→Int} {v u c:Int}:∀ (k:Nat) (x:Int),(∀ i,i<k→itr (upI f v u) i x≠v)→itr (upI f v u) k x=itr f k x∧sumI (upI f v u) (upI w v c) k x=sumI f w k x
 | 0,x,_=>⟨rfl,rfl⟩
 | k + 1,x,h=>by
  have hx:x≠v:=h 0 (by omega)
  have hf:upI f v u x=f x:=upI_ne f hx
  have ih:=itr_off (w:=w) (c:=c) k (f x) (fun i hi=>by
   have:=h (i + 1) (by omega)
   show itr (upI f v u) i (f x)≠v
   rw [← hf]; exact this)
  refine ⟨?_,?_⟩
  ·show itr (upI f v u) k (upI f v u x)=itr f k (f x)
   rw [hf]; exact ih.1
  ·show upI w v c x + sumI (upI f v u) (upI w v c) k (upI f v u x)=w x + sumI f w k (f x)
   rw [hf,upI_ne w hx,ih.2]
structure BInvE (es pre:List Ed) (n:Nat) (s:BF):Prop where
 a:∀ e ∈ es,okEd e→s.t e.fr + 1<n→s.far e.tt≤s.far e.fr + e.co
 b:∀ e ∈ pre,okEd e→s.t e.fr<n→s.far e.tt≤s.far e.fr + e.co
 le:∀ v,s.t v≤n
 pos:∀ v,1≤s.t v→inP v∧inP (s.ahd v)∧s.t v≤s.t (s.ahd v) + 1∧s.far (s.ahd v) + s.w v≤s.far v∧∃ e ∈ es,e.fr=s.ahd v∧e.tt=v∧e.co=s.w v
 zero:∀ v,s.t v=0→s.ahd v=0
 pt:s.pt≠0→s.t s.pt=n
 neg:∀ v k,1≤k→itr s.ahd k v=v→inP v→sumI s.ahd s.w k v<0
theorem BInvE.none {es pre:List Ed} {n:Nat} {s:BF} (h:BInvE es pre n s):s.ahd 0=0:=by
 refine h.zero 0 ?_
 rcases Nat.eq_zero_or_pos (s.t 0) with h0 | h0
 ·exact h0
 ·have:=(h.pos 0 h0).1.1
  omega
theorem BInvE.stay {es pre:List Ed} {n:Nat} {s:BF} (h:BInvE es pre n s):∀ k,itr s.ahd k 0=0
 | 0=>rfl
 | k + 1=>by
  show itr s.ahd k (s.ahd 0)=0
  rw [h.none]; exact h.stay k
theorem BInvE.chain {es pre:List Ed} {n:Nat} {s:BF} (h:BInvE es pre n s) {v:Int} (hv:inP v):∀ (m:Nat) (u:Int),itr s.ahd m u=v→s.far v + sumI s.ahd s.w m u≤s.far u
 | 0,u,hu=>by
  have:u=v:=hu
  subst this
  simp [sumI]
 | m + 1,u,hu=>by
  have hu':itr s.ahd m (s.ahd u)=v:=hu
  have h1:1≤s.t u:=by
   rcases Nat.eq_zero_or_pos (s.t u) with h0 | h0
   ·rw [h.zero u h0,h.stay m] at hu'
    have:=hv.1
    omega
   ·exact h0
  have h2:=(h.pos u h1).2.2.2.1
  have h3:=h.chain hv m (s.ahd u) hu'
  show s.far v + (s.w u + sumI s.ahd s.w m (s.ahd u))≤s.far u
  omega
theorem BInvE.step {es pre:List Ed} {n:Nat} {s:BF} (h:BInvE es pre n s) (hn:1≤n) {e:Ed} (he:e ∈ es):BInvE es (pre++[e]) n (stepE n s e):=by
 by_cases hc:okEd e∧s.far e.fr + e.co<s.far e.tt
 ·have hs:stepE n s e=⟨upI s.far e.tt (s.far e.fr + e.co),upI s.ahd e.tt e.fr,e.tt,fun p=>if p=e.tt then n else s.t p,upI s.w e.tt e.co⟩:=by unfold stepE; rw [if_pos hc]
  obtain ⟨hok,hlt⟩:=hc
  have htu:n≤s.t e.fr + 1:=by
   rcases Nat.lt_or_ge (s.t e.fr + 1) n with h1 | h1
   ·have:=h.a e he hok h1
    omega
   ·exact h1
  have fle:∀ x,upI s.far e.tt (s.far e.fr + e.co) x≤s.far x:=fun x=>by
   by_cases hx:x=e.tt
   ·subst hx; rw [upI_same]; omega
   ·rw [upI_ne _ hx]; exact Int.le_refl _
  rw [hs]
  refine ⟨fun d hd hdo hdt=>?_,fun d hd hdo hdt=>?_,fun v=>?_,fun v hv=>?_,fun v hv=>?_,fun _=>?_,fun v k hk hit hv=>?_⟩
  ·dsimp only at hdt ⊢
   by_cases hx:d.fr=e.tt
   ·rw [if_pos hx] at hdt; omega
   ·rw [if_neg hx] at hdt
    rw [upI_ne _ hx]
    have:=h.a d hd hdo hdt
    have:=fle d.tt
    omega
  ·dsimp only at hdt ⊢
   by_cases hx:d.fr=e.tt
   ·rw [if_pos hx] at hdt; omega
   ·rw [if_neg hx] at hdt
    rw [upI_ne _ hx]
    rcases List.mem_append.1 hd with h1 | h1
    ·have:=h.b d h1 hdo hdt
     have:=fle d.tt
     omega
    ·rw [List.mem_singleton] at h1
     subst h1
     rw [upI_same]
     exact Int.le_refl _
  ·dsimp only
   split
   ·exact Nat.le_refl _
   ·exact h.le v
  ·dsimp only at hv ⊢
   by_cases hx:v=e.tt
   ·subst hx
    rw [upI_same,upI_same,upI_same,if_pos rfl]
    refine ⟨hok.2,hok.1,?_,?_,e,he,rfl,rfl,rfl⟩
    ·split
     ·omega
     ·omega
    ·by_cases hy:e.fr=e.tt
     ·rw [hy,upI_same]
      rw [hy] at hlt
      omega
     ·rw [upI_ne _ hy]; exact Int.le_refl _
   ·rw [if_neg hx] at hv
    rw [if_neg hx,upI_ne _ hx,upI_ne _ hx,upI_ne _ hx]
    obtain ⟨p1,p2,p3,p4,p5⟩:=h.pos v hv
    refine ⟨p1,p2,?_,?_,p5⟩
    ·split
     ·rename_i hy
      have:=h.le v
      omega
     ·exact p3
    ·have:=fle (s.ahd v)
     omega
  ·dsimp only at hv ⊢
   by_cases hx:v=e.tt
   ·rw [if_pos hx] at hv; omega
   ·rw [if_neg hx] at hv
    rw [upI_ne _ hx]; exact h.zero v hv
  ·dsimp only
   rw [if_pos rfl]
  ·dsimp only at hit ⊢
   -- a round that goes over the new step
   have negv:∀ k,1≤k→itr (upI s.ahd e.tt e.fr) k e.tt=e.tt→sumI (upI s.ahd e.tt e.fr) (upI s.w e.tt e.co) k e.tt<0:=by
    intro k
    induction k using Nat.strongRecOn with
    | _ k ih =>
     intro hk hit
     by_cases hm:∃ m,1≤m∧m<k∧itr (upI s.ahd e.tt e.fr) m e.tt=e.tt
     ·obtain ⟨m,m1,m2,m3⟩:=hm
      have hkm:k=m + (k - m):=by omega
      have h2:itr (upI s.ahd e.tt e.fr) (k - m) e.tt=e.tt:=by
       have:=itr_add (upI s.ahd e.tt e.fr) m (k - m) e.tt
       rw [← hkm,hit,m3] at this
       exact this.symm
      have h3:=sumI_add (upI s.ahd e.tt e.fr) (upI s.w e.tt e.co) m (k - m) e.tt
      rw [← hkm,m3] at h3
      have i1:=ih m m2 m1 m3
      have i2:=ih (k - m) (by omega) (by omega) h2
      omega
     ·match k,hk,hit with
      | k + 1,_,hit =>
       have hf:upI s.ahd e.tt e.fr e.tt=e.fr:=upI_same _ _ _
       have hit':itr (upI s.ahd e.tt e.fr) k e.fr=e.tt:=by
        have:itr (upI s.ahd e.tt e.fr) k (upI s.ahd e.tt e.fr e.tt)=e.tt:=hit
        rwa [hf] at this
       obtain ⟨o1,o2⟩:=itr_off (f:=s.ahd) (w:=s.w) (v:=e.tt) (u:=e.fr) (c:=e.co) k e.fr (fun i hi hz=>hm ⟨i + 1,by omega,by omega,by
        show itr (upI s.ahd e.tt e.fr) i (upI s.ahd e.tt e.fr e.tt)=e.tt
        rw [hf]; exact hz⟩)
       rw [hit'] at o1
       have hc:=h.chain hok.2 k e.fr o1.symm
       show upI s.w e.tt e.co e.tt + sumI (upI s.ahd e.tt e.fr) (upI s.w e.tt e.co) k (upI s.ahd e.tt e.fr e.tt)<0
       rw [hf,upI_same,o2]
       omega
   by_cases hex:∃ j,j<k∧itr (upI s.ahd e.tt e.fr) j v=e.tt
   ·obtain ⟨j,j1,j2⟩:=hex
    have h1:itr (upI s.ahd e.tt e.fr) k e.tt=e.tt:=by
     have a1:=itr_add (upI s.ahd e.tt e.fr) j k v
     have a2:=itr_add (upI s.ahd e.tt e.fr) k j v
     rw [j2] at a1
     rw [hit,j2] at a2
     rw [← a1,Nat.add_comm,a2]
    have b1:=sumI_add (upI s.ahd e.tt e.fr) (upI s.w e.tt e.co) j k v
    have b2:=sumI_add (upI s.ahd e.tt e.fr) (upI s.w e.tt e.co) k j v
    rw [j2] at b1
    rw [hit,Nat.add_comm] at b2
    have:=negv k hk h1
    omega
   ·obtain ⟨o1,o2⟩:=itr_off (f:=s.ahd) (w:=s.w) (v:=e.tt) (u:=e.fr) (c:=e.co) k v (fun i hi hz=>hex ⟨i,hi,hz⟩)
    rw [hit] at o1
    rw [o2]
    exact h.neg v k hk o1.symm hv
 ·have hs:stepE n s e=s:=by unfold stepE; rw [if_neg hc]
  rw [hs]
  refine ⟨h.a,fun d hd hdo hdt=>?_,h.le,h.pos,h.zero,h.pt,h.neg⟩
  rcases List.mem_append.1 hd with h1 | h1
  ·exact h.b d h1 hdo hdt
  ·rw [List.mem_singleton] at h1
   subst h1
   rcases Int.lt_or_le (s.far d.fr + d.co) (s.far d.tt) with h2 | h2
   ·exact absurd ⟨hdo,h2⟩ hc
   ·exact h2
theorem BInvE.start {es:List Ed} {n:Nat} {s:BF} (h:BInvE es es n s):BInvE es [] (n + 1) { s with pt:=0 } :=
 ⟨fun e he ho ht=>h.b e he ho (by have:s.t e.fr + 1<n + 1:=ht; omega),fun e he=>by simp at he,fun v=>Nat.le_succ_of_le (h.le v),h.pos,h.zero,fun hp=>absurd rfl hp,h.neg⟩
theorem BInvE.init (es:List Ed):BInvE es es 0 initB:=by
 refine ⟨fun e _ _ h=>by omega,fun e _ _ h=>by omega,fun v=>Nat.le_refl _,fun v h=>?_,fun v _=>rfl,fun h=>absurd rfl h,fun v k hk hit hv=>?_⟩
 ·have:(0:Nat) ≥ 1:=h; omega
 ·match k,hk with
  | k + 1,_ =>
   have h1:=itr_succ initB.ahd k v
   rw [hit] at h1
   have h2:v=0:=h1
   have:=hv.1
   omega
theorem BInvE.go {es:List Ed} {n:Nat} (hn:1≤n):∀ (l pre:List Ed) (s:BF),BInvE es pre n s→(∀ e ∈ l,e ∈ es)→BInvE es (pre++l) n (l.foldl (stepE n) s)
 | [],pre,s,h,_=>by rw [List.append_nil]; exact h
 | e::l,pre,s,h,hl=>by
  rw [List.foldl_cons,show pre++e::l=(pre++[e])++l by simp]
  exact BInvE.go hn l (pre++[e]) (stepE n s e) (h.step hn (hl e (List.mem_cons_self ..))) (fun d hd=>hl d (List.mem_cons_of_mem _ hd))
theorem passN_inv (es:List Ed):∀ n,BInvE es es n (passN es n)
 | 0=>BInvE.init es
 | n + 1=>by
  have:=BInvE.go (n:=n + 1) (by omega) es [] _ (passN_inv es n).start (fun e he=>he)
  rwa [List.nil_append] at this
theorem pigeon:∀ (n:Nat) (f:Nat→Nat),(∀ i,i≤n→f i<n)→∃ i j,i<j∧j≤n∧f i=f j
 | 0,f,h=>absurd (h 0 (Nat.le_refl _)) (by omega)
 | n + 1,f,h=>by
  by_cases hx:∃ i,i≤n∧f i=f (n + 1)
  ·obtain ⟨i,hi,he⟩:=hx
   exact ⟨i,n + 1,by omega,Nat.le_refl _,he⟩
  ·have hne:∀ i,i≤n→f i≠f (n + 1):=fun i hi he=>hx ⟨i,hi,he⟩
   have hlast:=h (n + 1) (Nat.le_refl _)
   obtain ⟨i,j,h1,h2,h3⟩:=pigeon n (fun i=>if f (n + 1)<f i then f i - 1 else f i) (fun i hi=>by
    have:=h i (by omega)
    have:=hne i hi
    try dsimp only
    split <;> omega)
   refine ⟨i,j,h1,by omega,?_⟩
   have a1:=hne i (by omega)
   have a2:=hne j (by omega)
   try dsimp only at h3
   split at h3 <;> split at h3 <;> omega
theorem round_found {es:List Ed} (h:(passN es 16).pt≠0):(∀ i,i≤16→inP (itr (passN es 16).ahd i (passN es 16).pt)) ∧
  ∃ k,1≤k∧k≤16∧itr (passN es 16).ahd k (itr (passN es 16).ahd 16 (passN es 16).pt)=itr (passN es 16).ahd 16 (passN es 16).pt:=by
 have hI:=passN_inv es 16
 generalize passN es 16=s at *
 have ht:=hI.pt h
 have key:∀ i,i≤16→16≤s.t (itr s.ahd i s.pt) + i:=by
  intro i
  induction i with
  | zero=>intro _; rw [show itr s.ahd 0 s.pt=s.pt from rfl,ht]; omega
  | succ i ih =>
   intro hi
   have h1:=ih (by omega)
   rw [itr_succ]
   have h2:=(hI.pos (itr s.ahd i s.pt) (by omega)).2.2.1
   omega
 have hin:∀ i,i≤16→inP (itr s.ahd i s.pt):=by
  intro i hi
  match i,hi with
  | 0,_=>exact (hI.pos s.pt (by omega)).1
  | i + 1,hi =>
   rw [itr_succ]
   exact (hI.pos (itr s.ahd i s.pt) (by have:=key i (by omega); omega)).2.1
 refine ⟨hin,?_⟩
 obtain ⟨i,j,h1,h2,h3⟩:=pigeon 16 (fun i=>(itr s.ahd i s.pt).toNat - 1) (fun i hi=>by
  have:=hin i hi
  unfold inP at this
  try dsimp only
  omega)
 have h4:itr s.ahd i s.pt=itr s.ahd j s.pt:=by
  have a:=hin i (by omega)
  have b:=hin j h2
  unfold inP at a b
  try dsimp only at h3
  omega
 refine ⟨j - i,by omega,by omega,?_⟩
 have e1:itr s.ahd 16 s.pt=itr s.ahd (16 - i) (itr s.ahd i s.pt):=by rw [← itr_add,show i + (16 - i)=16 by omega]
 have e2:itr s.ahd (j - i) (itr s.ahd i s.pt)=itr s.ahd i s.pt:=by rw [← itr_add,show i + (j - i)=j by omega,← h4]
 rw [e1,← itr_add,Nat.add_comm,itr_add,e2]
end Go.Proofs.YtngnfdnfpiiclaaGreat
namespace Go.Proofs.YtngnfdnfpiiclaaGreat
def wk (f:Int→Int→Int):Nat→Int→Int→Prop
 | 0,p,q=>p=q
 | n + 1,p,q=>∃ r,0<f p r∧wk f n r q
theorem wk_add {f:Int→Int→Int}:∀ {m n:Nat} {p r q:Int},wk f m p r→wk f n r q→wk f (m + n) p q
 | 0,n,p,r,q,h1,h2=>by
  have:p=r:=h1
  subst this
  rw [Nat.zero_add]; exact h2
 | m + 1,n,p,r,q,⟨x,h1,h3⟩,h2=>by
  rw [Nat.add_right_comm]
  exact ⟨x,h1,wk_add h3 h2⟩
theorem wk_one {f:Int→Int→Int} {p q:Int} (h:0<f p q):wk f 1 p q:=⟨q,h,rfl⟩
theorem wk_split {f:Int→Int→Int}:∀ {m n:Nat} {p q:Int},wk f (m + n) p q→∃ r,wk f m p r∧wk f n r q
 | 0,n,p,q,h=>⟨p,rfl,by rwa [Nat.zero_add] at h⟩
 | m + 1,n,p,q,h=>by
  rw [Nat.add_right_comm] at h
  obtain ⟨x,h1,h2⟩:=h
  obtain ⟨r,h3,h4⟩:=wk_split h2
  exact ⟨r,⟨x,h1,h3⟩,h4⟩
theorem wk_last {f:Int→Int→Int} {n:Nat} {p q:Int} (h:wk f (n + 1) p q):∃ r,wk f n p r∧0<f r q:=by
 obtain ⟨r,h1,x,h2,h3⟩:=wk_split (m:=n) (n:=1) h
 have:x=q:=h3
 subst this
 exact ⟨r,h1,h2⟩
def parts:List Int:=(List.range 16).map fun i:Nat=>(i:Int) + 1
theorem parts_mem {p:Int}:p ∈ parts↔inP p:=by
 unfold parts inP
 simp only [List.mem_map,List.mem_range]
 constructor
 ·rintro ⟨i,hi,rfl⟩; omega
 ·rintro ⟨h1,h2⟩; exact ⟨p.toNat - 1,by omega,by omega⟩
theorem parts_get (i:Nat) (h:i<parts.length):parts[i]=(i:Int) + 1:=by simp [parts]
theorem parts_len:parts.length=16:=by simp [parts]
def inS (f:Int→Int→Int) (p:Int):Nat→Int→Bool
 | 0,q=>q==p
 | n + 1,q=>inS f p n q || parts.any fun r=>inS f p n r && decide (0<f r q)
theorem inS_iff {f:Int→Int→Int} {B:Int} (h:GInv f B) (p:Int):∀ (n:Nat) (q:Int),inS f p n q=true↔∃ m,m≤n∧wk f m p q
 | 0,q=>by
  unfold inS
  rw [beq_iff_eq]
  constructor
  ·rintro rfl; exact ⟨0,Nat.le_refl _,rfl⟩
  ·rintro ⟨m,hm,hw⟩
   have:m=0:=by omega
   subst this
   exact (show p=q from hw).symm
 | n + 1,q=>by
  show (inS f p n q || parts.any fun r=>inS f p n r && decide (0<f r q))=true↔_
  rw [Bool.or_eq_true,List.any_eq_true]
  constructor
  ·rintro (h1 | ⟨r,hr,h2⟩)
   ·obtain ⟨m,hm,hw⟩:=(inS_iff h p n q).1 h1
    exact ⟨m,by omega,hw⟩
   ·rw [Bool.and_eq_true,decide_eq_true_eq] at h2
    obtain ⟨m,hm,hw⟩:=(inS_iff h p n r).1 h2.1
    exact ⟨m + 1,by omega,wk_add hw (wk_one h2.2)⟩
  ·rintro ⟨m,hm,hw⟩
   by_cases hmn:m≤n
   ·exact .inl ((inS_iff h p n q).2 ⟨m,hmn,hw⟩)
   ·have:m=n + 1:=by omega
    subst this
    obtain ⟨r,h1,h2⟩:=wk_last hw
    refine .inr ⟨r,parts_mem.2 (h.ends h2).1,?_⟩
    rw [Bool.and_eq_true,decide_eq_true_eq]
    exact ⟨(inS_iff h p n r).2 ⟨n,Nat.le_refl _,h1⟩,h2⟩
theorem inS_mono {f:Int→Int→Int} {p q:Int} {n m:Nat} (hn:n≤m) (h:inS f p n q=true):inS f p m q=true:=by
 induction m with
 | zero =>
      have:n=0:=by omega
      subst this; exact h
 | succ m ih =>
  by_cases hm:n≤m
  ·show (inS f p m q || _)=true
   rw [ih hm]; rfl
  ·have:n=m + 1:=by omega
   subst this; exact h
theorem wk_nodes {f:Int→Int→Int}:∀ {m:Nat} {p q:Int},wk f m p q↔∃ x:Nat→Int,x 0=p∧x m=q∧∀ i,i<m→0<f (x i) (x (i + 1))
 | 0,p,q=>by
  constructor
  ·intro h; exact ⟨fun _=>p,rfl,h,fun i hi=>by omega⟩
  ·rintro ⟨x,h1,h2,_⟩; exact h1.symm.trans h2
 | m + 1,p,q=>by
  constructor
  ·rintro ⟨r,h1,h2⟩
   obtain ⟨x,h3,h4,h5⟩:=wk_nodes.1 h2
   refine ⟨fun i=>match i with | 0=>p | i + 1=>x i,rfl,h4,fun i hi=>?_⟩
   match i with
   | 0=>show 0<f p (x 0); rw [h3]; exact h1
   | i + 1=>exact h5 i (by omega)
  ·rintro ⟨x,h1,h2,h3⟩
   refine ⟨x 1,?_,wk_nodes.2 ⟨fun i=>x (i + 1),rfl,h2,fun i hi=>h3 (i + 1) (by omega)⟩⟩
   rw [← h1]; exact h3 0 (by omega)
theorem wk_short {f:Int→Int→Int} {B:Int} (h:GInv f B) {p q:Int}:∀ (m:Nat),wk f m p q→∃ k,k≤15∧wk f k p q:=by
 intro m
 induction m using Nat.strongRecOn with
 | _ m ih =>
  intro hw
  by_cases hm:m≤15
  ·exact ⟨m,hm,hw⟩
  ·obtain ⟨x,h1,h2,h3⟩:=wk_nodes.1 hw
   have hin:∀ i,i≤16→inP (x i):=by
    intro i hi
    by_cases h0:i=0
    ·subst h0; exact (h.ends (h3 0 (by omega))).1
    ·have:=h3 (i - 1) (by omega)
     rw [show i - 1 + 1=i by omega] at this
     exact (h.ends this).2.1
   obtain ⟨i,j,c1,c2,c3⟩:=pigeon 16 (fun i=>(x i).toNat - 1) (fun i hi=>by
    have:=hin i hi
    unfold inP at this
    try dsimp only
    omega)
   have hij:x i=x j:=by
    have a:=hin i (by omega)
    have b:=hin j c2
    unfold inP at a b
    try dsimp only at c3
    omega
   have hw':wk f (m - (j - i)) p q:=by
    refine wk_nodes.2 ⟨fun k=>if k≤i then x k else x (k + (j - i)),?_,?_,fun k hk=>?_⟩
    ·try dsimp only
     rw [if_pos (by omega)]; exact h1
    ·try dsimp only
     by_cases hz:m - (j - i)≤i
     ·rw [if_pos hz,← h2]
      have:m=j:=by omega
      rw [show m - (j - i)=i by omega,this]; exact hij
     ·rw [if_neg hz,← h2]
      congr 1
      omega
    ·try dsimp only
     by_cases k1:k + 1≤i
     ·rw [if_pos (by omega),if_pos k1]; exact h3 k (by omega)
     ·rw [if_neg k1]
      by_cases k2:k≤i
      ·have:k=i:=by omega
       subst this
       rw [if_pos k2,hij,show k + 1 + (j - k)=j + 1 by omega]
       exact h3 j (by omega)
      ·rw [if_neg k2,show k + 1 + (j - i)=(k + (j - i)) + 1 by omega]
       exact h3 (k + (j - i)) (by omega)
   exact ih (m - (j - i)) (by omega) hw'
theorem inS_all {f:Int→Int→Int} {B:Int} (h:GInv f B) {p q:Int} {m:Nat} (hw:wk f m p q):inS f p 15 q=true:=by
 obtain ⟨k,h1,h2⟩:=wk_short h m hw
 exact (inS_iff h p 15 q).2 ⟨k,h1,h2⟩
def dst (f:Int→Int→Int) (p q:Int):Nat:=((List.range 17).find? fun n=>inS f p n q).getD 0
theorem dst_eq {f:Int→Int→Int} {p q:Int} {n:Nat} (hn:n≤16) (h:inS f p n q=true) (hm:∀ m,m<n→inS f p m q=false):dst f p q=n:=by
 unfold dst
 have:(List.range 17).find? (fun n=>inS f p n q)=some n:=by
  rw [List.find?_eq_some_iff_getElem]
  refine ⟨h,n,by simp; omega,by simp,fun j hj=>?_⟩
  simp [hm j hj]
 rw [this]
 rfl
theorem dst_spec {f:Int→Int→Int} {p q:Int} (h:inS f p 16 q=true):inS f p (dst f p q) q=true∧dst f p q≤16∧∀ m,m<dst f p q→inS f p m q=false:=by
 have key:∀ n,n≤16→inS f p n q=true→∃ k,k≤n∧inS f p k q=true∧∀ m,m<k→inS f p m q=false:=by
  intro n
  induction n using Nat.strongRecOn with
  | _ n ih =>
   intro hn h1
   by_cases hx:∃ m,m<n∧inS f p m q=true
   ·obtain ⟨m,m1,m2⟩:=hx
    obtain ⟨k,k1,k2⟩:=ih m m1 (by omega) m2
    exact ⟨k,by omega,k2⟩
   ·refine ⟨n,Nat.le_refl _,h1,fun m hm=>?_⟩
    cases hb:inS f p m q with
    | false=>rfl
    | true=>exact absurd ⟨m,hm,hb⟩ hx
 obtain ⟨k,k1,k2,k3⟩:=key 16 (Nat.le_refl _) h
 rw [dst_eq k1 k2 k3]
 exact ⟨k2,k1,k3⟩
def nxt (f:Int→Int→Int) (b:Int) (n:Nat) (p:Int):Int:=(parts.find? fun q=>decide (0<f p q) && inS f q n b).getD 0
def goS (f:Int→Int→Int) (b:Int):Nat→Int→List Int
 | 0,p=>[p]
 | n + 1,p=>p::goS f b n (nxt f b n p)
def shortW (f:Int→Int→Int) (a b:Int):List Int:=if inP a∧inP b∧a≠b∧inS f a 16 b=true then goS f b (dst f a b) a else []
theorem goS_len (f:Int→Int→Int) (b:Int):∀ (n:Nat) (p:Int),(goS f b n p).length=n + 1
 | 0,p=>rfl
 | n + 1,p=>by show (goS f b n _).length + 1=_; rw [goS_len f b n]
theorem parts_find {q:Int→Bool} {x:Int} (hx:inP x) (h:q x=true) (hm:∀ y,inP y→y<x→q y=false):parts.find? q=some x:=by
 rw [List.find?_eq_some_iff_getElem]
 have hx':=hx
 unfold inP at hx'
 refine ⟨h,x.toNat - 1,by unfold parts; simp; omega,by unfold parts; simp; omega,fun j hj=>?_⟩
 have:q (parts[j]'(by unfold parts; simp; omega))=false:=by
  refine hm _ ?_ ?_
  ·unfold parts inP; simp; omega
  ·unfold parts; simp; omega
 simp [this]
theorem nxt_spec {f:Int→Int→Int} {B:Int} (h:GInv f B) {p b:Int} {n:Nat} (h1:inS f p (n + 1) b=true) (h2:inS f p n b=false) (hb:∀ m,m≤n→inS f p m b=false) :
  inP (nxt f b n p)∧0<f p (nxt f b n p)∧inS f (nxt f b n p) n b=true∧(∀ m,m<n→inS f (nxt f b n p) m b=false)∧∀ y,inP y→y<nxt f b n p→¬ (0<f p y∧inS f y n b=true):=by
 obtain ⟨m,hm,hw⟩:=(inS_iff h p (n + 1) b).1 h1
 have hmn:m=n + 1:=by
  rcases Nat.lt_or_ge n m with h3 | h3
  ·omega
  ·have:=(inS_iff h p n b).2 ⟨m,h3,hw⟩
   rw [h2] at this; cases this
 subst hmn
 obtain ⟨r,r1,r2⟩:=hw
 have hr:(decide (0<f p r) && inS f r n b)=true:=by
  rw [Bool.and_eq_true,decide_eq_true_eq]
  exact ⟨r1,(inS_iff h r n b).2 ⟨n,Nat.le_refl _,r2⟩⟩
 cases hf:parts.find? fun q=>decide (0<f p q) && inS f q n b with
 | none =>
  have:=List.find?_eq_none.1 hf r (parts_mem.2 (h.ends r1).2.1)
  exact absurd hr this
 | some x =>
  have hx:nxt f b n p=x:=by unfold nxt; rw [hf]; rfl
  rw [hx]
  obtain ⟨hq,i,hi,hxi,hlt⟩:=List.find?_eq_some_iff_getElem.1 hf
  rw [Bool.and_eq_true,decide_eq_true_eq] at hq
  have hinx:inP x:=parts_mem.1 (List.mem_of_find?_eq_some hf)
  refine ⟨hinx,hq.1,hq.2,fun m hm=>?_,fun y hy hyx hc=>?_⟩
  ·cases hc:inS f x m b with
   | false=>rfl
   | true =>
    obtain ⟨k,k1,k2⟩:=(inS_iff h x m b).1 hc
    have:=(inS_iff h p (m + 1) b).2 ⟨k + 1,by omega,x,hq.1,k2⟩
    rw [hb (m + 1) (by omega)] at this
    cases this
  ·unfold inP at hy hinx
   have hpi:=parts_get i hi
   rw [parts_len] at hi
   have hj:y.toNat - 1<i:=by omega
   have:=hlt (y.toNat - 1) hj
   have hy2:parts[y.toNat - 1]'(by rw [parts_len]; omega)=y:=by rw [parts_get]; omega
   rw [hy2] at this
   simp [hc.1,hc.2] at this
end Go.Proofs.YtngnfdnfpiiclaaGreat
namespace Go.Proofs.YtngnfdnfpiiclaaGreat
def cycK (f:Int→Int) (a:Int):Nat:=(((List.range 16).map (· + 1)).find? fun k=>itr f k a==a).getD 0
theorem cycK_spec {f:Int→Int} {a:Int} (h:∃ k,1≤k∧k≤16∧itr f k a=a):1≤cycK f a∧cycK f a≤16∧itr f (cycK f a) a=a∧∀ i,1≤i→i<cycK f a→itr f i a≠a:=by
 obtain ⟨k,k1,k2,k3⟩:=h
 unfold cycK
 cases hf:((List.range 16).map (· + 1)).find? fun k=>itr f k a==a with
 | none =>
  have:=List.find?_eq_none.1 hf k (List.mem_map.2 ⟨k - 1,by simp; omega,by omega⟩)
  simp [k3] at this
 | some x =>
  obtain ⟨hq,i,hi,hxi,hlt⟩:=List.find?_eq_some_iff_getElem.1 hf
  have hx:x=i + 1:=by rw [← hxi]; simp
  have hi16:i<16:=by simpa using hi
  refine ⟨by show 1≤x; omega,by show x≤16; omega,by simpa using hq,fun j j1 j2=>?_⟩
  have j3:j<x:=j2
  have:=hlt (j - 1) (by omega)
  simp only [List.getElem_map,List.getElem_range] at this
  rw [show j - 1 + 1=j by omega] at this
  simpa using this
theorem itr_inj {f:Int→Int} {a:Int} {K:Nat} (hK:itr f K a=a) (hm:∀ i,1≤i→i<K→itr f i a≠a) {i k:Nat} (hi:1≤i) (hik:i<k) (hk:k≤K):itr f i a≠itr f k a:=by
 intro h
 refine hm (i + (K - k)) (by omega) (by omega) ?_
 rw [itr_add,h,← itr_add,show k + (K - k)=K by omega,hK]
def leastC (f:Int→Int) (a:Int):Nat→Int
 | 0=>a
 | n + 1=>min (leastC f a n) (itr f (n + 1) a)
theorem leastC_mem (f:Int→Int) (a:Int):∀ n,∃ i,i≤n∧leastC f a n=itr f i a
 | 0=>⟨0,Nat.le_refl _,rfl⟩
 | n + 1=>by
  obtain ⟨i,hi,he⟩:=leastC_mem f a n
  by_cases h:leastC f a n≤itr f (n + 1) a
  ·exact ⟨i,by omega,by show min _ _=_; rw [Int.min_eq_left h]; exact he⟩
  ·exact ⟨n + 1,Nat.le_refl _,by show min _ _=_; exact Int.min_eq_right (by omega)⟩
theorem leastC_le (f:Int→Int) (a:Int):∀ n i,i≤n→leastC f a n≤itr f i a
 | 0,i,h=>by
  have:i=0:=by omega
  subst this
  exact Int.le_refl _
 | n + 1,i,h=>by
  show min (leastC f a n) (itr f (n + 1) a)≤_
  by_cases hi:i≤n
  ·have:=leastC_le f a n i hi
   omega
  ·have:i=n + 1:=by omega
   subst this
   omega
def backL (f:Int→Int) (l:Int) (n:Nat):List Int:=l::((List.range n).map fun i=>itr f (i + 1) l).reverse
def roundL (f:Int→Int) (a:Int):List Int:=backL f (leastC f a (cycK f a - 1)) (cycK f a - 1)
def roundW (es:List Ed):List Int:=if (List.range 16).all (fun n=>(passN es (n + 1)).pt != 0) then roundL (passN es 16).ahd (itr (passN es 16).ahd 16 (passN es 16).pt) else []
theorem backL_len (f:Int→Int) (l:Int) (n:Nat):(backL f l n).length=n + 1:=by simp [backL]
theorem backL_get {f:Int→Int} {l:Int} {n:Nat} (hl:itr f (n + 1) l=l) {i:Nat} (hi:i≤n):(backL f l n)[i]? = some (itr f (n + 1 - i) l):=by
 unfold backL
 match i,hi with
 | 0,_=>rw [List.getElem?_cons_zero,Nat.sub_zero,hl]
 | i + 1,hi =>
  rw [List.getElem?_cons_succ,List.getElem?_reverse (by simp; omega),List.getElem?_map]
  simp only [List.length_map,List.length_range]
  rw [List.getElem?_range (by omega),Option.map_some]
  rw [show n - 1 - i + 1=n + 1 - (i + 1) by omega]
theorem itr_round {f:Int→Int} {a:Int} {K:Nat} (hK:itr f K a=a):∀ m,itr f (m * K) a=a
 | 0=>by simp [itr]
 | m + 1=>by rw [Nat.succ_mul,itr_add,itr_round hK m,hK]
structure IsRound (es:List Ed) (s:BF) (K:Nat) (l:Int):Prop where
 k1:1≤K
 k16:K≤16
 back:itr s.ahd K l=l
 apart:∀ i,1≤i→i<K→itr s.ahd i l≠l
 ends:∀ i,inP (itr s.ahd i l)
 least:∀ i,l≤itr s.ahd i l
 edge:∀ i,∃ e ∈ es,e.fr=itr s.ahd (i + 1) l∧e.tt=itr s.ahd i l∧e.co=s.w (itr s.ahd i l)
 cost:sumI s.ahd s.w K l<0
theorem roundW_some {es:List Ed} (h:roundW es≠[]):∃ K l,K=cycK (passN es 16).ahd (itr (passN es 16).ahd 16 (passN es 16).pt)∧l=leastC (passN es 16).ahd (itr (passN es 16).ahd 16 (passN es 16).pt) (K - 1)∧(∀ i,inP (itr (passN es 16).ahd i (itr (passN es 16).ahd 16 (passN es 16).pt)))∧IsRound es (passN es 16) K l∧roundW es=backL (passN es 16).ahd l (K - 1):=by
 have hall:((List.range 16).all fun n=>(passN es (n + 1)).pt != 0)=true:=by
  refine Classical.byContradiction fun hc=>h ?_
  unfold roundW
  rw [if_neg hc]
 have hpt:(passN es 16).pt≠0:=by
  have:=List.all_eq_true.1 hall 15 (by simp)
  simpa using this
 have hW:roundW es=roundL (passN es 16).ahd (itr (passN es 16).ahd 16 (passN es 16).pt):=by
  unfold roundW
  rw [if_pos hall]
 rw [hW]
 obtain ⟨r1,r2⟩:=round_found hpt
 have hI:=passN_inv es 16
 generalize passN es 16=s at *
 generalize ha:itr s.ahd 16 s.pt=a at *
 obtain ⟨c1,c2,c3,c4⟩:=cycK_spec r2
 have hina:inP a:=by rw [← ha]; exact r1 16 (Nat.le_refl _)
 -- all of a's steps are parties
 have hret:∀ v,∀ k,1≤k→itr s.ahd k v=v→inP v→1≤s.t v:=by
  intro v k hk hv hin
  rcases Nat.eq_zero_or_pos (s.t v) with h0 | h0
  ·exfalso
   match k,hk with
   | k + 1,_ =>
    have:itr s.ahd k (s.ahd v)=v:=hv
    rw [hI.zero v h0,hI.stay k] at this
    have:=hin.1
    omega
  ·exact h0
 have hper:∀ i,itr s.ahd (cycK s.ahd a) (itr s.ahd i a)=itr s.ahd i a:=fun i=>by rw [← itr_add,Nat.add_comm,itr_add,c3]
 have hin:∀ i,inP (itr s.ahd i a):=by
  intro i
  induction i with
  | zero=>exact hina
  | succ i ih=>rw [itr_succ]; exact (hI.pos _ (hret _ _ c1 (hper i) ih)).2.1
 obtain ⟨i0,i1,i2⟩:=leastC_mem s.ahd a (cycK s.ahd a - 1)
 have hle:=leastC_le s.ahd a (cycK s.ahd a - 1)
 have hcyc:∀ j,itr s.ahd j (itr s.ahd i0 a)=itr s.ahd i0 a→1≤j→¬ j<cycK s.ahd a:=by
  intro j hj j1 j2
  refine c4 j j1 j2 ?_
  have e1:itr s.ahd (cycK s.ahd a - i0) (itr s.ahd j (itr s.ahd i0 a))=itr s.ahd (cycK s.ahd a - i0) (itr s.ahd i0 a):=by rw [hj]
  rw [← itr_add,← itr_add,← itr_add,show i0 + (cycK s.ahd a - i0)=cycK s.ahd a by omega,c3,show i0 + (j + (cycK s.ahd a - i0))=cycK s.ahd a + j by omega,itr_add,c3] at e1
  exact e1
 refine ⟨cycK s.ahd a,leastC s.ahd a (cycK s.ahd a - 1),rfl,rfl,hin,⟨c1,c2,?_,?_,?_,?_,fun i=>?_,?_⟩,rfl⟩
 ·rw [i2]; exact hper i0
 ·rw [i2]; exact fun i h1 h2 h3=>hcyc i h3 h1 h2
 ·rw [i2]; intro i; rw [← itr_add]; exact hin _
 ·rw [i2]
  intro i
  rw [← itr_add]
  have hmod:itr s.ahd (i0 + i) a=itr s.ahd ((i0 + i) % cycK s.ahd a) a:=by
   have:=Nat.div_add_mod (i0 + i) (cycK s.ahd a)
   rw [← this,Nat.mul_comm,itr_add,itr_round c3,Nat.mul_comm,this]
  rw [hmod,← i2]
  have:=Nat.mod_lt (i0 + i) (show 0<cycK s.ahd a by omega)
  exact hle _ (by omega)
 ·rw [i2,itr_succ,← itr_add]
  obtain ⟨_,_,_,_,q⟩:=hI.pos _ (hret _ _ c1 (hper (i0 + i)) (hin (i0 + i)))
  exact q
 ·rw [i2]
  exact hI.neg _ _ c1 (hper i0) (hin i0)
end Go.Proofs.YtngnfdnfpiiclaaGreat
namespace Go.Proofs.YtngnfdnfpiiclaaGreat
structure LeftI (f:Int→Int→Int) (b:Int) (n:Nat) (done:Int→Int→Prop) (left:Int→Int):Prop where
 lo:∀ p,0≤left p∧left p≤99
 way:∀ p,left p=99∨wk f (left p).toNat p b
 all:∀ p m,m≤n→wk f m p b→left p≤m
 cur:∀ p r,done p r→0<f p r→∀ m,m≤n→wk f m r b→left p≤m + 1
theorem LeftI.pass {f:Int→Int→Int} {B:Int} (g:GInv f B) {b:Int} {n:Nat} {done:Int→Int→Prop} {left:Int→Int} (h:LeftI f b n done left) (hd:∀ p r,inP p→inP r→done p r):LeftI f b (n + 1) (fun _ _=>False) left:=by
 refine ⟨h.lo,h.way,fun p m hm hw=>?_,fun p r hd=>hd.elim⟩
 match m,hm,hw with
 | 0,_,hw=>exact h.all p 0 (by omega) hw
 | m + 1,hm,⟨r,h1,h2⟩ =>
  obtain ⟨e1,e2,_⟩:=g.ends h1
  have:=h.cur p r (hd p r e1 e2) h1 m (by omega) h2
  omega
theorem goS_at {f:Int→Int→Int} {B:Int} (g:GInv f B) {b:Int}:∀ (n:Nat) (p:Int),inP p→inS f p 16 b=true→dst f p b=n →
  ∀ i (hi:i<(goS f b n p).length),inP (goS f b n p)[i]∧inS f (goS f b n p)[i] 16 b=true∧dst f (goS f b n p)[i] b + i=n ∧
   ∀ (hj:i + 1<(goS f b n p).length),0<f (goS f b n p)[i] (goS f b n p)[i + 1]∧∀ z,inP z→z<(goS f b n p)[i + 1]→0<f (goS f b n p)[i] z→¬ (inS f z 16 b=true∧dst f z b + (i + 1)=n)
 | 0,p,hp,hr,hd,i,hi=>by
  have h0:i=0:=by rw [goS_len] at hi; omega
  subst h0
  exact ⟨hp,hr,hd,fun hj=>by rw [goS_len] at hj; omega⟩
 | n + 1,p,hp,hr,hd,i,hi=>by
  obtain ⟨d1,d2,d3⟩:=dst_spec hr
  rw [hd] at d1 d2 d3
  obtain ⟨n1,n2,n3,n4,n5⟩:=nxt_spec g d1 (d3 n (by omega)) (fun m hm=>d3 m (by omega))
  have hdn:=dst_eq (by omega) n3 n4
  have ih:=goS_at g n (nxt f b n p) n1 (inS_mono (by omega) n3) hdn
  have hlen:=goS_len f b n (nxt f b n p)
  have hl1:(goS f b (n + 1) p).length=n + 2:=goS_len f b (n + 1) p
  match i,hi with
  | 0,hi =>
   refine ⟨hp,hr,hd,fun hj=>?_⟩
   have e:(goS f b (n + 1) p)[0 + 1]=nxt f b n p:=by
    show (goS f b n (nxt f b n p))[0]'(by rw [hlen]; omega)=nxt f b n p
    cases n <;> rfl
   rw [e]
   refine ⟨n2,fun z hz hzl hf hc=>n5 z hz hzl ⟨hf,?_⟩⟩
   have:=(dst_spec hc.1).1
   rw [show dst f z b=n by have:=hc.2; omega] at this
   exact this
  | i + 1,hi =>
   have hi':i<(goS f b n (nxt f b n p)).length:=by rw [hlen]; rw [hl1] at hi; omega
   obtain ⟨i1,i2,i3,i4⟩:=ih i hi'
   refine ⟨i1,i2,?_,fun hj=>?_⟩
   ·show dst f ((goS f b n (nxt f b n p))[i]'hi') b + (i + 1)=n + 1
    omega
   ·have hj':i + 1<(goS f b n (nxt f b n p)).length:=by rw [hlen]; rw [hl1] at hj; omega
    obtain ⟨j1,j2⟩:=i4 hj'
    refine ⟨j1,fun z hz hzl hf hc=>j2 z hz hzl hf ⟨hc.1,?_⟩⟩
    have:=hc.2
    omega
theorem goS_head (f:Int→Int→Int) (b:Int) (n:Nat) (p:Int):(goS f b n p)[0]'(by rw [goS_len]; omega)=p:=by cases n <;> rfl
theorem goS_last {f:Int→Int→Int} {B:Int} (g:GInv f B) {b p:Int} {n:Nat} (hp:inP p) (hr:inS f p 16 b=true) (hd:dst f p b=n):(goS f b n p)[n]'(by rw [goS_len]; omega)=b:=by
 obtain ⟨h1,h2,h3,_⟩:=goS_at g n p hp hr hd n (by rw [goS_len]; omega)
 have h4:dst f ((goS f b n p)[n]'(by rw [goS_len]; omega)) b=0:=by omega
 have h5:=(dst_spec h2).1
 rw [h4] at h5
 have:(b==(goS f b n p)[n]'(by rw [goS_len]; omega))=true:=h5
 exact (beq_iff_eq.1 this).symm
end Go.Proofs.YtngnfdnfpiiclaaGreat
