/-
  Pieces of one proof, without what is not wanted: Bfs, LeastMath, PGrE, Ref06, PathsLeast.
-/
import Derived.Test.YtlbjjkbppbmihaaGreatP01
import Derived.Test.YtlbjjkbppbmihaaGreatP03
import Derived.Test.YtlbjjkbppbmihaaGreatP05
import Derived.Test.YtlbjjkbppbmihaaGreatP06
set_option linter.unusedSimpArgs false
set_option linter.unusedVariables false
namespace Go.Proofs.YtlbjjkbppbmihaaGreat
structure Spr (f:Int→Int→Int) (a:Int) (R:Int→Prop) (pos:Int→Nat) (ah:Int→Int):Prop where
 ra:R a
 pa:pos a=0
 inj:∀ p q,R p→R q→pos p=pos q→p=q
 inp:∀ p,R p→inP p
 par:∀ q,R q→q≠a→R (ah q)∧0<f (ah q) q∧pos (ah q)<pos q
 cl:∀ p q,R p→0<f p q→R q∧(q=a∨pos (ah q)≤pos p)
 mono:∀ p q,R p→R q→p≠a→q≠a→pos p≤pos q→pos (ah p)≤pos (ah q)
 sib:∀ p q,R p→R q→p≠a→q≠a→ah p=ah q→p<q→pos p<pos q
variable {f:Int→Int→Int} {a:Int} {R:Int→Prop} {pos:Int→Nat} {ah:Int→Int}
theorem Spr.reach (h:Spr f a R pos ah):∀ (m:Nat) (y v:Int),wk f m y v→R y→R v
 | 0,y,v,hw,hy=>by
  have:y=v:=hw
  subst this
  exact hy
 | m + 1,y,v,⟨r,h1,h2⟩,hy=>h.reach m r v h2 (h.cl y r hy h1).1
def chainL (ah:Int→Int) (v:Int) (n:Nat):List Int:=((List.range n).map fun i=>itr ah i v).reverse
theorem chainL_len (ah:Int→Int) (v:Int) (n:Nat):(chainL ah v n).length=n:=by simp [chainL]
theorem chainL_succ (ah:Int→Int) (v:Int) (n:Nat):chainL ah v (n + 1)=itr ah n v::chainL ah v n:=by
 unfold chainL
 rw [List.range_succ,List.map_append,List.reverse_append]
 rfl
theorem Spr.no (h:Spr f a R pos ah) {B:Int} (hI:GInv f B) {v:Int} (hv:¬ R v):shortW f a v=[]:=by
 unfold shortW
 rw [if_neg]
 rintro ⟨_,_,_,hr⟩
 obtain ⟨m,_,hw⟩:=(inS_iff hI a 16 v).1 hr
 exact hv (h.reach m a v hw h.ra)
structure BfsI (f:Int→Int→Int) (a:Int) (x:Nat→Int) (pa:Nat→Nat) (n:Nat) (b:Int→Bool) (ah:Int→Int) (k:Nat) (c:Int):Prop where
 n1:1≤n
 x0:x 0=a
 inp:∀ i,i<n→inP (x i)
 inj:∀ i j,i<n→j<n→x i=x j→i=j
 came:∀ p,b p=true↔∃ i,i<n∧x i=p
 aha:ah a=0
 ah0:∀ p,b p=false→ah p=0
 par:∀ j,1≤j→j<n→pa j<j∧(pa j<k∨(pa j=k∧x j<c))∧ah (x j)=x (pa j)∧0<f (x (pa j)) (x j)
 mono:∀ i j,1≤i→i<j→j<n→pa i<pa j∨(pa i=pa j∧x i<x j)
 cl:∀ i w,i<n→(i<k∨(i=k∧w<c))→0<f (x i) w→∃ j,j<n∧x j=w∧(j=0∨pa j≤i)
variable {x:Nat→Int} {pa:Nat→Nat} {n:Nat} {b:Int→Bool} {k:Nat} {c:Int}
theorem BfsI.skip (h:BfsI f a x pa n b ah k c) (hk:k<n) (hc:b c=true∨f (x k) c≤0):BfsI f a x pa n b ah k (c + 1):=by
 refine ⟨h.n1,h.x0,h.inp,h.inj,h.came,h.aha,h.ah0,fun j h1 h2=>?_,h.mono,fun i w hi h1 h2=>?_⟩
 ·obtain ⟨p1,p2,p3⟩:=h.par j h1 h2
  exact ⟨p1,by omega,p3⟩
 ·by_cases hw:i=k∧w=c
  ·obtain ⟨rfl,rfl⟩:=hw
   rcases hc with hc | hc
   ·obtain ⟨j,j1,j2⟩:=(h.came w).1 hc
    refine ⟨j,j1,j2,?_⟩
    rcases Nat.eq_zero_or_pos j with h0 | h0
    ·exact .inl h0
    ·have:=(h.par j h0 j1).2.1
     omega
   ·omega
  ·exact h.cl i w hi (by omega) h2
def posB (x:Nat→Int) (n:Nat) (p:Int):Nat:=((List.range n).find? fun i=>x i==p).getD 0
theorem BfsI.place (h:BfsI f a x pa n b ah k c) {i:Nat} (hi:i<n):posB x n (x i)=i:=by
 unfold posB
 have:(List.range n).find? (fun j=>x j==x i)=some i:=by
  rw [List.find?_eq_some_iff_getElem]
  refine ⟨by simp,i,by simpa using hi,by simp,fun j hj=>?_⟩
  have:x j≠x i:=fun e=>by have:=h.inj j i (by omega) hi e; omega
  simpa using this
 rw [this]
 rfl
end Go.Proofs.YtlbjjkbppbmihaaGreat
namespace Go.Proofs.YtlbjjkbppbmihaaGreat
structure LeftI (f:Int→Int→Int) (b:Int) (n:Nat) (done:Int→Int→Prop) (left:Int→Int):Prop where
 lo:∀ p,0≤left p∧left p≤99
 way:∀ p,left p=99∨wk f (left p).toNat p b
 all:∀ p m,m≤n→wk f m p b→left p≤m
 cur:∀ p r,done p r→0<f p r→∀ m,m≤n→wk f m r b→left p≤m + 1
def upL (left:Int→Int) (a x:Int):Int→Int:=fun p=>if p=a then x else left p
theorem LeftI.less {f:Int→Int→Int} {B:Int} (g:GInv f B) {b:Int} {n:Nat} {done done':Int→Int→Prop} {left:Int→Int} (h:LeftI f b n done left) {a c:Int} (hd:∀ p r,done' p r→done p r∨(p=a∧r=c)) (h1:0<f a c) (h2:left c + 1<left a):LeftI f b n done' (upL left a (left c + 1)):=by
 have hne:c≠a:=by rintro rfl; omega
 have hle:∀ p,upL left a (left c + 1) p≤left p:=fun p=>by
  unfold upL
  split
  ·rename_i hp; rw [hp]; omega
  ·exact Int.le_refl _
 refine ⟨fun p=>?_,fun p=>?_,fun p m hm hw=>Int.le_trans (hle p) (h.all p m hm hw),fun p r hdp h0 m hm hw=>?_⟩
 ·have:=h.lo p
  have:=h.lo c
  have:=h.lo a
  unfold upL
  split <;> omega
 ·unfold upL
  by_cases hp:p=a
  ·rw [if_pos hp]
   refine .inr ?_
   rcases h.way c with hc | hc
   ·have:=(h.lo a).2; omega
   ·have:=(h.lo c).1
    rw [show (left c + 1).toNat=(left c).toNat + 1 by omega,hp]
    exact ⟨c,h1,hc⟩
  ·rw [if_neg hp]; exact h.way p
 ·rcases hd p r hdp with hd | ⟨rfl,rfl⟩
  ·exact Int.le_trans (hle p) (h.cur p r hd h0 m hm hw)
  ·have:=h.all r m hm hw
   unfold upL
   rw [if_pos rfl]
   omega
theorem LeftI.pass {f:Int→Int→Int} {B:Int} (g:GInv f B) {b:Int} {n:Nat} {done:Int→Int→Prop} {left:Int→Int} (h:LeftI f b n done left) (hd:∀ p r,inP p→inP r→done p r):LeftI f b (n + 1) (fun _ _=>False) left:=by
 refine ⟨h.lo,h.way,fun p m hm hw=>?_,fun p r hd=>hd.elim⟩
 match m,hm,hw with
 | 0,_,hw=>exact h.all p 0 (by omega) hw
 | m + 1,hm,⟨r,h1,h2⟩ =>
  obtain ⟨e1,e2,_⟩:=g.ends h1
  have:=h.cur p r (hd p r e1 e2) h1 m (by omega) h2
  omega
end Go.Proofs.YtlbjjkbppbmihaaGreat
namespace Go.Proofs.YtlbjjkbppbmihaaGreat
open Go.RowKit
theorem clipF_any {w:World} {base:Nat} {v:Value} {n:Nat} {xs:List Value} (h:w.ownsRow base 62 3 v n xs) :
  Calls Tryz.prog 38 #[v] w (ClipPost w base 62 3 n v xs):=by
 rcases h.2 with ⟨rfl,h0⟩ | ⟨g,cap,cur,rfl,hbase,hb,h1,h2,h3,h4⟩
 ·subst h0
  have hr:=run_slice_clip_none (P:=Tryz.prog) w 36 62 3 Tryz.underlying36 (Tryz.sizeOf62 w)
  have hx:=h.1
  have hx2:=Lib.hid hx
  clear h hx
  go_enter Tryz.func38,Tryz.ntmps38
  go_wp2
  refine bodyPost_ret (v:=.slice none 0 0) (by simp [results,Tryz.results38,go_sem]) rfl ?_
  exact ⟨_,rfl,⟨hx2.out,.inl ⟨rfl,rfl⟩⟩,rfl,rfl⟩
 ·have hr:=run_slice_clip (P:=Tryz.prog) w 36 62 3 Tryz.underlying36 (Tryz.sizeOf62 w) g n cap h1
  have HR:=Lib.hid (show Rowed w base 62 3 (.slice (some ⟨g,0,none⟩) n n) n xs from ⟨h.1,.inr ⟨g,cur,rfl,hbase,hb,by omega,by omega,h4⟩⟩)
  clear h hb h4 h3
  unfold maxLen at h2
  go_enter Tryz.func38,Tryz.ntmps38
  go_wp2
  refine bodyPost_ret (v:=.slice (some ⟨g,0,none⟩) n n) (by simp [results,Tryz.results38,go_sem]) rfl ?_
  exact ⟨_,rfl,HR.out,rfl,rfl⟩
end Go.Proofs.YtlbjjkbppbmihaaGreat
namespace Go.Proofs.YtlbjjkbppbmihaaGreat
open Go.RowKit
end Go.Proofs.YtlbjjkbppbmihaaGreat
namespace Go.Proofs.YtlbjjkbppbmihaaGreat
open Go.RowKit
end Go.Proofs.YtlbjjkbppbmihaaGreat
namespace Go.Proofs.YtlbjjkbppbmihaaGreat
open Go.RowKit
theorem rowA_set (v:Int→Int→Value) (p:Int) {i:Nat} (hi:i<17) (u:Value):(rowA v p).setIfInBounds i u=rowA (fun a q=>if q=(i:Int) then u else v a q) p:=by
 apply Array.ext_getElem?
 intro j
 by_cases hj:j<17
 ·rw [rowA_get _ p hj]
  by_cases h:i=j
  ·subst h
   rw [Array.getElem?_setIfInBounds_self_of_lt (by rw [rowA_size]; exact hj),if_pos rfl]
  ·rw [Array.getElem?_setIfInBounds_ne h,rowA_get v p hj,if_neg (by omega)]
 ·rw [Array.getElem?_eq_none (by simp [rowA_size]; omega),Array.getElem?_eq_none (by rw [rowA_size]; omega)]
theorem rowA_congr {v u:Int→Int→Value} {p p':Int} (h:∀ i:Nat,i<17→v p i=u p' i):rowA v p=rowA u p':=by
 apply Array.ext_getElem?
 intro j
 by_cases hj:j<17
 ·rw [rowA_get v p hj,rowA_get u p' hj,h j hj]
 ·rw [Array.getElem?_eq_none (by rw [rowA_size]; omega),Array.getElem?_eq_none (by rw [rowA_size]; omega)]
def inA (b:Int→Bool):Array Value:=rowA (fun _ q=>.bool (b q)) 0
theorem inA_size (b:Int→Bool):(inA b).size=17:=rowA_size _ _
theorem inA_get (b:Int→Bool) {i:Nat} (h:i<17):(inA b)[i]? = some (.bool (b i)):=rowA_get _ _ h
theorem inA_set (b:Int→Bool) {i:Nat} (hi:i<17) (u:Bool):(inA b).setIfInBounds i (.bool u)=inA fun q=>if q=(i:Int) then u else b q:=by
 unfold inA
 rw [rowA_set _ _ hi]
 refine rowA_congr fun j hj=>?_
 dsimp only
 split <;> rfl
theorem inA_one (b:Int→Bool):(inA b).all (·.oneCell')=true:=by
 rw [Array.all_eq_true]
 intro i hi
 have h17:i<17:=by rw [inA_size] at hi; exact hi
 have:=inA_get b h17
 rw [Array.getElem?_eq_getElem hi] at this
 simp only [Option.some.injEq] at this
 rw [this]
 rfl
theorem Blk.inAt {w:World} {g:Nat} {b:Int→Bool} {t:TypeId} (h:Blk w g (inA b) t) {p:Int} (h0:0≤p) (h1:p<17):w.cell? ⟨g,p.toNat,none⟩=some (.bool (b p)):=by
 rw [h.cell,inA_get b (by omega),Int.toNat_of_nonneg h0]
theorem Blk.inSet {w:World} {g:Nat} {b:Int→Bool} {t:TypeId} (h:Blk w g (inA b) t) {p:Int} (h0:0≤p) (h1:p<17) (u:Bool):Blk (w.setCell ⟨g,p.toNat,none⟩ (.bool u)) g (inA fun q=>if q=p then u else b q) t:=by
 have:=h.set p.toNat (.bool u)
 rw [inA_set b (by omega),Int.toNat_of_nonneg h0] at this
 exact this
attribute [irreducible] inA
end Go.Proofs.YtlbjjkbppbmihaaGreat
namespace Go.Proofs.YtlbjjkbppbmihaaGreat
open Go.RowKit
def ShortPost (L:List Int) (w:World) (e:Ending) (w':World):Prop :=
 ∃ v,e=.returned v∧w'.ownsRow w.heap.size 30 1 v L.length (L.map (.int .u8))∧Below w.heap.size w w'
end Go.Proofs.YtlbjjkbppbmihaaGreat
namespace Go.Proofs.YtlbjjkbppbmihaaGreat
open Go.RowKit
def ltA (left:Int→Int):Array Value:=rowA (fun _ q=>.int .i64 (left q)) 0
theorem ltA_size (left:Int→Int):(ltA left).size=17:=rowA_size _ _
theorem ltA_get (left:Int→Int) {i:Nat} (h:i<17):(ltA left)[i]? = some (.int .i64 (left i)):=rowA_get _ _ h
theorem ltA_set (left:Int→Int) {i:Nat} (hi:i<17) (n:Int):(ltA left).setIfInBounds i (.int .i64 n)=ltA (upL left i n):=by
 unfold ltA
 rw [rowA_set _ _ hi]
 refine rowA_congr fun j hj=>?_
 unfold upL
 try dsimp only
 split <;> rfl
theorem Blk.ltAt {w:World} {g:Nat} {l:Int→Int} {t:TypeId} (h:Blk w g (ltA l) t) {p:Int} (h0:0≤p) (h1:p<17):w.cell? ⟨g,p.toNat,none⟩=some (.int .i64 (l p)):=by
 rw [h.cell,ltA_get l (by omega),Int.toNat_of_nonneg h0]
theorem Blk.ltSet {w:World} {g:Nat} {l:Int→Int} {t:TypeId} (h:Blk w g (ltA l) t) {p:Int} (h0:0≤p) (h1:p<17) (n:Int):Blk (w.setCell ⟨g,p.toNat,none⟩ (.int .i64 n)) g (ltA (upL l p n)) t:=by
 have:=h.set p.toNat (.int .i64 n)
 rw [ltA_set l (by omega),Int.toNat_of_nonneg h0] at this
 exact this
theorem zero_lt:(∀ w,(zeroValue 102).run Tryz.prog w=.ok (.agg (ltA fun _=>0)) w)∧(Tryz.prog.info? 102).map (·.size)=some 17 :=
 zero_of_info (by kernel_rfl)
attribute [irreducible] ltA
end Go.Proofs.YtlbjjkbppbmihaaGreat
