/-
  Pieces of one proof, without what is not wanted: Ref07, Acts, Off, SlIn, FlwIn, FlowProg, Bfs, Ref06r.
-/
import Derived.Test.YtngnfdnfpiiclaaGreatV02
import Derived.Test.YtngnfdnfpiiclaaGreatV03
import Derived.Test.YtngnfdnfpiiclaaGreatV04
import Derived.Test.YtngnfdnfpiiclaaGreatV05
import Derived.Deep.RegionLaw
import Derived.Maps.AppendAt
import Derived.StillTailTactics
import Derived.Deep.Slices
import Derived.Deep.Fields
import Derived.ChangeSame
import Derived.OpenShut
import Derived.Lib.SmallJoins
set_option linter.unusedSimpArgs false
set_option linter.unusedVariables false
namespace Go.Proofs.YtngnfdnfpiiclaaGreat
open Go.RowKit
theorem capX_stop (f:Int→Int→Int) (x:Nat→Int) (n:Int) (i:Nat):capX f x n (i + 1)=min (capX f x n i) (f (x i) (x (i + 1))):=rfl
theorem RefG.drewN {w:World} {base g k:Nat} {es:List Fw} {vl:Value} (h:RefG w base g es vl):RefG (w.drewN k) base g es vl:=⟨h.blk,h.ge,h.row⟩
theorem blkNe7 {w:World} {g h:Nat} {cs ds:Array Value} {t u:TypeId} (a:Blk w g cs t) (b:Blk w h ds u) (hn:t≠u):g≠h:=by
 rintro rfl
 have e:=a.out
 rw [b.out] at e
 simp only [Option.some.injEq,Obj.cells.injEq] at e
 exact hn e.2.1.symm
end Go.Proofs.YtngnfdnfpiiclaaGreat
namespace Go.Proofs.YtngnfdnfpiiclaaGreat
open Go.RowKit Go.ChangeShapes Go.WideShapes Go.Deep
section
variable {H:Type} {enc:TypeId × Value→H} {P:Program} {w:World} {base:Nat} {spare:Nat→Bool} {held:Bool}
end
theorem In8.of_wf {n:Int} (h:(Lit.int .u8 n).wf=true):In8 n:=by
 simp [Lit.wf,IntKind.min,IntKind.max,IntKind.signed,IntKind.bits] at h
 exact ⟨by omega,by omega⟩
end Go.Proofs.YtngnfdnfpiiclaaGreat
namespace Go.Proofs.YtngnfdnfpiiclaaGreat
open Go.RowKit
structure Of where
 se:Int
 ow:Int
 sl:Int
 bu:Int
 lf:Int
 nu:Int
 de:Int
deriving DecidableEq
def Of.vals (x:Of):List Value:=[.int .u64 x.se,.int .u8 x.ow,.int .u8 x.sl,.int .u8 x.bu,.int .i64 x.lf,.int .i64 x.nu,.int .i64 x.de]
theorem Of.vals_len (x:Of):x.vals.length=7:=rfl
def ofCells (ls:List Of):List Value:=ls.flatMap Of.vals
def Of.val (x:Of):Value:=.agg #[.int .u64 x.se,.int .u8 x.ow,.int .u8 x.sl,.int .u8 x.bu,.int .i64 x.lf,.int .i64 x.nu,.int .i64 x.de]
theorem ofCells_len (ls:List Of):(ofCells ls).length=ls.length * 7:=flat_len _ 7 Of.vals_len ls
theorem ofCells_get (ls:List Of) (i j:Nat) (hj:j<7) (h:i<ls.length):(ofCells ls)[i * 7 + j]? = ls[i].vals[j]? := by
 unfold ofCells
 rw [flat_get _ 7 Of.vals_len ls i j hj,List.getElem?_eq_getElem h]
 rfl
theorem ofCells_append (a b:List Of):ofCells (a++b)=ofCells a++ofCells b:=by unfold ofCells; exact List.flatMap_append
theorem ofCells_one (x:Of):ofCells [x]=x.vals:=by simp [ofCells]
structure Of.Fits (x:Of):Prop where
 se:(0≤x.se∧x.se≤18446744073709551615)
 ow:In8 x.ow
 sl:In8 x.sl
 bu:In8 x.bu
 lf:In64 x.lf
 nu:In64 x.nu
 de:In64 x.de
theorem ofCells_oneCell (l:List Of):∀ u ∈ ofCells l,u.oneCell'=true:=by
 intro u hu
 unfold ofCells at hu
 obtain ⟨x,_,hx⟩:=List.mem_flatMap.1 hu
 simp [Of.vals] at hx
 rcases hx with rfl | rfl | rfl | rfl | rfl | rfl | rfl <;> rfl
theorem info_of:(Tryz.prog.info? 75).map (fun i=>(i.zero,i.size,i.bytes))=some (some (Of.val ⟨0,0,0,0,0,0,0⟩),7,40):=by kernel_rfl
theorem wpList_append_of (w:World) {ops:Array Oper} {rest:List Oper} {o:Oper} {a:Act} {Q:Exit→Act→World→Prop} (hgd:o.guard=none) (s x:Operand)
  (ho:o.op=.call { callee:=.builtin .append,args:=#[s,x],argTypes:=#[43,43] }) (base:Nat) (v:Value) (ls:List Of) (hs:a.eval s=v)
  (hown:w.ownsRow base 75 7 v ls.length (ofCells ls)) (g c:Nat) (y:Of) (hx:a.eval x=.slice (some ⟨g,0,none⟩) 1 c) (hy:Blk w g #[.int .u64 y.se,.int .u8 y.ow,.int .u8 y.sl,.int .u8 y.bu,.int .i64 y.lf,.int .i64 y.nu,.int .i64 y.de] 75) (hlen:ls.length≤100000) (hbase:base≤w.heap.size)
  (h:∀ v' w',w'.ownsRow base 75 7 v' (ls++[y]).length (ofCells (ls++[y]))→w.grownBy w' v.ownBlock→wpList Tryz.prog ops Q rest (a.put o.dst v') w'):wpList Tryz.prog ops Q (o::rest) a w:=by
 obtain ⟨i0,hi,hz0,hz1,hz2⟩:=info_parts info_of
 refine wpList_append_own w hgd s x 43 ho base 75 i0 (Of.val ⟨0,0,0,0,0,0,0⟩) 7 40 Tryz.underlying43 hi hz0 hz1 hz2 rfl (by decide) v ls.length (ofCells ls) hs hown ⟨g,0,none⟩ 1 c y.vals hx rfl ?_ ?_ (by unfold maxLen; omega) (by omega) hbase ?_
 ·intro j u hj
  have:=hy.cell j
  rw [Go.WideShapes.add_plain]
  match j,hj with
  | 0,hj=>simp [Of.vals] at hj; subst hj; simpa using this
  | 1,hj=>simp [Of.vals] at hj; subst hj; simpa using this
  | 2,hj=>simp [Of.vals] at hj; subst hj; simpa using this
  | 3,hj=>simp [Of.vals] at hj; subst hj; simpa using this
  | 4,hj=>simp [Of.vals] at hj; subst hj; simpa using this
  | 5,hj=>simp [Of.vals] at hj; subst hj; simpa using this
  | 6,hj=>simp [Of.vals] at hj; subst hj; simpa using this
  | j + 7,hj=>simp [Of.vals] at hj
 ·intro u hu
  simp [Of.vals] at hu
  rcases hu with rfl | rfl | rfl | rfl | rfl | rfl | rfl <;> rfl
 ·intro v' w' h1 h2 _
  refine h v' w' ?_ h2
  rw [ofCells_append,ofCells_one,List.length_append]
  exact h1
end Go.Proofs.YtngnfdnfpiiclaaGreat
namespace Go.Proofs.YtngnfdnfpiiclaaGreat
open Go.RowKit Go.ChangeShapes Go.WideShapes Go.Deep
def SlIn {α:Type} (vals:α→List Value) (size:Nat) (Ok:α→Prop) (w:World) (a:Option Addr) (len cap:Nat) (xs:List α):Prop :=
 (a=none→cap=0)∧xs.length=len∧(∀ x ∈ xs,Ok x)∧len≤cap∧cap≤maxLen∧(0<len→∃ b off,a=some ⟨b,off,none⟩∧b<w.heap.size∧∀ i (h:i<xs.length) (j:Nat) (v:Value),(vals xs[i])[j]? = some v→w.cell? ⟨b,off + i * size + j,none⟩=some v)
section
variable {H:Type} {enc:TypeId × Value→H} {P:Program} {w:World} {base:Nat} {spare:Nat→Bool} {held:Bool}
theorem sl_open {α:Type} {vals:α→List Value} {size:Nat} {Ok:α→Prop} {ts te:TypeId} (hu:P.underlying ts=some (.slice te)) (hC:P.cellsOf te=size) (hlen:∀ y,(vals y).length=size) (hsz:0<size)
  (hr:∀ (fuel:Nat) (cs:List Value) (x:DataW H × List MemPlace),DataW.trod enc P w base spare held fuel te cs=some x→∃ y:α,Ok y∧cs=vals y)
  {a:Option Addr} {len cap:Nat} {d:DataW H} {p:List MemPlace} (h:DataW.Trod enc P w base spare held ts (.slice a len cap) d p):∃ xs,SlIn vals size Ok w a len cap xs:=by
 obtain ⟨fuel,hf⟩:=h
 rcases open_slice hu hf with ⟨h0,_⟩ | ⟨ad,l,c,m,n,D,Pl,hcs,hb,hl,hm,hmm,hx,hi⟩
 ·simp [Value.cells] at h0
  obtain ⟨rfl,rfl,rfl⟩:=h0
  exact ⟨[],fun _=>rfl,rfl,by simp,Nat.le_refl _,by unfold maxLen; omega,fun h=>by omega⟩
 ·simp [Value.cells] at hcs
  obtain ⟨rfl,rfl,rfl⟩:=hcs
  have hlm:len≤m:=by rw [hmm]; split <;> omega
  have key:∀ i,i<len→∃ x:α,Ok x∧∀ (j:Nat) (v:Value),(vals x)[j]? = some v→w.cell? ((ad.add (i * size)).add j)=some v:=by
   intro i hil
   obtain ⟨cs',hc,ht⟩:=hi i (by omega)
   rw [hC] at hc
   obtain ⟨x,hx,rfl⟩:=hr _ _ _ ht
   obtain ⟨_,_,hat⟩:=World.cells?_some hc
   refine ⟨x,hx,fun j v hj=>?_⟩
   have hj5:j<size:=by
    have:=(List.getElem?_eq_some_iff.1 hj).1
    rw [hlen] at this
    exact this
   rw [hat j hj5,hj]
  have hex:∀ k,k≤len→∃ xs:List α,xs.length=k∧(∀ x ∈ xs,Ok x)∧∀ i (h:i<xs.length) (j:Nat) (v:Value),(vals xs[i])[j]? = some v→w.cell? ((ad.add (i * size)).add j)=some v:=by
   intro k
   induction k with
   | zero=>intro _; exact ⟨[],rfl,by simp,fun i h=>by simp at h⟩
   | succ k ih =>
    intro hk
    obtain ⟨xs,h1,h2,h3⟩:=ih (by omega)
    obtain ⟨x,hx,hxc⟩:=key k (by omega)
    refine ⟨xs++[x],by simp [h1],?_,?_⟩
    ·intro y hy
     rcases List.mem_append.1 hy with hy | hy
     ·exact h2 y hy
     ·rw [List.mem_singleton] at hy; rw [hy]; exact hx
    ·intro i hi j v hv
     by_cases hik:i<xs.length
     ·rw [List.getElem_append_left hik] at hv
      exact h3 i hik j v hv
     ·have:i=k:=by rw [List.length_append,List.length_singleton] at hi; omega
      subst this
      rw [List.getElem_append_right (by omega)] at hv
      simp [h1] at hv
      exact hxc j v hv
  obtain ⟨xs,h1,h2,h3⟩:=hex len (Nat.le_refl _)
  refine ⟨xs,fun h=>(by cases h),h1,h2,hl,hm,fun hp=>?_⟩
  have hv0:(vals (xs[0]'(by omega)))[0]? = some ((vals (xs[0]'(by omega)))[0]'(by rw [hlen]; exact hsz)):=List.getElem?_eq_getElem _
  have h00:=h3 0 (by omega) 0 _ hv0
  have hsp:ad.spot=none:=by
   rcases hs:ad.spot with _ | s
   ·rfl
   ·exfalso
    rw [Go.Deep.add_add] at h00
    have e:(ad.add (0 * size + 0)).spot=ad.spot:=by cases ad; simp [Addr.add]
    unfold World.cell? at h00
    rw [e,hs] at h00
    split at h00
    ·simp at h00
    ·cases h00
  obtain ⟨b,off,sp⟩:=ad
  simp only at hsp
  subst hsp
  have hcell:∀ i (h:i<xs.length) (j:Nat) (v:Value),(vals xs[i])[j]? = some v→w.cell? ⟨b,off + i * size + j,none⟩=some v:=by
   intro i hi j v hv
   have:=h3 i hi j v hv
   rw [Go.Deep.add_add,Go.WideShapes.add_plain] at this
   rw [Nat.add_assoc]
   exact this
  exact ⟨b,off,rfl,World.block_lt_of_cell? _ _ (hcell 0 (by omega) 0 _ hv0),hcell⟩
end
theorem SlIn.below {α:Type} {vals:α→List Value} {size:Nat} {Ok:α→Prop} {w w':World} {a:Option Addr} {len cap:Nat} {xs:List α} (h:SlIn vals size Ok w a len cap xs) (k:Below w.heap.size w w'):SlIn vals size Ok w' a len cap xs:=by
 obtain ⟨h0,h1,h2,h3,h4,h5⟩:=h
 refine ⟨h0,h1,h2,h3,h4,fun hp=>?_⟩
 obtain ⟨b,off,rfl,hlt,hc⟩:=h5 hp
 exact ⟨b,off,rfl,Nat.lt_of_lt_of_le hlt k.size,fun i hi j v hv=>by rw [k.cell (p:=⟨b,off + i * size + j,none⟩) hlt]; exact hc i hi j v hv⟩
section
variable {H:Type} {enc:TypeId × Value→H} {P:Program} {w:World} {base:Nat} {spare:Nat→Bool} {held:Bool}
theorem num_of {fs:Array Field} {xs:List (DataW H × List MemPlace)} {n:Nat} {cs:List Value} (hxl:xs.length=fs.size) (hf:∀ (j:Nat) (f:Field),fs[j]? = some f→DataW.trod enc P w base spare held n f.type ((cs.drop f.offset).take (P.cellsOf f.type))=xs[j]?) {j o:Nat} {f:Field} {k:IntKind} (hj:fs[j]? = some f) (ho:f.offset=o) (hc:P.cellsOf f.type=1) (hk:P.underlying f.type=some (.int k)) (hl:o<cs.length) :
  ∃ m,cs[o]? = some (.int k m)∧(Lit.int k m).wf=true:=by
 have h1:=hf j f hj
 rw [ho,hc,List.drop_eq_getElem_cons hl] at h1
 have hjf:j<fs.size:=(Array.getElem?_eq_some_iff.1 hj).1
 rw [List.getElem?_eq_getElem (by omega:j<xs.length)] at h1
 obtain ⟨m,hm,_,hw⟩:=DataW.trod_int hk h1
 refine ⟨m,?_,hw⟩
 rw [List.getElem?_eq_getElem hl]
 have hm':[cs[o]]=[Value.int k m]:=hm
 exact congrArg some (List.cons.inj hm').1
end
end Go.Proofs.YtngnfdnfpiiclaaGreat
namespace Go.Proofs.YtngnfdnfpiiclaaGreat
open Go.RowKit Go.ChangeShapes Go.WideShapes Go.Deep
theorem InU64.of_wf {n:Int} (h:(Lit.int .u64 n).wf=true):0≤n∧n≤18446744073709551615:=by
 simp [Lit.wf,IntKind.min,IntKind.max,IntKind.signed,IntKind.bits] at h
 exact ⟨by omega,by omega⟩
section
variable {H:Type} {enc:TypeId × Value→H} {P:Program} {w:World} {base:Nat} {spare:Nat→Bool} {held:Bool}
theorem pair_of {t:TypeId} {g0 g1:Field} {k0 k1:IntKind} (hu:P.underlying t=some (.struct #[g0,g1])) (hC:P.cellsOf t=2) (o0:g0.offset=0) (o1:g1.offset=1) (c0:P.cellsOf g0.type=1) (c1:P.cellsOf g1.type=1)
  (h0:P.underlying g0.type=some (.int k0)) (h1:P.underlying g1.type=some (.int k1)) {fuel:Nat} {cs:List Value} {x:DataW H × List MemPlace} (h:DataW.trod enc P w base spare held fuel t cs=some x) :
  ∃ m0 m1,cs=[.int k0 m0,.int k1 m1]∧(Lit.int k0 m0).wf=true∧(Lit.int k1 m1).wf=true:=by
 obtain ⟨xs,n,_,_,hlen,hxl,hf⟩:=DataW.trod_struct hu h
 rw [hC] at hlen
 obtain ⟨m0,e0,w0⟩:=num_of hxl hf (j:=0) rfl o0 c0 h0 (by omega)
 obtain ⟨m1,e1,w1⟩:=num_of hxl hf (j:=1) rfl o1 c1 h1 (by omega)
 match cs,hlen with
 | [a,b],_ =>
  simp at e0 e1
  subst e0 e1
  exact ⟨m0,m1,rfl,w0,w1⟩
end
section
variable {H:Type} {enc:TypeId × Value→H} {w:World} {base:Nat} {spare:Nat→Bool} {held:Bool}
end
end Go.Proofs.YtngnfdnfpiiclaaGreat
namespace Go.Proofs.YtngnfdnfpiiclaaGreat
open Go.RowKit Go.ChangeShapes Go.WideShapes Go.Deep
section
variable {H:Type} {enc:TypeId × Value→H} {P:Program} {w:World} {base:Nat} {spare:Nat→Bool} {held:Bool}
end
section
variable {H:Type} {enc:TypeId × Value→H} {w:World} {base:Nat} {spare:Nat→Bool} {held:Bool}
end
theorem SlIn.flows {w:World} {a:Option Addr} {len cap:Nat} {xs:List Fw} (h:SlIn Fw.vals 3 Fw.Fits w a len cap xs) (hn:len≤100000000):Reads w (.slice a xs.length cap) 3 xs.length (fwCells xs):=by
 obtain ⟨h0,hl,hk,h1,h2,h3⟩:=h
 subst hl
 refine ⟨a,cap,rfl,hn,fwCells_len xs,fun hp=>?_⟩
 obtain ⟨b,off,ha,hb,hc⟩:=h3 hp
 refine ⟨b,off,ha,hb,fun j hj=>?_⟩
 have hjd:j / 3<xs.length:=by omega
 have h4:=fwCells_get xs (j / 3) (j % 3) (by omega) hjd
 rw [show j / 3 * 3 + j % 3=j by omega] at h4
 have hv:(xs[j / 3].vals)[j % 3]? = some (xs[j / 3].vals[j % 3]'(by rw [Fw.vals_len]; omega)):=List.getElem?_eq_getElem _
 have h5:=hc (j / 3) hjd (j % 3) _ hv
 rw [show off + j / 3 * 3 + j % 3=off + j by omega] at h5
 rw [h5,h4,hv]
end Go.Proofs.YtngnfdnfpiiclaaGreat
namespace Go.Proofs.YtngnfdnfpiiclaaGreat
open Go.RowKit Go.ChangeShapes Go.WideShapes
theorem route_ends {f0:Int→Int→Int} {B:Int} (h:GInv f0 B) (s t want:Int):∃ σ,IsRoute f0 B s t want σ:=by
 have key:∀ n:Nat,(∃ σ,IsRoute f0 B s t want σ)∨(∃ σ,RInv f0 B s t want n σ∧¬ doneR s t σ):=by
  intro n
  induction n with
  | zero =>
   by_cases hd:doneR s t ⟨f0,want,[]⟩
   ·exact .inl ⟨_,0,RInv.start h s t want,hd⟩
   ·exact .inr ⟨_,RInv.start h s t want,hd⟩
  | succ n ih =>
   rcases ih with h1 | ⟨σ,h1,h2⟩
   ·exact .inl h1
   ·have h3:=h1.step h2
    by_cases hd:doneR s t (wayR s t σ)
    ·exact .inl ⟨_,n + 1,h3,hd⟩
    ·exact .inr ⟨_,h3,hd⟩
 rcases key 4114 with h1 | ⟨σ,h1,_⟩
 ·exact h1
 ·have:=h1.k5
  omega
theorem IsRoute.len {f0:Int→Int→Int} {B s t want:Int} {σ:RS} (h:IsRoute f0 B s t want σ):σ.out.length≤70000:=by
 obtain ⟨k,h,_⟩:=h
 have h1:=h.len
 have h2:=h.k5
 omega
theorem zero_short (a b:Int):shortW zeroF a b=[]:=by
 unfold shortW
 rw [if_neg]
 rintro ⟨_,_,hne,hr⟩
 obtain ⟨m,_,hw⟩:=(inS_iff (GInv.zero (B:=0) (Int.le_refl _)) a 16 b).1 hr
 match m,hw with
 | 0,hw=>exact hne hw
 | m + 1,⟨r,h1,_⟩=>unfold zeroF at h1; omega
theorem route_out {f:Int→Int→Int} {B s t want:Int} {σ:RS} (h0:GInv f B) (hn:¬ (inP s∧inP t∧s≠t)) (h:IsRoute f B s t want σ):σ=⟨f,want,[]⟩:=by
 refine h.eq ⟨0,RInv.start h0 s t want,.inr ?_⟩
 show shortW f s t=[]
 unfold shortW
 rw [if_neg (fun h=>hn ⟨h.1,h.2.1,h.2.2.1⟩)]
def RoutePostA (f:Int→Int→Int) (s t want:Int) (e:TypeId) (w:World) (en:Ending) (w':World):Prop :=
 ∃ (σ:RS) (v:Value),en=.returned (.tuple #[v,.int .i64 (want - σ.left)])∧IsRoute f 4398046511104 s t want σ∧RowA w' w.heap.size e 3 v σ.out.length (fwCells σ.out)∧Below w.heap.size w w'
def IsM (w:World) (v:Value) (f:Int→Int→Int):Prop:=(v=.pointer none∧f=zeroF)∨∃ g,v=.pointer (some ⟨g,0,none⟩)∧Blk w g (graC f true) 327
theorem IsM.isG {w:World} {v:Value} {f:Int→Int→Int} (h:IsM w v f):IsG w v f:=by
 rcases h with h | ⟨g,h1,h2⟩
 ·exact .inl h
 ·exact .inr ⟨g,true,h1,h2⟩
theorem IsM.below {w w':World} {v:Value} {f:Int→Int→Int} (h:IsM w v f) (hb:Below w.heap.size w w'):IsM w' v f:=by
 rcases h with h | ⟨g,h1,h2⟩
 ·exact .inl h
 ·exact .inr ⟨g,h1,h2.below hb h2.lt⟩
theorem IsM.of {w:World} {g:Nat} {f:Int→Int→Int} (h:Blk w g (graC f true) 327):IsM w (.pointer (some ⟨g,0,none⟩)) f:=.inr ⟨g,rfl,h⟩
theorem IsM.nil (w:World):IsM w (.pointer none) zeroF:=.inl ⟨rfl,rfl⟩
def RouteProg:Prop:=∀ (w:World) (v:Value) (f:Int→Int→Int) (s t want:Int),IsM w v f→GInv f 4398046511104→In8 s→In8 t→In64 want →
 Calls Tryz.prog 192 #[v,.int .u8 s,.int .u8 t,.int .i64 want] w (RoutePostA f s t want 209 w)
theorem RouteProg.at_ (h:RouteProg) {w:World} {v:Value} {f:Int→Int→Int} {s t want:Int} {σ:RS} (hv:IsM w v f) (h0:GInv f 4398046511104) (hs:In8 s) (ht:In8 t) (hw:In64 want) (hσ:IsRoute f 4398046511104 s t want σ) :
  Calls Tryz.prog 192 #[v,.int .u8 s,.int .u8 t,.int .i64 want] w fun e w'=>∃ v',e=.returned (.tuple #[v',.int .i64 (want - σ.left)])∧RowA w' w.heap.size 209 3 v' σ.out.length (fwCells σ.out)∧Below w.heap.size w w':=by
 refine (h w v f s t want hv h0 hs ht hw).mono ?_
 rintro e w' ⟨ν,v',rfl,hν,hr,hb⟩
 rw [hν.eq hσ] at hr ⊢
 exact ⟨v',rfl,hr,hb⟩
end Go.Proofs.YtngnfdnfpiiclaaGreat
namespace Go.Proofs.YtngnfdnfpiiclaaGreat
structure Spr (f:Int→Int→Int) (a:Int) (R:Int→Prop) (pos:Int→Nat) (ah:Int→Int):Prop where
 ra:R a
 pa:pos a=0
 inj:∀ p q,R p→R q→pos p=pos q→p=q
 inp:∀ p,R p→inP p
 par:∀ q,R q→q≠a→R (ah q)∧0<f (ah q) q∧pos (ah q)<pos q
 cl:∀ p q,R p→0<f p q→R q∧(q=a∨pos (ah q)≤pos p)
 mono:∀ p q,R p→R q→p≠a→q≠a→pos p≤pos q→pos (ah p)≤pos (ah q)
 sib:∀ p q,R p→R q→p≠a→q≠a→ah p=ah q→p<q→pos p<pos q
variable {f:Int→Int→Int} {a:Int} {R:Int→Prop} {pos:Int→Nat} {ah:Int→Int}
theorem Spr.reach (h:Spr f a R pos ah):∀ (m:Nat) (y v:Int),wk f m y v→R y→R v
 | 0,y,v,hw,hy=>by
  have:y=v:=hw
  subst this
  exact hy
 | m + 1,y,v,⟨r,h1,h2⟩,hy=>h.reach m r v h2 (h.cl y r hy h1).1
theorem Spr.back (h:Spr f a R pos ah):∀ (m:Nat) (y v:Int),wk f m y v→R y→(∀ j,j<m→itr ah j v≠a)→R (itr ah m v)∧pos (itr ah m v)≤pos y
 | 0,y,v,hw,hy,_=>by
  have:y=v:=hw
  subst this
  exact ⟨hy,Nat.le_refl _⟩
 | m + 1,y,v,⟨r,h1,h2⟩,hy,hn=>by
  obtain ⟨c1,c2⟩:=h.cl y r hy h1
  obtain ⟨i1,i2⟩:=h.back m r v h2 c1 (fun j hj=>hn j (by omega))
  have ne:=hn m (by omega)
  have hr:r≠a:=by
   rintro rfl
   rw [h.pa] at i2
   exact ne (h.inj _ _ i1 h.ra (by rw [h.pa]; omega))
  rw [itr_succ]
  refine ⟨(h.par _ i1 ne).1,?_⟩
  have:=h.mono _ _ i1 c1 ne hr i2
  rcases c2 with c2 | c2
  ·exact absurd c2 hr
  ·omega
theorem Spr.depth (h:Spr f a R pos ah):∀ (n:Nat) (v:Int),R v→pos v=n→∃ D,itr ah D v=a∧∀ j,j<D→itr ah j v≠a:=by
 intro n
 induction n using Nat.strongRecOn with
 | _ n ih =>
  intro v hv hn
  by_cases hva:v=a
  ·exact ⟨0,hva,fun j hj=>by omega⟩
  ·obtain ⟨p1,p2,p3⟩:=h.par v hv hva
   obtain ⟨D,d1,d2⟩:=ih _ (by omega) (ah v) p1 rfl
   refine ⟨D + 1,d1,fun j hj=>?_⟩
   match j,hj with
   | 0,_=>exact hva
   | j + 1,hj=>exact d2 j (by omega)
theorem Spr.chain (h:Spr f a R pos ah) {v:Int} (hv:R v) {D:Nat} (hD:∀ j,j<D→itr ah j v≠a):∀ j,j≤D→R (itr ah j v)∧wk f j (itr ah j v) v∧∀ i,i<j→pos (itr ah j v)<pos (itr ah i v)
 | 0,_=>⟨hv,rfl,fun i hi=>by omega⟩
 | j + 1,hj=>by
  obtain ⟨i1,i2,i3⟩:=h.chain hv hD j (by omega)
  obtain ⟨p1,p2,p3⟩:=h.par _ i1 (hD j (by omega))
  rw [itr_succ]
  refine ⟨p1,⟨_,p2,i2⟩,fun i hi=>?_⟩
  by_cases hij:i=j
  ·subst hij; exact p3
  ·have:=i3 i (by omega)
   omega
def chainL (ah:Int→Int) (v:Int) (n:Nat):List Int:=((List.range n).map fun i=>itr ah i v).reverse
theorem chainL_len (ah:Int→Int) (v:Int) (n:Nat):(chainL ah v n).length=n:=by simp [chainL]
theorem chainL_succ (ah:Int→Int) (v:Int) (n:Nat):chainL ah v (n + 1)=itr ah n v::chainL ah v n:=by
 unfold chainL
 rw [List.range_succ,List.map_append,List.reverse_append]
 rfl
theorem Spr.goL (h:Spr f a R pos ah) {B:Int} (hI:GInv f B) {v:Int} (hv:R v) {D:Nat} (hD:∀ j,j<D→itr ah j v≠a):∀ n,n≤D→goS f v n (itr ah n v)=chainL ah v (n + 1)
 | 0,_=>rfl
 | n + 1,hn=>by
  obtain ⟨c1,c2,c3⟩:=h.chain hv hD (n + 1) hn
  obtain ⟨e1,e2,e3⟩:=h.chain hv hD n (by omega)
  obtain ⟨p1,p2,p3⟩:=h.par _ e1 (hD n (by omega))
  rw [chainL_succ]
  have hx:nxt f v n (itr ah (n + 1) v)=itr ah n v:=by
   unfold nxt
   rw [itr_succ]
   rw [parts_find (x:=itr ah n v) (h.inp _ e1)]
   ·rfl
   ·rw [Bool.and_eq_true,decide_eq_true_eq]
    exact ⟨p2,(inS_iff hI _ n v).2 ⟨n,Nat.le_refl _,e2⟩⟩
   ·intro y hy hlt
    cases hc:(decide (0<f (ah (itr ah n v)) y) && inS f y n v) with
    | false=>rfl
    | true =>
     rw [Bool.and_eq_true,decide_eq_true_eq] at hc
     obtain ⟨k1,k2⟩:=hc
     obtain ⟨m,hm,hw⟩:=(inS_iff hI y n v).1 k2
     obtain ⟨y1,y2⟩:=h.cl _ y p1 k1
     obtain ⟨b1,b2⟩:=h.back m y v hw y1 (fun j hj=>hD j (by omega))
     have hle:pos (itr ah n v)≤pos (itr ah m v):=by
      by_cases hmn:m=n
      ·subst hmn; exact Nat.le_refl _
      ·have:=e3 m (by omega); omega
     have hya:y≠a:=by
      rintro rfl
      rw [h.pa] at b2
      exact hD n (by omega) (h.inj _ _ e1 h.ra (by rw [h.pa]; omega))
     exfalso
     rcases y2 with y2 | y2
     ·exact hya y2
     ·rcases Nat.lt_or_ge (pos (ah y)) (pos (ah (itr ah n v))) with q | q
      ·rcases Nat.lt_or_ge (pos y) (pos (itr ah n v)) with q2 | q2
       ·omega
       ·have:=h.mono _ _ e1 y1 (hD n (by omega)) hya q2
        omega
      ·have hp:=(h.par y y1 hya).1
       have he:=h.inj _ _ hp p1 (by omega)
       have:=h.sib y _ y1 e1 hya (hD n (by omega)) he hlt
       omega
  show itr ah (n + 1) v::goS f v n (nxt f v n (itr ah (n + 1) v))=_
  rw [hx,h.goL hI hv hD n (by omega)]
theorem Spr.short (h:Spr f a R pos ah) {B:Int} (hI:GInv f B) (ha:inP a) {v:Int} (hv:R v) (hne:v≠a) :
  ∃ D,1≤D∧D≤15∧itr ah D v=a∧(∀ j,j≤D→inP (itr ah j v))∧(∀ i j,i<j→j≤D→itr ah i v≠itr ah j v)∧shortW f a v=chainL ah v (D + 1):=by
 obtain ⟨D,d1,d2⟩:=h.depth _ v hv rfl
 have hch:=h.chain hv d2
 have hD0:1≤D:=by
  rcases Nat.eq_zero_or_pos D with h0 | h0
  ·subst h0; exact absurd d1 hne
  ·exact h0
 have hwa:wk f D a v:=by rw [← d1]; exact (hch D (Nat.le_refl _)).2.1
 have hleast:∀ m,m<D→¬ wk f m a v:=by
  intro m hm hw
  obtain ⟨b1,b2⟩:=h.back m a v hw h.ra (fun j hj=>d2 j (by omega))
  rw [h.pa] at b2
  exact d2 m hm (h.inj _ _ b1 h.ra (by rw [h.pa]; omega))
 obtain ⟨k,k1,k2⟩:=wk_short hI D hwa
 have hD15:D≤15:=by
  rcases Nat.lt_or_ge k D with q | q
  ·exact absurd k2 (hleast k q)
  ·omega
 have hin:inS f a D v=true:=(inS_iff hI a D v).2 ⟨D,Nat.le_refl _,hwa⟩
 have hdst:dst f a v=D:=by
  refine dst_eq (by omega) hin fun m hm=>?_
  cases hc:inS f a m v with
  | false=>rfl
  | true =>
   obtain ⟨j,j1,j2⟩:=(inS_iff hI a m v).1 hc
   exact absurd j2 (hleast j (by omega))
 refine ⟨D,hD0,hD15,d1,fun j hj=>h.inp _ (hch j hj).1,fun i j hij hj e=>?_,?_⟩
 ·have:=(hch j hj).2.2 i hij
  rw [e] at this
  omega
 ·unfold shortW
  rw [if_pos ⟨ha,h.inp v hv,fun e=>hne e.symm,inS_mono (by omega) hin⟩,hdst]
  have:=h.goL hI hv d2 D (Nat.le_refl _)
  rw [d1] at this
  exact this
theorem Spr.no (h:Spr f a R pos ah) {B:Int} (hI:GInv f B) {v:Int} (hv:¬ R v):shortW f a v=[]:=by
 unfold shortW
 rw [if_neg]
 rintro ⟨_,_,_,hr⟩
 obtain ⟨m,_,hw⟩:=(inS_iff hI a 16 v).1 hr
 exact hv (h.reach m a v hw h.ra)
structure BfsI (f:Int→Int→Int) (a:Int) (x:Nat→Int) (pa:Nat→Nat) (n:Nat) (b:Int→Bool) (ah:Int→Int) (k:Nat) (c:Int):Prop where
 n1:1≤n
 x0:x 0=a
 inp:∀ i,i<n→inP (x i)
 inj:∀ i j,i<n→j<n→x i=x j→i=j
 came:∀ p,b p=true↔∃ i,i<n∧x i=p
 aha:ah a=0
 ah0:∀ p,b p=false→ah p=0
 par:∀ j,1≤j→j<n→pa j<j∧(pa j<k∨(pa j=k∧x j<c))∧ah (x j)=x (pa j)∧0<f (x (pa j)) (x j)
 mono:∀ i j,1≤i→i<j→j<n→pa i<pa j∨(pa i=pa j∧x i<x j)
 cl:∀ i w,i<n→(i<k∨(i=k∧w<c))→0<f (x i) w→∃ j,j<n∧x j=w∧(j=0∨pa j≤i)
theorem BfsI.start (f:Int→Int→Int) {a:Int} (ha:inP a) {B:Int} (hI:GInv f B):BfsI f a (fun _=>a) (fun _=>0) 1 (fun q=>if q=a then true else false) (fun _=>0) 0 1:=by
 refine ⟨Nat.le_refl _,rfl,fun _ _=>ha,fun i j hi hj _=>by omega,fun p=>?_,rfl,fun _ _=>rfl,fun j h1 h2=>by omega,fun i j h1 h2 h3=>by omega,fun i w hi h1 h2=>?_⟩
 ·show (if p=a then true else false)=true↔_
  constructor
  ·intro h
   by_cases hp:p=a
   ·exact ⟨0,by omega,hp.symm⟩
   ·rw [if_neg hp] at h; cases h
  ·rintro ⟨i,_,hi⟩
   rw [if_pos hi.symm]
 ·have:=(hI.ends h2).2.1
  unfold inP at this
  omega
variable {x:Nat→Int} {pa:Nat→Nat} {n:Nat} {b:Int→Bool} {k:Nat} {c:Int}
theorem BfsI.len (h:BfsI f a x pa n b ah k c):n≤16:=by
 rcases Nat.lt_or_ge 16 n with hn | hn
 ·obtain ⟨i,j,c1,c2,c3⟩:=pigeon 16 (fun i=>(x i).toNat - 1) (fun i hi=>by
   have:=h.inp i (by omega)
   unfold inP at this
   try dsimp only
   omega)
  have q1:=h.inp i (by omega)
  have q2:=h.inp j (by omega)
  unfold inP at q1 q2
  have:=h.inj i j (by omega) (by omega) (by
                        try dsimp only at c3
                        omega)
  omega
 ·exact hn
theorem BfsI.skip (h:BfsI f a x pa n b ah k c) (hk:k<n) (hc:b c=true∨f (x k) c≤0):BfsI f a x pa n b ah k (c + 1):=by
 refine ⟨h.n1,h.x0,h.inp,h.inj,h.came,h.aha,h.ah0,fun j h1 h2=>?_,h.mono,fun i w hi h1 h2=>?_⟩
 ·obtain ⟨p1,p2,p3⟩:=h.par j h1 h2
  exact ⟨p1,by omega,p3⟩
 ·by_cases hw:i=k∧w=c
  ·obtain ⟨rfl,rfl⟩:=hw
   rcases hc with hc | hc
   ·obtain ⟨j,j1,j2⟩:=(h.came w).1 hc
    refine ⟨j,j1,j2,?_⟩
    rcases Nat.eq_zero_or_pos j with h0 | h0
    ·exact .inl h0
    ·have:=(h.par j h0 j1).2.1
     omega
   ·omega
  ·exact h.cl i w hi (by omega) h2
theorem BfsI.add (h:BfsI f a x pa n b ah k c) (hk:k<n) (hb:b c=false) (hc:0<f (x k) c) (hp:inP c) :
  BfsI f a (fun i=>if i=n then c else x i) (fun i=>if i=n then k else pa i) (n + 1) (fun q=>if q=c then true else b q) (upI ah c (x k)) k (c + 1):=by
 have hnew:∀ i,i<n→x i≠c:=fun i hi e=>by
  have:=(h.came c).2 ⟨i,hi,e⟩
  rw [hb] at this; cases this
 have hx:∀ i,i<n→(if i=n then c else x i)=x i:=fun i hi=>if_neg (by omega)
 have hpa:∀ i,i<n→(if i=n then k else pa i)=pa i:=fun i hi=>if_neg (by omega)
 have hxn:(if n=n then c else x n)=c:=if_pos rfl
 have hpn:(if n=n then k else pa n)=k:=if_pos rfl
 refine ⟨by omega,?_,?_,?_,?_,?_,?_,?_,?_,?_⟩
 ·exact (hx 0 h.n1).trans h.x0
 ·intro i hi
  show inP (if i=n then c else x i)
  by_cases e:i=n
  ·rw [if_pos e]; exact hp
  ·rw [if_neg e]; exact h.inp i (by omega)
 ·intro i j hi hj e
  try dsimp only at e
  by_cases e1:i=n
  ·by_cases e2:j=n
   ·omega
   ·rw [if_pos e1,if_neg e2] at e
    exact absurd e.symm (hnew j (by omega))
  ·by_cases e2:j=n
   ·rw [if_neg e1,if_pos e2] at e
    exact absurd e (hnew i (by omega))
   ·rw [if_neg e1,if_neg e2] at e
    exact h.inj i j (by omega) (by omega) e
 ·intro p
  show (if p=c then true else b p)=true↔∃ i,i<n + 1∧(if i=n then c else x i)=p
  by_cases e:p=c
  ·rw [if_pos e]
   exact ⟨fun _=>⟨n,by omega,by rw [hxn,e]⟩,fun _=>rfl⟩
  ·rw [if_neg e]
   constructor
   ·intro hh
    obtain ⟨i,i1,i2⟩:=(h.came p).1 hh
    exact ⟨i,by omega,by rw [hx i i1]; exact i2⟩
   ·rintro ⟨i,i1,i2⟩
    by_cases ei:i=n
    ·rw [if_pos ei] at i2; exact absurd i2.symm e
    ·rw [if_neg ei] at i2
     exact (h.came p).2 ⟨i,by omega,i2⟩
 ·have:a≠c:=fun e=>hnew 0 h.n1 (h.x0.trans e)
  rw [upI_ne _ this]; exact h.aha
 ·intro p hp0
  try dsimp only at hp0
  by_cases e:p=c
  ·rw [if_pos e] at hp0; cases hp0
  ·rw [if_neg e] at hp0
   rw [upI_ne _ e]; exact h.ah0 p hp0
 ·intro j h1 h2
  show (if j=n then k else pa j)<j∧((if j=n then k else pa j)<k∨((if j=n then k else pa j)=k∧(if j=n then c else x j)<c + 1))∧upI ah c (x k) (if j=n then c else x j)=(if (if j=n then k else pa j)=n then c else x (if j=n then k else pa j))∧0<f (if (if j=n then k else pa j)=n then c else x (if j=n then k else pa j)) (if j=n then c else x j)
  by_cases e:j=n
  ·subst e
   rw [hxn,hpn,hx k hk,upI_same]
   exact ⟨hk,by omega,rfl,hc⟩
  ·have hj:j<n:=by omega
   obtain ⟨p1,p2,p3,p4⟩:=h.par j h1 hj
   rw [hx j hj,hpa j hj,hx _ (by omega),upI_ne _ (hnew j hj)]
   exact ⟨p1,by omega,p3,p4⟩
 ·intro i j h1 h2 h3
  show (if i=n then k else pa i)<(if j=n then k else pa j)∨((if i=n then k else pa i)=(if j=n then k else pa j)∧(if i=n then c else x i)<(if j=n then c else x j))
  have hi:i<n:=by omega
  rw [hx i hi,hpa i hi]
  by_cases e:j=n
  ·subst e
   rw [hxn,hpn]
   have:=(h.par i h1 hi).2.1
   omega
  ·have hj:j<n:=by omega
   rw [hx j hj,hpa j hj]
   exact h.mono i j h1 h2 hj
 ·intro i w hi h1 h2
  try dsimp only at h2 ⊢
  by_cases e:i=n
  ·omega
  ·rw [if_neg e] at h2
   by_cases hw:i=k∧w=c
   ·refine ⟨n,by omega,by rw [hxn]; exact hw.2.symm,.inr ?_⟩
    rw [hpn]; omega
   ·obtain ⟨j,j1,j2,j3⟩:=h.cl i w (by omega) (by omega) h2
    exact ⟨j,by omega,by rw [hx j j1]; exact j2,by rw [hpa j j1]; exact j3⟩
theorem BfsI.next (h:BfsI f a x pa n b ah k 17) {B:Int} (hI:GInv f B):BfsI f a x pa n b ah (k + 1) 1:=by
 refine ⟨h.n1,h.x0,h.inp,h.inj,h.came,h.aha,h.ah0,fun j h1 h2=>?_,h.mono,fun i w hi h1 h2=>?_⟩
 ·obtain ⟨p1,p2,p3⟩:=h.par j h1 h2
  exact ⟨p1,by omega,p3⟩
 ·have hw:=(hI.ends h2).2.1
  unfold inP at hw
  exact h.cl i w hi (by omega) h2
def posB (x:Nat→Int) (n:Nat) (p:Int):Nat:=((List.range n).find? fun i=>x i==p).getD 0
theorem BfsI.place (h:BfsI f a x pa n b ah k c) {i:Nat} (hi:i<n):posB x n (x i)=i:=by
 unfold posB
 have:(List.range n).find? (fun j=>x j==x i)=some i:=by
  rw [List.find?_eq_some_iff_getElem]
  refine ⟨by simp,i,by simpa using hi,by simp,fun j hj=>?_⟩
  have:x j≠x i:=fun e=>by have:=h.inj j i (by omega) hi e; omega
  simpa using this
 rw [this]
 rfl
theorem BfsI.done (h:BfsI f a x pa n b ah n 1) {B:Int} (hI:GInv f B):Spr f a (fun p=>b p=true) (posB x n) ah:=by
 have idx:∀ q,b q=true→q≠a→∃ j,1≤j∧j<n∧x j=q:=by
  intro q hq hqa
  obtain ⟨j,j1,j2⟩:=(h.came q).1 hq
  refine ⟨j,?_,j1,j2⟩
  rcases Nat.eq_zero_or_pos j with h0 | h0
  ·subst h0; exact absurd (j2.symm.trans h.x0) hqa
  ·exact h0
 refine ⟨(h.came a).2 ⟨0,h.n1,h.x0⟩,?_,?_,?_,?_,?_,?_,?_⟩
 ·have:=h.place h.n1
  rwa [h.x0] at this
 ·intro p q hp hq e
  obtain ⟨i,i1,rfl⟩:=(h.came p).1 hp
  obtain ⟨j,j1,rfl⟩:=(h.came q).1 hq
  rw [h.place i1,h.place j1] at e
  rw [e]
 ·intro p hp
  obtain ⟨i,i1,rfl⟩:=(h.came p).1 hp
  exact h.inp i i1
 ·intro q hq hqa
  obtain ⟨j,j0,j1,rfl⟩:=idx q hq hqa
  obtain ⟨p1,p2,p3,p4⟩:=h.par j j0 j1
  rw [p3]
  refine ⟨(h.came _).2 ⟨pa j,by omega,rfl⟩,p4,?_⟩
  rw [h.place j1,h.place (show pa j<n by omega)]
  exact p1
 ·intro p q hp h0
  obtain ⟨i,i1,rfl⟩:=(h.came p).1 hp
  obtain ⟨j,j1,rfl,j3⟩:=h.cl i q i1 (by omega) h0
  refine ⟨(h.came _).2 ⟨j,j1,rfl⟩,?_⟩
  rcases j3 with j3 | j3
  ·left; subst j3; exact h.x0
  ·rcases Nat.eq_zero_or_pos j with j0 | j0
   ·left; subst j0; exact h.x0
   ·right
    rw [(h.par j j0 j1).2.2.1,h.place i1,h.place (show pa j<n by have:=(h.par j j0 j1).1; omega)]
    exact j3
 ·intro p q hp hq hpa hqa hle
  obtain ⟨i,i0,i1,rfl⟩:=idx p hp hpa
  obtain ⟨j,j0,j1,rfl⟩:=idx q hq hqa
  have pi:=h.par i i0 i1
  have pj:=h.par j j0 j1
  rw [h.place i1,h.place j1] at hle
  rw [pi.2.2.1,pj.2.2.1,h.place (show pa i<n by omega),h.place (show pa j<n by omega)]
  by_cases e:i=j
  ·subst e; exact Nat.le_refl _
  ·have:=h.mono i j i0 (by omega) j1
   omega
 ·intro p q hp hq hpa hqa e hlt
  obtain ⟨i,i0,i1,rfl⟩:=idx p hp hpa
  obtain ⟨j,j0,j1,rfl⟩:=idx q hq hqa
  have pi:=h.par i i0 i1
  have pj:=h.par j j0 j1
  rw [pi.2.2.1,pj.2.2.1] at e
  have he:=h.inj _ _ (show pa i<n by omega) (show pa j<n by omega) e
  rw [h.place i1,h.place j1]
  rcases Nat.lt_or_ge i j with q1 | q1
  ·exact q1
  ·by_cases e2:i=j
   ·subst e2; omega
   ·have:=h.mono j i j0 (by omega) i1
    omega
def qL (x:Nat→Int) (k n:Nat):List Int:=(List.range (n - k)).map fun i=>x (k + i)
theorem qL_len (x:Nat→Int) (k n:Nat):(qL x k n).length=n - k:=by simp [qL]
theorem qL_head (x:Nat→Int) {k n:Nat} (h:k<n):qL x k n=x k::qL x (k + 1) n:=by
 unfold qL
 rw [show n - k=(n - (k + 1)) + 1 by omega,List.range_succ_eq_map]
 simp only [List.map_cons,List.map_map,Nat.add_zero,List.cons.injEq,true_and]
 refine List.map_congr_left fun i _=>?_
 show x (k + (i + 1))=x (k + 1 + i)
 rw [Nat.add_right_comm,Nat.add_assoc]
theorem qL_add (x:Nat→Int) {k n:Nat} (h:k≤n) (c:Int):qL (fun i=>if i=n then c else x i) k (n + 1)=qL x k n++[c]:=by
 unfold qL
 rw [show n + 1 - k=(n - k) + 1 by omega,List.range_succ,List.map_append]
 congr 1
 ·refine List.map_congr_left fun i hi=>?_
  have:=List.mem_range.1 hi
  try dsimp only
  rw [if_neg (by omega)]
 ·simp only [List.map_cons,List.map_nil]
  rw [if_pos (by omega)]
end Go.Proofs.YtngnfdnfpiiclaaGreat
namespace Go.Proofs.YtngnfdnfpiiclaaGreat
open Go.RowKit
def Ed.vals (e:Ed):List Value:=[.int .u8 e.fr,.int .u8 e.tt,.int .i8 e.co]
theorem Ed.vals_len (x:Ed):x.vals.length=3:=rfl
def edCells (ls:List Ed):List Value:=ls.flatMap Ed.vals
theorem edCells_len (ls:List Ed):(edCells ls).length=ls.length * 3:=flat_len _ 3 Ed.vals_len ls
theorem edCells_get (ls:List Ed) (i j:Nat) (hj:j<3) (h:i<ls.length):(edCells ls)[i * 3 + j]? = ls[i].vals[j]? := by
 unfold edCells
 rw [flat_get _ 3 Ed.vals_len ls i j hj,List.getElem?_eq_getElem h]
 rfl
structure Ed.Fits (x:Ed):Prop where
 fr:In8 x.fr
 tt:In8 x.tt
 co:-128≤x.co∧x.co≤127
def ahA (g:Int→Int):Array Value:=rowA (fun _ q=>.int .u8 (g q)) 0
theorem ahA_size (g:Int→Int):(ahA g).size=17:=rowA_size _ _
theorem ahA_get (g:Int→Int) {i:Nat} (h:i<17):(ahA g)[i]? = some (.int .u8 (g i)):=rowA_get _ _ h
theorem ahA_set (g:Int→Int) {i:Nat} (hi:i<17) (n:Int):(ahA g).setIfInBounds i (.int .u8 n)=ahA (upI g i n):=by
 unfold ahA
 rw [rowA_set _ _ hi]
 refine rowA_congr fun j hj=>?_
 unfold upI
 try dsimp only
 split <;> rfl
theorem Blk.ahAt {w:World} {g:Nat} {l:Int→Int} {t:TypeId} (h:Blk w g (ahA l) t) {p:Int} (h0:0≤p) (h1:p<17):w.cell? ⟨g,p.toNat,none⟩=some (.int .u8 (l p)):=by
 rw [h.cell,ahA_get l (by omega),Int.toNat_of_nonneg h0]
theorem Blk.ahSet {w:World} {g:Nat} {l:Int→Int} {t:TypeId} (h:Blk w g (ahA l) t) {p:Int} (h0:0≤p) (h1:p<17) (n:Int):Blk (w.setCell ⟨g,p.toNat,none⟩ (.int .u8 n)) g (ahA (upI l p n)) t:=by
 have:=h.set p.toNat (.int .u8 n)
 rw [ahA_set l (by omega),Int.toNat_of_nonneg h0] at this
 exact this
attribute [irreducible] ahA
end Go.Proofs.YtngnfdnfpiiclaaGreat
