/-
  Pieces of one proof, without what is not wanted: Acts, Off, SlIn, FlwIn, FlowProg.
-/
import Derived.Test.YtojbmnbphdcjfaaGreatE02
import Derived.Test.YtojbmnbphdcjfaaGreatE03
import Derived.Test.YtojbmnbphdcjfaaGreatE05
import Derived.Deep.Slices
import Derived.Deep.Fields
import Derived.ChangeSame
import Derived.OpenShut
import Derived.Lib.SmallJoins
set_option linter.unusedSimpArgs false
set_option linter.unusedVariables false
namespace Go.Proofs.YtojbmnbphdcjfaaGreat
open Go.RowKit Go.ChangeShapes Go.WideShapes Go.Deep
section
variable {H:Type} {enc:TypeId × Value→H} {P:Program} {w:World} {base:Nat} {spare:Nat→Bool} {held:Bool}
theorem nums_read {t:TypeId} {fs:Array Field} {ks:List IntKind} (hu:P.underlying t=some (.struct fs)) (hone:oneCellFields P fs=true) (hC:P.cellsOf t=ks.length)
  (hk:∀ (j:Nat) (k:IntKind),ks[j]? = some k→∃ f,fs[j]? = some f∧P.underlying f.type=some (.int k)) {fuel:Nat} {cs:List Value} {x:DataW H × List MemPlace} (h:DataW.trod enc P w base spare held fuel t cs=some x) :
  cs.length=ks.length∧∀ (j:Nat) (k:IntKind),ks[j]? = some k→∃ n,cs[j]? = some (.int k n)∧(Lit.int k n).wf=true:=by
 obtain ⟨xs,n,_,_,hlen,hxl,hf⟩:=DataW.trod_struct hu h
 rw [hC] at hlen
 refine ⟨hlen,fun j k hj=>?_⟩
 have hjl:j<ks.length:=(List.getElem?_eq_some_iff.1 hj).1
 obtain ⟨f,hfj,hfk⟩:=hk j k hj
 obtain ⟨ho,hc⟩:=hone_of hone j f hfj
 have h1:=hf j f hfj
 have hone':(cs.drop j).take 1=[cs[j]'(by omega)]:=by
  rw [List.drop_eq_getElem_cons (by omega)]
  rfl
 rw [ho,hc,hone'] at h1
 have hjf:j<fs.size:=(Array.getElem?_eq_some_iff.1 hfj).1
 have h2:xs[j]? = some (xs[j]'(by omega)):=List.getElem?_eq_getElem (by omega)
 rw [h2] at h1
 obtain ⟨m,hm,_,hw⟩:=DataW.trod_int hfk h1
 refine ⟨m,?_,hw⟩
 rw [List.getElem?_eq_getElem (by omega)]
 simpa using hm
end
structure Ac where
 k:Int
 a:Int
 b:Int
 c:Int
 n:Int
def Ac.vals (x:Ac):List Value:=[.int .u8 x.k,.int .u8 x.a,.int .u8 x.b,.int .u8 x.c,.int .i64 x.n]
structure Ac.Ok (x:Ac):Prop where
 k:In8 x.k
 a:In8 x.a
 b:In8 x.b
 c:In8 x.c
 n:In64 x.n
theorem In8.of_wf {n:Int} (h:(Lit.int .u8 n).wf=true):In8 n:=by
 simp [Lit.wf,IntKind.min,IntKind.max,IntKind.signed,IntKind.bits] at h
 exact ⟨by omega,by omega⟩
theorem ac_of {cs:List Value} (h1:cs.length=5) (h:∀ (j:Nat) (k:IntKind),([.u8,.u8,.u8,.u8,.i64]:List IntKind)[j]? = some k→∃ n,cs[j]? = some (.int k n)∧(Lit.int k n).wf=true):∃ x:Ac,x.Ok∧cs=x.vals:=by
 obtain ⟨n0,e0,w0⟩:=h 0 _ rfl
 obtain ⟨n1,e1,w1⟩:=h 1 _ rfl
 obtain ⟨n2,e2,w2⟩:=h 2 _ rfl
 obtain ⟨n3,e3,w3⟩:=h 3 _ rfl
 obtain ⟨n4,e4,w4⟩:=h 4 _ rfl
 match cs,h1 with
 | [c0,c1,c2,c3,c4],_ =>
  simp at e0 e1 e2 e3 e4
  subst e0 e1 e2 e3 e4
  exact ⟨⟨n0,n1,n2,n3,n4⟩,⟨In8.of_wf w0,In8.of_wf w1,In8.of_wf w2,In8.of_wf w3,In64.of_wf w4⟩,rfl⟩
theorem act_kinds:∃ fs,Tryz.prog.underlying 92=some (.struct fs)∧oneCellFields Tryz.prog fs=true∧∀ (j:Nat) (k:IntKind),([.u8,.u8,.u8,.u8,.i64]:List IntKind)[j]? = some k→∃ f,fs[j]? = some f∧Tryz.prog.underlying f.type=some (.int k):=by
 refine ⟨_,Tryz.underlying92,by kernel_rfl,?_⟩
 intro j k hj
 match j,hj with
 | 0,hj=>cases hj; exact ⟨_,rfl,Tryz.underlying5⟩
 | 1,hj=>cases hj; exact ⟨_,rfl,Tryz.underlying39⟩
 | 2,hj=>cases hj; exact ⟨_,rfl,Tryz.underlying39⟩
 | 3,hj=>cases hj; exact ⟨_,rfl,Tryz.underlying40⟩
 | 4,hj=>cases hj; exact ⟨_,rfl,Tryz.underlying2⟩
 | j + 5,hj=>simp at hj
section
variable {H:Type} {enc:TypeId × Value→H} {w:World} {base:Nat} {spare:Nat→Bool} {held:Bool}
theorem act_read {fuel:Nat} {cs:List Value} {x:DataW H × List MemPlace} (h:DataW.trod enc Tryz.prog w base spare held fuel 92 cs=some x):∃ x:Ac,x.Ok∧cs=x.vals:=by
 obtain ⟨fs,hu,ho,hk⟩:=act_kinds
 have hC:Tryz.prog.cellsOf 92=5:=by kernel_rfl
 generalize Tryz.prog=P at *
 obtain ⟨h1,h2⟩:=nums_read (ks:=[.u8,.u8,.u8,.u8,.i64]) hu ho hC hk h
 exact ac_of h1 h2
def ActsIn (w:World) (a:Option Addr) (len cap:Nat) (xs:List Ac):Prop :=
 xs.length=len∧(∀ x ∈ xs,x.Ok)∧len≤cap∧cap≤maxLen∧(0<len→∃ b off,a=some ⟨b,off,none⟩∧b<w.heap.size∧∀ i (h:i<xs.length) (j:Nat) (v:Value),xs[i].vals[j]? = some v→w.cell? ⟨b,off + i * 5 + j,none⟩=some v)
set_option maxRecDepth 100000 in
theorem acts_open {a:Option Addr} {len cap:Nat} {d:DataW H} {p:List MemPlace} (h:DataW.Trod enc Tryz.prog w base spare held 22 (.slice a len cap) d p):∃ xs,ActsIn w a len cap xs:=by
 obtain ⟨fuel,hf⟩:=h
 rcases open_slice Tryz.underlying22 hf with ⟨h0,_⟩ | ⟨ad,l,c,m,n,D,Pl,hcs,hb,hl,hm,hmm,hx,hi⟩
 ·simp [Value.cells] at h0
  obtain ⟨rfl,rfl,rfl⟩:=h0
  exact ⟨[],rfl,by simp,Nat.le_refl _,by unfold maxLen; omega,fun h=>by omega⟩
 ·simp [Value.cells] at hcs
  obtain ⟨rfl,rfl,rfl⟩:=hcs
  have hC:Tryz.prog.cellsOf 92=5:=by kernel_rfl
  have hlm:len≤m:=by rw [hmm]; split <;> omega
  have key:∀ i,i<len→∃ x:Ac,x.Ok∧∀ (j:Nat) (v:Value),x.vals[j]? = some v→w.cell? ((ad.add (i * 5)).add j)=some v:=by
   intro i hil
   obtain ⟨cs',hc,ht⟩:=hi i (by omega)
   rw [hC] at hc
   obtain ⟨x,hx,rfl⟩:=act_read ht
   obtain ⟨_,_,hat⟩:=World.cells?_some hc
   refine ⟨x,hx,fun j v hj=>?_⟩
   have hj5:j<5:=by
    have:=(List.getElem?_eq_some_iff.1 hj).1
    exact this
   rw [hat j hj5,hj]
  have hex:∀ k,k≤len→∃ xs:List Ac,xs.length=k∧(∀ x ∈ xs,x.Ok)∧∀ i (h:i<xs.length) (j:Nat) (v:Value),xs[i].vals[j]? = some v→w.cell? ((ad.add (i * 5)).add j)=some v:=by
   intro k
   induction k with
   | zero=>intro _; exact ⟨[],rfl,by simp,fun i h=>by simp at h⟩
   | succ k ih =>
    intro hk
    obtain ⟨xs,h1,h2,h3⟩:=ih (by omega)
    obtain ⟨x,hx,hxc⟩:=key k (by omega)
    refine ⟨xs++[x],by simp [h1],?_,?_⟩
    ·intro y hy
     rcases List.mem_append.1 hy with hy | hy
     ·exact h2 y hy
     ·rw [List.mem_singleton] at hy; rw [hy]; exact hx
    ·intro i hi j v hv
     by_cases hik:i<xs.length
     ·rw [List.getElem_append_left hik] at hv
      exact h3 i hik j v hv
     ·have:i=k:=by rw [List.length_append,List.length_singleton] at hi; omega
      subst this
      rw [List.getElem_append_right (by omega)] at hv
      simp [h1] at hv
      exact hxc j v hv
  obtain ⟨xs,h1,h2,h3⟩:=hex len (Nat.le_refl _)
  refine ⟨xs,h1,h2,hl,hm,fun hp=>?_⟩
  have h00:=h3 0 (by omega) 0 _ rfl
  have hsp:ad.spot=none:=by
   rcases hs:ad.spot with _ | s
   ·rfl
   ·exfalso
    rw [Go.Deep.add_add] at h00
    have e:(ad.add (0 * 5 + 0)).spot=ad.spot:=by cases ad; simp [Addr.add]
    unfold World.cell? at h00
    rw [e,hs] at h00
    split at h00
    ·simp at h00
    ·cases h00
  obtain ⟨b,off,sp⟩:=ad
  simp only at hsp
  subst hsp
  have hcell:∀ i (h:i<xs.length) (j:Nat) (v:Value),xs[i].vals[j]? = some v→w.cell? ⟨b,off + i * 5 + j,none⟩=some v:=by
   intro i hi j v hv
   have:=h3 i hi j v hv
   rw [Go.Deep.add_add,Go.WideShapes.add_plain] at this
   rw [Nat.add_assoc]
   exact this
  exact ⟨b,off,rfl,World.block_lt_of_cell? _ _ (hcell 0 (by omega) 0 _ rfl),hcell⟩
end
theorem ActsIn.below {w w':World} {a:Option Addr} {len cap:Nat} {xs:List Ac} (h:ActsIn w a len cap xs) (k:Below w.heap.size w w'):ActsIn w' a len cap xs:=by
 obtain ⟨h1,h2,h3,h4,h5⟩:=h
 refine ⟨h1,h2,h3,h4,fun hp=>?_⟩
 obtain ⟨b,off,rfl,hlt,hc⟩:=h5 hp
 exact ⟨b,off,rfl,Nat.lt_of_lt_of_le hlt k.size,fun i hi j v hv=>by rw [k.cell (p:=⟨b,off + i * 5 + j,none⟩) hlt]; exact hc i hi j v hv⟩
theorem ActsIn.at {w:World} {a:Option Addr} {len cap:Nat} {xs:List Ac} (h:ActsIn w a len cap xs) {i:Nat} (hi:i<xs.length):∃ b off,a=some ⟨b,off,none⟩∧b<w.heap.size ∧
  w.cell? ⟨b,off + i * 5,none⟩=some (.int .u8 xs[i].k)∧w.cell? ⟨b,off + i * 5 + 1,none⟩=some (.int .u8 xs[i].a)∧w.cell? ⟨b,off + i * 5 + 2,none⟩=some (.int .u8 xs[i].b)∧w.cell? ⟨b,off + i * 5 + 3,none⟩=some (.int .u8 xs[i].c)∧w.cell? ⟨b,off + i * 5 + 4,none⟩=some (.int .i64 xs[i].n):=by
 obtain ⟨h1,h2,h3,h4,h5⟩:=h
 obtain ⟨b,off,rfl,hlt,hc⟩:=h5 (by omega)
 exact ⟨b,off,rfl,hlt,by have:=hc i hi 0 _ rfl; simpa using this,hc i hi 1 _ rfl,hc i hi 2 _ rfl,hc i hi 3 _ rfl,hc i hi 4 _ rfl⟩
end Go.Proofs.YtojbmnbphdcjfaaGreat
namespace Go.Proofs.YtojbmnbphdcjfaaGreat
open Go.RowKit
structure Of where
 se:Int
 ow:Int
 sl:Int
 bu:Int
 lf:Int
 nu:Int
 de:Int
deriving DecidableEq
def Of.vals (x:Of):List Value:=[.int .u64 x.se,.int .u8 x.ow,.int .u8 x.sl,.int .u8 x.bu,.int .i64 x.lf,.int .i64 x.nu,.int .i64 x.de]
theorem Of.vals_len (x:Of):x.vals.length=7:=rfl
def ofCells (ls:List Of):List Value:=ls.flatMap Of.vals
def Of.val (x:Of):Value:=.agg #[.int .u64 x.se,.int .u8 x.ow,.int .u8 x.sl,.int .u8 x.bu,.int .i64 x.lf,.int .i64 x.nu,.int .i64 x.de]
theorem ofCells_len (ls:List Of):(ofCells ls).length=ls.length * 7:=flat_len _ 7 Of.vals_len ls
theorem ofCells_get (ls:List Of) (i j:Nat) (hj:j<7) (h:i<ls.length):(ofCells ls)[i * 7 + j]? = ls[i].vals[j]? := by
 unfold ofCells
 rw [flat_get _ 7 Of.vals_len ls i j hj,List.getElem?_eq_getElem h]
 rfl
theorem ofCells_append (a b:List Of):ofCells (a++b)=ofCells a++ofCells b:=by unfold ofCells; exact List.flatMap_append
theorem ofCells_one (x:Of):ofCells [x]=x.vals:=by simp [ofCells]
structure Of.Fits (x:Of):Prop where
 se:(0≤x.se∧x.se≤18446744073709551615)
 ow:In8 x.ow
 sl:In8 x.sl
 bu:In8 x.bu
 lf:In64 x.lf
 nu:In64 x.nu
 de:In64 x.de
theorem ofCells_oneCell (l:List Of):∀ u ∈ ofCells l,u.oneCell'=true:=by
 intro u hu
 unfold ofCells at hu
 obtain ⟨x,_,hx⟩:=List.mem_flatMap.1 hu
 simp [Of.vals] at hx
 rcases hx with rfl | rfl | rfl | rfl | rfl | rfl | rfl <;> rfl
theorem info_of:(Tryz.prog.info? 76).map (fun i=>(i.zero,i.size,i.bytes))=some (some (Of.val ⟨0,0,0,0,0,0,0⟩),7,40):=by kernel_rfl
theorem wpList_append_of (w:World) {ops:Array Oper} {rest:List Oper} {o:Oper} {a:Act} {Q:Exit→Act→World→Prop} (hgd:o.guard=none) (s x:Operand)
  (ho:o.op=.call { callee:=.builtin .append,args:=#[s,x],argTypes:=#[23,23] }) (base:Nat) (v:Value) (ls:List Of) (hs:a.eval s=v)
  (hown:w.ownsRow base 76 7 v ls.length (ofCells ls)) (g c:Nat) (y:Of) (hx:a.eval x=.slice (some ⟨g,0,none⟩) 1 c) (hy:Blk w g #[.int .u64 y.se,.int .u8 y.ow,.int .u8 y.sl,.int .u8 y.bu,.int .i64 y.lf,.int .i64 y.nu,.int .i64 y.de] 76) (hlen:ls.length≤100000) (hbase:base≤w.heap.size)
  (h:∀ v' w',w'.ownsRow base 76 7 v' (ls++[y]).length (ofCells (ls++[y]))→w.grownBy w' v.ownBlock→wpList Tryz.prog ops Q rest (a.put o.dst v') w'):wpList Tryz.prog ops Q (o::rest) a w:=by
 obtain ⟨i0,hi,hz0,hz1,hz2⟩:=info_parts info_of
 refine wpList_append_own w hgd s x 23 ho base 76 i0 (Of.val ⟨0,0,0,0,0,0,0⟩) 7 40 Tryz.underlying23 hi hz0 hz1 hz2 rfl (by decide) v ls.length (ofCells ls) hs hown ⟨g,0,none⟩ 1 c y.vals hx rfl ?_ ?_ (by unfold maxLen; omega) (by omega) hbase ?_
 ·intro j u hj
  have:=hy.cell j
  rw [Go.WideShapes.add_plain]
  match j,hj with
  | 0,hj=>simp [Of.vals] at hj; subst hj; simpa using this
  | 1,hj=>simp [Of.vals] at hj; subst hj; simpa using this
  | 2,hj=>simp [Of.vals] at hj; subst hj; simpa using this
  | 3,hj=>simp [Of.vals] at hj; subst hj; simpa using this
  | 4,hj=>simp [Of.vals] at hj; subst hj; simpa using this
  | 5,hj=>simp [Of.vals] at hj; subst hj; simpa using this
  | 6,hj=>simp [Of.vals] at hj; subst hj; simpa using this
  | j + 7,hj=>simp [Of.vals] at hj
 ·intro u hu
  simp [Of.vals] at hu
  rcases hu with rfl | rfl | rfl | rfl | rfl | rfl | rfl <;> rfl
 ·intro v' w' h1 h2 _
  refine h v' w' ?_ h2
  rw [ofCells_append,ofCells_one,List.length_append]
  exact h1
theorem of_parts (x y:Of):(x=y)∨(x≠y∧(x.se==y.se)=false)∨(x≠y∧(x.se==y.se)=true∧(x.ow==y.ow)=false)∨(x≠y∧(x.se==y.se)=true∧(x.ow==y.ow)=true∧(x.sl==y.sl)=false)∨(x≠y∧(x.se==y.se)=true∧(x.ow==y.ow)=true∧(x.sl==y.sl)=true∧(x.bu==y.bu)=false)∨(x≠y∧(x.se==y.se)=true∧(x.ow==y.ow)=true∧(x.sl==y.sl)=true∧(x.bu==y.bu)=true∧(x.lf==y.lf)=false)∨(x≠y∧(x.se==y.se)=true∧(x.ow==y.ow)=true∧(x.sl==y.sl)=true∧(x.bu==y.bu)=true∧(x.lf==y.lf)=true∧(x.nu==y.nu)=false)∨(x≠y∧(x.se==y.se)=true∧(x.ow==y.ow)=true∧(x.sl==y.sl)=true∧(x.bu==y.bu)=true∧(x.lf==y.lf)=true∧(x.nu==y.nu)=true∧(x.de==y.de)=false):=by
 obtain ⟨a0,a1,a2,a3,a4,a5,a6⟩:=x
 obtain ⟨b0,b1,b2,b3,b4,b5,b6⟩:=y
 by_cases h0:a0=b0
 case neg=>simp [h0]
 case pos =>
  by_cases h1:a1=b1
  case neg=>simp [h0,h1]
  case pos =>
   by_cases h2:a2=b2
   case neg=>simp [h0,h1,h2]
   case pos =>
    by_cases h3:a3=b3
    case neg=>simp [h0,h1,h2,h3]
    case pos =>
     by_cases h4:a4=b4
     case neg=>simp [h0,h1,h2,h3,h4]
     case pos =>
      by_cases h5:a5=b5
      case neg=>simp [h0,h1,h2,h3,h4,h5]
      case pos =>
       by_cases h6:a6=b6
       case neg=>simp [h0,h1,h2,h3,h4,h5,h6]
       case pos =>
        simp [h0,h1,h2,h3,h4,h5,h6]
set_option maxHeartbeats 8000000 in
theorem sameOf_any {w:World} {va vb:Value} {la lb:List Of} (ha:Reads w va 7 la.length (ofCells la)) (hb:Reads w vb 7 lb.length (ofCells lb)) :
  Calls Tryz.prog 58 #[va,vb] w fun e w'=>e=.returned (.bool (decide (la=lb)))∧Below w.heap.size w w':=by
 obtain ⟨ao,ca,rfl,a1,a2,a3⟩:=ha
 obtain ⟨bo,cb,rfl,b1,b2,b3⟩:=hb
 have HA:=Lib.hid a3; have HB:=Lib.hid b3
 clear a2 a3 b2 b3
 by_cases hlen:la.length=lb.length
 ·have L:=Lib.hid hlen
  have hll:lb.length=la.length:=hlen.symm
  rw [hll]
  clear hll hlen b1
  go_enter Tryz.func58,Tryz.ntmps58
  go_wp2
  go_loopw [5] (fun i wr=>∃ k:Nat,k≤la.length∧i=.int .i64 k∧Hid (la.take k=lb.take k)∧Below w.heap.size w wr) (fun i _=>la.length - (intOf i).toNat)
  case atStart=>exact ⟨0,Nat.zero_le _,rfl,Lib.hid (by simp),Below.refl _ _⟩
  case round =>
   obtain ⟨k,hk,rfl,ht,hbl⟩:=hrel
   have BL:=Lib.hid hbl
   by_cases hkl:k<la.length
   ·have hkb:k<lb.length:=by have:=L.out; omega
    obtain ⟨b1,o1,rfl,hlt1,hc1⟩:=HA.out (by omega)
    obtain ⟨b2,o2,rfl,hlt2,hc2⟩:=HB.out (by omega)
    have HC1:=Lib.hid (fun j (hj:j<la.length * 7)=>(hbl.cell (p:=⟨b1,o1 + j,none⟩) hlt1).trans (hc1 j hj))
    have HC2:=Lib.hid (fun j (hj:j<lb.length * 7)=>(hbl.cell (p:=⟨b2,o2 + j,none⟩) hlt2).trans (hc2 j hj))
    have d0:wr.cell? ⟨b1,o1 + k * 7,none⟩=some (.int .u64 la[k].se):=by
     have q1:=HC1.out (k * 7 + 0) (by omega)
     rw [ofCells_get la k 0 (by omega) hkl] at q1
     first | exact q1 | (rw [← Nat.add_assoc] at q1; exact q1)
    have d1:wr.cell? ⟨b1,o1 + k * 7 + 1,none⟩=some (.int .u8 la[k].ow):=by
     have q1:=HC1.out (k * 7 + 1) (by omega)
     rw [ofCells_get la k 1 (by omega) hkl] at q1
     first | exact q1 | (rw [← Nat.add_assoc] at q1; exact q1)
    have d2:wr.cell? ⟨b1,o1 + k * 7 + 2,none⟩=some (.int .u8 la[k].sl):=by
     have q1:=HC1.out (k * 7 + 2) (by omega)
     rw [ofCells_get la k 2 (by omega) hkl] at q1
     first | exact q1 | (rw [← Nat.add_assoc] at q1; exact q1)
    have d3:wr.cell? ⟨b1,o1 + k * 7 + 3,none⟩=some (.int .u8 la[k].bu):=by
     have q1:=HC1.out (k * 7 + 3) (by omega)
     rw [ofCells_get la k 3 (by omega) hkl] at q1
     first | exact q1 | (rw [← Nat.add_assoc] at q1; exact q1)
    have d4:wr.cell? ⟨b1,o1 + k * 7 + 4,none⟩=some (.int .i64 la[k].lf):=by
     have q1:=HC1.out (k * 7 + 4) (by omega)
     rw [ofCells_get la k 4 (by omega) hkl] at q1
     first | exact q1 | (rw [← Nat.add_assoc] at q1; exact q1)
    have d5:wr.cell? ⟨b1,o1 + k * 7 + 5,none⟩=some (.int .i64 la[k].nu):=by
     have q1:=HC1.out (k * 7 + 5) (by omega)
     rw [ofCells_get la k 5 (by omega) hkl] at q1
     first | exact q1 | (rw [← Nat.add_assoc] at q1; exact q1)
    have d6:wr.cell? ⟨b1,o1 + k * 7 + 6,none⟩=some (.int .i64 la[k].de):=by
     have q1:=HC1.out (k * 7 + 6) (by omega)
     rw [ofCells_get la k 6 (by omega) hkl] at q1
     first | exact q1 | (rw [← Nat.add_assoc] at q1; exact q1)
    have f0:wr.cell? ⟨b2,o2 + k * 7,none⟩=some (.int .u64 lb[k].se):=by
     have q1:=HC2.out (k * 7 + 0) (by omega)
     rw [ofCells_get lb k 0 (by omega) hkb] at q1
     first | exact q1 | (rw [← Nat.add_assoc] at q1; exact q1)
    have f1:wr.cell? ⟨b2,o2 + k * 7 + 1,none⟩=some (.int .u8 lb[k].ow):=by
     have q1:=HC2.out (k * 7 + 1) (by omega)
     rw [ofCells_get lb k 1 (by omega) hkb] at q1
     first | exact q1 | (rw [← Nat.add_assoc] at q1; exact q1)
    have f2:wr.cell? ⟨b2,o2 + k * 7 + 2,none⟩=some (.int .u8 lb[k].sl):=by
     have q1:=HC2.out (k * 7 + 2) (by omega)
     rw [ofCells_get lb k 2 (by omega) hkb] at q1
     first | exact q1 | (rw [← Nat.add_assoc] at q1; exact q1)
    have f3:wr.cell? ⟨b2,o2 + k * 7 + 3,none⟩=some (.int .u8 lb[k].bu):=by
     have q1:=HC2.out (k * 7 + 3) (by omega)
     rw [ofCells_get lb k 3 (by omega) hkb] at q1
     first | exact q1 | (rw [← Nat.add_assoc] at q1; exact q1)
    have f4:wr.cell? ⟨b2,o2 + k * 7 + 4,none⟩=some (.int .i64 lb[k].lf):=by
     have q1:=HC2.out (k * 7 + 4) (by omega)
     rw [ofCells_get lb k 4 (by omega) hkb] at q1
     first | exact q1 | (rw [← Nat.add_assoc] at q1; exact q1)
    have f5:wr.cell? ⟨b2,o2 + k * 7 + 5,none⟩=some (.int .i64 lb[k].nu):=by
     have q1:=HC2.out (k * 7 + 5) (by omega)
     rw [ofCells_get lb k 5 (by omega) hkb] at q1
     first | exact q1 | (rw [← Nat.add_assoc] at q1; exact q1)
    have f6:wr.cell? ⟨b2,o2 + k * 7 + 6,none⟩=some (.int .i64 lb[k].de):=by
     have q1:=HC2.out (k * 7 + 6) (by omega)
     rw [ofCells_get lb k 6 (by omega) hkb] at q1
     first | exact q1 | (rw [← Nat.add_assoc] at q1; exact q1)
    have hz1:b1<wr.heap.size:=Nat.lt_of_lt_of_le hlt1 hbl.size
    have hz2:b2<wr.heap.size:=Nat.lt_of_lt_of_le hlt2 hbl.size
    have NE:=Lib.hid (fun (he:la[k]≠lb[k])=>show decide (la=lb)=false by
     rw [decide_eq_false_iff_not]; rintro rfl; exact he rfl)
    have EQ:=Lib.hid (fun (he:la[k]=lb[k])=>take_eq_next hkl hkb ht.out he)
    clear hc1 hc2 HC1 HC2 hbl
    generalize la[k]=x at *
    generalize lb[k]=y at *
    rcases of_parts x y with rfl | ⟨he,s0⟩ | ⟨he,s0,s1⟩ | ⟨he,s0,s1,s2⟩ | ⟨he,s0,s1,s2,s3⟩ | ⟨he,s0,s1,s2,s3,s4⟩ | ⟨he,s0,s1,s2,s3,s4,s5⟩ | ⟨he,s0,s1,s2,s3,s4,s5,s6⟩
    ·clear NE
     go_wp2
     go_region
     all_goals
      go_wp2
      go_roundw
      case rel=>exact ⟨k + 1,by omega,by go_num,Lib.hid (EQ.out (by first | exact rfl | trivial)),by first | exact BL.out.drew | exact BL.out⟩
      case measure=>simp [intOf]; omega
    ·have E:=Lib.hid (NE.out he)
     clear he NE EQ
     go_wp2
     go_region
     all_goals
      go_wp2
      go_ret
      exact ⟨by rw [E.out]; rfl,by first | exact BL.out.drew | exact BL.out⟩
    ·have E:=Lib.hid (NE.out he)
     clear he NE EQ
     go_wp2
     go_region
     all_goals
      go_wp2
      go_ret
      exact ⟨by rw [E.out]; rfl,by first | exact BL.out.drew | exact BL.out⟩
    ·have E:=Lib.hid (NE.out he)
     clear he NE EQ
     go_wp2
     go_region
     all_goals
      go_wp2
      go_ret
      exact ⟨by rw [E.out]; rfl,by first | exact BL.out.drew | exact BL.out⟩
    ·have E:=Lib.hid (NE.out he)
     clear he NE EQ
     go_wp2
     go_region
     all_goals
      go_wp2
      go_ret
      exact ⟨by rw [E.out]; rfl,by first | exact BL.out.drew | exact BL.out⟩
    ·have E:=Lib.hid (NE.out he)
     clear he NE EQ
     go_wp2
     go_region
     all_goals
      go_wp2
      go_ret
      exact ⟨by rw [E.out]; rfl,by first | exact BL.out.drew | exact BL.out⟩
    ·have E:=Lib.hid (NE.out he)
     clear he NE EQ
     go_wp2
     go_region
     all_goals
      go_wp2
      go_ret
      exact ⟨by rw [E.out]; rfl,by first | exact BL.out.drew | exact BL.out⟩
    ·have E:=Lib.hid (NE.out he)
     clear he NE EQ
     go_wp2
     go_region
     all_goals
      go_wp2
      go_ret
      exact ⟨by rw [E.out]; rfl,by first | exact BL.out.drew | exact BL.out⟩
   ·have E:=Lib.hid (show decide (la=lb)=true by
     have h1:=ht.out
     rw [List.take_of_length_le (by omega),List.take_of_length_le (by have:=L.out; omega)] at h1
     rw [decide_eq_true_eq]; exact h1)
    go_wp2
    go_ret
    exact ⟨by rw [E.out]; rfl,BL.out⟩
 ·have E:=Lib.hid (show decide (la=lb)=false by rw [decide_eq_false_iff_not]; rintro rfl; exact hlen rfl)
  have q:((la.length:Int)==(lb.length:Int))=false:=by simp; omega
  clear hlen
  go_enter Tryz.func58,Tryz.ntmps58
  go_wp2
  go_ret
  exact ⟨by rw [E.out]; rfl,Below.refl _ _⟩
theorem SameOffers_any {w:World} {va vb:Value} {la lb:List Of} (ha:Reads w va 7 la.length (ofCells la)) (hb:Reads w vb 7 lb.length (ofCells lb)) :
  Calls Tryz.prog 22 #[va,vb] w fun e w'=>e=.returned (.bool (decide (la=lb)))∧Below w.heap.size w w':=by
 have C:=Lib.hid (sameOf_any ha hb)
 clear ha hb
 generalize decide (la=lb)=r at *
 go_enter Tryz.func22,Tryz.ntmps22
 go_wp2_with fail
 refine C.out.mono ?_
 rintro e w1 ⟨rfl,b1⟩
 go_wp2_with fail
 go_ret
 exact ⟨rfl,b1⟩
end Go.Proofs.YtojbmnbphdcjfaaGreat
namespace Go.Proofs.YtojbmnbphdcjfaaGreat
open Go.RowKit Go.ChangeShapes Go.WideShapes Go.Deep
def SlIn {α:Type} (vals:α→List Value) (size:Nat) (Ok:α→Prop) (w:World) (a:Option Addr) (len cap:Nat) (xs:List α):Prop :=
 (a=none→cap=0)∧xs.length=len∧(∀ x ∈ xs,Ok x)∧len≤cap∧cap≤maxLen∧(0<len→∃ b off,a=some ⟨b,off,none⟩∧b<w.heap.size∧∀ i (h:i<xs.length) (j:Nat) (v:Value),(vals xs[i])[j]? = some v→w.cell? ⟨b,off + i * size + j,none⟩=some v)
section
variable {H:Type} {enc:TypeId × Value→H} {P:Program} {w:World} {base:Nat} {spare:Nat→Bool} {held:Bool}
theorem sl_open {α:Type} {vals:α→List Value} {size:Nat} {Ok:α→Prop} {ts te:TypeId} (hu:P.underlying ts=some (.slice te)) (hC:P.cellsOf te=size) (hlen:∀ y,(vals y).length=size) (hsz:0<size)
  (hr:∀ (fuel:Nat) (cs:List Value) (x:DataW H × List MemPlace),DataW.trod enc P w base spare held fuel te cs=some x→∃ y:α,Ok y∧cs=vals y)
  {a:Option Addr} {len cap:Nat} {d:DataW H} {p:List MemPlace} (h:DataW.Trod enc P w base spare held ts (.slice a len cap) d p):∃ xs,SlIn vals size Ok w a len cap xs:=by
 obtain ⟨fuel,hf⟩:=h
 rcases open_slice hu hf with ⟨h0,_⟩ | ⟨ad,l,c,m,n,D,Pl,hcs,hb,hl,hm,hmm,hx,hi⟩
 ·simp [Value.cells] at h0
  obtain ⟨rfl,rfl,rfl⟩:=h0
  exact ⟨[],fun _=>rfl,rfl,by simp,Nat.le_refl _,by unfold maxLen; omega,fun h=>by omega⟩
 ·simp [Value.cells] at hcs
  obtain ⟨rfl,rfl,rfl⟩:=hcs
  have hlm:len≤m:=by rw [hmm]; split <;> omega
  have key:∀ i,i<len→∃ x:α,Ok x∧∀ (j:Nat) (v:Value),(vals x)[j]? = some v→w.cell? ((ad.add (i * size)).add j)=some v:=by
   intro i hil
   obtain ⟨cs',hc,ht⟩:=hi i (by omega)
   rw [hC] at hc
   obtain ⟨x,hx,rfl⟩:=hr _ _ _ ht
   obtain ⟨_,_,hat⟩:=World.cells?_some hc
   refine ⟨x,hx,fun j v hj=>?_⟩
   have hj5:j<size:=by
    have:=(List.getElem?_eq_some_iff.1 hj).1
    rw [hlen] at this
    exact this
   rw [hat j hj5,hj]
  have hex:∀ k,k≤len→∃ xs:List α,xs.length=k∧(∀ x ∈ xs,Ok x)∧∀ i (h:i<xs.length) (j:Nat) (v:Value),(vals xs[i])[j]? = some v→w.cell? ((ad.add (i * size)).add j)=some v:=by
   intro k
   induction k with
   | zero=>intro _; exact ⟨[],rfl,by simp,fun i h=>by simp at h⟩
   | succ k ih =>
    intro hk
    obtain ⟨xs,h1,h2,h3⟩:=ih (by omega)
    obtain ⟨x,hx,hxc⟩:=key k (by omega)
    refine ⟨xs++[x],by simp [h1],?_,?_⟩
    ·intro y hy
     rcases List.mem_append.1 hy with hy | hy
     ·exact h2 y hy
     ·rw [List.mem_singleton] at hy; rw [hy]; exact hx
    ·intro i hi j v hv
     by_cases hik:i<xs.length
     ·rw [List.getElem_append_left hik] at hv
      exact h3 i hik j v hv
     ·have:i=k:=by rw [List.length_append,List.length_singleton] at hi; omega
      subst this
      rw [List.getElem_append_right (by omega)] at hv
      simp [h1] at hv
      exact hxc j v hv
  obtain ⟨xs,h1,h2,h3⟩:=hex len (Nat.le_refl _)
  refine ⟨xs,fun h=>(by cases h),h1,h2,hl,hm,fun hp=>?_⟩
  have hv0:(vals (xs[0]'(by omega)))[0]? = some ((vals (xs[0]'(by omega)))[0]'(by rw [hlen]; exact hsz)):=List.getElem?_eq_getElem _
  have h00:=h3 0 (by omega) 0 _ hv0
  have hsp:ad.spot=none:=by
   rcases hs:ad.spot with _ | s
   ·rfl
   ·exfalso
    rw [Go.Deep.add_add] at h00
    have e:(ad.add (0 * size + 0)).spot=ad.spot:=by cases ad; simp [Addr.add]
    unfold World.cell? at h00
    rw [e,hs] at h00
    split at h00
    ·simp at h00
    ·cases h00
  obtain ⟨b,off,sp⟩:=ad
  simp only at hsp
  subst hsp
  have hcell:∀ i (h:i<xs.length) (j:Nat) (v:Value),(vals xs[i])[j]? = some v→w.cell? ⟨b,off + i * size + j,none⟩=some v:=by
   intro i hi j v hv
   have:=h3 i hi j v hv
   rw [Go.Deep.add_add,Go.WideShapes.add_plain] at this
   rw [Nat.add_assoc]
   exact this
  exact ⟨b,off,rfl,World.block_lt_of_cell? _ _ (hcell 0 (by omega) 0 _ hv0),hcell⟩
end
theorem SlIn.below {α:Type} {vals:α→List Value} {size:Nat} {Ok:α→Prop} {w w':World} {a:Option Addr} {len cap:Nat} {xs:List α} (h:SlIn vals size Ok w a len cap xs) (k:Below w.heap.size w w'):SlIn vals size Ok w' a len cap xs:=by
 obtain ⟨h0,h1,h2,h3,h4,h5⟩:=h
 refine ⟨h0,h1,h2,h3,h4,fun hp=>?_⟩
 obtain ⟨b,off,rfl,hlt,hc⟩:=h5 hp
 exact ⟨b,off,rfl,Nat.lt_of_lt_of_le hlt k.size,fun i hi j v hv=>by rw [k.cell (p:=⟨b,off + i * size + j,none⟩) hlt]; exact hc i hi j v hv⟩
section
variable {H:Type} {enc:TypeId × Value→H} {P:Program} {w:World} {base:Nat} {spare:Nat→Bool} {held:Bool}
theorem num_of {fs:Array Field} {xs:List (DataW H × List MemPlace)} {n:Nat} {cs:List Value} (hxl:xs.length=fs.size) (hf:∀ (j:Nat) (f:Field),fs[j]? = some f→DataW.trod enc P w base spare held n f.type ((cs.drop f.offset).take (P.cellsOf f.type))=xs[j]?) {j o:Nat} {f:Field} {k:IntKind} (hj:fs[j]? = some f) (ho:f.offset=o) (hc:P.cellsOf f.type=1) (hk:P.underlying f.type=some (.int k)) (hl:o<cs.length) :
  ∃ m,cs[o]? = some (.int k m)∧(Lit.int k m).wf=true:=by
 have h1:=hf j f hj
 rw [ho,hc,List.drop_eq_getElem_cons hl] at h1
 have hjf:j<fs.size:=(Array.getElem?_eq_some_iff.1 hj).1
 rw [List.getElem?_eq_getElem (by omega:j<xs.length)] at h1
 obtain ⟨m,hm,_,hw⟩:=DataW.trod_int hk h1
 refine ⟨m,?_,hw⟩
 rw [List.getElem?_eq_getElem hl]
 have hm':[cs[o]]=[Value.int k m]:=hm
 exact congrArg some (List.cons.inj hm').1
end
end Go.Proofs.YtojbmnbphdcjfaaGreat
namespace Go.Proofs.YtojbmnbphdcjfaaGreat
open Go.RowKit Go.ChangeShapes Go.WideShapes Go.Deep
theorem InU64.of_wf {n:Int} (h:(Lit.int .u64 n).wf=true):0≤n∧n≤18446744073709551615:=by
 simp [Lit.wf,IntKind.min,IntKind.max,IntKind.signed,IntKind.bits] at h
 exact ⟨by omega,by omega⟩
section
variable {H:Type} {enc:TypeId × Value→H} {P:Program} {w:World} {base:Nat} {spare:Nat→Bool} {held:Bool}
theorem pair_of {t:TypeId} {g0 g1:Field} {k0 k1:IntKind} (hu:P.underlying t=some (.struct #[g0,g1])) (hC:P.cellsOf t=2) (o0:g0.offset=0) (o1:g1.offset=1) (c0:P.cellsOf g0.type=1) (c1:P.cellsOf g1.type=1)
  (h0:P.underlying g0.type=some (.int k0)) (h1:P.underlying g1.type=some (.int k1)) {fuel:Nat} {cs:List Value} {x:DataW H × List MemPlace} (h:DataW.trod enc P w base spare held fuel t cs=some x) :
  ∃ m0 m1,cs=[.int k0 m0,.int k1 m1]∧(Lit.int k0 m0).wf=true∧(Lit.int k1 m1).wf=true:=by
 obtain ⟨xs,n,_,_,hlen,hxl,hf⟩:=DataW.trod_struct hu h
 rw [hC] at hlen
 obtain ⟨m0,e0,w0⟩:=num_of hxl hf (j:=0) rfl o0 c0 h0 (by omega)
 obtain ⟨m1,e1,w1⟩:=num_of hxl hf (j:=1) rfl o1 c1 h1 (by omega)
 match cs,hlen with
 | [a,b],_ =>
  simp at e0 e1
  subst e0 e1
  exact ⟨m0,m1,rfl,w0,w1⟩
theorem offer_of {t:TypeId} {f0 f1 f2 f3 f4 f5 g0 g1:Field} (hu:P.underlying t=some (.struct #[f0,f1,f2,f3,f4,f5])) (hC:P.cellsOf t=7)
  (o:f0.offset=0∧f1.offset=1∧f2.offset=2∧f3.offset=3∧f4.offset=4∧f5.offset=5) (c:P.cellsOf f0.type=1∧P.cellsOf f1.type=1∧P.cellsOf f2.type=1∧P.cellsOf f3.type=1∧P.cellsOf f4.type=1∧P.cellsOf f5.type=2)
  (k:P.underlying f0.type=some (.int .u64)∧P.underlying f1.type=some (.int .u8)∧P.underlying f2.type=some (.int .u8)∧P.underlying f3.type=some (.int .u8)∧P.underlying f4.type=some (.int .i64))
  (hr:P.underlying f5.type=some (.struct #[g0,g1])) (og:g0.offset=0∧g1.offset=1) (cg:P.cellsOf g0.type=1∧P.cellsOf g1.type=1) (kg:P.underlying g0.type=some (.int .i64)∧P.underlying g1.type=some (.int .i64))
  {fuel:Nat} {cs:List Value} {x:DataW H × List MemPlace} (h:DataW.trod enc P w base spare held fuel t cs=some x):∃ x:Of,x.Fits∧cs=x.vals:=by
 obtain ⟨xs,n,_,_,hlen,hxl,hf⟩:=DataW.trod_struct hu h
 rw [hC] at hlen
 obtain ⟨m0,e0,w0⟩:=num_of hxl hf (j:=0) rfl o.1 c.1 k.1 (by omega)
 obtain ⟨m1,e1,w1⟩:=num_of hxl hf (j:=1) rfl o.2.1 c.2.1 k.2.1 (by omega)
 obtain ⟨m2,e2,w2⟩:=num_of hxl hf (j:=2) rfl o.2.2.1 c.2.2.1 k.2.2.1 (by omega)
 obtain ⟨m3,e3,w3⟩:=num_of hxl hf (j:=3) rfl o.2.2.2.1 c.2.2.2.1 k.2.2.2.1 (by omega)
 obtain ⟨m4,e4,w4⟩:=num_of hxl hf (j:=4) rfl o.2.2.2.2.1 c.2.2.2.2.1 k.2.2.2.2 (by omega)
 have h5:=hf 5 f5 rfl
 rw [o.2.2.2.2.2,c.2.2.2.2.2] at h5
 rw [List.getElem?_eq_getElem (by rw [hxl]; simp:5<xs.length)] at h5
 obtain ⟨m5,m6,e5,w5,w6⟩:=pair_of hr c.2.2.2.2.2 og.1 og.2 cg.1 cg.2 kg.1 kg.2 h5
 match cs,hlen with
 | [a0,a1,a2,a3,a4,a5,a6],_ =>
  simp at e0 e1 e2 e3 e4 e5
  obtain ⟨e5,e6⟩:=e5
  subst e0 e1 e2 e3 e4 e5 e6
  exact ⟨⟨m0,m1,m2,m3,m4,m5,m6⟩,⟨InU64.of_wf w0,In8.of_wf w1,In8.of_wf w2,In8.of_wf w3,In64.of_wf w4,In64.of_wf w5,In64.of_wf w6⟩,rfl⟩
end
section
variable {H:Type} {enc:TypeId × Value→H} {w:World} {base:Nat} {spare:Nat→Bool} {held:Bool}
theorem offer_read {fuel:Nat} {cs:List Value} {x:DataW H × List MemPlace} (h:DataW.trod enc Tryz.prog w base spare held fuel 76 cs=some x):∃ x:Of,x.Fits∧cs=x.vals :=
 offer_of Tryz.underlying76 (by kernel_rfl) ⟨rfl,rfl,rfl,rfl,rfl,rfl⟩ ⟨by kernel_rfl,by kernel_rfl,by kernel_rfl,by kernel_rfl,by kernel_rfl,by kernel_rfl⟩ ⟨Tryz.underlying62,Tryz.underlying39,Tryz.underlying40,Tryz.underlying40,Tryz.underlying2⟩
  Tryz.underlying74 ⟨rfl,rfl⟩ ⟨by kernel_rfl,by kernel_rfl⟩ ⟨Tryz.underlying2,Tryz.underlying2⟩ h
set_option maxRecDepth 100000 in
theorem offers_open {a:Option Addr} {len cap:Nat} {d:DataW H} {p:List MemPlace} (h:DataW.Trod enc Tryz.prog w base spare held 23 (.slice a len cap) d p):∃ xs:List Of,SlIn Of.vals 7 Of.Fits w a len cap xs :=
 sl_open Tryz.underlying23 (by kernel_rfl) Of.vals_len (by decide) (fun fuel cs x h=>offer_read h) h
end
end Go.Proofs.YtojbmnbphdcjfaaGreat
namespace Go.Proofs.YtojbmnbphdcjfaaGreat
open Go.RowKit Go.ChangeShapes Go.WideShapes Go.Deep
section
variable {H:Type} {enc:TypeId × Value→H} {P:Program} {w:World} {base:Nat} {spare:Nat→Bool} {held:Bool}
end
section
variable {H:Type} {enc:TypeId × Value→H} {w:World} {base:Nat} {spare:Nat→Bool} {held:Bool}
end
theorem SlIn.flows {w:World} {a:Option Addr} {len cap:Nat} {xs:List Fw} (h:SlIn Fw.vals 3 Fw.Fits w a len cap xs) (hn:len≤100000000):Reads w (.slice a xs.length cap) 3 xs.length (fwCells xs):=by
 obtain ⟨h0,hl,hk,h1,h2,h3⟩:=h
 subst hl
 refine ⟨a,cap,rfl,hn,fwCells_len xs,fun hp=>?_⟩
 obtain ⟨b,off,ha,hb,hc⟩:=h3 hp
 refine ⟨b,off,ha,hb,fun j hj=>?_⟩
 have hjd:j / 3<xs.length:=by omega
 have h4:=fwCells_get xs (j / 3) (j % 3) (by omega) hjd
 rw [show j / 3 * 3 + j % 3=j by omega] at h4
 have hv:(xs[j / 3].vals)[j % 3]? = some (xs[j / 3].vals[j % 3]'(by rw [Fw.vals_len]; omega)):=List.getElem?_eq_getElem _
 have h5:=hc (j / 3) hjd (j % 3) _ hv
 rw [show off + j / 3 * 3 + j % 3=off + j by omega] at h5
 rw [h5,h4,hv]
end Go.Proofs.YtojbmnbphdcjfaaGreat
namespace Go.Proofs.YtojbmnbphdcjfaaGreat
open Go.RowKit Go.ChangeShapes Go.WideShapes
theorem route_ends {f0:Int→Int→Int} {B:Int} (h:GInv f0 B) (s t want:Int):∃ σ,IsRoute f0 B s t want σ:=by
 have key:∀ n:Nat,(∃ σ,IsRoute f0 B s t want σ)∨(∃ σ,RInv f0 B s t want n σ∧¬ doneR s t σ):=by
  intro n
  induction n with
  | zero =>
   by_cases hd:doneR s t ⟨f0,want,[]⟩
   ·exact .inl ⟨_,0,RInv.start h s t want,hd⟩
   ·exact .inr ⟨_,RInv.start h s t want,hd⟩
  | succ n ih =>
   rcases ih with h1 | ⟨σ,h1,h2⟩
   ·exact .inl h1
   ·have h3:=h1.step h2
    by_cases hd:doneR s t (wayR s t σ)
    ·exact .inl ⟨_,n + 1,h3,hd⟩
    ·exact .inr ⟨_,h3,hd⟩
 rcases key 4114 with h1 | ⟨σ,h1,_⟩
 ·exact h1
 ·have:=h1.k5
  omega
theorem IsRoute.len {f0:Int→Int→Int} {B s t want:Int} {σ:RS} (h:IsRoute f0 B s t want σ):σ.out.length≤70000:=by
 obtain ⟨k,h,_⟩:=h
 have h1:=h.len
 have h2:=h.k5
 omega
theorem zero_short (a b:Int):shortW zeroF a b=[]:=by
 unfold shortW
 rw [if_neg]
 rintro ⟨_,_,hne,hr⟩
 obtain ⟨m,_,hw⟩:=(inS_iff (GInv.zero (B:=0) (Int.le_refl _)) a 16 b).1 hr
 match m,hw with
 | 0,hw=>exact hne hw
 | m + 1,⟨r,h1,_⟩=>unfold zeroF at h1; omega
theorem route_out {f:Int→Int→Int} {B s t want:Int} {σ:RS} (h0:GInv f B) (hn:¬ (inP s∧inP t∧s≠t)) (h:IsRoute f B s t want σ):σ=⟨f,want,[]⟩:=by
 refine h.eq ⟨0,RInv.start h0 s t want,.inr ?_⟩
 show shortW f s t=[]
 unfold shortW
 rw [if_neg (fun h=>hn ⟨h.1,h.2.1,h.2.2.1⟩)]
def RoutePostA (f:Int→Int→Int) (s t want:Int) (e:TypeId) (w:World) (en:Ending) (w':World):Prop :=
 ∃ (σ:RS) (v:Value),en=.returned (.tuple #[v,.int .i64 (want - σ.left)])∧IsRoute f 4398046511104 s t want σ∧RowA w' w.heap.size e 3 v σ.out.length (fwCells σ.out)∧Below w.heap.size w w'
def IsM (w:World) (v:Value) (f:Int→Int→Int):Prop:=(v=.pointer none∧f=zeroF)∨∃ g,v=.pointer (some ⟨g,0,none⟩)∧Blk w g (graC f true) 271
theorem IsM.isG {w:World} {v:Value} {f:Int→Int→Int} (h:IsM w v f):IsG w v f:=by
 rcases h with h | ⟨g,h1,h2⟩
 ·exact .inl h
 ·exact .inr ⟨g,true,h1,h2⟩
theorem IsM.below {w w':World} {v:Value} {f:Int→Int→Int} (h:IsM w v f) (hb:Below w.heap.size w w'):IsM w' v f:=by
 rcases h with h | ⟨g,h1,h2⟩
 ·exact .inl h
 ·exact .inr ⟨g,h1,h2.below hb h2.lt⟩
theorem IsM.of {w:World} {g:Nat} {f:Int→Int→Int} (h:Blk w g (graC f true) 271):IsM w (.pointer (some ⟨g,0,none⟩)) f:=.inr ⟨g,rfl,h⟩
theorem IsM.nil (w:World):IsM w (.pointer none) zeroF:=.inl ⟨rfl,rfl⟩
def RouteProg:Prop:=∀ (w:World) (v:Value) (f:Int→Int→Int) (s t want:Int),IsM w v f→GInv f 4398046511104→In8 s→In8 t→In64 want →
 Calls Tryz.prog 174 #[v,.int .u8 s,.int .u8 t,.int .i64 want] w (RoutePostA f s t want 206 w)
def MostProg:Prop:=∀ (w:World) (v:Value) (f:Int→Int→Int) (s t:Int),IsM w v f→GInv f 4398046511104→In8 s→In8 t →
 Calls Tryz.prog 201 #[v,.int .u8 s,.int .u8 t] w (MostPost f s t w)
theorem MostProg.at_ (h:MostProg) {w:World} {v:Value} {f:Int→Int→Int} {s t:Int} {μ:RS} (hv:IsM w v f) (h0:GInv f 4398046511104) (hs:In8 s) (ht:In8 t) (hμ:IsRoute f 4398046511104 s t mostW μ) :
  Calls Tryz.prog 201 #[v,.int .u8 s,.int .u8 t] w fun e w'=>e=.returned (.int .i64 (mostW - μ.left))∧Below w.heap.size w w':=by
 refine (h w v f s t hv h0 hs ht).mono ?_
 rintro e w' ⟨ν,rfl,hν,hb⟩
 rw [hν.eq hμ]
 exact ⟨rfl,hb⟩
theorem RouteProg.at_ (h:RouteProg) {w:World} {v:Value} {f:Int→Int→Int} {s t want:Int} {σ:RS} (hv:IsM w v f) (h0:GInv f 4398046511104) (hs:In8 s) (ht:In8 t) (hw:In64 want) (hσ:IsRoute f 4398046511104 s t want σ) :
  Calls Tryz.prog 174 #[v,.int .u8 s,.int .u8 t,.int .i64 want] w fun e w'=>∃ v',e=.returned (.tuple #[v',.int .i64 (want - σ.left)])∧RowA w' w.heap.size 206 3 v' σ.out.length (fwCells σ.out)∧Below w.heap.size w w':=by
 refine (h w v f s t want hv h0 hs ht hw).mono ?_
 rintro e w' ⟨ν,v',rfl,hν,hr,hb⟩
 rw [hν.eq hσ] at hr ⊢
 exact ⟨v',rfl,hr,hb⟩
end Go.Proofs.YtojbmnbphdcjfaaGreat
