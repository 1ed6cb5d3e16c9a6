/-
  Pieces of one proof, without what is not wanted: Fair08, RoundsQuota, FairMath, NetMath, NetSay, Stp, Gts, MachMath, Cmd, MachSay, MachLaw.
-/
import Derived.Test.YtngnfdnfpiiclaaGreatV01
import Derived.Test.YtngnfdnfpiiclaaGreatV03
import Derived.Test.YtngnfdnfpiiclaaGreatV05
import Derived.Test.YtngnfdnfpiiclaaGreatV06
import Derived.Test.YtngnfdnfpiiclaaGreatV07
import Derived.Test.YtngnfdnfpiiclaaGreatV09
import Derived.Test.YtngnfdnfpiiclaaGreatV11
import Derived.Test.YtngnfdnfpiiclaaGreatV16
import Derived.Test.YtngnfdnfpiiclaaGreatV17
import Derived.Test.YtngnfdnfpiiclaaGreatV18
import Derived.Test.YtngnfdnfpiiclaaGreatV19
import Derived.BigQuiet
import Derived.StillTailTactics
import Derived.WalkMore
import Derived.ScopeJumps
set_option linter.unusedSimpArgs false
set_option linter.unusedVariables false
namespace Go.Proofs.YtngnfdnfpiiclaaGreat
open Go.RowKit
def stL (l:List Fw) (k:Nat) (p:Int):Int:=sumN (fun i=>psD l p i (amD l i)) k
end Go.Proofs.YtngnfdnfpiiclaaGreat
namespace Go.Proofs.YtngnfdnfpiiclaaGreat
open Go.RowKit
theorem SlIn.debts {w:World} {a:Option Addr} {len cap:Nat} {xs:List Fw} (h:SlIn Fw.vals 3 Fw.Fits w a len cap xs):DebtsIn w a xs:=by
 obtain ⟨_,hl,_,_,_,h3⟩:=h
 intro h0
 obtain ⟨b,off,ha,hb,hc⟩:=h3 (by omega)
 refine ⟨b,off,ha,hb,fun m hm=>?_⟩
 rw [dbt_get hm]
 exact ⟨hc m hm 0 _ rfl,hc m hm 1 _ rfl,hc m hm 2 _ rfl⟩
end Go.Proofs.YtngnfdnfpiiclaaGreat
namespace Go.Proofs.YtngnfdnfpiiclaaGreat
theorem dbt_mem {l:List Fw} {i:Nat} (h:i<l.length):dbt l i ∈ l:=by rw [dbt_get h]; exact List.getElem_mem h
end Go.Proofs.YtngnfdnfpiiclaaGreat
namespace Go.Proofs.YtngnfdnfpiiclaaGreat
def owedL (ls:List Ln) (c a b:Int):Int:=(lnAt ls b a c).db
def rowF (ls:List Ln) (c a:Int):Nat→List Fw
 | 0=>[]
 | k + 1=>rowF ls c a k++if 0<owedL ls c a ((k + 1:Nat):Int) then [⟨a,((k + 1:Nat):Int),owedL ls c a ((k + 1:Nat):Int)⟩] else []
def debtsF (ls:List Ln) (c:Int):Nat→List Fw
 | 0=>[]
 | k + 1=>debtsF ls c k++rowF ls c ((k + 1:Nat):Int) 16
def debtsL (ls:List Ln) (c:Int):List Fw:=debtsF ls c 16
theorem rowF_mem {ls:List Ln} {c a:Int} {x:Fw}:∀ {n:Nat},x ∈ rowF ls c a n↔∃ k:Nat,1≤k∧k≤n∧0<owedL ls c a k∧x=⟨a,k,owedL ls c a k⟩
 | 0=>by
  constructor
  ·intro h; cases h
  ·rintro ⟨k,h1,h2,_⟩; omega
 | n + 1=>by
  unfold rowF
  rw [List.mem_append,rowF_mem]
  constructor
  ·rintro (⟨k,h1,h2,h3⟩ | h)
   ·exact ⟨k,h1,by omega,h3⟩
   ·split at h
    ·rename_i hp
     rw [List.mem_singleton] at h
     exact ⟨n + 1,by omega,Nat.le_refl _,hp,h⟩
    ·cases h
  ·rintro ⟨k,h1,h2,h3,h4⟩
   by_cases hk:k=n + 1
   ·subst hk
    right
    rw [if_pos h3,List.mem_singleton]
    exact h4
   ·exact .inl ⟨k,h1,by omega,h3,h4⟩
theorem debtsF_mem {ls:List Ln} {c:Int} {x:Fw}:∀ {n:Nat},x ∈ debtsF ls c n↔∃ a:Nat,1≤a∧a≤n∧x ∈ rowF ls c a 16
 | 0=>by
  constructor
  ·intro h; cases h
  ·rintro ⟨k,h1,h2,_⟩; omega
 | n + 1=>by
  unfold debtsF
  rw [List.mem_append,debtsF_mem]
  constructor
  ·rintro (⟨k,h1,h2,h3⟩ | h)
   ·exact ⟨k,h1,by omega,h3⟩
   ·exact ⟨n + 1,by omega,Nat.le_refl _,h⟩
  ·rintro ⟨k,h1,h2,h3⟩
   by_cases hk:k=n + 1
   ·subst hk; exact .inr h3
   ·exact .inl ⟨k,h1,by omega,h3⟩
theorem debtsL_mem {ls:List Ln} {c:Int} {x:Fw}:x ∈ debtsL ls c↔(1≤x.fr∧x.fr≤16)∧(1≤x.tt∧x.tt≤16)∧0<x.am∧x.am=owedL ls c x.fr x.tt:=by
 unfold debtsL
 rw [debtsF_mem]
 constructor
 ·rintro ⟨a,h1,h2,h3⟩
  obtain ⟨k,h4,h5,h6,rfl⟩:=rowF_mem.1 h3
  exact ⟨by dsimp only; omega,by dsimp only; omega,h6,rfl⟩
 ·rintro ⟨h1,h2,h3,h4⟩
  refine ⟨x.fr.toNat,by omega,by omega,rowF_mem.2 ⟨x.tt.toNat,by omega,by omega,?_,?_⟩⟩
  ·rw [Int.toNat_of_nonneg (by omega),Int.toNat_of_nonneg (by omega),← h4]; exact h3
  ·rw [Int.toNat_of_nonneg (by omega),Int.toNat_of_nonneg (by omega),← h4]
theorem rowF_sorted {ls:List Ln} {c a:Int}:∀ n:Nat,(rowF ls c a n).Pairwise fun x y=>keyD x<keyD y
 | 0=>List.Pairwise.nil
 | n + 1=>by
  unfold rowF
  rw [List.pairwise_append]
  refine ⟨rowF_sorted n,by split <;> simp,fun x hx y hy=>?_⟩
  obtain ⟨k,h1,h2,_,rfl⟩:=rowF_mem.1 hx
  split at hy
  ·rw [List.mem_singleton] at hy
   subst hy
   unfold keyD
   dsimp only
   omega
  ·cases hy
theorem debtsF_sorted {ls:List Ln} {c:Int}:∀ n:Nat,(debtsF ls c n).Pairwise fun x y=>keyD x<keyD y
 | 0=>List.Pairwise.nil
 | n + 1=>by
  unfold debtsF
  rw [List.pairwise_append]
  refine ⟨debtsF_sorted n,rowF_sorted 16,fun x hx y hy=>?_⟩
  obtain ⟨a,h1,h2,h3⟩:=debtsF_mem.1 hx
  obtain ⟨k,h4,h5,_,rfl⟩:=rowF_mem.1 h3
  obtain ⟨j,h6,h7,_,rfl⟩:=rowF_mem.1 hy
  unfold keyD
  dsimp only
  omega
theorem debtsL_sorted (ls:List Ln) (c:Int):(debtsL ls c).Pairwise fun x y=>keyD x<keyD y:=debtsF_sorted 16
attribute [irreducible] debtsL debtsF rowF
theorem dbt_sorted {D:List Fw} (h:D.Pairwise fun x y=>keyD x<keyD y) {i j:Nat} (hij:i<j) (hj:j<D.length):keyD (dbt D i)<keyD (dbt D j):=by
 rw [dbt_get hj,dbt_get (by omega)]
 exact List.pairwise_iff_getElem.1 h i j (by omega) hj hij
theorem owed_line {ps:List Int} {ls:List Ln} (h:LInv ps ls) {c a b:Int} (hp:0<owedL ls c a b):∃ y,lineL ls b a c=some y∧lnAt ls b a c=y∧y.Good∧y.cr=b∧y.de=a∧y.cu=c:=by
 unfold owedL at hp
 cases hl:lineL ls b a c with
 | none=>rw [lnAt_none hl] at hp; exact absurd hp (by decide)
 | some y =>
  obtain ⟨hm,h1,h2,h3⟩:=lineL_mem hl
  exact ⟨y,rfl,lnAt_some hl,h.inv.good y hm,h1,h2,h3⟩
theorem debtsL_may {ps:List Int} {ls:List Ln} (h:LInv ps ls) (c:Int):MayD (debtsL ls c):=by
 refine ⟨fun i hi=>?_,fun i hi=>dbt_sorted (debtsL_sorted ls c) (Nat.lt_succ_self i) hi⟩
 obtain ⟨h1,h2,h3,h4⟩:=debtsL_mem.1 (dbt_mem hi)
 obtain ⟨y,_,hy,hg,k1,k2,_⟩:=owed_line h (c:=c) (by rw [← h4]; exact h3)
 have hd:=hg.db
 have hl:=hg.li
 have hn:=hg.ne
 have e:(dbt (debtsL ls c) i).am=y.db:=by rw [h4]; unfold owedL; rw [hy]
 exact ⟨h1,h2,by rw [← k1,← k2]; exact fun e=>hn e.symm,by omega,by omega⟩
def netTo (ls:List Ln) (c:Int) (D:List Fw) (L:Nat→Int):Nat→List Ln
 | 0=>ls
 | k + 1=>forgiveL (netTo ls c D L k) (dbt D k).tt (dbt D k).fr c ((dbt D k).am - L k)
def ntL (ls:List Ln) (c:Int) (L:Nat→Int):List Ln:=netTo ls c (debtsL ls c) L (debtsL ls c).length
theorem netTo_inv {ps:List Int} {ls:List Ln} (h:LInv ps ls) (c:Int) (D:List Fw) (L:Nat→Int):∀ k,LInv ps (netTo ls c D L k)
 | 0=>h
 | k + 1=>(netTo_inv h c D L k).forgive _ _ _ _
theorem ntL_inv {ps:List Int} {ls:List Ln} (h:LInv ps ls) (c:Int) (L:Nat→Int):LInv ps (ntL ls c L):=netTo_inv h c _ L _
end Go.Proofs.YtngnfdnfpiiclaaGreat
namespace Go.Proofs.YtngnfdnfpiiclaaGreat
open Go.RowKit
def NetAns (ls:List Ln) (c q:Int) (gone many er:Int) (ms:List Ln):Prop :=
 (¬ ((1≤c∧c≤8)∧0≤q)∧gone=0∧many=0∧er=1∧ms=ls) ∨
 ((1≤c∧c≤8)∧0≤q∧∃ L k,IsLeast (debtsL ls c) L k∧(((k:Int)≤q∧gone=totL ls c - totL (ntL ls c L) c∧many=k∧er=0∧ms=ntL ls c L)∨(q<(k:Int)∧gone=0∧many=0∧er=13∧ms=ls)))
theorem NetAns.eq {ls:List Ln} {c q g1 m1 e1 g2 m2 e2:Int} {s1 s2:List Ln} (h:NetAns ls c q g1 m1 e1 s1) (k:NetAns ls c q g2 m2 e2 s2):g1=g2∧m1=m2∧e1=e2∧s1=s2:=by
 rcases h with ⟨a,rfl,rfl,rfl,rfl⟩ | ⟨a1,a2,L,j,hL,h⟩
 ·rcases k with ⟨_,rfl,rfl,rfl,rfl⟩ | ⟨b1,b2,_⟩
  ·exact ⟨rfl,rfl,rfl,rfl⟩
  ·exact absurd ⟨b1,b2⟩ a
 ·rcases k with ⟨b,_⟩ | ⟨_,_,M,i,hM,k⟩
  ·exact absurd ⟨a1,a2⟩ b
  ·obtain ⟨rfl,rfl⟩:=hL.eq hM
   rcases h with ⟨h0,rfl,rfl,rfl,rfl⟩ | ⟨h0,rfl,rfl,rfl,rfl⟩
   ·rcases k with ⟨_,rfl,rfl,rfl,rfl⟩ | ⟨k0,_⟩
    ·exact ⟨rfl,rfl,rfl,rfl⟩
    ·omega
   ·rcases k with ⟨k0,_⟩ | ⟨_,rfl,rfl,rfl,rfl⟩
    ·omega
    ·exact ⟨rfl,rfl,rfl,rfl⟩
structure NetProg:Prop where
 at_:∀ {w:World} {G M:Nat} {ps:List Int} {ls:List Ln},LedM w G M ps ls→LInv ps ls→∀ c q:Int,In8 c→In64 q →
  Calls Tryz.prog 158 #[.pointer (some ⟨G,0,none⟩),.int .u8 c,.int .i64 q] w fun e w'=>∃ gone many er ms,NetAns ls c q gone many er ms∧e=.returned (.tuple #[.int .i64 gone,.int .i64 many,.int .i64 er])∧LedM w' G M ps ms∧Keep (·=M) w w'
end Go.Proofs.YtngnfdnfpiiclaaGreat
namespace Go.Proofs.YtngnfdnfpiiclaaGreat
open Go.RowKit
structure Stp where
 kd:Int
 a:Int
 b:Int
 c:Int
 d:Int
 n:Int
 mx:Int
 nu:Int
 de:Int
 se:Int
deriving DecidableEq
def Stp.vals (x:Stp):List Value:=[.int .u8 x.kd,.int .u8 x.a,.int .u8 x.b,.int .u8 x.c,.int .u8 x.d,.int .i64 x.n,.int .i64 x.mx,.int .i64 x.nu,.int .i64 x.de,.int .u64 x.se]
theorem Stp.vals_len (x:Stp):x.vals.length=10:=rfl
def stpCells (ls:List Stp):List Value:=ls.flatMap Stp.vals
theorem stpCells_len (ls:List Stp):(stpCells ls).length=ls.length * 10:=flat_len _ 10 Stp.vals_len ls
theorem stpCells_get (ls:List Stp) (i j:Nat) (hj:j<10) (h:i<ls.length):(stpCells ls)[i * 10 + j]? = ls[i].vals[j]? := by
 unfold stpCells
 rw [flat_get _ 10 Stp.vals_len ls i j hj,List.getElem?_eq_getElem h]
 rfl
structure Stp.Fits (x:Stp):Prop where
 kd:In8 x.kd
 a:In8 x.a
 b:In8 x.b
 c:In8 x.c
 d:In8 x.d
 n:In64 x.n
 mx:In64 x.mx
 nu:In64 x.nu
 de:In64 x.de
 se:(0≤x.se∧x.se≤18446744073709551615)
end Go.Proofs.YtngnfdnfpiiclaaGreat
namespace Go.Proofs.YtngnfdnfpiiclaaGreat
open Go.RowKit
structure Gt where
 gx:Int
 gy:Int
deriving DecidableEq
def Gt.vals (x:Gt):List Value:=[.int .i64 x.gx,.int .i64 x.gy]
theorem Gt.vals_len (x:Gt):x.vals.length=2:=rfl
def gtCells (ls:List Gt):List Value:=ls.flatMap Gt.vals
def Gt.val (x:Gt):Value:=.agg #[.int .i64 x.gx,.int .i64 x.gy]
theorem gtCells_len (ls:List Gt):(gtCells ls).length=ls.length * 2:=flat_len _ 2 Gt.vals_len ls
theorem gtCells_get (ls:List Gt) (i j:Nat) (hj:j<2) (h:i<ls.length):(gtCells ls)[i * 2 + j]? = ls[i].vals[j]? := by
 unfold gtCells
 rw [flat_get _ 2 Gt.vals_len ls i j hj,List.getElem?_eq_getElem h]
 rfl
theorem gtCells_append (a b:List Gt):gtCells (a++b)=gtCells a++gtCells b:=by unfold gtCells; exact List.flatMap_append
theorem gtCells_one (x:Gt):gtCells [x]=x.vals:=by simp [gtCells]
theorem info_gt:(Tryz.prog.info? 93).map (fun i=>(i.zero,i.size,i.bytes))=some (some (Gt.val ⟨0,0⟩),2,16):=by kernel_rfl
theorem gt_parts (x y:Gt):(x=y)∨(x≠y∧(x.gx==y.gx)=false)∨(x≠y∧(x.gx==y.gx)=true∧(x.gy==y.gy)=false):=by
 obtain ⟨a0,a1⟩:=x
 obtain ⟨b0,b1⟩:=y
 by_cases h0:a0=b0
 case neg=>simp [h0]
 case pos =>
  by_cases h1:a1=b1
  case neg=>simp [h0,h1]
  case pos =>
   simp [h0,h1]
set_option maxHeartbeats 8000000 in
theorem sameGt_any {w:World} {va vb:Value} {la lb:List Gt} (ha:Reads w va 2 la.length (gtCells la)) (hb:Reads w vb 2 lb.length (gtCells lb)) :
  Calls Tryz.prog 51 #[va,vb] w fun e w'=>e=.returned (.bool (decide (la=lb)))∧Below w.heap.size w w':=by
 obtain ⟨ao,ca,rfl,a1,a2,a3⟩:=ha
 obtain ⟨bo,cb,rfl,b1,b2,b3⟩:=hb
 have HA:=Lib.hid a3; have HB:=Lib.hid b3
 clear a2 a3 b2 b3
 by_cases hlen:la.length=lb.length
 ·have L:=Lib.hid hlen
  have hll:lb.length=la.length:=hlen.symm
  rw [hll]
  clear hll hlen b1
  go_enter Tryz.func51,Tryz.ntmps51
  go_wp2
  go_loopw [5] (fun i wr=>∃ k:Nat,k≤la.length∧i=.int .i64 k∧Hid (la.take k=lb.take k)∧Below w.heap.size w wr) (fun i _=>la.length - (intOf i).toNat)
  case atStart=>exact ⟨0,Nat.zero_le _,rfl,Lib.hid (by simp),Below.refl _ _⟩
  case round =>
   obtain ⟨k,hk,rfl,ht,hbl⟩:=hrel
   have BL:=Lib.hid hbl
   by_cases hkl:k<la.length
   ·have hkb:k<lb.length:=by have:=L.out; omega
    obtain ⟨b1,o1,rfl,hlt1,hc1⟩:=HA.out (by omega)
    obtain ⟨b2,o2,rfl,hlt2,hc2⟩:=HB.out (by omega)
    have HC1:=Lib.hid (fun j (hj:j<la.length * 2)=>(hbl.cell (p:=⟨b1,o1 + j,none⟩) hlt1).trans (hc1 j hj))
    have HC2:=Lib.hid (fun j (hj:j<lb.length * 2)=>(hbl.cell (p:=⟨b2,o2 + j,none⟩) hlt2).trans (hc2 j hj))
    have d0:wr.cell? ⟨b1,o1 + k * 2,none⟩=some (.int .i64 la[k].gx):=by
     have q1:=HC1.out (k * 2 + 0) (by omega)
     rw [gtCells_get la k 0 (by omega) hkl] at q1
     first | exact q1 | (rw [← Nat.add_assoc] at q1; exact q1)
    have d1:wr.cell? ⟨b1,o1 + k * 2 + 1,none⟩=some (.int .i64 la[k].gy):=by
     have q1:=HC1.out (k * 2 + 1) (by omega)
     rw [gtCells_get la k 1 (by omega) hkl] at q1
     first | exact q1 | (rw [← Nat.add_assoc] at q1; exact q1)
    have f0:wr.cell? ⟨b2,o2 + k * 2,none⟩=some (.int .i64 lb[k].gx):=by
     have q1:=HC2.out (k * 2 + 0) (by omega)
     rw [gtCells_get lb k 0 (by omega) hkb] at q1
     first | exact q1 | (rw [← Nat.add_assoc] at q1; exact q1)
    have f1:wr.cell? ⟨b2,o2 + k * 2 + 1,none⟩=some (.int .i64 lb[k].gy):=by
     have q1:=HC2.out (k * 2 + 1) (by omega)
     rw [gtCells_get lb k 1 (by omega) hkb] at q1
     first | exact q1 | (rw [← Nat.add_assoc] at q1; exact q1)
    have hz1:b1<wr.heap.size:=Nat.lt_of_lt_of_le hlt1 hbl.size
    have hz2:b2<wr.heap.size:=Nat.lt_of_lt_of_le hlt2 hbl.size
    have NE:=Lib.hid (fun (he:la[k]≠lb[k])=>show decide (la=lb)=false by
     rw [decide_eq_false_iff_not]; rintro rfl; exact he rfl)
    have EQ:=Lib.hid (fun (he:la[k]=lb[k])=>take_eq_next hkl hkb ht.out he)
    clear hc1 hc2 HC1 HC2 hbl
    generalize la[k]=x at *
    generalize lb[k]=y at *
    rcases gt_parts x y with rfl | ⟨he,s0⟩ | ⟨he,s0,s1⟩
    ·clear NE
     go_wp2
     go_region
     all_goals
      go_wp2
      go_roundw
      case rel=>exact ⟨k + 1,by omega,by go_num,Lib.hid (EQ.out (by first | exact rfl | trivial)),by first | exact BL.out.drew | exact BL.out⟩
      case measure=>simp [intOf]; omega
    ·have E:=Lib.hid (NE.out he)
     clear he NE EQ
     go_wp2
     go_region
     all_goals
      go_wp2
      go_ret
      exact ⟨by rw [E.out]; rfl,by first | exact BL.out.drew | exact BL.out⟩
    ·have E:=Lib.hid (NE.out he)
     clear he NE EQ
     go_wp2
     go_region
     all_goals
      go_wp2
      go_ret
      exact ⟨by rw [E.out]; rfl,by first | exact BL.out.drew | exact BL.out⟩
   ·have E:=Lib.hid (show decide (la=lb)=true by
     have h1:=ht.out
     rw [List.take_of_length_le (by omega),List.take_of_length_le (by have:=L.out; omega)] at h1
     rw [decide_eq_true_eq]; exact h1)
    go_wp2
    go_ret
    exact ⟨by rw [E.out]; rfl,BL.out⟩
 ·have E:=Lib.hid (show decide (la=lb)=false by rw [decide_eq_false_iff_not]; rintro rfl; exact hlen rfl)
  have q:((la.length:Int)==(lb.length:Int))=false:=by simp; omega
  clear hlen
  go_enter Tryz.func51,Tryz.ntmps51
  go_wp2
  go_ret
  exact ⟨by rw [E.out]; rfl,Below.refl _ _⟩
end Go.Proofs.YtngnfdnfpiiclaaGreat
namespace Go.Proofs.YtngnfdnfpiiclaaGreat
theorem kinds (k:Int):k=1∨k=2∨k=3∨k=4∨k=5∨k=6∨k=7∨k=8∨k=9∨k=10∨k=11∨(¬ k=1∧¬ k=2∧¬ k=3∧¬ k=4∧¬ k=5∧¬ k=6∧¬ k=7∧¬ k=8∧¬ k=9∧¬ k=10∧¬ k=11):=by omega
structure Hs where
 ps:List Int
 ls:List Ln
 l:List Of
 N:Int
structure HInv (σ:Hs):Prop where
 li:LInv σ.ps σ.ls
 bi:BInv σ.l σ.N
 own:∀ o ∈ σ.l,o.ow ∈ σ.ps
theorem HInv.start:HInv ⟨[],[],[],1⟩:=⟨LInv.nil,BInv.nil (by decide) (by decide),fun o h=>by cases h⟩
theorem NetAns.lin {ps:List Int} {ls ms:List Ln} {c q g m e:Int} (h:NetAns ls c q g m e ms) (hI:LInv ps ls):LInv ps ms:=by
 rcases h with ⟨_,_,_,_,rfl⟩ | ⟨_,_,L,k,_,⟨_,_,_,_,rfl⟩ | ⟨_,_,_,_,rfl⟩⟩
 ·exact hI
 ·exact ntL_inv hI c L
 ·exact hI
theorem net_ends {ps:List Int} {ls:List Ln} (hI:LInv ps ls) (c q:Int):∃ r:Int × Int × Int × List Ln,NetAns ls c q r.1 r.2.1 r.2.2.1 r.2.2.2:=by
 by_cases h:(1≤c∧c≤8)∧0≤q
 ·obtain ⟨L,k,hL⟩:=least_ends (debtsL_may hI c)
  by_cases hk:(k:Int)≤q
  ·exact ⟨(_,_,_,_),.inr ⟨h.1,h.2,L,k,hL,.inl ⟨hk,rfl,rfl,rfl,rfl⟩⟩⟩
  ·exact ⟨(_,_,_,_),.inr ⟨h.1,h.2,L,k,hL,.inr ⟨by omega,rfl,rfl,rfl,rfl⟩⟩⟩
 ·exact ⟨(_,_,_,_),.inl ⟨h,rfl,rfl,rfl,rfl⟩⟩
noncomputable def nettS (ls:List Ln) (c q:Int):Int × Int × Int × List Ln:=@Classical.epsilon _ ⟨(0,0,0,ls)⟩ (fun r=>NetAns ls c q r.1 r.2.1 r.2.2.1 r.2.2.2)
theorem nettS_is {ps:List Int} {ls:List Ln} (hI:LInv ps ls) (c q:Int):NetAns ls c q (nettS ls c q).1 (nettS ls c q).2.1 (nettS ls c q).2.2.1 (nettS ls c q).2.2.2 :=
 @Classical.epsilon_spec _ (fun r:Int × Int × Int × List Ln=>NetAns ls c q r.1 r.2.1 r.2.2.1 r.2.2.2) (net_ends hI c q)
theorem NetAns.isS {ps:List Int} {ls ms:List Ln} {c q g m e:Int} (h:NetAns ls c q g m e ms) (hI:LInv ps ls):nettS ls c q=(g,m,e,ms):=by
 obtain ⟨h1,h2,h3,h4⟩:=(nettS_is hI c q).eq h
 exact Prod.ext h1 (Prod.ext h2 (Prod.ext h3 h4))
noncomputable def stepF (σ:Hs) (s:Stp):Hs × Gt × Int :=
 if s.kd=1 then (⟨openP σ.ps s.a,σ.ls,σ.l,σ.N⟩,⟨0,0⟩,openE σ.ps s.a)
 else if s.kd=2 then (⟨σ.ps,trustL σ.ps σ.ls s.a s.b s.c s.n,σ.l,σ.N⟩,⟨0,0⟩,trustE σ.ps σ.ls s.a s.b s.c s.n)
 else if s.kd=3 then (⟨σ.ps,paidS σ.ps σ.ls s.a s.b s.c s.n,σ.l,σ.N⟩,⟨payN σ.ps s.a s.b s.c s.n (routeS (roomF σ.ps σ.ls s.c) s.a s.b s.n),0⟩,payE σ.ps s.a s.b s.c s.n (routeS (roomF σ.ps σ.ls s.c) s.a s.b s.n))
 else if s.kd=4 then
  if (swapF σ.ps σ.ls σ.l s.a s.b s.c s.d s.n s.mx).1=0 then (⟨σ.ps,(swapF σ.ps σ.ls σ.l s.a s.b s.c s.d s.n s.mx).2.ls,(swapF σ.ps σ.ls σ.l s.a s.b s.c s.d s.n s.mx).2.l,σ.N⟩,⟨((swapF σ.ps σ.ls σ.l s.a s.b s.c s.d s.n s.mx).2.fs.map Fl.gi).sum,(swapF σ.ps σ.ls σ.l s.a s.b s.c s.d s.n s.mx).2.fs.length⟩,0)
  else (σ,⟨0,0⟩,(swapF σ.ps σ.ls σ.l s.a s.b s.c s.d s.n s.mx).1)
 else if s.kd=5 then
  if (placeF σ.ps σ.ls σ.l σ.N s.a s.c s.d s.n s.nu s.de).1=0 then (⟨σ.ps,(placeF σ.ps σ.ls σ.l σ.N s.a s.c s.d s.n s.nu s.de).2.1.ls,(placeF σ.ps σ.ls σ.l σ.N s.a s.c s.d s.n s.nu s.de).2.1.l,(placeF σ.ps σ.ls σ.l σ.N s.a s.c s.d s.n s.nu s.de).2.2.1⟩,
   ⟨((placeF σ.ps σ.ls σ.l σ.N s.a s.c s.d s.n s.nu s.de).2.1.fs.map Fl.got).sum,IntKind.i64.wrap (placeF σ.ps σ.ls σ.l σ.N s.a s.c s.d s.n s.nu s.de).2.2.2⟩,0)
  else (σ,⟨0,0⟩,(placeF σ.ps σ.ls σ.l σ.N s.a s.c s.d s.n s.nu s.de).1)
 else if s.kd=6 then (⟨σ.ps,σ.ls,cancelL σ.l s.a s.se,σ.N⟩,⟨cancelV σ.l s.a s.se,0⟩,cancelE σ.l s.a s.se)
 else if s.kd=7 then (⟨σ.ps,(nettS σ.ls s.c s.mx).2.2.2,σ.l,σ.N⟩,⟨(nettS σ.ls s.c s.mx).1,(nettS σ.ls s.c s.mx).2.1⟩,(nettS σ.ls s.c s.mx).2.2.1)
 else if s.kd=8 then (σ,⟨(lnAt σ.ls s.a s.b s.c).db,(lnAt σ.ls s.a s.b s.c).li⟩,0)
 else if s.kd=9 then (σ,⟨posL σ.ls s.a s.c,0⟩,0)
 else if s.kd=10 then (σ,⟨totL σ.ls s.c,0⟩,0)
 else if s.kd=11 then (σ,⟨leftO σ.l s.se,0⟩,if (findO σ.l s.se).isSome=true then 0 else 7)
 else (σ,⟨0,0⟩,1)
theorem swapF_inv {ps:List Int} {ls:List Ln} {l:List Of} {N fr pt get give n most:Int} (hI:LInv ps ls) (hJ:BInv l N) (h:(swapF ps ls l fr pt get give n most).1=0):SwInv ps ls l N fr pt get give n (swapF ps ls l fr pt get give n most).2:=by
 have hs:=SwInv.ends (ps:=ps) (tk:=fr) (pt:=pt) (get:=get) (give:=give) 64 (SwInv.start (n0:=n) hI hJ)
 unfold swapF at h ⊢
 split at h
 ·cases h
 ·split at h
  ·cases h
  ·split at h
   ·rename_i k1 k2 k3
    exact absurd h k3
   ·split at h
    ·cases h
    ·rename_i k1 k2 k3 k4
     rw [if_neg k1,if_neg k2,if_neg k3,if_neg k4]
     exact hs
theorem open_mem {ps:List Int} (p:Int) (hb:∀ q ∈ ps,1≤q∧q≤16) {q:Int} (h:q ∈ ps):q ∈ openP ps p:=by
 unfold openP
 by_cases h1:p<1∨16<p
 ·rw [if_pos h1]; exact h
 rw [if_neg h1]
 by_cases h2:p ∈ ps
 ·rw [if_pos h2]; exact h
 ·rw [if_neg h2,openTo_mem]; exact ⟨by have:=hb q h; omega,.inr h⟩
theorem HInv.step {σ:Hs} (h:HInv σ) (s:Stp):HInv (stepF σ s).1:=by
 have hl:=h.li
 have hb:=h.bi
 have ho:=h.own
 unfold stepF
 by_cases k1:s.kd=1
 ·rw [if_pos k1]; exact ⟨hl.open s.a,hb,fun o hm=>open_mem _ hl.bd (ho o hm)⟩
 rw [if_neg k1]
 by_cases k2:s.kd=2
 ·rw [if_pos k2]; exact ⟨hl.trust _ _ _ _,hb,ho⟩
 rw [if_neg k2]
 by_cases k3:s.kd=3
 ·rw [if_pos k3]; exact ⟨paidS_inv hl _ _ _ _,hb,ho⟩
 rw [if_neg k3]
 by_cases k4:s.kd=4
 ·rw [if_pos k4]
  by_cases h0:(swapF σ.ps σ.ls σ.l s.a s.b s.c s.d s.n s.mx).1=0
  ·rw [if_pos h0]
   have hi:=swapF_inv hl hb h0
   refine ⟨hi.linv,hi.binv,fun o hm=>?_⟩
   obtain ⟨y,hy,e,_⟩:=hi.like o.se o (find_of hi.binv hm)
   show o.ow ∈ σ.ps
   rw [← e]
   exact ho y (findO_mem hy).1
  ·rw [if_neg h0]; exact h
 rw [if_neg k4]
 by_cases k5:s.kd=5
 ·rw [if_pos k5]
  by_cases h0:(placeF σ.ps σ.ls σ.l σ.N s.a s.c s.d s.n s.nu s.de).1=0
  ·rw [if_pos h0]
   obtain ⟨r,hr⟩:∃ r,placeF σ.ps σ.ls σ.l σ.N s.a s.c s.d s.n s.nu s.de=r:=⟨_,rfl⟩
   obtain ⟨e,τ,N',sq⟩:=r
   rw [hr] at h0 ⊢
   have h0':e=0:=h0
   subst h0'
   obtain ⟨υ,hd⟩:=placeF_done hl hb hr
   obtain ⟨h1,h2,_⟩:=hd.next
   have hold:∀ o ∈ υ.l,o.ow ∈ σ.ps:=fun o hm=>by
    obtain ⟨y,hy,e,_⟩:=hd.inv.like o.se o (find_of hd.inv.binv hm)
    rw [← e]
    exact ho y (findO_mem hy).1
   refine ⟨h1,h2,fun o hm=>?_⟩
   rcases hd.ends with ⟨_,rfl,_⟩ | ⟨_,_,_,rfl,_⟩
   ·exact hold o hm
   ·rcases List.mem_append.1 hm with hm | hm
    ·exact hold o hm
    ·rw [List.mem_singleton] at hm
     subst hm
     exact hd.part
  ·rw [if_neg h0]; exact h
 rw [if_neg k5]
 by_cases k6:s.kd=6
 ·rw [if_pos k6]
  refine ⟨hl,hb.cancel _ _,fun o hm=>?_⟩
  change o ∈ cancelL σ.l s.a s.se at hm
  unfold cancelL at hm
  by_cases hc:cancelE σ.l s.a s.se=0
  ·rw [if_pos hc] at hm
   obtain ⟨_,x,hx,rfl | ⟨_,rfl⟩⟩:=setO_mem hm
   ·exact ho _ hx
   ·exact ho x hx
  ·rw [if_neg hc] at hm
   exact ho o hm
 rw [if_neg k6]
 by_cases k7:s.kd=7
 ·rw [if_pos k7]; exact ⟨(nettS_is hl s.c s.mx).lin hl,hb,ho⟩
 rw [if_neg k7]
 by_cases k8:s.kd=8
 ·rw [if_pos k8]; exact h
 rw [if_neg k8]
 by_cases k9:s.kd=9
 ·rw [if_pos k9]; exact h
 rw [if_neg k9]
 by_cases k10:s.kd=10
 ·rw [if_pos k10]; exact h
 rw [if_neg k10]
 by_cases k11:s.kd=11
 ·rw [if_pos k11]; exact h
 rw [if_neg k11]
 exact h
noncomputable def runF (τ:Hs):List Stp→Nat→List Gt→Hs × Int × Nat × List Gt
 | [],_,gs=>(τ,0,0,gs)
 | s::r,i,gs=>if (stepF τ s).2.2≠0 then (τ,(stepF τ s).2.2,i,[]) else runF (stepF τ s).1 r (i + 1) (gs++[(stepF τ s).2.1])
noncomputable def applyF (σ:Hs) (xs:List Stp):Hs × Int × Nat × List Gt :=
 if xs.length<1∨8<xs.length then (σ,3,0,[]) else if (runF σ xs 0 []).2.1≠0 then (σ,(runF σ xs 0 []).2.1,(runF σ xs 0 []).2.2.1,[]) else runF σ xs 0 []
theorem runF_inv:∀ (xs:List Stp) {τ:Hs} (i:Nat) (gs:List Gt),HInv τ→HInv (runF τ xs i gs).1
 | [],τ,i,gs,h=>h
 | s::r,τ,i,gs,h=>by
  unfold runF
  split
  ·exact h
  ·exact runF_inv r (i + 1) _ (h.step s)
theorem HInv.apply {σ:Hs} (h:HInv σ) (xs:List Stp):HInv (applyF σ xs).1:=by
 unfold applyF
 split
 ·exact h
 split
 ·exact h
 ·exact runF_inv xs 0 [] h
theorem runF_drop {τ:Hs} {xs:List Stp} {k i:Nat} {gs:List Gt} (hk:k<xs.length):runF τ (xs.drop k) i gs=if (stepF τ xs[k]).2.2≠0 then (τ,(stepF τ xs[k]).2.2,i,[]) else runF (stepF τ xs[k]).1 (xs.drop (k + 1)) (i + 1) (gs++[(stepF τ xs[k]).2.1]):=by
 rw [List.drop_eq_getElem_cons hk]
 rfl
theorem runF_end {τ:Hs} {xs:List Stp} {i:Nat} {gs:List Gt}:runF τ (xs.drop xs.length) i gs=(τ,0,0,gs):=by
 rw [List.drop_length]
 rfl
theorem applyF_err {σ τ:Hs} {xs:List Stp} {er:Int} {k:Nat} (hl:1≤xs.length∧xs.length≤8) (h:runF σ xs 0 []=(τ,er,k,[])) (he:er≠0):applyF σ xs=(σ,er,k,[]):=by
 unfold applyF
 rw [if_neg (by omega),h,if_pos he]
theorem applyF_ok {σ τ:Hs} {xs:List Stp} {gs:List Gt} (hl:1≤xs.length∧xs.length≤8) (h:runF σ xs 0 []=(τ,0,0,gs)):applyF σ xs=(τ,0,0,gs):=by
 unfold applyF
 rw [if_neg (by omega),h,if_neg (fun e=>e rfl)]
end Go.Proofs.YtngnfdnfpiiclaaGreat
namespace Go.Proofs.YtngnfdnfpiiclaaGreat
open Go.RowKit Go.ChangeShapes Go.WideShapes Go.Deep
section
variable {H:Type} {enc:TypeId × Value→H} {P:Program} {w:World} {base:Nat} {spare:Nat→Bool} {held:Bool}
theorem step_of {t:TypeId} {f0 f1 f2 f3 f4 f5 f6 f7 f8 g0 g1:Field} (hu:P.underlying t=some (.struct #[f0,f1,f2,f3,f4,f5,f6,f7,f8])) (hC:P.cellsOf t=10)
  (o:f0.offset=0∧f1.offset=1∧f2.offset=2∧f3.offset=3∧f4.offset=4∧f5.offset=5∧f6.offset=6∧f7.offset=7∧f8.offset=9)
  (c:P.cellsOf f0.type=1∧P.cellsOf f1.type=1∧P.cellsOf f2.type=1∧P.cellsOf f3.type=1∧P.cellsOf f4.type=1∧P.cellsOf f5.type=1∧P.cellsOf f6.type=1∧P.cellsOf f7.type=2∧P.cellsOf f8.type=1)
  (k:P.underlying f0.type=some (.int .u8)∧P.underlying f1.type=some (.int .u8)∧P.underlying f2.type=some (.int .u8)∧P.underlying f3.type=some (.int .u8)∧P.underlying f4.type=some (.int .u8)∧P.underlying f5.type=some (.int .i64)∧P.underlying f6.type=some (.int .i64)∧P.underlying f8.type=some (.int .u64))
  (hr:P.underlying f7.type=some (.struct #[g0,g1])) (og:g0.offset=0∧g1.offset=1) (cg:P.cellsOf g0.type=1∧P.cellsOf g1.type=1) (kg:P.underlying g0.type=some (.int .i64)∧P.underlying g1.type=some (.int .i64))
  {fuel:Nat} {cs:List Value} {x:DataW H × List MemPlace} (h:DataW.trod enc P w base spare held fuel t cs=some x):∃ x:Stp,x.Fits∧cs=x.vals:=by
 obtain ⟨xs,n,_,_,hlen,hxl,hf⟩:=DataW.trod_struct hu h
 rw [hC] at hlen
 obtain ⟨m0,e0,w0⟩:=num_of hxl hf (j:=0) rfl o.1 c.1 k.1 (by omega)
 obtain ⟨m1,e1,w1⟩:=num_of hxl hf (j:=1) rfl o.2.1 c.2.1 k.2.1 (by omega)
 obtain ⟨m2,e2,w2⟩:=num_of hxl hf (j:=2) rfl o.2.2.1 c.2.2.1 k.2.2.1 (by omega)
 obtain ⟨m3,e3,w3⟩:=num_of hxl hf (j:=3) rfl o.2.2.2.1 c.2.2.2.1 k.2.2.2.1 (by omega)
 obtain ⟨m4,e4,w4⟩:=num_of hxl hf (j:=4) rfl o.2.2.2.2.1 c.2.2.2.2.1 k.2.2.2.2.1 (by omega)
 obtain ⟨m5,e5,w5⟩:=num_of hxl hf (j:=5) rfl o.2.2.2.2.2.1 c.2.2.2.2.2.1 k.2.2.2.2.2.1 (by omega)
 obtain ⟨m6,e6,w6⟩:=num_of hxl hf (j:=6) rfl o.2.2.2.2.2.2.1 c.2.2.2.2.2.2.1 k.2.2.2.2.2.2.1 (by omega)
 have h7:=hf 7 f7 rfl
 rw [o.2.2.2.2.2.2.2.1,c.2.2.2.2.2.2.2.1] at h7
 rw [List.getElem?_eq_getElem (by rw [hxl]; simp:7<xs.length)] at h7
 obtain ⟨m7,m8,e7,w7,w8⟩:=pair_of hr c.2.2.2.2.2.2.2.1 og.1 og.2 cg.1 cg.2 kg.1 kg.2 h7
 obtain ⟨m9,e9,w9⟩:=num_of hxl hf (j:=8) rfl o.2.2.2.2.2.2.2.2 c.2.2.2.2.2.2.2.2 k.2.2.2.2.2.2.2 (by omega)
 match cs,hlen with
 | [a0,a1,a2,a3,a4,a5,a6,a7,a8,a9],_ =>
  simp at e0 e1 e2 e3 e4 e5 e6 e7 e9
  obtain ⟨e7,e8⟩:=e7
  subst e0 e1 e2 e3 e4 e5 e6 e7 e8 e9
  exact ⟨⟨m0,m1,m2,m3,m4,m5,m6,m7,m8,m9⟩,⟨In8.of_wf w0,In8.of_wf w1,In8.of_wf w2,In8.of_wf w3,In8.of_wf w4,In64.of_wf w5,In64.of_wf w6,In64.of_wf w7,In64.of_wf w8,InU64.of_wf w9⟩,rfl⟩
end
theorem slice1c_of {H:Type} {enc:TypeId × Value→H} {w:World} {base:Nat} {spare:Nat→Bool} {held:Bool} {P:Program} {t e:TypeId} {n:Nat} {v:Value} {y:DataW H × List MemPlace} (ht:P.underlying t=some (.slice e)) (h:DataW.trod enc P w base spare held n t [v]=some y):∃ a len cap,v=.slice a len cap:=by
 rcases open_slice ht h with ⟨h0,_⟩ | ⟨ad,l,c,m,n,D,Pl,hcs,_⟩
 ·exact ⟨_,_,_,(List.cons.inj h0).1⟩
 ·exact ⟨_,_,_,(List.cons.inj hcs).1⟩
theorem SlIn.steps {w:World} {a:Option Addr} {len cap:Nat} {xs:List Stp} (h:SlIn Stp.vals 10 Stp.Fits w a len cap xs) (hn:len≤100000000):Reads w (.slice a xs.length cap) 10 xs.length (stpCells xs):=by
 obtain ⟨h0,h1,h2,h3,h4,h5⟩:=h
 subst h1
 refine ⟨a,cap,rfl,hn,stpCells_len xs,fun hp=>?_⟩
 obtain ⟨b,off,rfl,hlt,hc⟩:=h5 hp
 refine ⟨b,off,rfl,hlt,fun j hj=>?_⟩
 have hi:j / 10<xs.length:=by omega
 have hm:j % 10<10:=Nat.mod_lt _ (by decide)
 have h4:=stpCells_get xs (j / 10) (j % 10) hm hi
 rw [show j / 10 * 10 + j % 10=j by omega] at h4
 have hv:(xs[j / 10].vals)[j % 10]? = some (xs[j / 10].vals[j % 10]'(by rw [Stp.vals_len]; omega)):=List.getElem?_eq_getElem _
 have h5:=hc (j / 10) hi (j % 10) _ hv
 rw [show off + j / 10 * 10 + j % 10=off + j by omega] at h5
 rw [h5,h4,hv]
structure Cm where
 a:Option Addr
 n:Nat
 c:Nat
 xs:List Stp
def Cm.vals (x:Cm):List Value:=[.slice x.a x.n x.c]
def Cm.In (w:World) (x:Cm):Prop:=SlIn Stp.vals 10 Stp.Fits w x.a x.n x.c x.xs
section
variable {H:Type} {enc:TypeId × Value→H} {w:World} {base:Nat} {spare:Nat→Bool} {held:Bool}
set_option maxRecDepth 100000 in
theorem step_read {fuel:Nat} {cs:List Value} {x:DataW H × List MemPlace} (h:DataW.trod enc Tryz.prog w base spare held fuel 87 cs=some x):∃ x:Stp,x.Fits∧cs=x.vals :=
 step_of Tryz.underlying87 (by kernel_rfl) ⟨rfl,rfl,rfl,rfl,rfl,rfl,rfl,rfl,rfl⟩ ⟨by kernel_rfl,by kernel_rfl,by kernel_rfl,by kernel_rfl,by kernel_rfl,by kernel_rfl,by kernel_rfl,by kernel_rfl,by kernel_rfl⟩
  ⟨Tryz.underlying85,Tryz.underlying68,Tryz.underlying68,Tryz.underlying69,Tryz.underlying69,Tryz.underlying2,Tryz.underlying2,Tryz.underlying44⟩
  Tryz.underlying73 ⟨rfl,rfl⟩ ⟨by kernel_rfl,by kernel_rfl⟩ ⟨Tryz.underlying2,Tryz.underlying2⟩ h
set_option maxRecDepth 100000 in
theorem steps_open {a:Option Addr} {len cap:Nat} {d:DataW H} {p:List MemPlace} (h:DataW.Trod enc Tryz.prog w base spare held 29 (.slice a len cap) d p):∃ xs:List Stp,SlIn Stp.vals 10 Stp.Fits w a len cap xs :=
 sl_open Tryz.underlying29 (by kernel_rfl) Stp.vals_len (by decide) (fun fuel cs x h=>step_read h) h
set_option maxRecDepth 100000 in
theorem cmd_read {fuel:Nat} {cs:List Value} {x:DataW H × List MemPlace} (h:DataW.trod enc Tryz.prog w base spare held fuel 32 cs=some x):∃ x:Cm,x.In w∧cs=x.vals:=by
 obtain ⟨xs,n,_,_,hlen,hxl,hf⟩:=DataW.trod_struct Tryz.underlying32 h
 rw [show Tryz.prog.cellsOf 32=1 by kernel_rfl] at hlen
 have h0:=hf 0 _ rfl
 match cs,hlen with
 | [v],_ =>
  rw [List.getElem?_eq_getElem (by rw [hxl]; simp:0<xs.length)] at h0
  have h1:DataW.trod enc Tryz.prog w base spare held n 29 [v]=some (xs[0]'(by rw [hxl]; simp)):=h0
  obtain ⟨a,len,cap,rfl⟩:=slice1c_of Tryz.underlying29 h1
  obtain ⟨ys,hy⟩:=steps_open (a:=a) (len:=len) (cap:=cap) ⟨n,h1⟩
  exact ⟨⟨a,len,cap,ys⟩,hy,rfl⟩
set_option maxRecDepth 100000 in
theorem cmd_open {r:Reach} {b0:Nat} {v:Value} {d:DataW H} {p:List MemPlace} (hv:Value.okWide Tryz.prog w r b0 32 v) (h:DataW.Trod enc Tryz.prog w base spare held 32 v d p) :
  ∃ x:Cm,v=.agg #[.slice x.a x.n x.c]∧x.In w:=by
 obtain ⟨cs,rfl,_⟩:=okWide_struct Tryz.underlying32 hv
 obtain ⟨fuel,hf⟩:=h
 obtain ⟨x,hx,hc⟩:=cmd_read hf
 refine ⟨x,?_,hx⟩
 have:cs.toList=x.vals:=by simpa [Value.cells] using hc
 rw [show cs=x.vals.toArray by rw [← this]]
 rfl
end
end Go.Proofs.YtngnfdnfpiiclaaGreat
namespace Go.Proofs.YtngnfdnfpiiclaaGreat
open Go.RowKit
def Told (w:World) (base:Nat) (e:TypeId) (size:Nat) (v:Value) (n:Nat) (xs:List Value):Prop:=Rowed w base e size v n xs∨w.ownsRow base e size v n xs
theorem Told.below {w w':World} {base:Nat} {e:TypeId} {size:Nat} {v:Value} {n:Nat} {xs:List Value} (h:Told w base e size v n xs) (k:Below w.heap.size w w'):Told w' base e size v n xs:=h.imp (fun h=>h.below k) (fun h=>owns_below h k)
theorem Told.keep {S:Nat→Prop} {w w':World} {base:Nat} {e:TypeId} {size:Nat} {v:Value} {n:Nat} {xs:List Value} (h:Told w base e size v n xs) (k:Keep S w w') (hs:∀ b,v.ownBlock=some b→¬ S b):Told w' base e size v n xs:=h.imp (fun h=>h.keep k hs) (fun h=>owns_keep h k hs)
theorem Told.reads {w:World} {base:Nat} {e:TypeId} {size:Nat} {v:Value} {n:Nat} {xs:List Value} (h:Told w base e size v n xs) (hn:n≤100000000):Reads w v size n xs:=h.elim (fun h=>h.reads hn) (fun h=>Reads.of_owns h hn)
theorem Told.own {w:World} {base:Nat} {e:TypeId} {size:Nat} {v:Value} {n:Nat} {xs:List Value} (h:Told w base e size v n xs) {b:Nat} (hb:v.ownBlock=some b):base≤b∧b<w.heap.size∧∃ cur,w.heap[b]? = some (.cells cur e (0,0)):=by
 rcases h with h | h
 ·obtain ⟨_,h2⟩:=h
  rcases h2 with ⟨rfl,rfl⟩ | ⟨g,cur,rfl,h3,hg,_⟩
  ·cases hb
  ·cases hb
   exact ⟨h3,lt_of_block hg,cur,hg⟩
 ·exact owns_type h hb
theorem Told.shape {w:World} {base:Nat} {e:TypeId} {size:Nat} {v:Value} {n:Nat} {xs:List Value} (h:Told w base e size v n xs):∃ ao cap,v=.slice ao n cap:=by
 rcases h with h | h
 ·obtain ⟨ao,rfl,_⟩:=rowed_shape h
  exact ⟨ao,n,rfl⟩
 ·obtain ⟨ao,cap,rfl,_⟩:=owns_open h
  exact ⟨ao,cap,rfl⟩
theorem blk_blk_ne {w:World} {a b:Nat} {cs ds:Array Value} {t u:TypeId} (h:Blk w a cs t) (k:Blk w b ds u) (hne:t≠u):a≠b:=by
 rintro rfl
 unfold Blk at h k
 rw [h] at k
 simp at k
 exact hne k.2
theorem told_ne {w:World} {base:Nat} {e:TypeId} {size:Nat} {v:Value} {n:Nat} {xs:List Value} (h:Told w base e size v n xs) {g:Nat} {cs:Array Value} {t:TypeId} (k:Blk w g cs t) (hne:e≠t):∀ b,v.ownBlock=some b→¬ b=g:=fun b hb=>by
 obtain ⟨_,_,cur,hc⟩:=h.own hb
 exact blk_blk_ne (show Blk w b cur e from hc) k hne
def ApplyPost (Is:World→Nat→Hs→Prop) (w:World) (g:Nat) (σ:Hs) (xs:List Stp) (e:Ending) (w':World):Prop :=
 ∃ v,e=.returned (.agg #[.int .i64 (applyF σ xs).2.1,.int .i64 ((applyF σ xs).2.2.1:Nat),v])∧Told w' w.heap.size 93 2 v (applyF σ xs).2.2.2.length (gtCells (applyF σ xs).2.2.2)∧Is w' g (applyF σ xs).1∧Keep (·=g) w w'
def StatePost (w:World) (σ:Hs) (e:Ending) (w':World):Prop :=
 ∃ vp vl vo,e=.returned (.agg #[vp,vl,vo,.int .u64 σ.N])∧Told w' w.heap.size 68 1 vp σ.ps.length (σ.ps.map (.int .u8))∧Told w' w.heap.size 71 5 vl σ.ls.length (lnCells σ.ls)∧Told w' w.heap.size 75 7 vo σ.l.length (ofCells σ.l)∧Below w.heap.size w w'
structure MachProg (Ok:Stp→Prop) (Is:World→Nat→Hs→Prop):Prop where
 lt:∀ {w:World} {g:Nat} {σ:Hs},Is w g σ→g<w.heap.size
 below:∀ {w w':World} {g:Nat} {σ:Hs},Is w g σ→Below w.heap.size w w'→Is w' g σ
 other:∀ {w w':World} {g k:Nat} {σ τ:Hs},Is w g σ→Is w k τ→g≠k→Keep (·=k) w w'→Is w' g σ
 rows:∀ {w w':World} {g:Nat} {σ:Hs} {S:Nat→Prop},Is w g σ→Keep S w w'→(∀ b,S b→∃ cur e,w.heap[b]? = some (.cells cur e (0,0))∧(e=68∨e=71∨e=75∨e=87∨e=93))→Is w' g σ
 new:∀ w:World,Calls Tryz.prog 11 #[] w fun e w'=>∃ g,e=.returned (.pointer (some ⟨g,0,none⟩))∧Is w' g ⟨[],[],[],1⟩∧w.heap.size≤g∧Below w.heap.size w w'
 apply:∀ {w:World} {g:Nat} {σ:Hs},Is w g σ→HInv σ→∀ x:Cm,x.In w→(∀ s ∈ x.xs,Ok s)→Calls Tryz.prog 16 #[.pointer (some ⟨g,0,none⟩),.agg #[.slice x.a x.n x.c]] w (ApplyPost Is w g σ x.xs)
 state:∀ {w:World} {g:Nat} {σ:Hs},Is w g σ→HInv σ→Calls Tryz.prog 21 #[.pointer (some ⟨g,0,none⟩)] w (StatePost w σ)
 copy:∀ {w:World} {g:Nat} {σ:Hs},Is w g σ→HInv σ→Calls Tryz.prog 13 #[.pointer (some ⟨g,0,none⟩)] w fun e w'=>∃ k,e=.returned (.pointer (some ⟨k,0,none⟩))∧Is w' k σ∧w.heap.size≤k∧Below w.heap.size w w'
def Lives14:Prop:=∀ w:World,Calls Tryz.prog 10 #[] w fun e w'=>e=.returned (.bool true)∧Below w.heap.size w w'
end Go.Proofs.YtngnfdnfpiiclaaGreat
namespace Go.Proofs.YtngnfdnfpiiclaaGreat
open Go.RowKit Go.IntWalk
theorem one_any (a:Option Addr) (n c:Nat) (w:World):Calls Tryz.prog 37 #[.slice a n c] w fun e w'=>e=.returned (.agg #[.slice a n c])∧Below w.heap.size w w':=by
 have b0:=(Below.refl w.heap.size w).alloc (Nat.le_refl _) (.cells #[.slice none 0 0] 32)
 have KX:=Lib.hid (Blk.new w #[.slice none 0 0] 32)
 have B0:=Lib.hid b0
 clear b0
 go_enter Tryz.func37,Tryz.ntmps37
 go_upto_region 1 with fail
 generalize w.alloc (.cells #[.slice none 0 0] 32)=W at *
 have xl:=KX.out.lt
 have x0:=KX.out.cell 0
 simp at x0
 go_wp2_with (refine wpList_store_whole rfl 32 (.tmp 2) (.tmp 4) rfl w.heap.size #[.slice a n c] rfl rfl 32 _ KX.out.out (by kernel_rfl) rfl (by simp [Value.oneCell']) ?_)
 refine bodyPost_ret (v:=.agg #[.slice a n c]) (results_cell_row rfl _ _ w.heap.size 32 #[.slice a n c] (0,0) _ rfl (setRow_heap _ w.heap.size _ _ _ (0,0) KX.out.out) Tryz.underlying32 rfl (by kernel_rfl)) rfl ?_
 exact ⟨rfl,below_setRow B0.out (Nat.le_refl _) _⟩
set_option maxHeartbeats 4000000 in
theorem SameReply_any {w:World} {e1 a1 e2 a2:Int} {va vb:Value} {la lb:List Gt} (ha:Reads w va 2 la.length (gtCells la)) (hb:Reads w vb 2 lb.length (gtCells lb)) :
  Calls Tryz.prog 17 #[.agg #[.int .i64 e1,.int .i64 a1,va],.agg #[.int .i64 e2,.int .i64 a2,vb]] w fun e w'=>e=.returned (.bool (decide (e1=e2∧a1=a2∧la=lb)))∧Below w.heap.size w w':=by
 have b1:=(Below.refl w.heap.size w).alloc (Nat.le_refl _) (.cells #[.int .i64 e1,.int .i64 a1,va] 36)
 have b2:=b1.alloc b1.size (.cells #[.int .i64 e2,.int .i64 a2,vb] 36)
 have KA:=Lib.hid ((Blk.new w #[.int .i64 e1,.int .i64 a1,va] 36).alloc (.cells #[.int .i64 e2,.int .i64 a2,vb] 36))
 have KB:=Lib.hid (Blk.newAt (w.alloc (.cells #[.int .i64 e1,.int .i64 a1,va] 36)) #[.int .i64 e2,.int .i64 a2,vb] 36 (g:=w.heap.size + 1) (by simp))
 have B2:=Lib.hid b2
 have C:=Lib.hid (sameGt_any (ha.below b2) (hb.below b2))
 clear ha hb b1 b2
 go_enter Tryz.func17,Tryz.ntmps17
 go_upto_region 1 with fail
 generalize (w.alloc (.cells #[.int .i64 e1,.int .i64 a1,va] 36)).alloc (.cells #[.int .i64 e2,.int .i64 a2,vb] 36)=W at *
 have x0:=KA.out.cell 0; have x1:=KA.out.cell 1; have x2:=KA.out.cell 2; have xl:=KA.out.lt
 have y0:=KB.out.cell 0; have y1:=KB.out.cell 1; have y2:=KB.out.cell 2; have yl:=KB.out.lt
 simp at x0 x1 x2 y0 y1 y2
 by_cases he:e1=e2
 ·have q1:(e1==e2)=true:=by simpa using he
  by_cases h2:a1=a2
  ·have q2:(a1==a2)=true:=by simpa using h2
   have HE:=Lib.hid (And.intro he h2)
   clear he h2
   go_wp2_with fail
   refine C.out.mono ?_
   rintro e w3 ⟨rfl,b3⟩
   go_wp2_with fail
   go_ret
   exact ⟨by simp [HE.out.1,HE.out.2],B2.out.trans (b3.mono B2.out.size)⟩
  ·have q2:(a1==a2)=false:=by simpa using h2
   have HE:=Lib.hid h2
   clear he h2
   go_wp2_with fail
   go_ret
   exact ⟨by simp [HE.out],B2.out⟩
 ·have q1:(e1==e2)=false:=by simpa using he
  have HE:=Lib.hid he
  clear he
  go_wp2_with fail
  go_ret
  exact ⟨by simp [HE.out],B2.out⟩
theorem stp_fits (x:Stp) (h:0≤x.kd∧x.kd≤255∧0≤x.a∧x.a≤255∧0≤x.b∧x.b≤255∧0≤x.c∧x.c≤255∧0≤x.d∧x.d≤255∧0≤x.n∧x.n≤255∧x.mx=0∧x.nu=0∧x.de=0∧x.se=0):x.Fits:=by
 obtain ⟨a1,a2,b1,b2,c1,c2,d1,d2,e1,e2,f1,f2,g,i,j,k⟩:=h
 exact ⟨⟨a1,a2⟩,⟨b1,b2⟩,⟨c1,c2⟩,⟨d1,d2⟩,⟨e1,e2⟩,⟨by omega,by omega⟩,⟨by omega,by omega⟩,⟨by omega,by omega⟩,⟨by omega,by omega⟩,⟨by omega,by omega⟩⟩
theorem reads_nil (w:World) (size:Nat):Reads w (.slice none 0 0) size 0 []:=⟨none,0,rfl,by omega,by simp,fun h=>absurd h (by omega)⟩
theorem stepsIn_blk {w:World} {g:Nat} {xs:List Stp} {t:TypeId} {cs:Array Value} (h:Blk w g cs t) (hc:cs=(stpCells xs).toArray) (hf:∀ x ∈ xs,x.Fits) (hl:xs.length≤1000):SlIn Stp.vals 10 Stp.Fits w (some ⟨g,0,none⟩) xs.length xs.length xs:=by
 refine ⟨(fun e=>by cases e),rfl,hf,Nat.le_refl _,by unfold maxLen; omega,fun _=>⟨_,_,rfl,h.lt,fun i hi j u hu=>?_⟩⟩
 have hj:j<10:=by
  have:=(List.getElem?_eq_some_iff.1 hu).1
  rwa [Stp.vals_len] at this
 rw [Nat.zero_add,h.cell,hc,List.getElem?_toArray,stpCells_get xs i j hj hi,hu]
theorem gotsReads_blk {w:World} {g:Nat} {xs:List Gt} {t:TypeId} {cs:Array Value} (h:Blk w g cs t) (hc:cs=(gtCells xs).toArray) (hl:xs.length≤1000):Reads w (.slice (some ⟨g,0,none⟩) xs.length xs.length) 2 xs.length (gtCells xs):=by
 refine ⟨_,_,rfl,by omega,gtCells_len xs,fun _=>⟨g,0,rfl,h.lt,fun j hj=>?_⟩⟩
 rw [Nat.zero_add,h.cell,hc,List.getElem?_toArray]
end Go.Proofs.YtngnfdnfpiiclaaGreat
