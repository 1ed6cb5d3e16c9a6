/-
  Pieces of one proof, without what is not wanted: SortL.
-/
import Derived.Test.YtngnfdnfpiiclaaGreatV01
import Derived.Test.YtngnfdnfpiiclaaGreatV03
import Derived.Test.YtngnfdnfpiiclaaGreatV04
import Derived.Test.YtngnfdnfpiiclaaGreatV11
import Derived.Shelf.SlSortCmp.NoneTotal
import Derived.Shelf.SlMaps.Clone
import Derived.Deep.MidRow
set_option linter.unusedSimpArgs false
set_option linter.unusedVariables false
namespace Go.Proofs.YtngnfdnfpiiclaaGreat
open Go.RowKit Go.Shelf
def sortL_ren:Go.Shelf.Ren:=⟨fun | 6=>100 | 15=>141 | 14=>140 | 28=>186 | 29=>187 | 20=>178 | 21=>179 | 22=>180 | 23=>181 | 24=>182 | 25=>183 | 26=>184 | 27=>185 | 46=>218 | 47=>219 | 48=>220 | 49=>221 | 50=>222 | 57=>257 | n=>n,fun | 22=>42 | 24=>71 | 25=>193 | 3=>3 | 39=>227 | 0=>0 | 53=>278 | 55=>44 | 4=>4 | 46=>271 | 45=>270 | 50=>275 | 5=>5 | 9=>9 | 66=>310 | 70=>313 | 76=>358 | 77=>359 | n=>n,fun | n=>n⟩
theorem sortL:Go.Proofs.SlLaysF0.n6 Tryz.prog sortL_ren:={
 mixed:=by kernel_rfl
 f6:=⟨Tryz.f100.name,by decide,Tryz.func100.trans (congrArg some (by kernel_rfl))⟩
 f14:=⟨Tryz.f140.name,by decide,Tryz.func140.trans (congrArg some (by kernel_rfl))⟩
 f15:=Tryz.func141.trans (congrArg some (by kernel_rfl))
 f20:=⟨Tryz.f178.name,by decide,Tryz.func178.trans (congrArg some (by kernel_rfl))⟩
 f21:=⟨Tryz.f179.name,by decide,Tryz.func179.trans (congrArg some (by kernel_rfl))⟩
 f22:=⟨Tryz.f180.name,by decide,Tryz.func180.trans (congrArg some (by kernel_rfl))⟩
 f23:=⟨Tryz.f181.name,by decide,Tryz.func181.trans (congrArg some (by kernel_rfl))⟩
 f24:=⟨Tryz.f182.name,by decide,Tryz.func182.trans (congrArg some (by kernel_rfl))⟩
 f25:=⟨Tryz.f183.name,by decide,Tryz.func183.trans (congrArg some (by kernel_rfl))⟩
 f26:=⟨Tryz.f184.name,by decide,Tryz.func184.trans (congrArg some (by kernel_rfl))⟩
 f27:=⟨Tryz.f185.name,by decide,Tryz.func185.trans (congrArg some (by kernel_rfl))⟩
 f28:=Tryz.func186.trans (congrArg some (by kernel_rfl))
 f29:=Tryz.func187.trans (congrArg some (by kernel_rfl))
 f46:=⟨Tryz.f218.name,by decide,Tryz.func218.trans (congrArg some (by kernel_rfl))⟩
 f47:=Tryz.func219.trans (congrArg some (by kernel_rfl))
 f48:=Tryz.func220.trans (congrArg some (by kernel_rfl))
 f49:=⟨Tryz.f221.name,by decide,Tryz.func221.trans (congrArg some (by kernel_rfl))⟩
 f50:=⟨Tryz.f222.name,by decide,Tryz.func222.trans (congrArg some (by kernel_rfl))⟩
 f57:=⟨Tryz.f257.name,by decide,Tryz.func257.trans (congrArg some (by kernel_rfl))⟩
 t0:=Tryz.underlying0
 a0:=Tryz.isAgg0
 z0:=Tryz.sizeOf0
 v0:=Tryz.zeroValue0
 t3:=Tryz.underlying3
 a3:=Tryz.isAgg3
 z3:=Tryz.sizeOf3
 v3:=Tryz.zeroValue3
 t4:=Tryz.underlying4
 a4:=Tryz.isAgg4
 z4:=Tryz.sizeOf4
 v4:=Tryz.zeroValue4
 t5:=Tryz.underlying5
 a5:=Tryz.isAgg5
 z5:=Tryz.sizeOf5
 v5:=Tryz.zeroValue5
 t9:=Tryz.underlying9
 a9:=Tryz.isAgg9
 z9:=Tryz.sizeOf9
 v9:=Tryz.zeroValue9
 t22:=Tryz.underlying42
 a22:=Tryz.isAgg42
 z22:=Tryz.sizeOf42
 v22:=Tryz.zeroValue42
 t25:=Tryz.underlying193
 a25:=Tryz.isAgg193
 z25:=Tryz.sizeOf193
 v25:=Tryz.zeroValue193
 t39:=Tryz.underlying227
 a39:=Tryz.isAgg227
 z39:=Tryz.sizeOf227
 v39:=Tryz.zeroValue227
 t45:=Tryz.underlying270
 a45:=Tryz.isAgg270
 z45:=Tryz.sizeOf270
 v45:=Tryz.zeroValue270
 t46:=Tryz.underlying271
 a46:=Tryz.isAgg271
 z46:=Tryz.sizeOf271
 v46:=Tryz.zeroValue271
 t50:=Tryz.underlying275
 a50:=Tryz.isAgg275
 z50:=Tryz.sizeOf275
 v50:=Tryz.zeroValue275
 t53:=Tryz.underlying278
 a53:=Tryz.isAgg278
 z53:=Tryz.sizeOf278
 v53:=Tryz.zeroValue278
 t55:=Tryz.underlying44
 a55:=Tryz.isAgg44
 z55:=Tryz.sizeOf44
 v55:=Tryz.zeroValue44
 t66:=Tryz.underlying310
 a66:=Tryz.isAgg310
 z66:=Tryz.sizeOf310
 v66:=Tryz.zeroValue310
 t70:=Tryz.underlying313
 a70:=Tryz.isAgg313
 z70:=Tryz.sizeOf313
 v70:=Tryz.zeroValue313
 t76:=Tryz.underlying358
 a76:=Tryz.isAgg358
 z76:=Tryz.sizeOf358
 v76:=Tryz.zeroValue358
 t77:=Tryz.underlying359
 a77:=Tryz.isAgg359
 z77:=Tryz.sizeOf359
 v77:=Tryz.zeroValue359 }
end Go.Proofs.YtngnfdnfpiiclaaGreat
namespace Go.Proofs.YtngnfdnfpiiclaaGreat
open Go.RowKit
end Go.Proofs.YtngnfdnfpiiclaaGreat
namespace Go.Proofs.YtngnfdnfpiiclaaGreat
open Go.RowKit Go.Shelf Go.Sort Go.Lib
instance:Inhabited Ln:=⟨noLn⟩
def cmp3 (x y:Int):Int:=if x<y then -1 else if y<x then 1 else 0
def or3 (p q r:Int):Int:=if p=0 then (if q=0 then r else q) else p
def ordL (x y:Ln):Int:=or3 (cmp3 x.cu y.cu) (cmp3 x.cr y.cr) (cmp3 x.de y.de)
theorem ordL_lt (x y:Ln):ordL x y<0↔(x.cu<y.cu∨(x.cu=y.cu∧(x.cr<y.cr∨(x.cr=y.cr∧x.de<y.de)))):=by
 unfold ordL or3 cmp3
 (repeat' split) <;> omega
theorem ordL_rank {x y:Ln} (hx:x.Fits) (hy:y.Fits):ordL x y<0↔x.rank<y.rank:=by
 rw [ordL_lt]
 obtain ⟨⟨a1,a2⟩,⟨b1,b2⟩,⟨c1,c2⟩,_,_⟩:=hx
 obtain ⟨⟨d1,d2⟩,⟨e1,e2⟩,⟨f1,f2⟩,_,_⟩:=hy
 unfold Ln.rank
 omega
theorem swoL:SWO (ltOf ordL) where
 irrefl x:=by unfold ltOf; rw [decide_eq_false_iff_not,ordL_lt]; omega
 trans x y z h1 h2:=by
  unfold ltOf at *
  rw [decide_eq_true_eq,ordL_lt] at *
  omega
 ntrans x y z h1 h2:=by
  unfold ltOf at *
  rw [decide_eq_false_iff_not,ordL_lt] at *
  omega
theorem flat_lines (ls:List Ln) {j:Nat} (h:j<ls.length * 5):(flatK Ln.vals 5 ls.toArray)[j]! = (lnCells ls)[j]'(by rw [lnCells_len]; exact h):=by
 rw [get_flatK _ _ _ j (by simpa using h)]
 have h1:j / 5<ls.length:=by omega
 have h2:j % 5<5:=Nat.mod_lt _ (by omega)
 have h3:=lnCells_get ls (j / 5) (j % 5) h2 h1
 rw [show j / 5 * 5 + j % 5=j by omega] at h3
 rw [List.getElem?_eq_getElem (by rw [lnCells_len]; exact h)] at h3
 have h4:(ls.toArray)[j / 5]! = ls[j / 5]:=by simp [h1]
 rw [h4,List.getElem!_eq_getElem?_getD,← h3]
 rfl
theorem holds_lines {w:World} {g:Nat} {cur:Array Value} {e:TypeId} {ls:List Ln} (hb:w.heap[g]? = some (.cells cur e (0,0))) (ht:cur.toList.take (ls.length * 5)=lnCells ls):HoldsK Ln.vals 5 w g 0 ls.toArray:=by
 intro j hj
 have hj':j<ls.length * 5:=by simpa using hj
 refine ⟨?_,by simp [World.frozen?,hb]⟩
 rw [flat_lines ls hj']
 have h1:(cur.toList.take (ls.length * 5))[j]? = (lnCells ls)[j]? := by rw [ht]
 rw [List.getElem?_take_of_lt hj'] at h1
 simp only [World.cell?,hb,Nat.zero_add]
 simp only [Option.isSome_none,Bool.false_eq_true,if_false]
 rw [← Array.getElem?_toList,h1,List.getElem?_eq_getElem (by rw [lnCells_len]; exact hj')]
 rfl
theorem heap_lines {w:World} {g n:Nat} {os:Array Obj} {cur:Array Value} {e:TypeId} (d:Array Ln) (hb:w.heap[g]? = some (.cells cur e (0,0))) :
  (sortWorldK Ln.vals 5 w g 0 n d os).heap[g]? = some (.cells (putCells id 0 (flatK Ln.vals 5 d) cur) e (0,0)):=by
 have hg:g<w.heap.size:=(Array.getElem?_eq_some_iff.1 hb).1
 unfold sortWorldK putRowK
 rw [heap_grow_old _ _ (by simpa using hg)]
 simp [putRow,mapBlock,Go.Sort.ahead,Array.getElem?_modify,hb,onCells]
theorem keep_lines {w:World} {g n:Nat} {os:Array Obj} (d:Array Ln):Keep (·=g) w (sortWorldK Ln.vals 5 w g 0 n d os):=by
 refine ⟨rfl,rfl,rfl,by simp [sortWorldK,putRowK],fun k hk hne=>?_⟩
 unfold sortWorldK putRowK
 rw [heap_grow_old _ _ (by simpa using hk)]
 have:g≠k:=fun e=>hne e.symm
 simp [putRow,mapBlock,Go.Sort.ahead,Array.getElem?_modify,this]
theorem take_lines (cur:Array Value) (ls:List Ln) (h:ls.length * 5≤cur.size):(putCells id 0 (flatK Ln.vals 5 ls.toArray) cur).toList.take (ls.length * 5)=lnCells ls:=by
 apply List.ext_getElem?
 intro j
 by_cases hj:j<ls.length * 5
 ·have hf:=flat_lines ls hj
  rw [List.getElem?_take_of_lt hj,Array.getElem?_toList,List.getElem?_eq_getElem (by rw [lnCells_len]; exact hj),← hf]
  simp [putCells,hj,show j<cur.size by omega]
 ·rw [List.getElem?_take_eq_none (by omega),List.getElem?_eq_none (by rw [lnCells_len]; omega)]
theorem sorted_is {done ls:List Ln} (hI:Inv ls) (hp:done.Perm ls) (d:Array Ln) (h1:PermIn 0 done.toArray.size done.toArray d) (h2:SortedIn (ltOf ordL) 0 done.toArray.size d):d.toList=ls:=by
 obtain ⟨hs,_,hperm⟩:=h1
 have hpd:d.toList.Perm done:=by
  have e1:d.extract 0 done.toArray.size=d:=by rw [← hs,Array.extract_size]
  rw [e1,Array.extract_size] at hperm
  simpa using hperm
 have hpl:=hpd.trans hp
 have hne:d.toList.Pairwise fun x y=>x.rank≠y.rank:=(hpl.symm.pairwise_iff (fun {a b} (h:a.rank≠b.rank)=>h.symm)).1 (hI.sorted.imp fun h=>by omega)
 refine sorted_ext _ _ ?_ hI.sorted fun x=>hpl.mem_iff
 rw [List.pairwise_iff_getElem] at hne ⊢
 intro i j hi hj hij
 have hn:=hne i j hi hj hij
 have hi':i<d.size:=by simpa using hi
 have hj':j<d.size:=by simpa using hj
 have hso:=h2 i j (Nat.zero_le _) hij (by rw [← hs]; exact hj')
 rw [getElem!_pos d i hi',getElem!_pos d j hj'] at hso
 unfold ltOf at hso
 rw [decide_eq_false_iff_not,ordL_rank (hI.good _ (hpl.mem_iff.1 (by simp))).fits (hI.good _ (hpl.mem_iff.1 (by simp))).fits] at hso
 simp only [Array.getElem_toList] at hn ⊢
 omega
theorem isnan_p (x:Int) (w:World) :
  Calls Tryz.prog 189 #[.int .u8 x] w fun e w'=>e=.returned (.bool false)∧w'=w:=by
 have hx:(x==x)=true:=by simp
 go_enter Tryz.func189,Tryz.ntmps189
 go_wp2
 go_ret
 exact ⟨rfl,rfl⟩
theorem isnan_c (x:Int) (w:World) :
  Calls Tryz.prog 188 #[.int .u8 x] w fun e w'=>e=.returned (.bool false)∧w'=w:=by
 have hx:(x==x)=true:=by simp
 go_enter Tryz.func188,Tryz.ntmps188
 go_wp2
 go_ret
 exact ⟨rfl,rfl⟩
theorem compare_p (x y:Int) (w:World) :
  Calls Tryz.prog 144 #[.int .u8 x,.int .u8 y] w fun e w'=>e=.returned (.int .i64 (cmp3 x y))∧w'=w:=by
 have c1:=Lib.hid (fun w=>isnan_p x w)
 have c2:=Lib.hid (fun w=>isnan_p y w)
 rcases Int.lt_trichotomy x y with h | h | h
 ·rw [show cmp3 x y = -1 by unfold cmp3; rw [if_pos h]]
  go_enter Tryz.func144,Tryz.ntmps144
  go_wp2_with fail
  refine (c1.out _).mono ?_
  rintro e w1 ⟨rfl,rfl⟩
  go_wp2_with fail
  refine (c2.out _).mono ?_
  rintro e w1 ⟨rfl,rfl⟩
  go_wp2_with fail
  go_ret
  exact ⟨rfl,rfl⟩
 ·rw [show cmp3 x y=0 by unfold cmp3; rw [if_neg (by omega),if_neg (by omega)]]
  subst h
  go_enter Tryz.func144,Tryz.ntmps144
  go_wp2_with fail
  refine (c1.out _).mono ?_
  rintro e w1 ⟨rfl,rfl⟩
  go_wp2_with fail
  refine (c2.out _).mono ?_
  rintro e w1 ⟨rfl,rfl⟩
  go_wp2_with fail
  go_ret
  exact ⟨rfl,rfl⟩
 ·rw [show cmp3 x y=1 by unfold cmp3; rw [if_neg (by omega),if_pos h]]
  have h2:¬ x<y:=by omega
  go_enter Tryz.func144,Tryz.ntmps144
  go_wp2_with fail
  refine (c1.out _).mono ?_
  rintro e w1 ⟨rfl,rfl⟩
  go_wp2_with fail
  refine (c2.out _).mono ?_
  rintro e w1 ⟨rfl,rfl⟩
  go_wp2_with fail
  go_ret
  exact ⟨rfl,rfl⟩
theorem compare_c (x y:Int) (w:World) :
  Calls Tryz.prog 143 #[.int .u8 x,.int .u8 y] w fun e w'=>e=.returned (.int .i64 (cmp3 x y))∧w'=w:=by
 have c1:=Lib.hid (fun w=>isnan_c x w)
 have c2:=Lib.hid (fun w=>isnan_c y w)
 rcases Int.lt_trichotomy x y with h | h | h
 ·rw [show cmp3 x y = -1 by unfold cmp3; rw [if_pos h]]
  go_enter Tryz.func143,Tryz.ntmps143
  go_wp2_with fail
  refine (c1.out _).mono ?_
  rintro e w1 ⟨rfl,rfl⟩
  go_wp2_with fail
  refine (c2.out _).mono ?_
  rintro e w1 ⟨rfl,rfl⟩
  go_wp2_with fail
  go_ret
  exact ⟨rfl,rfl⟩
 ·rw [show cmp3 x y=0 by unfold cmp3; rw [if_neg (by omega),if_neg (by omega)]]
  subst h
  go_enter Tryz.func143,Tryz.ntmps143
  go_wp2_with fail
  refine (c1.out _).mono ?_
  rintro e w1 ⟨rfl,rfl⟩
  go_wp2_with fail
  refine (c2.out _).mono ?_
  rintro e w1 ⟨rfl,rfl⟩
  go_wp2_with fail
  go_ret
  exact ⟨rfl,rfl⟩
 ·rw [show cmp3 x y=1 by unfold cmp3; rw [if_neg (by omega),if_pos h]]
  have h2:¬ x<y:=by omega
  go_enter Tryz.func143,Tryz.ntmps143
  go_wp2_with fail
  refine (c1.out _).mono ?_
  rintro e w1 ⟨rfl,rfl⟩
  go_wp2_with fail
  refine (c2.out _).mono ?_
  rintro e w1 ⟨rfl,rfl⟩
  go_wp2_with fail
  go_ret
  exact ⟨rfl,rfl⟩
theorem or_three (b cap:Nat) (p q r:Int) (w:World) (hlt:b<w.heap.size) (h0:w.cell? ⟨b,0,none⟩=some (.int .i64 p)) (h1:w.cell? ⟨b,1,none⟩=some (.int .i64 q)) (h2:w.cell? ⟨b,2,none⟩=some (.int .i64 r)) :
  Calls Tryz.prog 142 #[.slice (some ⟨b,0,none⟩) 3 cap] w fun e w'=>e=.returned (.int .i64 (or3 p q r))∧w'=w:=by
 unfold or3
 by_cases hp:p=0
 ·rw [if_pos hp]
  subst hp
  by_cases hq:q=0
  ·rw [if_pos hq]
   subst hq
   by_cases hr:r=0
   ·subst hr
    go_enter Tryz.func142,Tryz.ntmps142
    go_wp2
    refine wp_loop_rounds 4 ?_
    rw [rounds_succ]; go_wp2
    rw [rounds_succ]; go_wp2
    rw [rounds_succ]; go_wp2
    rw [rounds_succ]; go_wp2
    go_ret
    exact ⟨rfl,rfl⟩
   ·have hb:(r==0)=false:=by simp [hr]
    go_enter Tryz.func142,Tryz.ntmps142
    go_wp2
    refine wp_loop_rounds 3 ?_
    rw [rounds_succ]; go_wp2
    rw [rounds_succ]; go_wp2
    rw [rounds_succ]; go_wp2
    go_ret
    exact ⟨rfl,rfl⟩
  ·rw [if_neg hq]
   have hb:(q==0)=false:=by simp [hq]
   go_enter Tryz.func142,Tryz.ntmps142
   go_wp2
   refine wp_loop_rounds 2 ?_
   rw [rounds_succ]; go_wp2
   rw [rounds_succ]; go_wp2
   go_ret
   exact ⟨rfl,rfl⟩
 ·rw [if_neg hp]
  have hb:(p==0)=false:=by simp [hp]
  go_enter Tryz.func142,Tryz.ntmps142
  go_wp2
  refine wp_loop_rounds 1 ?_
  rw [rounds_succ]; go_wp2
  go_ret
  exact ⟨rfl,rfl⟩
end Go.Proofs.YtngnfdnfpiiclaaGreat
namespace Go.Proofs.YtngnfdnfpiiclaaGreat
open Go.RowKit
open Go.Shelf Go.Lib
open Go.Sort (grow flatK putCells HoldsK PermIn SortedIn SWO)
def OrdAt (W:World) (o:Obj) (D:Nat→Bool) (w:World):Prop:=∃ q,w=if D 15 then (W.drewN q).alloc o else W.drewN q
theorem OrdAt.step {W w:World} {o:Obj} {D:Nat→Bool} {k:Nat} (h:OrdAt W o D w) (hk:k≠15):OrdAt W o (ins k D) w:=by
 obtain ⟨q,hq⟩:=h
 refine ⟨q,?_⟩
 rw [ins_ne D (Ne.symm hk)]
 exact hq
theorem OrdAt.below {W w:World} {o:Obj} {D:Nat→Bool} (h:OrdAt W o D w):Below W.heap.size W w:=by
 obtain ⟨q,hq⟩:=h
 subst hq
 split
 ·exact (⟨rfl,rfl,rfl,Nat.le_refl _,fun _ _=>rfl⟩:Below W.heap.size W (W.drewN q)).alloc (Nat.le_refl _) _
 ·exact ⟨rfl,rfl,rfl,Nat.le_refl _,fun _ _=>rfl⟩
theorem grow_three (w:World) (a b c:Obj) (q:Nat):∃ q' os',(((w.alloc a).alloc b).drewN q).alloc c=grow (w.drewN q') os':=by
 refine ⟨q,#[a,b,c],?_⟩
 unfold grow World.alloc World.drewN
 simp only [World.mk.injEq,and_true]
 apply Array.ext'
 simp
set_option maxHeartbeats 4000000 in
set_option maxRecDepth 100000 in
theorem order_any (x y:Ln) (w:World):Calls Tryz.prog 101 #[.agg #[.int .u8 x.cr,.int .u8 x.de,.int .u8 x.cu,.int .i64 x.li,.int .i64 x.db],.agg #[.int .u8 y.cr,.int .u8 y.de,.int .u8 y.cu,.int .i64 y.li,.int .i64 y.db]] w fun e w'=>e=.returned (.int .i64 (ordL x y))∧∃ q os',w'=grow (w.drewN q) os':=by
 unfold ordL
 have c1:=Lib.hid (fun w=>compare_c x.cu y.cu w)
 have c2:=Lib.hid (fun w=>compare_p x.cr y.cr w)
 have c3:=Lib.hid (fun w=>compare_p x.de y.de w)
 generalize cmp3 x.cu y.cu=p at *
 generalize cmp3 x.cr y.cr=q at *
 generalize cmp3 x.de y.de=r at *
 go_enter Tryz.func101,Tryz.ntmps101
 go_wp2_with fail
 have hW:((w.alloc (.cells #[.int .u8 x.cr,.int .u8 x.de,.int .u8 x.cu,.int .i64 x.li,.int .i64 x.db] 71)).alloc (.cells #[.int .u8 y.cr,.int .u8 y.de,.int .u8 y.cu,.int .i64 y.li,.int .i64 y.db] 71)).heap.size=w.heap.size + 2:=by simp
 have KX:=Lib.hid ((Blk.new w #[.int .u8 x.cr,.int .u8 x.de,.int .u8 x.cu,.int .i64 x.li,.int .i64 x.db] 71).alloc (.cells #[.int .u8 y.cr,.int .u8 y.de,.int .u8 y.cu,.int .i64 y.li,.int .i64 y.db] 71))
 have KY:=Lib.hid (Blk.newAt (w.alloc (.cells #[.int .u8 x.cr,.int .u8 x.de,.int .u8 x.cu,.int .i64 x.li,.int .i64 x.db] 71)) #[.int .u8 y.cr,.int .u8 y.de,.int .u8 y.cu,.int .i64 y.li,.int .i64 y.db] 71 (g:=w.heap.size + 1) (by simp))
 have HW:=Lib.hid hW
 have HG:=Lib.hid (fun c q=>grow_three w (.cells #[.int .u8 x.cr,.int .u8 x.de,.int .u8 x.cu,.int .i64 x.li,.int .i64 x.db] 71) (.cells #[.int .u8 y.cr,.int .u8 y.de,.int .u8 y.cu,.int .i64 y.li,.int .i64 y.db] 71) c q)
 generalize ((w.alloc (.cells #[.int .u8 x.cr,.int .u8 x.de,.int .u8 x.cu,.int .i64 x.li,.int .i64 x.db] 71)).alloc (.cells #[.int .u8 y.cr,.int .u8 y.de,.int .u8 y.cu,.int .i64 y.li,.int .i64 y.db] 71))=W at KX KY HW HG ⊢
 clear hW
 refine region_inv (by kernel_rfl) [(.pointer (some ⟨w.heap.size,2,none⟩)),(.int .u8 x.cu),(.pointer (some ⟨w.heap.size + 1,2,none⟩)),(.int .u8 y.cu),(.int .i64 p),(.pointer (some ⟨w.heap.size,0,none⟩)),(.int .u8 x.cr),(.pointer (some ⟨w.heap.size + 1,0,none⟩)),(.int .u8 y.cr),(.int .i64 q),(.pointer (some ⟨w.heap.size,1,none⟩)),(.int .u8 x.de),(.pointer (some ⟨w.heap.size + 1,1,none⟩)),(.int .u8 y.de),(.int .i64 r),(.slice (some ⟨w.heap.size + 2,0,none⟩) 3 3),(.int .i64 (or3 p q r)),(.int .i64 (or3 p q r))]
  (OrdAt W (.cells #[.int .i64 p,.int .i64 q,.int .i64 r] 3)) (by kernel_rfl) ⟨1,rfl⟩ ?_
 intro af haf
 simp only [puts,Act.put,List.getD_cons_zero,List.getD_cons_succ,List.setIfInBounds_toArray,List.set_cons_succ,List.set_cons_zero] at haf
 subst haf
 refine ⟨?_,?_⟩
 ·simp only [EachIn]
  refine ⟨?_,?_,?_,?_,?_,?_,?_,?_,?_,?_,?_,?_,?_,?_,?_,?_,?_,?_,trivial⟩
  ·intro D w' hD hWt hC hI
   have hS:=hI.below
   have HI:=Lib.hid (hI.step (k:=0) (by decide))
   clear hS hI hC hWt hD
   refine OpTo.plain ?_ ?_
   exact rfl
   go_wp2_with fail
   all_goals first | exact HI.out | exact ⟨rfl,HI.out⟩ | rfl
  ·intro D w' hD hWt hC hI
   have hS:=hI.below
   have HI:=Lib.hid (hI.step (k:=1) (by decide))
   have hl:=Nat.lt_of_lt_of_le KX.out.lt hS.size
   have kk:=KX.out.below hS KX.out.lt
   have d0:=kk.cell 0; have d1:=kk.cell 1; have d2:=kk.cell 2
   simp at d0 d1 d2
   clear kk
   clear hS hI hC hWt hD
   refine OpTo.plain ?_ ?_
   exact rfl
   go_wp2_with fail
   all_goals first | exact HI.out | exact ⟨rfl,HI.out⟩ | rfl
  ·intro D w' hD hWt hC hI
   have hS:=hI.below
   have HI:=Lib.hid (hI.step (k:=2) (by decide))
   clear hS hI hC hWt hD
   refine OpTo.plain ?_ ?_
   exact rfl
   go_wp2_with fail
   all_goals first | exact HI.out | exact ⟨rfl,HI.out⟩ | rfl
  ·intro D w' hD hWt hC hI
   have hS:=hI.below
   have HI:=Lib.hid (hI.step (k:=3) (by decide))
   have hl:=Nat.lt_of_lt_of_le KY.out.lt hS.size
   have kk:=KY.out.below hS KY.out.lt
   have d0:=kk.cell 0; have d1:=kk.cell 1; have d2:=kk.cell 2
   simp at d0 d1 d2
   clear kk
   clear hS hI hC hWt hD
   refine OpTo.plain ?_ ?_
   exact rfl
   go_wp2_with fail
   all_goals first | exact HI.out | exact ⟨rfl,HI.out⟩ | rfl
  ·intro D w' hD hWt hC hI
   have hS:=hI.below
   have HI:=Lib.hid (hI.step (k:=4) (by decide))
   clear hS hI hC hWt hD
   refine OpTo.plain ?_ ?_
   exact rfl
   go_wp2_with fail
   refine (c1.out w').mono ?_
   rintro e w'' ⟨rfl,rfl⟩
   exact ⟨rfl,HI.out⟩
  ·intro D w' hD hWt hC hI
   have hS:=hI.below
   have HI:=Lib.hid (hI.step (k:=5) (by decide))
   clear hS hI hC hWt hD
   refine OpTo.plain ?_ ?_
   exact rfl
   go_wp2_with fail
   all_goals first | exact HI.out | exact ⟨rfl,HI.out⟩ | rfl
  ·intro D w' hD hWt hC hI
   have hS:=hI.below
   have HI:=Lib.hid (hI.step (k:=6) (by decide))
   have hl:=Nat.lt_of_lt_of_le KX.out.lt hS.size
   have kk:=KX.out.below hS KX.out.lt
   have d0:=kk.cell 0; have d1:=kk.cell 1; have d2:=kk.cell 2
   simp at d0 d1 d2
   clear kk
   clear hS hI hC hWt hD
   refine OpTo.plain ?_ ?_
   exact rfl
   go_wp2_with fail
   all_goals first | exact HI.out | exact ⟨rfl,HI.out⟩ | rfl
  ·intro D w' hD hWt hC hI
   have hS:=hI.below
   have HI:=Lib.hid (hI.step (k:=7) (by decide))
   clear hS hI hC hWt hD
   refine OpTo.plain ?_ ?_
   exact rfl
   go_wp2_with fail
   all_goals first | exact HI.out | exact ⟨rfl,HI.out⟩ | rfl
  ·intro D w' hD hWt hC hI
   have hS:=hI.below
   have HI:=Lib.hid (hI.step (k:=8) (by decide))
   have hl:=Nat.lt_of_lt_of_le KY.out.lt hS.size
   have kk:=KY.out.below hS KY.out.lt
   have d0:=kk.cell 0; have d1:=kk.cell 1; have d2:=kk.cell 2
   simp at d0 d1 d2
   clear kk
   clear hS hI hC hWt hD
   refine OpTo.plain ?_ ?_
   exact rfl
   go_wp2_with fail
   all_goals first | exact HI.out | exact ⟨rfl,HI.out⟩ | rfl
  ·intro D w' hD hWt hC hI
   have hS:=hI.below
   have HI:=Lib.hid (hI.step (k:=9) (by decide))
   clear hS hI hC hWt hD
   refine OpTo.plain ?_ ?_
   exact rfl
   go_wp2_with fail
   refine (c2.out w').mono ?_
   rintro e w'' ⟨rfl,rfl⟩
   exact ⟨rfl,HI.out⟩
  ·intro D w' hD hWt hC hI
   have hS:=hI.below
   have HI:=Lib.hid (hI.step (k:=10) (by decide))
   clear hS hI hC hWt hD
   refine OpTo.plain ?_ ?_
   exact rfl
   go_wp2_with fail
   all_goals first | exact HI.out | exact ⟨rfl,HI.out⟩ | rfl
  ·intro D w' hD hWt hC hI
   have hS:=hI.below
   have HI:=Lib.hid (hI.step (k:=11) (by decide))
   have hl:=Nat.lt_of_lt_of_le KX.out.lt hS.size
   have kk:=KX.out.below hS KX.out.lt
   have d0:=kk.cell 0; have d1:=kk.cell 1; have d2:=kk.cell 2
   simp at d0 d1 d2
   clear kk
   clear hS hI hC hWt hD
   refine OpTo.plain ?_ ?_
   exact rfl
   go_wp2_with fail
   all_goals first | exact HI.out | exact ⟨rfl,HI.out⟩ | rfl
  ·intro D w' hD hWt hC hI
   have hS:=hI.below
   have HI:=Lib.hid (hI.step (k:=12) (by decide))
   clear hS hI hC hWt hD
   refine OpTo.plain ?_ ?_
   exact rfl
   go_wp2_with fail
   all_goals first | exact HI.out | exact ⟨rfl,HI.out⟩ | rfl
  ·intro D w' hD hWt hC hI
   have hS:=hI.below
   have HI:=Lib.hid (hI.step (k:=13) (by decide))
   have hl:=Nat.lt_of_lt_of_le KY.out.lt hS.size
   have kk:=KY.out.below hS KY.out.lt
   have d0:=kk.cell 0; have d1:=kk.cell 1; have d2:=kk.cell 2
   simp at d0 d1 d2
   clear kk
   clear hS hI hC hWt hD
   refine OpTo.plain ?_ ?_
   exact rfl
   go_wp2_with fail
   all_goals first | exact HI.out | exact ⟨rfl,HI.out⟩ | rfl
  ·intro D w' hD hWt hC hI
   have hS:=hI.below
   have HI:=Lib.hid (hI.step (k:=14) (by decide))
   clear hS hI hC hWt hD
   refine OpTo.plain ?_ ?_
   exact rfl
   go_wp2_with fail
   refine (c3.out w').mono ?_
   rintro e w'' ⟨rfl,rfl⟩
   exact ⟨rfl,HI.out⟩
  ·intro D w' hD hWt hC hI
   obtain ⟨t,ht⟩:=hI
   rw [hD] at ht
   have hz:w'.heap.size=w.heap.size + 2:=by rw [ht,← HW.out]; rfl
   have HI:=Lib.hid (show OrdAt W (.cells #[.int .i64 p,.int .i64 q,.int .i64 r] 3) (ins 15 D) (w'.alloc (.cells #[.int .i64 p,.int .i64 q,.int .i64 r] 3)) from ⟨t,by rw [ins_same,if_pos rfl,ht]; rfl⟩)
   clear ht hC hWt hD
   refine OpTo.plain ?_ ?_
   exact rfl
   go_wp2_with fail
   all_goals first | exact HI.out | exact ⟨rfl,HI.out⟩ | exact ⟨by rw [hz],HI.out⟩
  ·intro D w' hD hWt hC hI
   have h15:D 15=true:=waited_done hC hWt (d:=12) (by kernel_rfl)
   obtain ⟨t,ht⟩:=hI
   have KB:Blk w' (w.heap.size + 2) #[.int .i64 p,.int .i64 q,.int .i64 r] 3:=by rw [ht,h15,if_pos rfl]; exact Blk.newAt _ _ _ (by show _=W.heap.size; rw [HW.out])
   have HI:=Lib.hid (OrdAt.step (k:=16) (show OrdAt W (.cells #[.int .i64 p,.int .i64 q,.int .i64 r] 3) D w' from ⟨t,ht⟩) (by decide))
   have HO:=Lib.hid (or_three (w.heap.size + 2) 3 p q r w' KB.lt (KB.cell 0) (KB.cell 1) (KB.cell 2))
   clear ht KB hC hWt hD h15
   refine OpTo.plain ?_ ?_
   exact rfl
   go_wp2_with fail
   refine HO.out.mono ?_
   rintro e w'' ⟨rfl,rfl⟩
   exact ⟨rfl,HI.out⟩
  ·intro D w' hD hWt hC hI
   have hS:=hI.below
   have HI:=Lib.hid (hI.step (k:=17) (by decide))
   clear hS hI hC hWt hD
   refine OpTo.plain ?_ ?_
   exact rfl
   go_wp2_with fail
   all_goals first | exact HI.out | exact ⟨rfl,HI.out⟩ | rfl
 intro D w2 hall hI
 obtain ⟨t,ht⟩:=hI
 rw [hall 15 (by decide),if_pos rfl] at ht
 have HE:=Lib.hid (show ∃ q os',w2=grow (w.drewN q) os' from by rw [ht]; exact HG.out _ t)
 clear ht hall
 go_wp2_with fail
 go_ret
 exact ⟨rfl,HE.out⟩
theorem sortL_any {w:World} {base:Nat} {v:Value} {done ls:List Ln} (hI:Inv ls) (hp:done.Perm ls) (hl:ls.length≤64) (h:w.ownsRow base 71 5 v done.length (lnCells done)) :
  Calls Tryz.prog 100 #[v,.func (.func 101) #[] #[]] w fun e w'=>e=.returned (.tuple #[])∧w'.ownsRow base 71 5 v ls.length (lnCells ls)∧Keep (fun b=>v.ownBlock=some b) w w':=by
 have hlen:=hp.length_eq
 rcases h.2 with ⟨rfl,h0⟩ | ⟨g,cap,cur,rfl,hbase,hb,h1,h2,h3,h4⟩
 ·rw [h0] at hlen
  have:ls=[]:=List.eq_nil_of_length_eq_zero hlen.symm
  subst this
  refine (AnyF.slices_SortFunc_none { sortL with } none 0 (.func (.func 101) #[] #[]) w).mono ?_
  rintro e w' ⟨rfl,rfl⟩
  exact ⟨rfl,World.ownsRow_nil _ _ _ _,Keep.refl _ _⟩
 ·have hg:g<w.heap.size:=(Array.getElem?_eq_some_iff.1 hb).1
  have eg:∀ args w,(callFunc 101 args).run Tryz.prog w=.ok (.enter 101 args) w:=enters_of Tryz.func101 (by kernel_rfl) rfl
  have hcmp:CmpLays Tryz.prog 101 #[] Ln.vals 5 ordL g 0 done.toArray.size w:=fun m os dk _ x y=>order_any x y _
  have hc:=AnyQ.slices_SortFunc (P:=Tryz.prog) sortL 5 Tryz.isAgg71 Tryz.sizeOf71 Ln.vals (fun _=>rfl) (fun x u hu=>by simp [Ln.vals] at hu; rcases hu with rfl | rfl | rfl | rfl | rfl <;> rfl) ordL swoL 101 #[] g 0 cap done.toArray w eg hcmp (holds_lines hb h4) hg (by simp; omega)
  have hsz:done.toArray.size=done.length:=by simp
  rw [hsz] at hc
  refine Calls.mono hc ?_
  rintro e w' ⟨rfl,d,n,os,hp1,hs1,rfl⟩
  have hd:=sorted_is hI hp d (by rw [hsz]; exact hp1) (by rw [hsz]; exact hs1)
  have hda:d=ls.toArray:=by rw [← hd]
  subst hda
  refine ⟨rfl,⟨lnCells_len ls,.inr ⟨g,cap,_,by rw [hlen],hbase,heap_lines _ hb,by omega,h2,by simp [putCells,h3],take_lines cur ls (by omega)⟩⟩,(keep_lines _).mono fun k _ hk=>by rw [hk]; rfl⟩
end Go.Proofs.YtngnfdnfpiiclaaGreat
namespace Go.Proofs.YtngnfdnfpiiclaaGreat
open Go.RowKit
theorem clipL_any {w:World} {base:Nat} {v:Value} {n:Nat} {xs:List Value} (h:w.ownsRow base 71 5 v n xs) :
  Calls Tryz.prog 102 #[v] w (ClipPost w base 71 5 n v xs):=by
 rcases h.2 with ⟨rfl,h0⟩ | ⟨g,cap,cur,rfl,hbase,hb,h1,h2,h3,h4⟩
 ·subst h0
  have hr:=run_slice_clip_none (P:=Tryz.prog) w 42 71 5 Tryz.underlying42 (Tryz.sizeOf71 w)
  have hx:=h.1
  have hx2:=Lib.hid hx
  clear h hx
  go_enter Tryz.func102,Tryz.ntmps102
  go_wp2
  refine bodyPost_ret (v:=.slice none 0 0) (by simp [results,Tryz.results102,go_sem]) rfl ?_
  exact ⟨_,rfl,⟨hx2.out,.inl ⟨rfl,rfl⟩⟩,rfl,rfl⟩
 ·have hr:=run_slice_clip (P:=Tryz.prog) w 42 71 5 Tryz.underlying42 (Tryz.sizeOf71 w) g n cap h1
  have HR:=Lib.hid (show Rowed w base 71 5 (.slice (some ⟨g,0,none⟩) n n) n xs from ⟨h.1,.inr ⟨g,cur,rfl,hbase,hb,by omega,by omega,h4⟩⟩)
  clear h hb h4 h3
  unfold maxLen at h2
  go_enter Tryz.func102,Tryz.ntmps102
  go_wp2
  refine bodyPost_ret (v:=.slice (some ⟨g,0,none⟩) n n) (by simp [results,Tryz.results102,go_sem]) rfl ?_
  exact ⟨_,rfl,HR.out,rfl,rfl⟩
theorem clipP_any {w:World} {base:Nat} {v:Value} {n:Nat} {xs:List Value} (h:w.ownsRow base 68 1 v n xs) :
  Calls Tryz.prog 97 #[v] w (ClipPost w base 68 1 n v xs):=by
 rcases h.2 with ⟨rfl,h0⟩ | ⟨g,cap,cur,rfl,hbase,hb,h1,h2,h3,h4⟩
 ·subst h0
  have hr:=run_slice_clip_none (P:=Tryz.prog) w 41 68 1 Tryz.underlying41 (Tryz.sizeOf68 w)
  have hx2:=Lib.hid h.1
  clear h
  go_enter Tryz.func97,Tryz.ntmps97
  go_wp2
  refine bodyPost_ret (v:=.slice none 0 0) (by simp [results,Tryz.results97,go_sem]) rfl ?_
  exact ⟨_,rfl,⟨hx2.out,.inl ⟨rfl,rfl⟩⟩,rfl,rfl⟩
 ·have hr:=run_slice_clip (P:=Tryz.prog) w 41 68 1 Tryz.underlying41 (Tryz.sizeOf68 w) g n cap h1
  have HR:=Lib.hid (show Rowed w base 68 1 (.slice (some ⟨g,0,none⟩) n n) n xs from ⟨h.1,.inr ⟨g,cur,rfl,hbase,hb,by omega,by omega,h4⟩⟩)
  clear h hb h4 h3
  unfold maxLen at h2
  go_enter Tryz.func97,Tryz.ntmps97
  go_wp2
  refine bodyPost_ret (v:=.slice (some ⟨g,0,none⟩) n n) (by simp [results,Tryz.results97,go_sem]) rfl ?_
  exact ⟨_,rfl,HR.out,rfl,rfl⟩
def LinesAt (w:World) (M:Nat) (ls:List Ln) (s:Value) (wr:World):Prop :=
 ∃ done,RangeIs wr M w.heap.size ls done∧wr.ownsRow (w.heap.size + 1) 71 5 s done.length (lnCells done)∧Below w.heap.size w wr
set_option maxHeartbeats 4000000 in
set_option maxRecDepth 100000 in
theorem plines_any {w:World} {G M:Nat} {ps:List Int} {ls:List Ln} (h:LedM w G M ps ls) (hI:LInv ps ls) :
  Calls Tryz.prog 58 #[.pointer (some ⟨G,0,none⟩)] w (ListPost w 71 5 ls.length (lnCells ls)):=by
 have C1:=Lib.hid (all_any h.blk)
 have HM:=Lib.hid h.map
 have HI:=Lib.hid hI
 clear h hI
 go_enter Tryz.func58,Tryz.ntmps58
 go_wp2_with fail
 refine C1.out.mono ?_
 rintro e w ⟨rfl,rfl⟩
 have hMlt:=HM.out.lt
 go_wp2_with (first | (at_range; refine wpList_range_lines rfl _ rfl M ls rfl HM.out ?_; intro w0 hr0 hb0) | go_in)
 go_frame
 go_loopw [3] (LinesAt w M ls) (fun _ wr=>leftMN wr M w.heap.size)
 case atStart=>exact ⟨[],hr0,World.ownsRow_nil _ _ _ _,hb0⟩
 case round =>
  obtain ⟨done,hR,hown,hB⟩:=hrel
  have hlen:=hR.len
  have hleft:=hR.left
  have hl64:=HI.out.len
  have HR:=Lib.hid hR
  have HB:=Lib.hid hB
  have HO:=Lib.hid hown
  clear hR hB hown
  go_wp2_with (first | (at_next; refine wpList_next_lines rfl _ rfl M w.heap.size ls done rfl HR.out ?_ ?_) | go_in)
  ·intro hd
   have CS:=Lib.hid (sortL_any HI.out.inv hd HI.out.len HO.out)
   clear hd
   go_wp2_with fail
   refine CS.out.mono ?_
   rintro e w2 ⟨rfl,ho2,hk2⟩
   have hB2:=Lib.hid (HB.out.trans (hk2.below HB.out.size (fun k hk he=>by have:=(owns_type HO.out he).1; omega)))
   have CC:=Lib.hid (clipL_any ho2)
   clear ho2 hk2 CS
   go_wp2_with fail
   refine CC.out.mono ?_
   rintro e w3 ⟨v',rfl,hrow,_,rfl⟩
   have HRow:=Lib.hid hrow
   clear hrow CC
   go_wp2_with fail
   refine bodyPost_ret (v:=v') (by simp [results,Tryz.results58,go_sem]) rfl ?_
   exact ⟨v',rfl,HRow.out.base (Nat.le_succ _),hB2.out⟩
  ·intro x w1 hx hR1 hT hen
   have hb1:=HB.out.trans (hT.below (Nat.le_refl _))
   have hO1:=owns_keep HO.out hT.keep (fun b hb e=>by have:=(owns_type HO.out hb).1; omega)
   have hb2:=((Below.refl w1.heap.size w1).alloc (Nat.le_refl _) (.cells #[.int .u8 x.cr,.int .u8 x.de,.int .u8 x.cu] 188)).alloc (by simp) (.cells #[.int .i64 x.li,.int .i64 x.db] 190)
   have CP:=Lib.hid (fun w=>pline_any x w)
   have HR1:=Lib.hid hR1
   have HB1:=Lib.hid hb1
   have HO1:=Lib.hid hO1
   have HB2:=Lib.hid hb2
   clear hx hR1 hT hb1 hO1 hb2
   go_wp2_with fail
   refine (CP.out _).mono ?_
   rintro e w3 ⟨rfl,hb3⟩
   have HB3:=Lib.hid (HB2.out.trans (hb3.mono HB2.out.size))
   have HO3:=Lib.hid (owns_below HO1.out HB3.out)
   have HR3:=Lib.hid (HR1.out.below HB3.out)
   have hz3:=Nat.lt_of_lt_of_le HR1.out.lt HB3.out.size
   clear hb3 hen
   go_wp2_with (at_builtin; refine wpList_append_line _ rfl (.tmp 14) (.tmp 18) rfl (w.heap.size + 1) _ done rfl (HO3.out.alloc _) _ _ x rfl (Blk.new _ _ _) (by omega) (by simp; omega) ?_)
   intro v4 w4 hown4 hgr4
   have R2:∀ k,Value.ownBlock _=some k→w.heap.size + 1≤k:=fun k hk=>(owns_type HO3.out hk).1
   have K4:=Lib.hid (((Keep.of_below (S:=fun b=>w.heap.size + 1≤b) (Below.refl w3.heap.size w3)).alloc (.cells #[.int .u8 x.cr,.int .u8 x.de,.int .u8 x.cu,.int .i64 x.li,.int .i64 x.db] 71)).grown hgr4 (fun k hk=>.inl (R2 k hk)))
   have O4:=Lib.hid (show w4.ownsRow (w.heap.size + 1) 71 5 v4 (done++[x]).length (lnCells (done++[x])) by simpa using hown4)
   have HR4:=Lib.hid (HR3.out.keep K4.out (by omega) (by omega))
   have HB4:=Lib.hid ((HB1.out.trans (HB3.out.mono HB1.out.size)).trans (K4.out.below (B:=w.heap.size) (by omega) (fun k hk he=>by omega)))
   have hleft4:=HR4.out.left
   rw [List.length_append,List.length_singleton] at hleft4
   clear R2 hown4 hgr4 hz3
   go_wp2_with fail
   go_roundw
   case rel=>exact ⟨done++[x],HR4.out,O4.out,HB4.out⟩
   case measure=>omega
end Go.Proofs.YtngnfdnfpiiclaaGreat
namespace Go.Proofs.YtngnfdnfpiiclaaGreat
open Go.RowKit
theorem open_all {ps:List Int} (hb:∀ p ∈ ps,1≤p∧p≤16) (hr:ps.Pairwise (·<·)):openTo ps 0 17=ps:=by
 refine rise_ext _ _ (openTo_rise ps 0 17) hr fun x=>?_
 rw [openTo_mem]
 constructor
 ·rintro ⟨h1,h2 | h2⟩
  ·omega
  ·exact h2
 ·intro h
  exact ⟨hb x h,.inr h⟩
def PartiesAt (ps:List Int) (w:World) (v q:Value) (wr:World):Prop :=
 ∃ k:Nat,1≤k∧k≤17∧q=.int .u8 k∧wr.ownsRow w.heap.size 68 1 v (openTo ps 0 k).length ((openTo ps 0 k).map (.int .u8))∧Below w.heap.size w wr
set_option maxHeartbeats 4000000 in
set_option maxRecDepth 100000 in
theorem pparties_any {w:World} {G M:Nat} {ps:List Int} {ls:List Ln} (h:LedM w G M ps ls) (hI:LInv ps ls) :
  Calls Tryz.prog 57 #[.pointer (some ⟨G,0,none⟩)] w (ListPost w 68 1 ps.length (ps.map (.int .u8))):=by
 have H:=Lib.hid h
 have HI:=Lib.hid hI
 have c:=Lib.hid (fun (w':World) (k:Below w.heap.size w w') (q:Int)=>has_any (h.below k).blk hI.bd q)
 have HE:=Lib.hid (open_all hI.bd hI.rise)
 clear h hI
 go_enter Tryz.func57,Tryz.ntmps57
 go_wp2_with fail
 go_loopw [3,4] (PartiesAt ps w) (fun _ q _=>17 - (intOf q).toNat)
 case atStart=>exact ⟨1,by omega,by omega,rfl,World.ownsRow_nil _ _ _ _,Below.refl _ _⟩
 case round =>
  obtain ⟨k,hk0,hk,rfl,hown,hb⟩:=hrel
  have hl:=openTo_len ps 0 k
  have O0:=Lib.hid hown; have B0:=Lib.hid hb
  have hz:=hb.size
  clear hown hb
  by_cases hkl:k≤16
  ·have N:=Lib.hid (openTo_next ps 0 k hk0)
   have cq:=Lib.hid (c.out _ B0.out (k:Int))
   have hk1:(k:Int)≤16:=by omega
   have s1:((k:Int)==0)=false:=by simp; omega
   by_cases s2:(k:Int) ∈ ps
   ·have N2:Hid (openTo ps 0 (k + 1)=openTo ps 0 k++[(k:Int)]):=Lib.hid (by rw [N.out,s1,decide_eq_true s2]; rfl)
    rw [decide_eq_true s2] at cq
    clear N s2 s1
    generalize openTo ps 0 k=out at *
    have hl2:out.length≤100000:=by omega
    go_wp2_with fail
    refine cq.out.mono ?_
    rintro e wr ⟨rfl,rfl⟩
    go_wp2_with (at_builtin; refine wpList_append_party _ rfl (.tmp 12) (.tmp 14) rfl w.heap.size _ out rfl (O0.out.alloc _) _ _ (k:Int) rfl (Blk.new _ _ _) hl2 (by simp; omega) ?_)
    intro v3 w3 hown3 hgr3
    have R2:∀ k,Value.ownBlock _=some k→w.heap.size≤k:=fun k hk=>(owns_type O0.out hk).1
    have B3:=Lib.hid ((B0.out.alloc B0.out.size (.cells #[.int .u8 (k:Int)] 68)).grown hgr3 (by simp; omega) (fun k hk=>R2 k hk))
    have O3:=Lib.hid (show w3.ownsRow w.heap.size 68 1 v3 (out++[(k:Int)]).length ((out++[(k:Int)]).map (.int .u8)) by simpa using hown3)
    clear R2 hown3 hgr3
    go_wp2_with fail
    go_roundw
    case rel=>exact ⟨k + 1,by omega,by omega,by go_num,by rw [N2.out]; exact O3.out,B3.out⟩
    case measure=>simp [intOf]; omega
   ·have N2:Hid (openTo ps 0 (k + 1)=openTo ps 0 k):=Lib.hid (by rw [N.out,s1,decide_eq_false s2]; simp)
    rw [decide_eq_false s2] at cq
    clear N s2 s1
    go_wp2_with fail
    refine cq.out.mono ?_
    rintro e wr ⟨rfl,rfl⟩
    go_wp2_with fail
    go_roundw
    case rel=>exact ⟨k + 1,by omega,by omega,by go_num,by rw [N2.out]; exact O0.out,B0.out⟩
    case measure=>simp [intOf]; omega
  ·obtain rfl:k=17:=by omega
   rw [HE.out] at O0
   have CC:=Lib.hid (clipP_any O0.out)
   clear hl hk0 hk hkl
   go_wp2_with fail
   refine CC.out.mono ?_
   rintro e w3 ⟨v',rfl,hrow,_,rfl⟩
   have HRow:=Lib.hid hrow
   clear hrow CC
   go_wp2_with fail
   refine bodyPost_ret (v:=v') (by simp [results,Tryz.results57,go_sem]) rfl ?_
   exact ⟨v',rfl,HRow.out,B0.out⟩
end Go.Proofs.YtngnfdnfpiiclaaGreat
namespace Go.Proofs.YtngnfdnfpiiclaaGreat
open Go.RowKit
set_option maxHeartbeats 2000000 in
set_option maxRecDepth 100000 in
theorem clone_any {w:World} {b:Nat} {es:Array MapEntry} {clock:Nat} (hb:w.heap[b]? = some (.map es clock)) :
  Calls Tryz.prog 112 #[.map (some b)] w fun e w'=>e=.returned (.map (some w.heap.size))∧w'=w.alloc (.map es clock):=by
 have hq:=fun w=>Go.Proofs.run_eql_map_nil_sl (P:=Tryz.prog) w 152 _ _ (some b) Tryz.underlying152
 go_enter Tryz.func112,Tryz.ntmps112
 go_wp2
 rw [run_callFunc_extern Tryz.func150 (by kernel_rfl) (by kernel_rfl) (by kernel_rfl) (e:=Extern.MapsClone.clone) (by kernel_rfl),Go.Proofs.run_maps_clone_sl w 152 hb]
 simp only [Result.andThen]
 rw [Oper.upon_value]
 go_wp2
 rw [Go.Proofs.run_typeAssert_map_sl _ 152 20 _ _ _ Tryz.underlying152]
 simp only [Result.andThen]
 rw [Oper.upon_value]
 go_wp2
 go_ret
 exact ⟨rfl,rfl⟩
def parC (ps:List Int):List Value:=((ledC ps (.map none)).toList.take 17)
theorem parC_len (ps:List Int):(parC ps).length=17:=by simp [parC,ledC_size]
theorem parC_get (ps:List Int) {j:Nat} (h:j<17):(parC ps)[j]? = some (.bool (decide ((j:Int) ∈ ps))):=by
 unfold parC
 rw [List.getElem?_take_of_lt h,Array.getElem?_toList,ledC_has _ _ _ h]
theorem ledC_par (ps:List Int) (v:Value):(parC ps++[v]).toArray=ledC ps v:=by
 apply Array.ext_getElem?
 intro j
 rw [List.getElem?_toArray]
 by_cases h:j<17
 ·rw [List.getElem?_append_left (by rw [parC_len]; exact h),parC_get _ h,ledC_has _ _ _ h]
 ·by_cases h2:j=17
  ·subst h2
   rw [ledC_map,List.getElem?_append_right (by rw [parC_len]; omega),parC_len]
   rfl
  ·rw [Array.getElem?_eq_none (by rw [ledC_size]; omega),List.getElem?_eq_none (by simp [parC_len]; omega)]
theorem par_range {w:World} {g:Nat} {ps:List Int} {v:Value} {t:TypeId} (h:Blk w g (ledC ps v) t):w.rangeAt g 0 (parC ps):=by
 intro j u hu
 have hj:j<17:=by
  rcases Nat.lt_or_ge j 17 with h' | h'
  ·exact h'
  ·rw [List.getElem?_eq_none (by rw [parC_len]; exact h')] at hu; cases hu
 rw [Nat.zero_add,h.cell j,ledC_has _ _ _ hj,← parC_get ps hj]
 exact hu
theorem par_form (ps:List Int):∃ b0 b1 b2 b3 b4 b5 b6 b7 b8 b9 b10 b11 b12 b13 b14 b15 b16:Bool,parC ps=[Value.bool b0,Value.bool b1,Value.bool b2,Value.bool b3,Value.bool b4,Value.bool b5,Value.bool b6,Value.bool b7,Value.bool b8,Value.bool b9,Value.bool b10,Value.bool b11,Value.bool b12,Value.bool b13,Value.bool b14,Value.bool b15,Value.bool b16]:=by
 have h:=parC_len ps
 refine ⟨decide ((0:Int) ∈ ps),decide ((1:Int) ∈ ps),decide ((2:Int) ∈ ps),decide ((3:Int) ∈ ps),decide ((4:Int) ∈ ps),decide ((5:Int) ∈ ps),decide ((6:Int) ∈ ps),decide ((7:Int) ∈ ps),decide ((8:Int) ∈ ps),decide ((9:Int) ∈ ps),decide ((10:Int) ∈ ps),decide ((11:Int) ∈ ps),decide ((12:Int) ∈ ps),decide ((13:Int) ∈ ps),decide ((14:Int) ∈ ps),decide ((15:Int) ∈ ps),decide ((16:Int) ∈ ps),?_⟩
 apply List.ext_getElem?
 intro j
 by_cases hj:j<17
 ·rw [parC_get ps hj]
  match j,hj with
  | 0,_=>rfl
  | 1,_=>rfl
  | 2,_=>rfl
  | 3,_=>rfl
  | 4,_=>rfl
  | 5,_=>rfl
  | 6,_=>rfl
  | 7,_=>rfl
  | 8,_=>rfl
  | 9,_=>rfl
  | 10,_=>rfl
  | 11,_=>rfl
  | 12,_=>rfl
  | 13,_=>rfl
  | 14,_=>rfl
  | 15,_=>rfl
  | 16,_=>rfl
  | n + 17,h=>omega
 ·rw [List.getElem?_eq_none (by omega),List.getElem?_eq_none (by simp; omega)]
theorem build_led (ps:List Int) (m:Nat) (w:World):(Instr.build 155 #[(0,.agg (parC ps).toArray),(1,.map (some m))]).run Tryz.prog w=.ok (.agg (ledC ps (.map (some m)))) w:=by
 rw [← ledC_par]
 obtain ⟨b0,b1,b2,b3,b4,b5,b6,b7,b8,b9,b10,b11,b12,b13,b14,b15,b16,hb⟩:=par_form ps
 rw [hb]
 have h:(Instr.build 155 #[(0,.agg [Value.bool b0,Value.bool b1,Value.bool b2,Value.bool b3,Value.bool b4,Value.bool b5,Value.bool b6,Value.bool b7,Value.bool b8,Value.bool b9,Value.bool b10,Value.bool b11,Value.bool b12,Value.bool b13,Value.bool b14,Value.bool b15,Value.bool b16].toArray),(1,.map (some m))]).run Tryz.prog=fun w=>.ok (.agg ([Value.bool b0,Value.bool b1,Value.bool b2,Value.bool b3,Value.bool b4,Value.bool b5,Value.bool b6,Value.bool b7,Value.bool b8,Value.bool b9,Value.bool b10,Value.bool b11,Value.bool b12,Value.bool b13,Value.bool b14,Value.bool b15,Value.bool b16]++[Value.map (some m)]).toArray) w:=by
  kernel_rfl
 rw [h]
def CopyAt (W:World) (o:Obj) (C:Array Value) (T:TypeId) (D:Nat→Bool) (w:World):Prop :=
 Below W.heap.size W w∧w.heap.size=W.heap.size + ((if D 8=true then 1 else 0) + (if D 10=true then 1 else 0))∧(D 8=true→w.heap[W.heap.size]? = some o)∧(D 10=true→w.heap[W.heap.size + 1]? = some (.cells C T))
theorem CopyAt.step {W w:World} {o:Obj} {C:Array Value} {T:TypeId} {D:Nat→Bool} {k:Nat} (h:CopyAt W o C T D w) (h8:k≠8) (h10:k≠10):CopyAt W o C T (ins k D) w:=by
 unfold CopyAt
 rw [ins_ne D (Ne.symm h8),ins_ne D (Ne.symm h10)]
 exact h
def CopyMPost (w:World) (ps:List Int) (ls:List Ln) (e:Ending) (w':World):Prop :=
 ∃ g' m',e=.returned (.pointer (some ⟨g',0,none⟩))∧LedM w' g' m' ps ls∧w.heap.size≤g'∧w.heap.size≤m'∧Below w.heap.size w w'
set_option maxHeartbeats 4000000 in
set_option maxRecDepth 100000 in
theorem pcopy_any {w:World} {G M:Nat} {ps:List Int} {ls:List Ln} (h:LedM w G M ps ls) :
  Calls Tryz.prog 76 #[.pointer (some ⟨G,0,none⟩)] w (CopyMPost w ps ls):=by
 have C1:=Lib.hid (made_any h.blk)
 have HBk:=Lib.hid h.blk
 obtain ⟨ms,⟨es,clock,hes,hst,hkv⟩,hperm⟩:=h.map
 have HM:=Lib.hid hes
 have HN:Hid (∀ w',w'.heap[w.heap.size]? = some (.map es clock)→MapIs w' w.heap.size ls):=Lib.hid fun w' hw=>⟨ms,⟨es,clock,hw,hst,hkv⟩,hperm⟩
 have hMlt:M<w.heap.size:=h.map.lt
 clear h hes hst hkv hperm
 go_enter Tryz.func76,Tryz.ntmps76
 go_wp2_with fail
 refine C1.out.mono ?_
 rintro e w ⟨rfl,rfl⟩
 go_wp2_with fail
 refine region_inv (by kernel_rfl) [(.pointer (some ⟨G,0,none⟩)),(.pointer (some ⟨G,0,none⟩)),(.pointer (some ⟨G,0,none⟩)),(.agg (parC ps).toArray),(.pointer (some ⟨G,0,none⟩)),(.pointer (some ⟨G,0,none⟩)),(.pointer (some ⟨G,17,none⟩)),(.map (some M)),(.map (some w.heap.size)),(.agg (ledC ps (.map (some w.heap.size)))),(.pointer (some ⟨w.heap.size + 1,0,none⟩)),(.pointer (some ⟨w.heap.size + 1,0,none⟩))]
  (CopyAt w (.map es clock) (ledC ps (.map (some w.heap.size))) 155) (by kernel_rfl) ⟨(Below.refl _ _).drew,by simp,by simp,by simp⟩ ?_
 intro af haf
 simp only [puts,Act.put,List.getD_cons_zero,List.getD_cons_succ,List.setIfInBounds_toArray,List.set_cons_succ,List.set_cons_zero] at haf
 subst haf
 refine ⟨?_,?_⟩
 ·simp only [EachIn]
  refine ⟨?_,?_,?_,?_,?_,?_,?_,?_,?_,?_,?_,?_,trivial⟩
  ·intro D w' hD hWt hC hI
   have hS:=hI.1
   have HI:=Lib.hid (hI.step (k:=0) (by decide) (by decide))
   have kb:=HBk.out.below hS HBk.out.lt
   have hl:=kb.lt
   have d:=kb.ledMap
   clear hS hI hC hWt hD kb
   refine OpTo.plain ?_ ?_
   exact rfl
   go_wp2_with fail
   all_goals first | exact HI.out | exact ⟨rfl,HI.out⟩ | rfl
  ·intro D w' hD hWt hC hI
   have hS:=hI.1
   have HI:=Lib.hid (hI.step (k:=1) (by decide) (by decide))
   have kb:=HBk.out.below hS HBk.out.lt
   have hl:=kb.lt
   have d:=kb.ledMap
   clear hS hI hC hWt hD kb
   refine OpTo.plain ?_ ?_
   exact rfl
   go_wp2_with fail
   all_goals first | exact HI.out | exact ⟨rfl,HI.out⟩ | rfl
  ·intro D w' hD hWt hC hI
   have hS:=hI.1
   have HI:=Lib.hid (hI.step (k:=2) (by decide) (by decide))
   have kb:=HBk.out.below hS HBk.out.lt
   have hl:=kb.lt
   have d:=kb.ledMap
   clear hS hI hC hWt hD kb
   refine OpTo.plain ?_ ?_
   exact rfl
   go_wp2_with fail
   all_goals first | exact HI.out | exact ⟨rfl,HI.out⟩ | rfl
  ·intro D w' hD hWt hC hI
   have hS:=hI.1
   have HI:=Lib.hid (hI.step (k:=3) (by decide) (by decide))
   have kb:=HBk.out.below hS HBk.out.lt
   have hl:=kb.lt
   have d:=kb.ledMap
   refine OpTo.plain ?_ ?_
   exact rfl
   refine wp_load_mid 153 (.tmp 8) rfl G 0 rfl (parC ps) _ (par_range kb) Tryz.underlying153 rfl (by rw [parC_len]; kernel_rfl) ?_
   exact ⟨rfl,HI.out⟩
  ·intro D w' hD hWt hC hI
   have hS:=hI.1
   have HI:=Lib.hid (hI.step (k:=4) (by decide) (by decide))
   have kb:=HBk.out.below hS HBk.out.lt
   have hl:=kb.lt
   have d:=kb.ledMap
   clear hS hI hC hWt hD kb
   refine OpTo.plain ?_ ?_
   exact rfl
   go_wp2_with fail
   all_goals first | exact HI.out | exact ⟨rfl,HI.out⟩ | rfl
  ·intro D w' hD hWt hC hI
   have hS:=hI.1
   have HI:=Lib.hid (hI.step (k:=5) (by decide) (by decide))
   have kb:=HBk.out.below hS HBk.out.lt
   have hl:=kb.lt
   have d:=kb.ledMap
   clear hS hI hC hWt hD kb
   refine OpTo.plain ?_ ?_
   exact rfl
   go_wp2_with fail
   all_goals first | exact HI.out | exact ⟨rfl,HI.out⟩ | rfl
  ·intro D w' hD hWt hC hI
   have hS:=hI.1
   have HI:=Lib.hid (hI.step (k:=6) (by decide) (by decide))
   have kb:=HBk.out.below hS HBk.out.lt
   have hl:=kb.lt
   have d:=kb.ledMap
   clear hS hI hC hWt hD kb
   refine OpTo.plain ?_ ?_
   exact rfl
   go_wp2_with fail
   all_goals first | exact HI.out | exact ⟨rfl,HI.out⟩ | rfl
  ·intro D w' hD hWt hC hI
   have hS:=hI.1
   have HI:=Lib.hid (hI.step (k:=7) (by decide) (by decide))
   have kb:=HBk.out.below hS HBk.out.lt
   have hl:=kb.lt
   have d:=kb.ledMap
   clear hS hI hC hWt hD kb
   refine OpTo.plain ?_ ?_
   exact rfl
   go_wp2_with fail
   all_goals first | exact HI.out | exact ⟨rfl,HI.out⟩ | rfl
  ·intro D w' hD hWt hC hI
   have h10:D 10=false:=waits_not hC hD 12 10 (by kernel_rfl)
   obtain ⟨q1,q2,q3,q4⟩:=hI
   rw [hD,h10] at q2
   have hz:w'.heap.size=w.heap.size:=by simpa using q2
   have hc:=clone_any (w:=w') (b:=M) (es:=es) (clock:=clock) (by rw [q1.block M hMlt]; exact HM.out)
   rw [hz] at hc
   have HI:Hid (CopyAt w (.map es clock) (ledC ps (.map (some w.heap.size))) 155 (ins 8 D) (w'.alloc (.map es clock))):=Lib.hid (by
    refine ⟨q1.alloc q1.size _,?_,fun _=>?_,fun d=>?_⟩
    ·rw [ins_same,ins_ne D (by decide),h10]; simp [hz]
    ·rw [← hz]; exact heap_alloc_new _ _
    ·rw [ins_ne D (by decide),h10] at d; cases d)
   have HC:=Lib.hid hc
   clear q1 q2 q3 q4 hc hC hWt hD h10
   refine OpTo.plain ?_ ?_
   exact rfl
   go_wp2_with fail
   refine HC.out.mono ?_
   rintro e w'' ⟨rfl,rfl⟩
   exact ⟨rfl,HI.out⟩
  ·intro D w' hD hWt hC hI
   have hS:=hI.1
   have HI:=Lib.hid (hI.step (k:=9) (by decide) (by decide))
   have kb:=HBk.out.below hS HBk.out.lt
   have hl:=kb.lt
   have d:=kb.ledMap
   refine OpTo.plain ?_ ?_
   exact rfl
   refine wp_build_of 155 #[(0,.tmp 9),(1,.tmp 14)] rfl #[(0,(.agg (parC ps).toArray)),(1,(.map (some w.heap.size)))] (by simp [Act.eval]) _ (build_led ps w.heap.size w') ?_
   exact ⟨rfl,HI.out⟩
  ·intro D w' hD hWt hC hI
   have h8:D 8=true:=waited_done hC hWt (d:=12) (by kernel_rfl)
   obtain ⟨q1,q2,q3,q4⟩:=hI
   rw [hD,h8] at q2
   have hz:w'.heap.size=w.heap.size + 1:=by simpa using q2
   have HI:Hid (CopyAt w (.map es clock) (ledC ps (.map (some w.heap.size))) 155 (ins 10 D) (w'.alloc (.cells (ledC ps (.map (some w.heap.size))) 155))):=Lib.hid (by
    refine ⟨q1.alloc q1.size _,?_,fun d=>?_,fun _=>?_⟩
    ·rw [ins_same,ins_ne D (by decide),h8]; simp [hz]
    ·rw [heap_alloc_old _ _ (by omega)]; exact q3 h8
    ·rw [← hz]; exact heap_alloc_new _ _)
   clear q1 q2 q3 q4 hC hWt hD h8
   refine OpTo.plain ?_ ?_
   exact rfl
   go_wp2_with fail
   all_goals first | exact HI.out | exact ⟨rfl,HI.out⟩ | exact ⟨by rw [hz],HI.out⟩
  ·intro D w' hD hWt hC hI
   have hS:=hI.1
   have HI:=Lib.hid (hI.step (k:=11) (by decide) (by decide))
   have kb:=HBk.out.below hS HBk.out.lt
   have hl:=kb.lt
   have d:=kb.ledMap
   clear hS hI hC hWt hD kb
   refine OpTo.plain ?_ ?_
   exact rfl
   go_wp2_with fail
   all_goals first | exact HI.out | exact ⟨rfl,HI.out⟩ | rfl
 intro D w2 hall hI
 obtain ⟨q1,q2,q3,q4⟩:=hI
 have q3:=q3 (hall 8 (by decide))
 have q4:=q4 (hall 10 (by decide))
 have HE:=Lib.hid (show LedM w2 (w.heap.size + 1) w.heap.size ps ls from ⟨q4,HN.out w2 q3⟩)
 have HB:=Lib.hid q1
 clear q1 q2 q3 q4 hall
 go_wp2_with fail
 refine bodyPost_ret (v:=.pointer (some ⟨w.heap.size + 1,0,none⟩)) (by simp [results,Tryz.results76,go_sem]) rfl ?_
 exact ⟨w.heap.size + 1,w.heap.size,rfl,HE.out,by omega,Nat.le_refl _,HB.out⟩
end Go.Proofs.YtngnfdnfpiiclaaGreat
