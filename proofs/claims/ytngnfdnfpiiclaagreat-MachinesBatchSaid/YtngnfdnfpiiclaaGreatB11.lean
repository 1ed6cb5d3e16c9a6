/- Pieces of one proof. -/
import Derived.Test.YtngnfdnfpiiclaaGreatB10
import Derived.Shelf.SlSortCmp.NoneTotal
import Derived.Shelf.SlMaps.Clone
set_option linter.all false
set_option maxHeartbeats 64000000
set_option maxRecDepth 100000
namespace Go.Proofs.YtngnfdnfpiiclaaGreat
open Go.RowKit Go.Shelf
def sortL_ren:Go.Shelf.Ren:=⟨fun|6=>100|15=>141|14=>140|28=>186|29=>187|20=>178|21=>179|22=>180|23=>181|24=>182|25=>183|26=>184|27=>185|46=>218|47=>219|48=>220|49=>221|50=>222|57=>257|n=>n,fun|22=>42|24=>71|25=>193|3=>3|39=>227|0=>0|53=>278|55=>44|4=>4|46=>271|45=>270|50=>275|5=>5|9=>9|66=>310|70=>313|76=>358|77=>359|n=>n,fun|n=>n⟩
theorem sortL:Go.Proofs.SlLaysF0.n6 Tryz.prog sortL_ren:={
 mixed:=by kernel_rfl
 f6:=⟨Tryz.f100.name,by decide,Tryz.func100.trans (congrArg some (by kernel_rfl))⟩
 f14:=⟨Tryz.f140.name,by decide,Tryz.func140.trans (congrArg some (by kernel_rfl))⟩
 f15:=Tryz.func141.trans (congrArg some (by kernel_rfl))
 f20:=⟨Tryz.f178.name,by decide,Tryz.func178.trans (congrArg some (by kernel_rfl))⟩
 f21:=⟨Tryz.f179.name,by decide,Tryz.func179.trans (congrArg some (by kernel_rfl))⟩
 f22:=⟨Tryz.f180.name,by decide,Tryz.func180.trans (congrArg some (by kernel_rfl))⟩
 f23:=⟨Tryz.f181.name,by decide,Tryz.func181.trans (congrArg some (by kernel_rfl))⟩
 f24:=⟨Tryz.f182.name,by decide,Tryz.func182.trans (congrArg some (by kernel_rfl))⟩
 f25:=⟨Tryz.f183.name,by decide,Tryz.func183.trans (congrArg some (by kernel_rfl))⟩
 f26:=⟨Tryz.f184.name,by decide,Tryz.func184.trans (congrArg some (by kernel_rfl))⟩
 f27:=⟨Tryz.f185.name,by decide,Tryz.func185.trans (congrArg some (by kernel_rfl))⟩
 f28:=Tryz.func186.trans (congrArg some (by kernel_rfl))
 f29:=Tryz.func187.trans (congrArg some (by kernel_rfl))
 f46:=⟨Tryz.f218.name,by decide,Tryz.func218.trans (congrArg some (by kernel_rfl))⟩
 f47:=Tryz.func219.trans (congrArg some (by kernel_rfl))
 f48:=Tryz.func220.trans (congrArg some (by kernel_rfl))
 f49:=⟨Tryz.f221.name,by decide,Tryz.func221.trans (congrArg some (by kernel_rfl))⟩
 f50:=⟨Tryz.f222.name,by decide,Tryz.func222.trans (congrArg some (by kernel_rfl))⟩
 f57:=⟨Tryz.f257.name,by decide,Tryz.func257.trans (congrArg some (by kernel_rfl))⟩
 t0:=Tryz.underlying0
 a0:=Tryz.isAgg0
 z0:=Tryz.sizeOf0
 v0:=Tryz.zeroValue0
 t3:=Tryz.underlying3
 a3:=Tryz.isAgg3
 z3:=Tryz.sizeOf3
 v3:=Tryz.zeroValue3
 t4:=Tryz.underlying4
 a4:=Tryz.isAgg4
 z4:=Tryz.sizeOf4
 v4:=Tryz.zeroValue4
 t5:=Tryz.underlying5
 a5:=Tryz.isAgg5
 z5:=Tryz.sizeOf5
 v5:=Tryz.zeroValue5
 t9:=Tryz.underlying9
 a9:=Tryz.isAgg9
 z9:=Tryz.sizeOf9
 v9:=Tryz.zeroValue9
 t22:=Tryz.underlying42
 a22:=Tryz.isAgg42
 z22:=Tryz.sizeOf42
 v22:=Tryz.zeroValue42
 t25:=Tryz.underlying193
 a25:=Tryz.isAgg193
 z25:=Tryz.sizeOf193
 v25:=Tryz.zeroValue193
 t39:=Tryz.underlying227
 a39:=Tryz.isAgg227
 z39:=Tryz.sizeOf227
 v39:=Tryz.zeroValue227
 t45:=Tryz.underlying270
 a45:=Tryz.isAgg270
 z45:=Tryz.sizeOf270
 v45:=Tryz.zeroValue270
 t46:=Tryz.underlying271
 a46:=Tryz.isAgg271
 z46:=Tryz.sizeOf271
 v46:=Tryz.zeroValue271
 t50:=Tryz.underlying275
 a50:=Tryz.isAgg275
 z50:=Tryz.sizeOf275
 v50:=Tryz.zeroValue275
 t53:=Tryz.underlying278
 a53:=Tryz.isAgg278
 z53:=Tryz.sizeOf278
 v53:=Tryz.zeroValue278
 t55:=Tryz.underlying44
 a55:=Tryz.isAgg44
 z55:=Tryz.sizeOf44
 v55:=Tryz.zeroValue44
 t66:=Tryz.underlying310
 a66:=Tryz.isAgg310
 z66:=Tryz.sizeOf310
 v66:=Tryz.zeroValue310
 t70:=Tryz.underlying313
 a70:=Tryz.isAgg313
 z70:=Tryz.sizeOf313
 v70:=Tryz.zeroValue313
 t76:=Tryz.underlying358
 a76:=Tryz.isAgg358
 z76:=Tryz.sizeOf358
 v76:=Tryz.zeroValue358
 t77:=Tryz.underlying359
 a77:=Tryz.isAgg359
 z77:=Tryz.sizeOf359
 v77:=Tryz.zeroValue359 }
end Go.Proofs.YtngnfdnfpiiclaaGreat
namespace Go.Proofs.YtngnfdnfpiiclaaGreat
open Go.RowKit
end Go.Proofs.YtngnfdnfpiiclaaGreat
namespace Go.Proofs.YtngnfdnfpiiclaaGreat
open Go.RowKit Go.Shelf Go.Sort Go.Lib
instance:Inhabited Ln:=⟨noLn⟩
def cmp3(x y:Int):Int:=if x<y then -1 else if y<x then 1 else 0
def or3(p q r:Int):Int:=if p=0 then(if q=0 then r else q)else p
def ordL(x y:Ln):Int:=or3 (cmp3 x.cu y.cu) (cmp3 x.cr y.cr) (cmp3 x.de y.de)
theorem aPg(x y:Ln):ordL x y<0↔(x.cu<y.cu∨(x.cu=y.cu∧(x.cr<y.cr∨(x.cr=y.cr∧x.de<y.de)))):=by
 unfold ordL or3 cmp3
 (repeat' split) <;> omega
theorem ordL_rank{x y:Ln}(hx:x.Fits)(hy:y.Fits):ordL x y<0↔x.rank<y.rank:=by
 rw[aPg];obtain⟨⟨a1,a2⟩,⟨b1,b2⟩,⟨c1,c2⟩,_,_⟩:=hx;obtain⟨⟨d1,d2⟩,⟨e1,e2⟩,⟨f1,f2⟩,_,_⟩:=hy;unfold Ln.rank;omega
theorem swoL:SWO (ltOf ordL) where
 irrefl x:=by unfold ltOf;rw[decide_eq_false_iff_not,aPg];omega
 trans x y z h1 h2:=by
  unfold ltOf at *;rw[decide_eq_true_eq,aPg]at *;omega
 ntrans x y z h1 h2:=by
  unfold ltOf at *;rw[decide_eq_false_iff_not,aPg]at *;omega
theorem aOh(ls:List Ln){j:Nat}(h:j<ls.length*5):(flatK Ln.vals 5 ls.toArray)[j]! = (aBd ls)[j]'(by rw[aDx];exact h):=by
 rw[get_flatK _ _ _ j (by simpa using h)];have h1:j/5<ls.length:=by omega
 have h2:j%5<5:=Nat.mod_lt _ (by omega);have h3:=aBk ls (j/5) (j%5) h2 h1;rw[show j/5*5+j%5=j by omega]at h3;rw[List.getElem?_eq_getElem (by rw[aDx];exact h)]at h3;have h4:(ls.toArray)[j/5]! = ls[j/5]:=by simp[h1]
 rw[h4,List.getElem!_eq_getElem?_getD,←h3];rfl
theorem aTg{w:World}{g:Nat}{cur:Array Value}{e:TypeId}{ls:List Ln}(hb:w.heap[g]? = some (.cells cur e (0,0)))(ht:cur.toList.take (ls.length*5)=aBd ls):HoldsK Ln.vals 5 w g 0 ls.toArray:=by
 intro j hj;have hj':j<ls.length*5:=by simpa using hj
 refine⟨?_,by simp[World.frozen?,hb]⟩;rw[aOh ls hj'];have h1:(cur.toList.take (ls.length*5))[j]? = (aBd ls)[j]? := by rw[ht]
 rw[List.getElem?_take_of_lt hj']at h1;simp only[World.cell?,hb,Nat.zero_add];simp only[Option.isSome_none,Bool.false_eq_true,if_false];rw[←Array.getElem?_toList,h1,List.getElem?_eq_getElem (by rw[aDx];exact hj')];rfl
theorem heap_lines{w:World}{g n:Nat}{os:Array Obj}{cur:Array Value}{e:TypeId}(d:Array Ln)(hb:w.heap[g]? = some (.cells cur e (0,0))):
  (sortWorldK Ln.vals 5 w g 0 n d os).heap[g]? = some (.cells (putCells id 0 (flatK Ln.vals 5 d) cur) e (0,0)):=by
 have hg:g<w.heap.size:=(Array.getElem?_eq_some_iff.1 hb).1;unfold sortWorldK putRowK;rw[heap_grow_old _ _ (by simpa using hg)];simp[putRow,mapBlock,Go.Sort.ahead,Array.getElem?_modify,hb,onCells]
theorem keep_lines{w:World}{g n:Nat}{os:Array Obj}(d:Array Ln):Keep (·=g) w (sortWorldK Ln.vals 5 w g 0 n d os):=by
 refine⟨rfl,rfl,rfl,by simp[sortWorldK,putRowK],fun k hk hne=>?_⟩;unfold sortWorldK putRowK;rw[heap_grow_old _ _ (by simpa using hk)];have:g≠k:=fun e=>hne e.symm
 simp[putRow,mapBlock,Go.Sort.ahead,Array.getElem?_modify,this]
theorem take_lines(cur:Array Value)(ls:List Ln)(h:ls.length*5≤cur.size):(putCells id 0 (flatK Ln.vals 5 ls.toArray) cur).toList.take (ls.length*5)=aBd ls:=by
 apply List.ext_getElem?;intro j
 by_cases hj:j<ls.length*5
 ·have hf:=aOh ls hj;rw[List.getElem?_take_of_lt hj,Array.getElem?_toList,List.getElem?_eq_getElem (by rw[aDx];exact hj),←hf];simp[putCells,hj,show j<cur.size by omega]
 rw[List.getElem?_take_eq_none (by omega),List.getElem?_eq_none (by rw[aDx];omega)]
theorem sorted_is{done ls:List Ln}(hI:Inv ls)(hp:done.Perm ls)(d:Array Ln)(h1:PermIn 0 done.toArray.size done.toArray d)(h2:SortedIn (ltOf ordL) 0 done.toArray.size d):d.toList=ls:=by
 obtain⟨hs,_,hperm⟩:=h1
 have hpd:d.toList.Perm done:=by
  have e1:d.extract 0 done.toArray.size=d:=by rw[←hs,Array.extract_size]
  rw[e1,Array.extract_size]at hperm;simpa using hperm
 have hpl:=hpd.trans hp;have hne:d.toList.Pairwise fun x y=>x.rank≠y.rank:=(hpl.symm.pairwise_iff (fun{a b} (h:a.rank≠b.rank)=>h.symm)).1 (hI.sorted.imp fun h=>by omega)
 refine aFq _ _ ?_ hI.sorted fun x=>hpl.mem_iff
 rw[List.pairwise_iff_getElem]at hne ⊢;intro i j hi hj hij;have hn:=hne i j hi hj hij;have hi':i<d.size:=by simpa using hi
 have hj':j<d.size:=by simpa using hj
 have hso:=h2 i j (Nat.zero_le _) hij (by rw[←hs];exact hj');rw[getElem!_pos d i hi',getElem!_pos d j hj']at hso;unfold ltOf at hso;rw[decide_eq_false_iff_not,ordL_rank (hI.good _ (hpl.mem_iff.1 (by simp))).fits (hI.good _ (hpl.mem_iff.1 (by simp))).fits]at hso;simp only[Array.getElem_toList]at hn ⊢;omega
theorem isnan_p(x:Int)(w:World):
  Calls Tryz.prog 189 #[.int .u8 x] w (yV w (.bool false)):=by
 go_enter Tryz.func189,Tryz.ntmps189;go_wp2;go_ret;exact⟨rfl,rfl⟩
theorem isnan_c(x:Int)(w:World):
  Calls Tryz.prog 188 #[.int .u8 x] w (yV w (.bool false)):=by
 go_enter Tryz.func188,Tryz.ntmps188;go_wp2;go_ret;exact⟨rfl,rfl⟩
theorem aQ3(x y:Int)(w:World):
  Calls Tryz.prog 144 #[.int .u8 x,.int .u8 y] w (yV w (.int .i64 (cmp3 x y))):=by
 have c1:=yH (fun w=>isnan_p x w);have c2:=yH (fun w=>isnan_p y w);rcases Int.lt_trichotomy x y with h|h|h
 ·rw[show cmp3 x y = -1 by unfold cmp3;rw[if_pos h]];go_enter Tryz.func144,Tryz.ntmps144;go_wp2_with fail;refine(c1.out _).mono ?_;rintro e w1 ⟨rfl,rfl⟩;go_wp2_with fail;refine(c2.out _).mono ?_;rintro e w1 ⟨rfl,rfl⟩;go_wp2_with fail;go_ret;exact⟨rfl,rfl⟩
 ·rw[show cmp3 x y=0 by unfold cmp3;rw[if_neg (by omega),if_neg (by omega)]];subst h;go_enter Tryz.func144,Tryz.ntmps144;go_wp2_with fail;refine(c1.out _).mono ?_;rintro e w1 ⟨rfl,rfl⟩;go_wp2_with fail;refine(c2.out _).mono ?_;rintro e w1 ⟨rfl,rfl⟩;go_wp2_with fail;go_ret;exact⟨rfl,rfl⟩
 rw[show cmp3 x y=1 by unfold cmp3;rw[if_neg (by omega),if_pos h]];go_enter Tryz.func144,Tryz.ntmps144;go_wp2_with fail;refine(c1.out _).mono ?_;rintro e w1 ⟨rfl,rfl⟩;go_wp2_with fail;refine(c2.out _).mono ?_;rintro e w1 ⟨rfl,rfl⟩;go_wp2_with fail;go_ret;exact⟨rfl,rfl⟩
theorem compare_c(x y:Int)(w:World):
  Calls Tryz.prog 143 #[.int .u8 x,.int .u8 y] w (yV w (.int .i64 (cmp3 x y))):=by
 have c1:=yH (fun w=>isnan_c x w);have c2:=yH (fun w=>isnan_c y w);rcases Int.lt_trichotomy x y with h|h|h
 ·rw[show cmp3 x y = -1 by unfold cmp3;rw[if_pos h]];go_enter Tryz.func143,Tryz.ntmps143;go_wp2_with fail;refine(c1.out _).mono ?_;rintro e w1 ⟨rfl,rfl⟩;go_wp2_with fail;refine(c2.out _).mono ?_;rintro e w1 ⟨rfl,rfl⟩;go_wp2_with fail;go_ret;exact⟨rfl,rfl⟩
 ·rw[show cmp3 x y=0 by unfold cmp3;rw[if_neg (by omega),if_neg (by omega)]];subst h;go_enter Tryz.func143,Tryz.ntmps143;go_wp2_with fail;refine(c1.out _).mono ?_;rintro e w1 ⟨rfl,rfl⟩;go_wp2_with fail;refine(c2.out _).mono ?_;rintro e w1 ⟨rfl,rfl⟩;go_wp2_with fail;go_ret;exact⟨rfl,rfl⟩
 rw[show cmp3 x y=1 by unfold cmp3;rw[if_neg (by omega),if_pos h]];go_enter Tryz.func143,Tryz.ntmps143;go_wp2_with fail;refine(c1.out _).mono ?_;rintro e w1 ⟨rfl,rfl⟩;go_wp2_with fail;refine(c2.out _).mono ?_;rintro e w1 ⟨rfl,rfl⟩;go_wp2_with fail;go_ret;exact⟨rfl,rfl⟩
theorem or_three(b cap:Nat)(p q r:Int)(w:World)(hlt:b<w.heap.size)(h0:w.cell? ⟨b,0,none⟩=some (.int .i64 p))(h1:w.cell? ⟨b,1,none⟩=some (.int .i64 q))(h2:w.cell? ⟨b,2,none⟩=some (.int .i64 r)):
  Calls Tryz.prog 142 #[.slice (some ⟨b,0,none⟩) 3 cap] w (yV w (.int .i64 (or3 p q r))):=by
 unfold or3
 by_cases hp:p=0
 ·rw[if_pos hp];subst hp
  by_cases hq:q=0
  ·rw[if_pos hq];subst hq
   by_cases hr:r=0
   ·subst hr;go_enter Tryz.func142,Tryz.ntmps142;go_wp2;refine wp_loop_rounds 4 ?_;rw[rounds_succ];go_wp2;rw[rounds_succ];go_wp2;rw[rounds_succ];go_wp2;rw[rounds_succ];go_wp2;go_ret;exact⟨rfl,rfl⟩
   have hb:(r==0)=false:=by simp[hr]
   go_enter Tryz.func142,Tryz.ntmps142;go_wp2;refine wp_loop_rounds 3 ?_;rw[rounds_succ];go_wp2;rw[rounds_succ];go_wp2;rw[rounds_succ];go_wp2;go_ret;exact⟨rfl,rfl⟩
  rw[if_neg hq];have hb:(q==0)=false:=by simp[hq]
  go_enter Tryz.func142,Tryz.ntmps142;go_wp2;refine wp_loop_rounds 2 ?_;rw[rounds_succ];go_wp2;rw[rounds_succ];go_wp2;go_ret;exact⟨rfl,rfl⟩
 rw[if_neg hp];have hb:(p==0)=false:=by simp[hp]
 go_enter Tryz.func142,Tryz.ntmps142;go_wp2;refine wp_loop_rounds 1 ?_;rw[rounds_succ];go_wp2;go_ret;exact⟨rfl,rfl⟩
end Go.Proofs.YtngnfdnfpiiclaaGreat
namespace Go.Proofs.YtngnfdnfpiiclaaGreat
open Go.RowKit
open Go.Shelf Go.Lib
open Go.Sort (grow flatK putCells HoldsK PermIn SortedIn SWO)
def aPh(W:World)(o:Obj)(D:Nat→Bool)(w:World):Prop:=∃q,w=if D 15 then(W.drewN q).alloc o else W.drewN q
theorem aPh.step{W w:World}{o:Obj}{D:Nat→Bool}{k:Nat}(h:aPh W o D w)(hk:k≠15):aPh W o (ins k D) w:=by
 obtain⟨q,hq⟩:=h;refine⟨q,?_⟩;rw[aCy D (Ne.symm hk)];exact hq
theorem aPh.below{W w:World}{o:Obj}{D:Nat→Bool}(h:aPh W o D w):Below W.heap.size W w:=by
 obtain⟨q,hq⟩:=h;subst hq;split
 ·exact(⟨rfl,rfl,rfl,Nat.le_refl _,fun _ _=>rfl⟩:Below W.heap.size W (W.drewN q)).alloc yL _
 exact⟨rfl,rfl,rfl,Nat.le_refl _,fun _ _=>rfl⟩
theorem grow_three(w:World)(a b c:Obj)(q:Nat):∃q' os',(((w.alloc a).alloc b).drewN q).alloc c=grow (w.drewN q') os':=by
 refine⟨q,#[a,b,c],?_⟩;unfold grow World.alloc World.drewN;simp only[World.mk.injEq,and_true];apply Array.ext';simp
theorem order_any(x y:Ln)(w:World):Calls Tryz.prog 101 #[.agg #[.int .u8 x.cr,.int .u8 x.de,.int .u8 x.cu,.int .i64 x.li,.int .i64 x.db],.agg #[.int .u8 y.cr,.int .u8 y.de,.int .u8 y.cu,.int .i64 y.li,.int .i64 y.db]] w fun e w'=>e=.returned (.int .i64 (ordL x y))∧∃q os',w'=grow (w.drewN q) os':=by
 unfold ordL;have c1:=yH (fun w=>compare_c x.cu y.cu w);have c2:=yH (fun w=>aQ3 x.cr y.cr w);have c3:=yH (fun w=>aQ3 x.de y.de w);generalize cmp3 x.cu y.cu=p at *;generalize cmp3 x.cr y.cr=q at *;generalize cmp3 x.de y.de=r at *;go_enter Tryz.func101,Tryz.ntmps101;go_wp2_with fail;have hW:((w.alloc (.cells #[.int .u8 x.cr,.int .u8 x.de,.int .u8 x.cu,.int .i64 x.li,.int .i64 x.db] 71)).alloc (.cells #[.int .u8 y.cr,.int .u8 y.de,.int .u8 y.cu,.int .i64 y.li,.int .i64 y.db] 71)).heap.size=w.heap.size+2:=by simp
 have KX:=yH ((Blk.new w #[.int .u8 x.cr,.int .u8 x.de,.int .u8 x.cu,.int .i64 x.li,.int .i64 x.db] 71).alloc (.cells #[.int .u8 y.cr,.int .u8 y.de,.int .u8 y.cu,.int .i64 y.li,.int .i64 y.db] 71));have KY:=yH (pAB (w.alloc (.cells #[.int .u8 x.cr,.int .u8 x.de,.int .u8 x.cu,.int .i64 x.li,.int .i64 x.db] 71)) #[.int .u8 y.cr,.int .u8 y.de,.int .u8 y.cu,.int .i64 y.li,.int .i64 y.db] 71 (g:=w.heap.size+1) (by simp));have HW:=yH hW;have HG:=yH (fun c q=>grow_three w (.cells #[.int .u8 x.cr,.int .u8 x.de,.int .u8 x.cu,.int .i64 x.li,.int .i64 x.db] 71) (.cells #[.int .u8 y.cr,.int .u8 y.de,.int .u8 y.cu,.int .i64 y.li,.int .i64 y.db] 71) c q);generalize ((w.alloc (.cells #[.int .u8 x.cr,.int .u8 x.de,.int .u8 x.cu,.int .i64 x.li,.int .i64 x.db] 71)).alloc (.cells #[.int .u8 y.cr,.int .u8 y.de,.int .u8 y.cu,.int .i64 y.li,.int .i64 y.db] 71))=W at KX KY HW HG ⊢;clear hW
 refine aBu (by kernel_rfl) [(.pointer (some ⟨w.heap.size,2,none⟩)),(.int .u8 x.cu),(.pointer (some ⟨w.heap.size+1,2,none⟩)),(.int .u8 y.cu),(.int .i64 p),(.pointer (some ⟨w.heap.size,0,none⟩)),(.int .u8 x.cr),(.pointer (some ⟨w.heap.size+1,0,none⟩)),(.int .u8 y.cr),(.int .i64 q),(.pointer (some ⟨w.heap.size,1,none⟩)),(.int .u8 x.de),(.pointer (some ⟨w.heap.size+1,1,none⟩)),(.int .u8 y.de),(.int .i64 r),(.slice (some ⟨w.heap.size+2,0,none⟩) 3 3),(.int .i64 (or3 p q r)),(.int .i64 (or3 p q r))]
  (aPh W (.cells #[.int .i64 p,.int .i64 q,.int .i64 r] 3)) (by kernel_rfl) ⟨1,rfl⟩ ?_
 intro af haf;simp only[puts,Act.put,yA,yC,yF,yD,yE]at haf;subst haf;refine⟨?_,?_⟩
 ·simp only[aD7];refine⟨?_,?_,?_,?_,?_,?_,?_,?_,?_,?_,?_,?_,?_,?_,?_,?_,?_,?_,trivial⟩
  ·intro D w' hD hWt hC hI;have HI:=yH (hI.step (k:=0) (by decide));clear hI hC hWt hD;refine yO rfl ?_;go_wp2_with fail;all_goals first|exact HI|exact⟨rfl,HI⟩|rfl
  ·intro D w' hD hWt hC hI;have hS:=hI.below;have HI:=yH (hI.step (k:=1) (by decide));have kk:=KX.out.below hS KX.out.lt;have d0:=kk.cell 0;have d1:=kk.cell 1;have d2:=kk.cell 2;simp at d0 d1 d2;clear kk;clear hS hI hC hWt hD;refine yO rfl ?_;go_wp2_with fail;all_goals first|exact HI|exact⟨rfl,HI⟩|rfl
  ·intro D w' hD hWt hC hI;have HI:=yH (hI.step (k:=2) (by decide));clear hI hC hWt hD;refine yO rfl ?_;go_wp2_with fail;all_goals first|exact HI|exact⟨rfl,HI⟩|rfl
  ·intro D w' hD hWt hC hI;have hS:=hI.below;have HI:=yH (hI.step (k:=3) (by decide));have kk:=KY.out.below hS KY.out.lt;have d0:=kk.cell 0;have d1:=kk.cell 1;have d2:=kk.cell 2;simp at d0 d1 d2;clear kk;clear hS hI hC hWt hD;refine yO rfl ?_;go_wp2_with fail;all_goals first|exact HI|exact⟨rfl,HI⟩|rfl
  ·intro D w' hD hWt hC hI;have HI:=yH (hI.step (k:=4) (by decide));clear hI hC hWt hD;refine yO rfl ?_;go_wp2_with fail;refine(c1.out w').mono ?_;rintro e w'' ⟨rfl,rfl⟩;exact⟨rfl,HI.out⟩
  ·intro D w' hD hWt hC hI;have HI:=yH (hI.step (k:=5) (by decide));clear hI hC hWt hD;refine yO rfl ?_;go_wp2_with fail;all_goals first|exact HI|exact⟨rfl,HI⟩|rfl
  ·intro D w' hD hWt hC hI;have hS:=hI.below;have HI:=yH (hI.step (k:=6) (by decide));have kk:=KX.out.below hS KX.out.lt;have d0:=kk.cell 0;have d1:=kk.cell 1;have d2:=kk.cell 2;simp at d0 d1 d2;clear kk;clear hS hI hC hWt hD;refine yO rfl ?_;go_wp2_with fail;all_goals first|exact HI|exact⟨rfl,HI⟩|rfl
  ·intro D w' hD hWt hC hI;have HI:=yH (hI.step (k:=7) (by decide));clear hI hC hWt hD;refine yO rfl ?_;go_wp2_with fail;all_goals first|exact HI|exact⟨rfl,HI⟩|rfl
  ·intro D w' hD hWt hC hI;have hS:=hI.below;have HI:=yH (hI.step (k:=8) (by decide));have kk:=KY.out.below hS KY.out.lt;have d0:=kk.cell 0;have d1:=kk.cell 1;have d2:=kk.cell 2;simp at d0 d1 d2;clear kk;clear hS hI hC hWt hD;refine yO rfl ?_;go_wp2_with fail;all_goals first|exact HI|exact⟨rfl,HI⟩|rfl
  ·intro D w' hD hWt hC hI;have HI:=yH (hI.step (k:=9) (by decide));clear hI hC hWt hD;refine yO rfl ?_;go_wp2_with fail;refine(c2.out w').mono ?_;rintro e w'' ⟨rfl,rfl⟩;exact⟨rfl,HI.out⟩
  ·intro D w' hD hWt hC hI;have HI:=yH (hI.step (k:=10) (by decide));clear hI hC hWt hD;refine yO rfl ?_;go_wp2_with fail;all_goals first|exact HI|exact⟨rfl,HI⟩|rfl
  ·intro D w' hD hWt hC hI;have hS:=hI.below;have HI:=yH (hI.step (k:=11) (by decide));have kk:=KX.out.below hS KX.out.lt;have d0:=kk.cell 0;have d1:=kk.cell 1;have d2:=kk.cell 2;simp at d0 d1 d2;clear kk;clear hS hI hC hWt hD;refine yO rfl ?_;go_wp2_with fail;all_goals first|exact HI|exact⟨rfl,HI⟩|rfl
  ·intro D w' hD hWt hC hI;have HI:=yH (hI.step (k:=12) (by decide));clear hI hC hWt hD;refine yO rfl ?_;go_wp2_with fail;all_goals first|exact HI|exact⟨rfl,HI⟩|rfl
  ·intro D w' hD hWt hC hI;have hS:=hI.below;have HI:=yH (hI.step (k:=13) (by decide));have kk:=KY.out.below hS KY.out.lt;have d0:=kk.cell 0;have d1:=kk.cell 1;have d2:=kk.cell 2;simp at d0 d1 d2;clear kk;clear hS hI hC hWt hD;refine yO rfl ?_;go_wp2_with fail;all_goals first|exact HI|exact⟨rfl,HI⟩|rfl
  ·intro D w' hD hWt hC hI;have HI:=yH (hI.step (k:=14) (by decide));clear hI hC hWt hD;refine yO rfl ?_;go_wp2_with fail;refine(c3.out w').mono ?_;rintro e w'' ⟨rfl,rfl⟩;exact⟨rfl,HI.out⟩
  ·intro D w' hD hWt hC hI;obtain⟨t,ht⟩:=hI;rw[hD]at ht;have hz:w'.heap.size=w.heap.size+2:=by rw[ht,←HW.out];rfl
   have HI:=yH (show aPh W (.cells #[.int .i64 p,.int .i64 q,.int .i64 r] 3) (ins 15 D) (w'.alloc (.cells #[.int .i64 p,.int .i64 q,.int .i64 r] 3))from⟨t,by rw[aHe,if_pos rfl,ht];rfl⟩);clear ht hC hWt hD;refine yO rfl ?_;go_wp2_with fail;all_goals first|exact HI|exact⟨rfl,HI⟩|exact⟨by rw[hz],HI.out⟩
  ·intro D w' hD hWt hC hI;have h15:D 15=true:=aA0 hC hWt (d:=12) (by kernel_rfl);obtain⟨t,ht⟩:=hI;have KB:Blk w' (w.heap.size+2) #[.int .i64 p,.int .i64 q,.int .i64 r] 3:=by rw[ht,h15,if_pos rfl];exact pAB _ _ _ (by show _=W.heap.size;rw[HW.out])
   have HI:=yH (aPh.step (k:=16) (show aPh W (.cells #[.int .i64 p,.int .i64 q,.int .i64 r] 3) D w' from⟨t,ht⟩) (by decide));have HO:=yH (or_three (w.heap.size+2) 3 p q r w' KB.lt (KB.cell 0) (KB.cell 1) (KB.cell 2));clear ht KB hC hWt hD h15;refine yO rfl ?_;go_wp2_with fail;refine HO.out.mono ?_;rintro e w'' ⟨rfl,rfl⟩;exact⟨rfl,HI.out⟩
  intro D w' hD hWt hC hI;have HI:=yH (hI.step (k:=17) (by decide));clear hI hC hWt hD;refine yO rfl ?_;go_wp2_with fail;all_goals first|exact HI|exact⟨rfl,HI⟩|rfl
 intro D w2 hall hI;obtain⟨t,ht⟩:=hI;rw[hall 15 (by decide),if_pos rfl]at ht;have HE:=yH (show ∃q os',w2=grow (w.drewN q) os' from by rw[ht];exact HG.out _ t);clear ht hall;go_wp2_with fail;go_ret;exact⟨rfl,HE.out⟩
theorem sortL_any{w:World}{base:Nat}{v:Value}{done ls:List Ln}(hI:Inv ls)(hp:done.Perm ls)(hl:ls.length≤64)(h:w.ownsRow base 71 5 v done.length (aBd done)):
  Calls Tryz.prog 100 #[v,.func (.func 101) #[] #[]] w fun e w'=>e=.returned (.tuple #[])∧w'.ownsRow base 71 5 v ls.length (aBd ls)∧Keep (fun b=>v.ownBlock=some b) w w':=by
 have hlen:=hp.length_eq;rcases h.2 with⟨rfl,h0⟩|⟨g,cap,cur,rfl,hbase,hb,h1,h2,h3,h4⟩
 ·rw[h0]at hlen;have:ls=[]:=List.eq_nil_of_length_eq_zero hlen.symm;subst this;refine(AnyF.slices_SortFunc_none { sortL with } none 0 (.func (.func 101) #[] #[]) w).mono ?_;rintro e w' ⟨rfl,rfl⟩;exact⟨rfl,World.ownsRow_nil _ _ _ _,Keep.refl _ _⟩
 have hg:g<w.heap.size:=(Array.getElem?_eq_some_iff.1 hb).1;have eg:∀args w,(callFunc 101 args).run Tryz.prog w=.ok (.enter 101 args) w:=enters_of Tryz.func101 (by kernel_rfl) rfl;have hcmp:CmpLays Tryz.prog 101 #[] Ln.vals 5 ordL g 0 done.toArray.size w:=fun m os dk _ x y=>order_any x y _
 have hc:=AnyQ.slices_SortFunc (P:=Tryz.prog) sortL 5 Tryz.isAgg71 Tryz.sizeOf71 Ln.vals (fun _=>rfl) (fun x u hu=>by simp[Ln.vals]at hu;rcases hu with rfl|rfl|rfl|rfl|rfl <;> rfl) ordL swoL 101 #[] g 0 cap done.toArray w eg hcmp (aTg hb h4) hg (by simp;omega);have hsz:done.toArray.size=done.length:=by simp
 rw[hsz]at hc;refine Calls.mono hc ?_;rintro e w' ⟨rfl,d,n,os,hp1,hs1,rfl⟩;have hd:=sorted_is hI hp d (by rw[hsz];exact hp1) (by rw[hsz];exact hs1);have hda:d=ls.toArray:=by rw[←hd]
 subst hda;refine⟨rfl,⟨aDx ls,.inr ⟨g,cap,_,by rw[hlen],hbase,heap_lines _ hb,by omega,h2,by simp[putCells,h3],take_lines cur ls (by omega)⟩⟩,(keep_lines _).mono fun k _ hk=>by rw[hk];rfl⟩
end Go.Proofs.YtngnfdnfpiiclaaGreat
namespace Go.Proofs.YtngnfdnfpiiclaaGreat
open Go.RowKit
theorem clipL_any{w:World}{base:Nat}{v:Value}{n:Nat}{xs:List Value}(h:w.ownsRow base 71 5 v n xs):
  Calls Tryz.prog 102 #[v] w (aHg w base 71 5 n v xs):=by
 rcases h.2 with⟨rfl,h0⟩|⟨g,cap,cur,rfl,hbase,hb,h1,h2,h3,h4⟩
 ·subst h0;have hr:=aBg (P:=Tryz.prog) w 42 71 5 Tryz.underlying42 (Tryz.sizeOf71 w);have hx:=h.1;have hx2:=yH hx;clear h hx;go_enter Tryz.func102,Tryz.ntmps102;go_wp2;refine bodyPost_ret (v:=.slice none 0 0) (by simp[results,Tryz.results102,go_sem]) rfl ?_;exact⟨_,rfl,⟨hx2.out,.inl ⟨rfl,rfl⟩⟩,rfl,rfl⟩
 have hr:=aCe (P:=Tryz.prog) w 42 71 5 Tryz.underlying42 (Tryz.sizeOf71 w) g n cap h1;have HR:=yH (show aBj w base 71 5 (.slice (some ⟨g,0,none⟩) n n) n xs from⟨h.1,.inr ⟨g,cur,rfl,hbase,hb,by omega,by omega,h4⟩⟩);clear h hb h4 h3;unfold maxLen at h2;go_enter Tryz.func102,Tryz.ntmps102;go_wp2;refine bodyPost_ret (v:=.slice (some ⟨g,0,none⟩) n n) (by simp[results,Tryz.results102,go_sem]) rfl ?_;exact⟨_,rfl,HR.out,rfl,rfl⟩
theorem clipP_any{w:World}{base:Nat}{v:Value}{n:Nat}{xs:List Value}(h:w.ownsRow base 68 1 v n xs):
  Calls Tryz.prog 97 #[v] w (aHg w base 68 1 n v xs):=by
 rcases h.2 with⟨rfl,h0⟩|⟨g,cap,cur,rfl,hbase,hb,h1,h2,h3,h4⟩
 ·subst h0;have hr:=aBg (P:=Tryz.prog) w 41 68 1 Tryz.underlying41 (Tryz.sizeOf68 w);have hx2:=yH h.1;clear h;go_enter Tryz.func97,Tryz.ntmps97;go_wp2;refine bodyPost_ret (v:=.slice none 0 0) (by simp[results,Tryz.results97,go_sem]) rfl ?_;exact⟨_,rfl,⟨hx2.out,.inl ⟨rfl,rfl⟩⟩,rfl,rfl⟩
 have hr:=aCe (P:=Tryz.prog) w 41 68 1 Tryz.underlying41 (Tryz.sizeOf68 w) g n cap h1;have HR:=yH (show aBj w base 68 1 (.slice (some ⟨g,0,none⟩) n n) n xs from⟨h.1,.inr ⟨g,cur,rfl,hbase,hb,by omega,by omega,h4⟩⟩);clear h hb h4 h3;unfold maxLen at h2;go_enter Tryz.func97,Tryz.ntmps97;go_wp2;refine bodyPost_ret (v:=.slice (some ⟨g,0,none⟩) n n) (by simp[results,Tryz.results97,go_sem]) rfl ?_;exact⟨_,rfl,HR.out,rfl,rfl⟩
def LinesAt(w:World)(M:Nat)(ls:List Ln)(s:Value)(wr:World):Prop:=
 ∃done,aBn wr M w.heap.size ls done∧wr.ownsRow (w.heap.size+1) 71 5 s done.length (aBd done)∧Below w.heap.size w wr
theorem aOi{w:World}{G M:Nat}{ps:List Int}{ls:List Ln}(h:LedM w G M ps ls)(hI:LInv ps ls):
  Calls Tryz.prog 58 #[.pointer (some ⟨G,0,none⟩)] w (aE9 w 71 5 ls.length (aBd ls)):=by
 have C1:=yH (aMe h.blk);have HM:=yH h.map;have HI:=yH hI;clear h hI;go_enter Tryz.func58,Tryz.ntmps58;go_wp2_with fail;refine C1.out.mono ?_;rintro e w ⟨rfl,rfl⟩;have hMlt:=HM.out.lt;go_wp2_with (first|(at_range;refine aDo rfl _ rfl M ls rfl HM.out ?_;intro w0 hr0 hb0)|go_in)
 go_frame
 go_loopw [3] (LinesAt w M ls) (fun _ wr=>aQg wr M w.heap.size)
 case atStart=>exact⟨[],hr0,World.ownsRow_nil _ _ _ _,hb0⟩
 obtain⟨done,hR,hown,hB⟩:=hrel;have hlen:=hR.len;have hleft:=hR.left;have hl64:=HI.out.len;have HR:=yH hR;have HB:=yH hB;have HO:=yH hown;clear hR hB hown;go_wp2_with (first|(at_next;refine aDz rfl _ rfl M w.heap.size ls done rfl HR.out ?_ ?_)|go_in)
 ·intro hd;have CS:=yH (sortL_any HI.out.inv hd HI.out.len HO.out);clear hd;go_wp2_with fail;refine CS.out.mono ?_;rintro e w2 ⟨rfl,ho2,hk2⟩;have hB2:=yH (HB.out.trans (hk2.below HB.out.size (fun k hk he=>by have:=(aAe HO.out he).1;omega)));have CC:=yH (clipL_any ho2);clear ho2 hk2 CS;go_wp2_with fail;refine CC.out.mono ?_;rintro e w3 ⟨v',rfl,hrow,_,rfl⟩;have HRow:=yH hrow;clear hrow CC;go_wp2_with fail;refine bodyPost_ret (v:=v') (by simp[results,Tryz.results58,go_sem]) rfl ?_;exact⟨v',rfl,HRow.out.base (Nat.le_succ _),hB2.out⟩
 intro x w1 hx hR1 hT hen;have hb1:=HB.out.trans (hT.below yL);have hO1:=aBq HO.out hT.keep (fun b hb e=>by have:=(aAe HO.out hb).1;omega);have hb2:=((Below.refl w1.heap.size w1).alloc yL (.cells #[.int .u8 x.cr,.int .u8 x.de,.int .u8 x.cu] 188)).alloc (by simp) (.cells #[.int .i64 x.li,.int .i64 x.db] 190);have CP:=yH (fun w=>aQf x w);have HR1:=yH hR1;have HB1:=yH hb1;have HO1:=yH hO1;have HB2:=yH hb2;clear hx hR1 hT hb1 hO1 hb2;go_wp2_with fail;refine(CP.out _).mono ?_;rintro e w3 ⟨rfl,hb3⟩;have HB3:=yT HB2 hb3;have HO3:=yH (aAf HO1.out HB3.out);have HR3:=yH (HR1.out.below HB3.out);have hz3:=yM HR1.out.lt HB3.out.size;clear hb3 hen;go_wp2_with (at_builtin;refine aI4 _ rfl (.tmp 14) (.tmp 18) rfl (w.heap.size+1) _ done rfl (HO3.out.alloc _) _ _ x rfl (Blk.new _ _ _) (by omega) (by simp;omega) ?_);intro v4 w4 hown4 hgr4;have R2:∀k,Value.ownBlock _=some k→w.heap.size+1≤k:=fun k hk=>(aAe HO3.out hk).1
 have K4:=yH (((pAD (S:=fun b=>w.heap.size+1≤b) (Below.refl w3.heap.size w3)).alloc (.cells #[.int .u8 x.cr,.int .u8 x.de,.int .u8 x.cu,.int .i64 x.li,.int .i64 x.db] 71)).grown hgr4 (fun k hk=>.inl (R2 k hk)));have O4:=yH (show w4.ownsRow (w.heap.size+1) 71 5 v4 (done++[x]).length (aBd (done++[x])) by simpa using hown4);have HR4:=yH (HR3.out.keep K4.out (by omega) (by omega));have HB4:=yH ((HB1.out.trans (HB3.out.mono HB1.out.size)).trans (K4.out.below (B:=w.heap.size) (by omega) (fun k hk he=>by omega)));have hleft4:=HR4.out.left;rw[List.length_append,List.length_singleton]at hleft4;clear R2 hown4 hgr4 hz3;go_wp2_with fail;go_roundw
 case rel=>exact⟨done++[x],HR4.out,O4.out,HB4.out⟩
 case measure=>omega
theorem open_all{ps:List Int}(hb:∀p∈ps,1≤p∧p≤16)(hr:ps.Pairwise (·<·)):aCz ps 0 17=ps:=by
 refine rise_ext _ _ (aMd ps 0 17) hr fun x=>?_
 rw[aEq]
 constructor
 ·rintro⟨h1,h2|h2⟩
  ·omega
  exact h2
 intro h;exact⟨hb x h,.inr h⟩
def PartiesAt(ps:List Int)(w:World)(v q:Value)(wr:World):Prop:=
 ∃k:Nat,1≤k∧k≤17∧q=.int .u8 k∧wr.ownsRow w.heap.size 68 1 v (aCz ps 0 k).length ((aCz ps 0 k).map (.int .u8))∧Below w.heap.size w wr
theorem aQ4{w:World}{G M:Nat}{ps:List Int}{ls:List Ln}(h:LedM w G M ps ls)(hI:LInv ps ls):
  Calls Tryz.prog 57 #[.pointer (some ⟨G,0,none⟩)] w (aE9 w 68 1 ps.length (ps.map (.int .u8))):=by
 have c:=yH (fun(w':World) (k:Below w.heap.size w w') (q:Int)=>aF2 (h.below k).blk hI.bd q);have HE:=yH (open_all hI.bd hI.rise);clear h hI;go_enter Tryz.func57,Tryz.ntmps57;go_wp2_with fail
 go_loopw [3,4] (PartiesAt ps w) (fun _ q _=>17 - (intOf q).toNat)
 case atStart=>exact⟨1,by omega,by omega,rfl,World.ownsRow_nil _ _ _ _,yZ⟩
 obtain⟨k,hk0,hk,rfl,hown,hb⟩:=hrel;have hl:=aNv ps 0 k;have O0:=yH hown;have B0:=yH hb;have hz:=hb.size;clear hown hb
 by_cases hkl:k≤16
 ·have N:=yH (aSh ps 0 k hk0);have cq:=yH (c.out _ B0.out (k:Int));have hk1:(k:Int)≤16:=by omega
  have s1:((k:Int)==0)=false:=by simp;omega
  by_cases s2:(k:Int)∈ps
  ·have N2:Hid (aCz ps 0 (k+1)=aCz ps 0 k++[(k:Int)]):=yH (by rw[N.out,s1,decide_eq_true s2];rfl);rw[decide_eq_true s2]at cq;clear N s2 s1;generalize aCz ps 0 k=out at *;have hl2:out.length≤100000:=by omega
   go_wp2_with fail;refine cq.out.mono ?_;rintro e wr ⟨rfl,rfl⟩;go_wp2_with (at_builtin;refine aEw _ rfl (.tmp 12) (.tmp 14) rfl w.heap.size _ out rfl (O0.out.alloc _) _ _ (k:Int) rfl (Blk.new _ _ _) hl2 (by simp;omega) ?_);intro v3 w3 hown3 hgr3;have R2:∀k,Value.ownBlock _=some k→w.heap.size≤k:=fun k hk=>(aAe O0.out hk).1
   have B3:=yH ((B0.out.alloc B0.out.size (.cells #[.int .u8 (k:Int)] 68)).grown hgr3 (by simp;omega) (fun k hk=>R2 k hk));have O3:=yH (show w3.ownsRow w.heap.size 68 1 v3 (out++[(k:Int)]).length ((out++[(k:Int)]).map (.int .u8)) by simpa using hown3);clear R2 hown3 hgr3;go_wp2_with fail;go_roundw
   case rel=>exact⟨k+1,by omega,by omega,by go_num,by rw[N2.out];exact O3.out,B3.out⟩
   case measure=>simp[intOf];omega
  have N2:Hid (aCz ps 0 (k+1)=aCz ps 0 k):=yH (by rw[N.out,s1,decide_eq_false s2];simp);rw[decide_eq_false s2]at cq;clear N s2 s1;go_wp2_with fail;refine cq.out.mono ?_;rintro e wr ⟨rfl,rfl⟩;go_wp2_with fail;go_roundw
  case rel=>exact⟨k+1,by omega,by omega,by go_num,by rw[N2.out];exact O0.out,B0.out⟩
  case measure=>simp[intOf];omega
 obtain rfl:k=17:=by omega
 rw[HE.out]at O0;have CC:=yH (clipP_any O0.out);clear hl hk0 hk hkl;go_wp2_with fail;refine CC.out.mono ?_;rintro e w3 ⟨v',rfl,hrow,_,rfl⟩;have HRow:=yH hrow;clear hrow CC;go_wp2_with fail;refine bodyPost_ret (v:=v') (by simp[results,Tryz.results57,go_sem]) rfl ?_;exact⟨v',rfl,HRow.out,B0.out⟩
theorem clone_any{w:World}{b:Nat}{es:Array MapEntry}{clock:Nat}(hb:w.heap[b]? = some (.map es clock)):
  Calls Tryz.prog 112 #[.map (some b)] w fun e w'=>e=.returned (.map (some w.heap.size))∧w'=w.alloc (.map es clock):=by
 have hq:=fun w=>Go.Proofs.run_eql_map_nil_sl (P:=Tryz.prog) w 152 _ _ (some b) Tryz.underlying152
 go_enter Tryz.func112,Tryz.ntmps112;go_wp2;rw[run_callFunc_extern Tryz.func150 (by kernel_rfl) (by kernel_rfl) (by kernel_rfl) (e:=Extern.MapsClone.clone) (by kernel_rfl),Go.Proofs.run_maps_clone_sl w 152 hb];simp only[Result.andThen];rw[Oper.upon_value];go_wp2;rw[Go.Proofs.run_typeAssert_map_sl _ 152 20 _ _ _ Tryz.underlying152];simp only[Result.andThen];rw[Oper.upon_value];go_wp2;go_ret;exact⟨rfl,rfl⟩
def parC(ps:List Int):List Value:=((ledC ps (.map none)).toList.take 17)
theorem aGf(ps:List Int):(parC ps).length=17:=by simp[parC,aGy]
theorem aPi(ps:List Int){j:Nat}(h:j<17):(parC ps)[j]? = some (.bool (decide ((j:Int)∈ps))):=by
 unfold parC;rw[List.getElem?_take_of_lt h,Array.getElem?_toList,aF0 _ _ _ h]
theorem ledC_par(ps:List Int)(v:Value):(parC ps++[v]).toArray=ledC ps v:=by
 apply Array.ext_getElem?;intro j;rw[List.getElem?_toArray]
 by_cases h:j<17
 ·rw[List.getElem?_append_left (by rw[aGf];exact h),aPi _ h,aF0 _ _ _ h]
 by_cases h2:j=17
 ·subst h2;rw[aLb,List.getElem?_append_right (by rw[aGf];omega),aGf];rfl
 rw[Array.getElem?_eq_none (by rw[aGy];omega),List.getElem?_eq_none (by simp[aGf];omega)]
theorem par_range{w:World}{g:Nat}{ps:List Int}{v:Value}{t:TypeId}(h:Blk w g (ledC ps v) t):w.rangeAt g 0 (parC ps):=by
 intro j u hu
 have hj:j<17:=by
  rcases Nat.lt_or_ge j 17 with h'|h'
  ·exact h'
  rw[List.getElem?_eq_none (by rw[aGf];exact h')]at hu;cases hu
 rw[Nat.zero_add,h.cell j,aF0 _ _ _ hj,←aPi ps hj];exact hu
theorem par_form(ps:List Int):∃b0 b1 b2 b3 b4 b5 b6 b7 b8 b9 b10 b11 b12 b13 b14 b15 b16:Bool,parC ps=[Value.bool b0,Value.bool b1,Value.bool b2,Value.bool b3,Value.bool b4,Value.bool b5,Value.bool b6,Value.bool b7,Value.bool b8,Value.bool b9,Value.bool b10,Value.bool b11,Value.bool b12,Value.bool b13,Value.bool b14,Value.bool b15,Value.bool b16]:=by
 have h:=aGf ps;refine⟨decide ((0:Int)∈ps),decide ((1:Int)∈ps),decide ((2:Int)∈ps),decide ((3:Int)∈ps),decide ((4:Int)∈ps),decide ((5:Int)∈ps),decide ((6:Int)∈ps),decide ((7:Int)∈ps),decide ((8:Int)∈ps),decide ((9:Int)∈ps),decide ((10:Int)∈ps),decide ((11:Int)∈ps),decide ((12:Int)∈ps),decide ((13:Int)∈ps),decide ((14:Int)∈ps),decide ((15:Int)∈ps),decide ((16:Int)∈ps),?_⟩;apply List.ext_getElem?;intro j
 by_cases hj:j<17
 ·rw[aPi ps hj]
  match j,hj with
  | 0,_=>rfl
  | 1,_=>rfl
  | 2,_=>rfl
  | 3,_=>rfl
  | 4,_=>rfl
  | 5,_=>rfl
  | 6,_=>rfl
  | 7,_=>rfl
  | 8,_=>rfl
  | 9,_=>rfl
  | 10,_=>rfl
  | 11,_=>rfl
  | 12,_=>rfl
  | 13,_=>rfl
  | 14,_=>rfl
  | 15,_=>rfl
  | 16,_=>rfl
  | n+17,h=>omega
 rw[List.getElem?_eq_none (by omega),List.getElem?_eq_none (by simp;omega)]
theorem build_led(ps:List Int)(m:Nat)(w:World):(Instr.build 155 #[(0,.agg (parC ps).toArray),(1,.map (some m))]).run Tryz.prog w=.ok (.agg (ledC ps (.map (some m)))) w:=by
 rw[←ledC_par];obtain⟨b0,b1,b2,b3,b4,b5,b6,b7,b8,b9,b10,b11,b12,b13,b14,b15,b16,hb⟩:=par_form ps;rw[hb]
 have h:(Instr.build 155 #[(0,.agg [Value.bool b0,Value.bool b1,Value.bool b2,Value.bool b3,Value.bool b4,Value.bool b5,Value.bool b6,Value.bool b7,Value.bool b8,Value.bool b9,Value.bool b10,Value.bool b11,Value.bool b12,Value.bool b13,Value.bool b14,Value.bool b15,Value.bool b16].toArray),(1,.map (some m))]).run Tryz.prog=fun w=>.ok (.agg ([Value.bool b0,Value.bool b1,Value.bool b2,Value.bool b3,Value.bool b4,Value.bool b5,Value.bool b6,Value.bool b7,Value.bool b8,Value.bool b9,Value.bool b10,Value.bool b11,Value.bool b12,Value.bool b13,Value.bool b14,Value.bool b15,Value.bool b16]++[Value.map (some m)]).toArray) w:=by
  kernel_rfl
 rw[h]
def aMx(W:World)(o:Obj)(C:Array Value)(T:TypeId)(D:Nat→Bool)(w:World):Prop:=
 Below W.heap.size W w∧w.heap.size=W.heap.size+((if D 8=true then 1 else 0)+(if D 10=true then 1 else 0))∧(D 8=true→w.heap[W.heap.size]? = some o)∧(D 10=true→w.heap[W.heap.size+1]? = some (.cells C T))
theorem aMx.step{W w:World}{o:Obj}{C:Array Value}{T:TypeId}{D:Nat→Bool}{k:Nat}(h:aMx W o C T D w)(h8:k≠8)(h10:k≠10):aMx W o C T (ins k D) w:=by
 unfold aMx;rw[aCy D (Ne.symm h8),aCy D (Ne.symm h10)];exact h
def CopyMPost(w:World)(ps:List Int)(ls:List Ln)(e:Ending)(w':World):Prop:=
 ∃g' m',e=.returned (.pointer (some ⟨g',0,none⟩))∧LedM w' g' m' ps ls∧w.heap.size≤g'∧w.heap.size≤m'∧Below w.heap.size w w'
theorem pcopy_any{w:World}{G M:Nat}{ps:List Int}{ls:List Ln}(h:LedM w G M ps ls):
  Calls Tryz.prog 76 #[.pointer (some ⟨G,0,none⟩)] w (CopyMPost w ps ls):=by
 have C1:=yH (aF1 h.blk);have HBk:=yH h.blk;obtain⟨ms,⟨es,clock,hes,hst,hkv⟩,hperm⟩:=h.map;have HM:=yH hes;have HN:Hid (∀w',w'.heap[w.heap.size]? = some (.map es clock)→aDf w' w.heap.size ls):=yH fun w' hw=>⟨ms,⟨es,clock,hw,hst,hkv⟩,hperm⟩
 have hMlt:M<w.heap.size:=h.map.lt;clear h hes hst hkv hperm;go_enter Tryz.func76,Tryz.ntmps76;go_wp2_with fail;refine C1.out.mono ?_;rintro e w ⟨rfl,rfl⟩;go_wp2_with fail
 refine aBu (by kernel_rfl) [(.pointer (some ⟨G,0,none⟩)),(.pointer (some ⟨G,0,none⟩)),(.pointer (some ⟨G,0,none⟩)),(.agg (parC ps).toArray),(.pointer (some ⟨G,0,none⟩)),(.pointer (some ⟨G,0,none⟩)),(.pointer (some ⟨G,17,none⟩)),(.map (some M)),(.map (some w.heap.size)),(.agg (ledC ps (.map (some w.heap.size)))),(.pointer (some ⟨w.heap.size+1,0,none⟩)),(.pointer (some ⟨w.heap.size+1,0,none⟩))]
  (aMx w (.map es clock) (ledC ps (.map (some w.heap.size))) 155) (by kernel_rfl) ⟨yZ.drew,by simp,by simp,by simp⟩ ?_
 intro af haf;simp only[puts,Act.put,yA,yC,yF,yD,yE]at haf;subst haf;refine⟨?_,?_⟩
 ·simp only[aD7];refine⟨?_,?_,?_,?_,?_,?_,?_,?_,?_,?_,?_,?_,trivial⟩
  ·intro D w' hD hWt hC hI;have HI:=yH (hI.step (k:=0) (by decide) (by decide));clear hI hC hWt hD;refine yO rfl ?_;go_wp2_with fail;all_goals first|exact HI|exact⟨rfl,HI⟩|rfl
  ·intro D w' hD hWt hC hI;have HI:=yH (hI.step (k:=1) (by decide) (by decide));clear hI hC hWt hD;refine yO rfl ?_;go_wp2_with fail;all_goals first|exact HI|exact⟨rfl,HI⟩|rfl
  ·intro D w' hD hWt hC hI;have HI:=yH (hI.step (k:=2) (by decide) (by decide));clear hI hC hWt hD;refine yO rfl ?_;go_wp2_with fail;all_goals first|exact HI|exact⟨rfl,HI⟩|rfl
  ·intro D w' hD hWt hC hI;have hS:=hI.1;have HI:=yH (hI.step (k:=3) (by decide) (by decide));have kb:=HBk.out.below hS HBk.out.lt;refine yO rfl ?_;refine wp_load_mid 153 (.tmp 8) rfl G 0 rfl (parC ps) _ (par_range kb) Tryz.underlying153 rfl (by rw[aGf];kernel_rfl) ?_;exact⟨rfl,HI.out⟩
  ·intro D w' hD hWt hC hI;have HI:=yH (hI.step (k:=4) (by decide) (by decide));clear hI hC hWt hD;refine yO rfl ?_;go_wp2_with fail;all_goals first|exact HI|exact⟨rfl,HI⟩|rfl
  ·intro D w' hD hWt hC hI;have HI:=yH (hI.step (k:=5) (by decide) (by decide));clear hI hC hWt hD;refine yO rfl ?_;go_wp2_with fail;all_goals first|exact HI|exact⟨rfl,HI⟩|rfl
  ·intro D w' hD hWt hC hI;have HI:=yH (hI.step (k:=6) (by decide) (by decide));clear hI hC hWt hD;refine yO rfl ?_;go_wp2_with fail;all_goals first|exact HI|exact⟨rfl,HI⟩|rfl
  ·intro D w' hD hWt hC hI;have hS:=hI.1;have HI:=yH (hI.step (k:=7) (by decide) (by decide));have kb:=HBk.out.below hS HBk.out.lt;have d:=kb.ledMap;clear hS hI hC hWt hD kb;refine yO rfl ?_;go_wp2_with fail;all_goals first|exact HI|exact⟨rfl,HI⟩|rfl
  ·intro D w' hD hWt hC hI;have h10:D 10=false:=aBl hC hD 12 10 (by kernel_rfl);obtain⟨q1,q2,q3,q4⟩:=hI;rw[hD,h10]at q2;have hz:w'.heap.size=w.heap.size:=by simpa using q2
   have hc:=clone_any (w:=w') (b:=M) (es:=es) (clock:=clock) (by rw[q1.block M hMlt];exact HM.out);rw[hz]at hc
   have HI:Hid (aMx w (.map es clock) (ledC ps (.map (some w.heap.size))) 155 (ins 8 D) (w'.alloc (.map es clock))):=yH (by
    refine⟨q1.alloc q1.size _,?_,fun _=>?_,fun d=>?_⟩
    ·rw[aHe,aCy D (by decide),h10];simp[hz]
    ·rw[←hz];exact heap_alloc_new _ _
    rw[aCy D (by decide),h10]at d
    cases d)
   have HC:=yH hc;clear q1 q2 q3 q4 hc hC hWt hD h10;refine yO rfl ?_;go_wp2_with fail;refine HC.out.mono ?_;rintro e w'' ⟨rfl,rfl⟩;exact⟨rfl,HI.out⟩
  ·intro D w' hD hWt hC hI;have HI:=yH (hI.step (k:=9) (by decide) (by decide));refine yO rfl ?_;refine aSf 155 #[(0,.tmp 9),(1,.tmp 14)] rfl #[(0,(.agg (parC ps).toArray)),(1,(.map (some w.heap.size)))] (by simp[Act.eval]) _ (build_led ps w.heap.size w') ?_;exact⟨rfl,HI.out⟩
  ·intro D w' hD hWt hC hI;have h8:D 8=true:=aA0 hC hWt (d:=12) (by kernel_rfl);obtain⟨q1,q2,q3,q4⟩:=hI;rw[hD,h8]at q2;have hz:w'.heap.size=w.heap.size+1:=by simpa using q2
   have HI:Hid (aMx w (.map es clock) (ledC ps (.map (some w.heap.size))) 155 (ins 10 D) (w'.alloc (.cells (ledC ps (.map (some w.heap.size))) 155))):=yH (by
    refine⟨q1.alloc q1.size _,?_,fun d=>?_,fun _=>?_⟩
    ·rw[aHe,aCy D (by decide),h8];simp[hz]
    ·rw[heap_alloc_old _ _ (by omega)];exact q3 h8
    rw[←hz];exact heap_alloc_new _ _)
   clear q1 q2 q3 q4 hC hWt hD h8;refine yO rfl ?_;go_wp2_with fail;all_goals first|exact HI|exact⟨rfl,HI⟩|exact⟨by rw[hz],HI.out⟩
  intro D w' hD hWt hC hI;have HI:=yH (hI.step (k:=11) (by decide) (by decide));clear hI hC hWt hD;refine yO rfl ?_;go_wp2_with fail;all_goals first|exact HI|exact⟨rfl,HI⟩|rfl
 intro D w2 hall hI;obtain⟨q1,q2,q3,q4⟩:=hI;have q3:=q3 (hall 8 (by decide));have q4:=q4 (hall 10 (by decide));have HE:=yH (show LedM w2 (w.heap.size+1) w.heap.size ps ls from⟨q4,HN.out w2 q3⟩);have HB:=yH q1;clear q1 q2 q3 q4 hall;go_wp2_with fail;refine bodyPost_ret (v:=.pointer (some ⟨w.heap.size+1,0,none⟩)) (by simp[results,Tryz.results76,go_sem]) rfl ?_;exact⟨w.heap.size+1,w.heap.size,rfl,HE.out,by omega,Nat.le_refl _,HB.out⟩
theorem aPj{w:World}{va vb:Value}{la lb:List Ln}(ha:aB7 w va 5 la.length (aBd la))(hb:aB7 w vb 5 lb.length (aBd lb)):
  Calls Tryz.prog 55 #[va,vb] w (yR w (.bool (decide (la=lb)))):=by
 have C:=yH (aPz ha hb);clear ha hb;generalize decide (la=lb)=r at *;go_enter Tryz.func55,Tryz.ntmps55;go_wp2_with fail;refine C.out.mono ?_;rintro e w1 ⟨rfl,b1⟩;go_wp2_with fail;go_ret;exact⟨rfl,b1⟩
theorem aMy{w:World}{va vb:Value}{la lb:List Int}(ha:aB7 w va 1 la.length (la.map (.int .u8)))(hb:aB7 w vb 1 lb.length (lb.map (.int .u8))):
  Calls Tryz.prog 54 #[va,vb] w (yR w (.bool (decide (la=lb)))):=by
 have C:=yH (aOu ha hb);clear ha hb;generalize decide (la=lb)=r at *;go_enter Tryz.func54,Tryz.ntmps54;go_wp2_with fail;refine C.out.mono ?_;rintro e w1 ⟨rfl,b1⟩;go_wp2_with fail;go_ret;exact⟨rfl,b1⟩
section
variable{w:World}{ao:Option Addr}{cap:Nat}{l:List Fw}
end
def ofN(l:List Fw)(a b:Int):Nat→Int
 | 0=>0
 | k+1=>if(dbt l (l.length - (k+1))).fr=a∧(dbt l (l.length - (k+1))).tt=b then(dbt l (l.length - (k+1))).am else ofN l a b k
def ofL(l:List Fw)(a b:Int):Int:=ofN l a b l.length
theorem ofN_next(l:List Fw)(a b:Int){k:Nat}(hk:k<l.length):ofN l a b (l.length - k)=if(dbt l k).fr=a∧(dbt l k).tt=b then(dbt l k).am else ofN l a b (l.length - (k+1)):=by
 rw[show l.length - k=(l.length - (k+1))+1 by omega];show(if(dbt l (l.length - (l.length - (k+1)+1))).fr=a∧_ then _ else _)=_;rw[show l.length - (l.length - (k+1)+1)=k by omega]
def stL(l:List Fw)(k:Nat)(p:Int):Int:=sumN (fun i=>psD l p i (amD l i)) k
theorem SlIn.debts{w:World}{a:Option Addr}{len cap:Nat}{xs:List Fw}(h:SlIn Fw.vals 3 Fw.Fits w a len cap xs):aFk w a xs:=by
 obtain⟨_,hl,_,_,_,h3⟩:=h;intro h0;obtain⟨b,off,ha,hb,hc⟩:=h3 (by omega);refine⟨b,off,ha,hb,fun m hm=>?_⟩;rw[aF9 hm];exact⟨hc m hm 0 _ rfl,hc m hm 1 _ rfl,hc m hm 2 _ rfl⟩
def sumL(g:Fw→Int):List Fw→Int
 | []=>0
 | x::r=>g x+sumL g r
theorem aIt(g:Fw→Int):∀(a b:List Fw),sumL g (a++b)=sumL g a+sumL g b
 | [],b=>by show _=0+_;rw[List.nil_append];omega
 | x::a,b=>by
  show g x+sumL g (a++b)=g x+sumL g a+sumL g b;rw[aIt g a b];omega
theorem sumN_take(g:Fw→Int)(l:List Fw):∀n,n≤l.length→sumN (fun i=>g (dbt l i)) n=sumL g (l.take n)
 | 0,_=>by simp[sumN,sumL]
 | n+1,h=>by
  show sumN (fun i=>g (dbt l i)) n+g (dbt l n)=_;rw[sumN_take g l n (by omega),List.take_succ_eq_append_getElem (by omega),aIt,aF9 (by omega)];show _=_+(g _+0);omega
theorem aIu(l:List Fw)(L:Nat→Int)(k:Nat):aIr l L (k+1)=aIr l L k++if 0<L k then [⟨(dbt l k).fr,(dbt l k).tt,L k⟩]else []:=rfl
theorem sumL_left(g:Fw→Int)(l:List Fw)(L:Nat→Int):∀n,sumL g (aIr l L n)=sumN (fun i=>if 0<L i then g ⟨(dbt l i).fr,(dbt l i).tt,L i⟩else 0) n
 | 0=>rfl
 | n+1=>by
  rw[aIu,aIt,sumL_left g l L n];show _=sumN _ n+if 0<L n then g ⟨(dbt l n).fr,(dbt l n).tt,L n⟩else 0
  split
  ·show _+(g _+0)=_;omega
  show _+0=_;omega
theorem aJk{l:List Fw}{L:Nat→Int}{x:Fw}:∀n,x∈aIr l L n↔∃i,i<n∧0<L i∧x=⟨(dbt l i).fr,(dbt l i).tt,L i⟩
 | 0=>by
  constructor
  ·intro h;cases h
  ·rintro⟨i,h,_⟩;omega
 | n+1=>by
  rw[aIu,List.mem_append,aJk n]
  constructor
  ·rintro(⟨i,h1,h2⟩|h)
   ·exact⟨i,by omega,h2⟩
   split at h
   ·rename_i hc;exact⟨n,by omega,hc,List.mem_singleton.1 h⟩
   cases h
  rintro⟨i,h1,h2,h3⟩
  by_cases hi:i=n
  ·subst hi;exact .inr (by rw[if_pos h2];exact List.mem_singleton.2 h3)
  exact .inl ⟨i,by omega,h2,h3⟩
theorem aTh{l:List Fw}{i:Nat}(h:i<l.length):dbt l i∈l:=by rw[aF9 h];exact List.getElem_mem h
theorem mem_dbt{l:List Fw}{x:Fw}(h:x∈l):∃i,i<l.length∧dbt l i=x:=by
 obtain⟨i,hi,rfl⟩:=List.getElem_of_mem h;exact⟨i,hi,aF9 hi⟩
theorem aKu{l:List Fw}(hM:MayD l)(L:Nat→Int):∀n,n≤l.length→(aIr l L n).Pairwise (fun x y=>keyD x<keyD y)
 | 0,_=>List.Pairwise.nil
 | n+1,h=>by
  rw[aIu,List.pairwise_append];refine⟨aKu hM L n (by omega),?_,?_⟩
  ·split
   ·exact List.pairwise_singleton _ _
   exact List.Pairwise.nil
  intro x hx y hy;obtain⟨i,hi,_,rfl⟩:=(aJk n).1 hx;split at hy
  ·rw[List.mem_singleton]at hy;subst hy;have:=hM.lt (i:=i) (n - i - 1) (by omega);rw[show i+(n - i - 1)+1=n by omega]at this;exact this
  cases hy
theorem left_at{l:List Fw}{L:Nat→Int}{i:Nat}(hi:i<(aMv l L).length):∃j,j<l.length∧0<L j∧dbt (aMv l L) i=⟨(dbt l j).fr,(dbt l j).tt,L j⟩:=(aJk l.length).1 (aTh hi)
theorem left_may{l:List Fw}{L:Nat→Int}(hM:MayD l)(hL:RdOk l L):MayD (aMv l L):=by
 refine⟨fun i hi=>?_,fun i hi=>?_⟩
 ·obtain⟨j,hj,h1,h2⟩:=left_at hi;rw[h2];obtain⟨a1,a2,a3,a4,a5⟩:=hM.ok j hj;have h3:=hL.hi j hj;exact⟨a1,a2,a3,by show 1≤L j;omega,by show L j≤1099511627776;omega⟩
 have h:=List.pairwise_iff_getElem.1 (aKu hM L l.length yL) i (i+1) (by show i<(aMv l L).length;omega) hi (by omega);rw[aF9 (by omega),aF9 hi];exact h
theorem ofN_none{l:List Fw}{a b:Int}(h:∀i,i<l.length→¬((dbt l i).fr=a∧(dbt l i).tt=b)):∀k,k≤l.length→ofN l a b k=0
 | 0,_=>rfl
 | k+1,hk=>by
  show(if(dbt l (l.length - (k+1))).fr=a∧(dbt l (l.length - (k+1))).tt=b then _ else ofN l a b k)=0;rw[if_neg (h _ (by omega)),ofN_none h k (by omega)]
theorem ofN_at{l:List Fw}(hM:MayD l){i:Nat}(hi:i<l.length):∀k,k≤l.length→l.length - k≤i→ofN l (dbt l i).fr (dbt l i).tt k=(dbt l i).am
 | 0,_,h=>by omega
 | k+1,hk,h=>by
  show(if(dbt l (l.length - (k+1))).fr=(dbt l i).fr∧(dbt l (l.length - (k+1))).tt=(dbt l i).tt then(dbt l (l.length - (k+1))).am else ofN l (dbt l i).fr (dbt l i).tt k)=_
  by_cases hc:(dbt l (l.length - (k+1))).fr=(dbt l i).fr∧(dbt l (l.length - (k+1))).tt=(dbt l i).tt
  ·rw[if_pos hc,hM.inj (by omega) hi hc.1 hc.2]
  rw[if_neg hc];have:l.length - (k+1)≠i:=fun e=>hc (by rw[e];exact⟨rfl,rfl⟩)
  exact ofN_at hM hi k (by omega) (by omega)
theorem ofL_at{l:List Fw}(hM:MayD l){i:Nat}(hi:i<l.length):ofL l (dbt l i).fr (dbt l i).tt=(dbt l i).am:=ofN_at hM hi l.length yL (by omega)
theorem ofL_left{l:List Fw}{L:Nat→Int}(hM:MayD l)(hL:RdOk l L){i:Nat}(hi:i<l.length):ofL (aMv l L) (dbt l i).fr (dbt l i).tt=L i:=by
 by_cases h0:0<L i
 ·obtain⟨j,hj,he⟩:=mem_dbt ((aJk (l:=l) (L:=L) l.length).2 ⟨i,hi,h0,rfl⟩);have:=ofL_at (left_may hM hL) hj
  change dbt (aMv l L) j=_ at he
  rw[he]at this;exact this
 have hz:L i=0:=by have:=hL.lo i hi;omega
 rw[hz];refine ofN_none (fun j hj hc=>?_) _ yL;obtain⟨m,hm,h1,h2⟩:=left_at hj;rw[h2]at hc;have:=hM.inj hm hi hc.1 hc.2;subst this;exact h0 h1
theorem aJl(g:Nat→Int)(n:Nat):sumN g (n+1)=sumN g n+g n:=rfl
def aMz(ls:List Ln)(c a b:Int):Int:=(lnAt ls b a c).db
def rowF(ls:List Ln)(c a:Int):Nat→List Fw
 | 0=>[]
 | k+1=>rowF ls c a k++if 0<aMz ls c a ((k+1:Nat):Int)then [⟨a,((k+1:Nat):Int),aMz ls c a ((k+1:Nat):Int)⟩]else []
def aM0(ls:List Ln)(c:Int):Nat→List Fw
 | 0=>[]
 | k+1=>aM0 ls c k++rowF ls c ((k+1:Nat):Int) 16
def aA4(ls:List Ln)(c:Int):List Fw:=aM0 ls c 16
theorem aHt{ls:List Ln}{c a:Int}{x:Fw}:∀{n:Nat},x∈rowF ls c a n↔∃k:Nat,1≤k∧k≤n∧0<aMz ls c a k∧x=⟨a,k,aMz ls c a k⟩
 | 0=>by
  constructor
  ·intro h;cases h
  ·rintro⟨k,h1,h2,_⟩;omega
 | n+1=>by
  unfold rowF;rw[List.mem_append,aHt]
  constructor
  ·rintro(⟨k,h1,h2,h3⟩|h)
   ·exact⟨k,h1,by omega,h3⟩
   split at h
   ·rename_i hp;rw[List.mem_singleton]at h;exact⟨n+1,by omega,Nat.le_refl _,hp,h⟩
   cases h
  rintro⟨k,h1,h2,h3,h4⟩
  by_cases hk:k=n+1
  ·subst hk
   right
   rw[if_pos h3,List.mem_singleton];exact h4
  exact .inl ⟨k,h1,by omega,h3,h4⟩
theorem aKc{ls:List Ln}{c:Int}{x:Fw}:∀{n:Nat},x∈aM0 ls c n↔∃a:Nat,1≤a∧a≤n∧x∈rowF ls c a 16
 | 0=>by
  constructor
  ·intro h;cases h
  ·rintro⟨k,h1,h2,_⟩;omega
 | n+1=>by
  unfold aM0;rw[List.mem_append,aKc]
  constructor
  ·rintro(⟨k,h1,h2,h3⟩|h)
   ·exact⟨k,h1,by omega,h3⟩
   exact⟨n+1,by omega,Nat.le_refl _,h⟩
  rintro⟨k,h1,h2,h3⟩
  by_cases hk:k=n+1
  ·subst hk;exact .inr h3
  exact .inl ⟨k,h1,by omega,h3⟩
theorem aHu{ls:List Ln}{c:Int}{x:Fw}:x∈aA4 ls c↔(1≤x.fr∧x.fr≤16)∧(1≤x.tt∧x.tt≤16)∧0<x.am∧x.am=aMz ls c x.fr x.tt:=by
 unfold aA4;rw[aKc]
 constructor
 ·rintro⟨a,h1,h2,h3⟩;obtain⟨k,h4,h5,h6,rfl⟩:=aHt.1 h3;exact⟨by dsimp only;omega,by dsimp only;omega,h6,rfl⟩
 rintro⟨h1,h2,h3,h4⟩;refine⟨x.fr.toNat,by omega,by omega,aHt.2 ⟨x.tt.toNat,by omega,by omega,?_,?_⟩⟩
 ·rw[Int.toNat_of_nonneg (by omega),Int.toNat_of_nonneg (by omega),←h4];exact h3
 rw[Int.toNat_of_nonneg (by omega),Int.toNat_of_nonneg (by omega),←h4]
theorem aM1{ls:List Ln}{c a:Int}:∀n:Nat,(rowF ls c a n).Pairwise fun x y=>keyD x<keyD y
 | 0=>List.Pairwise.nil
 | n+1=>by
  unfold rowF;rw[List.pairwise_append];refine⟨aM1 n,by split <;> simp,fun x hx y hy=>?_⟩;obtain⟨k,h1,h2,_,rfl⟩:=aHt.1 hx;split at hy
  ·rw[List.mem_singleton]at hy;subst hy;unfold keyD;dsimp only;omega
  cases hy
theorem aJm{ls:List Ln}{c:Int}:∀n:Nat,(aM0 ls c n).Pairwise fun x y=>keyD x<keyD y
 | 0=>List.Pairwise.nil
 | n+1=>by
  unfold aM0;rw[List.pairwise_append];refine⟨aJm n,aM1 16,fun x hx y hy=>?_⟩;obtain⟨a,h1,h2,h3⟩:=aKc.1 hx;obtain⟨k,h4,h5,_,rfl⟩:=aHt.1 h3;obtain⟨j,h6,h7,_,rfl⟩:=aHt.1 hy;unfold keyD;dsimp only;omega
theorem aGg(ls:List Ln)(c:Int):(aA4 ls c).Pairwise fun x y=>keyD x<keyD y:=aJm 16
attribute [irreducible] aA4 aM0 rowF
theorem dbt_sorted{D:List Fw}(h:D.Pairwise fun x y=>keyD x<keyD y){i j:Nat}(hij:i<j)(hj:j<D.length):keyD (dbt D i)<keyD (dbt D j):=by
 rw[aF9 hj,aF9 (by omega)];exact List.pairwise_iff_getElem.1 h i j (by omega) hj hij
theorem aM2{ps:List Int}{ls:List Ln}(h:LInv ps ls){c a b:Int}(hp:0<aMz ls c a b):∃y,aAk ls b a c=some y∧lnAt ls b a c=y∧y.Good∧y.cr=b∧y.de=a∧y.cu=c:=by
 unfold aMz at hp
 cases hl:aAk ls b a c with
 | none=>rw[aAu hl]at hp;exact absurd hp (by decide)
 | some y=>
  obtain⟨hm,h1,h2,h3⟩:=aAq hl;exact⟨y,rfl,aAj hl,h.inv.good y hm,h1,h2,h3⟩
theorem aKd{ps:List Int}{ls:List Ln}(h:LInv ps ls)(c:Int):MayD (aA4 ls c):=by
 refine⟨fun i hi=>?_,fun i hi=>dbt_sorted (aGg ls c) (Nat.lt_succ_self i) hi⟩;obtain⟨h1,h2,h3,h4⟩:=aHu.1 (aTh hi);obtain⟨y,_,hy,hg,k1,k2,_⟩:=aM2 h (c:=c) (by rw[←h4];exact h3);have hd:=hg.db;have hl:=hg.li;have hn:=hg.ne;have e:(dbt (aA4 ls c) i).am=y.db:=by rw[h4];unfold aMz;rw[hy]
 exact⟨h1,h2,by rw[←k1,←k2];exact fun e=>hn e.symm,by omega,by omega⟩
theorem forgive_at{ps:List Int}{ls:List Ln}(h:LInv ps ls){a b c n:Int}(h1:1≤n)(h2:n≤(lnAt ls a b c).db):
  aBe ls a b c n=0∧(∀a' b' c',aAk (aBa ls a b c n) a' b' c'=if a=a'∧b=b'∧c=c' then some ((lnAt ls a b c).owe ((lnAt ls a b c).db - n))else aAk ls a' b' c')∧
   (∀p q,posL (aBa ls a b c n) p q=posL ls p q+if q=c then(if b=p then n else 0) - (if a=p then n else 0)else 0)∧(∀q,totL (aBa ls a b c n) q=totL ls q - if q=c then n else 0):=by
 cases hl:aAk ls a b c with
 | none=>rw[aAu hl]at h2;exact absurd h2 (by unfold noLn;dsimp only;omega)
 | some x=>
  rw[aAj hl]at h2
  have hE:aBe ls a b c n=0:=by
   unfold aBe;rw[if_neg (by omega),if_neg (by rw[hl];simp),aAj hl,if_neg (by omega)]
  obtain⟨hm,k1,k2,k3⟩:=aAq hl;have hg:=h.inv.good x hm;have hdb:=hg.db;obtain⟨_,f,s,_⟩:=aO4 h.inv hl (d:=x.db - n) (by omega) (by omega)
  have hF:aBa ls a b c n=setL ls (x.owe (x.db - n)):=by
   unfold aBa;rw[if_pos hE,aAj hl]
  refine⟨hE,?_,fun p q=>?_,fun q=>?_⟩
  ·rw[hF,aAj hl];exact f
  ·rw[hF];unfold posL;rw[s (aDe p q) (aHi p q)];unfold aDe Ln.owe;simp only[k1,k2,k3]
   by_cases hq:c=q
   ·subst hq;simp only[if_true]
    (repeat' split) <;> omega
   rw[if_neg hq,if_neg hq,if_neg (fun e=>hq e.symm)];omega
  rw[hF];unfold totL;rw[s (aGt q) (by unfold aGt noLn;simp)];unfold aGt Ln.owe;simp only[k3]
  by_cases hq:c=q
  ·subst hq;simp only[if_true];omega
  rw[if_neg hq,if_neg hq,if_neg (fun e=>hq e.symm)];omega
theorem aKv{ls:List Ln}{a b c n:Int}(h:n<1):aBa ls a b c n=ls:=by
 unfold aBa aBe;rw[if_pos h,if_neg (by decide)]
def aKe(ls:List Ln)(c:Int)(D:List Fw)(L:Nat→Int):Nat→List Ln
 | 0=>ls
 | k+1=>aBa (aKe ls c D L k) (dbt D k).tt (dbt D k).fr c ((dbt D k).am - L k)
def ntL(ls:List Ln)(c:Int)(L:Nat→Int):List Ln:=aKe ls c (aA4 ls c) L (aA4 ls c).length
theorem aJn{ps:List Int}{ls:List Ln}(h:LInv ps ls)(c:Int)(D:List Fw)(L:Nat→Int):∀k,LInv ps (aKe ls c D L k)
 | 0=>h
 | k+1=>(aJn h c D L k).forgive _ _ _ _
structure NetTo(ls:List Ln)(c:Int)(D:List Fw)(L:Nat→Int)(k:Nat)(ms:List Ln):Prop where
 here:∀i,i<k→aAk ms (dbt D i).tt (dbt D i).fr c=(aAk ls (dbt D i).tt (dbt D i).fr c).map (fun x=>x.owe (L i))
 else_:∀a b q,(∀i,i<k→¬(q=c∧(dbt D i).tt=a∧(dbt D i).fr=b))→aAk ms a b q=aAk ls a b q
 pos:∀p q,posL ms p q=posL ls p q - if q=c then sumN (fun i=>psD D p i ((dbt D i).am - L i)) k else 0
 tot:∀q,totL ms q=totL ls q - if q=c then sumN (fun i=>(dbt D i).am - L i) k else 0
theorem owe_same{x:Ln}{d:Int}(h:x.db=d):x.owe d=x:=by subst h;rfl
theorem net_to{ps:List Int}{ls:List Ln}(h:LInv ps ls)(c:Int){L:Nat→Int}(hL:RdOk (aA4 ls c) L):∀k,k≤(aA4 ls c).length→NetTo ls c (aA4 ls c) L k (aKe ls c (aA4 ls c) L k)
 | 0,_=>⟨fun i hi=>by omega,fun _ _ _ _=>rfl,fun p q=>by simp[sumN,aKe],fun q=>by simp[sumN,aKe]⟩
 | k+1,hk=>by
  have ih:=net_to h c hL k (by omega);have hI:=aJn h c (aA4 ls c) L k;have hkl:k<(aA4 ls c).length:=by omega
  obtain⟨d1,d2,d3,d4⟩:=aHu.1 (aTh hkl);obtain⟨y,hy,hya,hg,y1,y2,y3⟩:=aM2 h (c:=c) (by rw[←d4];exact d3);have hM:=aKd h c
  have hnew:∀i,i<k→¬((dbt (aA4 ls c) i).tt=(dbt (aA4 ls c) k).tt∧(dbt (aA4 ls c) i).fr=(dbt (aA4 ls c) k).fr):=fun i hi e=>by
   have:=hM.inj (show i<(aA4 ls c).length by omega) hkl e.2 e.1;omega
  have hold:aAk (aKe ls c (aA4 ls c) L k) (dbt (aA4 ls c) k).tt (dbt (aA4 ls c) k).fr c=some y:=by
   rw[ih.else_ _ _ _ (fun i hi e=>hnew i hi e.2),hy]
  have ham:(dbt (aA4 ls c) k).am=y.db:=by rw[d4];unfold aMz;rw[hya]
  have lo:=hL.lo k hkl;have hi_:=hL.hi k hkl;show NetTo ls c (aA4 ls c) L (k+1) (aBa (aKe ls c (aA4 ls c) L k) (dbt (aA4 ls c) k).tt (dbt (aA4 ls c) k).fr c ((dbt (aA4 ls c) k).am - L k))
  by_cases hz:(dbt (aA4 ls c) k).am - L k<1
  ·rw[aKv hz];have he:(dbt (aA4 ls c) k).am - L k=0:=by omega
   refine⟨fun i hi=>?_,fun a b q hn=>ih.else_ a b q (fun i hi=>hn i (by omega)),fun p q=>?_,fun q=>?_⟩
   ·by_cases hik:i=k
    ·subst hik;rw[hold,hy];simp only[Option.map_some];rw[owe_same (by omega)]
    exact ih.here i (by omega)
   ·rw[ih.pos p q];congr 1;split
    ·rw[aJl,he];unfold psD;simp
    rfl
   rw[ih.tot q];congr 1;split
   ·rw[aJl,he];omega
   rfl
  obtain⟨_,f,s1,s2⟩:=forgive_at hI (a:=(dbt (aA4 ls c) k).tt) (b:=(dbt (aA4 ls c) k).fr) (c:=c) (n:=(dbt (aA4 ls c) k).am - L k) (by omega) (by rw[aAj hold];omega);rw[aAj hold]at f;refine⟨fun i hi=>?_,fun a b q hn=>?_,fun p q=>?_,fun q=>?_⟩
  ·rw[f]
   by_cases hik:i=k
   ·subst hik;rw[if_pos ⟨rfl,rfl,rfl⟩,hy];simp only[Option.map_some];congr 2;omega
   rw[if_neg (fun e=>hnew i (by omega) ⟨e.1.symm,e.2.1.symm⟩)];exact ih.here i (by omega)
  ·rw[f,if_neg (fun e=>hn k (by omega) ⟨e.2.2.symm,e.1,e.2.1⟩)];exact ih.else_ a b q (fun i hi=>hn i (by omega))
  ·rw[s1 p q,ih.pos p q];split
   ·rw[aJl];unfold psD;omega
   omega
  rw[s2 q,ih.tot q];split
  ·rw[aJl];omega
  omega
theorem net_is{ps:List Int}{ls:List Ln}(h:LInv ps ls)(c:Int){L:Nat→Int}(hL:RdOk (aA4 ls c) L):NetTo ls c (aA4 ls c) L (aA4 ls c).length (ntL ls c L):=net_to h c hL _ yL
theorem ntL_inv{ps:List Int}{ls:List Ln}(h:LInv ps ls)(c:Int)(L:Nat→Int):LInv ps (ntL ls c L):=aJn h c _ L _
def aKf(g:Nat)(w:World)(ao:Option Addr)(l:List Fw):Prop:=
 0<l.length→∃b off,ao=some ⟨b,off,none⟩∧b<w.heap.size∧b≠g∧∀m,m<l.length→w.cell? ⟨b,off+m*3,none⟩=some (.int .u8 (dbt l m).fr)∧w.cell? ⟨b,off+m*3+1,none⟩=some (.int .u8 (dbt l m).tt)∧w.cell? ⟨b,off+m*3+2,none⟩=some (.int .i64 (dbt l m).am)
theorem aKf.keep{g:Nat}{w w':World}{ao:Option Addr}{l:List Fw}(h:aKf g w ao l)(k:Keep (·=g) w w'):aKf g w' ao l:=fun h0=>by
 obtain⟨b,off,h1,h2,h3,h4⟩:=h h0;refine⟨b,off,h1,yM h2 k.size,h3,fun m hm=>?_⟩;obtain⟨a1,a2,a3⟩:=h4 m hm;exact⟨(k.cell (p:=⟨b,off+m*3,none⟩) h2 h3).trans a1,(k.cell (p:=⟨b,off+m*3+1,none⟩) h2 h3).trans a2,(k.cell (p:=⟨b,off+m*3+2,none⟩) h2 h3).trans a3⟩
theorem aKf.ins{g:Nat}{w:World}{ao:Option Addr}{l:List Fw}(h:aKf g w ao l):aFk w ao l:=fun h0=>by
 obtain⟨b,off,h1,h2,_,h4⟩:=h h0;exact⟨b,off,h1,h2,h4⟩
theorem pAL{w:World}{base g ca:Nat}{e:TypeId}{ao:Option Addr}{l:List Fw}(h:aBj w base e 3 (.slice ao l.length ca) l.length (aAn l))(hl:l.length≤100000000)(hg:g<base):aKf g w ao l:=fun h0=>by
 obtain⟨b,off,h1,h2,h3⟩:=aTb (h.reads hl) h0;refine⟨b,off,h1,h2,?_,h3⟩;obtain⟨_,hh⟩:=h;rcases hh with⟨hv,hn⟩|⟨b',cur,hv,hb,_⟩
 ·omega
 subst h1
 cases hv
 omega
def aFf(ls:List Ln)(c q:Int)(gone many er:Int)(ms:List Ln):Prop:=
 (¬((1≤c∧c≤8)∧0≤q)∧gone=0∧many=0∧er=1∧ms=ls)∨
 ((1≤c∧c≤8)∧0≤q∧∃L k,aG7 (aA4 ls c) L k∧(((k:Int)≤q∧gone=totL ls c - totL (ntL ls c L) c∧many=k∧er=0∧ms=ntL ls c L)∨(q<(k:Int)∧gone=0∧many=0∧er=13∧ms=ls)))
theorem aFf.eq{ls:List Ln}{c q g1 m1 e1 g2 m2 e2:Int}{s1 s2:List Ln}(h:aFf ls c q g1 m1 e1 s1)(k:aFf ls c q g2 m2 e2 s2):g1=g2∧m1=m2∧e1=e2∧s1=s2:=by
 rcases h with⟨a,rfl,rfl,rfl,rfl⟩|⟨a1,a2,L,j,hL,h⟩
 ·rcases k with⟨_,rfl,rfl,rfl,rfl⟩|⟨b1,b2,_⟩
  ·exact⟨rfl,rfl,rfl,rfl⟩
  exact absurd ⟨b1,b2⟩ a
 rcases k with⟨b,_⟩|⟨_,_,M,i,hM,k⟩
 ·exact absurd ⟨a1,a2⟩ b
 obtain⟨rfl,rfl⟩:=hL.eq hM;rcases h with⟨h0,rfl,rfl,rfl,rfl⟩|⟨h0,rfl,rfl,rfl,rfl⟩
 ·rcases k with⟨_,rfl,rfl,rfl,rfl⟩|⟨k0,_⟩
  ·exact⟨rfl,rfl,rfl,rfl⟩
  omega
 rcases k with⟨k0,_⟩|⟨_,rfl,rfl,rfl,rfl⟩
 ·omega
 exact⟨rfl,rfl,rfl,rfl⟩
structure aTi:Prop where
 at_:∀{w:World} {G M:Nat} {ps:List Int} {ls:List Ln},LedM w G M ps ls→LInv ps ls→∀c q:Int,In8 c→In64 q→
  Calls Tryz.prog 158 #[.pointer (some ⟨G,0,none⟩),.int .u8 c,.int .i64 q] w fun e w'=>∃gone many er ms,aFf ls c q gone many er ms∧e=.returned (.tuple #[.int .i64 gone,.int .i64 many,.int .i64 er])∧LedM w' G M ps ms∧Keep (·=M) w w'
structure Stp where
 kd:Int
 a:Int
 b:Int
 c:Int
 d:Int
 n:Int
 mx:Int
 nu:Int
 de:Int
 se:Int
deriving DecidableEq
def Stp.vals(x:Stp):List Value:=[.int .u8 x.kd,.int .u8 x.a,.int .u8 x.b,.int .u8 x.c,.int .u8 x.d,.int .i64 x.n,.int .i64 x.mx,.int .i64 x.nu,.int .i64 x.de,.int .u64 x.se]
theorem Stp.vals_len(x:Stp):x.vals.length=10:=rfl
def aJo(ls:List Stp):List Value:=ls.flatMap Stp.vals
theorem aQ5(ls:List Stp):(aJo ls).length=ls.length*10:=aFv _ 10 Stp.vals_len ls
theorem aKw(ls:List Stp)(i j:Nat)(hj:j<10)(h:i<ls.length):(aJo ls)[i*10+j]? = ls[i].vals[j]? := by
 unfold aJo;rw[aE6 _ 10 Stp.vals_len ls i j hj,List.getElem?_eq_getElem h];rfl
structure Stp.Fits(x:Stp):Prop where
 kd:In8 x.kd
 a:In8 x.a
 b:In8 x.b
 c:In8 x.c
 d:In8 x.d
 n:In64 x.n
 mx:In64 x.mx
 nu:In64 x.nu
 de:In64 x.de
 se:(0≤x.se∧x.se≤18446744073709551615)
structure Gt where
 gx:Int
 gy:Int
deriving DecidableEq
def Gt.vals(x:Gt):List Value:=[.int .i64 x.gx,.int .i64 x.gy]
theorem Gt.vals_len(x:Gt):x.vals.length=2:=rfl
def aAr(ls:List Gt):List Value:=ls.flatMap Gt.vals
def Gt.val(x:Gt):Value:=.agg #[.int .i64 x.gx,.int .i64 x.gy]
theorem aCp(ls:List Gt):(aAr ls).length=ls.length*2:=aFv _ 2 Gt.vals_len ls
theorem aE3(ls:List Gt)(i j:Nat)(hj:j<2)(h:i<ls.length):(aAr ls)[i*2+j]? = ls[i].vals[j]? := by
 unfold aAr;rw[aE6 _ 2 Gt.vals_len ls i j hj,List.getElem?_eq_getElem h];rfl
theorem aD3(a b:List Gt):aAr (a++b)=aAr a++aAr b:=by unfold aAr;exact List.flatMap_append
theorem aTj(x:Gt):aAr [x]=x.vals:=by simp[aAr]
theorem info_gt:(Tryz.prog.info? 93).map (fun i=>(i.zero,i.size,i.bytes))=some (some (Gt.val ⟨0,0⟩),2,16):=by kernel_rfl
theorem gt_parts(x y:Gt):(x=y)∨(x≠y∧(x.gx==y.gx)=false)∨(x≠y∧(x.gx==y.gx)=true∧(x.gy==y.gy)=false):=by
 obtain⟨a0,a1⟩:=x;obtain⟨b0,b1⟩:=y
 by_cases h0:a0=b0
 case neg=>simp[h0]
 by_cases h1:a1=b1
 case neg=>simp[h0,h1]
 simp[h0,h1]
theorem sameGt_any{w:World}{va vb:Value}{la lb:List Gt}(ha:aB7 w va 2 la.length (aAr la))(hb:aB7 w vb 2 lb.length (aAr lb)):
  Calls Tryz.prog 51 #[va,vb] w (yR w (.bool (decide (la=lb)))):=by
 obtain⟨ao,ca,rfl,a1,a2,a3⟩:=ha;obtain⟨bo,cb,rfl,b1,b2,b3⟩:=hb;have HA:=yH a3;have HB:=yH b3;clear a2 a3 b2 b3
 by_cases hlen:la.length=lb.length
 ·have L:=yH hlen;have hll:lb.length=la.length:=hlen.symm;rw[hll];clear hll hlen b1;go_enter Tryz.func51,Tryz.ntmps51;go_wp2
  go_loopw [5] (fun i wr=>∃k:Nat,k≤la.length∧i=.int .i64 k∧Hid (la.take k=lb.take k)∧Below w.heap.size w wr) (fun i _=>la.length - (intOf i).toNat)
  case atStart=>exact⟨0,Nat.zero_le _,rfl,yH (by simp),yZ⟩
  obtain⟨k,hk,rfl,ht,hbl⟩:=hrel;have BL:=yH hbl
  by_cases hkl:k<la.length
  ·have hkb:k<lb.length:=by have:=L.out;omega
   obtain⟨b1,o1,rfl,hlt1,hc1⟩:=HA.out (by omega);obtain⟨b2,o2,rfl,hlt2,hc2⟩:=HB.out (by omega);have HC1:=yH (fun j (hj:j<la.length*2)=>(hbl.cell (p:=⟨b1,o1+j,none⟩) hlt1).trans (hc1 j hj));have HC2:=yH (fun j (hj:j<lb.length*2)=>(hbl.cell (p:=⟨b2,o2+j,none⟩) hlt2).trans (hc2 j hj))
   have d0:wr.cell? ⟨b1,o1+k*2,none⟩=some (.int .i64 la[k].gx):=by
    have q1:=HC1.out (k*2+0) (by omega);rw[aE3 la k 0 (by omega) hkl]at q1
    first|exact q1|(rw[←Nat.add_assoc]at q1;exact q1)
   have d1:wr.cell? ⟨b1,o1+k*2+1,none⟩=some (.int .i64 la[k].gy):=by
    have q1:=HC1.out (k*2+1) (by omega);rw[aE3 la k 1 (by omega) hkl]at q1
    first|exact q1|(rw[←Nat.add_assoc]at q1;exact q1)
   have f0:wr.cell? ⟨b2,o2+k*2,none⟩=some (.int .i64 lb[k].gx):=by
    have q1:=HC2.out (k*2+0) (by omega);rw[aE3 lb k 0 (by omega) hkb]at q1
    first|exact q1|(rw[←Nat.add_assoc]at q1;exact q1)
   have f1:wr.cell? ⟨b2,o2+k*2+1,none⟩=some (.int .i64 lb[k].gy):=by
    have q1:=HC2.out (k*2+1) (by omega);rw[aE3 lb k 1 (by omega) hkb]at q1
    first|exact q1|(rw[←Nat.add_assoc]at q1;exact q1)
   have NE:=yH (fun(he:la[k]≠lb[k])=>show decide (la=lb)=false by
    rw[decide_eq_false_iff_not];rintro rfl;exact he rfl)
   have EQ:=yH (fun(he:la[k]=lb[k])=>aE8 hkl hkb ht.out he);clear hc1 hc2 HC1 HC2 hbl;generalize la[k]=x at *;generalize lb[k]=y at *;rcases gt_parts x y with rfl|⟨he,s0⟩|⟨he,s0,s1⟩
   ·clear NE;go_wp2
    go_region
    all_goals
     go_wp2;go_roundw
     case rel=>exact⟨k+1,by omega,by go_num,yH (EQ.out (by first|exact rfl|trivial)),by first|exact BL.out.drew|exact BL.out⟩
     case measure=>simp[intOf];omega
   ·have E:=yH (NE.out he);clear he NE EQ;go_wp2
    go_region
    all_goals
     go_wp2;go_ret;exact⟨by rw[E.out];rfl,by first|exact BL.out.drew|exact BL.out⟩
   have E:=yH (NE.out he);clear he NE EQ;go_wp2
   go_region
   all_goals
    go_wp2;go_ret;exact⟨by rw[E.out];rfl,by first|exact BL.out.drew|exact BL.out⟩
  have E:=yH (show decide (la=lb)=true by
   have h1:=ht.out;rw[List.take_of_length_le (by omega),List.take_of_length_le (by have:=L.out;omega)]at h1;rw[decide_eq_true_eq];exact h1)
  go_wp2;go_ret;exact⟨by rw[E.out];rfl,BL.out⟩
 have E:=yH (show decide (la=lb)=false by rw[decide_eq_false_iff_not];rintro rfl;exact hlen rfl);have q:((la.length:Int)==(lb.length:Int))=false:=by simp;omega
 clear hlen;go_enter Tryz.func51,Tryz.ntmps51;go_wp2;go_ret;exact⟨by rw[E.out];rfl,yZ⟩
theorem kinds(k:Int):k=1∨k=2∨k=3∨k=4∨k=5∨k=6∨k=7∨k=8∨k=9∨k=10∨k=11∨(¬k=1∧¬k=2∧¬k=3∧¬k=4∧¬k=5∧¬k=6∧¬k=7∧¬k=8∧¬k=9∧¬k=10∧¬k=11):=by omega
structure Hs where
 ps:List Int
 ls:List Ln
 l:List Of
 N:Int
structure HInv(σ:Hs):Prop where
 li:LInv σ.ps σ.ls
 bi:BInv σ.l σ.N
 own:∀o∈σ.l,o.ow∈σ.ps
theorem HInv.start:HInv ⟨[],[],[],1⟩:=⟨LInv.nil,BInv.nil (by decide) (by decide),fun o h=>by cases h⟩
theorem aFf.lin{ps:List Int}{ls ms:List Ln}{c q g m e:Int}(h:aFf ls c q g m e ms)(hI:LInv ps ls):LInv ps ms:=by
 rcases h with⟨_,_,_,_,rfl⟩|⟨_,_,L,k,_,⟨_,_,_,_,rfl⟩|⟨_,_,_,_,rfl⟩⟩
 ·exact hI
 ·exact ntL_inv hI c L
 exact hI
theorem net_ends{ps:List Int}{ls:List Ln}(hI:LInv ps ls)(c q:Int):∃r:Int×Int×Int×List Ln,aFf ls c q r.1 r.2.1 r.2.2.1 r.2.2.2:=by
 by_cases h:(1≤c∧c≤8)∧0≤q
 ·obtain⟨L,k,hL⟩:=aOc (aKd hI c)
  by_cases hk:(k:Int)≤q
  ·exact⟨(_,_,_,_),.inr ⟨h.1,h.2,L,k,hL,.inl ⟨hk,rfl,rfl,rfl,rfl⟩⟩⟩
  exact⟨(_,_,_,_),.inr ⟨h.1,h.2,L,k,hL,.inr ⟨by omega,rfl,rfl,rfl,rfl⟩⟩⟩
 exact⟨(_,_,_,_),.inl ⟨h,rfl,rfl,rfl,rfl⟩⟩
noncomputable def aDg(ls:List Ln)(c q:Int):Int×Int×Int×List Ln:=@Classical.epsilon _ ⟨(0,0,0,ls)⟩ (fun r=>aFf ls c q r.1 r.2.1 r.2.2.1 r.2.2.2)
theorem nettS_is{ps:List Int}{ls:List Ln}(hI:LInv ps ls)(c q:Int):aFf ls c q (aDg ls c q).1 (aDg ls c q).2.1 (aDg ls c q).2.2.1 (aDg ls c q).2.2.2:=
 @Classical.epsilon_spec _ (fun r:Int×Int×Int×List Ln=>aFf ls c q r.1 r.2.1 r.2.2.1 r.2.2.2) (net_ends hI c q)
theorem aFf.isS{ps:List Int}{ls ms:List Ln}{c q g m e:Int}(h:aFf ls c q g m e ms)(hI:LInv ps ls):aDg ls c q=(g,m,e,ms):=by
 obtain⟨h1,h2,h3,h4⟩:=(nettS_is hI c q).eq h;exact Prod.ext h1 (Prod.ext h2 (Prod.ext h3 h4))
noncomputable def aA7(σ:Hs)(s:Stp):Hs×Gt×Int:=
 if s.kd=1 then(⟨aGr σ.ps s.a,σ.ls,σ.l,σ.N⟩,⟨0,0⟩,aHy σ.ps s.a)
 else if s.kd=2 then(⟨σ.ps,aA8 σ.ps σ.ls s.a s.b s.c s.n,σ.l,σ.N⟩,⟨0,0⟩,aAo σ.ps σ.ls s.a s.b s.c s.n)
 else if s.kd=3 then(⟨σ.ps,paidS σ.ps σ.ls s.a s.b s.c s.n,σ.l,σ.N⟩,⟨payN σ.ps s.a s.b s.c s.n (aBy (aAt σ.ps σ.ls s.c) s.a s.b s.n),0⟩,payE σ.ps s.a s.b s.c s.n (aBy (aAt σ.ps σ.ls s.c) s.a s.b s.n))
 else if s.kd=4 then
  if(aDv σ.ps σ.ls σ.l s.a s.b s.c s.d s.n s.mx).1=0 then(⟨σ.ps,(aDv σ.ps σ.ls σ.l s.a s.b s.c s.d s.n s.mx).2.ls,(aDv σ.ps σ.ls σ.l s.a s.b s.c s.d s.n s.mx).2.l,σ.N⟩,⟨((aDv σ.ps σ.ls σ.l s.a s.b s.c s.d s.n s.mx).2.fs.map Fl.gi).sum,(aDv σ.ps σ.ls σ.l s.a s.b s.c s.d s.n s.mx).2.fs.length⟩,0)
  else(σ,⟨0,0⟩,(aDv σ.ps σ.ls σ.l s.a s.b s.c s.d s.n s.mx).1)
 else if s.kd=5 then
  if(aBz σ.ps σ.ls σ.l σ.N s.a s.c s.d s.n s.nu s.de).1=0 then(⟨σ.ps,(aBz σ.ps σ.ls σ.l σ.N s.a s.c s.d s.n s.nu s.de).2.1.ls,(aBz σ.ps σ.ls σ.l σ.N s.a s.c s.d s.n s.nu s.de).2.1.l,(aBz σ.ps σ.ls σ.l σ.N s.a s.c s.d s.n s.nu s.de).2.2.1⟩,
   ⟨((aBz σ.ps σ.ls σ.l σ.N s.a s.c s.d s.n s.nu s.de).2.1.fs.map Fl.got).sum,IntKind.i64.wrap (aBz σ.ps σ.ls σ.l σ.N s.a s.c s.d s.n s.nu s.de).2.2.2⟩,0)
  else(σ,⟨0,0⟩,(aBz σ.ps σ.ls σ.l σ.N s.a s.c s.d s.n s.nu s.de).1)
 else if s.kd=6 then(⟨σ.ps,σ.ls,aDr σ.l s.a s.se,σ.N⟩,⟨aDq σ.l s.a s.se,0⟩,aB9 σ.l s.a s.se)
 else if s.kd=7 then(⟨σ.ps,(aDg σ.ls s.c s.mx).2.2.2,σ.l,σ.N⟩,⟨(aDg σ.ls s.c s.mx).1,(aDg σ.ls s.c s.mx).2.1⟩,(aDg σ.ls s.c s.mx).2.2.1)
 else if s.kd=8 then(σ,⟨(lnAt σ.ls s.a s.b s.c).db,(lnAt σ.ls s.a s.b s.c).li⟩,0)
 else if s.kd=9 then(σ,⟨posL σ.ls s.a s.c,0⟩,0)
 else if s.kd=10 then(σ,⟨totL σ.ls s.c,0⟩,0)
 else if s.kd=11 then(σ,⟨aK3 σ.l s.se,0⟩,if(aBb σ.l s.se).isSome=true then 0 else 7)
 else(σ,⟨0,0⟩,1)
theorem swapF_inv{ps:List Int}{ls:List Ln}{l:List Of}{N fr pt get give n most:Int}(hI:LInv ps ls)(hJ:BInv l N)(h:(aDv ps ls l fr pt get give n most).1=0):aE1 ps ls l N fr pt get give n (aDv ps ls l fr pt get give n most).2:=by
 have hs:=aE1.ends (ps:=ps) (tk:=fr) (pt:=pt) (get:=get) (give:=give) 64 (aE1.start (n0:=n) hI hJ);unfold aDv at h ⊢;split at h
 ·cases h
 split at h
 ·cases h
 split at h
 ·rename_i k1 k2 k3;exact absurd h k3
 split at h
 ·cases h
 rename_i k1 k2 k3 k4;rw[if_neg k1,if_neg k2,if_neg k3,if_neg k4];exact hs
theorem open_mem{ps:List Int}(p:Int)(hb:∀q∈ps,1≤q∧q≤16){q:Int}(h:q∈ps):q∈aGr ps p:=by
 unfold aGr
 by_cases h1:p<1∨16<p
 ·rw[if_pos h1];exact h
 rw[if_neg h1]
 by_cases h2:p∈ps
 ·rw[if_pos h2];exact h
 rw[if_neg h2,aEq];exact⟨by have:=hb q h;omega,.inr h⟩
theorem HInv.step{σ:Hs}(h:HInv σ)(s:Stp):HInv (aA7 σ s).1:=by
 have hl:=h.li;have hb:=h.bi;have ho:=h.own;unfold aA7
 by_cases k1:s.kd=1
 ·rw[if_pos k1];exact⟨hl.open s.a,hb,fun o hm=>open_mem _ hl.bd (ho o hm)⟩
 rw[if_neg k1]
 by_cases k2:s.kd=2
 ·rw[if_pos k2];exact⟨hl.trust _ _ _ _,hb,ho⟩
 rw[if_neg k2]
 by_cases k3:s.kd=3
 ·rw[if_pos k3];exact⟨aQu hl _ _ _ _,hb,ho⟩
 rw[if_neg k3]
 by_cases k4:s.kd=4
 ·rw[if_pos k4]
  by_cases h0:(aDv σ.ps σ.ls σ.l s.a s.b s.c s.d s.n s.mx).1=0
  ·rw[if_pos h0];have hi:=swapF_inv hl hb h0;refine⟨hi.linv,hi.binv,fun o hm=>?_⟩;obtain⟨y,hy,e,_⟩:=hi.like o.se o (aJ6 hi.binv hm);show o.ow∈σ.ps;rw[←e];exact ho y (aCc hy).1
  rw[if_neg h0];exact h
 rw[if_neg k4]
 by_cases k5:s.kd=5
 ·rw[if_pos k5]
  by_cases h0:(aBz σ.ps σ.ls σ.l σ.N s.a s.c s.d s.n s.nu s.de).1=0
  ·rw[if_pos h0];obtain⟨r,hr⟩:∃r,aBz σ.ps σ.ls σ.l σ.N s.a s.c s.d s.n s.nu s.de=r:=⟨_,rfl⟩;obtain⟨e,τ,N',sq⟩:=r;rw[hr]at h0 ⊢;have h0':e=0:=h0;subst h0';obtain⟨υ,hd⟩:=aMs hl hb hr;obtain⟨h1,h2,_⟩:=hd.next
   have hold:∀o∈υ.l,o.ow∈σ.ps:=fun o hm=>by
    obtain⟨y,hy,e,_⟩:=hd.inv.like o.se o (aJ6 hd.inv.binv hm);rw[←e];exact ho y (aCc hy).1
   refine⟨h1,h2,fun o hm=>?_⟩;rcases hd.ends with⟨_,rfl,_⟩|⟨_,_,_,rfl,_⟩
   ·exact hold o hm
   rcases List.mem_append.1 hm with hm|hm
   ·exact hold o hm
   rw[List.mem_singleton]at hm;subst hm;exact hd.part
  rw[if_neg h0];exact h
 rw[if_neg k5]
 by_cases k6:s.kd=6
 ·rw[if_pos k6];refine⟨hl,hb.cancel _ _,fun o hm=>?_⟩
  change o∈aDr σ.l s.a s.se at hm
  unfold aDr at hm
  by_cases hc:aB9 σ.l s.a s.se=0
  ·rw[if_pos hc]at hm;obtain⟨_,x,hx,rfl|⟨_,rfl⟩⟩:=aLe hm
   ·exact ho _ hx
   exact ho x hx
  rw[if_neg hc]at hm;exact ho o hm
 rw[if_neg k6]
 by_cases k7:s.kd=7
 ·rw[if_pos k7];exact⟨(nettS_is hl s.c s.mx).lin hl,hb,ho⟩
 rw[if_neg k7]
 by_cases k8:s.kd=8
 ·rw[if_pos k8];exact h
 rw[if_neg k8]
 by_cases k9:s.kd=9
 ·rw[if_pos k9];exact h
 rw[if_neg k9]
 by_cases k10:s.kd=10
 ·rw[if_pos k10];exact h
 rw[if_neg k10]
 by_cases k11:s.kd=11
 ·rw[if_pos k11];exact h
 rw[if_neg k11];exact h
noncomputable def runF(τ:Hs):List Stp→Nat→List Gt→Hs×Int×Nat×List Gt
 | [],_,gs=>(τ,0,0,gs)
 | s::r,i,gs=>if(aA7 τ s).2.2≠0 then(τ,(aA7 τ s).2.2,i,[])else runF (aA7 τ s).1 r (i+1) (gs++[(aA7 τ s).2.1])
noncomputable def aBh(σ:Hs)(xs:List Stp):Hs×Int×Nat×List Gt:=
 if xs.length<1∨8<xs.length then(σ,3,0,[])else if(runF σ xs 0 []).2.1≠0 then(σ,(runF σ xs 0 []).2.1,(runF σ xs 0 []).2.2.1,[])else runF σ xs 0 []
theorem runF_inv:∀(xs:List Stp) {τ:Hs} (i:Nat) (gs:List Gt),HInv τ→HInv (runF τ xs i gs).1
 | [],τ,i,gs,h=>h
 | s::r,τ,i,gs,h=>by
  unfold runF;split
  ·exact h
  exact runF_inv r (i+1) _ (h.step s)
theorem HInv.apply{σ:Hs}(h:HInv σ)(xs:List Stp):HInv (aBh σ xs).1:=by
 unfold aBh;split
 ·exact h
 split
 ·exact h
 exact runF_inv xs 0 [] h
theorem aQ6{τ:Hs}{xs:List Stp}{k i:Nat}{gs:List Gt}(hk:k<xs.length):runF τ (xs.drop k) i gs=if(aA7 τ xs[k]).2.2≠0 then(τ,(aA7 τ xs[k]).2.2,i,[])else runF (aA7 τ xs[k]).1 (xs.drop (k+1)) (i+1) (gs++[(aA7 τ xs[k]).2.1]):=by
 rw[List.drop_eq_getElem_cons hk];rfl
theorem runF_end{τ:Hs}{xs:List Stp}{i:Nat}{gs:List Gt}:runF τ (xs.drop xs.length) i gs=(τ,0,0,gs):=by
 rw[List.drop_length];rfl
theorem runF_len:∀(xs:List Stp) {τ:Hs} {i:Nat} {gs:List Gt},(runF τ xs i gs).2.1=0→(runF τ xs i gs).2.2.2.length=gs.length+xs.length∧(runF τ xs i gs).2.2.1=0
 | [],τ,i,gs,_=>⟨rfl,rfl⟩
 | s::r,τ,i,gs,h=>by
  unfold runF at h ⊢;split at h
  ·rename_i he;exact absurd h he
  rename_i he;rw[if_neg he];have:=runF_len r h;rw[List.length_append,List.length_singleton]at this;rw[List.length_cons];exact⟨by omega,this.2⟩
theorem aOj:∀(xs:List Stp) {τ:Hs} {i:Nat} {gs:List Gt},(runF τ xs i gs).2.1=0→∃hs,(runF τ xs i gs).2.2.2=gs++hs
 | [],τ,i,gs,_=>⟨[],(List.append_nil _).symm⟩
 | s::r,τ,i,gs,h=>by
  unfold runF at h ⊢;split at h
  ·rename_i he;exact absurd h he
  rename_i he;rw[if_neg he];obtain⟨hs,e⟩:=aOj r h;exact⟨_,by rw[e,List.append_assoc]⟩
theorem applyF_one(σ:Hs)(s:Stp):aBh σ [s]=if(aA7 σ s).2.2≠0 then(σ,(aA7 σ s).2.2,0,[])else((aA7 σ s).1,0,0,[(aA7 σ s).2.1]):=by
 unfold aBh runF runF;rw[if_neg (by simp)]
 by_cases h:(aA7 σ s).2.2≠0
 ·rw[if_pos h,if_pos h,if_pos h]
 rw[if_neg h,if_neg h,if_neg (fun h=>h rfl)];rfl
theorem aOk{σ τ:Hs}{xs:List Stp}{er:Int}{k:Nat}(hl:1≤xs.length∧xs.length≤8)(h:runF σ xs 0 []=(τ,er,k,[]))(he:er≠0):aBh σ xs=(σ,er,k,[]):=by
 unfold aBh;rw[if_neg (by omega),h,if_pos he]
theorem aQ7{σ τ:Hs}{xs:List Stp}{gs:List Gt}(hl:1≤xs.length∧xs.length≤8)(h:runF σ xs 0 []=(τ,0,0,gs)):aBh σ xs=(τ,0,0,gs):=by
 unfold aBh;rw[if_neg (by omega),h,if_neg (fun e=>e rfl)]
noncomputable def cmdsF(σ:Hs):List (List Stp)→Hs
 | []=>σ
 | x::r=>cmdsF (aBh σ x).1 r
theorem cmdsF_take(σ:Hs):∀(xs:List (List Stp)) {k:Nat} (hk:k<xs.length),cmdsF σ (xs.take (k+1))=(aBh (cmdsF σ (xs.take k)) xs[k]).1:=by
 intro xs
 induction xs generalizing σ with
 | nil=>intro k hk;cases hk
 | cons x r ih=>
  intro k hk
  cases k with
  | zero=>rfl
  | succ k=>
   exact ih _ (Nat.lt_of_succ_lt_succ hk)
theorem aQ8{σ:Hs}(h:HInv σ):∀(xs:List (List Stp)),HInv (cmdsF σ xs)
 | []=>h
 | x::r=>aQ8 (h.apply x) r
end Go.Proofs.YtngnfdnfpiiclaaGreat
namespace Go.Proofs.YtngnfdnfpiiclaaGreat
open Go.RowKit Go.ChangeShapes Go.WideShapes Go.Deep
section
variable{H:Type}{enc:TypeId×Value→H}{P:Program}{w:World}{base:Nat}{spare:Nat→Bool}{held:Bool}
theorem step_of{t:TypeId}{f0 f1 f2 f3 f4 f5 f6 f7 f8 g0 g1:Field}(hu:P.underlying t=some (.struct #[f0,f1,f2,f3,f4,f5,f6,f7,f8]))(hC:P.cellsOf t=10)
  (o:f0.offset=0∧f1.offset=1∧f2.offset=2∧f3.offset=3∧f4.offset=4∧f5.offset=5∧f6.offset=6∧f7.offset=7∧f8.offset=9)
  (c:P.cellsOf f0.type=1∧P.cellsOf f1.type=1∧P.cellsOf f2.type=1∧P.cellsOf f3.type=1∧P.cellsOf f4.type=1∧P.cellsOf f5.type=1∧P.cellsOf f6.type=1∧P.cellsOf f7.type=2∧P.cellsOf f8.type=1)
  (k:P.underlying f0.type=some (.int .u8)∧P.underlying f1.type=some (.int .u8)∧P.underlying f2.type=some (.int .u8)∧P.underlying f3.type=some (.int .u8)∧P.underlying f4.type=some (.int .u8)∧P.underlying f5.type=some (.int .i64)∧P.underlying f6.type=some (.int .i64)∧P.underlying f8.type=some (.int .u64))
  (hr:P.underlying f7.type=some (.struct #[g0,g1]))(og:g0.offset=0∧g1.offset=1)(cg:P.cellsOf g0.type=1∧P.cellsOf g1.type=1)(kg:P.underlying g0.type=some (.int .i64)∧P.underlying g1.type=some (.int .i64))
  {fuel:Nat}{cs:List Value}{x:DataW H×List MemPlace}(h:DataW.trod enc P w base spare held fuel t cs=some x):∃x:Stp,x.Fits∧cs=x.vals:=by
 obtain⟨xs,n,_,_,hlen,hxl,hf⟩:=DataW.trod_struct hu h;rw[hC]at hlen;obtain⟨m0,e0,w0⟩:=aH0 hxl hf (j:=0) rfl o.1 c.1 k.1 (by omega);obtain⟨m1,e1,w1⟩:=aH0 hxl hf (j:=1) rfl o.2.1 c.2.1 k.2.1 (by omega);obtain⟨m2,e2,w2⟩:=aH0 hxl hf (j:=2) rfl o.2.2.1 c.2.2.1 k.2.2.1 (by omega);obtain⟨m3,e3,w3⟩:=aH0 hxl hf (j:=3) rfl o.2.2.2.1 c.2.2.2.1 k.2.2.2.1 (by omega);obtain⟨m4,e4,w4⟩:=aH0 hxl hf (j:=4) rfl o.2.2.2.2.1 c.2.2.2.2.1 k.2.2.2.2.1 (by omega);obtain⟨m5,e5,w5⟩:=aH0 hxl hf (j:=5) rfl o.2.2.2.2.2.1 c.2.2.2.2.2.1 k.2.2.2.2.2.1 (by omega);obtain⟨m6,e6,w6⟩:=aH0 hxl hf (j:=6) rfl o.2.2.2.2.2.2.1 c.2.2.2.2.2.2.1 k.2.2.2.2.2.2.1 (by omega);have h7:=hf 7 f7 rfl;rw[o.2.2.2.2.2.2.2.1,c.2.2.2.2.2.2.2.1]at h7;rw[List.getElem?_eq_getElem (by rw[hxl];simp:7<xs.length)]at h7;obtain⟨m7,m8,e7,w7,w8⟩:=pair_of hr c.2.2.2.2.2.2.2.1 og.1 og.2 cg.1 cg.2 kg.1 kg.2 h7;obtain⟨m9,e9,w9⟩:=aH0 hxl hf (j:=8) rfl o.2.2.2.2.2.2.2.2 c.2.2.2.2.2.2.2.2 k.2.2.2.2.2.2.2 (by omega)
 match cs,hlen with
 | [a0,a1,a2,a3,a4,a5,a6,a7,a8,a9],_=>
  simp at e0 e1 e2 e3 e4 e5 e6 e7 e9;obtain⟨e7,e8⟩:=e7;subst e0 e1 e2 e3 e4 e5 e6 e7 e8 e9;exact⟨⟨m0,m1,m2,m3,m4,m5,m6,m7,m8,m9⟩,⟨In8.of_wf w0,In8.of_wf w1,In8.of_wf w2,In8.of_wf w3,In8.of_wf w4,In64.of_wf w5,In64.of_wf w6,In64.of_wf w7,In64.of_wf w8,aD5.of_wf w9⟩,rfl⟩
end
theorem slice1c_of{H:Type}{enc:TypeId×Value→H}{w:World}{base:Nat}{spare:Nat→Bool}{held:Bool}{P:Program}{t e:TypeId}{n:Nat}{v:Value}{y:DataW H×List MemPlace}(ht:P.underlying t=some (.slice e))(h:DataW.trod enc P w base spare held n t [v]=some y):∃a len cap,v=.slice a len cap:=by
 rcases open_slice ht h with⟨h0,_⟩|⟨ad,l,c,m,n,D,Pl,hcs,_⟩
 ·exact⟨_,_,_,(List.cons.inj h0).1⟩
 exact⟨_,_,_,(List.cons.inj hcs).1⟩
theorem SlIn.steps{w:World}{a:Option Addr}{len cap:Nat}{xs:List Stp}(h:SlIn Stp.vals 10 Stp.Fits w a len cap xs)(hn:len≤100000000):aB7 w (.slice a xs.length cap) 10 xs.length (aJo xs):=by
 obtain⟨h0,h1,h2,h3,h4,h5⟩:=h;subst h1;refine⟨a,cap,rfl,hn,aQ5 xs,fun hp=>?_⟩;obtain⟨b,off,rfl,hlt,hc⟩:=h5 hp;refine⟨b,off,rfl,hlt,fun j hj=>?_⟩;have hi:j/10<xs.length:=by omega
 have hm:j%10<10:=Nat.mod_lt _ (by decide);have h4:=aKw xs (j/10) (j%10) hm hi;rw[show j/10*10+j%10=j by omega]at h4;have hv:(xs[j/10].vals)[j%10]? = some (xs[j/10].vals[j%10]'(by rw[Stp.vals_len];omega)):=List.getElem?_eq_getElem _;have h5:=hc (j/10) hi (j%10) _ hv;rw[show off+j/10*10+j%10=off+j by omega]at h5;rw[h5,h4,hv]
structure Cm where
 a:Option Addr
 n:Nat
 c:Nat
 xs:List Stp
def Cm.vals(x:Cm):List Value:=[.slice x.a x.n x.c]
theorem Cm.vals_len(x:Cm):x.vals.length=1:=rfl
def Cm.In(w:World)(x:Cm):Prop:=SlIn Stp.vals 10 Stp.Fits w x.a x.n x.c x.xs
theorem Cm.In.below{w w':World}{x:Cm}(h:x.In w)(k:Below w.heap.size w w'):x.In w':=SlIn.below h k
section
variable{H:Type}{enc:TypeId×Value→H}{w:World}{base:Nat}{spare:Nat→Bool}{held:Bool}
theorem step_read{fuel:Nat}{cs:List Value}{x:DataW H×List MemPlace}(h:DataW.trod enc Tryz.prog w base spare held fuel 87 cs=some x):∃x:Stp,x.Fits∧cs=x.vals:=
 step_of Tryz.underlying87 (by kernel_rfl) ⟨rfl,rfl,rfl,rfl,rfl,rfl,rfl,rfl,rfl⟩ ⟨by kernel_rfl,by kernel_rfl,by kernel_rfl,by kernel_rfl,by kernel_rfl,by kernel_rfl,by kernel_rfl,by kernel_rfl,by kernel_rfl⟩
  ⟨Tryz.underlying85,Tryz.underlying68,Tryz.underlying68,Tryz.underlying69,Tryz.underlying69,Tryz.underlying2,Tryz.underlying2,Tryz.underlying44⟩
  Tryz.underlying73 ⟨rfl,rfl⟩ ⟨by kernel_rfl,by kernel_rfl⟩ ⟨Tryz.underlying2,Tryz.underlying2⟩ h
theorem steps_open{a:Option Addr}{len cap:Nat}{d:DataW H}{p:List MemPlace}(h:DataW.Trod enc Tryz.prog w base spare held 29 (.slice a len cap) d p):∃xs:List Stp,SlIn Stp.vals 10 Stp.Fits w a len cap xs:=
 sl_open Tryz.underlying29 (by kernel_rfl) Stp.vals_len (by decide) (fun fuel cs x h=>step_read h) h
theorem cmd_read{fuel:Nat}{cs:List Value}{x:DataW H×List MemPlace}(h:DataW.trod enc Tryz.prog w base spare held fuel 32 cs=some x):∃x:Cm,x.In w∧cs=x.vals:=by
 obtain⟨xs,n,_,_,hlen,hxl,hf⟩:=DataW.trod_struct Tryz.underlying32 h;rw[show Tryz.prog.cellsOf 32=1 by kernel_rfl]at hlen;have h0:=hf 0 _ rfl
 match cs,hlen with
 | [v],_=>
  rw[List.getElem?_eq_getElem (by rw[hxl];simp:0<xs.length)]at h0;have h1:DataW.trod enc Tryz.prog w base spare held n 29 [v]=some (xs[0]'(by rw[hxl];simp)):=h0;obtain⟨a,len,cap,rfl⟩:=slice1c_of Tryz.underlying29 h1;obtain⟨ys,hy⟩:=steps_open (a:=a) (len:=len) (cap:=cap) ⟨n,h1⟩;exact⟨⟨a,len,cap,ys⟩,hy,rfl⟩
theorem cmd_open{r:Reach}{b0:Nat}{v:Value}{d:DataW H}{p:List MemPlace}(hv:Value.okWide Tryz.prog w r b0 32 v)(h:DataW.Trod enc Tryz.prog w base spare held 32 v d p):
  ∃x:Cm,v=.agg #[.slice x.a x.n x.c]∧x.In w:=by
 obtain⟨cs,rfl,_⟩:=okWide_struct Tryz.underlying32 hv;obtain⟨fuel,hf⟩:=h;obtain⟨x,hx,hc⟩:=cmd_read hf;refine⟨x,?_,hx⟩;have:cs.toList=x.vals:=by simpa [Value.cells]using hc
 rw[show cs=x.vals.toArray by rw[←this]];rfl
theorem cmds_open{a:Option Addr}{len cap:Nat}{d:DataW H}{p:List MemPlace}(h:DataW.Trod enc Tryz.prog w base spare held 22 (.slice a len cap) d p):∃xs:List Cm,SlIn Cm.vals 1 (Cm.In w) w a len cap xs:=
 sl_open Tryz.underlying22 (by kernel_rfl) Cm.vals_len (by decide) (fun fuel cs x h=>cmd_read h) h
end
end Go.Proofs.YtngnfdnfpiiclaaGreat
namespace Go.Proofs.YtngnfdnfpiiclaaGreat
open Go.RowKit
def Told(w:World)(base:Nat)(e:TypeId)(size:Nat)(v:Value)(n:Nat)(xs:List Value):Prop:=aBj w base e size v n xs∨w.ownsRow base e size v n xs
theorem Told.below{w w':World}{base:Nat}{e:TypeId}{size:Nat}{v:Value}{n:Nat}{xs:List Value}(h:Told w base e size v n xs)(k:Below w.heap.size w w'):Told w' base e size v n xs:=h.imp (fun h=>h.below k) (fun h=>aAf h k)
theorem Told.keep{S:Nat→Prop}{w w':World}{base:Nat}{e:TypeId}{size:Nat}{v:Value}{n:Nat}{xs:List Value}(h:Told w base e size v n xs)(k:Keep S w w')(hs:∀b,v.ownBlock=some b→¬S b):Told w' base e size v n xs:=h.imp (fun h=>h.keep k hs) (fun h=>aBq h k hs)
theorem Told.reads{w:World}{base:Nat}{e:TypeId}{size:Nat}{v:Value}{n:Nat}{xs:List Value}(h:Told w base e size v n xs)(hn:n≤100000000):aB7 w v size n xs:=h.elim (fun h=>h.reads hn) (fun h=>pAE h hn)
theorem Told.own{w:World}{base:Nat}{e:TypeId}{size:Nat}{v:Value}{n:Nat}{xs:List Value}(h:Told w base e size v n xs){b:Nat}(hb:v.ownBlock=some b):base≤b∧b<w.heap.size∧∃cur,w.heap[b]? = some (.cells cur e (0,0)):=by
 rcases h with h|h
 ·obtain⟨_,h2⟩:=h;rcases h2 with⟨rfl,rfl⟩|⟨g,cur,rfl,h3,hg,_⟩
  ·cases hb
  cases hb
  exact⟨h3,lt_of_block hg,cur,hg⟩
 exact aAe h hb
theorem Told.shape{w:World}{base:Nat}{e:TypeId}{size:Nat}{v:Value}{n:Nat}{xs:List Value}(h:Told w base e size v n xs):∃ao cap,v=.slice ao n cap:=by
 rcases h with h|h
 ·obtain⟨ao,rfl,_⟩:=aFz h;exact⟨ao,n,rfl⟩
 obtain⟨ao,cap,rfl,_⟩:=aAg h;exact⟨ao,cap,rfl⟩
theorem aAv{w:World}{a b:Nat}{cs ds:Array Value}{t u:TypeId}(h:Blk w a cs t)(k:Blk w b ds u)(hne:t≠u):a≠b:=by
 rintro rfl;unfold Blk at h k;rw[h]at k;simp at k;exact hne k.2
theorem aPk{w:World}{base:Nat}{e:TypeId}{size:Nat}{v:Value}{n:Nat}{xs:List Value}(h:Told w base e size v n xs){g:Nat}{cs:Array Value}{t:TypeId}(k:Blk w g cs t)(hne:e≠t):∀b,v.ownBlock=some b→¬b=g:=fun b hb=>by
 obtain⟨_,_,cur,hc⟩:=h.own hb;exact aAv (show Blk w b cur e from hc) k hne
def aCq(Is:World→Nat→Hs→Prop)(w:World)(g:Nat)(σ:Hs)(xs:List Stp)(e:Ending)(w':World):Prop:=
 ∃v,e=.returned (.agg #[.int .i64 (aBh σ xs).2.1,.int .i64 ((aBh σ xs).2.2.1:Nat),v])∧Told w' w.heap.size 93 2 v (aBh σ xs).2.2.2.length (aAr (aBh σ xs).2.2.2)∧Is w' g (aBh σ xs).1∧Keep (·=g) w w'
def aQ9(w:World)(σ:Hs)(e:Ending)(w':World):Prop:=
 ∃vp vl vo,e=.returned (.agg #[vp,vl,vo,.int .u64 σ.N])∧Told w' w.heap.size 68 1 vp σ.ps.length (σ.ps.map (.int .u8))∧Told w' w.heap.size 71 5 vl σ.ls.length (aBd σ.ls)∧Told w' w.heap.size 75 7 vo σ.l.length (aAb σ.l)∧Below w.heap.size w w'
structure aGh(Ok:Stp→Prop)(Is:World→Nat→Hs→Prop):Prop where
 lt:∀{w:World} {g:Nat} {σ:Hs},Is w g σ→g<w.heap.size
 below:∀{w w':World} {g:Nat} {σ:Hs},Is w g σ→Below w.heap.size w w'→Is w' g σ
 other:∀{w w':World} {g k:Nat} {σ τ:Hs},Is w g σ→Is w k τ→g≠k→Keep (·=k) w w'→Is w' g σ
 rows:∀{w w':World} {g:Nat} {σ:Hs} {S:Nat→Prop},Is w g σ→Keep S w w'→(∀b,S b→∃cur e,w.heap[b]? = some (.cells cur e (0,0))∧(e=68∨e=71∨e=75∨e=87∨e=93))→Is w' g σ
 new:∀w:World,Calls Tryz.prog 11 #[] w fun e w'=>∃g,e=.returned (.pointer (some ⟨g,0,none⟩))∧Is w' g ⟨[],[],[],1⟩∧w.heap.size≤g∧Below w.heap.size w w'
 apply:∀{w:World} {g:Nat} {σ:Hs},Is w g σ→HInv σ→∀x:Cm,x.In w→(∀s∈x.xs,Ok s)→Calls Tryz.prog 16 #[.pointer (some ⟨g,0,none⟩),.agg #[.slice x.a x.n x.c]] w (aCq Is w g σ x.xs)
 state:∀{w:World} {g:Nat} {σ:Hs},Is w g σ→HInv σ→Calls Tryz.prog 21 #[.pointer (some ⟨g,0,none⟩)] w (aQ9 w σ)
 copy:∀{w:World} {g:Nat} {σ:Hs},Is w g σ→HInv σ→Calls Tryz.prog 13 #[.pointer (some ⟨g,0,none⟩)] w fun e w'=>∃k,e=.returned (.pointer (some ⟨k,0,none⟩))∧Is w' k σ∧w.heap.size≤k∧Below w.heap.size w w'
def aPl:Prop:=∀w:World,Calls Tryz.prog 10 #[] w fun e w'=>e=.returned (.bool true)∧Below w.heap.size w w'
end Go.Proofs.YtngnfdnfpiiclaaGreat
namespace Go.Proofs.YtngnfdnfpiiclaaGreat
open Go.RowKit Go.IntWalk
def aJp(cs:List Cm):Nat:=(cs.map Cm.n).sum
theorem aTk(cs:List Cm){k:Nat}(h:k<cs.length):aJp (cs.take (k+1))=aJp (cs.take k)+cs[k].n:=by
 unfold aJp;rw[List.take_succ_eq_append_getElem h,List.map_append,List.sum_append];simp
def GreatSays(cs:List Cm)(b:Bool):Prop:=b=false→cs.length≤60∧((∀x∈cs,x.n≤72057594037927936)→aJp cs≤200)
def GreatAt(W:World)(cs:List Cm)(n i:Value)(wr:World):Prop:=∃(k:Nat) (m:Int),k≤cs.length∧i=.int .i64 k∧n=.int .i64 m∧((∀x∈cs,x.n≤72057594037927936)→m=(aJp (cs.take k):Nat))∧wr=W
theorem stepsN_bd{cs:List Cm}{M:Nat}(h:∀x∈cs,x.n≤M):aJp cs≤M*cs.length:=by
 unfold aJp
 induction cs with
 | nil=>simp
 | cons x r ih=>
  have h1:=ih fun y hy=>h y (List.mem_cons_of_mem _ hy)
  have h2:=h x (List.mem_cons_self ..);rw[List.map_cons,List.sum_cons,List.length_cons,Nat.mul_add];omega
theorem aTl{w:World}{a:Option Addr}{len cap:Nat}{cs:List Cm}(h:SlIn Cm.vals 1 (Cm.In w) w a len cap cs):
  Calls Tryz.prog 9 #[.slice a len cap] w fun e w'=>∃b,e=.returned (.bool b)∧GreatSays cs b∧w'=w:=by
 obtain⟨h0,h1,h2,h3,h4,h5⟩:=h;subst h1;have HL:Hid (cs.length≤9223372036854775807):=yH (by unfold maxLen at h4;omega);have HC:=yH h5;clear h0 h2 h3 h4 h5
 by_cases hg:60<cs.length
 ·have q0:decide ((60:Int)<(cs.length:Int))=true:=by simp;omega
  clear hg;go_enter Tryz.func9,Tryz.ntmps9;go_wp2_with fail;go_ret;exact⟨true,rfl,(fun e=>by cases e),rfl⟩
 have q0:decide ((60:Int)<(cs.length:Int))=false:=by simp;omega
 have HG:Hid (cs.length≤60):=yH (by omega);clear hg;go_enter Tryz.func9,Tryz.ntmps9;go_wp2_with fail
 go_loopw [3,4] (GreatAt w cs) (fun _ i _=>cs.length - (intOf i).toNat)
 case atStart=>exact⟨0,0,by omega,rfl,rfl,fun _=>rfl,rfl⟩
 obtain⟨k,m,hk,rfl,rfl,hm,rfl⟩:=hrel
 by_cases hkl:k<cs.length
 ·have hki:(k:Int)<(cs.length:Int):=by omega
  have hk0:(0:Int)≤(k:Int):=by omega
  obtain⟨b,off,rfl,hb,hc⟩:=HC.out (by omega);have c0:=hc k hkl 0 _ rfl;rw[Nat.mul_one,Nat.add_zero]at c0
  have wr:(∀x∈cs,x.n≤72057594037927936)→wrap64 (m+(cs[k].n:Int))=(aJp (cs.take (k+1)):Int):=fun hx=>by
   have h1:=hx _ (List.getElem_mem hkl);have h2:aJp (cs.take k)≤72057594037927936*(cs.take k).length:=stepsN_bd fun x h=>hx x (List.mem_of_mem_take h)
   rw[List.length_take]at h2;have:=HG.out;rw[hm hx,aTk cs hkl,wrap64_in _ ⟨by omega,by omega⟩];omega
  have HK:=yH hkl;have WR:=yH wr;have hl:=HL.out;clear hc wr hm;generalize cs[k]=x at c0 WR;obtain⟨xa,xn,xc,xs⟩:=x;clear hkl;go_wp2_with fail;exact⟨⟨k+1,_,by omega,by go_num,rfl,WR.out,rfl⟩,by simp[intOf];omega⟩
 have hkn:k=cs.length:=by omega
 subst hkn;have HM:=yH hm;clear hkl hk hm;go_wp2_with fail;go_ret;refine⟨_,rfl,fun e=>⟨HG.out,fun hx=>?_⟩,rfl⟩;have h1:=HM.out hx;have h2:=of_decide_eq_false e;rw[List.take_length]at h1;omega
theorem aM3(a:Option Addr)(n c:Nat)(w:World):Calls Tryz.prog 37 #[.slice a n c] w (yR w (.agg #[.slice a n c])):=by
 have b0:=(Below.refl w.heap.size w).alloc yL (.cells #[.slice none 0 0] 32);have KX:=yH (Blk.new w #[.slice none 0 0] 32);have B0:=yH b0;clear b0;go_enter Tryz.func37,Tryz.ntmps37
 go_upto_region 1 with fail
 generalize w.alloc (.cells #[.slice none 0 0] 32)=W at *;have x0:=KX.out.cell 0;simp at x0;go_wp2_with (refine aAa rfl 32 (.tmp 2) (.tmp 4) rfl w.heap.size #[.slice a n c] rfl rfl 32 _ KX.out.out (by kernel_rfl) rfl (by simp[Value.oneCell']) ?_);refine bodyPost_ret (v:=.agg #[.slice a n c]) (results_cell_row rfl _ _ w.heap.size 32 #[.slice a n c] (0,0) _ rfl (setRow_heap _ w.heap.size _ _ _ (0,0) KX.out.out) Tryz.underlying32 rfl (by kernel_rfl)) rfl ?_;exact⟨rfl,below_setRow B0.out yL _⟩
structure aFl(w:World)(σ:Hs)(vp vl vo:Value):Prop where
 p:aB7 w vp 1 σ.ps.length (σ.ps.map (.int .u8))
 l:aB7 w vl 5 σ.ls.length (aBd σ.ls)
 o:aB7 w vo 7 σ.l.length (aAb σ.l)
theorem like_any{w:World}{σ:Hs}{vp vl vo up ul uo:Value}(ha:aFl w σ vp vl vo)(hb:aFl w σ up ul uo):
  Calls Tryz.prog 38 #[.agg #[vp,vl,vo,.int .u64 σ.N],.agg #[up,ul,uo,.int .u64 σ.N]] w (yR w (.bool true)):=by
 have b1:=(Below.refl w.heap.size w).alloc yL (.cells #[vp,vl,vo,.int .u64 σ.N] 46);have b2:=b1.alloc b1.size (.cells #[up,ul,uo,.int .u64 σ.N] 46);have KA:=yH ((Blk.new w #[vp,vl,vo,.int .u64 σ.N] 46).alloc (.cells #[up,ul,uo,.int .u64 σ.N] 46));have KB:=yH (pAB (w.alloc (.cells #[vp,vl,vo,.int .u64 σ.N] 46)) #[up,ul,uo,.int .u64 σ.N] 46 (g:=w.heap.size+1) (by simp));have B2:=yH b2;have HA:=yH ha;have HB:=yH hb;clear ha hb b1 b2;go_enter Tryz.func38,Tryz.ntmps38
 go_upto_region 1 with fail
 generalize (w.alloc (.cells #[vp,vl,vo,.int .u64 σ.N] 46)).alloc (.cells #[up,ul,uo,.int .u64 σ.N] 46)=W at *;have x0:=KA.out.cell 0;have x1:=KA.out.cell 1;have x2:=KA.out.cell 2;have x3:=KA.out.cell 3;have y0:=KB.out.cell 0;have y1:=KB.out.cell 1;have y2:=KB.out.cell 2;have y3:=KB.out.cell 3;simp at x0 x1 x2 x3 y0 y1 y2 y3;go_wp2_with fail;refine(aMy (HA.out.p.below B2.out) (HB.out.p.below B2.out)).mono ?_;rintro e w1 ⟨rfl,b1⟩;rw[decide_eq_true rfl];have KA1:=yB KA b1;have KB1:=yB KB b1;have B1:=yT B2 b1;clear x0 x1 x2 x3 y0 y1 y2 y3 b1 KA KB;have x1:=KA1.out.cell 1;have x2:=KA1.out.cell 2;have x3:=KA1.out.cell 3;have y1:=KB1.out.cell 1;have y2:=KB1.out.cell 2;have y3:=KB1.out.cell 3;simp at x1 x2 x3 y1 y2 y3;go_wp2_with fail;refine(aPj (HA.out.l.below B1.out) (HB.out.l.below B1.out)).mono ?_;rintro e w2 ⟨rfl,b2⟩;rw[decide_eq_true rfl];have KA2:=yB KA1 b2;have KB2:=yB KB1 b2;have B3:=yT B1 b2;clear x1 x2 x3 y1 y2 y3 b2 KA1 KB1;have x2:=KA2.out.cell 2;have x3:=KA2.out.cell 3;have y2:=KB2.out.cell 2;have y3:=KB2.out.cell 3;simp at x2 x3 y2 y3;go_wp2_with fail;refine(aNl (HA.out.o.below B3.out) (HB.out.o.below B3.out)).mono ?_;rintro e w3 ⟨rfl,b3⟩;rw[decide_eq_true rfl];have KA3:=yB KA2 b3;have KB3:=yB KB2 b3;have B4:=yT B3 b3;clear x2 x3 y2 y3 b3 KA2 KB2;have x3:=KA3.out.cell 3;have y3:=KB3.out.cell 3;simp at x3 y3;go_wp2_with fail;go_ret;exact⟨rfl,B4.out⟩
theorem aDs{w:World}{e1 a1 e2 a2:Int}{va vb:Value}{la lb:List Gt}(ha:aB7 w va 2 la.length (aAr la))(hb:aB7 w vb 2 lb.length (aAr lb)):
  Calls Tryz.prog 17 #[.agg #[.int .i64 e1,.int .i64 a1,va],.agg #[.int .i64 e2,.int .i64 a2,vb]] w fun e w'=>e=.returned (.bool (decide (e1=e2∧a1=a2∧la=lb)))∧Below w.heap.size w w':=by
 have b1:=(Below.refl w.heap.size w).alloc yL (.cells #[.int .i64 e1,.int .i64 a1,va] 36);have b2:=b1.alloc b1.size (.cells #[.int .i64 e2,.int .i64 a2,vb] 36);have KA:=yH ((Blk.new w #[.int .i64 e1,.int .i64 a1,va] 36).alloc (.cells #[.int .i64 e2,.int .i64 a2,vb] 36));have KB:=yH (pAB (w.alloc (.cells #[.int .i64 e1,.int .i64 a1,va] 36)) #[.int .i64 e2,.int .i64 a2,vb] 36 (g:=w.heap.size+1) (by simp));have B2:=yH b2;have C:=yH (sameGt_any (ha.below b2) (hb.below b2));clear ha hb b1 b2;go_enter Tryz.func17,Tryz.ntmps17
 go_upto_region 1 with fail
 generalize (w.alloc (.cells #[.int .i64 e1,.int .i64 a1,va] 36)).alloc (.cells #[.int .i64 e2,.int .i64 a2,vb] 36)=W at *;have x0:=KA.out.cell 0;have x1:=KA.out.cell 1;have x2:=KA.out.cell 2;have y0:=KB.out.cell 0;have y1:=KB.out.cell 1;have y2:=KB.out.cell 2;simp at x0 x1 x2 y0 y1 y2
 by_cases he:e1=e2
 ·have q1:(e1==e2)=true:=by simpa using he
  by_cases h2:a1=a2
  ·have q2:(a1==a2)=true:=by simpa using h2
   have HE:=yH (And.intro he h2);clear he h2;go_wp2_with fail;refine C.out.mono ?_;rintro e w3 ⟨rfl,b3⟩;go_wp2_with fail;go_ret;exact⟨by simp[HE.out.1,HE.out.2],B2.out.trans (b3.mono B2.out.size)⟩
  have q2:(a1==a2)=false:=by simpa using h2
  have HE:=yH h2;clear he h2;go_wp2_with fail;go_ret;exact⟨by simp[HE.out],B2.out⟩
 have q1:(e1==e2)=false:=by simpa using he
 have HE:=yH he;clear he;go_wp2_with fail;go_ret;exact⟨by simp[HE.out],B2.out⟩
theorem aLj(x:Stp)(h:0≤x.kd∧x.kd≤255∧0≤x.a∧x.a≤255∧0≤x.b∧x.b≤255∧0≤x.c∧x.c≤255∧0≤x.d∧x.d≤255∧0≤x.n∧x.n≤255∧x.mx=0∧x.nu=0∧x.de=0∧x.se=0):x.Fits:=by
 obtain⟨a1,a2,b1,b2,c1,c2,d1,d2,e1,e2,f1,f2,g,i,j,k⟩:=h;exact⟨⟨a1,a2⟩,⟨b1,b2⟩,⟨c1,c2⟩,⟨d1,d2⟩,⟨e1,e2⟩,⟨by omega,by omega⟩,⟨by omega,by omega⟩,⟨by omega,by omega⟩,⟨by omega,by omega⟩,⟨by omega,by omega⟩⟩
theorem aRa(w:World)(size:Nat):aB7 w (.slice none 0 0) size 0 []:=⟨none,0,rfl,by omega,by simp,fun h=>absurd h (by omega)⟩
theorem aGi{w:World}{g:Nat}{xs:List Stp}{t:TypeId}{cs:Array Value}(h:Blk w g cs t)(hc:cs=(aJo xs).toArray)(hf:∀x∈xs,x.Fits)(hl:xs.length≤1000):SlIn Stp.vals 10 Stp.Fits w (some ⟨g,0,none⟩) xs.length xs.length xs:=by
 refine⟨(fun e=>by cases e),rfl,hf,Nat.le_refl _,by unfold maxLen;omega,fun _=>⟨_,_,rfl,h.lt,fun i hi j u hu=>?_⟩⟩
 have hj:j<10:=by
  have:=(List.getElem?_eq_some_iff.1 hu).1
  rwa [Stp.vals_len]at this
 rw[Nat.zero_add,h.cell,hc,List.getElem?_toArray,aKw xs i j hj hi,hu]
theorem aGj{w:World}{g:Nat}{xs:List Gt}{t:TypeId}{cs:Array Value}(h:Blk w g cs t)(hc:cs=(aAr xs).toArray)(hl:xs.length≤1000):aB7 w (.slice (some ⟨g,0,none⟩) xs.length xs.length) 2 xs.length (aAr xs):=by
 refine⟨_,_,rfl,by omega,aCp xs,fun _=>⟨g,0,rfl,h.lt,fun j hj=>?_⟩⟩;rw[Nat.zero_add,h.cell,hc,List.getElem?_toArray]
end Go.Proofs.YtngnfdnfpiiclaaGreat
