/- Pieces of one proof. -/
import Derived.Test.YtngnfdnfpiiclaaGreatM10
import Derived.Shelf.SlSortCmp.NoneTotal
import Derived.Shelf.SlMaps.Clone
set_option linter.all false
set_option maxHeartbeats 64000000
set_option maxRecDepth 100000
namespace Go.Proofs.YtngnfdnfpiiclaaGreat
open Go.RowKit Go.Shelf
def sortL_ren:Go.Shelf.Ren:=⟨fun|6=>100|15=>141|14=>140|28=>186|29=>187|20=>178|21=>179|22=>180|23=>181|24=>182|25=>183|26=>184|27=>185|46=>218|47=>219|48=>220|49=>221|50=>222|57=>257|n=>n,fun|22=>42|24=>71|25=>193|3=>3|39=>227|0=>0|53=>278|55=>44|4=>4|46=>271|45=>270|50=>275|5=>5|9=>9|66=>310|70=>313|76=>358|77=>359|n=>n,fun|n=>n⟩
theorem sortL:Go.Proofs.SlLaysF0.n6 Tryz.prog sortL_ren:={
 mixed:=zW
 f6:=⟨Tryz.f100.name,zX,Tryz.func100.trans (congrArg some zW)⟩
 f14:=⟨Tryz.f140.name,zX,Tryz.func140.trans (congrArg some zW)⟩
 f15:=Tryz.func141.trans (congrArg some zW)
 f20:=⟨Tryz.f178.name,zX,Tryz.func178.trans (congrArg some zW)⟩
 f21:=⟨Tryz.f179.name,zX,Tryz.func179.trans (congrArg some zW)⟩
 f22:=⟨Tryz.f180.name,zX,Tryz.func180.trans (congrArg some zW)⟩
 f23:=⟨Tryz.f181.name,zX,Tryz.func181.trans (congrArg some zW)⟩
 f24:=⟨Tryz.f182.name,zX,Tryz.func182.trans (congrArg some zW)⟩
 f25:=⟨Tryz.f183.name,zX,Tryz.func183.trans (congrArg some zW)⟩
 f26:=⟨Tryz.f184.name,zX,Tryz.func184.trans (congrArg some zW)⟩
 f27:=⟨Tryz.f185.name,zX,Tryz.func185.trans (congrArg some zW)⟩
 f28:=Tryz.func186.trans (congrArg some zW)
 f29:=Tryz.func187.trans (congrArg some zW)
 f46:=⟨Tryz.f218.name,zX,Tryz.func218.trans (congrArg some zW)⟩
 f47:=Tryz.func219.trans (congrArg some zW)
 f48:=Tryz.func220.trans (congrArg some zW)
 f49:=⟨Tryz.f221.name,zX,Tryz.func221.trans (congrArg some zW)⟩
 f50:=⟨Tryz.f222.name,zX,Tryz.func222.trans (congrArg some zW)⟩
 f57:=⟨Tryz.f257.name,zX,Tryz.func257.trans (congrArg some zW)⟩
 t0:=Tryz.underlying0
 a0:=Tryz.isAgg0
 z0:=Tryz.sizeOf0
 v0:=Tryz.zeroValue0
 t3:=Tryz.underlying3
 a3:=Tryz.isAgg3
 z3:=Tryz.sizeOf3
 v3:=Tryz.zeroValue3
 t4:=Tryz.underlying4
 a4:=Tryz.isAgg4
 z4:=Tryz.sizeOf4
 v4:=Tryz.zeroValue4
 t5:=Tryz.underlying5
 a5:=Tryz.isAgg5
 z5:=Tryz.sizeOf5
 v5:=Tryz.zeroValue5
 t9:=Tryz.underlying9
 a9:=Tryz.isAgg9
 z9:=Tryz.sizeOf9
 v9:=Tryz.zeroValue9
 t22:=Tryz.underlying42
 a22:=Tryz.isAgg42
 z22:=Tryz.sizeOf42
 v22:=Tryz.zeroValue42
 t25:=Tryz.underlying193
 a25:=Tryz.isAgg193
 z25:=Tryz.sizeOf193
 v25:=Tryz.zeroValue193
 t39:=Tryz.underlying227
 a39:=Tryz.isAgg227
 z39:=Tryz.sizeOf227
 v39:=Tryz.zeroValue227
 t45:=Tryz.underlying270
 a45:=Tryz.isAgg270
 z45:=Tryz.sizeOf270
 v45:=Tryz.zeroValue270
 t46:=Tryz.underlying271
 a46:=Tryz.isAgg271
 z46:=Tryz.sizeOf271
 v46:=Tryz.zeroValue271
 t50:=Tryz.underlying275
 a50:=Tryz.isAgg275
 z50:=Tryz.sizeOf275
 v50:=Tryz.zeroValue275
 t53:=Tryz.underlying278
 a53:=Tryz.isAgg278
 z53:=Tryz.sizeOf278
 v53:=Tryz.zeroValue278
 t55:=Tryz.underlying44
 a55:=Tryz.isAgg44
 z55:=Tryz.sizeOf44
 v55:=Tryz.zeroValue44
 t66:=Tryz.underlying310
 a66:=Tryz.isAgg310
 z66:=Tryz.sizeOf310
 v66:=Tryz.zeroValue310
 t70:=Tryz.underlying313
 a70:=Tryz.isAgg313
 z70:=Tryz.sizeOf313
 v70:=Tryz.zeroValue313
 t76:=Tryz.underlying358
 a76:=Tryz.isAgg358
 z76:=Tryz.sizeOf358
 v76:=Tryz.zeroValue358
 t77:=Tryz.underlying359
 a77:=Tryz.isAgg359
 z77:=Tryz.sizeOf359
 v77:=Tryz.zeroValue359 }
end Go.Proofs.YtngnfdnfpiiclaaGreat
namespace Go.Proofs.YtngnfdnfpiiclaaGreat
open Go.RowKit
end Go.Proofs.YtngnfdnfpiiclaaGreat
namespace Go.Proofs.YtngnfdnfpiiclaaGreat
open Go.RowKit Go.Shelf Go.Sort Go.Lib
instance:Inhabited Ln:=⟨noLn⟩
def cmp3(x y:Int):Int:=if x<y then -1 else if y<x then 1 else 0
def or3(p q r:Int):Int:=if p=0 then(if q=0 then r else q)else p
def ordL(x y:Ln):Int:=or3 (cmp3 x.cu y.cu) (cmp3 x.cr y.cr) (cmp3 x.de y.de)
theorem aPv(x y:Ln):ordL x y<0↔(x.cu<y.cu∨(x.cu=y.cu∧(x.cr<y.cr∨(x.cr=y.cr∧x.de<y.de)))):=by
 unfold ordL or3 cmp3
 (repeat' split) <;> omega
theorem ordL_rank{x y:Ln}(hx:x.Fits)(hy:y.Fits):ordL x y<0↔x.rank<y.rank:=by
 rw[aPv];obtain⟨⟨a1,a2⟩,⟨b1,b2⟩,⟨c1,c2⟩,_,_⟩:=hx;obtain⟨⟨d1,d2⟩,⟨e1,e2⟩,⟨f1,f2⟩,_,_⟩:=hy;unfold Ln.rank;omega
theorem swoL:SWO (ltOf ordL) where
 irrefl x:=by unfold ltOf;rw[decide_eq_false_iff_not,aPv];omega
 trans x y z h1 h2:=by
  unfold ltOf at *;rw[decide_eq_true_eq,aPv]at *;omega
 ntrans x y z h1 h2:=by
  unfold ltOf at *;rw[decide_eq_false_iff_not,aPv]at *;omega
theorem aOu(ls:List Ln){j:Nat}(h:j<ls.length*5):(flatK Ln.vals 5 ls.toArray)[j]! = (aBg ls)[j]'(by rw[aDz];exact h):=by
 rw[get_flatK _ _ _ j y7];have h1:j/5<ls.length:=zQ
 have h2:j%5<5:=Nat.mod_lt _ zQ;have h3:=aAu ls (j/5) (j%5) h2 h1;rw[show j/5*5+j%5=j by omega]at h3;rw[List.getElem?_eq_getElem (by rw[aDz];exact h)]at h3;have h4:(ls.toArray)[j/5]! = ls[j/5]:=by simp[h1]
 rw[h4,List.getElem!_eq_getElem?_getD,←h3];rfl
theorem aT5{w:World}{g:Nat}{cur:Array Value}{e:TypeId}{ls:List Ln}(hb:w.heap[g]? = some (.cells cur e (0,0)))(ht:cur.toList.take (ls.length*5)=aBg ls):HoldsK Ln.vals 5 w g 0 ls.toArray:=by
 intro j hj;have hj':j<ls.length*5:=xE
 refine⟨?_,by simp[World.frozen?,hb]⟩;rw[aOu ls hj'];have h1:(cur.toList.take (ls.length*5))[j]? = (aBg ls)[j]? := by rw[ht]
 rw[List.getElem?_take_of_lt hj']at h1;simp only[World.cell?,hb,Nat.zero_add];simp only[Option.isSome_none,Bool.false_eq_true,if_false];rw[←Array.getElem?_toList,h1,List.getElem?_eq_getElem (by rw[aDz];exact hj')];rfl
theorem heap_lines{w:World}{g n:Nat}{os:Array Obj}{cur:Array Value}{e:TypeId}(d:Array Ln)(hb:w.heap[g]? = some (.cells cur e (0,0))):
  (sortWorldK Ln.vals 5 w g 0 n d os).heap[g]? = some (.cells (putCells id 0 (flatK Ln.vals 5 d) cur) e (0,0)):=by
 have hg:g<w.heap.size:=(Array.getElem?_eq_some_iff.1 hb).1;unfold sortWorldK putRowK;rw[heap_grow_old _ _ (v6 hg)];simp[putRow,mapBlock,Go.Sort.ahead,Array.getElem?_modify,hb,onCells]
theorem keep_lines{w:World}{g n:Nat}{os:Array Obj}(d:Array Ln):Keep (·=g) w (sortWorldK Ln.vals 5 w g 0 n d os):=by
 refine⟨rfl,rfl,rfl,vA,fun k hk hne=>?_⟩;unfold sortWorldK putRowK;rw[heap_grow_old _ _ vN];have:g≠k:=fun e=>hne e.symm
 simp[putRow,mapBlock,Go.Sort.ahead,Array.getElem?_modify,this]
theorem take_lines(cur:Array Value)(ls:List Ln)(h:ls.length*5≤cur.size):(putCells id 0 (flatK Ln.vals 5 ls.toArray) cur).toList.take (ls.length*5)=aBg ls:=by
 apply List.ext_getElem?;intro j
 by_cases hj:j<ls.length*5
 ·have hf:=aOu ls hj;rw[List.getElem?_take_of_lt hj,Array.getElem?_toList,List.getElem?_eq_getElem (by rw[aDz];exact hj),←hf];simp[putCells,hj,show j<cur.size by omega]
 rw[List.getElem?_take_eq_none zQ,List.getElem?_eq_none (uX aDz)]
theorem sorted_is{done ls:List Ln}(hI:Inv ls)(hp:done.Perm ls)(d:Array Ln)(h1:PermIn 0 done.toArray.size done.toArray d)(h2:SortedIn (ltOf ordL) 0 done.toArray.size d):d.toList=ls:=by
 obtain⟨hs,_,hperm⟩:=h1
 have hpd:d.toList.Perm done:=by
  have e1:d.extract 0 done.toArray.size=d:=vJ
  rw[e1,Array.extract_size]at hperm;simpa using hperm
 have hpl:=hpd.trans hp;have hne:d.toList.Pairwise fun x y=>x.rank≠y.rank:=(hpl.symm.pairwise_iff (fun{a b} (h:a.rank≠b.rank)=>h.symm)).1 (hI.sorted.imp fun h=>zQ)
 refine aFt _ _ ?_ hI.sorted fun x=>hpl.mem_iff
 rw[List.pairwise_iff_getElem]at hne ⊢;intro i j hi hj hij;have hn:=hne i j hi hj hij;have hi':i<d.size:=xQ
 have hj':j<d.size:=xE
 have hso:=h2 i j (Nat.zero_le _) hij (by rw[←hs];exact hj');rw[getElem!_pos d i hi',getElem!_pos d j hj']at hso;unfold ltOf at hso;rw[decide_eq_false_iff_not,ordL_rank (hI.good _ (hpl.mem_iff.1 zV)).fits (hI.good _ (hpl.mem_iff.1 zV)).fits]at hso;simp only[Array.getElem_toList]at hn ⊢;omega
theorem isnan_p(x:Int)(w:World):
  Calls Tryz.prog 189 #[.int .u8 x] w (yV w (.bool false)):=by
 go_enter Tryz.func189,Tryz.ntmps189;go_wp2;go_ret;exact⟨rfl,rfl⟩
theorem isnan_c(x:Int)(w:World):
  Calls Tryz.prog 188 #[.int .u8 x] w (yV w (.bool false)):=by
 go_enter Tryz.func188,Tryz.ntmps188;go_wp2;go_ret;exact⟨rfl,rfl⟩
theorem aRn(x y:Int)(w:World):
  Calls Tryz.prog 144 #[.int .u8 x,.int .u8 y] w (yV w (.int .i64 (cmp3 x y))):=by
 have c1:=yH (fun w=>isnan_p x w);have c2:=yH (fun w=>isnan_p y w);rcases Int.lt_trichotomy x y with h|h|h
 ·rw[show cmp3 x y = -1 by unfold cmp3;rw[if_pos h]];go_enter Tryz.func144,Tryz.ntmps144;go_wp2_with fail;refine(c1.out _).mono ?_;rintro e w1 ⟨rfl,rfl⟩;go_wp2_with fail;refine(c2.out _).mono ?_;rintro e w1 ⟨rfl,rfl⟩;go_wp2_with fail;go_ret;exact⟨rfl,rfl⟩
 ·rw[show cmp3 x y=0 by unfold cmp3;rw[if_neg zQ,if_neg zQ]];subst h;go_enter Tryz.func144,Tryz.ntmps144;go_wp2_with fail;refine(c1.out _).mono ?_;rintro e w1 ⟨rfl,rfl⟩;go_wp2_with fail;refine(c2.out _).mono ?_;rintro e w1 ⟨rfl,rfl⟩;go_wp2_with fail;go_ret;exact⟨rfl,rfl⟩
 rw[show cmp3 x y=1 by unfold cmp3;rw[if_neg zQ,if_pos h]];go_enter Tryz.func144,Tryz.ntmps144;go_wp2_with fail;refine(c1.out _).mono ?_;rintro e w1 ⟨rfl,rfl⟩;go_wp2_with fail;refine(c2.out _).mono ?_;rintro e w1 ⟨rfl,rfl⟩;go_wp2_with fail;go_ret;exact⟨rfl,rfl⟩
theorem compare_c(x y:Int)(w:World):
  Calls Tryz.prog 143 #[.int .u8 x,.int .u8 y] w (yV w (.int .i64 (cmp3 x y))):=by
 have c1:=yH (fun w=>isnan_c x w);have c2:=yH (fun w=>isnan_c y w);rcases Int.lt_trichotomy x y with h|h|h
 ·rw[show cmp3 x y = -1 by unfold cmp3;rw[if_pos h]];go_enter Tryz.func143,Tryz.ntmps143;go_wp2_with fail;refine(c1.out _).mono ?_;rintro e w1 ⟨rfl,rfl⟩;go_wp2_with fail;refine(c2.out _).mono ?_;rintro e w1 ⟨rfl,rfl⟩;go_wp2_with fail;go_ret;exact⟨rfl,rfl⟩
 ·rw[show cmp3 x y=0 by unfold cmp3;rw[if_neg zQ,if_neg zQ]];subst h;go_enter Tryz.func143,Tryz.ntmps143;go_wp2_with fail;refine(c1.out _).mono ?_;rintro e w1 ⟨rfl,rfl⟩;go_wp2_with fail;refine(c2.out _).mono ?_;rintro e w1 ⟨rfl,rfl⟩;go_wp2_with fail;go_ret;exact⟨rfl,rfl⟩
 rw[show cmp3 x y=1 by unfold cmp3;rw[if_neg zQ,if_pos h]];go_enter Tryz.func143,Tryz.ntmps143;go_wp2_with fail;refine(c1.out _).mono ?_;rintro e w1 ⟨rfl,rfl⟩;go_wp2_with fail;refine(c2.out _).mono ?_;rintro e w1 ⟨rfl,rfl⟩;go_wp2_with fail;go_ret;exact⟨rfl,rfl⟩
theorem or_three(b cap:Nat)(p q r:Int)(w:World)(hlt:b<w.heap.size)(h0:w.cell? ⟨b,0,none⟩=some (.int .i64 p))(h1:w.cell? ⟨b,1,none⟩=some (.int .i64 q))(h2:w.cell? ⟨b,2,none⟩=some (.int .i64 r)):
  Calls Tryz.prog 142 #[.slice (some ⟨b,0,none⟩) 3 cap] w (yV w (.int .i64 (or3 p q r))):=by
 unfold or3
 by_cases hp:p=0
 ·rw[if_pos hp];subst hp
  by_cases hq:q=0
  ·rw[if_pos hq];subst hq
   by_cases hr:r=0
   ·subst hr;go_enter Tryz.func142,Tryz.ntmps142;go_wp2;refine wp_loop_rounds 4 ?_;rw[rounds_succ];go_wp2;rw[rounds_succ];go_wp2;rw[rounds_succ];go_wp2;rw[rounds_succ];go_wp2;go_ret;exact⟨rfl,rfl⟩
   have hb:(r==0)=false:=by simp[hr]
   go_enter Tryz.func142,Tryz.ntmps142;go_wp2;refine wp_loop_rounds 3 ?_;rw[rounds_succ];go_wp2;rw[rounds_succ];go_wp2;rw[rounds_succ];go_wp2;go_ret;exact⟨rfl,rfl⟩
  rw[if_neg hq];have hb:(q==0)=false:=by simp[hq]
  go_enter Tryz.func142,Tryz.ntmps142;go_wp2;refine wp_loop_rounds 2 ?_;rw[rounds_succ];go_wp2;rw[rounds_succ];go_wp2;go_ret;exact⟨rfl,rfl⟩
 rw[if_neg hp];have hb:(p==0)=false:=by simp[hp]
 go_enter Tryz.func142,Tryz.ntmps142;go_wp2;refine wp_loop_rounds 1 ?_;rw[rounds_succ];go_wp2;go_ret;exact⟨rfl,rfl⟩
end Go.Proofs.YtngnfdnfpiiclaaGreat
namespace Go.Proofs.YtngnfdnfpiiclaaGreat
open Go.RowKit
open Go.Shelf Go.Lib
open Go.Sort (grow flatK putCells HoldsK PermIn SortedIn SWO)
def aPw(W:World)(o:Obj)(D:Nat→Bool)(w:World):Prop:=∃q,w=if D 15 then(W.drewN q).alloc o else W.drewN q
theorem aPw.step{W w:World}{o:Obj}{D:Nat→Bool}{k:Nat}(h:aPw W o D w)(hk:k≠15):aPw W o (ins k D) w:=by
 obtain⟨q,hq⟩:=h;refine⟨q,?_⟩;rw[aC3 D (Ne.symm hk)];exact hq
theorem aPw.below{W w:World}{o:Obj}{D:Nat→Bool}(h:aPw W o D w):Below W.heap.size W w:=by
 obtain⟨q,hq⟩:=h;subst hq;split
 ·exact(⟨rfl,rfl,rfl,Nat.le_refl _,fun _ _=>rfl⟩:Below W.heap.size W (W.drewN q)).alloc yL _
 exact⟨rfl,rfl,rfl,Nat.le_refl _,fun _ _=>rfl⟩
theorem grow_three(w:World)(a b c:Obj)(q:Nat):∃q' os',(((w.alloc a).alloc b).drewN q).alloc c=grow (w.drewN q') os':=by
 refine⟨q,#[a,b,c],?_⟩;unfold grow World.alloc World.drewN;simp only[World.mk.injEq,and_true];apply Array.ext';simp
theorem order_any(x y:Ln)(w:World):Calls Tryz.prog 101 #[.agg #[.int .u8 x.cr,.int .u8 x.de,.int .u8 x.cu,.int .i64 x.li,.int .i64 x.db],.agg #[.int .u8 y.cr,.int .u8 y.de,.int .u8 y.cu,.int .i64 y.li,.int .i64 y.db]] w fun e w'=>e=.returned (.int .i64 (ordL x y))∧∃q os',w'=grow (w.drewN q) os':=by
 unfold ordL;have c1:=yH (fun w=>compare_c x.cu y.cu w);have c2:=yH (fun w=>aRn x.cr y.cr w);have c3:=yH (fun w=>aRn x.de y.de w);generalize cmp3 x.cu y.cu=p at *;generalize cmp3 x.cr y.cr=q at *;generalize cmp3 x.de y.de=r at *;go_enter Tryz.func101,Tryz.ntmps101;go_wp2_with fail;have hW:((w.alloc (.cells #[.int .u8 x.cr,.int .u8 x.de,.int .u8 x.cu,.int .i64 x.li,.int .i64 x.db] 71)).alloc (.cells #[.int .u8 y.cr,.int .u8 y.de,.int .u8 y.cu,.int .i64 y.li,.int .i64 y.db] 71)).heap.size=w.heap.size+2:=zV
 have KX:=yH ((Blk.new w #[.int .u8 x.cr,.int .u8 x.de,.int .u8 x.cu,.int .i64 x.li,.int .i64 x.db] 71).alloc (.cells #[.int .u8 y.cr,.int .u8 y.de,.int .u8 y.cu,.int .i64 y.li,.int .i64 y.db] 71));have KY:=yH (pAB (w.alloc (.cells #[.int .u8 x.cr,.int .u8 x.de,.int .u8 x.cu,.int .i64 x.li,.int .i64 x.db] 71)) #[.int .u8 y.cr,.int .u8 y.de,.int .u8 y.cu,.int .i64 y.li,.int .i64 y.db] 71 (g:=w.heap.size+1) zV);have HW:=yH hW;have HG:=yH (fun c q=>grow_three w (.cells #[.int .u8 x.cr,.int .u8 x.de,.int .u8 x.cu,.int .i64 x.li,.int .i64 x.db] 71) (.cells #[.int .u8 y.cr,.int .u8 y.de,.int .u8 y.cu,.int .i64 y.li,.int .i64 y.db] 71) c q);generalize ((w.alloc (.cells #[.int .u8 x.cr,.int .u8 x.de,.int .u8 x.cu,.int .i64 x.li,.int .i64 x.db] 71)).alloc (.cells #[.int .u8 y.cr,.int .u8 y.de,.int .u8 y.cu,.int .i64 y.li,.int .i64 y.db] 71))=W at KX KY HW HG ⊢;clear hW
 refine aBz zW [(.pointer (some ⟨w.heap.size,2,none⟩)),(.int .u8 x.cu),(.pointer (some ⟨w.heap.size+1,2,none⟩)),(.int .u8 y.cu),(.int .i64 p),(.pointer (some ⟨w.heap.size,0,none⟩)),(.int .u8 x.cr),(.pointer (some ⟨w.heap.size+1,0,none⟩)),(.int .u8 y.cr),(.int .i64 q),(.pointer (some ⟨w.heap.size,1,none⟩)),(.int .u8 x.de),(.pointer (some ⟨w.heap.size+1,1,none⟩)),(.int .u8 y.de),(.int .i64 r),(.slice (some ⟨w.heap.size+2,0,none⟩) 3 3),(.int .i64 (or3 p q r)),(.int .i64 (or3 p q r))]
  (aPw W (.cells #[.int .i64 p,.int .i64 q,.int .i64 r] 3)) zW ⟨1,rfl⟩ ?_
 intro af haf;simp only[puts,Act.put,yA,yC,yF,yD,yE]at haf;subst haf;refine⟨?_,?_⟩
 ·simp only[aEa];refine⟨?_,?_,?_,?_,?_,?_,?_,?_,?_,?_,?_,?_,?_,?_,?_,?_,?_,?_,trivial⟩
  ·intro D w' hD hWt hC hI;have HI:=yH (hI.step (k:=0) zX);clear hI hC hWt hD;refine yO rfl ?_;go_wp2_with fail;all_goals first|exact HI|exact⟨rfl,HI⟩|rfl
  ·intro D w' hD hWt hC hI;have hS:=hI.below;have HI:=yH (hI.step (k:=1) zX);have kk:=KX.o.below hS KX.o.lt;have d0:=kk.cell 0;have d1:=kk.cell 1;have d2:=kk.cell 2;simp at d0 d1 d2;clear kk;clear hS hI hC hWt hD;refine yO rfl ?_;go_wp2_with fail;all_goals first|exact HI|exact⟨rfl,HI⟩|rfl
  ·intro D w' hD hWt hC hI;have HI:=yH (hI.step (k:=2) zX);clear hI hC hWt hD;refine yO rfl ?_;go_wp2_with fail;all_goals first|exact HI|exact⟨rfl,HI⟩|rfl
  ·intro D w' hD hWt hC hI;have hS:=hI.below;have HI:=yH (hI.step (k:=3) zX);have kk:=KY.o.below hS KY.o.lt;have d0:=kk.cell 0;have d1:=kk.cell 1;have d2:=kk.cell 2;simp at d0 d1 d2;clear kk;clear hS hI hC hWt hD;refine yO rfl ?_;go_wp2_with fail;all_goals first|exact HI|exact⟨rfl,HI⟩|rfl
  ·intro D w' hD hWt hC hI;have HI:=yH (hI.step (k:=4) zX);clear hI hC hWt hD;refine yO rfl ?_;go_wp2_with fail;refine(c1.out w').mono ?_;rintro e w'' ⟨rfl,rfl⟩;exact⟨rfl,HI.o⟩
  ·intro D w' hD hWt hC hI;have HI:=yH (hI.step (k:=5) zX);clear hI hC hWt hD;refine yO rfl ?_;go_wp2_with fail;all_goals first|exact HI|exact⟨rfl,HI⟩|rfl
  ·intro D w' hD hWt hC hI;have hS:=hI.below;have HI:=yH (hI.step (k:=6) zX);have kk:=KX.o.below hS KX.o.lt;have d0:=kk.cell 0;have d1:=kk.cell 1;have d2:=kk.cell 2;simp at d0 d1 d2;clear kk;clear hS hI hC hWt hD;refine yO rfl ?_;go_wp2_with fail;all_goals first|exact HI|exact⟨rfl,HI⟩|rfl
  ·intro D w' hD hWt hC hI;have HI:=yH (hI.step (k:=7) zX);clear hI hC hWt hD;refine yO rfl ?_;go_wp2_with fail;all_goals first|exact HI|exact⟨rfl,HI⟩|rfl
  ·intro D w' hD hWt hC hI;have hS:=hI.below;have HI:=yH (hI.step (k:=8) zX);have kk:=KY.o.below hS KY.o.lt;have d0:=kk.cell 0;have d1:=kk.cell 1;have d2:=kk.cell 2;simp at d0 d1 d2;clear kk;clear hS hI hC hWt hD;refine yO rfl ?_;go_wp2_with fail;all_goals first|exact HI|exact⟨rfl,HI⟩|rfl
  ·intro D w' hD hWt hC hI;have HI:=yH (hI.step (k:=9) zX);clear hI hC hWt hD;refine yO rfl ?_;go_wp2_with fail;refine(c2.out w').mono ?_;rintro e w'' ⟨rfl,rfl⟩;exact⟨rfl,HI.o⟩
  ·intro D w' hD hWt hC hI;have HI:=yH (hI.step (k:=10) zX);clear hI hC hWt hD;refine yO rfl ?_;go_wp2_with fail;all_goals first|exact HI|exact⟨rfl,HI⟩|rfl
  ·intro D w' hD hWt hC hI;have hS:=hI.below;have HI:=yH (hI.step (k:=11) zX);have kk:=KX.o.below hS KX.o.lt;have d0:=kk.cell 0;have d1:=kk.cell 1;have d2:=kk.cell 2;simp at d0 d1 d2;clear kk;clear hS hI hC hWt hD;refine yO rfl ?_;go_wp2_with fail;all_goals first|exact HI|exact⟨rfl,HI⟩|rfl
  ·intro D w' hD hWt hC hI;have HI:=yH (hI.step (k:=12) zX);clear hI hC hWt hD;refine yO rfl ?_;go_wp2_with fail;all_goals first|exact HI|exact⟨rfl,HI⟩|rfl
  ·intro D w' hD hWt hC hI;have hS:=hI.below;have HI:=yH (hI.step (k:=13) zX);have kk:=KY.o.below hS KY.o.lt;have d0:=kk.cell 0;have d1:=kk.cell 1;have d2:=kk.cell 2;simp at d0 d1 d2;clear kk;clear hS hI hC hWt hD;refine yO rfl ?_;go_wp2_with fail;all_goals first|exact HI|exact⟨rfl,HI⟩|rfl
  ·intro D w' hD hWt hC hI;have HI:=yH (hI.step (k:=14) zX);clear hI hC hWt hD;refine yO rfl ?_;go_wp2_with fail;refine(c3.out w').mono ?_;rintro e w'' ⟨rfl,rfl⟩;exact⟨rfl,HI.o⟩
  ·intro D w' hD hWt hC hI;obtain⟨t,ht⟩:=hI;rw[hD]at ht;have hz:w'.heap.size=w.heap.size+2:=by rw[ht,←HW.o];rfl
   have HI:=yH (show aPw W (.cells #[.int .i64 p,.int .i64 q,.int .i64 r] 3) (ins 15 D) (w'.alloc (.cells #[.int .i64 p,.int .i64 q,.int .i64 r] 3))from⟨t,by rw[aHl,if_pos rfl,ht];rfl⟩);clear ht hC hWt hD;refine yO rfl ?_;go_wp2_with fail;all_goals first|exact HI|exact⟨rfl,HI⟩|exact⟨by rw[hz],HI.o⟩
  ·intro D w' hD hWt hC hI;have h15:D 15=true:=aA4 hC hWt (d:=12) zW;obtain⟨t,ht⟩:=hI;have KB:Blk w' (w.heap.size+2) #[.int .i64 p,.int .i64 q,.int .i64 r] 3:=xA
   have HI:=yH (aPw.step (k:=16) (show aPw W (.cells #[.int .i64 p,.int .i64 q,.int .i64 r] 3) D w' from⟨t,ht⟩) zX);have HO:=yH (or_three (w.heap.size+2) 3 p q r w' KB.lt (KB.cell 0) (KB.cell 1) (KB.cell 2));clear ht KB hC hWt hD h15;refine yO rfl ?_;go_wp2_with fail;refine HO.o.mono ?_;rintro e w'' ⟨rfl,rfl⟩;exact⟨rfl,HI.o⟩
  intro D w' hD hWt hC hI;have HI:=yH (hI.step (k:=17) zX);clear hI hC hWt hD;refine yO rfl ?_;go_wp2_with fail;all_goals first|exact HI|exact⟨rfl,HI⟩|rfl
 intro D w2 hall hI;obtain⟨t,ht⟩:=hI;rw[hall 15 zX,if_pos rfl]at ht;have HE:=yH (show ∃q os',w2=grow (w.drewN q) os' from by rw[ht];exact HG.o _ t);clear ht hall;go_wp2_with fail;go_ret;exact⟨rfl,HE.o⟩
theorem sortL_any{w:World}{base:Nat}{v:Value}{done ls:List Ln}(hI:Inv ls)(hp:done.Perm ls)(hl:ls.length≤64)(h:w.ownsRow base 71 5 v done.length (aBg done)):
  Calls Tryz.prog 100 #[v,.func (.func 101) #[] #[]] w fun e w'=>e=.returned (.tuple #[])∧w'.ownsRow base 71 5 v ls.length (aBg ls)∧Keep (fun b=>v.ownBlock=some b) w w':=by
 have hlen:=hp.length_eq;rcases h.2 with⟨rfl,h0⟩|⟨g,cap,cur,rfl,hbase,hb,h1,h2,h3,h4⟩
 ·rw[h0]at hlen;have:ls=[]:=List.eq_nil_of_length_eq_zero hlen.symm;subst this;refine(AnyF.slices_SortFunc_none { sortL with } none 0 (.func (.func 101) #[] #[]) w).mono ?_;rintro e w' ⟨rfl,rfl⟩;exact⟨rfl,World.ownsRow_nil _ _ _ _,Keep.refl _ _⟩
 have hg:g<w.heap.size:=(Array.getElem?_eq_some_iff.1 hb).1;have eg:∀args w,(callFunc 101 args).run Tryz.prog w=.ok (.enter 101 args) w:=enters_of Tryz.func101 zW rfl;have hcmp:CmpLays Tryz.prog 101 #[] Ln.vals 5 ordL g 0 done.toArray.size w:=fun m os dk _ x y=>order_any x y _
 have hc:=AnyQ.slices_SortFunc (P:=Tryz.prog) sortL 5 Tryz.isAgg71 Tryz.sizeOf71 Ln.vals (fun _=>rfl) (fun x u hu=>by simp[Ln.vals]at hu;rcases hu with rfl|rfl|rfl|rfl|rfl <;> rfl) ordL swoL 101 #[] g 0 cap done.toArray w eg hcmp (aT5 hb h4) hg zU;have hsz:done.toArray.size=done.length:=zV
 rw[hsz]at hc;refine Calls.mono hc ?_;rintro e w' ⟨rfl,d,n,os,hp1,hs1,rfl⟩;have hd:=sorted_is hI hp d (by rw[hsz];exact hp1) (by rw[hsz];exact hs1);have hda:d=ls.toArray:=by rw[←hd]
 subst hda;refine⟨rfl,⟨aDz ls,.inr ⟨g,cap,_,by rw[hlen],hbase,heap_lines _ hb,zQ,h2,by simp[putCells,h3],take_lines cur ls zQ⟩⟩,(keep_lines _).mono fun k _ hk=>by rw[hk];rfl⟩
end Go.Proofs.YtngnfdnfpiiclaaGreat
namespace Go.Proofs.YtngnfdnfpiiclaaGreat
open Go.RowKit
theorem clipL_any{w:World}{base:Nat}{v:Value}{n:Nat}{xs:List Value}(h:w.ownsRow base 71 5 v n xs):
  Calls Tryz.prog 102 #[v] w (aHn w base 71 5 n v xs):=by
 rcases h.2 with⟨rfl,h0⟩|⟨g,cap,cur,rfl,hbase,hb,h1,h2,h3,h4⟩
 ·subst h0;have hr:=aBi (P:=Tryz.prog) w 42 71 5 Tryz.underlying42 (Tryz.sizeOf71 w);have hx:=h.1;have hx2:=yH hx;clear h hx;go_enter Tryz.func102,Tryz.ntmps102;go_wp2;refine bodyPost_ret (v:=.slice none 0 0) (by simp[results,Tryz.results102,go_sem]) rfl ?_;exact⟨_,rfl,⟨hx2.out,.inl ⟨rfl,rfl⟩⟩,rfl,rfl⟩
 have hr:=aCh (P:=Tryz.prog) w 42 71 5 Tryz.underlying42 (Tryz.sizeOf71 w) g n cap h1;have HR:=yH (show aBk w base 71 5 (.slice (some ⟨g,0,none⟩) n n) n xs from⟨h.1,.inr ⟨g,cur,rfl,hbase,hb,zQ,zQ,h4⟩⟩);clear h hb h4 h3;unfold maxLen at h2;go_enter Tryz.func102,Tryz.ntmps102;go_wp2;refine bodyPost_ret (v:=.slice (some ⟨g,0,none⟩) n n) (by simp[results,Tryz.results102,go_sem]) rfl ?_;exact⟨_,rfl,HR.o,rfl,rfl⟩
theorem clipP_any{w:World}{base:Nat}{v:Value}{n:Nat}{xs:List Value}(h:w.ownsRow base 68 1 v n xs):
  Calls Tryz.prog 97 #[v] w (aHn w base 68 1 n v xs):=by
 rcases h.2 with⟨rfl,h0⟩|⟨g,cap,cur,rfl,hbase,hb,h1,h2,h3,h4⟩
 ·subst h0;have hr:=aBi (P:=Tryz.prog) w 41 68 1 Tryz.underlying41 (Tryz.sizeOf68 w);have hx2:=yH h.1;clear h;go_enter Tryz.func97,Tryz.ntmps97;go_wp2;refine bodyPost_ret (v:=.slice none 0 0) xR rfl ?_;exact⟨_,rfl,⟨hx2.out,.inl ⟨rfl,rfl⟩⟩,rfl,rfl⟩
 have hr:=aCh (P:=Tryz.prog) w 41 68 1 Tryz.underlying41 (Tryz.sizeOf68 w) g n cap h1;have HR:=yH (show aBk w base 68 1 (.slice (some ⟨g,0,none⟩) n n) n xs from⟨h.1,.inr ⟨g,cur,rfl,hbase,hb,zQ,zQ,h4⟩⟩);clear h hb h4 h3;unfold maxLen at h2;go_enter Tryz.func97,Tryz.ntmps97;go_wp2;refine bodyPost_ret (v:=.slice (some ⟨g,0,none⟩) n n) xR rfl ?_;exact⟨_,rfl,HR.o,rfl,rfl⟩
def LinesAt(w:World)(M:Nat)(ls:List Ln)(s:Value)(wr:World):Prop:=
 ∃done,aBo wr M w.heap.size ls done∧wr.ownsRow (w.heap.size+1) 71 5 s done.length (aBg done)∧Below w.heap.size w wr
theorem aOv{w:World}{G M:Nat}{ps:List Int}{ls:List Ln}(h:LedM w G M ps ls)(hI:LInv ps ls):
  Calls Tryz.prog 58 #[.pointer (some ⟨G,0,none⟩)] w (aFe w 71 5 ls.length (aBg ls)):=by
 have C1:=yH (aMu h.blk);have HM:=yH h.map;have HI:=yH hI;clear h hI;go_enter Tryz.func58,Tryz.ntmps58;go_wp2_with fail;refine C1.o.mono ?_;rintro e w ⟨rfl,rfl⟩;have hMlt:=HM.o.lt;go_wp2_with (first|(at_range;refine aDs rfl _ rfl M ls rfl HM.o ?_;intro w0 hr0 hb0)|go_in)
 go_frame
 go_loopw [3] (LinesAt w M ls) (fun _ wr=>aQ0 wr M w.heap.size)
 case atStart=>exact⟨[],hr0,World.ownsRow_nil _ _ _ _,hb0⟩
 obtain⟨done,hR,hown,hB⟩:=hrel;have hlen:=hR.len;have hleft:=hR.left;have hl64:=HI.o.len;have HR:=yH hR;have HB:=yH hB;have HO:=yH hown;clear hR hB hown;go_wp2_with (first|(at_next;refine aD1 rfl _ rfl M w.heap.size ls done rfl HR.o ?_ ?_)|go_in)
 ·intro hd;have CS:=yH (sortL_any HI.o.inv hd HI.o.len HO.o);clear hd;go_wp2_with fail;refine CS.o.mono ?_;rintro e w2 ⟨rfl,ho2,hk2⟩;have hB2:=yH (HB.o.trans (hk2.below HB.o.size (fun k hk he=>by have:=(aAf HO.o he).1;omega)));have CC:=yH (clipL_any ho2);clear ho2 hk2 CS;go_wp2_with fail;refine CC.o.mono ?_;rintro e w3 ⟨v',rfl,hrow,_,rfl⟩;have HRow:=yH hrow;clear hrow CC;go_wp2_with fail;refine bodyPost_ret (v:=v') (by simp[results,Tryz.results58,go_sem]) rfl ?_;exact⟨v',rfl,HRow.o.base (Nat.le_succ _),hB2.out⟩
 intro x w1 hx hR1 hT hen;have hb1:=HB.o.trans (hT.below yL);have hO1:=aBr HO.o hT.keep (fun b hb e=>by have:=(aAf HO.o hb).1;omega);have hb2:=((Below.refl w1.heap.size w1).alloc yL (.cells #[.int .u8 x.cr,.int .u8 x.de,.int .u8 x.cu] 188)).alloc zV (.cells #[.int .i64 x.li,.int .i64 x.db] 190);have CP:=yH (fun w=>aQz x w);have HR1:=yH hR1;have HB1:=yH hb1;have HO1:=yH hO1;have HB2:=yH hb2;clear hx hR1 hT hb1 hO1 hb2;go_wp2_with fail;refine(CP.o _).mono ?_;rintro e w3 ⟨rfl,hb3⟩;have HB3:=yT HB2 hb3;have HO3:=yH (aAg HO1.o HB3.o);have HR3:=yH (HR1.o.below HB3.o);have hz3:=yM HR1.o.lt HB3.o.size;clear hb3 hen;go_wp2_with (at_builtin;refine aJh _ rfl (.tmp 14) (.tmp 18) rfl (w.heap.size+1) _ done rfl (HO3.o.alloc _) _ _ x rfl (Blk.new _ _ _) zQ zU ?_);intro v4 w4 hown4 hgr4;have R2:∀k,Value.ownBlock _=some k→w.heap.size+1≤k:=fun k hk=>(aAf HO3.o hk).1
 have K4:=yH (((pAD (S:=fun b=>w.heap.size+1≤b) (Below.refl w3.heap.size w3)).alloc (.cells #[.int .u8 x.cr,.int .u8 x.de,.int .u8 x.cu,.int .i64 x.li,.int .i64 x.db] 71)).grown hgr4 (fun k hk=>.inl (R2 k hk)));have O4:=yH (show w4.ownsRow (w.heap.size+1) 71 5 v4 (done++[x]).length (aBg (done++[x])) by simpa using hown4);have HR4:=yH (HR3.o.keep K4.o zQ zQ);have HB4:=yH ((HB1.o.trans (HB3.o.mono HB1.o.size)).trans (K4.o.below (B:=w.heap.size) zQ (fun k hk he=>zQ)));have hleft4:=HR4.o.left;rw[List.length_append,List.length_singleton]at hleft4;clear R2 hown4 hgr4 hz3;go_wp2_with fail;go_roundw
 case rel=>exact⟨done++[x],HR4.o,O4.o,HB4.o⟩
 case measure=>omega
theorem aPx{ps:List Int}(hb:∀p∈ps,1≤p∧p≤16)(hr:ps.Pairwise (·<·)):aC0 ps 0 17=ps:=by
 refine rise_ext _ _ (aMt ps 0 17) hr fun x=>?_
 rw[aEs]
 constructor
 ·rintro⟨h1,h2|h2⟩
  ·omega
  exact h2
 intro h;exact⟨hb x h,.inr h⟩
def PartiesAt(ps:List Int)(w:World)(v q:Value)(wr:World):Prop:=
 ∃k:Nat,1≤k∧k≤17∧q=.int .u8 k∧wr.ownsRow w.heap.size 68 1 v (aC0 ps 0 k).length ((aC0 ps 0 k).map (.int .u8))∧Below w.heap.size w wr
theorem aRo{w:World}{G M:Nat}{ps:List Int}{ls:List Ln}(h:LedM w G M ps ls)(hI:LInv ps ls):
  Calls Tryz.prog 57 #[.pointer (some ⟨G,0,none⟩)] w (aFe w 68 1 ps.length (ps.map (.int .u8))):=by
 have c:=yH (fun(w':World) (k:Below w.heap.size w w') (q:Int)=>aF7 (h.below k).blk hI.bd q);have HE:=yH (aPx hI.bd hI.rise);clear h hI;go_enter Tryz.func57,Tryz.ntmps57;go_wp2_with fail
 go_loopw [3,4] (PartiesAt ps w) (fun _ q _=>17 - (intOf q).toNat)
 case atStart=>exact⟨1,zQ,zQ,rfl,World.ownsRow_nil _ _ _ _,yZ⟩
 obtain⟨k,hk0,hk,rfl,hown,hb⟩:=hrel;have hl:=aN9 ps 0 k;have O0:=yH hown;have B0:=yH hb;have hz:=hb.size;clear hown hb
 by_cases hkl:k≤16
 ·have N:=yH (aS4 ps 0 k hk0);have cq:=yH (c.out _ B0.o (k:Int));have hk1:(k:Int)≤16:=zQ
  have s1:((k:Int)==0)=false:=zU
  by_cases s2:(k:Int)∈ps
  ·have N2:Hid (aC0 ps 0 (k+1)=aC0 ps 0 k++[(k:Int)]):=yH (by rw[N.o,s1,decide_eq_true s2];rfl);rw[decide_eq_true s2]at cq;clear N s2 s1;generalize aC0 ps 0 k=out at *;have hl2:out.length≤100000:=zQ
   go_wp2_with fail;refine cq.out.mono ?_;rintro e wr ⟨rfl,rfl⟩;go_wp2_with (at_builtin;refine aE0 _ rfl (.tmp 12) (.tmp 14) rfl w.heap.size _ out rfl (O0.o.alloc _) _ _ (k:Int) rfl (Blk.new _ _ _) hl2 zU ?_);intro v3 w3 hown3 hgr3;have R2:∀k,Value.ownBlock _=some k→w.heap.size≤k:=fun k hk=>(aAf O0.o hk).1
   have B3:=yH ((B0.o.alloc B0.o.size (.cells #[.int .u8 (k:Int)] 68)).grown hgr3 zU (fun k hk=>R2 k hk));have O3:=yH (show w3.ownsRow w.heap.size 68 1 v3 (out++[(k:Int)]).length ((out++[(k:Int)]).map (.int .u8)) by simpa using hown3);clear R2 hown3 hgr3;go_wp2_with fail;go_roundw
   case rel=>exact⟨k+1,zQ,zQ,by go_num,by rw[N2.o];exact O3.o,B3.o⟩
   case measure=>simp[intOf];omega
  have N2:Hid (aC0 ps 0 (k+1)=aC0 ps 0 k):=yH (by rw[N.o,s1,decide_eq_false s2];simp);rw[decide_eq_false s2]at cq;clear N s2 s1;go_wp2_with fail;refine cq.out.mono ?_;rintro e wr ⟨rfl,rfl⟩;go_wp2_with fail;go_roundw
  case rel=>exact⟨k+1,zQ,zQ,by go_num,by rw[N2.o];exact O0.o,B0.o⟩
  case measure=>simp[intOf];omega
 obtain rfl:k=17:=zQ
 rw[HE.o]at O0;have CC:=yH (clipP_any O0.o);clear hl hk0 hk hkl;go_wp2_with fail;refine CC.o.mono ?_;rintro e w3 ⟨v',rfl,hrow,_,rfl⟩;have HRow:=yH hrow;clear hrow CC;go_wp2_with fail;refine bodyPost_ret (v:=v') (by simp[results,Tryz.results57,go_sem]) rfl ?_;exact⟨v',rfl,HRow.o,B0.o⟩
theorem clone_any{w:World}{b:Nat}{es:Array MapEntry}{clock:Nat}(hb:w.heap[b]? = some (.map es clock)):
  Calls Tryz.prog 112 #[.map (some b)] w fun e w'=>e=.returned (.map (some w.heap.size))∧w'=w.alloc (.map es clock):=by
 have hq:=fun w=>Go.Proofs.run_eql_map_nil_sl (P:=Tryz.prog) w 152 _ _ (some b) Tryz.underlying152
 go_enter Tryz.func112,Tryz.ntmps112;go_wp2;rw[run_callFunc_extern Tryz.func150 zW zW zW (e:=Extern.MapsClone.clone) zW,Go.Proofs.run_maps_clone_sl w 152 hb];simp only[Result.andThen];rw[Oper.upon_value];go_wp2;rw[Go.Proofs.run_typeAssert_map_sl _ 152 20 _ _ _ Tryz.underlying152];simp only[Result.andThen];rw[Oper.upon_value];go_wp2;go_ret;exact⟨rfl,rfl⟩
def parC(ps:List Int):List Value:=((ledC ps (.map none)).toList.take 17)
theorem aGk(ps:List Int):(parC ps).length=17:=by simp[parC,aG4]
theorem aPy(ps:List Int){j:Nat}(h:j<17):(parC ps)[j]? = some (.bool (decide ((j:Int)∈ps))):=by
 unfold parC;rw[List.getElem?_take_of_lt h,Array.getElem?_toList,aF5 _ _ _ h]
theorem ledC_par(ps:List Int)(v:Value):(parC ps++[v]).toArray=ledC ps v:=by
 apply Array.ext_getElem?;intro j;rw[List.getElem?_toArray]
 by_cases h:j<17
 ·rw[List.getElem?_append_left (by rw[aGk];exact h),aPy _ h,aF5 _ _ _ h]
 by_cases h2:j=17
 ·subst h2;rw[aLr,List.getElem?_append_right (uX aGk),aGk];rfl
 rw[Array.getElem?_eq_none (uX aG4),List.getElem?_eq_none (by simp[aGk];omega)]
theorem par_range{w:World}{g:Nat}{ps:List Int}{v:Value}{t:TypeId}(h:Blk w g (ledC ps v) t):w.rangeAt g 0 (parC ps):=by
 intro j u hu
 have hj:j<17:=by
  rcases Nat.lt_or_ge j 17 with h'|h'
  ·exact h'
  rw[List.getElem?_eq_none (by rw[aGk];exact h')]at hu;cases hu
 rw[Nat.zero_add,h.cell j,aF5 _ _ _ hj,←aPy ps hj];exact hu
theorem par_form(ps:List Int):∃b0 b1 b2 b3 b4 b5 b6 b7 b8 b9 b10 b11 b12 b13 b14 b15 b16:Bool,parC ps=[Value.bool b0,Value.bool b1,Value.bool b2,Value.bool b3,Value.bool b4,Value.bool b5,Value.bool b6,Value.bool b7,Value.bool b8,Value.bool b9,Value.bool b10,Value.bool b11,Value.bool b12,Value.bool b13,Value.bool b14,Value.bool b15,Value.bool b16]:=by
 have h:=aGk ps;refine⟨decide ((0:Int)∈ps),decide ((1:Int)∈ps),decide ((2:Int)∈ps),decide ((3:Int)∈ps),decide ((4:Int)∈ps),decide ((5:Int)∈ps),decide ((6:Int)∈ps),decide ((7:Int)∈ps),decide ((8:Int)∈ps),decide ((9:Int)∈ps),decide ((10:Int)∈ps),decide ((11:Int)∈ps),decide ((12:Int)∈ps),decide ((13:Int)∈ps),decide ((14:Int)∈ps),decide ((15:Int)∈ps),decide ((16:Int)∈ps),?_⟩;apply List.ext_getElem?;intro j
 by_cases hj:j<17
 ·rw[aPy ps hj]
  match j,hj with
  | 0,_=>rfl
  | 1,_=>rfl
  | 2,_=>rfl
  | 3,_=>rfl
  | 4,_=>rfl
  | 5,_=>rfl
  | 6,_=>rfl
  | 7,_=>rfl
  | 8,_=>rfl
  | 9,_=>rfl
  | 10,_=>rfl
  | 11,_=>rfl
  | 12,_=>rfl
  | 13,_=>rfl
  | 14,_=>rfl
  | 15,_=>rfl
  | 16,_=>rfl
  | n+17,h=>omega
 rw[List.getElem?_eq_none zQ,List.getElem?_eq_none zU]
theorem build_led(ps:List Int)(m:Nat)(w:World):(Instr.build 155 #[(0,.agg (parC ps).toArray),(1,.map (some m))]).run Tryz.prog w=.ok (.agg (ledC ps (.map (some m)))) w:=by
 rw[←ledC_par];obtain⟨b0,b1,b2,b3,b4,b5,b6,b7,b8,b9,b10,b11,b12,b13,b14,b15,b16,hb⟩:=par_form ps;rw[hb]
 have h:(Instr.build 155 #[(0,.agg [Value.bool b0,Value.bool b1,Value.bool b2,Value.bool b3,Value.bool b4,Value.bool b5,Value.bool b6,Value.bool b7,Value.bool b8,Value.bool b9,Value.bool b10,Value.bool b11,Value.bool b12,Value.bool b13,Value.bool b14,Value.bool b15,Value.bool b16].toArray),(1,.map (some m))]).run Tryz.prog=fun w=>.ok (.agg ([Value.bool b0,Value.bool b1,Value.bool b2,Value.bool b3,Value.bool b4,Value.bool b5,Value.bool b6,Value.bool b7,Value.bool b8,Value.bool b9,Value.bool b10,Value.bool b11,Value.bool b12,Value.bool b13,Value.bool b14,Value.bool b15,Value.bool b16]++[Value.map (some m)]).toArray) w:=by
  kernel_rfl
 rw[h]
def aNc(W:World)(o:Obj)(C:Array Value)(T:TypeId)(D:Nat→Bool)(w:World):Prop:=
 Below W.heap.size W w∧w.heap.size=W.heap.size+((if D 8=true then 1 else 0)+(if D 10=true then 1 else 0))∧(D 8=true→w.heap[W.heap.size]? = some o)∧(D 10=true→w.heap[W.heap.size+1]? = some (.cells C T))
theorem aNc.step{W w:World}{o:Obj}{C:Array Value}{T:TypeId}{D:Nat→Bool}{k:Nat}(h:aNc W o C T D w)(h8:k≠8)(h10:k≠10):aNc W o C T (ins k D) w:=by
 unfold aNc;rw[aC3 D (Ne.symm h8),aC3 D (Ne.symm h10)];exact h
def CopyMPost(w:World)(ps:List Int)(ls:List Ln)(e:Ending)(w':World):Prop:=
 ∃g' m',e=.returned (.pointer (some ⟨g',0,none⟩))∧LedM w' g' m' ps ls∧w.heap.size≤g'∧w.heap.size≤m'∧Below w.heap.size w w'
theorem pcopy_any{w:World}{G M:Nat}{ps:List Int}{ls:List Ln}(h:LedM w G M ps ls):
  Calls Tryz.prog 76 #[.pointer (some ⟨G,0,none⟩)] w (CopyMPost w ps ls):=by
 have C1:=yH (aF6 h.blk);have HBk:=yH h.blk;obtain⟨ms,⟨es,clock,hes,hst,hkv⟩,hperm⟩:=h.map;have HM:=yH hes;have HN:Hid (∀w',w'.heap[w.heap.size]? = some (.map es clock)→aDj w' w.heap.size ls):=yH fun w' hw=>⟨ms,⟨es,clock,hw,hst,hkv⟩,hperm⟩
 have hMlt:M<w.heap.size:=h.map.lt;clear h hes hst hkv hperm;go_enter Tryz.func76,Tryz.ntmps76;go_wp2_with fail;refine C1.o.mono ?_;rintro e w ⟨rfl,rfl⟩;go_wp2_with fail
 refine aBz zW [(.pointer (some ⟨G,0,none⟩)),(.pointer (some ⟨G,0,none⟩)),(.pointer (some ⟨G,0,none⟩)),(.agg (parC ps).toArray),(.pointer (some ⟨G,0,none⟩)),(.pointer (some ⟨G,0,none⟩)),(.pointer (some ⟨G,17,none⟩)),(.map (some M)),(.map (some w.heap.size)),(.agg (ledC ps (.map (some w.heap.size)))),(.pointer (some ⟨w.heap.size+1,0,none⟩)),(.pointer (some ⟨w.heap.size+1,0,none⟩))]
  (aNc w (.map es clock) (ledC ps (.map (some w.heap.size))) 155) zW ⟨yZ.drew,zV,zV,zV⟩ ?_
 intro af haf;simp only[puts,Act.put,yA,yC,yF,yD,yE]at haf;subst haf;refine⟨?_,?_⟩
 ·simp only[aEa];refine⟨?_,?_,?_,?_,?_,?_,?_,?_,?_,?_,?_,?_,trivial⟩
  ·intro D w' hD hWt hC hI;have HI:=yH (hI.step (k:=0) zX zX);clear hI hC hWt hD;refine yO rfl ?_;go_wp2_with fail;all_goals first|exact HI|exact⟨rfl,HI⟩|rfl
  ·intro D w' hD hWt hC hI;have HI:=yH (hI.step (k:=1) zX zX);clear hI hC hWt hD;refine yO rfl ?_;go_wp2_with fail;all_goals first|exact HI|exact⟨rfl,HI⟩|rfl
  ·intro D w' hD hWt hC hI;have HI:=yH (hI.step (k:=2) zX zX);clear hI hC hWt hD;refine yO rfl ?_;go_wp2_with fail;all_goals first|exact HI|exact⟨rfl,HI⟩|rfl
  ·intro D w' hD hWt hC hI;have hS:=hI.1;have HI:=yH (hI.step (k:=3) zX zX);have kb:=HBk.o.below hS HBk.o.lt;refine yO rfl ?_;refine wp_load_mid 153 (.tmp 8) rfl G 0 rfl (parC ps) _ (par_range kb) Tryz.underlying153 rfl (by rw[aGk];kernel_rfl) ?_;exact⟨rfl,HI.o⟩
  ·intro D w' hD hWt hC hI;have HI:=yH (hI.step (k:=4) zX zX);clear hI hC hWt hD;refine yO rfl ?_;go_wp2_with fail;all_goals first|exact HI|exact⟨rfl,HI⟩|rfl
  ·intro D w' hD hWt hC hI;have HI:=yH (hI.step (k:=5) zX zX);clear hI hC hWt hD;refine yO rfl ?_;go_wp2_with fail;all_goals first|exact HI|exact⟨rfl,HI⟩|rfl
  ·intro D w' hD hWt hC hI;have HI:=yH (hI.step (k:=6) zX zX);clear hI hC hWt hD;refine yO rfl ?_;go_wp2_with fail;all_goals first|exact HI|exact⟨rfl,HI⟩|rfl
  ·intro D w' hD hWt hC hI;have hS:=hI.1;have HI:=yH (hI.step (k:=7) zX zX);have kb:=HBk.o.below hS HBk.o.lt;have d:=kb.ledMap;clear hS hI hC hWt hD kb;refine yO rfl ?_;go_wp2_with fail;all_goals first|exact HI|exact⟨rfl,HI⟩|rfl
  ·intro D w' hD hWt hC hI;have h10:D 10=false:=aBm hC hD 12 10 zW;obtain⟨q1,q2,q3,q4⟩:=hI;rw[hD,h10]at q2;have hz:w'.heap.size=w.heap.size:=v6 q2
   have hc:=clone_any (w:=w') (b:=M) (es:=es) (clock:=clock) (by rw[q1.block M hMlt];exact HM.o);rw[hz]at hc
   have HI:Hid (aNc w (.map es clock) (ledC ps (.map (some w.heap.size))) 155 (ins 8 D) (w'.alloc (.map es clock))):=yH (by
    refine⟨q1.alloc q1.size _,?_,fun _=>?_,fun d=>?_⟩
    ·rw[aHl,aC3 D zX,h10];simp[hz]
    ·rw[←hz];exact heap_alloc_new _ _
    rw[aC3 D zX,h10]at d
    cases d)
   have HC:=yH hc;clear q1 q2 q3 q4 hc hC hWt hD h10;refine yO rfl ?_;go_wp2_with fail;refine HC.o.mono ?_;rintro e w'' ⟨rfl,rfl⟩;exact⟨rfl,HI.o⟩
  ·intro D w' hD hWt hC hI;have HI:=yH (hI.step (k:=9) zX zX);refine yO rfl ?_;refine aS2 155 #[(0,.tmp 9),(1,.tmp 14)] rfl #[(0,(.agg (parC ps).toArray)),(1,(.map (some w.heap.size)))] (by simp[Act.eval]) _ (build_led ps w.heap.size w') ?_;exact⟨rfl,HI.o⟩
  ·intro D w' hD hWt hC hI;have h8:D 8=true:=aA4 hC hWt (d:=12) zW;obtain⟨q1,q2,q3,q4⟩:=hI;rw[hD,h8]at q2;have hz:w'.heap.size=w.heap.size+1:=v6 q2
   have HI:Hid (aNc w (.map es clock) (ledC ps (.map (some w.heap.size))) 155 (ins 10 D) (w'.alloc (.cells (ledC ps (.map (some w.heap.size))) 155))):=yH (by
    refine⟨q1.alloc q1.size _,?_,fun d=>?_,fun _=>?_⟩
    ·rw[aHl,aC3 D zX,h8];simp[hz]
    ·rw[heap_alloc_old _ _ zQ];exact q3 h8
    rw[←hz];exact heap_alloc_new _ _)
   clear q1 q2 q3 q4 hC hWt hD h8;refine yO rfl ?_;go_wp2_with fail;all_goals first|exact HI|exact⟨rfl,HI⟩|exact⟨by rw[hz],HI.o⟩
  intro D w' hD hWt hC hI;have HI:=yH (hI.step (k:=11) zX zX);clear hI hC hWt hD;refine yO rfl ?_;go_wp2_with fail;all_goals first|exact HI|exact⟨rfl,HI⟩|rfl
 intro D w2 hall hI;obtain⟨q1,q2,q3,q4⟩:=hI;have q3:=q3 (hall 8 zX);have q4:=q4 (hall 10 zX);have HE:=yH (show LedM w2 (w.heap.size+1) w.heap.size ps ls from⟨q4,HN.o w2 q3⟩);have HB:=yH q1;clear q1 q2 q3 q4 hall;go_wp2_with fail;refine bodyPost_ret (v:=.pointer (some ⟨w.heap.size+1,0,none⟩)) (by simp[results,Tryz.results76,go_sem]) rfl ?_;exact⟨w.heap.size+1,w.heap.size,rfl,HE.o,zQ,Nat.le_refl _,HB.o⟩
theorem aPz{w:World}{va vb:Value}{la lb:List Ln}(ha:aB4 w va 5 la.length (aBg la))(hb:aB4 w vb 5 lb.length (aBg lb)):
  Calls Tryz.prog 55 #[va,vb] w (yR w (.bool (decide (la=lb)))):=by
 have C:=yH (aQj ha hb);clear ha hb;generalize decide (la=lb)=r at *;go_enter Tryz.func55,Tryz.ntmps55;go_wp2_with fail;refine C.o.mono ?_;rintro e w1 ⟨rfl,b1⟩;go_wp2_with fail;go_ret;exact⟨rfl,b1⟩
theorem aNd{w:World}{va vb:Value}{la lb:List Int}(ha:aB4 w va 1 la.length (la.map (.int .u8)))(hb:aB4 w vb 1 lb.length (lb.map (.int .u8))):
  Calls Tryz.prog 54 #[va,vb] w (yR w (.bool (decide (la=lb)))):=by
 have C:=yH (aO8 ha hb);clear ha hb;generalize decide (la=lb)=r at *;go_enter Tryz.func54,Tryz.ntmps54;go_wp2_with fail;refine C.o.mono ?_;rintro e w1 ⟨rfl,b1⟩;go_wp2_with fail;go_ret;exact⟨rfl,b1⟩
section
variable{w:World}{ao:Option Addr}{cap:Nat}{l:List Fw}
end
def ofN(l:List Fw)(a b:Int):Nat→Int
 | 0=>0
 | k+1=>if(dbt l (l.length - (k+1))).fr=a∧(dbt l (l.length - (k+1))).tt=b then(dbt l (l.length - (k+1))).am else ofN l a b k
def ofL(l:List Fw)(a b:Int):Int:=ofN l a b l.length
theorem ofN_next(l:List Fw)(a b:Int){k:Nat}(hk:k<l.length):ofN l a b (l.length - k)=if(dbt l k).fr=a∧(dbt l k).tt=b then(dbt l k).am else ofN l a b (l.length - (k+1)):=by
 rw[show l.length - k=(l.length - (k+1))+1 by omega];show(if(dbt l (l.length - (l.length - (k+1)+1))).fr=a∧_ then _ else _)=_;rw[show l.length - (l.length - (k+1)+1)=k by omega]
def stL(l:List Fw)(k:Nat)(p:Int):Int:=sumN (fun i=>psD l p i (amD l i)) k
theorem SlIn.debts{w:World}{a:Option Addr}{len cap:Nat}{xs:List Fw}(h:SlIn Fw.vals 3 Fw.Fits w a len cap xs):aFo w a xs:=by
 obtain⟨_,hl,_,_,_,h3⟩:=h;intro h0;obtain⟨b,off,ha,hb,hc⟩:=h3 zQ;refine⟨b,off,ha,hb,fun m hm=>?_⟩;rw[aGe hm];exact⟨hc m hm 0 _ rfl,hc m hm 1 _ rfl,hc m hm 2 _ rfl⟩
def sumL(g:Fw→Int):List Fw→Int
 | []=>0
 | x::r=>g x+sumL g r
theorem aI5(g:Fw→Int):∀(a b:List Fw),sumL g (a++b)=sumL g a+sumL g b
 | [],b=>by show _=0+_;rw[List.nil_append];omega
 | x::a,b=>by
  show g x+sumL g (a++b)=g x+sumL g a+sumL g b;rw[aI5 g a b];omega
theorem sumN_take(g:Fw→Int)(l:List Fw):∀n,n≤l.length→sumN (fun i=>g (dbt l i)) n=sumL g (l.take n)
 | 0,_=>by simp[sumN,sumL]
 | n+1,h=>by
  show sumN (fun i=>g (dbt l i)) n+g (dbt l n)=_;rw[sumN_take g l n zQ,List.take_succ_eq_append_getElem zQ,aI5,aGe zQ];show _=_+(g _+0);omega
theorem aI6(l:List Fw)(L:Nat→Int)(k:Nat):aI3 l L (k+1)=aI3 l L k++if 0<L k then [⟨(dbt l k).fr,(dbt l k).tt,L k⟩]else []:=rfl
theorem sumL_left(g:Fw→Int)(l:List Fw)(L:Nat→Int):∀n,sumL g (aI3 l L n)=sumN (fun i=>if 0<L i then g ⟨(dbt l i).fr,(dbt l i).tt,L i⟩else 0) n
 | 0=>rfl
 | n+1=>by
  rw[aI6,aI5,sumL_left g l L n];show _=sumN _ n+if 0<L n then g ⟨(dbt l n).fr,(dbt l n).tt,L n⟩else 0
  split
  ·show _+(g _+0)=_;omega
  show _+0=_;omega
theorem aJy{l:List Fw}{L:Nat→Int}{x:Fw}:∀n,x∈aI3 l L n↔∃i,i<n∧0<L i∧x=⟨(dbt l i).fr,(dbt l i).tt,L i⟩
 | 0=>by
  constructor
  ·intro h;cases h
  ·rintro⟨i,h,_⟩;omega
 | n+1=>by
  rw[aI6,List.mem_append,aJy n]
  constructor
  ·rintro(⟨i,h1,h2⟩|h)
   ·exact⟨i,zQ,h2⟩
   split at h
   ·rename_i hc;exact⟨n,zQ,hc,List.mem_singleton.1 h⟩
   cases h
  rintro⟨i,h1,h2,h3⟩
  by_cases hi:i=n
  ·subst hi;exact .inr (by rw[if_pos h2];exact List.mem_singleton.2 h3)
  exact .inl ⟨i,zQ,h2,h3⟩
theorem aP0{l:List Fw}{i:Nat}(h:i<l.length):dbt l i∈l:=by rw[aGe h];exact List.getElem_mem h
theorem mem_dbt{l:List Fw}{x:Fw}(h:x∈l):∃i,i<l.length∧dbt l i=x:=by
 obtain⟨i,hi,rfl⟩:=List.getElem_of_mem h;exact⟨i,hi,aGe hi⟩
theorem aLa{l:List Fw}(hM:MayD l)(L:Nat→Int):∀n,n≤l.length→(aI3 l L n).Pairwise (fun x y=>keyD x<keyD y)
 | 0,_=>List.Pairwise.nil
 | n+1,h=>by
  rw[aI6,List.pairwise_append];refine⟨aLa hM L n zQ,?_,?_⟩
  ·split
   ·exact List.pairwise_singleton _ _
   exact List.Pairwise.nil
  intro x hx y hy;obtain⟨i,hi,_,rfl⟩:=(aJy n).1 hx;split at hy
  ·rw[List.mem_singleton]at hy;subst hy;have:=hM.lt (i:=i) (n - i - 1) zQ;rw[show i+(n - i - 1)+1=n by omega]at this;exact this
  cases hy
theorem left_at{l:List Fw}{L:Nat→Int}{i:Nat}(hi:i<(aNa l L).length):∃j,j<l.length∧0<L j∧dbt (aNa l L) i=⟨(dbt l j).fr,(dbt l j).tt,L j⟩:=(aJy l.length).1 (aP0 hi)
theorem left_may{l:List Fw}{L:Nat→Int}(hM:MayD l)(hL:RdOk l L):MayD (aNa l L):=by
 refine⟨fun i hi=>?_,fun i hi=>?_⟩
 ·obtain⟨j,hj,h1,h2⟩:=left_at hi;rw[h2];obtain⟨a1,a2,a3,a4,a5⟩:=hM.ok j hj;have h3:=hL.hi j hj;exact⟨a1,a2,a3,by show 1≤L j;omega,by show L j≤1099511627776;omega⟩
 have h:=List.pairwise_iff_getElem.1 (aLa hM L l.length yL) i (i+1) (by show i<(aNa l L).length;omega) hi zQ;rw[aGe zQ,aGe hi];exact h
theorem ofN_none{l:List Fw}{a b:Int}(h:∀i,i<l.length→¬((dbt l i).fr=a∧(dbt l i).tt=b)):∀k,k≤l.length→ofN l a b k=0
 | 0,_=>rfl
 | k+1,hk=>by
  show(if(dbt l (l.length - (k+1))).fr=a∧(dbt l (l.length - (k+1))).tt=b then _ else ofN l a b k)=0;rw[if_neg (h _ zQ),ofN_none h k zQ]
theorem ofN_at{l:List Fw}(hM:MayD l){i:Nat}(hi:i<l.length):∀k,k≤l.length→l.length - k≤i→ofN l (dbt l i).fr (dbt l i).tt k=(dbt l i).am
 | 0,_,h=>zQ
 | k+1,hk,h=>by
  show(if(dbt l (l.length - (k+1))).fr=(dbt l i).fr∧(dbt l (l.length - (k+1))).tt=(dbt l i).tt then(dbt l (l.length - (k+1))).am else ofN l (dbt l i).fr (dbt l i).tt k)=_
  by_cases hc:(dbt l (l.length - (k+1))).fr=(dbt l i).fr∧(dbt l (l.length - (k+1))).tt=(dbt l i).tt
  ·rw[if_pos hc,hM.inj zQ hi hc.1 hc.2]
  rw[if_neg hc];have:l.length - (k+1)≠i:=fun e=>hc (by rw[e];exact⟨rfl,rfl⟩)
  exact ofN_at hM hi k zQ zQ
theorem ofL_at{l:List Fw}(hM:MayD l){i:Nat}(hi:i<l.length):ofL l (dbt l i).fr (dbt l i).tt=(dbt l i).am:=ofN_at hM hi l.length yL zQ
theorem ofL_left{l:List Fw}{L:Nat→Int}(hM:MayD l)(hL:RdOk l L){i:Nat}(hi:i<l.length):ofL (aNa l L) (dbt l i).fr (dbt l i).tt=L i:=by
 by_cases h0:0<L i
 ·obtain⟨j,hj,he⟩:=mem_dbt ((aJy (l:=l) (L:=L) l.length).2 ⟨i,hi,h0,rfl⟩);have:=ofL_at (left_may hM hL) hj
  change dbt (aNa l L) j=_ at he
  rw[he]at this;exact this
 have hz:L i=0:=uV (hL.lo i hi)
 rw[hz];refine ofN_none (fun j hj hc=>?_) _ yL;obtain⟨m,hm,h1,h2⟩:=left_at hj;rw[h2]at hc;have:=hM.inj hm hi hc.1 hc.2;subst this;exact h0 h1
theorem aJz(g:Nat→Int)(n:Nat):sumN g (n+1)=sumN g n+g n:=rfl
def aE8(ls:List Ln)(c a b:Int):Int:=(lnAt ls b a c).db
def rowF(ls:List Ln)(c a:Int):Nat→List Fw
 | 0=>[]
 | k+1=>rowF ls c a k++if 0<aE8 ls c a ((k+1:Nat):Int)then [⟨a,((k+1:Nat):Int),aE8 ls c a ((k+1:Nat):Int)⟩]else []
def aNe(ls:List Ln)(c:Int):Nat→List Fw
 | 0=>[]
 | k+1=>aNe ls c k++rowF ls c ((k+1:Nat):Int) 16
def aAi(ls:List Ln)(c:Int):List Fw:=aNe ls c 16
theorem aH2{ls:List Ln}{c a:Int}{x:Fw}:∀{n:Nat},x∈rowF ls c a n↔∃k:Nat,1≤k∧k≤n∧0<aE8 ls c a k∧x=⟨a,k,aE8 ls c a k⟩
 | 0=>by
  constructor
  ·intro h;cases h
  ·rintro⟨k,h1,h2,_⟩;omega
 | n+1=>by
  unfold rowF;rw[List.mem_append,aH2]
  constructor
  ·rintro(⟨k,h1,h2,h3⟩|h)
   ·exact⟨k,h1,zQ,h3⟩
   split at h
   ·rename_i hp;rw[List.mem_singleton]at h;exact⟨n+1,zQ,Nat.le_refl _,hp,h⟩
   cases h
  rintro⟨k,h1,h2,h3,h4⟩
  by_cases hk:k=n+1
  ·subst hk
   right
   rw[if_pos h3,List.mem_singleton];exact h4
  exact .inl ⟨k,h1,zQ,h3,h4⟩
theorem aKt{ls:List Ln}{c:Int}{x:Fw}:∀{n:Nat},x∈aNe ls c n↔∃a:Nat,1≤a∧a≤n∧x∈rowF ls c a 16
 | 0=>by
  constructor
  ·intro h;cases h
  ·rintro⟨k,h1,h2,_⟩;omega
 | n+1=>by
  unfold aNe;rw[List.mem_append,aKt]
  constructor
  ·rintro(⟨k,h1,h2,h3⟩|h)
   ·exact⟨k,h1,zQ,h3⟩
   exact⟨n+1,zQ,Nat.le_refl _,h⟩
  rintro⟨k,h1,h2,h3⟩
  by_cases hk:k=n+1
  ·subst hk;exact .inr h3
  exact .inl ⟨k,h1,zQ,h3⟩
theorem aEt{ls:List Ln}{c:Int}{x:Fw}:x∈aAi ls c↔(1≤x.fr∧x.fr≤16)∧(1≤x.tt∧x.tt≤16)∧0<x.am∧x.am=aE8 ls c x.fr x.tt:=by
 unfold aAi;rw[aKt]
 constructor
 ·rintro⟨a,h1,h2,h3⟩;obtain⟨k,h4,h5,h6,rfl⟩:=aH2.1 h3;exact⟨vO,vO,h6,rfl⟩
 rintro⟨h1,h2,h3,h4⟩;refine⟨x.fr.toNat,zQ,zQ,aH2.2 ⟨x.tt.toNat,zQ,zQ,?_,?_⟩⟩
 ·rw[Int.toNat_of_nonneg zQ,Int.toNat_of_nonneg zQ,←h4];exact h3
 rw[Int.toNat_of_nonneg zQ,Int.toNat_of_nonneg zQ,←h4]
theorem aNf{ls:List Ln}{c a:Int}:∀n:Nat,(rowF ls c a n).Pairwise fun x y=>keyD x<keyD y
 | 0=>List.Pairwise.nil
 | n+1=>by
  unfold rowF;rw[List.pairwise_append];refine⟨aNf n,by split <;> simp,fun x hx y hy=>?_⟩;obtain⟨k,h1,h2,_,rfl⟩:=aH2.1 hx;split at hy
  ·rw[List.mem_singleton]at hy;subst hy;unfold keyD;dsimp only;omega
  cases hy
theorem aJ0{ls:List Ln}{c:Int}:∀n:Nat,(aNe ls c n).Pairwise fun x y=>keyD x<keyD y
 | 0=>List.Pairwise.nil
 | n+1=>by
  unfold aNe;rw[List.pairwise_append];refine⟨aJ0 n,aNf 16,fun x hx y hy=>?_⟩;obtain⟨a,h1,h2,h3⟩:=aKt.1 hx;obtain⟨k,h4,h5,_,rfl⟩:=aH2.1 h3;obtain⟨j,h6,h7,_,rfl⟩:=aH2.1 hy;unfold keyD;dsimp only;omega
theorem aGl(ls:List Ln)(c:Int):(aAi ls c).Pairwise fun x y=>keyD x<keyD y:=aJ0 16
attribute [irreducible] aAi aNe rowF
theorem dbt_sorted{D:List Fw}(h:D.Pairwise fun x y=>keyD x<keyD y){i j:Nat}(hij:i<j)(hj:j<D.length):keyD (dbt D i)<keyD (dbt D j):=by
 rw[aGe hj,aGe zQ];exact List.pairwise_iff_getElem.1 h i j zQ hj hij
theorem aHg{ps:List Int}{ls:List Ln}(h:LInv ps ls){c a b:Int}(hp:0<aE8 ls c a b):∃y,aAn ls b a c=some y∧lnAt ls b a c=y∧y.Good∧y.cr=b∧y.de=a∧y.cu=c:=by
 unfold aE8 at hp
 cases hl:aAn ls b a c with
 | none=>rw[aAv hl]at hp;exact absurd hp zX
 | some y=>
  obtain⟨hm,h1,h2,h3⟩:=aAq hl;exact⟨y,rfl,aAk hl,h.inv.good y hm,h1,h2,h3⟩
theorem aH3{ps:List Int}{ls:List Ln}(h:LInv ps ls)(c:Int):MayD (aAi ls c):=by
 refine⟨fun i hi=>?_,fun i hi=>dbt_sorted (aGl ls c) (Nat.lt_succ_self i) hi⟩;obtain⟨h1,h2,h3,h4⟩:=aEt.1 (aP0 hi);obtain⟨y,_,hy,hg,k1,k2,_⟩:=aHg h (c:=c) (by rw[←h4];exact h3);have hd:=hg.db;have hl:=hg.li;have hn:=hg.ne;have e:(dbt (aAi ls c) i).am=y.db:=by rw[h4];unfold aE8;rw[hy]
 exact⟨h1,h2,by rw[←k1,←k2];exact fun e=>hn e.symm,zQ,zQ⟩
theorem forgive_at{ps:List Int}{ls:List Ln}(h:LInv ps ls){a b c n:Int}(h1:1≤n)(h2:n≤(lnAt ls a b c).db):
  aBh ls a b c n=0∧(∀a' b' c',aAn (aBe ls a b c n) a' b' c'=if a=a'∧b=b'∧c=c' then some ((lnAt ls a b c).owe ((lnAt ls a b c).db - n))else aAn ls a' b' c')∧
   (∀p q,posL (aBe ls a b c n) p q=posL ls p q+if q=c then(if b=p then n else 0) - (if a=p then n else 0)else 0)∧(∀q,totL (aBe ls a b c n) q=totL ls q - if q=c then n else 0):=by
 cases hl:aAn ls a b c with
 | none=>rw[aAv hl]at h2;exact absurd h2 (by unfold noLn;dsimp only;omega)
 | some x=>
  rw[aAk hl]at h2
  have hE:aBh ls a b c n=0:=by
   unfold aBh;rw[if_neg zQ,if_neg (by rw[hl];simp),aAk hl,if_neg zQ]
  obtain⟨hm,k1,k2,k3⟩:=aAq hl;have hg:=h.inv.good x hm;have hdb:=hg.db;obtain⟨_,f,s,_⟩:=aPi h.inv hl (d:=x.db - n) zQ zQ
  have hF:aBe ls a b c n=setL ls (x.owe (x.db - n)):=by
   unfold aBe;rw[if_pos hE,aAk hl]
  refine⟨hE,?_,fun p q=>?_,fun q=>?_⟩
  ·rw[hF,aAk hl];exact f
  ·rw[hF];unfold posL;rw[s (aBb p q) (aFv p q)];unfold aBb Ln.owe;simp only[k1,k2,k3]
   by_cases hq:c=q
   ·subst hq;simp only[if_true]
    (repeat' split) <;> omega
   rw[if_neg hq,if_neg hq,if_neg (fun e=>hq e.symm)];omega
  rw[hF];unfold totL;rw[s (aGx q) (by unfold aGx noLn;simp)];unfold aGx Ln.owe;simp only[k3]
  by_cases hq:c=q
  ·subst hq;simp only[if_true];omega
  rw[if_neg hq,if_neg hq,if_neg (fun e=>hq e.symm)];omega
theorem aLb{ls:List Ln}{a b c n:Int}(h:n<1):aBe ls a b c n=ls:=by
 unfold aBe aBh;rw[if_pos h,if_neg zX]
def aKu(ls:List Ln)(c:Int)(D:List Fw)(L:Nat→Int):Nat→List Ln
 | 0=>ls
 | k+1=>aBe (aKu ls c D L k) (dbt D k).tt (dbt D k).fr c ((dbt D k).am - L k)
def ntL(ls:List Ln)(c:Int)(L:Nat→Int):List Ln:=aKu ls c (aAi ls c) L (aAi ls c).length
theorem aJ1{ps:List Int}{ls:List Ln}(h:LInv ps ls)(c:Int)(D:List Fw)(L:Nat→Int):∀k,LInv ps (aKu ls c D L k)
 | 0=>h
 | k+1=>(aJ1 h c D L k).forgive _ _ _ _
structure NetTo(ls:List Ln)(c:Int)(D:List Fw)(L:Nat→Int)(k:Nat)(ms:List Ln):Prop where
 here:∀i,i<k→aAn ms (dbt D i).tt (dbt D i).fr c=(aAn ls (dbt D i).tt (dbt D i).fr c).map (fun x=>x.owe (L i))
 else_:∀a b q,(∀i,i<k→¬(q=c∧(dbt D i).tt=a∧(dbt D i).fr=b))→aAn ms a b q=aAn ls a b q
 pos:∀p q,posL ms p q=posL ls p q - if q=c then sumN (fun i=>psD D p i ((dbt D i).am - L i)) k else 0
 tot:∀q,totL ms q=totL ls q - if q=c then sumN (fun i=>(dbt D i).am - L i) k else 0
theorem owe_same{x:Ln}{d:Int}(h:x.db=d):x.owe d=x:=by subst h;rfl
theorem net_to{ps:List Int}{ls:List Ln}(h:LInv ps ls)(c:Int){L:Nat→Int}(hL:RdOk (aAi ls c) L):∀k,k≤(aAi ls c).length→NetTo ls c (aAi ls c) L k (aKu ls c (aAi ls c) L k)
 | 0,_=>⟨fun i hi=>zQ,fun _ _ _ _=>rfl,fun p q=>by simp[sumN,aKu],fun q=>by simp[sumN,aKu]⟩
 | k+1,hk=>by
  have ih:=net_to h c hL k zQ;have hI:=aJ1 h c (aAi ls c) L k;have hkl:k<(aAi ls c).length:=zQ
  obtain⟨d1,d2,d3,d4⟩:=aEt.1 (aP0 hkl);obtain⟨y,hy,hya,hg,y1,y2,y3⟩:=aHg h (c:=c) (by rw[←d4];exact d3);have hM:=aH3 h c
  have hnew:∀i,i<k→¬((dbt (aAi ls c) i).tt=(dbt (aAi ls c) k).tt∧(dbt (aAi ls c) i).fr=(dbt (aAi ls c) k).fr):=fun i hi e=>by
   have:=hM.inj (show i<(aAi ls c).length by omega) hkl e.2 e.1;omega
  have hold:aAn (aKu ls c (aAi ls c) L k) (dbt (aAi ls c) k).tt (dbt (aAi ls c) k).fr c=some y:=by
   rw[ih.else_ _ _ _ (fun i hi e=>hnew i hi e.2),hy]
  have ham:(dbt (aAi ls c) k).am=y.db:=by rw[d4];unfold aE8;rw[hya]
  have lo:=hL.lo k hkl;have hi_:=hL.hi k hkl;show NetTo ls c (aAi ls c) L (k+1) (aBe (aKu ls c (aAi ls c) L k) (dbt (aAi ls c) k).tt (dbt (aAi ls c) k).fr c ((dbt (aAi ls c) k).am - L k))
  by_cases hz:(dbt (aAi ls c) k).am - L k<1
  ·rw[aLb hz];have he:(dbt (aAi ls c) k).am - L k=0:=zQ
   refine⟨fun i hi=>?_,fun a b q hn=>ih.else_ a b q (fun i hi=>hn i zQ),fun p q=>?_,fun q=>?_⟩
   ·by_cases hik:i=k
    ·subst hik;rw[hold,hy];simp only[Option.map_some];rw[owe_same zQ]
    exact ih.here i zQ
   ·rw[ih.pos p q];congr 1;split
    ·rw[aJz,he];unfold psD;simp
    rfl
   rw[ih.tot q];congr 1;split
   ·rw[aJz,he];omega
   rfl
  obtain⟨_,f,s1,s2⟩:=forgive_at hI (a:=(dbt (aAi ls c) k).tt) (b:=(dbt (aAi ls c) k).fr) (c:=c) (n:=(dbt (aAi ls c) k).am - L k) zQ (uX (aAk hold));rw[aAk hold]at f;refine⟨fun i hi=>?_,fun a b q hn=>?_,fun p q=>?_,fun q=>?_⟩
  ·rw[f]
   by_cases hik:i=k
   ·subst hik;rw[if_pos ⟨rfl,rfl,rfl⟩,hy];simp only[Option.map_some];congr 2;omega
   rw[if_neg (fun e=>hnew i zQ ⟨e.1.symm,e.2.1.symm⟩)];exact ih.here i zQ
  ·rw[f,if_neg (fun e=>hn k zQ ⟨e.2.2.symm,e.1,e.2.1⟩)];exact ih.else_ a b q (fun i hi=>hn i zQ)
  ·rw[s1 p q,ih.pos p q];split
   ·rw[aJz];unfold psD;omega
   omega
  rw[s2 q,ih.tot q];split
  ·rw[aJz];omega
  omega
theorem aRp{ps:List Int}{ls:List Ln}(h:LInv ps ls)(c:Int){L:Nat→Int}(hL:RdOk (aAi ls c) L):NetTo ls c (aAi ls c) L (aAi ls c).length (ntL ls c L):=net_to h c hL _ yL
theorem ntL_inv{ps:List Int}{ls:List Ln}(h:LInv ps ls)(c:Int)(L:Nat→Int):LInv ps (ntL ls c L):=aJ1 h c _ L _
theorem debt_of{ps:List Int}{ls:List Ln}(h:LInv ps ls){c a b:Int}(hp:0<aE8 ls c a b):∃i,i<(aAi ls c).length∧dbt (aAi ls c) i=⟨a,b,aE8 ls c a b⟩:=by
 obtain⟨y,hl,_,hg,k1,k2,_⟩:=aHg h hp;have h1:=hg.cr;have h2:=hg.de;rw[k1]at h1;rw[k2]at h2;exact mem_dbt (show(⟨a,b,aE8 ls c a b⟩:Fw)∈aAi ls c from aEt.2 ⟨h2,h1,hp,rfl⟩)
theorem owed_nn{ps:List Int}{ls:List Ln}(h:LInv ps ls)(c a b:Int):0≤aE8 ls c a b:=(aEg h.inv.good b a c).1
theorem net_owed{ps:List Int}{ls:List Ln}(h:LInv ps ls)(c:Int){L:Nat→Int}(hL:RdOk (aAi ls c) L):
  (∀i,i<(aAi ls c).length→aE8 (ntL ls c L) c (dbt (aAi ls c) i).fr (dbt (aAi ls c) i).tt=L i)∧(∀a b q,(∀i,i<(aAi ls c).length→¬(q=c∧(dbt (aAi ls c) i).tt=b∧(dbt (aAi ls c) i).fr=a))→aE8 (ntL ls c L) q a b=aE8 ls q a b):=by
 have N:=aRp h c hL;refine⟨fun i hi=>?_,fun a b q hn=>?_⟩
 ·obtain⟨d1,d2,d3,d4⟩:=aEt.1 (aP0 hi);obtain⟨y,hy,_⟩:=aHg h (c:=c) (by rw[←d4];exact d3);have e:=N.here i hi;rw[hy]at e;unfold aE8;rw[aAk e];rfl
 unfold aE8 lnAt;rw[N.else_ b a q hn]
theorem sum_none{ls:List Ln}(f:Ln→Int)(h:∀x∈ls,f x=0):(ls.map f).sum=0:=by
 induction ls with
 | nil=>rfl
 | cons x l ih=>rw[List.map_cons,List.sum_cons,h x List.mem_cons_self,ih (fun y hy=>h y (List.mem_cons_of_mem _ hy))];rfl
theorem RdOk.zero(D:List Fw)(hM:MayD D):RdOk D (fun _=>0):=⟨fun _ _=>Int.le_refl _,fun i hi=>by have:=(hM.ok i hi).2.2.2.1;omega⟩
theorem aRq{ps:List Int}{ls:List Ln}(h:LInv ps ls)(c:Int):sumN (amD (aAi ls c)) (aAi ls c).length=totL ls c∧∀p,posD (aAi ls c) (amD (aAi ls c)) p=posL ls p c:=by
 have hZ:=RdOk.zero (aAi ls c) (aH3 h c);have N:=aRp h c hZ;have hI:=ntL_inv h c (fun _=>0)
 have hz:∀x∈ntL ls c (fun _=>0),x.cu=c→x.db=0:=fun x hx hc=>by
  have hl:=(aBu hI.inv x.cr x.de x.cu x).2 ⟨hx,rfl,rfl,rfl⟩;rw[hc]at hl;have e:aE8 (ntL ls c fun _=>0) c x.de x.cr=x.db:=by unfold aE8;rw[aAk hl]
  rw[←e]
  by_cases hp:∃i,i<(aAi ls c).length∧(dbt (aAi ls c) i).tt=x.cr∧(dbt (aAi ls c) i).fr=x.de
  ·obtain⟨i,hi,e1,e2⟩:=hp;rw[←e1,←e2];exact(net_owed h c hZ).1 i hi
  rw[(net_owed h c hZ).2 _ _ _ (fun i hi e=>hp ⟨i,hi,e.2⟩)];refine Classical.byContradiction fun hne=>hp ?_
  have:=owed_nn h c x.de x.cr;obtain⟨i,hi,e⟩:=debt_of h (c:=c) (a:=x.de) (b:=x.cr) zQ;exact⟨i,hi,by rw[e],by rw[e]⟩
 constructor
 ·have e:=N.tot c;rw[if_pos rfl]at e
  have e0:totL (ntL ls c fun _=>0) c=0:=sum_none _ (fun x hx=>by
   unfold aGx;split
   ·rename_i hc;exact hz x hx hc
   rfl)
  rw[e0]at e;have e2:sumN (fun i=>(dbt (aAi ls c) i).am - 0) (aAi ls c).length=sumN (amD (aAi ls c)) (aAi ls c).length:=aH0 _ (fun i _=>by show _ - 0=(dbt (aAi ls c) i).am;omega);rw[e2]at e;omega
 intro p;have e:=N.pos p c;rw[if_pos rfl]at e
 have e0:posL (ntL ls c fun _=>0) p c=0:=sum_none _ (fun x hx=>by
  unfold aBb;split
  ·rename_i hc;rw[hz x hx hc];simp
  rfl)
 rw[e0]at e
 have e2:sumN (fun i=>psD (aAi ls c) p i ((dbt (aAi ls c) i).am - 0)) (aAi ls c).length=posD (aAi ls c) (amD (aAi ls c)) p:=by
  unfold posD;exact aH0 _ (fun i _=>by show psD _ p i (_ - 0)=psD _ p i (dbt (aAi ls c) i).am;rw[Int.sub_zero])
 rw[e2]at e;omega
theorem psD_sub(D:List Fw)(p:Int)(i:Nat)(m n:Int):psD D p i (m - n)=psD D p i m - psD D p i n:=by unfold psD;split <;> split <;> omega
theorem aP1(f g:Nat→Int):∀n,sumN (fun i=>f i - g i) n=sumN f n - sumN g n
 | 0=>rfl
 | n+1=>by
  show sumN _ n+(f n - g n)=sumN f n+f n - (sumN g n+g n);rw[aP1 f g n];omega
theorem net_pos{ps:List Int}{ls:List Ln}(h:LInv ps ls)(c:Int){L:Nat→Int}(hL:RdOk (aAi ls c) L)(hp:∀p,posD (aAi ls c) L p=posD (aAi ls c) (amD (aAi ls c)) p)(p q:Int):posL (ntL ls c L) p q=posL ls p q:=by
 rw[(aRp h c hL).pos p q];split
 ·have e:sumN (fun i=>psD (aAi ls c) p i ((dbt (aAi ls c) i).am - L i)) (aAi ls c).length=posD (aAi ls c) (amD (aAi ls c)) p - posD (aAi ls c) L p:=by
   unfold posD;rw[←aP1];exact aH0 _ (fun i _=>psD_sub _ _ _ _ _)
  rw[e,hp p];omega
 omega
theorem net_tot{ps:List Int}{ls:List Ln}(h:LInv ps ls)(c:Int){L:Nat→Int}(hL:RdOk (aAi ls c) L):totL (ntL ls c L) c=sumN L (aAi ls c).length:=by
 rw[(aRp h c hL).tot c,if_pos rfl,aP1,← (aRq h c).1];show sumN (amD (aAi ls c)) _ - (sumN (amD (aAi ls c)) _ - sumN L _)=_;omega
def aKv(g:Nat)(w:World)(ao:Option Addr)(l:List Fw):Prop:=
 0<l.length→∃b off,ao=some ⟨b,off,none⟩∧b<w.heap.size∧b≠g∧∀m,m<l.length→w.cell? ⟨b,off+m*3,none⟩=some (.int .u8 (dbt l m).fr)∧w.cell? ⟨b,off+m*3+1,none⟩=some (.int .u8 (dbt l m).tt)∧w.cell? ⟨b,off+m*3+2,none⟩=some (.int .i64 (dbt l m).am)
theorem aKv.keep{g:Nat}{w w':World}{ao:Option Addr}{l:List Fw}(h:aKv g w ao l)(k:Keep (·=g) w w'):aKv g w' ao l:=fun h0=>by
 obtain⟨b,off,h1,h2,h3,h4⟩:=h h0;refine⟨b,off,h1,yM h2 k.size,h3,fun m hm=>?_⟩;obtain⟨a1,a2,a3⟩:=h4 m hm;exact⟨(k.cell (p:=⟨b,off+m*3,none⟩) h2 h3).trans a1,(k.cell (p:=⟨b,off+m*3+1,none⟩) h2 h3).trans a2,(k.cell (p:=⟨b,off+m*3+2,none⟩) h2 h3).trans a3⟩
theorem aKv.ins{g:Nat}{w:World}{ao:Option Addr}{l:List Fw}(h:aKv g w ao l):aFo w ao l:=fun h0=>by
 obtain⟨b,off,h1,h2,_,h4⟩:=h h0;exact⟨b,off,h1,h2,h4⟩
theorem pAL{w:World}{base g ca:Nat}{e:TypeId}{ao:Option Addr}{l:List Fw}(h:aBk w base e 3 (.slice ao l.length ca) l.length (aAp l))(hl:l.length≤100000000)(hg:g<base):aKv g w ao l:=fun h0=>by
 obtain⟨b,off,h1,h2,h3⟩:=aT0 (h.reads hl) h0;refine⟨b,off,h1,h2,?_,h3⟩;obtain⟨_,hh⟩:=h;rcases hh with⟨hv,hn⟩|⟨b',cur,hv,hb,_⟩
 ·omega
 subst h1
 cases hv
 omega
def aFk(ls:List Ln)(c q:Int)(gone many er:Int)(ms:List Ln):Prop:=
 (¬((1≤c∧c≤8)∧0≤q)∧gone=0∧many=0∧er=1∧ms=ls)∨
 ((1≤c∧c≤8)∧0≤q∧∃L k,aHd (aAi ls c) L k∧(((k:Int)≤q∧gone=totL ls c - totL (ntL ls c L) c∧many=k∧er=0∧ms=ntL ls c L)∨(q<(k:Int)∧gone=0∧many=0∧er=13∧ms=ls)))
theorem aFk.eq{ls:List Ln}{c q g1 m1 e1 g2 m2 e2:Int}{s1 s2:List Ln}(h:aFk ls c q g1 m1 e1 s1)(k:aFk ls c q g2 m2 e2 s2):g1=g2∧m1=m2∧e1=e2∧s1=s2:=by
 rcases h with⟨a,rfl,rfl,rfl,rfl⟩|⟨a1,a2,L,j,hL,h⟩
 ·rcases k with⟨_,rfl,rfl,rfl,rfl⟩|⟨b1,b2,_⟩
  ·exact⟨rfl,rfl,rfl,rfl⟩
  exact absurd ⟨b1,b2⟩ a
 rcases k with⟨b,_⟩|⟨_,_,M,i,hM,k⟩
 ·exact absurd ⟨a1,a2⟩ b
 obtain⟨rfl,rfl⟩:=hL.eq hM;rcases h with⟨h0,rfl,rfl,rfl,rfl⟩|⟨h0,rfl,rfl,rfl,rfl⟩
 ·rcases k with⟨_,rfl,rfl,rfl,rfl⟩|⟨k0,_⟩
  ·exact⟨rfl,rfl,rfl,rfl⟩
  omega
 rcases k with⟨k0,_⟩|⟨_,rfl,rfl,rfl,rfl⟩
 ·omega
 exact⟨rfl,rfl,rfl,rfl⟩
structure aT6:Prop where
 at_:∀{w:World} {G M:Nat} {ps:List Int} {ls:List Ln},LedM w G M ps ls→LInv ps ls→∀c q:Int,In8 c→In64 q→
  Calls Tryz.prog 158 #[.pointer (some ⟨G,0,none⟩),.int .u8 c,.int .i64 q] w fun e w'=>∃gone many er ms,aFk ls c q gone many er ms∧e=.returned (.tuple #[.int .i64 gone,.int .i64 many,.int .i64 er])∧LedM w' G M ps ms∧Keep (·=M) w w'
structure Stp where
 kd:Int
 a:Int
 b:Int
 c:Int
 d:Int
 n:Int
 mx:Int
 nu:Int
 de:Int
 se:Int
deriving DecidableEq
def Stp.vals(x:Stp):List Value:=[.int .u8 x.kd,.int .u8 x.a,.int .u8 x.b,.int .u8 x.c,.int .u8 x.d,.int .i64 x.n,.int .i64 x.mx,.int .i64 x.nu,.int .i64 x.de,.int .u64 x.se]
theorem Stp.vals_len(x:Stp):x.vals.length=10:=rfl
def aJ2(ls:List Stp):List Value:=ls.flatMap Stp.vals
def Stp.val(x:Stp):Value:=.agg #[.int .u8 x.kd,.int .u8 x.a,.int .u8 x.b,.int .u8 x.c,.int .u8 x.d,.int .i64 x.n,.int .i64 x.mx,.int .i64 x.nu,.int .i64 x.de,.int .u64 x.se]
theorem aRr(ls:List Stp):(aJ2 ls).length=ls.length*10:=aF0 _ 10 Stp.vals_len ls
theorem aLc(ls:List Stp)(i j:Nat)(hj:j<10)(h:i<ls.length):(aJ2 ls)[i*10+j]? = ls[i].vals[j]? := by
 unfold aJ2;rw[aFa _ 10 Stp.vals_len ls i j hj,List.getElem?_eq_getElem h];rfl
structure Stp.Fits(x:Stp):Prop where
 kd:In8 x.kd
 a:In8 x.a
 b:In8 x.b
 c:In8 x.c
 d:In8 x.d
 n:In64 x.n
 mx:In64 x.mx
 nu:In64 x.nu
 de:In64 x.de
 se:(0≤x.se∧x.se≤18446744073709551615)
structure Gt where
 gx:Int
 gy:Int
deriving DecidableEq
def Gt.vals(x:Gt):List Value:=[.int .i64 x.gx,.int .i64 x.gy]
theorem Gt.vals_len(x:Gt):x.vals.length=2:=rfl
def aAt(ls:List Gt):List Value:=ls.flatMap Gt.vals
def Gt.val(x:Gt):Value:=.agg #[.int .i64 x.gx,.int .i64 x.gy]
theorem aCt(ls:List Gt):(aAt ls).length=ls.length*2:=aF0 _ 2 Gt.vals_len ls
theorem aGm(ls:List Gt)(i j:Nat)(hj:j<2)(h:i<ls.length):(aAt ls)[i*2+j]? = ls[i].vals[j]? := by
 unfold aAt;rw[aFa _ 2 Gt.vals_len ls i j hj,List.getElem?_eq_getElem h];rfl
theorem aD6(a b:List Gt):aAt (a++b)=aAt a++aAt b:=by unfold aAt;exact List.flatMap_append
theorem aT7(x:Gt):aAt [x]=x.vals:=by simp[aAt]
theorem info_gt:(Tryz.prog.info? 93).map (fun i=>(i.zero,i.size,i.bytes))=some (some (Gt.val ⟨0,0⟩),2,16):=zW
theorem gt_parts(x y:Gt):(x=y)∨(x≠y∧(x.gx==y.gx)=false)∨(x≠y∧(x.gx==y.gx)=true∧(x.gy==y.gy)=false):=by
 obtain⟨a0,a1⟩:=x;obtain⟨b0,b1⟩:=y
 by_cases h0:a0=b0
 case neg=>simp[h0]
 by_cases h1:a1=b1
 case neg=>simp[h0,h1]
 simp[h0,h1]
theorem sameGt_any{w:World}{va vb:Value}{la lb:List Gt}(ha:aB4 w va 2 la.length (aAt la))(hb:aB4 w vb 2 lb.length (aAt lb)):
  Calls Tryz.prog 51 #[va,vb] w (yR w (.bool (decide (la=lb)))):=by
 obtain⟨ao,ca,rfl,a1,a2,a3⟩:=ha;obtain⟨bo,cb,rfl,b1,b2,b3⟩:=hb;have HA:=yH a3;have HB:=yH b3;clear a2 a3 b2 b3
 by_cases hlen:la.length=lb.length
 ·have L:=yH hlen;have hll:lb.length=la.length:=hlen.symm;rw[hll];clear hll hlen b1;go_enter Tryz.func51,Tryz.ntmps51;go_wp2
  go_loopw [5] (fun i wr=>∃k:Nat,k≤la.length∧i=.int .i64 k∧Hid (la.take k=lb.take k)∧Below w.heap.size w wr) (fun i _=>la.length - (intOf i).toNat)
  case atStart=>exact⟨0,Nat.zero_le _,rfl,yH zV,yZ⟩
  obtain⟨k,hk,rfl,ht,hbl⟩:=hrel;have BL:=yH hbl
  by_cases hkl:k<la.length
  ·have hkb:k<lb.length:=xJ
   obtain⟨b1,o1,rfl,hlt1,hc1⟩:=HA.o zQ;obtain⟨b2,o2,rfl,hlt2,hc2⟩:=HB.o zQ;have HC1:=yH (fun j (hj:j<la.length*2)=>(hbl.cell (p:=⟨b1,o1+j,none⟩) hlt1).trans (hc1 j hj));have HC2:=yH (fun j (hj:j<lb.length*2)=>(hbl.cell (p:=⟨b2,o2+j,none⟩) hlt2).trans (hc2 j hj))
   have d0:wr.cell? ⟨b1,o1+k*2,none⟩=some (.int .i64 la[k].gx):=by
    have q1:=HC1.o (k*2+0) zQ;rw[aGm la k 0 zQ hkl]at q1
    first|exact q1|(rw[←Nat.add_assoc]at q1;exact q1)
   have d1:wr.cell? ⟨b1,o1+k*2+1,none⟩=some (.int .i64 la[k].gy):=by
    have q1:=HC1.o (k*2+1) zQ;rw[aGm la k 1 zQ hkl]at q1
    first|exact q1|(rw[←Nat.add_assoc]at q1;exact q1)
   have f0:wr.cell? ⟨b2,o2+k*2,none⟩=some (.int .i64 lb[k].gx):=by
    have q1:=HC2.o (k*2+0) zQ;rw[aGm lb k 0 zQ hkb]at q1
    first|exact q1|(rw[←Nat.add_assoc]at q1;exact q1)
   have f1:wr.cell? ⟨b2,o2+k*2+1,none⟩=some (.int .i64 lb[k].gy):=by
    have q1:=HC2.o (k*2+1) zQ;rw[aGm lb k 1 zQ hkb]at q1
    first|exact q1|(rw[←Nat.add_assoc]at q1;exact q1)
   have NE:=yH (fun(he:la[k]≠lb[k])=>show decide (la=lb)=false by
    rw[decide_eq_false_iff_not];rintro rfl;exact he rfl)
   have EQ:=yH (fun(he:la[k]=lb[k])=>aFd hkl hkb ht.out he);clear hc1 hc2 HC1 HC2 hbl;generalize la[k]=x at *;generalize lb[k]=y at *;rcases gt_parts x y with rfl|⟨he,s0⟩|⟨he,s0,s1⟩
   ·clear NE;go_wp2
    go_region
    all_goals
     go_wp2;go_roundw
     case rel=>exact⟨k+1,zQ,by go_num,yH (EQ.o (by first|exact rfl|trivial)),by first|exact BL.o.drew|exact BL.o⟩
     case measure=>simp[intOf];omega
   ·have E:=yH (NE.o he);clear he NE EQ;go_wp2
    go_region
    all_goals
     go_wp2;go_ret;exact⟨zT,by first|exact BL.o.drew|exact BL.o⟩
   have E:=yH (NE.o he);clear he NE EQ;go_wp2
   go_region
   all_goals
    go_wp2;go_ret;exact⟨zT,by first|exact BL.o.drew|exact BL.o⟩
  have E:=yH (show decide (la=lb)=true by
   have h1:=ht.out;rw[List.take_of_length_le zQ,List.take_of_length_le xJ]at h1;rw[decide_eq_true_eq];exact h1)
  go_wp2;go_ret;exact⟨zT,BL.o⟩
 have E:=yH (show decide (la=lb)=false by rw[decide_eq_false_iff_not];rintro rfl;exact hlen rfl);have q:((la.length:Int)==(lb.length:Int))=false:=zU
 clear hlen;go_enter Tryz.func51,Tryz.ntmps51;go_wp2;go_ret;exact⟨zT,yZ⟩
theorem kinds(k:Int):k=1∨k=2∨k=3∨k=4∨k=5∨k=6∨k=7∨k=8∨k=9∨k=10∨k=11∨(¬k=1∧¬k=2∧¬k=3∧¬k=4∧¬k=5∧¬k=6∧¬k=7∧¬k=8∧¬k=9∧¬k=10∧¬k=11):=zQ
structure Hs where
 ps:List Int
 ls:List Ln
 l:List Of
 N:Int
structure HInv(σ:Hs):Prop where
 li:LInv σ.ps σ.ls
 bi:BInv σ.l σ.N
 own:∀o∈σ.l,o.ow∈σ.ps
theorem HInv.start:HInv ⟨[],[],[],1⟩:=⟨LInv.nil,BInv.nil zX zX,fun o h=>y6⟩
theorem aFk.lin{ps:List Int}{ls ms:List Ln}{c q g m e:Int}(h:aFk ls c q g m e ms)(hI:LInv ps ls):LInv ps ms:=by
 rcases h with⟨_,_,_,_,rfl⟩|⟨_,_,L,k,_,⟨_,_,_,_,rfl⟩|⟨_,_,_,_,rfl⟩⟩
 ·exact hI
 ·exact ntL_inv hI c L
 exact hI
theorem net_ends{ps:List Int}{ls:List Ln}(hI:LInv ps ls)(c q:Int):∃r:Int×Int×Int×List Ln,aFk ls c q r.1 r.2.1 r.2.2.1 r.2.2.2:=by
 by_cases h:(1≤c∧c≤8)∧0≤q
 ·obtain⟨L,k,hL⟩:=aOp (aH3 hI c)
  by_cases hk:(k:Int)≤q
  ·exact⟨(_,_,_,_),.inr ⟨h.1,h.2,L,k,hL,.inl ⟨hk,rfl,rfl,rfl,rfl⟩⟩⟩
  exact⟨(_,_,_,_),.inr ⟨h.1,h.2,L,k,hL,.inr ⟨zQ,rfl,rfl,rfl,rfl⟩⟩⟩
 exact⟨(_,_,_,_),.inl ⟨h,rfl,rfl,rfl,rfl⟩⟩
noncomputable def aDd(ls:List Ln)(c q:Int):Int×Int×Int×List Ln:=@Classical.epsilon _ ⟨(0,0,0,ls)⟩ (fun r=>aFk ls c q r.1 r.2.1 r.2.2.1 r.2.2.2)
theorem aP2{ps:List Int}{ls:List Ln}(hI:LInv ps ls)(c q:Int):aFk ls c q (aDd ls c q).1 (aDd ls c q).2.1 (aDd ls c q).2.2.1 (aDd ls c q).2.2.2:=
 @Classical.epsilon_spec _ (fun r:Int×Int×Int×List Ln=>aFk ls c q r.1 r.2.1 r.2.2.1 r.2.2.2) (net_ends hI c q)
theorem aFk.isS{ps:List Int}{ls ms:List Ln}{c q g m e:Int}(h:aFk ls c q g m e ms)(hI:LInv ps ls):aDd ls c q=(g,m,e,ms):=by
 obtain⟨h1,h2,h3,h4⟩:=(aP2 hI c q).eq h;exact Prod.ext h1 (Prod.ext h2 (Prod.ext h3 h4))
noncomputable def aAx(σ:Hs)(s:Stp):Hs×Gt×Int:=
 if s.kd=1 then(⟨aGy σ.ps s.a,σ.ls,σ.l,σ.N⟩,⟨0,0⟩,aH8 σ.ps s.a)
 else if s.kd=2 then(⟨σ.ps,aA7 σ.ps σ.ls s.a s.b s.c s.n,σ.l,σ.N⟩,⟨0,0⟩,aAo σ.ps σ.ls s.a s.b s.c s.n)
 else if s.kd=3 then(⟨σ.ps,aM4 σ.ps σ.ls s.a s.b s.c s.n,σ.l,σ.N⟩,⟨payN σ.ps s.a s.b s.c s.n (aBt (aAw σ.ps σ.ls s.c) s.a s.b s.n),0⟩,payE σ.ps s.a s.b s.c s.n (aBt (aAw σ.ps σ.ls s.c) s.a s.b s.n))
 else if s.kd=4 then
  if(aDu σ.ps σ.ls σ.l s.a s.b s.c s.d s.n s.mx).1=0 then(⟨σ.ps,(aDu σ.ps σ.ls σ.l s.a s.b s.c s.d s.n s.mx).2.ls,(aDu σ.ps σ.ls σ.l s.a s.b s.c s.d s.n s.mx).2.l,σ.N⟩,⟨((aDu σ.ps σ.ls σ.l s.a s.b s.c s.d s.n s.mx).2.fs.map Fl.gi).sum,(aDu σ.ps σ.ls σ.l s.a s.b s.c s.d s.n s.mx).2.fs.length⟩,0)
  else(σ,⟨0,0⟩,(aDu σ.ps σ.ls σ.l s.a s.b s.c s.d s.n s.mx).1)
 else if s.kd=5 then
  if(aBv σ.ps σ.ls σ.l σ.N s.a s.c s.d s.n s.nu s.de).1=0 then(⟨σ.ps,(aBv σ.ps σ.ls σ.l σ.N s.a s.c s.d s.n s.nu s.de).2.1.ls,(aBv σ.ps σ.ls σ.l σ.N s.a s.c s.d s.n s.nu s.de).2.1.l,(aBv σ.ps σ.ls σ.l σ.N s.a s.c s.d s.n s.nu s.de).2.2.1⟩,
   ⟨((aBv σ.ps σ.ls σ.l σ.N s.a s.c s.d s.n s.nu s.de).2.1.fs.map Fl.got).sum,IntKind.i64.wrap (aBv σ.ps σ.ls σ.l σ.N s.a s.c s.d s.n s.nu s.de).2.2.2⟩,0)
  else(σ,⟨0,0⟩,(aBv σ.ps σ.ls σ.l σ.N s.a s.c s.d s.n s.nu s.de).1)
 else if s.kd=6 then(⟨σ.ps,σ.ls,aCs σ.l s.a s.se,σ.N⟩,⟨aDt σ.l s.a s.se,0⟩,aBx σ.l s.a s.se)
 else if s.kd=7 then(⟨σ.ps,(aDd σ.ls s.c s.mx).2.2.2,σ.l,σ.N⟩,⟨(aDd σ.ls s.c s.mx).1,(aDd σ.ls s.c s.mx).2.1⟩,(aDd σ.ls s.c s.mx).2.2.1)
 else if s.kd=8 then(σ,⟨(lnAt σ.ls s.a s.b s.c).db,(lnAt σ.ls s.a s.b s.c).li⟩,0)
 else if s.kd=9 then(σ,⟨posL σ.ls s.a s.c,0⟩,0)
 else if s.kd=10 then(σ,⟨totL σ.ls s.c,0⟩,0)
 else if s.kd=11 then(σ,⟨aBl σ.l s.se,0⟩,if(aAs σ.l s.se).isSome=true then 0 else 7)
 else(σ,⟨0,0⟩,1)
theorem swapF_inv{ps:List Int}{ls:List Ln}{l:List Of}{N fr pt get give n most:Int}(hI:LInv ps ls)(hJ:BInv l N)(h:(aDu ps ls l fr pt get give n most).1=0):aD3 ps ls l N fr pt get give n (aDu ps ls l fr pt get give n most).2:=by
 have hs:=aD3.ends (ps:=ps) (tk:=fr) (pt:=pt) (get:=get) (give:=give) 64 (aD3.start (n0:=n) hI hJ);unfold aDu at h ⊢;split at h
 ·cases h
 split at h
 ·cases h
 split at h
 ·rename_i k1 k2 k3;exact absurd h k3
 split at h
 ·cases h
 rename_i k1 k2 k3 k4;rw[if_neg k1,if_neg k2,if_neg k3,if_neg k4];exact hs
theorem open_mem{ps:List Int}(p:Int)(hb:∀q∈ps,1≤q∧q≤16){q:Int}(h:q∈ps):q∈aGy ps p:=by
 unfold aGy
 by_cases h1:p<1∨16<p
 ·rw[if_pos h1];exact h
 rw[if_neg h1]
 by_cases h2:p∈ps
 ·rw[if_pos h2];exact h
 rw[if_neg h2,aEs];exact⟨uV (hb q h),.inr h⟩
theorem HInv.step{σ:Hs}(h:HInv σ)(s:Stp):HInv (aAx σ s).1:=by
 have hl:=h.li;have hb:=h.bi;have ho:=h.own;unfold aAx
 by_cases k1:s.kd=1
 ·rw[if_pos k1];exact⟨hl.open s.a,hb,fun o hm=>open_mem _ hl.bd (ho o hm)⟩
 rw[if_neg k1]
 by_cases k2:s.kd=2
 ·rw[if_pos k2];exact⟨hl.trust _ _ _ _,hb,ho⟩
 rw[if_neg k2]
 by_cases k3:s.kd=3
 ·rw[if_pos k3];exact⟨aRe hl _ _ _ _,hb,ho⟩
 rw[if_neg k3]
 by_cases k4:s.kd=4
 ·rw[if_pos k4]
  by_cases h0:(aDu σ.ps σ.ls σ.l s.a s.b s.c s.d s.n s.mx).1=0
  ·rw[if_pos h0];have hi:=swapF_inv hl hb h0;refine⟨hi.linv,hi.binv,fun o hm=>?_⟩;obtain⟨y,hy,e,_⟩:=hi.like o.se o (aIw hi.binv hm);show o.ow∈σ.ps;rw[←e];exact ho y (aB2 hy).1
  rw[if_neg h0];exact h
 rw[if_neg k4]
 by_cases k5:s.kd=5
 ·rw[if_pos k5]
  by_cases h0:(aBv σ.ps σ.ls σ.l σ.N s.a s.c s.d s.n s.nu s.de).1=0
  ·rw[if_pos h0];obtain⟨r,hr⟩:∃r,aBv σ.ps σ.ls σ.l σ.N s.a s.c s.d s.n s.nu s.de=r:=⟨_,rfl⟩;obtain⟨e,τ,N',sq⟩:=r;rw[hr]at h0 ⊢;have h0':e=0:=h0;subst h0';obtain⟨υ,hd⟩:=aI0 hl hb hr;obtain⟨h1,h2,_⟩:=hd.next
   have hold:∀o∈υ.l,o.ow∈σ.ps:=fun o hm=>by
    obtain⟨y,hy,e,_⟩:=hd.inv.like o.se o (aIw hd.inv.binv hm);rw[←e];exact ho y (aB2 hy).1
   refine⟨h1,h2,fun o hm=>?_⟩;rcases hd.ends with⟨_,rfl,_⟩|⟨_,_,_,rfl,_⟩
   ·exact hold o hm
   rcases List.mem_append.1 hm with hm|hm
   ·exact hold o hm
   rw[List.mem_singleton]at hm;subst hm;exact hd.part
  rw[if_neg h0];exact h
 rw[if_neg k5]
 by_cases k6:s.kd=6
 ·rw[if_pos k6];refine⟨hl,hb.cancel _ _,fun o hm=>?_⟩
  change o∈aCs σ.l s.a s.se at hm
  unfold aCs at hm
  by_cases hc:aBx σ.l s.a s.se=0
  ·rw[if_pos hc]at hm;obtain⟨_,x,hx,rfl|⟨_,rfl⟩⟩:=aHt hm
   ·exact ho _ hx
   exact ho x hx
  rw[if_neg hc]at hm;exact ho o hm
 rw[if_neg k6]
 by_cases k7:s.kd=7
 ·rw[if_pos k7];exact⟨(aP2 hl s.c s.mx).lin hl,hb,ho⟩
 rw[if_neg k7]
 by_cases k8:s.kd=8
 ·rw[if_pos k8];exact h
 rw[if_neg k8]
 by_cases k9:s.kd=9
 ·rw[if_pos k9];exact h
 rw[if_neg k9]
 by_cases k10:s.kd=10
 ·rw[if_pos k10];exact h
 rw[if_neg k10]
 by_cases k11:s.kd=11
 ·rw[if_pos k11];exact h
 rw[if_neg k11];exact h
noncomputable def runF(τ:Hs):List Stp→Nat→List Gt→Hs×Int×Nat×List Gt
 | [],_,gs=>(τ,0,0,gs)
 | s::r,i,gs=>if(aAx τ s).2.2≠0 then(τ,(aAx τ s).2.2,i,[])else runF (aAx τ s).1 r (i+1) (gs++[(aAx τ s).2.1])
noncomputable def aB6(σ:Hs)(xs:List Stp):Hs×Int×Nat×List Gt:=
 if xs.length<1∨8<xs.length then(σ,3,0,[])else if(runF σ xs 0 []).2.1≠0 then(σ,(runF σ xs 0 []).2.1,(runF σ xs 0 []).2.2.1,[])else runF σ xs 0 []
theorem runF_inv:∀(xs:List Stp) {τ:Hs} (i:Nat) (gs:List Gt),HInv τ→HInv (runF τ xs i gs).1
 | [],τ,i,gs,h=>h
 | s::r,τ,i,gs,h=>by
  unfold runF;split
  ·exact h
  exact runF_inv r (i+1) _ (h.step s)
theorem HInv.apply{σ:Hs}(h:HInv σ)(xs:List Stp):HInv (aB6 σ xs).1:=by
 unfold aB6;split
 ·exact h
 split
 ·exact h
 exact runF_inv xs 0 [] h
theorem runF_drop{τ:Hs}{xs:List Stp}{k i:Nat}{gs:List Gt}(hk:k<xs.length):runF τ (xs.drop k) i gs=if(aAx τ xs[k]).2.2≠0 then(τ,(aAx τ xs[k]).2.2,i,[])else runF (aAx τ xs[k]).1 (xs.drop (k+1)) (i+1) (gs++[(aAx τ xs[k]).2.1]):=by
 rw[List.drop_eq_getElem_cons hk];rfl
theorem runF_end{τ:Hs}{xs:List Stp}{i:Nat}{gs:List Gt}:runF τ (xs.drop xs.length) i gs=(τ,0,0,gs):=by
 rw[List.drop_length];rfl
theorem applyF_one(σ:Hs)(s:Stp):aB6 σ [s]=if(aAx σ s).2.2≠0 then(σ,(aAx σ s).2.2,0,[])else((aAx σ s).1,0,0,[(aAx σ s).2.1]):=by
 unfold aB6 runF runF;rw[if_neg zV]
 by_cases h:(aAx σ s).2.2≠0
 ·rw[if_pos h,if_pos h,if_pos h]
 rw[if_neg h,if_neg h,if_neg (fun h=>h rfl)];rfl
theorem applyF_err{σ τ:Hs}{xs:List Stp}{er:Int}{k:Nat}(hl:1≤xs.length∧xs.length≤8)(h:runF σ xs 0 []=(τ,er,k,[]))(he:er≠0):aB6 σ xs=(σ,er,k,[]):=by
 unfold aB6;rw[if_neg zQ,h,if_pos he]
theorem applyF_ok{σ τ:Hs}{xs:List Stp}{gs:List Gt}(hl:1≤xs.length∧xs.length≤8)(h:runF σ xs 0 []=(τ,0,0,gs)):aB6 σ xs=(τ,0,0,gs):=by
 unfold aB6;rw[if_neg zQ,h,if_neg (fun e=>e rfl)]
noncomputable def cmdsF(σ:Hs):List (List Stp)→Hs
 | []=>σ
 | x::r=>cmdsF (aB6 σ x).1 r
theorem cmdsF_take(σ:Hs):∀(xs:List (List Stp)) {k:Nat} (hk:k<xs.length),cmdsF σ (xs.take (k+1))=(aB6 (cmdsF σ (xs.take k)) xs[k]).1:=by
 intro xs
 induction xs generalizing σ with
 | nil=>intro k hk;cases hk
 | cons x r ih=>
  intro k hk
  cases k with
  | zero=>rfl
  | succ k=>
   exact ih _ (Nat.lt_of_succ_lt_succ hk)
theorem aRs{σ:Hs}(h:HInv σ):∀(xs:List (List Stp)),HInv (cmdsF σ xs)
 | []=>h
 | x::r=>aRs (h.apply x) r
end Go.Proofs.YtngnfdnfpiiclaaGreat
namespace Go.Proofs.YtngnfdnfpiiclaaGreat
open Go.RowKit Go.ChangeShapes Go.WideShapes Go.Deep
section
variable{H:Type}{enc:TypeId×Value→H}{P:Program}{w:World}{base:Nat}{spare:Nat→Bool}{held:Bool}
theorem step_of{t:TypeId}{f0 f1 f2 f3 f4 f5 f6 f7 f8 g0 g1:Field}(hu:P.underlying t=some (.struct #[f0,f1,f2,f3,f4,f5,f6,f7,f8]))(hC:P.cellsOf t=10)
  (o:f0.offset=0∧f1.offset=1∧f2.offset=2∧f3.offset=3∧f4.offset=4∧f5.offset=5∧f6.offset=6∧f7.offset=7∧f8.offset=9)
  (c:P.cellsOf f0.type=1∧P.cellsOf f1.type=1∧P.cellsOf f2.type=1∧P.cellsOf f3.type=1∧P.cellsOf f4.type=1∧P.cellsOf f5.type=1∧P.cellsOf f6.type=1∧P.cellsOf f7.type=2∧P.cellsOf f8.type=1)
  (k:P.underlying f0.type=some (.int .u8)∧P.underlying f1.type=some (.int .u8)∧P.underlying f2.type=some (.int .u8)∧P.underlying f3.type=some (.int .u8)∧P.underlying f4.type=some (.int .u8)∧P.underlying f5.type=some (.int .i64)∧P.underlying f6.type=some (.int .i64)∧P.underlying f8.type=some (.int .u64))
  (hr:P.underlying f7.type=some (.struct #[g0,g1]))(og:g0.offset=0∧g1.offset=1)(cg:P.cellsOf g0.type=1∧P.cellsOf g1.type=1)(kg:P.underlying g0.type=some (.int .i64)∧P.underlying g1.type=some (.int .i64))
  {fuel:Nat}{cs:List Value}{x:DataW H×List MemPlace}(h:DataW.trod enc P w base spare held fuel t cs=some x):∃x:Stp,x.Fits∧cs=x.vals:=by
 obtain⟨xs,n,_,_,hlen,hxl,hf⟩:=DataW.trod_struct hu h;rw[hC]at hlen;obtain⟨m0,e0,w0⟩:=aIa hxl hf (j:=0) rfl o.1 c.1 k.1 zQ;obtain⟨m1,e1,w1⟩:=aIa hxl hf (j:=1) rfl o.2.1 c.2.1 k.2.1 zQ;obtain⟨m2,e2,w2⟩:=aIa hxl hf (j:=2) rfl o.2.2.1 c.2.2.1 k.2.2.1 zQ;obtain⟨m3,e3,w3⟩:=aIa hxl hf (j:=3) rfl o.2.2.2.1 c.2.2.2.1 k.2.2.2.1 zQ;obtain⟨m4,e4,w4⟩:=aIa hxl hf (j:=4) rfl o.2.2.2.2.1 c.2.2.2.2.1 k.2.2.2.2.1 zQ;obtain⟨m5,e5,w5⟩:=aIa hxl hf (j:=5) rfl o.2.2.2.2.2.1 c.2.2.2.2.2.1 k.2.2.2.2.2.1 zQ;obtain⟨m6,e6,w6⟩:=aIa hxl hf (j:=6) rfl o.2.2.2.2.2.2.1 c.2.2.2.2.2.2.1 k.2.2.2.2.2.2.1 zQ;have h7:=hf 7 f7 rfl;rw[o.2.2.2.2.2.2.2.1,c.2.2.2.2.2.2.2.1]at h7;rw[List.getElem?_eq_getElem (by rw[hxl];simp:7<xs.length)]at h7;obtain⟨m7,m8,e7,w7,w8⟩:=pair_of hr c.2.2.2.2.2.2.2.1 og.1 og.2 cg.1 cg.2 kg.1 kg.2 h7;obtain⟨m9,e9,w9⟩:=aIa hxl hf (j:=8) rfl o.2.2.2.2.2.2.2.2 c.2.2.2.2.2.2.2.2 k.2.2.2.2.2.2.2 zQ
 match cs,hlen with
 | [a0,a1,a2,a3,a4,a5,a6,a7,a8,a9],_=>
  simp at e0 e1 e2 e3 e4 e5 e6 e7 e9;obtain⟨e7,e8⟩:=e7;subst e0 e1 e2 e3 e4 e5 e6 e7 e8 e9;exact⟨⟨m0,m1,m2,m3,m4,m5,m6,m7,m8,m9⟩,⟨In8.of_wf w0,In8.of_wf w1,In8.of_wf w2,In8.of_wf w3,In8.of_wf w4,In64.of_wf w5,In64.of_wf w6,In64.of_wf w7,In64.of_wf w8,aD8.of_wf w9⟩,rfl⟩
end
theorem slice1c_of{H:Type}{enc:TypeId×Value→H}{w:World}{base:Nat}{spare:Nat→Bool}{held:Bool}{P:Program}{t e:TypeId}{n:Nat}{v:Value}{y:DataW H×List MemPlace}(ht:P.underlying t=some (.slice e))(h:DataW.trod enc P w base spare held n t [v]=some y):∃a len cap,v=.slice a len cap:=by
 rcases open_slice ht h with⟨h0,_⟩|⟨ad,l,c,m,n,D,Pl,hcs,_⟩
 ·exact⟨_,_,_,(List.cons.inj h0).1⟩
 exact⟨_,_,_,(List.cons.inj hcs).1⟩
theorem SlIn.steps{w:World}{a:Option Addr}{len cap:Nat}{xs:List Stp}(h:SlIn Stp.vals 10 Stp.Fits w a len cap xs)(hn:len≤100000000):aB4 w (.slice a xs.length cap) 10 xs.length (aJ2 xs):=by
 obtain⟨h0,h1,h2,h3,h4,h5⟩:=h;subst h1;refine⟨a,cap,rfl,hn,aRr xs,fun hp=>?_⟩;obtain⟨b,off,rfl,hlt,hc⟩:=h5 hp;refine⟨b,off,rfl,hlt,fun j hj=>?_⟩;have hi:j/10<xs.length:=zQ
 have hm:j%10<10:=Nat.mod_lt _ zX;have h4:=aLc xs (j/10) (j%10) hm hi;rw[show j/10*10+j%10=j by omega]at h4;have hv:(xs[j/10].vals)[j%10]? = some (xs[j/10].vals[j%10]'(by rw[Stp.vals_len];omega)):=List.getElem?_eq_getElem _;have h5:=hc (j/10) hi (j%10) _ hv;rw[show off+j/10*10+j%10=off+j by omega]at h5;rw[h5,h4,hv]
structure Cm where
 a:Option Addr
 n:Nat
 c:Nat
 xs:List Stp
def Cm.vals(x:Cm):List Value:=[.slice x.a x.n x.c]
theorem Cm.vals_len(x:Cm):x.vals.length=1:=rfl
def Cm.In(w:World)(x:Cm):Prop:=SlIn Stp.vals 10 Stp.Fits w x.a x.n x.c x.xs
theorem Cm.In.below{w w':World}{x:Cm}(h:x.In w)(k:Below w.heap.size w w'):x.In w':=SlIn.below h k
section
variable{H:Type}{enc:TypeId×Value→H}{w:World}{base:Nat}{spare:Nat→Bool}{held:Bool}
theorem aRt{fuel:Nat}{cs:List Value}{x:DataW H×List MemPlace}(h:DataW.trod enc Tryz.prog w base spare held fuel 87 cs=some x):∃x:Stp,x.Fits∧cs=x.vals:=
 step_of Tryz.underlying87 zW ⟨rfl,rfl,rfl,rfl,rfl,rfl,rfl,rfl,rfl⟩ ⟨zW,zW,zW,zW,zW,zW,zW,zW,zW⟩
  ⟨Tryz.underlying85,Tryz.underlying68,Tryz.underlying68,Tryz.underlying69,Tryz.underlying69,Tryz.underlying2,Tryz.underlying2,Tryz.underlying44⟩
  Tryz.underlying73 ⟨rfl,rfl⟩ ⟨zW,zW⟩ ⟨Tryz.underlying2,Tryz.underlying2⟩ h
theorem step_open{r:Reach}{b0:Nat}{v:Value}{d:DataW H}{p:List MemPlace}(hv:Value.okWide Tryz.prog w r b0 87 v)(h:DataW.Trod enc Tryz.prog w base spare held 87 v d p):
  ∃x:Stp,v=x.val∧x.Fits:=by
 obtain⟨cs,rfl,_⟩:=okWide_struct Tryz.underlying87 hv;obtain⟨fuel,hf⟩:=h;obtain⟨x,hx,hc⟩:=aRt hf;refine⟨x,?_,hx⟩;have:cs.toList=x.vals:=by simpa [Value.cells]using hc
 rw[show cs=x.vals.toArray by rw[←this]];rfl
theorem steps_open{a:Option Addr}{len cap:Nat}{d:DataW H}{p:List MemPlace}(h:DataW.Trod enc Tryz.prog w base spare held 29 (.slice a len cap) d p):∃xs:List Stp,SlIn Stp.vals 10 Stp.Fits w a len cap xs:=
 sl_open Tryz.underlying29 zW Stp.vals_len zX (fun fuel cs x h=>aRt h) h
theorem cmd_read{fuel:Nat}{cs:List Value}{x:DataW H×List MemPlace}(h:DataW.trod enc Tryz.prog w base spare held fuel 32 cs=some x):∃x:Cm,x.In w∧cs=x.vals:=by
 obtain⟨xs,n,_,_,hlen,hxl,hf⟩:=DataW.trod_struct Tryz.underlying32 h;rw[show Tryz.prog.cellsOf 32=1 by kernel_rfl]at hlen;have h0:=hf 0 _ rfl
 match cs,hlen with
 | [v],_=>
  rw[List.getElem?_eq_getElem (by rw[hxl];simp:0<xs.length)]at h0;have h1:DataW.trod enc Tryz.prog w base spare held n 29 [v]=some (xs[0]'(by rw[hxl];simp)):=h0;obtain⟨a,len,cap,rfl⟩:=slice1c_of Tryz.underlying29 h1;obtain⟨ys,hy⟩:=steps_open (a:=a) (len:=len) (cap:=cap) ⟨n,h1⟩;exact⟨⟨a,len,cap,ys⟩,hy,rfl⟩
theorem cmds_open{a:Option Addr}{len cap:Nat}{d:DataW H}{p:List MemPlace}(h:DataW.Trod enc Tryz.prog w base spare held 22 (.slice a len cap) d p):∃xs:List Cm,SlIn Cm.vals 1 (Cm.In w) w a len cap xs:=
 sl_open Tryz.underlying22 zW Cm.vals_len zX (fun fuel cs x h=>cmd_read h) h
end
end Go.Proofs.YtngnfdnfpiiclaaGreat
namespace Go.Proofs.YtngnfdnfpiiclaaGreat
open Go.RowKit
def Told(w:World)(base:Nat)(e:TypeId)(size:Nat)(v:Value)(n:Nat)(xs:List Value):Prop:=aBk w base e size v n xs∨w.ownsRow base e size v n xs
theorem Told.below{w w':World}{base:Nat}{e:TypeId}{size:Nat}{v:Value}{n:Nat}{xs:List Value}(h:Told w base e size v n xs)(k:Below w.heap.size w w'):Told w' base e size v n xs:=h.imp (fun h=>h.below k) (fun h=>aAg h k)
theorem Told.keep{S:Nat→Prop}{w w':World}{base:Nat}{e:TypeId}{size:Nat}{v:Value}{n:Nat}{xs:List Value}(h:Told w base e size v n xs)(k:Keep S w w')(hs:∀b,v.ownBlock=some b→¬S b):Told w' base e size v n xs:=h.imp (fun h=>h.keep k hs) (fun h=>aBr h k hs)
theorem Told.reads{w:World}{base:Nat}{e:TypeId}{size:Nat}{v:Value}{n:Nat}{xs:List Value}(h:Told w base e size v n xs)(hn:n≤100000000):aB4 w v size n xs:=h.elim (fun h=>h.reads hn) (fun h=>pAE h hn)
theorem Told.own{w:World}{base:Nat}{e:TypeId}{size:Nat}{v:Value}{n:Nat}{xs:List Value}(h:Told w base e size v n xs){b:Nat}(hb:v.ownBlock=some b):base≤b∧b<w.heap.size∧∃cur,w.heap[b]? = some (.cells cur e (0,0)):=by
 rcases h with h|h
 ·obtain⟨_,h2⟩:=h;rcases h2 with⟨rfl,rfl⟩|⟨g,cur,rfl,h3,hg,_⟩
  ·cases hb
  cases hb
  exact⟨h3,lt_of_block hg,cur,hg⟩
 exact aAf h hb
theorem Told.shape{w:World}{base:Nat}{e:TypeId}{size:Nat}{v:Value}{n:Nat}{xs:List Value}(h:Told w base e size v n xs):∃ao cap,v=.slice ao n cap:=by
 rcases h with h|h
 ·obtain⟨ao,rfl,_⟩:=aF4 h;exact⟨ao,n,rfl⟩
 obtain⟨ao,cap,rfl,_⟩:=aAh h;exact⟨ao,cap,rfl⟩
theorem aA0{w:World}{a b:Nat}{cs ds:Array Value}{t u:TypeId}(h:Blk w a cs t)(k:Blk w b ds u)(hne:t≠u):a≠b:=by
 rintro rfl;unfold Blk at h k;rw[h]at k;simp at k;exact hne k.2
theorem aP3{w:World}{base:Nat}{e:TypeId}{size:Nat}{v:Value}{n:Nat}{xs:List Value}(h:Told w base e size v n xs){g:Nat}{cs:Array Value}{t:TypeId}(k:Blk w g cs t)(hne:e≠t):∀b,v.ownBlock=some b→¬b=g:=fun b hb=>by
 obtain⟨_,_,cur,hc⟩:=h.own hb;exact aA0 (show Blk w b cur e from hc) k hne
def aCu(Is:World→Nat→Hs→Prop)(w:World)(g:Nat)(σ:Hs)(xs:List Stp)(e:Ending)(w':World):Prop:=
 ∃v,e=.returned (.agg #[.int .i64 (aB6 σ xs).2.1,.int .i64 ((aB6 σ xs).2.2.1:Nat),v])∧Told w' w.heap.size 93 2 v (aB6 σ xs).2.2.2.length (aAt (aB6 σ xs).2.2.2)∧Is w' g (aB6 σ xs).1∧Keep (·=g) w w'
def aRu(w:World)(σ:Hs)(e:Ending)(w':World):Prop:=
 ∃vp vl vo,e=.returned (.agg #[vp,vl,vo,.int .u64 σ.N])∧Told w' w.heap.size 68 1 vp σ.ps.length (σ.ps.map (.int .u8))∧Told w' w.heap.size 71 5 vl σ.ls.length (aBg σ.ls)∧Told w' w.heap.size 75 7 vo σ.l.length (aAb σ.l)∧Below w.heap.size w w'
structure aH4(Ok:Stp→Prop)(Is:World→Nat→Hs→Prop):Prop where
 lt:∀{w:World} {g:Nat} {σ:Hs},Is w g σ→g<w.heap.size
 below:∀{w w':World} {g:Nat} {σ:Hs},Is w g σ→Below w.heap.size w w'→Is w' g σ
 other:∀{w w':World} {g k:Nat} {σ τ:Hs},Is w g σ→Is w k τ→g≠k→Keep (·=k) w w'→Is w' g σ
 rows:∀{w w':World} {g:Nat} {σ:Hs} {S:Nat→Prop},Is w g σ→Keep S w w'→(∀b,S b→∃cur e,w.heap[b]? = some (.cells cur e (0,0))∧(e=68∨e=71∨e=75∨e=87∨e=93))→Is w' g σ
 new:∀w:World,Calls Tryz.prog 11 #[] w fun e w'=>∃g,e=.returned (.pointer (some ⟨g,0,none⟩))∧Is w' g ⟨[],[],[],1⟩∧w.heap.size≤g∧Below w.heap.size w w'
 apply:∀{w:World} {g:Nat} {σ:Hs},Is w g σ→HInv σ→∀x:Cm,x.In w→(∀s∈x.xs,Ok s)→Calls Tryz.prog 16 #[.pointer (some ⟨g,0,none⟩),.agg #[.slice x.a x.n x.c]] w (aCu Is w g σ x.xs)
 state:∀{w:World} {g:Nat} {σ:Hs},Is w g σ→HInv σ→Calls Tryz.prog 21 #[.pointer (some ⟨g,0,none⟩)] w (aRu w σ)
 copy:∀{w:World} {g:Nat} {σ:Hs},Is w g σ→HInv σ→Calls Tryz.prog 13 #[.pointer (some ⟨g,0,none⟩)] w fun e w'=>∃k,e=.returned (.pointer (some ⟨k,0,none⟩))∧Is w' k σ∧w.heap.size≤k∧Below w.heap.size w w'
def aP4:Prop:=∀w:World,Calls Tryz.prog 10 #[] w fun e w'=>e=.returned (.bool true)∧Below w.heap.size w w'
end Go.Proofs.YtngnfdnfpiiclaaGreat
namespace Go.Proofs.YtngnfdnfpiiclaaGreat
open Go.RowKit Go.IntWalk
def aJ3(cs:List Cm):Nat:=(cs.map Cm.n).sum
theorem aT8(cs:List Cm){k:Nat}(h:k<cs.length):aJ3 (cs.take (k+1))=aJ3 (cs.take k)+cs[k].n:=by
 unfold aJ3;rw[List.take_succ_eq_append_getElem h,List.map_append,List.sum_append];simp
def GreatSays(cs:List Cm)(b:Bool):Prop:=b=false→cs.length≤60∧((∀x∈cs,x.n≤72057594037927936)→aJ3 cs≤200)
def GreatAt(W:World)(cs:List Cm)(n i:Value)(wr:World):Prop:=∃(k:Nat) (m:Int),k≤cs.length∧i=.int .i64 k∧n=.int .i64 m∧((∀x∈cs,x.n≤72057594037927936)→m=(aJ3 (cs.take k):Nat))∧wr=W
theorem stepsN_bd{cs:List Cm}{M:Nat}(h:∀x∈cs,x.n≤M):aJ3 cs≤M*cs.length:=by
 unfold aJ3
 induction cs with
 | nil=>simp
 | cons x r ih=>
  have h1:=ih fun y hy=>h y (List.mem_cons_of_mem _ hy)
  have h2:=h x (List.mem_cons_self ..);rw[List.map_cons,List.sum_cons,List.length_cons,Nat.mul_add];omega
theorem aT9{w:World}{a:Option Addr}{len cap:Nat}{cs:List Cm}(h:SlIn Cm.vals 1 (Cm.In w) w a len cap cs):
  Calls Tryz.prog 9 #[.slice a len cap] w fun e w'=>∃b,e=.returned (.bool b)∧GreatSays cs b∧w'=w:=by
 obtain⟨h0,h1,h2,h3,h4,h5⟩:=h;subst h1;have HL:Hid (cs.length≤9223372036854775807):=yH (by unfold maxLen at h4;omega);have HC:=yH h5;clear h0 h2 h3 h4 h5
 by_cases hg:60<cs.length
 ·have q0:decide ((60:Int)<(cs.length:Int))=true:=zU
  clear hg;go_enter Tryz.func9,Tryz.ntmps9;go_wp2_with fail;go_ret;exact⟨true,rfl,(fun e=>by cases e),rfl⟩
 have q0:decide ((60:Int)<(cs.length:Int))=false:=zU
 have HG:Hid (cs.length≤60):=yH zQ;clear hg;go_enter Tryz.func9,Tryz.ntmps9;go_wp2_with fail
 go_loopw [3,4] (GreatAt w cs) (fun _ i _=>cs.length - (intOf i).toNat)
 case atStart=>exact⟨0,0,zQ,rfl,rfl,fun _=>rfl,rfl⟩
 obtain⟨k,m,hk,rfl,rfl,hm,rfl⟩:=hrel
 by_cases hkl:k<cs.length
 ·have hki:(k:Int)<(cs.length:Int):=zQ
  have hk0:(0:Int)≤(k:Int):=zQ
  obtain⟨b,off,rfl,hb,hc⟩:=HC.o zQ;have c0:=hc k hkl 0 _ rfl;rw[Nat.mul_one,Nat.add_zero]at c0
  have wr:(∀x∈cs,x.n≤72057594037927936)→wrap64 (m+(cs[k].n:Int))=(aJ3 (cs.take (k+1)):Int):=fun hx=>by
   have h1:=hx _ (List.getElem_mem hkl);have h2:aJ3 (cs.take k)≤72057594037927936*(cs.take k).length:=stepsN_bd fun x h=>hx x (List.mem_of_mem_take h)
   rw[List.length_take]at h2;have:=HG.o;rw[hm hx,aT8 cs hkl,wrap64_in _ ⟨zQ,zQ⟩];omega
  have HK:=yH hkl;have WR:=yH wr;have hl:=HL.o;clear hc wr hm;generalize cs[k]=x at c0 WR;obtain⟨xa,xn,xc,xs⟩:=x;clear hkl;go_wp2_with fail;exact⟨⟨k+1,_,zQ,by go_num,rfl,WR.o,rfl⟩,zN⟩
 have hkn:k=cs.length:=zQ
 subst hkn;have HM:=yH hm;clear hkl hk hm;go_wp2_with fail;go_ret;refine⟨_,rfl,fun e=>⟨HG.o,fun hx=>?_⟩,rfl⟩;have h1:=HM.o hx;have h2:=of_decide_eq_false e;rw[List.take_length]at h1;omega
theorem aNg(a:Option Addr)(n c:Nat)(w:World):Calls Tryz.prog 37 #[.slice a n c] w (yR w (.agg #[.slice a n c])):=by
 have b0:=(Below.refl w.heap.size w).alloc yL (.cells #[.slice none 0 0] 32);have KX:=yH (Blk.new w #[.slice none 0 0] 32);have B0:=yH b0;clear b0;go_enter Tryz.func37,Tryz.ntmps37
 go_upto_region 1 with fail
 generalize w.alloc (.cells #[.slice none 0 0] 32)=W at *;have x0:=KX.o.cell 0;simp at x0;go_wp2_with (refine aAa rfl 32 (.tmp 2) (.tmp 4) rfl w.heap.size #[.slice a n c] rfl rfl 32 _ KX.o.out zW rfl zK ?_);refine bodyPost_ret (v:=.agg #[.slice a n c]) (results_cell_row rfl _ _ w.heap.size 32 #[.slice a n c] (0,0) _ rfl (setRow_heap _ w.heap.size _ _ _ (0,0) KX.o.out) Tryz.underlying32 rfl zW) rfl ?_;exact⟨rfl,below_setRow B0.o yL _⟩
structure aDv(w:World)(σ:Hs)(vp vl vo:Value):Prop where
 p:aB4 w vp 1 σ.ps.length (σ.ps.map (.int .u8))
 l:aB4 w vl 5 σ.ls.length (aBg σ.ls)
 o:aB4 w vo 7 σ.l.length (aAb σ.l)
theorem like_any{w:World}{σ:Hs}{vp vl vo up ul uo:Value}(ha:aDv w σ vp vl vo)(hb:aDv w σ up ul uo):
  Calls Tryz.prog 38 #[.agg #[vp,vl,vo,.int .u64 σ.N],.agg #[up,ul,uo,.int .u64 σ.N]] w (yR w (.bool true)):=by
 have b1:=(Below.refl w.heap.size w).alloc yL (.cells #[vp,vl,vo,.int .u64 σ.N] 46);have b2:=b1.alloc b1.size (.cells #[up,ul,uo,.int .u64 σ.N] 46);have KA:=yH ((Blk.new w #[vp,vl,vo,.int .u64 σ.N] 46).alloc (.cells #[up,ul,uo,.int .u64 σ.N] 46));have KB:=yH (pAB (w.alloc (.cells #[vp,vl,vo,.int .u64 σ.N] 46)) #[up,ul,uo,.int .u64 σ.N] 46 (g:=w.heap.size+1) zV);have B2:=yH b2;have HA:=yH ha;have HB:=yH hb;clear ha hb b1 b2;go_enter Tryz.func38,Tryz.ntmps38
 go_upto_region 1 with fail
 generalize (w.alloc (.cells #[vp,vl,vo,.int .u64 σ.N] 46)).alloc (.cells #[up,ul,uo,.int .u64 σ.N] 46)=W at *;have x0:=KA.o.cell 0;have x1:=KA.o.cell 1;have x2:=KA.o.cell 2;have x3:=KA.o.cell 3;have y0:=KB.o.cell 0;have y1:=KB.o.cell 1;have y2:=KB.o.cell 2;have y3:=KB.o.cell 3;simp at x0 x1 x2 x3 y0 y1 y2 y3;go_wp2_with fail;refine(aNd (HA.o.p.below B2.o) (HB.o.p.below B2.o)).mono ?_;rintro e w1 ⟨rfl,b1⟩;rw[decide_eq_true rfl];have KA1:=yB KA b1;have KB1:=yB KB b1;have B1:=yT B2 b1;clear x0 x1 x2 x3 y0 y1 y2 y3 b1 KA KB;have x1:=KA1.o.cell 1;have x2:=KA1.o.cell 2;have x3:=KA1.o.cell 3;have y1:=KB1.o.cell 1;have y2:=KB1.o.cell 2;have y3:=KB1.o.cell 3;simp at x1 x2 x3 y1 y2 y3;go_wp2_with fail;refine(aPz (HA.o.l.below B1.o) (HB.o.l.below B1.o)).mono ?_;rintro e w2 ⟨rfl,b2⟩;rw[decide_eq_true rfl];have KA2:=yB KA1 b2;have KB2:=yB KB1 b2;have B3:=yT B1 b2;clear x1 x2 x3 y1 y2 y3 b2 KA1 KB1;have x2:=KA2.o.cell 2;have x3:=KA2.o.cell 3;have y2:=KB2.o.cell 2;have y3:=KB2.o.cell 3;simp at x2 x3 y2 y3;go_wp2_with fail;refine(aNz (HA.o.o.below B3.o) (HB.o.o.below B3.o)).mono ?_;rintro e w3 ⟨rfl,b3⟩;rw[decide_eq_true rfl];have KA3:=yB KA2 b3;have KB3:=yB KB2 b3;have B4:=yT B3 b3;clear x2 x3 y2 y3 b3 KA2 KB2;have x3:=KA3.o.cell 3;have y3:=KB3.o.cell 3;simp at x3 y3;go_wp2_with fail;go_ret;exact⟨rfl,B4.o⟩
theorem aDw{w:World}{e1 a1 e2 a2:Int}{va vb:Value}{la lb:List Gt}(ha:aB4 w va 2 la.length (aAt la))(hb:aB4 w vb 2 lb.length (aAt lb)):
  Calls Tryz.prog 17 #[.agg #[.int .i64 e1,.int .i64 a1,va],.agg #[.int .i64 e2,.int .i64 a2,vb]] w fun e w'=>e=.returned (.bool (decide (e1=e2∧a1=a2∧la=lb)))∧Below w.heap.size w w':=by
 have b1:=(Below.refl w.heap.size w).alloc yL (.cells #[.int .i64 e1,.int .i64 a1,va] 36);have b2:=b1.alloc b1.size (.cells #[.int .i64 e2,.int .i64 a2,vb] 36);have KA:=yH ((Blk.new w #[.int .i64 e1,.int .i64 a1,va] 36).alloc (.cells #[.int .i64 e2,.int .i64 a2,vb] 36));have KB:=yH (pAB (w.alloc (.cells #[.int .i64 e1,.int .i64 a1,va] 36)) #[.int .i64 e2,.int .i64 a2,vb] 36 (g:=w.heap.size+1) zV);have B2:=yH b2;have C:=yH (sameGt_any (ha.below b2) (hb.below b2));clear ha hb b1 b2;go_enter Tryz.func17,Tryz.ntmps17
 go_upto_region 1 with fail
 generalize (w.alloc (.cells #[.int .i64 e1,.int .i64 a1,va] 36)).alloc (.cells #[.int .i64 e2,.int .i64 a2,vb] 36)=W at *;have x0:=KA.o.cell 0;have x1:=KA.o.cell 1;have x2:=KA.o.cell 2;have y0:=KB.o.cell 0;have y1:=KB.o.cell 1;have y2:=KB.o.cell 2;simp at x0 x1 x2 y0 y1 y2
 by_cases he:e1=e2
 ·have q1:(e1==e2)=true:=xT
  by_cases h2:a1=a2
  ·have q2:(a1==a2)=true:=zF
   have HE:=yH (And.intro he h2);clear he h2;go_wp2_with fail;refine C.o.mono ?_;rintro e w3 ⟨rfl,b3⟩;go_wp2_with fail;go_ret;exact⟨by simp[HE.o.1,HE.o.2],B2.o.trans (b3.mono B2.o.size)⟩
  have q2:(a1==a2)=false:=zF
  have HE:=yH h2;clear he h2;go_wp2_with fail;go_ret;exact⟨by simp[HE.o],B2.o⟩
 have q1:(e1==e2)=false:=xT
 have HE:=yH he;clear he;go_wp2_with fail;go_ret;exact⟨by simp[HE.o],B2.o⟩
theorem aLy(x:Stp)(h:0≤x.kd∧x.kd≤255∧0≤x.a∧x.a≤255∧0≤x.b∧x.b≤255∧0≤x.c∧x.c≤255∧0≤x.d∧x.d≤255∧0≤x.n∧x.n≤255∧x.mx=0∧x.nu=0∧x.de=0∧x.se=0):x.Fits:=by
 obtain⟨a1,a2,b1,b2,c1,c2,d1,d2,e1,e2,f1,f2,g,i,j,k⟩:=h;exact⟨⟨a1,a2⟩,⟨b1,b2⟩,⟨c1,c2⟩,⟨d1,d2⟩,⟨e1,e2⟩,⟨zQ,zQ⟩,⟨zQ,zQ⟩,⟨zQ,zQ⟩,⟨zQ,zQ⟩,⟨zQ,zQ⟩⟩
theorem aRv(w:World)(size:Nat):aB4 w (.slice none 0 0) size 0 []:=⟨none,0,rfl,zQ,zV,fun h=>absurd h zQ⟩
theorem aGn{w:World}{g:Nat}{xs:List Stp}{t:TypeId}{cs:Array Value}(h:Blk w g cs t)(hc:cs=(aJ2 xs).toArray)(hf:∀x∈xs,x.Fits)(hl:xs.length≤1000):SlIn Stp.vals 10 Stp.Fits w (some ⟨g,0,none⟩) xs.length xs.length xs:=by
 refine⟨(fun e=>by cases e),rfl,hf,Nat.le_refl _,zE,fun _=>⟨_,_,rfl,h.lt,fun i hi j u hu=>?_⟩⟩
 have hj:j<10:=by
  have:=(List.getElem?_eq_some_iff.1 hu).1
  rwa [Stp.vals_len]at this
 rw[Nat.zero_add,h.cell,hc,List.getElem?_toArray,aLc xs i j hj hi,hu]
theorem aGo{w:World}{g:Nat}{xs:List Gt}{t:TypeId}{cs:Array Value}(h:Blk w g cs t)(hc:cs=(aAt xs).toArray)(hl:xs.length≤1000):aB4 w (.slice (some ⟨g,0,none⟩) xs.length xs.length) 2 xs.length (aAt xs):=by
 refine⟨_,_,rfl,zQ,aCt xs,fun _=>⟨g,0,rfl,h.lt,fun j hj=>?_⟩⟩;rw[Nat.zero_add,h.cell,hc,List.getElem?_toArray]
end Go.Proofs.YtngnfdnfpiiclaaGreat
namespace Go.Proofs.YtngnfdnfpiiclaaGreat
open Go.RowKit
noncomputable def atK(cs:List Cm)(k:Nat):Hs:=cmdsF ⟨[],[],[],1⟩ ((cs.take k).map Cm.xs)
theorem atK_inv(cs:List Cm)(k:Nat):HInv (atK cs k):=aRs HInv.start _
theorem atK_next(cs:List Cm){k:Nat}(h:k<cs.length):atK cs (k+1)=(aB6 (atK cs k) cs[k].xs).1:=by
 unfold atK;rw[List.map_take,List.map_take,cmdsF_take _ _ y7];simp
def CmAt(Is:World→Nat→Hs→Prop)(W:World)(g:Nat)(cs:List Cm)(i:Value)(wr:World):Prop:=∃k:Nat,k≤cs.length∧i=.int .i64 k∧Is wr g (atK cs k)∧Keep (·=g) W wr
theorem aDv.below{w w':World}{σ:Hs}{vp vl vo:Value}(h:aDv w σ vp vl vo)(k:Below w.heap.size w w'):aDv w' σ vp vl vo:=⟨h.p.below k,h.l.below k,h.o.below k⟩
theorem HInv.lens{σ:Hs}(h:HInv σ):σ.ps.length≤100000000∧σ.ls.length≤100000000∧σ.l.length≤100000000:=by
 have h1:=aPx h.li.bd h.li.rise;have h2:=aN9 σ.ps 0 17;rw[h1]at h2;have h3:=h.li.len;have h4:=h.bi.len;omega
theorem aRw{w w':World}{a:Option Addr}{len cap:Nat}{cs:List Cm}(h:SlIn Cm.vals 1 (Cm.In w) w a len cap cs)(k:Below w.heap.size w w'):SlIn Cm.vals 1 (Cm.In w') w' a len cap cs:=by
 obtain⟨h0,h1,h2,h3,h4,h5⟩:=SlIn.below h k;exact⟨h0,h1,fun x hx=>(h2 x hx).below k,h3,h4,h5⟩
end Go.Proofs.YtngnfdnfpiiclaaGreat
