/- Pieces of one proof. -/
import Derived.Test.YtaeocliklpcgmaaGreatP18
import Derived.Shelf.SlSortCmp.NoneTotal
import Derived.Shelf.SlMaps.Clone
import Derived.Deep.MidRow
set_option linter.all false
set_option maxHeartbeats 64000000
set_option maxRecDepth 100000
namespace Go.Proofs.YtaeocliklpcgmaaGreat
open Go.RowKit Go.Shelf
def sortL_ren:Go.Shelf.Ren:=⟨fun|6=>60|15=>120|14=>119|28=>169|29=>170|20=>161|21=>162|22=>163|23=>164|24=>165|25=>166|26=>167|27=>168|46=>198|47=>199|48=>200|49=>201|50=>202|57=>219|n=>n,fun|22=>68|24=>115|25=>123|3=>3|39=>133|0=>0|53=>233|55=>39|4=>4|46=>226|45=>225|50=>230|5=>5|9=>9|66=>257|70=>260|76=>288|77=>289|n=>n,fun|n=>n⟩
theorem sortL:Go.Proofs.SlLaysF0.n6 Tryz.prog sortL_ren:={
 mixed:=by kernel_rfl
 f6:=⟨Tryz.f60.name,by decide,Tryz.func60.trans (congrArg some (by kernel_rfl))⟩
 f14:=⟨Tryz.f119.name,by decide,Tryz.func119.trans (congrArg some (by kernel_rfl))⟩
 f15:=Tryz.func120.trans (congrArg some (by kernel_rfl))
 f20:=⟨Tryz.f161.name,by decide,Tryz.func161.trans (congrArg some (by kernel_rfl))⟩
 f21:=⟨Tryz.f162.name,by decide,Tryz.func162.trans (congrArg some (by kernel_rfl))⟩
 f22:=⟨Tryz.f163.name,by decide,Tryz.func163.trans (congrArg some (by kernel_rfl))⟩
 f23:=⟨Tryz.f164.name,by decide,Tryz.func164.trans (congrArg some (by kernel_rfl))⟩
 f24:=⟨Tryz.f165.name,by decide,Tryz.func165.trans (congrArg some (by kernel_rfl))⟩
 f25:=⟨Tryz.f166.name,by decide,Tryz.func166.trans (congrArg some (by kernel_rfl))⟩
 f26:=⟨Tryz.f167.name,by decide,Tryz.func167.trans (congrArg some (by kernel_rfl))⟩
 f27:=⟨Tryz.f168.name,by decide,Tryz.func168.trans (congrArg some (by kernel_rfl))⟩
 f28:=Tryz.func169.trans (congrArg some (by kernel_rfl))
 f29:=Tryz.func170.trans (congrArg some (by kernel_rfl))
 f46:=⟨Tryz.f198.name,by decide,Tryz.func198.trans (congrArg some (by kernel_rfl))⟩
 f47:=Tryz.func199.trans (congrArg some (by kernel_rfl))
 f48:=Tryz.func200.trans (congrArg some (by kernel_rfl))
 f49:=⟨Tryz.f201.name,by decide,Tryz.func201.trans (congrArg some (by kernel_rfl))⟩
 f50:=⟨Tryz.f202.name,by decide,Tryz.func202.trans (congrArg some (by kernel_rfl))⟩
 f57:=⟨Tryz.f219.name,by decide,Tryz.func219.trans (congrArg some (by kernel_rfl))⟩
 t0:=Tryz.underlying0
 a0:=Tryz.isAgg0
 z0:=Tryz.sizeOf0
 v0:=Tryz.zeroValue0
 t3:=Tryz.underlying3
 a3:=Tryz.isAgg3
 z3:=Tryz.sizeOf3
 v3:=Tryz.zeroValue3
 t4:=Tryz.underlying4
 a4:=Tryz.isAgg4
 z4:=Tryz.sizeOf4
 v4:=Tryz.zeroValue4
 t5:=Tryz.underlying5
 a5:=Tryz.isAgg5
 z5:=Tryz.sizeOf5
 v5:=Tryz.zeroValue5
 t9:=Tryz.underlying9
 a9:=Tryz.isAgg9
 z9:=Tryz.sizeOf9
 v9:=Tryz.zeroValue9
 t22:=Tryz.underlying68
 a22:=Tryz.isAgg68
 z22:=Tryz.sizeOf68
 v22:=Tryz.zeroValue68
 t25:=Tryz.underlying123
 a25:=Tryz.isAgg123
 z25:=Tryz.sizeOf123
 v25:=Tryz.zeroValue123
 t39:=Tryz.underlying133
 a39:=Tryz.isAgg133
 z39:=Tryz.sizeOf133
 v39:=Tryz.zeroValue133
 t45:=Tryz.underlying225
 a45:=Tryz.isAgg225
 z45:=Tryz.sizeOf225
 v45:=Tryz.zeroValue225
 t46:=Tryz.underlying226
 a46:=Tryz.isAgg226
 z46:=Tryz.sizeOf226
 v46:=Tryz.zeroValue226
 t50:=Tryz.underlying230
 a50:=Tryz.isAgg230
 z50:=Tryz.sizeOf230
 v50:=Tryz.zeroValue230
 t53:=Tryz.underlying233
 a53:=Tryz.isAgg233
 z53:=Tryz.sizeOf233
 v53:=Tryz.zeroValue233
 t55:=Tryz.underlying39
 a55:=Tryz.isAgg39
 z55:=Tryz.sizeOf39
 v55:=Tryz.zeroValue39
 t66:=Tryz.underlying257
 a66:=Tryz.isAgg257
 z66:=Tryz.sizeOf257
 v66:=Tryz.zeroValue257
 t70:=Tryz.underlying260
 a70:=Tryz.isAgg260
 z70:=Tryz.sizeOf260
 v70:=Tryz.zeroValue260
 t76:=Tryz.underlying288
 a76:=Tryz.isAgg288
 z76:=Tryz.sizeOf288
 v76:=Tryz.zeroValue288
 t77:=Tryz.underlying289
 a77:=Tryz.isAgg289
 z77:=Tryz.sizeOf289
 v77:=Tryz.zeroValue289 }
end Go.Proofs.YtaeocliklpcgmaaGreat
namespace Go.Proofs.YtaeocliklpcgmaaGreat
open Go.RowKit
end Go.Proofs.YtaeocliklpcgmaaGreat
namespace Go.Proofs.YtaeocliklpcgmaaGreat
open Go.RowKit Go.Shelf Go.Sort Go.Lib
instance:Inhabited Ln:=⟨noLn⟩
def cmp3(x y:Int):Int:=if x<y then -1 else if y<x then 1 else 0
def or3(p q r:Int):Int:=if p=0 then(if q=0 then r else q)else p
def ordL(x y:Ln):Int:=or3 (cmp3 x.cu y.cu) (cmp3 x.cr y.cr) (cmp3 x.de y.de)
theorem aOb(x y:Ln):ordL x y<0↔(x.cu<y.cu∨(x.cu=y.cu∧(x.cr<y.cr∨(x.cr=y.cr∧x.de<y.de)))):=by
 unfold ordL or3 cmp3
 (repeat' split) <;> omega
theorem ordL_rank{x y:Ln}(hx:x.Fits)(hy:y.Fits):ordL x y<0↔x.rank<y.rank:=by
 rw[aOb];obtain⟨⟨a1,a2⟩,⟨b1,b2⟩,⟨c1,c2⟩,_,_⟩:=hx;obtain⟨⟨d1,d2⟩,⟨e1,e2⟩,⟨f1,f2⟩,_,_⟩:=hy;unfold Ln.rank;omega
theorem swoL:SWO (ltOf ordL) where
 irrefl x:=by unfold ltOf;rw[decide_eq_false_iff_not,aOb];omega
 trans x y z h1 h2:=by
  unfold ltOf at *;rw[decide_eq_true_eq,aOb]at *;omega
 ntrans x y z h1 h2:=by
  unfold ltOf at *;rw[decide_eq_false_iff_not,aOb]at *;omega
theorem aM7(ls:List Ln){j:Nat}(h:j<ls.length*5):(flatK Ln.vals 5 ls.toArray)[j]! = (aAz ls)[j]'(by rw[aDw];exact h):=by
 rw[get_flatK _ _ _ j (by simpa using h)];have h1:j/5<ls.length:=by omega
 have h2:j%5<5:=Nat.mod_lt _ (by omega);have h3:=aA7 ls (j/5) (j%5) h2 h1;rw[show j/5*5+j%5=j by omega]at h3;rw[List.getElem?_eq_getElem (by rw[aDw];exact h)]at h3;have h4:(ls.toArray)[j/5]! = ls[j/5]:=by simp[h1]
 rw[h4,List.getElem!_eq_getElem?_getD,←h3];rfl
theorem aSi{w:World}{g:Nat}{cur:Array Value}{e:TypeId}{ls:List Ln}(hb:w.heap[g]? = some (.cells cur e (0,0)))(ht:cur.toList.take (ls.length*5)=aAz ls):HoldsK Ln.vals 5 w g 0 ls.toArray:=by
 intro j hj;have hj':j<ls.length*5:=by simpa using hj
 refine⟨?_,by simp[World.frozen?,hb]⟩;rw[aM7 ls hj'];have h1:(cur.toList.take (ls.length*5))[j]? = (aAz ls)[j]? := by rw[ht]
 rw[List.getElem?_take_of_lt hj']at h1;simp only[World.cell?,hb,Nat.zero_add];simp only[Option.isSome_none,Bool.false_eq_true,if_false];rw[←Array.getElem?_toList,h1,List.getElem?_eq_getElem (by rw[aDw];exact hj')];rfl
theorem heap_lines{w:World}{g n:Nat}{os:Array Obj}{cur:Array Value}{e:TypeId}(d:Array Ln)(hb:w.heap[g]? = some (.cells cur e (0,0))):
  (sortWorldK Ln.vals 5 w g 0 n d os).heap[g]? = some (.cells (putCells id 0 (flatK Ln.vals 5 d) cur) e (0,0)):=by
 have hg:g<w.heap.size:=(Array.getElem?_eq_some_iff.1 hb).1;unfold sortWorldK putRowK;rw[heap_grow_old _ _ (by simpa using hg)];simp[putRow,mapBlock,Go.Sort.ahead,Array.getElem?_modify,hb,onCells]
theorem keep_lines{w:World}{g n:Nat}{os:Array Obj}(d:Array Ln):Keep (·=g) w (sortWorldK Ln.vals 5 w g 0 n d os):=by
 refine⟨rfl,rfl,rfl,by simp[sortWorldK,putRowK],fun k hk hne=>?_⟩;unfold sortWorldK putRowK;rw[heap_grow_old _ _ (by simpa using hk)];have:g≠k:=fun e=>hne e.symm
 simp[putRow,mapBlock,Go.Sort.ahead,Array.getElem?_modify,this]
theorem take_lines(cur:Array Value)(ls:List Ln)(h:ls.length*5≤cur.size):(putCells id 0 (flatK Ln.vals 5 ls.toArray) cur).toList.take (ls.length*5)=aAz ls:=by
 apply List.ext_getElem?;intro j
 by_cases hj:j<ls.length*5
 ·have hf:=aM7 ls hj;rw[List.getElem?_take_of_lt hj,Array.getElem?_toList,List.getElem?_eq_getElem (by rw[aDw];exact hj),←hf];simp[putCells,hj,show j<cur.size by omega]
 rw[List.getElem?_take_eq_none (by omega),List.getElem?_eq_none (by rw[aDw];omega)]
theorem sorted_is{done ls:List Ln}(hI:Inv ls)(hp:done.Perm ls)(d:Array Ln)(h1:PermIn 0 done.toArray.size done.toArray d)(h2:SortedIn (ltOf ordL) 0 done.toArray.size d):d.toList=ls:=by
 obtain⟨hs,_,hperm⟩:=h1
 have hpd:d.toList.Perm done:=by
  have e1:d.extract 0 done.toArray.size=d:=by rw[←hs,Array.extract_size]
  rw[e1,Array.extract_size]at hperm;simpa using hperm
 have hpl:=hpd.trans hp;have hne:d.toList.Pairwise fun x y=>x.rank≠y.rank:=(hpl.symm.pairwise_iff (fun{a b} (h:a.rank≠b.rank)=>h.symm)).1 (hI.sorted.imp fun h=>by omega)
 refine aFe _ _ ?_ hI.sorted fun x=>hpl.mem_iff
 rw[List.pairwise_iff_getElem]at hne ⊢;intro i j hi hj hij;have hn:=hne i j hi hj hij;have hi':i<d.size:=by simpa using hi
 have hj':j<d.size:=by simpa using hj
 have hso:=h2 i j (Nat.zero_le _) hij (by rw[←hs];exact hj');rw[getElem!_pos d i hi',getElem!_pos d j hj']at hso;unfold ltOf at hso;rw[decide_eq_false_iff_not,ordL_rank (hI.good _ (hpl.mem_iff.1 (by simp))).fits (hI.good _ (hpl.mem_iff.1 (by simp))).fits]at hso;simp only[Array.getElem_toList]at hn ⊢;omega
theorem isnan_p(x:Int)(w:World):
  Calls Tryz.prog 172 #[.int .u8 x] w (yV w (.bool false)):=by
 go_enter Tryz.func172,Tryz.ntmps172;go_wp2;go_ret;exact⟨rfl,rfl⟩
theorem isnan_c(x:Int)(w:World):
  Calls Tryz.prog 171 #[.int .u8 x] w (yV w (.bool false)):=by
 go_enter Tryz.func171,Tryz.ntmps171;go_wp2;go_ret;exact⟨rfl,rfl⟩
theorem aP3(x y:Int)(w:World):
  Calls Tryz.prog 122 #[.int .u8 x,.int .u8 y] w (yV w (.int .i64 (cmp3 x y))):=by
 have c1:=yH (fun w=>isnan_p x w);have c2:=yH (fun w=>isnan_p y w);rcases Int.lt_trichotomy x y with h|h|h
 ·rw[show cmp3 x y = -1 by unfold cmp3;rw[if_pos h]];go_enter Tryz.func122,Tryz.ntmps122;go_wp2_with fail;refine(c1.out _).mono ?_;rintro e w1 ⟨rfl,rfl⟩;go_wp2_with fail;refine(c2.out _).mono ?_;rintro e w1 ⟨rfl,rfl⟩;go_wp2_with fail;go_ret;exact⟨rfl,rfl⟩
 ·rw[show cmp3 x y=0 by unfold cmp3;rw[if_neg (by omega),if_neg (by omega)]];subst h;go_enter Tryz.func122,Tryz.ntmps122;go_wp2_with fail;refine(c1.out _).mono ?_;rintro e w1 ⟨rfl,rfl⟩;go_wp2_with fail;refine(c2.out _).mono ?_;rintro e w1 ⟨rfl,rfl⟩;go_wp2_with fail;go_ret;exact⟨rfl,rfl⟩
 rw[show cmp3 x y=1 by unfold cmp3;rw[if_neg (by omega),if_pos h]];go_enter Tryz.func122,Tryz.ntmps122;go_wp2_with fail;refine(c1.out _).mono ?_;rintro e w1 ⟨rfl,rfl⟩;go_wp2_with fail;refine(c2.out _).mono ?_;rintro e w1 ⟨rfl,rfl⟩;go_wp2_with fail;go_ret;exact⟨rfl,rfl⟩
theorem compare_c(x y:Int)(w:World):
  Calls Tryz.prog 121 #[.int .u8 x,.int .u8 y] w (yV w (.int .i64 (cmp3 x y))):=by
 have c1:=yH (fun w=>isnan_c x w);have c2:=yH (fun w=>isnan_c y w);rcases Int.lt_trichotomy x y with h|h|h
 ·rw[show cmp3 x y = -1 by unfold cmp3;rw[if_pos h]];go_enter Tryz.func121,Tryz.ntmps121;go_wp2_with fail;refine(c1.out _).mono ?_;rintro e w1 ⟨rfl,rfl⟩;go_wp2_with fail;refine(c2.out _).mono ?_;rintro e w1 ⟨rfl,rfl⟩;go_wp2_with fail;go_ret;exact⟨rfl,rfl⟩
 ·rw[show cmp3 x y=0 by unfold cmp3;rw[if_neg (by omega),if_neg (by omega)]];subst h;go_enter Tryz.func121,Tryz.ntmps121;go_wp2_with fail;refine(c1.out _).mono ?_;rintro e w1 ⟨rfl,rfl⟩;go_wp2_with fail;refine(c2.out _).mono ?_;rintro e w1 ⟨rfl,rfl⟩;go_wp2_with fail;go_ret;exact⟨rfl,rfl⟩
 rw[show cmp3 x y=1 by unfold cmp3;rw[if_neg (by omega),if_pos h]];go_enter Tryz.func121,Tryz.ntmps121;go_wp2_with fail;refine(c1.out _).mono ?_;rintro e w1 ⟨rfl,rfl⟩;go_wp2_with fail;refine(c2.out _).mono ?_;rintro e w1 ⟨rfl,rfl⟩;go_wp2_with fail;go_ret;exact⟨rfl,rfl⟩
theorem or_three(b cap:Nat)(p q r:Int)(w:World)(hlt:b<w.heap.size)(h0:w.cell? ⟨b,0,none⟩=some (.int .i64 p))(h1:w.cell? ⟨b,1,none⟩=some (.int .i64 q))(h2:w.cell? ⟨b,2,none⟩=some (.int .i64 r)):
  Calls Tryz.prog 68 #[.slice (some ⟨b,0,none⟩) 3 cap] w (yV w (.int .i64 (or3 p q r))):=by
 unfold or3
 by_cases hp:p=0
 ·rw[if_pos hp];subst hp
  by_cases hq:q=0
  ·rw[if_pos hq];subst hq
   by_cases hr:r=0
   ·subst hr;go_enter Tryz.func68,Tryz.ntmps68;go_wp2;refine wp_loop_rounds 4 ?_;rw[rounds_succ];go_wp2;rw[rounds_succ];go_wp2;rw[rounds_succ];go_wp2;rw[rounds_succ];go_wp2;go_ret;exact⟨rfl,rfl⟩
   have hb:(r==0)=false:=by simp[hr]
   go_enter Tryz.func68,Tryz.ntmps68;go_wp2;refine wp_loop_rounds 3 ?_;rw[rounds_succ];go_wp2;rw[rounds_succ];go_wp2;rw[rounds_succ];go_wp2;go_ret;exact⟨rfl,rfl⟩
  rw[if_neg hq];have hb:(q==0)=false:=by simp[hq]
  go_enter Tryz.func68,Tryz.ntmps68;go_wp2;refine wp_loop_rounds 2 ?_;rw[rounds_succ];go_wp2;rw[rounds_succ];go_wp2;go_ret;exact⟨rfl,rfl⟩
 rw[if_neg hp];have hb:(p==0)=false:=by simp[hp]
 go_enter Tryz.func68,Tryz.ntmps68;go_wp2;refine wp_loop_rounds 1 ?_;rw[rounds_succ];go_wp2;go_ret;exact⟨rfl,rfl⟩
end Go.Proofs.YtaeocliklpcgmaaGreat
namespace Go.Proofs.YtaeocliklpcgmaaGreat
open Go.RowKit
open Go.Shelf Go.Lib
open Go.Sort (grow flatK putCells HoldsK PermIn SortedIn SWO)
def aOc(W:World)(o:Obj)(D:Nat→Bool)(w:World):Prop:=∃q,w=if D 15 then(W.drewN q).alloc o else W.drewN q
theorem aOc.step{W w:World}{o:Obj}{D:Nat→Bool}{k:Nat}(h:aOc W o D w)(hk:k≠15):aOc W o (ins k D) w:=by
 obtain⟨q,hq⟩:=h;refine⟨q,?_⟩;rw[aDd D (Ne.symm hk)];exact hq
theorem aOc.below{W w:World}{o:Obj}{D:Nat→Bool}(h:aOc W o D w):Below W.heap.size W w:=by
 obtain⟨q,hq⟩:=h;subst hq;split
 ·exact(⟨rfl,rfl,rfl,Nat.le_refl _,fun _ _=>rfl⟩:Below W.heap.size W (W.drewN q)).alloc yL _
 exact⟨rfl,rfl,rfl,Nat.le_refl _,fun _ _=>rfl⟩
theorem grow_three(w:World)(a b c:Obj)(q:Nat):∃q' os',(((w.alloc a).alloc b).drewN q).alloc c=grow (w.drewN q') os':=by
 refine⟨q,#[a,b,c],?_⟩;unfold grow World.alloc World.drewN;simp only[World.mk.injEq,and_true];apply Array.ext';simp
theorem order_any(x y:Ln)(w:World):Calls Tryz.prog 61 #[.agg #[.int .u8 x.cr,.int .u8 x.de,.int .u8 x.cu,.int .i64 x.li,.int .i64 x.db],.agg #[.int .u8 y.cr,.int .u8 y.de,.int .u8 y.cu,.int .i64 y.li,.int .i64 y.db]] w fun e w'=>e=.returned (.int .i64 (ordL x y))∧∃q os',w'=grow (w.drewN q) os':=by
 unfold ordL;have c1:=yH (fun w=>compare_c x.cu y.cu w);have c2:=yH (fun w=>aP3 x.cr y.cr w);have c3:=yH (fun w=>aP3 x.de y.de w);generalize cmp3 x.cu y.cu=p at *;generalize cmp3 x.cr y.cr=q at *;generalize cmp3 x.de y.de=r at *;go_enter Tryz.func61,Tryz.ntmps61;go_wp2_with fail;have hW:((w.alloc (.cells #[.int .u8 x.cr,.int .u8 x.de,.int .u8 x.cu,.int .i64 x.li,.int .i64 x.db] 115)).alloc (.cells #[.int .u8 y.cr,.int .u8 y.de,.int .u8 y.cu,.int .i64 y.li,.int .i64 y.db] 115)).heap.size=w.heap.size+2:=by simp
 have KX:=yH ((pAA w #[.int .u8 x.cr,.int .u8 x.de,.int .u8 x.cu,.int .i64 x.li,.int .i64 x.db] 115).alloc (.cells #[.int .u8 y.cr,.int .u8 y.de,.int .u8 y.cu,.int .i64 y.li,.int .i64 y.db] 115));have KY:=yH (pAC (w.alloc (.cells #[.int .u8 x.cr,.int .u8 x.de,.int .u8 x.cu,.int .i64 x.li,.int .i64 x.db] 115)) #[.int .u8 y.cr,.int .u8 y.de,.int .u8 y.cu,.int .i64 y.li,.int .i64 y.db] 115 (g:=w.heap.size+1) (by simp));have HW:=yH hW;have HG:=yH (fun c q=>grow_three w (.cells #[.int .u8 x.cr,.int .u8 x.de,.int .u8 x.cu,.int .i64 x.li,.int .i64 x.db] 115) (.cells #[.int .u8 y.cr,.int .u8 y.de,.int .u8 y.cu,.int .i64 y.li,.int .i64 y.db] 115) c q);generalize ((w.alloc (.cells #[.int .u8 x.cr,.int .u8 x.de,.int .u8 x.cu,.int .i64 x.li,.int .i64 x.db] 115)).alloc (.cells #[.int .u8 y.cr,.int .u8 y.de,.int .u8 y.cu,.int .i64 y.li,.int .i64 y.db] 115))=W at KX KY HW HG ⊢;clear hW
 refine aIt (by kernel_rfl) [(.pointer (some ⟨w.heap.size,2,none⟩)),(.int .u8 x.cu),(.pointer (some ⟨w.heap.size+1,2,none⟩)),(.int .u8 y.cu),(.int .i64 p),(.pointer (some ⟨w.heap.size,0,none⟩)),(.int .u8 x.cr),(.pointer (some ⟨w.heap.size+1,0,none⟩)),(.int .u8 y.cr),(.int .i64 q),(.pointer (some ⟨w.heap.size,1,none⟩)),(.int .u8 x.de),(.pointer (some ⟨w.heap.size+1,1,none⟩)),(.int .u8 y.de),(.int .i64 r),(.slice (some ⟨w.heap.size+2,0,none⟩) 3 3),(.int .i64 (or3 p q r)),(.int .i64 (or3 p q r))]
  (aOc W (.cells #[.int .i64 p,.int .i64 q,.int .i64 r] 3)) (by kernel_rfl) ⟨1,rfl⟩ ?_
 intro af haf;simp only[puts,Act.put,yA,yC,yF,yD,yE]at haf;subst haf;refine⟨?_,?_⟩
 ·simp only[aJg];refine⟨?_,?_,?_,?_,?_,?_,?_,?_,?_,?_,?_,?_,?_,?_,?_,?_,?_,?_,trivial⟩
  ·intro D w' hD hWt hC hI;have HI:=yH (hI.step (k:=0) (by decide));clear hI hC hWt hD;refine yO rfl ?_;go_wp2_with fail;all_goals first|exact HI|exact⟨rfl,HI⟩|rfl
  ·intro D w' hD hWt hC hI;have hS:=hI.below;have HI:=yH (hI.step (k:=1) (by decide));have kk:=KX.out.below hS KX.out.lt;have d0:=kk.cell 0;have d1:=kk.cell 1;have d2:=kk.cell 2;simp at d0 d1 d2;clear kk;clear hS hI hC hWt hD;refine yO rfl ?_;go_wp2_with fail;all_goals first|exact HI|exact⟨rfl,HI⟩|rfl
  ·intro D w' hD hWt hC hI;have HI:=yH (hI.step (k:=2) (by decide));clear hI hC hWt hD;refine yO rfl ?_;go_wp2_with fail;all_goals first|exact HI|exact⟨rfl,HI⟩|rfl
  ·intro D w' hD hWt hC hI;have hS:=hI.below;have HI:=yH (hI.step (k:=3) (by decide));have kk:=KY.out.below hS KY.out.lt;have d0:=kk.cell 0;have d1:=kk.cell 1;have d2:=kk.cell 2;simp at d0 d1 d2;clear kk;clear hS hI hC hWt hD;refine yO rfl ?_;go_wp2_with fail;all_goals first|exact HI|exact⟨rfl,HI⟩|rfl
  ·intro D w' hD hWt hC hI;have HI:=yH (hI.step (k:=4) (by decide));clear hI hC hWt hD;refine yO rfl ?_;go_wp2_with fail;refine(c1.out w').mono ?_;rintro e w'' ⟨rfl,rfl⟩;exact⟨rfl,HI.out⟩
  ·intro D w' hD hWt hC hI;have HI:=yH (hI.step (k:=5) (by decide));clear hI hC hWt hD;refine yO rfl ?_;go_wp2_with fail;all_goals first|exact HI|exact⟨rfl,HI⟩|rfl
  ·intro D w' hD hWt hC hI;have hS:=hI.below;have HI:=yH (hI.step (k:=6) (by decide));have kk:=KX.out.below hS KX.out.lt;have d0:=kk.cell 0;have d1:=kk.cell 1;have d2:=kk.cell 2;simp at d0 d1 d2;clear kk;clear hS hI hC hWt hD;refine yO rfl ?_;go_wp2_with fail;all_goals first|exact HI|exact⟨rfl,HI⟩|rfl
  ·intro D w' hD hWt hC hI;have HI:=yH (hI.step (k:=7) (by decide));clear hI hC hWt hD;refine yO rfl ?_;go_wp2_with fail;all_goals first|exact HI|exact⟨rfl,HI⟩|rfl
  ·intro D w' hD hWt hC hI;have hS:=hI.below;have HI:=yH (hI.step (k:=8) (by decide));have kk:=KY.out.below hS KY.out.lt;have d0:=kk.cell 0;have d1:=kk.cell 1;have d2:=kk.cell 2;simp at d0 d1 d2;clear kk;clear hS hI hC hWt hD;refine yO rfl ?_;go_wp2_with fail;all_goals first|exact HI|exact⟨rfl,HI⟩|rfl
  ·intro D w' hD hWt hC hI;have HI:=yH (hI.step (k:=9) (by decide));clear hI hC hWt hD;refine yO rfl ?_;go_wp2_with fail;refine(c2.out w').mono ?_;rintro e w'' ⟨rfl,rfl⟩;exact⟨rfl,HI.out⟩
  ·intro D w' hD hWt hC hI;have HI:=yH (hI.step (k:=10) (by decide));clear hI hC hWt hD;refine yO rfl ?_;go_wp2_with fail;all_goals first|exact HI|exact⟨rfl,HI⟩|rfl
  ·intro D w' hD hWt hC hI;have hS:=hI.below;have HI:=yH (hI.step (k:=11) (by decide));have kk:=KX.out.below hS KX.out.lt;have d0:=kk.cell 0;have d1:=kk.cell 1;have d2:=kk.cell 2;simp at d0 d1 d2;clear kk;clear hS hI hC hWt hD;refine yO rfl ?_;go_wp2_with fail;all_goals first|exact HI|exact⟨rfl,HI⟩|rfl
  ·intro D w' hD hWt hC hI;have HI:=yH (hI.step (k:=12) (by decide));clear hI hC hWt hD;refine yO rfl ?_;go_wp2_with fail;all_goals first|exact HI|exact⟨rfl,HI⟩|rfl
  ·intro D w' hD hWt hC hI;have hS:=hI.below;have HI:=yH (hI.step (k:=13) (by decide));have kk:=KY.out.below hS KY.out.lt;have d0:=kk.cell 0;have d1:=kk.cell 1;have d2:=kk.cell 2;simp at d0 d1 d2;clear kk;clear hS hI hC hWt hD;refine yO rfl ?_;go_wp2_with fail;all_goals first|exact HI|exact⟨rfl,HI⟩|rfl
  ·intro D w' hD hWt hC hI;have HI:=yH (hI.step (k:=14) (by decide));clear hI hC hWt hD;refine yO rfl ?_;go_wp2_with fail;refine(c3.out w').mono ?_;rintro e w'' ⟨rfl,rfl⟩;exact⟨rfl,HI.out⟩
  ·intro D w' hD hWt hC hI;obtain⟨t,ht⟩:=hI;rw[hD]at ht;have hz:w'.heap.size=w.heap.size+2:=by rw[ht,←HW.out];rfl
   have HI:=yH (show aOc W (.cells #[.int .i64 p,.int .i64 q,.int .i64 r] 3) (ins 15 D) (w'.alloc (.cells #[.int .i64 p,.int .i64 q,.int .i64 r] 3))from⟨t,by rw[aH5,if_pos rfl,ht];rfl⟩);clear ht hC hWt hD;refine yO rfl ?_;go_wp2_with fail;all_goals first|exact HI|exact⟨rfl,HI⟩|exact⟨by rw[hz],HI.out⟩
  ·intro D w' hD hWt hC hI;have h15:D 15=true:=aBd hC hWt (d:=12) (by kernel_rfl);obtain⟨t,ht⟩:=hI;have KB:Blk w' (w.heap.size+2) #[.int .i64 p,.int .i64 q,.int .i64 r] 3:=by rw[ht,h15,if_pos rfl];exact pAC _ _ _ (by show _=W.heap.size;rw[HW.out])
   have HI:=yH (aOc.step (k:=16) (show aOc W (.cells #[.int .i64 p,.int .i64 q,.int .i64 r] 3) D w' from⟨t,ht⟩) (by decide));have HO:=yH (or_three (w.heap.size+2) 3 p q r w' KB.lt (KB.cell 0) (KB.cell 1) (KB.cell 2));clear ht KB hC hWt hD h15;refine yO rfl ?_;go_wp2_with fail;refine HO.out.mono ?_;rintro e w'' ⟨rfl,rfl⟩;exact⟨rfl,HI.out⟩
  intro D w' hD hWt hC hI;have HI:=yH (hI.step (k:=17) (by decide));clear hI hC hWt hD;refine yO rfl ?_;go_wp2_with fail;all_goals first|exact HI|exact⟨rfl,HI⟩|rfl
 intro D w2 hall hI;obtain⟨t,ht⟩:=hI;rw[hall 15 (by decide),if_pos rfl]at ht;have HE:=yH (show ∃q os',w2=grow (w.drewN q) os' from by rw[ht];exact HG.out _ t);clear ht hall;go_wp2_with fail;go_ret;exact⟨rfl,HE.out⟩
theorem sortL_any{w:World}{base:Nat}{v:Value}{done ls:List Ln}(hI:Inv ls)(hp:done.Perm ls)(hl:ls.length≤64)(h:w.ownsRow base 115 5 v done.length (aAz done)):
  Calls Tryz.prog 60 #[v,.func (.func 61) #[] #[]] w fun e w'=>e=.returned (.tuple #[])∧w'.ownsRow base 115 5 v ls.length (aAz ls)∧Keep (fun b=>v.ownBlock=some b) w w':=by
 have hlen:=hp.length_eq;rcases h.2 with⟨rfl,h0⟩|⟨g,cap,cur,rfl,hbase,hb,h1,h2,h3,h4⟩
 ·rw[h0]at hlen;have:ls=[]:=List.eq_nil_of_length_eq_zero hlen.symm;subst this;refine(AnyF.slices_SortFunc_none { sortL with } none 0 (.func (.func 61) #[] #[]) w).mono ?_;rintro e w' ⟨rfl,rfl⟩;exact⟨rfl,World.ownsRow_nil _ _ _ _,Keep.refl _ _⟩
 have hg:g<w.heap.size:=(Array.getElem?_eq_some_iff.1 hb).1;have eg:∀args w,(callFunc 61 args).run Tryz.prog w=.ok (.enter 61 args) w:=enters_of Tryz.func61 (by kernel_rfl) rfl;have hcmp:CmpLays Tryz.prog 61 #[] Ln.vals 5 ordL g 0 done.toArray.size w:=fun m os dk _ x y=>order_any x y _
 have hc:=AnyQ.slices_SortFunc (P:=Tryz.prog) sortL 5 Tryz.isAgg115 Tryz.sizeOf115 Ln.vals (fun _=>rfl) (fun x u hu=>by simp[Ln.vals]at hu;rcases hu with rfl|rfl|rfl|rfl|rfl <;> rfl) ordL swoL 61 #[] g 0 cap done.toArray w eg hcmp (aSi hb h4) hg (by simp;omega);have hsz:done.toArray.size=done.length:=by simp
 rw[hsz]at hc;refine Calls.mono hc ?_;rintro e w' ⟨rfl,d,n,os,hp1,hs1,rfl⟩;have hd:=sorted_is hI hp d (by rw[hsz];exact hp1) (by rw[hsz];exact hs1);have hda:d=ls.toArray:=by rw[←hd]
 subst hda;refine⟨rfl,⟨aDw ls,.inr ⟨g,cap,_,by rw[hlen],hbase,heap_lines _ hb,by omega,h2,by simp[putCells,h3],take_lines cur ls (by omega)⟩⟩,(keep_lines _).mono fun k _ hk=>by rw[hk];rfl⟩
end Go.Proofs.YtaeocliklpcgmaaGreat
namespace Go.Proofs.YtaeocliklpcgmaaGreat
open Go.RowKit
theorem clipL_any{w:World}{base:Nat}{v:Value}{n:Nat}{xs:List Value}(h:w.ownsRow base 115 5 v n xs):
  Calls Tryz.prog 62 #[v] w (aGw w base 115 5 n v xs):=by
 rcases h.2 with⟨rfl,h0⟩|⟨g,cap,cur,rfl,hbase,hb,h1,h2,h3,h4⟩
 ·subst h0;have hr:=aBn (P:=Tryz.prog) w 68 115 5 Tryz.underlying68 (Tryz.sizeOf115 w);have hx:=h.1;have hx2:=yH hx;clear h hx;go_enter Tryz.func62,Tryz.ntmps62;go_wp2;refine bodyPost_ret (v:=.slice none 0 0) (by simp[results,Tryz.results62,go_sem]) rfl ?_;exact⟨_,rfl,⟨hx2.out,.inl ⟨rfl,rfl⟩⟩,rfl,rfl⟩
 have hr:=aCj (P:=Tryz.prog) w 68 115 5 Tryz.underlying68 (Tryz.sizeOf115 w) g n cap h1;have HR:=yH (show aCl w base 115 5 (.slice (some ⟨g,0,none⟩) n n) n xs from⟨h.1,.inr ⟨g,cur,rfl,hbase,hb,by omega,by omega,h4⟩⟩);clear h hb h4 h3;unfold maxLen at h2;go_enter Tryz.func62,Tryz.ntmps62;go_wp2;refine bodyPost_ret (v:=.slice (some ⟨g,0,none⟩) n n) (by simp[results,Tryz.results62,go_sem]) rfl ?_;exact⟨_,rfl,HR.out,rfl,rfl⟩
theorem clipP_any{w:World}{base:Nat}{v:Value}{n:Nat}{xs:List Value}(h:w.ownsRow base 43 1 v n xs):
  Calls Tryz.prog 159 #[v] w (aGw w base 43 1 n v xs):=by
 rcases h.2 with⟨rfl,h0⟩|⟨g,cap,cur,rfl,hbase,hb,h1,h2,h3,h4⟩
 ·subst h0;have hr:=aBn (P:=Tryz.prog) w 155 43 1 Tryz.underlying155 (Tryz.sizeOf43 w);have hx2:=yH h.1;clear h;go_enter Tryz.func159,Tryz.ntmps159;go_wp2;refine bodyPost_ret (v:=.slice none 0 0) (by simp[results,Tryz.results159,go_sem]) rfl ?_;exact⟨_,rfl,⟨hx2.out,.inl ⟨rfl,rfl⟩⟩,rfl,rfl⟩
 have hr:=aCj (P:=Tryz.prog) w 155 43 1 Tryz.underlying155 (Tryz.sizeOf43 w) g n cap h1;have HR:=yH (show aCl w base 43 1 (.slice (some ⟨g,0,none⟩) n n) n xs from⟨h.1,.inr ⟨g,cur,rfl,hbase,hb,by omega,by omega,h4⟩⟩);clear h hb h4 h3;unfold maxLen at h2;go_enter Tryz.func159,Tryz.ntmps159;go_wp2;refine bodyPost_ret (v:=.slice (some ⟨g,0,none⟩) n n) (by simp[results,Tryz.results159,go_sem]) rfl ?_;exact⟨_,rfl,HR.out,rfl,rfl⟩
def LinesAt(w:World)(M:Nat)(ls:List Ln)(s:Value)(wr:World):Prop:=
 ∃done,aCc wr M w.heap.size ls done∧wr.ownsRow (w.heap.size+1) 115 5 s done.length (aAz done)∧Below w.heap.size w wr
theorem plines_any{w:World}{G M:Nat}{ps:List Int}{ls:List Ln}(h:LedM w G M ps ls)(hI:LInv ps ls):
  Calls Tryz.prog 19 #[.pointer (some ⟨G,0,none⟩)] w (aFr w 115 5 ls.length (aAz ls)):=by
 have C1:=yH (aRv h.blk);have HM:=yH h.map;have HI:=yH hI;clear h hI;go_enter Tryz.func19,Tryz.ntmps19;go_wp2_with fail;refine C1.out.mono ?_;rintro e w ⟨rfl,rfl⟩;have hMlt:=HM.out.lt;go_wp2_with (first|(at_range;refine aIh rfl _ rfl M ls rfl HM.out ?_;intro w0 hr0 hb0)|go_in)
 go_frame
 go_loopw [3] (LinesAt w M ls) (fun _ wr=>leftN wr M w.heap.size)
 case atStart=>exact⟨[],hr0,World.ownsRow_nil _ _ _ _,hb0⟩
 obtain⟨done,hR,hown,hB⟩:=hrel;have hlen:=hR.len;have hleft:=hR.left;have hl64:=HI.out.len;have HR:=yH hR;have HB:=yH hB;have HO:=yH hown;clear hR hB hown;go_wp2_with (first|(at_next;refine aI8 rfl _ rfl M w.heap.size ls done rfl HR.out ?_ ?_)|go_in)
 ·intro hd;have CS:=yH (sortL_any HI.out.inv hd HI.out.len HO.out);clear hd;go_wp2_with fail;refine CS.out.mono ?_;rintro e w2 ⟨rfl,ho2,hk2⟩;have hB2:=yH (HB.out.trans (hk2.below HB.out.size (fun k hk he=>by have:=(aAe HO.out he).1;omega)));have CC:=yH (clipL_any ho2);clear ho2 hk2 CS;go_wp2_with fail;refine CC.out.mono ?_;rintro e w3 ⟨v',rfl,hrow,_,rfl⟩;have HRow:=yH hrow;clear hrow CC;go_wp2_with fail;refine bodyPost_ret (v:=v') (by simp[results,Tryz.results19,go_sem]) rfl ?_;exact⟨v',rfl,HRow.out.base (Nat.le_succ _),hB2.out⟩
 intro x w1 hx hR1 hT hen;have hb1:=HB.out.trans (hT.below yL);have hO1:=aAl HO.out hT.keep (fun b hb e=>by have:=(aAe HO.out hb).1;omega);have hb2:=((Below.refl w1.heap.size w1).alloc yL (.cells #[.int .u8 x.cr,.int .u8 x.de,.int .u8 x.cu] 118)).alloc (by simp) (.cells #[.int .i64 x.li,.int .i64 x.db] 120);have CP:=yH (fun w=>pline_any x w);have HR1:=yH hR1;have HB1:=yH hb1;have HO1:=yH hO1;have HB2:=yH hb2;clear hx hR1 hT hb1 hO1 hb2;go_wp2_with fail;refine(CP.out _).mono ?_;rintro e w3 ⟨rfl,hb3⟩;have HB3:=yT HB2 hb3;have HO3:=yH (aAc HO1.out HB3.out);have HR3:=yH (HR1.out.below HB3.out);have hz3:=yM HR1.out.lt HB3.out.size;clear hb3 hen;go_wp2_with (at_builtin;refine aBq _ rfl (.tmp 14) (.tmp 18) rfl (w.heap.size+1) _ done rfl (HO3.out.alloc _) _ _ x rfl (pAA _ _ _) (by omega) (by simp;omega) ?_);intro v4 w4 hown4 hgr4;have R2:∀k,Value.ownBlock _=some k→w.heap.size+1≤k:=fun k hk=>(aAe HO3.out hk).1
 have K4:=yH (((pAE (S:=fun b=>w.heap.size+1≤b) (Below.refl w3.heap.size w3)).alloc (.cells #[.int .u8 x.cr,.int .u8 x.de,.int .u8 x.cu,.int .i64 x.li,.int .i64 x.db] 115)).grown hgr4 (fun k hk=>.inl (R2 k hk)));have O4:=yH (show w4.ownsRow (w.heap.size+1) 115 5 v4 (done++[x]).length (aAz (done++[x])) by simpa using hown4);have HR4:=yH (HR3.out.keep K4.out (by omega) (by omega));have HB4:=yH ((HB1.out.trans (HB3.out.mono HB1.out.size)).trans (K4.out.below (B:=w.heap.size) (by omega) (fun k hk he=>by omega)));have hleft4:=HR4.out.left;rw[List.length_append,List.length_singleton]at hleft4;clear R2 hown4 hgr4 hz3;go_wp2_with fail;go_roundw
 case rel=>exact⟨done++[x],HR4.out,O4.out,HB4.out⟩
 case measure=>omega
theorem open_all{ps:List Int}(hb:∀p∈ps,1≤p∧p≤16)(hr:ps.Pairwise (·<·)):aBr ps 0 17=ps:=by
 refine rise_ext _ _ (aLe ps 0 17) hr fun x=>?_
 rw[aFg]
 constructor
 ·rintro⟨h1,h2|h2⟩
  ·omega
  exact h2
 intro h;exact⟨hb x h,.inr h⟩
def PartiesAt(ps:List Int)(w:World)(v q:Value)(wr:World):Prop:=
 ∃k:Nat,1≤k∧k≤17∧q=.int .u8 k∧wr.ownsRow w.heap.size 43 1 v (aBr ps 0 k).length ((aBr ps 0 k).map (.int .u8))∧Below w.heap.size w wr
theorem aP4{w:World}{G M:Nat}{ps:List Int}{ls:List Ln}(h:LedM w G M ps ls)(hI:LInv ps ls):
  Calls Tryz.prog 117 #[.pointer (some ⟨G,0,none⟩)] w (aFr w 43 1 ps.length (ps.map (.int .u8))):=by
 have c:=yH (fun(w':World) (k:Below w.heap.size w w') (q:Int)=>aHp (h.below k).blk hI.bd q);have HE:=yH (open_all hI.bd hI.rise);clear h hI;go_enter Tryz.func117,Tryz.ntmps117;go_wp2_with fail
 go_loopw [3,4] (PartiesAt ps w) (fun _ q _=>17 - (intOf q).toNat)
 case atStart=>exact⟨1,by omega,by omega,rfl,World.ownsRow_nil _ _ _ _,yZ⟩
 obtain⟨k,hk0,hk,rfl,hown,hb⟩:=hrel;have hl:=aIz ps 0 k;have O0:=yH hown;have B0:=yH hb;have hz:=hb.size;clear hown hb
 by_cases hkl:k≤16
 ·have N:=yH (aK4 ps 0 k hk0);have cq:=yH (c.out _ B0.out (k:Int));have hk1:(k:Int)≤16:=by omega
  have s1:((k:Int)==0)=false:=by simp;omega
  by_cases s2:(k:Int)∈ps
  ·have N2:Hid (aBr ps 0 (k+1)=aBr ps 0 k++[(k:Int)]):=yH (by rw[N.out,s1,decide_eq_true s2];rfl);rw[decide_eq_true s2]at cq;clear N s2 s1;generalize aBr ps 0 k=out at *;have hl2:out.length≤100000:=by omega
   go_wp2_with fail;refine cq.out.mono ?_;rintro e wr ⟨rfl,rfl⟩;go_wp2_with (at_builtin;refine aBy _ rfl (.tmp 12) (.tmp 14) rfl w.heap.size _ out rfl (O0.out.alloc _) _ _ (k:Int) rfl (pAA _ _ _) hl2 (by simp;omega) ?_);intro v3 w3 hown3 hgr3;have R2:∀k,Value.ownBlock _=some k→w.heap.size≤k:=fun k hk=>(aAe O0.out hk).1
   have B3:=yH ((B0.out.alloc B0.out.size (.cells #[.int .u8 (k:Int)] 43)).grown hgr3 (by simp;omega) (fun k hk=>R2 k hk));have O3:=yH (show w3.ownsRow w.heap.size 43 1 v3 (out++[(k:Int)]).length ((out++[(k:Int)]).map (.int .u8)) by simpa using hown3);clear R2 hown3 hgr3;go_wp2_with fail;go_roundw
   case rel=>exact⟨k+1,by omega,by omega,by go_num,by rw[N2.out];exact O3.out,B3.out⟩
   case measure=>simp[intOf];omega
  have N2:Hid (aBr ps 0 (k+1)=aBr ps 0 k):=yH (by rw[N.out,s1,decide_eq_false s2];simp);rw[decide_eq_false s2]at cq;clear N s2 s1;go_wp2_with fail;refine cq.out.mono ?_;rintro e wr ⟨rfl,rfl⟩;go_wp2_with fail;go_roundw
  case rel=>exact⟨k+1,by omega,by omega,by go_num,by rw[N2.out];exact O0.out,B0.out⟩
  case measure=>simp[intOf];omega
 obtain rfl:k=17:=by omega
 rw[HE.out]at O0;have CC:=yH (clipP_any O0.out);clear hl hk0 hk hkl;go_wp2_with fail;refine CC.out.mono ?_;rintro e w3 ⟨v',rfl,hrow,_,rfl⟩;have HRow:=yH hrow;clear hrow CC;go_wp2_with fail;refine bodyPost_ret (v:=v') (by simp[results,Tryz.results117,go_sem]) rfl ?_;exact⟨v',rfl,HRow.out,B0.out⟩
theorem clone_any{w:World}{b:Nat}{es:Array MapEntry}{clock:Nat}(hb:w.heap[b]? = some (.map es clock)):
  Calls Tryz.prog 118 #[.map (some b)] w fun e w'=>e=.returned (.map (some w.heap.size))∧w'=w.alloc (.map es clock):=by
 have hq:=fun w=>Go.Proofs.run_eql_map_nil_sl (P:=Tryz.prog) w 58 _ _ (some b) Tryz.underlying58
 go_enter Tryz.func118,Tryz.ntmps118;go_wp2;rw[run_callFunc_extern Tryz.func160 (by kernel_rfl) (by kernel_rfl) (by kernel_rfl) (e:=Extern.MapsClone.clone) (by kernel_rfl),Go.Proofs.run_maps_clone_sl w 58 hb];simp only[Result.andThen];rw[Oper.upon_value];go_wp2;rw[Go.Proofs.run_typeAssert_map_sl _ 58 20 _ _ _ Tryz.underlying58];simp only[Result.andThen];rw[Oper.upon_value];go_wp2;go_ret;exact⟨rfl,rfl⟩
def parC(ps:List Int):List Value:=((ledC ps (.map none)).toList.take 17)
theorem aFz(ps:List Int):(parC ps).length=17:=by simp[parC,aGf]
theorem aOd(ps:List Int){j:Nat}(h:j<17):(parC ps)[j]? = some (.bool (decide ((j:Int)∈ps))):=by
 unfold parC;rw[List.getElem?_take_of_lt h,Array.getElem?_toList,aFw _ _ _ h]
theorem ledC_par(ps:List Int)(v:Value):(parC ps++[v]).toArray=ledC ps v:=by
 apply Array.ext_getElem?;intro j;rw[List.getElem?_toArray]
 by_cases h:j<17
 ·rw[List.getElem?_append_left (by rw[aFz];exact h),aOd _ h,aFw _ _ _ h]
 by_cases h2:j=17
 ·subst h2;rw[aKf,List.getElem?_append_right (by rw[aFz];omega),aFz];rfl
 rw[Array.getElem?_eq_none (by rw[aGf];omega),List.getElem?_eq_none (by simp[aFz];omega)]
theorem par_range{w:World}{g:Nat}{ps:List Int}{v:Value}{t:TypeId}(h:Blk w g (ledC ps v) t):w.rangeAt g 0 (parC ps):=by
 intro j u hu
 have hj:j<17:=by
  rcases Nat.lt_or_ge j 17 with h'|h'
  ·exact h'
  rw[List.getElem?_eq_none (by rw[aFz];exact h')]at hu;cases hu
 rw[Nat.zero_add,h.cell j,aFw _ _ _ hj,←aOd ps hj];exact hu
theorem par_form(ps:List Int):∃b0 b1 b2 b3 b4 b5 b6 b7 b8 b9 b10 b11 b12 b13 b14 b15 b16:Bool,parC ps=[Value.bool b0,Value.bool b1,Value.bool b2,Value.bool b3,Value.bool b4,Value.bool b5,Value.bool b6,Value.bool b7,Value.bool b8,Value.bool b9,Value.bool b10,Value.bool b11,Value.bool b12,Value.bool b13,Value.bool b14,Value.bool b15,Value.bool b16]:=by
 have h:=aFz ps;refine⟨decide ((0:Int)∈ps),decide ((1:Int)∈ps),decide ((2:Int)∈ps),decide ((3:Int)∈ps),decide ((4:Int)∈ps),decide ((5:Int)∈ps),decide ((6:Int)∈ps),decide ((7:Int)∈ps),decide ((8:Int)∈ps),decide ((9:Int)∈ps),decide ((10:Int)∈ps),decide ((11:Int)∈ps),decide ((12:Int)∈ps),decide ((13:Int)∈ps),decide ((14:Int)∈ps),decide ((15:Int)∈ps),decide ((16:Int)∈ps),?_⟩;apply List.ext_getElem?;intro j
 by_cases hj:j<17
 ·rw[aOd ps hj]
  match j,hj with
  | 0,_=>rfl
  | 1,_=>rfl
  | 2,_=>rfl
  | 3,_=>rfl
  | 4,_=>rfl
  | 5,_=>rfl
  | 6,_=>rfl
  | 7,_=>rfl
  | 8,_=>rfl
  | 9,_=>rfl
  | 10,_=>rfl
  | 11,_=>rfl
  | 12,_=>rfl
  | 13,_=>rfl
  | 14,_=>rfl
  | 15,_=>rfl
  | 16,_=>rfl
  | n+17,h=>omega
 rw[List.getElem?_eq_none (by omega),List.getElem?_eq_none (by simp;omega)]
theorem build_led(ps:List Int)(m:Nat)(w:World):(Instr.build 60 #[(0,.agg (parC ps).toArray),(1,.map (some m))]).run Tryz.prog w=.ok (.agg (ledC ps (.map (some m)))) w:=by
 rw[←ledC_par];obtain⟨b0,b1,b2,b3,b4,b5,b6,b7,b8,b9,b10,b11,b12,b13,b14,b15,b16,hb⟩:=par_form ps;rw[hb]
 have h:(Instr.build 60 #[(0,.agg [Value.bool b0,Value.bool b1,Value.bool b2,Value.bool b3,Value.bool b4,Value.bool b5,Value.bool b6,Value.bool b7,Value.bool b8,Value.bool b9,Value.bool b10,Value.bool b11,Value.bool b12,Value.bool b13,Value.bool b14,Value.bool b15,Value.bool b16].toArray),(1,.map (some m))]).run Tryz.prog=fun w=>.ok (.agg ([Value.bool b0,Value.bool b1,Value.bool b2,Value.bool b3,Value.bool b4,Value.bool b5,Value.bool b6,Value.bool b7,Value.bool b8,Value.bool b9,Value.bool b10,Value.bool b11,Value.bool b12,Value.bool b13,Value.bool b14,Value.bool b15,Value.bool b16]++[Value.map (some m)]).toArray) w:=by
  kernel_rfl
 rw[h]
def aLu(W:World)(o:Obj)(C:Array Value)(T:TypeId)(D:Nat→Bool)(w:World):Prop:=
 Below W.heap.size W w∧w.heap.size=W.heap.size+((if D 8=true then 1 else 0)+(if D 10=true then 1 else 0))∧(D 8=true→w.heap[W.heap.size]? = some o)∧(D 10=true→w.heap[W.heap.size+1]? = some (.cells C T))
theorem aLu.step{W w:World}{o:Obj}{C:Array Value}{T:TypeId}{D:Nat→Bool}{k:Nat}(h:aLu W o C T D w)(h8:k≠8)(h10:k≠10):aLu W o C T (ins k D) w:=by
 unfold aLu;rw[aDd D (Ne.symm h8),aDd D (Ne.symm h10)];exact h
def CopyMPost(w:World)(ps:List Int)(ls:List Ln)(e:Ending)(w':World):Prop:=
 ∃g' m',e=.returned (.pointer (some ⟨g',0,none⟩))∧LedM w' g' m' ps ls∧w.heap.size≤g'∧w.heap.size≤m'∧Below w.heap.size w w'
theorem pcopy_any{w:World}{G M:Nat}{ps:List Int}{ls:List Ln}(h:LedM w G M ps ls):
  Calls Tryz.prog 55 #[.pointer (some ⟨G,0,none⟩)] w (CopyMPost w ps ls):=by
 have C1:=yH (aG2 h.blk);have HBk:=yH h.blk;obtain⟨ms,⟨es,clock,hes,hst,hkv⟩,hperm⟩:=h.map;have HM:=yH hes;have HN:Hid (∀w',w'.heap[w.heap.size]? = some (.map es clock)→aDi w' w.heap.size ls):=yH fun w' hw=>⟨ms,⟨es,clock,hw,hst,hkv⟩,hperm⟩
 have hMlt:M<w.heap.size:=h.map.lt;clear h hes hst hkv hperm;go_enter Tryz.func55,Tryz.ntmps55;go_wp2_with fail;refine C1.out.mono ?_;rintro e w ⟨rfl,rfl⟩;go_wp2_with fail
 refine aIt (by kernel_rfl) [(.pointer (some ⟨G,0,none⟩)),(.pointer (some ⟨G,0,none⟩)),(.pointer (some ⟨G,0,none⟩)),(.agg (parC ps).toArray),(.pointer (some ⟨G,0,none⟩)),(.pointer (some ⟨G,0,none⟩)),(.pointer (some ⟨G,17,none⟩)),(.map (some M)),(.map (some w.heap.size)),(.agg (ledC ps (.map (some w.heap.size)))),(.pointer (some ⟨w.heap.size+1,0,none⟩)),(.pointer (some ⟨w.heap.size+1,0,none⟩))]
  (aLu w (.map es clock) (ledC ps (.map (some w.heap.size))) 60) (by kernel_rfl) ⟨yZ.drew,by simp,by simp,by simp⟩ ?_
 intro af haf;simp only[puts,Act.put,yA,yC,yF,yD,yE]at haf;subst haf;refine⟨?_,?_⟩
 ·simp only[aJg];refine⟨?_,?_,?_,?_,?_,?_,?_,?_,?_,?_,?_,?_,trivial⟩
  ·intro D w' hD hWt hC hI;have HI:=yH (hI.step (k:=0) (by decide) (by decide));clear hI hC hWt hD;refine yO rfl ?_;go_wp2_with fail;all_goals first|exact HI|exact⟨rfl,HI⟩|rfl
  ·intro D w' hD hWt hC hI;have HI:=yH (hI.step (k:=1) (by decide) (by decide));clear hI hC hWt hD;refine yO rfl ?_;go_wp2_with fail;all_goals first|exact HI|exact⟨rfl,HI⟩|rfl
  ·intro D w' hD hWt hC hI;have HI:=yH (hI.step (k:=2) (by decide) (by decide));clear hI hC hWt hD;refine yO rfl ?_;go_wp2_with fail;all_goals first|exact HI|exact⟨rfl,HI⟩|rfl
  ·intro D w' hD hWt hC hI;have hS:=hI.1;have HI:=yH (hI.step (k:=3) (by decide) (by decide));have kb:=HBk.out.below hS HBk.out.lt;refine yO rfl ?_;refine wp_load_mid 57 (.tmp 8) rfl G 0 rfl (parC ps) _ (par_range kb) Tryz.underlying57 rfl (by rw[aFz];kernel_rfl) ?_;exact⟨rfl,HI.out⟩
  ·intro D w' hD hWt hC hI;have HI:=yH (hI.step (k:=4) (by decide) (by decide));clear hI hC hWt hD;refine yO rfl ?_;go_wp2_with fail;all_goals first|exact HI|exact⟨rfl,HI⟩|rfl
  ·intro D w' hD hWt hC hI;have HI:=yH (hI.step (k:=5) (by decide) (by decide));clear hI hC hWt hD;refine yO rfl ?_;go_wp2_with fail;all_goals first|exact HI|exact⟨rfl,HI⟩|rfl
  ·intro D w' hD hWt hC hI;have HI:=yH (hI.step (k:=6) (by decide) (by decide));clear hI hC hWt hD;refine yO rfl ?_;go_wp2_with fail;all_goals first|exact HI|exact⟨rfl,HI⟩|rfl
  ·intro D w' hD hWt hC hI;have hS:=hI.1;have HI:=yH (hI.step (k:=7) (by decide) (by decide));have kb:=HBk.out.below hS HBk.out.lt;have d:=kb.ledMap;clear hS hI hC hWt hD kb;refine yO rfl ?_;go_wp2_with fail;all_goals first|exact HI|exact⟨rfl,HI⟩|rfl
  ·intro D w' hD hWt hC hI;have h10:D 10=false:=aBx hC hD 12 10 (by kernel_rfl);obtain⟨q1,q2,q3,q4⟩:=hI;rw[hD,h10]at q2;have hz:w'.heap.size=w.heap.size:=by simpa using q2
   have hc:=clone_any (w:=w') (b:=M) (es:=es) (clock:=clock) (by rw[q1.block M hMlt];exact HM.out);rw[hz]at hc
   have HI:Hid (aLu w (.map es clock) (ledC ps (.map (some w.heap.size))) 60 (ins 8 D) (w'.alloc (.map es clock))):=yH (by
    refine⟨q1.alloc q1.size _,?_,fun _=>?_,fun d=>?_⟩
    ·rw[aH5,aDd D (by decide),h10];simp[hz]
    ·rw[←hz];exact heap_alloc_new _ _
    rw[aDd D (by decide),h10]at d
    cases d)
   have HC:=yH hc;clear q1 q2 q3 q4 hc hC hWt hD h10;refine yO rfl ?_;go_wp2_with fail;refine HC.out.mono ?_;rintro e w'' ⟨rfl,rfl⟩;exact⟨rfl,HI.out⟩
  ·intro D w' hD hWt hC hI;have HI:=yH (hI.step (k:=9) (by decide) (by decide));refine yO rfl ?_;refine aRe 60 #[(0,.tmp 9),(1,.tmp 14)] rfl #[(0,(.agg (parC ps).toArray)),(1,(.map (some w.heap.size)))] (by simp[Act.eval]) _ (build_led ps w.heap.size w') ?_;exact⟨rfl,HI.out⟩
  ·intro D w' hD hWt hC hI;have h8:D 8=true:=aBd hC hWt (d:=12) (by kernel_rfl);obtain⟨q1,q2,q3,q4⟩:=hI;rw[hD,h8]at q2;have hz:w'.heap.size=w.heap.size+1:=by simpa using q2
   have HI:Hid (aLu w (.map es clock) (ledC ps (.map (some w.heap.size))) 60 (ins 10 D) (w'.alloc (.cells (ledC ps (.map (some w.heap.size))) 60))):=yH (by
    refine⟨q1.alloc q1.size _,?_,fun d=>?_,fun _=>?_⟩
    ·rw[aH5,aDd D (by decide),h8];simp[hz]
    ·rw[heap_alloc_old _ _ (by omega)];exact q3 h8
    rw[←hz];exact heap_alloc_new _ _)
   clear q1 q2 q3 q4 hC hWt hD h8;refine yO rfl ?_;go_wp2_with fail;all_goals first|exact HI|exact⟨rfl,HI⟩|exact⟨by rw[hz],HI.out⟩
  intro D w' hD hWt hC hI;have HI:=yH (hI.step (k:=11) (by decide) (by decide));clear hI hC hWt hD;refine yO rfl ?_;go_wp2_with fail;all_goals first|exact HI|exact⟨rfl,HI⟩|rfl
 intro D w2 hall hI;obtain⟨q1,q2,q3,q4⟩:=hI;have q3:=q3 (hall 8 (by decide));have q4:=q4 (hall 10 (by decide));have HE:=yH (show LedM w2 (w.heap.size+1) w.heap.size ps ls from⟨q4,HN.out w2 q3⟩);have HB:=yH q1;clear q1 q2 q3 q4 hall;go_wp2_with fail;refine bodyPost_ret (v:=.pointer (some ⟨w.heap.size+1,0,none⟩)) (by simp[results,Tryz.results55,go_sem]) rfl ?_;exact⟨w.heap.size+1,w.heap.size,rfl,HE.out,by omega,Nat.le_refl _,HB.out⟩
theorem aOe{w:World}{va vb:Value}{la lb:List Ln}(ha:aC0 w va 5 la.length (aAz la))(hb:aC0 w vb 5 lb.length (aAz lb)):
  Calls Tryz.prog 18 #[va,vb] w (yR w (.bool (decide (la=lb)))):=by
 have C:=yH (aOy ha hb);clear ha hb;generalize decide (la=lb)=r at *;go_enter Tryz.func18,Tryz.ntmps18;go_wp2_with fail;refine C.out.mono ?_;rintro e w1 ⟨rfl,b1⟩;go_wp2_with fail;go_ret;exact⟨rfl,b1⟩
theorem aLv{w:World}{va vb:Value}{la lb:List Int}(ha:aC0 w va 1 la.length (la.map (.int .u8)))(hb:aC0 w vb 1 lb.length (lb.map (.int .u8))):
  Calls Tryz.prog 116 #[va,vb] w (yR w (.bool (decide (la=lb)))):=by
 have C:=yH (aNh ha hb);clear ha hb;generalize decide (la=lb)=r at *;go_enter Tryz.func116,Tryz.ntmps116;go_wp2_with fail;refine C.out.mono ?_;rintro e w1 ⟨rfl,b1⟩;go_wp2_with fail;go_ret;exact⟨rfl,b1⟩
theorem aSj{w:World}{G M g base:Nat}{ps:List Int}{ls:List Ln}{vp vl:Value}(hL:LedM w G M ps ls)(hI:LInv ps ls)(hR:RefL w base g ps ls vp vl)(hp:ps.length≤100000):
  Calls Tryz.prog 53 #[.pointer (some ⟨G,0,none⟩),.pointer (some ⟨g,0,none⟩)] w (yR w (.bool true)):=by
 have HL2:=yH hL;have HI2:=yH hI;have HR:=yH hR;have HN:Hid (ps.length≤100000000∧ls.length≤100000000):=yH ⟨by omega,by have:=hI.len;omega⟩;have hvp:=aAd hR.p;have hvl:=aAd hR.l;obtain⟨ap,cp,hvp,_⟩:=hvp;obtain⟨al,cl,hvl,_⟩:=hvl;clear hL hI hR hp hvp hvl;go_enter Tryz.func53,Tryz.ntmps53;go_wp2_with fail
 have hlasts:∀q∈([(1,(fun v w=>aC0 w v 1 ps.length (ps.map (.int .u8)))),(9,(fun v w=>aC0 w v 5 ls.length (aAz ls)))]:List (Nat×(Value→World→Prop))),Lasts q.2:=by
  intro q hq;simp only[yI,yJ,or_false]at hq;rcases hq with rfl|rfl
  ·exact fun v w w' h k=>h.below k
  exact fun v w w' h k=>h.below k
 have HL:=yH hlasts;clear hlasts
 refine aD3 (by kernel_rfl) (fun s:Nat→Value=>[(.pointer (some ⟨G,0,none⟩)),s 1,(.pointer (some ⟨g,0,none⟩)),(.pointer (some ⟨g,0,none⟩)),(.pointer (some ⟨g,0,none⟩)),vp,(.bool true),(.bool true),(.pointer (some ⟨G,0,none⟩)),s 9,(.pointer (some ⟨g,0,none⟩)),(.pointer (some ⟨g,0,none⟩)),(.pointer (some ⟨g,1,none⟩)),vl,(.bool true),(.bool true),(.bool true)])
  (Got w [(1,(fun v w=>aC0 w v 1 ps.length (ps.map (.int .u8)))),(9,(fun v w=>aC0 w v 5 ls.length (aAz ls)))]) (by kernel_rfl) (fun _=>undef) (Got.start _ _ _) ?_
 intro AF hAF;simp only[yG,puts,Act.put,yA,yC,yF,yD,yE]at hAF;have hAF2:_=AF:=funext hAF;subst hAF2;clear hAF;refine⟨?_,?_⟩
 ·simp only[yG,aL4];refine⟨?_,?_,?_,?_,?_,?_,?_,?_,?_,?_,?_,?_,?_,?_,?_,?_,?_,trivial⟩
  ·intro s D w' hD hW hC hI;refine .inl ⟨s,fun _ _ _=>rfl,?_⟩;with_reducible refine yO rfl ?_
   have HS:=yH (hI.step HL.out yZ (k:=0) (by intro q hq;simp only[yI,yJ,or_false]at hq;rcases hq with rfl|rfl <;> first|exact(show(1:Nat)≠0 by decide)|exact(show(9:Nat)≠0 by decide)));clear hI hC hW hD;go_wp2_with fail;all_goals first|exact HS|exact⟨rfl,HS⟩|rfl
  ·intro s D w' hD hW hC hI;have hS:=hI.below;have HI:=yH hI;have HCl:=yH hC;have HD:=yH hD;have HC:=yH (aP4 (HL2.out.below hS) HI2.out);refine .inr ?_;with_reducible refine aD2.plain ?_ ?_
   exact rfl;clear hI hS hC hW hD;go_wp2_with fail;refine HC.out.mono ?_;rintro e w'' ⟨v,rfl,hv,hb2⟩;refine⟨v,rfl,updV s 1 v,aJ8 _ (fun s:Nat→Value=>[(.pointer (some ⟨G,0,none⟩)),s 1,(.pointer (some ⟨g,0,none⟩)),(.pointer (some ⟨g,0,none⟩)),(.pointer (some ⟨g,0,none⟩)),vp,(.bool true),(.bool true),(.pointer (some ⟨G,0,none⟩)),s 9,(.pointer (some ⟨g,0,none⟩)),(.pointer (some ⟨g,0,none⟩)),(.pointer (some ⟨g,1,none⟩)),vl,(.bool true),(.bool true),(.bool true)]) s 1 v HCl.out HD.out ?_,rfl,HI.out.put HL.out hb2 ?_⟩
   ·intro j hj
    match j,hj with
    | 0,_=>exact .inr rfl
    | 1,_=>exact .inl (.inl rfl)
    | 2,_=>exact .inr rfl
    | 3,_=>exact .inr rfl
    | 4,_=>exact .inr rfl
    | 5,_=>exact .inr rfl
    | 6,_=>exact .inr rfl
    | 7,_=>exact .inr rfl
    | 8,_=>exact .inr rfl
    | 9,_=>exact .inr rfl
    | 10,_=>exact .inr rfl
    | 11,_=>exact .inr rfl
    | 12,_=>exact .inr rfl
    | 13,_=>exact .inr rfl
    | 14,_=>exact .inr rfl
    | 15,_=>exact .inr rfl
    | 16,_=>exact .inr rfl
    | j+17,_=>exact .inr rfl
   intro q hq he;simp only[yI,yJ,or_false]at hq;rcases hq with rfl|rfl <;> first|exact hv.reads HN.out.1|exact absurd (show(9:Nat)=1 from he) (by decide)
  ·intro s D w' hD hW hC hI;refine .inl ⟨s,fun _ _ _=>rfl,?_⟩;with_reducible refine yO rfl ?_
   have HS:=yH (hI.step HL.out yZ (k:=2) (by intro q hq;simp only[yI,yJ,or_false]at hq;rcases hq with rfl|rfl <;> first|exact(show(1:Nat)≠2 by decide)|exact(show(9:Nat)≠2 by decide)));clear hI hC hW hD;go_wp2_with fail;all_goals first|exact HS|exact⟨rfl,HS⟩|rfl
  ·intro s D w' hD hW hC hI;refine .inl ⟨s,fun _ _ _=>rfl,?_⟩;with_reducible refine yO rfl ?_
   have HS:=yH (hI.step HL.out yZ (k:=3) (by intro q hq;simp only[yI,yJ,or_false]at hq;rcases hq with rfl|rfl <;> first|exact(show(1:Nat)≠3 by decide)|exact(show(9:Nat)≠3 by decide)));clear hI hC hW hD;go_wp2_with fail;all_goals first|exact HS|exact⟨rfl,HS⟩|rfl
  ·intro s D w' hD hW hC hI;refine .inl ⟨s,fun _ _ _=>rfl,?_⟩;with_reducible refine yO rfl ?_
   have HS:=yH (hI.step HL.out yZ (k:=4) (by intro q hq;simp only[yI,yJ,or_false]at hq;rcases hq with rfl|rfl <;> first|exact(show(1:Nat)≠4 by decide)|exact(show(9:Nat)≠4 by decide)));clear hI hC hW hD;go_wp2_with fail;all_goals first|exact HS|exact⟨rfl,HS⟩|rfl
  ·intro s D w' hD hW hC hI;have hS:=hI.below;refine .inl ⟨s,fun _ _ _=>rfl,?_⟩;with_reducible refine yO rfl ?_
   have d0:=(HR.out.blk.below hS HR.out.blk.lt).cell 0;simp at d0;have HS:=yH (hI.step HL.out yZ (k:=5) (by intro q hq;simp only[yI,yJ,or_false]at hq;rcases hq with rfl|rfl <;> first|exact(show(1:Nat)≠5 by decide)|exact(show(9:Nat)≠5 by decide)));clear hI hS hC hW hD;go_wp2_with fail;all_goals first|exact HS|exact⟨rfl,HS⟩|rfl
  ·intro s D w' hD hW hC hI;have hS:=hI.below;refine .inl ⟨s,fun _ _ _=>rfl,?_⟩;with_reducible refine yO rfl ?_
   have hP1:D 1=true:=aA8 hC hW (by kernel_rfl);have hq1:=hI.at (1,(fun v w=>aC0 w v 1 ps.length (ps.map (.int .u8)))) (by simp) hP1;dsimp only at hq1;have HI:=yH hI;have HC:=yH ((by have q:=aLv hq1 (pAF (aAc HR.out.p hS) HN.out.1);rw[decide_eq_true rfl]at q;exact q:Calls Tryz.prog 116 #[s 1,vp] w' fun e w''=>e=.returned (.bool true)∧Below w'.heap.size w' w''));clear hI hS hC hW hD hP1 hq1;go_wp2_with fail;refine HC.out.mono ?_;rintro e w'' ⟨rfl,hb2⟩;exact⟨rfl,HI.out.step HL.out hb2 (by intro q hq;simp only[yI,yJ,or_false]at hq;rcases hq with rfl|rfl <;> first|exact(show(1:Nat)≠6 by decide)|exact(show(9:Nat)≠6 by decide))⟩
  ·intro s D w' hD hW hC hI;refine .inl ⟨s,fun _ _ _=>rfl,?_⟩;with_reducible refine yO rfl ?_
   have HS:=yH (hI.step HL.out yZ (k:=7) (by intro q hq;simp only[yI,yJ,or_false]at hq;rcases hq with rfl|rfl <;> first|exact(show(1:Nat)≠7 by decide)|exact(show(9:Nat)≠7 by decide)));clear hI hC hW hD;go_wp2_with fail;all_goals first|exact HS|exact⟨rfl,HS⟩|rfl
  ·intro s D w' hD hW hC hI;refine .inl ⟨s,fun _ _ _=>rfl,?_⟩;with_reducible refine OpTo.wanted ?_ ?_
   kernel_rfl
   have HS:=yH (hI.step HL.out yZ (k:=8) (by intro q hq;simp only[yI,yJ,or_false]at hq;rcases hq with rfl|rfl <;> first|exact(show(1:Nat)≠8 by decide)|exact(show(9:Nat)≠8 by decide)));clear hI hC hW hD;go_wp2_with fail;all_goals first|exact HS|exact⟨rfl,HS⟩|rfl
  ·intro s D w' hD hW hC hI;have hS:=hI.below;have HI:=yH hI;have HCl:=yH hC;have HD:=yH hD;have HC:=yH (plines_any (HL2.out.below hS) HI2.out);refine .inr ?_;with_reducible refine aD2.wanted ?_ ?_
   kernel_rfl
   clear hI hS hC hW hD;go_wp2_with fail;refine HC.out.mono ?_;rintro e w'' ⟨v,rfl,hv,hb2⟩;refine⟨v,rfl,updV s 9 v,aJ8 _ (fun s:Nat→Value=>[(.pointer (some ⟨G,0,none⟩)),s 1,(.pointer (some ⟨g,0,none⟩)),(.pointer (some ⟨g,0,none⟩)),(.pointer (some ⟨g,0,none⟩)),vp,(.bool true),(.bool true),(.pointer (some ⟨G,0,none⟩)),s 9,(.pointer (some ⟨g,0,none⟩)),(.pointer (some ⟨g,0,none⟩)),(.pointer (some ⟨g,1,none⟩)),vl,(.bool true),(.bool true),(.bool true)]) s 9 v HCl.out HD.out ?_,rfl,HI.out.put HL.out hb2 ?_⟩
   ·intro j hj
    match j,hj with
    | 0,_=>exact .inr rfl
    | 1,_=>exact .inr rfl
    | 2,_=>exact .inr rfl
    | 3,_=>exact .inr rfl
    | 4,_=>exact .inr rfl
    | 5,_=>exact .inr rfl
    | 6,_=>exact .inr rfl
    | 7,_=>exact .inr rfl
    | 8,_=>exact .inr rfl
    | 9,_=>exact .inl (.inl rfl)
    | 10,_=>exact .inr rfl
    | 11,_=>exact .inr rfl
    | 12,_=>exact .inr rfl
    | 13,_=>exact .inr rfl
    | 14,_=>exact .inr rfl
    | 15,_=>exact .inr rfl
    | 16,_=>exact .inr rfl
    | j+17,_=>exact .inr rfl
   intro q hq he;simp only[yI,yJ,or_false]at hq;rcases hq with rfl|rfl <;> first|exact hv.reads HN.out.2|exact absurd (show(1:Nat)=9 from he) (by decide)
  ·intro s D w' hD hW hC hI;refine .inl ⟨s,fun _ _ _=>rfl,?_⟩;with_reducible refine OpTo.wanted ?_ ?_
   kernel_rfl
   have HS:=yH (hI.step HL.out yZ (k:=10) (by intro q hq;simp only[yI,yJ,or_false]at hq;rcases hq with rfl|rfl <;> first|exact(show(1:Nat)≠10 by decide)|exact(show(9:Nat)≠10 by decide)));clear hI hC hW hD;go_wp2_with fail;all_goals first|exact HS|exact⟨rfl,HS⟩|rfl
  ·intro s D w' hD hW hC hI;refine .inl ⟨s,fun _ _ _=>rfl,?_⟩;with_reducible refine OpTo.wanted ?_ ?_
   kernel_rfl
   have HS:=yH (hI.step HL.out yZ (k:=11) (by intro q hq;simp only[yI,yJ,or_false]at hq;rcases hq with rfl|rfl <;> first|exact(show(1:Nat)≠11 by decide)|exact(show(9:Nat)≠11 by decide)));clear hI hC hW hD;go_wp2_with fail;all_goals first|exact HS|exact⟨rfl,HS⟩|rfl
  ·intro s D w' hD hW hC hI;refine .inl ⟨s,fun _ _ _=>rfl,?_⟩;with_reducible refine OpTo.wanted ?_ ?_
   kernel_rfl
   have HS:=yH (hI.step HL.out yZ (k:=12) (by intro q hq;simp only[yI,yJ,or_false]at hq;rcases hq with rfl|rfl <;> first|exact(show(1:Nat)≠12 by decide)|exact(show(9:Nat)≠12 by decide)));clear hI hC hW hD;go_wp2_with fail;all_goals first|exact HS|exact⟨rfl,HS⟩|rfl
  ·intro s D w' hD hW hC hI;have hS:=hI.below;refine .inl ⟨s,fun _ _ _=>rfl,?_⟩;with_reducible refine OpTo.wanted ?_ ?_
   kernel_rfl
   have d0:=(HR.out.blk.below hS HR.out.blk.lt).cell 1;simp at d0;have HS:=yH (hI.step HL.out yZ (k:=13) (by intro q hq;simp only[yI,yJ,or_false]at hq;rcases hq with rfl|rfl <;> first|exact(show(1:Nat)≠13 by decide)|exact(show(9:Nat)≠13 by decide)));clear hI hS hC hW hD;go_wp2_with fail;all_goals first|exact HS|exact⟨rfl,HS⟩|rfl
  ·intro s D w' hD hW hC hI;have hS:=hI.below;refine .inl ⟨s,fun _ _ _=>rfl,?_⟩;with_reducible refine OpTo.wanted ?_ ?_
   kernel_rfl
   have hP9:D 9=true:=aA8 hC hW (by kernel_rfl);have hq9:=hI.at (9,(fun v w=>aC0 w v 5 ls.length (aAz ls))) (by simp) hP9;dsimp only at hq9;have HI:=yH hI;have HC:=yH ((by have q:=aOe hq9 (pAF (aAc HR.out.l hS) HN.out.2);rw[decide_eq_true rfl]at q;exact q:Calls Tryz.prog 18 #[s 9,vl] w' fun e w''=>e=.returned (.bool true)∧Below w'.heap.size w' w''));clear hI hS hC hW hD hP9 hq9;go_wp2_with fail;refine HC.out.mono ?_;rintro e w'' ⟨rfl,hb2⟩;exact⟨rfl,HI.out.step HL.out hb2 (by intro q hq;simp only[yI,yJ,or_false]at hq;rcases hq with rfl|rfl <;> first|exact(show(1:Nat)≠14 by decide)|exact(show(9:Nat)≠14 by decide))⟩
  ·intro s D w' hD hW hC hI;refine .inl ⟨s,fun _ _ _=>rfl,?_⟩;with_reducible refine yO rfl ?_
   have HS:=yH (hI.step HL.out yZ (k:=15) (by intro q hq;simp only[yI,yJ,or_false]at hq;rcases hq with rfl|rfl <;> first|exact(show(1:Nat)≠15 by decide)|exact(show(9:Nat)≠15 by decide)));clear hI hC hW hD;go_wp2_with fail;all_goals first|exact HS|exact⟨rfl,HS⟩|rfl
  intro s D w' hD hW hC hI;refine .inl ⟨s,fun _ _ _=>rfl,?_⟩;with_reducible refine yO rfl ?_
  have HS:=yH (hI.step HL.out yZ (k:=16) (by intro q hq;simp only[yI,yJ,or_false]at hq;rcases hq with rfl|rfl <;> first|exact(show(1:Nat)≠16 by decide)|exact(show(9:Nat)≠16 by decide)));clear hI hC hW hD;go_wp2_with fail;all_goals first|exact HS|exact⟨rfl,HS⟩|rfl
 intro s D w2 hall hI;have B2:=yH hI.below;clear hI hall;dsimp only;go_wp2_with fail;go_ret;exact⟨rfl,B2.out⟩
end Go.Proofs.YtaeocliklpcgmaaGreat
