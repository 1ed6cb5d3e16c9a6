/- Pieces of one proof. -/
import Derived.Test.YtaeocliklpcgmaaGreatW15
import Derived.Shelf.SlSortCmp.NoneTotal
import Derived.Shelf.SlMaps.Clone
import Derived.Deep.MidRow
import Derived.Laws.AppendOwnNone
import Derived.Deep.RegionWith
set_option linter.all false
set_option maxHeartbeats 64000000
set_option maxRecDepth 100000
namespace Go.Proofs.YtaeocliklpcgmaaGreat
open Go.RowKit Go.Shelf
def sortL_ren:Go.Shelf.Ren:=⟨fun|6=>60|15=>120|14=>119|28=>169|29=>170|20=>161|21=>162|22=>163|23=>164|24=>165|25=>166|26=>167|27=>168|46=>198|47=>199|48=>200|49=>201|50=>202|57=>219|n=>n,fun|22=>68|24=>115|25=>123|3=>3|39=>133|0=>0|53=>233|55=>39|4=>4|46=>226|45=>225|50=>230|5=>5|9=>9|66=>257|70=>260|76=>288|77=>289|n=>n,fun|n=>n⟩
theorem sortL:Go.Proofs.SlLaysF0.n6 Tryz.prog sortL_ren:={
 mixed:=by kernel_rfl
 f6:=⟨Tryz.f60.name,by decide,Tryz.func60.trans (congrArg some (by kernel_rfl))⟩
 f14:=⟨Tryz.f119.name,by decide,Tryz.func119.trans (congrArg some (by kernel_rfl))⟩
 f15:=Tryz.func120.trans (congrArg some (by kernel_rfl))
 f20:=⟨Tryz.f161.name,by decide,Tryz.func161.trans (congrArg some (by kernel_rfl))⟩
 f21:=⟨Tryz.f162.name,by decide,Tryz.func162.trans (congrArg some (by kernel_rfl))⟩
 f22:=⟨Tryz.f163.name,by decide,Tryz.func163.trans (congrArg some (by kernel_rfl))⟩
 f23:=⟨Tryz.f164.name,by decide,Tryz.func164.trans (congrArg some (by kernel_rfl))⟩
 f24:=⟨Tryz.f165.name,by decide,Tryz.func165.trans (congrArg some (by kernel_rfl))⟩
 f25:=⟨Tryz.f166.name,by decide,Tryz.func166.trans (congrArg some (by kernel_rfl))⟩
 f26:=⟨Tryz.f167.name,by decide,Tryz.func167.trans (congrArg some (by kernel_rfl))⟩
 f27:=⟨Tryz.f168.name,by decide,Tryz.func168.trans (congrArg some (by kernel_rfl))⟩
 f28:=Tryz.func169.trans (congrArg some (by kernel_rfl))
 f29:=Tryz.func170.trans (congrArg some (by kernel_rfl))
 f46:=⟨Tryz.f198.name,by decide,Tryz.func198.trans (congrArg some (by kernel_rfl))⟩
 f47:=Tryz.func199.trans (congrArg some (by kernel_rfl))
 f48:=Tryz.func200.trans (congrArg some (by kernel_rfl))
 f49:=⟨Tryz.f201.name,by decide,Tryz.func201.trans (congrArg some (by kernel_rfl))⟩
 f50:=⟨Tryz.f202.name,by decide,Tryz.func202.trans (congrArg some (by kernel_rfl))⟩
 f57:=⟨Tryz.f219.name,by decide,Tryz.func219.trans (congrArg some (by kernel_rfl))⟩
 t0:=Tryz.underlying0
 a0:=Tryz.isAgg0
 z0:=Tryz.sizeOf0
 v0:=Tryz.zeroValue0
 t3:=Tryz.underlying3
 a3:=Tryz.isAgg3
 z3:=Tryz.sizeOf3
 v3:=Tryz.zeroValue3
 t4:=Tryz.underlying4
 a4:=Tryz.isAgg4
 z4:=Tryz.sizeOf4
 v4:=Tryz.zeroValue4
 t5:=Tryz.underlying5
 a5:=Tryz.isAgg5
 z5:=Tryz.sizeOf5
 v5:=Tryz.zeroValue5
 t9:=Tryz.underlying9
 a9:=Tryz.isAgg9
 z9:=Tryz.sizeOf9
 v9:=Tryz.zeroValue9
 t22:=Tryz.underlying68
 a22:=Tryz.isAgg68
 z22:=Tryz.sizeOf68
 v22:=Tryz.zeroValue68
 t25:=Tryz.underlying123
 a25:=Tryz.isAgg123
 z25:=Tryz.sizeOf123
 v25:=Tryz.zeroValue123
 t39:=Tryz.underlying133
 a39:=Tryz.isAgg133
 z39:=Tryz.sizeOf133
 v39:=Tryz.zeroValue133
 t45:=Tryz.underlying225
 a45:=Tryz.isAgg225
 z45:=Tryz.sizeOf225
 v45:=Tryz.zeroValue225
 t46:=Tryz.underlying226
 a46:=Tryz.isAgg226
 z46:=Tryz.sizeOf226
 v46:=Tryz.zeroValue226
 t50:=Tryz.underlying230
 a50:=Tryz.isAgg230
 z50:=Tryz.sizeOf230
 v50:=Tryz.zeroValue230
 t53:=Tryz.underlying233
 a53:=Tryz.isAgg233
 z53:=Tryz.sizeOf233
 v53:=Tryz.zeroValue233
 t55:=Tryz.underlying39
 a55:=Tryz.isAgg39
 z55:=Tryz.sizeOf39
 v55:=Tryz.zeroValue39
 t66:=Tryz.underlying257
 a66:=Tryz.isAgg257
 z66:=Tryz.sizeOf257
 v66:=Tryz.zeroValue257
 t70:=Tryz.underlying260
 a70:=Tryz.isAgg260
 z70:=Tryz.sizeOf260
 v70:=Tryz.zeroValue260
 t76:=Tryz.underlying288
 a76:=Tryz.isAgg288
 z76:=Tryz.sizeOf288
 v76:=Tryz.zeroValue288
 t77:=Tryz.underlying289
 a77:=Tryz.isAgg289
 z77:=Tryz.sizeOf289
 v77:=Tryz.zeroValue289 }
end Go.Proofs.YtaeocliklpcgmaaGreat
namespace Go.Proofs.YtaeocliklpcgmaaGreat
open Go.RowKit
end Go.Proofs.YtaeocliklpcgmaaGreat
namespace Go.Proofs.YtaeocliklpcgmaaGreat
open Go.RowKit Go.Shelf Go.Sort Go.Lib
instance:Inhabited Ln:=⟨noLn⟩
def cmp3(x y:Int):Int:=if x<y then -1 else if y<x then 1 else 0
def or3(p q r:Int):Int:=if p=0 then(if q=0 then r else q)else p
def ordL(x y:Ln):Int:=or3 (cmp3 x.cu y.cu) (cmp3 x.cr y.cr) (cmp3 x.de y.de)
theorem aLa(x y:Ln):ordL x y<0↔(x.cu<y.cu∨(x.cu=y.cu∧(x.cr<y.cr∨(x.cr=y.cr∧x.de<y.de)))):=by
 unfold ordL or3 cmp3
 (repeat' split) <;> omega
theorem ordL_rank{x y:Ln}(hx:x.Fits)(hy:y.Fits):ordL x y<0↔x.rank<y.rank:=by
 rw[aLa];obtain⟨⟨a1,a2⟩,⟨b1,b2⟩,⟨c1,c2⟩,_,_⟩:=hx;obtain⟨⟨d1,d2⟩,⟨e1,e2⟩,⟨f1,f2⟩,_,_⟩:=hy;unfold Ln.rank;omega
theorem swoL:SWO (ltOf ordL) where
 irrefl x:=by unfold ltOf;rw[decide_eq_false_iff_not,aLa];omega
 trans x y z h1 h2:=by
  unfold ltOf at *;rw[decide_eq_true_eq,aLa]at *;omega
 ntrans x y z h1 h2:=by
  unfold ltOf at *;rw[decide_eq_false_iff_not,aLa]at *;omega
theorem aKi(ls:List Ln){j:Nat}(h:j<ls.length*5):(flatK Ln.vals 5 ls.toArray)[j]! = (aAh ls)[j]'(by rw[aBm];exact h):=by
 rw[get_flatK _ _ _ j (by simpa using h)];have h1:j/5<ls.length:=by omega
 have h2:j%5<5:=Nat.mod_lt _ (by omega);have h3:=aAt ls (j/5) (j%5) h2 h1;rw[show j/5*5+j%5=j by omega]at h3;rw[List.getElem?_eq_getElem (by rw[aBm];exact h)]at h3;have h4:(ls.toArray)[j/5]! = ls[j/5]:=by simp[h1]
 rw[h4,List.getElem!_eq_getElem?_getD,←h3];rfl
theorem aOk{w:World}{g:Nat}{cur:Array Value}{e:TypeId}{ls:List Ln}(hb:w.heap[g]? = some (.cells cur e (0,0)))(ht:cur.toList.take (ls.length*5)=aAh ls):HoldsK Ln.vals 5 w g 0 ls.toArray:=by
 intro j hj;have hj':j<ls.length*5:=by simpa using hj
 refine⟨?_,by simp[World.frozen?,hb]⟩;rw[aKi ls hj'];have h1:(cur.toList.take (ls.length*5))[j]? = (aAh ls)[j]? := by rw[ht]
 rw[List.getElem?_take_of_lt hj']at h1;simp only[World.cell?,hb,Nat.zero_add];simp only[Option.isSome_none,Bool.false_eq_true,if_false];rw[←Array.getElem?_toList,h1,List.getElem?_eq_getElem (by rw[aBm];exact hj')];rfl
theorem heap_lines{w:World}{g n:Nat}{os:Array Obj}{cur:Array Value}{e:TypeId}(d:Array Ln)(hb:w.heap[g]? = some (.cells cur e (0,0))):
  (sortWorldK Ln.vals 5 w g 0 n d os).heap[g]? = some (.cells (putCells id 0 (flatK Ln.vals 5 d) cur) e (0,0)):=by
 have hg:g<w.heap.size:=(Array.getElem?_eq_some_iff.1 hb).1;unfold sortWorldK putRowK;rw[heap_grow_old _ _ (by simpa using hg)];simp[putRow,mapBlock,Go.Sort.ahead,Array.getElem?_modify,hb,onCells]
theorem keep_lines{w:World}{g n:Nat}{os:Array Obj}(d:Array Ln):Keep (·=g) w (sortWorldK Ln.vals 5 w g 0 n d os):=by
 refine⟨rfl,rfl,rfl,by simp[sortWorldK,putRowK],fun k hk hne=>?_⟩;unfold sortWorldK putRowK;rw[heap_grow_old _ _ (by simpa using hk)];have:g≠k:=fun e=>hne e.symm
 simp[putRow,mapBlock,Go.Sort.ahead,Array.getElem?_modify,this]
theorem take_lines(cur:Array Value)(ls:List Ln)(h:ls.length*5≤cur.size):(putCells id 0 (flatK Ln.vals 5 ls.toArray) cur).toList.take (ls.length*5)=aAh ls:=by
 apply List.ext_getElem?;intro j
 by_cases hj:j<ls.length*5
 ·have hf:=aKi ls hj;rw[List.getElem?_take_of_lt hj,Array.getElem?_toList,List.getElem?_eq_getElem (by rw[aBm];exact hj),←hf];simp[putCells,hj,show j<cur.size by omega]
 rw[List.getElem?_take_eq_none (by omega),List.getElem?_eq_none (by rw[aBm];omega)]
theorem sorted_is{done ls:List Ln}(hI:Inv ls)(hp:done.Perm ls)(d:Array Ln)(h1:PermIn 0 done.toArray.size done.toArray d)(h2:SortedIn (ltOf ordL) 0 done.toArray.size d):d.toList=ls:=by
 obtain⟨hs,_,hperm⟩:=h1
 have hpd:d.toList.Perm done:=by
  have e1:d.extract 0 done.toArray.size=d:=by rw[←hs,Array.extract_size]
  rw[e1,Array.extract_size]at hperm;simpa using hperm
 have hpl:=hpd.trans hp;have hne:d.toList.Pairwise fun x y=>x.rank≠y.rank:=(hpl.symm.pairwise_iff (fun{a b} (h:a.rank≠b.rank)=>h.symm)).1 (hI.sorted.imp fun h=>by omega)
 refine aEb _ _ ?_ hI.sorted fun x=>hpl.mem_iff
 rw[List.pairwise_iff_getElem]at hne ⊢;intro i j hi hj hij;have hn:=hne i j hi hj hij;have hi':i<d.size:=by simpa using hi
 have hj':j<d.size:=by simpa using hj
 have hso:=h2 i j (Nat.zero_le _) hij (by rw[←hs];exact hj');rw[getElem!_pos d i hi',getElem!_pos d j hj']at hso;unfold ltOf at hso;rw[decide_eq_false_iff_not,ordL_rank (hI.good _ (hpl.mem_iff.1 (by simp))).fits (hI.good _ (hpl.mem_iff.1 (by simp))).fits]at hso;simp only[Array.getElem_toList]at hn ⊢;omega
theorem isnan_p(x:Int)(w:World):
  Calls Tryz.prog 172 #[.int .u8 x] w (yV w (.bool false)):=by
 have hx:(x==x)=true:=by simp
 go_enter Tryz.func172,Tryz.ntmps172;go_wp2;go_ret;exact⟨rfl,rfl⟩
theorem isnan_c(x:Int)(w:World):
  Calls Tryz.prog 171 #[.int .u8 x] w (yV w (.bool false)):=by
 have hx:(x==x)=true:=by simp
 go_enter Tryz.func171,Tryz.ntmps171;go_wp2;go_ret;exact⟨rfl,rfl⟩
theorem aMp(x y:Int)(w:World):
  Calls Tryz.prog 122 #[.int .u8 x,.int .u8 y] w (yV w (.int .i64 (cmp3 x y))):=by
 have c1:=yH (fun w=>isnan_p x w);have c2:=yH (fun w=>isnan_p y w);rcases Int.lt_trichotomy x y with h|h|h
 ·rw[show cmp3 x y = -1 by unfold cmp3;rw[if_pos h]];go_enter Tryz.func122,Tryz.ntmps122;go_wp2_with fail;refine(c1.out _).mono ?_;rintro e w1 ⟨rfl,rfl⟩;go_wp2_with fail;refine(c2.out _).mono ?_;rintro e w1 ⟨rfl,rfl⟩;go_wp2_with fail;go_ret;exact⟨rfl,rfl⟩
 ·rw[show cmp3 x y=0 by unfold cmp3;rw[if_neg (by omega),if_neg (by omega)]];subst h;go_enter Tryz.func122,Tryz.ntmps122;go_wp2_with fail;refine(c1.out _).mono ?_;rintro e w1 ⟨rfl,rfl⟩;go_wp2_with fail;refine(c2.out _).mono ?_;rintro e w1 ⟨rfl,rfl⟩;go_wp2_with fail;go_ret;exact⟨rfl,rfl⟩
 rw[show cmp3 x y=1 by unfold cmp3;rw[if_neg (by omega),if_pos h]];have h2:¬x<y:=by omega
 go_enter Tryz.func122,Tryz.ntmps122;go_wp2_with fail;refine(c1.out _).mono ?_;rintro e w1 ⟨rfl,rfl⟩;go_wp2_with fail;refine(c2.out _).mono ?_;rintro e w1 ⟨rfl,rfl⟩;go_wp2_with fail;go_ret;exact⟨rfl,rfl⟩
theorem compare_c(x y:Int)(w:World):
  Calls Tryz.prog 121 #[.int .u8 x,.int .u8 y] w (yV w (.int .i64 (cmp3 x y))):=by
 have c1:=yH (fun w=>isnan_c x w);have c2:=yH (fun w=>isnan_c y w);rcases Int.lt_trichotomy x y with h|h|h
 ·rw[show cmp3 x y = -1 by unfold cmp3;rw[if_pos h]];go_enter Tryz.func121,Tryz.ntmps121;go_wp2_with fail;refine(c1.out _).mono ?_;rintro e w1 ⟨rfl,rfl⟩;go_wp2_with fail;refine(c2.out _).mono ?_;rintro e w1 ⟨rfl,rfl⟩;go_wp2_with fail;go_ret;exact⟨rfl,rfl⟩
 ·rw[show cmp3 x y=0 by unfold cmp3;rw[if_neg (by omega),if_neg (by omega)]];subst h;go_enter Tryz.func121,Tryz.ntmps121;go_wp2_with fail;refine(c1.out _).mono ?_;rintro e w1 ⟨rfl,rfl⟩;go_wp2_with fail;refine(c2.out _).mono ?_;rintro e w1 ⟨rfl,rfl⟩;go_wp2_with fail;go_ret;exact⟨rfl,rfl⟩
 rw[show cmp3 x y=1 by unfold cmp3;rw[if_neg (by omega),if_pos h]];have h2:¬x<y:=by omega
 go_enter Tryz.func121,Tryz.ntmps121;go_wp2_with fail;refine(c1.out _).mono ?_;rintro e w1 ⟨rfl,rfl⟩;go_wp2_with fail;refine(c2.out _).mono ?_;rintro e w1 ⟨rfl,rfl⟩;go_wp2_with fail;go_ret;exact⟨rfl,rfl⟩
theorem or_three(b cap:Nat)(p q r:Int)(w:World)(hlt:b<w.heap.size)(h0:w.cell? ⟨b,0,none⟩=some (.int .i64 p))(h1:w.cell? ⟨b,1,none⟩=some (.int .i64 q))(h2:w.cell? ⟨b,2,none⟩=some (.int .i64 r)):
  Calls Tryz.prog 68 #[.slice (some ⟨b,0,none⟩) 3 cap] w (yV w (.int .i64 (or3 p q r))):=by
 unfold or3
 by_cases hp:p=0
 ·rw[if_pos hp];subst hp
  by_cases hq:q=0
  ·rw[if_pos hq];subst hq
   by_cases hr:r=0
   ·subst hr;go_enter Tryz.func68,Tryz.ntmps68;go_wp2;refine wp_loop_rounds 4 ?_;rw[rounds_succ];go_wp2;rw[rounds_succ];go_wp2;rw[rounds_succ];go_wp2;rw[rounds_succ];go_wp2;go_ret;exact⟨rfl,rfl⟩
   have hb:(r==0)=false:=by simp[hr]
   go_enter Tryz.func68,Tryz.ntmps68;go_wp2;refine wp_loop_rounds 3 ?_;rw[rounds_succ];go_wp2;rw[rounds_succ];go_wp2;rw[rounds_succ];go_wp2;go_ret;exact⟨rfl,rfl⟩
  rw[if_neg hq];have hb:(q==0)=false:=by simp[hq]
  go_enter Tryz.func68,Tryz.ntmps68;go_wp2;refine wp_loop_rounds 2 ?_;rw[rounds_succ];go_wp2;rw[rounds_succ];go_wp2;go_ret;exact⟨rfl,rfl⟩
 rw[if_neg hp];have hb:(p==0)=false:=by simp[hp]
 go_enter Tryz.func68,Tryz.ntmps68;go_wp2;refine wp_loop_rounds 1 ?_;rw[rounds_succ];go_wp2;go_ret;exact⟨rfl,rfl⟩
end Go.Proofs.YtaeocliklpcgmaaGreat
namespace Go.Proofs.YtaeocliklpcgmaaGreat
open Go.RowKit
open Go.Shelf Go.Lib
open Go.Sort (grow flatK putCells HoldsK PermIn SortedIn SWO)
def aLb(W:World)(o:Obj)(D:Nat→Bool)(w:World):Prop:=∃q,w=if D 15 then(W.drewN q).alloc o else W.drewN q
theorem aLb.step{W w:World}{o:Obj}{D:Nat→Bool}{k:Nat}(h:aLb W o D w)(hk:k≠15):aLb W o (ins k D) w:=by
 obtain⟨q,hq⟩:=h;refine⟨q,?_⟩;rw[aCc D (Ne.symm hk)];exact hq
theorem aLb.below{W w:World}{o:Obj}{D:Nat→Bool}(h:aLb W o D w):Below W.heap.size W w:=by
 obtain⟨q,hq⟩:=h;subst hq;split
 ·exact(⟨rfl,rfl,rfl,Nat.le_refl _,fun _ _=>rfl⟩:Below W.heap.size W (W.drewN q)).alloc yL _
 exact⟨rfl,rfl,rfl,Nat.le_refl _,fun _ _=>rfl⟩
theorem grow_three(w:World)(a b c:Obj)(q:Nat):∃q' os',(((w.alloc a).alloc b).drewN q).alloc c=grow (w.drewN q') os':=by
 refine⟨q,#[a,b,c],?_⟩;unfold grow World.alloc World.drewN;simp only[World.mk.injEq,and_true];apply Array.ext';simp
theorem order_any(x y:Ln)(w:World):Calls Tryz.prog 61 #[.agg #[.int .u8 x.cr,.int .u8 x.de,.int .u8 x.cu,.int .i64 x.li,.int .i64 x.db],.agg #[.int .u8 y.cr,.int .u8 y.de,.int .u8 y.cu,.int .i64 y.li,.int .i64 y.db]] w fun e w'=>e=.returned (.int .i64 (ordL x y))∧∃q os',w'=grow (w.drewN q) os':=by
 unfold ordL;have c1:=yH (fun w=>compare_c x.cu y.cu w);have c2:=yH (fun w=>aMp x.cr y.cr w);have c3:=yH (fun w=>aMp x.de y.de w);generalize cmp3 x.cu y.cu=p at *;generalize cmp3 x.cr y.cr=q at *;generalize cmp3 x.de y.de=r at *;go_enter Tryz.func61,Tryz.ntmps61;go_wp2_with fail;have hW:((w.alloc (.cells #[.int .u8 x.cr,.int .u8 x.de,.int .u8 x.cu,.int .i64 x.li,.int .i64 x.db] 115)).alloc (.cells #[.int .u8 y.cr,.int .u8 y.de,.int .u8 y.cu,.int .i64 y.li,.int .i64 y.db] 115)).heap.size=w.heap.size+2:=by simp
 have KX:=yH ((pAA w #[.int .u8 x.cr,.int .u8 x.de,.int .u8 x.cu,.int .i64 x.li,.int .i64 x.db] 115).alloc (.cells #[.int .u8 y.cr,.int .u8 y.de,.int .u8 y.cu,.int .i64 y.li,.int .i64 y.db] 115));have KY:=yH (pAC (w.alloc (.cells #[.int .u8 x.cr,.int .u8 x.de,.int .u8 x.cu,.int .i64 x.li,.int .i64 x.db] 115)) #[.int .u8 y.cr,.int .u8 y.de,.int .u8 y.cu,.int .i64 y.li,.int .i64 y.db] 115 (g:=w.heap.size+1) (by simp));have HW:=yH hW;have HG:=yH (fun c q=>grow_three w (.cells #[.int .u8 x.cr,.int .u8 x.de,.int .u8 x.cu,.int .i64 x.li,.int .i64 x.db] 115) (.cells #[.int .u8 y.cr,.int .u8 y.de,.int .u8 y.cu,.int .i64 y.li,.int .i64 y.db] 115) c q);generalize ((w.alloc (.cells #[.int .u8 x.cr,.int .u8 x.de,.int .u8 x.cu,.int .i64 x.li,.int .i64 x.db] 115)).alloc (.cells #[.int .u8 y.cr,.int .u8 y.de,.int .u8 y.cu,.int .i64 y.li,.int .i64 y.db] 115))=W at KX KY HW HG ⊢;clear hW
 refine aJ1 (by kernel_rfl) [(.pointer (some ⟨w.heap.size,2,none⟩)),(.int .u8 x.cu),(.pointer (some ⟨w.heap.size+1,2,none⟩)),(.int .u8 y.cu),(.int .i64 p),(.pointer (some ⟨w.heap.size,0,none⟩)),(.int .u8 x.cr),(.pointer (some ⟨w.heap.size+1,0,none⟩)),(.int .u8 y.cr),(.int .i64 q),(.pointer (some ⟨w.heap.size,1,none⟩)),(.int .u8 x.de),(.pointer (some ⟨w.heap.size+1,1,none⟩)),(.int .u8 y.de),(.int .i64 r),(.slice (some ⟨w.heap.size+2,0,none⟩) 3 3),(.int .i64 (or3 p q r)),(.int .i64 (or3 p q r))]
  (aLb W (.cells #[.int .i64 p,.int .i64 q,.int .i64 r] 3)) (by kernel_rfl) ⟨1,rfl⟩ ?_
 intro af haf;simp only[puts,Act.put,yA,yC,yF,yD,yE]at haf;subst haf;refine⟨?_,?_⟩
 ·simp only[aIo];refine⟨?_,?_,?_,?_,?_,?_,?_,?_,?_,?_,?_,?_,?_,?_,?_,?_,?_,?_,trivial⟩
  ·intro D w' hD hWt hC hI;have hS:=hI.below;have HI:=yH (hI.step (k:=0) (by decide));clear hS hI hC hWt hD;refine yO rfl ?_;go_wp2_with fail;all_goals first|exact HI|exact⟨rfl,HI⟩|rfl
  ·intro D w' hD hWt hC hI;have hS:=hI.below;have HI:=yH (hI.step (k:=1) (by decide));have hl:=yM KX.out.lt hS.size;have kk:=KX.out.below hS KX.out.lt;have d0:=kk.cell 0;have d1:=kk.cell 1;have d2:=kk.cell 2;simp at d0 d1 d2;clear kk;clear hS hI hC hWt hD;refine yO rfl ?_;go_wp2_with fail;all_goals first|exact HI|exact⟨rfl,HI⟩|rfl
  ·intro D w' hD hWt hC hI;have hS:=hI.below;have HI:=yH (hI.step (k:=2) (by decide));clear hS hI hC hWt hD;refine yO rfl ?_;go_wp2_with fail;all_goals first|exact HI|exact⟨rfl,HI⟩|rfl
  ·intro D w' hD hWt hC hI;have hS:=hI.below;have HI:=yH (hI.step (k:=3) (by decide));have hl:=yM KY.out.lt hS.size;have kk:=KY.out.below hS KY.out.lt;have d0:=kk.cell 0;have d1:=kk.cell 1;have d2:=kk.cell 2;simp at d0 d1 d2;clear kk;clear hS hI hC hWt hD;refine yO rfl ?_;go_wp2_with fail;all_goals first|exact HI|exact⟨rfl,HI⟩|rfl
  ·intro D w' hD hWt hC hI;have hS:=hI.below;have HI:=yH (hI.step (k:=4) (by decide));clear hS hI hC hWt hD;refine yO rfl ?_;go_wp2_with fail;refine(c1.out w').mono ?_;rintro e w'' ⟨rfl,rfl⟩;exact⟨rfl,HI.out⟩
  ·intro D w' hD hWt hC hI;have hS:=hI.below;have HI:=yH (hI.step (k:=5) (by decide));clear hS hI hC hWt hD;refine yO rfl ?_;go_wp2_with fail;all_goals first|exact HI|exact⟨rfl,HI⟩|rfl
  ·intro D w' hD hWt hC hI;have hS:=hI.below;have HI:=yH (hI.step (k:=6) (by decide));have hl:=yM KX.out.lt hS.size;have kk:=KX.out.below hS KX.out.lt;have d0:=kk.cell 0;have d1:=kk.cell 1;have d2:=kk.cell 2;simp at d0 d1 d2;clear kk;clear hS hI hC hWt hD;refine yO rfl ?_;go_wp2_with fail;all_goals first|exact HI|exact⟨rfl,HI⟩|rfl
  ·intro D w' hD hWt hC hI;have hS:=hI.below;have HI:=yH (hI.step (k:=7) (by decide));clear hS hI hC hWt hD;refine yO rfl ?_;go_wp2_with fail;all_goals first|exact HI|exact⟨rfl,HI⟩|rfl
  ·intro D w' hD hWt hC hI;have hS:=hI.below;have HI:=yH (hI.step (k:=8) (by decide));have hl:=yM KY.out.lt hS.size;have kk:=KY.out.below hS KY.out.lt;have d0:=kk.cell 0;have d1:=kk.cell 1;have d2:=kk.cell 2;simp at d0 d1 d2;clear kk;clear hS hI hC hWt hD;refine yO rfl ?_;go_wp2_with fail;all_goals first|exact HI|exact⟨rfl,HI⟩|rfl
  ·intro D w' hD hWt hC hI;have hS:=hI.below;have HI:=yH (hI.step (k:=9) (by decide));clear hS hI hC hWt hD;refine yO rfl ?_;go_wp2_with fail;refine(c2.out w').mono ?_;rintro e w'' ⟨rfl,rfl⟩;exact⟨rfl,HI.out⟩
  ·intro D w' hD hWt hC hI;have hS:=hI.below;have HI:=yH (hI.step (k:=10) (by decide));clear hS hI hC hWt hD;refine yO rfl ?_;go_wp2_with fail;all_goals first|exact HI|exact⟨rfl,HI⟩|rfl
  ·intro D w' hD hWt hC hI;have hS:=hI.below;have HI:=yH (hI.step (k:=11) (by decide));have hl:=yM KX.out.lt hS.size;have kk:=KX.out.below hS KX.out.lt;have d0:=kk.cell 0;have d1:=kk.cell 1;have d2:=kk.cell 2;simp at d0 d1 d2;clear kk;clear hS hI hC hWt hD;refine yO rfl ?_;go_wp2_with fail;all_goals first|exact HI|exact⟨rfl,HI⟩|rfl
  ·intro D w' hD hWt hC hI;have hS:=hI.below;have HI:=yH (hI.step (k:=12) (by decide));clear hS hI hC hWt hD;refine yO rfl ?_;go_wp2_with fail;all_goals first|exact HI|exact⟨rfl,HI⟩|rfl
  ·intro D w' hD hWt hC hI;have hS:=hI.below;have HI:=yH (hI.step (k:=13) (by decide));have hl:=yM KY.out.lt hS.size;have kk:=KY.out.below hS KY.out.lt;have d0:=kk.cell 0;have d1:=kk.cell 1;have d2:=kk.cell 2;simp at d0 d1 d2;clear kk;clear hS hI hC hWt hD;refine yO rfl ?_;go_wp2_with fail;all_goals first|exact HI|exact⟨rfl,HI⟩|rfl
  ·intro D w' hD hWt hC hI;have hS:=hI.below;have HI:=yH (hI.step (k:=14) (by decide));clear hS hI hC hWt hD;refine yO rfl ?_;go_wp2_with fail;refine(c3.out w').mono ?_;rintro e w'' ⟨rfl,rfl⟩;exact⟨rfl,HI.out⟩
  ·intro D w' hD hWt hC hI;obtain⟨t,ht⟩:=hI;rw[hD]at ht;have hz:w'.heap.size=w.heap.size+2:=by rw[ht,←HW.out];rfl
   have HI:=yH (show aLb W (.cells #[.int .i64 p,.int .i64 q,.int .i64 r] 3) (ins 15 D) (w'.alloc (.cells #[.int .i64 p,.int .i64 q,.int .i64 r] 3))from⟨t,by rw[aGp,if_pos rfl,ht];rfl⟩);clear ht hC hWt hD;refine yO rfl ?_;go_wp2_with fail;all_goals first|exact HI|exact⟨rfl,HI⟩|exact⟨by rw[hz],HI.out⟩
  ·intro D w' hD hWt hC hI;have h15:D 15=true:=aA0 hC hWt (d:=12) (by kernel_rfl);obtain⟨t,ht⟩:=hI;have KB:Blk w' (w.heap.size+2) #[.int .i64 p,.int .i64 q,.int .i64 r] 3:=by rw[ht,h15,if_pos rfl];exact pAC _ _ _ (by show _=W.heap.size;rw[HW.out])
   have HI:=yH (aLb.step (k:=16) (show aLb W (.cells #[.int .i64 p,.int .i64 q,.int .i64 r] 3) D w' from⟨t,ht⟩) (by decide));have HO:=yH (or_three (w.heap.size+2) 3 p q r w' KB.lt (KB.cell 0) (KB.cell 1) (KB.cell 2));clear ht KB hC hWt hD h15;refine yO rfl ?_;go_wp2_with fail;refine HO.out.mono ?_;rintro e w'' ⟨rfl,rfl⟩;exact⟨rfl,HI.out⟩
  intro D w' hD hWt hC hI;have hS:=hI.below;have HI:=yH (hI.step (k:=17) (by decide));clear hS hI hC hWt hD;refine yO rfl ?_;go_wp2_with fail;all_goals first|exact HI|exact⟨rfl,HI⟩|rfl
 intro D w2 hall hI;obtain⟨t,ht⟩:=hI;rw[hall 15 (by decide),if_pos rfl]at ht;have HE:=yH (show ∃q os',w2=grow (w.drewN q) os' from by rw[ht];exact HG.out _ t);clear ht hall;go_wp2_with fail;go_ret;exact⟨rfl,HE.out⟩
theorem sortL_any{w:World}{base:Nat}{v:Value}{done ls:List Ln}(hI:Inv ls)(hp:done.Perm ls)(hl:ls.length≤64)(h:w.ownsRow base 115 5 v done.length (aAh done)):
  Calls Tryz.prog 60 #[v,.func (.func 61) #[] #[]] w fun e w'=>e=.returned (.tuple #[])∧w'.ownsRow base 115 5 v ls.length (aAh ls)∧Keep (fun b=>v.ownBlock=some b) w w':=by
 have hlen:=hp.length_eq;rcases h.2 with⟨rfl,h0⟩|⟨g,cap,cur,rfl,hbase,hb,h1,h2,h3,h4⟩
 ·rw[h0]at hlen;have:ls=[]:=List.eq_nil_of_length_eq_zero hlen.symm;subst this;refine(AnyF.slices_SortFunc_none { sortL with } none 0 (.func (.func 61) #[] #[]) w).mono ?_;rintro e w' ⟨rfl,rfl⟩;exact⟨rfl,World.ownsRow_nil _ _ _ _,Keep.refl _ _⟩
 have hg:g<w.heap.size:=(Array.getElem?_eq_some_iff.1 hb).1;have eg:∀args w,(callFunc 61 args).run Tryz.prog w=.ok (.enter 61 args) w:=enters_of Tryz.func61 (by kernel_rfl) rfl;have hcmp:CmpLays Tryz.prog 61 #[] Ln.vals 5 ordL g 0 done.toArray.size w:=fun m os dk _ x y=>order_any x y _
 have hc:=AnyQ.slices_SortFunc (P:=Tryz.prog) sortL 5 Tryz.isAgg115 Tryz.sizeOf115 Ln.vals (fun _=>rfl) (fun x u hu=>by simp[Ln.vals]at hu;rcases hu with rfl|rfl|rfl|rfl|rfl <;> rfl) ordL swoL 61 #[] g 0 cap done.toArray w eg hcmp (aOk hb h4) hg (by simp;omega);have hsz:done.toArray.size=done.length:=by simp
 rw[hsz]at hc;refine Calls.mono hc ?_;rintro e w' ⟨rfl,d,n,os,hp1,hs1,rfl⟩;have hd:=sorted_is hI hp d (by rw[hsz];exact hp1) (by rw[hsz];exact hs1);have hda:d=ls.toArray:=by rw[←hd]
 subst hda;refine⟨rfl,⟨aBm ls,.inr ⟨g,cap,_,by rw[hlen],hbase,heap_lines _ hb,by omega,h2,by simp[putCells,h3],take_lines cur ls (by omega)⟩⟩,(keep_lines _).mono fun k _ hk=>by rw[hk];rfl⟩
end Go.Proofs.YtaeocliklpcgmaaGreat
namespace Go.Proofs.YtaeocliklpcgmaaGreat
open Go.RowKit
theorem clipL_any{w:World}{base:Nat}{v:Value}{n:Nat}{xs:List Value}(h:w.ownsRow base 115 5 v n xs):
  Calls Tryz.prog 62 #[v] w (aGq w base 115 5 n v xs):=by
 rcases h.2 with⟨rfl,h0⟩|⟨g,cap,cur,rfl,hbase,hb,h1,h2,h3,h4⟩
 ·subst h0;have hr:=aBa (P:=Tryz.prog) w 68 115 5 Tryz.underlying68 (Tryz.sizeOf115 w);have hx:=h.1;have hx2:=yH hx;clear h hx;go_enter Tryz.func62,Tryz.ntmps62;go_wp2;refine bodyPost_ret (v:=.slice none 0 0) (by simp[results,Tryz.results62,go_sem]) rfl ?_;exact⟨_,rfl,⟨hx2.out,.inl ⟨rfl,rfl⟩⟩,rfl,rfl⟩
 have hr:=aB5 (P:=Tryz.prog) w 68 115 5 Tryz.underlying68 (Tryz.sizeOf115 w) g n cap h1;have HR:=yH (show aBb w base 115 5 (.slice (some ⟨g,0,none⟩) n n) n xs from⟨h.1,.inr ⟨g,cur,rfl,hbase,hb,by omega,by omega,h4⟩⟩);clear h hb h4 h3;unfold maxLen at h2;go_enter Tryz.func62,Tryz.ntmps62;go_wp2;refine bodyPost_ret (v:=.slice (some ⟨g,0,none⟩) n n) (by simp[results,Tryz.results62,go_sem]) rfl ?_;exact⟨_,rfl,HR.out,rfl,rfl⟩
def LinesAt(w:World)(M:Nat)(ls:List Ln)(s:Value)(wr:World):Prop:=
 ∃done,aBc wr M w.heap.size ls done∧wr.ownsRow (w.heap.size+1) 115 5 s done.length (aAh done)∧Below w.heap.size w wr
theorem aDh{w:World}{G M:Nat}{ps:List Int}{ls:List Ln}(h:LedM w G M ps ls)(hI:LInv ps ls):
  Calls Tryz.prog 19 #[.pointer (some ⟨G,0,none⟩)] w (aFq w 115 5 ls.length (aAh ls)):=by
 have C1:=yH (aK3 h.blk);have HM:=yH h.map;have HI:=yH hI;clear h hI;go_enter Tryz.func19,Tryz.ntmps19;go_wp2_with fail;refine C1.out.mono ?_;rintro e w ⟨rfl,rfl⟩;have hMlt:=HM.out.lt;go_wp2_with (first|(at_range;refine aD3 rfl _ rfl M ls rfl HM.out ?_;intro w0 hr0 hb0)|go_in)
 go_frame
 go_loopw [3] (LinesAt w M ls) (fun _ wr=>leftN wr M w.heap.size)
 case atStart=>exact⟨[],hr0,World.ownsRow_nil _ _ _ _,hb0⟩
 obtain⟨done,hR,hown,hB⟩:=hrel;have hlen:=hR.len;have hleft:=hR.left;have hl64:=HI.out.len;have HR:=yH hR;have HB:=yH hB;have HO:=yH hown;clear hR hB hown;go_wp2_with (first|(at_next;refine aEe rfl _ rfl M w.heap.size ls done rfl HR.out ?_ ?_)|go_in)
 ·intro hd;have CS:=yH (sortL_any HI.out.inv hd HI.out.len HO.out);clear hd;go_wp2_with fail;refine CS.out.mono ?_;rintro e w2 ⟨rfl,ho2,hk2⟩;have hB2:=yH (HB.out.trans (hk2.below HB.out.size (fun k hk he=>by have:=(aAi HO.out he).1;omega)));have CC:=yH (clipL_any ho2);clear ho2 hk2 CS;go_wp2_with fail;refine CC.out.mono ?_;rintro e w3 ⟨v',rfl,hrow,_,rfl⟩;have HRow:=yH hrow;clear hrow CC;go_wp2_with fail;refine bodyPost_ret (v:=v') (by simp[results,Tryz.results19,go_sem]) rfl ?_;exact⟨v',rfl,HRow.out.base (Nat.le_succ _),hB2.out⟩
 intro x w1 hx hR1 hT hen;have hb1:=HB.out.trans (hT.below yL);have hO1:=aBk HO.out hT.keep (fun b hb e=>by have:=(aAi HO.out hb).1;omega);have hb2:=((Below.refl w1.heap.size w1).alloc yL (.cells #[.int .u8 x.cr,.int .u8 x.de,.int .u8 x.cu] 118)).alloc (by simp) (.cells #[.int .i64 x.li,.int .i64 x.db] 120);have CP:=yH (fun w=>pline_any x w);have HR1:=yH hR1;have HB1:=yH hb1;have HO1:=yH hO1;have HB2:=yH hb2;clear hx hR1 hT hb1 hO1 hb2;go_wp2_with fail;refine(CP.out _).mono ?_;rintro e w3 ⟨rfl,hb3⟩;have HB3:=yT HB2 hb3;have HO3:=yH (aAq HO1.out HB3.out);have HR3:=yH (HR1.out.below HB3.out);have hz3:=yM HR1.out.lt HB3.out.size;clear hb3 hen;go_wp2_with (at_builtin;refine aGv _ rfl (.tmp 14) (.tmp 18) rfl (w.heap.size+1) _ done rfl (HO3.out.alloc _) _ _ x rfl (pAA _ _ _) (by omega) (by simp;omega) ?_);intro v4 w4 hown4 hgr4;have R2:∀k,Value.ownBlock _=some k→w.heap.size+1≤k:=fun k hk=>(aAi HO3.out hk).1
 have K4:=yH (((pAD (S:=fun b=>w.heap.size+1≤b) (Below.refl w3.heap.size w3)).alloc (.cells #[.int .u8 x.cr,.int .u8 x.de,.int .u8 x.cu,.int .i64 x.li,.int .i64 x.db] 115)).grown hgr4 (fun k hk=>.inl (R2 k hk)));have O4:=yH (show w4.ownsRow (w.heap.size+1) 115 5 v4 (done++[x]).length (aAh (done++[x])) by simpa using hown4);have HR4:=yH (HR3.out.keep K4.out (by omega) (by omega));have HB4:=yH ((HB1.out.trans (HB3.out.mono HB1.out.size)).trans (K4.out.below (B:=w.heap.size) (by omega) (fun k hk he=>by omega)));have hleft4:=HR4.out.left;rw[List.length_append,List.length_singleton]at hleft4;clear R2 hown4 hgr4 hz3;go_wp2_with fail;go_roundw
 case rel=>exact⟨done++[x],HR4.out,O4.out,HB4.out⟩
 case measure=>omega
theorem clone_any{w:World}{b:Nat}{es:Array MapEntry}{clock:Nat}(hb:w.heap[b]? = some (.map es clock)):
  Calls Tryz.prog 118 #[.map (some b)] w fun e w'=>e=.returned (.map (some w.heap.size))∧w'=w.alloc (.map es clock):=by
 have hq:=fun w=>Go.Proofs.run_eql_map_nil_sl (P:=Tryz.prog) w 58 _ _ (some b) Tryz.underlying58
 go_enter Tryz.func118,Tryz.ntmps118;go_wp2;rw[run_callFunc_extern Tryz.func160 (by kernel_rfl) (by kernel_rfl) (by kernel_rfl) (e:=Extern.MapsClone.clone) (by kernel_rfl),Go.Proofs.run_maps_clone_sl w 58 hb];simp only[Result.andThen];rw[Oper.upon_value];go_wp2;rw[Go.Proofs.run_typeAssert_map_sl _ 58 20 _ _ _ Tryz.underlying58];simp only[Result.andThen];rw[Oper.upon_value];go_wp2;go_ret;exact⟨rfl,rfl⟩
def parC(ps:List Int):List Value:=((ledC ps (.map none)).toList.take 17)
theorem aEr(ps:List Int):(parC ps).length=17:=by simp[parC,aFa]
theorem aLc(ps:List Int){j:Nat}(h:j<17):(parC ps)[j]? = some (.bool (decide ((j:Int)∈ps))):=by
 unfold parC;rw[List.getElem?_take_of_lt h,Array.getElem?_toList,aEo _ _ _ h]
theorem ledC_par(ps:List Int)(v:Value):(parC ps++[v]).toArray=ledC ps v:=by
 apply Array.ext_getElem?;intro j;rw[List.getElem?_toArray]
 by_cases h:j<17
 ·rw[List.getElem?_append_left (by rw[aEr];exact h),aLc _ h,aEo _ _ _ h]
 by_cases h2:j=17
 ·subst h2;rw[aIe,List.getElem?_append_right (by rw[aEr];omega),aEr];rfl
 rw[Array.getElem?_eq_none (by rw[aFa];omega),List.getElem?_eq_none (by simp[aEr];omega)]
theorem par_range{w:World}{g:Nat}{ps:List Int}{v:Value}{t:TypeId}(h:Blk w g (ledC ps v) t):w.rangeAt g 0 (parC ps):=by
 intro j u hu
 have hj:j<17:=by
  rcases Nat.lt_or_ge j 17 with h'|h'
  ·exact h'
  rw[List.getElem?_eq_none (by rw[aEr];exact h')]at hu;cases hu
 rw[Nat.zero_add,h.cell j,aEo _ _ _ hj,←aLc ps hj];exact hu
theorem par_form(ps:List Int):∃b0 b1 b2 b3 b4 b5 b6 b7 b8 b9 b10 b11 b12 b13 b14 b15 b16:Bool,parC ps=[Value.bool b0,Value.bool b1,Value.bool b2,Value.bool b3,Value.bool b4,Value.bool b5,Value.bool b6,Value.bool b7,Value.bool b8,Value.bool b9,Value.bool b10,Value.bool b11,Value.bool b12,Value.bool b13,Value.bool b14,Value.bool b15,Value.bool b16]:=by
 have h:=aEr ps;refine⟨decide ((0:Int)∈ps),decide ((1:Int)∈ps),decide ((2:Int)∈ps),decide ((3:Int)∈ps),decide ((4:Int)∈ps),decide ((5:Int)∈ps),decide ((6:Int)∈ps),decide ((7:Int)∈ps),decide ((8:Int)∈ps),decide ((9:Int)∈ps),decide ((10:Int)∈ps),decide ((11:Int)∈ps),decide ((12:Int)∈ps),decide ((13:Int)∈ps),decide ((14:Int)∈ps),decide ((15:Int)∈ps),decide ((16:Int)∈ps),?_⟩;apply List.ext_getElem?;intro j
 by_cases hj:j<17
 ·rw[aLc ps hj]
  match j,hj with
  | 0,_=>rfl
  | 1,_=>rfl
  | 2,_=>rfl
  | 3,_=>rfl
  | 4,_=>rfl
  | 5,_=>rfl
  | 6,_=>rfl
  | 7,_=>rfl
  | 8,_=>rfl
  | 9,_=>rfl
  | 10,_=>rfl
  | 11,_=>rfl
  | 12,_=>rfl
  | 13,_=>rfl
  | 14,_=>rfl
  | 15,_=>rfl
  | 16,_=>rfl
  | n+17,h=>omega
 rw[List.getElem?_eq_none (by omega),List.getElem?_eq_none (by simp;omega)]
theorem build_led(ps:List Int)(m:Nat)(w:World):(Instr.build 60 #[(0,.agg (parC ps).toArray),(1,.map (some m))]).run Tryz.prog w=.ok (.agg (ledC ps (.map (some m)))) w:=by
 rw[←ledC_par];obtain⟨b0,b1,b2,b3,b4,b5,b6,b7,b8,b9,b10,b11,b12,b13,b14,b15,b16,hb⟩:=par_form ps;rw[hb]
 have h:(Instr.build 60 #[(0,.agg [Value.bool b0,Value.bool b1,Value.bool b2,Value.bool b3,Value.bool b4,Value.bool b5,Value.bool b6,Value.bool b7,Value.bool b8,Value.bool b9,Value.bool b10,Value.bool b11,Value.bool b12,Value.bool b13,Value.bool b14,Value.bool b15,Value.bool b16].toArray),(1,.map (some m))]).run Tryz.prog=fun w=>.ok (.agg ([Value.bool b0,Value.bool b1,Value.bool b2,Value.bool b3,Value.bool b4,Value.bool b5,Value.bool b6,Value.bool b7,Value.bool b8,Value.bool b9,Value.bool b10,Value.bool b11,Value.bool b12,Value.bool b13,Value.bool b14,Value.bool b15,Value.bool b16]++[Value.map (some m)]).toArray) w:=by
  kernel_rfl
 rw[h]
def aJj(W:World)(o:Obj)(C:Array Value)(T:TypeId)(D:Nat→Bool)(w:World):Prop:=
 Below W.heap.size W w∧w.heap.size=W.heap.size+((if D 8=true then 1 else 0)+(if D 10=true then 1 else 0))∧(D 8=true→w.heap[W.heap.size]? = some o)∧(D 10=true→w.heap[W.heap.size+1]? = some (.cells C T))
theorem aJj.step{W w:World}{o:Obj}{C:Array Value}{T:TypeId}{D:Nat→Bool}{k:Nat}(h:aJj W o C T D w)(h8:k≠8)(h10:k≠10):aJj W o C T (ins k D) w:=by
 unfold aJj;rw[aCc D (Ne.symm h8),aCc D (Ne.symm h10)];exact h
def CopyMPost(w:World)(ps:List Int)(ls:List Ln)(e:Ending)(w':World):Prop:=
 ∃g' m',e=.returned (.pointer (some ⟨g',0,none⟩))∧LedM w' g' m' ps ls∧w.heap.size≤g'∧w.heap.size≤m'∧Below w.heap.size w w'
theorem pcopy_any{w:World}{G M:Nat}{ps:List Int}{ls:List Ln}(h:LedM w G M ps ls):
  Calls Tryz.prog 55 #[.pointer (some ⟨G,0,none⟩)] w (CopyMPost w ps ls):=by
 have C1:=yH (aFv h.blk);have HBk:=yH h.blk;obtain⟨ms,⟨es,clock,hes,hst,hkv⟩,hperm⟩:=h.map;have HM:=yH hes;have HN:Hid (∀w',w'.heap[w.heap.size]? = some (.map es clock)→aCg w' w.heap.size ls):=yH fun w' hw=>⟨ms,⟨es,clock,hw,hst,hkv⟩,hperm⟩
 have hMlt:M<w.heap.size:=h.map.lt;clear h hes hst hkv hperm;go_enter Tryz.func55,Tryz.ntmps55;go_wp2_with fail;refine C1.out.mono ?_;rintro e w ⟨rfl,rfl⟩;go_wp2_with fail
 refine aJ1 (by kernel_rfl) [(.pointer (some ⟨G,0,none⟩)),(.pointer (some ⟨G,0,none⟩)),(.pointer (some ⟨G,0,none⟩)),(.agg (parC ps).toArray),(.pointer (some ⟨G,0,none⟩)),(.pointer (some ⟨G,0,none⟩)),(.pointer (some ⟨G,17,none⟩)),(.map (some M)),(.map (some w.heap.size)),(.agg (ledC ps (.map (some w.heap.size)))),(.pointer (some ⟨w.heap.size+1,0,none⟩)),(.pointer (some ⟨w.heap.size+1,0,none⟩))]
  (aJj w (.map es clock) (ledC ps (.map (some w.heap.size))) 60) (by kernel_rfl) ⟨yZ.drew,by simp,by simp,by simp⟩ ?_
 intro af haf;simp only[puts,Act.put,yA,yC,yF,yD,yE]at haf;subst haf;refine⟨?_,?_⟩
 ·simp only[aIo];refine⟨?_,?_,?_,?_,?_,?_,?_,?_,?_,?_,?_,?_,trivial⟩
  ·intro D w' hD hWt hC hI;have hS:=hI.1;have HI:=yH (hI.step (k:=0) (by decide) (by decide));have kb:=HBk.out.below hS HBk.out.lt;have hl:=kb.lt;have d:=kb.ledMap;clear hS hI hC hWt hD kb;refine yO rfl ?_;go_wp2_with fail;all_goals first|exact HI|exact⟨rfl,HI⟩|rfl
  ·intro D w' hD hWt hC hI;have hS:=hI.1;have HI:=yH (hI.step (k:=1) (by decide) (by decide));have kb:=HBk.out.below hS HBk.out.lt;have hl:=kb.lt;have d:=kb.ledMap;clear hS hI hC hWt hD kb;refine yO rfl ?_;go_wp2_with fail;all_goals first|exact HI|exact⟨rfl,HI⟩|rfl
  ·intro D w' hD hWt hC hI;have hS:=hI.1;have HI:=yH (hI.step (k:=2) (by decide) (by decide));have kb:=HBk.out.below hS HBk.out.lt;have hl:=kb.lt;have d:=kb.ledMap;clear hS hI hC hWt hD kb;refine yO rfl ?_;go_wp2_with fail;all_goals first|exact HI|exact⟨rfl,HI⟩|rfl
  ·intro D w' hD hWt hC hI;have hS:=hI.1;have HI:=yH (hI.step (k:=3) (by decide) (by decide));have kb:=HBk.out.below hS HBk.out.lt;have hl:=kb.lt;have d:=kb.ledMap;refine yO rfl ?_;refine wp_load_mid 57 (.tmp 8) rfl G 0 rfl (parC ps) _ (par_range kb) Tryz.underlying57 rfl (by rw[aEr];kernel_rfl) ?_;exact⟨rfl,HI.out⟩
  ·intro D w' hD hWt hC hI;have hS:=hI.1;have HI:=yH (hI.step (k:=4) (by decide) (by decide));have kb:=HBk.out.below hS HBk.out.lt;have hl:=kb.lt;have d:=kb.ledMap;clear hS hI hC hWt hD kb;refine yO rfl ?_;go_wp2_with fail;all_goals first|exact HI|exact⟨rfl,HI⟩|rfl
  ·intro D w' hD hWt hC hI;have hS:=hI.1;have HI:=yH (hI.step (k:=5) (by decide) (by decide));have kb:=HBk.out.below hS HBk.out.lt;have hl:=kb.lt;have d:=kb.ledMap;clear hS hI hC hWt hD kb;refine yO rfl ?_;go_wp2_with fail;all_goals first|exact HI|exact⟨rfl,HI⟩|rfl
  ·intro D w' hD hWt hC hI;have hS:=hI.1;have HI:=yH (hI.step (k:=6) (by decide) (by decide));have kb:=HBk.out.below hS HBk.out.lt;have hl:=kb.lt;have d:=kb.ledMap;clear hS hI hC hWt hD kb;refine yO rfl ?_;go_wp2_with fail;all_goals first|exact HI|exact⟨rfl,HI⟩|rfl
  ·intro D w' hD hWt hC hI;have hS:=hI.1;have HI:=yH (hI.step (k:=7) (by decide) (by decide));have kb:=HBk.out.below hS HBk.out.lt;have hl:=kb.lt;have d:=kb.ledMap;clear hS hI hC hWt hD kb;refine yO rfl ?_;go_wp2_with fail;all_goals first|exact HI|exact⟨rfl,HI⟩|rfl
  ·intro D w' hD hWt hC hI;have h10:D 10=false:=aBf hC hD 12 10 (by kernel_rfl);obtain⟨q1,q2,q3,q4⟩:=hI;rw[hD,h10]at q2;have hz:w'.heap.size=w.heap.size:=by simpa using q2
   have hc:=clone_any (w:=w') (b:=M) (es:=es) (clock:=clock) (by rw[q1.block M hMlt];exact HM.out);rw[hz]at hc
   have HI:Hid (aJj w (.map es clock) (ledC ps (.map (some w.heap.size))) 60 (ins 8 D) (w'.alloc (.map es clock))):=yH (by
    refine⟨q1.alloc q1.size _,?_,fun _=>?_,fun d=>?_⟩
    ·rw[aGp,aCc D (by decide),h10];simp[hz]
    ·rw[←hz];exact heap_alloc_new _ _
    rw[aCc D (by decide),h10]at d;cases d)
   have HC:=yH hc;clear q1 q2 q3 q4 hc hC hWt hD h10;refine yO rfl ?_;go_wp2_with fail;refine HC.out.mono ?_;rintro e w'' ⟨rfl,rfl⟩;exact⟨rfl,HI.out⟩
  ·intro D w' hD hWt hC hI;have hS:=hI.1;have HI:=yH (hI.step (k:=9) (by decide) (by decide));have kb:=HBk.out.below hS HBk.out.lt;have hl:=kb.lt;have d:=kb.ledMap;refine yO rfl ?_;refine aNq 60 #[(0,.tmp 9),(1,.tmp 14)] rfl #[(0,(.agg (parC ps).toArray)),(1,(.map (some w.heap.size)))] (by simp[Act.eval]) _ (build_led ps w.heap.size w') ?_;exact⟨rfl,HI.out⟩
  ·intro D w' hD hWt hC hI;have h8:D 8=true:=aA0 hC hWt (d:=12) (by kernel_rfl);obtain⟨q1,q2,q3,q4⟩:=hI;rw[hD,h8]at q2;have hz:w'.heap.size=w.heap.size+1:=by simpa using q2
   have HI:Hid (aJj w (.map es clock) (ledC ps (.map (some w.heap.size))) 60 (ins 10 D) (w'.alloc (.cells (ledC ps (.map (some w.heap.size))) 60))):=yH (by
    refine⟨q1.alloc q1.size _,?_,fun d=>?_,fun _=>?_⟩
    ·rw[aGp,aCc D (by decide),h8];simp[hz]
    ·rw[heap_alloc_old _ _ (by omega)];exact q3 h8
    rw[←hz];exact heap_alloc_new _ _)
   clear q1 q2 q3 q4 hC hWt hD h8;refine yO rfl ?_;go_wp2_with fail;all_goals first|exact HI|exact⟨rfl,HI⟩|exact⟨by rw[hz],HI.out⟩
  intro D w' hD hWt hC hI;have hS:=hI.1;have HI:=yH (hI.step (k:=11) (by decide) (by decide));have kb:=HBk.out.below hS HBk.out.lt;have hl:=kb.lt;have d:=kb.ledMap;clear hS hI hC hWt hD kb;refine yO rfl ?_;go_wp2_with fail;all_goals first|exact HI|exact⟨rfl,HI⟩|rfl
 intro D w2 hall hI;obtain⟨q1,q2,q3,q4⟩:=hI;have q3:=q3 (hall 8 (by decide));have q4:=q4 (hall 10 (by decide));have HE:=yH (show LedM w2 (w.heap.size+1) w.heap.size ps ls from⟨q4,HN.out w2 q3⟩);have HB:=yH q1;clear q1 q2 q3 q4 hall;go_wp2_with fail;refine bodyPost_ret (v:=.pointer (some ⟨w.heap.size+1,0,none⟩)) (by simp[results,Tryz.results55,go_sem]) rfl ?_;exact⟨w.heap.size+1,w.heap.size,rfl,HE.out,by omega,Nat.le_refl _,HB.out⟩
theorem aG2{w:World}{va vb:Value}{la lb:List Ln}(ha:aBi w va 5 la.length (aAh la))(hb:aBi w vb 5 lb.length (aAh lb)):
  Calls Tryz.prog 18 #[va,vb] w (yR w (.bool (decide (la=lb)))):=by
 have C:=yH (aLx ha hb);clear ha hb;generalize decide (la=lb)=r at *;go_enter Tryz.func18,Tryz.ntmps18;go_wp2_with fail;refine C.out.mono ?_;rintro e w1 ⟨rfl,b1⟩;go_wp2_with fail;go_ret;exact⟨rfl,b1⟩
theorem aOl{w:World}(a1 a2:Option Addr)(n1 n2 c1 c2:Nat)(h1:n1≤maxLen)(h2:n2≤maxLen):
  Calls Tryz.prog 7 #[.agg #[.slice a1 n1 c1,.slice a2 n2 c2]] w fun e w'=>e=.returned (.bool (decide (120<n1∨40<n2)))∧Below w.heap.size w w':=by
 have b1:=(Below.refl w.heap.size w).alloc yL (.cells #[.slice a1 n1 c1,.slice a2 n2 c2] 25);have k1:=pAA w #[.slice a1 n1 c1,.slice a2 n2 c2] 25;have KX:=yH k1;have B1:=yH b1;clear b1 k1;unfold maxLen at h1 h2;go_enter Tryz.func7,Tryz.ntmps7
 go_upto_region 1 with fail
 generalize w.alloc (.cells #[.slice a1 n1 c1,.slice a2 n2 c2] 25)=W at *;have e0:=KX.out.cell 0;have e1:=KX.out.cell 1;have kx:=KX.out.lt;simp at e0 e1
 by_cases q1:120<n1
 ·have q2:decide ((120:Int)<(n1:Int))=true:=by simp;omega
  have Q3:Hid (decide (120<n1∨40<n2)=true):=yH (by rw[decide_eq_true_iff];omega);go_wp2_with fail;go_ret;exact⟨by rw[Q3.out];rfl,B1.out⟩
 have q2:decide ((120:Int)<(n1:Int))=false:=by simp;omega
 have Q3:Hid (decide (120<n1∨40<n2)=decide ((40:Int)<(n2:Int))):=yH (by rw[decide_eq_decide];omega);go_wp2_with fail;go_ret;exact⟨by rw[Q3.out];rfl,B1.out⟩
def okO(nx:Int)(l:List Of):Prop:=l.Pairwise (fun x y=>x.se<y.se)∧∀x∈l,x.may∧x.se≠0∧x.se<nx
theorem aJy{P:Program}{w w':World}{o:Oper}{a:Act}{K:Act→World→Prop}{Q:Exit→Act→World→Prop}(y x:Operand)(t:TypeId){u v v':Value}
  (ho:o.op=.call { callee:=.builtin .append,args:=#[y,x],argTypes:=#[t,t] })(hy:a.eval y=u)(hx:a.eval x=v)
  (hr:(Builtin.append_ #[t,t] o.type #[u,v]).run P w=.ok v' w')(h:K (a.put o.dst v') w'):o.wp P a w K Q:=by
 unfold Oper.wp execOp;simp only[ho,resolve,invoke,builtin,Sem.run_bind,Sem.run_pure,Result.andThen_ok,List.map_toArray,List.map_cons,List.map_nil,hy,hx,hr];exact h
def aBt(l:List Of)(x:Of):Int:=if ¬x.may then 1 else if l.length=32∨x.se=18446744073709551615 then 9 else 0
def aDa(l:List Of)(x:Of):Int:=if aBt l x=0 then x.se else 0
def aCf(l:List Of)(x:Of):List Of:=if aBt l x=0 then l++[x]else l
def aBu(l:List Of)(x:Of):Int:=if aBt l x=0 then x.se+1 else x.se
end Go.Proofs.YtaeocliklpcgmaaGreat
