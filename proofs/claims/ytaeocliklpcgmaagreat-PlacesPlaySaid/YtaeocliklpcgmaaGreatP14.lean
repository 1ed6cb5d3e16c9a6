/- Pieces of one proof. -/
import Derived.Test.YtaeocliklpcgmaaGreatP13
import Derived.Deep.MidRow
import Derived.Laws.Bits64b
import Derived.Lib.Mul64
import Derived.Laws.Externs
import Derived.Deep.CutBlock
import Derived.Lib.Strings
import Derived.Lib.Small
import Derived.Lib.BitFns
import Derived.Lib.Slices
import Derived.Lib.Walk
import Derived.Lib.ItoaNum
import Derived.Deep.RegionWith
set_option linter.all false
set_option maxHeartbeats 64000000
set_option maxRecDepth 100000
namespace Go.Proofs.YtaeocliklpcgmaaGreat
open Go.RowKit
def aAr(neg:Bool)(f:Nat→Bool):Array Value:=#[Value.bool neg]++arr f
theorem aB2(neg:Bool)(f:Nat→Bool):(aAr neg f).size=193:=by simp[aAr,aA6]
theorem aFi(neg:Bool)(f:Nat→Bool):(aAr neg f)[0]? = some (.bool neg):=by
 unfold aAr;rw[Array.getElem?_append_left (by simp)];rfl
theorem aDs(neg:Bool)(f:Nat→Bool)(i:Nat)(h:i<192):(aAr neg f)[1+i]? = some (.bool (f i)):=by
 unfold aAr;rw[Array.getElem?_append_right (by simp),show 1+i - (#[Value.bool neg]:Array Value).size=i by simp,aB7 f i h]
theorem whole_set(neg:Bool)(f:Nat→Bool)(i:Nat)(b:Bool):(aAr neg f).setIfInBounds (1+i) (.bool b)=aAr neg (fun j=>if j=i then b else f j):=by
 unfold aAr;rw[Array.setIfInBounds_append_right (by simp),show 1+i - (#[Value.bool neg]:Array Value).size=i by simp,aK1]
theorem aFj(neg:Bool)(f:Nat→Bool):(aAr neg f).all (·.oneCell')=true:=by
 unfold aAr;rw[Array.all_append,aDo];simp[Value.oneCell']
theorem aFx{neg:Bool}{f g:Nat→Bool}(h:∀i,i<192→f i=g i):aAr neg f=aAr neg g:=by
 unfold aAr;rw[aCa h]
theorem whole_ne(neg:Bool)(f:Nat→Bool):(aAr neg f=#[])=False:=by
 simp only[eq_iff_iff,iff_false];intro h;have:=congrArg Array.size h;rw[aB2]at this;simp at this
theorem aMv(neg b:Bool)(f:Nat→Bool):(aAr neg f).setIfInBounds 0 (.bool b)=aAr b f:=by
 unfold aAr;rw[Array.setIfInBounds_append_left (by simp)];rfl
def aHr(cs:Array Value):Nat→List Value→Array Value
 | _,[]=>cs
 | o,v::r=>aHr (cs.setIfInBounds o v) (o+1) r
theorem aLj:∀(vs:List Value) (cs:Array Value) (o j:Nat),o+vs.length≤cs.size→
  (aHr cs o vs)[j]? = if o≤j∧j<o+vs.length then vs[j - o]? else cs[j]?
 | [],cs,o,j,_=>by rw[aHr,if_neg (by simp)]
 | v::r,cs,o,j,h=>by
  simp only[List.length_cons]at h;rw[aHr,aLj r _ _ _ (by simp;omega)]
  by_cases h1:j=o
  ·subst h1;rw[if_neg (by omega),if_pos (by simp),Array.getElem?_setIfInBounds_self_of_lt (by omega)];simp
  rw[Array.getElem?_setIfInBounds_ne (Ne.symm h1)]
  by_cases h2:o+1≤j∧j<o+1+r.length
  ·rw[if_pos h2,if_pos (by simp;omega),show j - o=(j - (o+1))+1 by omega,List.getElem?_cons_succ]
  rw[if_neg h2,if_neg (by simp;omega)]
theorem Blk.setCells{g:Nat}{t:TypeId}:∀(vs:List Value) {w:World} {cs:Array Value} (o:Nat),Blk w g cs t→Blk (w.setCells g o vs) g (aHr cs o vs) t
 | [],_,_,_,h=>h
 | v::r,_,_,o,h=>by
  rw[World.setCells,aHr];exact Blk.setCells r (o+1) (h.set o v)
theorem pAN{g k:Nat}{t:TypeId}{cs:Array Value}(hk:g≠k):∀(vs:List Value) {w:World} (o:Nat),Blk w g cs t→Blk (w.setCells k o vs) g cs t
 | [],_,_,h=>h
 | v::r,_,o,h=>by
  rw[World.setCells];exact pAN hk r (o+1) (h.setOther hk v)
theorem aHd{B g:Nat}(hg:B≤g):∀(vs:List Value) {w0 w:World} (o:Nat),Below B w0 w→Below B w0 (w.setCells g o vs)
 | [],_,_,_,h=>h
 | v::r,_,_,o,h=>by
  rw[World.setCells];exact aHd hg r (o+1) (h.setCell hg v)
theorem aN1(neg:Bool)(f h:Nat→Bool):aHr (aAr neg f) 1 (arr h).toList=aAr neg h:=by
 apply Array.ext_getElem?;intro j;rw[aLj _ _ _ _ (by rw[Array.length_toList,aA6,aB2];omega),Array.length_toList,aA6]
 by_cases hj:1≤j∧j<1+192
 ·rw[if_pos hj,Array.getElem?_toList,aB7 _ _ (by omega)];have:=aDs neg h (j - 1) (by omega);rw[show 1+(j - 1)=j by omega]at this;rw[this]
 rw[if_neg hj]
 by_cases h0:j=0
 ·subst h0;rw[aFi,aFi]
 rw[Array.getElem?_eq_none (by rw[aB2];omega),Array.getElem?_eq_none (by rw[aB2];omega)]
theorem aR0{w:World}{g:Nat}{neg:Bool}{f:Nat→Bool}{t:TypeId}(h:Blk w g (aAr neg f) t):w.there g 1 192:=fun j hj=>
 ⟨by rw[h.cell (1+j),aDs _ _ j hj];rfl,h.frozen (1+j)⟩
attribute [irreducible] aAr
def aD6(neg:Bool)(x:Nat):Value:=.agg (aAr neg x.testBit)
theorem not_arith(a:Nat)(ha:a<18446744073709551616):((18446744073709551616 - 1 - a:Nat):Int)%18446744073709551616=18446744073709551615 - (a:Int):=by omega
theorem u64_not(a:Nat)(ha:a<18446744073709551616):bits .xor .u64 IntKind.u64.max (a:Int)=18446744073709551615 - (a:Int):=by
 show IntKind.u64.wrap ((BitVec.ofInt 64 IntKind.u64.max ^^^ BitVec.ofInt 64 (a:Int)).toNat:Int)=_;have h1:BitVec.ofInt 64 IntKind.u64.max=BitVec.allOnes 64:=by decide
 rw[h1,BitVec.allOnes_xor,BitVec.toNat_not,ofInt_u64 a ha,aBi];exact not_arith a ha
theorem aR1(a:Int)(h:In64 a)(hn:a<0):IntKind.u64.wrap (bits .xor .u64 IntKind.u64.max (IntKind.u64.wrap a)+1)=(a.natAbs:Int):=by
 obtain⟨n,rfl⟩:∃n:Nat,a = -(n:Int):=⟨a.natAbs,by omega⟩;have hn2:0<n∧n≤9223372036854775808:=by unfold In64 at h;omega
 have e:IntKind.u64.wrap (-(n:Int))=((18446744073709551616 - n:Nat):Int):=by rw[aBi];omega
 rw[e,u64_not _ (by omega),aBi,Int.natAbs_neg,Int.natAbs_natCast];omega
theorem aR2(a:Int)(h:In64 a)(hn:¬a<0):IntKind.u64.wrap a=(a.natAbs:Int):=by
 unfold In64 at h;rw[aBi];omega
theorem bit_test(U k:Nat)(hU:U<18446744073709551616):(bits .and .u64 ((U:Int)/2 ^ k) 1==1)=U.testBit k:=by
 have e:((U:Int)/2 ^ k)=((U/2 ^ k:Nat):Int):=by simp
 have hl:U/2 ^ k≤U:=Nat.div_le_self _ _;rw[e];have h:=bits_and_u64_nat (U/2 ^ k) 1 (by omega) (by omega);rw[Nat.and_one_is_mod]at h;rw[show((1:Int))=((1:Nat):Int)from rfl,h,Nat.testBit_eq_decide_div_mod_eq];rw[Bool.eq_iff_iff];simp;omega
def OfAt1(neg:Bool)(U:Nat)(w:World)(i:Value)(wr:World):Prop:=
 ∃k:Nat,k≤64∧i=.int .i64 k∧Blk wr w.heap.size (aAr false fun _=>false) 209∧Blk wr (w.heap.size+1) (aAr neg fun j=>decide (j<k) && U.testBit j) 209∧Below w.heap.size w wr
theorem of_store(neg:Bool)(U k:Nat):(aAr neg fun j=>decide (j<k) && U.testBit j).setIfInBounds (1+k) (.bool (U.testBit k))=aAr neg fun j=>decide (j<k+1) && U.testBit j:=by
 rw[whole_set];refine aFx fun j hj=>?_
 by_cases h:j=k
 ·subst h;simp
 have:(j<k+1)=(j<k):=by simp;omega
 simp[h,this]
theorem of_all(neg:Bool)(U:Nat)(hU:U<18446744073709551616):(aAr neg fun j=>decide (j<64) && U.testBit j)=aAr neg U.testBit:=by
 refine aFx fun j hj=>?_
 by_cases h:j<64
 ·simp[h]
 rw[Nat.testBit_lt_two_pow (yM hU (Nat.pow_le_pow_right (n:=2) (by omega) (show 64≤j by omega)))];simp
theorem aMw(w:World):(zeroValue 209).run Tryz.prog w=.ok (.agg (aAr false fun _=>false)) w:=by
 have h:(zeroValue 209).run Tryz.prog=fun w=>.ok (.agg (aAr false fun _=>false)) w:=by kernel_rfl
 rw[h]
theorem aB3(neg:Bool)(f:Nat→Bool):(Tryz.prog.info? 209).map (·.size)=some (aAr neg f).size:=by rw[aB2];kernel_rfl
theorem aJp(a:Int)(w:World)(h:In64 a):
  Calls Tryz.prog 152 #[.int .i64 a] w (yR w (aD6 (decide (a<0)) a.natAbs)):=by
 have hz:=aMw;obtain⟨h1,h2⟩:=h;have hne:=whole_ne;have hs0:=aMv;obtain⟨U,hUe⟩:∃U,a.natAbs=U:=⟨_,rfl⟩;have hU:U<18446744073709551616:=by omega
 have hUa:=yH hUe;clear hUe
 by_cases hneg:a<0
 ·have hk2:Blk ((w.alloc (.cells (aAr false fun _=>false) 209)).alloc (.cells (aAr false fun _=>false) 209)) (w.heap.size+1) (aAr false fun _=>false) 209:=pAC _ _ _ (by simp);have r1:=aR1 a ⟨h1,h2⟩ hneg;rw[hUa.out]at r1;go_enter Tryz.func152,Tryz.ntmps152;go_wp2_with ((with_reducible refine wpList_store_row ?_ 209 (.tmp 3) (.tmp 8) ?_ (w.heap.size+1) (aAr true fun _=>false) ?_ ?_ 209 _ hk2.out (aB3 _ _) (by simp only[aB2]) (aFj _ _) ?_);exact rfl;exact rfl;exact rfl;exact rfl)
  go_loopw [5] (OfAt1 true U w) (fun i _=>64 - (intOf i).toNat)
  case atStart=>
   refine⟨0,by omega,rfl,((pAA _ _ _).alloc _).rowOther (by simp),?_,below_setRow ((yZ.alloc yL _).alloc (by simp) _) (by omega) _⟩;have e:(aAr true fun j=>decide (j<0) && U.testBit j)=aAr true fun _=>false:=aFx fun i _=>by simp
   rw[e];exact hk2.row
  obtain⟨k,hk,rfl,k1,k2,hb⟩:=hrel
  by_cases hkl:(k:Int)<64
  ·have hcell:wr.cell? ⟨w.heap.size+1,1+k,none⟩=some (.bool false):=by rw[k2.cell (1+k),aDs _ _ k (by omega)];simp
   have hf:=k2.frozen (1+k);have hs4:=yH (k2.set (1+k) (.bool (U.testBit k)));rw[of_store]at hs4;have hbt:=bit_test U k hU;go_wp2;go_roundw
   case rel=>exact⟨k+1,by omega,by go_num,k1.setOther (by simp) _,hs4.out,hb.setCell (by simp) _⟩
   case measure=>simp[intOf] <;> omega
  obtain rfl:k=64:=by omega
  rw[of_all true U hU]at k2
  go_wp2_with (first
   | ((with_reducible refine wpList_load_row ?_ 209 (.tmp 3) ?_ (w.heap.size+1) ?_ 209 (aAr true U.testBit) (0,0) _ k2.out Tryz.underlying209 ?_ (aB3 _ _) ?_);exact rfl;exact rfl;exact rfl;exact rfl)
   | ((with_reducible refine wpList_store_row ?_ 209 (.tmp 2) (.tmp 28) ?_ w.heap.size (aAr true U.testBit) ?_ ?_ 209 _ k1.out (aB3 _ _) (by simp only[aB2]) (aFj _ _) ?_);exact rfl;exact rfl;exact rfl;exact rfl))
  refine bodyPost_ret (v:=aD6 true U) (results_cell_row rfl _ _ w.heap.size 209 (aAr true U.testBit) (0,0) _ rfl k1.row Tryz.underlying209 rfl (aB3 _ _)) rfl ⟨?_,below_setRow hb yL _⟩;rw[hUa.out]
 have r1:=aR2 a ⟨h1,h2⟩ hneg;rw[hUa.out]at r1;have hk2:Blk ((w.alloc (.cells (aAr false fun _=>false) 209)).alloc (.cells (aAr false fun _=>false) 209)) (w.heap.size+1) (aAr false fun _=>false) 209:=pAC _ _ _ (by simp);go_enter Tryz.func152,Tryz.ntmps152;go_wp2_with ((with_reducible refine wpList_store_row ?_ 209 (.tmp 3) (.tmp 8) ?_ (w.heap.size+1) (aAr false fun _=>false) ?_ ?_ 209 _ hk2.out (aB3 _ _) (by simp only[aB2]) (aFj _ _) ?_);exact rfl;exact rfl;exact rfl;exact rfl)
 go_loopw [5] (OfAt1 false U w) (fun i _=>64 - (intOf i).toNat)
 case atStart=>
  refine⟨0,by omega,rfl,((pAA _ _ _).alloc _).rowOther (by simp),?_,below_setRow ((yZ.alloc yL _).alloc (by simp) _) (by omega) _⟩;have e:(aAr false fun j=>decide (j<0) && U.testBit j)=aAr false fun _=>false:=aFx fun i _=>by simp
  rw[e];exact hk2.row
 obtain⟨k,hk,rfl,k1,k2,hb⟩:=hrel
 by_cases hkl:(k:Int)<64
 ·have hcell:wr.cell? ⟨w.heap.size+1,1+k,none⟩=some (.bool false):=by rw[k2.cell (1+k),aDs _ _ k (by omega)];simp
  have hf:=k2.frozen (1+k);have hs4:=yH (k2.set (1+k) (.bool (U.testBit k)));rw[of_store]at hs4;have hbt:=bit_test U k hU;go_wp2;go_roundw
  case rel=>exact⟨k+1,by omega,by go_num,k1.setOther (by simp) _,hs4.out,hb.setCell (by simp) _⟩
  case measure=>simp[intOf] <;> omega
 obtain rfl:k=64:=by omega
 rw[of_all false U hU]at k2
 go_wp2_with (first
  | ((with_reducible refine wpList_load_row ?_ 209 (.tmp 3) ?_ (w.heap.size+1) ?_ 209 (aAr false U.testBit) (0,0) _ k2.out Tryz.underlying209 ?_ (aB3 _ _) ?_);exact rfl;exact rfl;exact rfl;exact rfl)
  | ((with_reducible refine wpList_store_row ?_ 209 (.tmp 2) (.tmp 28) ?_ w.heap.size (aAr false U.testBit) ?_ ?_ 209 _ k1.out (aB3 _ _) (by simp only[aB2]) (aFj _ _) ?_);exact rfl;exact rfl;exact rfl;exact rfl))
 refine bodyPost_ret (v:=aD6 false U) (results_cell_row rfl _ _ w.heap.size 209 (aAr false U.testBit) (0,0) _ rfl k1.row Tryz.underlying209 rfl (aB3 _ _)) rfl ⟨?_,below_setRow hb yL _⟩;rw[hUa.out,decide_eq_false (p:=a<0) (by omega)]
end Go.Proofs.YtaeocliklpcgmaaGreat
namespace Go.Proofs.YtaeocliklpcgmaaGreat
open Go.RowKit Go.Lib
theorem aPq(x y c:Int)(hx:0≤x)(hy:0≤y)(hc0:0≤c)(hc:c≤1)(w:World):
  (callFunc 174 #[.int .u64 x,.int .u64 y,.int .u64 c]).run Tryz.prog w=
   .ok (.value (.tuple #[.int .u64 ((x+y+c)%18446744073709551616),.int .u64 ((x+y+c)/18446744073709551616)])) w:=by
 rw[run_callFunc_extern Tryz.func174 (by kernel_rfl) (by kernel_rfl) (by kernel_rfl) (e:=add64Entry) (by kernel_rfl),run_add64 x y c hx hy hc0 hc];rfl
theorem maskN(a:Nat)(ha:a<18446744073709551616):bits .and .u64 (a:Int) 4294967295=((a%4294967296:Nat):Int):=by
 have h:=bits_and_u64_nat a 4294967295 ha (by omega);have e:a &&& 4294967295=a%4294967296:=Nat.and_two_pow_sub_one_eq_mod a 32;rw[e]at h;exact h
theorem divN(a:Nat):(a:Int)/4294967296=((a/4294967296:Nat):Int):=by omega
theorem mulN(a b:Nat):(a:Int)*(b:Int)=((a*b:Nat):Int):=(Int.natCast_mul a b).symm
theorem addN(a b:Nat):(a:Int)+(b:Int)=((a+b:Nat):Int):=(Int.natCast_add a b).symm
theorem aPr(a:Nat)(ha:a<18446744073709551616):IntKind.u64.wrap (a:Int)=(a:Int):=by rw[aBi];omega
theorem wrapM(a:Nat):IntKind.u64.wrap (a:Int)=((a%18446744073709551616:Nat):Int):=by rw[aBi];omega
theorem mul64_nat(x y:Nat)(hx:x<18446744073709551616)(hy:y<18446744073709551616)(w:World):
  Calls Tryz.prog 25 #[.int .u64 x,.int .u64 y] w fun e w'=>
   e=.returned (.tuple #[.int .u64 ((x*y/18446744073709551616:Nat):Int),.int .u64 ((x*y%18446744073709551616:Nat):Int)])∧w=w':=by
 obtain⟨bd,bt,bw,hhi⟩:=Lib.mul64_hi x y hx hy;have ba:=Lib.half_mul_le (a:=x/4294967296) (b:=y/4294967296) (by omega) (by omega);have bb:=Lib.half_mul_le (a:=x/4294967296) (b:=y%4294967296) (by omega) (by omega);have bc:=Lib.half_mul_le (a:=x%4294967296) (b:=y/4294967296) (by omega) (by omega);have ba':x/4294967296*(y/4294967296)<18446744073709551616:=by omega
 have bb':x/4294967296*(y%4294967296)<18446744073709551616:=by omega
 have bc':x%4294967296*(y/4294967296)<18446744073709551616:=by omega
 have hmul:x*y/18446744073709551616<18446744073709551616:=by
  have:=Nat.mul_lt_mul'' hx hy;omega
 generalize ht:x/4294967296*(y%4294967296)+x%4294967296*(y%4294967296)/4294967296=t at *;have Ht:=yH ht;clear ht;have Hhi:=yH hhi;clear hhi;go_enter Tryz.func25,Tryz.ntmps25;go_wp2;simp only[maskN x hx,maskN y hy,divN,mulN,addN,aPr _ bd,aPr _ bb',Ht.out,aPr _ bt,maskN _ bt,aPr _ bc',aPr _ bw,aPr _ ba'];rw[aPr _ (show x/4294967296*(y/4294967296)+t/4294967296<18446744073709551616 by have:=Hhi.out;omega),addN,aPr _ (by have:=Hhi.out;omega),Hhi.out,wrapM];go_ret2;exact⟨rfl,rfl⟩
theorem aGk(x y:Int)(w:World)(hx:aDu x)(hy:aDu y):
  Calls Tryz.prog 25 #[.int .u64 x,.int .u64 y] w fun e w'=>
   e=.returned (.tuple #[.int .u64 (x*y/18446744073709551616),.int .u64 (x*y%18446744073709551616)])∧w=w':=by
 unfold aDu at hx hy;obtain⟨X,rfl⟩:=Int.eq_ofNat_of_zero_le hx.1;obtain⟨Y,rfl⟩:=Int.eq_ofNat_of_zero_le hy.1;exact mul64_nat X Y (by omega) (by omega) w
end Go.Proofs.YtaeocliklpcgmaaGreat
namespace Go.Proofs.YtaeocliklpcgmaaGreat
open Go.RowKit
def LenOf(x n:Nat):Prop:=x<2 ^ n∧(x=0∨2 ^ n≤2*x)
theorem len8_get(j:Int)(h0:0≤j)(h1:j<256)(hp:j.toNat<Lib.len8tab.size):(Lib.len8tab[j.toNat].toNat:Int)=Lib.bitLen j.toNat:=by
 rw[←Lib.len8_of j h0 (by omega),Lib.len8,getElem?_pos Lib.len8tab j.toNat hp];rfl
theorem aEr(x j:Int)(k:Nat)(h0:0≤x)(h1:x≤18446744073709551615)(hj0:0≤j)(hj1:j<256)(hj:j.toNat=x.toNat/2 ^ k)(hk:2 ^ k≤x.toNat)(hp:j.toNat<Lib.len8tab.size):
  wrap64 (k+wrap64 (Lib.len8tab[j.toNat].toNat:Int))=Lib.bitLen x.toNat:=by
 have h8:=Lib.bitLen_le8' j hj0 (by omega);have hs:=Lib.bitLen_shift k x.toNat hk (by omega)
 have hk64:k<64:=by
  rcases Nat.lt_or_ge k 64 with h|h
  ·exact h
  have:=Nat.pow_le_pow_right (n:=2) (by omega) h;omega
 rw[len8_get j hj0 hj1 hp,hs,←hj,aB4 (Lib.bitLen j.toNat) (by unfold In64;omega),aB4 _ (by unfold In64;omega)];omega
theorem len_close0(x:Int)(h0:0≤x)(h1:x<256)(hp:x.toNat<Lib.len8tab.size):
  wrap64 (wrap64 (Lib.len8tab[x.toNat].toNat:Int))=Lib.bitLen x.toNat:=by
 have h8:=Lib.bitLen_le8' x h0 (by omega);rw[len8_get x h0 h1 hp,aB4 (Lib.bitLen x.toNat) (by unfold In64;omega),aB4 _ (by unfold In64;omega)]
theorem aJq(x:Nat)(h:x<2 ^ 64)(h0:0<x):1≤Lib.bitLen x∧Lib.bitLen x≤64∧LenOf x (Lib.bitLen x):=by
 obtain⟨h1,h2,h3⟩:=Lib.bitLenAux_bounds 64 x h (by omega);have h4:=Lib.bitLen_le x 64 (by omega) h;unfold Lib.bitLen at *;refine⟨h1,h4,h3,.inr ?_⟩;obtain⟨n,hn⟩:∃n,Lib.bitLenAux 64 x=n+1:=⟨Lib.bitLenAux 64 x - 1,by omega⟩;rw[hn]at h2 ⊢;rw[Nat.pow_succ];simp only[Nat.add_sub_cancel]at h2;omega
theorem len64_any(x:Int)(w:World)(h0:0≤x)(h1:x≤18446744073709551615):
  Calls Tryz.prog 170 #[.int .u64 x] w (yS w (.int .i64 (Lib.bitLen x.toNat))):=by
 have hsz:(Lib.len8tab.size:Int)=256:=by rw[Lib.len8tab_size];rfl
 go_enter Tryz.func170,Tryz.ntmps170;go_wp2;all_goals (go_ret;refine⟨congrArg Ending.returned (congrArg (Value.int IntKind.i64) ?_),rfl⟩)
 ·exact aEr x _ 56 h0 h1 (by omega) (by omega) (by omega) (by omega) _
 ·exact aEr x _ 48 h0 h1 (by omega) (by omega) (by omega) (by omega) _
 ·exact aEr x _ 40 h0 h1 (by omega) (by omega) (by omega) (by omega) _
 ·exact aEr x _ 32 h0 h1 (by omega) (by omega) (by omega) (by omega) _
 ·exact aEr x _ 24 h0 h1 (by omega) (by omega) (by omega) (by omega) _
 ·exact aEr x _ 16 h0 h1 (by omega) (by omega) (by omega) (by omega) _
 ·exact aEr x _ 8 h0 h1 (by omega) (by omega) (by omega) (by omega) _
 exact len_close0 x h0 (by omega) _
theorem lz64_any(x:Int)(w:World)(h0:0<x)(h1:x≤18446744073709551615):
  Calls Tryz.prog 232 #[.int .u64 x] w (yS w (.int .i64 (64 - (Lib.bitLen x.toNat:Int)))):=by
 have hb:=(aJq x.toNat (by omega) (by omega)).2.1;go_enter Tryz.func232,Tryz.ntmps232;go_wp2_with fail;refine(len64_any x _ (by omega) h1).mono ?_;rintro e w' ⟨rfl,rfl⟩;go_wp2;go_ret;exact⟨rfl,rfl⟩
structure aGl(Y yn1 yn0 u d q r:Nat):Prop where
 le:(u*4294967296+d)/Y≤q
 hi:q≤4294967297
 rem:q*yn1+r=u
 small:r<4294967296
structure aJr(Y yn1 yn0 u d:Nat):Prop where
 y:Y=yn1*4294967296+yn0
 y1:2147483648≤yn1
 y1':yn1<4294967296
 y0:yn0<4294967296
 u:u<Y
 d:d<4294967296
theorem aGl.start{Y yn1 yn0 u d:Nat}(D:aJr Y yn1 yn0 u d):aGl Y yn1 yn0 u d (u/yn1) (u%yn1):=by
 obtain⟨hy,h1,h1',h0,hu,hd⟩:=D;have e1:(u*4294967296+d)/Y≤(u*4294967296+d)/(4294967296*yn1):=Nat.div_le_div_left (by omega) (by omega);have e2:(u*4294967296+d)/(4294967296*yn1)=u/yn1:=by rw[←Nat.div_div_eq_div_mul];congr 1;omega
 refine⟨by omega,?_,by rw[Nat.mul_comm];exact Nat.div_add_mod u yn1,by have:=Nat.mod_lt u (show 0<yn1 by omega);omega⟩;have:u/yn1<4294967298:=by rw[Nat.div_lt_iff_lt_mul (by omega)];omega
 omega
theorem aGl.mulY{Y yn1 yn0 u d q r:Nat}(D:aJr Y yn1 yn0 u d)(G:aGl Y yn1 yn0 u d q r):q*Y+r*4294967296=u*4294967296+q*yn0:=by
 have h:=G.rem;rw[D.y,Nat.mul_add,←Nat.mul_assoc,←h];generalize q*yn1=a;omega
theorem aGl.done{Y yn1 yn0 u d q r:Nat}(D:aJr Y yn1 yn0 u d)(G:aGl Y yn1 yn0 u d q r)(h:q*yn0≤4294967296*r+d):q=(u*4294967296+d)/Y:=by
 have h1:=G.mulY D;have h2:q≤(u*4294967296+d)/Y:=by rw[Nat.le_div_iff_mul_le (by have:=D.u;omega)];omega
 have:=G.le;omega
theorem aR3{Y yn1 yn0 u d:Nat}(D:aJr Y yn1 yn0 u d):(u*4294967296+d)/Y<4294967296:=by
 obtain⟨hy,h1,h1',h0,hu,hd⟩:=D;rw[Nat.div_lt_iff_lt_mul (by omega)];omega
theorem aGl.step{Y yn1 yn0 u d q r:Nat}(D:aJr Y yn1 yn0 u d)(G:aGl Y yn1 yn0 u d q r)(h:4294967296≤q∨4294967296*r+d<q*yn0):
  1≤q∧(u*4294967296+d)/Y≤q - 1∧(q - 1)*yn1+(r+yn1)=u∧q - 1≤4294967296:=by
 have h1:=G.mulY D;have hl:=aR3 D
 have hq:1≤q:=by
  rcases Nat.eq_zero_or_pos q with rfl|h0
  ·rcases h with h|h
   ·omega
   simp at h
  exact h0
 have hlt:(u*4294967296+d)/Y<q:=by
  rcases h with h|h
  ·omega
  rw[Nat.div_lt_iff_lt_mul (by have:=D.u;omega)];omega
 have hr:=G.rem;obtain⟨p,rfl⟩:∃p,q=p+1:=⟨q - 1,by omega⟩;simp only[Nat.add_sub_cancel];rw[Nat.add_mul]at hr;exact⟨hq,by omega,by omega,by have:=G.hi;omega⟩
theorem pAO{Y yn1 yn0 u d q r:Nat}(D:aJr Y yn1 yn0 u d)(h1:(u*4294967296+d)/Y≤q)(h2:q*yn1+r=u)(h3:q≤4294967296)(h4:4294967296≤r):q=(u*4294967296+d)/Y:=by
 have h0:=D.y0
 have h5:q*Y+r*4294967296=u*4294967296+q*yn0:=by
  rw[D.y,Nat.mul_add,←Nat.mul_assoc,←h2];generalize q*yn1=a;omega
 have h6:q*yn0≤4294967296*4294967295:=Nat.mul_le_mul h3 (by omega);have h7:q≤(u*4294967296+d)/Y:=by rw[Nat.le_div_iff_mul_le (by have:=D.u;omega)];omega
 omega
def GuessAt(Y yn1 yn0 u d:Nat)(a b:Value):Prop:=∃q r:Nat,a=.int .u64 q∧b=.int .u64 r∧aGl Y yn1 yn0 u d q r
theorem aR4{u n:Nat}(hu:u<18446744073709551616)(hn:0<n):IntKind.u64.wrap ((u:Int)/(n:Int))=((u/n:Nat):Int):=by
 have:u/n≤u:=Nat.div_le_self u n;rw[←Int.natCast_ediv,aBi];generalize u/n=k at *;omega
theorem guess_r{u n:Nat}(hu:u<18446744073709551616):IntKind.u64.wrap ((u:Int) - IntKind.u64.wrap (((u/n:Nat):Int)*(n:Int)))=((u%n:Nat):Int):=by
 have h:=Nat.div_add_mod u n;rw[Nat.mul_comm]at h;rw[←Int.natCast_mul,aBi,aBi];generalize u/n*n=p at *;omega
theorem aPs{a b:Nat}(ha:a<4294967296)(hb:b<4294967296):IntKind.u64.wrap ((a:Int)*(b:Int))=((a*b:Nat):Int):=by
 have h:a*b≤4294967295*4294967295:=Nat.mul_le_mul (by omega) (by omega);rw[←Int.natCast_mul,aBi];generalize a*b=p at *;omega
theorem div_rest{u d Y:Nat}(hY:0<Y∧Y<18446744073709551616)(hd:d<4294967296):
  IntKind.u64.wrap (IntKind.u64.wrap (IntKind.u64.wrap ((u:Int)*4294967296)+(d:Int)) - IntKind.u64.wrap ((((u*4294967296+d)/Y:Nat):Int)*(Y:Int)))=(((u*4294967296+d)%Y:Nat):Int):=by
 have h:=Nat.div_add_mod (u*4294967296+d) Y;have hm:=Nat.mod_lt (u*4294967296+d) hY.1;rw[Nat.mul_comm Y]at h;rw[←Int.natCast_mul];simp only[aBi];generalize (u*4294967296+d)/Y*Y=p at *;generalize (u*4294967296+d)%Y=m at *;omega
theorem aR5(hi lo y:Nat)(w:World)(hh:0<hi)(hy:hi<y)(hy2:y<18446744073709551616)(hlo:lo<18446744073709551616)
  (s Y yn1 yn0 u L d1 d0:Nat)(hs':Hid (64 - (Lib.bitLen y:Int)=s))(hs2:s≤63)
  (r1:IntKind.u64.wrap ((y:Int)*2 ^ s)=(Y:Int))(r2:(Y:Int)/4294967296=(yn1:Int))(r3:bits .and .u64 (Y:Int) 4294967295=(yn0:Int))
  (r4:bits .or .u64 (IntKind.u64.wrap ((hi:Int)*2 ^ s)) ((lo:Int)/2 ^ (64 - s))=(u:Int))(r5:IntKind.u64.wrap ((lo:Int)*2 ^ s)=(L:Int))
  (r6:(L:Int)/4294967296=(d1:Int))(r7:bits .and .u64 (L:Int) 4294967295=(d0:Int))
  (D1:Hid (aJr Y yn1 yn0 u d1))(D0:Hid (∀u',u'<Y→aJr Y yn1 yn0 u' d0))
  (hY:Y<18446744073709551616)(hY0:9223372036854775808≤Y)(hu:u<Y)(hyn1:2147483648≤yn1)(hyn1':yn1<4294967296)(hyn0:yn0<4294967296)(hd1:d1<4294967296)(hd0:d0<4294967296):
  Calls Tryz.prog 222 #[.int .u64 hi,.int .u64 lo,.int .u64 y] w fun e w'=>
   e=.returned (.tuple #[.int .u64 ((((u*4294967296+d1)/Y:Nat):Int)*4294967296+((((u*4294967296+d1)%Y*4294967296+d0)/Y:Nat):Int)),.int .u64 (((((u*4294967296+d1)%Y*4294967296+d0)%Y:Nat):Int)/2 ^ s)])∧w=w':=by
 go_enter Tryz.func222,Tryz.ntmps222;go_wp2_with fail;refine(lz64_any y _ (by omega) (by omega)).mono ?_;rw[Int.toNat_natCast,hs'.out];rintro e w' ⟨rfl,rfl⟩;have e15:IntKind.u64.wrap ((u:Int)/(yn1:Int))=((u/yn1:Nat):Int):=aR4 (by omega) (by omega);have e16:IntKind.u64.wrap ((u:Int) - IntKind.u64.wrap (((u/yn1:Nat):Int)*(yn1:Int)))=((u%yn1:Nat):Int):=guess_r (by omega);have G0:=yH (aGl.start D1.out);generalize u/yn1=q0 at e15 e16 G0;generalize u%yn1=r0 at e16 G0
 go_upto_block 0 with fail
 go_cut [15,16] (fun a _ w'=>a=.int .u64 (((u*4294967296+d1)/Y:Nat):Int)∧w=w')
 case first=>
  go_wp2_with fail
  go_loop [15,16] (GuessAt Y yn1 yn0 u d1) (fun a _=>(intOf a).toNat)
  case atStart=>exact⟨q0,r0,rfl,rfl,G0.out⟩
  obtain⟨q,r,rfl,rfl,G⟩:=hrel;have h1:=G.hi;have h2:=G.small;have hg:=yH G;clear G
  by_cases hq:(4294967296:Int)≤(q:Int)
  ·have st:=yH (aGl.step D1.out hg.out (.inl (by omega)))
   by_cases hr:(4294967296:Int)≤(r:Int)+(yn1:Int)
   ·go_wp2
    go_meet
    case rel=>exact⟨by rw[←pAO D1.out st.out.2.1 st.out.2.2.1 st.out.2.2.2 (by omega)];congr 1;omega,rfl⟩
   go_wp2
   go_round
   case rel=>exact⟨q - 1,r+yn1,by congr 1;omega,by congr 1,⟨st.out.2.1,by omega,st.out.2.2.1,by omega⟩⟩
   case measure=>simp[intOf];omega
  have n1:IntKind.u64.wrap ((q:Int)*(yn0:Int))=((q*yn0:Nat):Int):=aPs (by omega) hyn0
  by_cases ht:4294967296*r+d1<q*yn0
  ·have st:=yH (aGl.step D1.out hg.out (.inr ht));have h1q:(1:Int)≤q:=by have:=st.out.1;omega
   have ht':4294967296*(r:Int)+(d1:Int)<((q*yn0:Nat):Int):=by omega
   clear ht;generalize q*yn0=p at *
   by_cases hr:(4294967296:Int)≤(r:Int)+(yn1:Int)
   ·go_wp2
    go_meet
    case rel=>exact⟨by rw[←pAO D1.out st.out.2.1 st.out.2.2.1 st.out.2.2.2 (by omega)];congr 1;omega,rfl⟩
   go_wp2
   go_round
   case rel=>exact⟨q - 1,r+yn1,by congr 1;omega,by congr 1,⟨st.out.2.1,by omega,st.out.2.2.1,by omega⟩⟩
   case measure=>simp[intOf];omega
  have he:=yH (aGl.done D1.out hg.out (by omega));have ht':((q*yn0:Nat):Int)≤4294967296*(r:Int)+(d1:Int):=by omega
  clear ht;generalize q*yn0=p at *;go_wp2
  go_meet
  case rel=>exact⟨by rw[←he.out],rfl⟩
 obtain⟨rfl,rfl⟩:=hcut;have e17:=div_rest (u:=u) (d:=d1) (Y:=Y) (by omega) hd1;have hql:(u*4294967296+d1)/Y<4294967296:=aR3 D1.out;have hu2:(u*4294967296+d1)%Y<Y:=Nat.mod_lt _ (by omega);have D2:=yH (D0.out _ hu2);generalize k1:(u*4294967296+d1)/Y=Q1 at *;generalize k2:(u*4294967296+d1)%Y=v at *;have K1:=yH k1;have K2:=yH k2;clear k1 k2;have e15:IntKind.u64.wrap ((v:Int)/(yn1:Int))=((v/yn1:Nat):Int):=aR4 (by omega) (by omega);have e16:IntKind.u64.wrap ((v:Int) - IntKind.u64.wrap (((v/yn1:Nat):Int)*(yn1:Int)))=((v%yn1:Nat):Int):=guess_r (by omega);have G0:=yH (aGl.start D2.out);generalize v/yn1=q0 at e15 e16 G0;generalize v%yn1=r0 at e16 G0
 go_upto_block 2 with fail
 go_cut [16,18] (fun _ a w'=>a=.int .u64 (((v*4294967296+d0)/Y:Nat):Int)∧w=w')
 case first=>
  go_wp2_with fail
  go_loop [18,16] (GuessAt Y yn1 yn0 v d0) (fun a _=>(intOf a).toNat)
  case atStart=>exact⟨q0,r0,rfl,rfl,G0.out⟩
  obtain⟨q,r,rfl,rfl,G⟩:=hrel;have h1:=G.hi;have h2:=G.small;have hg:=yH G;clear G
  by_cases hq:(4294967296:Int)≤(q:Int)
  ·have st:=yH (aGl.step D2.out hg.out (.inl (by omega)))
   by_cases hr:(4294967296:Int)≤(r:Int)+(yn1:Int)
   ·go_wp2
    go_meet
    case rel=>exact⟨by rw[←pAO D2.out st.out.2.1 st.out.2.2.1 st.out.2.2.2 (by omega)];congr 1;omega,rfl⟩
   go_wp2
   go_round
   case rel=>exact⟨q - 1,r+yn1,by congr 1;omega,by congr 1,⟨st.out.2.1,by omega,st.out.2.2.1,by omega⟩⟩
   case measure=>simp[intOf];omega
  have n1:IntKind.u64.wrap ((q:Int)*(yn0:Int))=((q*yn0:Nat):Int):=aPs (by omega) hyn0
  by_cases ht:4294967296*r+d0<q*yn0
  ·have st:=yH (aGl.step D2.out hg.out (.inr ht));have h1q:(1:Int)≤q:=by have:=st.out.1;omega
   have ht':4294967296*(r:Int)+(d0:Int)<((q*yn0:Nat):Int):=by omega
   clear ht;generalize q*yn0=p at *
   by_cases hr:(4294967296:Int)≤(r:Int)+(yn1:Int)
   ·go_wp2
    go_meet
    case rel=>exact⟨by rw[←pAO D2.out st.out.2.1 st.out.2.2.1 st.out.2.2.2 (by omega)];congr 1;omega,rfl⟩
   go_wp2
   go_round
   case rel=>exact⟨q - 1,r+yn1,by congr 1;omega,by congr 1,⟨st.out.2.1,by omega,st.out.2.2.1,by omega⟩⟩
   case measure=>simp[intOf];omega
  have he:=yH (aGl.done D2.out hg.out (by omega));have ht':((q*yn0:Nat):Int)≤4294967296*(r:Int)+(d0:Int):=by omega
  clear ht;generalize q*yn0=p at *;go_wp2
  go_meet
  case rel=>exact⟨by rw[←he.out],rfl⟩
 obtain⟨rfl,rfl⟩:=hcut;have e18:=div_rest (u:=v) (d:=d0) (Y:=Y) (by omega) hd0;have hql2:(v*4294967296+d0)/Y<4294967296:=aR3 D2.out;have hv2:(v*4294967296+d0)%Y<Y:=Nat.mod_lt _ (by omega);generalize k3:(v*4294967296+d0)/Y=Q0 at e18 hql2 ⊢;generalize k4:(v*4294967296+d0)%Y=z at e18 hv2;have K3:=yH k3;have K4:=yH k4;clear k3 k4;go_wp2;go_ret2;refine⟨?_,rfl⟩;simp only[Array.getD_eq_getD_getElem?,List.getElem?_toArray,List.getElem?_cons_succ,List.getElem?_cons_zero,Option.getD_some];simp only[K1.out,K2.out,K3.out,K4.out]
theorem shl_or{hi lo s:Nat}(hs:s≤63)(hh:hi*2 ^ s<18446744073709551616)(hlo:lo<18446744073709551616):
  bits .or .u64 (IntKind.u64.wrap ((hi:Int)*2 ^ s)) ((lo:Int)/2 ^ (64 - s))=((hi*2 ^ s+lo/2 ^ (64 - s):Nat):Int):=by
 have e1:IntKind.u64.wrap ((hi:Int)*2 ^ s)=((hi*2 ^ s:Nat):Int):=by
  rw[show((hi:Int)*2 ^ s)=((hi*2 ^ s:Nat):Int) by simp,aBi];omega
 have hp:(2:Nat) ^ s*2 ^ (64 - s)=18446744073709551616:=by rw[←Nat.pow_add,show s+(64 - s)=64 by omega]
 have hl:lo/2 ^ (64 - s)<2 ^ s:=by rw[Nat.div_lt_iff_lt_mul (Nat.two_pow_pos _)];omega
 have e2:((lo:Int)/2 ^ (64 - s))=((lo/2 ^ (64 - s):Nat):Int):=by simp
 have hl2:lo/2 ^ (64 - s)≤lo:=Nat.div_le_self _ _;rw[e1,e2,bits_or_u64_nat _ _ hh (by omega),Nat.mul_comm,←Nat.two_pow_add_eq_or_of_lt hl]
theorem div64_zero(lo y:Nat)(w:World)(hy:0<y)(hy2:y<18446744073709551616)(hlo:lo<18446744073709551616):
  Calls Tryz.prog 222 #[.int .u64 0,.int .u64 lo,.int .u64 y] w fun e w'=>
   e=.returned (.tuple #[.int .u64 ((lo/y:Nat):Int),.int .u64 ((lo%y:Nat):Int)])∧Below w.heap.size w w':=by
 have n1:IntKind.u64.wrap ((lo:Int)/(y:Int))=((lo/y:Nat):Int):=aR4 (by omega) (by omega);go_enter Tryz.func222,Tryz.ntmps222;go_wp2
 go_quiet (fail)
 go_wp2;go_ret2;exact⟨rfl,below_drewN yZ _⟩
theorem two_digits(a d Y:Nat)(hY:0<Y):
  (a*4294967296+d)/Y=a/Y*4294967296+(a%Y*4294967296+d)/Y∧(a*4294967296+d)%Y=(a%Y*4294967296+d)%Y:=by
 have h:a*4294967296+d=Y*(a/Y*4294967296)+(a%Y*4294967296+d):=by
  have:=Nat.div_add_mod a Y;rw[←Nat.mul_assoc];generalize Y*(a/Y)=p at *;omega
 constructor
 ·rw[h,Nat.mul_add_div hY]
 rw[h,Nat.mul_add_mod]
theorem aR6(u L N:Nat)(h:u*18446744073709551616+L=N):(u*4294967296+L/4294967296)*4294967296+L%4294967296=N:=by
 have h2:=Nat.div_add_mod L 4294967296;generalize L/4294967296=p at *;generalize L%4294967296=q at *;rw[Nat.add_mul,Nat.mul_assoc,←h,←h2,Nat.mul_comm p];simp only[Nat.reduceMul,Nat.add_assoc]
theorem shl_digits(hi lo s:Nat)(hs:s≤63):
  (hi*2 ^ s+lo/2 ^ (64 - s))*18446744073709551616+lo*2 ^ s%18446744073709551616=(hi*18446744073709551616+lo)*2 ^ s:=by
 have hp:(2:Nat) ^ (64 - s)*2 ^ s=18446744073709551616:=by rw[←Nat.pow_add,show 64 - s+s=64 by omega]
 have e:lo/2 ^ (64 - s)=lo*2 ^ s/18446744073709551616:=by rw[←hp,Nat.mul_div_mul_right _ _ (Nat.two_pow_pos s)]
 rw[e,Nat.add_mul,Nat.add_mul,Nat.mul_right_comm hi];generalize hi*2 ^ s=p at *;generalize lo*2 ^ s=q at *;omega
theorem div64_pos(hi lo y:Nat)(w:World)(hh:0<hi)(hy:hi<y)(hy2:y<18446744073709551616)(hlo:lo<18446744073709551616):
  Calls Tryz.prog 222 #[.int .u64 hi,.int .u64 lo,.int .u64 y] w fun e w'=>
   e=.returned (.tuple #[.int .u64 (((hi*18446744073709551616+lo)/y:Nat):Int),.int .u64 (((hi*18446744073709551616+lo)%y:Nat):Int)])∧w=w':=by
 obtain⟨b1,b2,b3,b4⟩:=aJq y (by omega) (by omega);obtain⟨s,hs,hs2,hs3⟩:∃s:Nat,64 - (Lib.bitLen y:Int)=s∧s≤63∧Lib.bitLen y+s=64:=⟨64 - Lib.bitLen y,by omega,by omega,by omega⟩;have hp:=Nat.two_pow_pos s
 have p1:y*2 ^ s<18446744073709551616:=by
  have h:=Nat.mul_lt_mul_of_pos_right b3 hp;rw[←Nat.pow_add,hs3]at h;exact h
 have p2:9223372036854775808≤y*2 ^ s:=by
  have h:=Nat.mul_le_mul_right (2 ^ s) (b4.resolve_left (by omega));rw[←Nat.pow_add,hs3,Nat.mul_assoc]at h;generalize y*2 ^ s=p at *;omega
 have p3:hi*2 ^ s+2 ^ s≤y*2 ^ s:=by
  have:=Nat.mul_le_mul_right (2 ^ s) hy;rw[Nat.succ_mul]at this;exact this
 have hp2:(2:Nat) ^ (64 - s)*2 ^ s=18446744073709551616:=by rw[←Nat.pow_add,show 64 - s+s=64 by omega]
 have hl:lo/2 ^ (64 - s)<2 ^ s:=by rw[Nat.div_lt_iff_lt_mul (Nat.two_pow_pos _),Nat.mul_comm];omega
 have r4:=shl_or (hi:=hi) (lo:=lo) hs2 (by omega) hlo;have hdig:=shl_digits hi lo s hs2;have e1:(y:Int)*2 ^ s=((y*2 ^ s:Nat):Int):=by simp
 have e5:(lo:Int)*2 ^ s=((lo*2 ^ s:Nat):Int):=by simp
 have hc:=aR5 hi lo y w hh hy hy2 hlo s (y*2 ^ s) (y*2 ^ s/4294967296) (y*2 ^ s%4294967296) (hi*2 ^ s+lo/2 ^ (64 - s)) (lo*2 ^ s%18446744073709551616)
  (lo*2 ^ s%18446744073709551616/4294967296) (lo*2 ^ s%18446744073709551616%4294967296) (yH hs) hs2
  (by rw[e1,aBi];omega) (by omega) (maskN _ p1) r4 (by rw[e5,aBi];omega) (by omega) (maskN _ (by omega))
  (yH ⟨by omega,by omega,by omega,by omega,by omega,by omega⟩) (yH (fun u' hu'=>⟨by omega,by omega,by omega,by omega,hu',by omega⟩))
  p1 p2 (by omega) (by omega) (by omega) (by omega) (by omega) (by omega)
 refine hc.mono ?_;rintro e w' ⟨rfl,rfl⟩;refine⟨?_,rfl⟩;have hN:((hi*2 ^ s+lo/2 ^ (64 - s))*4294967296+lo*2 ^ s%18446744073709551616/4294967296)*4294967296+lo*2 ^ s%18446744073709551616%4294967296=(hi*18446744073709551616+lo)*2 ^ s:=aR6 _ _ _ hdig;obtain⟨t1,t2⟩:=two_digits ((hi*2 ^ s+lo/2 ^ (64 - s))*4294967296+lo*2 ^ s%18446744073709551616/4294967296) (lo*2 ^ s%18446744073709551616%4294967296) (y*2 ^ s) (by omega);rw[hN,Nat.mul_div_mul_right _ _ hp]at t1;rw[hN,Nat.mul_mod_mul_right]at t2;rw[←t2,t1]
 have e6:(((hi*18446744073709551616+lo)%y*2 ^ s:Nat):Int)/2 ^ s=(((hi*18446744073709551616+lo)%y:Nat):Int):=by
  rw[show((2:Int) ^ s)=((2 ^ s:Nat):Int) by simp,←Int.natCast_ediv,Nat.mul_div_cancel _ hp]
 rw[e6];simp only[Int.natCast_add,Int.natCast_mul];rfl
theorem div64_any(hi lo y:Int)(w:World)(hh:0≤hi)(hy:hi<y)(hy2:y<18446744073709551616)(hlo:aDu lo):
  Calls Tryz.prog 222 #[.int .u64 hi,.int .u64 lo,.int .u64 y] w fun e w'=>
   e=.returned (.tuple #[.int .u64 ((hi*18446744073709551616+lo)/y),.int .u64 ((hi*18446744073709551616+lo)%y)])∧Below w.heap.size w w':=by
 unfold aDu at hlo;obtain⟨H,rfl⟩:=Int.eq_ofNat_of_zero_le hh;obtain⟨L,rfl⟩:=Int.eq_ofNat_of_zero_le hlo.1;obtain⟨Y,rfl⟩:=Int.eq_ofNat_of_zero_le (show 0≤y by omega);rcases Nat.eq_zero_or_pos H with rfl|hH
 ·refine(div64_zero L Y w (by omega) (by omega) (by omega)).mono ?_;rintro e w' ⟨rfl,hb⟩;refine⟨?_,hb⟩;simp
 refine(div64_pos H L Y w hH (by omega) (by omega) (by omega)).mono ?_;rintro e w' ⟨rfl,rfl⟩;refine⟨?_,yZ⟩;simp
def hi64(x:Int):Int:=x/18446744073709551616%18446744073709551616
def lo64(x:Int):Int:=x%18446744073709551616
def aJ1(x:Int):Value:=.agg #[.int .u64 (hi64 x),.int .u64 (lo64 x)]
theorem aR7(x:Int):aDu (hi64 x):=by unfold hi64 aDu;omega
theorem aR8(x:Int):aDu (lo64 x):=by unfold lo64 aDu;omega
theorem aEg(x:Int):aJ1 x=.agg #[.int .u64 (hi64 x),.int .u64 (lo64 x)]:=rfl
theorem aN2(x a b:Int)(ha:a=hi64 x)(hb:b=lo64 x):Value.agg #[.int .u64 a,.int .u64 b]=aJ1 x:=by rw[ha,hb];rfl
def okN(x:Int):Int:=if In64 x then x else 0
def erN(x:Int):Int:=if In64 x then 0 else 10
def ans(x:Int):Value:=.tuple #[.int .i64 (okN x),.int .i64 (erN x)]
theorem aIj(n:Int)(w:World)(h:In64 n):
  Calls Tryz.prog 129 #[.int .i64 n] w (yR w (aJ1 n)):=by
 have hv:=yH (aN2 n (IntKind.u64.wrap (n/9223372036854775808)) (IntKind.u64.wrap n) (by unfold In64 at h;rw[aBi,hi64];omega) (by rw[aBi,lo64]));obtain⟨h1,h2⟩:=h;go_enter Tryz.func129,Tryz.ntmps129;go_wp2;refine bodyPost_ret (v:=aJ1 n) ?_ rfl ⟨rfl,yZ.alloc yL _⟩;simp[results,Tryz.results129,go_sem];exact hv.out
theorem plus_any(x y:Int)(w:World):
  Calls Tryz.prog 128 #[aJ1 x,aJ1 y] w (yR w (aJ1 (x+y))):=by
 have bx:=aR8 x;have by':=aR8 y;have cx:=aR7 x;have cy:=aR7 y
 have hv:=yH (aN2 (x+y) ((hi64 x+hi64 y+(lo64 x+lo64 y)/18446744073709551616)%18446744073709551616) ((lo64 x+lo64 y)%18446744073709551616) (by unfold hi64 lo64;omega) (by unfold lo64;omega));have a1:=fun w=>aPq (lo64 x) (lo64 y) 0 bx.1 by'.1 (by omega) (by omega) w
 unfold aDu at bx by' cx cy
 have a2:=fun w=>aPq (hi64 x) (hi64 y) ((lo64 x+lo64 y)/18446744073709551616) cx.1 cy.1 (by omega) (by omega) w
 simp only[Int.add_zero]at a1;rw[aEg,aEg];go_enter Tryz.func128,Tryz.ntmps128;go_wp2;refine bodyPost_ret (v:=aJ1 (x+y)) ?_ rfl ⟨rfl,((yZ.alloc yL _).alloc (by simp) _).alloc (by simp;omega) _⟩;simp[results,Tryz.results128,go_sem];exact hv.out
theorem prod_hi(a b:Int)(ha:In64 a)(hb:In64 b):
  ((a%18446744073709551616)*(b%18446744073709551616)/18446744073709551616 - (if a<0 then b else 0) - (if b<0 then a else 0))%18446744073709551616=hi64 (a*b):=by
 unfold hi64 In64 at *;obtain⟨s,hs,hs2⟩:∃s:Int,a%18446744073709551616=a+s*18446744073709551616∧s=if a<0 then 1 else 0:=⟨_,by split <;> omega,rfl⟩
 obtain⟨t,ht,ht2⟩:∃t:Int,b%18446744073709551616=b+t*18446744073709551616∧t=if b<0 then 1 else 0:=⟨_,by split <;> omega,rfl⟩
 rw[hs,ht];have e1:(if a<0 then b else 0)=s*b:=by rw[hs2];split <;> simp
 have e2:(if b<0 then a else 0)=t*a:=by rw[ht2];split <;> simp
 rw[e1,e2]
 have e3:(a+s*18446744073709551616)*(b+t*18446744073709551616)=a*b+(s*b+t*a+s*t*18446744073709551616)*18446744073709551616:=by
  simp only[Int.add_mul,Int.mul_add]
  rw[show s*18446744073709551616*b=s*b*18446744073709551616 by rw[Int.mul_assoc,Int.mul_comm 18446744073709551616 b,←Int.mul_assoc],
   show s*18446744073709551616*(t*18446744073709551616)=s*t*18446744073709551616*18446744073709551616 by
    rw[←Int.mul_assoc,Int.mul_assoc s 18446744073709551616 t,Int.mul_comm 18446744073709551616 t,←Int.mul_assoc],
   show a*(t*18446744073709551616)=t*a*18446744073709551616 by rw[←Int.mul_assoc,Int.mul_comm a t]]
  omega
 rw[e3];generalize a*b=p at *;generalize s*b=q at *;generalize t*a=r at *;generalize s*t=u at *;omega
theorem mul_u64_bd(a b:Int)(ha:aDu a)(hb:aDu b):0≤a*b/18446744073709551616∧a*b/18446744073709551616<18446744073709551616:=by
 unfold aDu at *;have h0:0≤a*b:=Int.mul_nonneg ha.1 hb.1;have h1:a*b≤18446744073709551615*18446744073709551615:=Int.mul_le_mul (by omega) (by omega) hb.1 (by omega);omega
theorem prod_lo(a b:Int):(a%18446744073709551616)*(b%18446744073709551616)%18446744073709551616=lo64 (a*b):=by
 unfold lo64;rw[←Int.mul_emod]
theorem aR9(a b:Int)(w:World)(ha:In64 a)(hb:In64 b):
  Calls Tryz.prog 221 #[.int .i64 a,.int .i64 b] w (yR w (aJ1 (a*b))):=by
 have hh:=yH (prod_hi a b ha hb);have hl:=yH (prod_lo a b);have ua:IntKind.u64.wrap a=a%18446744073709551616:=aBi a;have ub:IntKind.u64.wrap b=b%18446744073709551616:=aBi b;have ia:aDu (a%18446744073709551616):=by unfold aDu;omega
 have ib:aDu (b%18446744073709551616):=by unfold aDu;omega
 obtain⟨a1,a2⟩:=ha;obtain⟨b1,b2⟩:=hb
 by_cases na:a<0 <;> by_cases nb:b<0
 all_goals
  go_enter Tryz.func221,Tryz.ntmps221;go_wp2_with (go_at_call 25;refine(aGk _ _ _ ia ib).mono ?_;rintro e w' ⟨rfl,rfl⟩);refine bodyPost_ret (v:=aJ1 (a*b)) ?_ rfl ⟨rfl,yZ.alloc yL _⟩;simp[results,Tryz.results221,go_sem];refine aN2 _ _ _ ?_ hl.out;rw[←hh.out]
  try simp only[aBi]
  have hP:=mul_u64_bd _ _ ia ib;generalize a%18446744073709551616*(b%18446744073709551616)=p at hP ⊢
  (repeat' split) <;> omega
theorem aSa(a b c d:Int)(w:World):
  (Op.equalIn 10000 185 (.agg #[.int .u64 a,.int .u64 b]) (.agg #[.int .u64 c,.int .u64 d])).run Tryz.prog w=.ok (a==c && b==d) w:=by
 have h:=aE7 (P:=Tryz.prog) 9999 185 39 2 Tryz.underlying185 (fun w=>by kernel_rfl) (fun w=>by kernel_rfl) #[.int .u64 a,.int .u64 b] #[.int .u64 c,.int .u64 d] rfl rfl
  (fun i=>if i=0 then a==c else b==d) (by
   intro i x y w hx hy
   match i,hx,hy with
   | 0,hx,hy=>simp at hx hy;subst hx hy;exact run_equalIn_int w 9998 39 .u64 .u64 a c Tryz.underlying39
   | 1,hx,hy=>simp at hx hy;subst hx hy;exact run_equalIn_int w 9998 39 .u64 .u64 b d Tryz.underlying39
   | n+2,hx,_=>simp at hx) w
 rw[h];simp[List.range_succ]
theorem narrow_eq(x:Int)(h1:-170141183460469231731687303715884105728≤x)(h2:x<170141183460469231731687303715884105728):
  wrap64 (lo64 x)=x∨(¬In64 x∧(hi64 (wrap64 (lo64 x))==hi64 x && lo64 (wrap64 (lo64 x))==lo64 x)=false):=by
 obtain⟨h3,h4⟩:=aIs (lo64 x);generalize wrap64 (lo64 x)=y at *;unfold In64 hi64 lo64 at *
 by_cases h:y=x
 ·exact .inl h
 right
 constructor
 ·omega
 rw[Bool.and_eq_false_iff];left;rw[beq_eq_false_iff_ne];omega
theorem aMx(x:Int)(w:World)(h1:-170141183460469231731687303715884105728≤x)(h2:x<170141183460469231731687303715884105728):
  Calls Tryz.prog 130 #[aJ1 x] w (yR w (ans x)):=by
 have hq:=aSa;have h64:=(aIs (lo64 x)).1;have key:=narrow_eq x h1 h2;clear h1 h2;rw[aEg];go_enter Tryz.func130,Tryz.ntmps130;go_wp2;have hk:=pAA w #[Value.int IntKind.u64 (hi64 x),Value.int IntKind.u64 (lo64 x)] 185;have hbw:Below w.heap.size w (w.alloc (Obj.cells #[Value.int IntKind.u64 (hi64 x),Value.int IntKind.u64 (lo64 x)] 185)):=yZ.alloc yL _;have hs:w.heap.size<(w.alloc (Obj.cells #[Value.int IntKind.u64 (hi64 x),Value.int IntKind.u64 (lo64 x)] 185)).heap.size:=by simp
 generalize w.alloc (Obj.cells #[Value.int IntKind.u64 (hi64 x),Value.int IntKind.u64 (lo64 x)] 185)=W at *;have hc0:W.cell? ⟨w.heap.size,0,none⟩=some (.int .u64 (hi64 x)):=hk.cell 0;have hc1:W.cell? ⟨w.heap.size,1,none⟩=some (.int .u64 (lo64 x)):=hk.cell 1;generalize wrap64 (lo64 x)=y at *;have hfit:In64 x→okN x=x∧erN x=0:=fun h=>by simp[okN,erN,h]
 have hnot:¬In64 x→okN x=0∧erN x=10:=fun h=>by simp[okN,erN,h]
 have hk1:=yH hfit;have hk2:=yH hnot;clear hfit hnot;rcases key with rfl|⟨hn,hne⟩
 ·go_region_held3 (fun w'=>w'.cell? ⟨w.heap.size,0,none⟩=some (.int .u64 (hi64 y))∧w'.cell? ⟨w.heap.size,1,none⟩=some (.int .u64 (lo64 y))) (go_keep)
   (first|(go_at_call 129;refine(aIj _ _ h64).mono ?_;simp only[aEg];rintro e w' ⟨rfl,hb⟩;have c0:=(bcell hb).1 _ 0 hs;have c1:=(bcell hb).1 _ 1 hs))
  go_wp2;go_ret2;refine⟨by rw[ans,(hk1.out h64).1,(hk1.out h64).2];rfl,hbw.trans ((pAB hb).mono (by simp;omega))⟩
 go_region_held3 (fun w'=>w'.cell? ⟨w.heap.size,0,none⟩=some (.int .u64 (hi64 x))∧w'.cell? ⟨w.heap.size,1,none⟩=some (.int .u64 (lo64 x))) (go_keep)
  (first|(go_at_call 129;refine(aIj _ _ h64).mono ?_;simp only[aEg];rintro e w' ⟨rfl,hb⟩;have c0:=(bcell hb).1 _ 0 hs;have c1:=(bcell hb).1 _ 1 hs))
 go_wp2;go_ret2;exact⟨by rw[ans,(hk2.out hn).1,(hk2.out hn).2];rfl,hbw.trans ((pAB hb).mono (by simp;omega))⟩
theorem add_any(a b:Int)(w:World)(ha:In64 a)(hb:In64 b):
  Calls Tryz.prog 208 #[.int .i64 a,.int .i64 b] w (yR w (ans (a+b))):=by
 have h1:-170141183460469231731687303715884105728≤a+b∧a+b<170141183460469231731687303715884105728:=by unfold In64 at ha hb;omega
 go_enter Tryz.func208,Tryz.ntmps208;go_wp2_with fail;refine(aIj a _ ha).mono ?_;rintro e w1 ⟨rfl,b1⟩;go_wp2_with fail;refine(aIj b _ hb).mono ?_;rintro e w2 ⟨rfl,b2⟩;go_wp2_with fail;refine(plus_any a b _).mono ?_;rintro e w3 ⟨rfl,b3⟩;go_wp2_with fail;refine(aMx (a+b) _ h1.1 h1.2).mono ?_;rintro e w4 ⟨rfl,b4⟩;unfold ans;go_wp2;go_ret2;exact⟨rfl,andB (andB (andB b1 b2) b3) b4⟩
theorem mul_bd(a b:Int)(ha:In64 a)(hb:In64 b):-170141183460469231731687303715884105728≤a*b∧a*b<170141183460469231731687303715884105728:=by
 unfold In64 at *
 have h:(a*b).natAbs≤9223372036854775808*9223372036854775808:=by
  rw[Int.natAbs_mul];exact Nat.mul_le_mul (by omega) (by omega)
 omega
def aSb(n den:Int):Int:=if In64 (n/den)then n%den else 0
def divV(n den:Int):Value:=.tuple #[.int .i64 (okN (n/den)),.int .i64 (aSb n den),.int .i64 (erN (n/den))]
theorem aMy(a num den:Int)(w:World)(hbad:a<0∨num<0∨den<1):
  Calls Tryz.prog 207 #[.int .i64 a,.int .i64 num,.int .i64 den] w (yR w (.tuple #[.int .i64 0,.int .i64 0,.int .i64 1])):=by
 by_cases h1:a<0
 ·go_enter Tryz.func207,Tryz.ntmps207;go_wp2_with fail
  go_ret3
  exact⟨rfl,yZ⟩
 by_cases h2:num<0
 ·go_enter Tryz.func207,Tryz.ntmps207;go_wp2_with fail
  go_ret3
  exact⟨rfl,yZ⟩
 have h3:den<1:=by omega
 go_enter Tryz.func207,Tryz.ntmps207;go_wp2_with fail
 go_ret3
 exact⟨rfl,yZ⟩
theorem div_facts(n den:Int)(h0:0≤n)(h1:n<170141183460469231731687303715884105728)(hd:1≤den)(hd2:In64 den):
  hi64 n=n/18446744073709551616∧hi64 n*18446744073709551616+lo64 n=n∧(den≤hi64 n→¬In64 (n/den))∧
  (hi64 n<den→aDu (n/den))∧In64 (n%den):=by
 unfold In64 at hd2;have e:hi64 n=n/18446744073709551616:=by unfold hi64;omega
 have hm:=Int.emod_nonneg n (show den≠0 by omega);have hm2:=Int.emod_lt_of_pos n (show 0<den by omega);have hq:=Int.ediv_nonneg h0 (show 0≤den by omega);have hdm:=Int.mul_ediv_add_emod n den;refine⟨e,by rw[e];unfold lo64;omega,?_,?_,by unfold In64;omega⟩
 ·intro h hc;unfold In64 at hc;rw[e]at h;have h2:den*(n/den)≤den*9223372036854775807:=Int.mul_le_mul_of_nonneg_left hc.2 (by omega);generalize den*(n/den)=p at *;omega
 intro h;rw[e]at h;refine⟨hq,?_⟩;rw[Int.ediv_lt_iff_lt_mul (by omega)];omega
theorem aMz(a num den:Int)(w:World)(ha:In64 a)(hn:In64 num)(hd:In64 den)(h1:0≤a)(h2:0≤num)(h3:1≤den):
  Calls Tryz.prog 207 #[.int .i64 a,.int .i64 num,.int .i64 den] w (yR w (divV (a*num) den)):=by
 have hmb:=mul_bd a num ha hn;have h0:0≤a*num:=Int.mul_nonneg h1 h2;obtain⟨f1,f2,f3,f4,f5⟩:=div_facts (a*num) den h0 hmb.2 h3 hd;have hpr:=yH (fun w=>aR9 a num w ha hn);have bl:=aR8 (a*num);have bh:=aR7 (a*num);unfold In64 at ha hn hd;unfold aDu at bl bh;have ud:IntKind.u64.wrap den=den:=by rw[aBi];omega
 have F2:=yH f2;have F3:=yH f3;have F4:=yH f4;have F5:=yH f5;clear f1 f2 f3 f4 f5 h0 hmb;generalize hN:a*num=n at *;clear hN
 by_cases hb:den≤hi64 n
 ·have hv:divV n den=.tuple #[.int .i64 0,.int .i64 0,.int .i64 10]:=by simp[divV,aSb,okN,erN,F3.out hb]
  have HV:=yH hv;clear hv;go_enter Tryz.func207,Tryz.ntmps207;go_wp2_with fail;refine(hpr.out _).mono ?_;simp only[aEg];rintro e w1 ⟨rfl,b1⟩;go_wp2_with fail
  go_ret3
  exact⟨by rw[HV.out];rfl,b1.trans (yZ.alloc b1.size _)⟩
 have hlt:hi64 n<den:=by omega
 have hq:=F4.out hlt;have hd6:=yH (fun w=>div64_any (hi64 n) (lo64 n) den w bh.1 hlt (by omega) bl)
 have hwq:aJ1 (n/den)=.agg #[.int .u64 0,.int .u64 (n/den)]:=by
  unfold aDu at hq;rw[aEg,show hi64 (n/den)=0 by unfold hi64;omega,show lo64 (n/den)=n/den by unfold lo64;omega]
 have hnar:=yH (fun w=>aMx (n/den) w (by unfold aDu at hq;omega) (by unfold aDu at hq;omega));rw[hwq]at hnar;have hr:=F5.out;clear hwq
 by_cases hf:In64 (n/den)
 ·have hv:divV n den=.tuple #[.int .i64 (n/den),.int .i64 (n%den),.int .i64 0]:=by simp[divV,aSb,okN,erN,hf]
  have hans:ans (n/den)=.tuple #[.int .i64 (n/den),.int .i64 0]:=by simp[ans,okN,erN,hf]
  rw[hans]at hnar;have HV:=yH hv;clear hv hans;go_enter Tryz.func207,Tryz.ntmps207;go_wp2_with fail;refine(hpr.out _).mono ?_;simp only[aEg];rintro e w1 ⟨rfl,b1⟩;go_wp2_with fail;refine(hd6.out _).mono ?_;rw[F2.out];rintro e w2 ⟨rfl,b2⟩;go_wp2_with fail;refine(hnar.out _).mono ?_;rintro e w3 ⟨rfl,b3⟩;go_wp2_with fail
  go_ret3
  refine⟨by have e:=HV.out;rw[←aB4 _ hr]at e;rw[e];rfl,?_⟩;have c1:Below w.heap.size w (w1.alloc (.cells #[.int .u64 (hi64 n),.int .u64 (lo64 n)] 185)):=b1.alloc b1.size _;exact andB (andB c1 b2) b3
 have hv:divV n den=.tuple #[.int .i64 0,.int .i64 0,.int .i64 10]:=by simp[divV,aSb,okN,erN,hf]
 have hans:ans (n/den)=.tuple #[.int .i64 0,.int .i64 10]:=by simp[ans,okN,erN,hf]
 rw[hans]at hnar;have HV:=yH hv;clear hv hans;go_enter Tryz.func207,Tryz.ntmps207;go_wp2_with fail;refine(hpr.out _).mono ?_;simp only[aEg];rintro e w1 ⟨rfl,b1⟩;go_wp2_with fail;refine(hd6.out _).mono ?_;rw[F2.out];rintro e w2 ⟨rfl,b2⟩;go_wp2_with fail;refine(hnar.out _).mono ?_;rintro e w3 ⟨rfl,b3⟩;go_wp2_with fail
 go_ret3
 refine⟨by rw[HV.out];rfl,?_⟩;have c1:Below w.heap.size w (w1.alloc (.cells #[.int .u64 (hi64 n),.int .u64 (lo64 n)] 185)):=b1.alloc b1.size _;exact andB (andB c1 b2) b3
def aHs(a num den:Int):Value:=if a<0∨num<0∨den<1 then .tuple #[.int .i64 0,.int .i64 1]else ans (a*num/den)
theorem down_any(a num den:Int)(w:World)(ha:In64 a)(hn:In64 num)(hd:In64 den):
  Calls Tryz.prog 206 #[.int .i64 a,.int .i64 num,.int .i64 den] w (yR w (aHs a num den)):=by
 by_cases hbad:a<0∨num<0∨den<1
 ·have hv:=yH (show aHs a num den=.tuple #[.int .i64 0,.int .i64 1] by simp[aHs,hbad]);have hc:=yH (fun w=>aMy a num den w hbad);clear hbad;go_enter Tryz.func206,Tryz.ntmps206;go_wp2_with fail;refine(hc.out _).mono ?_;rintro e w1 ⟨rfl,b1⟩;go_wp2_with fail;go_ret2;exact⟨by rw[hv.out];rfl,b1⟩
 have hv:=yH (show aHs a num den=ans (a*num/den) by simp[aHs,hbad]);have hc:=yH (fun w=>aMz a num den w ha hn hd (by omega) (by omega) (by omega));clear hbad;go_enter Tryz.func206,Tryz.ntmps206;go_wp2_with fail;refine(hc.out _).mono ?_;unfold divV;rintro e w1 ⟨rfl,b1⟩;go_wp2_with fail;go_ret2;exact⟨by rw[hv.out];rfl,b1⟩
def upN(n den:Int):Int:=if n%den=0 then n/den else n/den+1
def upV(a num den:Int):Value:=if a<0∨num<0∨den<1 then .tuple #[.int .i64 0,.int .i64 1]else ans (upN (a*num) den)
theorem up_any(a num den:Int)(w:World)(ha:In64 a)(hn:In64 num)(hd:In64 den):
  Calls Tryz.prog 186 #[.int .i64 a,.int .i64 num,.int .i64 den] w (yR w (upV a num den)):=by
 by_cases hbad:a<0∨num<0∨den<1
 ·have hv:=yH (show upV a num den=.tuple #[.int .i64 0,.int .i64 1] by simp[upV,hbad]);have hc:=yH (fun w=>aMy a num den w hbad);clear hbad;go_enter Tryz.func186,Tryz.ntmps186;go_wp2_with fail;refine(hc.out _).mono ?_;rintro e w1 ⟨rfl,b1⟩;go_wp2_with fail;go_ret2;exact⟨by rw[hv.out];rfl,b1⟩
 have hv:=yH (show upV a num den=ans (upN (a*num) den) by simp[upV,hbad]);have hc:=yH (fun w=>aMz a num den w ha hn hd (by omega) (by omega) (by omega));have h0:0≤a*num:=Int.mul_nonneg (by omega) (by omega);have hq0:0≤a*num/den:=Int.ediv_nonneg h0 (by omega);clear hbad;generalize a*num=n at *
 by_cases hf:In64 (n/den)
 ·by_cases hz:n%den=0
  ·have hdv:divV n den=.tuple #[.int .i64 (n/den),.int .i64 0,.int .i64 0]:=by simp[divV,aSb,okN,erN,hf,hz]
   have hans:ans (upN n den)=.tuple #[.int .i64 (n/den),.int .i64 0]:=by simp[ans,upN,hz,okN,erN,hf]
   have hA:=yH hans;rw[hdv]at hc;clear hdv hans hz;go_enter Tryz.func186,Tryz.ntmps186;go_wp2_with fail;refine(hc.out _).mono ?_;rintro e w1 ⟨rfl,b1⟩;go_wp2_with fail;go_ret2;exact⟨by rw[hv.out,hA.out];rfl,b1⟩
  have hdv:divV n den=.tuple #[.int .i64 (n/den),.int .i64 (n%den),.int .i64 0]:=by simp[divV,aSb,okN,erN,hf]
  have hans:upN n den=n/den+1:=by simp[upN,hz]
  have hA:=yH hans;have hb:(n%den==0)=false:=by simp[hz]
  have hadd:=yH (fun w=>add_any (n/den) 1 w hf (by unfold In64;omega));rw[hdv]at hc;clear hdv hans hz;go_enter Tryz.func186,Tryz.ntmps186;go_wp2_with fail;refine(hc.out _).mono ?_;rintro e w1 ⟨rfl,b1⟩;go_wp2_with fail;refine(hadd.out _).mono ?_;unfold ans;rintro e w2 ⟨rfl,b2⟩;go_wp2_with fail;go_ret2;exact⟨by rw[hv.out,hA.out];rfl,andB b1 b2⟩
 have hdv:divV n den=.tuple #[.int .i64 0,.int .i64 0,.int .i64 10]:=by simp[divV,aSb,okN,erN,hf]
 have hnf:¬In64 (upN n den):=by unfold upN;unfold In64 at *;split <;> omega
 have hans:ans (upN n den)=.tuple #[.int .i64 0,.int .i64 10]:=by simp[ans,okN,erN,hnf]
 have hA:=yH hans;rw[hdv]at hc;clear hdv hans hnf;go_enter Tryz.func186,Tryz.ntmps186;go_wp2_with fail;refine(hc.out _).mono ?_;rintro e w1 ⟨rfl,b1⟩;go_wp2_with fail;go_ret2;exact⟨by rw[hv.out,hA.out];rfl,b1⟩
theorem aPt(x:Int)(h:In64 x):ans x=.tuple #[.int .i64 x,.int .i64 0]:=by simp[ans,okN,erN,h]
theorem aLk(x:Int)(h:¬In64 x):ans x=.tuple #[.int .i64 0,.int .i64 10]:=by simp[ans,okN,erN,h]
end Go.Proofs.YtaeocliklpcgmaaGreat
