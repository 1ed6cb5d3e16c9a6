/- Pieces of one proof. -/
import Derived.Test.YtaeocliklpcgmaaGreatP14
import Derived.ScopeJumps
import Derived.WalkMore
import Derived.LoopN
set_option linter.all false
set_option maxHeartbeats 64000000
set_option maxRecDepth 100000
namespace Go.Proofs.YtaeocliklpcgmaaGreat
open Go.RowKit
theorem aN3(x k:Nat):x/2 ^ k=2*(x/2 ^ (k+1))+(if x.testBit k then 1 else 0):=by
 rw[←aHa,Nat.pow_succ,←Nat.div_div_eq_div_mul];omega
theorem aIk{k:Nat}(h:64≤k):(18446744073709551616:Nat)≤2 ^ k:=by
 have:=Nat.pow_le_pow_right (n:=2) (by omega) h;exact this
def NumAt(x:Nat)(u i:Value):Prop:=(∃k:Nat,k<192∧i=.int .i64 k∧u=.int .u64 ((x/2 ^ (k+1):Nat):Int))∨(i=.int .i64 (-1)∧u=.int .u64 x)
theorem num_next{x:Nat}(k:Nat)(hk:k<192){u:Int}(hu:u=((x/2 ^ k:Nat):Int)):NumAt x (.int .u64 u) (.int .i64 ((k:Int) - 1)):=by
 rcases Nat.eq_zero_or_pos k with rfl|hp
 ·right;simp at hu;exact⟨rfl,by rw[hu]⟩
 left;refine⟨k - 1,by omega,by rw[show(k:Int) - 1=((k - 1:Nat):Int) by omega],?_⟩
 rw[show k - 1+1=k by omega,hu]
theorem neg_back(x:Nat)(h:x≤9223372036854775808):wrap64 (IntKind.u64.wrap (bits .xor .u64 IntKind.u64.max (x:Int)+1)) = -(x:Int):=by
 rw[u64_not _ (by omega),aBi];obtain⟨h1,h2⟩:=aIs ((18446744073709551615 - (x:Int)+1)%18446744073709551616);unfold In64 at h1;generalize wrap64 ((18446744073709551615 - (x:Int)+1)%18446744073709551616)=y at *;omega
theorem num_small(neg:Bool)(x:Nat)(w:World)(hx:x<18446744073709551616):
  Calls Tryz.prog 216 #[aD6 neg x] w fun e w'=>e=.returned (ans (if neg then -(x:Int)else x))∧Below w.heap.size w w':=by
 have hhi:∀k,64≤k→x.testBit k=false:=fun k hk=>Nat.testBit_lt_two_pow (yM hx (aIk hk))
 have Hhi:=yH hhi;clear hhi;have hx':(x:Int)<18446744073709551616:=by omega
 have HX:=yH hx;clear hx;unfold aD6;go_enter Tryz.func216,Tryz.ntmps216;go_wp2;have k1:=pAA w (aAr neg x.testBit) 209;have hb:Below w.heap.size w (w.alloc (.cells (aAr neg x.testBit) 209)):=yZ.alloc yL _;generalize w.alloc (.cells (aAr neg x.testBit) 209)=W at *
 go_loop [4,5] (NumAt x) (fun _ i=>(intOf i+1).toNat)
 case atStart=>exact .inl ⟨191,by omega,rfl,by rw[Nat.div_eq_of_lt (yM HX.out (aIk (by omega)))];rfl⟩
 rcases hrel with⟨k,hk,rfl,rfl⟩|⟨rfl,rfl⟩
 ·have hcell:W.cell? ⟨w.heap.size,1+k,none⟩=some (.bool (x.testBit k)):=by rw[k1.cell (1+k)];exact aDs _ _ k hk
  have hki:(k:Int)<192:=by omega
  have hh:=aN3 x k;have hdl:x/2 ^ k≤x:=Nat.div_le_self _ _;have hl2:2*((x/2 ^ (k+1):Nat):Int)<18446744073709551616:=by omega
  have hbit:=Hhi.out k;have Hh:=yH hh;clear hh hdl;generalize x/2 ^ (k+1)=v at *
  cases hb2:x.testBit k
  ·rw[hb2]at hcell Hh;clear hbit hb2;go_wp2
   go_round
   case rel=>exact num_next k hk (by rw[Hh.out];simp)
   case measure=>simp[intOf] <;> omega
  have hk64:(k:Int)≤63:=by
   rcases Nat.lt_or_ge k 64 with h|h
   ·omega
   rw[hbit h]at hb2
   cases hb2
  rw[hb2]at hcell Hh;clear hbit hb2;have e1:IntKind.u64.wrap (2*(v:Int))=2*(v:Int):=aG8 _ (by unfold aDu;omega);have e2:IntKind.u64.wrap (2*(v:Int)+1)=2*(v:Int)+1:=aG8 _ (by unfold aDu;omega);have hg:decide ((63:Int)<(k:Int))=false:=by simp;omega
  clear hl2;go_wp2
  go_round
  case rel=>exact num_next k hk (by rw[Hh.out];simp)
  case measure=>simp[intOf] <;> omega
 have hcell:W.cell? ⟨w.heap.size,0,none⟩=some (.bool neg):=by rw[k1.cell 0];exact aFi _ _
 cases neg
 ·by_cases hbig:(9223372036854775808:Int)≤(x:Int)
  ·have hA:=yH (show ans (x:Int)=.tuple #[.int .i64 0,.int .i64 10]from aLk _ (by unfold In64;omega));go_wp2;go_ret2;exact⟨by rw[hA.out];rfl,hb⟩
  have hA:=yH (show ans (x:Int)=.tuple #[.int .i64 (x:Int),.int .i64 0]from aPt _ (by unfold In64;omega));go_wp2;go_ret2;exact⟨by rw[hA.out];rfl,hb⟩
 have hv:(x:Int)≤9223372036854775808→wrap64 (IntKind.u64.wrap (bits .xor .u64 IntKind.u64.max (x:Int)+1)) = -(x:Int):=fun h=>neg_back x (by omega)
 have hx0:(0:Int)≤x:=by omega
 generalize hz:(x:Int)=z at hx' hv hx0 ⊢;have HZ:=yH hz;clear hz
 by_cases hbig:z≤9223372036854775808
 ·have hA:=yH (show ans (-z)=.tuple #[.int .i64 (-z),.int .i64 0]from aPt _ (by unfold In64;omega));have hv':=hv hbig;clear hv;go_wp2;go_ret2;exact⟨by rw[HZ.out,hA.out];rfl,hb⟩
 have hbig2:9223372036854775808≤z:=by omega
 have hA:=yH (show ans (-z)=.tuple #[.int .i64 0,.int .i64 10]from aLk _ (by unfold In64;omega));clear hv;go_wp2;go_ret2;exact⟨by rw[HZ.out,hA.out];rfl,hb⟩
def NumBig(x:Nat)(i:Value):Prop:=∃k:Nat,64≤k∧k<192∧i=.int .i64 k∧x/2 ^ (k+1)=0
theorem num_big(neg:Bool)(x:Nat)(w:World)(hx:18446744073709551616≤x)(hx2:x<2 ^ 192):
  Calls Tryz.prog 216 #[aD6 neg x] w (yR w (.tuple #[.int .i64 0,.int .i64 10])):=by
 have HX:=yH hx;have H2:=yH hx2;clear hx hx2;unfold aD6;go_enter Tryz.func216,Tryz.ntmps216;go_wp2;have k1:=pAA w (aAr neg x.testBit) 209;have hb:Below w.heap.size w (w.alloc (.cells (aAr neg x.testBit) 209)):=yZ.alloc yL _;generalize w.alloc (.cells (aAr neg x.testBit) 209)=W at *
 go_loop [4,5] (fun u i=>u=.int .u64 0∧NumBig x i) (fun _ i=>(intOf i+1).toNat)
 case atStart=>exact⟨rfl,191,by omega,by omega,rfl,Nat.div_eq_of_lt H2.out⟩
 obtain⟨rfl,k,hk64,hk,rfl,hz⟩:=hrel;have hcell:W.cell? ⟨w.heap.size,1+k,none⟩=some (.bool (x.testBit k)):=by rw[k1.cell (1+k)];exact aDs _ _ k hk
 have hh:=aN3 x k;rw[hz]at hh;have Hh:=yH hh;have HK:=yH hk64;have hki:(k:Int)<192:=by omega
 have hk63:(63:Int)<(k:Int):=by omega
 clear hh hz hk64
 cases hb2:x.testBit k
 ·rw[hb2]at hcell Hh;clear hb2
  have hne:k≠64:=by
   rintro rfl;have h:=Hh.out;simp at h;have:=HX.out;omega
  have HN:=yH hne;clear hne;go_wp2
  go_round
  case rel=>exact⟨rfl,k - 1,by have:=HK.out;have:=HN.out;omega,by omega,by rw[show(k:Int) - 1=((k - 1:Nat):Int) by have:=HK.out;omega],by have:=HK.out;rw[show k - 1+1=k by omega,Hh.out];simp⟩
  case measure=>simp[intOf] <;> omega
 rw[hb2]at hcell;clear hb2;go_wp2;go_ret2;exact⟨rfl,hb⟩
theorem aSc(neg:Bool)(x:Nat)(w:World)(hx:x<2 ^ 192):
  Calls Tryz.prog 216 #[aD6 neg x] w fun e w'=>e=.returned (ans (if neg then -(x:Int)else x))∧Below w.heap.size w w':=by
 by_cases h:x<18446744073709551616
 ·exact num_small neg x w h
 rw[aLk _ (by unfold In64;cases neg <;> simp <;> omega)];exact num_big neg x w (by omega) hx
theorem aLl{w:World}{g:Nat}{neg:Bool}{f:Nat→Bool}{t:TypeId}(h:Blk w g (aAr neg f) t):w.rangeAt g 1 (arr f).toList:=by
 intro j v hv;rw[h.cell (1+j)]
 have hj:j<192:=by
  rcases Nat.lt_or_ge j 192 with h|h
  ·exact h
  rw[List.getElem?_eq_none (by simp[aA6];omega)]at hv;cases hv
 rw[aDs _ _ j hj];simpa [aB7 f j hj]using hv
theorem aM0(f:Nat→Bool):(Tryz.prog.info? 207).map (·.size)=some (arr f).toList.length:=by rw[Array.length_toList];exact aAo f
theorem times_step(x y k:Nat):x*(y%2 ^ (k+1))=if y.testBit k then x*(y%2 ^ k)+x*2 ^ k else x*(y%2 ^ k):=by
 rw[aRd,Nat.mul_add];split <;> simp
def TimesAt(na nb:Bool)(x y:Nat)(w:World)(i:Value)(wr:World):Prop:=
 ∃k:Nat,k≤64∧i=.int .i64 k∧Blk wr w.heap.size (aAr na x.testBit) 209∧Blk wr (w.heap.size+1) (aAr nb y.testBit) 209∧
  Blk wr (w.heap.size+1+1) (aAr false fun _=>false) 209∧Blk wr (w.heap.size+1+1+1) (aAr (!(na==nb)) (x*(y%2 ^ k)).testBit) 209∧Below w.heap.size w wr
theorem aLm(na nb:Bool)(x y:Nat)(w:World)(hy:y<18446744073709551616):
  Calls Tryz.prog 151 #[aD6 na x,aD6 nb y] w (yR w (aD6 (!(na==nb)) (x*y))):=by
 have hz:=aMw;have hne:=whole_ne;have hs0:=aMv;have HY:=yH hy;clear hy;unfold aD6;have k1:Blk ((((w.alloc (.cells (aAr na x.testBit) 209)).alloc (.cells (aAr nb y.testBit) 209)).alloc (.cells (aAr false fun _=>false) 209)).alloc (.cells (aAr false fun _=>false) 209)) (w.heap.size+1+1+1) (aAr false fun _=>false) 209:=pAC _ _ _ (by simp)
 have c1:(((w.alloc (.cells (aAr na x.testBit) 209)).alloc (.cells (aAr nb y.testBit) 209)).alloc (.cells (aAr false fun _=>false) 209)).cell? ⟨w.heap.size,0,none⟩=some (.bool na):=by
  have:=(((pAA w (aAr na x.testBit) 209).alloc (.cells (aAr nb y.testBit) 209)).alloc (.cells (aAr false fun _=>false) 209)).cell 0;rw[aFi]at this;exact this
 have c2:(((w.alloc (.cells (aAr na x.testBit) 209)).alloc (.cells (aAr nb y.testBit) 209)).alloc (.cells (aAr false fun _=>false) 209)).cell? ⟨w.heap.size+1,0,none⟩=some (.bool nb):=by
  have:=((pAC (w.alloc (.cells (aAr na x.testBit) 209)) (aAr nb y.testBit) 209 (g:=w.heap.size+1) (by simp)).alloc (.cells (aAr false fun _=>false) 209)).cell 0;rw[aFi]at this;exact this
 go_enter Tryz.func151,Tryz.ntmps151;go_wp2_with ((with_reducible refine wpList_store_row ?_ 209 (.tmp 5) (.tmp 12) ?_ (w.heap.size+1+1+1) (aAr (!(na==nb)) fun _=>false) ?_ ?_ 209 _ k1.out (aB3 _ _) (by simp only[aB2]) (aFj _ _) ?_);exact rfl;exact rfl;exact rfl;exact rfl)
 go_loopw [6] (TimesAt na nb x y w) (fun i _=>64 - (intOf i).toNat)
 case atStart=>
  refine⟨0,by omega,rfl,?_,?_,?_,?_,below_setRow ((((yZ.alloc yL _).alloc (by simp) _).alloc (by simp;omega) _).alloc (by simp;omega) _) (by omega) _⟩
  ·exact((((pAA _ _ _).alloc _).alloc _).alloc _).rowOther (by omega)
  ·exact(((pAC _ _ _ (by simp)).alloc _).alloc _).rowOther (by omega)
  ·exact((pAC _ _ _ (by simp)).alloc _).rowOther (by omega)
  rw[show x*(y%2 ^ 0)=0 by simp[Nat.mod_one],show(Nat.testBit 0)=fun _=>false from funext Nat.zero_testBit];exact k1.row
 obtain⟨k,hk,rfl,b1,b2,b3,b4,hb⟩:=hrel
 by_cases hkl:(k:Int)<64
 ·have hcell:wr.cell? ⟨w.heap.size+1,1+k,none⟩=some (.bool (y.testBit k)):=by rw[b2.cell (1+k)];exact aDs _ _ k (by omega)
  have hst:=yH (times_step x y k);have hs4:=b4.lt
  cases hbit:y.testBit k
  ·rw[hbit]at hcell hst;clear hbit;go_wp2;go_roundw
   case rel=>exact⟨k+1,by omega,by go_num,b1,b2,b3,by rw[hst.out];simpa using b4,hb⟩
   case measure=>simp[intOf] <;> omega
  rw[hbit]at hcell hst;clear hbit;have csh:=yH (fun w=>aMu x k w (by omega));have cpl:=yH (fun w=>aPo (x*(y%2 ^ k)) (x*2 ^ k) w);go_wp2_with fail
  refine aKn (by kernel_rfl) 8 [.pointer (some ⟨w.heap.size+1+1+1,1,none⟩),.agg (arr (x*(y%2 ^ k)).testBit),.pointer (some ⟨w.heap.size,1,none⟩),.agg (arr x.testBit),.int .i64 k,.agg (arr (x*2 ^ k).testBit),.agg (arr (x*(y%2 ^ k)+x*2 ^ k).testBit),.pointer (some ⟨w.heap.size+1+1+1,1,none⟩)]
   (fun w'=>Below wr.heap.size wr w') (by kernel_rfl) rfl (by kernel_rfl) yZ.drew ?_
  intro af haf;simp only[puts,Act.put,yA,yC,yF,yD,yE]at haf;subst haf;refine⟨?_,?_⟩
  ·simp only[List.take_succ_cons,List.take_zero,aBe];refine⟨?_,?_,?_,?_,?_,?_,?_,?_,trivial⟩
   all_goals
    intro w' hS;with_reducible refine yO rfl ?_
   ·go_wp2_with fail;all_goals first|rfl|exact⟨rfl,hS⟩
   ·refine wp_load_mid 207 (.tmp 21) rfl (w.heap.size+1+1+1) 1 rfl (arr (x*(y%2 ^ k)).testBit).toList _ (aLl (b4.below hS (by omega))) Tryz.underlying207 rfl (aM0 _) ?_;exact⟨by rw[Array.toArray_toList];first|done|rfl,hS⟩
   ·go_wp2_with fail;all_goals first|rfl|exact⟨rfl,hS⟩
   ·refine wp_load_mid 207 (.tmp 23) rfl w.heap.size 1 rfl (arr x.testBit).toList _ (aLl (b1.below hS (by omega))) Tryz.underlying207 rfl (aM0 _) ?_;exact⟨by rw[Array.toArray_toList];first|done|rfl,hS⟩
   ·go_wp2_with fail;all_goals first|rfl|exact⟨rfl,hS⟩
   ·go_wp2_with fail;refine(csh.out w').mono ?_;rintro e w'' ⟨rfl,hb2⟩;exact⟨rfl,andB hS hb2⟩
   ·go_wp2_with fail;refine(cpl.out w').mono ?_;rintro e w'' ⟨rfl,hb2⟩;exact⟨rfl,andB hS hb2⟩
   go_wp2_with fail;all_goals first|rfl|exact⟨rfl,hS⟩
  simp only[yC,yA];intro w' hS;with_reducible refine yO rfl ?_
  have q4:=b4.below hS (by omega);refine wp_store_mid 207 (.tmp 28) (.tmp 27) rfl (w.heap.size+1+1+1) 1 (arr (x*(y%2 ^ k)+x*2 ^ k).testBit) rfl rfl (by rw[aA6];exact aR0 q4) (aAo _) (aDo _) ⟨rfl,?_⟩;have q4':=yH (Blk.setCells (arr (x*(y%2 ^ k)+x*2 ^ k).testBit).toList 1 q4);have q1:=pAN (show w.heap.size≠w.heap.size+1+1+1 by omega) (arr (x*(y%2 ^ k)+x*2 ^ k).testBit).toList 1 (b1.below hS (by omega));have q2:=pAN (show w.heap.size+1≠w.heap.size+1+1+1 by omega) (arr (x*(y%2 ^ k)+x*2 ^ k).testBit).toList 1 (b2.below hS (by omega));have q3:=pAN (show w.heap.size+1+1≠w.heap.size+1+1+1 by omega) (arr (x*(y%2 ^ k)+x*2 ^ k).testBit).toList 1 (b3.below hS (by omega));have qb:=aHd (show w.heap.size≤w.heap.size+1+1+1 by omega) (arr (x*(y%2 ^ k)+x*2 ^ k).testBit).toList 1 (hb.trans (hS.mono hb.size));rw[aN1]at q4';generalize w'.setCells (w.heap.size+1+1+1) 1 (arr (x*(y%2 ^ k)+x*2 ^ k).testBit).toList=W2 at *;go_wp2_with fail;go_roundw
  case rel=>exact⟨k+1,by omega,by go_num,q1,q2,q3,by rw[hst.out];exact q4'.out,qb⟩
  case measure=>simp[intOf] <;> omega
 obtain rfl:k=64:=by omega
 rw[show y%2 ^ 64=y from Nat.mod_eq_of_lt HY.out]at b4
 go_wp2_with (first
  | ((with_reducible refine wpList_load_row ?_ 209 (.tmp 5) ?_ (w.heap.size+1+1+1) ?_ 209 (aAr (!(na==nb)) (x*y).testBit) (0,0) _ b4.out Tryz.underlying209 ?_ (aB3 _ _) ?_);exact rfl;exact rfl;exact rfl;exact rfl)
  | ((with_reducible refine wpList_store_row ?_ 209 (.tmp 4) (.tmp 29) ?_ (w.heap.size+1+1) (aAr (!(na==nb)) (x*y).testBit) ?_ ?_ 209 _ b3.out (aB3 _ _) (by simp only[aB2]) (aFj _ _) ?_);exact rfl;exact rfl;exact rfl;exact rfl))
 refine bodyPost_ret (v:=aD6 (!(na==nb)) (x*y)) (results_cell_row rfl _ _ (w.heap.size+1+1) 209 (aAr (!(na==nb)) (x*y).testBit) (0,0) _ rfl b3.row Tryz.underlying209 rfl (aB3 _ _)) rfl ⟨rfl,below_setRow hb (by omega) _⟩
theorem div_step(x y k:Nat)(hy:0<y):
  x/2 ^ k/y=2*(x/2 ^ (k+1)/y)+(if y≤2*(x/2 ^ (k+1)%y)+(if x.testBit k then 1 else 0)then 1 else 0)∧
  x/2 ^ k%y=2*(x/2 ^ (k+1)%y)+(if x.testBit k then 1 else 0) - (if y≤2*(x/2 ^ (k+1)%y)+(if x.testBit k then 1 else 0)then y else 0):=by
 have hh:=aN3 x k;rw[hh];generalize x/2 ^ (k+1)=n at *;have hb:(if x.testBit k then 1 else 0:Nat)≤1:=by split <;> omega
 generalize (if x.testBit k then 1 else 0:Nat)=b at *;have hdm:=Nat.div_add_mod n y;have hm:=Nat.mod_lt n hy
 have e:2*n+b=y*(2*(n/y))+(2*(n%y)+b):=by
  rw[Nat.mul_left_comm];omega
 have e1:(2*n+b)/y=2*(n/y)+(2*(n%y)+b)/y:=by rw[e,Nat.mul_add_div hy]
 have e2:(2*n+b)%y=(2*(n%y)+b)%y:=by rw[e,Nat.mul_add_mod]
 rw[e1,e2];generalize n%y=r at *
 by_cases h:y≤2*r+b
 ·rw[if_pos h,if_pos h];have e3:(2*r+b)/y=1:=Nat.div_eq_of_lt_le (by omega) (by omega);have e4:(2*r+b)%y=2*r+b - y:=by rw[Nat.mod_eq_sub_mod h,Nat.mod_eq_of_lt (by omega)]
  rw[e3,e4];omega
 have e3:(2*r+b)/y=0:=Nat.div_eq_of_lt (by omega);have e4:(2*r+b)%y=2*r+b:=Nat.mod_eq_of_lt (by omega);rw[if_neg h,if_neg h,e3,e4];omega
theorem quot_bit(x y k:Nat)(hy:0<y):(x/y).testBit k=decide (y≤2*(x/2 ^ (k+1)%y)+(if x.testBit k then 1 else 0)):=by
 have h:=(div_step x y k hy).1;rw[Nat.testBit_eq_decide_div_mod_eq,Nat.div_div_eq_div_mul,Nat.mul_comm y,←Nat.div_div_eq_div_mul,h,decide_eq_decide];generalize x/2 ^ (k+1)/y=m
 by_cases hc:y≤2*(x/2 ^ (k+1)%y)+(if x.testBit k then 1 else 0)
 ·rw[if_pos hc];simp only[hc,iff_true];omega
 rw[if_neg hc];simp only[hc,iff_false];omega
theorem double_set(r:Nat)(b:Bool):(arr (r*2 ^ 1).testBit).setIfInBounds 0 (.bool b)=arr (2*r+(if b then 1 else 0)).testBit:=by
 rw[aK1];refine aCa fun j hj=>?_
 cases j with
 | zero=>cases b <;> simp[Nat.testBit_zero] <;> omega
 | succ j=>
  rw[if_neg (by omega),Nat.testBit_succ,Nat.testBit_succ];congr 1
  cases b <;> simp <;> omega
theorem above_set(q k:Nat)(h:q.testBit k=true):(arr fun j=>decide (k+1≤j) && q.testBit j).setIfInBounds k (.bool true)=arr fun j=>decide (k≤j) && q.testBit j:=by
 rw[aK1];refine aCa fun j hj=>?_
 by_cases h1:j=k
 ·subst h1;simp[h]
 have:(k+1≤j)=(k≤j):=by simp;omega
 simp[h1,this]
theorem above_skip(q k:Nat)(h:q.testBit k=false):(arr fun j=>decide (k+1≤j) && q.testBit j)=arr fun j=>decide (k≤j) && q.testBit j:=by
 refine aCa fun j hj=>?_
 by_cases h1:j=k
 ·subst h1;simp[h]
 have:(k+1≤j)=(k≤j):=by simp;omega
 simp[this]
theorem aMc{P:Program}{fn:Func}{p q:Tmp}{ty:TypeId}(h:fn.results=#[.cell p ty,.cell q ty])(tmps:Array Value)(w:World)(g g':Nat)(t:TypeId)(cs cs':Array Value)(d:TypeDesc)
  (hp:tmps.getD p undef=.pointer (some ⟨g,0,none⟩))(hq:tmps.getD q undef=.pointer (some ⟨g',0,none⟩))(hg:w.heap[g]? = some (.cells cs t (0,0)))(hg':w.heap[g']? = some (.cells cs' t (0,0)))
  (hu:P.underlying ty=some d)(hd:(match d with | .struct _ | .array _ _=>true|_=>false)=true)(hi:(P.info? ty).map (·.size)=some cs.size)(hi':(P.info? ty).map (·.size)=some cs'.size):
  (results fn tmps).run P w=.ok (.tuple #[.agg cs,.agg cs']) w:=by
 have hp':tmps[p]?.getD undef=.pointer (some ⟨g,0,none⟩):=by simpa using hp
 have hq':tmps[q]?.getD undef=.pointer (some ⟨g',0,none⟩):=by simpa using hq
 simp[results,h,hp',hq',asAddr,run_loadVar_row w g t ty cs (0,0) d hg hu hd hi,run_loadVar_row w g' t ty cs' (0,0) d hg' hu hd hi']
def DivAt(x y:Nat)(w:World)(i:Value)(wr:World):Prop:=
 ∃k:Nat,k≤192∧i=.int .i64 ((k:Int) - 1)∧Blk wr w.heap.size (arr x.testBit) 207∧Blk wr (w.heap.size+1) (arr y.testBit) 207∧
  Blk wr (w.heap.size+1+1) (arr fun _=>false) 207∧Blk wr (w.heap.size+1+1+1) (arr fun _=>false) 207∧
  Blk wr (w.heap.size+1+1+1+1) (arr fun j=>decide (k≤j) && (x/y).testBit j) 207∧Blk wr (w.heap.size+1+1+1+1+1) (arr (x/2 ^ k%y).testBit) 207∧Below w.heap.size w wr
def DivI(x y:Nat)(w:World)(D:Nat→Bool)(w':World):Prop:=
 Blk w' (w.heap.size+1+1+1+1) (arr (x/y).testBit) 207∧Blk w' (w.heap.size+1+1+1+1+1) (arr (x%y).testBit) 207∧
 Blk w' (w.heap.size+1+1) (if D 2 then arr (x/y).testBit else arr fun _=>false) 207∧Blk w' (w.heap.size+1+1+1) (if D 3 then arr (x%y).testBit else arr fun _=>false) 207∧Below w.heap.size w w'
theorem aSd(x y:Nat)(w:World)(hx:x<2 ^ 192)(hy0:0<y)(hy:y<2 ^ 191):
  Calls Tryz.prog 215 #[aE3 x,aE3 y] w (yR w (.tuple #[aE3 (x/y),aE3 (x%y)])):=by
 have hz:=aG3;have HX:=yH hx;have HY0:=yH hy0;have HY:=yH hy;clear hx hy0 hy;rw[aBv,aBv];go_enter Tryz.func215,Tryz.ntmps215;go_wp2_with fail
 go_loopw [8] (DivAt x y w) (fun i _=>(intOf i+1).toNat)
 case atStart=>
  refine⟨192,by omega,rfl,?_,?_,?_,?_,?_,?_,(((((yZ.alloc yL _).alloc (by simp) _).alloc (by simp;omega) _).alloc (by simp;omega) _).alloc (by simp;omega) _).alloc (by simp;omega) _⟩
  ·exact(((((pAA _ _ _).alloc _).alloc _).alloc _).alloc _).alloc _
  ·exact((((pAC _ _ _ (by simp)).alloc _).alloc _).alloc _).alloc _
  ·exact(((pAC _ _ _ (by simp)).alloc _).alloc _).alloc _
  ·exact((pAC _ _ _ (by simp)).alloc _).alloc _
  ·rw[show(arr fun j=>decide (192≤j) && (x/y).testBit j)=arr fun _=>false from aCa fun i hi=>by simp;omega];exact(pAC _ _ _ (by simp)).alloc _
  rw[Nat.div_eq_of_lt HX.out,Nat.zero_mod,show(Nat.testBit 0)=fun _=>false from funext Nat.zero_testBit];exact pAC _ _ _ (by simp)
 obtain⟨k,hk,rfl,b0,b1,b2,b3,b4,b5,hb⟩:=hrel;rcases k with _|k
 ·simp only[Nat.pow_zero,Nat.div_one]at b5;rw[show(arr fun j=>decide (0≤j) && (x/y).testBit j)=arr (x/y).testBit from aCa fun i hi=>by simp]at b4;go_wp2_with fail;refine aIt (by kernel_rfl) [.agg (arr (x/y).testBit),.agg (arr (x%y).testBit),undef,undef] (DivI x y w) (by kernel_rfl) ⟨b4,b5,by simpa using b2.drew,by simpa using b3.drew,hb.drew⟩ ?_;intro af haf;simp only[puts,Act.put,yA,yC,yF,yD,yE]at haf;subst haf;refine⟨?_,?_⟩
  ·simp only[aJg];refine⟨?_,?_,?_,?_,trivial⟩
   all_goals
    intro D w' hD hwt hcl hI;obtain⟨i4,i5,i2,i3,ib⟩:=hI;with_reducible refine yO rfl ?_
   ·exact wp_load_row 207 (.tmp 6) rfl (w.heap.size+1+1+1+1) rfl 207 (arr (x/y).testBit) (0,0) _ i4.out Tryz.underlying207 rfl (aAo _) ⟨rfl,i4,i5,by simpa [ins]using i2,by simpa [ins]using i3,ib⟩
   ·exact wp_load_row 207 (.tmp 7) rfl (w.heap.size+1+1+1+1+1) rfl 207 (arr (x%y).testBit) (0,0) _ i5.out Tryz.underlying207 rfl (aAo _) ⟨rfl,i4,i5,by simpa [ins]using i2,by simpa [ins]using i3,ib⟩
   ·rw[hD]at i2;refine wp_store_row 207 (.tmp 4) (.tmp 28) rfl (w.heap.size+1+1) (arr (x/y).testBit) rfl rfl 207 _ i2.out (aAo _) (by simp only[Bool.false_eq_true,if_false,aA6]) (aDo _) ⟨rfl,?_⟩;exact⟨i4.rowOther (by omega),i5.rowOther (by omega),by simpa [ins]using i2.row,by simpa [ins]using i3.rowOther (by omega),below_setRow ib (by omega) _⟩
   rw[hD]at i3;refine wp_store_row 207 (.tmp 5) (.tmp 29) rfl (w.heap.size+1+1+1) (arr (x%y).testBit) rfl rfl 207 _ i3.out (aAo _) (by simp only[Bool.false_eq_true,if_false,aA6]) (aDo _) ⟨rfl,?_⟩;exact⟨i4.rowOther (by omega),i5.rowOther (by omega),by simpa [ins]using i2.rowOther (by omega),by simpa [ins]using i3.row,below_setRow ib (by omega) _⟩
  intro D w' hall hI;obtain⟨i4,i5,i2,i3,ib⟩:=hI;rw[hall 2 (by simp)]at i2;rw[hall 3 (by simp)]at i3;go_wp2_with fail;exact bodyPost_ret (v:=.tuple #[aE3 (x/y),aE3 (x%y)]) (aMc rfl _ _ (w.heap.size+1+1) (w.heap.size+1+1+1) 207 (arr (x/y).testBit) (arr (x%y).testBit) _ rfl rfl i2.out i3.out Tryz.underlying207 rfl (aAo _) (aAo _)) rfl ⟨rfl,ib⟩
 have hki:((k+1:Nat):Int) - 1=k:=by omega
 rw[hki];have hk1:(k:Int)<192:=by omega
 obtain⟨r,hr⟩:∃r,x/2 ^ (k+1)%y=r:=⟨_,rfl⟩;have hst:=div_step x y k HY0.out;have hqb:=quot_bit x y k HY0.out;rw[hr]at b5 hst hqb;have hry:r<y:=by rw[←hr];exact Nat.mod_lt _ HY0.out
 have hy191:=HY.out;have S1:=yH hst.2;have S2:=yH hqb;have RY:=yH hry;clear hst hr hqb hki hry;generalize hbit:x.testBit k=b at S1 S2;have BT:=yH hbit;have csh:=yH (fun w=>aMu r 1 w (by omega))
 have hlt1:2*r+(if b then 1 else 0)<2 ^ 192:=by
  have:=RY.out;have e:(2:Nat) ^ 192=2*2 ^ 191:=by rw[Nat.pow_succ,Nat.mul_comm]
  rw[e];split <;> omega
 have cgr:=yH (fun w=>aGj y (2*r+(if b then 1 else 0)) w (Nat.lt_trans hy191 (by rw[show(2:Nat) ^ 192=2 ^ 191*2 from Nat.pow_succ ..];have:=Nat.two_pow_pos 191;omega)) hlt1);clear hlt1 hy191 hbit
 go_upto_region 5 with fail
 go_wp2_with ((with_reducible refine wpList_load_row ?_ 207 (.tmp 7) ?_ (w.heap.size+1+1+1+1+1) ?_ 207 (arr r.testBit) (0,0) _ b5.out Tryz.underlying207 ?_ (aAo _) ?_);exact rfl;exact rfl;exact rfl;exact rfl);refine(csh.out _).mono ?_;rw[aBv];rintro e w1 ⟨rfl,hb1⟩;have a0:=b0.below hb1 b0.lt;have a1:=b1.below hb1 b1.lt;have a2:=b2.below hb1 b2.lt;have a3:=b3.below hb1 b3.lt;have a4:=b4.below hb1 b4.lt;have a5:=b5.below hb1 b5.lt;have ha:=hb.trans (hb1.mono hb.size);clear b0 b1 b2 b3 b4 b5 hb hb1
 go_upto_region 6 with((with_reducible refine wpList_store_row ?_ 207 (.tmp 7) (.tmp 14) ?_ (w.heap.size+1+1+1+1+1) (arr (r*2 ^ 1).testBit) ?_ ?_ 207 _ a5.out (aAo _) (by simp only[aA6]) (aDo _) ?_);exact rfl;exact rfl;exact rfl;exact rfl)
 have c0:Blk (w1.setRow (w.heap.size+1+1+1+1+1) (arr (r*2 ^ 1).testBit)) w.heap.size (arr x.testBit) 207:=a0.rowOther (by omega);have c1:Blk (w1.setRow (w.heap.size+1+1+1+1+1) (arr (r*2 ^ 1).testBit)) (w.heap.size+1) (arr y.testBit) 207:=a1.rowOther (by omega);have c2:Blk (w1.setRow (w.heap.size+1+1+1+1+1) (arr (r*2 ^ 1).testBit)) (w.heap.size+1+1) (arr fun _=>false) 207:=a2.rowOther (by omega);have c3:Blk (w1.setRow (w.heap.size+1+1+1+1+1) (arr (r*2 ^ 1).testBit)) (w.heap.size+1+1+1) (arr fun _=>false) 207:=a3.rowOther (by omega);have c4:Blk (w1.setRow (w.heap.size+1+1+1+1+1) (arr (r*2 ^ 1).testBit)) (w.heap.size+1+1+1+1) (arr fun j=>decide (k+1≤j) && (x/y).testBit j) 207:=a4.rowOther (by omega);have c5:Blk (w1.setRow (w.heap.size+1+1+1+1+1) (arr (r*2 ^ 1).testBit)) (w.heap.size+1+1+1+1+1) (arr (r*2 ^ 1).testBit) 207:=a5.row;have hc:=below_setRow ha (show w.heap.size≤(w.heap.size+1+1+1+1+1) by omega) (arr (r*2 ^ 1).testBit);generalize w1.setRow (w.heap.size+1+1+1+1+1) (arr (r*2 ^ 1).testBit)=w2 at *;clear a0 a1 a2 a3 a4 a5 ha;have hcell:w2.cell? ⟨w.heap.size,k,none⟩=some (.bool b):=by rw[c0.cell k,aB7 _ _ (by omega),BT.out]
 have hcell5:w2.cell? ⟨w.heap.size+1+1+1+1+1,0,none⟩=some (.bool ((r*2 ^ 1).testBit 0)):=by rw[c5.cell 0,aB7 _ _ (by omega)]
 have hf5:=c5.frozen 0;have d0:=c0.setOther (a:=⟨w.heap.size+1+1+1+1+1,0,none⟩) (by simp;omega) (.bool b);have d1:=c1.setOther (a:=⟨w.heap.size+1+1+1+1+1,0,none⟩) (by simp) (.bool b);have d2:=c2.setOther (a:=⟨w.heap.size+1+1+1+1+1,0,none⟩) (by simp) (.bool b);have d3:=c3.setOther (a:=⟨w.heap.size+1+1+1+1+1,0,none⟩) (by simp) (.bool b);have d4:=c4.setOther (a:=⟨w.heap.size+1+1+1+1+1,0,none⟩) (by simp) (.bool b);have d5:=c5.set 0 (.bool b);rw[double_set]at d5;have hd:=hc.setCell (p:=⟨w.heap.size+1+1+1+1+1,0,none⟩) (by simp;omega) (.bool b);clear c0 c1 c2 c3 c4 c5 hc;have D0:=yH d0;have D1:=yH d1;have D2:=yH d2;have D3:=yH d3;have D4:=yH d4;have D5:=yH d5;have HD:=yH hd;clear d0 d1 d2 d3 d4 d5 hd
 go_upto_region 7 with fail
 generalize w2.setCell ⟨w.heap.size+1+1+1+1+1,0,none⟩ (.bool b)=w3 at *;generalize (if b then 1 else 0:Nat)=bn at *;clear hcell hcell5 hf5;go_wp2_with (first|((with_reducible refine wpList_load_row ?_ 207 (.tmp 3) ?_ (w.heap.size+1) ?_ 207 (arr y.testBit) (0,0) _ D1.out.out Tryz.underlying207 ?_ (aAo _) ?_);exact rfl;exact rfl;exact rfl;exact rfl)|((with_reducible refine wpList_load_row ?_ 207 (.tmp 7) ?_ (w.heap.size+1+1+1+1+1) ?_ 207 (arr (2*r+bn).testBit) (0,0) _ D5.out.out Tryz.underlying207 ?_ (aAo _) ?_);exact rfl;exact rfl;exact rfl;exact rfl));refine(cgr.out _).mono ?_;rintro e w4 ⟨rfl,hb4⟩;have e0:=D0.out.below hb4 D0.out.lt;have e1:=D1.out.below hb4 D1.out.lt;have e2:=D2.out.below hb4 D2.out.lt;have e3:=D3.out.below hb4 D3.out.lt;have e4:=D4.out.below hb4 D4.out.lt;have e5:=D5.out.below hb4 D5.out.lt;have he:=HD.out.trans (hb4.mono HD.out.size);clear D0 D1 D2 D3 D4 D5 HD hb4
 by_cases hge:y≤2*r+bn
 ·have hdec:decide (2*r+bn<y)=false:=by simp;omega
  rw[hdec];have cls:=yH (fun w=>rless_any (2*r+bn) y w hge);have s1:x/2 ^ k%y=2*r+bn - y:=by rw[S1.out,if_pos hge]
  have s2:(x/y).testBit k=true:=by rw[S2.out];simp[hge]
  have T1:=yH s1;have T2:=yH s2;clear hdec s1 s2 hge;go_wp2_with (first|((with_reducible refine wpList_load_row ?_ 207 (.tmp 7) ?_ (w.heap.size+1+1+1+1+1) ?_ 207 (arr (2*r+bn).testBit) (0,0) _ e5.out Tryz.underlying207 ?_ (aAo _) ?_);exact rfl;exact rfl;exact rfl;exact rfl)|((with_reducible refine wpList_load_row ?_ 207 (.tmp 3) ?_ (w.heap.size+1) ?_ 207 (arr y.testBit) (0,0) _ e1.out Tryz.underlying207 ?_ (aAo _) ?_);exact rfl;exact rfl;exact rfl;exact rfl));refine(cls.out _).mono ?_;rw[aBv];rintro e w5 ⟨rfl,hb5⟩;have f0:=e0.below hb5 e0.lt;have f1:=e1.below hb5 e1.lt;have f2:=e2.below hb5 e2.lt;have f3:=e3.below hb5 e3.lt;have f4:=e4.below hb5 e4.lt;have f5:=e5.below hb5 e5.lt;have hf:=he.trans (hb5.mono he.size);clear e0 e1 e2 e3 e4 e5 he hb5
  go_upto_region 9 with((with_reducible refine wpList_store_row ?_ 207 (.tmp 7) (.tmp 25) ?_ (w.heap.size+1+1+1+1+1) (arr (2*r+bn - y).testBit) ?_ ?_ 207 _ f5.out (aAo _) (by simp only[aA6]) (aDo _) ?_);exact rfl;exact rfl;exact rfl;exact rfl)
  have g0:Blk (w5.setRow (w.heap.size+1+1+1+1+1) (arr (2*r+bn - y).testBit)) w.heap.size (arr x.testBit) 207:=f0.rowOther (by omega);have g1:Blk (w5.setRow (w.heap.size+1+1+1+1+1) (arr (2*r+bn - y).testBit)) (w.heap.size+1) (arr y.testBit) 207:=f1.rowOther (by omega);have g2:Blk (w5.setRow (w.heap.size+1+1+1+1+1) (arr (2*r+bn - y).testBit)) (w.heap.size+1+1) (arr fun _=>false) 207:=f2.rowOther (by omega);have g3:Blk (w5.setRow (w.heap.size+1+1+1+1+1) (arr (2*r+bn - y).testBit)) (w.heap.size+1+1+1) (arr fun _=>false) 207:=f3.rowOther (by omega);have g4:Blk (w5.setRow (w.heap.size+1+1+1+1+1) (arr (2*r+bn - y).testBit)) (w.heap.size+1+1+1+1) (arr fun j=>decide (k+1≤j) && (x/y).testBit j) 207:=f4.rowOther (by omega);have g5:Blk (w5.setRow (w.heap.size+1+1+1+1+1) (arr (2*r+bn - y).testBit)) (w.heap.size+1+1+1+1+1) (arr (2*r+bn - y).testBit) 207:=f5.row;have hg:=below_setRow hf (show w.heap.size≤(w.heap.size+1+1+1+1+1) by omega) (arr (2*r+bn - y).testBit);generalize w5.setRow (w.heap.size+1+1+1+1+1) (arr (2*r+bn - y).testBit)=w6 at *;clear f0 f1 f2 f3 f4 f5 hf;have hcq:w6.cell? ⟨w.heap.size+1+1+1+1,k,none⟩=some (.bool (decide (k+1≤k) && (x/y).testBit k)):=by rw[g4.cell k,aB7 _ _ (by omega)]
  have hfq:=g4.frozen k;have h4:=g4.set k (.bool true);rw[above_set _ _ T2.out]at h4;have H4:=yH h4;clear h4;go_wp2_with fail;go_roundw
  case rel=>exact⟨k,by omega,rfl,g0.setOther (by simp;omega) _,g1.setOther (by simp) _,g2.setOther (by simp) _,g3.setOther (by simp) _,H4.out,by rw[T1.out];exact g5.setOther (by simp) _,hg.setCell (by simp;omega) _⟩
  case measure=>simp[intOf] <;> omega
 have hdec:decide (2*r+bn<y)=true:=by simp;omega
 rw[hdec];have s1:x/2 ^ k%y=2*r+bn:=by rw[S1.out,if_neg hge];rfl
 have s2:(x/y).testBit k=false:=by rw[S2.out];simp[hge]
 have T1:=yH s1;have T2:=yH s2;clear hdec s1 s2 hge;go_wp2_with fail;go_roundw
 case rel=>exact⟨k,by omega,rfl,e0,e1,e2,e3,by rw[←above_skip _ _ T2.out];exact e4,by rw[T1.out];exact e5,he⟩
 case measure=>simp[intOf] <;> omega
theorem aN4(neg:Bool)(f:Nat→Bool):(aAr neg f).extract 1 193=arr f:=by
 apply Array.ext_getElem?;intro j;rw[Array.getElem?_extract,aB2]
 by_cases hj:j<192
 ·rw[if_pos (by omega),aDs _ _ j hj,aB7 _ j hj]
 rw[if_neg (by omega),Array.getElem?_eq_none (by rw[aA6];omega)]
theorem aIl{P:Program}{ops:Array Oper}{rest:List Oper}{o:Oper}{a:Act}{w:World}{Q:Exit→Act→World→Prop}(hw:Region.wanted o (yielded ops a.tmps)=true)
  (h:∀K:Act→World→Prop,(∀a w,wpList P ops Q rest a w→K a w)→o.wp P a w K Q):wpList P ops Q (o::rest) a w:=
 wpList_step fun K hK=>by rw[if_pos hw];exact h K hK
theorem aHe(neg:Bool)(f:Nat→Bool)(w:World):(Instr.field 209 (.agg (aAr neg f)) 1).run Tryz.prog w=.ok (.agg (arr f)) w:=by
 have h1:(isAgg 207).run Tryz.prog w=.ok true w:=by kernel_rfl
 have h2:(sizeOf 207).run Tryz.prog w=.ok 192 w:=by kernel_rfl
 simp[Instr.field,run_underlying Tryz.underlying209,asAgg,part,h1,h2,aN4]
theorem run_eq_arr(f g:Nat→Bool)(w:World):
  (Op.equalIn 10000 207 (.agg (arr f)) (.agg (arr g))).run Tryz.prog w=.ok ((List.range 192).all fun i=>f i==g i) w:=by
 refine aE7 (P:=Tryz.prog) 9999 207 4 192 Tryz.underlying207 (fun w=>by kernel_rfl) (fun w=>by kernel_rfl) (arr f) (arr g) (aA6 f) (aA6 g) _ ?_ w;intro i x y w hx hy
 have hi:i<192:=by
  rcases Nat.lt_or_ge i 192 with h|h
  ·exact h
  rw[Array.getElem?_eq_none (by rw[aA6];omega)]at hx;cases hx
 rw[aB7 f i hi]at hx;rw[aB7 g i hi]at hy
 cases hx;cases hy
 exact run_equalIn_bool' w 9998 4 (f i) (g i) Tryz.underlying4
theorem aJ2(f:Nat→Bool)(w:World):(Instr.build 209 #[(1,.agg (arr f))]).run Tryz.prog w=.ok (.agg (aAr false f)) w:=by
 have h:(Instr.build 209 #[(1,.agg (arr f))]).run Tryz.prog=fun w=>.ok (.agg (aAr false f)) w:=by
  kernel_rfl
 rw[h]
theorem all_zero(x:Nat)(hx:x<2 ^ 192):((List.range 192).all fun i=>x.testBit i==false)=decide (x=0):=by
 rw[Bool.eq_iff_iff];simp only[List.all_eq_true,List.mem_range,beq_iff_eq,decide_eq_true_eq]
 constructor
 ·intro h;refine Nat.eq_of_testBit_eq fun i=>?_
  rw[Nat.zero_testBit]
  by_cases hi:i<192
  ·exact h i hi
  exact Nat.testBit_lt_two_pow (yM hx (Nat.pow_le_pow_right (by omega) (by omega)))
 rintro rfl i _;exact Nat.zero_testBit i
theorem by_bad(a num den:Int)(up:Bool)(w:World)(hbad:a<0∨num<0∨den<1):
  Calls Tryz.prog 193 #[.int .i64 a,.int .i64 num,.int .i64 den,.bool up] w (yR w (.tuple #[.int .i64 0,.int .i64 1])):=by
 have hs:(a<0)∨(¬a<0∧num<0)∨(¬a<0∧¬num<0∧den<1):=by omega
 clear hbad;rcases hs with h1|⟨h1,h2⟩|⟨h1,h2,h3⟩
 all_goals
  go_enter Tryz.func193,Tryz.ntmps193;go_wp2_with fail;go_ret2;exact⟨rfl,yZ⟩
theorem by_good(a num den:Int)(up:Bool)(w:World)(ha:In64 a)(hn:In64 num)(hd:In64 den)(h1:0≤a)(h2:0≤num)(h3:1≤den):
  Calls Tryz.prog 193 #[.int .i64 a,.int .i64 num,.int .i64 den,.bool up] w fun e w'=>e=.returned (ans (if up then upN (a*num) den else a*num/den))∧Below w.heap.size w w':=by
 have hz:=aG3;have hfl:=aHe;have cA:=yH (fun w=>aJp a w ha);have cN:=yH (fun w=>aJp num w hn);have cD:=yH (fun w=>aJp den w hd);obtain⟨A,rfl⟩:=Int.eq_ofNat_of_zero_le h1;obtain⟨M,rfl⟩:=Int.eq_ofNat_of_zero_le h2;obtain⟨E,rfl⟩:=Int.eq_ofNat_of_zero_le (show 0≤den by omega);rw[decide_eq_false (by omega),Int.natAbs_natCast]at cA cN cD;unfold In64 at ha hn hd;have cT:=yH (fun w=>aLm false false A M w (by omega))
 have hAM:A*M<2 ^ 192:=by
  have h:A*M≤9223372036854775807*9223372036854775807:=Nat.mul_le_mul (by omega) (by omega);exact Nat.lt_of_le_of_lt h (by decide)
 have cV:=yH (fun w=>aSd (A*M) E w hAM (by omega) (Nat.lt_of_le_of_lt (show E≤9223372036854775807 by omega) (by decide)));rw[aBv,aBv,aBv,aBv]at cV;have HAM:=yH hAM;have HM2:=yH (show A*M≤9223372036854775807*9223372036854775807 from Nat.mul_le_mul (by omega) (by omega));clear hAM ha hn hd;go_enter Tryz.func193,Tryz.ntmps193;go_wp2_with fail;refine(cA.out _).mono ?_;rintro e w1 ⟨rfl,b1⟩;go_wp2_with fail;refine(cN.out _).mono ?_;rintro e w2 ⟨rfl,b2⟩;go_wp2_with fail;refine(cT.out _).mono ?_;unfold aD6;rintro e w3 ⟨rfl,b3⟩;go_wp2_with fail;refine(cD.out _).mono ?_;unfold aD6;rintro e w4 ⟨rfl,b4⟩;go_wp2_with fail;refine(cV.out _).mono ?_;rintro e w5 ⟨rfl,b5⟩;have hb:Below w.heap.size w w5:=andB (andB (andB (andB b1 b2) b3) b4) b5;clear b1 b2 b3 b4 b5 cA cN cD cT cV;have k1:Blk ((w5.alloc (.cells (arr fun _=>false) 207)).alloc (.cells (arr fun _=>false) 207)) w5.heap.size (arr fun _=>false) 207:=(pAA _ _ _).alloc _;have k2:Blk ((w5.alloc (.cells (arr fun _=>false) 207)).alloc (.cells (arr fun _=>false) 207)) (w5.heap.size+1) (arr fun _=>false) 207:=pAC _ _ _ (by simp);have hb6:Below w.heap.size w ((w5.alloc (.cells (arr fun _=>false) 207)).alloc (.cells (arr fun _=>false) 207)):=(hb.alloc hb.size _).alloc (by have:=hb.size;simp;omega) _;have k2':=k2.rowOther (k:=w5.heap.size) (cs':=arr (A*M/E).testBit) (by omega)
 go_upto_region 4 with(first|((with_reducible refine wpList_store_row ?_ 207 (.tmp 10) (.tmp 33) ?_ w5.heap.size (arr (A*M/E).testBit) ?_ ?_ 207 _ k1.out (aAo _) (by simp only[aA6]) (aDo _) ?_);exact rfl;exact rfl;exact rfl;exact rfl)|((with_reducible refine wpList_store_row ?_ 207 (.tmp 11) (.tmp 34) ?_ (w5.heap.size+1) (arr (A*M%E).testBit) ?_ ?_ 207 _ k2'.out (aAo _) (by simp only[aA6]) (aDo _) ?_);exact rfl;exact rfl;exact rfl;exact rfl))
 have q1:=(k1.row (cs:=arr (A*M/E).testBit)).rowOther (k:=w5.heap.size+1) (cs':=arr (A*M%E).testBit) (by omega);have q2:=k2'.row (cs:=arr (A*M%E).testBit);have hb7:=below_setRow (below_setRow hb6 (show w.heap.size≤w5.heap.size from hb.size) (arr (A*M/E).testBit)) (show w.heap.size≤w5.heap.size+1 by have:=hb.size;omega) (arr (A*M%E).testBit);have hle:=hb.size;generalize hg:w5.heap.size=g at *;generalize ((((w5.alloc (.cells (arr fun _=>false) 207)).alloc (.cells (arr fun _=>false) 207)).setRow g (arr (A*M/E).testBit)).setRow (g+1) (arr (A*M%E).testBit))=W at *;clear k1 k2 k2' hb6 hb hg;have hql:A*M/E<2 ^ 192:=Nat.lt_of_le_of_lt (Nat.div_le_self _ _) HAM.out;have hrl:A*M%E<2 ^ 192:=Nat.lt_of_le_of_lt (Nat.mod_le _ _) HAM.out
 have hqe:∀w,(Op.equalIn 10000 207 (.agg (arr (A*M%E).testBit)) (.agg (arr fun _=>false))).run Tryz.prog w=.ok (decide (A*M%E=0)) w:=fun w=>by
  rw[run_eq_arr,all_zero _ hrl]
 have e1:((A:Int)*(M:Int))/(E:Int)=((A*M/E:Nat):Int):=by simp
 have e2:((A:Int)*(M:Int))%(E:Int)=((A*M%E:Nat):Int):=by simp
 have hbw:=yH aJ2;have hqb:A*M/E≤9223372036854775807*9223372036854775807:=Nat.le_trans (Nat.div_le_self _ _) HM2.out;have QL:=yH hql;have QB:=yH hqb;clear hrl hql hqb;generalize hQ:A*M/E=q at *;generalize hR:A*M%E=r at *;have E1:=yH e1;have E2:=yH e2;clear e1 e2 hQ hR
 cases up
 ·have cN:=yH (fun w=>aSc false q w QL.out)
  go_upto_region 6 with fail
  go_wp2_with (first|((with_reducible refine wpList_load_row ?_ 207 (.tmp 10) ?_ g ?_ 207 (arr q.testBit) (0,0) _ q1.out Tryz.underlying207 ?_ (aAo _) ?_);exact rfl;exact rfl;exact rfl;exact rfl)|((with_reducible refine aCb ?_ 209 #[(1,.tmp 45)] ?_ #[(1,.agg (arr q.testBit))] ?_ _ (hbw.out _ _) ?_);exact rfl;exact rfl;(first|rfl|(simp[Act.eval];done)|(simp[Act.eval];rfl))));refine(cN.out _).mono ?_;unfold ans;rintro e w6 ⟨rfl,b6⟩;go_wp2_with fail;go_ret2;exact⟨by simp only[Bool.false_eq_true,if_false];rw[E1.out];rfl,hb7.trans (b6.mono hb7.size)⟩
 by_cases hr0:r=0
 ·have cN:=yH (fun w=>aSc false q w QL.out);have hd:decide (r=0)=true:=by simp[hr0]
  have HR:=yH hr0;rw[hd]at hqe;clear hd hr0
  go_upto_region 6 with((with_reducible refine aIl ?_ (fun K hK=>wp_load_row 207 (.tmp 11) ?_ (g+1) ?_ 207 (arr r.testBit) (0,0) _ q2.out Tryz.underlying207 ?_ (aAo _) (hK _ _ ?_)));exact rfl;exact rfl;exact rfl;exact rfl)
  go_wp2_with (first|((with_reducible refine wpList_load_row ?_ 207 (.tmp 10) ?_ g ?_ 207 (arr q.testBit) (0,0) _ q1.out Tryz.underlying207 ?_ (aAo _) ?_);exact rfl;exact rfl;exact rfl;exact rfl)|((with_reducible refine aCb ?_ 209 #[(1,.tmp 45)] ?_ #[(1,.agg (arr q.testBit))] ?_ _ (hbw.out _ _) ?_);exact rfl;exact rfl;(first|rfl|(simp[Act.eval];done)|(simp[Act.eval];rfl))));refine(cN.out _).mono ?_;unfold ans;rintro e w6 ⟨rfl,b6⟩;go_wp2_with fail;go_ret2;exact⟨by simp only[if_true];rw[upN,E2.out,HR.out,E1.out];simp;rfl,hb7.trans (b6.mono hb7.size)⟩
 have cN:=yH (fun w=>aSc false (q+1) w (Nat.lt_of_le_of_lt (show q+1≤9223372036854775807*9223372036854775807+1 by have:=QB.out;omega) (by decide)));have cO:=yH (fun w=>aJp 1 w (by decide));rw[show aD6 (decide ((1:Int)<0)) (Int.natAbs 1)=.agg (aAr false (Nat.testBit 1))from rfl]at cO;have cP:=yH (fun w=>aPo q 1 w);rw[aBv,aBv,aBv]at cP;have hd:decide (r=0)=false:=by simp[hr0]
 have HR:=yH hr0;rw[hd]at hqe;clear hd hr0
 go_upto_region 5 with((with_reducible refine aIl ?_ (fun K hK=>wp_load_row 207 (.tmp 11) ?_ (g+1) ?_ 207 (arr r.testBit) (0,0) _ q2.out Tryz.underlying207 ?_ (aAo _) (hK _ _ ?_)));exact rfl;exact rfl;exact rfl;exact rfl)
 refine aKn (by kernel_rfl) 4 [.agg (arr q.testBit),.agg (aAr false (Nat.testBit 1)),.agg (arr (Nat.testBit 1)),.agg (arr (q+1).testBit)]
  (fun w'=>Below W.heap.size W w') (by kernel_rfl) rfl (by kernel_rfl) yZ.drew ?_
 intro af haf;simp only[puts,Act.put,yA,yC,yF,yD,yE]at haf;subst haf;have l1:=q1.lt;refine⟨?_,?_⟩
 ·simp only[List.take_succ_cons,List.take_zero,aBe];refine⟨?_,?_,?_,?_,trivial⟩
  all_goals
   intro w' hS;with_reducible refine yO rfl ?_
  ·exact wp_load_row 207 (.tmp 10) rfl g rfl 207 (arr q.testBit) (0,0) _ (q1.below hS l1).out Tryz.underlying207 rfl (aAo _) ⟨rfl,hS⟩
  ·go_wp2_with fail;refine(cO.out w').mono ?_;rintro e w'' ⟨rfl,hb2⟩;exact⟨rfl,andB hS hb2⟩
  ·go_wp2_with fail;all_goals first|rfl|exact⟨rfl,hS⟩
  go_wp2_with fail;refine(cP.out w').mono ?_;rintro e w'' ⟨rfl,hb2⟩;exact⟨rfl,andB hS hb2⟩
 simp only[yC,yA];intro w' hS;with_reducible refine yO rfl ?_
 refine wp_store_row 207 (.tmp 10) (.tmp 44) rfl g (arr (q+1).testBit) rfl rfl 207 _ (q1.below hS l1).out (aAo _) (by simp only[aA6]) (aDo _) ⟨rfl,?_⟩;have p1:=(q1.below hS l1).row (cs:=arr (q+1).testBit);have hb8:=below_setRow (hb7.trans (hS.mono hb7.size)) hle (arr (q+1).testBit);generalize w'.setRow g (arr (q+1).testBit)=W8 at *
 go_upto_region 6 with fail
 go_wp2_with (first|((with_reducible refine wpList_load_row ?_ 207 (.tmp 10) ?_ g ?_ 207 (arr (q+1).testBit) (0,0) _ p1.out Tryz.underlying207 ?_ (aAo _) ?_);exact rfl;exact rfl;exact rfl;exact rfl)|((with_reducible refine aCb ?_ 209 #[(1,.tmp 45)] ?_ #[(1,.agg (arr (q+1).testBit))] ?_ _ (hbw.out _ _) ?_);exact rfl;exact rfl;(first|rfl|(simp[Act.eval];done)|(simp[Act.eval];rfl))));refine(cN.out _).mono ?_;unfold ans;rintro e w6 ⟨rfl,b6⟩;go_wp2_with fail;go_ret2;exact⟨by simp only[if_true];rw[upN,E2.out,E1.out,if_neg (by have:=HR.out;omega)];simp;rfl,hb8.trans (b6.mono hb8.size)⟩
theorem rby_any(a num den:Int)(up:Bool)(w:World)(ha:In64 a)(hn:In64 num)(hd:In64 den):
  Calls Tryz.prog 193 #[.int .i64 a,.int .i64 num,.int .i64 den,.bool up] w fun e w'=>e=.returned (if up then upV a num den else aHs a num den)∧Below w.heap.size w w':=by
 by_cases hbad:a<0∨num<0∨den<1
 ·have e:(if up then upV a num den else aHs a num den)=.tuple #[.int .i64 0,.int .i64 1]:=by cases up <;> simp[upV,aHs,hbad]
  rw[e];exact by_bad a num den up w hbad
 have e:(if up then upV a num den else aHs a num den)=ans (if up then upN (a*num) den else a*num/den):=by cases up <;> simp[upV,aHs,hbad]
 rw[e];exact by_good a num den up w ha hn hd (by omega) (by omega) (by omega)
theorem rup_any(a num den:Int)(w:World)(ha:In64 a)(hn:In64 num)(hd:In64 den):
  Calls Tryz.prog 154 #[.int .i64 a,.int .i64 num,.int .i64 den] w (yR w (upV a num den)):=by
 have hc:=yH (fun w=>rby_any a num den true w ha hn hd);have hv:∃x y,upV a num den=.tuple #[.int .i64 x,.int .i64 y]:=by unfold upV ans;split <;> exact⟨_,_,rfl⟩
 obtain⟨x,y,hv⟩:=hv;simp only[if_true,hv]at hc;have HV:=yH hv;clear hv;go_enter Tryz.func154,Tryz.ntmps154;go_wp2_with fail;refine(hc.out _).mono ?_;rintro e w' ⟨rfl,hb⟩;go_wp2_with fail;go_ret2;exact⟨by rw[HV.out];rfl,hb⟩
theorem aJs(a b:Int):(if a<b then b else a)=max a b:=by split <;> omega
theorem aN5(x y k:Int):Int.gcd (x - y*k) y=Int.gcd x y:=by
 rw[Int.sub_eq_add_neg,←Int.mul_neg];exact Int.gcd_add_mul_left_left y x (-k)
theorem aHt(x y k:Int)(hy:1≤y)(hxy:y<x)(hk:k=max 1 (x/y - 1)):1≤x - y*k∧x - y*k<x∧1≤k∧y*k<x:=by
 have hd:=Int.mul_ediv_add_emod x y;have hm:=Int.emod_nonneg x (show y≠0 by omega)
 have hq:1≤x/y:=by
  rcases Int.lt_or_le (x/y) 1 with h|h
  ·have:=Int.emod_lt_of_pos x (show 0<y by omega);have h2:y*(x/y)≤y*0:=Int.mul_le_mul_of_nonneg_left (by omega) (by omega);omega
  exact h
 have hk1:1≤k:=by omega
 have hyk:y≤y*k:=by have:=Int.mul_le_mul_of_nonneg_left hk1 (show 0≤y by omega);omega
 have hlt:y*k<x:=by
  by_cases h:x/y=1
  ·have:k=1:=by omega
   subst this;omega
  have:k=x/y - 1:=by omega
  have e:y*k=y*(x/y) - y:=by rw[this,Int.mul_sub,Int.mul_one]
  omega
 omega
def CommonAt(g:Nat)(u v:Value):Prop:=∃x y:Int,u=.int .i64 x∧v=.int .i64 y∧1≤x∧1≤y∧x≤9223372036854775807∧y≤9223372036854775807∧Int.gcd x y=g
theorem aJt(x y:Int)(hy:1≤y)(hx:x≤9223372036854775807)(hxy:y<x):
  wrap64 (x - wrap64 (y*max 1 (wrap64 (wrap64 (x/y) - 1))))=x - y*max 1 (x/y - 1):=by
 obtain⟨h1,h2,h3,h4⟩:=aHt x y _ hy hxy rfl;have hq0:=Int.ediv_nonneg (show 0≤x by omega) (show 0≤y by omega);have hq1:=Int.ediv_le_self y (show 0≤x by omega);rw[aB4 (x/y) ⟨by omega,by omega⟩,aB4 (x/y - 1) ⟨by omega,by omega⟩];generalize max 1 (x/y - 1)=k at *;rw[aB4 (y*k) ⟨by omega,by omega⟩,aB4 (x - y*k) ⟨by omega,by omega⟩]
theorem common_any(a b:Int)(w:World)(ha:In64 a)(hb:In64 b)(h1:1≤a)(h2:1≤b):
  Calls Tryz.prog 149 #[.int .i64 a,.int .i64 b] w (yV w (.int .i64 (Int.gcd a b))):=by
 have HA:=yH ha;have HB:=yH hb;clear ha hb;go_enter Tryz.func149,Tryz.ntmps149;go_wp2
 go_loopw [0,1] (fun u v wr=>CommonAt (Int.gcd a b) u v∧wr=w) (fun u v _=>(intOf u+intOf v).toNat)
 case atStart=>exact⟨⟨a,b,rfl,rfl,h1,h2,HA.out.2,HB.out.2,rfl⟩,rfl⟩
 obtain⟨⟨x,y,rfl,rfl,hx1,hy1,hx2,hy2,hg⟩,rfl⟩:=hrel;have HG:=yH hg;clear hg;rcases Int.lt_trichotomy x y with hlt|heq|hgt
 ·obtain⟨q1,q2,q3,q4⟩:=aHt y x _ hx1 hlt rfl;have hw:=aJt y x hx1 hy2 hlt;have hs:=aN5 y x (max 1 (y/x - 1));have e1:Int.tdiv y x=y/x:=Int.tdiv_eq_ediv_of_nonneg (by omega);have hng:¬x > y:=by omega
  have HW:=yH hw;have HS:=yH hs;have Q1:=yH q1;have Q2:=yH q2;clear hw hs q1 q2 q3 q4;go_wp2;refine⟨⟨⟨x,_,rfl,rfl,hx1,?_,hx2,?_,?_⟩,trivial⟩,?_⟩
  ·(try rw[aJs])
   rw[HW.out];exact Q1.out
  ·(try rw[aJs])
   rw[HW.out];have:=Q2.out;omega
  ·(try rw[aJs])
   rw[HW.out,Int.gcd_comm,HS.out,Int.gcd_comm];exact HG.out
  (try rw[aJs])
  rw[HW.out];have:=Q1.out;have:=Q2.out;simp[intOf];omega
 ·subst heq;have e:Int.gcd x x=x:=by rw[Int.gcd_self];omega
  go_wp2;go_ret;exact⟨by rw[←HG.out,e];rfl,rfl⟩
 obtain⟨q1,q2,q3,q4⟩:=aHt x y _ hy1 hgt rfl;have hw:=aJt x y hy1 hx2 hgt;have hs:=aN5 x y (max 1 (x/y - 1));have e1:Int.tdiv x y=x/y:=Int.tdiv_eq_ediv_of_nonneg (by omega);have HW:=yH hw;have HS:=yH hs;have Q1:=yH q1;have Q2:=yH q2;clear hw hs q1 q2 q3 q4;go_wp2;refine⟨⟨⟨_,y,rfl,rfl,?_,hy1,?_,hy2,?_⟩,trivial⟩,?_⟩
 ·(try rw[aJs])
  rw[HW.out];exact Q1.out
 ·(try rw[aJs])
  rw[HW.out];have:=Q2.out;omega
 ·(try rw[aJs])
  rw[HW.out,HS.out];exact HG.out
 (try rw[aJs])
 rw[HW.out];have:=Q1.out;have:=Q2.out;simp[intOf];omega
def MayN(n d:Int):Prop:=1≤n∧1≤d∧n≤1099511627776∧d≤1099511627776∧Int.gcd n d=1
instance(n d:Int):Decidable (MayN n d):=inferInstanceAs (Decidable (_∧_))
def mayB(n d:Int):Bool:=decide (MayN n d)
theorem aKh{n d:Int}(h:¬(1≤n∧1≤d∧n≤1099511627776∧d≤1099511627776)):mayB n d=false:=
 decide_eq_false (fun k:MayN n d=>h ⟨k.1,k.2.1,k.2.2.1,k.2.2.2.1⟩)
theorem mayB_in{n d:Int}(h:1≤n∧1≤d∧n≤1099511627776∧d≤1099511627776):mayB n d=((Int.gcd n d:Int)==1):=by
 by_cases k:Int.gcd n d=1
 ·have e1:mayB n d=true:=decide_eq_true (show MayN n d from⟨h.1,h.2.1,h.2.2.1,h.2.2.2,k⟩);rw[e1,k];rfl
 have e1:mayB n d=false:=decide_eq_false (fun e:MayN n d=>k e.2.2.2.2);rw[e1];symm;simp;omega
theorem aD7(n d:Int)(w:World):
  Calls Tryz.prog 105 #[.agg #[.int .i64 n,.int .i64 d]] w (yR w (.bool (mayB n d))):=by
 have hs:n<1∨(1≤n∧d<1)∨(1≤n∧1≤d∧1099511627776<n)∨(1≤n∧1≤d∧n≤1099511627776∧1099511627776<d)∨(1≤n∧1≤d∧n≤1099511627776∧d≤1099511627776):=by omega
 have hb:Below w.heap.size w (w.alloc (.cells #[.int .i64 n,.int .i64 d] 46)):=yZ.alloc yL _;have HB:=yH hb;clear hb;rcases hs with h1|⟨h1,h2⟩|⟨h1,h2,h3⟩|⟨h1,h2,h3,h4⟩|⟨h1,h2,h3,h4⟩
 ·have HM:=yH (aKh (n:=n) (d:=d) (by omega));go_enter Tryz.func105,Tryz.ntmps105;go_wp2;go_ret;exact⟨by rw[HM.out];rfl,HB.out⟩
 ·have HM:=yH (aKh (n:=n) (d:=d) (by omega));go_enter Tryz.func105,Tryz.ntmps105;go_wp2;go_ret;exact⟨by rw[HM.out];rfl,HB.out⟩
 ·have HM:=yH (aKh (n:=n) (d:=d) (by omega));go_enter Tryz.func105,Tryz.ntmps105;go_wp2;go_ret;exact⟨by rw[HM.out];rfl,HB.out⟩
 ·have HM:=yH (aKh (n:=n) (d:=d) (by omega));go_enter Tryz.func105,Tryz.ntmps105;go_wp2;go_ret;exact⟨by rw[HM.out];rfl,HB.out⟩
 have HM:=yH (mayB_in (n:=n) (d:=d) ⟨h1,h2,h3,h4⟩);have c:=yH (fun w=>common_any n d w ⟨by omega,by omega⟩ ⟨by omega,by omega⟩ h1 h2);go_enter Tryz.func105,Tryz.ntmps105;go_wp2_with fail;refine(c.out _).mono ?_;rintro e w1 ⟨rfl,rfl⟩;go_wp2_with fail;go_ret;exact⟨by rw[HM.out];rfl,HB.out⟩
def aM1(a n d:Int):Value:=if mayB n d then aHs a n d else .tuple #[.int .i64 0,.int .i64 1]
def upV2(a n d:Int):Value:=if mayB n d then upV a n d else .tuple #[.int .i64 0,.int .i64 1]
theorem aN6(a n d:Int)(w:World)(ha:In64 a)(hn:In64 n)(hd:In64 d):
  Calls Tryz.prog 113 #[.int .i64 a,.agg #[.int .i64 n,.int .i64 d]] w (yR w (upV2 a n d)):=by
 have c1:=yH (fun w=>aD7 n d w);have c2:=yH (fun w=>rup_any a n d w ha hn hd);have hb0:Below w.heap.size w (w.alloc (.cells #[.int .i64 n,.int .i64 d] 46)):=yZ.alloc yL _;have k0:Blk (w.alloc (.cells #[.int .i64 n,.int .i64 d] 46)) w.heap.size #[.int .i64 n,.int .i64 d] 46:=pAA _ _ _;obtain⟨x,y,hv⟩:∃x y,upV a n d=.tuple #[.int .i64 x,.int .i64 y]:=by unfold upV ans;split <;> exact⟨_,_,rfl⟩
 unfold upV2;rw[hv]at c2 ⊢;clear hv ha hn hd;have K0:=yH k0;have B0:=yH hb0;clear k0 hb0
 cases hm:mayB n d
 ·rw[hm]at c1;go_enter Tryz.func113,Tryz.ntmps113;go_wp2_with fail;refine(c1.out _).mono ?_;rintro e w1 ⟨rfl,b1⟩;go_wp2_with fail;go_ret2;exact⟨by simp,B0.out.trans (b1.mono (by simp))⟩
 rw[hm]at c1;go_enter Tryz.func113,Tryz.ntmps113;go_wp2_with fail;refine(c1.out _).mono ?_;rintro e w1 ⟨rfl,b1⟩;have k1:=K0.out.below b1 K0.out.lt;have d0:=k1.cell 0;have d1:=k1.cell 1;simp at d0 d1;go_wp2_with fail;refine(c2.out _).mono ?_;rintro e w2 ⟨rfl,b2⟩;go_wp2_with fail;go_ret2;exact⟨by simp,B0.out.trans ((b1.mono (by simp)).trans (b2.mono (by have:=b1.size;simp at this;omega)))⟩
theorem aPu(n d:Int)(w:World):
  Calls Tryz.prog 110 #[.agg #[.int .i64 n,.int .i64 d]] w fun e w'=>e=.returned (if mayB n d then .agg #[.int .i64 d,.int .i64 n]else .agg #[.int .i64 0,.int .i64 0])∧Below w.heap.size w w':=by
 have c1:=yH (fun w=>aD7 n d w);have k1:Blk ((w.alloc (.cells #[.int .i64 n,.int .i64 d] 46)).alloc (.cells #[.int .i64 0,.int .i64 0] 46)) w.heap.size #[.int .i64 n,.int .i64 d] 46:=(pAA _ _ _).alloc _;have k2:Blk ((w.alloc (.cells #[.int .i64 n,.int .i64 d] 46)).alloc (.cells #[.int .i64 0,.int .i64 0] 46)) (w.heap.size+1) #[.int .i64 0,.int .i64 0] 46:=pAC _ _ _ (by simp);have b0:Below w.heap.size w ((w.alloc (.cells #[.int .i64 n,.int .i64 d] 46)).alloc (.cells #[.int .i64 0,.int .i64 0] 46)):=(yZ.alloc yL _).alloc (by simp) _;have K1:=yH k1;have K2:=yH k2;have B0:=yH b0;clear k1 k2 b0
 cases hm:mayB n d
 ·rw[hm]at c1;go_enter Tryz.func110,Tryz.ntmps110;go_wp2_with fail;refine(c1.out _).mono ?_;rintro e w1 ⟨rfl,b1⟩;have q2:=K2.out.below b1 K2.out.lt;have d0:=q2.cell 0;have d1:=q2.cell 1;simp at d0 d1;have f2:=q2.frozen;go_wp2;refine bodyPost_ret (v:=.agg #[.int .i64 0,.int .i64 0]) (results_cell_row rfl _ _ (w.heap.size+1) 46 #[.int .i64 0,.int .i64 0] (0,0) _ rfl ((q2.set 0 (.int .i64 0)).set 1 (.int .i64 0)).out Tryz.underlying46 rfl (by kernel_rfl)) rfl ⟨by simp,?_⟩;exact((B0.out.trans (b1.mono (by simp;omega))).setCell (by simp) _).setCell (by simp) _
 rw[hm]at c1;go_enter Tryz.func110,Tryz.ntmps110;go_wp2_with fail;refine(c1.out _).mono ?_;rintro e w1 ⟨rfl,b1⟩;have q1:=K1.out.below b1 K1.out.lt;have q2:=K2.out.below b1 K2.out.lt;have d0:=q2.cell 0;have d1:=q2.cell 1;have e0:=q1.cell 0;have e1:=q1.cell 1;simp at d0 d1 e0 e1;have f2:=q2.frozen;go_wp2;refine bodyPost_ret (v:=.agg #[.int .i64 d,.int .i64 n]) (results_cell_row rfl _ _ (w.heap.size+1) 46 #[.int .i64 d,.int .i64 n] (0,0) _ rfl ((q2.set 0 (.int .i64 d)).set 1 (.int .i64 n)).out Tryz.underlying46 rfl (by kernel_rfl)) rfl ⟨by simp,?_⟩;exact((B0.out.trans (b1.mono (by simp;omega))).setCell (by simp) _).setCell (by simp) _
theorem aN7(a b:Int):Int.gcd b (a%b)=Int.gcd a b:=by
 have:=aN5 a b (a/b);rw[show a - b*(a/b)=a%b by have:=Int.mul_ediv_add_emod a b;omega]at this;rw[Int.gcd_comm,this]
theorem aSe(a b:Int)(w:World)(ha:In64 a)(hb:In64 b)(h1:1≤a)(h2:1≤b):
  Calls Tryz.prog 173 #[.int .i64 a,.int .i64 b] w (yR w (.int .i64 (Int.gcd a b))):=by
 have HB:=yH hb;clear ha hb;go_enter Tryz.func173,Tryz.ntmps173;go_wp2;refine wp_scope_jumps 0 (fun a' w'=>Below w.heap.size w w'∧∃(x y:Int) (u2 u3 u4 u5 u6 u7 u8 u9 u10 u11:Value),a'={ tmps:=#[.int .i64 x,.int .i64 y,u2,u3,u4,u5,u6,u7,u8,u9,u10,u11],defers:=[] }∧1≤x∧0≤y∧x≤9223372036854775807∧y≤9223372036854775807∧Int.gcd x y=Int.gcd a b) (fun a' _=>(intOf (a'.tmps.getD 1 undef)).toNat) rfl ?_ ?_
 ·by_cases hb:b=0
  ·omega
  have hnb:(b==0)=false:=by simp;omega
  have HG:=yH (aN7 a b);have HLT:=yH (Int.emod_lt_of_pos a (show 0<b by omega));have HGE:=yH (Int.emod_nonneg a hb);go_wp2
  go_step3
  go_wp2
  go_region
  all_goals
   go_wp2
   go_step3
   exact⟨rfl,yZ.drew,b,_,_,_,_,_,_,_,_,_,_,_,rfl,h2,HGE.out,HB.out.2,by have:=HLT.out;have:=HB.out.2;omega,HG.out⟩
 rintro a' w' ⟨bel,x,y,u2,u3,u4,u5,u6,u7,u8,u9,u10,u11,rfl,hx,hy,hx2,hy2,hg⟩;have HG:=yH hg;clear hg
 by_cases hb:y=0
 ·subst hb;have e:((Int.gcd x 0:Nat):Int)=x:=by rw[Int.gcd_zero_right];omega
  go_wp2;simp only[Exit.jump];go_ret;exact⟨by rw[←HG.out,e];rfl,bel⟩
 have hnb:(y==0)=false:=by simp;omega
 have HS:=yH (aN7 x y);have HLT:=yH (Int.emod_lt_of_pos x (show 0<y by omega));have HGE:=yH (Int.emod_nonneg x hb);go_wp2
 go_region
 all_goals
  go_wp2
  go_step3
  refine⟨rfl,⟨bel.drew,y,_,_,_,_,_,_,_,_,_,_,_,rfl,by omega,HGE.out,hy2,by have:=HLT.out;omega,by rw[HS.out];exact HG.out⟩,?_⟩;have:=HLT.out;have:=HGE.out;simp[intOf];omega
def ofRN(n d:Int):Int:=if n<1∨d<1 then 0 else if 1099511627776<n/Int.gcd n d∨1099511627776<d/Int.gcd n d then 0 else n/Int.gcd n d
def ofD(n d:Int):Int:=if n<1∨d<1 then 0 else if 1099511627776<n/Int.gcd n d∨1099511627776<d/Int.gcd n d then 0 else d/Int.gcd n d
def ofE(n d:Int):Int:=if n<1∨d<1 then 1 else if 1099511627776<n/Int.gcd n d∨1099511627776<d/Int.gcd n d then 10 else 0
def ofV(n d:Int):Value:=.tuple #[.agg #[.int .i64 (ofRN n d),.int .i64 (ofD n d)],.int .i64 (ofE n d)]
theorem ofV_arg{n d:Int}(h:n<1∨d<1):ofV n d=.tuple #[.agg #[.int .i64 0,.int .i64 0],.int .i64 1]:=by simp[ofV,ofRN,ofD,ofE,h]
theorem ofV_over{n d g:Int}(h:1≤n)(h2:1≤d)(hg:(Int.gcd n d:Int)=g)(ho:1099511627776<n/g∨1099511627776<d/g):ofV n d=.tuple #[.agg #[.int .i64 0,.int .i64 0],.int .i64 10]:=by
 have hn:¬(n<1∨d<1):=by omega
 subst hg;simp[ofV,ofRN,ofD,ofE,hn,ho]
theorem ofV_good{n d g:Int}(h:1≤n)(h2:1≤d)(hg:(Int.gcd n d:Int)=g)(ho:¬(1099511627776<n/g∨1099511627776<d/g)):ofV n d=.tuple #[.agg #[.int .i64 (n/g),.int .i64 (d/g)],.int .i64 0]:=by
 have hn:¬(n<1∨d<1):=by omega
 subst hg;simp[ofV,ofRN,ofD,ofE,hn,ho]
theorem gcd_bd{n d:Int}(h:1≤n)(hd:1≤d):(1:Int)≤Int.gcd n d∧0≤n/Int.gcd n d∧n/Int.gcd n d≤n∧0≤d/Int.gcd n d∧d/Int.gcd n d≤d:=by
 have h1:0<Int.gcd n d:=Int.gcd_pos_of_ne_zero_left _ (by omega);exact⟨by omega,Int.ediv_nonneg (by omega) (by omega),Int.ediv_le_self _ (by omega),Int.ediv_nonneg (by omega) (by omega),Int.ediv_le_self _ (by omega)⟩
theorem of_arg(n d:Int)(w:World)(h:n<1∨d<1):
  Calls Tryz.prog 127 #[.int .i64 n,.int .i64 d] w (yR w (ofV n d)):=by
 rw[ofV_arg h];have hs:n<1∨(1≤n∧d<1):=by omega
 clear h;rcases hs with h1|⟨h1,h2⟩
 all_goals
  go_enter Tryz.func127,Tryz.ntmps127;go_wp2;refine bodyPost_ret (v:=.tuple #[.agg #[.int .i64 0,.int .i64 0],.int .i64 1]) (aAh rfl _ _ w.heap.size 46 #[.int .i64 0,.int .i64 0] _ _ rfl (pAA w #[.int .i64 0,.int .i64 0] 46).out Tryz.underlying46 rfl (by kernel_rfl) rfl) rfl ⟨rfl,?_⟩;exact(yZ.alloc yL _)
theorem of_two(n d g x y:Int)(w:World)(h1:1≤n)(h2:1≤d)(hn:In64 n)(hd:In64 d)(hg:(Int.gcd n d:Int)=g)(hx:n/g=x)(hy:d/g=y)(hx0:0≤x)(hy0:0≤y)(hxn:x≤n)(hyd:y≤d)(hg0:1≤g):
  Calls Tryz.prog 127 #[.int .i64 n,.int .i64 d] w fun e w'=>e=.returned (if 1099511627776<x∨1099511627776<y then .tuple #[.agg #[.int .i64 0,.int .i64 0],.int .i64 10]else .tuple #[.agg #[.int .i64 x,.int .i64 y],.int .i64 0])∧Below w.heap.size w w':=by
 have c:=yH (fun w=>aSe n d w hn hd h1 h2);rw[hg]at c;have e1:Int.tdiv n g=x:=by rw[←hx];exact Int.tdiv_eq_ediv_of_nonneg (by omega)
 have e2:Int.tdiv d g=y:=by rw[←hy];exact Int.tdiv_eq_ediv_of_nonneg (by omega)
 have ew1:wrap64 x=x:=aB4 x ⟨by omega,by have:=hn.2;omega⟩;have ew2:wrap64 y=y:=aB4 y ⟨by omega,by have:=hd.2;omega⟩;have q2:Blk (w.alloc (.cells #[.int .i64 0,.int .i64 0] 46)) w.heap.size #[.int .i64 0,.int .i64 0] 46:=pAA _ _ _;have b0:Below w.heap.size w (w.alloc (.cells #[.int .i64 0,.int .i64 0] 46)):=yZ.alloc yL _;have Q2:=yH q2;have B0:=yH b0;have hs:1099511627776<x∨(x≤1099511627776∧1099511627776<y)∨(x≤1099511627776∧y≤1099511627776):=by omega
 clear q2 b0 hn hd;rcases hs with o1|⟨o1,o2⟩|⟨o1,o2⟩
 ·rw[if_pos (.inl o1)];go_enter Tryz.func127,Tryz.ntmps127;go_wp2_with fail;refine(c.out _).mono ?_;rintro e w1 ⟨rfl,bw⟩;have k1:=Q2.out.below bw Q2.out.lt;have B1:=yH (B0.out.trans (bw.mono (by simp)));have d0:=k1.cell 0;have d1:=k1.cell 1;simp at d0 d1;have f1:=k1.frozen;have hz:=k1.lt;have K1:=yH k1;clear k1 bw;go_wp2
  go_region
  all_goals
   go_wp2;refine bodyPost_ret (v:=.tuple #[.agg #[.int .i64 0,.int .i64 0],.int .i64 10]) (aAh rfl _ _ w.heap.size 46 #[.int .i64 0,.int .i64 0] _ _ rfl (Blk.drew (((K1.out.set 0 (.int .i64 0)).set 1 (.int .i64 0)).alloc _)).out Tryz.underlying46 rfl (by kernel_rfl) rfl) rfl ⟨rfl,?_⟩
   first
   | exact((((B1.out.alloc B1.out.size _).drew).setCell yL _).setCell yL _)
   | exact((((B1.out.setCell yL _).setCell yL _).alloc (by simpa using B1.out.size) _).drew)
 ·rw[if_pos (.inr o2)];go_enter Tryz.func127,Tryz.ntmps127;go_wp2_with fail;refine(c.out _).mono ?_;rintro e w1 ⟨rfl,bw⟩;have k1:=Q2.out.below bw Q2.out.lt;have B1:=yH (B0.out.trans (bw.mono (by simp)));have d0:=k1.cell 0;have d1:=k1.cell 1;simp at d0 d1;have f1:=k1.frozen;have hz:=k1.lt;have K1:=yH k1;clear k1 bw;go_wp2
  go_region
  all_goals
   go_wp2;refine bodyPost_ret (v:=.tuple #[.agg #[.int .i64 0,.int .i64 0],.int .i64 10]) (aAh rfl _ _ w.heap.size 46 #[.int .i64 0,.int .i64 0] _ _ rfl (Blk.drew (((K1.out.set 0 (.int .i64 0)).set 1 (.int .i64 0)).alloc _)).out Tryz.underlying46 rfl (by kernel_rfl) rfl) rfl ⟨rfl,?_⟩
   first
   | exact((((B1.out.alloc B1.out.size _).drew).setCell yL _).setCell yL _)
   | exact((((B1.out.setCell yL _).setCell yL _).alloc (by simpa using B1.out.size) _).drew)
 rw[if_neg (by omega)];go_enter Tryz.func127,Tryz.ntmps127;go_wp2_with fail;refine(c.out _).mono ?_;rintro e w1 ⟨rfl,bw⟩;have k1:=Q2.out.below bw Q2.out.lt;have B1:=yH (B0.out.trans (bw.mono (by simp)));have d0:=k1.cell 0;have d1:=k1.cell 1;simp at d0 d1;have f1:=k1.frozen;have hz:=k1.lt;have K1:=yH k1;clear k1 bw;go_wp2
 go_region
 all_goals
  go_wp2;refine bodyPost_ret (v:=.tuple #[.agg #[.int .i64 x,.int .i64 y],.int .i64 0]) (aAh rfl _ _ w.heap.size 46 #[.int .i64 x,.int .i64 y] _ _ rfl (Blk.drew (((K1.out.set 0 (.int .i64 x)).set 1 (.int .i64 y)).alloc _)).out Tryz.underlying46 rfl (by kernel_rfl) rfl) rfl ⟨rfl,?_⟩
  first
  | exact((((B1.out.alloc B1.out.size _).drew).setCell yL _).setCell yL _)
  | exact((((B1.out.setCell yL _).setCell yL _).alloc (by simpa using B1.out.size) _).drew)
theorem of_rat(n d:Int)(w:World)(hn:In64 n)(hd:In64 d):
  Calls Tryz.prog 127 #[.int .i64 n,.int .i64 d] w (yR w (ofV n d)):=by
 by_cases h:n<1∨d<1
 ·exact of_arg n d w h
 obtain⟨g0,x0,xn,y0,yd⟩:=gcd_bd (n:=n) (d:=d) (by omega) (by omega);have:=of_two n d _ _ _ w (by omega) (by omega) hn hd rfl rfl rfl x0 y0 xn yd g0;refine this.mono fun e w' ⟨he,hb⟩=>⟨?_,hb⟩
 rw[he]
 by_cases ho:1099511627776<n/Int.gcd n d∨1099511627776<d/Int.gcd n d
 ·rw[if_pos ho,ofV_over (by omega) (by omega) rfl ho]
 rw[if_neg ho,ofV_good (by omega) (by omega) rfl ho]
end Go.Proofs.YtaeocliklpcgmaaGreat
