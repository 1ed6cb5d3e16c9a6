/- Pieces of one proof. -/
import Derived.Test.YtojbmnbphdcjfaaGreatP19
set_option linter.all false
set_option maxHeartbeats 64000000
set_option maxRecDepth 100000
namespace Go.Proofs.YtojbmnbphdcjfaaGreat
open Go.RowKit
theorem aN2(x k:Nat):x/2 ^ k=2*(x/2 ^ (k+1))+(if x.testBit k then 1 else 0):=by
 rw[←aHi,Nat.pow_succ,←Nat.div_div_eq_div_mul];omega
theorem aIo{k:Nat}(h:64≤k):(18446744073709551616:Nat)≤2 ^ k:=by
 have:=Nat.pow_le_pow_right (n:=2) (by omega) h;exact this
def NumAt(x:Nat)(u i:Value):Prop:=(∃k:Nat,k<192∧i=.int .i64 k∧u=.int .u64 ((x/2 ^ (k+1):Nat):Int))∨(i=.int .i64 (-1)∧u=.int .u64 x)
theorem num_next{x:Nat}(k:Nat)(hk:k<192){u:Int}(hu:u=((x/2 ^ k:Nat):Int)):NumAt x (.int .u64 u) (.int .i64 ((k:Int) - 1)):=by
 rcases Nat.eq_zero_or_pos k with rfl|hp
 ·right;simp at hu;exact⟨rfl,by rw[hu]⟩
 left;refine⟨k - 1,by omega,by rw[show(k:Int) - 1=((k - 1:Nat):Int) by omega],?_⟩
 rw[show k - 1+1=k by omega,hu]
theorem neg_back(x:Nat)(h:x≤9223372036854775808):wrap64 (IntKind.u64.wrap (bits .xor .u64 IntKind.u64.max (x:Int)+1)) = -(x:Int):=by
 rw[u64_not _ (by omega),aBf];obtain⟨h1,h2⟩:=aIw ((18446744073709551615 - (x:Int)+1)%18446744073709551616);unfold In64 at h1;generalize wrap64 ((18446744073709551615 - (x:Int)+1)%18446744073709551616)=y at *;omega
theorem num_small(neg:Bool)(x:Nat)(w:World)(hx:x<18446744073709551616):
  Calls Tryz.prog 100 #[aBp neg x] w fun e w'=>e=.returned (ans (if neg then -(x:Int)else x))∧Below w.heap.size w w':=by
 have hhi:∀k,64≤k→x.testBit k=false:=fun k hk=>Nat.testBit_lt_two_pow (yM hx (aIo hk))
 have Hhi:=yH hhi;clear hhi;have hx':(x:Int)<18446744073709551616:=by omega
 have HX:=yH hx;clear hx;unfold aBp;go_enter Tryz.func100,Tryz.ntmps100;go_wp2;have k1:=pAA w (aAf neg x.testBit) 161;have hb:Below w.heap.size w (w.alloc (.cells (aAf neg x.testBit) 161)):=yZ.alloc yL _;generalize w.alloc (.cells (aAf neg x.testBit) 161)=W at *
 go_loop [4,5] (NumAt x) (fun _ i=>(intOf i+1).toNat)
 case atStart=>exact .inl ⟨191,by omega,rfl,by rw[Nat.div_eq_of_lt (yM HX.out (aIo (by omega)))];rfl⟩
 rcases hrel with⟨k,hk,rfl,rfl⟩|⟨rfl,rfl⟩
 ·have hcell:W.cell? ⟨w.heap.size,1+k,none⟩=some (.bool (x.testBit k)):=by rw[k1.cell (1+k)];exact aDw _ _ k hk
  have hki:(k:Int)<192:=by omega
  have hh:=aN2 x k;have hdl:x/2 ^ k≤x:=Nat.div_le_self _ _;have hl2:2*((x/2 ^ (k+1):Nat):Int)<18446744073709551616:=by omega
  have hl3:(0:Int)≤((x/2 ^ (k+1):Nat):Int):=by omega
  have hbit:=Hhi.out k;have Hh:=yH hh;clear hh hdl;generalize x/2 ^ (k+1)=v at *
  cases hb2:x.testBit k
  ·rw[hb2]at hcell Hh;clear hbit hb2;go_wp2
   go_round
   case rel=>exact num_next k hk (by rw[Hh.out];simp)
   case measure=>simp[intOf] <;> omega
  have hk64:(k:Int)≤63:=by
   rcases Nat.lt_or_ge k 64 with h|h
   ·omega
   rw[hbit h]at hb2;cases hb2
  rw[hb2]at hcell Hh;clear hbit hb2
  have hl4:2*((v:Nat):Int)+1<18446744073709551616:=by
   have e:x/2 ^ k=2*v+1:=by rw[Hh.out,if_pos rfl]
   have hdl2:x/2 ^ k≤x:=Nat.div_le_self _ _;rw[e]at hdl2;have hxo:=HX.out;clear hl2 hx' e Hh;omega
  have e1:IntKind.u64.wrap (2*(v:Int))=2*(v:Int):=aMh _ (by unfold aDz;omega);have e2:IntKind.u64.wrap (2*(v:Int)+1)=2*(v:Int)+1:=aMh _ (by unfold aDz;omega);have hg:decide ((63:Int)<(k:Int))=false:=by simp;omega
  clear hl4 hl2 hl3;go_wp2
  go_round
  case rel=>exact num_next k hk (by rw[Hh.out];simp)
  case measure=>simp[intOf] <;> omega
 have hcell:W.cell? ⟨w.heap.size,0,none⟩=some (.bool neg):=by rw[k1.cell 0];exact aA9 _ _
 have hf0:=k1.frozen 0
 cases neg
 ·by_cases hbig:(9223372036854775808:Int)≤(x:Int)
  ·have hA:=yH (show ans (x:Int)=.tuple #[.int .i64 0,.int .i64 10]from aLf _ (by unfold In64;omega));go_wp2;go_ret2;exact⟨by rw[hA.out];rfl,hb⟩
  have hA:=yH (show ans (x:Int)=.tuple #[.int .i64 (x:Int),.int .i64 0]from aPr _ (by unfold In64;omega));go_wp2;go_ret2;exact⟨by rw[hA.out];rfl,hb⟩
 have hv:(x:Int)≤9223372036854775808→wrap64 (IntKind.u64.wrap (bits .xor .u64 IntKind.u64.max (x:Int)+1)) = -(x:Int):=fun h=>neg_back x (by omega)
 have hx0:(0:Int)≤x:=by omega
 generalize hz:(x:Int)=z at hx' hv hx0 ⊢;have HZ:=yH hz;clear hz
 by_cases hbig:z≤9223372036854775808
 ·have hA:=yH (show ans (-z)=.tuple #[.int .i64 (-z),.int .i64 0]from aPr _ (by unfold In64;omega));have hv':=hv hbig;clear hv;go_wp2;go_ret2;exact⟨by rw[HZ.out,hA.out];rfl,hb⟩
 have hbig2:9223372036854775808≤z:=by omega
 have hA:=yH (show ans (-z)=.tuple #[.int .i64 0,.int .i64 10]from aLf _ (by unfold In64;omega));clear hv;go_wp2;go_ret2;exact⟨by rw[HZ.out,hA.out];rfl,hb⟩
def NumBig(x:Nat)(i:Value):Prop:=∃k:Nat,64≤k∧k<192∧i=.int .i64 k∧x/2 ^ (k+1)=0
theorem num_big(neg:Bool)(x:Nat)(w:World)(hx:18446744073709551616≤x)(hx2:x<2 ^ 192):
  Calls Tryz.prog 100 #[aBp neg x] w (yR w (.tuple #[.int .i64 0,.int .i64 10])):=by
 have HX:=yH hx;have H2:=yH hx2;clear hx hx2;unfold aBp;go_enter Tryz.func100,Tryz.ntmps100;go_wp2;have k1:=pAA w (aAf neg x.testBit) 161;have hb:Below w.heap.size w (w.alloc (.cells (aAf neg x.testBit) 161)):=yZ.alloc yL _;generalize w.alloc (.cells (aAf neg x.testBit) 161)=W at *
 go_loop [4,5] (fun u i=>u=.int .u64 0∧NumBig x i) (fun _ i=>(intOf i+1).toNat)
 case atStart=>exact⟨rfl,191,by omega,by omega,rfl,Nat.div_eq_of_lt H2.out⟩
 obtain⟨rfl,k,hk64,hk,rfl,hz⟩:=hrel;have hcell:W.cell? ⟨w.heap.size,1+k,none⟩=some (.bool (x.testBit k)):=by rw[k1.cell (1+k)];exact aDw _ _ k hk
 have hh:=aN2 x k;rw[hz]at hh;have Hh:=yH hh;have HK:=yH hk64;have hki:(k:Int)<192:=by omega
 have hk63:(63:Int)<(k:Int):=by omega
 clear hh hz hk64
 cases hb2:x.testBit k
 ·rw[hb2]at hcell Hh;clear hb2
  have hne:k≠64:=by
   rintro rfl;have h:=Hh.out;simp at h;have:=HX.out;omega
  have HN:=yH hne;clear hne;go_wp2
  go_round
  case rel=>exact⟨rfl,k - 1,by have:=HK.out;have:=HN.out;omega,by omega,by rw[show(k:Int) - 1=((k - 1:Nat):Int) by have:=HK.out;omega],by have:=HK.out;rw[show k - 1+1=k by omega,Hh.out];simp⟩
  case measure=>simp[intOf] <;> omega
 rw[hb2]at hcell;clear hb2;go_wp2;go_ret2;exact⟨rfl,hb⟩
theorem aN3(neg:Bool)(x:Nat)(w:World)(hx:x<2 ^ 192):
  Calls Tryz.prog 100 #[aBp neg x] w fun e w'=>e=.returned (ans (if neg then -(x:Int)else x))∧Below w.heap.size w w':=by
 by_cases h:x<18446744073709551616
 ·exact num_small neg x w h
 rw[aLf _ (by unfold In64;cases neg <;> simp <;> omega)];exact num_big neg x w (by omega) hx
theorem aGs(b:Bool)(f:Nat→Bool)(w:World):(Instr.build 161 #[(0,.bool b),(1,.agg (arr f))]).run Tryz.prog w=.ok (.agg (aAf b f)) w:=by
 have h:(Instr.build 161 #[(0,.bool b),(1,.agg (arr f))]).run Tryz.prog=fun w=>.ok (.agg (aAf b f)) w:=by
  kernel_rfl
 rw[h]
theorem aBz{w:World}{g:Nat}{neg:Bool}{f:Nat→Bool}{t:TypeId}(h:Blk w g (aAf neg f) t):w.rangeAt g 1 (arr f).toList:=by
 intro j v hv;rw[h.cell (1+j)]
 have hj:j<192:=by
  rcases Nat.lt_or_ge j 192 with h|h
  ·exact h
  rw[List.getElem?_eq_none (by simp[aA6];omega)]at hv;cases hv
 rw[aDw _ _ j hj];simpa [aCa f j hj]using hv
theorem aB6(f:Nat→Bool):(Tryz.prog.info? 159).map (·.size)=some (arr f).toList.length:=by rw[Array.length_toList];exact aAn f
def aLg(na nb:Bool)(x y:Nat):Bool:=if na=nb then na else if x<y then nb else na
def aGt(na nb:Bool)(x y:Nat):Nat:=if na=nb then x+y else if x<y then y - x else x - y
theorem aN4(na:Bool)(x y:Nat)(w:World):
  Calls Tryz.prog 98 #[aBp na x,aBp na y] w (yR w (aBp na (x+y))):=by
 have hz:=aD6;unfold aBp;go_enter Tryz.func98,Tryz.ntmps98;have k1:Blk (((w.alloc (.cells (aAf na x.testBit) 161)).alloc (.cells (aAf na y.testBit) 161)).alloc (.cells (aAf false fun _=>false) 161)) w.heap.size (aAf na x.testBit) 161:=((pAA _ _ _).alloc _).alloc _;have k2:Blk (((w.alloc (.cells (aAf na x.testBit) 161)).alloc (.cells (aAf na y.testBit) 161)).alloc (.cells (aAf false fun _=>false) 161)) (w.heap.size+1) (aAf na y.testBit) 161:=(pAC _ _ _ (by simp)).alloc _;have k3:Blk (((w.alloc (.cells (aAf na x.testBit) 161)).alloc (.cells (aAf na y.testBit) 161)).alloc (.cells (aAf false fun _=>false) 161)) (w.heap.size+1+1) (aAf false fun _=>false) 161:=pAC _ _ _ (by simp);have c1:=k1.cell 0;rw[aA9]at c1;have c2:=k2.cell 0;rw[aA9]at c2;have hb:Below w.heap.size w (((w.alloc (.cells (aAf na x.testBit) 161)).alloc (.cells (aAf na y.testBit) 161)).alloc (.cells (aAf false fun _=>false) 161)):=((yZ.alloc yL _).alloc (by simp) _).alloc (by simp;omega) _
 iterate 20 go_step
 generalize ((w.alloc (.cells (aAf na x.testBit) 161)).alloc (.cells (aAf na y.testBit) 161)).alloc (.cells (aAf false fun _=>false) 161)=W at *;go_wp2_with fail;have hs3:=k3.lt
 refine aD1 (by kernel_rfl) 8 [.pointer (some ⟨w.heap.size,0,none⟩),.bool na,.pointer (some ⟨w.heap.size,1,none⟩),.agg (arr x.testBit),.pointer (some ⟨w.heap.size+1,1,none⟩),.agg (arr y.testBit),.agg (arr (x+y).testBit),.agg (aAf na (x+y).testBit)]
  (fun w'=>Below W.heap.size W w') (by kernel_rfl) rfl (by kernel_rfl) yZ.drew ?_
 intro af haf;simp only[puts,Act.put,yA,yC,yF,yD,yE]at haf;subst haf;refine⟨?_,?_⟩
 ·simp only[List.take_succ_cons,List.take_zero,aA8];refine⟨?_,?_,?_,?_,?_,?_,?_,?_,trivial⟩
  all_goals
   intro w' hS;with_reducible refine yO rfl ?_
  ·go_wp2_with fail
   first|rfl|exact⟨rfl,hS⟩
  ·have d1:=(k1.below hS (by omega)).cell 0;rw[aA9]at d1;go_wp2_with fail
   first|rfl|exact⟨rfl,hS⟩
  ·go_wp2_with fail
   first|rfl|exact⟨rfl,hS⟩
  ·refine wp_load_mid 159 (.tmp 12) rfl w.heap.size 1 rfl (arr x.testBit).toList _ (aBz (k1.below hS (by omega))) Tryz.underlying159 rfl (aB6 _) ?_;exact⟨by rw[Array.toArray_toList];rfl,hS⟩
  ·go_wp2_with fail
   first|rfl|exact⟨rfl,hS⟩
  ·refine wp_load_mid 159 (.tmp 14) rfl (w.heap.size+1) 1 rfl (arr y.testBit).toList _ (aBz (k2.below hS (by omega))) Tryz.underlying159 rfl (aB6 _) ?_;exact⟨by rw[Array.toArray_toList];rfl,hS⟩
  ·go_wp2_with fail;refine(aLb x y w').mono ?_;rintro e w'' ⟨rfl,hb2⟩;exact⟨rfl,andB hS hb2⟩
  refine aFw 161 #[(0,.tmp 11),(1,.tmp 16)] rfl #[(0,.bool na),(1,.agg (arr (x+y).testBit))] (by simp[Act.eval]) _ (aGs na _ _) ?_;exact⟨rfl,hS⟩
 simp only[yC,yA];intro w' hS;with_reducible refine yO rfl ?_
 refine wp_store_row 161 (.tmp 4) (.tmp 17) rfl (w.heap.size+1+1) (aAf na (x+y).testBit) rfl rfl 161 _ (k3.below hS hs3).out (aA3 _ _) (by simp only[aBi]) (aDc _ _) ⟨rfl,?_⟩;go_wp2_with fail;refine bodyPost_ret (v:=aBp na (x+y)) (results_cell_row rfl _ _ (w.heap.size+1+1) 161 (aAf na (x+y).testBit) (0,0) _ rfl (k3.below hS hs3).row Tryz.underlying161 rfl (aA3 _ _)) rfl ⟨rfl,?_⟩;exact below_setRow (hb.trans (hS.mono (by omega))) (by omega) _
theorem aR5(na:Bool)(x y:Nat)(w:World)(hx:x<2 ^ 192)(hy:y<2 ^ 192)(hlt:x<y):
  Calls Tryz.prog 98 #[aBp na x,aBp (!na) y] w (yR w (aBp (!na) (y - x))):=by
 have hz:=aD6;have hne:(na==!na)=false:=by cases na <;> rfl
 have cg:=yH (fun w=>aEd y x w hy hx);have HL:=yH hlt;have hdec:decide (x<y)=true:=by simp;omega
 rw[hdec]at cg;clear hx hy hdec hlt;unfold aBp;go_enter Tryz.func98,Tryz.ntmps98;have k1:Blk (((w.alloc (.cells (aAf na x.testBit) 161)).alloc (.cells (aAf (!na) y.testBit) 161)).alloc (.cells (aAf false fun _=>false) 161)) w.heap.size (aAf na x.testBit) 161:=((pAA _ _ _).alloc _).alloc _;have k2:Blk (((w.alloc (.cells (aAf na x.testBit) 161)).alloc (.cells (aAf (!na) y.testBit) 161)).alloc (.cells (aAf false fun _=>false) 161)) (w.heap.size+1) (aAf (!na) y.testBit) 161:=(pAC _ _ _ (by simp)).alloc _;have k3:Blk (((w.alloc (.cells (aAf na x.testBit) 161)).alloc (.cells (aAf (!na) y.testBit) 161)).alloc (.cells (aAf false fun _=>false) 161)) (w.heap.size+1+1) (aAf false fun _=>false) 161:=pAC _ _ _ (by simp);have c1:=k1.cell 0;rw[aA9]at c1;have c2:=k2.cell 0;rw[aA9]at c2;have hb:Below w.heap.size w (((w.alloc (.cells (aAf na x.testBit) 161)).alloc (.cells (aAf (!na) y.testBit) 161)).alloc (.cells (aAf false fun _=>false) 161)):=((yZ.alloc yL _).alloc (by simp) _).alloc (by simp;omega) _
 iterate 20 go_step
 generalize ((w.alloc (.cells (aAf na x.testBit) 161)).alloc (.cells (aAf (!na) y.testBit) 161)).alloc (.cells (aAf false fun _=>false) 161)=W0 at *;have m1:=yH k1;have m2:=yH k2;have m3:=yH k3
 go_wp2_with (first
  | ((with_reducible refine wpList_load_mid ?_ 159 (.tmp 18) ?_ (w.heap.size+1) 1 ?_ (arr y.testBit).toList _ (aBz m2.out) Tryz.underlying159 ?_ (aB6 _) ?_);exact rfl;exact rfl;exact rfl;exact rfl;rw[Array.toArray_toList])
  | ((with_reducible refine wpList_load_mid ?_ 159 (.tmp 20) ?_ w.heap.size 1 ?_ (arr x.testBit).toList _ (aBz m1.out) Tryz.underlying159 ?_ (aB6 _) ?_);exact rfl;exact rfl;exact rfl;exact rfl;rw[Array.toArray_toList])
  | (go_at_call 143;refine(cg.out _).mono ?_;rintro e W ⟨rfl,hbg⟩))
 have q1:=m1.out.below hbg m1.out.lt;have q2:=m2.out.below hbg m2.out.lt;have q3:=m3.out.below hbg m3.out.lt;have e1:=q1.cell 0;rw[aA9]at e1;have e2:=q2.cell 0;rw[aA9]at e2;have hb2:=andB hb (hbg.mono (by have:=hb.size;omega));have hb3:Below w.heap.size w W:=hb.trans (hbg.mono hb.size);have hs3:=q3.lt;clear c1 c2 k1 k2 k3 hb2
 refine aD1 (by kernel_rfl) 8 [.pointer (some ⟨w.heap.size+1,0,none⟩),.bool (!na),.pointer (some ⟨w.heap.size+1,1,none⟩),.agg (arr y.testBit),.pointer (some ⟨w.heap.size,1,none⟩),.agg (arr x.testBit),.agg (arr (y - x).testBit),.agg (aAf (!na) (y - x).testBit)]
  (fun w'=>Below W.heap.size W w') (by kernel_rfl) rfl (by kernel_rfl) yZ.drew ?_
 intro af haf;simp only[puts,Act.put,yA,yC,yF,yD,yE]at haf;subst haf;refine⟨?_,?_⟩
 ·simp only[List.take_succ_cons,List.take_zero,aA8];refine⟨?_,?_,?_,?_,?_,?_,?_,?_,trivial⟩
  all_goals
   intro w' hS;with_reducible refine yO rfl ?_
  ·go_wp2_with fail
   first|rfl|exact⟨rfl,hS⟩
  ·have d1:=(q2.below hS (by omega)).cell 0;rw[aA9]at d1;go_wp2_with fail
   first|rfl|exact⟨rfl,hS⟩
  ·go_wp2_with fail
   first|rfl|exact⟨rfl,hS⟩
  ·refine wp_load_mid 159 (.tmp 25) rfl (w.heap.size+1) 1 rfl (arr y.testBit).toList _ (aBz (q2.below hS (by omega))) Tryz.underlying159 rfl (aB6 _) ?_;exact⟨by rw[Array.toArray_toList];rfl,hS⟩
  ·go_wp2_with fail
   first|rfl|exact⟨rfl,hS⟩
  ·refine wp_load_mid 159 (.tmp 27) rfl (w.heap.size) 1 rfl (arr x.testBit).toList _ (aBz (q1.below hS (by omega))) Tryz.underlying159 rfl (aB6 _) ?_;exact⟨by rw[Array.toArray_toList];rfl,hS⟩
  ·go_wp2_with fail;refine(aLc y x w' (by have:=HL.out;omega)).mono ?_;rintro e w'' ⟨rfl,hb2⟩;exact⟨rfl,andB hS hb2⟩
  refine aFw 161 #[(0,.tmp 24),(1,.tmp 29)] rfl #[(0,.bool (!na)),(1,.agg (arr (y - x).testBit))] (by simp[Act.eval]) _ (aGs _ _ _) ?_;exact⟨rfl,hS⟩
 simp only[yC,yA];intro w' hS;with_reducible refine yO rfl ?_
 refine wp_store_row 161 (.tmp 4) (.tmp 30) rfl (w.heap.size+1+1) (aAf (!na) (y - x).testBit) rfl rfl 161 _ (q3.below hS hs3).out (aA3 _ _) (by simp only[aBi]) (aDc _ _) ⟨rfl,?_⟩;go_wp2_with fail;refine bodyPost_ret (v:=aBp (!na) (y - x)) (results_cell_row rfl _ _ (w.heap.size+1+1) 161 (aAf (!na) (y - x).testBit) (0,0) _ rfl (q3.below hS hs3).row Tryz.underlying161 rfl (aA3 _ _)) rfl ⟨rfl,?_⟩;exact below_setRow (hb3.trans (hS.mono (by omega))) (by omega) _
theorem aR6(na:Bool)(x y:Nat)(w:World)(hx:x<2 ^ 192)(hy:y<2 ^ 192)(hlt:y≤x):
  Calls Tryz.prog 98 #[aBp na x,aBp (!na) y] w (yR w (aBp na (x - y))):=by
 have hz:=aD6;have hne:(na==!na)=false:=by cases na <;> rfl
 have cg:=yH (fun w=>aEd y x w hy hx);have HL:=yH hlt;have hdec:decide (x<y)=false:=by simp;omega
 rw[hdec]at cg;clear hx hy hdec hlt;unfold aBp;go_enter Tryz.func98,Tryz.ntmps98;have k1:Blk (((w.alloc (.cells (aAf na x.testBit) 161)).alloc (.cells (aAf (!na) y.testBit) 161)).alloc (.cells (aAf false fun _=>false) 161)) w.heap.size (aAf na x.testBit) 161:=((pAA _ _ _).alloc _).alloc _;have k2:Blk (((w.alloc (.cells (aAf na x.testBit) 161)).alloc (.cells (aAf (!na) y.testBit) 161)).alloc (.cells (aAf false fun _=>false) 161)) (w.heap.size+1) (aAf (!na) y.testBit) 161:=(pAC _ _ _ (by simp)).alloc _;have k3:Blk (((w.alloc (.cells (aAf na x.testBit) 161)).alloc (.cells (aAf (!na) y.testBit) 161)).alloc (.cells (aAf false fun _=>false) 161)) (w.heap.size+1+1) (aAf false fun _=>false) 161:=pAC _ _ _ (by simp);have c1:=k1.cell 0;rw[aA9]at c1;have c2:=k2.cell 0;rw[aA9]at c2;have hb:Below w.heap.size w (((w.alloc (.cells (aAf na x.testBit) 161)).alloc (.cells (aAf (!na) y.testBit) 161)).alloc (.cells (aAf false fun _=>false) 161)):=((yZ.alloc yL _).alloc (by simp) _).alloc (by simp;omega) _
 iterate 20 go_step
 generalize ((w.alloc (.cells (aAf na x.testBit) 161)).alloc (.cells (aAf (!na) y.testBit) 161)).alloc (.cells (aAf false fun _=>false) 161)=W0 at *;have m1:=yH k1;have m2:=yH k2;have m3:=yH k3
 go_wp2_with (first
  | ((with_reducible refine wpList_load_mid ?_ 159 (.tmp 18) ?_ (w.heap.size+1) 1 ?_ (arr y.testBit).toList _ (aBz m2.out) Tryz.underlying159 ?_ (aB6 _) ?_);exact rfl;exact rfl;exact rfl;exact rfl;rw[Array.toArray_toList])
  | ((with_reducible refine wpList_load_mid ?_ 159 (.tmp 20) ?_ w.heap.size 1 ?_ (arr x.testBit).toList _ (aBz m1.out) Tryz.underlying159 ?_ (aB6 _) ?_);exact rfl;exact rfl;exact rfl;exact rfl;rw[Array.toArray_toList])
  | (go_at_call 143;refine(cg.out _).mono ?_;rintro e W ⟨rfl,hbg⟩))
 have q1:=m1.out.below hbg m1.out.lt;have q2:=m2.out.below hbg m2.out.lt;have q3:=m3.out.below hbg m3.out.lt;have e1:=q1.cell 0;rw[aA9]at e1;have e2:=q2.cell 0;rw[aA9]at e2;have hb2:=andB hb (hbg.mono (by have:=hb.size;omega));have hb3:Below w.heap.size w W:=hb.trans (hbg.mono hb.size);have hs3:=q3.lt;clear c1 c2 k1 k2 k3 hb2
 refine aD1 (by kernel_rfl) 8 [.pointer (some ⟨w.heap.size,0,none⟩),.bool na,.pointer (some ⟨w.heap.size,1,none⟩),.agg (arr x.testBit),.pointer (some ⟨w.heap.size+1,1,none⟩),.agg (arr y.testBit),.agg (arr (x - y).testBit),.agg (aAf na (x - y).testBit)]
  (fun w'=>Below W.heap.size W w') (by kernel_rfl) rfl (by kernel_rfl) yZ.drew ?_
 intro af haf;simp only[puts,Act.put,yA,yC,yF,yD,yE]at haf;subst haf;refine⟨?_,?_⟩
 ·simp only[List.take_succ_cons,List.take_zero,aA8];refine⟨?_,?_,?_,?_,?_,?_,?_,?_,trivial⟩
  all_goals
   intro w' hS;with_reducible refine yO rfl ?_
  ·go_wp2_with fail
   first|rfl|exact⟨rfl,hS⟩
  ·have d1:=(q1.below hS (by omega)).cell 0;rw[aA9]at d1;go_wp2_with fail
   first|rfl|exact⟨rfl,hS⟩
  ·go_wp2_with fail
   first|rfl|exact⟨rfl,hS⟩
  ·refine wp_load_mid 159 (.tmp 33) rfl (w.heap.size) 1 rfl (arr x.testBit).toList _ (aBz (q1.below hS (by omega))) Tryz.underlying159 rfl (aB6 _) ?_;exact⟨by rw[Array.toArray_toList];rfl,hS⟩
  ·go_wp2_with fail
   first|rfl|exact⟨rfl,hS⟩
  ·refine wp_load_mid 159 (.tmp 35) rfl (w.heap.size+1) 1 rfl (arr y.testBit).toList _ (aBz (q2.below hS (by omega))) Tryz.underlying159 rfl (aB6 _) ?_;exact⟨by rw[Array.toArray_toList];rfl,hS⟩
  ·go_wp2_with fail;refine(aLc x y w' (by have:=HL.out;omega)).mono ?_;rintro e w'' ⟨rfl,hb2⟩;exact⟨rfl,andB hS hb2⟩
  refine aFw 161 #[(0,.tmp 32),(1,.tmp 37)] rfl #[(0,.bool na),(1,.agg (arr (x - y).testBit))] (by simp[Act.eval]) _ (aGs _ _ _) ?_;exact⟨rfl,hS⟩
 simp only[yC,yA];intro w' hS;with_reducible refine yO rfl ?_
 refine wp_store_row 161 (.tmp 4) (.tmp 38) rfl (w.heap.size+1+1) (aAf na (x - y).testBit) rfl rfl 161 _ (q3.below hS hs3).out (aA3 _ _) (by simp only[aBi]) (aDc _ _) ⟨rfl,?_⟩;go_wp2_with fail;refine bodyPost_ret (v:=aBp na (x - y)) (results_cell_row rfl _ _ (w.heap.size+1+1) 161 (aAf na (x - y).testBit) (0,0) _ rfl (q3.below hS hs3).row Tryz.underlying161 rfl (aA3 _ _)) rfl ⟨rfl,?_⟩;exact below_setRow (hb3.trans (hS.mono (by omega))) (by omega) _
theorem aPs(na nb:Bool)(x y:Nat)(w:World)(hx:x<2 ^ 192)(hy:y<2 ^ 192):
  Calls Tryz.prog 98 #[aBp na x,aBp nb y] w (yR w (aBp (aLg na nb x y) (aGt na nb x y))):=by
 unfold aLg aGt
 by_cases h:na=nb
 ·subst h;simp only[if_true];exact aN4 na x y w
 obtain rfl:nb=!na:=by cases na <;> cases nb <;> simp_all
 rw[if_neg h,if_neg h]
 by_cases hlt:x<y
 ·rw[if_pos hlt,if_pos hlt];exact aR5 na x y w hx hy hlt
 rw[if_neg hlt,if_neg hlt];exact aR6 na x y w hx hy (by omega)
theorem times_step(x y k:Nat):x*(y%2 ^ (k+1))=if y.testBit k then x*(y%2 ^ k)+x*2 ^ k else x*(y%2 ^ k):=by
 rw[aQ6,Nat.mul_add];split <;> simp
def TimesAt(na nb:Bool)(x y:Nat)(w:World)(i:Value)(wr:World):Prop:=
 ∃k:Nat,k≤64∧i=.int .i64 k∧Blk wr w.heap.size (aAf na x.testBit) 161∧Blk wr (w.heap.size+1) (aAf nb y.testBit) 161∧
  Blk wr (w.heap.size+1+1) (aAf false fun _=>false) 161∧Blk wr (w.heap.size+1+1+1) (aAf (!(na==nb)) (x*(y%2 ^ k)).testBit) 161∧Below w.heap.size w wr
theorem aLh(na nb:Bool)(x y:Nat)(w:World)(hy:y<18446744073709551616):
  Calls Tryz.prog 142 #[aBp na x,aBp nb y] w (yR w (aBp (!(na==nb)) (x*y))):=by
 have hz:=aD6;have hne:=whole_ne;have hs0:=aMy;have HY:=yH hy;clear hy;unfold aBp;have k1:Blk ((((w.alloc (.cells (aAf na x.testBit) 161)).alloc (.cells (aAf nb y.testBit) 161)).alloc (.cells (aAf false fun _=>false) 161)).alloc (.cells (aAf false fun _=>false) 161)) (w.heap.size+1+1+1) (aAf false fun _=>false) 161:=pAC _ _ _ (by simp)
 have c1:(((w.alloc (.cells (aAf na x.testBit) 161)).alloc (.cells (aAf nb y.testBit) 161)).alloc (.cells (aAf false fun _=>false) 161)).cell? ⟨w.heap.size,0,none⟩=some (.bool na):=by
  have:=(((pAA w (aAf na x.testBit) 161).alloc (.cells (aAf nb y.testBit) 161)).alloc (.cells (aAf false fun _=>false) 161)).cell 0;rw[aA9]at this;exact this
 have c2:(((w.alloc (.cells (aAf na x.testBit) 161)).alloc (.cells (aAf nb y.testBit) 161)).alloc (.cells (aAf false fun _=>false) 161)).cell? ⟨w.heap.size+1,0,none⟩=some (.bool nb):=by
  have:=((pAC (w.alloc (.cells (aAf na x.testBit) 161)) (aAf nb y.testBit) 161 (g:=w.heap.size+1) (by simp)).alloc (.cells (aAf false fun _=>false) 161)).cell 0;rw[aA9]at this;exact this
 go_enter Tryz.func142,Tryz.ntmps142;go_wp2_with ((with_reducible refine wpList_store_row ?_ 161 (.tmp 5) (.tmp 12) ?_ (w.heap.size+1+1+1) (aAf (!(na==nb)) fun _=>false) ?_ ?_ 161 _ k1.out (aA3 _ _) (by simp only[aBi]) (aDc _ _) ?_);exact rfl;exact rfl;exact rfl;exact rfl)
 go_loopw [6] (TimesAt na nb x y w) (fun i _=>64 - (intOf i).toNat)
 case atStart=>
  refine⟨0,by omega,rfl,?_,?_,?_,?_,below_setRow ((((yZ.alloc yL _).alloc (by simp) _).alloc (by simp;omega) _).alloc (by simp;omega) _) (by omega) _⟩
  ·exact((((pAA _ _ _).alloc _).alloc _).alloc _).rowOther (by omega)
  ·exact(((pAC _ _ _ (by simp)).alloc _).alloc _).rowOther (by omega)
  ·exact((pAC _ _ _ (by simp)).alloc _).rowOther (by omega)
  rw[show x*(y%2 ^ 0)=0 by simp[Nat.mod_one],show(Nat.testBit 0)=fun _=>false from funext Nat.zero_testBit];exact k1.row
 obtain⟨k,hk,rfl,b1,b2,b3,b4,hb⟩:=hrel
 by_cases hkl:(k:Int)<64
 ·have hcell:wr.cell? ⟨w.heap.size+1,1+k,none⟩=some (.bool (y.testBit k)):=by rw[b2.cell (1+k)];exact aDw _ _ k (by omega)
  have hst:=yH (times_step x y k);have hs4:=b4.lt
  cases hbit:y.testBit k
  ·rw[hbit]at hcell hst;clear hbit;go_wp2;go_roundw
   case rel=>exact⟨k+1,by omega,by go_num,b1,b2,b3,by rw[hst.out];simpa using b4,hb⟩
   case measure=>simp[intOf] <;> omega
  rw[hbit]at hcell hst;clear hbit;have csh:=yH (fun w=>aMx x k w (by omega));have cpl:=yH (fun w=>aLb (x*(y%2 ^ k)) (x*2 ^ k) w);go_wp2_with fail
  refine aD1 (by kernel_rfl) 8 [.pointer (some ⟨w.heap.size+1+1+1,1,none⟩),.agg (arr (x*(y%2 ^ k)).testBit),.pointer (some ⟨w.heap.size,1,none⟩),.agg (arr x.testBit),.int .i64 k,.agg (arr (x*2 ^ k).testBit),.agg (arr (x*(y%2 ^ k)+x*2 ^ k).testBit),.pointer (some ⟨w.heap.size+1+1+1,1,none⟩)]
   (fun w'=>Below wr.heap.size wr w') (by kernel_rfl) rfl (by kernel_rfl) yZ.drew ?_
  intro af haf;simp only[puts,Act.put,yA,yC,yF,yD,yE]at haf;subst haf;refine⟨?_,?_⟩
  ·simp only[List.take_succ_cons,List.take_zero,aA8];refine⟨?_,?_,?_,?_,?_,?_,?_,?_,trivial⟩
   all_goals
    intro w' hS;with_reducible refine yO rfl ?_
   ·go_wp2_with fail;all_goals first|rfl|exact⟨rfl,hS⟩
   ·refine wp_load_mid 159 (.tmp 21) rfl (w.heap.size+1+1+1) 1 rfl (arr (x*(y%2 ^ k)).testBit).toList _ (aBz (b4.below hS (by omega))) Tryz.underlying159 rfl (aB6 _) ?_;exact⟨by rw[Array.toArray_toList];first|done|rfl,hS⟩
   ·go_wp2_with fail;all_goals first|rfl|exact⟨rfl,hS⟩
   ·refine wp_load_mid 159 (.tmp 23) rfl w.heap.size 1 rfl (arr x.testBit).toList _ (aBz (b1.below hS (by omega))) Tryz.underlying159 rfl (aB6 _) ?_;exact⟨by rw[Array.toArray_toList];first|done|rfl,hS⟩
   ·go_wp2_with fail;all_goals first|rfl|exact⟨rfl,hS⟩
   ·go_wp2_with fail;refine(csh.out w').mono ?_;rintro e w'' ⟨rfl,hb2⟩;exact⟨rfl,andB hS hb2⟩
   ·go_wp2_with fail;refine(cpl.out w').mono ?_;rintro e w'' ⟨rfl,hb2⟩;exact⟨rfl,andB hS hb2⟩
   go_wp2_with fail;all_goals first|rfl|exact⟨rfl,hS⟩
  simp only[yC,yA];intro w' hS;with_reducible refine yO rfl ?_
  have q4:=b4.below hS (by omega);refine wp_store_mid 159 (.tmp 28) (.tmp 27) rfl (w.heap.size+1+1+1) 1 (arr (x*(y%2 ^ k)+x*2 ^ k).testBit) rfl rfl (by rw[aA6];exact aRt q4) (aAn _) (aDt _) ⟨rfl,?_⟩;have q4':=yH (Blk.setCells (arr (x*(y%2 ^ k)+x*2 ^ k).testBit).toList 1 q4);have q1:=pAN (show w.heap.size≠w.heap.size+1+1+1 by omega) (arr (x*(y%2 ^ k)+x*2 ^ k).testBit).toList 1 (b1.below hS (by omega));have q2:=pAN (show w.heap.size+1≠w.heap.size+1+1+1 by omega) (arr (x*(y%2 ^ k)+x*2 ^ k).testBit).toList 1 (b2.below hS (by omega));have q3:=pAN (show w.heap.size+1+1≠w.heap.size+1+1+1 by omega) (arr (x*(y%2 ^ k)+x*2 ^ k).testBit).toList 1 (b3.below hS (by omega));have qb:=aHl (show w.heap.size≤w.heap.size+1+1+1 by omega) (arr (x*(y%2 ^ k)+x*2 ^ k).testBit).toList 1 (hb.trans (hS.mono hb.size));rw[aN0]at q4';generalize w'.setCells (w.heap.size+1+1+1) 1 (arr (x*(y%2 ^ k)+x*2 ^ k).testBit).toList=W2 at *;go_wp2_with fail;go_roundw
  case rel=>exact⟨k+1,by omega,by go_num,q1,q2,q3,by rw[hst.out];exact q4'.out,qb⟩
  case measure=>simp[intOf] <;> omega
 obtain rfl:k=64:=by omega
 rw[show y%2 ^ 64=y from Nat.mod_eq_of_lt HY.out]at b4;have hg2:=b3.lt
 go_wp2_with (first
  | ((with_reducible refine wpList_load_row ?_ 161 (.tmp 5) ?_ (w.heap.size+1+1+1) ?_ 161 (aAf (!(na==nb)) (x*y).testBit) (0,0) _ b4.out Tryz.underlying161 ?_ (aA3 _ _) ?_);exact rfl;exact rfl;exact rfl;exact rfl)
  | ((with_reducible refine wpList_store_row ?_ 161 (.tmp 4) (.tmp 29) ?_ (w.heap.size+1+1) (aAf (!(na==nb)) (x*y).testBit) ?_ ?_ 161 _ b3.out (aA3 _ _) (by simp only[aBi]) (aDc _ _) ?_);exact rfl;exact rfl;exact rfl;exact rfl))
 refine bodyPost_ret (v:=aBp (!(na==nb)) (x*y)) (results_cell_row rfl _ _ (w.heap.size+1+1) 161 (aAf (!(na==nb)) (x*y).testBit) (0,0) _ rfl b3.row Tryz.underlying161 rfl (aA3 _ _)) rfl ⟨rfl,below_setRow hb (by omega) _⟩
theorem div_step(x y k:Nat)(hy:0<y):
  x/2 ^ k/y=2*(x/2 ^ (k+1)/y)+(if y≤2*(x/2 ^ (k+1)%y)+(if x.testBit k then 1 else 0)then 1 else 0)∧
  x/2 ^ k%y=2*(x/2 ^ (k+1)%y)+(if x.testBit k then 1 else 0) - (if y≤2*(x/2 ^ (k+1)%y)+(if x.testBit k then 1 else 0)then y else 0):=by
 have hh:=aN2 x k;rw[hh];generalize x/2 ^ (k+1)=n at *;have hb:(if x.testBit k then 1 else 0:Nat)≤1:=by split <;> omega
 generalize (if x.testBit k then 1 else 0:Nat)=b at *;have hdm:=Nat.div_add_mod n y;have hm:=Nat.mod_lt n hy
 have e:2*n+b=y*(2*(n/y))+(2*(n%y)+b):=by
  rw[Nat.mul_left_comm];omega
 have e1:(2*n+b)/y=2*(n/y)+(2*(n%y)+b)/y:=by rw[e,Nat.mul_add_div hy]
 have e2:(2*n+b)%y=(2*(n%y)+b)%y:=by rw[e,Nat.mul_add_mod]
 rw[e1,e2];generalize n%y=r at *
 by_cases h:y≤2*r+b
 ·rw[if_pos h,if_pos h];have e3:(2*r+b)/y=1:=Nat.div_eq_of_lt_le (by omega) (by omega);have e4:(2*r+b)%y=2*r+b - y:=by rw[Nat.mod_eq_sub_mod h,Nat.mod_eq_of_lt (by omega)]
  rw[e3,e4];omega
 have e3:(2*r+b)/y=0:=Nat.div_eq_of_lt (by omega);have e4:(2*r+b)%y=2*r+b:=Nat.mod_eq_of_lt (by omega);rw[if_neg h,if_neg h,e3,e4];omega
theorem quot_bit(x y k:Nat)(hy:0<y):(x/y).testBit k=decide (y≤2*(x/2 ^ (k+1)%y)+(if x.testBit k then 1 else 0)):=by
 have h:=(div_step x y k hy).1;rw[Nat.testBit_eq_decide_div_mod_eq,Nat.div_div_eq_div_mul,Nat.mul_comm y,←Nat.div_div_eq_div_mul,h,decide_eq_decide];generalize x/2 ^ (k+1)/y=m
 by_cases hc:y≤2*(x/2 ^ (k+1)%y)+(if x.testBit k then 1 else 0)
 ·rw[if_pos hc];simp only[hc,iff_true];omega
 rw[if_neg hc];simp only[hc,iff_false];omega
theorem double_set(r:Nat)(b:Bool):(arr (r*2 ^ 1).testBit).setIfInBounds 0 (.bool b)=arr (2*r+(if b then 1 else 0)).testBit:=by
 rw[aKw];refine aCc fun j hj=>?_
 cases j with
 | zero=>cases b <;> simp[Nat.testBit_zero] <;> omega
 | succ j=>
  rw[if_neg (by omega),Nat.testBit_succ,Nat.testBit_succ];congr 1
  cases b <;> simp <;> omega
theorem above_set(q k:Nat)(h:q.testBit k=true):(arr fun j=>decide (k+1≤j) && q.testBit j).setIfInBounds k (.bool true)=arr fun j=>decide (k≤j) && q.testBit j:=by
 rw[aKw];refine aCc fun j hj=>?_
 by_cases h1:j=k
 ·subst h1;simp[h]
 have:(k+1≤j)=(k≤j):=by simp;omega
 simp[h1,this]
theorem above_skip(q k:Nat)(h:q.testBit k=false):(arr fun j=>decide (k+1≤j) && q.testBit j)=arr fun j=>decide (k≤j) && q.testBit j:=by
 refine aCc fun j hj=>?_
 by_cases h1:j=k
 ·subst h1;simp[h]
 have:(k+1≤j)=(k≤j):=by simp;omega
 simp[this]
theorem aMd{P:Program}{fn:Func}{p q:Tmp}{ty:TypeId}(h:fn.results=#[.cell p ty,.cell q ty])(tmps:Array Value)(w:World)(g g':Nat)(t:TypeId)(cs cs':Array Value)(d:TypeDesc)
  (hp:tmps.getD p undef=.pointer (some ⟨g,0,none⟩))(hq:tmps.getD q undef=.pointer (some ⟨g',0,none⟩))(hg:w.heap[g]? = some (.cells cs t (0,0)))(hg':w.heap[g']? = some (.cells cs' t (0,0)))
  (hu:P.underlying ty=some d)(hd:(match d with | .struct _ | .array _ _=>true|_=>false)=true)(hi:(P.info? ty).map (·.size)=some cs.size)(hi':(P.info? ty).map (·.size)=some cs'.size):
  (results fn tmps).run P w=.ok (.tuple #[.agg cs,.agg cs']) w:=by
 have hp':tmps[p]?.getD undef=.pointer (some ⟨g,0,none⟩):=by simpa using hp
 have hq':tmps[q]?.getD undef=.pointer (some ⟨g',0,none⟩):=by simpa using hq
 simp[results,h,hp',hq',asAddr,run_loadVar_row w g t ty cs (0,0) d hg hu hd hi,run_loadVar_row w g' t ty cs' (0,0) d hg' hu hd hi']
def DivAt(x y:Nat)(w:World)(i:Value)(wr:World):Prop:=
 ∃k:Nat,k≤192∧i=.int .i64 ((k:Int) - 1)∧Blk wr w.heap.size (arr x.testBit) 159∧Blk wr (w.heap.size+1) (arr y.testBit) 159∧
  Blk wr (w.heap.size+1+1) (arr fun _=>false) 159∧Blk wr (w.heap.size+1+1+1) (arr fun _=>false) 159∧
  Blk wr (w.heap.size+1+1+1+1) (arr fun j=>decide (k≤j) && (x/y).testBit j) 159∧Blk wr (w.heap.size+1+1+1+1+1) (arr (x/2 ^ k%y).testBit) 159∧Below w.heap.size w wr
def DivI(x y:Nat)(w:World)(D:Nat→Bool)(w':World):Prop:=
 Blk w' (w.heap.size+1+1+1+1) (arr (x/y).testBit) 159∧Blk w' (w.heap.size+1+1+1+1+1) (arr (x%y).testBit) 159∧
 Blk w' (w.heap.size+1+1) (if D 2 then arr (x/y).testBit else arr fun _=>false) 159∧Blk w' (w.heap.size+1+1+1) (if D 3 then arr (x%y).testBit else arr fun _=>false) 159∧Below w.heap.size w w'
theorem aR7(x y:Nat)(w:World)(hx:x<2 ^ 192)(hy0:0<y)(hy:y<2 ^ 191):
  Calls Tryz.prog 214 #[aFa x,aFa y] w (yR w (.tuple #[aFa (x/y),aFa (x%y)])):=by
 have hz:=aHb;have HX:=yH hx;have HY0:=yH hy0;have HY:=yH hy;clear hx hy0 hy;rw[aB1,aB1];go_enter Tryz.func214,Tryz.ntmps214;go_wp2_with fail
 go_loopw [8] (DivAt x y w) (fun i _=>(intOf i+1).toNat)
 case atStart=>
  refine⟨192,by omega,rfl,?_,?_,?_,?_,?_,?_,(((((yZ.alloc yL _).alloc (by simp) _).alloc (by simp;omega) _).alloc (by simp;omega) _).alloc (by simp;omega) _).alloc (by simp;omega) _⟩
  ·exact(((((pAA _ _ _).alloc _).alloc _).alloc _).alloc _).alloc _
  ·exact((((pAC _ _ _ (by simp)).alloc _).alloc _).alloc _).alloc _
  ·exact(((pAC _ _ _ (by simp)).alloc _).alloc _).alloc _
  ·exact((pAC _ _ _ (by simp)).alloc _).alloc _
  ·rw[show(arr fun j=>decide (192≤j) && (x/y).testBit j)=arr fun _=>false from aCc fun i hi=>by simp;omega];exact(pAC _ _ _ (by simp)).alloc _
  rw[Nat.div_eq_of_lt HX.out,Nat.zero_mod,show(Nat.testBit 0)=fun _=>false from funext Nat.zero_testBit];exact pAC _ _ _ (by simp)
 obtain⟨k,hk,rfl,b0,b1,b2,b3,b4,b5,hb⟩:=hrel;rcases k with _|k
 ·simp only[Nat.pow_zero,Nat.div_one]at b5;rw[show(arr fun j=>decide (0≤j) && (x/y).testBit j)=arr (x/y).testBit from aCc fun i hi=>by simp]at b4;go_wp2_with fail;refine aIx (by kernel_rfl) [.agg (arr (x/y).testBit),.agg (arr (x%y).testBit),undef,undef] (DivI x y w) (by kernel_rfl) ⟨b4,b5,by simpa using b2.drew,by simpa using b3.drew,hb.drew⟩ ?_;intro af haf;simp only[puts,Act.put,yA,yC,yF,yD,yE]at haf;subst haf;refine⟨?_,?_⟩
  ·simp only[aJk];refine⟨?_,?_,?_,?_,trivial⟩
   all_goals
    intro D w' hD hwt hcl hI;obtain⟨i4,i5,i2,i3,ib⟩:=hI;with_reducible refine yO rfl ?_
   ·exact wp_load_row 159 (.tmp 6) rfl (w.heap.size+1+1+1+1) rfl 159 (arr (x/y).testBit) (0,0) _ i4.out Tryz.underlying159 rfl (aAn _) ⟨rfl,i4,i5,by simpa [ins]using i2,by simpa [ins]using i3,ib⟩
   ·exact wp_load_row 159 (.tmp 7) rfl (w.heap.size+1+1+1+1+1) rfl 159 (arr (x%y).testBit) (0,0) _ i5.out Tryz.underlying159 rfl (aAn _) ⟨rfl,i4,i5,by simpa [ins]using i2,by simpa [ins]using i3,ib⟩
   ·rw[hD]at i2;refine wp_store_row 159 (.tmp 4) (.tmp 28) rfl (w.heap.size+1+1) (arr (x/y).testBit) rfl rfl 159 _ i2.out (aAn _) (by simp only[Bool.false_eq_true,if_false,aA6]) (aDt _) ⟨rfl,?_⟩;exact⟨i4.rowOther (by omega),i5.rowOther (by omega),by simpa [ins]using i2.row,by simpa [ins]using i3.rowOther (by omega),below_setRow ib (by omega) _⟩
   rw[hD]at i3;refine wp_store_row 159 (.tmp 5) (.tmp 29) rfl (w.heap.size+1+1+1) (arr (x%y).testBit) rfl rfl 159 _ i3.out (aAn _) (by simp only[Bool.false_eq_true,if_false,aA6]) (aDt _) ⟨rfl,?_⟩;exact⟨i4.rowOther (by omega),i5.rowOther (by omega),by simpa [ins]using i2.rowOther (by omega),by simpa [ins]using i3.row,below_setRow ib (by omega) _⟩
  intro D w' hall hI;obtain⟨i4,i5,i2,i3,ib⟩:=hI;rw[hall 2 (by simp)]at i2;rw[hall 3 (by simp)]at i3;go_wp2_with fail;exact bodyPost_ret (v:=.tuple #[aFa (x/y),aFa (x%y)]) (aMd rfl _ _ (w.heap.size+1+1) (w.heap.size+1+1+1) 159 (arr (x/y).testBit) (arr (x%y).testBit) _ rfl rfl i2.out i3.out Tryz.underlying159 rfl (aAn _) (aAn _)) rfl ⟨rfl,ib⟩
 have hki:((k+1:Nat):Int) - 1=k:=by omega
 rw[hki];have hk1:(k:Int)<192:=by omega
 obtain⟨r,hr⟩:∃r,x/2 ^ (k+1)%y=r:=⟨_,rfl⟩;have hst:=div_step x y k HY0.out;have hqb:=quot_bit x y k HY0.out;rw[hr]at b5 hst hqb;have hry:r<y:=by rw[←hr];exact Nat.mod_lt _ HY0.out
 have hy191:=HY.out;have S1:=yH hst.2;have S2:=yH hqb;have RY:=yH hry;clear hst hr hqb hki hry;generalize hbit:x.testBit k=b at S1 S2;have BT:=yH hbit;have csh:=yH (fun w=>aMx r 1 w (by omega))
 have hlt1:2*r+(if b then 1 else 0)<2 ^ 192:=by
  have:=RY.out;have e:(2:Nat) ^ 192=2*2 ^ 191:=by rw[Nat.pow_succ,Nat.mul_comm]
  rw[e];split <;> omega
 have cgr:=yH (fun w=>aEd y (2*r+(if b then 1 else 0)) w (Nat.lt_trans hy191 (by rw[show(2:Nat) ^ 192=2 ^ 191*2 from Nat.pow_succ ..];have:=Nat.two_pow_pos 191;omega)) hlt1);clear hlt1 hy191 hbit
 go_upto_region 5 with fail
 go_wp2_with ((with_reducible refine wpList_load_row ?_ 159 (.tmp 7) ?_ (w.heap.size+1+1+1+1+1) ?_ 159 (arr r.testBit) (0,0) _ b5.out Tryz.underlying159 ?_ (aAn _) ?_);exact rfl;exact rfl;exact rfl;exact rfl);refine(csh.out _).mono ?_;rw[aB1];rintro e w1 ⟨rfl,hb1⟩;have a0:=b0.below hb1 b0.lt;have a1:=b1.below hb1 b1.lt;have a2:=b2.below hb1 b2.lt;have a3:=b3.below hb1 b3.lt;have a4:=b4.below hb1 b4.lt;have a5:=b5.below hb1 b5.lt;have ha:=hb.trans (hb1.mono hb.size);clear b0 b1 b2 b3 b4 b5 hb hb1
 go_upto_region 6 with((with_reducible refine wpList_store_row ?_ 159 (.tmp 7) (.tmp 14) ?_ (w.heap.size+1+1+1+1+1) (arr (r*2 ^ 1).testBit) ?_ ?_ 159 _ a5.out (aAn _) (by simp only[aA6]) (aDt _) ?_);exact rfl;exact rfl;exact rfl;exact rfl)
 have c0:Blk (w1.setRow (w.heap.size+1+1+1+1+1) (arr (r*2 ^ 1).testBit)) w.heap.size (arr x.testBit) 159:=a0.rowOther (by omega);have c1:Blk (w1.setRow (w.heap.size+1+1+1+1+1) (arr (r*2 ^ 1).testBit)) (w.heap.size+1) (arr y.testBit) 159:=a1.rowOther (by omega);have c2:Blk (w1.setRow (w.heap.size+1+1+1+1+1) (arr (r*2 ^ 1).testBit)) (w.heap.size+1+1) (arr fun _=>false) 159:=a2.rowOther (by omega);have c3:Blk (w1.setRow (w.heap.size+1+1+1+1+1) (arr (r*2 ^ 1).testBit)) (w.heap.size+1+1+1) (arr fun _=>false) 159:=a3.rowOther (by omega);have c4:Blk (w1.setRow (w.heap.size+1+1+1+1+1) (arr (r*2 ^ 1).testBit)) (w.heap.size+1+1+1+1) (arr fun j=>decide (k+1≤j) && (x/y).testBit j) 159:=a4.rowOther (by omega);have c5:Blk (w1.setRow (w.heap.size+1+1+1+1+1) (arr (r*2 ^ 1).testBit)) (w.heap.size+1+1+1+1+1) (arr (r*2 ^ 1).testBit) 159:=a5.row;have hc:=below_setRow ha (show w.heap.size≤(w.heap.size+1+1+1+1+1) by omega) (arr (r*2 ^ 1).testBit);generalize w1.setRow (w.heap.size+1+1+1+1+1) (arr (r*2 ^ 1).testBit)=w2 at *;clear a0 a1 a2 a3 a4 a5 ha;have hcell:w2.cell? ⟨w.heap.size,k,none⟩=some (.bool b):=by rw[c0.cell k,aCa _ _ (by omega),BT.out]
 have hcell5:w2.cell? ⟨w.heap.size+1+1+1+1+1,0,none⟩=some (.bool ((r*2 ^ 1).testBit 0)):=by rw[c5.cell 0,aCa _ _ (by omega)]
 have hf5:=c5.frozen 0;have d0:=c0.setOther (a:=⟨w.heap.size+1+1+1+1+1,0,none⟩) (by simp;omega) (.bool b);have d1:=c1.setOther (a:=⟨w.heap.size+1+1+1+1+1,0,none⟩) (by simp) (.bool b);have d2:=c2.setOther (a:=⟨w.heap.size+1+1+1+1+1,0,none⟩) (by simp) (.bool b);have d3:=c3.setOther (a:=⟨w.heap.size+1+1+1+1+1,0,none⟩) (by simp) (.bool b);have d4:=c4.setOther (a:=⟨w.heap.size+1+1+1+1+1,0,none⟩) (by simp) (.bool b);have d5:=c5.set 0 (.bool b);rw[double_set]at d5;have hd:=hc.setCell (p:=⟨w.heap.size+1+1+1+1+1,0,none⟩) (by simp;omega) (.bool b);clear c0 c1 c2 c3 c4 c5 hc;have D0:=yH d0;have D1:=yH d1;have D2:=yH d2;have D3:=yH d3;have D4:=yH d4;have D5:=yH d5;have HD:=yH hd;clear d0 d1 d2 d3 d4 d5 hd
 go_upto_region 7 with fail
 generalize w2.setCell ⟨w.heap.size+1+1+1+1+1,0,none⟩ (.bool b)=w3 at *;generalize (if b then 1 else 0:Nat)=bn at *;clear hcell hcell5 hf5;go_wp2_with (first|((with_reducible refine wpList_load_row ?_ 159 (.tmp 3) ?_ (w.heap.size+1) ?_ 159 (arr y.testBit) (0,0) _ D1.out.out Tryz.underlying159 ?_ (aAn _) ?_);exact rfl;exact rfl;exact rfl;exact rfl)|((with_reducible refine wpList_load_row ?_ 159 (.tmp 7) ?_ (w.heap.size+1+1+1+1+1) ?_ 159 (arr (2*r+bn).testBit) (0,0) _ D5.out.out Tryz.underlying159 ?_ (aAn _) ?_);exact rfl;exact rfl;exact rfl;exact rfl));refine(cgr.out _).mono ?_;rintro e w4 ⟨rfl,hb4⟩;have e0:=D0.out.below hb4 D0.out.lt;have e1:=D1.out.below hb4 D1.out.lt;have e2:=D2.out.below hb4 D2.out.lt;have e3:=D3.out.below hb4 D3.out.lt;have e4:=D4.out.below hb4 D4.out.lt;have e5:=D5.out.below hb4 D5.out.lt;have he:=HD.out.trans (hb4.mono HD.out.size);clear D0 D1 D2 D3 D4 D5 HD hb4
 by_cases hge:y≤2*r+bn
 ·have hdec:decide (2*r+bn<y)=false:=by simp;omega
  rw[hdec];have cls:=yH (fun w=>aLc (2*r+bn) y w hge);have s1:x/2 ^ k%y=2*r+bn - y:=by rw[S1.out,if_pos hge]
  have s2:(x/y).testBit k=true:=by rw[S2.out];simp[hge]
  have T1:=yH s1;have T2:=yH s2;clear hdec s1 s2 hge;go_wp2_with (first|((with_reducible refine wpList_load_row ?_ 159 (.tmp 7) ?_ (w.heap.size+1+1+1+1+1) ?_ 159 (arr (2*r+bn).testBit) (0,0) _ e5.out Tryz.underlying159 ?_ (aAn _) ?_);exact rfl;exact rfl;exact rfl;exact rfl)|((with_reducible refine wpList_load_row ?_ 159 (.tmp 3) ?_ (w.heap.size+1) ?_ 159 (arr y.testBit) (0,0) _ e1.out Tryz.underlying159 ?_ (aAn _) ?_);exact rfl;exact rfl;exact rfl;exact rfl));refine(cls.out _).mono ?_;rw[aB1];rintro e w5 ⟨rfl,hb5⟩;have f0:=e0.below hb5 e0.lt;have f1:=e1.below hb5 e1.lt;have f2:=e2.below hb5 e2.lt;have f3:=e3.below hb5 e3.lt;have f4:=e4.below hb5 e4.lt;have f5:=e5.below hb5 e5.lt;have hf:=he.trans (hb5.mono he.size);clear e0 e1 e2 e3 e4 e5 he hb5
  go_upto_region 9 with((with_reducible refine wpList_store_row ?_ 159 (.tmp 7) (.tmp 25) ?_ (w.heap.size+1+1+1+1+1) (arr (2*r+bn - y).testBit) ?_ ?_ 159 _ f5.out (aAn _) (by simp only[aA6]) (aDt _) ?_);exact rfl;exact rfl;exact rfl;exact rfl)
  have g0:Blk (w5.setRow (w.heap.size+1+1+1+1+1) (arr (2*r+bn - y).testBit)) w.heap.size (arr x.testBit) 159:=f0.rowOther (by omega);have g1:Blk (w5.setRow (w.heap.size+1+1+1+1+1) (arr (2*r+bn - y).testBit)) (w.heap.size+1) (arr y.testBit) 159:=f1.rowOther (by omega);have g2:Blk (w5.setRow (w.heap.size+1+1+1+1+1) (arr (2*r+bn - y).testBit)) (w.heap.size+1+1) (arr fun _=>false) 159:=f2.rowOther (by omega);have g3:Blk (w5.setRow (w.heap.size+1+1+1+1+1) (arr (2*r+bn - y).testBit)) (w.heap.size+1+1+1) (arr fun _=>false) 159:=f3.rowOther (by omega);have g4:Blk (w5.setRow (w.heap.size+1+1+1+1+1) (arr (2*r+bn - y).testBit)) (w.heap.size+1+1+1+1) (arr fun j=>decide (k+1≤j) && (x/y).testBit j) 159:=f4.rowOther (by omega);have g5:Blk (w5.setRow (w.heap.size+1+1+1+1+1) (arr (2*r+bn - y).testBit)) (w.heap.size+1+1+1+1+1) (arr (2*r+bn - y).testBit) 159:=f5.row;have hg:=below_setRow hf (show w.heap.size≤(w.heap.size+1+1+1+1+1) by omega) (arr (2*r+bn - y).testBit);generalize w5.setRow (w.heap.size+1+1+1+1+1) (arr (2*r+bn - y).testBit)=w6 at *;clear f0 f1 f2 f3 f4 f5 hf;have hcq:w6.cell? ⟨w.heap.size+1+1+1+1,k,none⟩=some (.bool (decide (k+1≤k) && (x/y).testBit k)):=by rw[g4.cell k,aCa _ _ (by omega)]
  have hfq:=g4.frozen k;have h4:=g4.set k (.bool true);rw[above_set _ _ T2.out]at h4;have H4:=yH h4;clear h4;go_wp2_with fail;go_roundw
  case rel=>exact⟨k,by omega,rfl,g0.setOther (by simp;omega) _,g1.setOther (by simp) _,g2.setOther (by simp) _,g3.setOther (by simp) _,H4.out,by rw[T1.out];exact g5.setOther (by simp) _,hg.setCell (by simp;omega) _⟩
  case measure=>simp[intOf] <;> omega
 have hdec:decide (2*r+bn<y)=true:=by simp;omega
 rw[hdec];have s1:x/2 ^ k%y=2*r+bn:=by rw[S1.out,if_neg hge];rfl
 have s2:(x/y).testBit k=false:=by rw[S2.out];simp[hge]
 have T1:=yH s1;have T2:=yH s2;clear hdec s1 s2 hge;go_wp2_with fail;go_roundw
 case rel=>exact⟨k,by omega,rfl,e0,e1,e2,e3,by rw[←above_skip _ _ T2.out];exact e4,by rw[T1.out];exact e5,he⟩
 case measure=>simp[intOf] <;> omega
theorem aN5(neg:Bool)(f:Nat→Bool):(aAf neg f).extract 1 193=arr f:=by
 apply Array.ext_getElem?;intro j;rw[Array.getElem?_extract,aBi]
 by_cases hj:j<192
 ·rw[if_pos (by omega),aDw _ _ j hj,aCa _ j hj]
 rw[if_neg (by omega),Array.getElem?_eq_none (by rw[aA6];omega)]
theorem aIp{P:Program}{ops:Array Oper}{rest:List Oper}{o:Oper}{a:Act}{w:World}{Q:Exit→Act→World→Prop}(hw:Region.wanted o (yielded ops a.tmps)=true)
  (h:∀K:Act→World→Prop,(∀a w,wpList P ops Q rest a w→K a w)→o.wp P a w K Q):wpList P ops Q (o::rest) a w:=
 wpList_step fun K hK=>by rw[if_pos hw];exact h K hK
theorem aHm(neg:Bool)(f:Nat→Bool)(w:World):(Instr.field 161 (.agg (aAf neg f)) 1).run Tryz.prog w=.ok (.agg (arr f)) w:=by
 have h1:(isAgg 159).run Tryz.prog w=.ok true w:=by kernel_rfl
 have h2:(sizeOf 159).run Tryz.prog w=.ok 192 w:=by kernel_rfl
 simp[Instr.field,run_underlying Tryz.underlying161,asAgg,part,h1,h2,aN5]
theorem run_eq_arr(f g:Nat→Bool)(w:World):
  (Op.equalIn 10000 159 (.agg (arr f)) (.agg (arr g))).run Tryz.prog w=.ok ((List.range 192).all fun i=>f i==g i) w:=by
 refine aFd (P:=Tryz.prog) 9999 159 4 192 Tryz.underlying159 (fun w=>by kernel_rfl) (fun w=>by kernel_rfl) (arr f) (arr g) (aA6 f) (aA6 g) _ ?_ w;intro i x y w hx hy
 have hi:i<192:=by
  rcases Nat.lt_or_ge i 192 with h|h
  ·exact h
  rw[Array.getElem?_eq_none (by rw[aA6];omega)]at hx;cases hx
 rw[aCa f i hi]at hx;rw[aCa g i hi]at hy
 cases hx;cases hy
 exact run_equalIn_bool' w 9998 4 (f i) (g i) Tryz.underlying4
theorem aJ3(f:Nat→Bool)(w:World):(Instr.build 161 #[(1,.agg (arr f))]).run Tryz.prog w=.ok (.agg (aAf false f)) w:=by
 have h:(Instr.build 161 #[(1,.agg (arr f))]).run Tryz.prog=fun w=>.ok (.agg (aAf false f)) w:=by
  kernel_rfl
 rw[h]
theorem all_zero(x:Nat)(hx:x<2 ^ 192):((List.range 192).all fun i=>x.testBit i==false)=decide (x=0):=by
 rw[Bool.eq_iff_iff];simp only[List.all_eq_true,List.mem_range,beq_iff_eq,decide_eq_true_eq]
 constructor
 ·intro h;refine Nat.eq_of_testBit_eq fun i=>?_
  rw[Nat.zero_testBit]
  by_cases hi:i<192
  ·exact h i hi
  exact Nat.testBit_lt_two_pow (yM hx (Nat.pow_le_pow_right (by omega) (by omega)))
 rintro rfl i _;exact Nat.zero_testBit i
theorem by_bad(a num den:Int)(up:Bool)(w:World)(hbad:a<0∨num<0∨den<1):
  Calls Tryz.prog 182 #[.int .i64 a,.int .i64 num,.int .i64 den,.bool up] w (yR w (.tuple #[.int .i64 0,.int .i64 1])):=by
 have hs:(a<0)∨(¬a<0∧num<0)∨(¬a<0∧¬num<0∧den<1):=by omega
 clear hbad;rcases hs with h1|⟨h1,h2⟩|⟨h1,h2,h3⟩
 all_goals
  go_enter Tryz.func182,Tryz.ntmps182;go_wp2_with fail;go_ret2;exact⟨rfl,yZ⟩
theorem by_good(a num den:Int)(up:Bool)(w:World)(ha:In64 a)(hn:In64 num)(hd:In64 den)(h1:0≤a)(h2:0≤num)(h3:1≤den):
  Calls Tryz.prog 182 #[.int .i64 a,.int .i64 num,.int .i64 den,.bool up] w fun e w'=>e=.returned (ans (if up then upN (a*num) den else a*num/den))∧Below w.heap.size w w':=by
 have hz:=aHb;have hzw:=aD6;have hfl:=aHm;have cA:=yH (fun w=>aIn a w ha);have cN:=yH (fun w=>aIn num w hn);have cD:=yH (fun w=>aIn den w hd);obtain⟨A,rfl⟩:=Int.eq_ofNat_of_zero_le h1;obtain⟨M,rfl⟩:=Int.eq_ofNat_of_zero_le h2;obtain⟨E,rfl⟩:=Int.eq_ofNat_of_zero_le (show 0≤den by omega);rw[decide_eq_false (by omega),Int.natAbs_natCast]at cA cN cD;unfold In64 at ha hn hd;have cT:=yH (fun w=>aLh false false A M w (by omega))
 have hAM:A*M<2 ^ 192:=by
  have h:A*M≤9223372036854775807*9223372036854775807:=Nat.mul_le_mul (by omega) (by omega);exact Nat.lt_of_le_of_lt h (by decide)
 have cV:=yH (fun w=>aR7 (A*M) E w hAM (by omega) (Nat.lt_of_le_of_lt (show E≤9223372036854775807 by omega) (by decide)));rw[aB1,aB1,aB1,aB1]at cV;have HAM:=yH hAM;have HM2:=yH (show A*M≤9223372036854775807*9223372036854775807 from Nat.mul_le_mul (by omega) (by omega));clear hAM ha hn hd;go_enter Tryz.func182,Tryz.ntmps182;go_wp2_with fail;refine(cA.out _).mono ?_;rintro e w1 ⟨rfl,b1⟩;go_wp2_with fail;refine(cN.out _).mono ?_;rintro e w2 ⟨rfl,b2⟩;go_wp2_with fail;refine(cT.out _).mono ?_;unfold aBp;rintro e w3 ⟨rfl,b3⟩;go_wp2_with fail;refine(cD.out _).mono ?_;unfold aBp;rintro e w4 ⟨rfl,b4⟩;go_wp2_with fail;refine(cV.out _).mono ?_;rintro e w5 ⟨rfl,b5⟩;have hb:Below w.heap.size w w5:=andB (andB (andB (andB b1 b2) b3) b4) b5;clear b1 b2 b3 b4 b5 cA cN cD cT cV;have k1:Blk ((w5.alloc (.cells (arr fun _=>false) 159)).alloc (.cells (arr fun _=>false) 159)) w5.heap.size (arr fun _=>false) 159:=(pAA _ _ _).alloc _;have k2:Blk ((w5.alloc (.cells (arr fun _=>false) 159)).alloc (.cells (arr fun _=>false) 159)) (w5.heap.size+1) (arr fun _=>false) 159:=pAC _ _ _ (by simp);have hb6:Below w.heap.size w ((w5.alloc (.cells (arr fun _=>false) 159)).alloc (.cells (arr fun _=>false) 159)):=(hb.alloc hb.size _).alloc (by have:=hb.size;simp;omega) _;have k2':=k2.rowOther (k:=w5.heap.size) (cs':=arr (A*M/E).testBit) (by omega)
 go_upto_region 4 with(first|((with_reducible refine wpList_store_row ?_ 159 (.tmp 10) (.tmp 33) ?_ w5.heap.size (arr (A*M/E).testBit) ?_ ?_ 159 _ k1.out (aAn _) (by simp only[aA6]) (aDt _) ?_);exact rfl;exact rfl;exact rfl;exact rfl)|((with_reducible refine wpList_store_row ?_ 159 (.tmp 11) (.tmp 34) ?_ (w5.heap.size+1) (arr (A*M%E).testBit) ?_ ?_ 159 _ k2'.out (aAn _) (by simp only[aA6]) (aDt _) ?_);exact rfl;exact rfl;exact rfl;exact rfl))
 have q1:=(k1.row (cs:=arr (A*M/E).testBit)).rowOther (k:=w5.heap.size+1) (cs':=arr (A*M%E).testBit) (by omega);have q2:=k2'.row (cs:=arr (A*M%E).testBit);have hb7:=below_setRow (below_setRow hb6 (show w.heap.size≤w5.heap.size from hb.size) (arr (A*M/E).testBit)) (show w.heap.size≤w5.heap.size+1 by have:=hb.size;omega) (arr (A*M%E).testBit);have hle:=hb.size;generalize hg:w5.heap.size=g at *;generalize ((((w5.alloc (.cells (arr fun _=>false) 159)).alloc (.cells (arr fun _=>false) 159)).setRow g (arr (A*M/E).testBit)).setRow (g+1) (arr (A*M%E).testBit))=W at *;clear k1 k2 k2' hb6 hb hg;have hql:A*M/E<2 ^ 192:=Nat.lt_of_le_of_lt (Nat.div_le_self _ _) HAM.out;have hrl:A*M%E<2 ^ 192:=Nat.lt_of_le_of_lt (Nat.mod_le _ _) HAM.out
 have hqe:∀w,(Op.equalIn 10000 159 (.agg (arr (A*M%E).testBit)) (.agg (arr fun _=>false))).run Tryz.prog w=.ok (decide (A*M%E=0)) w:=fun w=>by
  rw[run_eq_arr,all_zero _ hrl]
 have e1:((A:Int)*(M:Int))/(E:Int)=((A*M/E:Nat):Int):=by simp
 have e2:((A:Int)*(M:Int))%(E:Int)=((A*M%E:Nat):Int):=by simp
 have hbw:=yH aJ3;have hqb:A*M/E≤9223372036854775807*9223372036854775807:=Nat.le_trans (Nat.div_le_self _ _) HM2.out;have QL:=yH hql;have QB:=yH hqb;clear hrl hql hqb;generalize hQ:A*M/E=q at *;generalize hR:A*M%E=r at *;have E1:=yH e1;have E2:=yH e2;clear e1 e2 hQ hR
 cases up
 ·have cN:=yH (fun w=>aN3 false q w QL.out)
  go_upto_region 6 with fail
  go_wp2_with (first|((with_reducible refine wpList_load_row ?_ 159 (.tmp 10) ?_ g ?_ 159 (arr q.testBit) (0,0) _ q1.out Tryz.underlying159 ?_ (aAn _) ?_);exact rfl;exact rfl;exact rfl;exact rfl)|((with_reducible refine aCd ?_ 161 #[(1,.tmp 45)] ?_ #[(1,.agg (arr q.testBit))] ?_ _ (hbw.out _ _) ?_);exact rfl;exact rfl;(first|rfl|(simp[Act.eval];done)|(simp[Act.eval];rfl))));refine(cN.out _).mono ?_;unfold ans;rintro e w6 ⟨rfl,b6⟩;go_wp2_with fail;go_ret2;exact⟨by simp only[Bool.false_eq_true,if_false];rw[E1.out];rfl,hb7.trans (b6.mono hb7.size)⟩
 by_cases hr0:r=0
 ·have cN:=yH (fun w=>aN3 false q w QL.out);have hd:decide (r=0)=true:=by simp[hr0]
  have HR:=yH hr0;rw[hd]at hqe;clear hd hr0
  go_upto_region 6 with((with_reducible refine aIp ?_ (fun K hK=>wp_load_row 159 (.tmp 11) ?_ (g+1) ?_ 159 (arr r.testBit) (0,0) _ q2.out Tryz.underlying159 ?_ (aAn _) (hK _ _ ?_)));exact rfl;exact rfl;exact rfl;exact rfl)
  go_wp2_with (first|((with_reducible refine wpList_load_row ?_ 159 (.tmp 10) ?_ g ?_ 159 (arr q.testBit) (0,0) _ q1.out Tryz.underlying159 ?_ (aAn _) ?_);exact rfl;exact rfl;exact rfl;exact rfl)|((with_reducible refine aCd ?_ 161 #[(1,.tmp 45)] ?_ #[(1,.agg (arr q.testBit))] ?_ _ (hbw.out _ _) ?_);exact rfl;exact rfl;(first|rfl|(simp[Act.eval];done)|(simp[Act.eval];rfl))));refine(cN.out _).mono ?_;unfold ans;rintro e w6 ⟨rfl,b6⟩;go_wp2_with fail;go_ret2;exact⟨by simp only[if_true];rw[upN,E2.out,HR.out,E1.out];simp;rfl,hb7.trans (b6.mono hb7.size)⟩
 have cN:=yH (fun w=>aN3 false (q+1) w (Nat.lt_of_le_of_lt (show q+1≤9223372036854775807*9223372036854775807+1 by have:=QB.out;omega) (by decide)));have cO:=yH (fun w=>aIn 1 w (by decide));rw[show aBp (decide ((1:Int)<0)) (Int.natAbs 1)=.agg (aAf false (Nat.testBit 1))from rfl]at cO;have cP:=yH (fun w=>aLb q 1 w);rw[aB1,aB1,aB1]at cP;have hd:decide (r=0)=false:=by simp[hr0]
 have HR:=yH hr0;rw[hd]at hqe;clear hd hr0
 go_upto_region 5 with((with_reducible refine aIp ?_ (fun K hK=>wp_load_row 159 (.tmp 11) ?_ (g+1) ?_ 159 (arr r.testBit) (0,0) _ q2.out Tryz.underlying159 ?_ (aAn _) (hK _ _ ?_)));exact rfl;exact rfl;exact rfl;exact rfl)
 refine aD1 (by kernel_rfl) 4 [.agg (arr q.testBit),.agg (aAf false (Nat.testBit 1)),.agg (arr (Nat.testBit 1)),.agg (arr (q+1).testBit)]
  (fun w'=>Below W.heap.size W w') (by kernel_rfl) rfl (by kernel_rfl) yZ.drew ?_
 intro af haf;simp only[puts,Act.put,yA,yC,yF,yD,yE]at haf;subst haf;have l1:=q1.lt;refine⟨?_,?_⟩
 ·simp only[List.take_succ_cons,List.take_zero,aA8];refine⟨?_,?_,?_,?_,trivial⟩
  all_goals
   intro w' hS;with_reducible refine yO rfl ?_
  ·exact wp_load_row 159 (.tmp 10) rfl g rfl 159 (arr q.testBit) (0,0) _ (q1.below hS l1).out Tryz.underlying159 rfl (aAn _) ⟨rfl,hS⟩
  ·go_wp2_with fail;refine(cO.out w').mono ?_;rintro e w'' ⟨rfl,hb2⟩;exact⟨rfl,andB hS hb2⟩
  ·go_wp2_with fail;all_goals first|rfl|exact⟨rfl,hS⟩
  go_wp2_with fail;refine(cP.out w').mono ?_;rintro e w'' ⟨rfl,hb2⟩;exact⟨rfl,andB hS hb2⟩
 simp only[yC,yA];intro w' hS;with_reducible refine yO rfl ?_
 refine wp_store_row 159 (.tmp 10) (.tmp 44) rfl g (arr (q+1).testBit) rfl rfl 159 _ (q1.below hS l1).out (aAn _) (by simp only[aA6]) (aDt _) ⟨rfl,?_⟩;have p1:=(q1.below hS l1).row (cs:=arr (q+1).testBit);have hb8:=below_setRow (hb7.trans (hS.mono hb7.size)) hle (arr (q+1).testBit);generalize w'.setRow g (arr (q+1).testBit)=W8 at *
 go_upto_region 6 with fail
 go_wp2_with (first|((with_reducible refine wpList_load_row ?_ 159 (.tmp 10) ?_ g ?_ 159 (arr (q+1).testBit) (0,0) _ p1.out Tryz.underlying159 ?_ (aAn _) ?_);exact rfl;exact rfl;exact rfl;exact rfl)|((with_reducible refine aCd ?_ 161 #[(1,.tmp 45)] ?_ #[(1,.agg (arr (q+1).testBit))] ?_ _ (hbw.out _ _) ?_);exact rfl;exact rfl;(first|rfl|(simp[Act.eval];done)|(simp[Act.eval];rfl))));refine(cN.out _).mono ?_;unfold ans;rintro e w6 ⟨rfl,b6⟩;go_wp2_with fail;go_ret2;exact⟨by simp only[if_true];rw[upN,E2.out,E1.out,if_neg (by have:=HR.out;omega)];simp;rfl,hb8.trans (b6.mono hb8.size)⟩
theorem rby_any(a num den:Int)(up:Bool)(w:World)(ha:In64 a)(hn:In64 num)(hd:In64 den):
  Calls Tryz.prog 182 #[.int .i64 a,.int .i64 num,.int .i64 den,.bool up] w fun e w'=>e=.returned (if up then upV a num den else aHz a num den)∧Below w.heap.size w w':=by
 by_cases hbad:a<0∨num<0∨den<1
 ·have e:(if up then upV a num den else aHz a num den)=.tuple #[.int .i64 0,.int .i64 1]:=by cases up <;> simp[upV,aHz,hbad]
  rw[e];exact by_bad a num den up w hbad
 have e:(if up then upV a num den else aHz a num den)=ans (if up then upN (a*num) den else a*num/den):=by cases up <;> simp[upV,aHz,hbad]
 rw[e];exact by_good a num den up w ha hn hd (by omega) (by omega) (by omega)
theorem rup_any(a num den:Int)(w:World)(ha:In64 a)(hn:In64 num)(hd:In64 den):
  Calls Tryz.prog 144 #[.int .i64 a,.int .i64 num,.int .i64 den] w (yR w (upV a num den)):=by
 have hc:=yH (fun w=>rby_any a num den true w ha hn hd);have hv:∃x y,upV a num den=.tuple #[.int .i64 x,.int .i64 y]:=by unfold upV ans;split <;> exact⟨_,_,rfl⟩
 obtain⟨x,y,hv⟩:=hv;simp only[if_true,hv]at hc;have HV:=yH hv;clear hv;go_enter Tryz.func144,Tryz.ntmps144;go_wp2_with fail;refine(hc.out _).mono ?_;rintro e w' ⟨rfl,hb⟩;go_wp2_with fail;go_ret2;exact⟨by rw[HV.out];rfl,hb⟩
end Go.Proofs.YtojbmnbphdcjfaaGreat
