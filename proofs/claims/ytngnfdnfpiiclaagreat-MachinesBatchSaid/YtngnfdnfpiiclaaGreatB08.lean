/- Pieces of one proof. -/
import Derived.Test.YtngnfdnfpiiclaaGreatB07
import Derived.Lib.SliceRun
set_option linter.all false
set_option maxHeartbeats 64000000
set_option maxRecDepth 100000
namespace Go.Proofs.YtngnfdnfpiiclaaGreat
open Go.RowKit
theorem aIh(n d:Int):mayB n d=true↔MayN n d:=by simp[mayB]
theorem of_self{n d:Int}(h:MayN n d):ofRN n d=n∧ofD n d=d:=by
 obtain⟨h1,h2,h3,h4,h5⟩:=h;have hn:¬(n<1∨d<1):=by omega
 have e1:n/(1:Int)=n:=Int.ediv_one n;have e2:d/(1:Int)=d:=Int.ediv_one d;have ho:¬(1099511627776<n∨1099511627776<d):=by omega
 simp[ofRN,ofD,hn,h5,ho]
theorem of_not{n d:Int}(h:¬MayN n d):(ofRN n d=n∧ofD n d=d∧n=0∧d=0)∨ofRN n d≠n∨ofD n d≠d:=by
 unfold ofRN ofD
 by_cases hn:n<1∨d<1
 ·rw[if_pos hn,if_pos hn];omega
 rw[if_neg hn,if_neg hn]
 by_cases ho:1099511627776<n/Int.gcd n d∨1099511627776<d/Int.gcd n d
 ·rw[if_pos ho,if_pos ho];omega
 rw[if_neg ho,if_neg ho]
 right
 rcases Classical.em (n/Int.gcd n d=n)with e|e
 ·have g1:Int.gcd n d=1:=by
   have hd:=Int.mul_ediv_cancel' (Int.gcd_dvd_left (a:=n) (b:=d));rw[e]at hd;have hnn:n*((Int.gcd n d:Int) - 1)=0:=by rw[Int.mul_sub,Int.mul_one,Int.mul_comm];omega
   rcases Int.mul_eq_zero.1 hnn with h|h <;> omega
  rw[g1]at ho;have e1:n/((1:Nat):Int)=n:=Int.ediv_one n;have e2:d/((1:Nat):Int)=d:=Int.ediv_one d;rw[e1,e2]at ho;exact absurd ⟨by omega,by omega,by omega,by omega,g1⟩ h
 exact .inl e
def alN(n d:Int):Int:=if mayB n d then n else 0
def alD(n d:Int):Int:=if mayB n d then d else 0
theorem aMh(n d:Int)(w:World)(hn:In64 n)(hd:In64 d):
  Calls Tryz.prog 190 #[.agg #[.int .i64 n,.int .i64 d]] w (yR w (.agg #[.int .i64 (alN n d),.int .i64 (alD n d)])):=by
 have c:=yH (fun w=>of_rat n d w hn hd);unfold ofV at c
 have hs:(ofRN n d=n∧ofD n d=d∧alN n d=n∧alD n d=d)∨(ofRN n d≠n∧alN n d=0∧alD n d=0)∨(ofRN n d=n∧ofD n d≠d∧alN n d=0∧alD n d=0):=by
  unfold alN alD
  by_cases hm:MayN n d
  ·rw[(aIh n d).2 hm];obtain⟨a,b⟩:=of_self hm;exact .inl ⟨a,b,rfl,rfl⟩
  have e:mayB n d=false:=by rw[Bool.eq_false_iff];exact fun h=>hm ((aIh n d).1 h)
  rw[e];rcases of_not hm with⟨a,b,rfl,rfl⟩|h|h
  ·exact .inl ⟨a,b,rfl,rfl⟩
  ·exact .inr (.inl ⟨h,rfl,rfl⟩)
  by_cases h':ofRN n d=n
  ·exact .inr (.inr ⟨h',h,rfl,rfl⟩)
  exact .inr (.inl ⟨h',rfl,rfl⟩)
 generalize ofRN n d=x at *;generalize ofD n d=y at *;generalize ofE n d=z at *;have k1:Blk ((w.alloc (.cells #[.int .i64 n,.int .i64 d] 73)).alloc (.cells #[.int .i64 0,.int .i64 0] 73)) w.heap.size #[.int .i64 n,.int .i64 d] 73:=(Blk.new _ _ _).alloc _;have k2:Blk ((w.alloc (.cells #[.int .i64 n,.int .i64 d] 73)).alloc (.cells #[.int .i64 0,.int .i64 0] 73)) (w.heap.size+1) #[.int .i64 0,.int .i64 0] 73:=pAB _ _ _ (by simp);have b0:Below w.heap.size w ((w.alloc (.cells #[.int .i64 n,.int .i64 d] 73)).alloc (.cells #[.int .i64 0,.int .i64 0] 73)):=(yZ.alloc yL _).alloc (by simp) _;have K1:=yH k1;have K2:=yH k2;have B0:=yH b0;clear k1 k2 b0 hn hd;rcases hs with⟨e1,e2,e3,e4⟩|⟨e1,e3,e4⟩|⟨e1,e2,e3,e4⟩
 ·rw[e3,e4];subst e1 e2;clear e3 e4;go_enter Tryz.func190,Tryz.ntmps190;go_wp2_with fail;refine(c.out _).mono ?_;rintro e w1 ⟨rfl,bw⟩;have q1:=K1.out.below bw K1.out.lt;have q2:=K2.out.below bw K2.out.lt;have B1:=yH (B0.out.trans (bw.mono (by simp;omega)));have d0:=q1.cell 0;have d1:=q1.cell 1;have e0:=q2.cell 0;have e1:=q2.cell 1;simp at d0 d1 e0 e1;have f2:=q2.frozen;have hz:=q1.lt;have hz2:=q2.lt;have Q2:=yH q2;clear q1 q2 bw;go_wp2;refine bodyPost_ret (v:=.agg #[.int .i64 x,.int .i64 y]) (results_cell_row rfl _ _ (w.heap.size+1) 73 #[.int .i64 x,.int .i64 y] (0,0) _ rfl (((Q2.out.set 0 (.int .i64 x)).set 1 (.int .i64 y)).alloc _).out Tryz.underlying73 rfl (by kernel_rfl)) rfl ⟨by simp,?_⟩;exact(((B1.out.setCell (by simp) _).setCell (by simp) _).alloc (by simpa using B1.out.size) _)
 ·rw[e3,e4];have e5:(x==n)=false:=by simp[e1]
  clear e1 e3 e4;go_enter Tryz.func190,Tryz.ntmps190;go_wp2_with fail;refine(c.out _).mono ?_;rintro e w1 ⟨rfl,bw⟩;have q1:=K1.out.below bw K1.out.lt;have q2:=K2.out.below bw K2.out.lt;have B1:=yH (B0.out.trans (bw.mono (by simp;omega)));have d0:=q1.cell 0;have d1:=q1.cell 1;have e0:=q2.cell 0;have e1:=q2.cell 1;simp at d0 d1 e0 e1;have f2:=q2.frozen;have hz:=q1.lt;have hz2:=q2.lt;have Q2:=yH q2;clear q1 q2 bw;go_wp2;refine bodyPost_ret (v:=.agg #[.int .i64 0,.int .i64 0]) (results_cell_row rfl _ _ (w.heap.size+1) 73 #[.int .i64 0,.int .i64 0] (0,0) _ rfl (((Q2.out.set 0 (.int .i64 0)).set 1 (.int .i64 0)).alloc _).out Tryz.underlying73 rfl (by kernel_rfl)) rfl ⟨by simp,?_⟩;exact(((B1.out.setCell (by simp) _).setCell (by simp) _).alloc (by simpa using B1.out.size) _)
 rw[e3,e4];subst e1;have e5:(y==d)=false:=by simp[e2]
 clear e2 e3 e4;go_enter Tryz.func190,Tryz.ntmps190;go_wp2_with fail;refine(c.out _).mono ?_;rintro e w1 ⟨rfl,bw⟩;have q1:=K1.out.below bw K1.out.lt;have q2:=K2.out.below bw K2.out.lt;have B1:=yH (B0.out.trans (bw.mono (by simp;omega)));have d0:=q1.cell 0;have d1:=q1.cell 1;have e0:=q2.cell 0;have e1:=q2.cell 1;simp at d0 d1 e0 e1;have f2:=q2.frozen;have hz:=q1.lt;have hz2:=q2.lt;have Q2:=yH q2;clear q1 q2 bw;go_wp2;refine bodyPost_ret (v:=.agg #[.int .i64 0,.int .i64 0]) (results_cell_row rfl _ _ (w.heap.size+1) 73 #[.int .i64 0,.int .i64 0] (0,0) _ rfl (((Q2.out.set 0 (.int .i64 0)).set 1 (.int .i64 0)).alloc _).out Tryz.underlying73 rfl (by kernel_rfl)) rfl ⟨by simp,?_⟩;exact(((B1.out.setCell (by simp) _).setCell (by simp) _).alloc (by simpa using B1.out.size) _)
theorem aO9(n d:Int):(mayB n d=true∧alN n d=n∧alD n d=d∧1≤n∧1≤d∧n≤1099511627776∧d≤1099511627776)∨(mayB n d=false∧alN n d=0∧alD n d=0):=by
 unfold alN alD
 by_cases hm:MayN n d
 ·rw[(aIh n d).2 hm];exact .inl ⟨rfl,rfl,rfl,hm.1,hm.2.1,hm.2.2.1,hm.2.2.2.1⟩
 have e:mayB n d=false:=by rw[Bool.eq_false_iff];exact fun h=>hm ((aIh n d).1 h)
 rw[e];exact .inr ⟨rfl,rfl,rfl⟩
theorem aG4(n d:Int)(w:World)(hn:In64 n)(hd:In64 d):
  Calls Tryz.prog 148 #[.agg #[.int .i64 n,.int .i64 d]] w (yR w (.bool (mayB n d))):=by
 have c:=yH (fun w=>aMh n d w hn hd);have B0:=yH ((Below.refl w.heap.size w).alloc yL (.cells #[.int .i64 n,.int .i64 d] 73));clear hn hd;rcases aO9 n d with⟨hm,h1,h2,h3,h4,h5,h6⟩|⟨hm,h1,h2⟩
 ·rw[h1,h2]at c;rw[hm];have e1:(n==0)=false:=by simp;omega
  clear h1 h2 h4 h5 h6 h3;go_enter Tryz.func148,Tryz.ntmps148;go_wp2_with fail;refine(c.out _).mono ?_;rintro e w1 ⟨rfl,b1⟩;go_wp2_with fail;go_ret;exact⟨rfl,B0.out.trans (b1.mono (by simp))⟩
 rw[h1,h2]at c;rw[hm];clear h1 h2;go_enter Tryz.func148,Tryz.ntmps148;go_wp2_with fail;refine(c.out _).mono ?_;rintro e w1 ⟨rfl,b1⟩;go_wp2_with fail;go_ret;exact⟨rfl,B0.out.trans (b1.mono (by simp))⟩
theorem aMi(n d:Int)(w:World)(hn:In64 n)(hd:In64 d):
  Calls Tryz.prog 305 #[.agg #[.int .i64 n,.int .i64 d]] w (yR w (.agg #[.int .i64 (alD n d),.int .i64 (alN n d)])):=by
 have c:=yH (fun w=>aMh n d w hn hd);have k1:Blk ((w.alloc (.cells #[.int .i64 n,.int .i64 d] 73)).alloc (.cells #[.int .i64 0,.int .i64 0] 73)) w.heap.size #[.int .i64 n,.int .i64 d] 73:=(Blk.new _ _ _).alloc _;have k2:Blk ((w.alloc (.cells #[.int .i64 n,.int .i64 d] 73)).alloc (.cells #[.int .i64 0,.int .i64 0] 73)) (w.heap.size+1) #[.int .i64 0,.int .i64 0] 73:=pAB _ _ _ (by simp);have b0:Below w.heap.size w ((w.alloc (.cells #[.int .i64 n,.int .i64 d] 73)).alloc (.cells #[.int .i64 0,.int .i64 0] 73)):=(yZ.alloc yL _).alloc (by simp) _;have K1:=yH k1;have K2:=yH k2;have B0:=yH b0;clear k1 k2 b0 hn hd;generalize alN n d=x at *;generalize alD n d=y at *;go_enter Tryz.func305,Tryz.ntmps305;go_wp2_with fail;refine(c.out _).mono ?_;rintro e w1 ⟨rfl,bw⟩;have q1:=K1.out.below bw K1.out.lt;have q2:=K2.out.below bw K2.out.lt;have B1:=yH (B0.out.trans (bw.mono (by simp;omega)));have d0:=q1.cell 0;have d1:=q1.cell 1;have e0:=q2.cell 0;have e1:=q2.cell 1;simp at d0 d1 e0 e1;have f1:=q1.frozen;have f2:=q2.frozen;have Q2:=yH q2;clear q1 q2 bw;go_wp2;refine bodyPost_ret (v:=.agg #[.int .i64 y,.int .i64 x]) (results_cell_row rfl _ _ (w.heap.size+1) 73 #[.int .i64 y,.int .i64 x] (0,0) _ rfl ((((Q2.out.setOther (by simp) _).setOther (by simp) _).set 0 (.int .i64 y)).set 1 (.int .i64 x)).out Tryz.underlying73 rfl (by kernel_rfl)) rfl ⟨by simp,?_⟩;exact((((B1.out.setCell (by simp) _).setCell (by simp) _).setCell (by simp) _).setCell (by simp) _)
theorem rdown_rat(a n d:Int)(w:World)(ha:In64 a)(hn:In64 n)(hd:In64 d):
  Calls Tryz.prog 342 #[.int .i64 a,.agg #[.int .i64 n,.int .i64 d]] w (yR w (aN7 a n d)):=by
 have c1:=yH (fun w=>aG4 n d w hn hd);have c2:=yH (fun w=>down_any a n d w ha hn hd);have hb0:Below w.heap.size w (w.alloc (.cells #[.int .i64 n,.int .i64 d] 73)):=yZ.alloc yL _;have k0:Blk (w.alloc (.cells #[.int .i64 n,.int .i64 d] 73)) w.heap.size #[.int .i64 n,.int .i64 d] 73:=Blk.new _ _ _;obtain⟨x,y,hv⟩:∃x y,aNo a n d=.tuple #[.int .i64 x,.int .i64 y]:=by unfold aNo ans;split <;> exact⟨_,_,rfl⟩
 unfold aN7;rw[hv]at c2 ⊢;clear hv ha hn hd;have K0:=yH k0;have B0:=yH hb0;clear k0 hb0
 cases hm:mayB n d
 ·rw[hm]at c1;go_enter Tryz.func342,Tryz.ntmps342;go_wp2_with fail;refine(c1.out _).mono ?_;rintro e w1 ⟨rfl,b1⟩;go_wp2_with fail;go_ret2;exact⟨by simp,B0.out.trans (b1.mono (by simp))⟩
 rw[hm]at c1;go_enter Tryz.func342,Tryz.ntmps342;go_wp2_with fail;refine(c1.out _).mono ?_;rintro e w1 ⟨rfl,b1⟩;have k1:=K0.out.below b1 K0.out.lt;have d0:=k1.cell 0;have d1:=k1.cell 1;simp at d0 d1;go_wp2_with fail;refine(c2.out _).mono ?_;rintro e w2 ⟨rfl,b2⟩;go_wp2_with fail;go_ret2;exact⟨by simp,B0.out.trans ((b1.mono (by simp)).trans (b2.mono (by have:=b1.size;simp at this;omega)))⟩
theorem rup_rat(a n d:Int)(w:World)(ha:In64 a)(hn:In64 n)(hd:In64 d):
  Calls Tryz.prog 275 #[.int .i64 a,.agg #[.int .i64 n,.int .i64 d]] w (yR w (upV2 a n d)):=by
 have c1:=yH (fun w=>aG4 n d w hn hd);have c2:=yH (fun w=>up_any a n d w ha hn hd);have hb0:Below w.heap.size w (w.alloc (.cells #[.int .i64 n,.int .i64 d] 73)):=yZ.alloc yL _;have k0:Blk (w.alloc (.cells #[.int .i64 n,.int .i64 d] 73)) w.heap.size #[.int .i64 n,.int .i64 d] 73:=Blk.new _ _ _;obtain⟨x,y,hv⟩:∃x y,upV a n d=.tuple #[.int .i64 x,.int .i64 y]:=by unfold upV ans;split <;> exact⟨_,_,rfl⟩
 unfold upV2;rw[hv]at c2 ⊢;clear hv ha hn hd;have K0:=yH k0;have B0:=yH hb0;clear k0 hb0
 cases hm:mayB n d
 ·rw[hm]at c1;go_enter Tryz.func275,Tryz.ntmps275;go_wp2_with fail;refine(c1.out _).mono ?_;rintro e w1 ⟨rfl,b1⟩;go_wp2_with fail;go_ret2;exact⟨by simp,B0.out.trans (b1.mono (by simp))⟩
 rw[hm]at c1;go_enter Tryz.func275,Tryz.ntmps275;go_wp2_with fail;refine(c1.out _).mono ?_;rintro e w1 ⟨rfl,b1⟩;have k1:=K0.out.below b1 K0.out.lt;have d0:=k1.cell 0;have d1:=k1.cell 1;simp at d0 d1;go_wp2_with fail;refine(c2.out _).mono ?_;rintro e w2 ⟨rfl,b2⟩;go_wp2_with fail;go_ret2;exact⟨by simp,B0.out.trans ((b1.mono (by simp)).trans (b2.mono (by have:=b1.size;simp at this;omega)))⟩
theorem mayB_swap(n d:Int):mayB d n=mayB n d:=by
 unfold mayB;rw[decide_eq_decide];unfold MayN;rw[Int.gcd_comm d n]
 constructor <;> (intro h;omega)
def fitN(n num den:Int):Int:=if mayB num den=true∧0≤n then min (n*den/num) 1099511627776 else 0
theorem fits_any(n num den:Int)(w:World)(ha:In64 n)(hn:In64 num)(hd:In64 den):
  Calls Tryz.prog 316 #[.int .i64 n,.agg #[.int .i64 num,.int .i64 den]] w (yR w (.int .i64 (fitN n num den))):=by
 have c1:=yH (fun w=>aMi num den w hn hd);have B0:=yH ((Below.refl w.heap.size w).alloc yL (.cells #[.int .i64 num,.int .i64 den] 73));have c2:=yH (fun w=>rdown_rat n (alD num den) (alN num den) w ha (by unfold alD;split <;> first|exact hd|decide) (by unfold alN;split <;> first|exact hn|decide))
 have hs:(aN7 n (alD num den) (alN num den)=.tuple #[.int .i64 0,.int .i64 1]∧fitN n num den=0)∨
   (∃q:Int,aN7 n (alD num den) (alN num den)=.tuple #[.int .i64 q,.int .i64 0]∧fitN n num den=min q 1099511627776)∨
   (aN7 n (alD num den) (alN num den)=.tuple #[.int .i64 0,.int .i64 10]∧fitN n num den=1099511627776):=by
  unfold aN7 fitN;rcases aO9 num den with⟨hm,h1,h2,h3,h4,h5,h6⟩|⟨hm,h1,h2⟩
  ·rw[h1,h2,mayB_swap,hm,if_pos rfl]
   by_cases h0:n<0
   ·exact .inl ⟨by rw[aNo,if_pos (.inl h0)],by rw[if_neg (by omega)]⟩
   rw[aNo,if_neg (by omega),if_pos ⟨rfl,by omega⟩]
   by_cases hq:In64 (n*den/num)
   ·exact .inr (.inl ⟨_,ans_of _ hq,rfl⟩)
   refine .inr (.inr ⟨ans_not _ hq,?_⟩);have:0≤n*den/num:=Int.ediv_nonneg (Int.mul_nonneg (by omega) (by omega)) (by omega);unfold In64 at hq;omega
  rw[h1,h2,hm];exact .inl ⟨rfl,by simp⟩
 generalize alD num den=x at *;generalize alN num den=y at *;clear ha hn hd;rcases hs with⟨e1,e2⟩|⟨q,e1,e2⟩|⟨e1,e2⟩
 all_goals
  rw[e1]at c2;rw[e2];clear e1 e2;go_enter Tryz.func316,Tryz.ntmps316;go_wp2_with fail;refine(c1.out _).mono ?_;rintro e w1 ⟨rfl,b1⟩;go_wp2_with fail;refine(c2.out _).mono ?_;rintro e w2 ⟨rfl,b2⟩;go_wp2_with fail;go_ret;exact⟨rfl,B0.out.trans ((b1.mono (by simp)).trans (b2.mono (by have:=b1.size;simp at this;omega)))⟩
def cmpI(x y:Int):Int:=if x<y then -1 else if y<x then 1 else 0
def orI(p q:Int):Int:=if p=0 then q else p
theorem aQm(x:Int)(w:World):
  Calls Tryz.prog 340 #[.int .u64 x] w (yV w (.bool false)):=by
 go_enter Tryz.func340,Tryz.ntmps340;go_wp2;go_ret;exact⟨rfl,rfl⟩
theorem aIi(x y:Int)(w:World):
  Calls Tryz.prog 314 #[.int .u64 x,.int .u64 y] w (yV w (.int .i64 (cmpI x y))):=by
 have c1:=yH (fun w=>aQm x w);have c2:=yH (fun w=>aQm y w);rcases Int.lt_trichotomy x y with h|h|h
 ·rw[show cmpI x y = -1 by unfold cmpI;rw[if_pos h]];go_enter Tryz.func314,Tryz.ntmps314;go_wp2_with fail;refine(c1.out _).mono ?_;rintro e w1 ⟨rfl,rfl⟩;go_wp2_with fail;refine(c2.out _).mono ?_;rintro e w1 ⟨rfl,rfl⟩;go_wp2_with fail;go_ret;exact⟨rfl,rfl⟩
 ·rw[show cmpI x y=0 by unfold cmpI;rw[if_neg (by omega),if_neg (by omega)]];subst h;go_enter Tryz.func314,Tryz.ntmps314;go_wp2_with fail;refine(c1.out _).mono ?_;rintro e w1 ⟨rfl,rfl⟩;go_wp2_with fail;refine(c2.out _).mono ?_;rintro e w1 ⟨rfl,rfl⟩;go_wp2_with fail;go_ret;exact⟨rfl,rfl⟩
 rw[show cmpI x y=1 by unfold cmpI;rw[if_neg (by omega),if_pos h]];go_enter Tryz.func314,Tryz.ntmps314;go_wp2_with fail;refine(c1.out _).mono ?_;rintro e w1 ⟨rfl,rfl⟩;go_wp2_with fail;refine(c2.out _).mono ?_;rintro e w1 ⟨rfl,rfl⟩;go_wp2_with fail;go_ret;exact⟨rfl,rfl⟩
theorem or_two(b cap:Nat)(p q:Int)(w:World)(hlt:b<w.heap.size)(h0:w.cell? ⟨b,0,none⟩=some (.int .i64 p))(h1:w.cell? ⟨b,1,none⟩=some (.int .i64 q)):
  Calls Tryz.prog 142 #[.slice (some ⟨b,0,none⟩) 2 cap] w (yV w (.int .i64 (orI p q))):=by
 unfold orI
 by_cases hp:p=0
 ·rw[if_pos hp];subst hp
  by_cases hq:q=0
  ·subst hq;go_enter Tryz.func142,Tryz.ntmps142;go_wp2;refine wp_loop_rounds 3 ?_;rw[rounds_succ];go_wp2;rw[rounds_succ];go_wp2;rw[rounds_succ];go_wp2;go_ret;exact⟨rfl,rfl⟩
  have hb:(q==0)=false:=by simp[hq]
  go_enter Tryz.func142,Tryz.ntmps142;go_wp2;refine wp_loop_rounds 2 ?_;rw[rounds_succ];go_wp2;rw[rounds_succ];go_wp2;go_ret;exact⟨rfl,rfl⟩
 rw[if_neg hp];have hb:(p==0)=false:=by simp[hp]
 go_enter Tryz.func142,Tryz.ntmps142;go_wp2;refine wp_loop_rounds 1 ?_;rw[rounds_succ];go_wp2;go_ret;exact⟨rfl,rfl⟩
theorem aQn(x y:Int):orI (cmpI (x/18446744073709551616) (y/18446744073709551616)) (cmpI (x%18446744073709551616) (y%18446744073709551616))=cmpI x y:=by
 unfold orI cmpI;split <;> (repeat' split at *) <;> omega
def cmpR(an ad bn bd:Int):Int:=if mayB an ad=true∧mayB bn bd=true then cmpI (an*bd) (bn*ad)else 0
theorem aE0{n d:Int}(h:mayB n d=true):1≤n∧1≤d∧n≤1099511627776∧d≤1099511627776∧Int.gcd n d=1:=(aIh n d).1 h
theorem aS4(an ad bn bd:Int)(w:World)(h1:In64 an)(h2:In64 ad)(h3:In64 bn)(h4:In64 bd):
  Calls Tryz.prog 306 #[.agg #[.int .i64 an,.int .i64 ad],.agg #[.int .i64 bn,.int .i64 bd]] w (yR w (.int .i64 (cmpR an ad bn bd))):=by
 have c1:=yH (fun w=>aG4 an ad w h1 h2);have c2:=yH (fun w=>aG4 bn bd w h3 h4);have k1:Blk ((w.alloc (.cells #[.int .i64 an,.int .i64 ad] 73)).alloc (.cells #[.int .i64 bn,.int .i64 bd] 73)) w.heap.size #[.int .i64 an,.int .i64 ad] 73:=(Blk.new _ _ _).alloc _;have k2:Blk ((w.alloc (.cells #[.int .i64 an,.int .i64 ad] 73)).alloc (.cells #[.int .i64 bn,.int .i64 bd] 73)) (w.heap.size+1) #[.int .i64 bn,.int .i64 bd] 73:=pAB _ _ _ (by simp);have b0:Below w.heap.size w ((w.alloc (.cells #[.int .i64 an,.int .i64 ad] 73)).alloc (.cells #[.int .i64 bn,.int .i64 bd] 73)):=(yZ.alloc yL _).alloc (by simp) _;have K1:=yH k1;have K2:=yH k2;have B0:=yH b0;clear k1 k2 b0 h1 h2 h3 h4
 by_cases hm:mayB an ad=true
 ·by_cases hm2:mayB bn bd=true
  ·rw[show cmpR an ad bn bd=cmpI (an*bd) (bn*ad) by unfold cmpR;rw[if_pos ⟨hm,hm2⟩],←aQn];obtain⟨p1,p2,p3,p4,_⟩:=aE0 hm;obtain⟨q1,q2,q3,q4,_⟩:=aE0 hm2;rw[hm]at c1;rw[hm2]at c2;have u1:IntKind.u64.wrap an=an:=aKh _ ⟨by omega,by omega⟩;have u2:IntKind.u64.wrap ad=ad:=aKh _ ⟨by omega,by omega⟩;have u3:IntKind.u64.wrap bn=bn:=aKh _ ⟨by omega,by omega⟩;have u4:IntKind.u64.wrap bd=bd:=aKh _ ⟨by omega,by omega⟩;have cm1:=yH (fun w=>aG1 an bd w ⟨by omega,by omega⟩ ⟨by omega,by omega⟩);have cm2:=yH (fun w=>aG1 bn ad w ⟨by omega,by omega⟩ ⟨by omega,by omega⟩);have cc:=yH aIi;generalize an*bd=x at *;generalize bn*ad=y at *;clear hm hm2 p1 p2 p3 p4 q1 q2 q3 q4;go_enter Tryz.func306,Tryz.ntmps306;go_wp2_with fail;refine(c1.out _).mono ?_;rintro e w1 ⟨rfl,b1⟩;have B1:=yH (B0.out.trans (b1.mono (by simp;omega)));have r1:=K1.out.below b1 K1.out.lt;have r2:=K2.out.below b1 K2.out.lt;have d0:=r1.cell 0;have d1:=r1.cell 1;have e0:=r2.cell 0;have e1:=r2.cell 1;simp at d0 d1 e0 e1;have R1:=yH r1;have R2:=yH r2;clear r1 r2 b1;go_wp2_with fail;refine(c2.out _).mono ?_;rintro e w2 ⟨rfl,b2⟩;have B2:=yT B1 b2;have r1:=R1.out.below b2 R1.out.lt;have r2:=R2.out.below b2 R2.out.lt;clear d0 d1 e0 e1;have d0:=r1.cell 0;have d1:=r1.cell 1;have e0:=r2.cell 0;have e1:=r2.cell 1;simp at d0 d1 e0 e1;clear r1 r2 b2;go_wp2_with fail;refine(cm1.out _).mono ?_;rintro e w2 ⟨rfl,rfl⟩;go_wp2_with fail;refine(cm2.out _).mono ?_;rintro e w2 ⟨rfl,rfl⟩;go_wp2_with fail;refine(cc.out _ _ _).mono ?_;rintro e w2 ⟨rfl,rfl⟩;go_wp2_with fail;refine(cc.out _ _ _).mono ?_;rintro e w2 ⟨rfl,rfl⟩;go_wp2_with fail;refine(or_two w2.heap.size _ (cmpI (x/18446744073709551616) (y/18446744073709551616)) (cmpI (x%18446744073709551616) (y%18446744073709551616)) _ (by simp) (by simp) (by simp)).mono ?_;rintro e w2 ⟨rfl,rfl⟩;go_wp2_with fail;go_ret;exact⟨rfl,B2.out.alloc B2.out.size _⟩
  rw[show cmpR an ad bn bd=0 by unfold cmpR;rw[if_neg (by simp[hm2])]];simp only[Bool.not_eq_true]at hm2;rw[hm]at c1;rw[hm2]at c2;clear hm hm2;go_enter Tryz.func306,Tryz.ntmps306;go_wp2_with fail;refine(c1.out _).mono ?_;rintro e w1 ⟨rfl,b1⟩;have B1:=yH (B0.out.trans (b1.mono (by simp;omega)));have r2:=K2.out.below b1 K2.out.lt;have e0:=r2.cell 0;have e1:=r2.cell 1;simp at e0 e1;clear r2 b1;go_wp2_with fail;refine(c2.out _).mono ?_;rintro e w2 ⟨rfl,b2⟩;go_wp2_with fail;go_ret;exact⟨rfl,B1.out.trans (b2.mono B1.out.size)⟩
 rw[show cmpR an ad bn bd=0 by unfold cmpR;rw[if_neg (by simp[hm])]];simp only[Bool.not_eq_true]at hm;rw[hm]at c1;clear hm;go_enter Tryz.func306,Tryz.ntmps306;go_wp2_with fail;refine(c1.out _).mono ?_;rintro e w1 ⟨rfl,b1⟩;go_wp2_with fail;go_ret;exact⟨rfl,B0.out.trans (b1.mono (by simp;omega))⟩
theorem up_le(y num n den:Int)(hy:0≤y)(hn:0≤n)(h1:1≤num)(h2:1≤den)(hn2:n≤9223372036854775807):
  (upN (y*num) den≤n)↔y≤n*den/num:=by
 rw[Int.le_ediv_iff_mul_le (by omega)];generalize y*num=x;have hm:=Int.emod_nonneg x (show den≠0 by omega);have hm2:=Int.emod_lt_of_pos x (show 0<den by omega);have hd:=Int.mul_ediv_add_emod x den;rw[Int.mul_comm n];unfold upN;generalize x/den=q at *;generalize x%den=r at *;split
 ·constructor
  ·intro h;have:=Int.mul_le_mul_of_nonneg_left h (show 0≤den by omega);omega
  intro h;rcases Int.lt_or_le n q with k|k
  ·have:=Int.mul_le_mul_of_nonneg_left (show n+1≤q by omega) (show 0≤den by omega);rw[Int.mul_add]at this;omega
  exact k
 constructor
 ·intro h;have:=Int.mul_le_mul_of_nonneg_left h (show 0≤den by omega);rw[Int.mul_add]at this;omega
 intro h;rcases Int.lt_or_le q n with k|k
 ·omega
 have:=Int.mul_le_mul_of_nonneg_left k (show 0≤den by omega);omega
def Of.may(x:Of):Prop:=(1≤x.ow∧x.ow≤16)∧(1≤x.sl∧x.sl≤8)∧(1≤x.bu∧x.bu≤8)∧x.sl≠x.bu∧(1≤x.lf∧x.lf≤1099511627776)∧mayB x.nu x.de=true
instance(x:Of):Decidable x.may:=by unfold Of.may;infer_instance
def aBb(l:List Of)(s:Int):Option Of:=l.find? fun x=>x.se==s
def noOf:Of:=⟨0,0,0,0,0,0,0⟩
def aQo(o:Option Of):Value:=match o with|some x=>.tuple #[x.val,.bool true]|none=>.tuple #[noOf.val,.bool false]
theorem findO_none{l:List Of}{s:Int}(hn:∀x∈l,(x.se==s)=false):aBb l s=none:=by
 unfold aBb;rw[List.find?_eq_none];intro x hx;simp[hn x hx]
theorem aI8{q:Of→Prop}{l:List Of}{k:Nat}(h:k<l.length)(hn:∀x∈l.take k,q x)(hx:q l[k]):∀x∈l.take (k+1),q x:=by
 rw[List.take_succ_eq_append_getElem h];intro x hx';rcases List.mem_append.1 hx' with h1|h1
 ·exact hn x h1
 rw[List.mem_singleton]at h1;rw[h1];exact hx
theorem aCs{w:World}{b:Nat}{ls:List Of}(h:∀j,j<ls.length*7→w.cell? ⟨b,j,none⟩=(aAb ls)[j]?){k:Nat}(hk:k<ls.length):
  w.cell? ⟨b,k*7,none⟩=some (.int .u64 ls[k].se)∧w.cell? ⟨b,k*7+1,none⟩=some (.int .u8 ls[k].ow)∧w.cell? ⟨b,k*7+2,none⟩=some (.int .u8 ls[k].sl)∧w.cell? ⟨b,k*7+3,none⟩=some (.int .u8 ls[k].bu)∧w.cell? ⟨b,k*7+4,none⟩=some (.int .i64 ls[k].lf)∧w.cell? ⟨b,k*7+5,none⟩=some (.int .i64 ls[k].nu)∧w.cell? ⟨b,k*7+6,none⟩=some (.int .i64 ls[k].de):=by
 refine⟨?_,?_,?_,?_,?_,?_,?_⟩
 ·exact(h (k*7+0) (by omega)).trans (aAl ls k 0 (by omega) hk)
 ·exact(h (k*7+1) (by omega)).trans (aAl ls k 1 (by omega) hk)
 ·exact(h (k*7+2) (by omega)).trans (aAl ls k 2 (by omega) hk)
 ·exact(h (k*7+3) (by omega)).trans (aAl ls k 3 (by omega) hk)
 ·exact(h (k*7+4) (by omega)).trans (aAl ls k 4 (by omega) hk)
 ·exact(h (k*7+5) (by omega)).trans (aAl ls k 5 (by omega) hk)
 exact(h (k*7+6) (by omega)).trans (aAl ls k 6 (by omega) hk)
theorem aAa{P:Program}{ops:Array Oper}{rest:List Oper}{o:Oper}{a:Act}{w:World}{Q:Exit→Act→World→Prop}(hgd:o.guard=none)(ty:TypeId)(x y:Operand)(ho:o.op=.store ty x y)
  (g:Nat)(cells:Array Value)(hx:a.eval x=.pointer (some ⟨g,0,none⟩))(hy:a.eval y=.agg cells)
  (t:TypeId)(old:Array Value)(hg:w.heap[g]? = some (.cells old t (0,0)))(hi:(P.info? ty).map (·.size)=some cells.size)
  (hold:old.size=cells.size)(h1:cells.all (·.oneCell')=true)
  (h:wpList P ops Q rest (a.put o.dst undef) (w.setRow g cells)):wpList P ops Q (o::rest) a w:=
 wpList_plain hgd fun _ hK=>wp_store_row ty x y ho g cells hx hy t old hg hi hold h1 (hK _ _ h)
def Of.put(s n:Int)(x:Of):Of:=if x.se=s then{ x with lf:=n }else x
def setO(l:List Of)(s n:Int):List Of:=(l.map (Of.put s n)).filter fun x=>decide (0<x.lf)
theorem setO_len(l:List Of)(s n:Int):(setO l s n).length≤l.length:=by
 unfold setO;exact Nat.le_trans (List.length_filter_le _ _) (by simp)
def aDq(l:List Of)(ow s:Int):Int:=match aBb l s with|none=>0|some x=>if x.ow=ow then x.lf else 0
def aB9(l:List Of)(ow s:Int):Int:=match aBb l s with|none=>7|some x=>if x.ow=ow then 0 else 15
def aDr(l:List Of)(ow s:Int):List Of:=if aB9 l ow s=0 then setO l s 0 else l
def aGs(l:List Of)(s n:Int):Int:=match aBb l s with|none=>7|some x=>if n<1∨x.lf<n then 1 else 0
def aK3(l:List Of)(s:Int):Int:=match aBb l s with|none=>0|some x=>x.lf
def aDu(l:List Of)(s n:Int):List Of:=if aGs l s n=0 then setO l s (aK3 l s - n)else l
theorem aCc{l:List Of}{s:Int}{x:Of}(h:aBb l s=some x):x∈l∧x.se=s:=by
 unfold aBb at h;exact⟨List.mem_of_find?_eq_some h,by have:=List.find?_some h;simpa using this⟩
structure PB(w:World)(base g:Nat)(l:List Of)(N:Int)(vl:Value):Prop where
 blk:Blk w g #[vl,.int .u64 N] 158
 ge:base≤g
 row:w.ownsRow base 197 7 vl l.length (aAb l)
def Foot(g:Nat)(vl:Value)(b:Nat):Prop:=b=g∨vl.ownBlock=some b
def aEg(w:World)(vl vl':Value):Prop:=∀b,vl'.ownBlock=some b→vl.ownBlock=some b∨w.heap.size≤b
theorem aEg.refl(w:World)(vl:Value):aEg w vl vl:=fun _ h=>.inl h
theorem aEg.of_le{w w':World}{vl vl':Value}(h:aEg w' vl vl')(hle:w.heap.size≤w'.heap.size):aEg w vl vl':=fun b hb=>(h b hb).imp id (fun q=>Nat.le_trans hle q)
theorem PB.keep{S:Nat→Prop}{w w':World}{base g:Nat}{l:List Of}{N:Int}{vl:Value}(h:PB w base g l N vl)(k:Keep S w w')(h1:¬S g)(h2:∀b,vl.ownBlock=some b→¬S b):PB w' base g l N vl:=⟨h.blk.keep k h1,h.ge,aBq h.row k h2⟩
theorem PB.below{w w':World}{base g:Nat}{l:List Of}{N:Int}{vl:Value}(h:PB w base g l N vl)(k:Below w.heap.size w w'):PB w' base g l N vl:=h.keep (pAD (S:=fun _=>False) k) id (fun _ _=>id)
theorem PB.lt{w:World}{base g:Nat}{l:List Of}{N:Int}{vl:Value}(h:PB w base g l N vl){b:Nat}(hb:Foot g vl b):base≤b∧b<w.heap.size:=by
 rcases hb with rfl|hb
 ·exact⟨h.ge,h.blk.lt⟩
 exact⟨(aAe h.row hb).1,(aAe h.row hb).2.1⟩
theorem PB.apart{w:World}{base g:Nat}{l:List Of}{N:Int}{vl:Value}(h:PB w base g l N vl):∀b,vl.ownBlock=some b→b≠g:=aB0 h.row h.blk (by decide)
structure BInv(l:List Of)(N:Int):Prop where
 may:∀x∈l,x.may
 rise:l.Pairwise fun x y=>x.se<y.se
 bd:∀x∈l,1≤x.se∧x.se<N
 len:l.length≤32
 n1:1≤N
 n2:N≤18446744073709551615
theorem BInv.nil{N:Int}(h1:1≤N)(h2:N≤18446744073709551615):BInv [] N:=⟨by simp,List.Pairwise.nil,by simp,by simp,h1,h2⟩
theorem Of.may.fits{x:Of}(h:x.may)(h1:0≤x.se∧x.se≤18446744073709551615):x.Fits:=by
 obtain⟨⟨a1,a2⟩,⟨b1,b2⟩,⟨c1,c2⟩,_,⟨d1,d2⟩,e⟩:=h;obtain⟨r1,r2,r3,r4,_⟩:=aE0 e;exact⟨h1,⟨by omega,by omega⟩,⟨by omega,by omega⟩,⟨by omega,by omega⟩,⟨by omega,by omega⟩,⟨by omega,by omega⟩,⟨by omega,by omega⟩⟩
theorem BInv.fits{l:List Of}{N:Int}(h:BInv l N){x:Of}(hx:x∈l):x.Fits:=by
 have:=h.bd x hx;have:=h.n2;exact(h.may x hx).fits ⟨by omega,by omega⟩
theorem aQp(c:Int)(w:World):
  Calls Tryz.prog 147 #[.int .u8 c] w fun e w'=>e=.returned (.bool (decide (1≤c∧c≤8)))∧w'=w:=by
 by_cases h1:1≤c
 ·have e1:decide (1≤c)=true:=by simpa using h1
  by_cases h2:c≤8
  ·rw[decide_eq_true ⟨h1,h2⟩];have e2:decide (c≤8)=true:=by simpa using h2
   clear h1 h2;go_enter Tryz.func147,Tryz.ntmps147;go_wp2;go_ret;exact⟨rfl,rfl⟩
  rw[decide_eq_false (fun k=>h2 k.2)];have e2:decide (c≤8)=false:=by simpa using h2
  clear h1 h2;go_enter Tryz.func147,Tryz.ntmps147;go_wp2;go_ret;exact⟨rfl,rfl⟩
 rw[decide_eq_false (fun k=>h1 k.1)];have e1:decide (1≤c)=false:=by simpa using h1
 clear h1;go_enter Tryz.func147,Tryz.ntmps147;go_wp2;go_ret;exact⟨rfl,rfl⟩
theorem pmay_any(x:Of)(w:World)(hf:x.Fits):
  Calls Tryz.prog 107 #[.agg #[.int .u64 x.se,.int .u8 x.ow,.int .u8 x.sl,.int .u8 x.bu,.int .i64 x.lf,.int .i64 x.nu,.int .i64 x.de]] w (yR w (.bool (decide x.may))):=by
 have B0:=yH ((Below.refl w.heap.size w).alloc yL (.cells #[.int .u64 x.se,.int .u8 x.ow,.int .u8 x.sl,.int .u8 x.bu,.int .i64 x.lf,.int .i64 x.nu,.int .i64 x.de] 197));have C:=yH (fun w=>aG4 x.nu x.de w hf.nu hf.de);have C1:=yH (fun w=>aQp x.sl w);have C2:=yH (fun w=>aQp x.bu w);clear hf
 by_cases h0:¬1≤x.ow
 ·rw[decide_eq_false (fun k:x.may=>by have:=k.1;omega)];clear C C1 C2;have e1:decide (1≤x.ow)=false:=by simpa using h0
  clear h0;go_enter Tryz.func107,Tryz.ntmps107;go_wp2_with fail;go_ret;exact⟨rfl,B0.out⟩
 have h0:=Decidable.not_not.1 h0;have e1:decide (1≤x.ow)=true:=by simpa using h0
 by_cases h1:¬x.ow≤16
 ·rw[decide_eq_false (fun k:x.may=>by have:=k.1;omega)];clear C C1 C2;have e2:decide (x.ow≤16)=false:=by simpa using h1
  clear h0 h1;go_enter Tryz.func107,Tryz.ntmps107;go_wp2_with fail;go_ret;exact⟨rfl,B0.out⟩
 have h1:=Decidable.not_not.1 h1;have e2:decide (x.ow≤16)=true:=by simpa using h1
 by_cases h2:¬(1≤x.sl∧x.sl≤8)
 ·rw[decide_eq_false (fun k:x.may=>h2 k.2.1)];rw[decide_eq_false h2]at C1;clear C C2 h0 h1 h2;go_enter Tryz.func107,Tryz.ntmps107;go_wp2_with fail;refine(C1.out _).mono ?_;rintro e w1 ⟨rfl,rfl⟩;go_wp2_with fail;go_ret;exact⟨rfl,B0.out⟩
 have h2:=Decidable.not_not.1 h2;rw[decide_eq_true h2]at C1
 by_cases h3:¬(1≤x.bu∧x.bu≤8)
 ·rw[decide_eq_false (fun k:x.may=>h3 k.2.2.1)];rw[decide_eq_false h3]at C2;clear C h0 h1 h2 h3;go_enter Tryz.func107,Tryz.ntmps107;go_wp2_with fail;refine(C1.out _).mono ?_;rintro e w1 ⟨rfl,rfl⟩;go_wp2_with fail;refine(C2.out _).mono ?_;rintro e w1 ⟨rfl,rfl⟩;go_wp2_with fail;go_ret;exact⟨rfl,B0.out⟩
 have h3:=Decidable.not_not.1 h3;rw[decide_eq_true h3]at C2
 by_cases h4:x.sl=x.bu
 ·rw[decide_eq_false (fun k:x.may=>k.2.2.2.1 h4)];have e4:(x.sl != x.bu)=false:=by simpa using h4
  clear C h0 h1 h2 h3 h4;go_enter Tryz.func107,Tryz.ntmps107;go_wp2_with fail;refine(C1.out _).mono ?_;rintro e w1 ⟨rfl,rfl⟩;go_wp2_with fail;refine(C2.out _).mono ?_;rintro e w1 ⟨rfl,rfl⟩;go_wp2_with fail;go_ret;exact⟨rfl,B0.out⟩
 have e4:(x.sl != x.bu)=true:=by simpa using h4
 by_cases h5:¬1≤x.lf
 ·rw[decide_eq_false (fun k:x.may=>by have:=k.2.2.2.2.1;omega)];have e5:decide (1≤x.lf)=false:=by simpa using h5
  clear C h0 h1 h2 h3 h4 h5;go_enter Tryz.func107,Tryz.ntmps107;go_wp2_with fail;refine(C1.out _).mono ?_;rintro e w1 ⟨rfl,rfl⟩;go_wp2_with fail;refine(C2.out _).mono ?_;rintro e w1 ⟨rfl,rfl⟩;go_wp2_with fail;go_ret;exact⟨rfl,B0.out⟩
 have h5:=Decidable.not_not.1 h5
 by_cases h6:¬x.lf≤1099511627776
 ·rw[decide_eq_false (fun k:x.may=>by have:=k.2.2.2.2.1;omega)];have e6:decide (x.lf≤1099511627776)=false:=by simpa using h6
  clear C h0 h1 h2 h3 h4 h5 h6;go_enter Tryz.func107,Tryz.ntmps107;go_wp2_with fail;refine(C1.out _).mono ?_;rintro e w1 ⟨rfl,rfl⟩;go_wp2_with fail;refine(C2.out _).mono ?_;rintro e w1 ⟨rfl,rfl⟩;go_wp2_with fail;go_ret;exact⟨rfl,B0.out⟩
 have h6:=Decidable.not_not.1 h6
 have hd:decide x.may=mayB x.nu x.de:=by
  cases hb:mayB x.nu x.de with
  | true=>exact decide_eq_true ⟨⟨h0,h1⟩,h2,h3,h4,⟨h5,h6⟩,hb⟩
  | false=>exact decide_eq_false (fun k=>by have:=k.2.2.2.2.2;rw[hb]at this;cases this)
 rw[hd];clear hd h0 h1 h2 h3 h4 h5 h6;generalize mayB x.nu x.de=r at *;go_enter Tryz.func107,Tryz.ntmps107;go_wp2_with fail;refine(C1.out _).mono ?_;rintro e w1 ⟨rfl,rfl⟩;go_wp2_with fail;refine(C2.out _).mono ?_;rintro e w1 ⟨rfl,rfl⟩;go_wp2_with fail;refine(C.out _).mono ?_;rintro e w1 ⟨rfl,b1⟩;have B1:=yT B0 b1;clear b1 C B0;go_wp2_with fail;go_ret;exact⟨rfl,B1.out⟩
theorem pnew_any(w:World)(base:Nat)(hb:base≤w.heap.size):
  Calls Tryz.prog 44 #[] w fun e w'=>e=.returned (.pointer (some ⟨w.heap.size,0,none⟩))∧PB w' base w.heap.size [] 1 (.slice none 0 0)∧Below w.heap.size w w':=by
 have K:=yH (Blk.new w #[.slice none 0 0,.int .u64 1] 158);go_enter Tryz.func44,Tryz.ntmps44;go_wp2;go_ret;exact⟨rfl,⟨K.out,hb,World.ownsRow_nil _ _ _ _⟩,yZ.alloc yL _⟩
theorem aI9{w:World}{g:Nat}{vl:Value}{N:Int}(h:Blk w g #[vl,.int .u64 N] 158):
  Calls Tryz.prog 60 #[.pointer (some ⟨g,0,none⟩)] w (yS w (.int .u64 N)):=by
 have d1:=h.cell 1;simp at d1;clear h;go_enter Tryz.func60,Tryz.ntmps60;go_wp2;go_ret;exact⟨rfl,rfl⟩
theorem aMj{w:World}{g:Nat}{vl:Value}{N:Int}(h:Blk w g #[vl,.int .u64 N] 158)(h1:1≤N):
  Calls Tryz.prog 113 #[.pointer (some ⟨g,0,none⟩)] w (yS w (.bool true)):=by
 have C:=yH (aI9 h);have e2:(N != 0)=true:=by simp;omega
 clear h h1;go_enter Tryz.func113,Tryz.ntmps113;go_wp2_with fail;refine C.out.mono ?_;rintro e w ⟨rfl,rfl⟩;go_wp2_with fail;go_ret;exact⟨rfl,rfl⟩
theorem ball_any{w:World}{g:Nat}{ao:Option Addr}{n c:Nat}{N:Int}(h:Blk w g #[.slice ao n c,.int .u64 N] 158):
  Calls Tryz.prog 104 #[.pointer (some ⟨g,0,none⟩)] w (yS w (.slice ao n c)):=by
 have d1:=h.cell 0;simp at d1;clear h;go_enter Tryz.func104,Tryz.ntmps104;go_wp2;go_ret;exact⟨rfl,rfl⟩
def posO(l:List Of)(s:Int):Nat:=l.findIdx fun x=>x.se==s
theorem posO_le(l:List Of)(s:Int):posO l s≤l.length:=List.findIdx_le_length
theorem posO_at{l:List Of}{s:Int}{k:Nat}(hk:k<l.length)(hn:∀x∈l.take k,(x.se==s)=false)(hx:(l[k].se==s)=true):posO l s=k:=by
 unfold posO;rw[List.findIdx_eq hk];refine⟨hx,fun j hj=>?_⟩;exact hn _ (by rw[List.mem_take_iff_getElem];exact⟨j,by omega,rfl⟩)
theorem posO_none{l:List Of}{s:Int}(hn:∀x∈l,(x.se==s)=false):posO l s=l.length:=by
 unfold posO;rw[List.findIdx_eq_length];exact hn
theorem aJ3{l:List Of}{s:Int}(h:posO l s<l.length):aBb l s=some l[posO l s]:=by
 unfold aBb posO at *;rw[List.find?_eq_some_iff_getElem];refine⟨List.findIdx_getElem (w:=h),_,h,rfl,fun j hj=>?_⟩;have:=List.not_of_lt_findIdx hj;simpa using this
theorem aIj{l:List Of}{s:Int}(h:¬posO l s<l.length):aBb l s=none:=by
 have h2:posO l s=l.length:=by have:=posO_le l s;omega
 unfold posO at h2;rw[List.findIdx_eq_length]at h2;exact findO_none h2
def idxV(l:List Of)(s:Int):Value:=if posO l s<l.length then .int .i64 (posO l s:Nat)else .int .i64 (-1)
def aEd(l:List Of)(s:Int):Value:=if posO l s<l.length then .tuple #[.int .i64 (posO l s:Nat),.int .i64 0]else .tuple #[.int .i64 0,.int .i64 7]
theorem stand1_any(x:Of){c:Nat}{s:Int}{w:World}(hK:Blk w c #[.int .u64 s] 44):
  Calls Tryz.prog 245 #[.agg #[.int .u64 x.se,.int .u8 x.ow,.int .u8 x.sl,.int .u8 x.bu,.int .i64 x.lf,.int .i64 x.nu,.int .i64 x.de],.pointer (some ⟨c,0,none⟩)] w (yR w (.bool (x.se==s))):=by
 have B0:=yH ((Below.refl w.heap.size w).alloc yL (.cells #[.int .u64 x.se,.int .u8 x.ow,.int .u8 x.sl,.int .u8 x.bu,.int .i64 x.lf,.int .i64 x.nu,.int .i64 x.de] 197));have k1:=hK.alloc (.cells #[.int .u64 x.se,.int .u8 x.ow,.int .u8 x.sl,.int .u8 x.bu,.int .i64 x.lf,.int .i64 x.nu,.int .i64 x.de] 197);have d0:=k1.cell 0;simp at d0;clear k1 hK;go_enter Tryz.func245,Tryz.ntmps245;go_wp2_with fail;go_ret;exact⟨rfl,B0.out⟩
def IdxAt(w:World)(l:List Of)(s:Int)(i:Value)(wr:World):Prop:=
 ∃k:Nat,k≤l.length∧i=.int .i64 k∧(∀x∈l.take k,(x.se==s)=false)∧Below w.heap.size w wr
theorem pidx_any{w:World}{base c:Nat}{l:List Of}{s:Int}{v:Value}(h:w.ownsRow base 197 7 v l.length (aAb l))(hK:Blk w c #[.int .u64 s] 44):
  Calls Tryz.prog 244 #[v,.func (.func 245) #[] #[.pointer (some ⟨c,0,none⟩)]] w (yR w (idxV l s)):=by
 obtain⟨ao,cap,rfl,hc1,hc2,hc3,hc4⟩:=aAg h;have HC:=yH hc4;have KC:=yH hK;unfold maxLen at hc2;clear hc3 hc4 h hK;go_enter Tryz.func244,Tryz.ntmps244;go_wp2_with fail
 go_loopw [5,8] (fun _ i wr=>IdxAt w l s i wr) (fun _ i _=>l.length - (intOf i).toNat)
 case atStart=>exact⟨0,Nat.zero_le _,rfl,by simp,yZ⟩
 obtain⟨k,hk,rfl,hn,hb⟩:=hrel
 by_cases hkl:k<l.length
 ·obtain⟨b,rfl,hb1,hb2,hcell,_⟩:=HC.out (by omega);obtain⟨e0,e1,e2,e3,e4,e5,e6⟩:=aCs (w:=wr) (fun j hj=>by rw[hb.cell (p:=⟨b,j,none⟩) hb2];exact hcell j hj) hkl;have FA:=yH (fun hx=>posO_at (s:=s) hkl hn hx);have TN:=yH (fun hx=>aI8 (q:=fun x=>(x.se==s)=false) hkl hn hx);have C1:=yH (stand1_any l[k] (KC.out.below hb KC.out.lt));have HB:=yH hb;clear hcell hn hb;generalize l[k]=x at *
  by_cases hx:(x.se==s)=true
  ·have E:=yH (FA.out hx);rw[hx]at C1;clear FA TN hx;go_wp2_with fail;refine C1.out.mono ?_;rintro e w2 ⟨rfl,b2⟩;have HB2:=yT HB b2;clear b2;go_wp2_with fail;go_ret;refine⟨?_,HB2.out⟩;unfold idxV;rw[E.out,if_pos hkl];rfl
  have hx:(x.se==s)=false:=by simpa using hx
  have E:=yH (TN.out hx);rw[hx]at C1;clear FA TN hx;go_wp2_with fail;refine C1.out.mono ?_;rintro e w2 ⟨rfl,b2⟩;have HB2:=yT HB b2;clear b2;go_wp2_with fail;go_roundw
  case rel=>exact⟨k+1,by omega,by go_num,E.out,HB2.out⟩
  case measure=>simp[intOf];omega
 have E:Hid (posO l s=l.length):=yH (posO_none (by have:=hn;rwa [List.take_of_length_le (by omega)]at this));have HB:=yH hb;clear hn hb;go_wp2_with fail;go_ret;refine⟨?_,HB.out⟩;unfold idxV;rw[E.out,if_neg (by omega)];rfl
theorem aJ4{w:World}{base g:Nat}{l:List Of}{N:Int}{vl:Value}(h:PB w base g l N vl)(h1:1≤N)(s:Int):
  Calls Tryz.prog 203 #[.pointer (some ⟨g,0,none⟩),.int .u64 s] w (yR w (aEd l s)):=by
 have bw:=(Below.refl w.heap.size w).alloc yL (.cells #[.int .u64 s] 44);have B0:=yH bw;have h2:=h.below bw;have C:=yH (aMj h2.blk h1);have C2:=yH (pidx_any h2.row (Blk.new w #[.int .u64 s] 44));have d0:=h2.blk.cell 0;simp at d0;obtain⟨ao,cap,rfl,_⟩:=aAg h2.row;clear bw h h2 h1
 by_cases hp:posO l s<l.length
 ·rw[show idxV l s=.int .i64 (posO l s:Nat) by unfold idxV;rw[if_pos hp]]at C2;rw[show aEd l s=.tuple #[.int .i64 (posO l s:Nat),.int .i64 0] by unfold aEd;rw[if_pos hp]];generalize posO l s=p at *;clear hp;go_enter Tryz.func203,Tryz.ntmps203;go_wp2_with fail;refine C.out.mono ?_;rintro e w1 ⟨rfl,rfl⟩;go_wp2_with fail;refine C2.out.mono ?_;rintro e w1 ⟨rfl,b1⟩;have B1:=yT B0 b1;clear b1 C C2;go_wp2_with fail;refine bodyPost_ret (v:=.tuple #[.int .i64 (p:Nat),.int .i64 0]) (by simp[results,Tryz.results203,go_sem]) rfl ?_;exact⟨rfl,B1.out⟩
 rw[show idxV l s=.int .i64 (-1) by unfold idxV;rw[if_neg hp]]at C2;rw[show aEd l s=.tuple #[.int .i64 0,.int .i64 7] by unfold aEd;rw[if_neg hp]];clear hp;go_enter Tryz.func203,Tryz.ntmps203;go_wp2_with fail;refine C.out.mono ?_;rintro e w1 ⟨rfl,rfl⟩;go_wp2_with fail;refine C2.out.mono ?_;rintro e w1 ⟨rfl,b1⟩;have B1:=yT B0 b1;clear b1 C C2;go_wp2_with fail;refine bodyPost_ret (v:=.tuple #[.int .i64 0,.int .i64 7]) (by simp[results,Tryz.results203,go_sem]) rfl ?_;exact⟨rfl,B1.out⟩
theorem aG5{P:Program}(w:World)(t e ty:TypeId)(z:Value)(ht:P.underlying t=some (.slice e))(hv:∀w,(zeroValue e).run P w=.ok z w)(b o n c:Nat)(hn:0<n)(h1:∀u∈(Builtin.zeroCells z.cells n).toList,u.oneCell'=true)
  (hc:∀j,j<(Builtin.zeroCells z.cells n).toList.length→(w.cell? ⟨b,o+j,none⟩).isSome=true)(hf:∀j,j<(Builtin.zeroCells z.cells n).toList.length→w.frozen? ⟨b,o+j,none⟩=false):
  (Builtin.clear_ #[t] ty #[.slice (some ⟨b,o,none⟩) n c]).run P w=.ok (.tuple #[]) (w.setCells b o (Builtin.zeroCells z.cells n).toList):=by
 have hst:=run_storeCells_cells (P:=P) b o (Builtin.zeroCells z.cells n).toList 0 w (by simpa using hc) (by simpa using hf) h1;simp only[Nat.add_zero]at hst;obtain⟨m,rfl⟩:∃m,n=m+1:=⟨n - 1,by omega⟩;simp[Builtin.clear_,run_underlying ht,hv,hst]
theorem aCt{w:World}{g:Nat}{e:TypeId}:∀(vs:List Value) (o:Nat) (cur:Array Value),w.heap[g]? = some (.cells cur e (0,0))→o+vs.length≤cur.size→
  ∃cur',(w.setCells g o vs).heap[g]? = some (.cells cur' e (0,0))∧cur'.toList=cur.toList.take o++vs++cur.toList.drop (o+vs.length)
 | [],o,cur,h,hs=>⟨cur,h,by simp⟩
 | v::r,o,cur,h,hs=>by
  have hl:o<cur.size:=by simp at hs;omega
  have h2:(w.setCell ⟨g,o,none⟩ v).heap[g]? = some (.cells (cur.setIfInBounds o v) e (0,0)):=Blk.set (show Blk w g cur e from h) o v;obtain⟨cur',h3,h4⟩:=aCt (w:=w.setCell ⟨g,o,none⟩ v) r (o+1) _ h2 (by simp at hs ⊢;omega);refine⟨cur',by rw[World.setCells];exact h3,?_⟩;rw[h4,Array.toList_setIfInBounds];have hl':o<cur.toList.length:=by simpa using hl
  rw[List.take_set,List.drop_set_of_lt (by omega),List.take_succ_eq_append_getElem hl',List.set_append_right _ _ (by simp;omega)];simp[List.length_take,Nat.min_eq_left (Nat.le_of_lt hl),show o+1+r.length=o+(r.length+1) by omega]
def aKo(g j cap:Nat):Addr:=if cap=j then⟨g,0,none⟩else⟨g,j*7,none⟩
def zOff:Value:=.agg #[.int .u64 0,.int .u8 0,.int .u8 0,.int .u8 0,.int .i64 0,.int .i64 0,.int .i64 0]
theorem aJa:(Tryz.prog.info? 197).map (fun i=>(i.zero,i.size,i.bytes))=some (some zOff,7,40):=by kernel_rfl
theorem aH2{P:Program}(w:World)(t e:TypeId)(ht:P.underlying t=some (.slice e))(hs:(sizeOf e).run P w=.ok 7 w)(g n cap j:Nat)(h:j≤n)(h2:n≤cap)(i:Int)(hi:i=(j:Int)):
  (Instr.sliceAt t (.slice (some ⟨g,0,none⟩) n cap) (some (.int .i64 i)) none none).run P w=.ok (.slice (some (aKo g j cap)) (n - j) (cap - j)) w:=by
 subst hi
 by_cases hc:cap=j
 ·subst hc;have:n=cap:=by omega
  subst this;simp[Instr.sliceAt,Instr.slice,run_underlying ht,Instr.sliceBounds,run_sliceBound,hs,Result.andThen,Addr.add,aKo]
 simp[Instr.sliceAt,Instr.slice,run_underlying ht,Instr.sliceBounds,run_sliceBound,hs,Result.andThen,Addr.add,aKo,hc,h,h2,show j≤cap by omega,show cap - j≠0 by omega];omega
theorem aNp{P:Program}(w:World)(t e:TypeId)(ht:P.underlying t=some (.slice e))(hs:(sizeOf e).run P w=.ok 7 w)(g m cap:Nat)(h2:m+1≤cap)(i:Int)(hi:i=(m:Int)+1):
  (Instr.sliceAt t (.slice (some ⟨g,0,none⟩) m cap) (some (.int .i64 (m:Int))) (some (.int .i64 i)) none).run P w=.ok (.slice (some ⟨g,m*7,none⟩) 1 (cap - m)) w:=by
 obtain⟨x,hx⟩:∃x:Nat,x=m+1:=⟨_,rfl⟩;have e1:i=(x:Int):=by omega
 rw[e1];clear e1 hi;simp[Instr.sliceAt,Instr.slice,run_underlying ht,Instr.sliceBounds,run_sliceBound,hs,Result.andThen,Addr.add,show x≤cap by omega,show m≤x by omega,show cap≠m by omega];refine⟨?_,by omega⟩;intro h;omega
theorem pdel_any{w:World}{base g cap k:Nat}{l:List Of}(h:w.ownsRow base 197 7 (.slice (some ⟨g,0,none⟩) l.length cap) l.length (aAb l))(hk:k<l.length)(i:Int)(hi:i=(k:Int)+1):
  Calls Tryz.prog 246 #[.slice (some ⟨g,0,none⟩) l.length cap,.int .i64 (k:Nat),.int .i64 i] w fun e w'=>e=.returned (.slice (some ⟨g,0,none⟩) (l.eraseIdx k).length cap)∧w'.ownsRow base 197 7 (.slice (some ⟨g,0,none⟩) (l.eraseIdx k).length cap) (l.eraseIdx k).length (aAb (l.eraseIdx k))∧Keep (·=g) w w':=by
 obtain⟨_,hx⟩:=h;rcases hx with⟨hx,_⟩|⟨g',cap',cur,hv,hbase,hb,h1,h2,h3,h4⟩
 ·cases hx
 cases hv
 obtain⟨m,hm⟩:∃m,l.length=m+1:=⟨l.length - 1,by omega⟩;have hel:(l.eraseIdx k).length=m:=by rw[List.length_eraseIdx_of_lt hk,hm];rfl
 obtain⟨i0,hi1,hi2,hi3,hi4⟩:=info_parts aJa;have hnl:(aAb (l.drop (k+1))).length=(m - k)*7:=by rw[aAs,List.length_drop,hm];congr 1;omega
 have hns:=aGw (l.drop (k+1))
 have htl:∀t u,(aAb (l.drop (k+1)))[t]? = some u→w.drew.cell? ((aKo g (k+1) cap).add t)=some u:=by
  intro t u hu;have ht:t<(m - k)*7:=by rw[←hnl];exact(List.getElem?_eq_some_iff.1 hu).1
  have hc:¬cap=k+1:=by omega
  have e1:(aKo g (k+1) cap).add t=⟨g,(k+1)*7+t,none⟩:=by unfold aKo;rw[if_neg hc,Go.WideShapes.add_plain]
  rw[e1];have hcl:(w.cell? ⟨g,(k+1)*7+t,none⟩)=cur[(k+1)*7+t]? := Blk.cell (show Blk w g cur _ from hb) _;show w.cell? _=_;rw[hcl,←Array.getElem?_toList];have h5:(cur.toList.take (l.length*7))[(k+1)*7+t]? = (aAb l)[(k+1)*7+t]? := by rw[h4]
  rw[List.getElem?_take_of_lt (by rw[hm];omega)]at h5;rw[h5];have h6:aAb l=aAb (l.take (k+1))++aAb (l.drop (k+1)):=by rw[←aA9,List.take_append_drop]
  rw[h6,List.getElem?_append_right (by rw[aAs,List.length_take];omega),aAs,List.length_take];rw[show(k+1)*7+t - min (k+1) l.length*7=t by rw[Nat.min_eq_left (by omega)];omega];exact hu
 obtain⟨W1,hW1⟩:∃W1,W1=w.drew.setCells g (0+k*7) (aAb (l.drop (k+1))):=⟨_,rfl⟩;obtain⟨cur1,hb1,hc1⟩:=aCt (w:=w.drew) (e:=197) (aAb (l.drop (k+1))) (0+k*7) cur hb (by rw[hnl,h3];omega);have kk1:Keep (·=g) w W1:=by rw[hW1];exact Keep.setCells _ _ (Keep.refl _ w).drew (.inl rfl)
 rw[←hW1]at hb1
 have hz1:cur1.size=cap*7:=by
  rw[←Array.length_toList,hc1];simp only[List.length_append,List.length_take,List.length_drop,Array.length_toList,hnl];omega
 have hzc:(Builtin.zeroCells zOff.cells 1).toList=[.int .u64 0,.int .u8 0,.int .u8 0,.int .u8 0,.int .i64 0,.int .i64 0,.int .i64 0]:=by kernel_rfl
 have hcl:∀ty,(Builtin.clear_ #[156] ty #[.slice (some ⟨g,m*7,none⟩) 1 (cap - m)]).run Tryz.prog W1=.ok (.tuple #[]) (W1.setCells g (m*7) (Builtin.zeroCells zOff.cells 1).toList):=fun ty=>
  aG5 W1 156 197 ty zOff Tryz.underlying156 (Tryz.zeroValue197) g (m*7) 1 (cap - m) (by omega) (by rw[hzc];simp[Value.oneCell'])
   (fun j hj=>by rw[hzc]at hj;rw[Blk.cell (show Blk W1 g cur1 _ from hb1)];simp at hj;rw[Array.getElem?_eq_getElem (by rw[hz1];omega)];rfl) (fun j hj=>Blk.frozen (show Blk W1 g cur1 _ from hb1) _)
 obtain⟨cur2,hb2,hc2⟩:=aCt (w:=W1) (e:=197) (Builtin.zeroCells zOff.cells 1).toList (m*7) cur1 hb1 (by rw[hzc,hz1];simp;omega);have kk2:Keep (·=g) W1 (W1.setCells g (m*7) (Builtin.zeroCells zOff.cells 1).toList):=Keep.setCells _ _ (Keep.refl _ W1) (.inl rfl)
 have HF:Hid ((W1.setCells g (m*7) (Builtin.zeroCells zOff.cells 1).toList).ownsRow base 197 7 (.slice (some ⟨g,0,none⟩) m cap) m (aAb (l.eraseIdx k))∧Keep (·=g) w (W1.setCells g (m*7) (Builtin.zeroCells zOff.cells 1).toList)):=by
  refine yH ⟨⟨by rw[aAs,hel],.inr ⟨g,cap,cur2,rfl,hbase,hb2,by omega,h2,?_,?_⟩⟩,kk1.trans kk2⟩
  ·rw[←Array.length_toList,hc2,hzc];simp only[List.length_append,List.length_take,List.length_drop,Array.length_toList,hz1,List.length_cons,List.length_nil];omega
  rw[hc2,List.append_assoc,List.take_append_of_le_length (by simp[hz1];omega),List.take_take,Nat.min_self,hc1,Nat.zero_add];rw[List.take_append_of_le_length (by simp[hnl,h3];omega)]
  have e1:cur.toList.take (k*7)=aAb (l.take k):=by
   have:cur.toList.take (k*7)=(cur.toList.take (l.length*7)).take (k*7):=by rw[List.take_take,Nat.min_eq_left (by omega)]
   rw[this,h4];have h6:aAb l=aAb (l.take k)++aAb (l.drop k):=by rw[←aA9,List.take_append_drop]
   rw[h6,List.take_left' (by rw[aAs,List.length_take];omega)]
  rw[e1,List.take_of_length_le (by simp[aAs,List.length_take];omega),←aA9,List.eraseIdx_eq_take_drop_succ]
 rw[hzc]at HF;simp only[hzc]at hcl;have HW:=yH hW1;have HT:=yH htl;have HN:=yH hnl;have HS:=yH hns;have hr1:=aH2 (P:=Tryz.prog) w.drew 156 197 Tryz.underlying156 (Tryz.sizeOf197 _) g (m+1) cap (k+1) (by omega) (by omega) i (by omega);have hr2:=aNp (P:=Tryz.prog) W1 156 197 Tryz.underlying156 (Tryz.sizeOf197 _) g m cap (by omega) ((m:Int)+1) rfl;have HB:=yH (Blk.cell (show Blk w g cur _ from hb));have HBf:=yH (Blk.frozen (show Blk w g cur _ from hb));have hkm:k≤m:=by omega
 rw[hel,hm];have s3:Hid (∀t,t<(aAb (l.drop (k+1))).length→(w.drew.cell? ⟨g,0+k*7+t,none⟩).isSome=true∧w.drew.frozen? ⟨g,0+k*7+t,none⟩=false):=yH (fun t ht=>⟨by show(w.cell? _).isSome=true;rw[HB.out,Array.getElem?_eq_getElem (by rw[h3];omega)];rfl,HBf.out _⟩);have hcm:m+1≤cap:=by omega
 have hin:i=(k:Int)+1:=hi;subst hin;have q1:((k:Int)==(k:Int)+1)=false:=by simp;omega
 have hic:k≤cap:=by omega
 unfold maxLen at h2;clear hW1 htl hnl hns kk1 kk2 hb1 hc1 hb2 hc2 hz1 hzc hel hm h3 h4 hb h1 hk;go_enter Tryz.func246,Tryz.ntmps246;go_wp2_with fail
 go_region_law (refine step_append_room rfl (.tmp 22) (.tmp 25) 156 rfl 197 i0 7 Tryz.underlying156 hi1 hi3 g 0 k cap (by simp[Act.eval,Act.put]) (aKo g (k+1) cap) (m - k) (cap - (k+1)) (aAb (l.drop (k+1))) (by simp[Act.eval,Act.put]) HN.out HT.out HS.out (by omega) s3.out ?_;rw[←HW.out])
 go_wp2;go_ret;exact⟨rfl,HF.out.1,HF.out.2⟩
theorem aMk{w:World}{base g k:Nat}{l:List Of}{N:Int}{vl:Value}(h:PB w base g l N vl)(hk:k<l.length)(hl:l.length≤1000):
  Calls Tryz.prog 204 #[.pointer (some ⟨g,0,none⟩),.int .i64 (k:Nat)] w fun e w'=>e=.returned (.tuple #[])∧∃vl',PB w' base g (l.eraseIdx k) N vl'∧Keep (Foot g vl) w w'∧vl'.ownBlock=vl.ownBlock:=by
 obtain⟨ao,cap,rfl,_,_,_,hr⟩:=aAg h.row;obtain⟨b,rfl,hbb,hbl,_⟩:=hr (by omega);have C:=yH (pdel_any h.row hk ((k:Int)+1) rfl);have H:=yH h;have d0:=h.blk.cell 0;simp at d0;have hne:b≠g:=h.apart b rfl;clear h hr;have HN:=yH hne;clear hne;go_enter Tryz.func204,Tryz.ntmps204;go_wp2_with fail;refine C.out.mono ?_;rintro e w1 ⟨rfl,ho,kk⟩;have HO:=yH ho;have HK:=yH kk;have HB:=yH (H.out.blk.keep kk (fun e=>HN.out e.symm));have hf1:=HB.out.frozen 0;have d1:=HB.out.cell 0;simp at d1;clear ho kk C d0;go_wp2_with fail;go_end0;have k2:Keep (·=g) w1 (w1.setCell ⟨g,0,none⟩ (.slice (some ⟨b,0,none⟩) (l.eraseIdx k).length cap)):=Keep.setCell (S:=(·=g)) (Keep.refl _ _) (p:=⟨g,0,none⟩) (.inl rfl) _;refine⟨rfl,_,⟨by simpa using HB.out.set 0 (.slice (some ⟨b,0,none⟩) (l.eraseIdx k).length cap),H.out.ge,aBq HO.out k2 (fun b' hb' e=>by cases hb';exact HN.out e)⟩,(HK.out.mono (fun j _ (hj:j=b)=>.inr (by rw[hj];rfl))).trans (k2.mono (fun j _ (hj:j=g)=>.inl hj)),rfl⟩
theorem aF4(a b:List Of)(s n:Int):setO (a++b) s n=setO a s n++setO b s n:=by unfold setO;rw[List.map_append,List.filter_append]
theorem aHl{a:List Of}{s n:Int}(h:∀x∈a,x.se≠s∧0<x.lf):setO a s n=a:=by
 induction a with
 | nil=>rfl
 | cons x r ih=>
  have hx:=h x (by simp);have hr:=ih (fun y hy=>h y (by simp[hy]));unfold setO at *;rw[List.map_cons,List.filter_cons,show Of.put s n x=x by unfold Of.put;rw[if_neg hx.1],if_pos (by simpa using hx.2),hr]
theorem BInv.others{l:List Of}{N:Int}(h:BInv l N){s:Int}(hp:posO l s<l.length):(∀x∈l.take (posO l s),x.se≠s∧0<x.lf)∧(∀x∈l.drop (posO l s+1),x.se≠s∧0<x.lf)∧l[posO l s].se=s:=by
 have hlf:∀x∈l,0<x.lf:=fun x hx=>by have:=(h.may x hx).2.2.2.2.1;omega
 have hat:l[posO l s].se=s:=by
  have:=List.findIdx_getElem (p:=fun x:Of=>x.se==s) (xs:=l) (w:=hp);exact eq_of_beq this
 refine⟨fun x hx=>⟨?_,hlf x (List.mem_of_mem_take hx)⟩,fun x hx=>⟨?_,hlf x (List.mem_of_mem_drop hx)⟩,hat⟩
 ·obtain⟨j,hj,rfl⟩:=List.mem_take_iff_getElem.1 hx;have:=List.not_of_lt_findIdx (p:=fun x:Of=>x.se==s) (xs:=l) (i:=j) (by unfold posO at hj;omega);simpa using this
 obtain⟨j,hj,rfl⟩:=List.mem_drop_iff_getElem.1 hx;have:=List.pairwise_iff_getElem.1 h.rise (posO l s) (posO l s+1+j) hp (by omega) (by omega);intro e;omega
theorem aQq{l:List Of}{k:Nat}(h:k<l.length):l=l.take k++[l[k]]++l.drop (k+1):=by
 rw[←List.take_succ_eq_append_getElem h,List.take_append_drop]
theorem aN8{l:List Of}{N:Int}(h:BInv l N){s:Int}(hp:posO l s<l.length):setO l s 0=l.eraseIdx (posO l s):=by
 obtain⟨h1,h2,h3⟩:=h.others hp
 conv=>lhs;rw[aQq hp]
 rw[aF4,aF4,aHl h1,aHl h2,List.eraseIdx_eq_take_drop_succ];simp[setO,Of.put,h3]
theorem setO_put{l:List Of}{N:Int}(h:BInv l N){s n:Int}(hn:0<n)(hp:posO l s<l.length):setO l s n=l.set (posO l s) { l[posO l s]with lf:=n }:=by
 obtain⟨h1,h2,h3⟩:=h.others hp
 conv=>lhs;rw[aQq hp]
 rw[aF4,aF4,aHl h1,aHl h2,List.set_eq_take_append_cons_drop,if_pos hp];simp[setO,Of.put,h3,hn]
theorem aLe{l:List Of}{s n:Int}{y:Of}(h:y∈setO l s n):0<y.lf∧∃x∈l,y=x∨(x.se=s∧y={ x with lf:=n }):=by
 unfold setO at h;obtain⟨h1,h2⟩:=List.mem_filter.1 h;obtain⟨x,hx,rfl⟩:=List.mem_map.1 h1;refine⟨by simpa using h2,x,hx,?_⟩;unfold Of.put;split
 ·rename_i e;exact .inr ⟨e,rfl⟩
 exact .inl rfl
theorem setO_se(l:List Of)(s n:Int):((l.map (Of.put s n)).map Of.se)=l.map Of.se:=by
 rw[List.map_map];apply List.map_congr_left;intro x _;show(Of.put s n x).se=x.se;unfold Of.put;split <;> rfl
theorem BInv.set{l:List Of}{N:Int}(h:BInv l N){s n:Int}(hn:n≤1099511627776):BInv (setO l s n) N:=by
 refine⟨fun y hy=>?_,?_,fun y hy=>?_,Nat.le_trans (setO_len l s n) h.len,h.n1,h.n2⟩
 ·obtain⟨h0,x,hx,rfl|⟨_,rfl⟩⟩:=aLe hy
  ·exact h.may _ hx
  obtain⟨a,b,c,d,e,f⟩:=h.may _ hx;exact⟨a,b,c,d,⟨by have:0<n:=h0;show 1≤n;omega,hn⟩,f⟩
 ·have h1:(l.map (Of.put s n)).Pairwise fun x y=>x.se<y.se:=by
   rw[←List.pairwise_map (f:=Of.se) (R:=fun a b:Int=>a<b),setO_se,List.pairwise_map];exact h.rise
  exact h1.filter _
 obtain⟨_,x,hx,rfl|⟨_,rfl⟩⟩:=aLe hy
 ·exact h.bd _ hx
 have:=h.bd _ hx;exact this
theorem BInv.cancel{l:List Of}{N:Int}(h:BInv l N)(ow s:Int):BInv (aDr l ow s) N:=by
 unfold aDr;split
 ·exact h.set (by omega)
 exact h
theorem leftO_bd{l:List Of}{N:Int}(h:BInv l N)(s:Int):0≤aK3 l s∧aK3 l s≤1099511627776:=by
 unfold aK3
 cases hf:aBb l s with
 | none=>simp
 | some x=>have:=(h.may _ (aCc hf).1).2.2.2.2.1;simp only;omega
theorem takeE_pos{l:List Of}{s n:Int}(h:aGs l s n=0):1≤n:=by
 unfold aGs at h;split at h
 ·omega
 split at h
 ·omega
 omega
theorem BInv.take{l:List Of}{N:Int}(h:BInv l N)(s n:Int):BInv (aDu l s n) N:=by
 unfold aDu;split
 ·rename_i e;have:=leftO_bd h s;have:=takeE_pos e;exact h.set (by omega)
 exact h
theorem aMl:∀(l:List Of) (k:Nat) (h:k<l.length) (n:Int),(aAb l).set (k*7+4) (.int .i64 n)=aAb (l.set k { l[k]with lf:=n })
 | x::r,0,_,n=>by simp[aAb,Of.vals]
 | x::r,k+1,h,n=>by
  have ih:=aMl r k (by simpa using h) n;have e1:aAb (x::r)=x.vals++aAb r:=rfl;have hk':k<r.length:=by simpa using h
  have e2:aAb ((x::r).set (k+1) { (x::r)[k+1]with lf:=n })=x.vals++aAb (r.set k { r[k]with lf:=n }):=rfl;rw[e1,e2,←ih,List.set_append_right _ _ (by simp[Of.vals];omega)];congr 2;simp[Of.vals];omega
theorem owns_put{w:World}{base b cap k:Nat}{e:TypeId}{l:List Of}(h:w.ownsRow base e 7 (.slice (some ⟨b,0,none⟩) l.length cap) l.length (aAb l))(hk:k<l.length)(n:Int):
  (w.setCell ⟨b,k*7+4,none⟩ (.int .i64 n)).ownsRow base e 7 (.slice (some ⟨b,0,none⟩) l.length cap) (l.set k { l[k]with lf:=n }).length (aAb (l.set k { l[k]with lf:=n })):=by
 obtain⟨_,hx⟩:=h;rcases hx with⟨hx,_⟩|⟨g,cap',cur,hv,hbase,hb,h1,h2,h3,h4⟩
 ·cases hx
 cases hv
 refine⟨by rw[aAs],.inr ⟨b,cap,_,by rw[List.length_set],hbase,Blk.set (show Blk w b cur e from hb) (k*7+4) (.int .i64 n),by rw[List.length_set];exact h1,h2,by simpa using h3,?_⟩⟩;rw[←aMl l k hk n,←h4,List.length_set,Array.toList_setIfInBounds,List.take_set]
theorem aS5{w:World}{base g:Nat}{l:List Of}{N:Int}{vl:Value}(h:PB w base g l N vl)(hI:BInv l N)(ow s:Int):
  Calls Tryz.prog 157 #[.pointer (some ⟨g,0,none⟩),.int .u8 ow,.int .u64 s] w fun e w'=>e=.returned (.tuple #[.int .i64 (aDq l ow s),.int .i64 (aB9 l ow s)])∧∃vl',PB w' base g (aDr l ow s) N vl'∧Keep (Foot g vl) w w'∧aEg w vl vl':=by
 have C:=yH (aJ4 h hI.n1 s);have H:=yH h;have HI:=yH hI;have hlen:=hI.len;clear h hI
 by_cases hp:posO l s<l.length
 ·rw[show aEd l s=.tuple #[.int .i64 (posO l s:Nat),.int .i64 0] by unfold aEd;rw[if_pos hp]]at C;have hf:=aJ3 hp;have SE:=yH (aN8 HI.out hp);obtain⟨ao,cap,hv,_,hcm,_,hr⟩:=aAg H.out.row;subst hv;obtain⟨b,rfl,hbb,hbl,hcell,_⟩:=hr (by omega);have HC:=yH hcell;have CR:=yH (fun w1 (b1:Below w.heap.size w w1)=>aMk (H.out.below b1) hp (by omega));clear hr hcell;generalize hpk:posO l s=k at *;clear hpk;generalize hxk:l[k]=x at *;unfold maxLen at hcm
  by_cases hw:x.ow=ow
  ·have E:=yH (show aDq l ow s=x.lf∧aB9 l ow s=0∧aDr l ow s=l.eraseIdx k from by
    have e2:aB9 l ow s=0:=by unfold aB9;rw[hf];exact if_pos hw
    exact⟨by unfold aDq;rw[hf];exact if_pos hw,e2,by unfold aDr;rw[if_pos e2,SE.out]⟩)
   have q2:(x.ow != ow)=false:=by simpa using hw
   rw[E.out.1,E.out.2.1,E.out.2.2];clear hf hw;go_enter Tryz.func157,Tryz.ntmps157;go_wp2_with fail;refine C.out.mono ?_;rintro e w1 ⟨rfl,b1⟩;have H1:=H.out.below b1;have d0:=H1.blk.cell 0;simp at d0;obtain⟨e0,e1,e2,e3,e4,e5,e6⟩:=aCs (w:=w1) (fun j hj=>by rw[b1.cell (p:=⟨b,j,none⟩) hbl];exact HC.out j hj) hp;rw[hxk]at e0 e1 e2 e3 e4 e5 e6;have CR1:=yH (CR.out w1 b1);have HB1:=yH b1;clear b1 H1 CR C hxk;go_wp2_with fail;refine CR1.out.mono ?_;rintro e w2 ⟨rfl,vl',h2,k2,m2⟩;have R:=yH (And.intro h2 (And.intro k2 m2));clear h2 k2 m2;go_wp2_with fail;refine bodyPost_ret (v:=.tuple #[.int .i64 x.lf,.int .i64 0]) (by simp[results,Tryz.results157,go_sem]) rfl ?_;exact⟨rfl,vl',R.out.1,(pAD HB1.out).trans R.out.2.1,fun b hb=>.inl (by rw[←R.out.2.2];exact hb)⟩
  have E:=yH (show aDq l ow s=0∧aB9 l ow s=15∧aDr l ow s=l from by
   have e2:aB9 l ow s=15:=by unfold aB9;rw[hf];exact if_neg hw
   exact⟨by unfold aDq;rw[hf];exact if_neg hw,e2,by unfold aDr;rw[if_neg (by rw[e2];decide)]⟩)
  have q2:(x.ow != ow)=true:=by simpa using hw
  rw[E.out.1,E.out.2.1,E.out.2.2];clear hf hw CR;go_enter Tryz.func157,Tryz.ntmps157;go_wp2_with fail;refine C.out.mono ?_;rintro e w1 ⟨rfl,b1⟩;have H1:=H.out.below b1;have d0:=H1.blk.cell 0;simp at d0;obtain⟨e0,e1,e2,e3,e4,e5,e6⟩:=aCs (w:=w1) (fun j hj=>by rw[b1.cell (p:=⟨b,j,none⟩) hbl];exact HC.out j hj) hp;rw[hxk]at e0 e1 e2 e3 e4 e5 e6;have HB1:=yH b1;clear b1 H1 C hxk;go_wp2_with fail;refine bodyPost_ret (v:=.tuple #[.int .i64 0,.int .i64 15]) (by simp[results,Tryz.results157,go_sem]) rfl ?_;exact⟨rfl,_,H.out.below HB1.out,pAD HB1.out,aEg.refl _ _⟩
 rw[show aEd l s=.tuple #[.int .i64 0,.int .i64 7] by unfold aEd;rw[if_neg hp]]at C;have hf:=aIj hp
 have E:=yH (show aDq l ow s=0∧aB9 l ow s=7∧aDr l ow s=l from by
  have e2:aB9 l ow s=7:=by unfold aB9;rw[hf]
  exact⟨by unfold aDq;rw[hf],e2,by unfold aDr;rw[if_neg (by rw[e2];decide)]⟩)
 rw[E.out.1,E.out.2.1,E.out.2.2];clear hf hp;go_enter Tryz.func157,Tryz.ntmps157;go_wp2_with fail;refine C.out.mono ?_;rintro e w1 ⟨rfl,b1⟩;have HB1:=yH b1;clear b1 C;go_wp2_with fail;refine bodyPost_ret (v:=.tuple #[.int .i64 0,.int .i64 7]) (by simp[results,Tryz.results157,go_sem]) rfl ?_;exact⟨rfl,_,H.out.below HB1.out,pAD HB1.out,aEg.refl _ _⟩
theorem aQr{w:World}{base g:Nat}{l:List Of}{N:Int}{vl:Value}(h:PB w base g l N vl)(hI:BInv l N)(s n:Int):
  Calls Tryz.prog 276 #[.pointer (some ⟨g,0,none⟩),.int .u64 s,.int .i64 n] w fun e w'=>e=.returned (.int .i64 (aGs l s n))∧∃vl',PB w' base g (aDu l s n) N vl'∧Keep (Foot g vl) w w'∧aEg w vl vl':=by
 have C:=yH (aJ4 h hI.n1 s);have H:=yH h;have HI:=yH hI;have hlen:=hI.len;clear h hI
 by_cases hp:posO l s<l.length
 ·rw[show aEd l s=.tuple #[.int .i64 (posO l s:Nat),.int .i64 0] by unfold aEd;rw[if_pos hp]]at C;have hf:=aJ3 hp;have SE:=yH (aN8 HI.out hp);have SP:=yH (fun m hm=>setO_put HI.out (s:=s) (n:=m) hm hp);obtain⟨ao,cap,hv,_,hcm,_,hr⟩:=aAg H.out.row;subst hv;obtain⟨b,rfl,hbb,hbl,hcell,hfr⟩:=hr (by omega);have HC:=yH hcell;have HF:=yH hfr;have CR:=yH (fun w1 (b1:Below w.heap.size w w1)=>aMk (H.out.below b1) hp (by omega));have hlf:=(HI.out.may _ (List.getElem_mem hp)).2.2.2.2.1;have HA:=yH (H.out.apart b rfl);have OP:=yH (fun w1 (b1:Below w.heap.size w w1) m=>owns_put (aAf H.out.row b1) hp m);clear hr hcell hfr;generalize hpk:posO l s=k at *;clear hpk;generalize hxk:l[k]=x at *;obtain⟨hlf1,hlf2⟩:=hlf;unfold maxLen at hcm
  by_cases hn1:n<1
  ·have E:=yH (show aGs l s n=1∧aDu l s n=l from by
    have e2:aGs l s n=1:=by unfold aGs;rw[hf];exact if_pos (.inl hn1)
    exact⟨e2,by unfold aDu;rw[if_neg (by rw[e2];decide)]⟩)
   rw[E.out.1,E.out.2];clear hf CR OP SP SE;go_enter Tryz.func276,Tryz.ntmps276;go_wp2_with fail;refine C.out.mono ?_;rintro e w1 ⟨rfl,b1⟩;have HB1:=yH b1;clear b1 C hxk;go_wp2_with fail;go_ret;exact⟨rfl,_,H.out.below HB1.out,pAD HB1.out,aEg.refl _ _⟩
  by_cases hn2:x.lf<n
  ·have E:=yH (show aGs l s n=1∧aDu l s n=l from by
    have e2:aGs l s n=1:=by unfold aGs;rw[hf];exact if_pos (.inr hn2)
    exact⟨e2,by unfold aDu;rw[if_neg (by rw[e2];decide)]⟩)
   rw[E.out.1,E.out.2];clear hf CR OP SP SE;go_enter Tryz.func276,Tryz.ntmps276;go_wp2_with fail;refine C.out.mono ?_;rintro e w1 ⟨rfl,b1⟩;have H1:=H.out.below b1;have d0:=H1.blk.cell 0;simp at d0;obtain⟨e0,e1,e2,e3,e4,e5,e6⟩:=aCs (w:=w1) (fun j hj=>by rw[b1.cell (p:=⟨b,j,none⟩) hbl];exact HC.out j hj) hp;rw[hxk]at e0 e1 e2 e3 e4 e5 e6;have HB1:=yH b1;clear b1 C H1 hxk;go_wp2_with fail;go_ret;exact⟨rfl,_,H.out.below HB1.out,pAD HB1.out,aEg.refl _ _⟩
  have e0':aGs l s n=0:=by unfold aGs;rw[hf];exact if_neg (by omega)
  have eL:aK3 l s=x.lf:=by unfold aK3;rw[hf]
  by_cases hn3:n=x.lf
  ·have E:=yH (show aGs l s n=0∧aDu l s n=l.eraseIdx k from⟨e0',by unfold aDu;rw[if_pos e0',eL,hn3,Int.sub_self,SE.out]⟩);rw[E.out.1,E.out.2];have q1:(n==x.lf)=true:=by simpa using hn3
   clear hf OP SP SE e0' eL hn3;go_enter Tryz.func276,Tryz.ntmps276;go_wp2_with fail;refine C.out.mono ?_;rintro e w1 ⟨rfl,b1⟩;have H1:=H.out.below b1;have d0:=H1.blk.cell 0;simp at d0;obtain⟨e0,e1,e2,e3,e4,e5,e6⟩:=aCs (w:=w1) (fun j hj=>by rw[b1.cell (p:=⟨b,j,none⟩) hbl];exact HC.out j hj) hp;rw[hxk]at e0 e1 e2 e3 e4 e5 e6;have CR1:=yH (CR.out w1 b1);have HB1:=yH b1;clear b1 C H1 CR hxk;go_wp2_with fail;refine CR1.out.mono ?_;rintro e w2 ⟨rfl,vl',h2,k2,m2⟩;have R:=yH (And.intro h2 (And.intro k2 m2));clear h2 k2 m2;go_wp2_with fail;go_ret;exact⟨rfl,vl',R.out.1,(pAD HB1.out).trans R.out.2.1,fun b hb=>.inl (by rw[←R.out.2.2];exact hb)⟩
  have E:=yH (show aGs l s n=0∧aDu l s n=l.set k { x with lf:=x.lf - n }from⟨e0',by unfold aDu;rw[if_pos e0',eL,SP.out _ (by omega)]⟩);rw[E.out.1,E.out.2];have q1:(n==x.lf)=false:=by simpa using hn3
  clear hf CR SP SE e0' eL hn3;go_enter Tryz.func276,Tryz.ntmps276;go_wp2_with fail;refine C.out.mono ?_;rintro e w1 ⟨rfl,b1⟩;have H1:=H.out.below b1;have d0:=H1.blk.cell 0;simp at d0;obtain⟨e0,e1,e2,e3,e4,e5,e6⟩:=aCs (w:=w1) (fun j hj=>by rw[b1.cell (p:=⟨b,j,none⟩) hbl];exact HC.out j hj) hp;rw[hxk]at e0 e1 e2 e3 e4 e5 e6;have hfz:w1.frozen? ⟨b,k*7+4,none⟩=false:=by rw[b1.frozen (p:=⟨b,k*7+4,none⟩) hbl];exact HF.out _
  have HO1:=yH (OP.out w1 b1 (x.lf - n));have HG:=yH H1.blk;have HB1:=yH b1;clear b1 C H1 OP hxk;go_wp2_with fail;go_ret;have k2:Keep (·=b) w1 (w1.setCell ⟨b,k*7+4,none⟩ (.int .i64 (x.lf - n))):=Keep.setCell (S:=(·=b)) (Keep.refl _ _) (p:=⟨b,k*7+4,none⟩) (.inl rfl) _;refine⟨rfl,_,⟨HG.out.keep k2 (fun e=>HA.out e.symm),H.out.ge,HO1.out⟩,((pAD HB1.out).trans k2).mono (fun j _ (hj:j=b)=>.inr (by rw[hj];rfl)),aEg.refl _ _⟩
 rw[show aEd l s=.tuple #[.int .i64 0,.int .i64 7] by unfold aEd;rw[if_neg hp]]at C;have hf:=aIj hp
 have E:=yH (show aGs l s n=7∧aDu l s n=l from by
  have e2:aGs l s n=7:=by unfold aGs;rw[hf]
  exact⟨e2,by unfold aDu;rw[if_neg (by rw[e2];decide)]⟩)
 rw[E.out.1,E.out.2];clear hf hp;go_enter Tryz.func276,Tryz.ntmps276;go_wp2_with fail;refine C.out.mono ?_;rintro e w1 ⟨rfl,b1⟩;have HB1:=yH b1;clear b1 C;go_wp2_with fail;go_ret;exact⟨rfl,_,H.out.below HB1.out,pAD HB1.out,aEg.refl _ _⟩
theorem aJb{w:World}{base g:Nat}{l:List Of}{N:Int}{vl:Value}(h:PB w base g l N vl)(h1:1≤N)(s:Int):
  Calls Tryz.prog 162 #[.pointer (some ⟨g,0,none⟩),.int .u64 s] w (yR w (aQo (aBb l s))):=by
 have bw:=(Below.refl w.heap.size w).alloc yL (.cells #[.int .u64 0,.int .u8 0,.int .u8 0,.int .u8 0,.int .i64 0,.int .i64 0,.int .i64 0] 75);have h2:=h.below bw;have B:=yH bw;have H:=yH h2;have KR:=yH (Blk.new w #[.int .u64 0,.int .u8 0,.int .u8 0,.int .u8 0,.int .i64 0,.int .i64 0,.int .i64 0] 75);have C:=yH (aJ4 h2 h1 s);obtain⟨ao,cap,rfl,hc1,hc2,hc3,hc4⟩:=aAg h2.row;have HC:=yH hc4;unfold maxLen at hc2;clear hc3 hc4 h bw h2 h1
 by_cases hp:posO l s<l.length
 ·rw[show aEd l s=.tuple #[.int .i64 (posO l s:Nat),.int .i64 0] by unfold aEd;rw[if_pos hp]]at C;have E:=yH (aJ3 hp);generalize hpk:posO l s=k at *;clear hpk;go_enter Tryz.func162,Tryz.ntmps162;go_wp2_with fail;refine C.out.mono ?_;rintro e w1 ⟨rfl,b1⟩;obtain⟨b,rfl,hb1,hb2,hcell,_⟩:=HC.out (by omega);have H1:=H.out.below b1;have d0:=H1.blk.cell 0;simp at d0;obtain⟨e0,e1,e2,e3,e4,e5,e6⟩:=aCs (w:=w1) (fun j hj=>by rw[b1.cell (p:=⟨b,j,none⟩) hb2];exact hcell j hj) hp;have KR1:=yB KR b1;have B1:=yT B b1;clear hcell b1 C H1 KR;generalize l[k]=x at *;go_wp2_with (refine aAa rfl 75 (.tmp 4) (.tmp 23) rfl w.heap.size #[.int .u64 x.se,.int .u8 x.ow,.int .u8 x.sl,.int .u8 x.bu,.int .i64 x.lf,.int .i64 x.nu,.int .i64 x.de] rfl rfl 75 _ KR1.out.out (by kernel_rfl) rfl (by simp[Value.oneCell']) ?_);rw[E.out];refine bodyPost_ret (v:=.tuple #[x.val,.bool true]) (aAh rfl _ _ w.heap.size 75 #[.int .u64 x.se,.int .u8 x.ow,.int .u8 x.sl,.int .u8 x.bu,.int .i64 x.lf,.int .i64 x.nu,.int .i64 x.de] _ _ rfl (setRow_heap _ w.heap.size _ _ _ (0,0) KR1.out.out) Tryz.underlying75 rfl (by kernel_rfl) rfl) rfl ⟨rfl,below_setRow B1.out yL _⟩
 rw[show aEd l s=.tuple #[.int .i64 0,.int .i64 7] by unfold aEd;rw[if_neg hp]]at C;have E:=yH (aIj hp);clear hp;go_enter Tryz.func162,Tryz.ntmps162;go_wp2_with fail;refine C.out.mono ?_;rintro e w1 ⟨rfl,b1⟩;have KR1:=yB KR b1;have B1:=yT B b1;clear b1 C KR;go_wp2_with (refine aAa rfl 75 (.tmp 4) (.tmp 16) rfl w.heap.size #[.int .u64 0,.int .u8 0,.int .u8 0,.int .u8 0,.int .i64 0,.int .i64 0,.int .i64 0] rfl rfl 75 _ KR1.out.out (by kernel_rfl) rfl (by simp[Value.oneCell']) ?_);rw[E.out];refine bodyPost_ret (v:=.tuple #[noOf.val,.bool false]) (aAh rfl _ _ w.heap.size 75 #[.int .u64 0,.int .u8 0,.int .u8 0,.int .u8 0,.int .i64 0,.int .i64 0,.int .i64 0] _ _ rfl (setRow_heap _ w.heap.size _ _ _ (0,0) KR1.out.out) Tryz.underlying75 rfl (by kernel_rfl) rfl) rfl ⟨rfl,below_setRow B1.out yL _⟩
def OwnPost(w:World)(e:TypeId)(l:List Of)(en:Ending)(w':World):Prop:=
 ∃v',en=.returned v'∧w'.ownsRow w.heap.size e 7 v' l.length (aAb l)∧Below w.heap.size w w'
theorem aN9{w:World}{base:Nat}{v:Value}{l:List Of}(h:w.ownsRow base 197 7 v l.length (aAb l))(hl:l.length≤1000):
  Calls Tryz.prog 114 #[v] w (OwnPost w 197 l):=by
 have q22:∀(w:World) (a:Option Addr) (n c n' c':Nat),(binOp .eql 156 (.slice a n c) (.slice none n' c')).run Tryz.prog w=.ok (.bool a.isNone) w:=fun w a n c n' c'=>Lib.run_eql_slice_nil w _ _ a n c n' c' Tryz.underlying156
 rcases h.2 with⟨rfl,h0⟩|⟨g,cap,cur,rfl,hbase,hb,h1,h2,h3,h4⟩
 ·have hl0:=List.eq_nil_of_length_eq_zero h0;subst hl0;clear h h0;go_enter Tryz.func114,Tryz.ntmps114;go_wp2;refine bodyPost_ret (v:=.slice none 0 0) (by simp[results,Tryz.results114,go_sem]) rfl ?_;exact⟨_,rfl,World.ownsRow_nil _ _ _ _,yZ⟩
 obtain⟨i0,hi1,hi2,hi3,hi4⟩:=info_parts aJa;have HC:=yH (h.cells (g:=g) rfl);have HL:=yH hl;have HX:=yH h.1;clear h hb h1 h2 h3 h4 hl;go_enter Tryz.func114,Tryz.ntmps114;go_wp2_with (at_builtin;refine wpList_append_own _ rfl _ _ 156 rfl w.heap.size 197 i0 zOff 7 40 Tryz.underlying156 hi1 hi2 hi3 hi4 rfl (by decide) _ _ _ rfl (World.ownsRow_made w #[] 0 yL (Nat.zero_le _) (by simp)) ⟨g,0,none⟩ l.length cap (aAb l) rfl ?qc1 ?qc2 ?qc3 ?qc4 ?qc5 ?qc6 ?_)
 case qc1=>exact HX.out
 case qc2=>
  intro j u hj;exact Lib.cell?_alloc_some _ (HC.out j u hj)
 case qc3=>exact aGw l
 case qc4=>rw[Nat.zero_add];have:=HL.out;unfold maxLen;omega
 case qc5=>rw[Nat.zero_add];have:=HL.out;omega
 case qc6=>simp
 intro v' w1 hown hgrow hnil;have HO:=yH (show w1.ownsRow w.heap.size 197 7 v' l.length (aAb l) by simpa using hown);have HB:=yH (((Below.refl w.heap.size w).alloc yL (.cells #[] 197)).grown hgrow (by simp) (by intro k hk;simp[Value.ownBlock]at hk;omega));clear hown hgrow hnil;go_wp2;refine bodyPost_ret (v:=v') (by simp[results,Tryz.results114,go_sem]) rfl ?_;exact⟨v',rfl,HO.out,HB.out⟩
theorem clipO_any{w:World}{base:Nat}{v:Value}{n:Nat}{xs:List Value}(h:w.ownsRow base 75 7 v n xs):
  Calls Tryz.prog 145 #[v] w (aHg w base 75 7 n v xs):=by
 rcases h.2 with⟨rfl,h0⟩|⟨g,cap,cur,rfl,hbase,hb,h1,h2,h3,h4⟩
 ·subst h0;have hr:=aBg (P:=Tryz.prog) w 43 75 7 Tryz.underlying43 (Tryz.sizeOf75 w);have hx:=h.1;have hx2:=yH hx;clear h hx;go_enter Tryz.func145,Tryz.ntmps145;go_wp2;refine bodyPost_ret (v:=.slice none 0 0) (by simp[results,Tryz.results145,go_sem]) rfl ?_;exact⟨_,rfl,⟨hx2.out,.inl ⟨rfl,rfl⟩⟩,rfl,rfl⟩
 have hr:=aCe (P:=Tryz.prog) w 43 75 7 Tryz.underlying43 (Tryz.sizeOf75 w) g n cap h1;have HR:=yH (show aBj w base 75 7 (.slice (some ⟨g,0,none⟩) n n) n xs from⟨h.1,.inr ⟨g,cur,rfl,hbase,hb,by omega,by omega,h4⟩⟩);clear h hb h4 h3;unfold maxLen at h2;go_enter Tryz.func145,Tryz.ntmps145;go_wp2;refine bodyPost_ret (v:=.slice (some ⟨g,0,none⟩) n n) (by simp[results,Tryz.results145,go_sem]) rfl ?_;exact⟨_,rfl,HR.out,rfl,rfl⟩
def ToldAt(w:World)(l:List Of)(v i:Value)(wr:World):Prop:=
 ∃k:Nat,k≤l.length∧i=.int .i64 k∧wr.ownsRow w.heap.size 75 7 v (l.take k).length (aAb (l.take k))∧Below w.heap.size w wr
theorem told_any{w:World}{base:Nat}{v:Value}{l:List Of}(h:w.ownsRow base 197 7 v l.length (aAb l))(hl:l.length≤1000):
  Calls Tryz.prog 103 #[v] w (aE9 w 75 7 l.length (aAb l)):=by
 obtain⟨ao,cap,rfl,hc1,hc2,hc3,hc4⟩:=aAg h;have HC:=yH hc4;unfold maxLen at hc2;clear hc3 hc4 h;go_enter Tryz.func103,Tryz.ntmps103;go_wp2_with fail
 go_loopw [3,8] (ToldAt w l) (fun _ i _=>l.length - (intOf i).toNat)
 case atStart=>exact⟨0,Nat.zero_le _,rfl,World.ownsRow_nil _ _ _ _,yZ⟩
 obtain⟨k,hk,rfl,hown,hb⟩:=hrel
 by_cases hkl:k<l.length
 ·obtain⟨b,rfl,hb1,hb2,hcell,_⟩:=HC.out (by omega);obtain⟨e0,e1,e2,e3,e4,e5,e6⟩:=aCs (w:=wr) (fun j hj=>by rw[hb.cell (p:=⟨b,j,none⟩) hb2];exact hcell j hj) hkl;have NX:=yH (List.take_succ_eq_append_getElem hkl);have hlk:(l.take k).length≤1000:=Nat.le_trans (List.length_take_le _ _) (by omega);clear hcell;generalize l[k]=y at *;generalize l.take k=out at *;have bw:=(Below.refl wr.heap.size wr).alloc yL (.cells #[.int .u64 y.se,.int .u8 y.ow,.int .u8 y.sl,.int .u8 y.bu,.int .i64 y.lf,.int .i64 y.nu,.int .i64 y.de] 197);have OY:=yH (aAf hown bw);have BY:=yH (hb.trans (bw.mono hb.size));have hl2:out.length≤100000:=by omega
  clear hown hb bw;go_wp2_with (at_builtin;refine aK1 _ rfl (.tmp 12) (.tmp 14) rfl w.heap.size _ out rfl (OY.out.alloc _) _ _ y rfl (pAB _ _ _ (by simp)) hl2 (by have:=BY.out.size;simp at this ⊢;omega) ?_);intro v3 w3 hown3 hgr3;have R2:∀k,Value.ownBlock _=some k→w.heap.size≤k:=fun k hk=>(aAe OY.out hk).1
  have B3:=yH ((BY.out.alloc BY.out.size _).grown hgr3 (by have:=BY.out.size;simp at this ⊢;omega) (fun k hk=>R2 k hk));have O3:=yH (show w3.ownsRow w.heap.size 75 7 v3 (out++[y]).length (aAb (out++[y])) by simpa using hown3);clear R2 hown3 hgr3;go_wp2_with fail;go_roundw
  case rel=>exact⟨k+1,by omega,by go_num,by rw[NX.out];exact O3.out,B3.out⟩
  case measure=>simp[intOf];omega
 have hke:l.take k=l:=List.take_of_length_le (by omega);rw[hke]at hown;have CC:=yH (clipO_any hown);have HB:=yH hb;clear hown hb hke;go_wp2_with fail;refine CC.out.mono ?_;rintro e w3 ⟨v',rfl,hrow,_,rfl⟩;have HRow:=yH hrow;clear hrow CC;go_wp2_with fail;refine bodyPost_ret (v:=v') (by simp[results,Tryz.results103,go_sem]) rfl ?_;exact⟨v',rfl,HRow.out,HB.out⟩
theorem pall_of{w:World}{base:Nat}{pv v:Value}{l:List Of}(hc:Calls Tryz.prog 104 #[pv] w (yS w v))(h:w.ownsRow base 197 7 v l.length (aAb l))(hl:l.length≤1000):
  Calls Tryz.prog 59 #[pv] w (aE9 w 75 7 l.length (aAb l)):=by
 have C1:=yH hc;have C2:=yH (told_any h hl);clear hc h;go_enter Tryz.func59,Tryz.ntmps59;go_wp2_with fail;refine C1.out.mono ?_;rintro e w ⟨rfl,rfl⟩;go_wp2_with fail;refine C2.out.mono ?_;rintro e w1 ⟨v',rfl,h1,b1⟩;have H1:=yH (And.intro h1 b1);clear h1 b1;go_wp2_with fail;refine bodyPost_ret (v:=v') (by simp[results,Tryz.results59,go_sem]) rfl ?_;exact⟨v',rfl,H1.out.1,H1.out.2⟩
theorem pall_any{w:World}{base g:Nat}{l:List Of}{N:Int}{vl:Value}(h:PB w base g l N vl)(hl:l.length≤1000):
  Calls Tryz.prog 59 #[.pointer (some ⟨g,0,none⟩)] w (aE9 w 75 7 l.length (aAb l)):=by
 obtain⟨ao,cap,rfl,_⟩:=aAg h.row;exact pall_of (ball_any h.blk) h.row hl
def aH3:Value:=.agg #[.int .u64 0,.int .u8 0,.int .u8 0,.int .i64 0,.int .i64 0]
def mayO(o:Of)(ps:List Int)(tk pt want most m1 m2:Int):Int:=if o.ow=tk∨o.ow∉ps∨tk∉ps∨pt∉ps∨want<1∨most<1 then 0 else
 min (if pt=o.ow then min want o.lf else min (min want o.lf) m1) (fitN (min (min most 1099511627776) m2) o.nu o.de)
def mayV(l:List Of)(ps:List Int)(s tk pt want most m1 m2:Int):Int:=match aBb l s with
 | none=>0
 | some o=>mayO o ps tk pt want most m1 m2
def Goes(ps:List Int)(ls:List Ln)(o:Of)(tk pt m1 m2:Int):Prop:=
 (∃μ,aAi (aAt ps ls o.sl) 4398046511104 o.ow pt aCb μ∧aCb - μ.left=m1)∧∃μ,aAi (aAt ps ls o.bu) 4398046511104 tk o.ow aCb μ∧aCb - μ.left=m2
theorem goes_ends{ps:List Int}{ls:List Ln}(h:LInv ps ls)(o:Of)(tk pt:Int):∃m1 m2,Goes ps ls o tk pt m1 m2:=by
 obtain⟨μ,h1⟩:=aDy (aAw h o.sl) o.ow pt aCb;obtain⟨ν,h2⟩:=aDy (aAw h o.bu) tk o.ow aCb;exact⟨_,_,⟨μ,h1,rfl⟩,ν,h2,rfl⟩
theorem aIk{f:Int→Int→Int}(h0:GInv f 4398046511104){s t:Int}{μ:RS}(h:aAi f 4398046511104 s t aCb μ):0≤aCb - μ.left∧aCb - μ.left≤1125899906842624:=by
 by_cases hi:inP s∧inP t∧s≠t
 ·exact aSe h h0 hi.2.2
 rw[aL4 h0 hi h];show 0≤aCb - aCb∧aCb - aCb≤1125899906842624;omega
theorem Goes.bd{ps:List Int}{ls:List Ln}(h:LInv ps ls){o:Of}{tk pt m1 m2:Int}(g:Goes ps ls o tk pt m1 m2):(0≤m1∧m1≤1125899906842624)∧0≤m2∧m2≤1125899906842624:=by
 obtain⟨⟨μ,h1,rfl⟩,ν,h2,rfl⟩:=g;exact⟨aIk (aAw h _) h1,aIk (aAw h _) h2⟩
def doOk(l:List Of)(ps:List Int)(s tk pt n m1 m2:Int):Prop:=1≤n∧n≤mayV l ps s tk pt n 1099511627776 m1 m2
theorem doOk.facts{l:List Of}{ps:List Int}{s tk pt n m1 m2:Int}(h:doOk l ps s tk pt n m1 m2):
  ∃o,aBb l s=some o∧(o.ow≠tk∧o.ow∈ps∧tk∈ps∧pt∈ps)∧n≤o.lf∧(pt=o.ow∨n≤m1)∧n≤fitN (min 1099511627776 m2) o.nu o.de:=by
 obtain⟨h1,h2⟩:=h;unfold mayV at h2
 cases hf:aBb l s with
 | none=>rw[hf]at h2;simp at h2;omega
 | some o=>
  rw[hf]at h2;simp only[mayO]at h2;split at h2
  ·omega
  rename_i hb;refine⟨o,rfl,⟨fun h=>hb (.inl h),Classical.byContradiction fun h=>hb (.inr (.inl h)),Classical.byContradiction fun h=>hb (.inr (.inr (.inl h))),Classical.byContradiction fun h=>hb (.inr (.inr (.inr (.inl h))))⟩,?_,?_,?_⟩
  ·split at h2 <;> omega
  ·split at h2
   ·rename_i h;exact .inl h
   exact .inr (by omega)
  have e:min (min 1099511627776 1099511627776) m2=min (1099511627776:Int) m2:=by omega
  rw[e]at h2;omega
theorem aS6{n g nu de:Int}(hm:mayB nu de=true)(h0:0≤g)(hg:g≤1099511627776)(hn:0≤n)(h:n≤fitN g nu de):
  upV2 n nu de=.tuple #[.int .i64 (upN (n*nu) de),.int .i64 0]∧0≤upN (n*nu) de∧upN (n*nu) de≤g:=by
 unfold fitN at h;rw[if_pos ⟨hm,h0⟩]at h;obtain⟨h1,h2,h3,h4,_⟩:=aE0 hm;have hu:=(up_le n nu g de hn h0 h1 h2 (by omega)).2 (by omega)
 have h5:0≤upN (n*nu) de:=by
  have:=Int.ediv_nonneg (Int.mul_nonneg hn (show 0≤nu by omega)) (show 0≤de by omega);unfold upN;split <;> omega
 refine⟨?_,h5,hu⟩;have hi:In64 (upN (n*nu) de):=⟨by omega,by omega⟩;rw[upV2,hm,if_pos rfl,upV,if_neg (by omega),ans_of _ hi]
def aKp(ps:List Int)(ls:List Ln)(o:Of)(tk pt n x:Int)(ls':List Ln):Prop:=
 ∃ls1 τ,((pt=o.ow∧ls1=ls)∨(pt≠o.ow∧∃σ,aAi (aAt ps ls o.sl) 4398046511104 o.ow pt n σ∧ls1=payL ps ls o.ow pt o.sl n σ))∧aAi (aAt ps ls1 o.bu) 4398046511104 tk o.ow x τ∧ls'=payL ps ls1 tk o.ow o.bu x τ
theorem aKp.eq{ps:List Int}{ls:List Ln}{o:Of}{tk pt n x:Int}{l1 l2:List Ln}(h:aKp ps ls o tk pt n x l1)(g:aKp ps ls o tk pt n x l2):l1=l2:=by
 obtain⟨a,σ,ha,hσ,rfl⟩:=h;obtain⟨b,τ,hb,hτ,rfl⟩:=g
 have e:a=b:=by
  rcases ha with⟨h1,rfl⟩|⟨h1,α,h2,rfl⟩ <;> rcases hb with⟨k1,rfl⟩|⟨k1,β,k2,rfl⟩
  ·rfl
  ·exact absurd h1 k1
  ·exact absurd k1 h1
  rw[h2.eq k2]
 subst e;rw[hσ.eq hτ]
theorem aKp.inv{ps:List Int}{ls:List Ln}{o:Of}{tk pt n x:Int}{l1:List Ln}(h:aKp ps ls o tk pt n x l1)(hI:LInv ps ls):LInv ps l1:=by
 obtain⟨a,σ,ha,hσ,rfl⟩:=h;refine aLc ?_ _ _ _ _ _;rcases ha with⟨h1,rfl⟩|⟨h1,α,h2,rfl⟩
 ·exact hI
 exact aLc hI _ _ _ _ _
theorem fitN_nn{g nu de:Int}:0≤fitN g nu de:=by
 unfold fitN;split
 ·rename_i h;have:=aE0 h.1;have:=Int.ediv_nonneg (Int.mul_nonneg h.2 (show 0≤de by omega)) (show 0≤nu by omega);omega
 omega
theorem fitN_mono{a b nu de:Int}(h0:0≤a)(h:a≤b):fitN a nu de≤fitN b nu de:=by
 unfold fitN
 by_cases hm:mayB nu de=true
 ·rw[if_pos ⟨hm,h0⟩,if_pos ⟨hm,by omega⟩];have hb:=aE0 hm;have h1:a*de≤b*de:=Int.mul_le_mul_of_nonneg_right h (by omega);have:=Int.ediv_le_ediv (show 0<nu by omega) h1;omega
 rw[if_neg (fun q=>hm q.1),if_neg (fun q=>hm q.1)];omega
theorem may_do{l:List Of}{ps:List Int}{s tk pt want most m1 m2 n:Int}(h1:0≤m1)(h2:0≤m2)(hn:mayV l ps s tk pt want most m1 m2=n)(h:1≤n):
  doOk l ps s tk pt n m1 m2∧n≤want∧1≤most∧∃o,aBb l s=some o∧n≤fitN (min (min most 1099511627776) m2) o.nu o.de:=by
 unfold mayV at hn
 cases hf:aBb l s with
 | none=>rw[hf]at hn;simp at hn;omega
 | some o=>
  rw[hf]at hn;simp only[mayO]at hn
  by_cases hb:o.ow=tk∨o.ow∉ps∨tk∉ps∨pt∉ps∨want<1∨most<1
  ·rw[if_pos hb]at hn;omega
  rw[if_neg hb]at hn
  have hb2:¬(o.ow=tk∨o.ow∉ps∨tk∉ps∨pt∉ps∨n<1∨(1099511627776:Int)<1):=by
   intro q;rcases q with q|q|q|q|q|q
   ·exact hb (.inl q)
   ·exact hb (.inr (.inl q))
   ·exact hb (.inr (.inr (.inl q)))
   ·exact hb (.inr (.inr (.inr (.inl q))))
   ·omega
   omega
  have hmn:=fitN_mono (nu:=o.nu) (de:=o.de) (a:=min (min most 1099511627776) m2) (b:=min (min 1099511627776 1099511627776) m2) (by omega) (by omega);have hle:n≤want∧n≤fitN (min (min most 1099511627776) m2) o.nu o.de:=by split at hn <;> omega
  refine⟨⟨h,?_⟩,hle.1,by omega,o,rfl,hle.2⟩;unfold mayV;rw[hf];simp only[mayO];rw[if_neg hb2];split at hn
  ·rename_i hp;rw[if_pos hp];omega
  rename_i hp;rw[if_neg hp];omega
theorem take_facts{l:List Of}{N:Int}(h:BInv l N){s n:Int}{o:Of}(hf:aBb l s=some o)(h1:1≤n)(h2:n≤o.lf):
  aDu l s n=setO l s (o.lf - n):=by
 unfold aDu aGs aK3;rw[hf];simp only[];rw[if_pos (show(if n<1∨o.lf<n then(1:Int)else 0)=0 from if_neg (by omega))]
theorem pay_goes{ps:List Int}{ls:List Ln}(hI:LInv ps ls){a b c n m:Int}{σ μ:RS}(ha:a∈ps)(hb:b∈ps)(hab:a≠b)(hc:1≤c∧c≤8)(h1:1≤n)(h2:n≤1099511627776)
  (hσ:aAi (aAt ps ls c) 4398046511104 a b n σ)(hμ:aAi (aAt ps ls c) 4398046511104 a b aCb μ)(hm:aCb - μ.left=m)(hnm:n≤m):
  payE ps a b c n σ=0∧payL ps ls a b c n σ=aCw ps c ls σ.out∧n - σ.left=n:=by
 have pa:=hI.bd a ha;have pb:=hI.bd b hb;have MIN:=aP8 hσ hμ (aAw hI c) pa pb hab h1;rw[hm]at MIN;have hg:n - σ.left=n:=by rw[MIN];omega
 have PE:payE ps a b c n σ=0:=by
  unfold payE;rcases aSs (fun p=>decide (p∈ps)) a b c n (n - σ.left)with⟨_,q⟩|⟨_,_,q⟩|⟨_,_,_,_,q⟩|⟨q,_⟩
  ·exact absurd ⟨pa,pb,hab,hc.1,hc.2,h1,h2⟩ q
  ·rcases q with q|q
   ·exact absurd ha (by simpa using q)
   exact absurd hb (by simpa using q)
  ·omega
  exact q
 exact⟨PE,by unfold payL;rw[if_pos PE],hg⟩
theorem pay_pos{ps:List Int}{ls:List Ln}(hI:LInv ps ls){a b c n:Int}{σ:RS}(hσ:aAi (aAt ps ls c) 4398046511104 a b n σ)(hg:n - σ.left=n)(p d:Int):
  posL (aCw ps c ls σ.out) p d=posL ls p d+(if d=c then(if b=p then n else 0) - (if a=p then n else 0)else 0):=by
 rw[aMg p σ.out hI hσ.good.1 d,hσ.net p,hg]
def aMm(o:Of)(tk pt n x p c:Int):Int:=
 (((if c=o.sl∧p=o.ow then -n else 0)+(if c=o.sl∧p=pt then n else 0))+(if c=o.bu∧p=tk then -x else 0))+(if c=o.bu∧p=o.ow then x else 0)
theorem aKq{ps:List Int}{ls ls':List Ln}(hI:LInv ps ls){l:List Of}{N:Int}(hJ:BInv l N){s tk pt n m1 m2 x:Int}{o:Of}(hf:aBb l s=some o)(hG:Goes ps ls o tk pt m1 m2)(hd:doOk l ps s tk pt n m1 m2)(hx:x=upN (n*o.nu) o.de)(hF:aKp ps ls o tk pt n x ls'):
  limL ls=limL ls'∧(∀p c,posL ls' p c=posL ls p c+aMm o tk pt n x p c)∧1≤x∧x≤1099511627776∧x≤m2:=by
 obtain⟨o',hf',⟨k1,k2,k3,k4⟩,k5,k6,k7⟩:=hd.facts;rw[hf]at hf'
 cases hf'
 have hB:=hG.bd hI;obtain⟨⟨μ,hμ,em⟩,ν,hν,en⟩:=hG;obtain⟨_,⟨s1,s2⟩,⟨b1,b2⟩,hsb,⟨l1,l2⟩,hm⟩:=hJ.may o (aCc hf).1;have hn1:=hd.1;have hb:=aE0 hm;obtain⟨u1,u2,u3⟩:=aS6 hm (g:=min 1099511627776 m2) (by omega) (by omega) (by omega) k7;rw[←hx]at u2 u3
 have hx1:1≤x:=by
  have hp:1≤n*o.nu:=by have:=Int.mul_le_mul hn1 hb.1 (by omega) (by omega);omega
  rw[hx];unfold upN;have h0:0≤n*o.nu/o.de:=Int.ediv_nonneg (by omega) (by omega);split
  ·rename_i h;have hd2:=Int.mul_ediv_add_emod (n*o.nu) o.de;rw[h]at hd2;rcases Int.lt_or_le (n*o.nu/o.de) 1 with k|k
   ·have:n*o.nu/o.de=0:=by omega
    rw[this]at hd2;omega
   exact k
  omega
 obtain⟨ls1,τ,hA,hτ,rfl⟩:=hF
 have hroom:LInv ps ls1∧aAt ps ls1 o.bu=aAt ps ls o.bu∧limL ls=limL ls1∧∀p c,posL ls1 p c=posL ls p c+((if c=o.sl∧p=o.ow then -n else 0)+(if c=o.sl∧p=pt then n else 0)):=by
  rcases hA with⟨hp,rfl⟩|⟨hp,σ,hσ,rfl⟩
  ·refine⟨hI,rfl,rfl,fun p c=>?_⟩;subst hp
   by_cases h:c=o.sl∧p=o.ow
   ·rw[if_pos h,if_pos h];omega
   rw[if_neg h,if_neg h];omega
  have hn:n≤m1:=by rcases k6 with h|h;exact absurd h hp;exact h
  obtain⟨e1,e2,e3⟩:=pay_goes hI k2 k4 (fun e=>hp e.symm) ⟨s1,s2⟩ hn1 (by omega) hσ hμ em hn;rw[e2];refine⟨aF3 _ hI,aKl hsb _ hI,(aG0 _ hI).symm,fun p c=>?_⟩;rw[pay_pos hI hσ e3];clear hμ hν hσ hτ hm hx hb u1
  repeat' split
  all_goals omega
 obtain⟨hI1,hr,hl,hpos⟩:=hroom;rw[hr]at hτ;rw[←hr]at hν hτ;obtain⟨e1,e2,e3⟩:=pay_goes hI1 k3 k2 (fun e=>k1 e.symm) ⟨b1,b2⟩ hx1 (by omega) hτ hν en (by omega);rw[e2];refine⟨hl.trans (aG0 _ hI1).symm,fun p c=>?_,hx1,by omega,by omega⟩;rw[pay_pos hI1 hτ e3,hpos];unfold aMm;generalize (if c=o.sl∧p=o.ow then -n else 0)+(if c=o.sl∧p=pt then n else 0)=S;clear hμ hν hτ hm hx hb u1 hpos
 repeat' split
 all_goals omega
theorem aMn{ps:List Int}{ls:List Ln}(hI:LInv ps ls)(l:List Of)(s tk pt:Int):∃m1 m2,(∀o,aBb l s=some o→Goes ps ls o tk pt m1 m2)∧0≤m1∧0≤m2:=by
 cases hf:aBb l s with
 | none=>exact⟨0,0,(fun o h=>by cases h),by omega,by omega⟩
 | some o=>
  obtain⟨m1,m2,g⟩:=goes_ends hI o tk pt;have:=g.bd hI;exact⟨m1,m2,(fun o' h=>by cases h;exact g),by omega,by omega⟩
def aCa(x y:Of):Bool:=decide (cmpR y.nu y.de x.nu x.de≤0)
def insO(out:List Of)(x:Of):List Of:=out.takeWhile (aCa x)++x::out.dropWhile (aCa x)
def aF5(s b:Int)(out:List Of)(x:Of):List Of:=if x.sl=s∧x.bu=b then insO out x else out
def aC1(l:List Of)(s b:Int):List Of:=l.foldl (aF5 s b) []
def ltO(x y:Of):Prop:=x.nu*y.de<y.nu*x.de∨(x.nu*y.de=y.nu*x.de∧x.se<y.se)
def ordO(x y:Of):Int:=orI (cmpR x.nu x.de y.nu y.de) (cmpI x.se y.se)
theorem aLf{an ad bn bd:Int}(h1:mayB an ad=true)(h2:mayB bn bd=true):cmpR an ad bn bd=cmpI (an*bd) (bn*ad):=by unfold cmpR;rw[if_pos ⟨h1,h2⟩]
theorem ordO_lt{x y:Of}(hx:x.may)(hy:y.may):ordO x y<0↔ltO x y:=by
 unfold ordO;rw[aLf hx.2.2.2.2.2 hy.2.2.2.2.2];unfold ltO orI cmpI;generalize x.nu*y.de=p;generalize y.nu*x.de=q
 (repeat' split) <;> omega
theorem sgn3{a1 d1 a2 d2 a3 d3:Int}(h1:1≤d1)(h2:1≤d2)(h3:1≤d3):d2*(a1*d3 - a3*d1)=d3*(a1*d2 - a2*d1)+d1*(a2*d3 - a3*d2):=by
 simp only[Int.mul_sub];have e1:d2*(a1*d3)=d3*(a1*d2):=by rw[←Int.mul_assoc,Int.mul_comm d2 a1,Int.mul_comm d3,Int.mul_assoc]
 have e2:d2*(a3*d1)=d1*(a3*d2):=by rw[←Int.mul_assoc,Int.mul_comm d2 a3,Int.mul_comm d1,Int.mul_assoc]
 have e3:d3*(a2*d1)=d1*(a2*d3):=by rw[←Int.mul_assoc,Int.mul_comm d3 a2,Int.mul_comm d1,Int.mul_assoc]
 omega
theorem aQs{d1 d2 d3 u v t:Int}(h1:1≤d1)(h2:1≤d2)(h3:1≤d3)(h:d2*t=d3*u+d1*v):(u<0→v≤0→t<0)∧(u≤0→v<0→t<0)∧(u=0→v=0→t=0)∧(0<u→0≤v→0<t)∧(0≤u→0<v→0<t):=by
 refine⟨fun a b=>?_,fun a b=>?_,fun a b=>?_,fun a b=>?_,fun a b=>?_⟩
 ·have p:=Int.mul_neg_of_pos_of_neg (show 0<d3 by omega) a;have q:=Int.mul_nonpos_of_nonneg_of_nonpos (show 0≤d1 by omega) b
  by_cases c:0≤t
  ·have:=Int.mul_nonneg (show 0≤d2 by omega) c;omega
  omega
 ·have p:=Int.mul_neg_of_pos_of_neg (show 0<d1 by omega) b;have q:=Int.mul_nonpos_of_nonneg_of_nonpos (show 0≤d3 by omega) a
  by_cases c:0≤t
  ·have:=Int.mul_nonneg (show 0≤d2 by omega) c;omega
  omega
 ·subst a b;rw[Int.mul_zero,Int.mul_zero,Int.add_zero]at h;rcases Int.mul_eq_zero.1 h with e|e <;> omega
 ·have p:=Int.mul_pos (show 0<d3 by omega) a;have q:=Int.mul_nonneg (show 0≤d1 by omega) b
  by_cases c:t≤0
  ·have:=Int.mul_nonpos_of_nonneg_of_nonpos (show 0≤d2 by omega) c;omega
  omega
 have p:=Int.mul_pos (show 0<d1 by omega) b;have q:=Int.mul_nonneg (show 0≤d3 by omega) a
 by_cases c:t≤0
 ·have:=Int.mul_nonpos_of_nonneg_of_nonpos (show 0≤d2 by omega) c;omega
 omega
theorem Of.may.de{x:Of}(h:x.may):1≤x.de:=(aE0 h.2.2.2.2.2).2.1
theorem aQt{x y z:Of}(hx:x.may)(hy:y.may)(hz:z.may)(h1:ltO x y)(h2:ltO y z):ltO x z:=by
 have k:=aQs hx.de hy.de hz.de (sgn3 (a1:=x.nu) (a2:=y.nu) (a3:=z.nu) hx.de hy.de hz.de);unfold ltO at *;generalize x.nu*y.de=a at *;generalize y.nu*x.de=b at *;generalize y.nu*z.de=c at *;generalize z.nu*y.de=d at *;generalize x.nu*z.de=e at *;generalize z.nu*x.de=f at *;obtain⟨k1,k2,k3,k4,k5⟩:=k;rcases h1 with h1|⟨h1,s1⟩
 ·have:=k1 (by omega) (by omega);omega
 rcases h2 with h2|⟨h2,s2⟩
 ·have:=k2 (by omega) (by omega);omega
 have:=k3 (by omega) (by omega);omega
theorem ltO_ntrans{x y z:Of}(hx:x.may)(hy:y.may)(hz:z.may)(h1:¬ltO x y)(h2:¬ltO y z):¬ltO x z:=by
 have k:=aQs hx.de hy.de hz.de (sgn3 (a1:=x.nu) (a2:=y.nu) (a3:=z.nu) hx.de hy.de hz.de);unfold ltO at *;generalize x.nu*y.de=a at *;generalize y.nu*x.de=b at *;generalize y.nu*z.de=c at *;generalize z.nu*y.de=d at *;generalize x.nu*z.de=e at *;generalize z.nu*x.de=f at *;obtain⟨k1,k2,k3,k4,k5⟩:=k
 by_cases u:b<a
 ·have:=k4 (by omega) (by omega);omega
 by_cases v:d<c
 ·have:=k5 (by omega) (by omega);omega
 have:=k3 (by omega) (by omega);omega
theorem ltO_irrefl(x:Of):¬ltO x x:=by unfold ltO;omega
theorem ltO_total{x y:Of}(h:x.se≠y.se)(h1:¬ltO x y):ltO y x:=by
 unfold ltO at *;generalize x.nu*y.de=a at *;generalize y.nu*x.de=b at *;omega
theorem ltO_asymm{x y:Of}(h1:ltO x y)(h2:ltO y x):False:=by
 unfold ltO at *;generalize x.nu*y.de=a at *;generalize y.nu*x.de=b at *;omega
theorem noWorse_lt{x y:Of}(hx:x.may)(hy:y.may)(hs:y.se<x.se)(h:aCa x y=true):ltO y x:=by
 unfold aCa at h;rw[aLf hy.2.2.2.2.2 hx.2.2.2.2.2]at h;unfold ltO;generalize x.nu*y.de=a at *;generalize y.nu*x.de=b at *;unfold cmpI at h;split at h
 ·omega
 split at h
 ·simp at h
 omega
theorem worse_lt{x y:Of}(hx:x.may)(hy:y.may)(h:aCa x y=false):ltO x y:=by
 unfold aCa at h;rw[aLf hy.2.2.2.2.2 hx.2.2.2.2.2]at h;unfold ltO;generalize x.nu*y.de=a at *;generalize y.nu*x.de=b at *;unfold cmpI at h;split at h
 ·simp at h
 split at h
 ·omega
 simp at h
theorem insO_perm(out:List Of)(x:Of):(insO out x).Perm (out++[x]):=by
 unfold insO;have h1:(out.takeWhile (aCa x)++x::out.dropWhile (aCa x)).Perm (x::(out.takeWhile (aCa x)++out.dropWhile (aCa x))):=List.perm_middle;rw[List.takeWhile_append_dropWhile]at h1;exact h1.trans (List.perm_append_singleton x out).symm
theorem aF6{p:Of→Bool}:∀{l:List Of} {y:Of},y∈l.takeWhile p→p y=true
 | x::r,y,h=>by
  rw[List.takeWhile_cons]at h;split at h
  ·rcases List.mem_cons.1 h with rfl|h
   ·assumption
   exact aF6 h
  simp at h
theorem aS7{out:List Of}{x:Of}(hm:∀y∈out,y.may)(hx:x.may)(hs:∀y∈out,y.se<x.se)(ho:out.Pairwise ltO):(insO out x).Pairwise ltO:=by
 unfold insO;have hsplit:out.takeWhile (aCa x)++out.dropWhile (aCa x)=out:=List.takeWhile_append_dropWhile;have h1:∀y∈out.takeWhile (aCa x),y∈out∧aCa x y=true:=fun y hy=>⟨by rw[←hsplit];exact List.mem_append_left _ hy,aF6 hy⟩
 have h2:∀y∈out.dropWhile (aCa x),y∈out:=fun y hy=>by rw[←hsplit];exact List.mem_append_right _ hy
 rw[←hsplit,List.pairwise_append]at ho;obtain⟨o1,o2,o3⟩:=ho
 have h3:∀y∈out.dropWhile (aCa x),ltO x y:=by
  cases hd:out.dropWhile (aCa x)with
  | nil=>simp
  | cons z r=>
   rw[hd]at o2 h2
   have hz:aCa x z=false:=by
    have:=List.head_dropWhile_not (aCa x) (l:=out) (by rw[hd];simp);simpa [hd]using this
   have hz2:=worse_lt hx (hm z (h2 z (by simp))) hz;intro y hy;rcases List.mem_cons.1 hy with rfl|hy
   ·exact hz2
   exact aQt hx (hm z (h2 z (by simp))) (hm y (h2 y (by simp[hy]))) hz2 ((List.pairwise_cons.1 o2).1 y hy)
 rw[List.pairwise_append];refine⟨o1,List.pairwise_cons.2 ⟨h3,o2⟩,fun y hy z hz=>?_⟩;obtain⟨hyo,hyn⟩:=h1 y hy;have hyx:=noWorse_lt hx (hm y hyo) (hs y hyo) hyn;rcases List.mem_cons.1 hz with rfl|hz
 ·exact hyx
 exact o3 y hy z hz
def aBc(s b:Int)(x:Of):Bool:=decide (x.sl=s∧x.bu=b)
theorem aJ5{s b:Int}:∀(l out:List Of),(∀x∈l,x.may)→(∀x∈out,x.may)→l.Pairwise (fun x y=>x.se<y.se)→(∀y∈out,∀x∈l,y.se<x.se)→out.Pairwise ltO→
  (l.foldl (aF5 s b) out).Perm (out++l.filter (aBc s b))∧(l.foldl (aF5 s b) out).Pairwise ltO
 | [],out,_,_,_,_,ho=>by simpa using ho
 | x::r,out,h1,h2,h3,h4,ho=>by
  obtain⟨h3a,h3b⟩:=List.pairwise_cons.1 h3;rw[List.foldl_cons]
  by_cases hp:x.sl=s∧x.bu=b
  ·have e:aF5 s b out x=insO out x:=by unfold aF5;rw[if_pos hp]
   have hi:=insO_perm out x
   have hmem:∀y∈insO out x,y∈out∨y=x:=fun y hy=>by
    have:=hi.mem_iff.1 hy;simpa using this
   rw[e]
   obtain⟨p,q⟩:=aJ5 r (insO out x) (fun y hy=>h1 y (by simp[hy])) (fun y hy=>by rcases hmem y hy with h|rfl;exact h2 y h;exact h1 y (by simp)) h3b
    (fun y hy z hz=>by rcases hmem y hy with h|rfl;exact h4 y h z (by simp[hz]);exact h3a z hz) (aS7 h2 (h1 x (by simp)) (fun y hy=>h4 y hy x (by simp)) ho)
   refine⟨p.trans ?_,q⟩;rw[List.filter_cons,if_pos (by unfold aBc;simpa using hp)];exact(hi.append_right _).trans (by simp)
  have e:aF5 s b out x=out:=by unfold aF5;rw[if_neg hp]
  rw[e];obtain⟨p,q⟩:=aJ5 r out (fun y hy=>h1 y (by simp[hy])) h2 h3b (fun y hy z hz=>h4 y hy z (by simp[hz])) ho;refine⟨?_,q⟩;rw[List.filter_cons,if_neg (by unfold aBc;simpa using hp)];exact p
theorem bestO_is{l:List Of}(h1:∀x∈l,x.may)(h3:l.Pairwise (fun x y=>x.se<y.se))(s b:Int):(aC1 l s b).Perm (l.filter (aBc s b))∧(aC1 l s b).Pairwise ltO:=by
 have:=aJ5 (s:=s) (b:=b) l [] h1 (by simp) h3 (by simp) List.Pairwise.nil;simpa [aC1]using this
noncomputable def aBy(f:Int→Int→Int)(a b n:Int):RS:=@Classical.epsilon RS ⟨⟨f,n,[]⟩⟩ (fun μ=>aAi f 4398046511104 a b n μ)
theorem aCd{f:Int→Int→Int}(h:GInv f 4398046511104)(a b n:Int):aAi f 4398046511104 a b n (aBy f a b n):=
 @Classical.epsilon_spec RS (fun μ=>aAi f 4398046511104 a b n μ) (aDy h a b n)
noncomputable def aJc(ps:List Int)(ls:List Ln)(c a b:Int):Int:=aCb - (aBy (aAt ps ls c) a b aCb).left
theorem goesS{ps:List Int}{ls:List Ln}(h:LInv ps ls)(o:Of)(tk pt:Int):Goes ps ls o tk pt (aJc ps ls o.sl o.ow pt) (aJc ps ls o.bu tk o.ow):=
 ⟨⟨_,aCd (aAw h _) _ _ _,rfl⟩,_,aCd (aAw h _) _ _ _,rfl⟩
theorem Goes.eqS{ps:List Int}{ls:List Ln}{o:Of}{tk pt m1 m2:Int}(h:LInv ps ls)(g:Goes ps ls o tk pt m1 m2):m1=aJc ps ls o.sl o.ow pt∧m2=aJc ps ls o.bu tk o.ow:=by
 obtain⟨⟨μ,h1,rfl⟩,ν,h2,rfl⟩:=g;unfold aJc;rw[h1.eq (aCd (aAw h _) _ _ _),h2.eq (aCd (aAw h _) _ _ _)];exact⟨rfl,rfl⟩
theorem mostS_bd{ps:List Int}{ls:List Ln}(h:LInv ps ls)(c a b:Int):0≤aJc ps ls c a b∧aJc ps ls c a b≤1125899906842624:=
 aIk (aAw h c) (aCd (aAw h c) a b aCb)
noncomputable def mayS(ps:List Int)(ls:List Ln)(l:List Of)(tk pt want most s:Int):Int:=match aBb l s with
 | none=>0
 | some o=>mayO o ps tk pt want most (aJc ps ls o.sl o.ow pt) (aJc ps ls o.bu tk o.ow)
theorem aPa{ps:List Int}{ls:List Ln}(h:LInv ps ls){l:List Of}{tk pt want most s m1 m2:Int}(g:∀o,aBb l s=some o→Goes ps ls o tk pt m1 m2):mayV l ps s tk pt want most m1 m2=mayS ps ls l tk pt want most s:=by
 unfold mayV mayS
 cases hf:aBb l s with
 | none=>rfl
 | some o=>
  obtain⟨e1,e2⟩:=(g o hf).eqS h;simp only[];rw[e1,e2]
noncomputable def paidS(ps:List Int)(ls:List Ln)(a b c n:Int):List Ln:=payL ps ls a b c n (aBy (aAt ps ls c) a b n)
noncomputable def aCx(ps:List Int)(ls:List Ln)(o:Of)(tk pt n x:Int):List Ln:=paidS ps (if pt=o.ow then ls else paidS ps ls o.ow pt o.sl n) tk o.ow o.bu x
theorem aQu{ps:List Int}{ls:List Ln}(h:LInv ps ls)(a b c n:Int):LInv ps (paidS ps ls a b c n):=aLc h _ _ _ _ _
theorem aHm{ps:List Int}{ls:List Ln}(h:LInv ps ls)(o:Of)(tk pt n x:Int):aKp ps ls o tk pt n x (aCx ps ls o tk pt n x):=by
 unfold aCx
 by_cases e:pt=o.ow
 ·rw[if_pos e];exact⟨ls,_,.inl ⟨e,rfl⟩,aCd (aAw h _) _ _ _,rfl⟩
 rw[if_neg e];exact⟨_,_,.inr ⟨e,_,aCd (aAw h _) _ _ _,rfl⟩,aCd (aAw (aQu h _ _ _ _) _) _ _ _,rfl⟩
theorem aMo{ps:List Int}{ls:List Ln}(h:LInv ps ls)(o:Of)(tk pt n x:Int):LInv ps (aCx ps ls o tk pt n x):=(aHm h o tk pt n x).inv h
def okS(ps:List Int)(ls:List Ln)(l:List Of)(tk pt n s:Int):Prop:=1≤n∧n≤mayS ps ls l tk pt n 1099511627776 s
theorem aMp{ps:List Int}{ls:List Ln}(h:LInv ps ls){l:List Of}{tk pt n s m1 m2:Int}(g:∀o,aBb l s=some o→Goes ps ls o tk pt m1 m2):doOk l ps s tk pt n m1 m2↔okS ps ls l tk pt n s:=by
 unfold doOk okS;rw[aPa h g]
theorem may_okS{ps:List Int}{ls:List Ln}(h:LInv ps ls){l:List Of}{tk pt want most s k:Int}(hk:k=mayS ps ls l tk pt want most s)(h1:1≤k):okS ps ls l tk pt k s∧k≤want:=by
 obtain⟨m1,m2,g,b1,b2⟩:=aMn h l s tk pt;have e:mayV l ps s tk pt want most m1 m2=k:=by rw[aPa h g,hk]
 obtain⟨a,b,_⟩:=may_do b1 b2 e h1;exact⟨(aMp h g).1 a,b⟩
noncomputable def aAx(ps:List Int)(ls:List Ln)(l:List Of)(tk pt want most:Int):List Of→Option (Int×Int)
 | []=>none
 | o::os=>if 0<mayS ps ls l tk pt want most o.se then some (o.se,mayS ps ls l tk pt want most o.se)else aAx ps ls l tk pt want most os
theorem aIl{ps:List Int}{ls:List Ln}{l:List Of}{tk pt want most:Int}:∀{os:List Of} {s k:Int},aAx ps ls l tk pt want most os=some (s,k)→0<k∧k=mayS ps ls l tk pt want most s∧∃o∈os,o.se=s
 | [],s,k,h=>by simp[aAx]at h
 | o::os,s,k,h=>by
  unfold aAx at h;split at h
  ·rename_i hp;simp only[Option.some.injEq,Prod.mk.injEq]at h;obtain⟨rfl,rfl⟩:=h;exact⟨hp,rfl,o,List.mem_cons_self,rfl⟩
  obtain⟨h1,h2,o',h3,h4⟩:=aIl h;exact⟨h1,h2,o',List.mem_cons_of_mem _ h3,h4⟩
structure Fl where
 se:Int
 got:Int
 gi:Int
structure SwS where
 ls:List Ln
 l:List Of
 fs:List Fl
 n:Int
noncomputable def aMq(ps:List Int)(tk pt:Int)(σ:SwS)(s k:Int):SwS:=match aBb σ.l s with
 | none=>σ
 | some o=>⟨aCx ps σ.ls o tk pt k (upN (k*o.nu) o.de),aDu σ.l s k,σ.fs++[⟨s,k,upN (k*o.nu) o.de⟩],σ.n - k⟩
noncomputable def aB3(ps:List Int)(tk pt get give:Int):Nat→SwS→Int×SwS
 | fuel,σ=>if σ.n≤0 then(0,σ)else match aAx ps σ.ls σ.l tk pt σ.n 1099511627776 (aC1 σ.l get give)with
  | none=>(11,σ)
  | some (s,k)=>if σ.fs.length=64 then(13,σ)else match fuel with
   | 0=>(13,σ)
   | f+1=>aB3 ps tk pt get give f (aMq ps tk pt σ s k)
theorem aHn{ps:List Int}{tk pt get give:Int}{fuel:Nat}{σ:SwS}(h:σ.n≤0):aB3 ps tk pt get give fuel σ=(0,σ):=by
 cases fuel <;> (unfold aB3;rw[if_pos h])
theorem aHo{ps:List Int}{tk pt get give:Int}{fuel:Nat}{σ:SwS}(h:¬σ.n≤0)(hf:aAx ps σ.ls σ.l tk pt σ.n 1099511627776 (aC1 σ.l get give)=none):aB3 ps tk pt get give fuel σ=(11,σ):=by
 cases fuel <;> (unfold aB3;rw[if_neg h,hf])
theorem aHp{ps:List Int}{tk pt get give:Int}{fuel:Nat}{σ:SwS}{s k:Int}(h:¬σ.n≤0)(hf:aAx ps σ.ls σ.l tk pt σ.n 1099511627776 (aC1 σ.l get give)=some (s,k))(hl:σ.fs.length=64):aB3 ps tk pt get give fuel σ=(13,σ):=by
 cases fuel <;> (unfold aB3;rw[if_neg h,hf];simp only[];rw[if_pos hl])
theorem aHq{ps:List Int}{tk pt get give:Int}{fuel:Nat}{σ:SwS}{s k:Int}(h:¬σ.n≤0)(hf:aAx ps σ.ls σ.l tk pt σ.n 1099511627776 (aC1 σ.l get give)=some (s,k))(hl:¬σ.fs.length=64):aB3 ps tk pt get give (fuel+1) σ=aB3 ps tk pt get give fuel (aMq ps tk pt σ s k):=by
 conv=>lhs;unfold aB3
 rw[if_neg h,hf];simp only[];rw[if_neg hl]
def aD0(fr pt get give n most:Int):Prop:=(1≤fr∧fr≤16)∧(1≤pt∧pt≤16)∧(1≤get∧get≤8)∧(1≤give∧give≤8)∧get≠give∧(1≤n∧n≤1099511627776)∧1≤most∧most≤1099511627776
instance(fr pt get give n most:Int):Decidable (aD0 fr pt get give n most):=by unfold aD0;infer_instance
noncomputable def aDv(ps:List Int)(ls:List Ln)(l:List Of)(fr pt get give n most:Int):Int×SwS:=
 if ¬aD0 fr pt get give n most then(1,⟨ls,l,[],n⟩)else if fr∉ps∨pt∉ps then(7,⟨ls,l,[],n⟩)else
  if(aB3 ps fr pt get give 64 ⟨ls,l,[],n⟩).1≠0 then aB3 ps fr pt get give 64 ⟨ls,l,[],n⟩else
  if most<((aB3 ps fr pt get give 64 ⟨ls,l,[],n⟩).2.fs.map Fl.gi).sum then(12,(aB3 ps fr pt get give 64 ⟨ls,l,[],n⟩).2)else aB3 ps fr pt get give 64 ⟨ls,l,[],n⟩
end Go.Proofs.YtngnfdnfpiiclaaGreat
