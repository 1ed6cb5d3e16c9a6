/- Pieces of one proof. -/
import Derived.Test.YtaeocliklpcgmaaGreatP15
set_option linter.all false
set_option maxHeartbeats 64000000
set_option maxRecDepth 100000
namespace Go.Proofs.YtaeocliklpcgmaaGreat
open Go.RowKit
theorem aHu(n d:Int):mayB n d=true↔MayN n d:=by simp[mayB]
theorem of_self{n d:Int}(h:MayN n d):ofRN n d=n∧ofD n d=d:=by
 obtain⟨h1,h2,h3,h4,h5⟩:=h;have hn:¬(n<1∨d<1):=by omega
 have e1:n/(1:Int)=n:=Int.ediv_one n;have e2:d/(1:Int)=d:=Int.ediv_one d;have ho:¬(1099511627776<n∨1099511627776<d):=by omega
 simp[ofRN,ofD,hn,h5,ho]
theorem of_not{n d:Int}(h:¬MayN n d):(ofRN n d=n∧ofD n d=d∧n=0∧d=0)∨ofRN n d≠n∨ofD n d≠d:=by
 unfold ofRN ofD
 by_cases hn:n<1∨d<1
 ·rw[if_pos hn,if_pos hn];omega
 rw[if_neg hn,if_neg hn]
 by_cases ho:1099511627776<n/Int.gcd n d∨1099511627776<d/Int.gcd n d
 ·rw[if_pos ho,if_pos ho];omega
 rw[if_neg ho,if_neg ho]
 right
 rcases Classical.em (n/Int.gcd n d=n)with e|e
 ·have g1:Int.gcd n d=1:=by
   have hd:=Int.mul_ediv_cancel' (Int.gcd_dvd_left (a:=n) (b:=d));rw[e]at hd;have hnn:n*((Int.gcd n d:Int) - 1)=0:=by rw[Int.mul_sub,Int.mul_one,Int.mul_comm];omega
   rcases Int.mul_eq_zero.1 hnn with h|h <;> omega
  rw[g1]at ho;have e1:n/((1:Nat):Int)=n:=Int.ediv_one n;have e2:d/((1:Nat):Int)=d:=Int.ediv_one d;rw[e1,e2]at ho;exact absurd ⟨by omega,by omega,by omega,by omega,g1⟩ h
 exact .inl e
def alN(n d:Int):Int:=if mayB n d then n else 0
def alD(n d:Int):Int:=if mayB n d then d else 0
theorem aLn(n d:Int)(w:World)(hn:In64 n)(hd:In64 d):
  Calls Tryz.prog 70 #[.agg #[.int .i64 n,.int .i64 d]] w (yR w (.agg #[.int .i64 (alN n d),.int .i64 (alD n d)])):=by
 have c:=yH (fun w=>of_rat n d w hn hd);unfold ofV at c
 have hs:(ofRN n d=n∧ofD n d=d∧alN n d=n∧alD n d=d)∨(ofRN n d≠n∧alN n d=0∧alD n d=0)∨(ofRN n d=n∧ofD n d≠d∧alN n d=0∧alD n d=0):=by
  unfold alN alD
  by_cases hm:MayN n d
  ·rw[(aHu n d).2 hm];obtain⟨a,b⟩:=of_self hm;exact .inl ⟨a,b,rfl,rfl⟩
  have e:mayB n d=false:=by rw[Bool.eq_false_iff];exact fun h=>hm ((aHu n d).1 h)
  rw[e];rcases of_not hm with⟨a,b,rfl,rfl⟩|h|h
  ·exact .inl ⟨a,b,rfl,rfl⟩
  ·exact .inr (.inl ⟨h,rfl,rfl⟩)
  by_cases h':ofRN n d=n
  ·exact .inr (.inr ⟨h',h,rfl,rfl⟩)
  exact .inr (.inl ⟨h',rfl,rfl⟩)
 generalize ofRN n d=x at *;generalize ofD n d=y at *;generalize ofE n d=z at *;have k1:Blk ((w.alloc (.cells #[.int .i64 n,.int .i64 d] 46)).alloc (.cells #[.int .i64 0,.int .i64 0] 46)) w.heap.size #[.int .i64 n,.int .i64 d] 46:=(pAA _ _ _).alloc _;have k2:Blk ((w.alloc (.cells #[.int .i64 n,.int .i64 d] 46)).alloc (.cells #[.int .i64 0,.int .i64 0] 46)) (w.heap.size+1) #[.int .i64 0,.int .i64 0] 46:=pAC _ _ _ (by simp);have b0:Below w.heap.size w ((w.alloc (.cells #[.int .i64 n,.int .i64 d] 46)).alloc (.cells #[.int .i64 0,.int .i64 0] 46)):=(yZ.alloc yL _).alloc (by simp) _;have K1:=yH k1;have K2:=yH k2;have B0:=yH b0;clear k1 k2 b0 hn hd;rcases hs with⟨e1,e2,e3,e4⟩|⟨e1,e3,e4⟩|⟨e1,e2,e3,e4⟩
 ·rw[e3,e4];subst e1 e2;clear e3 e4;go_enter Tryz.func70,Tryz.ntmps70;go_wp2_with fail;refine(c.out _).mono ?_;rintro e w1 ⟨rfl,bw⟩;have q1:=K1.out.below bw K1.out.lt;have q2:=K2.out.below bw K2.out.lt;have B1:=yH (B0.out.trans (bw.mono (by simp;omega)));have d0:=q1.cell 0;have d1:=q1.cell 1;have e0:=q2.cell 0;have e1:=q2.cell 1;simp at d0 d1 e0 e1;have f2:=q2.frozen;have hz:=q1.lt;have hz2:=q2.lt;have Q2:=yH q2;clear q1 q2 bw;go_wp2;refine bodyPost_ret (v:=.agg #[.int .i64 x,.int .i64 y]) (results_cell_row rfl _ _ (w.heap.size+1) 46 #[.int .i64 x,.int .i64 y] (0,0) _ rfl (((Q2.out.set 0 (.int .i64 x)).set 1 (.int .i64 y)).alloc _).out Tryz.underlying46 rfl (by kernel_rfl)) rfl ⟨by simp,?_⟩;exact(((B1.out.setCell (by simp) _).setCell (by simp) _).alloc (by simpa using B1.out.size) _)
 ·rw[e3,e4];have e5:(x==n)=false:=by simp[e1]
  clear e1 e3 e4;go_enter Tryz.func70,Tryz.ntmps70;go_wp2_with fail;refine(c.out _).mono ?_;rintro e w1 ⟨rfl,bw⟩;have q1:=K1.out.below bw K1.out.lt;have q2:=K2.out.below bw K2.out.lt;have B1:=yH (B0.out.trans (bw.mono (by simp;omega)));have d0:=q1.cell 0;have d1:=q1.cell 1;have e0:=q2.cell 0;have e1:=q2.cell 1;simp at d0 d1 e0 e1;have f2:=q2.frozen;have hz:=q1.lt;have hz2:=q2.lt;have Q2:=yH q2;clear q1 q2 bw;go_wp2;refine bodyPost_ret (v:=.agg #[.int .i64 0,.int .i64 0]) (results_cell_row rfl _ _ (w.heap.size+1) 46 #[.int .i64 0,.int .i64 0] (0,0) _ rfl (((Q2.out.set 0 (.int .i64 0)).set 1 (.int .i64 0)).alloc _).out Tryz.underlying46 rfl (by kernel_rfl)) rfl ⟨by simp,?_⟩;exact(((B1.out.setCell (by simp) _).setCell (by simp) _).alloc (by simpa using B1.out.size) _)
 rw[e3,e4];subst e1;have e5:(y==d)=false:=by simp[e2]
 clear e2 e3 e4;go_enter Tryz.func70,Tryz.ntmps70;go_wp2_with fail;refine(c.out _).mono ?_;rintro e w1 ⟨rfl,bw⟩;have q1:=K1.out.below bw K1.out.lt;have q2:=K2.out.below bw K2.out.lt;have B1:=yH (B0.out.trans (bw.mono (by simp;omega)));have d0:=q1.cell 0;have d1:=q1.cell 1;have e0:=q2.cell 0;have e1:=q2.cell 1;simp at d0 d1 e0 e1;have f2:=q2.frozen;have hz:=q1.lt;have hz2:=q2.lt;have Q2:=yH q2;clear q1 q2 bw;go_wp2;refine bodyPost_ret (v:=.agg #[.int .i64 0,.int .i64 0]) (results_cell_row rfl _ _ (w.heap.size+1) 46 #[.int .i64 0,.int .i64 0] (0,0) _ rfl (((Q2.out.set 0 (.int .i64 0)).set 1 (.int .i64 0)).alloc _).out Tryz.underlying46 rfl (by kernel_rfl)) rfl ⟨by simp,?_⟩;exact(((B1.out.setCell (by simp) _).setCell (by simp) _).alloc (by simpa using B1.out.size) _)
theorem aN8(n d:Int):(mayB n d=true∧alN n d=n∧alD n d=d∧1≤n∧1≤d∧n≤1099511627776∧d≤1099511627776)∨(mayB n d=false∧alN n d=0∧alD n d=0):=by
 unfold alN alD
 by_cases hm:MayN n d
 ·rw[(aHu n d).2 hm];exact .inl ⟨rfl,rfl,rfl,hm.1,hm.2.1,hm.2.2.1,hm.2.2.2.1⟩
 have e:mayB n d=false:=by rw[Bool.eq_false_iff];exact fun h=>hm ((aHu n d).1 h)
 rw[e];exact .inr ⟨rfl,rfl,rfl⟩
theorem aGm(n d:Int)(w:World)(hn:In64 n)(hd:In64 d):
  Calls Tryz.prog 67 #[.agg #[.int .i64 n,.int .i64 d]] w (yR w (.bool (mayB n d))):=by
 have c:=yH (fun w=>aLn n d w hn hd);have B0:=yH ((Below.refl w.heap.size w).alloc yL (.cells #[.int .i64 n,.int .i64 d] 46));clear hn hd;rcases aN8 n d with⟨hm,h1,h2,h3,h4,h5,h6⟩|⟨hm,h1,h2⟩
 ·rw[h1,h2]at c;rw[hm];have e1:(n==0)=false:=by simp;omega
  clear h1 h2 h4 h5 h6 h3;go_enter Tryz.func67,Tryz.ntmps67;go_wp2_with fail;refine(c.out _).mono ?_;rintro e w1 ⟨rfl,b1⟩;go_wp2_with fail;go_ret;exact⟨rfl,B0.out.trans (b1.mono (by simp))⟩
 rw[h1,h2]at c;rw[hm];clear h1 h2;go_enter Tryz.func67,Tryz.ntmps67;go_wp2_with fail;refine(c.out _).mono ?_;rintro e w1 ⟨rfl,b1⟩;go_wp2_with fail;go_ret;exact⟨rfl,B0.out.trans (b1.mono (by simp))⟩
theorem aLo(n d:Int)(w:World)(hn:In64 n)(hd:In64 d):
  Calls Tryz.prog 24 #[.agg #[.int .i64 n,.int .i64 d]] w (yR w (.agg #[.int .i64 (alD n d),.int .i64 (alN n d)])):=by
 have c:=yH (fun w=>aLn n d w hn hd);have k1:Blk ((w.alloc (.cells #[.int .i64 n,.int .i64 d] 46)).alloc (.cells #[.int .i64 0,.int .i64 0] 46)) w.heap.size #[.int .i64 n,.int .i64 d] 46:=(pAA _ _ _).alloc _;have k2:Blk ((w.alloc (.cells #[.int .i64 n,.int .i64 d] 46)).alloc (.cells #[.int .i64 0,.int .i64 0] 46)) (w.heap.size+1) #[.int .i64 0,.int .i64 0] 46:=pAC _ _ _ (by simp);have b0:Below w.heap.size w ((w.alloc (.cells #[.int .i64 n,.int .i64 d] 46)).alloc (.cells #[.int .i64 0,.int .i64 0] 46)):=(yZ.alloc yL _).alloc (by simp) _;have K1:=yH k1;have K2:=yH k2;have B0:=yH b0;clear k1 k2 b0 hn hd;generalize alN n d=x at *;generalize alD n d=y at *;go_enter Tryz.func24,Tryz.ntmps24;go_wp2_with fail;refine(c.out _).mono ?_;rintro e w1 ⟨rfl,bw⟩;have q1:=K1.out.below bw K1.out.lt;have q2:=K2.out.below bw K2.out.lt;have B1:=yH (B0.out.trans (bw.mono (by simp;omega)));have d0:=q1.cell 0;have d1:=q1.cell 1;have e0:=q2.cell 0;have e1:=q2.cell 1;simp at d0 d1 e0 e1;have f1:=q1.frozen;have f2:=q2.frozen;have Q2:=yH q2;clear q1 q2 bw;go_wp2;refine bodyPost_ret (v:=.agg #[.int .i64 y,.int .i64 x]) (results_cell_row rfl _ _ (w.heap.size+1) 46 #[.int .i64 y,.int .i64 x] (0,0) _ rfl ((((Q2.out.setOther (by simp) _).setOther (by simp) _).set 0 (.int .i64 y)).set 1 (.int .i64 x)).out Tryz.underlying46 rfl (by kernel_rfl)) rfl ⟨by simp,?_⟩;exact((((B1.out.setCell (by simp) _).setCell (by simp) _).setCell (by simp) _).setCell (by simp) _)
theorem rdown_rat(a n d:Int)(w:World)(ha:In64 a)(hn:In64 n)(hd:In64 d):
  Calls Tryz.prog 185 #[.int .i64 a,.agg #[.int .i64 n,.int .i64 d]] w (yR w (aM1 a n d)):=by
 have c1:=yH (fun w=>aGm n d w hn hd);have c2:=yH (fun w=>down_any a n d w ha hn hd);have hb0:Below w.heap.size w (w.alloc (.cells #[.int .i64 n,.int .i64 d] 46)):=yZ.alloc yL _;have k0:Blk (w.alloc (.cells #[.int .i64 n,.int .i64 d] 46)) w.heap.size #[.int .i64 n,.int .i64 d] 46:=pAA _ _ _;obtain⟨x,y,hv⟩:∃x y,aHs a n d=.tuple #[.int .i64 x,.int .i64 y]:=by unfold aHs ans;split <;> exact⟨_,_,rfl⟩
 unfold aM1;rw[hv]at c2 ⊢;clear hv ha hn hd;have K0:=yH k0;have B0:=yH hb0;clear k0 hb0
 cases hm:mayB n d
 ·rw[hm]at c1;go_enter Tryz.func185,Tryz.ntmps185;go_wp2_with fail;refine(c1.out _).mono ?_;rintro e w1 ⟨rfl,b1⟩;go_wp2_with fail;go_ret2;exact⟨by simp,B0.out.trans (b1.mono (by simp))⟩
 rw[hm]at c1;go_enter Tryz.func185,Tryz.ntmps185;go_wp2_with fail;refine(c1.out _).mono ?_;rintro e w1 ⟨rfl,b1⟩;have k1:=K0.out.below b1 K0.out.lt;have d0:=k1.cell 0;have d1:=k1.cell 1;simp at d0 d1;go_wp2_with fail;refine(c2.out _).mono ?_;rintro e w2 ⟨rfl,b2⟩;go_wp2_with fail;go_ret2;exact⟨by simp,B0.out.trans ((b1.mono (by simp)).trans (b2.mono (by have:=b1.size;simp at this;omega)))⟩
theorem rup_rat(a n d:Int)(w:World)(ha:In64 a)(hn:In64 n)(hd:In64 d):
  Calls Tryz.prog 139 #[.int .i64 a,.agg #[.int .i64 n,.int .i64 d]] w (yR w (upV2 a n d)):=by
 have c1:=yH (fun w=>aGm n d w hn hd);have c2:=yH (fun w=>up_any a n d w ha hn hd);have hb0:Below w.heap.size w (w.alloc (.cells #[.int .i64 n,.int .i64 d] 46)):=yZ.alloc yL _;have k0:Blk (w.alloc (.cells #[.int .i64 n,.int .i64 d] 46)) w.heap.size #[.int .i64 n,.int .i64 d] 46:=pAA _ _ _;obtain⟨x,y,hv⟩:∃x y,upV a n d=.tuple #[.int .i64 x,.int .i64 y]:=by unfold upV ans;split <;> exact⟨_,_,rfl⟩
 unfold upV2;rw[hv]at c2 ⊢;clear hv ha hn hd;have K0:=yH k0;have B0:=yH hb0;clear k0 hb0
 cases hm:mayB n d
 ·rw[hm]at c1;go_enter Tryz.func139,Tryz.ntmps139;go_wp2_with fail;refine(c1.out _).mono ?_;rintro e w1 ⟨rfl,b1⟩;go_wp2_with fail;go_ret2;exact⟨by simp,B0.out.trans (b1.mono (by simp))⟩
 rw[hm]at c1;go_enter Tryz.func139,Tryz.ntmps139;go_wp2_with fail;refine(c1.out _).mono ?_;rintro e w1 ⟨rfl,b1⟩;have k1:=K0.out.below b1 K0.out.lt;have d0:=k1.cell 0;have d1:=k1.cell 1;simp at d0 d1;go_wp2_with fail;refine(c2.out _).mono ?_;rintro e w2 ⟨rfl,b2⟩;go_wp2_with fail;go_ret2;exact⟨by simp,B0.out.trans ((b1.mono (by simp)).trans (b2.mono (by have:=b1.size;simp at this;omega)))⟩
theorem mayB_swap(n d:Int):mayB d n=mayB n d:=by
 unfold mayB;rw[decide_eq_decide];unfold MayN;rw[Int.gcd_comm d n]
 constructor <;> (intro h;omega)
def fitN(n num den:Int):Int:=if mayB num den=true∧0≤n then min (n*den/num) 1099511627776 else 0
theorem fits_any(n num den:Int)(w:World)(ha:In64 n)(hn:In64 num)(hd:In64 den):
  Calls Tryz.prog 134 #[.int .i64 n,.agg #[.int .i64 num,.int .i64 den]] w (yR w (.int .i64 (fitN n num den))):=by
 have c1:=yH (fun w=>aLo num den w hn hd);have B0:=yH ((Below.refl w.heap.size w).alloc yL (.cells #[.int .i64 num,.int .i64 den] 46));have c2:=yH (fun w=>rdown_rat n (alD num den) (alN num den) w ha (by unfold alD;split <;> first|exact hd|decide) (by unfold alN;split <;> first|exact hn|decide))
 have hs:(aM1 n (alD num den) (alN num den)=.tuple #[.int .i64 0,.int .i64 1]∧fitN n num den=0)∨
   (∃q:Int,aM1 n (alD num den) (alN num den)=.tuple #[.int .i64 q,.int .i64 0]∧fitN n num den=min q 1099511627776)∨
   (aM1 n (alD num den) (alN num den)=.tuple #[.int .i64 0,.int .i64 10]∧fitN n num den=1099511627776):=by
  unfold aM1 fitN;rcases aN8 num den with⟨hm,h1,h2,h3,h4,h5,h6⟩|⟨hm,h1,h2⟩
  ·rw[h1,h2,mayB_swap,hm,if_pos rfl]
   by_cases h0:n<0
   ·exact .inl ⟨by rw[aHs,if_pos (.inl h0)],by rw[if_neg (by omega)]⟩
   rw[aHs,if_neg (by omega),if_pos ⟨rfl,by omega⟩]
   by_cases hq:In64 (n*den/num)
   ·exact .inr (.inl ⟨_,aPt _ hq,rfl⟩)
   refine .inr (.inr ⟨aLk _ hq,?_⟩);have:0≤n*den/num:=Int.ediv_nonneg (Int.mul_nonneg (by omega) (by omega)) (by omega);unfold In64 at hq;omega
  rw[h1,h2,hm];exact .inl ⟨rfl,by simp⟩
 generalize alD num den=x at *;generalize alN num den=y at *;clear ha hn hd;rcases hs with⟨e1,e2⟩|⟨q,e1,e2⟩|⟨e1,e2⟩
 all_goals
  rw[e1]at c2;rw[e2];clear e1 e2;go_enter Tryz.func134,Tryz.ntmps134;go_wp2_with fail;refine(c1.out _).mono ?_;rintro e w1 ⟨rfl,b1⟩;go_wp2_with fail;refine(c2.out _).mono ?_;rintro e w2 ⟨rfl,b2⟩;go_wp2_with fail;go_ret;exact⟨rfl,B0.out.trans ((b1.mono (by simp)).trans (b2.mono (by have:=b1.size;simp at this;omega)))⟩
def cmpI(x y:Int):Int:=if x<y then -1 else if y<x then 1 else 0
def orI(p q:Int):Int:=if p=0 then q else p
theorem aPv(x:Int)(w:World):
  Calls Tryz.prog 126 #[.int .u64 x] w (yV w (.bool false)):=by
 go_enter Tryz.func126,Tryz.ntmps126;go_wp2;go_ret;exact⟨rfl,rfl⟩
theorem aHv(x y:Int)(w:World):
  Calls Tryz.prog 69 #[.int .u64 x,.int .u64 y] w (yV w (.int .i64 (cmpI x y))):=by
 have c1:=yH (fun w=>aPv x w);have c2:=yH (fun w=>aPv y w);rcases Int.lt_trichotomy x y with h|h|h
 ·rw[show cmpI x y = -1 by unfold cmpI;rw[if_pos h]];go_enter Tryz.func69,Tryz.ntmps69;go_wp2_with fail;refine(c1.out _).mono ?_;rintro e w1 ⟨rfl,rfl⟩;go_wp2_with fail;refine(c2.out _).mono ?_;rintro e w1 ⟨rfl,rfl⟩;go_wp2_with fail;go_ret;exact⟨rfl,rfl⟩
 ·rw[show cmpI x y=0 by unfold cmpI;rw[if_neg (by omega),if_neg (by omega)]];subst h;go_enter Tryz.func69,Tryz.ntmps69;go_wp2_with fail;refine(c1.out _).mono ?_;rintro e w1 ⟨rfl,rfl⟩;go_wp2_with fail;refine(c2.out _).mono ?_;rintro e w1 ⟨rfl,rfl⟩;go_wp2_with fail;go_ret;exact⟨rfl,rfl⟩
 rw[show cmpI x y=1 by unfold cmpI;rw[if_neg (by omega),if_pos h]];go_enter Tryz.func69,Tryz.ntmps69;go_wp2_with fail;refine(c1.out _).mono ?_;rintro e w1 ⟨rfl,rfl⟩;go_wp2_with fail;refine(c2.out _).mono ?_;rintro e w1 ⟨rfl,rfl⟩;go_wp2_with fail;go_ret;exact⟨rfl,rfl⟩
theorem or_two(b cap:Nat)(p q:Int)(w:World)(hlt:b<w.heap.size)(h0:w.cell? ⟨b,0,none⟩=some (.int .i64 p))(h1:w.cell? ⟨b,1,none⟩=some (.int .i64 q)):
  Calls Tryz.prog 68 #[.slice (some ⟨b,0,none⟩) 2 cap] w (yV w (.int .i64 (orI p q))):=by
 unfold orI
 by_cases hp:p=0
 ·rw[if_pos hp];subst hp
  by_cases hq:q=0
  ·subst hq;go_enter Tryz.func68,Tryz.ntmps68;go_wp2;refine wp_loop_rounds 3 ?_;rw[rounds_succ];go_wp2;rw[rounds_succ];go_wp2;rw[rounds_succ];go_wp2;go_ret;exact⟨rfl,rfl⟩
  have hb:(q==0)=false:=by simp[hq]
  go_enter Tryz.func68,Tryz.ntmps68;go_wp2;refine wp_loop_rounds 2 ?_;rw[rounds_succ];go_wp2;rw[rounds_succ];go_wp2;go_ret;exact⟨rfl,rfl⟩
 rw[if_neg hp];have hb:(p==0)=false:=by simp[hp]
 go_enter Tryz.func68,Tryz.ntmps68;go_wp2;refine wp_loop_rounds 1 ?_;rw[rounds_succ];go_wp2;go_ret;exact⟨rfl,rfl⟩
theorem aPw(x y:Int):orI (cmpI (x/18446744073709551616) (y/18446744073709551616)) (cmpI (x%18446744073709551616) (y%18446744073709551616))=cmpI x y:=by
 unfold orI cmpI;split <;> (repeat' split at *) <;> omega
def cmpR(an ad bn bd:Int):Int:=if mayB an ad=true∧mayB bn bd=true then cmpI (an*bd) (bn*ad)else 0
theorem aC4{n d:Int}(h:mayB n d=true):1≤n∧1≤d∧n≤1099511627776∧d≤1099511627776∧Int.gcd n d=1:=(aHu n d).1 h
theorem aSf(an ad bn bd:Int)(w:World)(h1:In64 an)(h2:In64 ad)(h3:In64 bn)(h4:In64 bd):
  Calls Tryz.prog 23 #[.agg #[.int .i64 an,.int .i64 ad],.agg #[.int .i64 bn,.int .i64 bd]] w (yR w (.int .i64 (cmpR an ad bn bd))):=by
 have c1:=yH (fun w=>aGm an ad w h1 h2);have c2:=yH (fun w=>aGm bn bd w h3 h4);have k1:Blk ((w.alloc (.cells #[.int .i64 an,.int .i64 ad] 46)).alloc (.cells #[.int .i64 bn,.int .i64 bd] 46)) w.heap.size #[.int .i64 an,.int .i64 ad] 46:=(pAA _ _ _).alloc _;have k2:Blk ((w.alloc (.cells #[.int .i64 an,.int .i64 ad] 46)).alloc (.cells #[.int .i64 bn,.int .i64 bd] 46)) (w.heap.size+1) #[.int .i64 bn,.int .i64 bd] 46:=pAC _ _ _ (by simp);have b0:Below w.heap.size w ((w.alloc (.cells #[.int .i64 an,.int .i64 ad] 46)).alloc (.cells #[.int .i64 bn,.int .i64 bd] 46)):=(yZ.alloc yL _).alloc (by simp) _;have K1:=yH k1;have K2:=yH k2;have B0:=yH b0;clear k1 k2 b0 h1 h2 h3 h4
 by_cases hm:mayB an ad=true
 ·by_cases hm2:mayB bn bd=true
  ·rw[show cmpR an ad bn bd=cmpI (an*bd) (bn*ad) by unfold cmpR;rw[if_pos ⟨hm,hm2⟩],←aPw];obtain⟨p1,p2,p3,p4,_⟩:=aC4 hm;obtain⟨q1,q2,q3,q4,_⟩:=aC4 hm2;rw[hm]at c1;rw[hm2]at c2;have u1:IntKind.u64.wrap an=an:=aG8 _ ⟨by omega,by omega⟩;have u2:IntKind.u64.wrap ad=ad:=aG8 _ ⟨by omega,by omega⟩;have u3:IntKind.u64.wrap bn=bn:=aG8 _ ⟨by omega,by omega⟩;have u4:IntKind.u64.wrap bd=bd:=aG8 _ ⟨by omega,by omega⟩;have cm1:=yH (fun w=>aGk an bd w ⟨by omega,by omega⟩ ⟨by omega,by omega⟩);have cm2:=yH (fun w=>aGk bn ad w ⟨by omega,by omega⟩ ⟨by omega,by omega⟩);have cc:=yH aHv;generalize an*bd=x at *;generalize bn*ad=y at *;clear hm hm2 p1 p2 p3 p4 q1 q2 q3 q4;go_enter Tryz.func23,Tryz.ntmps23;go_wp2_with fail;refine(c1.out _).mono ?_;rintro e w1 ⟨rfl,b1⟩;have B1:=yH (B0.out.trans (b1.mono (by simp;omega)));have r1:=K1.out.below b1 K1.out.lt;have r2:=K2.out.below b1 K2.out.lt;have d0:=r1.cell 0;have d1:=r1.cell 1;have e0:=r2.cell 0;have e1:=r2.cell 1;simp at d0 d1 e0 e1;have R1:=yH r1;have R2:=yH r2;clear r1 r2 b1;go_wp2_with fail;refine(c2.out _).mono ?_;rintro e w2 ⟨rfl,b2⟩;have B2:=yT B1 b2;have r1:=R1.out.below b2 R1.out.lt;have r2:=R2.out.below b2 R2.out.lt;clear d0 d1 e0 e1;have d0:=r1.cell 0;have d1:=r1.cell 1;have e0:=r2.cell 0;have e1:=r2.cell 1;simp at d0 d1 e0 e1;clear r1 r2 b2;go_wp2_with fail;refine(cm1.out _).mono ?_;rintro e w2 ⟨rfl,rfl⟩;go_wp2_with fail;refine(cm2.out _).mono ?_;rintro e w2 ⟨rfl,rfl⟩;go_wp2_with fail;refine(cc.out _ _ _).mono ?_;rintro e w2 ⟨rfl,rfl⟩;go_wp2_with fail;refine(cc.out _ _ _).mono ?_;rintro e w2 ⟨rfl,rfl⟩;go_wp2_with fail;refine(or_two w2.heap.size _ (cmpI (x/18446744073709551616) (y/18446744073709551616)) (cmpI (x%18446744073709551616) (y%18446744073709551616)) _ (by simp) (by simp) (by simp)).mono ?_;rintro e w2 ⟨rfl,rfl⟩;go_wp2_with fail;go_ret;exact⟨rfl,B2.out.alloc B2.out.size _⟩
  rw[show cmpR an ad bn bd=0 by unfold cmpR;rw[if_neg (by simp[hm2])]];simp only[Bool.not_eq_true]at hm2;rw[hm]at c1;rw[hm2]at c2;clear hm hm2;go_enter Tryz.func23,Tryz.ntmps23;go_wp2_with fail;refine(c1.out _).mono ?_;rintro e w1 ⟨rfl,b1⟩;have B1:=yH (B0.out.trans (b1.mono (by simp;omega)));have r2:=K2.out.below b1 K2.out.lt;have e0:=r2.cell 0;have e1:=r2.cell 1;simp at e0 e1;clear r2 b1;go_wp2_with fail;refine(c2.out _).mono ?_;rintro e w2 ⟨rfl,b2⟩;go_wp2_with fail;go_ret;exact⟨rfl,B1.out.trans (b2.mono B1.out.size)⟩
 rw[show cmpR an ad bn bd=0 by unfold cmpR;rw[if_neg (by simp[hm])]];simp only[Bool.not_eq_true]at hm;rw[hm]at c1;clear hm;go_enter Tryz.func23,Tryz.ntmps23;go_wp2_with fail;refine(c1.out _).mono ?_;rintro e w1 ⟨rfl,b1⟩;go_wp2_with fail;go_ret;exact⟨rfl,B0.out.trans (b1.mono (by simp;omega))⟩
theorem up_le(y num n den:Int)(hy:0≤y)(hn:0≤n)(h1:1≤num)(h2:1≤den)(hn2:n≤9223372036854775807):
  (upN (y*num) den≤n)↔y≤n*den/num:=by
 rw[Int.le_ediv_iff_mul_le (by omega)];generalize y*num=x;have hm:=Int.emod_nonneg x (show den≠0 by omega);have hm2:=Int.emod_lt_of_pos x (show 0<den by omega);have hd:=Int.mul_ediv_add_emod x den;rw[Int.mul_comm n];unfold upN;generalize x/den=q at *;generalize x%den=r at *;split
 ·constructor
  ·intro h;have:=Int.mul_le_mul_of_nonneg_left h (show 0≤den by omega);omega
  intro h;rcases Int.lt_or_le n q with k|k
  ·have:=Int.mul_le_mul_of_nonneg_left (show n+1≤q by omega) (show 0≤den by omega);rw[Int.mul_add]at this;omega
  exact k
 constructor
 ·intro h;have:=Int.mul_le_mul_of_nonneg_left h (show 0≤den by omega);rw[Int.mul_add]at this;omega
 intro h;rcases Int.lt_or_le q n with k|k
 ·omega
 have:=Int.mul_le_mul_of_nonneg_left k (show 0≤den by omega);omega
theorem upV2_test(y n num den:Int)(hm:mayB num den=true)(hy:0≤y)(hn:0≤n)(hn2:n≤9223372036854775807):
  (∃x:Int,upV2 y num den=.tuple #[.int .i64 x,.int .i64 0]∧decide (x≤n)=true∧y≤n*den/num)∨(∃x:Int,upV2 y num den=.tuple #[.int .i64 x,.int .i64 0]∧decide (x≤n)=false∧n*den/num<y)∨(upV2 y num den=.tuple #[.int .i64 0,.int .i64 10]∧n*den/num<y):=by
 obtain⟨h1,h2,h3,h4,_⟩:=aC4 hm;have hu:=up_le y num n den hy hn h1 h2 hn2
 have h0:0≤upN (y*num) den:=by
  have:=Int.ediv_nonneg (Int.mul_nonneg hy (show 0≤num by omega)) (show 0≤den by omega);unfold upN;split <;> omega
 rw[upV2,hm,if_pos rfl,upV,if_neg (by omega)]
 by_cases hi:In64 (upN (y*num) den)
 ·rw[aPt _ hi]
  by_cases hle:upN (y*num) den≤n
  ·exact .inl ⟨_,rfl,by simpa using hle,hu.1 hle⟩
  refine .inr (.inl ⟨_,rfl,by simpa using hle,?_⟩);rcases Int.lt_or_le (n*den/num) y with k|k
  ·exact k
  exact absurd (hu.2 k) hle
 rw[aLk _ hi];refine .inr (.inr ⟨rfl,?_⟩);unfold In64 at hi;rcases Int.lt_or_le (n*den/num) y with k|k
 ·exact k
 have:=hu.2 k;omega
def Of.may(x:Of):Prop:=(1≤x.ow∧x.ow≤16)∧(1≤x.sl∧x.sl≤8)∧(1≤x.bu∧x.bu≤8)∧x.sl≠x.bu∧(1≤x.lf∧x.lf≤1099511627776)∧mayB x.nu x.de=true
instance(x:Of):Decidable x.may:=by unfold Of.may;infer_instance
theorem omay_any(x:Of)(w:World):
  Calls Tryz.prog 47 #[.agg #[.int .u64 x.se,.int .u8 x.ow,.int .u8 x.sl,.int .u8 x.bu,.int .i64 x.lf,.int .i64 x.nu,.int .i64 x.de]] w (yR w (.bool (decide x.may))):=by
 have B0:=yH ((Below.refl w.heap.size w).alloc yL (.cells #[.int .u64 x.se,.int .u8 x.ow,.int .u8 x.sl,.int .u8 x.bu,.int .i64 x.lf,.int .i64 x.nu,.int .i64 x.de] 48));have C:=yH (aD7 x.nu x.de)
 by_cases h0:x.ow<1
 ·rw[decide_eq_false (fun k:x.may=>by have:=k.1;omega)];clear C;go_enter Tryz.func47,Tryz.ntmps47;go_wp2_with fail;go_ret;exact⟨rfl,B0.out⟩
 by_cases h1:16<x.ow
 ·rw[decide_eq_false (fun k:x.may=>by have:=k.1;omega)];clear C;go_enter Tryz.func47,Tryz.ntmps47;go_wp2_with fail;go_ret;exact⟨rfl,B0.out⟩
 by_cases h2:x.sl<1
 ·rw[decide_eq_false (fun k:x.may=>by have:=k.2.1;omega)];clear C;go_enter Tryz.func47,Tryz.ntmps47;go_wp2_with fail;go_ret;exact⟨rfl,B0.out⟩
 by_cases h3:8<x.sl
 ·rw[decide_eq_false (fun k:x.may=>by have:=k.2.1;omega)];clear C;go_enter Tryz.func47,Tryz.ntmps47;go_wp2_with fail;go_ret;exact⟨rfl,B0.out⟩
 by_cases h4:x.bu<1
 ·rw[decide_eq_false (fun k:x.may=>by have:=k.2.2.1;omega)];clear C;go_enter Tryz.func47,Tryz.ntmps47;go_wp2_with fail;go_ret;exact⟨rfl,B0.out⟩
 by_cases h5:8<x.bu
 ·rw[decide_eq_false (fun k:x.may=>by have:=k.2.2.1;omega)];clear C;go_enter Tryz.func47,Tryz.ntmps47;go_wp2_with fail;go_ret;exact⟨rfl,B0.out⟩
 by_cases h6:x.sl=x.bu
 ·rw[decide_eq_false (fun k:x.may=>by exact k.2.2.2.1 h6)];clear C;have e2:(x.sl != x.bu)=false:=by simpa using h6
  clear h6;go_enter Tryz.func47,Tryz.ntmps47;go_wp2_with fail;go_ret;exact⟨rfl,B0.out⟩
 have e2:(x.sl != x.bu)=true:=by simpa using h6
 by_cases h7:¬1≤x.lf
 ·rw[decide_eq_false (fun k:x.may=>by have:=k.2.2.2.2.1;omega)];clear C;go_enter Tryz.func47,Tryz.ntmps47;go_wp2_with fail;go_ret;exact⟨rfl,B0.out⟩
 have h7:=Decidable.not_not.1 h7
 by_cases h8:¬x.lf≤1099511627776
 ·rw[decide_eq_false (fun k:x.may=>by have:=k.2.2.2.2.1;omega)];clear C;go_enter Tryz.func47,Tryz.ntmps47;go_wp2_with fail;go_ret;exact⟨rfl,B0.out⟩
 have h8:=Decidable.not_not.1 h8
 have hd:decide x.may=mayB x.nu x.de:=by
  cases hb:mayB x.nu x.de with
  | true=>exact decide_eq_true ⟨by omega,by omega,by omega,h6,⟨h7,h8⟩,hb⟩
  | false=>exact decide_eq_false (fun k=>by have:=k.2.2.2.2.2;rw[hb]at this;cases this)
 rw[hd];clear hd;generalize mayB x.nu x.de=r at *;go_enter Tryz.func47,Tryz.ntmps47;go_wp2_with fail;refine(C.out _).mono ?_;rintro e w1 ⟨rfl,b1⟩;have B1:=yT B0 b1;clear b1 C B0;go_wp2_with fail;go_ret;exact⟨rfl,B1.out⟩
structure RefB(w:World)(base g:Nat)(l:List Of)(N:Int)(vl:Value):Prop where
 blk:Blk w g #[vl,.int .u64 N] 163
 ge:base≤g
 row:w.ownsRow base 48 7 vl l.length (aAa l)
theorem RefB.keep{S:Nat→Prop}{w w':World}{base g:Nat}{l:List Of}{N:Int}{vl:Value}(h:RefB w base g l N vl)(k:Keep S w w')(h1:¬S g)(h2:∀b,vl.ownBlock=some b→¬S b):RefB w' base g l N vl:=⟨h.blk.keep k h1,h.ge,aAl h.row k h2⟩
theorem RefB.below{w w':World}{base g:Nat}{l:List Of}{N:Int}{vl:Value}(h:RefB w base g l N vl)(k:Below w.heap.size w w'):RefB w' base g l N vl:=h.keep (pAE (S:=fun _=>False) k) id (fun _ _=>id)
theorem bnew_any(w:World)(base:Nat)(hb:base≤w.heap.size):
  Calls Tryz.prog 97 #[] w fun e w'=>e=.returned (.pointer (some ⟨w.heap.size,0,none⟩))∧RefB w' base w.heap.size [] 1 (.slice none 0 0)∧Below w.heap.size w w':=by
 have K:=yH (pAA w #[.slice none 0 0,.int .u64 1] 163);go_enter Tryz.func97,Tryz.ntmps97;go_wp2;go_ret;exact⟨rfl,⟨K.out,hb,World.ownsRow_nil _ _ _ _⟩,yZ.alloc yL _⟩
def aBg(l:List Of)(s:Int):Option Of:=l.find? fun x=>x.se==s
def noOf:Of:=⟨0,0,0,0,0,0,0⟩
def aGn(o:Option Of):Value:=match o with|some x=>.tuple #[x.val,.bool true]|none=>.tuple #[noOf.val,.bool false]
theorem findO_at{l:List Of}{s:Int}{k:Nat}(hk:k<l.length)(hn:∀x∈l.take k,(x.se==s)=false)(hx:(l[k].se==s)=true):aBg l s=some l[k]:=by
 unfold aBg;rw[List.find?_eq_some_iff_getElem];refine⟨hx,k,hk,rfl,fun j hj=>?_⟩;have:=hn l[j] (by rw[List.mem_take_iff_getElem];exact⟨j,by omega,rfl⟩);simp[this]
theorem aM2{l:List Of}{s:Int}(hn:∀x∈l,(x.se==s)=false):aBg l s=none:=by
 unfold aBg;rw[List.find?_eq_none];intro x hx;simp[hn x hx]
theorem aEh{q:Of→Prop}{l:List Of}{k:Nat}(h:k<l.length)(hn:∀x∈l.take k,q x)(hx:q l[k]):∀x∈l.take (k+1),q x:=by
 rw[List.take_succ_eq_append_getElem h];intro x hx';rcases List.mem_append.1 hx' with h1|h1
 ·exact hn x h1
 rw[List.mem_singleton]at h1;rw[h1];exact hx
theorem aCn{w:World}{b:Nat}{ls:List Of}(h:∀j,j<ls.length*7→w.cell? ⟨b,j,none⟩=(aAa ls)[j]?){k:Nat}(hk:k<ls.length):
  w.cell? ⟨b,k*7,none⟩=some (.int .u64 ls[k].se)∧w.cell? ⟨b,k*7+1,none⟩=some (.int .u8 ls[k].ow)∧w.cell? ⟨b,k*7+2,none⟩=some (.int .u8 ls[k].sl)∧w.cell? ⟨b,k*7+3,none⟩=some (.int .u8 ls[k].bu)∧w.cell? ⟨b,k*7+4,none⟩=some (.int .i64 ls[k].lf)∧w.cell? ⟨b,k*7+5,none⟩=some (.int .i64 ls[k].nu)∧w.cell? ⟨b,k*7+6,none⟩=some (.int .i64 ls[k].de):=by
 refine⟨?_,?_,?_,?_,?_,?_,?_⟩
 ·exact(h (k*7+0) (by omega)).trans (aAm ls k 0 (by omega) hk)
 ·exact(h (k*7+1) (by omega)).trans (aAm ls k 1 (by omega) hk)
 ·exact(h (k*7+2) (by omega)).trans (aAm ls k 2 (by omega) hk)
 ·exact(h (k*7+3) (by omega)).trans (aAm ls k 3 (by omega) hk)
 ·exact(h (k*7+4) (by omega)).trans (aAm ls k 4 (by omega) hk)
 ·exact(h (k*7+5) (by omega)).trans (aAm ls k 5 (by omega) hk)
 exact(h (k*7+6) (by omega)).trans (aAm ls k 6 (by omega) hk)
theorem aAb{P:Program}{ops:Array Oper}{rest:List Oper}{o:Oper}{a:Act}{w:World}{Q:Exit→Act→World→Prop}(hgd:o.guard=none)(ty:TypeId)(x y:Operand)(ho:o.op=.store ty x y)
  (g:Nat)(cells:Array Value)(hx:a.eval x=.pointer (some ⟨g,0,none⟩))(hy:a.eval y=.agg cells)
  (t:TypeId)(old:Array Value)(hg:w.heap[g]? = some (.cells old t (0,0)))(hi:(P.info? ty).map (·.size)=some cells.size)
  (hold:old.size=cells.size)(h1:cells.all (·.oneCell')=true)
  (h:wpList P ops Q rest (a.put o.dst undef) (w.setRow g cells)):wpList P ops Q (o::rest) a w:=
 wpList_plain hgd fun _ hK=>wp_store_row ty x y ho g cells hx hy t old hg hi hold h1 (hK _ _ h)
theorem aLp{w:World}{base g:Nat}{l:List Of}{N:Int}{vl:Value}(h:RefB w base g l N vl)(s:Int):
  Calls Tryz.prog 112 #[.pointer (some ⟨g,0,none⟩),.int .u64 s] w (yR w (aGn (aBg l s))):=by
 have bw:=(Below.refl w.heap.size w).alloc yL (.cells #[.int .u64 0,.int .u8 0,.int .u8 0,.int .u8 0,.int .i64 0,.int .i64 0,.int .i64 0] 48);have h2:=h.below bw;have B:=yH bw;have H:=yH h2;have KR:=yH (pAA w #[.int .u64 0,.int .u8 0,.int .u8 0,.int .u8 0,.int .i64 0,.int .i64 0,.int .i64 0] 48);obtain⟨ao,cap,rfl,hc1,hc2,hc3,hc4⟩:=aAd h2.row;have HC:=yH hc4;have hg:=h2.blk.lt;have dg:=h2.blk.cell 0;simp at dg;unfold maxLen at hc2;clear hc3 hc4 h bw h2;go_enter Tryz.func112,Tryz.ntmps112;go_wp2_with fail;generalize w.alloc (.cells #[.int .u64 0,.int .u8 0,.int .u8 0,.int .u8 0,.int .i64 0,.int .i64 0,.int .i64 0] 48)=W at *
 go_loopw [6] (fun i wr=>∃k:Nat,k≤l.length∧i=.int .i64 k∧Hid (∀x∈l.take k,(x.se==s)=false)∧wr=W) (fun i _=>l.length - (intOf i).toNat)
 case atStart=>exact⟨0,Nat.zero_le _,rfl,yH (by simp),rfl⟩
 obtain⟨k,hk,rfl,hn,rfl⟩:=hrel
 by_cases hkl:k<l.length
 ·obtain⟨b,rfl,hb1,hb2,hcell,_⟩:=HC.out (by omega);obtain⟨e0,e1,e2,e3,e4,e5,e6⟩:=aCn hcell hkl;have FA:=yH (fun hx=>findO_at (s:=s) hkl hn.out hx);have TN:=yH (fun hx=>aEh (q:=fun x=>(x.se==s)=false) hkl hn.out hx);clear hcell hn;generalize l[k]=x at *
  by_cases hx:(x.se==s)=true
  ·have E:=yH (FA.out hx);clear FA TN;go_wp2_with (refine aAb rfl 48 (.tmp 4) (.tmp 32) rfl w.heap.size #[.int .u64 x.se,.int .u8 x.ow,.int .u8 x.sl,.int .u8 x.bu,.int .i64 x.lf,.int .i64 x.nu,.int .i64 x.de] rfl rfl 48 _ KR.out.out (by kernel_rfl) rfl (by simp[Value.oneCell']) ?_);rw[E.out];refine bodyPost_ret (v:=.tuple #[x.val,.bool true]) (aAh rfl _ _ w.heap.size 48 #[.int .u64 x.se,.int .u8 x.ow,.int .u8 x.sl,.int .u8 x.bu,.int .i64 x.lf,.int .i64 x.nu,.int .i64 x.de] _ _ rfl (setRow_heap _ w.heap.size _ _ _ (0,0) KR.out.out) Tryz.underlying48 rfl (by kernel_rfl) rfl) rfl ⟨rfl,below_setRow B.out yL _⟩
  have hx:(x.se==s)=false:=by simpa using hx
  have E:=yH (TN.out hx);clear FA TN;go_wp2_with fail;go_roundw
  case rel=>exact⟨k+1,by omega,by go_num,E,by first|rfl|trivial⟩
  case measure=>simp[intOf];omega
 have E:Hid (aBg l s=none):=yH (aM2 (by have:=hn.out;rwa [List.take_of_length_le (by omega)]at this));clear hn;go_wp2_with (refine aAb rfl 48 (.tmp 4) (.tmp 33) rfl w.heap.size #[.int .u64 0,.int .u8 0,.int .u8 0,.int .u8 0,.int .i64 0,.int .i64 0,.int .i64 0] rfl rfl 48 _ KR.out.out (by kernel_rfl) rfl (by simp[Value.oneCell']) ?_);rw[E.out];refine bodyPost_ret (v:=.tuple #[noOf.val,.bool false]) (aAh rfl _ _ w.heap.size 48 #[.int .u64 0,.int .u8 0,.int .u8 0,.int .u8 0,.int .i64 0,.int .i64 0,.int .i64 0] _ _ rfl (setRow_heap _ w.heap.size _ _ _ (0,0) KR.out.out) Tryz.underlying48 rfl (by kernel_rfl) rfl) rfl ⟨rfl,below_setRow B.out yL _⟩
def Of.put(s n:Int)(x:Of):Of:=if x.se=s then{ x with lf:=n }else x
def setO(l:List Of)(s n:Int):List Of:=(l.map (Of.put s n)).filter fun x=>decide (0<x.lf)
theorem setO_next(l:List Of)(s n:Int)(k:Nat)(h:k<l.length):setO (l.take (k+1)) s n=setO (l.take k) s n++(if 0<(l[k].put s n).lf then [l[k].put s n]else []):=by
 unfold setO;rw[List.take_succ_eq_append_getElem h,List.map_append,List.filter_append];congr 1;simp only[List.map_cons,List.map_nil,List.filter_cons,List.filter_nil,decide_eq_true_eq]
theorem setO_len(l:List Of)(s n:Int):(setO l s n).length≤l.length:=by
 unfold setO;exact Nat.le_trans (List.length_filter_le _ _) (by simp)
def SetOAt(w:World)(l:List Of)(s n:Int)(v i:Value)(wr:World):Prop:=
 ∃k:Nat,k≤l.length∧i=.int .i64 k∧wr.ownsRow w.heap.size 48 7 v (setO (l.take k) s n).length (aAa (setO (l.take k) s n))∧Below w.heap.size w wr
theorem bset_any{w:World}{base g:Nat}{l:List Of}{N:Int}{vl:Value}(h:RefB w base g l N vl)(s n:Int)(hlen:l.length≤1000):
  Calls Tryz.prog 157 #[.pointer (some ⟨g,0,none⟩),.int .u64 s,.int .i64 n] w fun e w'=>e=.returned (.tuple #[])∧∃vl',RefB w' base g (setO l s n) N vl'∧Keep (·=g) w w':=by
 have H:=yH h;obtain⟨ao,cap,rfl,hc1,hc2,hc3,hc4⟩:=aAd h.row;have HC:=yH hc4;have hg:=h.blk.lt;unfold maxLen at hc2;clear hc3 hc4 h;go_enter Tryz.func157,Tryz.ntmps157;go_wp2_with fail
 go_loopw [6,7] (SetOAt w l s n) (fun _ i _=>l.length - (intOf i).toNat)
 case atStart=>exact⟨0,Nat.zero_le _,rfl,World.ownsRow_nil _ _ _ _,yZ⟩
 obtain⟨k,hk,rfl,hown,hb⟩:=hrel;have hlo:=setO_len (l.take k) s n;have hlk:(l.take k).length≤k:=List.length_take_le _ _;have dg:=(H.out.blk.below hb hg).cell 0;simp at dg
 by_cases hkl:k<l.length
 ·obtain⟨b,rfl,hb1,hb2,hcell,_⟩:=HC.out (by omega);obtain⟨e0,e1,e2,e3,e4,e5,e6⟩:=aCn (w:=wr) (fun j hj=>by rw[hb.cell (p:=⟨b,j,none⟩) hb2];exact hcell j hj) hkl;have NX:=yH (setO_next l s n k hkl);clear hcell;generalize l[k]=y at *;generalize setO (l.take k) s n=out at *;have hl2:out.length≤100000:=by omega
  have A0:=(Below.refl wr.heap.size wr).alloc yL (.cells #[.int .u64 y.se,.int .u8 y.ow,.int .u8 y.sl,.int .u8 y.bu,.int .i64 y.lf,.int .i64 y.nu,.int .i64 y.de] 48);have K0:=pAA wr #[.int .u64 y.se,.int .u8 y.ow,.int .u8 y.sl,.int .u8 y.bu,.int .i64 y.lf,.int .i64 y.nu,.int .i64 y.de] 48;have hwy:w.heap.size≤wr.heap.size:=hb.size;have rowlt:∀k,Value.ownBlock _=some k→k<wr.heap.size:=fun k hk=>(aAe hown hk).2.1
  by_cases hs:y.se=s
  ·have q1:(y.se==s)=true:=by simpa using hs
   have hy:y.put s n={ y with lf:=n }:=by unfold Of.put;rw[if_pos hs]
   rw[hy]at NX;have kk:=(Keep.refl (·=wr.heap.size) (wr.alloc (.cells #[.int .u64 y.se,.int .u8 y.ow,.int .u8 y.sl,.int .u8 y.bu,.int .i64 y.lf,.int .i64 y.nu,.int .i64 y.de] 48))).setCell (p:=⟨wr.heap.size,4,none⟩) (.inl rfl) (.int .i64 n);have KY:=yH (K0.set 4 (.int .i64 n));simp only[yF,yD,yE]at KY;have OY:=yH (aAl (hown.alloc (.cells #[.int .u64 y.se,.int .u8 y.ow,.int .u8 y.sl,.int .u8 y.bu,.int .i64 y.lf,.int .i64 y.nu,.int .i64 y.de] 48)) kk (fun b hb e=>by have:=rowlt b hb;omega));have BY:=yH ((hb.trans (A0.mono hb.size)).trans (kk.below (hb.trans (A0.mono hb.size)).size (fun b hb e=>by omega)));have z0:wr.heap.size+1≤((wr.alloc (.cells #[.int .u64 y.se,.int .u8 y.ow,.int .u8 y.sl,.int .u8 y.bu,.int .i64 y.lf,.int .i64 y.nu,.int .i64 y.de] 48)).setCell ⟨wr.heap.size,4,none⟩ (.int .i64 n)).heap.size:=by simp
   clear hown hb A0 K0 kk hs hy rowlt;generalize hW:(wr.alloc (.cells #[.int .u64 y.se,.int .u8 y.ow,.int .u8 y.sl,.int .u8 y.bu,.int .i64 y.lf,.int .i64 y.nu,.int .i64 y.de] 48)).setCell ⟨wr.heap.size,4,none⟩ (.int .i64 n)=Wy at *;have y0:=KY.out.cell 0;have y1:=KY.out.cell 1;have y2:=KY.out.cell 2;have y3:=KY.out.cell 3;have y4:=KY.out.cell 4;have y5:=KY.out.cell 5;have y6:=KY.out.cell 6;simp at y0 y1 y2 y3 y4 y5 y6
   by_cases hn:0<n
   ·have q2:decide (0<n)=true:=by simpa using hn
    rw[if_pos hn]at NX;clear hn;go_wp2_with (at_builtin;refine aDa _ rfl (.tmp 34) (.tmp 36) rfl w.heap.size _ out rfl (OY.out.alloc _) _ _ { y with lf:=n } rfl (pAA _ _ _) hl2 (by simp;omega) ?_);intro v3 w3 hown3 hgr3;have R2:∀k,Value.ownBlock _=some k→w.heap.size≤k:=fun k hk=>(aAe OY.out hk).1
    have B3:=yH ((BY.out.alloc BY.out.size _).grown hgr3 (by simp;have:=BY.out.size;omega) (fun k hk=>R2 k hk));have O3:=yH (show w3.ownsRow w.heap.size 48 7 v3 (out++[{ y with lf:=n }]).length (aAa (out++[{ y with lf:=n }])) by simpa using hown3);clear R2 hown3 hgr3;go_wp2_with fail;go_roundw
    case rel=>exact⟨k+1,by omega,by go_num,by rw[NX.out];exact O3.out,B3.out⟩
    case measure=>simp[intOf];omega
   have q2:decide (0<n)=false:=by simpa using hn
   rw[if_neg hn,List.append_nil]at NX;clear hn;go_wp2_with fail;go_roundw
   case rel=>exact⟨k+1,by omega,by go_num,by rw[NX.out];exact OY.out,BY.out⟩
   case measure=>simp[intOf];omega
  have q1:(y.se==s)=false:=by simpa using hs
  have hy:y.put s n=y:=by unfold Of.put;rw[if_neg hs]
  rw[hy]at NX;have KY:=yH K0;have OY:=yH (hown.alloc (.cells #[.int .u64 y.se,.int .u8 y.ow,.int .u8 y.sl,.int .u8 y.bu,.int .i64 y.lf,.int .i64 y.nu,.int .i64 y.de] 48));have BY:=yH (hb.trans (A0.mono hb.size));have z0:wr.heap.size+1≤(wr.alloc (.cells #[.int .u64 y.se,.int .u8 y.ow,.int .u8 y.sl,.int .u8 y.bu,.int .i64 y.lf,.int .i64 y.nu,.int .i64 y.de] 48)).heap.size:=by simp
  clear hown hb A0 K0 hs hy rowlt;generalize hW:wr.alloc (.cells #[.int .u64 y.se,.int .u8 y.ow,.int .u8 y.sl,.int .u8 y.bu,.int .i64 y.lf,.int .i64 y.nu,.int .i64 y.de] 48)=Wy at *;have y0:=KY.out.cell 0;have y1:=KY.out.cell 1;have y2:=KY.out.cell 2;have y3:=KY.out.cell 3;have y4:=KY.out.cell 4;have y5:=KY.out.cell 5;have y6:=KY.out.cell 6;simp at y0 y1 y2 y3 y4 y5 y6
  by_cases hn:0<y.lf
  ·have q2:decide (0<y.lf)=true:=by simpa using hn
   rw[if_pos hn]at NX;clear hn;go_wp2_with (at_builtin;refine aDa _ rfl (.tmp 34) (.tmp 36) rfl w.heap.size _ out rfl (OY.out.alloc _) _ _ y rfl (pAA _ _ _) hl2 (by simp;omega) ?_);intro v3 w3 hown3 hgr3;have R2:∀k,Value.ownBlock _=some k→w.heap.size≤k:=fun k hk=>(aAe OY.out hk).1
   have B3:=yH ((BY.out.alloc BY.out.size _).grown hgr3 (by simp;have:=BY.out.size;omega) (fun k hk=>R2 k hk));have O3:=yH (show w3.ownsRow w.heap.size 48 7 v3 (out++[y]).length (aAa (out++[y])) by simpa using hown3);clear R2 hown3 hgr3;go_wp2_with fail;go_roundw
   case rel=>exact⟨k+1,by omega,by go_num,by rw[NX.out];exact O3.out,B3.out⟩
   case measure=>simp[intOf];omega
  have q2:decide (0<y.lf)=false:=by simpa using hn
  rw[if_neg hn,List.append_nil]at NX;clear hn;go_wp2_with fail;go_roundw
  case rel=>exact⟨k+1,by omega,by go_num,by rw[NX.out];exact OY.out,BY.out⟩
  case measure=>simp[intOf];omega
 have hke:l.take k=l:=List.take_of_length_le (by omega);rw[hke]at hown;have O0:=yH hown;have B0:=yH hb;have HBk:=yH (H.out.blk.below hb hg);have hf:=HBk.out.frozen;obtain⟨ao3,cap3,hv3,_⟩:=aAd O0.out;subst hv3;clear hown hb;go_wp2;go_end0;have kk:Keep (·=g) wr (wr.setCell ⟨g,0,none⟩ (.slice ao3 (setO l s n).length cap3)):=Keep.setCell (S:=(·=g)) (Keep.refl _ _) (p:=⟨g,0,none⟩) (.inl rfl) _;refine⟨rfl,.slice ao3 (setO l s n).length cap3,⟨?_,H.out.ge,?_⟩,(pAE B0.out).trans kk⟩
 ·have:=HBk.out.set 0 (.slice ao3 (setO l s n).length cap3);simpa using this
 exact aAl (aA4 O0.out (by have:=H.out.ge;omega)) kk (aAi O0.out HBk.out (by decide))
def aHw(l:List Of)(ow s:Int):Int:=match aBg l s with|none=>0|some x=>if x.ow=ow then x.lf else 0
def aEs(l:List Of)(ow s:Int):Int:=match aBg l s with|none=>7|some x=>if x.ow=ow then 0 else 15
def aHx(l:List Of)(ow s:Int):List Of:=if aEs l ow s=0 then setO l s 0 else l
def aDz(l:List Of)(s n:Int):Int:=match aBg l s with|none=>7|some x=>if n<1∨x.lf<n then 1 else 0
def aPx(l:List Of)(s:Int):Int:=match aBg l s with|none=>0|some x=>x.lf
def aCh(l:List Of)(s n:Int):List Of:=if aDz l s n=0 then setO l s (aPx l s - n)else l
theorem aCx{l:List Of}{s:Int}{x:Of}(h:aBg l s=some x):x∈l∧x.se=s:=by
 unfold aBg at h;exact⟨List.mem_of_find?_eq_some h,by have:=List.find?_some h;simpa using this⟩
theorem aPy{w:World}{base g:Nat}{l:List Of}{N:Int}{vl:Value}(h:RefB w base g l N vl)(s n:Int)(hlen:l.length≤1000)(hfit:∀x∈l,x.lf≤9223372036854775807):
  Calls Tryz.prog 115 #[.pointer (some ⟨g,0,none⟩),.int .u64 s,.int .i64 n] w fun e w'=>e=.returned (.int .i64 (aDz l s n))∧∃vl',RefB w' base g (aCh l s n) N vl'∧Keep (·=g) w w':=by
 have H:=yH h;have C:=yH (aLp h s);clear h
 cases hf:aBg l s with
 | none=>
  have e2:aDz l s n=7:=by unfold aDz;rw[hf]
  have e3:aCh l s n=l:=by unfold aCh;rw[e2];rfl
  rw[e2,e3];rw[hf]at C;dsimp only[aGn,Of.val,noOf]at C;clear e2 e3 hf hfit;go_enter Tryz.func115,Tryz.ntmps115;go_wp2_with fail;refine C.out.mono ?_;rintro e w1 ⟨rfl,b1⟩;have B2:=yH (b1.alloc b1.size (.cells #[.int .u64 0,.int .u8 0,.int .u8 0,.int .u8 0,.int .i64 0,.int .i64 0,.int .i64 0] 48));clear b1;go_wp2_with fail;go_ret;exact⟨rfl,vl,H.out.below B2.out,pAE B2.out⟩
 | some x=>
  have hxf:=hfit x (aCx hf).1;clear hfit;rw[hf]at C;dsimp only[aGn,Of.val]at C
  by_cases h1:n<1
  ·have e2:aDz l s n=1:=by unfold aDz;rw[hf];exact if_pos (.inl h1)
   have e3:aCh l s n=l:=by unfold aCh;rw[e2];rfl
   rw[e2,e3];clear e2 e3 hf hxf;go_enter Tryz.func115,Tryz.ntmps115;go_wp2_with fail;refine C.out.mono ?_;rintro e w1 ⟨rfl,b1⟩;have B2:=yH (b1.alloc b1.size (.cells #[.int .u64 x.se,.int .u8 x.ow,.int .u8 x.sl,.int .u8 x.bu,.int .i64 x.lf,.int .i64 x.nu,.int .i64 x.de] 48));clear b1;go_wp2_with fail;go_ret;exact⟨rfl,vl,H.out.below B2.out,pAE B2.out⟩
  by_cases h2:x.lf<n
  ·have e2:aDz l s n=1:=by unfold aDz;rw[hf];exact if_pos (.inr h2)
   have e3:aCh l s n=l:=by unfold aCh;rw[e2];rfl
   rw[e2,e3];clear e2 e3 hf hxf;go_enter Tryz.func115,Tryz.ntmps115;go_wp2_with fail;refine C.out.mono ?_;rintro e w1 ⟨rfl,b1⟩;have B2:=yH (b1.alloc b1.size (.cells #[.int .u64 x.se,.int .u8 x.ow,.int .u8 x.sl,.int .u8 x.bu,.int .i64 x.lf,.int .i64 x.nu,.int .i64 x.de] 48));clear b1;go_wp2_with fail;go_ret;exact⟨rfl,vl,H.out.below B2.out,pAE B2.out⟩
  have e2:aDz l s n=0:=by unfold aDz;rw[hf];exact if_neg (by omega)
  have e3:aCh l s n=setO l s (x.lf - n):=by unfold aCh aPx;rw[if_pos e2,hf]
  rw[e2,e3];have hw:Hid (wrap64 (x.lf - n)=x.lf - n):=yH (aB4 _ ⟨by omega,by omega⟩);clear e2 e3 hf;go_enter Tryz.func115,Tryz.ntmps115;go_wp2_with fail;refine C.out.mono ?_;rintro e w1 ⟨rfl,b1⟩;have B2:=yH (b1.alloc b1.size (.cells #[.int .u64 x.se,.int .u8 x.ow,.int .u8 x.sl,.int .u8 x.bu,.int .i64 x.lf,.int .i64 x.nu,.int .i64 x.de] 48));have CS:=yH (fun m=>bset_any (H.out.below B2.out) s m hlen);clear b1 C;go_wp2_with fail;refine(CS.out _).mono ?_;rintro e w2 ⟨rfl,vl2,hr2,k2⟩;have K2:=yH ((pAE B2.out).trans k2)
  first|rw[hw.out]at hr2|skip
  have R2:=yH hr2;clear hr2 k2 CS;go_wp2_with fail;go_ret;exact⟨rfl,vl2,R2.out,K2.out⟩
def aHy(W:World)(base:Nat)(l:List Of)(N:Int)(s:Value×Nat)(D:Nat→Bool)(w:World):Prop:=
 Below W.heap.size W w∧(D 4=true→w.ownsRow base 48 7 s.1 l.length (aAa l)∧∀b,s.1.ownBlock=some b→W.heap.size≤b)∧(D 10=true→W.heap.size≤s.2∧Blk w s.2 #[s.1,.int .u64 N] 163)
theorem aHy.step{W w w':World}{base:Nat}{l:List Of}{N:Int}{s:Value×Nat}{D:Nat→Bool}{k:Nat}(h:aHy W base l N s D w)(hb:Below w.heap.size w w')(h4:k≠4)(h10:k≠10):aHy W base l N s (ins k D) w':=by
 obtain⟨b,p,q⟩:=h;have e4:¬4=k:=fun e=>h4 e.symm
 have e10:¬10=k:=fun e=>h10 e.symm
 refine⟨b.trans (hb.mono b.size),fun d=>?_,fun d=>?_⟩
 ·simp[ins,e4]at d;exact⟨aAc (p d).1 hb,(p d).2⟩
 simp[ins,e10]at d;exact⟨(q d).1,(q d).2.below hb (q d).2.lt⟩
theorem aHy.boxed{W w:World}{base:Nat}{l:List Of}{N:Int}{s:Value×Nat}{D:Nat→Bool}(h:aHy W base l N s D w)(hP:D 4=true):aHy W base l N (s.1,w.heap.size) (ins 10 D) (w.alloc (.cells #[s.1,.int .u64 N] 163)):=by
 obtain⟨b,p,q⟩:=h;have hb:=(Below.refl w.heap.size w).alloc yL (.cells #[s.1,.int .u64 N] 163);exact⟨b.trans (hb.mono b.size),fun _=>⟨aAc (p hP).1 hb,(p hP).2⟩,fun _=>⟨b.size,pAA _ _ _⟩⟩
def CopyBPost(base:Nat)(l:List Of)(N:Int)(w:World)(e:Ending)(w':World):Prop:=
 ∃g' vl',e=.returned (.pointer (some ⟨g',0,none⟩))∧RefB w' base g' l N vl'∧w.heap.size≤g'∧(∀b,vl'.ownBlock=some b→w.heap.size≤b)∧Below w.heap.size w w'
theorem bcopy_any{w:World}{base g:Nat}{l:List Of}{N:Int}{vl:Value}(h:RefB w base g l N vl)(hl:l.length≤1000):
  Calls Tryz.prog 107 #[.pointer (some ⟨g,0,none⟩)] w (CopyBPost base l N w):=by
 have H:=yH h;have hg:=h.blk.lt;have hbase0:=h.ge;clear h;go_enter Tryz.func107,Tryz.ntmps107;go_wp2_with fail
 refine aA0 (by kernel_rfl) (fun s:Value×Nat=>[(.pointer (some ⟨g,0,none⟩)),(.pointer (some ⟨g,0,none⟩)),(.pointer (some ⟨g,0,none⟩)),vl,s.1,(.pointer (some ⟨g,0,none⟩)),(.pointer (some ⟨g,0,none⟩)),(.pointer (some ⟨g,1,none⟩)),(.int .u64 N),(.agg #[s.1,.int .u64 N]),(.pointer (some ⟨s.2,0,none⟩)),(.pointer (some ⟨s.2,0,none⟩))])
  (aHy w base l N) (by kernel_rfl) (undef,0) ⟨yZ.drew,by simp,by simp⟩ ?_
 intro AF hAF;simp only[puts,Act.put,yA,yC,yF,yD,yE]at hAF;have hAF2:_=AF:=funext hAF;subst hAF2;clear hAF;refine⟨?_,?_⟩
 ·simp only[aEb];refine⟨?_,?_,?_,?_,?_,?_,?_,?_,?_,?_,?_,?_,trivial⟩
  ·intro s D w' hD hW hC hI;refine⟨s,fun _ _ _=>rfl,?_⟩;with_reducible refine yO rfl ?_
   have hI':=yH (hI.step yZ (k:=0) (by decide) (by decide));clear hI hC hW hD;go_wp2_with fail;all_goals first|exact hI'|exact⟨rfl,hI'⟩|rfl
  ·intro s D w' hD hW hC hI;refine⟨s,fun _ _ _=>rfl,?_⟩;with_reducible refine yO rfl ?_
   have hI':=yH (hI.step yZ (k:=1) (by decide) (by decide));clear hI hC hW hD;go_wp2_with fail;all_goals first|exact hI'|exact⟨rfl,hI'⟩|rfl
  ·intro s D w' hD hW hC hI;refine⟨s,fun _ _ _=>rfl,?_⟩;with_reducible refine yO rfl ?_
   have hI':=yH (hI.step yZ (k:=2) (by decide) (by decide));clear hI hC hW hD;go_wp2_with fail;all_goals first|exact hI'|exact⟨rfl,hI'⟩|rfl
  ·intro s D w' hD hW hC hI;refine⟨s,fun _ _ _=>rfl,?_⟩;with_reducible refine yO rfl ?_
   have hI':=yH (hI.step yZ (k:=3) (by decide) (by decide));have d0:=(H.out.blk.below hI.1 hg).cell 0;simp at d0;clear hI hC hW hD;go_wp2_with fail;all_goals first|exact hI'|exact⟨rfl,hI'⟩|rfl
  ·intro s D w' hD hW hC hI;have hN:D 9=false:=aAg hC hD 9 (by kernel_rfl);have hN2:D 10=false:=aAg hC hD 10 (by kernel_rfl);obtain⟨v',w2,hrun,how,hbel⟩:=aCs (P:=Tryz.prog) (w:=w') 23 23 48 aI1 Tryz.underlying23 rfl (by decide) (by decide) base _ _ _ (aAc H.out.row hI.1) (aCt l) (by omega);refine⟨(v',s.2),?_,?_⟩
   ·intro j hj hDj
    match j,hj,hDj with
    | 0,_,_=>rfl
    | 1,_,_=>rfl
    | 2,_,_=>rfl
    | 3,_,_=>rfl
    | 4,_,h=>simp_all
    | 5,_,_=>rfl
    | 6,_,_=>rfl
    | 7,_,_=>rfl
    | 8,_,_=>rfl
    | 9,_,h=>simp_all
    | 10,_,_=>rfl
    | 11,_,_=>rfl
    | j+12,_,_=>rfl
   with_reducible refine yO rfl ?_
   refine aEz (.tmp 6) 23 rfl rfl hrun ⟨rfl,?_⟩;have hw:=hI.1.size;have hh:∀b,v'.ownBlock=some b→w.heap.size≤b:=fun b hb=>Nat.le_trans hw (aAe how hb).1
   obtain⟨q1,q2,q3⟩:=hI;refine⟨q1.trans (hbel.mono q1.size),fun _=>⟨aA4 how (Nat.le_trans hbase0 (Nat.le_trans (Nat.le_of_lt hg) hw)),hh⟩,fun d=>?_⟩;simp[ins,hN2]at d
  ·intro s D w' hD hW hC hI;refine⟨s,fun _ _ _=>rfl,?_⟩;with_reducible refine yO rfl ?_
   have hI':=yH (hI.step yZ (k:=5) (by decide) (by decide));clear hI hC hW hD;go_wp2_with fail;all_goals first|exact hI'|exact⟨rfl,hI'⟩|rfl
  ·intro s D w' hD hW hC hI;refine⟨s,fun _ _ _=>rfl,?_⟩;with_reducible refine yO rfl ?_
   have hI':=yH (hI.step yZ (k:=6) (by decide) (by decide));clear hI hC hW hD;go_wp2_with fail;all_goals first|exact hI'|exact⟨rfl,hI'⟩|rfl
  ·intro s D w' hD hW hC hI;refine⟨s,fun _ _ _=>rfl,?_⟩;with_reducible refine yO rfl ?_
   have hI':=yH (hI.step yZ (k:=7) (by decide) (by decide));clear hI hC hW hD;go_wp2_with fail;all_goals first|exact hI'|exact⟨rfl,hI'⟩|rfl
  ·intro s D w' hD hW hC hI;refine⟨s,fun _ _ _=>rfl,?_⟩;with_reducible refine yO rfl ?_
   have hI':=yH (hI.step yZ (k:=8) (by decide) (by decide));have d0:=(H.out.blk.below hI.1 hg).cell 1;simp at d0;clear hI hC hW hD;go_wp2_with fail;all_goals first|exact hI'|exact⟨rfl,hI'⟩|rfl
  ·intro s D w' hD hW hC hI;have hP:D 4=true:=aA8 hC hW (by kernel_rfl);refine⟨s,fun _ _ _=>rfl,?_⟩;with_reducible refine yO rfl ?_
   have HS:=yH (hI.step yZ (k:=9) (by decide) (by decide));obtain⟨ao,cap,hv,_⟩:=aAd (hI.2.1 hP).1;clear hC hW hD hP hI;obtain⟨s1,s2⟩:=s;dsimp only at hv HS ⊢;subst hv;go_wp2_with fail;all_goals first|exact HS|exact⟨rfl,HS⟩|rfl
  ·intro s D w' hD hW hC hI;have hP:D 4=true:=aA8 hC hW (by kernel_rfl);have hN3:D 11=false:=aAg hC hD 11 (by kernel_rfl);refine⟨(s.1,w'.heap.size),?_,?_⟩
   ·intro j hj hDj
    match j,hj,hDj with
    | 0,_,_=>rfl
    | 1,_,_=>rfl
    | 2,_,_=>rfl
    | 3,_,_=>rfl
    | 4,_,_=>rfl
    | 5,_,_=>rfl
    | 6,_,_=>rfl
    | 7,_,_=>rfl
    | 8,_,_=>rfl
    | 9,_,_=>rfl
    | 10,_,h=>simp_all
    | 11,_,h=>simp_all
    | j+12,_,_=>rfl
   with_reducible refine yO rfl ?_
   have HS:=yH (hI.boxed hP);obtain⟨q1,q2,q3⟩:=hI;obtain⟨ao,cap,hv,_⟩:=aAd (q2 hP).1;clear hC hW hD q1 q2 q3 hP hN3;obtain⟨s1,s2⟩:=s;dsimp only at hv HS ⊢;subst hv;go_wp2_with fail;all_goals first|exact HS|exact⟨rfl,HS⟩|rfl
  intro s D w' hD hW hC hI;refine⟨s,fun _ _ _=>rfl,?_⟩;with_reducible refine yO rfl ?_
  have hI':=yH (hI.step yZ (k:=11) (by decide) (by decide));clear hI hC hW hD;go_wp2_with fail;all_goals first|exact hI'|exact⟨rfl,hI'⟩|rfl
 intro s D w2 hall hI;obtain⟨q1,q2,q3⟩:=hI;have Q1:=yH q1;have Q2:=yH (q2 (hall 4 (by decide)));have Q3:=yH (q3 (hall 10 (by decide)));clear q1 q2 q3 hall;dsimp only;go_wp2_with fail;go_ret;exact⟨s.2,s.1,rfl,⟨Q3.out.2,Nat.le_trans hbase0 (Nat.le_trans (Nat.le_of_lt hg) Q3.out.1),Q2.out.1⟩,Q3.out.1,Q2.out.2,Q1.out⟩
structure PB(w:World)(base g:Nat)(l:List Of)(N:Int)(vl:Value):Prop where
 blk:Blk w g #[vl,.int .u64 N] 63
 ge:base≤g
 row:w.ownsRow base 129 7 vl l.length (aAa l)
def Foot(g:Nat)(vl:Value)(b:Nat):Prop:=b=g∨vl.ownBlock=some b
def aEt(w:World)(vl vl':Value):Prop:=∀b,vl'.ownBlock=some b→vl.ownBlock=some b∨w.heap.size≤b
theorem aEt.refl(w:World)(vl:Value):aEt w vl vl:=fun _ h=>.inl h
theorem aEt.of_le{w w':World}{vl vl':Value}(h:aEt w' vl vl')(hle:w.heap.size≤w'.heap.size):aEt w vl vl':=fun b hb=>(h b hb).imp id (fun q=>Nat.le_trans hle q)
theorem PB.keep{S:Nat→Prop}{w w':World}{base g:Nat}{l:List Of}{N:Int}{vl:Value}(h:PB w base g l N vl)(k:Keep S w w')(h1:¬S g)(h2:∀b,vl.ownBlock=some b→¬S b):PB w' base g l N vl:=⟨h.blk.keep k h1,h.ge,aAl h.row k h2⟩
theorem PB.below{w w':World}{base g:Nat}{l:List Of}{N:Int}{vl:Value}(h:PB w base g l N vl)(k:Below w.heap.size w w'):PB w' base g l N vl:=h.keep (pAE (S:=fun _=>False) k) id (fun _ _=>id)
theorem PB.lt{w:World}{base g:Nat}{l:List Of}{N:Int}{vl:Value}(h:PB w base g l N vl){b:Nat}(hb:Foot g vl b):base≤b∧b<w.heap.size:=by
 rcases hb with rfl|hb
 ·exact⟨h.ge,h.blk.lt⟩
 exact⟨(aAe h.row hb).1,(aAe h.row hb).2.1⟩
theorem PB.apart{w:World}{base g:Nat}{l:List Of}{N:Int}{vl:Value}(h:PB w base g l N vl):∀b,vl.ownBlock=some b→b≠g:=aAi h.row h.blk (by decide)
structure BInv(l:List Of)(N:Int):Prop where
 may:∀x∈l,x.may
 rise:l.Pairwise fun x y=>x.se<y.se
 bd:∀x∈l,1≤x.se∧x.se<N
 len:l.length≤32
 n1:1≤N
 n2:N≤18446744073709551615
theorem BInv.nil{N:Int}(h1:1≤N)(h2:N≤18446744073709551615):BInv [] N:=⟨by simp,List.Pairwise.nil,by simp,by simp,h1,h2⟩
theorem Of.may.fits{x:Of}(h:x.may)(h1:0≤x.se∧x.se≤18446744073709551615):x.Fits:=by
 obtain⟨⟨a1,a2⟩,⟨b1,b2⟩,⟨c1,c2⟩,_,⟨d1,d2⟩,e⟩:=h;obtain⟨r1,r2,r3,r4,_⟩:=aC4 e;exact⟨h1,⟨by omega,by omega⟩,⟨by omega,by omega⟩,⟨by omega,by omega⟩,⟨by omega,by omega⟩,⟨by omega,by omega⟩,⟨by omega,by omega⟩⟩
theorem BInv.fits{l:List Of}{N:Int}(h:BInv l N){x:Of}(hx:x∈l):x.Fits:=by
 have:=h.bd x hx;have:=h.n2;exact(h.may x hx).fits ⟨by omega,by omega⟩
theorem aPz(c:Int)(w:World):
  Calls Tryz.prog 142 #[.int .u8 c] w fun e w'=>e=.returned (.bool (decide (1≤c∧c≤8)))∧w'=w:=by
 by_cases h1:1≤c
 ·have e1:decide (1≤c)=true:=by simpa using h1
  by_cases h2:c≤8
  ·rw[decide_eq_true ⟨h1,h2⟩];have e2:decide (c≤8)=true:=by simpa using h2
   clear h1 h2;go_enter Tryz.func142,Tryz.ntmps142;go_wp2;go_ret;exact⟨rfl,rfl⟩
  rw[decide_eq_false (fun k=>h2 k.2)];have e2:decide (c≤8)=false:=by simpa using h2
  clear h1 h2;go_enter Tryz.func142,Tryz.ntmps142;go_wp2;go_ret;exact⟨rfl,rfl⟩
 rw[decide_eq_false (fun k=>h1 k.1)];have e1:decide (1≤c)=false:=by simpa using h1
 clear h1;go_enter Tryz.func142,Tryz.ntmps142;go_wp2;go_ret;exact⟨rfl,rfl⟩
theorem pmay_any(x:Of)(w:World)(hf:x.Fits):
  Calls Tryz.prog 93 #[.agg #[.int .u64 x.se,.int .u8 x.ow,.int .u8 x.sl,.int .u8 x.bu,.int .i64 x.lf,.int .i64 x.nu,.int .i64 x.de]] w (yR w (.bool (decide x.may))):=by
 have B0:=yH ((Below.refl w.heap.size w).alloc yL (.cells #[.int .u64 x.se,.int .u8 x.ow,.int .u8 x.sl,.int .u8 x.bu,.int .i64 x.lf,.int .i64 x.nu,.int .i64 x.de] 129));have C:=yH (fun w=>aGm x.nu x.de w hf.nu hf.de);have C1:=yH (fun w=>aPz x.sl w);have C2:=yH (fun w=>aPz x.bu w);clear hf
 by_cases h0:¬1≤x.ow
 ·rw[decide_eq_false (fun k:x.may=>by have:=k.1;omega)];clear C C1 C2;have e1:decide (1≤x.ow)=false:=by simpa using h0
  clear h0;go_enter Tryz.func93,Tryz.ntmps93;go_wp2_with fail;go_ret;exact⟨rfl,B0.out⟩
 have h0:=Decidable.not_not.1 h0;have e1:decide (1≤x.ow)=true:=by simpa using h0
 by_cases h1:¬x.ow≤16
 ·rw[decide_eq_false (fun k:x.may=>by have:=k.1;omega)];clear C C1 C2;have e2:decide (x.ow≤16)=false:=by simpa using h1
  clear h0 h1;go_enter Tryz.func93,Tryz.ntmps93;go_wp2_with fail;go_ret;exact⟨rfl,B0.out⟩
 have h1:=Decidable.not_not.1 h1;have e2:decide (x.ow≤16)=true:=by simpa using h1
 by_cases h2:¬(1≤x.sl∧x.sl≤8)
 ·rw[decide_eq_false (fun k:x.may=>h2 k.2.1)];rw[decide_eq_false h2]at C1;clear C C2 h0 h1 h2;go_enter Tryz.func93,Tryz.ntmps93;go_wp2_with fail;refine(C1.out _).mono ?_;rintro e w1 ⟨rfl,rfl⟩;go_wp2_with fail;go_ret;exact⟨rfl,B0.out⟩
 have h2:=Decidable.not_not.1 h2;rw[decide_eq_true h2]at C1
 by_cases h3:¬(1≤x.bu∧x.bu≤8)
 ·rw[decide_eq_false (fun k:x.may=>h3 k.2.2.1)];rw[decide_eq_false h3]at C2;clear C h0 h1 h2 h3;go_enter Tryz.func93,Tryz.ntmps93;go_wp2_with fail;refine(C1.out _).mono ?_;rintro e w1 ⟨rfl,rfl⟩;go_wp2_with fail;refine(C2.out _).mono ?_;rintro e w1 ⟨rfl,rfl⟩;go_wp2_with fail;go_ret;exact⟨rfl,B0.out⟩
 have h3:=Decidable.not_not.1 h3;rw[decide_eq_true h3]at C2
 by_cases h4:x.sl=x.bu
 ·rw[decide_eq_false (fun k:x.may=>k.2.2.2.1 h4)];have e4:(x.sl != x.bu)=false:=by simpa using h4
  clear C h0 h1 h2 h3 h4;go_enter Tryz.func93,Tryz.ntmps93;go_wp2_with fail;refine(C1.out _).mono ?_;rintro e w1 ⟨rfl,rfl⟩;go_wp2_with fail;refine(C2.out _).mono ?_;rintro e w1 ⟨rfl,rfl⟩;go_wp2_with fail;go_ret;exact⟨rfl,B0.out⟩
 have e4:(x.sl != x.bu)=true:=by simpa using h4
 by_cases h5:¬1≤x.lf
 ·rw[decide_eq_false (fun k:x.may=>by have:=k.2.2.2.2.1;omega)];have e5:decide (1≤x.lf)=false:=by simpa using h5
  clear C h0 h1 h2 h3 h4 h5;go_enter Tryz.func93,Tryz.ntmps93;go_wp2_with fail;refine(C1.out _).mono ?_;rintro e w1 ⟨rfl,rfl⟩;go_wp2_with fail;refine(C2.out _).mono ?_;rintro e w1 ⟨rfl,rfl⟩;go_wp2_with fail;go_ret;exact⟨rfl,B0.out⟩
 have h5:=Decidable.not_not.1 h5
 by_cases h6:¬x.lf≤1099511627776
 ·rw[decide_eq_false (fun k:x.may=>by have:=k.2.2.2.2.1;omega)];have e6:decide (x.lf≤1099511627776)=false:=by simpa using h6
  clear C h0 h1 h2 h3 h4 h5 h6;go_enter Tryz.func93,Tryz.ntmps93;go_wp2_with fail;refine(C1.out _).mono ?_;rintro e w1 ⟨rfl,rfl⟩;go_wp2_with fail;refine(C2.out _).mono ?_;rintro e w1 ⟨rfl,rfl⟩;go_wp2_with fail;go_ret;exact⟨rfl,B0.out⟩
 have h6:=Decidable.not_not.1 h6
 have hd:decide x.may=mayB x.nu x.de:=by
  cases hb:mayB x.nu x.de with
  | true=>exact decide_eq_true ⟨⟨h0,h1⟩,h2,h3,h4,⟨h5,h6⟩,hb⟩
  | false=>exact decide_eq_false (fun k=>by have:=k.2.2.2.2.2;rw[hb]at this;cases this)
 rw[hd];clear hd h0 h1 h2 h3 h4 h5 h6;generalize mayB x.nu x.de=r at *;go_enter Tryz.func93,Tryz.ntmps93;go_wp2_with fail;refine(C1.out _).mono ?_;rintro e w1 ⟨rfl,rfl⟩;go_wp2_with fail;refine(C2.out _).mono ?_;rintro e w1 ⟨rfl,rfl⟩;go_wp2_with fail;refine(C.out _).mono ?_;rintro e w1 ⟨rfl,b1⟩;have B1:=yT B0 b1;clear b1 C B0;go_wp2_with fail;go_ret;exact⟨rfl,B1.out⟩
theorem pnew_any(w:World)(base:Nat)(hb:base≤w.heap.size):
  Calls Tryz.prog 16 #[] w fun e w'=>e=.returned (.pointer (some ⟨w.heap.size,0,none⟩))∧PB w' base w.heap.size [] 1 (.slice none 0 0)∧Below w.heap.size w w':=by
 have K:=yH (pAA w #[.slice none 0 0,.int .u64 1] 63);go_enter Tryz.func16,Tryz.ntmps16;go_wp2;go_ret;exact⟨rfl,⟨K.out,hb,World.ownsRow_nil _ _ _ _⟩,yZ.alloc yL _⟩
theorem aIm{w:World}{g:Nat}{vl:Value}{N:Int}(h:Blk w g #[vl,.int .u64 N] 63):
  Calls Tryz.prog 27 #[.pointer (some ⟨g,0,none⟩)] w (yS w (.int .u64 N)):=by
 have d1:=h.cell 1;simp at d1;clear h;go_enter Tryz.func27,Tryz.ntmps27;go_wp2;go_ret;exact⟨rfl,rfl⟩
theorem aLq{w:World}{g:Nat}{vl:Value}{N:Int}(h:Blk w g #[vl,.int .u64 N] 63)(h1:1≤N):
  Calls Tryz.prog 92 #[.pointer (some ⟨g,0,none⟩)] w (yS w (.bool true)):=by
 have C:=yH (aIm h);have e2:(N != 0)=true:=by simp;omega
 clear h h1;go_enter Tryz.func92,Tryz.ntmps92;go_wp2_with fail;refine C.out.mono ?_;rintro e w ⟨rfl,rfl⟩;go_wp2_with fail;go_ret;exact⟨rfl,rfl⟩
theorem ball_any{w:World}{g:Nat}{ao:Option Addr}{n c:Nat}{N:Int}(h:Blk w g #[.slice ao n c,.int .u64 N] 63):
  Calls Tryz.prog 65 #[.pointer (some ⟨g,0,none⟩)] w (yS w (.slice ao n c)):=by
 have d1:=h.cell 0;simp at d1;clear h;go_enter Tryz.func65,Tryz.ntmps65;go_wp2;go_ret;exact⟨rfl,rfl⟩
end Go.Proofs.YtaeocliklpcgmaaGreat
