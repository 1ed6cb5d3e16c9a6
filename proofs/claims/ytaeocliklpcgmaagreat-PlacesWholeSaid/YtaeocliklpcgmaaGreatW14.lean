/- Pieces of one proof. -/
import Derived.Test.YtaeocliklpcgmaaGreatW13
import Derived.ScopeJumps
import Derived.WalkMore
import Derived.LoopN
import Derived.Laws.AppendOwnNone
set_option linter.all false
set_option maxHeartbeats 64000000
set_option maxRecDepth 100000
namespace Go.Proofs.YtaeocliklpcgmaaGreat
open Go.RowKit
theorem aK7(a b:Int):Int.gcd b (a%b)=Int.gcd a b:=by
 have:=gcd_step a b (a/b);rw[show a - b*(a/b)=a%b by have:=Int.mul_ediv_add_emod a b;omega]at this;rw[Int.gcd_comm,this]
theorem aOh(a b:Int)(w:World)(ha:In64 a)(hb:In64 b)(h1:1≤a)(h2:1≤b):
  Calls Tryz.prog 173 #[.int .i64 a,.int .i64 b] w (yR w (.int .i64 (Int.gcd a b))):=by
 have HA:=yH ha;have HB:=yH hb;clear ha hb;go_enter Tryz.func173,Tryz.ntmps173;go_wp2;refine wp_scope_jumps 0 (fun a' w'=>Below w.heap.size w w'∧∃(x y:Int) (u2 u3 u4 u5 u6 u7 u8 u9 u10 u11:Value),a'={ tmps:=#[.int .i64 x,.int .i64 y,u2,u3,u4,u5,u6,u7,u8,u9,u10,u11],defers:=[] }∧1≤x∧0≤y∧x≤9223372036854775807∧y≤9223372036854775807∧Int.gcd x y=Int.gcd a b) (fun a' _=>(intOf (a'.tmps.getD 1 undef)).toNat) rfl ?_ ?_
 ·by_cases hb:b=0
  ·omega
  have hnb:(b==0)=false:=by simp;omega
  have HG:=yH (aK7 a b);have HLT:=yH (Int.emod_lt_of_pos a (show 0<b by omega));have HGE:=yH (Int.emod_nonneg a hb);go_wp2
  go_step3
  go_wp2
  go_region
  all_goals
   go_wp2
   go_step3
   exact⟨rfl,yZ.drew,b,_,_,_,_,_,_,_,_,_,_,_,rfl,h2,HGE.out,HB.out.2,by have:=HLT.out;have:=HB.out.2;omega,HG.out⟩
 rintro a' w' ⟨bel,x,y,u2,u3,u4,u5,u6,u7,u8,u9,u10,u11,rfl,hx,hy,hx2,hy2,hg⟩;have HG:=yH hg;clear hg
 by_cases hb:y=0
 ·subst hb;have e:((Int.gcd x 0:Nat):Int)=x:=by rw[Int.gcd_zero_right];omega
  have hnn:((0:Int)==0)=true:=rfl;go_wp2;simp only[Exit.jump];go_ret;exact⟨by rw[←HG.out,e];rfl,bel⟩
 have hnb:(y==0)=false:=by simp;omega
 have HS:=yH (aK7 x y);have HLT:=yH (Int.emod_lt_of_pos x (show 0<y by omega));have HGE:=yH (Int.emod_nonneg x hb);go_wp2
 go_region
 all_goals
  go_wp2
  go_step3
  refine⟨rfl,⟨bel.drew,y,_,_,_,_,_,_,_,_,_,_,_,rfl,by omega,HGE.out,hy2,by have:=HLT.out;omega,by rw[HS.out];exact HG.out⟩,?_⟩;have:=HLT.out;have:=HGE.out;simp[intOf];omega
def ofRN(n d:Int):Int:=if n<1∨d<1 then 0 else if 1099511627776<n/Int.gcd n d∨1099511627776<d/Int.gcd n d then 0 else n/Int.gcd n d
def ofD(n d:Int):Int:=if n<1∨d<1 then 0 else if 1099511627776<n/Int.gcd n d∨1099511627776<d/Int.gcd n d then 0 else d/Int.gcd n d
def ofE(n d:Int):Int:=if n<1∨d<1 then 1 else if 1099511627776<n/Int.gcd n d∨1099511627776<d/Int.gcd n d then 10 else 0
def ofV(n d:Int):Value:=.tuple #[.agg #[.int .i64 (ofRN n d),.int .i64 (ofD n d)],.int .i64 (ofE n d)]
theorem ofV_arg{n d:Int}(h:n<1∨d<1):ofV n d=.tuple #[.agg #[.int .i64 0,.int .i64 0],.int .i64 1]:=by simp[ofV,ofRN,ofD,ofE,h]
theorem ofV_over{n d g:Int}(h:1≤n)(h2:1≤d)(hg:(Int.gcd n d:Int)=g)(ho:1099511627776<n/g∨1099511627776<d/g):ofV n d=.tuple #[.agg #[.int .i64 0,.int .i64 0],.int .i64 10]:=by
 have hn:¬(n<1∨d<1):=by omega
 subst hg;simp[ofV,ofRN,ofD,ofE,hn,ho]
theorem ofV_good{n d g:Int}(h:1≤n)(h2:1≤d)(hg:(Int.gcd n d:Int)=g)(ho:¬(1099511627776<n/g∨1099511627776<d/g)):ofV n d=.tuple #[.agg #[.int .i64 (n/g),.int .i64 (d/g)],.int .i64 0]:=by
 have hn:¬(n<1∨d<1):=by omega
 subst hg;simp[ofV,ofRN,ofD,ofE,hn,ho]
theorem gcd_bd{n d:Int}(h:1≤n)(hd:1≤d):(1:Int)≤Int.gcd n d∧0≤n/Int.gcd n d∧n/Int.gcd n d≤n∧0≤d/Int.gcd n d∧d/Int.gcd n d≤d:=by
 have h1:0<Int.gcd n d:=Int.gcd_pos_of_ne_zero_left _ (by omega);exact⟨by omega,Int.ediv_nonneg (by omega) (by omega),Int.ediv_le_self _ (by omega),Int.ediv_nonneg (by omega) (by omega),Int.ediv_le_self _ (by omega)⟩
theorem of_arg(n d:Int)(w:World)(h:n<1∨d<1):
  Calls Tryz.prog 127 #[.int .i64 n,.int .i64 d] w (yR w (ofV n d)):=by
 rw[ofV_arg h];have q2:Blk (w.alloc (.cells #[.int .i64 0,.int .i64 0] 46)) w.heap.size #[.int .i64 0,.int .i64 0] 46:=pAA _ _ _;have hlt:=q2.lt;clear q2;have hs:n<1∨(1≤n∧d<1):=by omega
 clear h;rcases hs with h1|⟨h1,h2⟩
 all_goals
  go_enter Tryz.func127,Tryz.ntmps127;go_wp2;refine bodyPost_ret (v:=.tuple #[.agg #[.int .i64 0,.int .i64 0],.int .i64 1]) (aAd rfl _ _ w.heap.size 46 #[.int .i64 0,.int .i64 0] _ _ rfl (pAA w #[.int .i64 0,.int .i64 0] 46).out Tryz.underlying46 rfl (by kernel_rfl) rfl) rfl ⟨rfl,?_⟩;exact(yZ.alloc yL _)
theorem of_two(n d g x y:Int)(w:World)(h1:1≤n)(h2:1≤d)(hn:In64 n)(hd:In64 d)(hg:(Int.gcd n d:Int)=g)(hx:n/g=x)(hy:d/g=y)(hx0:0≤x)(hy0:0≤y)(hxn:x≤n)(hyd:y≤d)(hg0:1≤g):
  Calls Tryz.prog 127 #[.int .i64 n,.int .i64 d] w fun e w'=>e=.returned (if 1099511627776<x∨1099511627776<y then .tuple #[.agg #[.int .i64 0,.int .i64 0],.int .i64 10]else .tuple #[.agg #[.int .i64 x,.int .i64 y],.int .i64 0])∧Below w.heap.size w w':=by
 have c:=yH (fun w=>aOh n d w hn hd h1 h2);rw[hg]at c;have e1:Int.tdiv n g=x:=by rw[←hx];exact Int.tdiv_eq_ediv_of_nonneg (by omega)
 have e2:Int.tdiv d g=y:=by rw[←hy];exact Int.tdiv_eq_ediv_of_nonneg (by omega)
 have ew1:wrap64 x=x:=aCh x ⟨by omega,by have:=hn.2;omega⟩;have ew2:wrap64 y=y:=aCh y ⟨by omega,by have:=hd.2;omega⟩;have q2:Blk (w.alloc (.cells #[.int .i64 0,.int .i64 0] 46)) w.heap.size #[.int .i64 0,.int .i64 0] 46:=pAA _ _ _;have b0:Below w.heap.size w (w.alloc (.cells #[.int .i64 0,.int .i64 0] 46)):=yZ.alloc yL _;have Q2:=yH q2;have B0:=yH b0;have hs:1099511627776<x∨(x≤1099511627776∧1099511627776<y)∨(x≤1099511627776∧y≤1099511627776):=by omega
 clear q2 b0 hn hd;rcases hs with o1|⟨o1,o2⟩|⟨o1,o2⟩
 ·rw[if_pos (.inl o1)];go_enter Tryz.func127,Tryz.ntmps127;go_wp2_with fail;refine(c.out _).mono ?_;rintro e w1 ⟨rfl,bw⟩;have k1:=Q2.out.below bw Q2.out.lt;have B1:=yH (B0.out.trans (bw.mono (by simp)));have d0:=k1.cell 0;have d1:=k1.cell 1;simp at d0 d1;have f1:=k1.frozen;have hz:=k1.lt;have K1:=yH k1;clear k1 bw;go_wp2
  go_region
  all_goals
   go_wp2;refine bodyPost_ret (v:=.tuple #[.agg #[.int .i64 0,.int .i64 0],.int .i64 10]) (aAd rfl _ _ w.heap.size 46 #[.int .i64 0,.int .i64 0] _ _ rfl (Blk.drew (((K1.out.set 0 (.int .i64 0)).set 1 (.int .i64 0)).alloc _)).out Tryz.underlying46 rfl (by kernel_rfl) rfl) rfl ⟨rfl,?_⟩
   first
   | exact((((B1.out.alloc B1.out.size _).drew).setCell yL _).setCell yL _)
   | exact((((B1.out.setCell yL _).setCell yL _).alloc (by simpa using B1.out.size) _).drew)
 ·rw[if_pos (.inr o2)];go_enter Tryz.func127,Tryz.ntmps127;go_wp2_with fail;refine(c.out _).mono ?_;rintro e w1 ⟨rfl,bw⟩;have k1:=Q2.out.below bw Q2.out.lt;have B1:=yH (B0.out.trans (bw.mono (by simp)));have d0:=k1.cell 0;have d1:=k1.cell 1;simp at d0 d1;have f1:=k1.frozen;have hz:=k1.lt;have K1:=yH k1;clear k1 bw;go_wp2
  go_region
  all_goals
   go_wp2;refine bodyPost_ret (v:=.tuple #[.agg #[.int .i64 0,.int .i64 0],.int .i64 10]) (aAd rfl _ _ w.heap.size 46 #[.int .i64 0,.int .i64 0] _ _ rfl (Blk.drew (((K1.out.set 0 (.int .i64 0)).set 1 (.int .i64 0)).alloc _)).out Tryz.underlying46 rfl (by kernel_rfl) rfl) rfl ⟨rfl,?_⟩
   first
   | exact((((B1.out.alloc B1.out.size _).drew).setCell yL _).setCell yL _)
   | exact((((B1.out.setCell yL _).setCell yL _).alloc (by simpa using B1.out.size) _).drew)
 rw[if_neg (by omega)];go_enter Tryz.func127,Tryz.ntmps127;go_wp2_with fail;refine(c.out _).mono ?_;rintro e w1 ⟨rfl,bw⟩;have k1:=Q2.out.below bw Q2.out.lt;have B1:=yH (B0.out.trans (bw.mono (by simp)));have d0:=k1.cell 0;have d1:=k1.cell 1;simp at d0 d1;have f1:=k1.frozen;have hz:=k1.lt;have K1:=yH k1;clear k1 bw;go_wp2
 go_region
 all_goals
  go_wp2;refine bodyPost_ret (v:=.tuple #[.agg #[.int .i64 x,.int .i64 y],.int .i64 0]) (aAd rfl _ _ w.heap.size 46 #[.int .i64 x,.int .i64 y] _ _ rfl (Blk.drew (((K1.out.set 0 (.int .i64 x)).set 1 (.int .i64 y)).alloc _)).out Tryz.underlying46 rfl (by kernel_rfl) rfl) rfl ⟨rfl,?_⟩
  first
  | exact((((B1.out.alloc B1.out.size _).drew).setCell yL _).setCell yL _)
  | exact((((B1.out.setCell yL _).setCell yL _).alloc (by simpa using B1.out.size) _).drew)
theorem of_rat(n d:Int)(w:World)(hn:In64 n)(hd:In64 d):
  Calls Tryz.prog 127 #[.int .i64 n,.int .i64 d] w (yR w (ofV n d)):=by
 by_cases h:n<1∨d<1
 ·exact of_arg n d w h
 obtain⟨g0,x0,xn,y0,yd⟩:=gcd_bd (n:=n) (d:=d) (by omega) (by omega);have:=of_two n d _ _ _ w (by omega) (by omega) hn hd rfl rfl rfl x0 y0 xn yd g0;refine this.mono fun e w' ⟨he,hb⟩=>⟨?_,hb⟩
 rw[he]
 by_cases ho:1099511627776<n/Int.gcd n d∨1099511627776<d/Int.gcd n d
 ·rw[if_pos ho,ofV_over (by omega) (by omega) rfl ho]
 rw[if_neg ho,ofV_good (by omega) (by omega) rfl ho]
theorem aGf(n d:Int):mayB n d=true↔MayN n d:=by simp[mayB]
theorem of_self{n d:Int}(h:MayN n d):ofRN n d=n∧ofD n d=d:=by
 obtain⟨h1,h2,h3,h4,h5⟩:=h;have hn:¬(n<1∨d<1):=by omega
 have e1:n/(1:Int)=n:=Int.ediv_one n;have e2:d/(1:Int)=d:=Int.ediv_one d;have ho:¬(1099511627776<n∨1099511627776<d):=by omega
 simp[ofRN,ofD,hn,h5,ho]
theorem of_not{n d:Int}(h:¬MayN n d):(ofRN n d=n∧ofD n d=d∧n=0∧d=0)∨ofRN n d≠n∨ofD n d≠d:=by
 unfold ofRN ofD
 by_cases hn:n<1∨d<1
 ·rw[if_pos hn,if_pos hn];omega
 rw[if_neg hn,if_neg hn]
 by_cases ho:1099511627776<n/Int.gcd n d∨1099511627776<d/Int.gcd n d
 ·rw[if_pos ho,if_pos ho];omega
 rw[if_neg ho,if_neg ho]
 right
 rcases Classical.em (n/Int.gcd n d=n)with e|e
 ·have g1:Int.gcd n d=1:=by
   have hd:=Int.mul_ediv_cancel' (Int.gcd_dvd_left (a:=n) (b:=d));rw[e]at hd;have hnn:n*((Int.gcd n d:Int) - 1)=0:=by rw[Int.mul_sub,Int.mul_one,Int.mul_comm];omega
   rcases Int.mul_eq_zero.1 hnn with h|h <;> omega
  rw[g1]at ho;have e1:n/((1:Nat):Int)=n:=Int.ediv_one n;have e2:d/((1:Nat):Int)=d:=Int.ediv_one d;rw[e1,e2]at ho;exact absurd ⟨by omega,by omega,by omega,by omega,g1⟩ h
 exact .inl e
def alN(n d:Int):Int:=if mayB n d then n else 0
def alD(n d:Int):Int:=if mayB n d then d else 0
theorem aJe(n d:Int)(w:World)(hn:In64 n)(hd:In64 d):
  Calls Tryz.prog 70 #[.agg #[.int .i64 n,.int .i64 d]] w (yR w (.agg #[.int .i64 (alN n d),.int .i64 (alD n d)])):=by
 have c:=yH (fun w=>of_rat n d w hn hd);unfold ofV at c
 have hs:(ofRN n d=n∧ofD n d=d∧alN n d=n∧alD n d=d)∨(ofRN n d≠n∧alN n d=0∧alD n d=0)∨(ofRN n d=n∧ofD n d≠d∧alN n d=0∧alD n d=0):=by
  unfold alN alD
  by_cases hm:MayN n d
  ·rw[(aGf n d).2 hm];obtain⟨a,b⟩:=of_self hm;exact .inl ⟨a,b,rfl,rfl⟩
  have e:mayB n d=false:=by rw[Bool.eq_false_iff];exact fun h=>hm ((aGf n d).1 h)
  rw[e];rcases of_not hm with⟨a,b,rfl,rfl⟩|h|h
  ·exact .inl ⟨a,b,rfl,rfl⟩
  ·exact .inr (.inl ⟨h,rfl,rfl⟩)
  by_cases h':ofRN n d=n
  ·exact .inr (.inr ⟨h',h,rfl,rfl⟩)
  exact .inr (.inl ⟨h',rfl,rfl⟩)
 generalize ofRN n d=x at *;generalize ofD n d=y at *;generalize ofE n d=z at *;have k1:Blk ((w.alloc (.cells #[.int .i64 n,.int .i64 d] 46)).alloc (.cells #[.int .i64 0,.int .i64 0] 46)) w.heap.size #[.int .i64 n,.int .i64 d] 46:=(pAA _ _ _).alloc _;have k2:Blk ((w.alloc (.cells #[.int .i64 n,.int .i64 d] 46)).alloc (.cells #[.int .i64 0,.int .i64 0] 46)) (w.heap.size+1) #[.int .i64 0,.int .i64 0] 46:=pAC _ _ _ (by simp);have b0:Below w.heap.size w ((w.alloc (.cells #[.int .i64 n,.int .i64 d] 46)).alloc (.cells #[.int .i64 0,.int .i64 0] 46)):=(yZ.alloc yL _).alloc (by simp) _;have K1:=yH k1;have K2:=yH k2;have B0:=yH b0;clear k1 k2 b0 hn hd;rcases hs with⟨e1,e2,e3,e4⟩|⟨e1,e3,e4⟩|⟨e1,e2,e3,e4⟩
 ·rw[e3,e4];subst e1 e2;clear e3 e4;go_enter Tryz.func70,Tryz.ntmps70;go_wp2_with fail;refine(c.out _).mono ?_;rintro e w1 ⟨rfl,bw⟩;have q1:=K1.out.below bw K1.out.lt;have q2:=K2.out.below bw K2.out.lt;have B1:=yH (B0.out.trans (bw.mono (by simp;omega)));have d0:=q1.cell 0;have d1:=q1.cell 1;have e0:=q2.cell 0;have e1:=q2.cell 1;simp at d0 d1 e0 e1;have f2:=q2.frozen;have hz:=q1.lt;have hz2:=q2.lt;have Q1:=yH q1;have Q2:=yH q2;clear q1 q2 bw;go_wp2;refine bodyPost_ret (v:=.agg #[.int .i64 x,.int .i64 y]) (results_cell_row rfl _ _ (w.heap.size+1) 46 #[.int .i64 x,.int .i64 y] (0,0) _ rfl (((Q2.out.set 0 (.int .i64 x)).set 1 (.int .i64 y)).alloc _).out Tryz.underlying46 rfl (by kernel_rfl)) rfl ⟨by simp,?_⟩;exact(((B1.out.setCell (by simp) _).setCell (by simp) _).alloc (by simpa using B1.out.size) _)
 ·rw[e3,e4];have e5:(x==n)=false:=by simp[e1]
  clear e1 e3 e4;go_enter Tryz.func70,Tryz.ntmps70;go_wp2_with fail;refine(c.out _).mono ?_;rintro e w1 ⟨rfl,bw⟩;have q1:=K1.out.below bw K1.out.lt;have q2:=K2.out.below bw K2.out.lt;have B1:=yH (B0.out.trans (bw.mono (by simp;omega)));have d0:=q1.cell 0;have d1:=q1.cell 1;have e0:=q2.cell 0;have e1:=q2.cell 1;simp at d0 d1 e0 e1;have f2:=q2.frozen;have hz:=q1.lt;have hz2:=q2.lt;have Q1:=yH q1;have Q2:=yH q2;clear q1 q2 bw;go_wp2;refine bodyPost_ret (v:=.agg #[.int .i64 0,.int .i64 0]) (results_cell_row rfl _ _ (w.heap.size+1) 46 #[.int .i64 0,.int .i64 0] (0,0) _ rfl (((Q2.out.set 0 (.int .i64 0)).set 1 (.int .i64 0)).alloc _).out Tryz.underlying46 rfl (by kernel_rfl)) rfl ⟨by simp,?_⟩;exact(((B1.out.setCell (by simp) _).setCell (by simp) _).alloc (by simpa using B1.out.size) _)
 rw[e3,e4];subst e1;have e5:(y==d)=false:=by simp[e2]
 clear e2 e3 e4;go_enter Tryz.func70,Tryz.ntmps70;go_wp2_with fail;refine(c.out _).mono ?_;rintro e w1 ⟨rfl,bw⟩;have q1:=K1.out.below bw K1.out.lt;have q2:=K2.out.below bw K2.out.lt;have B1:=yH (B0.out.trans (bw.mono (by simp;omega)));have d0:=q1.cell 0;have d1:=q1.cell 1;have e0:=q2.cell 0;have e1:=q2.cell 1;simp at d0 d1 e0 e1;have f2:=q2.frozen;have hz:=q1.lt;have hz2:=q2.lt;have Q1:=yH q1;have Q2:=yH q2;clear q1 q2 bw;go_wp2;refine bodyPost_ret (v:=.agg #[.int .i64 0,.int .i64 0]) (results_cell_row rfl _ _ (w.heap.size+1) 46 #[.int .i64 0,.int .i64 0] (0,0) _ rfl (((Q2.out.set 0 (.int .i64 0)).set 1 (.int .i64 0)).alloc _).out Tryz.underlying46 rfl (by kernel_rfl)) rfl ⟨by simp,?_⟩;exact(((B1.out.setCell (by simp) _).setCell (by simp) _).alloc (by simpa using B1.out.size) _)
theorem aK8(n d:Int):(mayB n d=true∧alN n d=n∧alD n d=d∧1≤n∧1≤d∧n≤1099511627776∧d≤1099511627776)∨(mayB n d=false∧alN n d=0∧alD n d=0):=by
 unfold alN alD
 by_cases hm:MayN n d
 ·rw[(aGf n d).2 hm];exact .inl ⟨rfl,rfl,rfl,hm.1,hm.2.1,hm.2.2.1,hm.2.2.2.1⟩
 have e:mayB n d=false:=by rw[Bool.eq_false_iff];exact fun h=>hm ((aGf n d).1 h)
 rw[e];exact .inr ⟨rfl,rfl,rfl⟩
theorem aFg(n d:Int)(w:World)(hn:In64 n)(hd:In64 d):
  Calls Tryz.prog 67 #[.agg #[.int .i64 n,.int .i64 d]] w (yR w (.bool (mayB n d))):=by
 have c:=yH (fun w=>aJe n d w hn hd);have B0:=yH ((Below.refl w.heap.size w).alloc yL (.cells #[.int .i64 n,.int .i64 d] 46));clear hn hd;rcases aK8 n d with⟨hm,h1,h2,h3,h4,h5,h6⟩|⟨hm,h1,h2⟩
 ·rw[h1,h2]at c;rw[hm];have e1:(n==0)=false:=by simp;omega
  clear h1 h2 h4 h5 h6 h3;go_enter Tryz.func67,Tryz.ntmps67;go_wp2_with fail;refine(c.out _).mono ?_;rintro e w1 ⟨rfl,b1⟩;go_wp2_with fail;go_ret;exact⟨rfl,B0.out.trans (b1.mono (by simp))⟩
 rw[h1,h2]at c;rw[hm];clear h1 h2;go_enter Tryz.func67,Tryz.ntmps67;go_wp2_with fail;refine(c.out _).mono ?_;rintro e w1 ⟨rfl,b1⟩;go_wp2_with fail;go_ret;exact⟨rfl,B0.out.trans (b1.mono (by simp))⟩
theorem aGg(n d:Int)(w:World)(hn:In64 n)(hd:In64 d):
  Calls Tryz.prog 24 #[.agg #[.int .i64 n,.int .i64 d]] w (yR w (.agg #[.int .i64 (alD n d),.int .i64 (alN n d)])):=by
 have c:=yH (fun w=>aJe n d w hn hd);have k1:Blk ((w.alloc (.cells #[.int .i64 n,.int .i64 d] 46)).alloc (.cells #[.int .i64 0,.int .i64 0] 46)) w.heap.size #[.int .i64 n,.int .i64 d] 46:=(pAA _ _ _).alloc _;have k2:Blk ((w.alloc (.cells #[.int .i64 n,.int .i64 d] 46)).alloc (.cells #[.int .i64 0,.int .i64 0] 46)) (w.heap.size+1) #[.int .i64 0,.int .i64 0] 46:=pAC _ _ _ (by simp);have b0:Below w.heap.size w ((w.alloc (.cells #[.int .i64 n,.int .i64 d] 46)).alloc (.cells #[.int .i64 0,.int .i64 0] 46)):=(yZ.alloc yL _).alloc (by simp) _;have K1:=yH k1;have K2:=yH k2;have B0:=yH b0;clear k1 k2 b0 hn hd;generalize alN n d=x at *;generalize alD n d=y at *;go_enter Tryz.func24,Tryz.ntmps24;go_wp2_with fail;refine(c.out _).mono ?_;rintro e w1 ⟨rfl,bw⟩;have q1:=K1.out.below bw K1.out.lt;have q2:=K2.out.below bw K2.out.lt;have B1:=yH (B0.out.trans (bw.mono (by simp;omega)));have d0:=q1.cell 0;have d1:=q1.cell 1;have e0:=q2.cell 0;have e1:=q2.cell 1;simp at d0 d1 e0 e1;have f1:=q1.frozen;have f2:=q2.frozen;have hz:=q1.lt;have hz2:=q2.lt;have Q1:=yH q1;have Q2:=yH q2;clear q1 q2 bw;go_wp2;refine bodyPost_ret (v:=.agg #[.int .i64 y,.int .i64 x]) (results_cell_row rfl _ _ (w.heap.size+1) 46 #[.int .i64 y,.int .i64 x] (0,0) _ rfl ((((Q2.out.setOther (by simp) _).setOther (by simp) _).set 0 (.int .i64 y)).set 1 (.int .i64 x)).out Tryz.underlying46 rfl (by kernel_rfl)) rfl ⟨by simp,?_⟩;exact((((B1.out.setCell (by simp) _).setCell (by simp) _).setCell (by simp) _).setCell (by simp) _)
theorem rdown_rat(a n d:Int)(w:World)(ha:In64 a)(hn:In64 n)(hd:In64 d):
  Calls Tryz.prog 185 #[.int .i64 a,.agg #[.int .i64 n,.int .i64 d]] w (yR w (aKf a n d)):=by
 have c1:=yH (fun w=>aFg n d w hn hd);have c2:=yH (fun w=>down_any a n d w ha hn hd);have hb0:Below w.heap.size w (w.alloc (.cells #[.int .i64 n,.int .i64 d] 46)):=yZ.alloc yL _;have k0:Blk (w.alloc (.cells #[.int .i64 n,.int .i64 d] 46)) w.heap.size #[.int .i64 n,.int .i64 d] 46:=pAA _ _ _;obtain⟨x,y,hv⟩:∃x y,aJw a n d=.tuple #[.int .i64 x,.int .i64 y]:=by unfold aJw ans;split <;> exact⟨_,_,rfl⟩
 unfold aKf;rw[hv]at c2 ⊢;clear hv ha hn hd;have K0:=yH k0;have B0:=yH hb0;clear k0 hb0
 cases hm:mayB n d
 ·rw[hm]at c1;go_enter Tryz.func185,Tryz.ntmps185;go_wp2_with fail;refine(c1.out _).mono ?_;rintro e w1 ⟨rfl,b1⟩;go_wp2_with fail;go_ret2;exact⟨by simp,B0.out.trans (b1.mono (by simp))⟩
 rw[hm]at c1;go_enter Tryz.func185,Tryz.ntmps185;go_wp2_with fail;refine(c1.out _).mono ?_;rintro e w1 ⟨rfl,b1⟩;have k1:=K0.out.below b1 K0.out.lt;have d0:=k1.cell 0;have d1:=k1.cell 1;simp at d0 d1;go_wp2_with fail;refine(c2.out _).mono ?_;rintro e w2 ⟨rfl,b2⟩;go_wp2_with fail;go_ret2;exact⟨by simp,B0.out.trans ((b1.mono (by simp)).trans (b2.mono (by have:=b1.size;simp at this;omega)))⟩
theorem rup_rat(a n d:Int)(w:World)(ha:In64 a)(hn:In64 n)(hd:In64 d):
  Calls Tryz.prog 139 #[.int .i64 a,.agg #[.int .i64 n,.int .i64 d]] w (yR w (upV2 a n d)):=by
 have c1:=yH (fun w=>aFg n d w hn hd);have c2:=yH (fun w=>up_any a n d w ha hn hd);have hb0:Below w.heap.size w (w.alloc (.cells #[.int .i64 n,.int .i64 d] 46)):=yZ.alloc yL _;have k0:Blk (w.alloc (.cells #[.int .i64 n,.int .i64 d] 46)) w.heap.size #[.int .i64 n,.int .i64 d] 46:=pAA _ _ _;obtain⟨x,y,hv⟩:∃x y,upV a n d=.tuple #[.int .i64 x,.int .i64 y]:=by unfold upV ans;split <;> exact⟨_,_,rfl⟩
 unfold upV2;rw[hv]at c2 ⊢;clear hv ha hn hd;have K0:=yH k0;have B0:=yH hb0;clear k0 hb0
 cases hm:mayB n d
 ·rw[hm]at c1;go_enter Tryz.func139,Tryz.ntmps139;go_wp2_with fail;refine(c1.out _).mono ?_;rintro e w1 ⟨rfl,b1⟩;go_wp2_with fail;go_ret2;exact⟨by simp,B0.out.trans (b1.mono (by simp))⟩
 rw[hm]at c1;go_enter Tryz.func139,Tryz.ntmps139;go_wp2_with fail;refine(c1.out _).mono ?_;rintro e w1 ⟨rfl,b1⟩;have k1:=K0.out.below b1 K0.out.lt;have d0:=k1.cell 0;have d1:=k1.cell 1;simp at d0 d1;go_wp2_with fail;refine(c2.out _).mono ?_;rintro e w2 ⟨rfl,b2⟩;go_wp2_with fail;go_ret2;exact⟨by simp,B0.out.trans ((b1.mono (by simp)).trans (b2.mono (by have:=b1.size;simp at this;omega)))⟩
theorem mayB_swap(n d:Int):mayB d n=mayB n d:=by
 unfold mayB;rw[decide_eq_decide];unfold MayN;rw[Int.gcd_comm d n]
 constructor <;> (intro h;omega)
def fitN(n num den:Int):Int:=if mayB num den=true∧0≤n then min (n*den/num) 1099511627776 else 0
theorem fits_any(n num den:Int)(w:World)(ha:In64 n)(hn:In64 num)(hd:In64 den):
  Calls Tryz.prog 134 #[.int .i64 n,.agg #[.int .i64 num,.int .i64 den]] w (yR w (.int .i64 (fitN n num den))):=by
 have c1:=yH (fun w=>aGg num den w hn hd);have B0:=yH ((Below.refl w.heap.size w).alloc yL (.cells #[.int .i64 num,.int .i64 den] 46));have c2:=yH (fun w=>rdown_rat n (alD num den) (alN num den) w ha (by unfold alD;split <;> first|exact hd|decide) (by unfold alN;split <;> first|exact hn|decide))
 have hs:(aKf n (alD num den) (alN num den)=.tuple #[.int .i64 0,.int .i64 1]∧fitN n num den=0)∨
   (∃q:Int,aKf n (alD num den) (alN num den)=.tuple #[.int .i64 q,.int .i64 0]∧fitN n num den=min q 1099511627776)∨
   (aKf n (alD num den) (alN num den)=.tuple #[.int .i64 0,.int .i64 10]∧fitN n num den=1099511627776):=by
  unfold aKf fitN;rcases aK8 num den with⟨hm,h1,h2,h3,h4,h5,h6⟩|⟨hm,h1,h2⟩
  ·rw[h1,h2,mayB_swap,hm,if_pos rfl]
   by_cases h0:n<0
   ·exact .inl ⟨by rw[aJw,if_pos (.inl h0)],by rw[if_neg (by omega)]⟩
   rw[aJw,if_neg (by omega),if_pos ⟨rfl,by omega⟩]
   by_cases hq:In64 (n*den/num)
   ·exact .inr (.inl ⟨_,ans_of _ hq,rfl⟩)
   refine .inr (.inr ⟨ans_not _ hq,?_⟩);have:0≤n*den/num:=Int.ediv_nonneg (Int.mul_nonneg (by omega) (by omega)) (by omega);unfold In64 at hq;omega
  rw[h1,h2,hm];exact .inl ⟨rfl,by simp⟩
 generalize alD num den=x at *;generalize alN num den=y at *;clear ha hn hd;rcases hs with⟨e1,e2⟩|⟨q,e1,e2⟩|⟨e1,e2⟩
 all_goals
  rw[e1]at c2;rw[e2];clear e1 e2;go_enter Tryz.func134,Tryz.ntmps134;go_wp2_with fail;refine(c1.out _).mono ?_;rintro e w1 ⟨rfl,b1⟩;go_wp2_with fail;refine(c2.out _).mono ?_;rintro e w2 ⟨rfl,b2⟩;go_wp2_with fail;go_ret;exact⟨rfl,B0.out.trans ((b1.mono (by simp)).trans (b2.mono (by have:=b1.size;simp at this;omega)))⟩
def cmpI(x y:Int):Int:=if x<y then -1 else if y<x then 1 else 0
def orI(p q:Int):Int:=if p=0 then q else p
theorem aMk(x:Int)(w:World):
  Calls Tryz.prog 126 #[.int .u64 x] w (yV w (.bool false)):=by
 have hx:(x==x)=true:=by simp
 go_enter Tryz.func126,Tryz.ntmps126;go_wp2;go_ret;exact⟨rfl,rfl⟩
theorem aGh(x y:Int)(w:World):
  Calls Tryz.prog 69 #[.int .u64 x,.int .u64 y] w (yV w (.int .i64 (cmpI x y))):=by
 have c1:=yH (fun w=>aMk x w);have c2:=yH (fun w=>aMk y w);rcases Int.lt_trichotomy x y with h|h|h
 ·rw[show cmpI x y = -1 by unfold cmpI;rw[if_pos h]];go_enter Tryz.func69,Tryz.ntmps69;go_wp2_with fail;refine(c1.out _).mono ?_;rintro e w1 ⟨rfl,rfl⟩;go_wp2_with fail;refine(c2.out _).mono ?_;rintro e w1 ⟨rfl,rfl⟩;go_wp2_with fail;go_ret;exact⟨rfl,rfl⟩
 ·rw[show cmpI x y=0 by unfold cmpI;rw[if_neg (by omega),if_neg (by omega)]];subst h;go_enter Tryz.func69,Tryz.ntmps69;go_wp2_with fail;refine(c1.out _).mono ?_;rintro e w1 ⟨rfl,rfl⟩;go_wp2_with fail;refine(c2.out _).mono ?_;rintro e w1 ⟨rfl,rfl⟩;go_wp2_with fail;go_ret;exact⟨rfl,rfl⟩
 rw[show cmpI x y=1 by unfold cmpI;rw[if_neg (by omega),if_pos h]];have h2:¬x<y:=by omega
 go_enter Tryz.func69,Tryz.ntmps69;go_wp2_with fail;refine(c1.out _).mono ?_;rintro e w1 ⟨rfl,rfl⟩;go_wp2_with fail;refine(c2.out _).mono ?_;rintro e w1 ⟨rfl,rfl⟩;go_wp2_with fail;go_ret;exact⟨rfl,rfl⟩
theorem or_two(b cap:Nat)(p q:Int)(w:World)(hlt:b<w.heap.size)(h0:w.cell? ⟨b,0,none⟩=some (.int .i64 p))(h1:w.cell? ⟨b,1,none⟩=some (.int .i64 q)):
  Calls Tryz.prog 68 #[.slice (some ⟨b,0,none⟩) 2 cap] w (yV w (.int .i64 (orI p q))):=by
 unfold orI
 by_cases hp:p=0
 ·rw[if_pos hp];subst hp
  by_cases hq:q=0
  ·subst hq;go_enter Tryz.func68,Tryz.ntmps68;go_wp2;refine wp_loop_rounds 3 ?_;rw[rounds_succ];go_wp2;rw[rounds_succ];go_wp2;rw[rounds_succ];go_wp2;go_ret;exact⟨rfl,rfl⟩
  have hb:(q==0)=false:=by simp[hq]
  go_enter Tryz.func68,Tryz.ntmps68;go_wp2;refine wp_loop_rounds 2 ?_;rw[rounds_succ];go_wp2;rw[rounds_succ];go_wp2;go_ret;exact⟨rfl,rfl⟩
 rw[if_neg hp];have hb:(p==0)=false:=by simp[hp]
 go_enter Tryz.func68,Tryz.ntmps68;go_wp2;refine wp_loop_rounds 1 ?_;rw[rounds_succ];go_wp2;go_ret;exact⟨rfl,rfl⟩
theorem aMl(x y:Int):orI (cmpI (x/18446744073709551616) (y/18446744073709551616)) (cmpI (x%18446744073709551616) (y%18446744073709551616))=cmpI x y:=by
 unfold orI cmpI;split <;> (repeat' split at *) <;> omega
def cmpR(an ad bn bd:Int):Int:=if mayB an ad=true∧mayB bn bd=true then cmpI (an*bd) (bn*ad)else 0
theorem aC3{n d:Int}(h:mayB n d=true):1≤n∧1≤d∧n≤1099511627776∧d≤1099511627776∧Int.gcd n d=1:=(aGf n d).1 h
theorem aJf(an ad bn bd:Int)(w:World)(h1:In64 an)(h2:In64 ad)(h3:In64 bn)(h4:In64 bd):
  Calls Tryz.prog 23 #[.agg #[.int .i64 an,.int .i64 ad],.agg #[.int .i64 bn,.int .i64 bd]] w (yR w (.int .i64 (cmpR an ad bn bd))):=by
 have c1:=yH (fun w=>aFg an ad w h1 h2);have c2:=yH (fun w=>aFg bn bd w h3 h4);have k1:Blk ((w.alloc (.cells #[.int .i64 an,.int .i64 ad] 46)).alloc (.cells #[.int .i64 bn,.int .i64 bd] 46)) w.heap.size #[.int .i64 an,.int .i64 ad] 46:=(pAA _ _ _).alloc _;have k2:Blk ((w.alloc (.cells #[.int .i64 an,.int .i64 ad] 46)).alloc (.cells #[.int .i64 bn,.int .i64 bd] 46)) (w.heap.size+1) #[.int .i64 bn,.int .i64 bd] 46:=pAC _ _ _ (by simp);have b0:Below w.heap.size w ((w.alloc (.cells #[.int .i64 an,.int .i64 ad] 46)).alloc (.cells #[.int .i64 bn,.int .i64 bd] 46)):=(yZ.alloc yL _).alloc (by simp) _;have K1:=yH k1;have K2:=yH k2;have B0:=yH b0;clear k1 k2 b0 h1 h2 h3 h4
 by_cases hm:mayB an ad=true
 ·by_cases hm2:mayB bn bd=true
  ·rw[show cmpR an ad bn bd=cmpI (an*bd) (bn*ad) by unfold cmpR;rw[if_pos ⟨hm,hm2⟩],←aMl];obtain⟨p1,p2,p3,p4,_⟩:=aC3 hm;obtain⟨q1,q2,q3,q4,_⟩:=aC3 hm2;rw[hm]at c1;rw[hm2]at c2;have u1:IntKind.u64.wrap an=an:=aHn _ ⟨by omega,by omega⟩;have u2:IntKind.u64.wrap ad=ad:=aHn _ ⟨by omega,by omega⟩;have u3:IntKind.u64.wrap bn=bn:=aHn _ ⟨by omega,by omega⟩;have u4:IntKind.u64.wrap bd=bd:=aHn _ ⟨by omega,by omega⟩;have cm1:=yH (fun w=>aDq an bd w ⟨by omega,by omega⟩ ⟨by omega,by omega⟩);have cm2:=yH (fun w=>aDq bn ad w ⟨by omega,by omega⟩ ⟨by omega,by omega⟩);have cc:=yH aGh;generalize an*bd=x at *;generalize bn*ad=y at *;clear hm hm2 p1 p2 p3 p4 q1 q2 q3 q4;go_enter Tryz.func23,Tryz.ntmps23;go_wp2_with fail;refine(c1.out _).mono ?_;rintro e w1 ⟨rfl,b1⟩;have B1:=yH (B0.out.trans (b1.mono (by simp;omega)));have r1:=K1.out.below b1 K1.out.lt;have r2:=K2.out.below b1 K2.out.lt;have d0:=r1.cell 0;have d1:=r1.cell 1;have e0:=r2.cell 0;have e1:=r2.cell 1;simp at d0 d1 e0 e1;have R1:=yH r1;have R2:=yH r2;clear r1 r2 b1;go_wp2_with fail;refine(c2.out _).mono ?_;rintro e w2 ⟨rfl,b2⟩;have B2:=yT B1 b2;have r1:=R1.out.below b2 R1.out.lt;have r2:=R2.out.below b2 R2.out.lt;clear d0 d1 e0 e1;have d0:=r1.cell 0;have d1:=r1.cell 1;have e0:=r2.cell 0;have e1:=r2.cell 1;simp at d0 d1 e0 e1;clear r1 r2 b2;go_wp2_with fail;refine(cm1.out _).mono ?_;rintro e w2 ⟨rfl,rfl⟩;go_wp2_with fail;refine(cm2.out _).mono ?_;rintro e w2 ⟨rfl,rfl⟩;go_wp2_with fail;refine(cc.out _ _ _).mono ?_;rintro e w2 ⟨rfl,rfl⟩;go_wp2_with fail;refine(cc.out _ _ _).mono ?_;rintro e w2 ⟨rfl,rfl⟩;go_wp2_with fail;refine(or_two w2.heap.size _ (cmpI (x/18446744073709551616) (y/18446744073709551616)) (cmpI (x%18446744073709551616) (y%18446744073709551616)) _ (by simp) (by simp) (by simp)).mono ?_;rintro e w2 ⟨rfl,rfl⟩;go_wp2_with fail;go_ret;exact⟨rfl,B2.out.alloc B2.out.size _⟩
  rw[show cmpR an ad bn bd=0 by unfold cmpR;rw[if_neg (by simp[hm2])]];simp only[Bool.not_eq_true]at hm2;rw[hm]at c1;rw[hm2]at c2;clear hm hm2;go_enter Tryz.func23,Tryz.ntmps23;go_wp2_with fail;refine(c1.out _).mono ?_;rintro e w1 ⟨rfl,b1⟩;have B1:=yH (B0.out.trans (b1.mono (by simp;omega)));have r2:=K2.out.below b1 K2.out.lt;have e0:=r2.cell 0;have e1:=r2.cell 1;simp at e0 e1;clear r2 b1;go_wp2_with fail;refine(c2.out _).mono ?_;rintro e w2 ⟨rfl,b2⟩;go_wp2_with fail;go_ret;exact⟨rfl,B1.out.trans (b2.mono B1.out.size)⟩
 rw[show cmpR an ad bn bd=0 by unfold cmpR;rw[if_neg (by simp[hm])]];simp only[Bool.not_eq_true]at hm;rw[hm]at c1;clear hm;go_enter Tryz.func23,Tryz.ntmps23;go_wp2_with fail;refine(c1.out _).mono ?_;rintro e w1 ⟨rfl,b1⟩;go_wp2_with fail;go_ret;exact⟨rfl,B0.out.trans (b1.mono (by simp;omega))⟩
theorem up_le(y num n den:Int)(hy:0≤y)(hn:0≤n)(h1:1≤num)(h2:1≤den)(hn2:n≤9223372036854775807):
  (upN (y*num) den≤n)↔y≤n*den/num:=by
 rw[Int.le_ediv_iff_mul_le (by omega)];generalize y*num=x;have hm:=Int.emod_nonneg x (show den≠0 by omega);have hm2:=Int.emod_lt_of_pos x (show 0<den by omega);have hd:=Int.mul_ediv_add_emod x den;rw[Int.mul_comm n];unfold upN;generalize x/den=q at *;generalize x%den=r at *;split
 ·constructor
  ·intro h;have:=Int.mul_le_mul_of_nonneg_left h (show 0≤den by omega);omega
  intro h;rcases Int.lt_or_le n q with k|k
  ·have:=Int.mul_le_mul_of_nonneg_left (show n+1≤q by omega) (show 0≤den by omega);rw[Int.mul_add]at this;omega
  exact k
 constructor
 ·intro h;have:=Int.mul_le_mul_of_nonneg_left h (show 0≤den by omega);rw[Int.mul_add]at this;omega
 intro h;rcases Int.lt_or_le q n with k|k
 ·omega
 have:=Int.mul_le_mul_of_nonneg_left k (show 0≤den by omega);omega
def Of.may(x:Of):Prop:=(1≤x.ow∧x.ow≤16)∧(1≤x.sl∧x.sl≤8)∧(1≤x.bu∧x.bu≤8)∧x.sl≠x.bu∧(1≤x.lf∧x.lf≤1099511627776)∧mayB x.nu x.de=true
instance(x:Of):Decidable x.may:=by unfold Of.may;infer_instance
def aA4(l:List Of)(s:Int):Option Of:=l.find? fun x=>x.se==s
def noOf:Of:=⟨0,0,0,0,0,0,0⟩
def foundV(o:Option Of):Value:=match o with|some x=>.tuple #[x.val,.bool true]|none=>.tuple #[noOf.val,.bool false]
theorem findO_none{l:List Of}{s:Int}(hn:∀x∈l,(x.se==s)=false):aA4 l s=none:=by
 unfold aA4;rw[List.find?_eq_none];intro x hx;simp[hn x hx]
theorem aGz{q:Of→Prop}{l:List Of}{k:Nat}(h:k<l.length)(hn:∀x∈l.take k,q x)(hx:q l[k]):∀x∈l.take (k+1),q x:=by
 rw[List.take_succ_eq_append_getElem h];intro x hx';rcases List.mem_append.1 hx' with h1|h1
 ·exact hn x h1
 rw[List.mem_singleton]at h1;rw[h1];exact hx
theorem aCp{w:World}{b:Nat}{ls:List Of}(h:∀j,j<ls.length*7→w.cell? ⟨b,j,none⟩=(aAa ls)[j]?){k:Nat}(hk:k<ls.length):
  w.cell? ⟨b,k*7,none⟩=some (.int .u64 ls[k].se)∧w.cell? ⟨b,k*7+1,none⟩=some (.int .u8 ls[k].ow)∧w.cell? ⟨b,k*7+2,none⟩=some (.int .u8 ls[k].sl)∧w.cell? ⟨b,k*7+3,none⟩=some (.int .u8 ls[k].bu)∧w.cell? ⟨b,k*7+4,none⟩=some (.int .i64 ls[k].lf)∧w.cell? ⟨b,k*7+5,none⟩=some (.int .i64 ls[k].nu)∧w.cell? ⟨b,k*7+6,none⟩=some (.int .i64 ls[k].de):=by
 refine⟨?_,?_,?_,?_,?_,?_,?_⟩
 ·exact(h (k*7+0) (by omega)).trans (aAg ls k 0 (by omega) hk)
 ·exact(h (k*7+1) (by omega)).trans (aAg ls k 1 (by omega) hk)
 ·exact(h (k*7+2) (by omega)).trans (aAg ls k 2 (by omega) hk)
 ·exact(h (k*7+3) (by omega)).trans (aAg ls k 3 (by omega) hk)
 ·exact(h (k*7+4) (by omega)).trans (aAg ls k 4 (by omega) hk)
 ·exact(h (k*7+5) (by omega)).trans (aAg ls k 5 (by omega) hk)
 exact(h (k*7+6) (by omega)).trans (aAg ls k 6 (by omega) hk)
theorem aAb{P:Program}{ops:Array Oper}{rest:List Oper}{o:Oper}{a:Act}{w:World}{Q:Exit→Act→World→Prop}(hgd:o.guard=none)(ty:TypeId)(x y:Operand)(ho:o.op=.store ty x y)
  (g:Nat)(cells:Array Value)(hx:a.eval x=.pointer (some ⟨g,0,none⟩))(hy:a.eval y=.agg cells)
  (t:TypeId)(old:Array Value)(hg:w.heap[g]? = some (.cells old t (0,0)))(hi:(P.info? ty).map (·.size)=some cells.size)
  (hold:old.size=cells.size)(h1:cells.all (·.oneCell')=true)
  (h:wpList P ops Q rest (a.put o.dst undef) (w.setRow g cells)):wpList P ops Q (o::rest) a w:=
 wpList_plain hgd fun _ hK=>wp_store_row ty x y ho g cells hx hy t old hg hi hold h1 (hK _ _ h)
def Of.put(s n:Int)(x:Of):Of:=if x.se=s then{ x with lf:=n }else x
def setO(l:List Of)(s n:Int):List Of:=(l.map (Of.put s n)).filter fun x=>decide (0<x.lf)
theorem setO_len(l:List Of)(s n:Int):(setO l s n).length≤l.length:=by
 unfold setO;exact Nat.le_trans (List.length_filter_le _ _) (by simp)
def aGi(l:List Of)(ow s:Int):Int:=match aA4 l s with|none=>0|some x=>if x.ow=ow then x.lf else 0
def aDs(l:List Of)(ow s:Int):Int:=match aA4 l s with|none=>7|some x=>if x.ow=ow then 0 else 15
def aGj(l:List Of)(ow s:Int):List Of:=if aDs l ow s=0 then setO l s 0 else l
def aE2(l:List Of)(s n:Int):Int:=match aA4 l s with|none=>7|some x=>if n<1∨x.lf<n then 1 else 0
def aOi(l:List Of)(s:Int):Int:=match aA4 l s with|none=>0|some x=>x.lf
def aC4(l:List Of)(s n:Int):List Of:=if aE2 l s n=0 then setO l s (aOi l s - n)else l
theorem aCq{l:List Of}{s:Int}{x:Of}(h:aA4 l s=some x):x∈l∧x.se=s:=by
 unfold aA4 at h;exact⟨List.mem_of_find?_eq_some h,by have:=List.find?_some h;simpa using this⟩
structure PB(w:World)(base g:Nat)(l:List Of)(N:Int)(vl:Value):Prop where
 blk:Blk w g #[vl,.int .u64 N] 63
 ge:base≤g
 row:w.ownsRow base 129 7 vl l.length (aAa l)
def Foot(g:Nat)(vl:Value)(b:Nat):Prop:=b=g∨vl.ownBlock=some b
def aDt(w:World)(vl vl':Value):Prop:=∀b,vl'.ownBlock=some b→vl.ownBlock=some b∨w.heap.size≤b
theorem aDt.refl(w:World)(vl:Value):aDt w vl vl:=fun _ h=>.inl h
theorem aDt.of_le{w w':World}{vl vl':Value}(h:aDt w' vl vl')(hle:w.heap.size≤w'.heap.size):aDt w vl vl':=fun b hb=>(h b hb).imp id (fun q=>Nat.le_trans hle q)
theorem PB.keep{S:Nat→Prop}{w w':World}{base g:Nat}{l:List Of}{N:Int}{vl:Value}(h:PB w base g l N vl)(k:Keep S w w')(h1:¬S g)(h2:∀b,vl.ownBlock=some b→¬S b):PB w' base g l N vl:=⟨h.blk.keep k h1,h.ge,aBk h.row k h2⟩
theorem PB.below{w w':World}{base g:Nat}{l:List Of}{N:Int}{vl:Value}(h:PB w base g l N vl)(k:Below w.heap.size w w'):PB w' base g l N vl:=h.keep (pAD (S:=fun _=>False) k) id (fun _ _=>id)
theorem PB.lt{w:World}{base g:Nat}{l:List Of}{N:Int}{vl:Value}(h:PB w base g l N vl){b:Nat}(hb:Foot g vl b):base≤b∧b<w.heap.size:=by
 rcases hb with rfl|hb
 ·exact⟨h.ge,h.blk.lt⟩
 exact⟨(aAi h.row hb).1,(aAi h.row hb).2.1⟩
theorem PB.apart{w:World}{base g:Nat}{l:List Of}{N:Int}{vl:Value}(h:PB w base g l N vl):∀b,vl.ownBlock=some b→b≠g:=aB3 h.row h.blk (by decide)
structure BInv(l:List Of)(N:Int):Prop where
 may:∀x∈l,x.may
 rise:l.Pairwise fun x y=>x.se<y.se
 bd:∀x∈l,1≤x.se∧x.se<N
 len:l.length≤32
 n1:1≤N
 n2:N≤18446744073709551615
theorem BInv.nil{N:Int}(h1:1≤N)(h2:N≤18446744073709551615):BInv [] N:=⟨by simp,List.Pairwise.nil,by simp,by simp,h1,h2⟩
theorem Of.may.fits{x:Of}(h:x.may)(h1:0≤x.se∧x.se≤18446744073709551615):x.Fits:=by
 obtain⟨⟨a1,a2⟩,⟨b1,b2⟩,⟨c1,c2⟩,_,⟨d1,d2⟩,e⟩:=h;obtain⟨r1,r2,r3,r4,_⟩:=aC3 e;exact⟨h1,⟨by omega,by omega⟩,⟨by omega,by omega⟩,⟨by omega,by omega⟩,⟨by omega,by omega⟩,⟨by omega,by omega⟩,⟨by omega,by omega⟩⟩
theorem BInv.fits{l:List Of}{N:Int}(h:BInv l N){x:Of}(hx:x∈l):x.Fits:=by
 have:=h.bd x hx;have:=h.n2;exact(h.may x hx).fits ⟨by omega,by omega⟩
theorem aMm(c:Int)(w:World):
  Calls Tryz.prog 142 #[.int .u8 c] w fun e w'=>e=.returned (.bool (decide (1≤c∧c≤8)))∧w'=w:=by
 by_cases h1:1≤c
 ·have e1:decide (1≤c)=true:=by simpa using h1
  by_cases h2:c≤8
  ·rw[decide_eq_true ⟨h1,h2⟩];have e2:decide (c≤8)=true:=by simpa using h2
   clear h1 h2;go_enter Tryz.func142,Tryz.ntmps142;go_wp2;go_ret;exact⟨rfl,rfl⟩
  rw[decide_eq_false (fun k=>h2 k.2)];have e2:decide (c≤8)=false:=by simpa using h2
  clear h1 h2;go_enter Tryz.func142,Tryz.ntmps142;go_wp2;go_ret;exact⟨rfl,rfl⟩
 rw[decide_eq_false (fun k=>h1 k.1)];have e1:decide (1≤c)=false:=by simpa using h1
 clear h1;go_enter Tryz.func142,Tryz.ntmps142;go_wp2;go_ret;exact⟨rfl,rfl⟩
theorem pmay_any(x:Of)(w:World)(hf:x.Fits):
  Calls Tryz.prog 93 #[.agg #[.int .u64 x.se,.int .u8 x.ow,.int .u8 x.sl,.int .u8 x.bu,.int .i64 x.lf,.int .i64 x.nu,.int .i64 x.de]] w (yR w (.bool (decide x.may))):=by
 have B0:=yH ((Below.refl w.heap.size w).alloc yL (.cells #[.int .u64 x.se,.int .u8 x.ow,.int .u8 x.sl,.int .u8 x.bu,.int .i64 x.lf,.int .i64 x.nu,.int .i64 x.de] 129));have C:=yH (fun w=>aFg x.nu x.de w hf.nu hf.de);have C1:=yH (fun w=>aMm x.sl w);have C2:=yH (fun w=>aMm x.bu w);clear hf
 by_cases h0:¬1≤x.ow
 ·rw[decide_eq_false (fun k:x.may=>by have:=k.1;omega)];clear C C1 C2;have e1:decide (1≤x.ow)=false:=by simpa using h0
  clear h0;go_enter Tryz.func93,Tryz.ntmps93;go_wp2_with fail;go_ret;exact⟨rfl,B0.out⟩
 have h0:=Decidable.not_not.1 h0;have e1:decide (1≤x.ow)=true:=by simpa using h0
 by_cases h1:¬x.ow≤16
 ·rw[decide_eq_false (fun k:x.may=>by have:=k.1;omega)];clear C C1 C2;have e2:decide (x.ow≤16)=false:=by simpa using h1
  clear h0 h1;go_enter Tryz.func93,Tryz.ntmps93;go_wp2_with fail;go_ret;exact⟨rfl,B0.out⟩
 have h1:=Decidable.not_not.1 h1;have e2:decide (x.ow≤16)=true:=by simpa using h1
 by_cases h2:¬(1≤x.sl∧x.sl≤8)
 ·rw[decide_eq_false (fun k:x.may=>h2 k.2.1)];rw[decide_eq_false h2]at C1;clear C C2 h0 h1 h2;go_enter Tryz.func93,Tryz.ntmps93;go_wp2_with fail;refine(C1.out _).mono ?_;rintro e w1 ⟨rfl,rfl⟩;go_wp2_with fail;go_ret;exact⟨rfl,B0.out⟩
 have h2:=Decidable.not_not.1 h2;rw[decide_eq_true h2]at C1
 by_cases h3:¬(1≤x.bu∧x.bu≤8)
 ·rw[decide_eq_false (fun k:x.may=>h3 k.2.2.1)];rw[decide_eq_false h3]at C2;clear C h0 h1 h2 h3;go_enter Tryz.func93,Tryz.ntmps93;go_wp2_with fail;refine(C1.out _).mono ?_;rintro e w1 ⟨rfl,rfl⟩;go_wp2_with fail;refine(C2.out _).mono ?_;rintro e w1 ⟨rfl,rfl⟩;go_wp2_with fail;go_ret;exact⟨rfl,B0.out⟩
 have h3:=Decidable.not_not.1 h3;rw[decide_eq_true h3]at C2
 by_cases h4:x.sl=x.bu
 ·rw[decide_eq_false (fun k:x.may=>k.2.2.2.1 h4)];have e3:(x.sl==x.bu)=true:=by simpa using h4
  have e4:(x.sl != x.bu)=false:=by simpa using h4
  clear C h0 h1 h2 h3 h4;go_enter Tryz.func93,Tryz.ntmps93;go_wp2_with fail;refine(C1.out _).mono ?_;rintro e w1 ⟨rfl,rfl⟩;go_wp2_with fail;refine(C2.out _).mono ?_;rintro e w1 ⟨rfl,rfl⟩;go_wp2_with fail;go_ret;exact⟨rfl,B0.out⟩
 have e3:(x.sl==x.bu)=false:=by simpa using h4
 have e4:(x.sl != x.bu)=true:=by simpa using h4
 by_cases h5:¬1≤x.lf
 ·rw[decide_eq_false (fun k:x.may=>by have:=k.2.2.2.2.1;omega)];have e5:decide (1≤x.lf)=false:=by simpa using h5
  clear C h0 h1 h2 h3 h4 h5;go_enter Tryz.func93,Tryz.ntmps93;go_wp2_with fail;refine(C1.out _).mono ?_;rintro e w1 ⟨rfl,rfl⟩;go_wp2_with fail;refine(C2.out _).mono ?_;rintro e w1 ⟨rfl,rfl⟩;go_wp2_with fail;go_ret;exact⟨rfl,B0.out⟩
 have h5:=Decidable.not_not.1 h5;have e5:decide (1≤x.lf)=true:=by simpa using h5
 by_cases h6:¬x.lf≤1099511627776
 ·rw[decide_eq_false (fun k:x.may=>by have:=k.2.2.2.2.1;omega)];have e6:decide (x.lf≤1099511627776)=false:=by simpa using h6
  clear C h0 h1 h2 h3 h4 h5 h6;go_enter Tryz.func93,Tryz.ntmps93;go_wp2_with fail;refine(C1.out _).mono ?_;rintro e w1 ⟨rfl,rfl⟩;go_wp2_with fail;refine(C2.out _).mono ?_;rintro e w1 ⟨rfl,rfl⟩;go_wp2_with fail;go_ret;exact⟨rfl,B0.out⟩
 have h6:=Decidable.not_not.1 h6;have e6:decide (x.lf≤1099511627776)=true:=by simpa using h6
 have hd:decide x.may=mayB x.nu x.de:=by
  cases hb:mayB x.nu x.de with
  | true=>exact decide_eq_true ⟨⟨h0,h1⟩,h2,h3,h4,⟨h5,h6⟩,hb⟩
  | false=>exact decide_eq_false (fun k=>by have:=k.2.2.2.2.2;rw[hb]at this;cases this)
 rw[hd];clear hd h0 h1 h2 h3 h4 h5 h6;generalize mayB x.nu x.de=r at *;go_enter Tryz.func93,Tryz.ntmps93;go_wp2_with fail;refine(C1.out _).mono ?_;rintro e w1 ⟨rfl,rfl⟩;go_wp2_with fail;refine(C2.out _).mono ?_;rintro e w1 ⟨rfl,rfl⟩;go_wp2_with fail;refine(C.out _).mono ?_;rintro e w1 ⟨rfl,b1⟩;have B1:=yT B0 b1;clear b1 C B0;go_wp2_with fail;go_ret;exact⟨rfl,B1.out⟩
theorem pnew_any(w:World)(base:Nat)(hb:base≤w.heap.size):
  Calls Tryz.prog 16 #[] w fun e w'=>e=.returned (.pointer (some ⟨w.heap.size,0,none⟩))∧PB w' base w.heap.size [] 1 (.slice none 0 0)∧Below w.heap.size w w':=by
 have K:=yH (pAA w #[.slice none 0 0,.int .u64 1] 63);go_enter Tryz.func16,Tryz.ntmps16;go_wp2;go_ret;exact⟨rfl,⟨K.out,hb,World.ownsRow_nil _ _ _ _⟩,yZ.alloc yL _⟩
theorem aG0{w:World}{g:Nat}{vl:Value}{N:Int}(h:Blk w g #[vl,.int .u64 N] 63):
  Calls Tryz.prog 27 #[.pointer (some ⟨g,0,none⟩)] w (yS w (.int .u64 N)):=by
 have hl:=h.lt;have d1:=h.cell 1;simp at d1;clear h;go_enter Tryz.func27,Tryz.ntmps27;go_wp2;go_ret;exact⟨rfl,rfl⟩
theorem aJg{w:World}{g:Nat}{vl:Value}{N:Int}(h:Blk w g #[vl,.int .u64 N] 63)(h1:1≤N):
  Calls Tryz.prog 92 #[.pointer (some ⟨g,0,none⟩)] w (yS w (.bool true)):=by
 have C:=yH (aG0 h);have e1:(N==0)=false:=by simp;omega
 have e2:(N != 0)=true:=by simp;omega
 clear h h1;go_enter Tryz.func92,Tryz.ntmps92;go_wp2_with fail;refine C.out.mono ?_;rintro e w ⟨rfl,rfl⟩;go_wp2_with fail;go_ret;exact⟨rfl,rfl⟩
theorem ball_any{w:World}{g:Nat}{ao:Option Addr}{n c:Nat}{N:Int}(h:Blk w g #[.slice ao n c,.int .u64 N] 63):
  Calls Tryz.prog 65 #[.pointer (some ⟨g,0,none⟩)] w (yS w (.slice ao n c)):=by
 have hl:=h.lt;have d1:=h.cell 0;simp at d1;clear h;go_enter Tryz.func65,Tryz.ntmps65;go_wp2;go_ret;exact⟨rfl,rfl⟩
end Go.Proofs.YtaeocliklpcgmaaGreat
