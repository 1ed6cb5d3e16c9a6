/- Pieces of one proof. -/
import Derived.Test.YtojbmnbphdcjfaaGreatP20
import Derived.ScopeJumps
import Derived.WalkMore
import Derived.LoopN
set_option linter.all false
set_option maxHeartbeats 64000000
set_option maxRecDepth 100000
namespace Go.Proofs.YtojbmnbphdcjfaaGreat
open Go.RowKit
theorem aJv(a b:Int):(if a<b then b else a)=max a b:=by split <;> omega
theorem aN6(x y k:Int):Int.gcd (x - y*k) y=Int.gcd x y:=by
 rw[Int.sub_eq_add_neg,←Int.mul_neg];exact Int.gcd_add_mul_left_left y x (-k)
theorem aH0(x y k:Int)(hy:1≤y)(hxy:y<x)(hk:k=max 1 (x/y - 1)):1≤x - y*k∧x - y*k<x∧1≤k∧y*k<x:=by
 have hd:=Int.mul_ediv_add_emod x y;have hm:=Int.emod_nonneg x (show y≠0 by omega)
 have hq:1≤x/y:=by
  rcases Int.lt_or_le (x/y) 1 with h|h
  ·have:=Int.emod_lt_of_pos x (show 0<y by omega);have h2:y*(x/y)≤y*0:=Int.mul_le_mul_of_nonneg_left (by omega) (by omega);omega
  exact h
 have hk1:1≤k:=by omega
 have hyk:y≤y*k:=by have:=Int.mul_le_mul_of_nonneg_left hk1 (show 0≤y by omega);omega
 have hlt:y*k<x:=by
  by_cases h:x/y=1
  ·have:k=1:=by omega
   subst this;omega
  have:k=x/y - 1:=by omega
  have e:y*k=y*(x/y) - y:=by rw[this,Int.mul_sub,Int.mul_one]
  omega
 omega
def CommonAt(g:Nat)(u v:Value):Prop:=∃x y:Int,u=.int .i64 x∧v=.int .i64 y∧1≤x∧1≤y∧x≤9223372036854775807∧y≤9223372036854775807∧Int.gcd x y=g
theorem aJw(x y:Int)(hy:1≤y)(hx:x≤9223372036854775807)(hxy:y<x):
  wrap64 (x - wrap64 (y*max 1 (wrap64 (wrap64 (x/y) - 1))))=x - y*max 1 (x/y - 1):=by
 obtain⟨h1,h2,h3,h4⟩:=aH0 x y _ hy hxy rfl;have hq0:=Int.ediv_nonneg (show 0≤x by omega) (show 0≤y by omega);have hq1:=Int.ediv_le_self y (show 0≤x by omega);rw[aB7 (x/y) ⟨by omega,by omega⟩,aB7 (x/y - 1) ⟨by omega,by omega⟩];generalize max 1 (x/y - 1)=k at *;have hyk:0≤y*k:=Int.mul_nonneg (by omega) (by omega);rw[aB7 (y*k) ⟨by omega,by omega⟩,aB7 (x - y*k) ⟨by omega,by omega⟩]
theorem common_any(a b:Int)(w:World)(ha:In64 a)(hb:In64 b)(h1:1≤a)(h2:1≤b):
  Calls Tryz.prog 179 #[.int .i64 a,.int .i64 b] w (yV w (.int .i64 (Int.gcd a b))):=by
 have HA:=yH ha;have HB:=yH hb;clear ha hb;go_enter Tryz.func179,Tryz.ntmps179;go_wp2
 go_loopw [0,1] (fun u v wr=>CommonAt (Int.gcd a b) u v∧wr=w) (fun u v _=>(intOf u+intOf v).toNat)
 case atStart=>exact⟨⟨a,b,rfl,rfl,h1,h2,HA.out.2,HB.out.2,rfl⟩,rfl⟩
 obtain⟨⟨x,y,rfl,rfl,hx1,hy1,hx2,hy2,hg⟩,rfl⟩:=hrel;have HG:=yH hg;clear hg;rcases Int.lt_trichotomy x y with hlt|heq|hgt
 ·obtain⟨q1,q2,q3,q4⟩:=aH0 y x _ hx1 hlt rfl;have hw:=aJw y x hx1 hy2 hlt;have hs:=aN6 y x (max 1 (y/x - 1));have e1:Int.tdiv y x=y/x:=Int.tdiv_eq_ediv_of_nonneg (by omega);have hne:(x==y)=false:=by simp;omega
  have hng:¬x > y:=by omega
  have HW:=yH hw;have HS:=yH hs;have Q1:=yH q1;have Q2:=yH q2;have HL:=yH hy2;have HX:=yH hx2;clear hw hs q1 q2 q3 q4;go_wp2;refine⟨⟨⟨x,_,rfl,rfl,hx1,?_,hx2,?_,?_⟩,trivial⟩,?_⟩
  ·(try rw[aJv]);rw[HW.out];exact Q1.out
  ·(try rw[aJv]);rw[HW.out];have:=Q2.out;omega
  ·(try rw[aJv]);rw[HW.out,Int.gcd_comm,HS.out,Int.gcd_comm];exact HG.out
  (try rw[aJv]);rw[HW.out];have:=Q1.out;have:=Q2.out;simp[intOf];omega
 ·subst heq;have e:Int.gcd x x=x:=by rw[Int.gcd_self];omega
  have hnn:(x != x)=false:=by simp
  go_wp2;go_ret;exact⟨by rw[←HG.out,e];rfl,rfl⟩
 obtain⟨q1,q2,q3,q4⟩:=aH0 x y _ hy1 hgt rfl;have hw:=aJw x y hy1 hx2 hgt;have hs:=aN6 x y (max 1 (x/y - 1));have e1:Int.tdiv x y=x/y:=Int.tdiv_eq_ediv_of_nonneg (by omega);have hne:(x==y)=false:=by simp;omega
 have HW:=yH hw;have HS:=yH hs;have Q1:=yH q1;have Q2:=yH q2;clear hw hs q1 q2 q3 q4;go_wp2;refine⟨⟨⟨_,y,rfl,rfl,?_,hy1,?_,hy2,?_⟩,trivial⟩,?_⟩
 ·(try rw[aJv]);rw[HW.out];exact Q1.out
 ·(try rw[aJv]);rw[HW.out];have:=Q2.out;omega
 ·(try rw[aJv]);rw[HW.out,HS.out];exact HG.out
 (try rw[aJv]);rw[HW.out];have:=Q1.out;have:=Q2.out;simp[intOf];omega
def MayN(n d:Int):Prop:=1≤n∧1≤d∧n≤1099511627776∧d≤1099511627776∧Int.gcd n d=1
instance(n d:Int):Decidable (MayN n d):=inferInstanceAs (Decidable (_∧_))
def mayB(n d:Int):Bool:=decide (MayN n d)
theorem aKg{n d:Int}(h:¬(1≤n∧1≤d∧n≤1099511627776∧d≤1099511627776)):mayB n d=false:=
 decide_eq_false (fun k:MayN n d=>h ⟨k.1,k.2.1,k.2.2.1,k.2.2.2.1⟩)
theorem mayB_in{n d:Int}(h:1≤n∧1≤d∧n≤1099511627776∧d≤1099511627776):mayB n d=((Int.gcd n d:Int)==1):=by
 by_cases k:Int.gcd n d=1
 ·have e1:mayB n d=true:=decide_eq_true (show MayN n d from⟨h.1,h.2.1,h.2.2.1,h.2.2.2,k⟩);rw[e1,k];rfl
 have e1:mayB n d=false:=decide_eq_false (fun e:MayN n d=>k e.2.2.2.2);rw[e1];symm;simp;omega
theorem aE1(n d:Int)(w:World):
  Calls Tryz.prog 135 #[.agg #[.int .i64 n,.int .i64 d]] w (yR w (.bool (mayB n d))):=by
 have hs:n<1∨(1≤n∧d<1)∨(1≤n∧1≤d∧1099511627776<n)∨(1≤n∧1≤d∧n≤1099511627776∧1099511627776<d)∨(1≤n∧1≤d∧n≤1099511627776∧d≤1099511627776):=by omega
 have hb:Below w.heap.size w (w.alloc (.cells #[.int .i64 n,.int .i64 d] 74)):=yZ.alloc yL _;have HB:=yH hb;clear hb;rcases hs with h1|⟨h1,h2⟩|⟨h1,h2,h3⟩|⟨h1,h2,h3,h4⟩|⟨h1,h2,h3,h4⟩
 ·have HM:=yH (aKg (n:=n) (d:=d) (by omega));go_enter Tryz.func135,Tryz.ntmps135;go_wp2;go_ret;exact⟨by rw[HM.out];rfl,HB.out⟩
 ·have HM:=yH (aKg (n:=n) (d:=d) (by omega));go_enter Tryz.func135,Tryz.ntmps135;go_wp2;go_ret;exact⟨by rw[HM.out];rfl,HB.out⟩
 ·have HM:=yH (aKg (n:=n) (d:=d) (by omega));go_enter Tryz.func135,Tryz.ntmps135;go_wp2;go_ret;exact⟨by rw[HM.out];rfl,HB.out⟩
 ·have HM:=yH (aKg (n:=n) (d:=d) (by omega));go_enter Tryz.func135,Tryz.ntmps135;go_wp2;go_ret;exact⟨by rw[HM.out];rfl,HB.out⟩
 have HM:=yH (mayB_in (n:=n) (d:=d) ⟨h1,h2,h3,h4⟩);have c:=yH (fun w=>common_any n d w ⟨by omega,by omega⟩ ⟨by omega,by omega⟩ h1 h2);go_enter Tryz.func135,Tryz.ntmps135;go_wp2_with fail;refine(c.out _).mono ?_;rintro e w1 ⟨rfl,rfl⟩;go_wp2_with fail;go_ret;exact⟨by rw[HM.out];rfl,HB.out⟩
def aM1(a n d:Int):Value:=if mayB n d then aHz a n d else .tuple #[.int .i64 0,.int .i64 1]
def upV2(a n d:Int):Value:=if mayB n d then upV a n d else .tuple #[.int .i64 0,.int .i64 1]
theorem aN7(a n d:Int)(w:World)(ha:In64 a)(hn:In64 n)(hd:In64 d):
  Calls Tryz.prog 92 #[.int .i64 a,.agg #[.int .i64 n,.int .i64 d]] w (yR w (upV2 a n d)):=by
 have c1:=yH (fun w=>aE1 n d w);have c2:=yH (fun w=>rup_any a n d w ha hn hd);have hb0:Below w.heap.size w (w.alloc (.cells #[.int .i64 n,.int .i64 d] 74)):=yZ.alloc yL _;have k0:Blk (w.alloc (.cells #[.int .i64 n,.int .i64 d] 74)) w.heap.size #[.int .i64 n,.int .i64 d] 74:=pAA _ _ _;obtain⟨x,y,hv⟩:∃x y,upV a n d=.tuple #[.int .i64 x,.int .i64 y]:=by unfold upV ans;split <;> exact⟨_,_,rfl⟩
 unfold upV2;rw[hv]at c2 ⊢;clear hv ha hn hd;have K0:=yH k0;have B0:=yH hb0;clear k0 hb0
 cases hm:mayB n d
 ·rw[hm]at c1;go_enter Tryz.func92,Tryz.ntmps92;go_wp2_with fail;refine(c1.out _).mono ?_;rintro e w1 ⟨rfl,b1⟩;go_wp2_with fail;go_ret2;exact⟨by simp,B0.out.trans (b1.mono (by simp))⟩
 rw[hm]at c1;go_enter Tryz.func92,Tryz.ntmps92;go_wp2_with fail;refine(c1.out _).mono ?_;rintro e w1 ⟨rfl,b1⟩;have k1:=K0.out.below b1 K0.out.lt;have d0:=k1.cell 0;have d1:=k1.cell 1;simp at d0 d1;go_wp2_with fail;refine(c2.out _).mono ?_;rintro e w2 ⟨rfl,b2⟩;go_wp2_with fail;go_ret2;exact⟨by simp,B0.out.trans ((b1.mono (by simp)).trans (b2.mono (by have:=b1.size;simp at this;omega)))⟩
theorem aN8(a b:Int):Int.gcd b (a%b)=Int.gcd a b:=by
 have:=aN6 a b (a/b);rw[show a - b*(a/b)=a%b by have:=Int.mul_ediv_add_emod a b;omega]at this;rw[Int.gcd_comm,this]
theorem aR8(a b:Int)(w:World)(ha:In64 a)(hb:In64 b)(h1:1≤a)(h2:1≤b):
  Calls Tryz.prog 232 #[.int .i64 a,.int .i64 b] w (yR w (.int .i64 (Int.gcd a b))):=by
 have HA:=yH ha;have HB:=yH hb;clear ha hb;go_enter Tryz.func232,Tryz.ntmps232;go_wp2;refine wp_scope_jumps 0 (fun a' w'=>Below w.heap.size w w'∧∃(x y:Int) (u2 u3 u4 u5 u6 u7 u8 u9 u10 u11:Value),a'={ tmps:=#[.int .i64 x,.int .i64 y,u2,u3,u4,u5,u6,u7,u8,u9,u10,u11],defers:=[] }∧1≤x∧0≤y∧x≤9223372036854775807∧y≤9223372036854775807∧Int.gcd x y=Int.gcd a b) (fun a' _=>(intOf (a'.tmps.getD 1 undef)).toNat) rfl ?_ ?_
 ·by_cases hb:b=0
  ·omega
  have hnb:(b==0)=false:=by simp;omega
  have HG:=yH (aN8 a b);have HLT:=yH (Int.emod_lt_of_pos a (show 0<b by omega));have HGE:=yH (Int.emod_nonneg a hb);go_wp2
  go_step3
  go_wp2
  go_region
  all_goals
   go_wp2
   go_step3
   exact⟨rfl,yZ.drew,b,_,_,_,_,_,_,_,_,_,_,_,rfl,h2,HGE.out,HB.out.2,by have:=HLT.out;have:=HB.out.2;omega,HG.out⟩
 rintro a' w' ⟨bel,x,y,u2,u3,u4,u5,u6,u7,u8,u9,u10,u11,rfl,hx,hy,hx2,hy2,hg⟩;have HG:=yH hg;clear hg
 by_cases hb:y=0
 ·subst hb;have e:((Int.gcd x 0:Nat):Int)=x:=by rw[Int.gcd_zero_right];omega
  have hnn:((0:Int)==0)=true:=rfl;go_wp2;simp only[Exit.jump];go_ret;exact⟨by rw[←HG.out,e];rfl,bel⟩
 have hnb:(y==0)=false:=by simp;omega
 have HS:=yH (aN8 x y);have HLT:=yH (Int.emod_lt_of_pos x (show 0<y by omega));have HGE:=yH (Int.emod_nonneg x hb);go_wp2
 go_region
 all_goals
  go_wp2
  go_step3
  refine⟨rfl,⟨bel.drew,y,_,_,_,_,_,_,_,_,_,_,_,rfl,by omega,HGE.out,hy2,by have:=HLT.out;omega,by rw[HS.out];exact HG.out⟩,?_⟩;have:=HLT.out;have:=HGE.out;simp[intOf];omega
def ofRN(n d:Int):Int:=if n<1∨d<1 then 0 else if 1099511627776<n/Int.gcd n d∨1099511627776<d/Int.gcd n d then 0 else n/Int.gcd n d
def ofD(n d:Int):Int:=if n<1∨d<1 then 0 else if 1099511627776<n/Int.gcd n d∨1099511627776<d/Int.gcd n d then 0 else d/Int.gcd n d
def ofE(n d:Int):Int:=if n<1∨d<1 then 1 else if 1099511627776<n/Int.gcd n d∨1099511627776<d/Int.gcd n d then 10 else 0
def ofV(n d:Int):Value:=.tuple #[.agg #[.int .i64 (ofRN n d),.int .i64 (ofD n d)],.int .i64 (ofE n d)]
theorem ofV_arg{n d:Int}(h:n<1∨d<1):ofV n d=.tuple #[.agg #[.int .i64 0,.int .i64 0],.int .i64 1]:=by simp[ofV,ofRN,ofD,ofE,h]
theorem ofV_over{n d g:Int}(h:1≤n)(h2:1≤d)(hg:(Int.gcd n d:Int)=g)(ho:1099511627776<n/g∨1099511627776<d/g):ofV n d=.tuple #[.agg #[.int .i64 0,.int .i64 0],.int .i64 10]:=by
 have hn:¬(n<1∨d<1):=by omega
 subst hg;simp[ofV,ofRN,ofD,ofE,hn,ho]
theorem ofV_good{n d g:Int}(h:1≤n)(h2:1≤d)(hg:(Int.gcd n d:Int)=g)(ho:¬(1099511627776<n/g∨1099511627776<d/g)):ofV n d=.tuple #[.agg #[.int .i64 (n/g),.int .i64 (d/g)],.int .i64 0]:=by
 have hn:¬(n<1∨d<1):=by omega
 subst hg;simp[ofV,ofRN,ofD,ofE,hn,ho]
theorem gcd_bd{n d:Int}(h:1≤n)(hd:1≤d):(1:Int)≤Int.gcd n d∧0≤n/Int.gcd n d∧n/Int.gcd n d≤n∧0≤d/Int.gcd n d∧d/Int.gcd n d≤d:=by
 have h1:0<Int.gcd n d:=Int.gcd_pos_of_ne_zero_left _ (by omega);exact⟨by omega,Int.ediv_nonneg (by omega) (by omega),Int.ediv_le_self _ (by omega),Int.ediv_nonneg (by omega) (by omega),Int.ediv_le_self _ (by omega)⟩
theorem of_arg(n d:Int)(w:World)(h:n<1∨d<1):
  Calls Tryz.prog 213 #[.int .i64 n,.int .i64 d] w (yR w (ofV n d)):=by
 rw[ofV_arg h];have q2:Blk (w.alloc (.cells #[.int .i64 0,.int .i64 0] 74)) w.heap.size #[.int .i64 0,.int .i64 0] 74:=pAA _ _ _;have hlt:=q2.lt;clear q2;have hs:n<1∨(1≤n∧d<1):=by omega
 clear h;rcases hs with h1|⟨h1,h2⟩
 all_goals
  go_enter Tryz.func213,Tryz.ntmps213;go_wp2;refine bodyPost_ret (v:=.tuple #[.agg #[.int .i64 0,.int .i64 0],.int .i64 1]) (aAh rfl _ _ w.heap.size 74 #[.int .i64 0,.int .i64 0] _ _ rfl (pAA w #[.int .i64 0,.int .i64 0] 74).out Tryz.underlying74 rfl (by kernel_rfl) rfl) rfl ⟨rfl,?_⟩;exact(yZ.alloc yL _)
theorem of_two(n d g x y:Int)(w:World)(h1:1≤n)(h2:1≤d)(hn:In64 n)(hd:In64 d)(hg:(Int.gcd n d:Int)=g)(hx:n/g=x)(hy:d/g=y)(hx0:0≤x)(hy0:0≤y)(hxn:x≤n)(hyd:y≤d)(hg0:1≤g):
  Calls Tryz.prog 213 #[.int .i64 n,.int .i64 d] w fun e w'=>e=.returned (if 1099511627776<x∨1099511627776<y then .tuple #[.agg #[.int .i64 0,.int .i64 0],.int .i64 10]else .tuple #[.agg #[.int .i64 x,.int .i64 y],.int .i64 0])∧Below w.heap.size w w':=by
 have c:=yH (fun w=>aR8 n d w hn hd h1 h2);rw[hg]at c;have e1:Int.tdiv n g=x:=by rw[←hx];exact Int.tdiv_eq_ediv_of_nonneg (by omega)
 have e2:Int.tdiv d g=y:=by rw[←hy];exact Int.tdiv_eq_ediv_of_nonneg (by omega)
 have ew1:wrap64 x=x:=aB7 x ⟨by omega,by have:=hn.2;omega⟩;have ew2:wrap64 y=y:=aB7 y ⟨by omega,by have:=hd.2;omega⟩;have q2:Blk (w.alloc (.cells #[.int .i64 0,.int .i64 0] 74)) w.heap.size #[.int .i64 0,.int .i64 0] 74:=pAA _ _ _;have b0:Below w.heap.size w (w.alloc (.cells #[.int .i64 0,.int .i64 0] 74)):=yZ.alloc yL _;have Q2:=yH q2;have B0:=yH b0;have hs:1099511627776<x∨(x≤1099511627776∧1099511627776<y)∨(x≤1099511627776∧y≤1099511627776):=by omega
 clear q2 b0 hn hd;rcases hs with o1|⟨o1,o2⟩|⟨o1,o2⟩
 ·rw[if_pos (.inl o1)];go_enter Tryz.func213,Tryz.ntmps213;go_wp2_with fail;refine(c.out _).mono ?_;rintro e w1 ⟨rfl,bw⟩;have k1:=Q2.out.below bw Q2.out.lt;have B1:=yH (B0.out.trans (bw.mono (by simp)));have d0:=k1.cell 0;have d1:=k1.cell 1;simp at d0 d1;have f1:=k1.frozen;have hz:=k1.lt;have K1:=yH k1;clear k1 bw;go_wp2
  go_region
  all_goals
   go_wp2;refine bodyPost_ret (v:=.tuple #[.agg #[.int .i64 0,.int .i64 0],.int .i64 10]) (aAh rfl _ _ w.heap.size 74 #[.int .i64 0,.int .i64 0] _ _ rfl (Blk.drew (((K1.out.set 0 (.int .i64 0)).set 1 (.int .i64 0)).alloc _)).out Tryz.underlying74 rfl (by kernel_rfl) rfl) rfl ⟨rfl,?_⟩
   first
   | exact((((B1.out.alloc B1.out.size _).drew).setCell yL _).setCell yL _)
   | exact((((B1.out.setCell yL _).setCell yL _).alloc (by simpa using B1.out.size) _).drew)
 ·rw[if_pos (.inr o2)];go_enter Tryz.func213,Tryz.ntmps213;go_wp2_with fail;refine(c.out _).mono ?_;rintro e w1 ⟨rfl,bw⟩;have k1:=Q2.out.below bw Q2.out.lt;have B1:=yH (B0.out.trans (bw.mono (by simp)));have d0:=k1.cell 0;have d1:=k1.cell 1;simp at d0 d1;have f1:=k1.frozen;have hz:=k1.lt;have K1:=yH k1;clear k1 bw;go_wp2
  go_region
  all_goals
   go_wp2;refine bodyPost_ret (v:=.tuple #[.agg #[.int .i64 0,.int .i64 0],.int .i64 10]) (aAh rfl _ _ w.heap.size 74 #[.int .i64 0,.int .i64 0] _ _ rfl (Blk.drew (((K1.out.set 0 (.int .i64 0)).set 1 (.int .i64 0)).alloc _)).out Tryz.underlying74 rfl (by kernel_rfl) rfl) rfl ⟨rfl,?_⟩
   first
   | exact((((B1.out.alloc B1.out.size _).drew).setCell yL _).setCell yL _)
   | exact((((B1.out.setCell yL _).setCell yL _).alloc (by simpa using B1.out.size) _).drew)
 rw[if_neg (by omega)];go_enter Tryz.func213,Tryz.ntmps213;go_wp2_with fail;refine(c.out _).mono ?_;rintro e w1 ⟨rfl,bw⟩;have k1:=Q2.out.below bw Q2.out.lt;have B1:=yH (B0.out.trans (bw.mono (by simp)));have d0:=k1.cell 0;have d1:=k1.cell 1;simp at d0 d1;have f1:=k1.frozen;have hz:=k1.lt;have K1:=yH k1;clear k1 bw;go_wp2
 go_region
 all_goals
  go_wp2;refine bodyPost_ret (v:=.tuple #[.agg #[.int .i64 x,.int .i64 y],.int .i64 0]) (aAh rfl _ _ w.heap.size 74 #[.int .i64 x,.int .i64 y] _ _ rfl (Blk.drew (((K1.out.set 0 (.int .i64 x)).set 1 (.int .i64 y)).alloc _)).out Tryz.underlying74 rfl (by kernel_rfl) rfl) rfl ⟨rfl,?_⟩
  first
  | exact((((B1.out.alloc B1.out.size _).drew).setCell yL _).setCell yL _)
  | exact((((B1.out.setCell yL _).setCell yL _).alloc (by simpa using B1.out.size) _).drew)
theorem of_rat(n d:Int)(w:World)(hn:In64 n)(hd:In64 d):
  Calls Tryz.prog 213 #[.int .i64 n,.int .i64 d] w (yR w (ofV n d)):=by
 by_cases h:n<1∨d<1
 ·exact of_arg n d w h
 obtain⟨g0,x0,xn,y0,yd⟩:=gcd_bd (n:=n) (d:=d) (by omega) (by omega);have:=of_two n d _ _ _ w (by omega) (by omega) hn hd rfl rfl rfl x0 y0 xn yd g0;refine this.mono fun e w' ⟨he,hb⟩=>⟨?_,hb⟩
 rw[he]
 by_cases ho:1099511627776<n/Int.gcd n d∨1099511627776<d/Int.gcd n d
 ·rw[if_pos ho,ofV_over (by omega) (by omega) rfl ho]
 rw[if_neg ho,ofV_good (by omega) (by omega) rfl ho]
theorem aH1(n d:Int):mayB n d=true↔MayN n d:=by simp[mayB]
theorem of_self{n d:Int}(h:MayN n d):ofRN n d=n∧ofD n d=d:=by
 obtain⟨h1,h2,h3,h4,h5⟩:=h;have hn:¬(n<1∨d<1):=by omega
 have e1:n/(1:Int)=n:=Int.ediv_one n;have e2:d/(1:Int)=d:=Int.ediv_one d;have ho:¬(1099511627776<n∨1099511627776<d):=by omega
 simp[ofRN,ofD,hn,h5,ho]
theorem of_not{n d:Int}(h:¬MayN n d):(ofRN n d=n∧ofD n d=d∧n=0∧d=0)∨ofRN n d≠n∨ofD n d≠d:=by
 unfold ofRN ofD
 by_cases hn:n<1∨d<1
 ·rw[if_pos hn,if_pos hn];omega
 rw[if_neg hn,if_neg hn]
 by_cases ho:1099511627776<n/Int.gcd n d∨1099511627776<d/Int.gcd n d
 ·rw[if_pos ho,if_pos ho];omega
 rw[if_neg ho,if_neg ho]
 right
 rcases Classical.em (n/Int.gcd n d=n)with e|e
 ·have g1:Int.gcd n d=1:=by
   have hd:=Int.mul_ediv_cancel' (Int.gcd_dvd_left (a:=n) (b:=d));rw[e]at hd;have hnn:n*((Int.gcd n d:Int) - 1)=0:=by rw[Int.mul_sub,Int.mul_one,Int.mul_comm];omega
   rcases Int.mul_eq_zero.1 hnn with h|h <;> omega
  rw[g1]at ho;have e1:n/((1:Nat):Int)=n:=Int.ediv_one n;have e2:d/((1:Nat):Int)=d:=Int.ediv_one d;rw[e1,e2]at ho;exact absurd ⟨by omega,by omega,by omega,by omega,g1⟩ h
 exact .inl e
def alN(n d:Int):Int:=if mayB n d then n else 0
def alD(n d:Int):Int:=if mayB n d then d else 0
theorem aLi(n d:Int)(w:World)(hn:In64 n)(hd:In64 d):
  Calls Tryz.prog 178 #[.agg #[.int .i64 n,.int .i64 d]] w (yR w (.agg #[.int .i64 (alN n d),.int .i64 (alD n d)])):=by
 have c:=yH (fun w=>of_rat n d w hn hd);unfold ofV at c
 have hs:(ofRN n d=n∧ofD n d=d∧alN n d=n∧alD n d=d)∨(ofRN n d≠n∧alN n d=0∧alD n d=0)∨(ofRN n d=n∧ofD n d≠d∧alN n d=0∧alD n d=0):=by
  unfold alN alD
  by_cases hm:MayN n d
  ·rw[(aH1 n d).2 hm];obtain⟨a,b⟩:=of_self hm;exact .inl ⟨a,b,rfl,rfl⟩
  have e:mayB n d=false:=by rw[Bool.eq_false_iff];exact fun h=>hm ((aH1 n d).1 h)
  rw[e];rcases of_not hm with⟨a,b,rfl,rfl⟩|h|h
  ·exact .inl ⟨a,b,rfl,rfl⟩
  ·exact .inr (.inl ⟨h,rfl,rfl⟩)
  by_cases h':ofRN n d=n
  ·exact .inr (.inr ⟨h',h,rfl,rfl⟩)
  exact .inr (.inl ⟨h',rfl,rfl⟩)
 generalize ofRN n d=x at *;generalize ofD n d=y at *;generalize ofE n d=z at *;have k1:Blk ((w.alloc (.cells #[.int .i64 n,.int .i64 d] 74)).alloc (.cells #[.int .i64 0,.int .i64 0] 74)) w.heap.size #[.int .i64 n,.int .i64 d] 74:=(pAA _ _ _).alloc _;have k2:Blk ((w.alloc (.cells #[.int .i64 n,.int .i64 d] 74)).alloc (.cells #[.int .i64 0,.int .i64 0] 74)) (w.heap.size+1) #[.int .i64 0,.int .i64 0] 74:=pAC _ _ _ (by simp);have b0:Below w.heap.size w ((w.alloc (.cells #[.int .i64 n,.int .i64 d] 74)).alloc (.cells #[.int .i64 0,.int .i64 0] 74)):=(yZ.alloc yL _).alloc (by simp) _;have K1:=yH k1;have K2:=yH k2;have B0:=yH b0;clear k1 k2 b0 hn hd;rcases hs with⟨e1,e2,e3,e4⟩|⟨e1,e3,e4⟩|⟨e1,e2,e3,e4⟩
 ·rw[e3,e4];subst e1 e2;clear e3 e4;go_enter Tryz.func178,Tryz.ntmps178;go_wp2_with fail;refine(c.out _).mono ?_;rintro e w1 ⟨rfl,bw⟩;have q1:=K1.out.below bw K1.out.lt;have q2:=K2.out.below bw K2.out.lt;have B1:=yH (B0.out.trans (bw.mono (by simp;omega)));have d0:=q1.cell 0;have d1:=q1.cell 1;have e0:=q2.cell 0;have e1:=q2.cell 1;simp at d0 d1 e0 e1;have f2:=q2.frozen;have hz:=q1.lt;have hz2:=q2.lt;have Q1:=yH q1;have Q2:=yH q2;clear q1 q2 bw;go_wp2;refine bodyPost_ret (v:=.agg #[.int .i64 x,.int .i64 y]) (results_cell_row rfl _ _ (w.heap.size+1) 74 #[.int .i64 x,.int .i64 y] (0,0) _ rfl (((Q2.out.set 0 (.int .i64 x)).set 1 (.int .i64 y)).alloc _).out Tryz.underlying74 rfl (by kernel_rfl)) rfl ⟨by simp,?_⟩;exact(((B1.out.setCell (by simp) _).setCell (by simp) _).alloc (by simpa using B1.out.size) _)
 ·rw[e3,e4];have e5:(x==n)=false:=by simp[e1]
  clear e1 e3 e4;go_enter Tryz.func178,Tryz.ntmps178;go_wp2_with fail;refine(c.out _).mono ?_;rintro e w1 ⟨rfl,bw⟩;have q1:=K1.out.below bw K1.out.lt;have q2:=K2.out.below bw K2.out.lt;have B1:=yH (B0.out.trans (bw.mono (by simp;omega)));have d0:=q1.cell 0;have d1:=q1.cell 1;have e0:=q2.cell 0;have e1:=q2.cell 1;simp at d0 d1 e0 e1;have f2:=q2.frozen;have hz:=q1.lt;have hz2:=q2.lt;have Q1:=yH q1;have Q2:=yH q2;clear q1 q2 bw;go_wp2;refine bodyPost_ret (v:=.agg #[.int .i64 0,.int .i64 0]) (results_cell_row rfl _ _ (w.heap.size+1) 74 #[.int .i64 0,.int .i64 0] (0,0) _ rfl (((Q2.out.set 0 (.int .i64 0)).set 1 (.int .i64 0)).alloc _).out Tryz.underlying74 rfl (by kernel_rfl)) rfl ⟨by simp,?_⟩;exact(((B1.out.setCell (by simp) _).setCell (by simp) _).alloc (by simpa using B1.out.size) _)
 rw[e3,e4];subst e1;have e5:(y==d)=false:=by simp[e2]
 clear e2 e3 e4;go_enter Tryz.func178,Tryz.ntmps178;go_wp2_with fail;refine(c.out _).mono ?_;rintro e w1 ⟨rfl,bw⟩;have q1:=K1.out.below bw K1.out.lt;have q2:=K2.out.below bw K2.out.lt;have B1:=yH (B0.out.trans (bw.mono (by simp;omega)));have d0:=q1.cell 0;have d1:=q1.cell 1;have e0:=q2.cell 0;have e1:=q2.cell 1;simp at d0 d1 e0 e1;have f2:=q2.frozen;have hz:=q1.lt;have hz2:=q2.lt;have Q1:=yH q1;have Q2:=yH q2;clear q1 q2 bw;go_wp2;refine bodyPost_ret (v:=.agg #[.int .i64 0,.int .i64 0]) (results_cell_row rfl _ _ (w.heap.size+1) 74 #[.int .i64 0,.int .i64 0] (0,0) _ rfl (((Q2.out.set 0 (.int .i64 0)).set 1 (.int .i64 0)).alloc _).out Tryz.underlying74 rfl (by kernel_rfl)) rfl ⟨by simp,?_⟩;exact(((B1.out.setCell (by simp) _).setCell (by simp) _).alloc (by simpa using B1.out.size) _)
theorem aN9(n d:Int):(mayB n d=true∧alN n d=n∧alD n d=d∧1≤n∧1≤d∧n≤1099511627776∧d≤1099511627776)∨(mayB n d=false∧alN n d=0∧alD n d=0):=by
 unfold alN alD
 by_cases hm:MayN n d
 ·rw[(aH1 n d).2 hm];exact .inl ⟨rfl,rfl,rfl,hm.1,hm.2.1,hm.2.2.1,hm.2.2.2.1⟩
 have e:mayB n d=false:=by rw[Bool.eq_false_iff];exact fun h=>hm ((aH1 n d).1 h)
 rw[e];exact .inr ⟨rfl,rfl,rfl⟩
theorem aLj(n d:Int)(w:World)(hn:In64 n)(hd:In64 d):
  Calls Tryz.prog 130 #[.agg #[.int .i64 n,.int .i64 d]] w (yR w (.bool (mayB n d))):=by
 have c:=yH (fun w=>aLi n d w hn hd);have B0:=yH ((Below.refl w.heap.size w).alloc yL (.cells #[.int .i64 n,.int .i64 d] 74));clear hn hd;rcases aN9 n d with⟨hm,h1,h2,h3,h4,h5,h6⟩|⟨hm,h1,h2⟩
 ·rw[h1,h2]at c;rw[hm];have e1:(n==0)=false:=by simp;omega
  clear h1 h2 h4 h5 h6 h3;go_enter Tryz.func130,Tryz.ntmps130;go_wp2_with fail;refine(c.out _).mono ?_;rintro e w1 ⟨rfl,b1⟩;go_wp2_with fail;go_ret;exact⟨rfl,B0.out.trans (b1.mono (by simp))⟩
 rw[h1,h2]at c;rw[hm];clear h1 h2;go_enter Tryz.func130,Tryz.ntmps130;go_wp2_with fail;refine(c.out _).mono ?_;rintro e w1 ⟨rfl,b1⟩;go_wp2_with fail;go_ret;exact⟨rfl,B0.out.trans (b1.mono (by simp))⟩
theorem aR9(n d:Int)(w:World)(hn:In64 n)(hd:In64 d):
  Calls Tryz.prog 203 #[.agg #[.int .i64 n,.int .i64 d]] w (yR w (.agg #[.int .i64 (alD n d),.int .i64 (alN n d)])):=by
 have c:=yH (fun w=>aLi n d w hn hd);have k1:Blk ((w.alloc (.cells #[.int .i64 n,.int .i64 d] 74)).alloc (.cells #[.int .i64 0,.int .i64 0] 74)) w.heap.size #[.int .i64 n,.int .i64 d] 74:=(pAA _ _ _).alloc _;have k2:Blk ((w.alloc (.cells #[.int .i64 n,.int .i64 d] 74)).alloc (.cells #[.int .i64 0,.int .i64 0] 74)) (w.heap.size+1) #[.int .i64 0,.int .i64 0] 74:=pAC _ _ _ (by simp);have b0:Below w.heap.size w ((w.alloc (.cells #[.int .i64 n,.int .i64 d] 74)).alloc (.cells #[.int .i64 0,.int .i64 0] 74)):=(yZ.alloc yL _).alloc (by simp) _;have K1:=yH k1;have K2:=yH k2;have B0:=yH b0;clear k1 k2 b0 hn hd;generalize alN n d=x at *;generalize alD n d=y at *;go_enter Tryz.func203,Tryz.ntmps203;go_wp2_with fail;refine(c.out _).mono ?_;rintro e w1 ⟨rfl,bw⟩;have q1:=K1.out.below bw K1.out.lt;have q2:=K2.out.below bw K2.out.lt;have B1:=yH (B0.out.trans (bw.mono (by simp;omega)));have d0:=q1.cell 0;have d1:=q1.cell 1;have e0:=q2.cell 0;have e1:=q2.cell 1;simp at d0 d1 e0 e1;have f1:=q1.frozen;have f2:=q2.frozen;have hz:=q1.lt;have hz2:=q2.lt;have Q1:=yH q1;have Q2:=yH q2;clear q1 q2 bw;go_wp2;refine bodyPost_ret (v:=.agg #[.int .i64 y,.int .i64 x]) (results_cell_row rfl _ _ (w.heap.size+1) 74 #[.int .i64 y,.int .i64 x] (0,0) _ rfl ((((Q2.out.setOther (by simp) _).setOther (by simp) _).set 0 (.int .i64 y)).set 1 (.int .i64 x)).out Tryz.underlying74 rfl (by kernel_rfl)) rfl ⟨by simp,?_⟩;exact((((B1.out.setCell (by simp) _).setCell (by simp) _).setCell (by simp) _).setCell (by simp) _)
theorem rdown_rat(a n d:Int)(w:World)(ha:In64 a)(hn:In64 n)(hd:In64 d):
  Calls Tryz.prog 202 #[.int .i64 a,.agg #[.int .i64 n,.int .i64 d]] w (yR w (aM1 a n d)):=by
 have c1:=yH (fun w=>aLj n d w hn hd);have c2:=yH (fun w=>down_any a n d w ha hn hd);have hb0:Below w.heap.size w (w.alloc (.cells #[.int .i64 n,.int .i64 d] 74)):=yZ.alloc yL _;have k0:Blk (w.alloc (.cells #[.int .i64 n,.int .i64 d] 74)) w.heap.size #[.int .i64 n,.int .i64 d] 74:=pAA _ _ _;obtain⟨x,y,hv⟩:∃x y,aHz a n d=.tuple #[.int .i64 x,.int .i64 y]:=by unfold aHz ans;split <;> exact⟨_,_,rfl⟩
 unfold aM1;rw[hv]at c2 ⊢;clear hv ha hn hd;have K0:=yH k0;have B0:=yH hb0;clear k0 hb0
 cases hm:mayB n d
 ·rw[hm]at c1;go_enter Tryz.func202,Tryz.ntmps202;go_wp2_with fail;refine(c1.out _).mono ?_;rintro e w1 ⟨rfl,b1⟩;go_wp2_with fail;go_ret2;exact⟨by simp,B0.out.trans (b1.mono (by simp))⟩
 rw[hm]at c1;go_enter Tryz.func202,Tryz.ntmps202;go_wp2_with fail;refine(c1.out _).mono ?_;rintro e w1 ⟨rfl,b1⟩;have k1:=K0.out.below b1 K0.out.lt;have d0:=k1.cell 0;have d1:=k1.cell 1;simp at d0 d1;go_wp2_with fail;refine(c2.out _).mono ?_;rintro e w2 ⟨rfl,b2⟩;go_wp2_with fail;go_ret2;exact⟨by simp,B0.out.trans ((b1.mono (by simp)).trans (b2.mono (by have:=b1.size;simp at this;omega)))⟩
theorem rup_rat(a n d:Int)(w:World)(ha:In64 a)(hn:In64 n)(hd:In64 d):
  Calls Tryz.prog 126 #[.int .i64 a,.agg #[.int .i64 n,.int .i64 d]] w (yR w (upV2 a n d)):=by
 have c1:=yH (fun w=>aLj n d w hn hd);have c2:=yH (fun w=>up_any a n d w ha hn hd);have hb0:Below w.heap.size w (w.alloc (.cells #[.int .i64 n,.int .i64 d] 74)):=yZ.alloc yL _;have k0:Blk (w.alloc (.cells #[.int .i64 n,.int .i64 d] 74)) w.heap.size #[.int .i64 n,.int .i64 d] 74:=pAA _ _ _;obtain⟨x,y,hv⟩:∃x y,upV a n d=.tuple #[.int .i64 x,.int .i64 y]:=by unfold upV ans;split <;> exact⟨_,_,rfl⟩
 unfold upV2;rw[hv]at c2 ⊢;clear hv ha hn hd;have K0:=yH k0;have B0:=yH hb0;clear k0 hb0
 cases hm:mayB n d
 ·rw[hm]at c1;go_enter Tryz.func126,Tryz.ntmps126;go_wp2_with fail;refine(c1.out _).mono ?_;rintro e w1 ⟨rfl,b1⟩;go_wp2_with fail;go_ret2;exact⟨by simp,B0.out.trans (b1.mono (by simp))⟩
 rw[hm]at c1;go_enter Tryz.func126,Tryz.ntmps126;go_wp2_with fail;refine(c1.out _).mono ?_;rintro e w1 ⟨rfl,b1⟩;have k1:=K0.out.below b1 K0.out.lt;have d0:=k1.cell 0;have d1:=k1.cell 1;simp at d0 d1;go_wp2_with fail;refine(c2.out _).mono ?_;rintro e w2 ⟨rfl,b2⟩;go_wp2_with fail;go_ret2;exact⟨by simp,B0.out.trans ((b1.mono (by simp)).trans (b2.mono (by have:=b1.size;simp at this;omega)))⟩
theorem mayB_swap(n d:Int):mayB d n=mayB n d:=by
 unfold mayB;rw[decide_eq_decide];unfold MayN;rw[Int.gcd_comm d n]
 constructor <;> (intro h;omega)
def fitN(n num den:Int):Int:=if mayB num den=true∧0≤n then min (n*den/num) 1099511627776 else 0
theorem fits_any(n num den:Int)(w:World)(ha:In64 n)(hn:In64 num)(hd:In64 den):
  Calls Tryz.prog 170 #[.int .i64 n,.agg #[.int .i64 num,.int .i64 den]] w (yR w (.int .i64 (fitN n num den))):=by
 have c1:=yH (fun w=>aR9 num den w hn hd);have B0:=yH ((Below.refl w.heap.size w).alloc yL (.cells #[.int .i64 num,.int .i64 den] 74));have c2:=yH (fun w=>rdown_rat n (alD num den) (alN num den) w ha (by unfold alD;split <;> first|exact hd|decide) (by unfold alN;split <;> first|exact hn|decide))
 have hs:(aM1 n (alD num den) (alN num den)=.tuple #[.int .i64 0,.int .i64 1]∧fitN n num den=0)∨
   (∃q:Int,aM1 n (alD num den) (alN num den)=.tuple #[.int .i64 q,.int .i64 0]∧fitN n num den=min q 1099511627776)∨
   (aM1 n (alD num den) (alN num den)=.tuple #[.int .i64 0,.int .i64 10]∧fitN n num den=1099511627776):=by
  unfold aM1 fitN;rcases aN9 num den with⟨hm,h1,h2,h3,h4,h5,h6⟩|⟨hm,h1,h2⟩
  ·rw[h1,h2,mayB_swap,hm,if_pos rfl]
   by_cases h0:n<0
   ·exact .inl ⟨by rw[aHz,if_pos (.inl h0)],by rw[if_neg (by omega)]⟩
   rw[aHz,if_neg (by omega),if_pos ⟨rfl,by omega⟩]
   by_cases hq:In64 (n*den/num)
   ·exact .inr (.inl ⟨_,aPr _ hq,rfl⟩)
   refine .inr (.inr ⟨aLf _ hq,?_⟩);have:0≤n*den/num:=Int.ediv_nonneg (Int.mul_nonneg (by omega) (by omega)) (by omega);unfold In64 at hq;omega
  rw[h1,h2,hm];exact .inl ⟨rfl,by simp⟩
 generalize alD num den=x at *;generalize alN num den=y at *;clear ha hn hd;rcases hs with⟨e1,e2⟩|⟨q,e1,e2⟩|⟨e1,e2⟩
 all_goals
  rw[e1]at c2;rw[e2];clear e1 e2;go_enter Tryz.func170,Tryz.ntmps170;go_wp2_with fail;refine(c1.out _).mono ?_;rintro e w1 ⟨rfl,b1⟩;go_wp2_with fail;refine(c2.out _).mono ?_;rintro e w2 ⟨rfl,b2⟩;go_wp2_with fail;go_ret;exact⟨rfl,B0.out.trans ((b1.mono (by simp)).trans (b2.mono (by have:=b1.size;simp at this;omega)))⟩
def cmpI(x y:Int):Int:=if x<y then -1 else if y<x then 1 else 0
def orI(p q:Int):Int:=if p=0 then q else p
theorem aPt(x:Int)(w:World):
  Calls Tryz.prog 200 #[.int .u64 x] w (yV w (.bool false)):=by
 have hx:(x==x)=true:=by simp
 go_enter Tryz.func200,Tryz.ntmps200;go_wp2;go_ret;exact⟨rfl,rfl⟩
theorem aLk(x y:Int)(w:World):
  Calls Tryz.prog 168 #[.int .u64 x,.int .u64 y] w (yV w (.int .i64 (cmpI x y))):=by
 have c1:=yH (fun w=>aPt x w);have c2:=yH (fun w=>aPt y w);rcases Int.lt_trichotomy x y with h|h|h
 ·rw[show cmpI x y = -1 by unfold cmpI;rw[if_pos h]];go_enter Tryz.func168,Tryz.ntmps168;go_wp2_with fail;refine(c1.out _).mono ?_;rintro e w1 ⟨rfl,rfl⟩;go_wp2_with fail;refine(c2.out _).mono ?_;rintro e w1 ⟨rfl,rfl⟩;go_wp2_with fail;go_ret;exact⟨rfl,rfl⟩
 ·rw[show cmpI x y=0 by unfold cmpI;rw[if_neg (by omega),if_neg (by omega)]];subst h;go_enter Tryz.func168,Tryz.ntmps168;go_wp2_with fail;refine(c1.out _).mono ?_;rintro e w1 ⟨rfl,rfl⟩;go_wp2_with fail;refine(c2.out _).mono ?_;rintro e w1 ⟨rfl,rfl⟩;go_wp2_with fail;go_ret;exact⟨rfl,rfl⟩
 rw[show cmpI x y=1 by unfold cmpI;rw[if_neg (by omega),if_pos h]];have h2:¬x<y:=by omega
 go_enter Tryz.func168,Tryz.ntmps168;go_wp2_with fail;refine(c1.out _).mono ?_;rintro e w1 ⟨rfl,rfl⟩;go_wp2_with fail;refine(c2.out _).mono ?_;rintro e w1 ⟨rfl,rfl⟩;go_wp2_with fail;go_ret;exact⟨rfl,rfl⟩
theorem or_two(b cap:Nat)(p q:Int)(w:World)(hlt:b<w.heap.size)(h0:w.cell? ⟨b,0,none⟩=some (.int .i64 p))(h1:w.cell? ⟨b,1,none⟩=some (.int .i64 q)):
  Calls Tryz.prog 107 #[.slice (some ⟨b,0,none⟩) 2 cap] w (yV w (.int .i64 (orI p q))):=by
 unfold orI
 by_cases hp:p=0
 ·rw[if_pos hp];subst hp
  by_cases hq:q=0
  ·subst hq;go_enter Tryz.func107,Tryz.ntmps107;go_wp2;refine wp_loop_rounds 3 ?_;rw[rounds_succ];go_wp2;rw[rounds_succ];go_wp2;rw[rounds_succ];go_wp2;go_ret;exact⟨rfl,rfl⟩
  have hb:(q==0)=false:=by simp[hq]
  go_enter Tryz.func107,Tryz.ntmps107;go_wp2;refine wp_loop_rounds 2 ?_;rw[rounds_succ];go_wp2;rw[rounds_succ];go_wp2;go_ret;exact⟨rfl,rfl⟩
 rw[if_neg hp];have hb:(p==0)=false:=by simp[hp]
 go_enter Tryz.func107,Tryz.ntmps107;go_wp2;refine wp_loop_rounds 1 ?_;rw[rounds_succ];go_wp2;go_ret;exact⟨rfl,rfl⟩
theorem cmp_words(x y:Int):orI (cmpI (x/18446744073709551616) (y/18446744073709551616)) (cmpI (x%18446744073709551616) (y%18446744073709551616))=cmpI x y:=by
 unfold orI cmpI;split <;> (repeat' split at *) <;> omega
def cmpR(an ad bn bd:Int):Int:=if mayB an ad=true∧mayB bn bd=true then cmpI (an*bd) (bn*ad)else 0
theorem aE2{n d:Int}(h:mayB n d=true):1≤n∧1≤d∧n≤1099511627776∧d≤1099511627776∧Int.gcd n d=1:=(aH1 n d).1 h
theorem up_le(y num n den:Int)(hy:0≤y)(hn:0≤n)(h1:1≤num)(h2:1≤den)(hn2:n≤9223372036854775807):
  (upN (y*num) den≤n)↔y≤n*den/num:=by
 rw[Int.le_ediv_iff_mul_le (by omega)];generalize y*num=x;have hm:=Int.emod_nonneg x (show den≠0 by omega);have hm2:=Int.emod_lt_of_pos x (show 0<den by omega);have hd:=Int.mul_ediv_add_emod x den;rw[Int.mul_comm n];unfold upN;generalize x/den=q at *;generalize x%den=r at *;split
 ·constructor
  ·intro h;have:=Int.mul_le_mul_of_nonneg_left h (show 0≤den by omega);omega
  intro h;rcases Int.lt_or_le n q with k|k
  ·have:=Int.mul_le_mul_of_nonneg_left (show n+1≤q by omega) (show 0≤den by omega);rw[Int.mul_add]at this;omega
  exact k
 constructor
 ·intro h;have:=Int.mul_le_mul_of_nonneg_left h (show 0≤den by omega);rw[Int.mul_add]at this;omega
 intro h;rcases Int.lt_or_le q n with k|k
 ·omega
 have:=Int.mul_le_mul_of_nonneg_left k (show 0≤den by omega);omega
theorem upV2_test(y n num den:Int)(hm:mayB num den=true)(hy:0≤y)(hn:0≤n)(hn2:n≤9223372036854775807):
  (∃x:Int,upV2 y num den=.tuple #[.int .i64 x,.int .i64 0]∧decide (x≤n)=true∧y≤n*den/num)∨(∃x:Int,upV2 y num den=.tuple #[.int .i64 x,.int .i64 0]∧decide (x≤n)=false∧n*den/num<y)∨(upV2 y num den=.tuple #[.int .i64 0,.int .i64 10]∧n*den/num<y):=by
 obtain⟨h1,h2,h3,h4,_⟩:=aE2 hm;have hu:=up_le y num n den hy hn h1 h2 hn2
 have h0:0≤upN (y*num) den:=by
  have:=Int.ediv_nonneg (Int.mul_nonneg hy (show 0≤num by omega)) (show 0≤den by omega);unfold upN;split <;> omega
 rw[upV2,hm,if_pos rfl,upV,if_neg (by omega)]
 by_cases hi:In64 (upN (y*num) den)
 ·rw[aPr _ hi]
  by_cases hle:upN (y*num) den≤n
  ·exact .inl ⟨_,rfl,by simpa using hle,hu.1 hle⟩
  refine .inr (.inl ⟨_,rfl,by simpa using hle,?_⟩);rcases Int.lt_or_le (n*den/num) y with k|k
  ·exact k
  exact absurd (hu.2 k) hle
 rw[aLf _ hi];refine .inr (.inr ⟨rfl,?_⟩);unfold In64 at hi;rcases Int.lt_or_le (n*den/num) y with k|k
 ·exact k
 have:=hu.2 k;omega
end Go.Proofs.YtojbmnbphdcjfaaGreat
