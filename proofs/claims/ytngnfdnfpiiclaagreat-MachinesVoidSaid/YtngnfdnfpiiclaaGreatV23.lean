/-
  Pieces of one proof, without what is not wanted: RatsD, SortO2.
-/
import Derived.Test.YtngnfdnfpiiclaaGreatV01
import Derived.Test.YtngnfdnfpiiclaaGreatV02
import Derived.Test.YtngnfdnfpiiclaaGreatV13
import Derived.Test.YtngnfdnfpiiclaaGreatV15
import Derived.Test.YtngnfdnfpiiclaaGreatV22
set_option linter.unusedSimpArgs false
set_option linter.unusedVariables false
namespace Go.Proofs.YtngnfdnfpiiclaaGreat
open Go.RowKit
set_option maxHeartbeats 1000000 in
theorem divisor_any_d (a b:Int) (w:World) (ha:In64 a) (hb:In64 b) (h1:1≤a) (h2:1≤b) :
  Calls Tryz.prog 258 #[.int .i64 a,.int .i64 b] w fun e w'=>e=.returned (.int .i64 (Int.gcd a b))∧BelowD w.heap.size w w':=by
 have HA:=Lib.hid ha; have HB:=Lib.hid hb
 clear ha hb
 go_enter Tryz.func258,Tryz.ntmps258
 go_wp2
 refine wp_scope_jumps 0 (fun a' w'=>BelowD w.heap.size w w'∧∃ (x y:Int) (u2 u3 u4 u5 u6 u7 u8 u9 u10 u11:Value),a'={ tmps:=#[.int .i64 x,.int .i64 y,u2,u3,u4,u5,u6,u7,u8,u9,u10,u11],defers:=[] }∧1≤x∧0≤y∧x≤9223372036854775807∧y≤9223372036854775807∧Int.gcd x y=Int.gcd a b) (fun a' _=>(intOf (a'.tmps.getD 1 undef)).toNat) rfl ?_ ?_
 ·by_cases hb:b=0
  ·omega
  ·have hnb:(b==0)=false:=by simp; omega
   have HG:=Lib.hid (gcd_mod a b)
   have HLT:=Lib.hid (Int.emod_lt_of_pos a (show 0<b by omega)); have HGE:=Lib.hid (Int.emod_nonneg a hb)
   go_wp2
   go_step3
   go_wp2
   go_region
   all_goals
    go_wp2
    go_step3
    exact ⟨rfl,(BelowD.refl _ _).drew,b,_,_,_,_,_,_,_,_,_,_,_,rfl,h2,HGE.out,HB.out.2,by have:=HLT.out; have:=HB.out.2; omega,HG.out⟩
 ·rintro a' w' ⟨bel,x,y,u2,u3,u4,u5,u6,u7,u8,u9,u10,u11,rfl,hx,hy,hx2,hy2,hg⟩
  have HG:=Lib.hid hg
  clear hg
  by_cases hb:y=0
  ·subst hb
   have e:((Int.gcd x 0:Nat):Int)=x:=by rw [Int.gcd_zero_right]; omega
   have hnn:((0:Int)==0)=true:=rfl
   go_wp2
   simp only [Exit.jump]
   go_ret
   exact ⟨by rw [← HG.out,e]; rfl,bel⟩
  ·have hnb:(y==0)=false:=by simp; omega
   have HS:=Lib.hid (gcd_mod x y)
   have HLT:=Lib.hid (Int.emod_lt_of_pos x (show 0<y by omega)); have HGE:=Lib.hid (Int.emod_nonneg x hb)
   go_wp2
   go_region
   all_goals
    go_wp2
    go_step3
    refine ⟨rfl,⟨bel.drew,y,_,_,_,_,_,_,_,_,_,_,_,rfl,by omega,HGE.out,hy2,by have:=HLT.out; omega,by rw [HS.out]; exact HG.out⟩,?_⟩
    have:=HLT.out; have:=HGE.out
    simp [intOf]; omega
theorem of_arg_d (n d:Int) (w:World) (h:n<1∨d<1) :
  Calls Tryz.prog 223 #[.int .i64 n,.int .i64 d] w fun e w'=>e=.returned (ofV n d)∧BelowD w.heap.size w w':=by
 rw [ofV_arg h]
 have q2:Blk (w.alloc (.cells #[.int .i64 0,.int .i64 0] 73)) w.heap.size #[.int .i64 0,.int .i64 0] 73:=Blk.new _ _ _
 have hlt:=q2.lt
 clear q2
 have hs:n<1∨(1≤n∧d<1):=by omega
 clear h
 rcases hs with h1 | ⟨h1,h2⟩
 all_goals
  go_enter Tryz.func223,Tryz.ntmps223
  go_wp2
  refine bodyPost_ret (v:=.tuple #[.agg #[.int .i64 0,.int .i64 0],.int .i64 1]) (results_cell_and rfl _ _ w.heap.size 73 #[.int .i64 0,.int .i64 0] _ _ rfl (Blk.new w #[.int .i64 0,.int .i64 0] 73).out Tryz.underlying73 rfl (by kernel_rfl) rfl) rfl ⟨rfl,?_⟩
  exact ((BelowD.refl _ _).alloc (Nat.le_refl _) _)
set_option maxHeartbeats 1000000 in
theorem of_two_d (n d g x y:Int) (w:World) (h1:1≤n) (h2:1≤d) (hn:In64 n) (hd:In64 d) (hg:(Int.gcd n d:Int)=g) (hx:n / g=x) (hy:d / g=y) (hx0:0≤x) (hy0:0≤y) (hxn:x≤n) (hyd:y≤d) (hg0:1≤g) :
  Calls Tryz.prog 223 #[.int .i64 n,.int .i64 d] w fun e w'=>e=.returned (if 1099511627776<x∨1099511627776<y then .tuple #[.agg #[.int .i64 0,.int .i64 0],.int .i64 10] else .tuple #[.agg #[.int .i64 x,.int .i64 y],.int .i64 0])∧BelowD w.heap.size w w':=by
 have c:=Lib.hid (fun w=>divisor_any_d n d w hn hd h1 h2)
 rw [hg] at c
 have e1:Int.tdiv n g=x:=by rw [← hx]; exact Int.tdiv_eq_ediv_of_nonneg (by omega)
 have e2:Int.tdiv d g=y:=by rw [← hy]; exact Int.tdiv_eq_ediv_of_nonneg (by omega)
 have ew1:wrap64 x=x:=wrap64_of x ⟨by omega,by have:=hn.2; omega⟩
 have ew2:wrap64 y=y:=wrap64_of y ⟨by omega,by have:=hd.2; omega⟩
 have q2:Blk (w.alloc (.cells #[.int .i64 0,.int .i64 0] 73)) w.heap.size #[.int .i64 0,.int .i64 0] 73:=Blk.new _ _ _
 have b0:BelowD w.heap.size w (w.alloc (.cells #[.int .i64 0,.int .i64 0] 73)):=(BelowD.refl _ _).alloc (Nat.le_refl _) _
 have Q2:=Lib.hid q2; have B0:=Lib.hid b0
 have hs:1099511627776<x∨(x≤1099511627776∧1099511627776<y)∨(x≤1099511627776∧y≤1099511627776):=by omega
 clear q2 b0 hn hd
 rcases hs with o1 | ⟨o1,o2⟩ | ⟨o1,o2⟩
 ·rw [if_pos (.inl o1)]
  go_enter Tryz.func223,Tryz.ntmps223
  go_wp2_with fail
  refine (c.out _).mono ?_
  rintro e w1 ⟨rfl,bw⟩
  have k1:=Q2.out.below bw.toBelow Q2.out.lt
  have B1:=Lib.hid (B0.out.trans (bw.mono (by simp)))
  have d0:=k1.cell 0; have d1:=k1.cell 1
  simp at d0 d1
  have f1:=k1.frozen
  have hz:=k1.lt
  have K1:=Lib.hid k1
  clear k1 bw
  go_wp2
  go_region
  all_goals
   go_wp2
   refine bodyPost_ret (v:=.tuple #[.agg #[.int .i64 0,.int .i64 0],.int .i64 10]) (results_cell_and rfl _ _ w.heap.size 73 #[.int .i64 0,.int .i64 0] _ _ rfl (Blk.drew (((K1.out.set 0 (.int .i64 0)).set 1 (.int .i64 0)).alloc _)).out Tryz.underlying73 rfl (by kernel_rfl) rfl) rfl ⟨rfl,?_⟩
   first
   | exact ((((B1.out.alloc B1.out.size _).drew).setCell (Nat.le_refl _) _).setCell (Nat.le_refl _) _)
   | exact ((((B1.out.setCell (Nat.le_refl _) _).setCell (Nat.le_refl _) _).alloc (by simpa using B1.out.size) _).drew)
 ·rw [if_pos (.inr o2)]
  go_enter Tryz.func223,Tryz.ntmps223
  go_wp2_with fail
  refine (c.out _).mono ?_
  rintro e w1 ⟨rfl,bw⟩
  have k1:=Q2.out.below bw.toBelow Q2.out.lt
  have B1:=Lib.hid (B0.out.trans (bw.mono (by simp)))
  have d0:=k1.cell 0; have d1:=k1.cell 1
  simp at d0 d1
  have f1:=k1.frozen
  have hz:=k1.lt
  have K1:=Lib.hid k1
  clear k1 bw
  go_wp2
  go_region
  all_goals
   go_wp2
   refine bodyPost_ret (v:=.tuple #[.agg #[.int .i64 0,.int .i64 0],.int .i64 10]) (results_cell_and rfl _ _ w.heap.size 73 #[.int .i64 0,.int .i64 0] _ _ rfl (Blk.drew (((K1.out.set 0 (.int .i64 0)).set 1 (.int .i64 0)).alloc _)).out Tryz.underlying73 rfl (by kernel_rfl) rfl) rfl ⟨rfl,?_⟩
   first
   | exact ((((B1.out.alloc B1.out.size _).drew).setCell (Nat.le_refl _) _).setCell (Nat.le_refl _) _)
   | exact ((((B1.out.setCell (Nat.le_refl _) _).setCell (Nat.le_refl _) _).alloc (by simpa using B1.out.size) _).drew)
 ·rw [if_neg (by omega)]
  go_enter Tryz.func223,Tryz.ntmps223
  go_wp2_with fail
  refine (c.out _).mono ?_
  rintro e w1 ⟨rfl,bw⟩
  have k1:=Q2.out.below bw.toBelow Q2.out.lt
  have B1:=Lib.hid (B0.out.trans (bw.mono (by simp)))
  have d0:=k1.cell 0; have d1:=k1.cell 1
  simp at d0 d1
  have f1:=k1.frozen
  have hz:=k1.lt
  have K1:=Lib.hid k1
  clear k1 bw
  go_wp2
  go_region
  all_goals
   go_wp2
   refine bodyPost_ret (v:=.tuple #[.agg #[.int .i64 x,.int .i64 y],.int .i64 0]) (results_cell_and rfl _ _ w.heap.size 73 #[.int .i64 x,.int .i64 y] _ _ rfl (Blk.drew (((K1.out.set 0 (.int .i64 x)).set 1 (.int .i64 y)).alloc _)).out Tryz.underlying73 rfl (by kernel_rfl) rfl) rfl ⟨rfl,?_⟩
   first
   | exact ((((B1.out.alloc B1.out.size _).drew).setCell (Nat.le_refl _) _).setCell (Nat.le_refl _) _)
   | exact ((((B1.out.setCell (Nat.le_refl _) _).setCell (Nat.le_refl _) _).alloc (by simpa using B1.out.size) _).drew)
theorem of_rat_d (n d:Int) (w:World) (hn:In64 n) (hd:In64 d) :
  Calls Tryz.prog 223 #[.int .i64 n,.int .i64 d] w fun e w'=>e=.returned (ofV n d)∧BelowD w.heap.size w w':=by
 by_cases h:n<1∨d<1
 ·exact of_arg_d n d w h
 ·obtain ⟨g0,x0,xn,y0,yd⟩:=gcd_bd (n:=n) (d:=d) (by omega) (by omega)
  have:=of_two_d n d _ _ _ w (by omega) (by omega) hn hd rfl rfl rfl x0 y0 xn yd g0
  refine this.mono fun e w' ⟨he,hb⟩=>⟨?_,hb⟩
  rw [he]
  by_cases ho:1099511627776<n / Int.gcd n d∨1099511627776<d / Int.gcd n d
  ·rw [if_pos ho,ofV_over (by omega) (by omega) rfl ho]
  ·rw [if_neg ho,ofV_good (by omega) (by omega) rfl ho]
set_option maxHeartbeats 1000000 in
theorem allowed_any_d (n d:Int) (w:World) (hn:In64 n) (hd:In64 d) :
  Calls Tryz.prog 190 #[.agg #[.int .i64 n,.int .i64 d]] w fun e w'=>e=.returned (.agg #[.int .i64 (alN n d),.int .i64 (alD n d)])∧BelowD w.heap.size w w':=by
 have c:=Lib.hid (fun w=>of_rat_d n d w hn hd)
 unfold ofV at c
 have hs:(ofRN n d=n∧ofD n d=d∧alN n d=n∧alD n d=d)∨(ofRN n d≠n∧alN n d=0∧alD n d=0)∨(ofRN n d=n∧ofD n d≠d∧alN n d=0∧alD n d=0):=by
  unfold alN alD
  by_cases hm:MayN n d
  ·rw [(may_iff n d).2 hm]; obtain ⟨a,b⟩:=of_self hm; exact .inl ⟨a,b,rfl,rfl⟩
  ·have e:mayB n d=false:=by rw [Bool.eq_false_iff]; exact fun h=>hm ((may_iff n d).1 h)
   rw [e]
   rcases of_not hm with ⟨a,b,rfl,rfl⟩ | h | h
   ·exact .inl ⟨a,b,rfl,rfl⟩
   ·exact .inr (.inl ⟨h,rfl,rfl⟩)
   ·by_cases h':ofRN n d=n
    ·exact .inr (.inr ⟨h',h,rfl,rfl⟩)
    ·exact .inr (.inl ⟨h',rfl,rfl⟩)
 generalize ofRN n d=x at *
 generalize ofD n d=y at *
 generalize ofE n d=z at *
 have k1:Blk ((w.alloc (.cells #[.int .i64 n,.int .i64 d] 73)).alloc (.cells #[.int .i64 0,.int .i64 0] 73)) w.heap.size #[.int .i64 n,.int .i64 d] 73:=(Blk.new _ _ _).alloc _
 have k2:Blk ((w.alloc (.cells #[.int .i64 n,.int .i64 d] 73)).alloc (.cells #[.int .i64 0,.int .i64 0] 73)) (w.heap.size + 1) #[.int .i64 0,.int .i64 0] 73:=Blk.newAt _ _ _ (by simp)
 have b0:BelowD w.heap.size w ((w.alloc (.cells #[.int .i64 n,.int .i64 d] 73)).alloc (.cells #[.int .i64 0,.int .i64 0] 73)):=((BelowD.refl _ _).alloc (Nat.le_refl _) _).alloc (by simp) _
 have K1:=Lib.hid k1; have K2:=Lib.hid k2; have B0:=Lib.hid b0
 clear k1 k2 b0 hn hd
 rcases hs with ⟨e1,e2,e3,e4⟩ | ⟨e1,e3,e4⟩ | ⟨e1,e2,e3,e4⟩
 ·rw [e3,e4]
  subst e1 e2
  clear e3 e4
  go_enter Tryz.func190,Tryz.ntmps190
  go_wp2_with fail
  refine (c.out _).mono ?_
  rintro e w1 ⟨rfl,bw⟩
  have q1:=K1.out.below bw.toBelow K1.out.lt; have q2:=K2.out.below bw.toBelow K2.out.lt
  have B1:=Lib.hid (B0.out.trans (bw.mono (by simp; omega)))
  have d0:=q1.cell 0; have d1:=q1.cell 1; have e0:=q2.cell 0; have e1:=q2.cell 1
  simp at d0 d1 e0 e1
  have f2:=q2.frozen
  have hz:=q1.lt; have hz2:=q2.lt
  have Q1:=Lib.hid q1; have Q2:=Lib.hid q2
  clear q1 q2 bw
  go_wp2
  refine bodyPost_ret (v:=.agg #[.int .i64 x,.int .i64 y]) (results_cell_row rfl _ _ (w.heap.size + 1) 73 #[.int .i64 x,.int .i64 y] (0,0) _ rfl (((Q2.out.set 0 (.int .i64 x)).set 1 (.int .i64 y)).alloc _).out Tryz.underlying73 rfl (by kernel_rfl)) rfl ⟨by simp,?_⟩
  exact (((B1.out.setCell (by simp) _).setCell (by simp) _).alloc (by simpa using B1.out.size) _)
 ·rw [e3,e4]
  have e5:(x==n)=false:=by simp [e1]
  clear e1 e3 e4
  go_enter Tryz.func190,Tryz.ntmps190
  go_wp2_with fail
  refine (c.out _).mono ?_
  rintro e w1 ⟨rfl,bw⟩
  have q1:=K1.out.below bw.toBelow K1.out.lt; have q2:=K2.out.below bw.toBelow K2.out.lt
  have B1:=Lib.hid (B0.out.trans (bw.mono (by simp; omega)))
  have d0:=q1.cell 0; have d1:=q1.cell 1; have e0:=q2.cell 0; have e1:=q2.cell 1
  simp at d0 d1 e0 e1
  have f2:=q2.frozen
  have hz:=q1.lt; have hz2:=q2.lt
  have Q1:=Lib.hid q1; have Q2:=Lib.hid q2
  clear q1 q2 bw
  go_wp2
  refine bodyPost_ret (v:=.agg #[.int .i64 0,.int .i64 0]) (results_cell_row rfl _ _ (w.heap.size + 1) 73 #[.int .i64 0,.int .i64 0] (0,0) _ rfl (((Q2.out.set 0 (.int .i64 0)).set 1 (.int .i64 0)).alloc _).out Tryz.underlying73 rfl (by kernel_rfl)) rfl ⟨by simp,?_⟩
  exact (((B1.out.setCell (by simp) _).setCell (by simp) _).alloc (by simpa using B1.out.size) _)
 ·rw [e3,e4]
  subst e1
  have e5:(y==d)=false:=by simp [e2]
  clear e2 e3 e4
  go_enter Tryz.func190,Tryz.ntmps190
  go_wp2_with fail
  refine (c.out _).mono ?_
  rintro e w1 ⟨rfl,bw⟩
  have q1:=K1.out.below bw.toBelow K1.out.lt; have q2:=K2.out.below bw.toBelow K2.out.lt
  have B1:=Lib.hid (B0.out.trans (bw.mono (by simp; omega)))
  have d0:=q1.cell 0; have d1:=q1.cell 1; have e0:=q2.cell 0; have e1:=q2.cell 1
  simp at d0 d1 e0 e1
  have f2:=q2.frozen
  have hz:=q1.lt; have hz2:=q2.lt
  have Q1:=Lib.hid q1; have Q2:=Lib.hid q2
  clear q1 q2 bw
  go_wp2
  refine bodyPost_ret (v:=.agg #[.int .i64 0,.int .i64 0]) (results_cell_row rfl _ _ (w.heap.size + 1) 73 #[.int .i64 0,.int .i64 0] (0,0) _ rfl (((Q2.out.set 0 (.int .i64 0)).set 1 (.int .i64 0)).alloc _).out Tryz.underlying73 rfl (by kernel_rfl)) rfl ⟨by simp,?_⟩
  exact (((B1.out.setCell (by simp) _).setCell (by simp) _).alloc (by simpa using B1.out.size) _)
set_option maxHeartbeats 1000000 in
theorem may_any_d (n d:Int) (w:World) (hn:In64 n) (hd:In64 d) :
  Calls Tryz.prog 148 #[.agg #[.int .i64 n,.int .i64 d]] w fun e w'=>e=.returned (.bool (mayB n d))∧BelowD w.heap.size w w':=by
 have c:=Lib.hid (fun w=>allowed_any_d n d w hn hd)
 have B0:=Lib.hid ((BelowD.refl w.heap.size w).alloc (Nat.le_refl _) (.cells #[.int .i64 n,.int .i64 d] 73))
 clear hn hd
 rcases al_cases n d with ⟨hm,h1,h2,h3,h4,h5,h6⟩ | ⟨hm,h1,h2⟩
 ·rw [h1,h2] at c
  rw [hm]
  have e1:(n==0)=false:=by simp; omega
  clear h1 h2 h4 h5 h6 h3
  go_enter Tryz.func148,Tryz.ntmps148
  go_wp2_with fail
  refine (c.out _).mono ?_
  rintro e w1 ⟨rfl,b1⟩
  go_wp2_with fail
  go_ret
  exact ⟨rfl,B0.out.trans (b1.mono (by simp))⟩
 ·rw [h1,h2] at c
  rw [hm]
  clear h1 h2
  go_enter Tryz.func148,Tryz.ntmps148
  go_wp2_with fail
  refine (c.out _).mono ?_
  rintro e w1 ⟨rfl,b1⟩
  go_wp2_with fail
  go_ret
  exact ⟨rfl,B0.out.trans (b1.mono (by simp))⟩
set_option maxHeartbeats 1000000 in
theorem compare_any_d (an ad bn bd:Int) (w:World) (h1:In64 an) (h2:In64 ad) (h3:In64 bn) (h4:In64 bd) :
  Calls Tryz.prog 306 #[.agg #[.int .i64 an,.int .i64 ad],.agg #[.int .i64 bn,.int .i64 bd]] w fun e w'=>e=.returned (.int .i64 (cmpR an ad bn bd))∧BelowD w.heap.size w w':=by
 have c1:=Lib.hid (fun w=>may_any_d an ad w h1 h2)
 have c2:=Lib.hid (fun w=>may_any_d bn bd w h3 h4)
 have k1:Blk ((w.alloc (.cells #[.int .i64 an,.int .i64 ad] 73)).alloc (.cells #[.int .i64 bn,.int .i64 bd] 73)) w.heap.size #[.int .i64 an,.int .i64 ad] 73:=(Blk.new _ _ _).alloc _
 have k2:Blk ((w.alloc (.cells #[.int .i64 an,.int .i64 ad] 73)).alloc (.cells #[.int .i64 bn,.int .i64 bd] 73)) (w.heap.size + 1) #[.int .i64 bn,.int .i64 bd] 73:=Blk.newAt _ _ _ (by simp)
 have b0:BelowD w.heap.size w ((w.alloc (.cells #[.int .i64 an,.int .i64 ad] 73)).alloc (.cells #[.int .i64 bn,.int .i64 bd] 73)):=((BelowD.refl _ _).alloc (Nat.le_refl _) _).alloc (by simp) _
 have K1:=Lib.hid k1; have K2:=Lib.hid k2; have B0:=Lib.hid b0
 clear k1 k2 b0 h1 h2 h3 h4
 by_cases hm:mayB an ad=true
 ·by_cases hm2:mayB bn bd=true
  ·rw [show cmpR an ad bn bd=cmpI (an * bd) (bn * ad) by unfold cmpR; rw [if_pos ⟨hm,hm2⟩],← cmp_words]
   obtain ⟨p1,p2,p3,p4,_⟩:=may_bd hm
   obtain ⟨q1,q2,q3,q4,_⟩:=may_bd hm2
   rw [hm] at c1; rw [hm2] at c2
   have u1:IntKind.u64.wrap an=an:=u64_of _ ⟨by omega,by omega⟩
   have u2:IntKind.u64.wrap ad=ad:=u64_of _ ⟨by omega,by omega⟩
   have u3:IntKind.u64.wrap bn=bn:=u64_of _ ⟨by omega,by omega⟩
   have u4:IntKind.u64.wrap bd=bd:=u64_of _ ⟨by omega,by omega⟩
   have cm1:=Lib.hid (fun w=>mul64_any an bd w ⟨by omega,by omega⟩ ⟨by omega,by omega⟩)
   have cm2:=Lib.hid (fun w=>mul64_any bn ad w ⟨by omega,by omega⟩ ⟨by omega,by omega⟩)
   have cc:=Lib.hid compare_u64
   generalize an * bd=x at *
   generalize bn * ad=y at *
   clear hm hm2 p1 p2 p3 p4 q1 q2 q3 q4
   go_enter Tryz.func306,Tryz.ntmps306
   go_wp2_with fail
   refine (c1.out _).mono ?_
   rintro e w1 ⟨rfl,b1⟩
   have B1:=Lib.hid (B0.out.trans (b1.mono (by simp; omega)))
   have r1:=K1.out.below b1.toBelow K1.out.lt; have r2:=K2.out.below b1.toBelow K2.out.lt
   have d0:=r1.cell 0; have d1:=r1.cell 1; have e0:=r2.cell 0; have e1:=r2.cell 1
   simp at d0 d1 e0 e1
   have R1:=Lib.hid r1; have R2:=Lib.hid r2
   clear r1 r2 b1
   go_wp2_with fail
   refine (c2.out _).mono ?_
   rintro e w2 ⟨rfl,b2⟩
   have B2:=Lib.hid (B1.out.trans (b2.mono B1.out.size))
   have r1:=R1.out.below b2.toBelow R1.out.lt; have r2:=R2.out.below b2.toBelow R2.out.lt
   clear d0 d1 e0 e1
   have d0:=r1.cell 0; have d1:=r1.cell 1; have e0:=r2.cell 0; have e1:=r2.cell 1
   simp at d0 d1 e0 e1
   clear r1 r2 b2
   go_wp2_with fail
   refine (cm1.out _).mono ?_
   rintro e w2 ⟨rfl,rfl⟩
   go_wp2_with fail
   refine (cm2.out _).mono ?_
   rintro e w2 ⟨rfl,rfl⟩
   go_wp2_with fail
   refine (cc.out _ _ _).mono ?_
   rintro e w2 ⟨rfl,rfl⟩
   go_wp2_with fail
   refine (cc.out _ _ _).mono ?_
   rintro e w2 ⟨rfl,rfl⟩
   go_wp2_with fail
   refine (or_two w2.heap.size _ (cmpI (x / 18446744073709551616) (y / 18446744073709551616)) (cmpI (x % 18446744073709551616) (y % 18446744073709551616)) _ (by simp) (by simp) (by simp)).mono ?_
   rintro e w2 ⟨rfl,rfl⟩
   go_wp2_with fail
   go_ret
   exact ⟨rfl,B2.out.alloc B2.out.size _⟩
  ·rw [show cmpR an ad bn bd=0 by unfold cmpR; rw [if_neg (by simp [hm2])]]
   simp only [Bool.not_eq_true] at hm2
   rw [hm] at c1; rw [hm2] at c2
   clear hm hm2
   go_enter Tryz.func306,Tryz.ntmps306
   go_wp2_with fail
   refine (c1.out _).mono ?_
   rintro e w1 ⟨rfl,b1⟩
   have B1:=Lib.hid (B0.out.trans (b1.mono (by simp; omega)))
   have r2:=K2.out.below b1.toBelow K2.out.lt
   have e0:=r2.cell 0; have e1:=r2.cell 1
   simp at e0 e1
   clear r2 b1
   go_wp2_with fail
   refine (c2.out _).mono ?_
   rintro e w2 ⟨rfl,b2⟩
   go_wp2_with fail
   go_ret
   exact ⟨rfl,B1.out.trans (b2.mono B1.out.size)⟩
 ·rw [show cmpR an ad bn bd=0 by unfold cmpR; rw [if_neg (by simp [hm])]]
  simp only [Bool.not_eq_true] at hm
  rw [hm] at c1
  clear hm
  go_enter Tryz.func306,Tryz.ntmps306
  go_wp2_with fail
  refine (c1.out _).mono ?_
  rintro e w1 ⟨rfl,b1⟩
  go_wp2_with fail
  go_ret
  exact ⟨rfl,B0.out.trans (b1.mono (by simp; omega))⟩
end Go.Proofs.YtngnfdnfpiiclaaGreat
namespace Go.Proofs.YtngnfdnfpiiclaaGreat
open Go.RowKit Go.Shelf Go.Sort Go.Lib
def OrdI (W:World) (p q:Int) (g:Nat) (D:Nat→Bool) (w:World):Prop:=BelowD W.heap.size W w∧(D 10=true→W.heap.size≤g∧Blk w g #[.int .i64 p,.int .i64 q] 3)
theorem OrdI.step {W w w':World} {p q:Int} {g:Nat} {D:Nat→Bool} {k:Nat} (h:OrdI W p q g D w) (hb:BelowD w.heap.size w w') (hk:k≠10):OrdI W p q g (ins k D) w':=by
 have e:¬ 10=k:=fun e=>hk e.symm
 refine ⟨h.1.trans (hb.mono h.1.size),fun d=>?_⟩
 simp [ins,e] at d
 exact ⟨(h.2 d).1,(h.2 d).2.below hb.toBelow (h.2 d).2.lt⟩
set_option maxHeartbeats 4000000 in
set_option maxRecDepth 100000 in
theorem porder_any (x y:Of) (w:World) (hx:x.Fits) (hy:y.Fits):Calls Tryz.prog 296 #[.agg #[.int .u64 x.se,.int .u8 x.ow,.int .u8 x.sl,.int .u8 x.bu,.int .i64 x.lf,.int .i64 x.nu,.int .i64 x.de],.agg #[.int .u64 y.se,.int .u8 y.ow,.int .u8 y.sl,.int .u8 y.bu,.int .i64 y.lf,.int .i64 y.nu,.int .i64 y.de]] w fun e w'=>e=.returned (.int .i64 (ordO x y))∧BelowD w.heap.size w w':=by
 unfold ordO
 have c1:=Lib.hid (fun w=>compare_any_d x.nu x.de y.nu y.de w hx.nu hx.de hy.nu hy.de)
 have c2:=Lib.hid (fun w=>compare_u64 x.se y.se w)
 clear hx hy
 generalize cmpR x.nu x.de y.nu y.de=p at *
 generalize cmpI x.se y.se=q at *
 go_enter Tryz.func296,Tryz.ntmps296
 go_wp2_with fail
 have KX:=Lib.hid ((Blk.new w #[.int .u64 x.se,.int .u8 x.ow,.int .u8 x.sl,.int .u8 x.bu,.int .i64 x.lf,.int .i64 x.nu,.int .i64 x.de] 197).alloc (.cells #[.int .u64 y.se,.int .u8 y.ow,.int .u8 y.sl,.int .u8 y.bu,.int .i64 y.lf,.int .i64 y.nu,.int .i64 y.de] 197))
 have KY:=Lib.hid (Blk.newAt (w.alloc (.cells #[.int .u64 x.se,.int .u8 x.ow,.int .u8 x.sl,.int .u8 x.bu,.int .i64 x.lf,.int .i64 x.nu,.int .i64 x.de] 197)) #[.int .u64 y.se,.int .u8 y.ow,.int .u8 y.sl,.int .u8 y.bu,.int .i64 y.lf,.int .i64 y.nu,.int .i64 y.de] 197 (g:=w.heap.size + 1) (by simp))
 have B0:=Lib.hid (((BelowD.refl w.heap.size w).alloc (Nat.le_refl _) (.cells #[.int .u64 x.se,.int .u8 x.ow,.int .u8 x.sl,.int .u8 x.bu,.int .i64 x.lf,.int .i64 x.nu,.int .i64 x.de] 197)).alloc (by simp) (.cells #[.int .u64 y.se,.int .u8 y.ow,.int .u8 y.sl,.int .u8 y.bu,.int .i64 y.lf,.int .i64 y.nu,.int .i64 y.de] 197))
 generalize ((w.alloc (.cells #[.int .u64 x.se,.int .u8 x.ow,.int .u8 x.sl,.int .u8 x.bu,.int .i64 x.lf,.int .i64 x.nu,.int .i64 x.de] 197)).alloc (.cells #[.int .u64 y.se,.int .u8 y.ow,.int .u8 y.sl,.int .u8 y.bu,.int .i64 y.lf,.int .i64 y.nu,.int .i64 y.de] 197))=W at KX KY B0 ⊢
 refine region_ghost (by kernel_rfl) (fun g:Nat=>[(.pointer (some ⟨w.heap.size,5,none⟩)),(.agg #[.int .i64 x.nu,.int .i64 x.de]),(.pointer (some ⟨w.heap.size + 1,5,none⟩)),(.agg #[.int .i64 y.nu,.int .i64 y.de]),(.int .i64 p),(.pointer (some ⟨w.heap.size,0,none⟩)),(.int .u64 x.se),(.pointer (some ⟨w.heap.size + 1,0,none⟩)),(.int .u64 y.se),(.int .i64 q),(.slice (some ⟨g,0,none⟩) 2 2),(.int .i64 (orI p q)),(.int .i64 (orI p q))])
  (OrdI W p q) (by kernel_rfl) 0 ⟨(BelowD.refl _ _).drew,by simp⟩ ?_
 intro AF hAF
 simp only [List.toList_toArray,puts,Act.put,List.getD_cons_zero,List.getD_cons_succ,List.setIfInBounds_toArray,List.set_cons_succ,List.set_cons_zero] at hAF
 have hAF2:_=AF:=funext hAF
 subst hAF2
 clear hAF
 refine ⟨?_,?_⟩
 ·simp only [List.toList_toArray,EachG]
  refine ⟨?_,?_,?_,?_,?_,?_,?_,?_,?_,?_,?_,?_,?_,trivial⟩
  ·intro g D w' hD hW hC hI
   refine ⟨g,fun _ _ _=>rfl,?_⟩
   with_reducible refine OpTo.plain ?_ ?_
   exact rfl
   have HS:=Lib.hid (hI.step (BelowD.refl _ _) (k:=0) (by decide))
   have hB:=hI.1.toBelow
   clear hI hC hW hD hB
   go_wp2_with fail
   all_goals first | exact HS.out | exact ⟨rfl,HS.out⟩ | rfl
  ·intro g D w' hD hW hC hI
   refine ⟨g,fun _ _ _=>rfl,?_⟩
   with_reducible refine OpTo.plain ?_ ?_
   exact rfl
   have HS:=Lib.hid (hI.step (BelowD.refl _ _) (k:=1) (by decide))
   have hB:=hI.1.toBelow
   have kk:=KX.out.below hB KX.out.lt
   have hl:=kk.lt
   have d0:=kk.cell 0; have d5:=kk.cell 5; have d6:=kk.cell 6
   simp at d0 d5 d6
   clear kk
   clear hI hC hW hD hB
   go_wp2_with fail
   all_goals first | exact HS.out | exact ⟨rfl,HS.out⟩ | rfl
  ·intro g D w' hD hW hC hI
   refine ⟨g,fun _ _ _=>rfl,?_⟩
   with_reducible refine OpTo.plain ?_ ?_
   exact rfl
   have HS:=Lib.hid (hI.step (BelowD.refl _ _) (k:=2) (by decide))
   have hB:=hI.1.toBelow
   clear hI hC hW hD hB
   go_wp2_with fail
   all_goals first | exact HS.out | exact ⟨rfl,HS.out⟩ | rfl
  ·intro g D w' hD hW hC hI
   refine ⟨g,fun _ _ _=>rfl,?_⟩
   with_reducible refine OpTo.plain ?_ ?_
   exact rfl
   have HS:=Lib.hid (hI.step (BelowD.refl _ _) (k:=3) (by decide))
   have hB:=hI.1.toBelow
   have kk:=KY.out.below hB KY.out.lt
   have hl:=kk.lt
   have d0:=kk.cell 0; have d5:=kk.cell 5; have d6:=kk.cell 6
   simp at d0 d5 d6
   clear kk
   clear hI hC hW hD hB
   go_wp2_with fail
   all_goals first | exact HS.out | exact ⟨rfl,HS.out⟩ | rfl
  ·intro g D w' hD hW hC hI
   refine ⟨g,fun _ _ _=>rfl,?_⟩
   with_reducible refine OpTo.plain ?_ ?_
   exact rfl
   have HI:=Lib.hid hI
   clear hI hC hW hD
   go_wp2_with fail
   refine (c1.out w').mono ?_
   rintro e w'' ⟨rfl,hb⟩
   exact ⟨rfl,HI.out.step hb (by decide)⟩
  ·intro g D w' hD hW hC hI
   refine ⟨g,fun _ _ _=>rfl,?_⟩
   with_reducible refine OpTo.plain ?_ ?_
   exact rfl
   have HS:=Lib.hid (hI.step (BelowD.refl _ _) (k:=5) (by decide))
   have hB:=hI.1.toBelow
   clear hI hC hW hD hB
   go_wp2_with fail
   all_goals first | exact HS.out | exact ⟨rfl,HS.out⟩ | rfl
  ·intro g D w' hD hW hC hI
   refine ⟨g,fun _ _ _=>rfl,?_⟩
   with_reducible refine OpTo.plain ?_ ?_
   exact rfl
   have HS:=Lib.hid (hI.step (BelowD.refl _ _) (k:=6) (by decide))
   have hB:=hI.1.toBelow
   have kk:=KX.out.below hB KX.out.lt
   have hl:=kk.lt
   have d0:=kk.cell 0; have d5:=kk.cell 5; have d6:=kk.cell 6
   simp at d0 d5 d6
   clear kk
   clear hI hC hW hD hB
   go_wp2_with fail
   all_goals first | exact HS.out | exact ⟨rfl,HS.out⟩ | rfl
  ·intro g D w' hD hW hC hI
   refine ⟨g,fun _ _ _=>rfl,?_⟩
   with_reducible refine OpTo.plain ?_ ?_
   exact rfl
   have HS:=Lib.hid (hI.step (BelowD.refl _ _) (k:=7) (by decide))
   have hB:=hI.1.toBelow
   clear hI hC hW hD hB
   go_wp2_with fail
   all_goals first | exact HS.out | exact ⟨rfl,HS.out⟩ | rfl
  ·intro g D w' hD hW hC hI
   refine ⟨g,fun _ _ _=>rfl,?_⟩
   with_reducible refine OpTo.plain ?_ ?_
   exact rfl
   have HS:=Lib.hid (hI.step (BelowD.refl _ _) (k:=8) (by decide))
   have hB:=hI.1.toBelow
   have kk:=KY.out.below hB KY.out.lt
   have hl:=kk.lt
   have d0:=kk.cell 0; have d5:=kk.cell 5; have d6:=kk.cell 6
   simp at d0 d5 d6
   clear kk
   clear hI hC hW hD hB
   go_wp2_with fail
   all_goals first | exact HS.out | exact ⟨rfl,HS.out⟩ | rfl
  ·intro g D w' hD hW hC hI
   refine ⟨g,fun _ _ _=>rfl,?_⟩
   with_reducible refine OpTo.plain ?_ ?_
   exact rfl
   have HI:=Lib.hid hI
   clear hI hC hW hD
   go_wp2_with fail
   refine (c2.out w').mono ?_
   rintro e w'' ⟨rfl,rfl⟩
   exact ⟨rfl,HI.out.step (BelowD.refl _ _) (by decide)⟩
  ·intro g D w' hD hW hC hI
   have hN:D 11=false:=need_not hC hD 11 (by kernel_rfl)
   have hN2:D 12=false:=need_not hC hD 12 (by kernel_rfl)
   refine ⟨w'.heap.size,?_,?_⟩
   ·intro j hj hDj
    match j,hj,hDj with
    | 0,_,_=>rfl
    | 1,_,_=>rfl
    | 2,_,_=>rfl
    | 3,_,_=>rfl
    | 4,_,_=>rfl
    | 5,_,_=>rfl
    | 6,_,_=>rfl
    | 7,_,_=>rfl
    | 8,_,_=>rfl
    | 9,_,_=>rfl
    | 10,_,h=>simp_all
    | 11,_,h=>simp_all
    | 12,_,h=>simp_all
    | j + 13,_,_=>rfl
   with_reducible refine OpTo.plain ?_ ?_
   exact rfl
   have HS:Hid (OrdI W p q w'.heap.size (ins 10 D) (w'.alloc (.cells #[.int .i64 p,.int .i64 q] 3))):=Lib.hid ⟨hI.1.alloc hI.1.size _,fun _=>⟨hI.1.size,Blk.new _ _ _⟩⟩
   clear hI hC hW hD hN hN2
   go_wp2_with fail
   all_goals first | exact HS.out | exact ⟨rfl,HS.out⟩ | rfl
  ·intro g D w' hD hW hC hI
   refine ⟨g,fun _ _ _=>rfl,?_⟩
   with_reducible refine OpTo.plain ?_ ?_
   exact rfl
   have hP:D 10=true:=need_waited hC hW (by kernel_rfl)
   have KB:=(hI.2 hP).2
   have HO:=Lib.hid (or_two g 2 p q w' KB.lt (KB.cell 0) (KB.cell 1))
   have HI:=Lib.hid hI
   clear hI hC hW hD KB hP
   go_wp2_with fail
   refine HO.out.mono ?_
   rintro e w'' ⟨rfl,rfl⟩
   exact ⟨rfl,HI.out.step (BelowD.refl _ _) (by decide)⟩
  ·intro g D w' hD hW hC hI
   refine ⟨g,fun _ _ _=>rfl,?_⟩
   with_reducible refine OpTo.plain ?_ ?_
   exact rfl
   have HS:=Lib.hid (hI.step (BelowD.refl _ _) (k:=12) (by decide))
   have hB:=hI.1.toBelow
   clear hI hC hW hD hB
   go_wp2_with fail
   all_goals first | exact HS.out | exact ⟨rfl,HS.out⟩ | rfl
 intro g D w2 hall hI
 have HE:=Lib.hid (B0.out.trans (hI.1.mono B0.out.size))
 clear hI hall
 dsimp only
 go_wp2_with fail
 go_ret
 exact ⟨rfl,HE.out⟩
def GoodO:={ x:Of // x.may∧0≤x.se∧x.se≤18446744073709551615 }
instance:Inhabited GoodO:=⟨⟨⟨1,1,1,2,1,1,1⟩,by decide⟩⟩
def GoodO.enc (x:GoodO):List Value:=x.1.vals
def ordG (x y:GoodO):Int:=ordO x.1 y.1
theorem ordG_lt (x y:GoodO):ltOf ordG x y=true↔ltO x.1 y.1:=by unfold ltOf ordG; rw [decide_eq_true_eq]; exact ordO_lt x.2.1 y.2.1
theorem ordG_nlt (x y:GoodO):ltOf ordG x y=false↔¬ ltO x.1 y.1:=by rw [← ordG_lt]; simp
theorem swoO:SWO (ltOf ordG) where
 irrefl x:=by rw [ordG_nlt]; exact ltO_irrefl x.1
 trans x y z h1 h2:=by rw [ordG_lt] at *; exact ltO_trans x.2.1 y.2.1 z.2.1 h1 h2
 ntrans x y z h1 h2:=by rw [ordG_nlt] at *; exact ltO_ntrans x.2.1 y.2.1 z.2.1 h1 h2
theorem flat_offs (ls:List GoodO) {j:Nat} (h:j<ls.length * 7):(flatK GoodO.enc 7 ls.toArray)[j]! = (ofCells (ls.map (·.1)))[j]'(by rw [ofCells_len,List.length_map]; exact h):=by
 rw [get_flatK _ _ _ j (by simpa using h)]
 have h1:j / 7<ls.length:=by omega
 have h2:j % 7<7:=Nat.mod_lt _ (by omega)
 have h3:=ofCells_get (ls.map (·.1)) (j / 7) (j % 7) h2 (by simpa using h1)
 rw [show j / 7 * 7 + j % 7=j by omega] at h3
 rw [List.getElem?_eq_getElem (by rw [ofCells_len,List.length_map]; exact h)] at h3
 have h4:(ls.toArray)[j / 7]! = ls[j / 7]:=by simp [h1]
 rw [h4,List.getElem!_eq_getElem?_getD]
 unfold GoodO.enc
 rw [List.getElem_map] at h3
 rw [← h3]
 rfl
theorem holds_offs {w:World} {g:Nat} {cur:Array Value} {e:TypeId} {ls:List GoodO} (hb:w.heap[g]? = some (.cells cur e (0,0))) (ht:cur.toList.take (ls.length * 7)=ofCells (ls.map (·.1))):HoldsK GoodO.enc 7 w g 0 ls.toArray:=by
 intro j hj
 have hj':j<ls.length * 7:=by simpa using hj
 refine ⟨?_,by simp [World.frozen?,hb]⟩
 rw [flat_offs ls hj']
 have h1:(cur.toList.take (ls.length * 7))[j]? = (ofCells (ls.map (·.1)))[j]? := by rw [ht]
 rw [List.getElem?_take_of_lt hj'] at h1
 simp only [World.cell?,hb,Nat.zero_add]
 simp only [Option.isSome_none,Bool.false_eq_true,if_false]
 rw [← Array.getElem?_toList,h1,List.getElem?_eq_getElem (by rw [ofCells_len,List.length_map]; exact hj')]
 rfl
theorem heap_offs {w:World} {g n:Nat} {os:Array Obj} {cur:Array Value} {e:TypeId} (d:Array GoodO) (hb:w.heap[g]? = some (.cells cur e (0,0))) :
  (sortWorldK GoodO.enc 7 w g 0 n d os).heap[g]? = some (.cells (putCells id 0 (flatK GoodO.enc 7 d) cur) e (0,0)):=by
 have hg:g<w.heap.size:=(Array.getElem?_eq_some_iff.1 hb).1
 unfold sortWorldK putRowK
 rw [heap_grow_old _ _ (by simpa using hg)]
 simp [putRow,mapBlock,Go.Sort.ahead,Array.getElem?_modify,hb,onCells]
theorem keep_offs {w:World} {g n:Nat} {os:Array Obj} (d:Array GoodO):Keep (·=g) w (sortWorldK GoodO.enc 7 w g 0 n d os):=by
 refine ⟨rfl,rfl,rfl,by simp [sortWorldK,putRowK],fun k hk hne=>?_⟩
 unfold sortWorldK putRowK
 rw [heap_grow_old _ _ (by simpa using hk)]
 have:g≠k:=fun e=>hne e.symm
 simp [putRow,mapBlock,Go.Sort.ahead,Array.getElem?_modify,this]
theorem take_offs (cur:Array Value) (ls:List GoodO) (h:ls.length * 7≤cur.size):(putCells id 0 (flatK GoodO.enc 7 ls.toArray) cur).toList.take (ls.length * 7)=ofCells (ls.map (·.1)):=by
 apply List.ext_getElem?
 intro j
 by_cases hj:j<ls.length * 7
 ·have hf:=flat_offs ls hj
  rw [List.getElem?_take_of_lt hj,Array.getElem?_toList,List.getElem?_eq_getElem (by rw [ofCells_len,List.length_map]; exact hj),← hf]
  simp [putCells,hj,show j<cur.size by omega]
 ·rw [List.getElem?_take_eq_none (by omega),List.getElem?_eq_none (by rw [ofCells_len,List.length_map]; omega)]
theorem sorted_offs {f m:List Of} {d:Array GoodO} {ls:List GoodO} (hf:ls.map (·.1)=f) (hm:m.Perm f) (hms:m.Pairwise ltO) (hne:f.Pairwise fun x y=>x.se≠y.se)
  (h1:PermIn 0 ls.toArray.size ls.toArray d) (h2:SortedIn (ltOf ordG) 0 ls.toArray.size d):d.toList.map (·.1)=m∧d.size=ls.length:=by
 obtain ⟨hs,_,hperm⟩:=h1
 have hpd:d.toList.Perm ls:=by
  have e1:d.extract 0 ls.toArray.size=d:=by rw [← hs,Array.extract_size]
  rw [e1,Array.extract_size] at hperm
  simpa using hperm
 have hpm:(d.toList.map (·.1)).Perm f:=by rw [← hf]; exact hpd.map _
 have hse:(d.toList.map (·.1)).Pairwise fun x y=>x.se≠y.se:=(hpm.symm.pairwise_iff (fun {a b} (h:a.se≠b.se)=>h.symm)).1 hne
 have hso:(d.toList.map (·.1)).Pairwise ltO:=by
  rw [List.pairwise_iff_getElem] at hse ⊢
  intro i j hi hj hij
  have hi':i<d.size:=by simpa using hi
  have hj':j<d.size:=by simpa using hj
  have h3:=h2 i j (Nat.zero_le _) hij (by rw [← hs]; exact hj')
  rw [getElem!_pos d i hi',getElem!_pos d j hj',ordG_nlt] at h3
  have h4:=hse i j hi hj hij
  simp only [List.getElem_map,Array.getElem_toList] at h4 ⊢
  exact ltO_total (fun e=>h4 e.symm) h3
 refine ⟨List.Perm.eq_of_pairwise (fun a b _ _ h1 h2=>(ltO_asymm h1 h2).elim) hso hms (hpm.trans hm.symm),by simpa using hs⟩
theorem good_list:∀ {f:List Of},(∀ x ∈ f,x.may∧0≤x.se∧x.se≤18446744073709551615)→∃ ls:List GoodO,ls.map (·.1)=f
 | [],_=>⟨[],rfl⟩
 | x::r,h=>by
  obtain ⟨ls,hl⟩:=good_list (f:=r) (fun y hy=>h y (by simp [hy]))
  exact ⟨⟨x,h x (by simp)⟩::ls,congrArg (List.cons x) hl⟩
theorem sortO_any {w:World} {base:Nat} {v:Value} {f m:List Of} (hg:∀ x ∈ f,x.may∧0≤x.se∧x.se≤18446744073709551615) (hm:m.Perm f) (hms:m.Pairwise ltO) (hne:f.Pairwise fun x y=>x.se≠y.se) (hl:f.length≤1000) (h:w.ownsRow base 197 7 v f.length (ofCells f)) :
  Calls Tryz.prog 295 #[v,.func (.func 296) #[] #[]] w fun e w'=>e=.returned (.tuple #[])∧w'.ownsRow base 197 7 v m.length (ofCells m)∧Keep (fun b=>v.ownBlock=some b) w w':=by
 have hlen:=hm.length_eq
 rcases h.2 with ⟨rfl,h0⟩ | ⟨g,cap,cur,rfl,hbase,hb,h1,h2,h3,h4⟩
 ·rw [h0] at hlen
  have:m=[]:=List.eq_nil_of_length_eq_zero hlen
  subst this
  refine (AnyF.slices_SortFunc_none { sortO with } none 0 (.func (.func 296) #[] #[]) w).mono ?_
  rintro e w' ⟨rfl,rfl⟩
  exact ⟨rfl,World.ownsRow_nil _ _ _ _,Keep.refl _ _⟩
 ·have hgl:g<w.heap.size:=(Array.getElem?_eq_some_iff.1 hb).1
  obtain ⟨ls,hls⟩:=good_list hg
  have hll:ls.length=f.length:=by rw [← hls,List.length_map]
  have eg:∀ args w,(callFunc 296 args).run Tryz.prog w=.ok (.enter 296 args) w:=enters_of Tryz.func296 (by kernel_rfl) rfl
  have hcmp:CmpLays Tryz.prog 296 #[] GoodO.enc 7 ordG g 0 ls.toArray.size w:=fun m os dk _ x y=>(porder_any x.1 y.1 _ (x.2.1.fits x.2.2) (y.2.1.fits y.2.2)).mono fun e w' ⟨he,hb⟩=>⟨he,hb.grown⟩
  have hc:=AnyQ.slices_SortFunc (P:=Tryz.prog) sortO 7 Tryz.isAgg197 Tryz.sizeOf197 GoodO.enc (fun _=>rfl) (fun x u hu=>by simp [GoodO.enc,Of.vals] at hu; rcases hu with rfl | rfl | rfl | rfl | rfl | rfl | rfl <;> rfl) ordG swoO 296 #[] g 0 cap ls.toArray w eg hcmp (holds_offs hb (by rw [hll,hls]; exact h4)) hgl (by simp; omega)
  have hsz:ls.toArray.size=f.length:=by simp [hll]
  rw [hsz] at hc
  refine Calls.mono hc ?_
  rintro e w' ⟨rfl,d,n,os,hp1,hs1,rfl⟩
  obtain ⟨hd,hds⟩:=sorted_offs hls hm hms hne (by rw [hsz]; exact hp1) (by rw [hsz]; exact hs1)
  have hcells:(putCells id 0 (flatK GoodO.enc 7 d) cur).toList.take (f.length * 7)=ofCells m:=by
   have:=take_offs cur d.toList (by rw [Array.length_toList,hds,hll,h3]; omega)
   rw [hd] at this
   simpa [hds,hll] using this
  refine ⟨rfl,⟨ofCells_len m,.inr ⟨g,cap,_,by rw [hlen],hbase,heap_offs _ hb,by omega,h2,by simp [putCells,h3],by rw [hlen]; exact hcells⟩⟩,(keep_offs _).mono fun k _ hk=>by rw [hk]; rfl⟩
end Go.Proofs.YtngnfdnfpiiclaaGreat
