/-
  Pieces of one proof, without what is not wanted: Fair10.
-/
import Derived.Test.YtojbmnbphdcjfaaGreatB14
import Derived.Test.YtojbmnbphdcjfaaGreatB17
set_option linter.unusedSimpArgs false
set_option linter.unusedVariables false
namespace Go.Proofs.YtojbmnbphdcjfaaGreat
open Go.RowKit
theorem fair_num {n nu de:Int} (hn:1≤n) (h1:1≤nu) (h2:1≤de):1≤upN (n * nu) de∧n * nu≤upN (n * nu) de * de∧upN (n * nu) de * de - n * nu<de:=by
 have hp:1≤n * nu:=by have:=Int.mul_le_mul hn h1 (by omega) (by omega); omega
 generalize n * nu=q at *
 have hm:=Int.emod_nonneg q (show de≠0 by omega)
 have hm2:=Int.emod_lt_of_pos q (show 0<de by omega)
 have hd:=Int.mul_ediv_add_emod q de
 have h0:0≤q / de:=Int.ediv_nonneg (by omega) (by omega)
 unfold upN
 split
 ·rename_i h
  rw [h] at hd
  have e:q / de * de=q:=by rw [Int.mul_comm]; omega
  refine ⟨?_,by omega,by omega⟩
  rcases Int.lt_or_le (q / de) 1 with k | k
  ·have:q / de=0:=by omega
   rw [this] at e; omega
  ·exact k
 ·rename_i h
  have e:(q / de + 1) * de=de * (q / de) + de:=by rw [Int.add_mul,Int.mul_comm (q / de),Int.one_mul]
  exact ⟨by omega,by omega,by omega⟩
set_option maxHeartbeats 4000000 in
theorem fair10_any {n nu de x:Int} (w:World) (hm:mayB nu de=true) (hn:1≤n) (hn2:n≤9223372036854775807) (hx:x=upN (n * nu) de) (hx2:x≤9223372036854775807) :
  Calls Tryz.prog 66 #[.int .i64 n,.int .i64 x,.agg #[.int .i64 nu,.int .i64 de]] w fun e w'=>e=.returned (.bool true)∧Below w.heap.size w w':=by
 obtain ⟨h1,h2,h3,h4,_⟩:=may_bd hm
 obtain ⟨f1,f2,f3⟩:=fair_num hn h1 h2
 rw [← hx] at f1 f2 f3
 have b1:=(Below.refl w.heap.size w).alloc (Nat.le_refl _) (.cells #[.int .i64 nu,.int .i64 de] 74)
 have KX:=Lib.hid (Blk.new w #[.int .i64 nu,.int .i64 de] 74)
 have B1:=Lib.hid b1
 have q0:0≤n * nu:=Int.mul_nonneg (by omega) (by omega)
 have p0:0≤x * de:=Int.mul_nonneg (by omega) (by omega)
 have qb:n * nu≤9223372036854775807 * 1099511627776:=Int.mul_le_mul hn2 h3 (by omega) (by omega)
 have pb:x * de≤9223372036854775807 * 1099511627776:=Int.mul_le_mul hx2 h4 (by omega) (by omega)
 have C1:=Lib.hid (fun w=>mul64_any x de w ⟨by omega,by omega⟩ ⟨by omega,by omega⟩)
 have C2:=Lib.hid (fun w=>mul64_any n nu w ⟨by omega,by omega⟩ ⟨by omega,by omega⟩)
 have a1:=fun w=>run_Sub64 (x * de % 18446744073709551616) (n * nu % 18446744073709551616) 0 ⟨by omega,by omega⟩ ⟨by omega,by omega⟩ (by omega) (by omega) w
 simp only [Int.add_zero,Int.sub_zero] at a1
 obtain ⟨ow,how⟩:∃ ow:Int,(if x * de % 18446744073709551616<n * nu % 18446744073709551616 then 1 else 0)=ow:=⟨_,rfl⟩
 rw [how] at a1
 have how2:0≤ow∧ow≤1:=by rw [← how]; split <;> omega
 have a2:=fun w=>run_Sub64 (x * de / 18446744073709551616) (n * nu / 18446744073709551616) ow ⟨by omega,by omega⟩ ⟨by omega,by omega⟩ how2.1 how2.2 w
 have hlow:(x * de % 18446744073709551616 - n * nu % 18446744073709551616) % 18446744073709551616=x * de - n * nu:=by omega
 have hhigh:(x * de / 18446744073709551616 - n * nu / 18446744073709551616 - ow) % 18446744073709551616=0:=by rw [← how]; split <;> omega
 have hless:(if x * de / 18446744073709551616<n * nu / 18446744073709551616 + ow then 1 else 0:Int)=0:=by rw [← how]; split <;> split <;> omega
 rw [hlow] at a1
 rw [hhigh,hless] at a2
 have g1:decide (n<1)=false:=by simp; omega
 have g2:decide (x<1)=false:=by simp; omega
 have g3:decide (nu<1)=false:=by simp; omega
 have g4:decide (de<1)=false:=by simp; omega
 have g5:decide (x * de - n * nu<de)=true:=by simp; omega
 have wx:IntKind.u64.wrap x=x:=by rw [wrap_u64]; omega
 have wn:IntKind.u64.wrap n=n:=by rw [wrap_u64]; omega
 have wu:IntKind.u64.wrap nu=nu:=by rw [wrap_u64]; omega
 have wd:IntKind.u64.wrap de=de:=by rw [wrap_u64]; omega
 clear hlow hhigh hless how how2 b1 hx
 generalize x * de=P at *
 generalize n * nu=Q at *
 generalize P - Q=D at *
 generalize P / 18446744073709551616=ph at *
 generalize P % 18446744073709551616=pl at *
 generalize Q / 18446744073709551616=qh at *
 generalize Q % 18446744073709551616=ql at *
 clear f1 f2 f3 q0 p0 qb pb
 go_enter Tryz.func66,Tryz.ntmps66
 go_upto_region 1 with fail
 generalize w.alloc (.cells #[.int .i64 nu,.int .i64 de] 74)=W at *
 have e0:=KX.out.cell 0; have e1:=KX.out.cell 1
 have kx:=KX.out.lt
 simp at e0 e1
 go_wp2_with fail
 refine (C1.out _).mono ?_
 rintro e w1 ⟨rfl,rfl⟩
 go_wp2_with fail
 refine (C2.out _).mono ?_
 rintro e w1 ⟨rfl,rfl⟩
 go_wp2_with fail
 go_ret
 exact ⟨rfl,B1.out⟩
end Go.Proofs.YtojbmnbphdcjfaaGreat
