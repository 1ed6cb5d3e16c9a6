/-
  Pieces of one proof, without what is not wanted: PDbt.
-/
import Derived.Test.YtlbjjkbppbmihaaGreatL02
import Derived.Test.YtlbjjkbppbmihaaGreatL05
import Derived.Test.YtlbjjkbppbmihaaGreatL06
import Derived.BigQuiet
import Derived.StillTailTactics
set_option linter.unusedSimpArgs false
set_option linter.unusedVariables false
namespace Go.Proofs.YtlbjjkbppbmihaaGreat
open Go.RowKit
def cmpD (x y:Int):Int:=if x<y then -1 else if y<x then 1 else 0
def orD (p q:Int):Int:=if p=0 then q else p
def ordF (a b:Fw):Int:=orD (cmpD a.fr b.fr) (cmpD a.tt b.tt)
theorem ordF_key {a b:Fw} (h1:0≤a.tt∧a.tt≤255) (h2:0≤b.tt∧b.tt≤255):ordF a b=cmpD (keyD a) (keyD b):=by
 unfold ordF orD cmpD keyD
 repeat' split
 all_goals omega
def inPB (x:Int):Bool:=decide (1≤x) && decide (x≤16)
theorem dparty_any (x:Int) (w:World) :
  Calls Tryz.prog 112 #[.int .u8 x] w fun e w'=>e=.returned (.bool (inPB x))∧w'=w:=by
 unfold inPB
 by_cases h1:1≤x
 ·have q1:decide (1≤x)=true:=by simpa using h1
  by_cases h2:x≤16
  ·have q2:decide (x≤16)=true:=by simpa using h2
   rw [q1,q2]
   go_enter Tryz.func112,Tryz.ntmps112
   go_wp2_with fail
   go_ret
   exact ⟨rfl,rfl⟩
  ·have q2:decide (x≤16)=false:=by simpa using h2
   rw [q1,q2]
   go_enter Tryz.func112,Tryz.ntmps112
   go_wp2_with fail
   go_ret
   exact ⟨rfl,rfl⟩
 ·have q1:decide (1≤x)=false:=by simpa using h1
  rw [q1]
  go_enter Tryz.func112,Tryz.ntmps112
  go_wp2_with fail
  go_ret
  exact ⟨rfl,rfl⟩
theorem isnan_q (x:Int) (w:World) :
  Calls Tryz.prog 86 #[.int .u8 x] w fun e w'=>e=.returned (.bool false)∧w'=w:=by
 have hx:(x==x)=true:=by simp
 go_enter Tryz.func86,Tryz.ntmps86
 go_wp2
 go_ret
 exact ⟨rfl,rfl⟩
theorem compare_q (x y:Int) (w:World) :
  Calls Tryz.prog 69 #[.int .u8 x,.int .u8 y] w fun e w'=>e=.returned (.int .i64 (cmpD x y))∧w'=w:=by
 have c1:=Lib.hid (fun w=>isnan_q x w)
 have c2:=Lib.hid (fun w=>isnan_q y w)
 rcases Int.lt_trichotomy x y with h | h | h
 ·rw [show cmpD x y = -1 by unfold cmpD; rw [if_pos h]]
  go_enter Tryz.func69,Tryz.ntmps69
  go_wp2_with fail
  refine (c1.out _).mono ?_
  rintro e w1 ⟨rfl,rfl⟩
  go_wp2_with fail
  refine (c2.out _).mono ?_
  rintro e w1 ⟨rfl,rfl⟩
  go_wp2_with fail
  go_ret
  exact ⟨rfl,rfl⟩
 ·rw [show cmpD x y=0 by unfold cmpD; rw [if_neg (by omega),if_neg (by omega)]]
  subst h
  go_enter Tryz.func69,Tryz.ntmps69
  go_wp2_with fail
  refine (c1.out _).mono ?_
  rintro e w1 ⟨rfl,rfl⟩
  go_wp2_with fail
  refine (c2.out _).mono ?_
  rintro e w1 ⟨rfl,rfl⟩
  go_wp2_with fail
  go_ret
  exact ⟨rfl,rfl⟩
 ·rw [show cmpD x y=1 by unfold cmpD; rw [if_neg (by omega),if_pos h]]
  have h2:¬ x<y:=by omega
  go_enter Tryz.func69,Tryz.ntmps69
  go_wp2_with fail
  refine (c1.out _).mono ?_
  rintro e w1 ⟨rfl,rfl⟩
  go_wp2_with fail
  refine (c2.out _).mono ?_
  rintro e w1 ⟨rfl,rfl⟩
  go_wp2_with fail
  go_ret
  exact ⟨rfl,rfl⟩
theorem or_pair (b cap:Nat) (p q:Int) (w:World) (hlt:b<w.heap.size) (h0:w.cell? ⟨b,0,none⟩=some (.int .i64 p)) (h1:w.cell? ⟨b,1,none⟩=some (.int .i64 q)) :
  Calls Tryz.prog 68 #[.slice (some ⟨b,0,none⟩) 2 cap] w fun e w'=>e=.returned (.int .i64 (orD p q))∧w'=w:=by
 unfold orD
 by_cases hp:p=0
 ·rw [if_pos hp]
  subst hp
  by_cases hq:q=0
  ·subst hq
   go_enter Tryz.func68,Tryz.ntmps68
   go_wp2
   refine wp_loop_rounds 3 ?_
   rw [rounds_succ]; go_wp2
   rw [rounds_succ]; go_wp2
   rw [rounds_succ]; go_wp2
   go_ret
   exact ⟨rfl,rfl⟩
  ·have hb:(q==0)=false:=by simp [hq]
   go_enter Tryz.func68,Tryz.ntmps68
   go_wp2
   refine wp_loop_rounds 2 ?_
   rw [rounds_succ]; go_wp2
   rw [rounds_succ]; go_wp2
   go_ret
   exact ⟨rfl,rfl⟩
 ·rw [if_neg hp]
  have hb:(p==0)=false:=by simp [hp]
  go_enter Tryz.func68,Tryz.ntmps68
  go_wp2
  refine wp_loop_rounds 1 ?_
  rw [rounds_succ]; go_wp2
  go_ret
  exact ⟨rfl,rfl⟩
def LaidAt (W:World) (o:Obj) (D:Nat→Bool) (w:World):Prop:=∃ q,w=if D 10 then (W.drewN q).alloc o else W.drewN q
theorem LaidAt.step {W w:World} {o:Obj} {D:Nat→Bool} {k:Nat} (h:LaidAt W o D w) (hk:k≠10):LaidAt W o (ins k D) w:=by
 obtain ⟨q,hq⟩:=h
 refine ⟨q,?_⟩
 rw [ins_ne D (Ne.symm hk)]
 exact hq
theorem LaidAt.below {W w:World} {o:Obj} {D:Nat→Bool} (h:LaidAt W o D w):Below W.heap.size W w:=by
 obtain ⟨q,hq⟩:=h
 subst hq
 split
 ·exact (⟨rfl,rfl,rfl,Nat.le_refl _,fun _ _=>rfl⟩:Below W.heap.size W (W.drewN q)).alloc (Nat.le_refl _) _
 ·exact ⟨rfl,rfl,rfl,Nat.le_refl _,fun _ _=>rfl⟩
set_option maxHeartbeats 4000000 in
set_option maxRecDepth 100000 in
theorem dorder_any (a b:Fw) (w:World) :
  Calls Tryz.prog 88 #[.agg #[.int .u8 a.fr,.int .u8 a.tt,.int .i64 a.am],.agg #[.int .u8 b.fr,.int .u8 b.tt,.int .i64 b.am]] w fun e w'=>e=.returned (.int .i64 (ordF a b))∧Below w.heap.size w w':=by
 unfold ordF
 have c1:=Lib.hid (fun w=>compare_q a.fr b.fr w)
 have c2:=Lib.hid (fun w=>compare_q a.tt b.tt w)
 generalize cmpD a.fr b.fr=p at *
 generalize cmpD a.tt b.tt=q at *
 go_enter Tryz.func88,Tryz.ntmps88
 go_wp2_with fail
 have hW:((w.alloc (.cells #[.int .u8 a.fr,.int .u8 a.tt,.int .i64 a.am] 62)).alloc (.cells #[.int .u8 b.fr,.int .u8 b.tt,.int .i64 b.am] 62)).heap.size=w.heap.size + 2:=by simp
 have KX:=Lib.hid ((Blk.new w #[.int .u8 a.fr,.int .u8 a.tt,.int .i64 a.am] 62).alloc (.cells #[.int .u8 b.fr,.int .u8 b.tt,.int .i64 b.am] 62))
 have KY:=Lib.hid (Blk.newAt (w.alloc (.cells #[.int .u8 a.fr,.int .u8 a.tt,.int .i64 a.am] 62)) #[.int .u8 b.fr,.int .u8 b.tt,.int .i64 b.am] 62 (g:=w.heap.size + 1) (by simp))
 have HB:=Lib.hid (((Below.refl w.heap.size w).alloc (Nat.le_refl _) (.cells #[.int .u8 a.fr,.int .u8 a.tt,.int .i64 a.am] 62)).alloc (by simp) (.cells #[.int .u8 b.fr,.int .u8 b.tt,.int .i64 b.am] 62))
 have HW:=Lib.hid hW
 generalize ((w.alloc (.cells #[.int .u8 a.fr,.int .u8 a.tt,.int .i64 a.am] 62)).alloc (.cells #[.int .u8 b.fr,.int .u8 b.tt,.int .i64 b.am] 62))=W at KX KY HW HB ⊢
 clear hW
 -- REGION
 refine region_inv (by kernel_rfl) [(.pointer (some ⟨w.heap.size,0,none⟩)),(.int .u8 a.fr),(.pointer (some ⟨w.heap.size + 1,0,none⟩)),(.int .u8 b.fr),(.int .i64 p),(.pointer (some ⟨w.heap.size,1,none⟩)),(.int .u8 a.tt),(.pointer (some ⟨w.heap.size + 1,1,none⟩)),(.int .u8 b.tt),(.int .i64 q),(.slice (some ⟨w.heap.size + 2,0,none⟩) 2 2),(.int .i64 (orD p q)),(.int .i64 (orD p q))]
  (LaidAt W (.cells #[.int .i64 p,.int .i64 q] 3)) (by kernel_rfl) ⟨1,rfl⟩ ?_
 intro af haf
 simp only [puts,Act.put,List.getD_cons_zero,List.getD_cons_succ,List.setIfInBounds_toArray,List.set_cons_succ,List.set_cons_zero] at haf
 subst haf
 refine ⟨?_,?_⟩
 ·simp only [EachIn]
  refine ⟨?_,?_,?_,?_,?_,?_,?_,?_,?_,?_,?_,?_,?_,trivial⟩
  ·intro D w' hD hWt hC hI
   have hS:=hI.below
   have HI:=Lib.hid (hI.step (k:=0) (by decide))
   clear hS hI hC hWt hD
   refine OpTo.plain ?_ ?_
   exact rfl
   go_wp2_with fail
   all_goals first | exact HI.out | exact ⟨rfl,HI.out⟩ | rfl
  ·intro D w' hD hWt hC hI
   have hS:=hI.below
   have HI:=Lib.hid (hI.step (k:=1) (by decide))
   have hl:=Nat.lt_of_lt_of_le KX.out.lt hS.size
   have kk:=KX.out.below hS KX.out.lt
   have d0:=kk.cell 0; have d1:=kk.cell 1; have d2:=kk.cell 2
   simp at d0 d1 d2
   clear kk
   clear hS hI hC hWt hD
   refine OpTo.plain ?_ ?_
   exact rfl
   go_wp2_with fail
   all_goals first | exact HI.out | exact ⟨rfl,HI.out⟩ | rfl
  ·intro D w' hD hWt hC hI
   have hS:=hI.below
   have HI:=Lib.hid (hI.step (k:=2) (by decide))
   clear hS hI hC hWt hD
   refine OpTo.plain ?_ ?_
   exact rfl
   go_wp2_with fail
   all_goals first | exact HI.out | exact ⟨rfl,HI.out⟩ | rfl
  ·intro D w' hD hWt hC hI
   have hS:=hI.below
   have HI:=Lib.hid (hI.step (k:=3) (by decide))
   have hl:=Nat.lt_of_lt_of_le KY.out.lt hS.size
   have kk:=KY.out.below hS KY.out.lt
   have d0:=kk.cell 0; have d1:=kk.cell 1; have d2:=kk.cell 2
   simp at d0 d1 d2
   clear kk
   clear hS hI hC hWt hD
   refine OpTo.plain ?_ ?_
   exact rfl
   go_wp2_with fail
   all_goals first | exact HI.out | exact ⟨rfl,HI.out⟩ | rfl
  ·intro D w' hD hWt hC hI
   have hS:=hI.below
   have HI:=Lib.hid (hI.step (k:=4) (by decide))
   clear hS hI hC hWt hD
   refine OpTo.plain ?_ ?_
   exact rfl
   go_wp2_with fail
   refine (c1.out w').mono ?_
   rintro e w'' ⟨rfl,rfl⟩
   exact ⟨rfl,HI.out⟩
  ·intro D w' hD hWt hC hI
   have hS:=hI.below
   have HI:=Lib.hid (hI.step (k:=5) (by decide))
   clear hS hI hC hWt hD
   refine OpTo.plain ?_ ?_
   exact rfl
   go_wp2_with fail
   all_goals first | exact HI.out | exact ⟨rfl,HI.out⟩ | rfl
  ·intro D w' hD hWt hC hI
   have hS:=hI.below
   have HI:=Lib.hid (hI.step (k:=6) (by decide))
   have hl:=Nat.lt_of_lt_of_le KX.out.lt hS.size
   have kk:=KX.out.below hS KX.out.lt
   have d0:=kk.cell 0; have d1:=kk.cell 1; have d2:=kk.cell 2
   simp at d0 d1 d2
   clear kk
   clear hS hI hC hWt hD
   refine OpTo.plain ?_ ?_
   exact rfl
   go_wp2_with fail
   all_goals first | exact HI.out | exact ⟨rfl,HI.out⟩ | rfl
  ·intro D w' hD hWt hC hI
   have hS:=hI.below
   have HI:=Lib.hid (hI.step (k:=7) (by decide))
   clear hS hI hC hWt hD
   refine OpTo.plain ?_ ?_
   exact rfl
   go_wp2_with fail
   all_goals first | exact HI.out | exact ⟨rfl,HI.out⟩ | rfl
  ·intro D w' hD hWt hC hI
   have hS:=hI.below
   have HI:=Lib.hid (hI.step (k:=8) (by decide))
   have hl:=Nat.lt_of_lt_of_le KY.out.lt hS.size
   have kk:=KY.out.below hS KY.out.lt
   have d0:=kk.cell 0; have d1:=kk.cell 1; have d2:=kk.cell 2
   simp at d0 d1 d2
   clear kk
   clear hS hI hC hWt hD
   refine OpTo.plain ?_ ?_
   exact rfl
   go_wp2_with fail
   all_goals first | exact HI.out | exact ⟨rfl,HI.out⟩ | rfl
  ·intro D w' hD hWt hC hI
   have hS:=hI.below
   have HI:=Lib.hid (hI.step (k:=9) (by decide))
   clear hS hI hC hWt hD
   refine OpTo.plain ?_ ?_
   exact rfl
   go_wp2_with fail
   refine (c2.out w').mono ?_
   rintro e w'' ⟨rfl,rfl⟩
   exact ⟨rfl,HI.out⟩
  ·intro D w' hD hWt hC hI
   obtain ⟨t,ht⟩:=hI
   rw [hD] at ht
   have hz:w'.heap.size=w.heap.size + 2:=by rw [ht,← HW.out]; rfl
   have HI:=Lib.hid (show LaidAt W (.cells #[.int .i64 p,.int .i64 q] 3) (ins 10 D) (w'.alloc (.cells #[.int .i64 p,.int .i64 q] 3)) from ⟨t,by rw [ins_same,if_pos rfl,ht]; rfl⟩)
   clear ht hC hWt hD
   refine OpTo.plain ?_ ?_
   exact rfl
   go_wp2_with fail
   all_goals first | exact HI.out | exact ⟨rfl,HI.out⟩ | exact ⟨by rw [hz],HI.out⟩
  ·intro D w' hD hWt hC hI
   have h15:D 10=true:=waited_done hC hWt (d:=12) (by kernel_rfl)
   obtain ⟨t,ht⟩:=hI
   have KB:Blk w' (w.heap.size + 2) #[.int .i64 p,.int .i64 q] 3:=by rw [ht,h15,if_pos rfl]; exact Blk.newAt _ _ _ (by show _=W.heap.size; rw [HW.out])
   have HI:=Lib.hid (LaidAt.step (k:=11) (show LaidAt W (.cells #[.int .i64 p,.int .i64 q] 3) D w' from ⟨t,ht⟩) (by decide))
   have HO:=Lib.hid (or_pair (w.heap.size + 2) 2 p q w' KB.lt (KB.cell 0) (KB.cell 1))
   clear ht KB hC hWt hD h15
   refine OpTo.plain ?_ ?_
   exact rfl
   go_wp2_with fail
   refine HO.out.mono ?_
   rintro e w'' ⟨rfl,rfl⟩
   exact ⟨rfl,HI.out⟩
  ·intro D w' hD hWt hC hI
   have hS:=hI.below
   have HI:=Lib.hid (hI.step (k:=12) (by decide))
   clear hS hI hC hWt hD
   refine OpTo.plain ?_ ?_
   exact rfl
   go_wp2_with fail
   all_goals first | exact HI.out | exact ⟨rfl,HI.out⟩ | rfl
 -- END
 intro D w2 hall hI
 have HE:=Lib.hid (HB.out.trans (hI.below.mono (by have:=HW.out; omega)))
 clear hI hall
 go_wp2_with fail
 go_ret
 exact ⟨rfl,HE.out⟩
end Go.Proofs.YtlbjjkbppbmihaaGreat
namespace Go.Proofs.YtlbjjkbppbmihaaGreat
open Go.RowKit
theorem inPB_iff (x:Int):inPB x=true↔inP x:=by unfold inPB inP; simp
set_option maxHeartbeats 4000000 in
theorem debtMay_any (x:Fw) (w:World) :
  Calls Tryz.prog 87 #[.agg #[.int .u8 x.fr,.int .u8 x.tt,.int .i64 x.am]] w fun e w'=>e=.returned (.bool (decide (okD x)))∧Below w.heap.size w w':=by
 have CF:=Lib.hid (fun w=>dparty_any x.fr w)
 have CT:=Lib.hid (fun w=>dparty_any x.tt w)
 have NF:¬ inPB x.fr=true→¬ okD x:=fun h o=>h ((inPB_iff _).2 o.1)
 have NT:¬ inPB x.tt=true→¬ okD x:=fun h o=>h ((inPB_iff _).2 o.2.1)
 have YY:inPB x.fr=true→inPB x.tt=true→x.fr≠x.tt→1≤x.am→x.am≤1099511627776→okD x:=fun a b c d e=>⟨(inPB_iff _).1 a,(inPB_iff _).1 b,c,d,e⟩
 have ND:x.fr=x.tt→¬ okD x:=fun h o=>o.2.2.1 h
 have NA:¬ 1≤x.am→¬ okD x:=fun h o=>h o.2.2.2.1
 have NB:¬ x.am≤1099511627776→¬ okD x:=fun h o=>h o.2.2.2.2
 have BX:=Lib.hid ((Below.refl w.heap.size w).alloc (Nat.le_refl _) (.cells #[.int .u8 x.fr,.int .u8 x.tt,.int .i64 x.am] 62))
 generalize hd:decide (okD x)=d
 by_cases c1:inPB x.fr=true
 case neg =>
  have e:=NF c1
  have hd':d=false:=by rw [← hd]; exact decide_eq_false e
  have q1:inPB x.fr=false:=by simpa using c1
  subst hd'
  rw [q1] at CF
  clear NF NT YY ND NA NB c1 e hd q1
  go_enter Tryz.func87,Tryz.ntmps87
  go_wp2_with fail
  refine (CF.out _).mono ?_
  rintro e w1 ⟨rfl,rfl⟩
  go_wp2_with fail
  go_ret
  exact ⟨rfl,BX.out⟩
 rw [c1] at CF
 by_cases c2:inPB x.tt=true
 case neg =>
  have e:=NT c2
  have hd':d=false:=by rw [← hd]; exact decide_eq_false e
  have q1:inPB x.tt=false:=by simpa using c2
  subst hd'
  rw [q1] at CT
  clear NF NT YY ND NA NB c1 c2 e hd q1
  go_enter Tryz.func87,Tryz.ntmps87
  go_wp2_with fail
  refine (CF.out _).mono ?_
  rintro e w1 ⟨rfl,rfl⟩
  go_wp2_with fail
  refine (CT.out _).mono ?_
  rintro e w1 ⟨rfl,rfl⟩
  go_wp2_with fail
  go_ret
  exact ⟨rfl,BX.out⟩
 rw [c2] at CT
 by_cases c3:x.fr=x.tt
 case pos =>
  have e:=ND c3
  have hd':d=false:=by rw [← hd]; exact decide_eq_false e
  have q1:(x.fr != x.tt)=false:=by simpa using c3
  subst hd'
  clear NF NT YY ND NA NB c1 c2 c3 e hd
  go_enter Tryz.func87,Tryz.ntmps87
  go_wp2_with fail
  refine (CF.out _).mono ?_
  rintro e w1 ⟨rfl,rfl⟩
  go_wp2_with fail
  refine (CT.out _).mono ?_
  rintro e w1 ⟨rfl,rfl⟩
  go_wp2_with fail
  go_ret
  exact ⟨rfl,BX.out⟩
 have q3:(x.fr != x.tt)=true:=by simpa using c3
 by_cases c4:1≤x.am
 case neg =>
  have e:=NA c4
  have hd':d=false:=by rw [← hd]; exact decide_eq_false e
  have q1:decide (1≤x.am)=false:=by simpa using c4
  subst hd'
  clear NF NT YY ND NA NB c1 c2 c3 c4 e hd
  go_enter Tryz.func87,Tryz.ntmps87
  go_wp2_with fail
  refine (CF.out _).mono ?_
  rintro e w1 ⟨rfl,rfl⟩
  go_wp2_with fail
  refine (CT.out _).mono ?_
  rintro e w1 ⟨rfl,rfl⟩
  go_wp2_with fail
  go_ret
  exact ⟨rfl,BX.out⟩
 have q4:decide (1≤x.am)=true:=by simpa using c4
 by_cases c5:x.am≤1099511627776
 case neg =>
  have e:=NB c5
  have hd':d=false:=by rw [← hd]; exact decide_eq_false e
  have q1:decide (x.am≤1099511627776)=false:=by simpa using c5
  subst hd'
  clear NF NT YY ND NA NB c1 c2 c3 c4 c5 e hd
  go_enter Tryz.func87,Tryz.ntmps87
  go_wp2_with fail
  refine (CF.out _).mono ?_
  rintro e w1 ⟨rfl,rfl⟩
  go_wp2_with fail
  refine (CT.out _).mono ?_
  rintro e w1 ⟨rfl,rfl⟩
  go_wp2_with fail
  go_ret
  exact ⟨rfl,BX.out⟩
 have q5:decide (x.am≤1099511627776)=true:=by simpa using c5
 have hd':d=true:=by rw [← hd]; exact decide_eq_true (YY c1 c2 c3 c4 c5)
 subst hd'
 clear NF NT YY ND NA NB c1 c2 c3 c4 c5 hd
 go_enter Tryz.func87,Tryz.ntmps87
 go_wp2_with fail
 refine (CF.out _).mono ?_
 rintro e w1 ⟨rfl,rfl⟩
 go_wp2_with fail
 refine (CT.out _).mono ?_
 rintro e w1 ⟨rfl,rfl⟩
 go_wp2_with fail
 go_ret
 exact ⟨rfl,BX.out⟩
def DMayAt (w:World) (l:List Fw) (i:Value) (wr:World):Prop:=∃ k:Nat,k≤l.length∧i=.int .i64 k∧Hid (mayN l k=true)∧Below w.heap.size w wr
set_option maxHeartbeats 16000000 in
set_option maxRecDepth 100000 in
theorem debtsMay_any {w:World} {ao:Option Addr} {cap:Nat} {l:List Fw} (hr:DebtsIn w ao l) (hfit:DebtsFit l) (hln:l.length≤300) :
  Calls Tryz.prog 71 #[.slice ao l.length cap] w fun e w'=>e=.returned (.bool (mayN l l.length))∧Below w.heap.size w w':=by
 have HC:=Lib.hid hr
 have HF:=Lib.hid hfit
 clear hr hfit
 go_enter Tryz.func71,Tryz.ntmps71
 go_wp2_with fail
 go_loopw [7] (DMayAt w l) (fun i _=>l.length - (intOf i).toNat)
 case atStart=>exact ⟨0,by omega,rfl,Lib.hid rfl,Below.refl _ _⟩
 case round =>
  obtain ⟨k,hk,rfl,HM,hB⟩:=hrel
  have BB:=Lib.hid hB
  clear hB
  by_cases hkl:k<l.length
  ·have qk:decide ((k:Int)<(l.length:Int))=true:=by simpa using hkl
   have k0:(0:Int)≤(k:Int):=by omega
   have k1:(k:Int)<(l.length:Int):=by omega
   obtain ⟨b,off,rfl,hbw,hcell⟩:=HC.out (by omega)
   obtain ⟨e0,e1,e2⟩:=hcell k hkl
   have d0:=(BB.out.cell (p:=⟨b,off + k * 3,none⟩) hbw).trans e0
   have d1:=(BB.out.cell (p:=⟨b,off + k * 3 + 1,none⟩) hbw).trans e1
   have d2:=(BB.out.cell (p:=⟨b,off + k * 3 + 2,none⟩) hbw).trans e2
   have HCELL:=Lib.hid hcell
   have hbr:=Nat.lt_of_lt_of_le hbw BB.out.size
   have HBW:=Lib.hid hbw
   obtain ⟨⟨f0,f9⟩,⟨t0,t9⟩,⟨a0,a9⟩⟩:=HF.out k hkl
   obtain ⟨N,hN⟩:∃ N,l.length=N:=⟨_,rfl⟩
   have HN:=Lib.hid hN
   obtain ⟨x,hx⟩:∃ x,dbt l k=x:=⟨_,rfl⟩
   have HX:=Lib.hid hx
   rw [hx] at d0 d1 d2 f0 f9 t0 t9 a0 a9
   rw [hN] at k1 qk hkl ⊢
   have CM:=Lib.hid (fun w=>debtMay_any x w)
   have KX:=Lib.hid (Blk.new wr #[.int .u8 x.fr,.int .u8 x.tt,.int .i64 x.am] 62)
   have B0:=Lib.hid (BB.out.alloc BB.out.size (.cells #[.int .u8 x.fr,.int .u8 x.tt,.int .i64 x.am] 62))
   obtain ⟨fr,tt,am⟩:=x
   dsimp only at d0 d1 d2 f0 f9 t0 t9 a0 a9 CM KX B0
   clear hcell e0 e1 e2 hx hN
   by_cases hok:okD ⟨fr,tt,am⟩
   ·have hd:decide (okD ⟨fr,tt,am⟩)=true:=decide_eq_true hok
    simp only [hd] at CM
    by_cases hk0:k=0
    ·have NX:Hid (mayN l (k + 1)=true):=Lib.hid (by rw [mayN_next,HM.out,HX.out,hd,decide_eq_true hk0]; rfl)
     have q6:decide (0<(k:Int))=false:=by simp; omega
     have q6n:decide (0<k)=false:=by simp; omega
     clear hk0 hd hok
     go_wp2_with fail
     generalize hX:wr.heap.size=X at KX ⊢
     generalize (wr.alloc (.cells #[.int .u8 fr,.int .u8 tt,.int .i64 am] 62))=W at KX B0 ⊢
     clear hX d0 d1 d2
     refine region_still (by kernel_rfl) [(.agg #[.int .u8 fr,.int .u8 tt,.int .i64 am]),(.bool true),(.bool false),(.bool false),(.int .i64 ((k:Nat):Int)),(.bool false),(.bool false),undef,undef,undef,undef,undef,undef,undef,undef,(.bool false),(.bool false)]
      (fun w'=>Below W.heap.size W w') (by kernel_rfl) (Below.refl _ _).drew ?_
     intro af haf
     simp only [List.toList_toArray,List.append_eq,List.cons_append,List.nil_append,puts,Act.put,List.getD_cons_zero,List.getD_cons_succ,List.setIfInBounds_toArray,List.set_cons_succ,List.set_cons_zero] at haf
     subst haf
     refine ⟨?_,?_⟩
     ·simp only [List.toList_toArray,List.append_eq,List.cons_append,List.nil_append,EachTo]
      refine ⟨?_,?_,?_,?_,?_,?_,?_,?_,?_,?_,?_,?_,?_,?_,?_,?_,?_,trivial⟩
      ·intro w' hS
       refine OpTo.plain ?_ ?_
       exact rfl
       have d0_0:=(KX.out.below hS KX.out.lt).cell 0
       have d0_1:=(KX.out.below hS KX.out.lt).cell 1
       have d0_2:=(KX.out.below hS KX.out.lt).cell 2
       simp at d0_0 d0_1 d0_2
       have HS:=Lib.hid hS
       clear hS
       go_wp2_with fail
       all_goals first | exact HS.out | exact ⟨rfl,HS.out⟩ | rfl | exact ⟨by omega,HS.out⟩
      ·intro w' hS
       refine OpTo.plain ?_ ?_
       exact rfl
       have HS:=Lib.hid hS
       clear hS
       go_wp2_with fail
       refine (CM.out w').mono ?_
       rintro e w'' ⟨rfl,hb2⟩
       exact ⟨rfl,andB HS.out hb2⟩
      ·intro w' hS
       refine OpTo.plain ?_ ?_
       exact rfl
       have HS:=Lib.hid hS
       clear hS
       go_wp2_with fail
       all_goals first | exact HS.out | exact ⟨rfl,HS.out⟩ | rfl | exact ⟨by omega,HS.out⟩
      ·intro w' hS
       refine OpTo.plain ?_ ?_
       exact rfl
       have HS:=Lib.hid hS
       clear hS
       go_wp2_with fail
       all_goals first | exact HS.out | exact ⟨rfl,HS.out⟩ | rfl | exact ⟨by omega,HS.out⟩
      ·intro w' hS
       refine OpTo.wanted ?_ ?_
       kernel_rfl
       have HS:=Lib.hid hS
       clear hS
       go_wp2_with fail
       all_goals first | exact HS.out | exact ⟨rfl,HS.out⟩ | rfl | exact ⟨by omega,HS.out⟩
      ·intro w' hS
       refine OpTo.wanted ?_ ?_
       kernel_rfl
       have HS:=Lib.hid hS
       clear hS
       go_wp2_with fail
       all_goals first | exact HS.out | exact ⟨rfl,HS.out⟩ | rfl | exact ⟨by omega,HS.out⟩
      ·intro w' hS
       refine OpTo.wanted ?_ ?_
       kernel_rfl
       have HS:=Lib.hid hS
       clear hS
       go_wp2_with fail
       all_goals first | exact HS.out | exact ⟨rfl,HS.out⟩ | rfl | exact ⟨by omega,HS.out⟩
      ·intro w' hS
       refine OpTo.passed (by kernel_rfl) rfl hS
      ·intro w' hS
       refine OpTo.passed (by kernel_rfl) rfl hS
      ·intro w' hS
       refine OpTo.passed (by kernel_rfl) rfl hS
      ·intro w' hS
       refine OpTo.passed (by kernel_rfl) rfl hS
      ·intro w' hS
       refine OpTo.passed (by kernel_rfl) rfl hS
      ·intro w' hS
       refine OpTo.passed (by kernel_rfl) rfl hS
      ·intro w' hS
       refine OpTo.passed (by kernel_rfl) rfl hS
      ·intro w' hS
       refine OpTo.passed (by kernel_rfl) rfl hS
      ·intro w' hS
       refine OpTo.wanted ?_ ?_
       kernel_rfl
       have HS:=Lib.hid hS
       clear hS
       go_wp2_with fail
       all_goals first | exact HS.out | exact ⟨rfl,HS.out⟩ | rfl | exact ⟨by omega,HS.out⟩
      ·intro w' hS
       refine OpTo.plain ?_ ?_
       exact rfl
       have HS:=Lib.hid hS
       clear hS
       go_wp2_with fail
       all_goals first | exact HS.out | exact ⟨rfl,HS.out⟩ | rfl | exact ⟨by omega,HS.out⟩
     intro w2 hb
     have B2:=Lib.hid (B0.out.trans (hb.mono B0.out.size))
     clear hb
     go_wp2_with fail
     exact ⟨⟨k + 1,by rw [HN.out]; omega,by go_num,NX,B2.out⟩,by simp [intOf]; omega⟩
    ·have q6:decide (0<(k:Int))=true:=by simp; omega
     have q6n:decide (0<k)=true:=by simp; omega
     obtain ⟨j,hj⟩:∃ j,k=j + 1:=⟨k - 1,by omega⟩
     have HJ:=Lib.hid hj
     have hkj:k - 1=j:=by omega
     have hT:((k:Int) - 1).toNat=k - 1:=by omega
     have HKJ:=Lib.hid hkj
     obtain ⟨p0,p1,p2⟩:=HCELL.out (k - 1) (by omega)
     obtain ⟨⟨u0,u9⟩,⟨v0,v9⟩,_⟩:=HF.out (k - 1) (by omega)
     obtain ⟨y,hy⟩:∃ y,dbt l (k - 1)=y:=⟨_,rfl⟩
     have HY:=Lib.hid hy
     rw [hy] at p0 p1 p2 u0 u9 v0 v9
     obtain ⟨yf,yt,ya⟩:=y
     dsimp only at p0 p1 p2 u0 u9 v0 v9
     have g0:(wr.alloc (.cells #[.int .u8 fr,.int .u8 tt,.int .i64 am] 62)).cell? ⟨b,off + (k - 1) * 3,none⟩=some (.int .u8 yf):=by exact (B0.out.cell (p:=⟨b,off + (k - 1) * 3,none⟩) hbw).trans p0
     have g1:(wr.alloc (.cells #[.int .u8 fr,.int .u8 tt,.int .i64 am] 62)).cell? ⟨b,off + (k - 1) * 3 + 1,none⟩=some (.int .u8 yt):=by exact (B0.out.cell (p:=⟨b,off + (k - 1) * 3 + 1,none⟩) hbw).trans p1
     have g2:(wr.alloc (.cells #[.int .u8 fr,.int .u8 tt,.int .i64 am] 62)).cell? ⟨b,off + (k - 1) * 3 + 2,none⟩=some (.int .i64 ya):=by exact (B0.out.cell (p:=⟨b,off + (k - 1) * 3 + 2,none⟩) hbw).trans p2
     have hbW:=Nat.lt_of_lt_of_le hbw B0.out.size
     clear hT
     have CO:=Lib.hid (fun w=>dorder_any ⟨yf,yt,ya⟩ ⟨fr,tt,am⟩ w)
     have HO:=Lib.hid (ordF_key (a:=⟨yf,yt,ya⟩) (b:=⟨fr,tt,am⟩) ⟨v0,v9⟩ ⟨t0,t9⟩)
     dsimp only at CO
     have hji:(0:Int)≤(k:Int) - 1:=by omega
     have hji2:(k:Int) - 1<(N:Int):=by omega
     have HK0:=Lib.hid hk0
     clear hy hk0 hj hkj p0 p1 p2 hok
     by_cases hkey:256 * yf + yt<256 * fr + tt
     ·have ho:ordF ⟨yf,yt,ya⟩ ⟨fr,tt,am⟩ = -1:=by
       rw [HO.out]; unfold cmpD keyD; exact if_pos hkey
      rw [ho] at CO
      have NX:Hid (mayN l (k + 1)=true):=Lib.hid (by rw [mayN_next,HM.out,HX.out,hd,HY.out,show decide (keyD ⟨yf,yt,ya⟩<keyD ⟨fr,tt,am⟩)=true from decide_eq_true hkey,Bool.or_true]; rfl)
      clear hkey ho hd HO
      go_wp2_with fail
      clear d0 d1 d2
      generalize hX:wr.heap.size=X at KX ⊢
      generalize (wr.alloc (.cells #[.int .u8 fr,.int .u8 tt,.int .i64 am] 62))=W at KX B0 g0 g1 g2 hbW ⊢
      clear hX
      refine region_still (by kernel_rfl) [(.agg #[.int .u8 fr,.int .u8 tt,.int .i64 am]),(.bool true),(.bool false),(.bool false),(.int .i64 ((k:Nat):Int)),(.bool true),(.bool true),(.slice (some ⟨b,off,none⟩) N cap),(.int .i64 ((k:Nat):Int)),(.int .i64 ((k:Int) - 1)),(.pointer (some ⟨b,off + (k - 1) * 3,none⟩)),(.agg #[.int .u8 yf,.int .u8 yt,.int .i64 ya]),(.agg #[.int .u8 fr,.int .u8 tt,.int .i64 am]),(.int .i64 (-1)),(.bool false),(.bool false),(.bool false)]
       (fun w'=>Below W.heap.size W w') (by kernel_rfl) (Below.refl _ _).drew ?_
      intro af haf
      simp only [List.toList_toArray,List.append_eq,List.cons_append,List.nil_append,puts,Act.put,List.getD_cons_zero,List.getD_cons_succ,List.setIfInBounds_toArray,List.set_cons_succ,List.set_cons_zero] at haf
      subst haf
      refine ⟨?_,?_⟩
      ·simp only [List.toList_toArray,List.append_eq,List.cons_append,List.nil_append,EachTo]
       refine ⟨?_,?_,?_,?_,?_,?_,?_,?_,?_,?_,?_,?_,?_,?_,?_,?_,?_,trivial⟩
       ·intro w' hS
        refine OpTo.plain ?_ ?_
        exact rfl
        have d0_0:=(KX.out.below hS KX.out.lt).cell 0
        have d0_1:=(KX.out.below hS KX.out.lt).cell 1
        have d0_2:=(KX.out.below hS KX.out.lt).cell 2
        simp at d0_0 d0_1 d0_2
        have HS:=Lib.hid hS
        clear hS
        go_wp2_with fail
        all_goals first | exact HS.out | exact ⟨rfl,HS.out⟩ | rfl | exact ⟨by omega,HS.out⟩
       ·intro w' hS
        refine OpTo.plain ?_ ?_
        exact rfl
        have HS:=Lib.hid hS
        clear hS
        go_wp2_with fail
        refine (CM.out w').mono ?_
        rintro e w'' ⟨rfl,hb2⟩
        exact ⟨rfl,andB HS.out hb2⟩
       ·intro w' hS
        refine OpTo.plain ?_ ?_
        exact rfl
        have HS:=Lib.hid hS
        clear hS
        go_wp2_with fail
        all_goals first | exact HS.out | exact ⟨rfl,HS.out⟩ | rfl | exact ⟨by omega,HS.out⟩
       ·intro w' hS
        refine OpTo.plain ?_ ?_
        exact rfl
        have HS:=Lib.hid hS
        clear hS
        go_wp2_with fail
        all_goals first | exact HS.out | exact ⟨rfl,HS.out⟩ | rfl | exact ⟨by omega,HS.out⟩
       ·intro w' hS
        refine OpTo.wanted ?_ ?_
        kernel_rfl
        have HS:=Lib.hid hS
        clear hS
        go_wp2_with fail
        all_goals first | exact HS.out | exact ⟨rfl,HS.out⟩ | rfl | exact ⟨by omega,HS.out⟩
       ·intro w' hS
        refine OpTo.wanted ?_ ?_
        kernel_rfl
        have HS:=Lib.hid hS
        clear hS
        go_wp2_with fail
        all_goals first | exact HS.out | exact ⟨rfl,HS.out⟩ | rfl | exact ⟨by omega,HS.out⟩
       ·intro w' hS
        refine OpTo.wanted ?_ ?_
        kernel_rfl
        have HS:=Lib.hid hS
        clear hS
        go_wp2_with fail
        all_goals first | exact HS.out | exact ⟨rfl,HS.out⟩ | rfl | exact ⟨by omega,HS.out⟩
       ·intro w' hS
        refine OpTo.wanted ?_ ?_
        kernel_rfl
        have HS:=Lib.hid hS
        clear hS
        go_wp2_with fail
        all_goals first | exact HS.out | exact ⟨rfl,HS.out⟩ | rfl | exact ⟨by omega,HS.out⟩
       ·intro w' hS
        refine OpTo.wanted ?_ ?_
        kernel_rfl
        have HS:=Lib.hid hS
        clear hS
        go_wp2_with fail
        all_goals first | exact HS.out | exact ⟨rfl,HS.out⟩ | rfl | exact ⟨by omega,HS.out⟩
       ·intro w' hS
        refine OpTo.wanted ?_ ?_
        kernel_rfl
        have HS:=Lib.hid hS
        clear hS
        go_wp2_with fail
        all_goals first | exact HS.out | exact ⟨rfl,HS.out⟩ | rfl | exact ⟨by omega,HS.out⟩
       ·intro w' hS
        refine OpTo.wanted ?_ ?_
        kernel_rfl
        have HS:=Lib.hid hS
        clear hS
        go_wp2_with fail
        all_goals first | exact HS.out | exact ⟨rfl,HS.out⟩ | rfl | exact ⟨by omega,HS.out⟩
       ·intro w' hS
        refine OpTo.wanted ?_ ?_
        kernel_rfl
        have hl:=Nat.lt_of_lt_of_le hbW hS.size
        have r0:=(hS.cell (p:=⟨b,off + (k - 1) * 3,none⟩) hbW).trans g0
        have r1:=(hS.cell (p:=⟨b,off + (k - 1) * 3 + 1,none⟩) hbW).trans g1
        have r2:=(hS.cell (p:=⟨b,off + (k - 1) * 3 + 2,none⟩) hbW).trans g2
        have HS:=Lib.hid hS
        clear hS
        go_wp2_with fail
        all_goals first | exact HS.out | exact ⟨rfl,HS.out⟩ | rfl | exact ⟨by omega,HS.out⟩
       ·intro w' hS
        refine OpTo.wanted ?_ ?_
        kernel_rfl
        have d0_0:=(KX.out.below hS KX.out.lt).cell 0
        have d0_1:=(KX.out.below hS KX.out.lt).cell 1
        have d0_2:=(KX.out.below hS KX.out.lt).cell 2
        simp at d0_0 d0_1 d0_2
        have HS:=Lib.hid hS
        clear hS
        go_wp2_with fail
        all_goals first | exact HS.out | exact ⟨rfl,HS.out⟩ | rfl | exact ⟨by omega,HS.out⟩
       ·intro w' hS
        refine OpTo.wanted ?_ ?_
        kernel_rfl
        have HS:=Lib.hid hS
        clear hS
        go_wp2_with fail
        refine (CO.out w').mono ?_
        rintro e w'' ⟨rfl,hb2⟩
        exact ⟨rfl,andB HS.out hb2⟩
       ·intro w' hS
        refine OpTo.wanted ?_ ?_
        kernel_rfl
        have HS:=Lib.hid hS
        clear hS
        go_wp2_with fail
        all_goals first | exact HS.out | exact ⟨rfl,HS.out⟩ | rfl | exact ⟨by omega,HS.out⟩
       ·intro w' hS
        refine OpTo.wanted ?_ ?_
        kernel_rfl
        have HS:=Lib.hid hS
        clear hS
        go_wp2_with fail
        all_goals first | exact HS.out | exact ⟨rfl,HS.out⟩ | rfl | exact ⟨by omega,HS.out⟩
       ·intro w' hS
        refine OpTo.plain ?_ ?_
        exact rfl
        have HS:=Lib.hid hS
        clear hS
        go_wp2_with fail
        all_goals first | exact HS.out | exact ⟨rfl,HS.out⟩ | rfl | exact ⟨by omega,HS.out⟩
      intro w2 hb
      have B2:=Lib.hid (B0.out.trans (hb.mono B0.out.size))
      clear hb
      go_wp2_with fail
      exact ⟨⟨k + 1,by rw [HN.out]; omega,by go_num,NX,B2.out⟩,by simp [intOf]; omega⟩
     ·have ho:0≤ordF ⟨yf,yt,ya⟩ ⟨fr,tt,am⟩:=by
       rw [HO.out]; unfold cmpD keyD; dsimp only; rw [if_neg hkey]; split <;> decide
      generalize ordF ⟨yf,yt,ya⟩ ⟨fr,tt,am⟩=oo at *
      have q7:decide (0≤oo)=true:=by simpa using ho
      have R:Hid (mayN l l.length=false):=Lib.hid (mayN_less (k + 1) (by rw [HN.out]; omega) (by rw [mayN_next,HX.out,HY.out,show decide (keyD ⟨yf,yt,ya⟩<keyD ⟨fr,tt,am⟩)=false from decide_eq_false hkey,show decide (k=0)=false from decide_eq_false HK0.out,Bool.or_false,Bool.and_false]))
      clear hkey ho hd HO
      go_wp2_with fail
      clear d0 d1 d2
      generalize hX:wr.heap.size=X at KX ⊢
      generalize (wr.alloc (.cells #[.int .u8 fr,.int .u8 tt,.int .i64 am] 62))=W at KX B0 g0 g1 g2 hbW ⊢
      clear hX
      refine region_still (by kernel_rfl) [(.agg #[.int .u8 fr,.int .u8 tt,.int .i64 am]),(.bool true),(.bool false),(.bool false),(.int .i64 ((k:Nat):Int)),(.bool true),(.bool true),(.slice (some ⟨b,off,none⟩) N cap),(.int .i64 ((k:Nat):Int)),(.int .i64 ((k:Int) - 1)),(.pointer (some ⟨b,off + (k - 1) * 3,none⟩)),(.agg #[.int .u8 yf,.int .u8 yt,.int .i64 ya]),(.agg #[.int .u8 fr,.int .u8 tt,.int .i64 am]),(.int .i64 oo),(.bool true),(.bool true),(.bool true)]
       (fun w'=>Below W.heap.size W w') (by kernel_rfl) (Below.refl _ _).drew ?_
      intro af haf
      simp only [List.toList_toArray,List.append_eq,List.cons_append,List.nil_append,puts,Act.put,List.getD_cons_zero,List.getD_cons_succ,List.setIfInBounds_toArray,List.set_cons_succ,List.set_cons_zero] at haf
      subst haf
      refine ⟨?_,?_⟩
      ·simp only [List.toList_toArray,List.append_eq,List.cons_append,List.nil_append,EachTo]
       refine ⟨?_,?_,?_,?_,?_,?_,?_,?_,?_,?_,?_,?_,?_,?_,?_,?_,?_,trivial⟩
       ·intro w' hS
        refine OpTo.plain ?_ ?_
        exact rfl
        have d0_0:=(KX.out.below hS KX.out.lt).cell 0
        have d0_1:=(KX.out.below hS KX.out.lt).cell 1
        have d0_2:=(KX.out.below hS KX.out.lt).cell 2
        simp at d0_0 d0_1 d0_2
        have HS:=Lib.hid hS
        clear hS
        go_wp2_with fail
        all_goals first | exact HS.out | exact ⟨rfl,HS.out⟩ | rfl | exact ⟨by omega,HS.out⟩
       ·intro w' hS
        refine OpTo.plain ?_ ?_
        exact rfl
        have HS:=Lib.hid hS
        clear hS
        go_wp2_with fail
        refine (CM.out w').mono ?_
        rintro e w'' ⟨rfl,hb2⟩
        exact ⟨rfl,andB HS.out hb2⟩
       ·intro w' hS
        refine OpTo.plain ?_ ?_
        exact rfl
        have HS:=Lib.hid hS
        clear hS
        go_wp2_with fail
        all_goals first | exact HS.out | exact ⟨rfl,HS.out⟩ | rfl | exact ⟨by omega,HS.out⟩
       ·intro w' hS
        refine OpTo.plain ?_ ?_
        exact rfl
        have HS:=Lib.hid hS
        clear hS
        go_wp2_with fail
        all_goals first | exact HS.out | exact ⟨rfl,HS.out⟩ | rfl | exact ⟨by omega,HS.out⟩
       ·intro w' hS
        refine OpTo.wanted ?_ ?_
        kernel_rfl
        have HS:=Lib.hid hS
        clear hS
        go_wp2_with fail
        all_goals first | exact HS.out | exact ⟨rfl,HS.out⟩ | rfl | exact ⟨by omega,HS.out⟩
       ·intro w' hS
        refine OpTo.wanted ?_ ?_
        kernel_rfl
        have HS:=Lib.hid hS
        clear hS
        go_wp2_with fail
        all_goals first | exact HS.out | exact ⟨rfl,HS.out⟩ | rfl | exact ⟨by omega,HS.out⟩
       ·intro w' hS
        refine OpTo.wanted ?_ ?_
        kernel_rfl
        have HS:=Lib.hid hS
        clear hS
        go_wp2_with fail
        all_goals first | exact HS.out | exact ⟨rfl,HS.out⟩ | rfl | exact ⟨by omega,HS.out⟩
       ·intro w' hS
        refine OpTo.wanted ?_ ?_
        kernel_rfl
        have HS:=Lib.hid hS
        clear hS
        go_wp2_with fail
        all_goals first | exact HS.out | exact ⟨rfl,HS.out⟩ | rfl | exact ⟨by omega,HS.out⟩
       ·intro w' hS
        refine OpTo.wanted ?_ ?_
        kernel_rfl
        have HS:=Lib.hid hS
        clear hS
        go_wp2_with fail
        all_goals first | exact HS.out | exact ⟨rfl,HS.out⟩ | rfl | exact ⟨by omega,HS.out⟩
       ·intro w' hS
        refine OpTo.wanted ?_ ?_
        kernel_rfl
        have HS:=Lib.hid hS
        clear hS
        go_wp2_with fail
        all_goals first | exact HS.out | exact ⟨rfl,HS.out⟩ | rfl | exact ⟨by omega,HS.out⟩
       ·intro w' hS
        refine OpTo.wanted ?_ ?_
        kernel_rfl
        have HS:=Lib.hid hS
        clear hS
        go_wp2_with fail
        all_goals first | exact HS.out | exact ⟨rfl,HS.out⟩ | rfl | exact ⟨by omega,HS.out⟩
       ·intro w' hS
        refine OpTo.wanted ?_ ?_
        kernel_rfl
        have hl:=Nat.lt_of_lt_of_le hbW hS.size
        have r0:=(hS.cell (p:=⟨b,off + (k - 1) * 3,none⟩) hbW).trans g0
        have r1:=(hS.cell (p:=⟨b,off + (k - 1) * 3 + 1,none⟩) hbW).trans g1
        have r2:=(hS.cell (p:=⟨b,off + (k - 1) * 3 + 2,none⟩) hbW).trans g2
        have HS:=Lib.hid hS
        clear hS
        go_wp2_with fail
        all_goals first | exact HS.out | exact ⟨rfl,HS.out⟩ | rfl | exact ⟨by omega,HS.out⟩
       ·intro w' hS
        refine OpTo.wanted ?_ ?_
        kernel_rfl
        have d0_0:=(KX.out.below hS KX.out.lt).cell 0
        have d0_1:=(KX.out.below hS KX.out.lt).cell 1
        have d0_2:=(KX.out.below hS KX.out.lt).cell 2
        simp at d0_0 d0_1 d0_2
        have HS:=Lib.hid hS
        clear hS
        go_wp2_with fail
        all_goals first | exact HS.out | exact ⟨rfl,HS.out⟩ | rfl | exact ⟨by omega,HS.out⟩
       ·intro w' hS
        refine OpTo.wanted ?_ ?_
        kernel_rfl
        have HS:=Lib.hid hS
        clear hS
        go_wp2_with fail
        refine (CO.out w').mono ?_
        rintro e w'' ⟨rfl,hb2⟩
        exact ⟨rfl,andB HS.out hb2⟩
       ·intro w' hS
        refine OpTo.wanted ?_ ?_
        kernel_rfl
        have HS:=Lib.hid hS
        clear hS
        go_wp2_with fail
        all_goals first | exact HS.out | exact ⟨rfl,HS.out⟩ | rfl | exact ⟨by omega,HS.out⟩
       ·intro w' hS
        refine OpTo.wanted ?_ ?_
        kernel_rfl
        have HS:=Lib.hid hS
        clear hS
        go_wp2_with fail
        all_goals first | exact HS.out | exact ⟨rfl,HS.out⟩ | rfl | exact ⟨by omega,HS.out⟩
       ·intro w' hS
        refine OpTo.plain ?_ ?_
        exact rfl
        have HS:=Lib.hid hS
        clear hS
        go_wp2_with fail
        all_goals first | exact HS.out | exact ⟨rfl,HS.out⟩ | rfl | exact ⟨by omega,HS.out⟩
      intro w2 hb
      have B2:=Lib.hid (B0.out.trans (hb.mono B0.out.size))
      clear hb
      go_wp2_with fail
      go_ret
      exact ⟨by rw [R.out]; rfl,B2.out⟩
   ·have hd:decide (okD ⟨fr,tt,am⟩)=false:=decide_eq_false hok
    simp only [hd] at CM
    have R:Hid (mayN l l.length=false):=Lib.hid (mayN_less (k + 1) (by rw [HN.out]; omega) (by rw [mayN_next,HX.out,hd,Bool.and_false,Bool.false_and]))
    clear hd hok
    go_wp2_with fail
    clear d0 d1 d2
    generalize hX:wr.heap.size=X at KX ⊢
    generalize (wr.alloc (.cells #[.int .u8 fr,.int .u8 tt,.int .i64 am] 62))=W at KX B0 ⊢
    clear hX
    refine region_still (by kernel_rfl) [(.agg #[.int .u8 fr,.int .u8 tt,.int .i64 am]),(.bool false),(.bool true),(.bool true),undef,undef,undef,undef,undef,undef,undef,undef,undef,undef,undef,undef,(.bool true)]
     (fun w'=>Below W.heap.size W w') (by kernel_rfl) (Below.refl _ _).drew ?_
    intro af haf
    simp only [List.toList_toArray,List.append_eq,List.cons_append,List.nil_append,puts,Act.put,List.getD_cons_zero,List.getD_cons_succ,List.setIfInBounds_toArray,List.set_cons_succ,List.set_cons_zero] at haf
    subst haf
    refine ⟨?_,?_⟩
    ·simp only [List.toList_toArray,List.append_eq,List.cons_append,List.nil_append,EachTo]
     refine ⟨?_,?_,?_,?_,?_,?_,?_,?_,?_,?_,?_,?_,?_,?_,?_,?_,?_,trivial⟩
     ·intro w' hS
      refine OpTo.plain ?_ ?_
      exact rfl
      have d0_0:=(KX.out.below hS KX.out.lt).cell 0
      have d0_1:=(KX.out.below hS KX.out.lt).cell 1
      have d0_2:=(KX.out.below hS KX.out.lt).cell 2
      simp at d0_0 d0_1 d0_2
      have HS:=Lib.hid hS
      clear hS
      go_wp2_with fail
      all_goals first | exact HS.out | exact ⟨rfl,HS.out⟩ | rfl | exact ⟨by omega,HS.out⟩
     ·intro w' hS
      refine OpTo.plain ?_ ?_
      exact rfl
      have HS:=Lib.hid hS
      clear hS
      go_wp2_with fail
      refine (CM.out w').mono ?_
      rintro e w'' ⟨rfl,hb2⟩
      exact ⟨rfl,andB HS.out hb2⟩
     ·intro w' hS
      refine OpTo.plain ?_ ?_
      exact rfl
      have HS:=Lib.hid hS
      clear hS
      go_wp2_with fail
      all_goals first | exact HS.out | exact ⟨rfl,HS.out⟩ | rfl | exact ⟨by omega,HS.out⟩
     ·intro w' hS
      refine OpTo.plain ?_ ?_
      exact rfl
      have HS:=Lib.hid hS
      clear hS
      go_wp2_with fail
      all_goals first | exact HS.out | exact ⟨rfl,HS.out⟩ | rfl | exact ⟨by omega,HS.out⟩
     ·intro w' hS
      refine OpTo.passed (by kernel_rfl) rfl hS
     ·intro w' hS
      refine OpTo.passed (by kernel_rfl) rfl hS
     ·intro w' hS
      refine OpTo.passed (by kernel_rfl) rfl hS
     ·intro w' hS
      refine OpTo.passed (by kernel_rfl) rfl hS
     ·intro w' hS
      refine OpTo.passed (by kernel_rfl) rfl hS
     ·intro w' hS
      refine OpTo.passed (by kernel_rfl) rfl hS
     ·intro w' hS
      refine OpTo.passed (by kernel_rfl) rfl hS
     ·intro w' hS
      refine OpTo.passed (by kernel_rfl) rfl hS
     ·intro w' hS
      refine OpTo.passed (by kernel_rfl) rfl hS
     ·intro w' hS
      refine OpTo.passed (by kernel_rfl) rfl hS
     ·intro w' hS
      refine OpTo.passed (by kernel_rfl) rfl hS
     ·intro w' hS
      refine OpTo.passed (by kernel_rfl) rfl hS
     ·intro w' hS
      refine OpTo.plain ?_ ?_
      exact rfl
      have HS:=Lib.hid hS
      clear hS
      go_wp2_with fail
      all_goals first | exact HS.out | exact ⟨rfl,HS.out⟩ | rfl | exact ⟨by omega,HS.out⟩
    intro w2 hb
    have B2:=Lib.hid (B0.out.trans (hb.mono B0.out.size))
    clear hb
    go_wp2_with fail
    go_ret
    exact ⟨by rw [R.out]; rfl,B2.out⟩
  ·have hkn:k=l.length:=by omega
   subst hkn
   have qk:decide (((l.length:Nat):Int)<(l.length:Int))=false:=by simp
   go_wp2_with fail
   go_ret
   exact ⟨by rw [HM.out]; rfl,BB.out⟩
end Go.Proofs.YtlbjjkbppbmihaaGreat
namespace Go.Proofs.YtlbjjkbppbmihaaGreat
open Go.RowKit
def dcVals (l:List Fw) (L:Nat→Int) (i:Nat):List Value:=[.int .u8 (dbt l i).fr,.int .u8 (dbt l i).tt,.int .i64 (L i),.int .i64 ((dbt l i).am - L i)]
def dcCells (l:List Fw) (L:Nat→Int):Nat→List Value
 | 0=>[]
 | k + 1=>dcCells l L k++dcVals l L k
theorem dcCells_len (l:List Fw) (L:Nat→Int):∀ n,(dcCells l L n).length=n * 4
 | 0=>rfl
 | n + 1=>by
  show (dcCells l L n++dcVals l L n).length=_
  rw [List.length_append,dcCells_len l L n]
  show n * 4 + 4=_
  omega
theorem dcCells_get (l:List Fw) (L:Nat→Int) {i j:Nat} (hj:j<4):∀ n,i<n→(dcCells l L n)[i * 4 + j]? = (dcVals l L i)[j]?
 | 0,h=>by omega
 | n + 1,h=>by
  show (dcCells l L n++dcVals l L n)[i * 4 + j]? = _
  by_cases hi:i=n
  ·subst hi
   rw [List.getElem?_append_right (by rw [dcCells_len]; omega),dcCells_len]
   congr 1
   omega
  ·rw [List.getElem?_append_left (by rw [dcCells_len]; omega)]
   exact dcCells_get l L hj n (by omega)
theorem dcCells_set (l:List Fw) (L:Nat→Int) {i n:Nat} (hi:i<n) (v:Int):((dcCells l L n).set (i * 4 + 2) (.int .i64 v)).set (i * 4 + 3) (.int .i64 ((dbt l i).am - v))=dcCells l (updL L i v) n:=by
 apply List.ext_getElem?
 intro j
 rcases Nat.lt_or_ge j (n * 4) with hj | hj
 ·obtain ⟨a,b,hb,rfl⟩:∃ a b,b<4∧j=a * 4 + b:=⟨j / 4,j % 4,Nat.mod_lt _ (by decide),by omega⟩
  have ha:a<n:=by omega
  rw [dcCells_get l _ hb n ha,List.getElem?_set,List.getElem?_set,List.length_set,dcCells_len,dcCells_get l L hb n ha]
  by_cases hai:i=a
  ·subst hai
   rcases (by omega:b=0∨b=1∨b=2∨b=3) with rfl | rfl | rfl | rfl
   ·rw [if_neg (by omega),if_neg (by omega)]; rfl
   ·rw [if_neg (by omega),if_neg (by omega)]; rfl
   ·rw [if_neg (by omega),if_pos rfl,if_pos (by omega)]
    show _=some (Value.int .i64 (updL L i v i))
    unfold updL
    rw [if_pos rfl]
   ·rw [if_pos rfl,if_pos (by omega)]
    show _=some (Value.int .i64 ((dbt l i).am - updL L i v i))
    unfold updL
    rw [if_pos rfl]
  ·rw [if_neg (by omega),if_neg (by omega)]
   have:updL L i v a=L a:=by unfold updL; exact if_neg (fun h=>hai h.symm)
   unfold dcVals
   rw [this]
 ·rw [List.getElem?_eq_none (by rw [List.length_set,List.length_set,dcCells_len]; omega),List.getElem?_eq_none (by rw [dcCells_len]; omega)]
def leftN (l:List Fw) (L:Nat→Int):Nat→List Fw
 | 0=>[]
 | k + 1=>leftN l L k++if 0<L k then [⟨(dbt l k).fr,(dbt l k).tt,L k⟩] else []
def leftL (l:List Fw) (L:Nat→Int):List Fw:=leftN l L l.length
theorem leftN_len (l:List Fw) (L:Nat→Int):∀ n,(leftN l L n).length≤n
 | 0=>Nat.le_refl _
 | n + 1=>by
  have:=leftN_len l L n
  show (leftN l L n++_).length≤_
  rw [List.length_append]
  split <;> simp <;> omega
def dcVal (a b n m:Int):Value:=.agg #[.int .u8 a,.int .u8 b,.int .i64 n,.int .i64 m]
theorem info_dc:(Tryz.prog.info? 139).map (fun i=>(i.zero,i.size,i.bytes))=some (some (dcVal 0 0 0 0),4,24):=by kernel_rfl
def BegAt (w:World) (l:List Fw) (c i:Value) (wr:World):Prop :=
 ∃ k:Nat,k≤l.length∧i=.int .i64 k∧wr.ownsRow w.heap.size 139 4 c k (dcCells l (amD l) k)∧Below w.heap.size w wr
def BegPost (l:List Fw) (w:World) (e:Ending) (w':World):Prop :=
 ∃ c,e=.returned c∧w'.ownsRow w.heap.size 139 4 c l.length (dcCells l (amD l) l.length)∧Below w.heap.size w w'
set_option maxHeartbeats 4000000 in
set_option maxRecDepth 100000 in
theorem begin_any {w:World} {ao:Option Addr} {cap:Nat} {l:List Fw} (hr:DebtsIn w ao l) (hln:l.length≤300) :
  Calls Tryz.prog 72 #[.slice ao l.length cap] w (BegPost l w):=by
 have HC:=Lib.hid hr
 clear hr
 go_enter Tryz.func72,Tryz.ntmps72
 go_wp2_with fail
 go_loopw [3,8] (BegAt w l) (fun _ i _=>l.length - (intOf i).toNat)
 case atStart=>exact ⟨0,by omega,rfl,World.ownsRow_nil _ _ _ _,Below.refl _ _⟩
 case round =>
  obtain ⟨k,hk,rfl,hO,hB⟩:=hrel
  have BB:=Lib.hid hB
  have OO:=Lib.hid hO
  obtain ⟨aoc,capc,rfl,_⟩:=owns_open hO
  clear hB hO
  by_cases hkl:k<l.length
  ·have qk:decide ((k:Int)<(l.length:Int))=true:=by simpa using hkl
   have k0:(0:Int)≤(k:Int):=by omega
   have k1:(k:Int)<(l.length:Int):=by omega
   obtain ⟨b,off,rfl,hbw,hcell⟩:=HC.out (by omega)
   obtain ⟨e0,e1,e2⟩:=hcell k hkl
   have d0:=(BB.out.cell (p:=⟨b,off + k * 3,none⟩) hbw).trans e0
   have d1:=(BB.out.cell (p:=⟨b,off + k * 3 + 1,none⟩) hbw).trans e1
   have d2:=(BB.out.cell (p:=⟨b,off + k * 3 + 2,none⟩) hbw).trans e2
   have hbr:=Nat.lt_of_lt_of_le hbw BB.out.size
   obtain ⟨N,hN⟩:∃ N,l.length=N:=⟨_,rfl⟩
   have HN:=Lib.hid hN
   obtain ⟨x,hx⟩:∃ x,dbt l k=x:=⟨_,rfl⟩
   have NX:Hid (dcVals l (amD l) k=[.int .u8 x.fr,.int .u8 x.tt,.int .i64 x.am,.int .i64 0]):=Lib.hid (by
    unfold dcVals amD; rw [hx,Int.sub_self])
   rw [hx] at d0 d1 d2
   rw [hN] at k1 qk hkl ⊢
   obtain ⟨fr,tt,am⟩:=x
   dsimp only at d0 d1 d2 NX
   clear hcell e0 e1 e2 hx hN
   go_wp2_with (at_builtin; refine wpList_append_one _ rfl (.tmp 12) (.tmp 15) 117 139 rfl Tryz.underlying117 info_dc rfl (by decide) (by decide) w.heap.size _ k _ rfl ((owns_below OO.out ((Below.refl _ _).alloc (Nat.le_refl _) _)).alloc _) (wr.heap.size + 1) 1 [.int .u8 fr,.int .u8 tt,.int .i64 am,.int .i64 0] rfl (by simp [go_sem]) ?_ (by intro u hu; simp at hu; rcases hu with rfl | rfl | rfl | rfl <;> rfl) (by omega) (by have:=BB.out.size; simp; omega) ?_)
   ·exact Blk.newAt _ _ _ (by simp)
   intro v w2 hown hgr
   have B2:=Lib.hid (((BB.out.alloc BB.out.size (.cells #[.int .u8 fr,.int .u8 tt,.int .i64 am] 62)).alloc (by have:=BB.out.size; simp; omega) _).grown hgr (by have:=BB.out.size; simp; omega) (fun k' h=>(owns_type OO.out h).1))
   have O2:=Lib.hid hown
   clear hown hgr
   go_wp2_with fail
   refine ⟨⟨k + 1,by rw [HN.out]; omega,by go_num,?_,B2.out⟩,by simp [intOf]; omega⟩
   have:=O2.out
   show World.ownsRow _ _ _ _ _ _ (dcCells l (amD l) k++dcVals l (amD l) k)
   rw [NX.out]
   exact this
  ·have hkn:k=l.length:=by omega
   subst hkn
   have qk:decide (((l.length:Nat):Int)<(l.length:Int))=false:=by simp
   go_wp2_with fail
   refine bodyPost_ret (v:=.slice aoc l.length capc) (by simp [results,Tryz.results72,go_sem]) rfl ?_
   exact ⟨_,rfl,OO.out,BB.out⟩
end Go.Proofs.YtlbjjkbppbmihaaGreat
namespace Go.Proofs.YtlbjjkbppbmihaaGreat
open Go.RowKit
theorem rdE_next (l:List Fw) (L:Nat→Int) (k:Nat):rdE l L (k + 1)=rdE l L k++((if 0<L k then [⟨(dbt l k).fr,(dbt l k).tt,-1⟩] else [])++(if L k<(dbt l k).am then [⟨(dbt l k).tt,(dbt l k).fr,1⟩] else [])):=rfl
theorem rdE_fits {l:List Fw} (L:Nat→Int) (h:DebtsFit l):∀ e ∈ rdE l L l.length,e.Fits:=by
 intro e he
 obtain ⟨i,hi,⟨_,rfl⟩ | ⟨_,rfl⟩⟩:=(rdE_mem _).1 he
 ·obtain ⟨h1,h2,_⟩:=h i hi
  exact ⟨h1,h2,by dsimp only; omega⟩
 ·obtain ⟨h1,h2,_⟩:=h i hi
  exact ⟨h2,h1,by dsimp only; omega⟩
theorem dc_get {w:World} {base:Nat} {l:List Fw} {L:Nat→Int} {b n cap:Nat} (h:w.ownsRow base 139 4 (.slice (some ⟨b,0,none⟩) n cap) n (dcCells l L n)) {k:Nat} (hk:k<n) :
  w.cell? ⟨b,k * 4,none⟩=some (.int .u8 (dbt l k).fr)∧w.cell? ⟨b,k * 4 + 1,none⟩=some (.int .u8 (dbt l k).tt)∧w.cell? ⟨b,k * 4 + 2,none⟩=some (.int .i64 (L k))∧w.cell? ⟨b,k * 4 + 3,none⟩=some (.int .i64 ((dbt l k).am - L k)):=by
 refine ⟨?_,?_,?_,?_⟩
 ·have:=h.cellAt (k * 4 + 0) (by omega)
  rw [dcCells_get l L (by omega) n hk] at this
  exact this
 ·have:=h.cellAt (k * 4 + 1) (by omega)
  rw [dcCells_get l L (by omega) n hk] at this
  exact this
 ·have:=h.cellAt (k * 4 + 2) (by omega)
  rw [dcCells_get l L (by omega) n hk] at this
  exact this
 ·have:=h.cellAt (k * 4 + 3) (by omega)
  rw [dcCells_get l L (by omega) n hk] at this
  exact this
def CRndAt (w:World) (l:List Fw) (L:Nat→Int) (c i:Value) (wr:World):Prop :=
 ∃ k:Nat,k≤l.length∧i=.int .i64 k∧wr.ownsRow w.heap.size 141 3 c (rdE l L k).length (edCells (rdE l L k))∧Below w.heap.size w wr
set_option maxHeartbeats 8000000 in
set_option maxRecDepth 100000 in
theorem cround_any {w:World} {base:Nat} {c:Value} {l:List Fw} {L:Nat→Int} (hO:w.ownsRow base 139 4 c l.length (dcCells l L l.length)) (hfit:DebtsFit l) (hln:l.length≤300) :
  Calls Tryz.prog 73 #[c] w (RowPost 30 (roundW (rdE l L l.length)) w):=by
 obtain ⟨ao,cap,rfl,_,_,_,hown⟩:=owns_open hO
 have HO:=Lib.hid hO
 have HF:=Lib.hid hfit
 have HW:=Lib.hid hown
 clear hO hfit hown
 go_enter Tryz.func73,Tryz.ntmps73
 go_wp2_with fail
 go_loopw [3,8] (CRndAt w l L) (fun _ i _=>l.length - (intOf i).toNat)
 case atStart=>exact ⟨0,by omega,rfl,World.ownsRow_nil _ _ _ _,Below.refl _ _⟩
 case round =>
  obtain ⟨k,hk,rfl,hE,hB⟩:=hrel
  have BB:=Lib.hid hB
  have OE:=Lib.hid hE
  obtain ⟨aoc,capc,rfl,_⟩:=owns_open hE
  have hel:=rdE_len l L k
  clear hB hE
  by_cases hkl:k<l.length
  ·have qk:decide ((k:Int)<(l.length:Int))=true:=by simpa using hkl
   have k0:(0:Int)≤(k:Int):=by omega
   have k1:(k:Int)<(l.length:Int):=by omega
   obtain ⟨b,rfl,hbb,hbw,_,_⟩:=HW.out (by omega)
   obtain ⟨e0,e1,e2,e3⟩:=dc_get HO.out hkl
   have d0:=(BB.out.cell (p:=⟨b,k * 4,none⟩) hbw).trans e0
   have d1:=(BB.out.cell (p:=⟨b,k * 4 + 1,none⟩) hbw).trans e1
   have d2:=(BB.out.cell (p:=⟨b,k * 4 + 2,none⟩) hbw).trans e2
   have d3:=(BB.out.cell (p:=⟨b,k * 4 + 3,none⟩) hbw).trans e3
   have hbr:=Nat.lt_of_lt_of_le hbw BB.out.size
   obtain ⟨N,hN⟩:∃ N,l.length=N:=⟨_,rfl⟩
   have HN:=Lib.hid hN
   have NX:=Lib.hid (rdE_next l L k)
   obtain ⟨x,hx⟩:∃ x,dbt l k=x:=⟨_,rfl⟩
   rw [hx] at d0 d1 d3 NX
   obtain ⟨n,hn⟩:∃ n,L k=n:=⟨_,rfl⟩
   rw [hn] at d2 d3 NX
   rw [hN] at k1 qk hkl ⊢
   obtain ⟨fr,tt,am⟩:=x
   dsimp only at d0 d1 d2 d3 NX
   clear e0 e1 e2 e3 hx hN hn hbb
   have hel2:(rdE l L k).length≤600:=by omega
   have HEL:=Lib.hid hel2
   clear hel2
   generalize hEs:rdE l L k=es at OE NX hel HEL ⊢
   clear hEs
   have KD:=Lib.hid (Blk.new wr #[.int .u8 fr,.int .u8 tt,.int .i64 n,.int .i64 (am - n)] 139)
   have BD:=Lib.hid (BB.out.alloc BB.out.size (.cells #[.int .u8 fr,.int .u8 tt,.int .i64 n,.int .i64 (am - n)] 139))
   have OD:=Lib.hid (owns_below OE.out ((Below.refl _ _).alloc (Nat.le_refl _) (.cells #[.int .u8 fr,.int .u8 tt,.int .i64 n,.int .i64 (am - n)] 139)))
   by_cases hp:0<n
   ·have qp:decide (0<n)=true:=by simpa using hp
    rw [if_pos hp] at NX
    by_cases hq:n<am
    ·have qq:decide (0<am - n)=true:=by simp; omega
     have qr:decide (n<am)=true:=by simp; omega
     rw [if_pos hq] at NX
     rw [← List.append_assoc] at NX
     clear hp hq
     go_wp2_with (at_builtin; refine wpList_append_one _ rfl (.tmp 16) (.tmp 24) 140 141 rfl Tryz.underlying140 info_pe rfl (by decide) (by decide) w.heap.size _ es.length _ rfl (OD.out.alloc _) (wr.heap.size + 1) 1 [.int .u8 fr,.int .u8 tt,.int .i8 (-1)] rfl (by simp [go_sem]) ?_ (by intro u hu; simp at hu; rcases hu with rfl | rfl | rfl <;> rfl) (by have:=HEL.out; omega) (by have:=BB.out.size; simp; omega) ?_)
     ·exact Blk.newAt _ _ _ (by simp)
     intro v w2 hown hgr
     have O2:=Lib.hid (show w2.ownsRow w.heap.size 141 3 v (es++[(⟨fr,tt,-1⟩:Ed)]).length (edCells (es++[(⟨fr,tt,-1⟩:Ed)])) from by rw [edCells_append,edCells_one,List.length_append]; exact hown)
     have B2:=Lib.hid (below_ag BD.out BD.out.size hgr (fun k' h=>(owns_type OE.out h).1))
     have K2:=Lib.hid ((KD.out.alloc (.cells #[.int .u8 fr,.int .u8 tt,.int .i8 (-1)] 141)).grown hgr (fun e=>by have:=(owns_type OE.out e).2.1; omega))
     have c0:=K2.out.cell 0
     have c1:=K2.out.cell 1
     have c2:=K2.out.cell 2
     have c3:=K2.out.cell 3
     have hlt2:=K2.out.lt
     simp at c0 c1 c2 c3
     clear hown hgr
     obtain ⟨ao2,cap2,hv2,_⟩:=owns_open O2.out
     subst hv2
     go_wp2_with (at_builtin; refine wpList_append_one _ rfl (.tmp 29) (.tmp 37) 140 141 rfl Tryz.underlying140 info_pe rfl (by decide) (by decide) w.heap.size _ (es++[(⟨fr,tt,-1⟩:Ed)]).length _ rfl (O2.out.alloc _) w2.heap.size 1 [.int .u8 tt,.int .u8 fr,.int .i8 1] rfl (by simp [go_sem]) ?_ (by intro u hu; simp at hu; rcases hu with rfl | rfl | rfl <;> rfl) (by have:=HEL.out; simp; omega) (by have:=B2.out.size; simp; omega) ?_)
     ·exact Blk.newAt _ _ _ (by simp)
     intro v3 w3 hown hgr
     have O3:=Lib.hid (show w3.ownsRow w.heap.size 141 3 v3 ((es++[(⟨fr,tt,-1⟩:Ed)])++[(⟨tt,fr,1⟩:Ed)]).length (edCells ((es++[(⟨fr,tt,-1⟩:Ed)])++[(⟨tt,fr,1⟩:Ed)])) from by rw [show ((es++[(⟨fr,tt,-1⟩:Ed)])++[(⟨tt,fr,1⟩:Ed)]).length=es.length + 2 from by simp,edCells_append,edCells_one]; exact hown)
     have B3:=Lib.hid (below_ag B2.out B2.out.size hgr (fun k' h=>(owns_type O2.out (by simpa using h)).1))
     clear hown hgr
     go_wp2_with fail
     exact ⟨⟨k + 1,by rw [HN.out]; omega,by go_num,by rw [NX.out]; exact O3.out,B3.out⟩,by simp [intOf]; omega⟩
    ·have qq:decide (0<am - n)=false:=by simp; omega
     have qr:decide (n<am)=false:=by simp; omega
     rw [if_neg hq] at NX
     rw [List.append_nil] at NX
     clear hp hq
     go_wp2_with (at_builtin; refine wpList_append_one _ rfl (.tmp 16) (.tmp 24) 140 141 rfl Tryz.underlying140 info_pe rfl (by decide) (by decide) w.heap.size _ es.length _ rfl (OD.out.alloc _) (wr.heap.size + 1) 1 [.int .u8 fr,.int .u8 tt,.int .i8 (-1)] rfl (by simp [go_sem]) ?_ (by intro u hu; simp at hu; rcases hu with rfl | rfl | rfl <;> rfl) (by have:=HEL.out; omega) (by have:=BB.out.size; simp; omega) ?_)
     ·exact Blk.newAt _ _ _ (by simp)
     intro v w2 hown hgr
     have O2:=Lib.hid (show w2.ownsRow w.heap.size 141 3 v (es++[(⟨fr,tt,-1⟩:Ed)]).length (edCells (es++[(⟨fr,tt,-1⟩:Ed)])) from by rw [edCells_append,edCells_one,List.length_append]; exact hown)
     have B2:=Lib.hid (below_ag BD.out BD.out.size hgr (fun k' h=>(owns_type OE.out h).1))
     have K2:=Lib.hid ((KD.out.alloc (.cells #[.int .u8 fr,.int .u8 tt,.int .i8 (-1)] 141)).grown hgr (fun e=>by have:=(owns_type OE.out e).2.1; omega))
     have c0:=K2.out.cell 0
     have c1:=K2.out.cell 1
     have c2:=K2.out.cell 2
     have c3:=K2.out.cell 3
     have hlt2:=K2.out.lt
     simp at c0 c1 c2 c3
     clear hown hgr
     go_wp2_with fail
     exact ⟨⟨k + 1,by rw [HN.out]; omega,by go_num,by rw [NX.out]; exact O2.out,B2.out⟩,by simp [intOf]; omega⟩
   ·have qp:decide (0<n)=false:=by simpa using hp
    rw [if_neg hp] at NX
    by_cases hq:n<am
    ·have qq:decide (0<am - n)=true:=by simp; omega
     have qr:decide (n<am)=true:=by simp; omega
     rw [if_pos hq] at NX
     rw [List.nil_append] at NX
     clear hp hq
     go_wp2_with (at_builtin; refine wpList_append_one _ rfl (.tmp 29) (.tmp 37) 140 141 rfl Tryz.underlying140 info_pe rfl (by decide) (by decide) w.heap.size _ es.length _ rfl (OD.out.alloc _) (wr.heap.size + 1) 1 [.int .u8 tt,.int .u8 fr,.int .i8 1] rfl (by simp [go_sem]) ?_ (by intro u hu; simp at hu; rcases hu with rfl | rfl | rfl <;> rfl) (by have:=HEL.out; omega) (by have:=BB.out.size; simp; omega) ?_)
     ·exact Blk.newAt _ _ _ (by simp)
     intro v3 w3 hown hgr
     have O3:=Lib.hid (show w3.ownsRow w.heap.size 141 3 v3 (es++[(⟨tt,fr,1⟩:Ed)]).length (edCells (es++[(⟨tt,fr,1⟩:Ed)])) from by rw [show (es++[(⟨tt,fr,1⟩:Ed)]).length=es.length + 1 from by simp,edCells_append,edCells_one]; exact hown)
     have B3:=Lib.hid (below_ag BD.out BD.out.size hgr (fun k' h=>(owns_type OE.out (by simpa using h)).1))
     clear hown hgr
     go_wp2_with fail
     exact ⟨⟨k + 1,by rw [HN.out]; omega,by go_num,by rw [NX.out]; exact O3.out,B3.out⟩,by simp [intOf]; omega⟩
    ·have qq:decide (0<am - n)=false:=by simp; omega
     have qr:decide (n<am)=false:=by simp; omega
     rw [if_neg hq] at NX
     rw [List.append_nil,List.append_nil] at NX
     clear hp hq
     go_wp2_with fail
     exact ⟨⟨k + 1,by rw [HN.out]; omega,by go_num,by rw [NX.out]; exact OD.out,BD.out⟩,by simp [intOf]; omega⟩
  ·have hkn:k=l.length:=by omega
   subst hkn
   have qk:decide (((l.length:Nat):Int)<(l.length:Int))=false:=by simp
   have HE2:Reads wr (.slice aoc (rdE l L l.length).length capc) 3 (rdE l L l.length).length (edCells (rdE l L l.length)):=Reads.of_owns OE.out (by omega)
   have CR:=Lib.hid (pround_any HE2 (rdE_fits L HF.out) (by omega))
   clear HE2
   go_wp2_with fail
   refine CR.out.mono ?_
   rintro e w1 ⟨v,rfl,hv,hb⟩
   have BF:=Lib.hid (andB BB.out hb)
   have HV:=Lib.hid hv
   obtain ⟨aov,capv,rfl,_⟩:=hv.look
   clear hb hv CR
   go_wp2_with fail
   refine bodyPost_ret (v:=.slice aov (roundW (rdE l L l.length)).length capv) (by simp [results,Tryz.results73,go_sem]) rfl ?_
   exact ⟨_,rfl,HV.out.base BB.out.size,BF.out⟩
def LeftAt (w:World) (l:List Fw) (L:Nat→Int) (c i:Value) (wr:World):Prop :=
 ∃ k:Nat,k≤l.length∧i=.int .i64 k∧wr.ownsRow w.heap.size 62 3 c (leftN l L k).length (fwCells (leftN l L k))∧Below w.heap.size w wr
theorem leftN_next (l:List Fw) (L:Nat→Int) (k:Nat):leftN l L (k + 1)=leftN l L k++if 0<L k then [⟨(dbt l k).fr,(dbt l k).tt,L k⟩] else []:=rfl
def LeftPost (l:List Fw) (L:Nat→Int) (w:World) (e:Ending) (w':World):Prop :=
 ∃ v,e=.returned v∧Rowed w' w.heap.size 62 3 v (leftL l L).length (fwCells (leftL l L))∧Below w.heap.size w w'
set_option maxHeartbeats 8000000 in
set_option maxRecDepth 100000 in
theorem cleft_any {w:World} {base:Nat} {c:Value} {l:List Fw} {L:Nat→Int} (hO:w.ownsRow base 139 4 c l.length (dcCells l L l.length)) (hln:l.length≤300) :
  Calls Tryz.prog 75 #[c] w (LeftPost l L w):=by
 obtain ⟨ao,cap,rfl,_,_,_,hown⟩:=owns_open hO
 have HO:=Lib.hid hO
 have HW:=Lib.hid hown
 clear hO hown
 go_enter Tryz.func75,Tryz.ntmps75
 go_wp2_with fail
 go_loopw [3,8] (LeftAt w l L) (fun _ i _=>l.length - (intOf i).toNat)
 case atStart=>exact ⟨0,by omega,rfl,World.ownsRow_nil _ _ _ _,Below.refl _ _⟩
 case round =>
  obtain ⟨k,hk,rfl,hE,hB⟩:=hrel
  have BB:=Lib.hid hB
  have OE:=Lib.hid hE
  obtain ⟨aoc,capc,rfl,_⟩:=owns_open hE
  have hel:=leftN_len l L k
  clear hB hE
  by_cases hkl:k<l.length
  ·have qk:decide ((k:Int)<(l.length:Int))=true:=by simpa using hkl
   have k0:(0:Int)≤(k:Int):=by omega
   have k1:(k:Int)<(l.length:Int):=by omega
   obtain ⟨b,rfl,hbb,hbw,_,_⟩:=HW.out (by omega)
   obtain ⟨e0,e1,e2,e3⟩:=dc_get HO.out hkl
   have d0:=(BB.out.cell (p:=⟨b,k * 4,none⟩) hbw).trans e0
   have d1:=(BB.out.cell (p:=⟨b,k * 4 + 1,none⟩) hbw).trans e1
   have d2:=(BB.out.cell (p:=⟨b,k * 4 + 2,none⟩) hbw).trans e2
   have d3:=(BB.out.cell (p:=⟨b,k * 4 + 3,none⟩) hbw).trans e3
   have hbr:=Nat.lt_of_lt_of_le hbw BB.out.size
   obtain ⟨N,hN⟩:∃ N,l.length=N:=⟨_,rfl⟩
   have HN:=Lib.hid hN
   have NX:=Lib.hid (leftN_next l L k)
   obtain ⟨x,hx⟩:∃ x,dbt l k=x:=⟨_,rfl⟩
   rw [hx] at d0 d1 d3 NX
   obtain ⟨n,hn⟩:∃ n,L k=n:=⟨_,rfl⟩
   rw [hn] at d2 d3 NX
   rw [hN] at k1 qk hkl ⊢
   obtain ⟨fr,tt,am⟩:=x
   dsimp only at d0 d1 d2 d3 NX
   clear e0 e1 e2 e3 hx hN hn hbb
   have HEL:=Lib.hid hel
   generalize hEs:leftN l L k=es at OE NX hel HEL ⊢
   clear hEs
   have BD:=Lib.hid (BB.out.alloc BB.out.size (.cells #[.int .u8 fr,.int .u8 tt,.int .i64 n,.int .i64 (am - n)] 139))
   have OD:=Lib.hid (owns_below OE.out ((Below.refl _ _).alloc (Nat.le_refl _) (.cells #[.int .u8 fr,.int .u8 tt,.int .i64 n,.int .i64 (am - n)] 139)))
   by_cases hp:0<n
   ·have qp:decide (0<n)=true:=by simpa using hp
    rw [if_pos hp] at NX
    clear hp
    go_wp2_with (at_builtin; refine wpList_append_fw _ rfl (.tmp 16) (.tmp 19) rfl w.heap.size _ es rfl (OD.out.alloc _) (wr.heap.size + 1) 1 ⟨fr,tt,n⟩ (by simp [go_sem]) ?_ (by omega) (by have:=BB.out.size; simp; omega) ?_)
    ·exact Blk.newAt _ _ _ (by simp)
    intro v w2 hown hgr
    have O2:=Lib.hid hown
    have B2:=Lib.hid (below_ag BD.out BD.out.size hgr (fun k' h=>(owns_type OE.out h).1))
    clear hown hgr
    go_wp2_with fail
    exact ⟨⟨k + 1,by rw [HN.out]; omega,by go_num,by rw [NX.out,List.length_append]; exact O2.out,B2.out⟩,by simp [intOf]; omega⟩
   ·have qp:decide (0<n)=false:=by simpa using hp
    rw [if_neg hp,List.append_nil] at NX
    clear hp
    go_wp2_with fail
    exact ⟨⟨k + 1,by rw [HN.out]; omega,by go_num,by rw [NX.out]; exact OD.out,BD.out⟩,by simp [intOf]; omega⟩
  ·have hkn:k=l.length:=by omega
   subst hkn
   have qk:decide (((l.length:Nat):Int)<(l.length:Int))=false:=by simp
   have CR:=Lib.hid (clipF_any OE.out)
   go_wp2_with fail
   refine CR.out.mono ?_
   rintro e w1 ⟨v,rfl,hv,hb,rfl⟩
   have HV:=Lib.hid hv
   obtain ⟨aov,capv,rfl,_⟩:=hv.look
   clear hb hv CR
   go_wp2_with fail
   refine bodyPost_ret (v:=.slice aov (leftN l L l.length).length capv) (by simp [results,Tryz.results75,go_sem]) rfl ?_
   exact ⟨_,rfl,HV.out,BB.out⟩
end Go.Proofs.YtlbjjkbppbmihaaGreat
