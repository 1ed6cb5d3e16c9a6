/-
  Pieces of one proof, without what is not wanted: DoesR.
-/
import Derived.Test.YtlbjjkbppbmihaaGreatP20
set_option linter.unusedSimpArgs false
set_option linter.unusedVariables false
namespace Go.Proofs.YtlbjjkbppbmihaaGreat
open Go.RowKit
set_option maxHeartbeats 4000000 in
set_option maxRecDepth 100000 in
theorem does_open {W:World} {G M base r X:Nat} {x:Ac} {ps P:List Int} {ls L:List Ln} {vp vl:Value} {er:Int} (HL:Hid (LedM W G M ps ls)) (HR:Hid (RefL W base r ps ls vp vl)) (KX:Hid (Blk W X #[.int .u8 x.k,.int .u8 x.a,.int .u8 x.b,.int .u8 x.c,.int .i64 x.n] 33)) (C1:Hid (∀ w',LedM w' G M ps ls→Calls Tryz.prog 27 #[.pointer (some ⟨G,0,none⟩),.int .u8 x.a] w' fun e w''=>e=.returned (.int .i64 er)∧LedM w'' G M P L∧Keep (fun b=>b=G∨b=M) w' w'')) (C2:Hid (∀ w' vp vl,RefL w' base r ps ls vp vl→Calls Tryz.prog 30 #[.pointer (some ⟨r,0,none⟩),.int .u8 x.a] w' fun e w''=>e=.returned (.int .i64 er)∧(∃ vp vl,RefL w'' base r P L vp vl)∧Keep (·=r) w' w'')) {Q:Exit→Act→World→Prop} {c2 c3 c4 c6 c7 c8 c9 c10 c11 c12 c13 c14 c15 c16 c17 c18 c19 c20 c21 c22 c23 c24 c25 c26 c27 c28 c29 c30 c31 c32 c33 c34 c35 c36 c37 c38 c39 c40 c41 c42 c43 c44 c45 c46 c47 c48 c49 c50 c51 c52 c53 c54 c55 c56 c57 c58 c59 c60 c61 c62 c63 c64 c65 c66 c67 c68 c69 c70 c71 c72 c73 c74 c75 c76 c77 c78 c79 c80 c81 c82 c83 c84 c85 c86 c87 c88 c89 c90 c91 c92 c93 c94 c95 c96 c97 c98 c99 c100 c101 c102 c103 c104 c105 c106:Value}
  (hq:∀ w6,(BothT W G M base r P L) w6→Q .normal ⟨#[(.pointer (some ⟨G,0,none⟩)),(.pointer (some ⟨r,0,none⟩)),c2,c3,c4,(.pointer (some ⟨X,0,none⟩)),(.bool true),c7,c8,c9,c10,c11,c12,(.pointer (some ⟨G,0,none⟩)),(.pointer (some ⟨X,1,none⟩)),(.int .u8 x.a),(.int .i64 er),(.pointer (some ⟨r,0,none⟩)),(.pointer (some ⟨X,1,none⟩)),(.int .u8 x.a),(.int .i64 er),(.bool true),c22,c23,c24,c25,c26,c27,c28,c29,c30,c31,c32,c33,c34,c35,c36,c37,c38,c39,c40,c41,c42,c43,c44,c45,c46,c47,c48,c49,c50,c51,c52,c53,c54,c55,c56,c57,c58,c59,c60,c61,c62,c63,c64,c65,c66,c67,c68,c69,c70,c71,c72,c73,c74,c75,c76,c77,c78,c79,c80,c81,c82,c83,c84,c85,c86,c87,c88,c89,c90,c91,c92,c93,c94,c95,c96,c97,c98,c99,c100,c101,c102,c103,c104,c105,c106],[]⟩ w6) :
  Code.wp Tryz.prog (((Tryz.f8.body).bind (regionNo 3)).getD .skip) Q ⟨#[(.pointer (some ⟨G,0,none⟩)),(.pointer (some ⟨r,0,none⟩)),c2,c3,c4,(.pointer (some ⟨X,0,none⟩)),c6,c7,c8,c9,c10,c11,c12,c13,c14,c15,c16,c17,c18,c19,c20,c21,c22,c23,c24,c25,c26,c27,c28,c29,c30,c31,c32,c33,c34,c35,c36,c37,c38,c39,c40,c41,c42,c43,c44,c45,c46,c47,c48,c49,c50,c51,c52,c53,c54,c55,c56,c57,c58,c59,c60,c61,c62,c63,c64,c65,c66,c67,c68,c69,c70,c71,c72,c73,c74,c75,c76,c77,c78,c79,c80,c81,c82,c83,c84,c85,c86,c87,c88,c89,c90,c91,c92,c93,c94,c95,c96,c97,c98,c99,c100,c101,c102,c103,c104,c105,c106],[]⟩ W:=by
 conv=>arg 2; whnf
 have HQ:=Lib.hid hq
 clear hq
 refine region_inv (by kernel_rfl) [(.pointer (some ⟨G,0,none⟩)),(.pointer (some ⟨X,1,none⟩)),(.int .u8 x.a),(.int .i64 er),(.pointer (some ⟨r,0,none⟩)),(.pointer (some ⟨X,1,none⟩)),(.int .u8 x.a),(.int .i64 er),(.bool true),(.bool true)]
  (Both W G M base r X #[.int .u8 x.k,.int .u8 x.a,.int .u8 x.b,.int .u8 x.c,.int .i64 x.n] ps P ls L 3 7) (by kernel_rfl) (Both.start HL.out HR.out KX.out) ?_
 intro af haf
 simp only [List.toList_toArray,List.append_eq,List.cons_append,List.nil_append,puts,Act.put,List.getD_cons_zero,List.getD_cons_succ,List.setIfInBounds_toArray,List.set_cons_succ,List.set_cons_zero] at haf
 subst haf
 refine ⟨?_,?_⟩
 ·simp only [List.toList_toArray,List.append_eq,List.cons_append,List.nil_append,EachIn]
  refine ⟨?_,?_,?_,?_,?_,?_,?_,?_,?_,?_,trivial⟩
  ·intro D w' hD hW hC hI
   refine OpTo.plain ?_ ?_
   exact rfl
   have HS:=Lib.hid (hI.step (k:=0) (by decide) (by decide))
   clear hI hC hW hD
   go_wp2_with fail
   all_goals first | exact HS.out | exact ⟨rfl,HS.out⟩ | rfl
  ·intro D w' hD hW hC hI
   refine OpTo.plain ?_ ?_
   exact rfl
   have HS:=Lib.hid (hI.step (k:=1) (by decide) (by decide))
   clear hI hC hW hD
   go_wp2_with fail
   all_goals first | exact HS.out | exact ⟨rfl,HS.out⟩ | rfl
  ·intro D w' hD hW hC hI
   refine OpTo.plain ?_ ?_
   exact rfl
   have hl:=hI.x.lt
   have d0:=hI.x.cell 0
   have d1:=hI.x.cell 1
   have d2:=hI.x.cell 2
   have d3:=hI.x.cell 3
   have d4:=hI.x.cell 4
   simp at d0 d1 d2 d3 d4
   have HS:=Lib.hid (hI.step (k:=2) (by decide) (by decide))
   clear hI hC hW hD
   go_wp2_with fail
   all_goals first | exact HS.out | exact ⟨rfl,HS.out⟩ | rfl
  ·intro D w' hD hW hC hI
   refine OpTo.plain ?_ ?_
   exact rfl
   have HC:=Lib.hid (C1.out w' (hI.led0 hD))
   have HI:=Lib.hid hI
   clear hI hC hW hD
   go_wp2_with fail
   refine HC.out.mono ?_
   rintro e w'' ⟨rfl,h1,h2⟩
   exact ⟨rfl,HI.out.one (by decide) h1 h2⟩
  ·intro D w' hD hW hC hI
   refine OpTo.plain ?_ ?_
   exact rfl
   have HS:=Lib.hid (hI.step (k:=4) (by decide) (by decide))
   clear hI hC hW hD
   go_wp2_with fail
   all_goals first | exact HS.out | exact ⟨rfl,HS.out⟩ | rfl
  ·intro D w' hD hW hC hI
   refine OpTo.plain ?_ ?_
   exact rfl
   have HS:=Lib.hid (hI.step (k:=5) (by decide) (by decide))
   clear hI hC hW hD
   go_wp2_with fail
   all_goals first | exact HS.out | exact ⟨rfl,HS.out⟩ | rfl
  ·intro D w' hD hW hC hI
   refine OpTo.plain ?_ ?_
   exact rfl
   have hl:=hI.x.lt
   have d0:=hI.x.cell 0
   have d1:=hI.x.cell 1
   have d2:=hI.x.cell 2
   have d3:=hI.x.cell 3
   have d4:=hI.x.cell 4
   simp at d0 d1 d2 d3 d4
   have HS:=Lib.hid (hI.step (k:=6) (by decide) (by decide))
   clear hI hC hW hD
   go_wp2_with fail
   all_goals first | exact HS.out | exact ⟨rfl,HS.out⟩ | rfl
  ·intro D w' hD hW hC hI
   refine OpTo.plain ?_ ?_
   exact rfl
   obtain ⟨vp1,vl1,hr1⟩:=hI.ref0 hD
   have HC:=Lib.hid (C2.out w' vp1 vl1 hr1)
   have HI:=Lib.hid hI
   clear hI hC hW hD hr1
   go_wp2_with fail
   refine HC.out.mono ?_
   rintro e w'' ⟨rfl,h1,h2⟩
   exact ⟨rfl,HI.out.two (by decide) h1 h2⟩
  ·intro D w' hD hW hC hI
   refine OpTo.plain ?_ ?_
   exact rfl
   have HS:=Lib.hid (hI.step (k:=8) (by decide) (by decide))
   clear hI hC hW hD
   go_wp2_with fail
   all_goals first | exact HS.out | exact ⟨rfl,HS.out⟩ | rfl
  ·intro D w' hD hW hC hI
   refine OpTo.plain ?_ ?_
   exact rfl
   have HS:=Lib.hid (hI.step (k:=9) (by decide) (by decide))
   clear hI hC hW hD
   go_wp2_with fail
   all_goals first | exact HS.out | exact ⟨rfl,HS.out⟩ | rfl
 intro D w6 hall hI
 exact HQ.out w6 (hI.done (hall 3 (by decide)) (hall 7 (by decide)))
set_option maxHeartbeats 4000000 in
set_option maxRecDepth 100000 in
theorem does_trust {W:World} {G M base r X:Nat} {x:Ac} {ps P:List Int} {ls L:List Ln} {vp vl:Value} {er:Int} (HL:Hid (LedM W G M ps ls)) (HR:Hid (RefL W base r ps ls vp vl)) (KX:Hid (Blk W X #[.int .u8 x.k,.int .u8 x.a,.int .u8 x.b,.int .u8 x.c,.int .i64 x.n] 33)) (C1:Hid (∀ w',LedM w' G M ps ls→Calls Tryz.prog 28 #[.pointer (some ⟨G,0,none⟩),.int .u8 x.a,.int .u8 x.b,.int .u8 x.c,.int .i64 x.n] w' fun e w''=>e=.returned (.int .i64 er)∧LedM w'' G M P L∧Keep (fun b=>b=G∨b=M) w' w'')) (C2:Hid (∀ w' vp vl,RefL w' base r ps ls vp vl→Calls Tryz.prog 31 #[.pointer (some ⟨r,0,none⟩),.int .u8 x.a,.int .u8 x.b,.int .u8 x.c,.int .i64 x.n] w' fun e w''=>e=.returned (.int .i64 er)∧(∃ vp vl,RefL w'' base r P L vp vl)∧Keep (·=r) w' w'')) {Q:Exit→Act→World→Prop} {c2 c3 c4 c6 c7 c8 c9 c10 c11 c12 c13 c14 c15 c16 c17 c18 c19 c20 c21 c22 c23 c24 c25 c26 c27 c28 c29 c30 c31 c32 c33 c34 c35 c36 c37 c38 c39 c40 c41 c42 c43 c44 c45 c46 c47 c48 c49 c50 c51 c52 c53 c54 c55 c56 c57 c58 c59 c60 c61 c62 c63 c64 c65 c66 c67 c68 c69 c70 c71 c72 c73 c74 c75 c76 c77 c78 c79 c80 c81 c82 c83 c84 c85 c86 c87 c88 c89 c90 c91 c92 c93 c94 c95 c96 c97 c98 c99 c100 c101 c102 c103 c104 c105 c106:Value}
  (hq:∀ w6,(BothT W G M base r P L) w6→Q .normal ⟨#[(.pointer (some ⟨G,0,none⟩)),(.pointer (some ⟨r,0,none⟩)),c2,c3,c4,(.pointer (some ⟨X,0,none⟩)),(.bool true),c7,c8,c9,c10,c11,c12,c13,c14,c15,c16,c17,c18,c19,c20,c21,c22,c23,c24,(.pointer (some ⟨G,0,none⟩)),(.pointer (some ⟨X,1,none⟩)),(.int .u8 x.a),(.pointer (some ⟨X,2,none⟩)),(.int .u8 x.b),(.pointer (some ⟨X,3,none⟩)),(.int .u8 x.c),(.pointer (some ⟨X,4,none⟩)),(.int .i64 x.n),(.int .i64 er),(.pointer (some ⟨r,0,none⟩)),(.pointer (some ⟨X,1,none⟩)),(.int .u8 x.a),(.pointer (some ⟨X,2,none⟩)),(.int .u8 x.b),(.pointer (some ⟨X,3,none⟩)),(.int .u8 x.c),(.pointer (some ⟨X,4,none⟩)),(.int .i64 x.n),(.int .i64 er),(.bool true),c46,c47,c48,c49,c50,c51,c52,c53,c54,c55,c56,c57,c58,c59,c60,c61,c62,c63,c64,c65,c66,c67,c68,c69,c70,c71,c72,c73,c74,c75,c76,c77,c78,c79,c80,c81,c82,c83,c84,c85,c86,c87,c88,c89,c90,c91,c92,c93,c94,c95,c96,c97,c98,c99,c100,c101,c102,c103,c104,c105,c106],[]⟩ w6) :
  Code.wp Tryz.prog (((Tryz.f8.body).bind (regionNo 6)).getD .skip) Q ⟨#[(.pointer (some ⟨G,0,none⟩)),(.pointer (some ⟨r,0,none⟩)),c2,c3,c4,(.pointer (some ⟨X,0,none⟩)),c6,c7,c8,c9,c10,c11,c12,c13,c14,c15,c16,c17,c18,c19,c20,c21,c22,c23,c24,c25,c26,c27,c28,c29,c30,c31,c32,c33,c34,c35,c36,c37,c38,c39,c40,c41,c42,c43,c44,c45,c46,c47,c48,c49,c50,c51,c52,c53,c54,c55,c56,c57,c58,c59,c60,c61,c62,c63,c64,c65,c66,c67,c68,c69,c70,c71,c72,c73,c74,c75,c76,c77,c78,c79,c80,c81,c82,c83,c84,c85,c86,c87,c88,c89,c90,c91,c92,c93,c94,c95,c96,c97,c98,c99,c100,c101,c102,c103,c104,c105,c106],[]⟩ W:=by
 conv=>arg 2; whnf
 have HQ:=Lib.hid hq
 clear hq
 refine region_inv (by kernel_rfl) [(.pointer (some ⟨G,0,none⟩)),(.pointer (some ⟨X,1,none⟩)),(.int .u8 x.a),(.pointer (some ⟨X,2,none⟩)),(.int .u8 x.b),(.pointer (some ⟨X,3,none⟩)),(.int .u8 x.c),(.pointer (some ⟨X,4,none⟩)),(.int .i64 x.n),(.int .i64 er),(.pointer (some ⟨r,0,none⟩)),(.pointer (some ⟨X,1,none⟩)),(.int .u8 x.a),(.pointer (some ⟨X,2,none⟩)),(.int .u8 x.b),(.pointer (some ⟨X,3,none⟩)),(.int .u8 x.c),(.pointer (some ⟨X,4,none⟩)),(.int .i64 x.n),(.int .i64 er),(.bool true),(.bool true)]
  (Both W G M base r X #[.int .u8 x.k,.int .u8 x.a,.int .u8 x.b,.int .u8 x.c,.int .i64 x.n] ps P ls L 9 19) (by kernel_rfl) (Both.start HL.out HR.out KX.out) ?_
 intro af haf
 simp only [List.toList_toArray,List.append_eq,List.cons_append,List.nil_append,puts,Act.put,List.getD_cons_zero,List.getD_cons_succ,List.setIfInBounds_toArray,List.set_cons_succ,List.set_cons_zero] at haf
 subst haf
 refine ⟨?_,?_⟩
 ·simp only [List.toList_toArray,List.append_eq,List.cons_append,List.nil_append,EachIn]
  refine ⟨?_,?_,?_,?_,?_,?_,?_,?_,?_,?_,?_,?_,?_,?_,?_,?_,?_,?_,?_,?_,?_,?_,trivial⟩
  ·intro D w' hD hW hC hI
   refine OpTo.plain ?_ ?_
   exact rfl
   have HS:=Lib.hid (hI.step (k:=0) (by decide) (by decide))
   clear hI hC hW hD
   go_wp2_with fail
   all_goals first | exact HS.out | exact ⟨rfl,HS.out⟩ | rfl
  ·intro D w' hD hW hC hI
   refine OpTo.plain ?_ ?_
   exact rfl
   have HS:=Lib.hid (hI.step (k:=1) (by decide) (by decide))
   clear hI hC hW hD
   go_wp2_with fail
   all_goals first | exact HS.out | exact ⟨rfl,HS.out⟩ | rfl
  ·intro D w' hD hW hC hI
   refine OpTo.plain ?_ ?_
   exact rfl
   have hl:=hI.x.lt
   have d0:=hI.x.cell 0
   have d1:=hI.x.cell 1
   have d2:=hI.x.cell 2
   have d3:=hI.x.cell 3
   have d4:=hI.x.cell 4
   simp at d0 d1 d2 d3 d4
   have HS:=Lib.hid (hI.step (k:=2) (by decide) (by decide))
   clear hI hC hW hD
   go_wp2_with fail
   all_goals first | exact HS.out | exact ⟨rfl,HS.out⟩ | rfl
  ·intro D w' hD hW hC hI
   refine OpTo.plain ?_ ?_
   exact rfl
   have HS:=Lib.hid (hI.step (k:=3) (by decide) (by decide))
   clear hI hC hW hD
   go_wp2_with fail
   all_goals first | exact HS.out | exact ⟨rfl,HS.out⟩ | rfl
  ·intro D w' hD hW hC hI
   refine OpTo.plain ?_ ?_
   exact rfl
   have hl:=hI.x.lt
   have d0:=hI.x.cell 0
   have d1:=hI.x.cell 1
   have d2:=hI.x.cell 2
   have d3:=hI.x.cell 3
   have d4:=hI.x.cell 4
   simp at d0 d1 d2 d3 d4
   have HS:=Lib.hid (hI.step (k:=4) (by decide) (by decide))
   clear hI hC hW hD
   go_wp2_with fail
   all_goals first | exact HS.out | exact ⟨rfl,HS.out⟩ | rfl
  ·intro D w' hD hW hC hI
   refine OpTo.plain ?_ ?_
   exact rfl
   have HS:=Lib.hid (hI.step (k:=5) (by decide) (by decide))
   clear hI hC hW hD
   go_wp2_with fail
   all_goals first | exact HS.out | exact ⟨rfl,HS.out⟩ | rfl
  ·intro D w' hD hW hC hI
   refine OpTo.plain ?_ ?_
   exact rfl
   have hl:=hI.x.lt
   have d0:=hI.x.cell 0
   have d1:=hI.x.cell 1
   have d2:=hI.x.cell 2
   have d3:=hI.x.cell 3
   have d4:=hI.x.cell 4
   simp at d0 d1 d2 d3 d4
   have HS:=Lib.hid (hI.step (k:=6) (by decide) (by decide))
   clear hI hC hW hD
   go_wp2_with fail
   all_goals first | exact HS.out | exact ⟨rfl,HS.out⟩ | rfl
  ·intro D w' hD hW hC hI
   refine OpTo.plain ?_ ?_
   exact rfl
   have HS:=Lib.hid (hI.step (k:=7) (by decide) (by decide))
   clear hI hC hW hD
   go_wp2_with fail
   all_goals first | exact HS.out | exact ⟨rfl,HS.out⟩ | rfl
  ·intro D w' hD hW hC hI
   refine OpTo.plain ?_ ?_
   exact rfl
   have hl:=hI.x.lt
   have d0:=hI.x.cell 0
   have d1:=hI.x.cell 1
   have d2:=hI.x.cell 2
   have d3:=hI.x.cell 3
   have d4:=hI.x.cell 4
   simp at d0 d1 d2 d3 d4
   have HS:=Lib.hid (hI.step (k:=8) (by decide) (by decide))
   clear hI hC hW hD
   go_wp2_with fail
   all_goals first | exact HS.out | exact ⟨rfl,HS.out⟩ | rfl
  ·intro D w' hD hW hC hI
   refine OpTo.plain ?_ ?_
   exact rfl
   have HC:=Lib.hid (C1.out w' (hI.led0 hD))
   have HI:=Lib.hid hI
   clear hI hC hW hD
   go_wp2_with fail
   refine HC.out.mono ?_
   rintro e w'' ⟨rfl,h1,h2⟩
   exact ⟨rfl,HI.out.one (by decide) h1 h2⟩
  ·intro D w' hD hW hC hI
   refine OpTo.plain ?_ ?_
   exact rfl
   have HS:=Lib.hid (hI.step (k:=10) (by decide) (by decide))
   clear hI hC hW hD
   go_wp2_with fail
   all_goals first | exact HS.out | exact ⟨rfl,HS.out⟩ | rfl
  ·intro D w' hD hW hC hI
   refine OpTo.plain ?_ ?_
   exact rfl
   have HS:=Lib.hid (hI.step (k:=11) (by decide) (by decide))
   clear hI hC hW hD
   go_wp2_with fail
   all_goals first | exact HS.out | exact ⟨rfl,HS.out⟩ | rfl
  ·intro D w' hD hW hC hI
   refine OpTo.plain ?_ ?_
   exact rfl
   have hl:=hI.x.lt
   have d0:=hI.x.cell 0
   have d1:=hI.x.cell 1
   have d2:=hI.x.cell 2
   have d3:=hI.x.cell 3
   have d4:=hI.x.cell 4
   simp at d0 d1 d2 d3 d4
   have HS:=Lib.hid (hI.step (k:=12) (by decide) (by decide))
   clear hI hC hW hD
   go_wp2_with fail
   all_goals first | exact HS.out | exact ⟨rfl,HS.out⟩ | rfl
  ·intro D w' hD hW hC hI
   refine OpTo.plain ?_ ?_
   exact rfl
   have HS:=Lib.hid (hI.step (k:=13) (by decide) (by decide))
   clear hI hC hW hD
   go_wp2_with fail
   all_goals first | exact HS.out | exact ⟨rfl,HS.out⟩ | rfl
  ·intro D w' hD hW hC hI
   refine OpTo.plain ?_ ?_
   exact rfl
   have hl:=hI.x.lt
   have d0:=hI.x.cell 0
   have d1:=hI.x.cell 1
   have d2:=hI.x.cell 2
   have d3:=hI.x.cell 3
   have d4:=hI.x.cell 4
   simp at d0 d1 d2 d3 d4
   have HS:=Lib.hid (hI.step (k:=14) (by decide) (by decide))
   clear hI hC hW hD
   go_wp2_with fail
   all_goals first | exact HS.out | exact ⟨rfl,HS.out⟩ | rfl
  ·intro D w' hD hW hC hI
   refine OpTo.plain ?_ ?_
   exact rfl
   have HS:=Lib.hid (hI.step (k:=15) (by decide) (by decide))
   clear hI hC hW hD
   go_wp2_with fail
   all_goals first | exact HS.out | exact ⟨rfl,HS.out⟩ | rfl
  ·intro D w' hD hW hC hI
   refine OpTo.plain ?_ ?_
   exact rfl
   have hl:=hI.x.lt
   have d0:=hI.x.cell 0
   have d1:=hI.x.cell 1
   have d2:=hI.x.cell 2
   have d3:=hI.x.cell 3
   have d4:=hI.x.cell 4
   simp at d0 d1 d2 d3 d4
   have HS:=Lib.hid (hI.step (k:=16) (by decide) (by decide))
   clear hI hC hW hD
   go_wp2_with fail
   all_goals first | exact HS.out | exact ⟨rfl,HS.out⟩ | rfl
  ·intro D w' hD hW hC hI
   refine OpTo.plain ?_ ?_
   exact rfl
   have HS:=Lib.hid (hI.step (k:=17) (by decide) (by decide))
   clear hI hC hW hD
   go_wp2_with fail
   all_goals first | exact HS.out | exact ⟨rfl,HS.out⟩ | rfl
  ·intro D w' hD hW hC hI
   refine OpTo.plain ?_ ?_
   exact rfl
   have hl:=hI.x.lt
   have d0:=hI.x.cell 0
   have d1:=hI.x.cell 1
   have d2:=hI.x.cell 2
   have d3:=hI.x.cell 3
   have d4:=hI.x.cell 4
   simp at d0 d1 d2 d3 d4
   have HS:=Lib.hid (hI.step (k:=18) (by decide) (by decide))
   clear hI hC hW hD
   go_wp2_with fail
   all_goals first | exact HS.out | exact ⟨rfl,HS.out⟩ | rfl
  ·intro D w' hD hW hC hI
   refine OpTo.plain ?_ ?_
   exact rfl
   obtain ⟨vp1,vl1,hr1⟩:=hI.ref0 hD
   have HC:=Lib.hid (C2.out w' vp1 vl1 hr1)
   have HI:=Lib.hid hI
   clear hI hC hW hD hr1
   go_wp2_with fail
   refine HC.out.mono ?_
   rintro e w'' ⟨rfl,h1,h2⟩
   exact ⟨rfl,HI.out.two (by decide) h1 h2⟩
  ·intro D w' hD hW hC hI
   refine OpTo.plain ?_ ?_
   exact rfl
   have HS:=Lib.hid (hI.step (k:=20) (by decide) (by decide))
   clear hI hC hW hD
   go_wp2_with fail
   all_goals first | exact HS.out | exact ⟨rfl,HS.out⟩ | rfl
  ·intro D w' hD hW hC hI
   refine OpTo.plain ?_ ?_
   exact rfl
   have HS:=Lib.hid (hI.step (k:=21) (by decide) (by decide))
   clear hI hC hW hD
   go_wp2_with fail
   all_goals first | exact HS.out | exact ⟨rfl,HS.out⟩ | rfl
 intro D w6 hall hI
 exact HQ.out w6 (hI.done (hall 9 (by decide)) (hall 19 (by decide)))
set_option maxHeartbeats 4000000 in
set_option maxRecDepth 100000 in
theorem does_push {W:World} {G M base r X:Nat} {x:Ac} {ps P:List Int} {ls L:List Ln} {vp vl:Value} {er n:Int} (HL:Hid (LedM W G M ps ls)) (HR:Hid (RefL W base r ps ls vp vl)) (KX:Hid (Blk W X #[.int .u8 x.k,.int .u8 x.a,.int .u8 x.b,.int .u8 x.c,.int .i64 x.n] 33)) (C1:Hid (∀ w',LedM w' G M ps ls→Calls Tryz.prog 29 #[.pointer (some ⟨G,0,none⟩),.int .u8 x.a,.int .u8 x.b,.int .u8 x.c,.int .i64 n] w' fun e w''=>e=.returned (.int .i64 er)∧LedM w'' G M P L∧Keep (fun b=>b=G∨b=M) w' w'')) (C2:Hid (∀ w' vp vl,RefL w' base r ps ls vp vl→Calls Tryz.prog 33 #[.pointer (some ⟨r,0,none⟩),.int .u8 x.a,.int .u8 x.b,.int .u8 x.c,.int .i64 n] w' fun e w''=>e=.returned (.int .i64 er)∧(∃ vp vl,RefL w'' base r P L vp vl)∧Keep (·=r) w' w'')) {Q:Exit→Act→World→Prop} {c2 c3 c4 c6 c8 c9 c10 c11 c12 c13 c14 c15 c16 c17 c18 c19 c20 c21 c22 c23 c24 c25 c26 c27 c28 c29 c30 c31 c32 c33 c34 c35 c36 c37 c38 c39 c40 c41 c42 c43 c44 c45 c46 c47 c48 c49 c50 c51 c52 c53 c54 c55 c56 c57 c58 c59 c60 c61 c62 c63 c64 c65 c66 c67 c68 c69 c70 c71 c72 c73 c74 c75 c76 c77 c78 c79 c80 c81 c82 c83 c84 c85 c86 c87 c88 c89 c90 c91 c92 c93 c94 c95 c96 c97 c98 c99 c100 c101 c102 c103 c104 c105 c106:Value}
  (hq:∀ w6,(BothT W G M base r P L) w6→Q .normal ⟨#[(.pointer (some ⟨G,0,none⟩)),(.pointer (some ⟨r,0,none⟩)),c2,c3,c4,(.pointer (some ⟨X,0,none⟩)),(.bool true),(.int .i64 n),c8,c9,c10,c11,c12,c13,c14,c15,c16,c17,c18,c19,c20,c21,c22,c23,c24,c25,c26,c27,c28,c29,c30,c31,c32,c33,c34,c35,c36,c37,c38,c39,c40,c41,c42,c43,c44,c45,c46,c47,c48,c49,c50,c51,c52,c53,c54,c55,c56,c57,c58,c59,c60,c61,c62,c63,c64,(.pointer (some ⟨G,0,none⟩)),(.pointer (some ⟨X,1,none⟩)),(.int .u8 x.a),(.pointer (some ⟨X,2,none⟩)),(.int .u8 x.b),(.pointer (some ⟨X,3,none⟩)),(.int .u8 x.c),(.int .i64 n),(.int .i64 er),(.pointer (some ⟨r,0,none⟩)),(.pointer (some ⟨X,1,none⟩)),(.int .u8 x.a),(.pointer (some ⟨X,2,none⟩)),(.int .u8 x.b),(.pointer (some ⟨X,3,none⟩)),(.int .u8 x.c),(.int .i64 n),(.int .i64 er),(.bool true),c84,c85,c86,c87,c88,c89,c90,c91,c92,c93,c94,c95,c96,c97,c98,c99,c100,c101,c102,c103,c104,c105,c106],[]⟩ w6) :
  Code.wp Tryz.prog (((Tryz.f8.body).bind (regionNo 13)).getD .skip) Q ⟨#[(.pointer (some ⟨G,0,none⟩)),(.pointer (some ⟨r,0,none⟩)),c2,c3,c4,(.pointer (some ⟨X,0,none⟩)),c6,(.int .i64 n),c8,c9,c10,c11,c12,c13,c14,c15,c16,c17,c18,c19,c20,c21,c22,c23,c24,c25,c26,c27,c28,c29,c30,c31,c32,c33,c34,c35,c36,c37,c38,c39,c40,c41,c42,c43,c44,c45,c46,c47,c48,c49,c50,c51,c52,c53,c54,c55,c56,c57,c58,c59,c60,c61,c62,c63,c64,c65,c66,c67,c68,c69,c70,c71,c72,c73,c74,c75,c76,c77,c78,c79,c80,c81,c82,c83,c84,c85,c86,c87,c88,c89,c90,c91,c92,c93,c94,c95,c96,c97,c98,c99,c100,c101,c102,c103,c104,c105,c106],[]⟩ W:=by
 conv=>arg 2; whnf
 have HQ:=Lib.hid hq
 clear hq
 refine region_inv (by kernel_rfl) [(.pointer (some ⟨G,0,none⟩)),(.pointer (some ⟨X,1,none⟩)),(.int .u8 x.a),(.pointer (some ⟨X,2,none⟩)),(.int .u8 x.b),(.pointer (some ⟨X,3,none⟩)),(.int .u8 x.c),(.int .i64 n),(.int .i64 er),(.pointer (some ⟨r,0,none⟩)),(.pointer (some ⟨X,1,none⟩)),(.int .u8 x.a),(.pointer (some ⟨X,2,none⟩)),(.int .u8 x.b),(.pointer (some ⟨X,3,none⟩)),(.int .u8 x.c),(.int .i64 n),(.int .i64 er),(.bool true),(.bool true)]
  (Both W G M base r X #[.int .u8 x.k,.int .u8 x.a,.int .u8 x.b,.int .u8 x.c,.int .i64 x.n] ps P ls L 8 17) (by kernel_rfl) (Both.start HL.out HR.out KX.out) ?_
 intro af haf
 simp only [List.toList_toArray,List.append_eq,List.cons_append,List.nil_append,puts,Act.put,List.getD_cons_zero,List.getD_cons_succ,List.setIfInBounds_toArray,List.set_cons_succ,List.set_cons_zero] at haf
 subst haf
 refine ⟨?_,?_⟩
 ·simp only [List.toList_toArray,List.append_eq,List.cons_append,List.nil_append,EachIn]
  refine ⟨?_,?_,?_,?_,?_,?_,?_,?_,?_,?_,?_,?_,?_,?_,?_,?_,?_,?_,?_,?_,trivial⟩
  ·intro D w' hD hW hC hI
   refine OpTo.plain ?_ ?_
   exact rfl
   have HS:=Lib.hid (hI.step (k:=0) (by decide) (by decide))
   clear hI hC hW hD
   go_wp2_with fail
   all_goals first | exact HS.out | exact ⟨rfl,HS.out⟩ | rfl
  ·intro D w' hD hW hC hI
   refine OpTo.plain ?_ ?_
   exact rfl
   have HS:=Lib.hid (hI.step (k:=1) (by decide) (by decide))
   clear hI hC hW hD
   go_wp2_with fail
   all_goals first | exact HS.out | exact ⟨rfl,HS.out⟩ | rfl
  ·intro D w' hD hW hC hI
   refine OpTo.plain ?_ ?_
   exact rfl
   have hl:=hI.x.lt
   have d0:=hI.x.cell 0
   have d1:=hI.x.cell 1
   have d2:=hI.x.cell 2
   have d3:=hI.x.cell 3
   have d4:=hI.x.cell 4
   simp at d0 d1 d2 d3 d4
   have HS:=Lib.hid (hI.step (k:=2) (by decide) (by decide))
   clear hI hC hW hD
   go_wp2_with fail
   all_goals first | exact HS.out | exact ⟨rfl,HS.out⟩ | rfl
  ·intro D w' hD hW hC hI
   refine OpTo.plain ?_ ?_
   exact rfl
   have HS:=Lib.hid (hI.step (k:=3) (by decide) (by decide))
   clear hI hC hW hD
   go_wp2_with fail
   all_goals first | exact HS.out | exact ⟨rfl,HS.out⟩ | rfl
  ·intro D w' hD hW hC hI
   refine OpTo.plain ?_ ?_
   exact rfl
   have hl:=hI.x.lt
   have d0:=hI.x.cell 0
   have d1:=hI.x.cell 1
   have d2:=hI.x.cell 2
   have d3:=hI.x.cell 3
   have d4:=hI.x.cell 4
   simp at d0 d1 d2 d3 d4
   have HS:=Lib.hid (hI.step (k:=4) (by decide) (by decide))
   clear hI hC hW hD
   go_wp2_with fail
   all_goals first | exact HS.out | exact ⟨rfl,HS.out⟩ | rfl
  ·intro D w' hD hW hC hI
   refine OpTo.plain ?_ ?_
   exact rfl
   have HS:=Lib.hid (hI.step (k:=5) (by decide) (by decide))
   clear hI hC hW hD
   go_wp2_with fail
   all_goals first | exact HS.out | exact ⟨rfl,HS.out⟩ | rfl
  ·intro D w' hD hW hC hI
   refine OpTo.plain ?_ ?_
   exact rfl
   have hl:=hI.x.lt
   have d0:=hI.x.cell 0
   have d1:=hI.x.cell 1
   have d2:=hI.x.cell 2
   have d3:=hI.x.cell 3
   have d4:=hI.x.cell 4
   simp at d0 d1 d2 d3 d4
   have HS:=Lib.hid (hI.step (k:=6) (by decide) (by decide))
   clear hI hC hW hD
   go_wp2_with fail
   all_goals first | exact HS.out | exact ⟨rfl,HS.out⟩ | rfl
  ·intro D w' hD hW hC hI
   refine OpTo.plain ?_ ?_
   exact rfl
   have HS:=Lib.hid (hI.step (k:=7) (by decide) (by decide))
   clear hI hC hW hD
   go_wp2_with fail
   all_goals first | exact HS.out | exact ⟨rfl,HS.out⟩ | rfl
  ·intro D w' hD hW hC hI
   refine OpTo.plain ?_ ?_
   exact rfl
   have HC:=Lib.hid (C1.out w' (hI.led0 hD))
   have HI:=Lib.hid hI
   clear hI hC hW hD
   go_wp2_with fail
   refine HC.out.mono ?_
   rintro e w'' ⟨rfl,h1,h2⟩
   exact ⟨rfl,HI.out.one (by decide) h1 h2⟩
  ·intro D w' hD hW hC hI
   refine OpTo.plain ?_ ?_
   exact rfl
   have HS:=Lib.hid (hI.step (k:=9) (by decide) (by decide))
   clear hI hC hW hD
   go_wp2_with fail
   all_goals first | exact HS.out | exact ⟨rfl,HS.out⟩ | rfl
  ·intro D w' hD hW hC hI
   refine OpTo.plain ?_ ?_
   exact rfl
   have HS:=Lib.hid (hI.step (k:=10) (by decide) (by decide))
   clear hI hC hW hD
   go_wp2_with fail
   all_goals first | exact HS.out | exact ⟨rfl,HS.out⟩ | rfl
  ·intro D w' hD hW hC hI
   refine OpTo.plain ?_ ?_
   exact rfl
   have hl:=hI.x.lt
   have d0:=hI.x.cell 0
   have d1:=hI.x.cell 1
   have d2:=hI.x.cell 2
   have d3:=hI.x.cell 3
   have d4:=hI.x.cell 4
   simp at d0 d1 d2 d3 d4
   have HS:=Lib.hid (hI.step (k:=11) (by decide) (by decide))
   clear hI hC hW hD
   go_wp2_with fail
   all_goals first | exact HS.out | exact ⟨rfl,HS.out⟩ | rfl
  ·intro D w' hD hW hC hI
   refine OpTo.plain ?_ ?_
   exact rfl
   have HS:=Lib.hid (hI.step (k:=12) (by decide) (by decide))
   clear hI hC hW hD
   go_wp2_with fail
   all_goals first | exact HS.out | exact ⟨rfl,HS.out⟩ | rfl
  ·intro D w' hD hW hC hI
   refine OpTo.plain ?_ ?_
   exact rfl
   have hl:=hI.x.lt
   have d0:=hI.x.cell 0
   have d1:=hI.x.cell 1
   have d2:=hI.x.cell 2
   have d3:=hI.x.cell 3
   have d4:=hI.x.cell 4
   simp at d0 d1 d2 d3 d4
   have HS:=Lib.hid (hI.step (k:=13) (by decide) (by decide))
   clear hI hC hW hD
   go_wp2_with fail
   all_goals first | exact HS.out | exact ⟨rfl,HS.out⟩ | rfl
  ·intro D w' hD hW hC hI
   refine OpTo.plain ?_ ?_
   exact rfl
   have HS:=Lib.hid (hI.step (k:=14) (by decide) (by decide))
   clear hI hC hW hD
   go_wp2_with fail
   all_goals first | exact HS.out | exact ⟨rfl,HS.out⟩ | rfl
  ·intro D w' hD hW hC hI
   refine OpTo.plain ?_ ?_
   exact rfl
   have hl:=hI.x.lt
   have d0:=hI.x.cell 0
   have d1:=hI.x.cell 1
   have d2:=hI.x.cell 2
   have d3:=hI.x.cell 3
   have d4:=hI.x.cell 4
   simp at d0 d1 d2 d3 d4
   have HS:=Lib.hid (hI.step (k:=15) (by decide) (by decide))
   clear hI hC hW hD
   go_wp2_with fail
   all_goals first | exact HS.out | exact ⟨rfl,HS.out⟩ | rfl
  ·intro D w' hD hW hC hI
   refine OpTo.plain ?_ ?_
   exact rfl
   have HS:=Lib.hid (hI.step (k:=16) (by decide) (by decide))
   clear hI hC hW hD
   go_wp2_with fail
   all_goals first | exact HS.out | exact ⟨rfl,HS.out⟩ | rfl
  ·intro D w' hD hW hC hI
   refine OpTo.plain ?_ ?_
   exact rfl
   obtain ⟨vp1,vl1,hr1⟩:=hI.ref0 hD
   have HC:=Lib.hid (C2.out w' vp1 vl1 hr1)
   have HI:=Lib.hid hI
   clear hI hC hW hD hr1
   go_wp2_with fail
   refine HC.out.mono ?_
   rintro e w'' ⟨rfl,h1,h2⟩
   exact ⟨rfl,HI.out.two (by decide) h1 h2⟩
  ·intro D w' hD hW hC hI
   refine OpTo.plain ?_ ?_
   exact rfl
   have HS:=Lib.hid (hI.step (k:=18) (by decide) (by decide))
   clear hI hC hW hD
   go_wp2_with fail
   all_goals first | exact HS.out | exact ⟨rfl,HS.out⟩ | rfl
  ·intro D w' hD hW hC hI
   refine OpTo.plain ?_ ?_
   exact rfl
   have HS:=Lib.hid (hI.step (k:=19) (by decide) (by decide))
   clear hI hC hW hD
   go_wp2_with fail
   all_goals first | exact HS.out | exact ⟨rfl,HS.out⟩ | rfl
 intro D w6 hall hI
 exact HQ.out w6 (hI.done (hall 8 (by decide)) (hall 17 (by decide)))
set_option maxHeartbeats 4000000 in
set_option maxRecDepth 100000 in
theorem does_forgive {W:World} {G M base r X:Nat} {x:Ac} {ps P:List Int} {ls L:List Ln} {vp vl:Value} {er:Int} (HL:Hid (LedM W G M ps ls)) (HR:Hid (RefL W base r ps ls vp vl)) (KX:Hid (Blk W X #[.int .u8 x.k,.int .u8 x.a,.int .u8 x.b,.int .u8 x.c,.int .i64 x.n] 33)) (C1:Hid (∀ w',LedM w' G M ps ls→Calls Tryz.prog 34 #[.pointer (some ⟨G,0,none⟩),.int .u8 x.a,.int .u8 x.b,.int .u8 x.c,.int .i64 x.n] w' fun e w''=>e=.returned (.int .i64 er)∧LedM w'' G M P L∧Keep (fun b=>b=G∨b=M) w' w'')) (C2:Hid (∀ w' vp vl,RefL w' base r ps ls vp vl→Calls Tryz.prog 35 #[.pointer (some ⟨r,0,none⟩),.int .u8 x.a,.int .u8 x.b,.int .u8 x.c,.int .i64 x.n] w' fun e w''=>e=.returned (.int .i64 er)∧(∃ vp vl,RefL w'' base r P L vp vl)∧Keep (·=r) w' w'')) {Q:Exit→Act→World→Prop} {c2 c3 c4 c6 c7 c8 c9 c10 c11 c12 c13 c14 c15 c16 c17 c18 c19 c20 c21 c22 c23 c24 c25 c26 c27 c28 c29 c30 c31 c32 c33 c34 c35 c36 c37 c38 c39 c40 c41 c42 c43 c44 c45 c46 c47 c48 c49 c50 c51 c52 c53 c54 c55 c56 c57 c58 c59 c60 c61 c62 c63 c64 c65 c66 c67 c68 c69 c70 c71 c72 c73 c74 c75 c76 c77 c78 c79 c80 c81 c82 c83 c84 c85 c86 c87 c88 c89 c90 c91 c92 c93 c94 c95 c96 c97 c98 c99 c100 c101 c102 c103 c104 c105 c106:Value}
  (hq:∀ w6,(BothT W G M base r P L) w6→Q .normal ⟨#[(.pointer (some ⟨G,0,none⟩)),(.pointer (some ⟨r,0,none⟩)),c2,c3,c4,(.pointer (some ⟨X,0,none⟩)),(.bool true),c7,c8,c9,c10,c11,c12,c13,c14,c15,c16,c17,c18,c19,c20,c21,c22,c23,c24,c25,c26,c27,c28,c29,c30,c31,c32,c33,c34,c35,c36,c37,c38,c39,c40,c41,c42,c43,c44,c45,c46,c47,c48,c49,c50,c51,c52,c53,c54,c55,c56,c57,c58,c59,c60,c61,c62,c63,c64,c65,c66,c67,c68,c69,c70,c71,c72,c73,c74,c75,c76,c77,c78,c79,c80,c81,c82,c83,c84,c85,(.pointer (some ⟨G,0,none⟩)),(.pointer (some ⟨X,1,none⟩)),(.int .u8 x.a),(.pointer (some ⟨X,2,none⟩)),(.int .u8 x.b),(.pointer (some ⟨X,3,none⟩)),(.int .u8 x.c),(.pointer (some ⟨X,4,none⟩)),(.int .i64 x.n),(.int .i64 er),(.pointer (some ⟨r,0,none⟩)),(.pointer (some ⟨X,1,none⟩)),(.int .u8 x.a),(.pointer (some ⟨X,2,none⟩)),(.int .u8 x.b),(.pointer (some ⟨X,3,none⟩)),(.int .u8 x.c),(.pointer (some ⟨X,4,none⟩)),(.int .i64 x.n),(.int .i64 er),(.bool true)],[]⟩ w6) :
  Code.wp Tryz.prog (((Tryz.f8.body).bind (regionNo 15)).getD .skip) Q ⟨#[(.pointer (some ⟨G,0,none⟩)),(.pointer (some ⟨r,0,none⟩)),c2,c3,c4,(.pointer (some ⟨X,0,none⟩)),c6,c7,c8,c9,c10,c11,c12,c13,c14,c15,c16,c17,c18,c19,c20,c21,c22,c23,c24,c25,c26,c27,c28,c29,c30,c31,c32,c33,c34,c35,c36,c37,c38,c39,c40,c41,c42,c43,c44,c45,c46,c47,c48,c49,c50,c51,c52,c53,c54,c55,c56,c57,c58,c59,c60,c61,c62,c63,c64,c65,c66,c67,c68,c69,c70,c71,c72,c73,c74,c75,c76,c77,c78,c79,c80,c81,c82,c83,c84,c85,c86,c87,c88,c89,c90,c91,c92,c93,c94,c95,c96,c97,c98,c99,c100,c101,c102,c103,c104,c105,c106],[]⟩ W:=by
 conv=>arg 2; whnf
 have HQ:=Lib.hid hq
 clear hq
 refine region_inv (by kernel_rfl) [(.pointer (some ⟨G,0,none⟩)),(.pointer (some ⟨X,1,none⟩)),(.int .u8 x.a),(.pointer (some ⟨X,2,none⟩)),(.int .u8 x.b),(.pointer (some ⟨X,3,none⟩)),(.int .u8 x.c),(.pointer (some ⟨X,4,none⟩)),(.int .i64 x.n),(.int .i64 er),(.pointer (some ⟨r,0,none⟩)),(.pointer (some ⟨X,1,none⟩)),(.int .u8 x.a),(.pointer (some ⟨X,2,none⟩)),(.int .u8 x.b),(.pointer (some ⟨X,3,none⟩)),(.int .u8 x.c),(.pointer (some ⟨X,4,none⟩)),(.int .i64 x.n),(.int .i64 er),(.bool true),(.bool true)]
  (Both W G M base r X #[.int .u8 x.k,.int .u8 x.a,.int .u8 x.b,.int .u8 x.c,.int .i64 x.n] ps P ls L 9 19) (by kernel_rfl) (Both.start HL.out HR.out KX.out) ?_
 intro af haf
 simp only [List.toList_toArray,List.append_eq,List.cons_append,List.nil_append,puts,Act.put,List.getD_cons_zero,List.getD_cons_succ,List.setIfInBounds_toArray,List.set_cons_succ,List.set_cons_zero] at haf
 subst haf
 refine ⟨?_,?_⟩
 ·simp only [List.toList_toArray,List.append_eq,List.cons_append,List.nil_append,EachIn]
  refine ⟨?_,?_,?_,?_,?_,?_,?_,?_,?_,?_,?_,?_,?_,?_,?_,?_,?_,?_,?_,?_,?_,?_,trivial⟩
  ·intro D w' hD hW hC hI
   refine OpTo.plain ?_ ?_
   exact rfl
   have HS:=Lib.hid (hI.step (k:=0) (by decide) (by decide))
   clear hI hC hW hD
   go_wp2_with fail
   all_goals first | exact HS.out | exact ⟨rfl,HS.out⟩ | rfl
  ·intro D w' hD hW hC hI
   refine OpTo.plain ?_ ?_
   exact rfl
   have HS:=Lib.hid (hI.step (k:=1) (by decide) (by decide))
   clear hI hC hW hD
   go_wp2_with fail
   all_goals first | exact HS.out | exact ⟨rfl,HS.out⟩ | rfl
  ·intro D w' hD hW hC hI
   refine OpTo.plain ?_ ?_
   exact rfl
   have hl:=hI.x.lt
   have d0:=hI.x.cell 0
   have d1:=hI.x.cell 1
   have d2:=hI.x.cell 2
   have d3:=hI.x.cell 3
   have d4:=hI.x.cell 4
   simp at d0 d1 d2 d3 d4
   have HS:=Lib.hid (hI.step (k:=2) (by decide) (by decide))
   clear hI hC hW hD
   go_wp2_with fail
   all_goals first | exact HS.out | exact ⟨rfl,HS.out⟩ | rfl
  ·intro D w' hD hW hC hI
   refine OpTo.plain ?_ ?_
   exact rfl
   have HS:=Lib.hid (hI.step (k:=3) (by decide) (by decide))
   clear hI hC hW hD
   go_wp2_with fail
   all_goals first | exact HS.out | exact ⟨rfl,HS.out⟩ | rfl
  ·intro D w' hD hW hC hI
   refine OpTo.plain ?_ ?_
   exact rfl
   have hl:=hI.x.lt
   have d0:=hI.x.cell 0
   have d1:=hI.x.cell 1
   have d2:=hI.x.cell 2
   have d3:=hI.x.cell 3
   have d4:=hI.x.cell 4
   simp at d0 d1 d2 d3 d4
   have HS:=Lib.hid (hI.step (k:=4) (by decide) (by decide))
   clear hI hC hW hD
   go_wp2_with fail
   all_goals first | exact HS.out | exact ⟨rfl,HS.out⟩ | rfl
  ·intro D w' hD hW hC hI
   refine OpTo.plain ?_ ?_
   exact rfl
   have HS:=Lib.hid (hI.step (k:=5) (by decide) (by decide))
   clear hI hC hW hD
   go_wp2_with fail
   all_goals first | exact HS.out | exact ⟨rfl,HS.out⟩ | rfl
  ·intro D w' hD hW hC hI
   refine OpTo.plain ?_ ?_
   exact rfl
   have hl:=hI.x.lt
   have d0:=hI.x.cell 0
   have d1:=hI.x.cell 1
   have d2:=hI.x.cell 2
   have d3:=hI.x.cell 3
   have d4:=hI.x.cell 4
   simp at d0 d1 d2 d3 d4
   have HS:=Lib.hid (hI.step (k:=6) (by decide) (by decide))
   clear hI hC hW hD
   go_wp2_with fail
   all_goals first | exact HS.out | exact ⟨rfl,HS.out⟩ | rfl
  ·intro D w' hD hW hC hI
   refine OpTo.plain ?_ ?_
   exact rfl
   have HS:=Lib.hid (hI.step (k:=7) (by decide) (by decide))
   clear hI hC hW hD
   go_wp2_with fail
   all_goals first | exact HS.out | exact ⟨rfl,HS.out⟩ | rfl
  ·intro D w' hD hW hC hI
   refine OpTo.plain ?_ ?_
   exact rfl
   have hl:=hI.x.lt
   have d0:=hI.x.cell 0
   have d1:=hI.x.cell 1
   have d2:=hI.x.cell 2
   have d3:=hI.x.cell 3
   have d4:=hI.x.cell 4
   simp at d0 d1 d2 d3 d4
   have HS:=Lib.hid (hI.step (k:=8) (by decide) (by decide))
   clear hI hC hW hD
   go_wp2_with fail
   all_goals first | exact HS.out | exact ⟨rfl,HS.out⟩ | rfl
  ·intro D w' hD hW hC hI
   refine OpTo.plain ?_ ?_
   exact rfl
   have HC:=Lib.hid (C1.out w' (hI.led0 hD))
   have HI:=Lib.hid hI
   clear hI hC hW hD
   go_wp2_with fail
   refine HC.out.mono ?_
   rintro e w'' ⟨rfl,h1,h2⟩
   exact ⟨rfl,HI.out.one (by decide) h1 h2⟩
  ·intro D w' hD hW hC hI
   refine OpTo.plain ?_ ?_
   exact rfl
   have HS:=Lib.hid (hI.step (k:=10) (by decide) (by decide))
   clear hI hC hW hD
   go_wp2_with fail
   all_goals first | exact HS.out | exact ⟨rfl,HS.out⟩ | rfl
  ·intro D w' hD hW hC hI
   refine OpTo.plain ?_ ?_
   exact rfl
   have HS:=Lib.hid (hI.step (k:=11) (by decide) (by decide))
   clear hI hC hW hD
   go_wp2_with fail
   all_goals first | exact HS.out | exact ⟨rfl,HS.out⟩ | rfl
  ·intro D w' hD hW hC hI
   refine OpTo.plain ?_ ?_
   exact rfl
   have hl:=hI.x.lt
   have d0:=hI.x.cell 0
   have d1:=hI.x.cell 1
   have d2:=hI.x.cell 2
   have d3:=hI.x.cell 3
   have d4:=hI.x.cell 4
   simp at d0 d1 d2 d3 d4
   have HS:=Lib.hid (hI.step (k:=12) (by decide) (by decide))
   clear hI hC hW hD
   go_wp2_with fail
   all_goals first | exact HS.out | exact ⟨rfl,HS.out⟩ | rfl
  ·intro D w' hD hW hC hI
   refine OpTo.plain ?_ ?_
   exact rfl
   have HS:=Lib.hid (hI.step (k:=13) (by decide) (by decide))
   clear hI hC hW hD
   go_wp2_with fail
   all_goals first | exact HS.out | exact ⟨rfl,HS.out⟩ | rfl
  ·intro D w' hD hW hC hI
   refine OpTo.plain ?_ ?_
   exact rfl
   have hl:=hI.x.lt
   have d0:=hI.x.cell 0
   have d1:=hI.x.cell 1
   have d2:=hI.x.cell 2
   have d3:=hI.x.cell 3
   have d4:=hI.x.cell 4
   simp at d0 d1 d2 d3 d4
   have HS:=Lib.hid (hI.step (k:=14) (by decide) (by decide))
   clear hI hC hW hD
   go_wp2_with fail
   all_goals first | exact HS.out | exact ⟨rfl,HS.out⟩ | rfl
  ·intro D w' hD hW hC hI
   refine OpTo.plain ?_ ?_
   exact rfl
   have HS:=Lib.hid (hI.step (k:=15) (by decide) (by decide))
   clear hI hC hW hD
   go_wp2_with fail
   all_goals first | exact HS.out | exact ⟨rfl,HS.out⟩ | rfl
  ·intro D w' hD hW hC hI
   refine OpTo.plain ?_ ?_
   exact rfl
   have hl:=hI.x.lt
   have d0:=hI.x.cell 0
   have d1:=hI.x.cell 1
   have d2:=hI.x.cell 2
   have d3:=hI.x.cell 3
   have d4:=hI.x.cell 4
   simp at d0 d1 d2 d3 d4
   have HS:=Lib.hid (hI.step (k:=16) (by decide) (by decide))
   clear hI hC hW hD
   go_wp2_with fail
   all_goals first | exact HS.out | exact ⟨rfl,HS.out⟩ | rfl
  ·intro D w' hD hW hC hI
   refine OpTo.plain ?_ ?_
   exact rfl
   have HS:=Lib.hid (hI.step (k:=17) (by decide) (by decide))
   clear hI hC hW hD
   go_wp2_with fail
   all_goals first | exact HS.out | exact ⟨rfl,HS.out⟩ | rfl
  ·intro D w' hD hW hC hI
   refine OpTo.plain ?_ ?_
   exact rfl
   have hl:=hI.x.lt
   have d0:=hI.x.cell 0
   have d1:=hI.x.cell 1
   have d2:=hI.x.cell 2
   have d3:=hI.x.cell 3
   have d4:=hI.x.cell 4
   simp at d0 d1 d2 d3 d4
   have HS:=Lib.hid (hI.step (k:=18) (by decide) (by decide))
   clear hI hC hW hD
   go_wp2_with fail
   all_goals first | exact HS.out | exact ⟨rfl,HS.out⟩ | rfl
  ·intro D w' hD hW hC hI
   refine OpTo.plain ?_ ?_
   exact rfl
   obtain ⟨vp1,vl1,hr1⟩:=hI.ref0 hD
   have HC:=Lib.hid (C2.out w' vp1 vl1 hr1)
   have HI:=Lib.hid hI
   clear hI hC hW hD hr1
   go_wp2_with fail
   refine HC.out.mono ?_
   rintro e w'' ⟨rfl,h1,h2⟩
   exact ⟨rfl,HI.out.two (by decide) h1 h2⟩
  ·intro D w' hD hW hC hI
   refine OpTo.plain ?_ ?_
   exact rfl
   have HS:=Lib.hid (hI.step (k:=20) (by decide) (by decide))
   clear hI hC hW hD
   go_wp2_with fail
   all_goals first | exact HS.out | exact ⟨rfl,HS.out⟩ | rfl
  ·intro D w' hD hW hC hI
   refine OpTo.plain ?_ ?_
   exact rfl
   have HS:=Lib.hid (hI.step (k:=21) (by decide) (by decide))
   clear hI hC hW hD
   go_wp2_with fail
   all_goals first | exact HS.out | exact ⟨rfl,HS.out⟩ | rfl
 intro D w6 hall hI
 exact HQ.out w6 (hI.done (hall 9 (by decide)) (hall 19 (by decide)))
end Go.Proofs.YtlbjjkbppbmihaaGreat
namespace Go.Proofs.YtlbjjkbppbmihaaGreat
open Go.RowKit
def DoesPost (w:World) (G M base r:Nat) (e:Ending) (w':World):Prop :=
 e=.returned (.bool true)∧Keep (Trio G M r) w w'∧∃ ps' ls' vp' vl',LedM w' G M ps' ls'∧LInv ps' ls'∧RefL w' base r ps' ls' vp' vl'
set_option maxHeartbeats 8000000 in
set_option maxRecDepth 100000 in
theorem does_any {w:World} {G M base r:Nat} {ps:List Int} {ls:List Ln} {vp vl:Value} {x:Ac} (hL:LedM w G M ps ls) (hI:LInv ps ls) (hR:RefL w base r ps ls vp vl) (hx:x.Ok) :
  Calls Tryz.prog 8 #[.pointer (some ⟨G,0,none⟩),.pointer (some ⟨r,0,none⟩),.agg #[.int .u8 x.k,.int .u8 x.a,.int .u8 x.b,.int .u8 x.c,.int .i64 x.n]] w (DoesPost w G M base r):=by
 have bw:=(Below.refl w.heap.size w).alloc (Nat.le_refl _) (.cells #[.int .u8 x.k,.int .u8 x.a,.int .u8 x.b,.int .u8 x.c,.int .i64 x.n] 33)
 have HI:=Lib.hid hI
 have HX:=Lib.hid hx
 have HL:=Lib.hid (hL.below bw)
 have HR:=Lib.hid (hR.below bw)
 have KX:=Lib.hid (Blk.new w #[.int .u8 x.k,.int .u8 x.a,.int .u8 x.b,.int .u8 x.c,.int .i64 x.n] 33)
 have K0:=Lib.hid (Keep.of_below (S:=Trio G M r) bw)
 obtain ⟨k1,k2⟩:=hx.k
 clear bw hL hI hR
 have hs:x.k % 8=0∨x.k % 8=1∨x.k % 8=2∨x.k % 8=3∨x.k % 8=4∨x.k % 8=5∨x.k % 8=6∨x.k % 8=7:=by omega
 rcases hs with hj | hj | hj | hj | hj | hj | hj | hj
 ·have q1:x.k % 8=0:=hj
  have q2:x.k.tmod 8=0:=by rw [Int.tmod_eq_emod_of_nonneg hx.k.1]; exact hj
  clear hj
  have C1:Hid (∀ w',LedM w' G M ps ls→Calls Tryz.prog 27 #[.pointer (some ⟨G,0,none⟩),.int .u8 x.a] w' fun e w''=>e=.returned (.int .i64 (openE ps x.a))∧LedM w'' G M (openP ps x.a) (ls)∧Keep (fun b=>b=G∨b=M) w' w''):=Lib.hid fun w' h=>by
   refine (open_any h HI.out.bd x.a).mono ?_
   rintro e w'' ⟨h1,h2,h3⟩
   exact ⟨h1,h2,h3.mono fun b _ hb=>.inl hb⟩
  have C2:Hid (∀ w' vp vl,RefL w' base r ps ls vp vl→Calls Tryz.prog 30 #[.pointer (some ⟨r,0,none⟩),.int .u8 x.a] w' fun e w''=>e=.returned (.int .i64 (openE ps x.a))∧(∃ vp vl,RefL w'' base r (openP ps x.a) (ls) vp vl)∧Keep (·=r) w' w''):=Lib.hid fun w' vp vl h=>by
   refine (ropen_any h x.a).mono ?_
   rintro e w'' ⟨h1,v',h2,h3⟩
   exact ⟨h1,⟨v',vl,h2⟩,h3⟩
  clear hx
  go_enter Tryz.func8,Tryz.ntmps8
  go_wp2_with fail
  refine does_open HL HR KX C1 C2 ?_
  rintro w6 ⟨k6,h6,vp6,vl6,hr6⟩
  have K6:=Lib.hid (K0.out.trans k6)
  have H6:=Lib.hid h6
  have R6:=Lib.hid hr6
  clear k6 h6 hr6 C1 C2 HL HR KX K0
  go_wp2_with fail
  go_ret
  exact ⟨rfl,K6.out,_,_,vp6,vl6,H6.out,LInv.open HI.out x.a,R6.out⟩
 ·have q1:x.k % 8=1:=hj
  have q2:x.k.tmod 8=1:=by rw [Int.tmod_eq_emod_of_nonneg hx.k.1]; exact hj
  clear hj
  have C1:Hid (∀ w',LedM w' G M ps ls→Calls Tryz.prog 28 #[.pointer (some ⟨G,0,none⟩),.int .u8 x.a,.int .u8 x.b,.int .u8 x.c,.int .i64 x.n] w' fun e w''=>e=.returned (.int .i64 (trustE ps ls x.a x.b x.c x.n))∧LedM w'' G M (ps) (trustL ps ls x.a x.b x.c x.n)∧Keep (fun b=>b=G∨b=M) w' w''):=Lib.hid fun w' h=>by
   refine (ptrust_any h HI.out HX.out.a HX.out.b HX.out.c).mono ?_
   rintro e w'' ⟨h1,h2,h3⟩
   exact ⟨h1,h2,h3.mono fun b _ hb=>.inr hb⟩
  have C2:Hid (∀ w' vp vl,RefL w' base r ps ls vp vl→Calls Tryz.prog 31 #[.pointer (some ⟨r,0,none⟩),.int .u8 x.a,.int .u8 x.b,.int .u8 x.c,.int .i64 x.n] w' fun e w''=>e=.returned (.int .i64 (trustE ps ls x.a x.b x.c x.n))∧(∃ vp vl,RefL w'' base r (ps) (trustL ps ls x.a x.b x.c x.n) vp vl)∧Keep (·=r) w' w''):=Lib.hid fun w' vp vl h=>by
   refine (rtrust_any h HI.out.inv.good HI.out.len x.a x.b x.c x.n).mono ?_
   rintro e w'' ⟨h1,v',h2,h3⟩
   exact ⟨h1,⟨vp,v',h2⟩,h3⟩
  clear hx
  go_enter Tryz.func8,Tryz.ntmps8
  go_wp2_with fail
  refine does_trust HL HR KX C1 C2 ?_
  rintro w6 ⟨k6,h6,vp6,vl6,hr6⟩
  have K6:=Lib.hid (K0.out.trans k6)
  have H6:=Lib.hid h6
  have R6:=Lib.hid hr6
  clear k6 h6 hr6 C1 C2 HL HR KX K0
  go_wp2_with fail
  go_ret
  exact ⟨rfl,K6.out,_,_,vp6,vl6,H6.out,LInv.trust HI.out x.a x.b x.c x.n,R6.out⟩
 ·have q1:x.k % 8=2:=hj
  have q2:x.k.tmod 8=2:=by rw [Int.tmod_eq_emod_of_nonneg hx.k.1]; exact hj
  clear hj
  have C1:Hid (∀ w',LedM w' G M ps ls→Calls Tryz.prog 28 #[.pointer (some ⟨G,0,none⟩),.int .u8 x.a,.int .u8 x.b,.int .u8 x.c,.int .i64 x.n] w' fun e w''=>e=.returned (.int .i64 (trustE ps ls x.a x.b x.c x.n))∧LedM w'' G M (ps) (trustL ps ls x.a x.b x.c x.n)∧Keep (fun b=>b=G∨b=M) w' w''):=Lib.hid fun w' h=>by
   refine (ptrust_any h HI.out HX.out.a HX.out.b HX.out.c).mono ?_
   rintro e w'' ⟨h1,h2,h3⟩
   exact ⟨h1,h2,h3.mono fun b _ hb=>.inr hb⟩
  have C2:Hid (∀ w' vp vl,RefL w' base r ps ls vp vl→Calls Tryz.prog 31 #[.pointer (some ⟨r,0,none⟩),.int .u8 x.a,.int .u8 x.b,.int .u8 x.c,.int .i64 x.n] w' fun e w''=>e=.returned (.int .i64 (trustE ps ls x.a x.b x.c x.n))∧(∃ vp vl,RefL w'' base r (ps) (trustL ps ls x.a x.b x.c x.n) vp vl)∧Keep (·=r) w' w''):=Lib.hid fun w' vp vl h=>by
   refine (rtrust_any h HI.out.inv.good HI.out.len x.a x.b x.c x.n).mono ?_
   rintro e w'' ⟨h1,v',h2,h3⟩
   exact ⟨h1,⟨vp,v',h2⟩,h3⟩
  clear hx
  go_enter Tryz.func8,Tryz.ntmps8
  go_wp2_with fail
  refine does_trust HL HR KX C1 C2 ?_
  rintro w6 ⟨k6,h6,vp6,vl6,hr6⟩
  have K6:=Lib.hid (K0.out.trans k6)
  have H6:=Lib.hid h6
  have R6:=Lib.hid hr6
  clear k6 h6 hr6 C1 C2 HL HR KX K0
  go_wp2_with fail
  go_ret
  exact ⟨rfl,K6.out,_,_,vp6,vl6,H6.out,LInv.trust HI.out x.a x.b x.c x.n,R6.out⟩
 ·have q1:x.k % 8=3:=hj
  have q2:x.k.tmod 8=3:=by rw [Int.tmod_eq_emod_of_nonneg hx.k.1]; exact hj
  clear hj
  by_cases hk:x.k<128
  ·have g1:decide (128≤x.k)=false:=by simp; omega
   have C1:Hid (∀ w',LedM w' G M ps ls→Calls Tryz.prog 29 #[.pointer (some ⟨G,0,none⟩),.int .u8 x.a,.int .u8 x.b,.int .u8 x.c,.int .i64 x.n] w' fun e w''=>e=.returned (.int .i64 (pushE ps ls x.a x.b x.c x.n))∧LedM w'' G M (ps) (pushL ps ls x.a x.b x.c x.n)∧Keep (fun b=>b=G∨b=M) w' w''):=Lib.hid fun w' h=>by
    refine (ppush_any h HI.out HX.out.a HX.out.b HX.out.c HX.out.n).mono ?_
    rintro e w'' ⟨h1,h2,h3⟩
    exact ⟨h1,h2,h3.mono fun b _ hb=>.inr hb⟩
   have C2:Hid (∀ w' vp vl,RefL w' base r ps ls vp vl→Calls Tryz.prog 33 #[.pointer (some ⟨r,0,none⟩),.int .u8 x.a,.int .u8 x.b,.int .u8 x.c,.int .i64 x.n] w' fun e w''=>e=.returned (.int .i64 (pushE ps ls x.a x.b x.c x.n))∧(∃ vp vl,RefL w'' base r (ps) (pushL ps ls x.a x.b x.c x.n) vp vl)∧Keep (·=r) w' w''):=Lib.hid fun w' vp vl h=>by
    refine (rpush_any h HI.out.inv.good HI.out.len x.a x.b x.c x.n).mono ?_
    rintro e w'' ⟨h1,v',h2,h3⟩
    exact ⟨h1,⟨vp,v',h2⟩,h3⟩
   clear hx hk
   go_enter Tryz.func8,Tryz.ntmps8
   go_wp2_with fail
   refine does_push HL HR KX C1 C2 ?_
   rintro w6 ⟨k6,h6,vp6,vl6,hr6⟩
   have K6:=Lib.hid (K0.out.trans k6)
   have H6:=Lib.hid h6
   have R6:=Lib.hid hr6
   clear k6 h6 hr6 C1 C2 HL HR KX K0
   go_wp2_with fail
   go_ret
   exact ⟨rfl,K6.out,_,_,vp6,vl6,H6.out,LInv.push HI.out x.a x.b x.c x.n,R6.out⟩
  ·have g1:decide (128≤x.k)=true:=by simp; omega
   have hrb:=roomL_bd HI.out.inv.good (ps:=ps) x.a x.b x.c
   have hr64:Hid (In64 (roomL ps ls x.a x.b x.c)):=Lib.hid ⟨by omega,by omega⟩
   have CR:=Lib.hid (rroom_any HR.out HI.out.inv.good x.a x.b x.c)
   clear hrb
   generalize roomL ps ls x.a x.b x.c=rm at *
   by_cases hle:x.n≤rm
   ·clear hx hk
    have g2:min x.n rm=x.n:=by omega
    have g3:decide (rm<x.n)=false:=by simp; omega
    have g4:decide (x.n≤rm)=true:=by simp; omega
    go_enter Tryz.func8,Tryz.ntmps8
    go_wp2_with fail
    refine CR.out.mono ?_
    rintro e w3 ⟨rfl,b3⟩
    have HL3:=Lib.hid (HL.out.below b3)
    have HR3:=Lib.hid (HR.out.below b3)
    have KX3:=Lib.hid (KX.out.below b3 KX.out.lt)
    have K3:=Lib.hid (K0.out.trans (Keep.of_below (S:=Trio G M r) b3))
    clear b3 HL HR KX K0 CR
    have HL:=HL3; have HR:=HR3; have KX:=KX3; have K0:=K3
    clear HL3 HR3 KX3 K3
    have kl:=KX.out.lt
    have d0:=KX.out.cell 0; have d1:=KX.out.cell 1; have d2:=KX.out.cell 2; have d3:=KX.out.cell 3; have d4:=KX.out.cell 4
    simp at d0 d1 d2 d3 d4
    go_wp2_with fail
    have C1:Hid (∀ w',LedM w' G M ps ls→Calls Tryz.prog 29 #[.pointer (some ⟨G,0,none⟩),.int .u8 x.a,.int .u8 x.b,.int .u8 x.c,.int .i64 x.n] w' fun e w''=>e=.returned (.int .i64 (pushE ps ls x.a x.b x.c x.n))∧LedM w'' G M (ps) (pushL ps ls x.a x.b x.c x.n)∧Keep (fun b=>b=G∨b=M) w' w''):=Lib.hid fun w' h=>by
     refine (ppush_any h HI.out HX.out.a HX.out.b HX.out.c HX.out.n).mono ?_
     rintro e w'' ⟨h1,h2,h3⟩
     exact ⟨h1,h2,h3.mono fun b _ hb=>.inr hb⟩
    have C2:Hid (∀ w' vp vl,RefL w' base r ps ls vp vl→Calls Tryz.prog 33 #[.pointer (some ⟨r,0,none⟩),.int .u8 x.a,.int .u8 x.b,.int .u8 x.c,.int .i64 x.n] w' fun e w''=>e=.returned (.int .i64 (pushE ps ls x.a x.b x.c x.n))∧(∃ vp vl,RefL w'' base r (ps) (pushL ps ls x.a x.b x.c x.n) vp vl)∧Keep (·=r) w' w''):=Lib.hid fun w' vp vl h=>by
     refine (rpush_any h HI.out.inv.good HI.out.len x.a x.b x.c x.n).mono ?_
     rintro e w'' ⟨h1,v',h2,h3⟩
     exact ⟨h1,⟨vp,v',h2⟩,h3⟩
    clear d0 d1 d2 d3 d4 kl
    refine does_push HL HR KX C1 C2 ?_
    rintro w6 ⟨k6,h6,vp6,vl6,hr6⟩
    have K6:=Lib.hid (K0.out.trans k6)
    have H6:=Lib.hid h6
    have R6:=Lib.hid hr6
    clear k6 h6 hr6 C1 C2 HL HR KX K0
    go_wp2_with fail
    go_ret
    exact ⟨rfl,K6.out,_,_,vp6,vl6,H6.out,LInv.push HI.out x.a x.b x.c x.n,R6.out⟩
   ·clear hx hk
    have g2:min x.n rm=rm:=by omega
    have g3:decide (rm<x.n)=true:=by simp; omega
    have g4:decide (x.n≤rm)=false:=by simp; omega
    go_enter Tryz.func8,Tryz.ntmps8
    go_wp2_with fail
    refine CR.out.mono ?_
    rintro e w3 ⟨rfl,b3⟩
    have HL3:=Lib.hid (HL.out.below b3)
    have HR3:=Lib.hid (HR.out.below b3)
    have KX3:=Lib.hid (KX.out.below b3 KX.out.lt)
    have K3:=Lib.hid (K0.out.trans (Keep.of_below (S:=Trio G M r) b3))
    clear b3 HL HR KX K0 CR
    have HL:=HL3; have HR:=HR3; have KX:=KX3; have K0:=K3
    clear HL3 HR3 KX3 K3
    have kl:=KX.out.lt
    have d0:=KX.out.cell 0; have d1:=KX.out.cell 1; have d2:=KX.out.cell 2; have d3:=KX.out.cell 3; have d4:=KX.out.cell 4
    simp at d0 d1 d2 d3 d4
    go_wp2_with fail
    have C1:Hid (∀ w',LedM w' G M ps ls→Calls Tryz.prog 29 #[.pointer (some ⟨G,0,none⟩),.int .u8 x.a,.int .u8 x.b,.int .u8 x.c,.int .i64 rm] w' fun e w''=>e=.returned (.int .i64 (pushE ps ls x.a x.b x.c rm))∧LedM w'' G M (ps) (pushL ps ls x.a x.b x.c rm)∧Keep (fun b=>b=G∨b=M) w' w''):=Lib.hid fun w' h=>by
     refine (ppush_any h HI.out HX.out.a HX.out.b HX.out.c hr64.out).mono ?_
     rintro e w'' ⟨h1,h2,h3⟩
     exact ⟨h1,h2,h3.mono fun b _ hb=>.inr hb⟩
    have C2:Hid (∀ w' vp vl,RefL w' base r ps ls vp vl→Calls Tryz.prog 33 #[.pointer (some ⟨r,0,none⟩),.int .u8 x.a,.int .u8 x.b,.int .u8 x.c,.int .i64 rm] w' fun e w''=>e=.returned (.int .i64 (pushE ps ls x.a x.b x.c rm))∧(∃ vp vl,RefL w'' base r (ps) (pushL ps ls x.a x.b x.c rm) vp vl)∧Keep (·=r) w' w''):=Lib.hid fun w' vp vl h=>by
     refine (rpush_any h HI.out.inv.good HI.out.len x.a x.b x.c rm).mono ?_
     rintro e w'' ⟨h1,v',h2,h3⟩
     exact ⟨h1,⟨vp,v',h2⟩,h3⟩
    clear d0 d1 d2 d3 d4 kl
    refine does_push HL HR KX C1 C2 ?_
    rintro w6 ⟨k6,h6,vp6,vl6,hr6⟩
    have K6:=Lib.hid (K0.out.trans k6)
    have H6:=Lib.hid h6
    have R6:=Lib.hid hr6
    clear k6 h6 hr6 C1 C2 HL HR KX K0
    go_wp2_with fail
    go_ret
    exact ⟨rfl,K6.out,_,_,vp6,vl6,H6.out,LInv.push HI.out x.a x.b x.c rm,R6.out⟩
 ·have q1:x.k % 8=4:=hj
  have q2:x.k.tmod 8=4:=by rw [Int.tmod_eq_emod_of_nonneg hx.k.1]; exact hj
  clear hj
  by_cases hk:x.k<128
  ·have g1:decide (128≤x.k)=false:=by simp; omega
   have C1:Hid (∀ w',LedM w' G M ps ls→Calls Tryz.prog 29 #[.pointer (some ⟨G,0,none⟩),.int .u8 x.a,.int .u8 x.b,.int .u8 x.c,.int .i64 x.n] w' fun e w''=>e=.returned (.int .i64 (pushE ps ls x.a x.b x.c x.n))∧LedM w'' G M (ps) (pushL ps ls x.a x.b x.c x.n)∧Keep (fun b=>b=G∨b=M) w' w''):=Lib.hid fun w' h=>by
    refine (ppush_any h HI.out HX.out.a HX.out.b HX.out.c HX.out.n).mono ?_
    rintro e w'' ⟨h1,h2,h3⟩
    exact ⟨h1,h2,h3.mono fun b _ hb=>.inr hb⟩
   have C2:Hid (∀ w' vp vl,RefL w' base r ps ls vp vl→Calls Tryz.prog 33 #[.pointer (some ⟨r,0,none⟩),.int .u8 x.a,.int .u8 x.b,.int .u8 x.c,.int .i64 x.n] w' fun e w''=>e=.returned (.int .i64 (pushE ps ls x.a x.b x.c x.n))∧(∃ vp vl,RefL w'' base r (ps) (pushL ps ls x.a x.b x.c x.n) vp vl)∧Keep (·=r) w' w''):=Lib.hid fun w' vp vl h=>by
    refine (rpush_any h HI.out.inv.good HI.out.len x.a x.b x.c x.n).mono ?_
    rintro e w'' ⟨h1,v',h2,h3⟩
    exact ⟨h1,⟨vp,v',h2⟩,h3⟩
   clear hx hk
   go_enter Tryz.func8,Tryz.ntmps8
   go_wp2_with fail
   refine does_push HL HR KX C1 C2 ?_
   rintro w6 ⟨k6,h6,vp6,vl6,hr6⟩
   have K6:=Lib.hid (K0.out.trans k6)
   have H6:=Lib.hid h6
   have R6:=Lib.hid hr6
   clear k6 h6 hr6 C1 C2 HL HR KX K0
   go_wp2_with fail
   go_ret
   exact ⟨rfl,K6.out,_,_,vp6,vl6,H6.out,LInv.push HI.out x.a x.b x.c x.n,R6.out⟩
  ·have g1:decide (128≤x.k)=true:=by simp; omega
   have hrb:=roomL_bd HI.out.inv.good (ps:=ps) x.a x.b x.c
   have hr64:Hid (In64 (roomL ps ls x.a x.b x.c)):=Lib.hid ⟨by omega,by omega⟩
   have CR:=Lib.hid (rroom_any HR.out HI.out.inv.good x.a x.b x.c)
   clear hrb
   generalize roomL ps ls x.a x.b x.c=rm at *
   by_cases hle:x.n≤rm
   ·clear hx hk
    have g2:min x.n rm=x.n:=by omega
    have g3:decide (rm<x.n)=false:=by simp; omega
    have g4:decide (x.n≤rm)=true:=by simp; omega
    go_enter Tryz.func8,Tryz.ntmps8
    go_wp2_with fail
    refine CR.out.mono ?_
    rintro e w3 ⟨rfl,b3⟩
    have HL3:=Lib.hid (HL.out.below b3)
    have HR3:=Lib.hid (HR.out.below b3)
    have KX3:=Lib.hid (KX.out.below b3 KX.out.lt)
    have K3:=Lib.hid (K0.out.trans (Keep.of_below (S:=Trio G M r) b3))
    clear b3 HL HR KX K0 CR
    have HL:=HL3; have HR:=HR3; have KX:=KX3; have K0:=K3
    clear HL3 HR3 KX3 K3
    have kl:=KX.out.lt
    have d0:=KX.out.cell 0; have d1:=KX.out.cell 1; have d2:=KX.out.cell 2; have d3:=KX.out.cell 3; have d4:=KX.out.cell 4
    simp at d0 d1 d2 d3 d4
    go_wp2_with fail
    have C1:Hid (∀ w',LedM w' G M ps ls→Calls Tryz.prog 29 #[.pointer (some ⟨G,0,none⟩),.int .u8 x.a,.int .u8 x.b,.int .u8 x.c,.int .i64 x.n] w' fun e w''=>e=.returned (.int .i64 (pushE ps ls x.a x.b x.c x.n))∧LedM w'' G M (ps) (pushL ps ls x.a x.b x.c x.n)∧Keep (fun b=>b=G∨b=M) w' w''):=Lib.hid fun w' h=>by
     refine (ppush_any h HI.out HX.out.a HX.out.b HX.out.c HX.out.n).mono ?_
     rintro e w'' ⟨h1,h2,h3⟩
     exact ⟨h1,h2,h3.mono fun b _ hb=>.inr hb⟩
    have C2:Hid (∀ w' vp vl,RefL w' base r ps ls vp vl→Calls Tryz.prog 33 #[.pointer (some ⟨r,0,none⟩),.int .u8 x.a,.int .u8 x.b,.int .u8 x.c,.int .i64 x.n] w' fun e w''=>e=.returned (.int .i64 (pushE ps ls x.a x.b x.c x.n))∧(∃ vp vl,RefL w'' base r (ps) (pushL ps ls x.a x.b x.c x.n) vp vl)∧Keep (·=r) w' w''):=Lib.hid fun w' vp vl h=>by
     refine (rpush_any h HI.out.inv.good HI.out.len x.a x.b x.c x.n).mono ?_
     rintro e w'' ⟨h1,v',h2,h3⟩
     exact ⟨h1,⟨vp,v',h2⟩,h3⟩
    clear d0 d1 d2 d3 d4 kl
    refine does_push HL HR KX C1 C2 ?_
    rintro w6 ⟨k6,h6,vp6,vl6,hr6⟩
    have K6:=Lib.hid (K0.out.trans k6)
    have H6:=Lib.hid h6
    have R6:=Lib.hid hr6
    clear k6 h6 hr6 C1 C2 HL HR KX K0
    go_wp2_with fail
    go_ret
    exact ⟨rfl,K6.out,_,_,vp6,vl6,H6.out,LInv.push HI.out x.a x.b x.c x.n,R6.out⟩
   ·clear hx hk
    have g2:min x.n rm=rm:=by omega
    have g3:decide (rm<x.n)=true:=by simp; omega
    have g4:decide (x.n≤rm)=false:=by simp; omega
    go_enter Tryz.func8,Tryz.ntmps8
    go_wp2_with fail
    refine CR.out.mono ?_
    rintro e w3 ⟨rfl,b3⟩
    have HL3:=Lib.hid (HL.out.below b3)
    have HR3:=Lib.hid (HR.out.below b3)
    have KX3:=Lib.hid (KX.out.below b3 KX.out.lt)
    have K3:=Lib.hid (K0.out.trans (Keep.of_below (S:=Trio G M r) b3))
    clear b3 HL HR KX K0 CR
    have HL:=HL3; have HR:=HR3; have KX:=KX3; have K0:=K3
    clear HL3 HR3 KX3 K3
    have kl:=KX.out.lt
    have d0:=KX.out.cell 0; have d1:=KX.out.cell 1; have d2:=KX.out.cell 2; have d3:=KX.out.cell 3; have d4:=KX.out.cell 4
    simp at d0 d1 d2 d3 d4
    go_wp2_with fail
    have C1:Hid (∀ w',LedM w' G M ps ls→Calls Tryz.prog 29 #[.pointer (some ⟨G,0,none⟩),.int .u8 x.a,.int .u8 x.b,.int .u8 x.c,.int .i64 rm] w' fun e w''=>e=.returned (.int .i64 (pushE ps ls x.a x.b x.c rm))∧LedM w'' G M (ps) (pushL ps ls x.a x.b x.c rm)∧Keep (fun b=>b=G∨b=M) w' w''):=Lib.hid fun w' h=>by
     refine (ppush_any h HI.out HX.out.a HX.out.b HX.out.c hr64.out).mono ?_
     rintro e w'' ⟨h1,h2,h3⟩
     exact ⟨h1,h2,h3.mono fun b _ hb=>.inr hb⟩
    have C2:Hid (∀ w' vp vl,RefL w' base r ps ls vp vl→Calls Tryz.prog 33 #[.pointer (some ⟨r,0,none⟩),.int .u8 x.a,.int .u8 x.b,.int .u8 x.c,.int .i64 rm] w' fun e w''=>e=.returned (.int .i64 (pushE ps ls x.a x.b x.c rm))∧(∃ vp vl,RefL w'' base r (ps) (pushL ps ls x.a x.b x.c rm) vp vl)∧Keep (·=r) w' w''):=Lib.hid fun w' vp vl h=>by
     refine (rpush_any h HI.out.inv.good HI.out.len x.a x.b x.c rm).mono ?_
     rintro e w'' ⟨h1,v',h2,h3⟩
     exact ⟨h1,⟨vp,v',h2⟩,h3⟩
    clear d0 d1 d2 d3 d4 kl
    refine does_push HL HR KX C1 C2 ?_
    rintro w6 ⟨k6,h6,vp6,vl6,hr6⟩
    have K6:=Lib.hid (K0.out.trans k6)
    have H6:=Lib.hid h6
    have R6:=Lib.hid hr6
    clear k6 h6 hr6 C1 C2 HL HR KX K0
    go_wp2_with fail
    go_ret
    exact ⟨rfl,K6.out,_,_,vp6,vl6,H6.out,LInv.push HI.out x.a x.b x.c rm,R6.out⟩
 ·have q1:x.k % 8=5:=hj
  have q2:x.k.tmod 8=5:=by rw [Int.tmod_eq_emod_of_nonneg hx.k.1]; exact hj
  clear hj
  by_cases hk:x.k<128
  ·have g1:decide (128≤x.k)=false:=by simp; omega
   have C1:Hid (∀ w',LedM w' G M ps ls→Calls Tryz.prog 29 #[.pointer (some ⟨G,0,none⟩),.int .u8 x.a,.int .u8 x.b,.int .u8 x.c,.int .i64 x.n] w' fun e w''=>e=.returned (.int .i64 (pushE ps ls x.a x.b x.c x.n))∧LedM w'' G M (ps) (pushL ps ls x.a x.b x.c x.n)∧Keep (fun b=>b=G∨b=M) w' w''):=Lib.hid fun w' h=>by
    refine (ppush_any h HI.out HX.out.a HX.out.b HX.out.c HX.out.n).mono ?_
    rintro e w'' ⟨h1,h2,h3⟩
    exact ⟨h1,h2,h3.mono fun b _ hb=>.inr hb⟩
   have C2:Hid (∀ w' vp vl,RefL w' base r ps ls vp vl→Calls Tryz.prog 33 #[.pointer (some ⟨r,0,none⟩),.int .u8 x.a,.int .u8 x.b,.int .u8 x.c,.int .i64 x.n] w' fun e w''=>e=.returned (.int .i64 (pushE ps ls x.a x.b x.c x.n))∧(∃ vp vl,RefL w'' base r (ps) (pushL ps ls x.a x.b x.c x.n) vp vl)∧Keep (·=r) w' w''):=Lib.hid fun w' vp vl h=>by
    refine (rpush_any h HI.out.inv.good HI.out.len x.a x.b x.c x.n).mono ?_
    rintro e w'' ⟨h1,v',h2,h3⟩
    exact ⟨h1,⟨vp,v',h2⟩,h3⟩
   clear hx hk
   go_enter Tryz.func8,Tryz.ntmps8
   go_wp2_with fail
   refine does_push HL HR KX C1 C2 ?_
   rintro w6 ⟨k6,h6,vp6,vl6,hr6⟩
   have K6:=Lib.hid (K0.out.trans k6)
   have H6:=Lib.hid h6
   have R6:=Lib.hid hr6
   clear k6 h6 hr6 C1 C2 HL HR KX K0
   go_wp2_with fail
   go_ret
   exact ⟨rfl,K6.out,_,_,vp6,vl6,H6.out,LInv.push HI.out x.a x.b x.c x.n,R6.out⟩
  ·have g1:decide (128≤x.k)=true:=by simp; omega
   have hrb:=roomL_bd HI.out.inv.good (ps:=ps) x.a x.b x.c
   have hr64:Hid (In64 (roomL ps ls x.a x.b x.c)):=Lib.hid ⟨by omega,by omega⟩
   have CR:=Lib.hid (rroom_any HR.out HI.out.inv.good x.a x.b x.c)
   clear hrb
   generalize roomL ps ls x.a x.b x.c=rm at *
   by_cases hle:x.n≤rm
   ·clear hx hk
    have g2:min x.n rm=x.n:=by omega
    have g3:decide (rm<x.n)=false:=by simp; omega
    have g4:decide (x.n≤rm)=true:=by simp; omega
    go_enter Tryz.func8,Tryz.ntmps8
    go_wp2_with fail
    refine CR.out.mono ?_
    rintro e w3 ⟨rfl,b3⟩
    have HL3:=Lib.hid (HL.out.below b3)
    have HR3:=Lib.hid (HR.out.below b3)
    have KX3:=Lib.hid (KX.out.below b3 KX.out.lt)
    have K3:=Lib.hid (K0.out.trans (Keep.of_below (S:=Trio G M r) b3))
    clear b3 HL HR KX K0 CR
    have HL:=HL3; have HR:=HR3; have KX:=KX3; have K0:=K3
    clear HL3 HR3 KX3 K3
    have kl:=KX.out.lt
    have d0:=KX.out.cell 0; have d1:=KX.out.cell 1; have d2:=KX.out.cell 2; have d3:=KX.out.cell 3; have d4:=KX.out.cell 4
    simp at d0 d1 d2 d3 d4
    go_wp2_with fail
    have C1:Hid (∀ w',LedM w' G M ps ls→Calls Tryz.prog 29 #[.pointer (some ⟨G,0,none⟩),.int .u8 x.a,.int .u8 x.b,.int .u8 x.c,.int .i64 x.n] w' fun e w''=>e=.returned (.int .i64 (pushE ps ls x.a x.b x.c x.n))∧LedM w'' G M (ps) (pushL ps ls x.a x.b x.c x.n)∧Keep (fun b=>b=G∨b=M) w' w''):=Lib.hid fun w' h=>by
     refine (ppush_any h HI.out HX.out.a HX.out.b HX.out.c HX.out.n).mono ?_
     rintro e w'' ⟨h1,h2,h3⟩
     exact ⟨h1,h2,h3.mono fun b _ hb=>.inr hb⟩
    have C2:Hid (∀ w' vp vl,RefL w' base r ps ls vp vl→Calls Tryz.prog 33 #[.pointer (some ⟨r,0,none⟩),.int .u8 x.a,.int .u8 x.b,.int .u8 x.c,.int .i64 x.n] w' fun e w''=>e=.returned (.int .i64 (pushE ps ls x.a x.b x.c x.n))∧(∃ vp vl,RefL w'' base r (ps) (pushL ps ls x.a x.b x.c x.n) vp vl)∧Keep (·=r) w' w''):=Lib.hid fun w' vp vl h=>by
     refine (rpush_any h HI.out.inv.good HI.out.len x.a x.b x.c x.n).mono ?_
     rintro e w'' ⟨h1,v',h2,h3⟩
     exact ⟨h1,⟨vp,v',h2⟩,h3⟩
    clear d0 d1 d2 d3 d4 kl
    refine does_push HL HR KX C1 C2 ?_
    rintro w6 ⟨k6,h6,vp6,vl6,hr6⟩
    have K6:=Lib.hid (K0.out.trans k6)
    have H6:=Lib.hid h6
    have R6:=Lib.hid hr6
    clear k6 h6 hr6 C1 C2 HL HR KX K0
    go_wp2_with fail
    go_ret
    exact ⟨rfl,K6.out,_,_,vp6,vl6,H6.out,LInv.push HI.out x.a x.b x.c x.n,R6.out⟩
   ·clear hx hk
    have g2:min x.n rm=rm:=by omega
    have g3:decide (rm<x.n)=true:=by simp; omega
    have g4:decide (x.n≤rm)=false:=by simp; omega
    go_enter Tryz.func8,Tryz.ntmps8
    go_wp2_with fail
    refine CR.out.mono ?_
    rintro e w3 ⟨rfl,b3⟩
    have HL3:=Lib.hid (HL.out.below b3)
    have HR3:=Lib.hid (HR.out.below b3)
    have KX3:=Lib.hid (KX.out.below b3 KX.out.lt)
    have K3:=Lib.hid (K0.out.trans (Keep.of_below (S:=Trio G M r) b3))
    clear b3 HL HR KX K0 CR
    have HL:=HL3; have HR:=HR3; have KX:=KX3; have K0:=K3
    clear HL3 HR3 KX3 K3
    have kl:=KX.out.lt
    have d0:=KX.out.cell 0; have d1:=KX.out.cell 1; have d2:=KX.out.cell 2; have d3:=KX.out.cell 3; have d4:=KX.out.cell 4
    simp at d0 d1 d2 d3 d4
    go_wp2_with fail
    have C1:Hid (∀ w',LedM w' G M ps ls→Calls Tryz.prog 29 #[.pointer (some ⟨G,0,none⟩),.int .u8 x.a,.int .u8 x.b,.int .u8 x.c,.int .i64 rm] w' fun e w''=>e=.returned (.int .i64 (pushE ps ls x.a x.b x.c rm))∧LedM w'' G M (ps) (pushL ps ls x.a x.b x.c rm)∧Keep (fun b=>b=G∨b=M) w' w''):=Lib.hid fun w' h=>by
     refine (ppush_any h HI.out HX.out.a HX.out.b HX.out.c hr64.out).mono ?_
     rintro e w'' ⟨h1,h2,h3⟩
     exact ⟨h1,h2,h3.mono fun b _ hb=>.inr hb⟩
    have C2:Hid (∀ w' vp vl,RefL w' base r ps ls vp vl→Calls Tryz.prog 33 #[.pointer (some ⟨r,0,none⟩),.int .u8 x.a,.int .u8 x.b,.int .u8 x.c,.int .i64 rm] w' fun e w''=>e=.returned (.int .i64 (pushE ps ls x.a x.b x.c rm))∧(∃ vp vl,RefL w'' base r (ps) (pushL ps ls x.a x.b x.c rm) vp vl)∧Keep (·=r) w' w''):=Lib.hid fun w' vp vl h=>by
     refine (rpush_any h HI.out.inv.good HI.out.len x.a x.b x.c rm).mono ?_
     rintro e w'' ⟨h1,v',h2,h3⟩
     exact ⟨h1,⟨vp,v',h2⟩,h3⟩
    clear d0 d1 d2 d3 d4 kl
    refine does_push HL HR KX C1 C2 ?_
    rintro w6 ⟨k6,h6,vp6,vl6,hr6⟩
    have K6:=Lib.hid (K0.out.trans k6)
    have H6:=Lib.hid h6
    have R6:=Lib.hid hr6
    clear k6 h6 hr6 C1 C2 HL HR KX K0
    go_wp2_with fail
    go_ret
    exact ⟨rfl,K6.out,_,_,vp6,vl6,H6.out,LInv.push HI.out x.a x.b x.c rm,R6.out⟩
 ·have q1:x.k % 8=6:=hj
  have q2:x.k.tmod 8=6:=by rw [Int.tmod_eq_emod_of_nonneg hx.k.1]; exact hj
  clear hj
  have C1:Hid (∀ w',LedM w' G M ps ls→Calls Tryz.prog 34 #[.pointer (some ⟨G,0,none⟩),.int .u8 x.a,.int .u8 x.b,.int .u8 x.c,.int .i64 x.n] w' fun e w''=>e=.returned (.int .i64 (forgiveE ls x.a x.b x.c x.n))∧LedM w'' G M (ps) (forgiveL ls x.a x.b x.c x.n)∧Keep (fun b=>b=G∨b=M) w' w''):=Lib.hid fun w' h=>by
   refine (forgive_any h HI.out.inv HX.out.a HX.out.b HX.out.c HX.out.n).mono ?_
   rintro e w'' ⟨h1,h2,h3⟩
   exact ⟨h1,h2,h3.mono fun b _ hb=>.inr hb⟩
  have C2:Hid (∀ w' vp vl,RefL w' base r ps ls vp vl→Calls Tryz.prog 35 #[.pointer (some ⟨r,0,none⟩),.int .u8 x.a,.int .u8 x.b,.int .u8 x.c,.int .i64 x.n] w' fun e w''=>e=.returned (.int .i64 (forgiveE ls x.a x.b x.c x.n))∧(∃ vp vl,RefL w'' base r (ps) (forgiveL ls x.a x.b x.c x.n) vp vl)∧Keep (·=r) w' w''):=Lib.hid fun w' vp vl h=>by
   refine (rforgive_any h HI.out.inv.good HI.out.len x.a x.b x.c x.n HX.out.n).mono ?_
   rintro e w'' ⟨h1,v',h2,h3⟩
   exact ⟨h1,⟨vp,v',h2⟩,h3⟩
  clear hx
  go_enter Tryz.func8,Tryz.ntmps8
  go_wp2_with fail
  refine does_forgive HL HR KX C1 C2 ?_
  rintro w6 ⟨k6,h6,vp6,vl6,hr6⟩
  have K6:=Lib.hid (K0.out.trans k6)
  have H6:=Lib.hid h6
  have R6:=Lib.hid hr6
  clear k6 h6 hr6 C1 C2 HL HR KX K0
  go_wp2_with fail
  go_ret
  exact ⟨rfl,K6.out,_,_,vp6,vl6,H6.out,LInv.forgive HI.out x.a x.b x.c x.n,R6.out⟩
 ·have q1:x.k % 8=7:=hj
  have q2:x.k.tmod 8=7:=by rw [Int.tmod_eq_emod_of_nonneg hx.k.1]; exact hj
  clear hj
  clear hx
  go_enter Tryz.func8,Tryz.ntmps8
  go_wp2_with fail
  go_ret
  exact ⟨rfl,K0.out,ps,ls,vp,vl,HL.out,HI.out,HR.out⟩
end Go.Proofs.YtlbjjkbppbmihaaGreat
