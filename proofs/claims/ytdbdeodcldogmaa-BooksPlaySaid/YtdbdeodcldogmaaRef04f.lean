/-
  countinghouseref04: Best.
-/
import Derived.Test.YtdbdeodcldogmaaRef04e
import Derived.Test.YtdbdeodcldogmaaRef02e
import Derived.Test.YtdbdeodcldogmaaBestW
namespace Go.Proofs.Ytdbdeodcldogmaa
open Go.RowKit
set_option linter.unusedSimpArgs false
set_option linter.unusedVariables false

theorem wpList_append_pair {P : Program} {ops : Array Oper} {rest : List Oper} {o : Oper} {a : Act} {w w' : World} {Q : Exit → Act → World → Prop} (hgd : o.guard = none) (y x : Operand) (t : TypeId) {u v v' : Value}
    (ho : o.op = .call { callee := .builtin .append, args := #[y, x], argTypes := #[t, t] }) (hy : a.eval y = u) (hx : a.eval x = v)
    (hr : (Builtin.append_ #[t, t] o.type #[u, v]).run P w = .ok v' w') (h : wpList P ops Q rest (a.put o.dst v') w') : wpList P ops Q (o :: rest) a w := by
  refine wpList_plain hgd fun K hK => ?_
  unfold Oper.wp execOp
  simp only [ho, resolve, invoke, builtin, Sem.run_bind, Sem.run_pure, Result.andThen_ok, List.map_toArray, List.map_cons, List.map_nil, hy, hx, hr]
  exact hK _ _ h
/-- 'append(v, part...)', where v is a row of one's own, and the part lies in a row. -/
theorem run_app_off {w : World} {base : Nat} {v : Value} {n : Nat} {xs : List Value} (hown : w.ownsRow base 39 7 v n xs) (hn : n ≤ 1000) (g o m c : Nat) (hm : m ≤ 1000) (ys : List Of) (hy : ys.length = m)
    (hc : ∀ j, j < m * 7 → w.cell? ⟨g, o + j, none⟩ = (ofCells ys)[j]?) (ty : TypeId) (hb : base ≤ w.heap.size) :
    ∃ v' w', (Builtin.append_ #[50, 50] ty #[v, .slice (some ⟨g, o, none⟩) m c]).run Try.prog w = .ok v' w' ∧ w'.ownsRow base 39 7 v' (n + m) (xs ++ ofCells ys) ∧ w.grownBy w' v.ownBlock := by
  obtain ⟨i0, hi, hz0, hz1, hz2⟩ := info_parts info_of
  obtain ⟨v', w', hr, h2, h3, _⟩ := run_append_own (P := Try.prog) (w := w) base 50 ty 39 i0 noOf.val 7 40 Try.underlying50 hi hz0 hz1 hz2 rfl (by decide) v n xs hown ⟨g, o, none⟩ m c (ofCells ys) (by rw [ofCells_len, hy]) (fun j u hj => by
    have hjl : j < (ofCells ys).length := (List.getElem?_eq_some_iff.1 hj).1
    rw [ofCells_len, hy] at hjl
    rw [Go.WideShapes.add_plain]
    exact (hc j hjl).trans hj) (ofCells_oneCell ys) (by unfold maxLen; omega) (by omega) hb
  exact ⟨v', w', hr, h2, h3⟩
/-- 'append(v, nil...)'. -/
theorem run_app_none {w : World} {base : Nat} {v : Value} {n : Nat} {xs : List Value} (hown : w.ownsRow base 39 7 v n xs) (ty : TypeId) :
    (Builtin.append_ #[50, 50] ty #[v, .slice none 0 0]).run Try.prog w = .ok v w := by
  obtain ⟨i0, hi, hz0, hz1, hz2⟩ := info_parts info_of
  exact run_append_owned_none (P := Try.prog) (w := w) base 50 ty 39 i0 7 Try.underlying50 hi v n xs hown
theorem ofCells_take (ls : List Of) {i j : Nat} (hi : i ≤ ls.length) (hj : j < i * 7) : (ofCells (ls.take i))[j]? = (ofCells ls)[j]? := by
  have h := ofCells_append (ls.take i) (ls.drop i)
  rw [List.take_append_drop] at h
  rw [h, List.getElem?_append_left (by rw [ofCells_len, List.length_take]; omega)]
theorem ofCells_drop (ls : List Of) {i j : Nat} (hi : i ≤ ls.length) : (ofCells (ls.drop i))[j]? = (ofCells ls)[i * 7 + j]? := by
  have h := ofCells_append (ls.take i) (ls.drop i)
  rw [List.take_append_drop] at h
  have hl : (ofCells (ls.take i)).length = i * 7 := by rw [ofCells_len, List.length_take]; congr 1; omega
  rw [h, List.getElem?_append_right (by omega), hl, Nat.add_sub_cancel_left]
set_option maxHeartbeats 4000000 in
set_option maxRecDepth 100000 in
theorem best_le {W : World} {b X n cap : Nat} {i c : Int} {x y : Of} {ao : Option Addr} (i4 : 0 ≤ i) (hn : n ≤ 1000) (HB : Hid (b < W.heap.size)) (HY5 : Hid (W.cell? ⟨b, i.toNat * 7 + 5, none⟩ = some (.int .i64 y.nu))) (HY6 : Hid (W.cell? ⟨b, i.toNat * 7 + 6, none⟩ = some (.int .i64 y.de))) (KX : Hid (Blk W X #[.int .u64 x.se, .int .u8 x.ow, .int .u8 x.sl, .int .u8 x.bu, .int .i64 x.lf, .int .i64 x.nu, .int .i64 x.de] 39)) (CC : Hid (∀ w', Calls Try.prog 51 #[.agg #[.int .i64 y.nu, .int .i64 y.de], .agg #[.int .i64 x.nu, .int .i64 x.de]] w' fun e w'' => e = .returned (.int .i64 c) ∧ Below w'.heap.size w' w'')) (i1 : i < (n : Int)) (c0 : decide (i < (n : Int)) = true) (c1 : decide (c ≤ 0) = true) {Q : Exit → Act → World → Prop} {c0 c1 c2 c3 c4 c5 c6 c8 c11 c12 c13 c14 c15 c16 c17 c18 c19 c20 c21 c22 c23 c24 c25 c26 c27 c28 c29 c30 c31 c32 c33 c34 c35 c36 c37 c38 c39 c40 c41 c42 c43 c44 c45 c46 c47 c48 c49 c50 c51 c52 c53 c54 c55 c56 c57 c58 c59 c60 c61 c62 c63 c64 c65 c66 c67 c68 c69 : Value}
    (hq : ∀ w6, (fun w' => Below W.heap.size W w') w6 → Q .normal ⟨#[c0, c1, c2, c3, c4, c5, c6, (.slice (some ⟨b, 0, none⟩) n cap), c8, (.pointer (some ⟨X, 0, none⟩)), (.int .i64 i), c11, c12, c13, c14, c15, c16, c17, c18, c19, c20, c21, c22, c23, c24, c25, c26, c27, c28, c29, c30, c31, c32, c33, c34, c35, c36, c37, (.int .i64 i), (.slice (some ⟨b, 0, none⟩) n cap), (.int .i64 n), (.bool true), (.bool true), (.slice (some ⟨b, 0, none⟩) n cap), (.int .i64 i), (.pointer (some ⟨b, i.toNat * 7, none⟩)), (.pointer (some ⟨b, i.toNat * 7 + 5, none⟩)), (.agg #[.int .i64 y.nu, .int .i64 y.de]), (.pointer (some ⟨X, 5, none⟩)), (.agg #[.int .i64 x.nu, .int .i64 x.de]), (.int .i64 c), (.bool true), (.bool true), c53, c54, c55, c56, c57, c58, c59, c60, c61, c62, c63, c64, c65, c66, c67, c68, c69], []⟩ w6) :
    Code.wp Try.prog (((Try.f27.body).bind (regionNo 8)).getD .skip) Q ⟨#[c0, c1, c2, c3, c4, c5, c6, (.slice (some ⟨b, 0, none⟩) n cap), c8, (.pointer (some ⟨X, 0, none⟩)), (.int .i64 i), c11, c12, c13, c14, c15, c16, c17, c18, c19, c20, c21, c22, c23, c24, c25, c26, c27, c28, c29, c30, c31, c32, c33, c34, c35, c36, c37, c38, c39, c40, c41, c42, c43, c44, c45, c46, c47, c48, c49, c50, c51, c52, c53, c54, c55, c56, c57, c58, c59, c60, c61, c62, c63, c64, c65, c66, c67, c68, c69], []⟩ W := by
  conv => arg 2; whnf
  have HQ := Lib.hid hq
  clear hq
  refine region_still (by kernel_rfl) [(.int .i64 i), (.slice (some ⟨b, 0, none⟩) n cap), (.int .i64 n), (.bool true), (.bool true), (.slice (some ⟨b, 0, none⟩) n cap), (.int .i64 i), (.pointer (some ⟨b, i.toNat * 7, none⟩)), (.pointer (some ⟨b, i.toNat * 7 + 5, none⟩)), (.agg #[.int .i64 y.nu, .int .i64 y.de]), (.pointer (some ⟨X, 5, none⟩)), (.agg #[.int .i64 x.nu, .int .i64 x.de]), (.int .i64 c), (.bool true), (.bool true)]
    (fun w' => Below W.heap.size W w') (by kernel_rfl) (Below.refl _ _).drew ?_
  intro af haf
  simp only [List.toList_toArray, List.append_eq, List.cons_append, List.nil_append, puts, Act.put, List.getD_cons_zero, List.getD_cons_succ, List.setIfInBounds_toArray, List.set_cons_succ, List.set_cons_zero] at haf
  subst haf
  refine ⟨?_, ?_⟩
  · simp only [List.toList_toArray, List.append_eq, List.cons_append, List.nil_append, EachTo]
    refine ⟨?_, ?_, ?_, ?_, ?_, ?_, ?_, ?_, ?_, ?_, ?_, ?_, ?_, ?_, ?_, trivial⟩
    · intro w' hS
      refine OpTo.plain ?_ ?_
      exact rfl
      have HS := Lib.hid hS
      clear hS
      go_wp2_with fail
      all_goals first | exact HS.out | exact ⟨rfl, HS.out⟩ | rfl | exact ⟨by omega, HS.out⟩
    · intro w' hS
      refine OpTo.plain ?_ ?_
      exact rfl
      have HS := Lib.hid hS
      clear hS
      go_wp2_with fail
      all_goals first | exact HS.out | exact ⟨rfl, HS.out⟩ | rfl | exact ⟨by omega, HS.out⟩
    · intro w' hS
      refine OpTo.plain ?_ ?_
      exact rfl
      have HS := Lib.hid hS
      clear hS
      go_wp2_with fail
      all_goals first | exact HS.out | exact ⟨rfl, HS.out⟩ | rfl | exact ⟨by omega, HS.out⟩
    · intro w' hS
      refine OpTo.plain ?_ ?_
      exact rfl
      have HS := Lib.hid hS
      clear hS
      go_wp2_with fail
      all_goals first | exact HS.out | exact ⟨rfl, HS.out⟩ | rfl | exact ⟨by omega, HS.out⟩
    · intro w' hS
      refine OpTo.plain ?_ ?_
      exact rfl
      have HS := Lib.hid hS
      clear hS
      go_wp2_with fail
      all_goals first | exact HS.out | exact ⟨rfl, HS.out⟩ | rfl | exact ⟨by omega, HS.out⟩
    · intro w' hS
      refine OpTo.wanted ?_ ?_
      kernel_rfl
      have HS := Lib.hid hS
      clear hS
      go_wp2_with fail
      all_goals first | exact HS.out | exact ⟨rfl, HS.out⟩ | rfl | exact ⟨by omega, HS.out⟩
    · intro w' hS
      refine OpTo.wanted ?_ ?_
      kernel_rfl
      have HS := Lib.hid hS
      clear hS
      go_wp2_with fail
      all_goals first | exact HS.out | exact ⟨rfl, HS.out⟩ | rfl | exact ⟨by omega, HS.out⟩
    · intro w' hS
      refine OpTo.wanted ?_ ?_
      kernel_rfl
      have HS := Lib.hid hS
      clear hS
      go_wp2_with fail
      all_goals first | exact HS.out | exact ⟨rfl, HS.out⟩ | rfl | exact ⟨by omega, HS.out⟩
    · intro w' hS
      refine OpTo.wanted ?_ ?_
      kernel_rfl
      have HS := Lib.hid hS
      clear hS
      go_wp2_with fail
      all_goals first | exact HS.out | exact ⟨rfl, HS.out⟩ | rfl | exact ⟨by omega, HS.out⟩
    · intro w' hS
      refine OpTo.wanted ?_ ?_
      kernel_rfl
      have hlt := Nat.lt_of_lt_of_le HB.out hS.size
      have e5 := (hS.cell (p := ⟨b, i.toNat * 7 + 5, none⟩) HB.out).trans HY5.out
      have e6 := (hS.cell (p := ⟨b, i.toNat * 7 + 6, none⟩) HB.out).trans HY6.out
      have HS := Lib.hid hS
      clear hS
      go_wp2_with fail
      all_goals first | exact HS.out | exact ⟨rfl, HS.out⟩ | rfl | exact ⟨by omega, HS.out⟩
    · intro w' hS
      refine OpTo.wanted ?_ ?_
      kernel_rfl
      have HS := Lib.hid hS
      clear hS
      go_wp2_with fail
      all_goals first | exact HS.out | exact ⟨rfl, HS.out⟩ | rfl | exact ⟨by omega, HS.out⟩
    · intro w' hS
      refine OpTo.wanted ?_ ?_
      kernel_rfl
      have d0_0 := (KX.out.below hS KX.out.lt).cell 0
      have d0_1 := (KX.out.below hS KX.out.lt).cell 1
      have d0_2 := (KX.out.below hS KX.out.lt).cell 2
      have d0_3 := (KX.out.below hS KX.out.lt).cell 3
      have d0_4 := (KX.out.below hS KX.out.lt).cell 4
      have d0_5 := (KX.out.below hS KX.out.lt).cell 5
      have d0_6 := (KX.out.below hS KX.out.lt).cell 6
      simp at d0_0 d0_1 d0_2 d0_3 d0_4 d0_5 d0_6
      have HS := Lib.hid hS
      clear hS
      go_wp2_with fail
      all_goals first | exact HS.out | exact ⟨rfl, HS.out⟩ | rfl | exact ⟨by omega, HS.out⟩
    · intro w' hS
      refine OpTo.wanted ?_ ?_
      kernel_rfl
      have HS := Lib.hid hS
      clear hS
      go_wp2_with fail
      refine (CC.out w').mono ?_
      rintro e w'' ⟨rfl, hb2⟩
      exact ⟨rfl, andB HS.out hb2⟩
    · intro w' hS
      refine OpTo.wanted ?_ ?_
      kernel_rfl
      have HS := Lib.hid hS
      clear hS
      go_wp2_with fail
      all_goals first | exact HS.out | exact ⟨rfl, HS.out⟩ | rfl | exact ⟨by omega, HS.out⟩
    · intro w' hS
      refine OpTo.plain ?_ ?_
      exact rfl
      have HS := Lib.hid hS
      clear hS
      go_wp2_with fail
      all_goals first | exact HS.out | exact ⟨rfl, HS.out⟩ | rfl | exact ⟨by omega, HS.out⟩
  intro w6 b6
  exact HQ.out w6 b6
set_option maxHeartbeats 4000000 in
set_option maxRecDepth 100000 in
theorem best_gt {W : World} {b X n cap : Nat} {i c : Int} {x y : Of} {ao : Option Addr} (i4 : 0 ≤ i) (hn : n ≤ 1000) (HB : Hid (b < W.heap.size)) (HY5 : Hid (W.cell? ⟨b, i.toNat * 7 + 5, none⟩ = some (.int .i64 y.nu))) (HY6 : Hid (W.cell? ⟨b, i.toNat * 7 + 6, none⟩ = some (.int .i64 y.de))) (KX : Hid (Blk W X #[.int .u64 x.se, .int .u8 x.ow, .int .u8 x.sl, .int .u8 x.bu, .int .i64 x.lf, .int .i64 x.nu, .int .i64 x.de] 39)) (CC : Hid (∀ w', Calls Try.prog 51 #[.agg #[.int .i64 y.nu, .int .i64 y.de], .agg #[.int .i64 x.nu, .int .i64 x.de]] w' fun e w'' => e = .returned (.int .i64 c) ∧ Below w'.heap.size w' w'')) (i1 : i < (n : Int)) (c0 : decide (i < (n : Int)) = true) (c1 : decide (c ≤ 0) = false) {Q : Exit → Act → World → Prop} {c0 c1 c2 c3 c4 c5 c6 c8 c11 c12 c13 c14 c15 c16 c17 c18 c19 c20 c21 c22 c23 c24 c25 c26 c27 c28 c29 c30 c31 c32 c33 c34 c35 c36 c37 c38 c39 c40 c41 c42 c43 c44 c45 c46 c47 c48 c49 c50 c51 c52 c53 c54 c55 c56 c57 c58 c59 c60 c61 c62 c63 c64 c65 c66 c67 c68 c69 : Value}
    (hq : ∀ w6, (fun w' => Below W.heap.size W w') w6 → Q .normal ⟨#[c0, c1, c2, c3, c4, c5, c6, (.slice (some ⟨b, 0, none⟩) n cap), c8, (.pointer (some ⟨X, 0, none⟩)), (.int .i64 i), c11, c12, c13, c14, c15, c16, c17, c18, c19, c20, c21, c22, c23, c24, c25, c26, c27, c28, c29, c30, c31, c32, c33, c34, c35, c36, c37, (.int .i64 i), (.slice (some ⟨b, 0, none⟩) n cap), (.int .i64 n), (.bool true), (.bool true), (.slice (some ⟨b, 0, none⟩) n cap), (.int .i64 i), (.pointer (some ⟨b, i.toNat * 7, none⟩)), (.pointer (some ⟨b, i.toNat * 7 + 5, none⟩)), (.agg #[.int .i64 y.nu, .int .i64 y.de]), (.pointer (some ⟨X, 5, none⟩)), (.agg #[.int .i64 x.nu, .int .i64 x.de]), (.int .i64 c), (.bool false), (.bool false), c53, c54, c55, c56, c57, c58, c59, c60, c61, c62, c63, c64, c65, c66, c67, c68, c69], []⟩ w6) :
    Code.wp Try.prog (((Try.f27.body).bind (regionNo 8)).getD .skip) Q ⟨#[c0, c1, c2, c3, c4, c5, c6, (.slice (some ⟨b, 0, none⟩) n cap), c8, (.pointer (some ⟨X, 0, none⟩)), (.int .i64 i), c11, c12, c13, c14, c15, c16, c17, c18, c19, c20, c21, c22, c23, c24, c25, c26, c27, c28, c29, c30, c31, c32, c33, c34, c35, c36, c37, c38, c39, c40, c41, c42, c43, c44, c45, c46, c47, c48, c49, c50, c51, c52, c53, c54, c55, c56, c57, c58, c59, c60, c61, c62, c63, c64, c65, c66, c67, c68, c69], []⟩ W := by
  conv => arg 2; whnf
  have HQ := Lib.hid hq
  clear hq
  refine region_still (by kernel_rfl) [(.int .i64 i), (.slice (some ⟨b, 0, none⟩) n cap), (.int .i64 n), (.bool true), (.bool true), (.slice (some ⟨b, 0, none⟩) n cap), (.int .i64 i), (.pointer (some ⟨b, i.toNat * 7, none⟩)), (.pointer (some ⟨b, i.toNat * 7 + 5, none⟩)), (.agg #[.int .i64 y.nu, .int .i64 y.de]), (.pointer (some ⟨X, 5, none⟩)), (.agg #[.int .i64 x.nu, .int .i64 x.de]), (.int .i64 c), (.bool false), (.bool false)]
    (fun w' => Below W.heap.size W w') (by kernel_rfl) (Below.refl _ _).drew ?_
  intro af haf
  simp only [List.toList_toArray, List.append_eq, List.cons_append, List.nil_append, puts, Act.put, List.getD_cons_zero, List.getD_cons_succ, List.setIfInBounds_toArray, List.set_cons_succ, List.set_cons_zero] at haf
  subst haf
  refine ⟨?_, ?_⟩
  · simp only [List.toList_toArray, List.append_eq, List.cons_append, List.nil_append, EachTo]
    refine ⟨?_, ?_, ?_, ?_, ?_, ?_, ?_, ?_, ?_, ?_, ?_, ?_, ?_, ?_, ?_, trivial⟩
    · intro w' hS
      refine OpTo.plain ?_ ?_
      exact rfl
      have HS := Lib.hid hS
      clear hS
      go_wp2_with fail
      all_goals first | exact HS.out | exact ⟨rfl, HS.out⟩ | rfl | exact ⟨by omega, HS.out⟩
    · intro w' hS
      refine OpTo.plain ?_ ?_
      exact rfl
      have HS := Lib.hid hS
      clear hS
      go_wp2_with fail
      all_goals first | exact HS.out | exact ⟨rfl, HS.out⟩ | rfl | exact ⟨by omega, HS.out⟩
    · intro w' hS
      refine OpTo.plain ?_ ?_
      exact rfl
      have HS := Lib.hid hS
      clear hS
      go_wp2_with fail
      all_goals first | exact HS.out | exact ⟨rfl, HS.out⟩ | rfl | exact ⟨by omega, HS.out⟩
    · intro w' hS
      refine OpTo.plain ?_ ?_
      exact rfl
      have HS := Lib.hid hS
      clear hS
      go_wp2_with fail
      all_goals first | exact HS.out | exact ⟨rfl, HS.out⟩ | rfl | exact ⟨by omega, HS.out⟩
    · intro w' hS
      refine OpTo.plain ?_ ?_
      exact rfl
      have HS := Lib.hid hS
      clear hS
      go_wp2_with fail
      all_goals first | exact HS.out | exact ⟨rfl, HS.out⟩ | rfl | exact ⟨by omega, HS.out⟩
    · intro w' hS
      refine OpTo.wanted ?_ ?_
      kernel_rfl
      have HS := Lib.hid hS
      clear hS
      go_wp2_with fail
      all_goals first | exact HS.out | exact ⟨rfl, HS.out⟩ | rfl | exact ⟨by omega, HS.out⟩
    · intro w' hS
      refine OpTo.wanted ?_ ?_
      kernel_rfl
      have HS := Lib.hid hS
      clear hS
      go_wp2_with fail
      all_goals first | exact HS.out | exact ⟨rfl, HS.out⟩ | rfl | exact ⟨by omega, HS.out⟩
    · intro w' hS
      refine OpTo.wanted ?_ ?_
      kernel_rfl
      have HS := Lib.hid hS
      clear hS
      go_wp2_with fail
      all_goals first | exact HS.out | exact ⟨rfl, HS.out⟩ | rfl | exact ⟨by omega, HS.out⟩
    · intro w' hS
      refine OpTo.wanted ?_ ?_
      kernel_rfl
      have HS := Lib.hid hS
      clear hS
      go_wp2_with fail
      all_goals first | exact HS.out | exact ⟨rfl, HS.out⟩ | rfl | exact ⟨by omega, HS.out⟩
    · intro w' hS
      refine OpTo.wanted ?_ ?_
      kernel_rfl
      have hlt := Nat.lt_of_lt_of_le HB.out hS.size
      have e5 := (hS.cell (p := ⟨b, i.toNat * 7 + 5, none⟩) HB.out).trans HY5.out
      have e6 := (hS.cell (p := ⟨b, i.toNat * 7 + 6, none⟩) HB.out).trans HY6.out
      have HS := Lib.hid hS
      clear hS
      go_wp2_with fail
      all_goals first | exact HS.out | exact ⟨rfl, HS.out⟩ | rfl | exact ⟨by omega, HS.out⟩
    · intro w' hS
      refine OpTo.wanted ?_ ?_
      kernel_rfl
      have HS := Lib.hid hS
      clear hS
      go_wp2_with fail
      all_goals first | exact HS.out | exact ⟨rfl, HS.out⟩ | rfl | exact ⟨by omega, HS.out⟩
    · intro w' hS
      refine OpTo.wanted ?_ ?_
      kernel_rfl
      have d0_0 := (KX.out.below hS KX.out.lt).cell 0
      have d0_1 := (KX.out.below hS KX.out.lt).cell 1
      have d0_2 := (KX.out.below hS KX.out.lt).cell 2
      have d0_3 := (KX.out.below hS KX.out.lt).cell 3
      have d0_4 := (KX.out.below hS KX.out.lt).cell 4
      have d0_5 := (KX.out.below hS KX.out.lt).cell 5
      have d0_6 := (KX.out.below hS KX.out.lt).cell 6
      simp at d0_0 d0_1 d0_2 d0_3 d0_4 d0_5 d0_6
      have HS := Lib.hid hS
      clear hS
      go_wp2_with fail
      all_goals first | exact HS.out | exact ⟨rfl, HS.out⟩ | rfl | exact ⟨by omega, HS.out⟩
    · intro w' hS
      refine OpTo.wanted ?_ ?_
      kernel_rfl
      have HS := Lib.hid hS
      clear hS
      go_wp2_with fail
      refine (CC.out w').mono ?_
      rintro e w'' ⟨rfl, hb2⟩
      exact ⟨rfl, andB HS.out hb2⟩
    · intro w' hS
      refine OpTo.wanted ?_ ?_
      kernel_rfl
      have HS := Lib.hid hS
      clear hS
      go_wp2_with fail
      all_goals first | exact HS.out | exact ⟨rfl, HS.out⟩ | rfl | exact ⟨by omega, HS.out⟩
    · intro w' hS
      refine OpTo.plain ?_ ?_
      exact rfl
      have HS := Lib.hid hS
      clear hS
      go_wp2_with fail
      all_goals first | exact HS.out | exact ⟨rfl, HS.out⟩ | rfl | exact ⟨by omega, HS.out⟩
  intro w6 b6
  exact HQ.out w6 b6
set_option maxHeartbeats 4000000 in
set_option maxRecDepth 100000 in
theorem best_end {W : World} {b X n cap : Nat} {i c : Int} {x y : Of} {ao : Option Addr} (i4 : 0 ≤ i) (hn : n ≤ 1000) (c0 : decide (i < (n : Int)) = false) {Q : Exit → Act → World → Prop} {c0 c1 c2 c3 c4 c5 c6 c8 c9 c11 c12 c13 c14 c15 c16 c17 c18 c19 c20 c21 c22 c23 c24 c25 c26 c27 c28 c29 c30 c31 c32 c33 c34 c35 c36 c37 c38 c39 c40 c41 c42 c43 c44 c45 c46 c47 c48 c49 c50 c51 c52 c53 c54 c55 c56 c57 c58 c59 c60 c61 c62 c63 c64 c65 c66 c67 c68 c69 : Value}
    (hq : ∀ w6, (fun w' => Below W.heap.size W w') w6 → Q .normal ⟨#[c0, c1, c2, c3, c4, c5, c6, (.slice ao n cap), c8, c9, (.int .i64 i), c11, c12, c13, c14, c15, c16, c17, c18, c19, c20, c21, c22, c23, c24, c25, c26, c27, c28, c29, c30, c31, c32, c33, c34, c35, c36, c37, (.int .i64 i), (.slice ao n cap), (.int .i64 n), (.bool false), (.bool false), undef, undef, undef, undef, undef, undef, undef, undef, undef, (.bool false), c53, c54, c55, c56, c57, c58, c59, c60, c61, c62, c63, c64, c65, c66, c67, c68, c69], []⟩ w6) :
    Code.wp Try.prog (((Try.f27.body).bind (regionNo 8)).getD .skip) Q ⟨#[c0, c1, c2, c3, c4, c5, c6, (.slice ao n cap), c8, c9, (.int .i64 i), c11, c12, c13, c14, c15, c16, c17, c18, c19, c20, c21, c22, c23, c24, c25, c26, c27, c28, c29, c30, c31, c32, c33, c34, c35, c36, c37, c38, c39, c40, c41, c42, c43, c44, c45, c46, c47, c48, c49, c50, c51, c52, c53, c54, c55, c56, c57, c58, c59, c60, c61, c62, c63, c64, c65, c66, c67, c68, c69], []⟩ W := by
  conv => arg 2; whnf
  have HQ := Lib.hid hq
  clear hq
  refine region_still (by kernel_rfl) [(.int .i64 i), (.slice ao n cap), (.int .i64 n), (.bool false), (.bool false), undef, undef, undef, undef, undef, undef, undef, undef, undef, (.bool false)]
    (fun w' => Below W.heap.size W w') (by kernel_rfl) (Below.refl _ _).drew ?_
  intro af haf
  simp only [List.toList_toArray, List.append_eq, List.cons_append, List.nil_append, puts, Act.put, List.getD_cons_zero, List.getD_cons_succ, List.setIfInBounds_toArray, List.set_cons_succ, List.set_cons_zero] at haf
  subst haf
  refine ⟨?_, ?_⟩
  · simp only [List.toList_toArray, List.append_eq, List.cons_append, List.nil_append, EachTo]
    refine ⟨?_, ?_, ?_, ?_, ?_, ?_, ?_, ?_, ?_, ?_, ?_, ?_, ?_, ?_, ?_, trivial⟩
    · intro w' hS
      refine OpTo.plain ?_ ?_
      exact rfl
      have HS := Lib.hid hS
      clear hS
      go_wp2_with fail
      all_goals first | exact HS.out | exact ⟨rfl, HS.out⟩ | rfl | exact ⟨by omega, HS.out⟩
    · intro w' hS
      refine OpTo.plain ?_ ?_
      exact rfl
      have HS := Lib.hid hS
      clear hS
      go_wp2_with fail
      all_goals first | exact HS.out | exact ⟨rfl, HS.out⟩ | rfl | exact ⟨by omega, HS.out⟩
    · intro w' hS
      refine OpTo.plain ?_ ?_
      exact rfl
      have HS := Lib.hid hS
      clear hS
      go_wp2_with fail
      all_goals first | exact HS.out | exact ⟨rfl, HS.out⟩ | rfl | exact ⟨by omega, HS.out⟩
    · intro w' hS
      refine OpTo.plain ?_ ?_
      exact rfl
      have HS := Lib.hid hS
      clear hS
      go_wp2_with fail
      all_goals first | exact HS.out | exact ⟨rfl, HS.out⟩ | rfl | exact ⟨by omega, HS.out⟩
    · intro w' hS
      refine OpTo.plain ?_ ?_
      exact rfl
      have HS := Lib.hid hS
      clear hS
      go_wp2_with fail
      all_goals first | exact HS.out | exact ⟨rfl, HS.out⟩ | rfl | exact ⟨by omega, HS.out⟩
    · intro w' hS
      refine OpTo.passed (by kernel_rfl) rfl hS
    · intro w' hS
      refine OpTo.passed (by kernel_rfl) rfl hS
    · intro w' hS
      refine OpTo.passed (by kernel_rfl) rfl hS
    · intro w' hS
      refine OpTo.passed (by kernel_rfl) rfl hS
    · intro w' hS
      refine OpTo.passed (by kernel_rfl) rfl hS
    · intro w' hS
      refine OpTo.passed (by kernel_rfl) rfl hS
    · intro w' hS
      refine OpTo.passed (by kernel_rfl) rfl hS
    · intro w' hS
      refine OpTo.passed (by kernel_rfl) rfl hS
    · intro w' hS
      refine OpTo.passed (by kernel_rfl) rfl hS
    · intro w' hS
      refine OpTo.plain ?_ ?_
      exact rfl
      have HS := Lib.hid hS
      clear hS
      go_wp2_with fail
      all_goals first | exact HS.out | exact ⟨rfl, HS.out⟩ | rfl | exact ⟨by omega, HS.out⟩
  intro w6 b6
  exact HQ.out w6 b6

end Go.Proofs.Ytdbdeodcldogmaa
