/-
  countinghouseref04: Of.
-/
import Derived.Test.YtdbdeodcldogmaaRef04
import Derived.Test.YtdbdeodcldogmaaOnce
namespace Go.Proofs.Ytdbdeodcldogmaa
open Go.RowKit
set_option linter.unusedSimpArgs false
set_option linter.unusedVariables false

/-- Offers that a book may be of, with this next number. -/
def okO (nx : Int) (l : List Of) : Prop := l.Pairwise (fun x y => x.se < y.se) ∧ ∀ x ∈ l, x.may ∧ x.se ≠ 0 ∧ x.se < nx
theorem okO.nil (nx : Int) : okO nx [] := ⟨List.Pairwise.nil, by simp⟩
theorem rise_takeO {l : List Of} {k : Nat} (hk : k < l.length) (h : (l.take k).Pairwise fun x y => x.se < y.se) (hs : ∀ hk0 : 0 < k, (l[k - 1]'(by omega)).se < l[k].se) : (l.take (k + 1)).Pairwise fun x y => x.se < y.se := by
  rw [List.take_succ_eq_append_getElem hk, List.pairwise_append]
  refine ⟨h, by simp, fun a ha b hb => ?_⟩
  rw [List.mem_singleton] at hb
  subst hb
  obtain ⟨j, hj, rfl⟩ := List.mem_take_iff_getElem.1 ha
  have hk0 : 0 < k := by omega
  by_cases hjk : j = k - 1
  · subst hjk; exact hs hk0
  · have h1 := List.pairwise_iff_getElem.1 h j (k - 1) (by simp; omega) (by simp; omega) (by omega)
    have h2 := hs hk0
    simp only [List.getElem_take] at h1
    omega
theorem okO.next {nx : Int} {l : List Of} {k : Nat} (hk : k < l.length) (h : okO nx (l.take k)) (h1 : l[k].may) (h2 : l[k].se ≠ 0) (h3 : l[k].se < nx) (hs : ∀ hk0 : 0 < k, (l[k - 1]'(by omega)).se < l[k].se) : okO nx (l.take (k + 1)) := by
  refine ⟨rise_takeO hk h.1 hs, fun x hx => ?_⟩
  rw [List.take_succ_eq_append_getElem hk, List.mem_append, List.mem_singleton] at hx
  rcases hx with hx | rfl
  · exact h.2 x hx
  · exact ⟨h1, h2, h3⟩
theorem okO.bad {nx : Int} {l : List Of} {k : Nat} (hk : k < l.length) (h : ¬ l[k].may ∨ l[k].se = 0 ∨ nx ≤ l[k].se ∨ ∃ hk0 : 0 < k, l[k].se ≤ (l[k - 1]'(by omega)).se) : ¬ okO nx l := by
  rintro ⟨h1, h2⟩
  have h3 := h2 l[k] (List.getElem_mem _)
  rcases h with h | h | h | ⟨hk0, h⟩
  · exact h h3.1
  · exact h3.2.1 h
  · have := h3.2.2; omega
  · have := List.pairwise_iff_getElem.1 h1 (k - 1) k (by omega) hk (by omega)
    omega
/-- 'append([]T(nil), src...)', of what came in. -/
theorem run_append_from {w : World} {ao : Option Addr} {cap : Nat} {l : List Of} (h : Reads w (.slice ao l.length cap) 7 l.length (ofCells l)) (h0 : ao = none → cap = 0) (hn : l.length ≤ 1000) (ty : TypeId) :
    ∃ v' w', (Builtin.append_ #[50, 50] ty #[.slice none 0 0, .slice ao l.length cap]).run Try.prog w = .ok v' w' ∧ w'.ownsRow w.heap.size 39 7 v' l.length (ofCells l) ∧ Below w.heap.size w w' := by
  obtain ⟨i, hi1, hi2, hi3, hi4⟩ := info_parts info_of
  have hz := World.ownsRow_nil w w.heap.size 39 7
  cases ao with
  | none =>
    have hc := h0 rfl
    have hl : l = [] := by
      rcases l with _ | ⟨x, r⟩
      · rfl
      · exfalso
        have := (h.ofNone h0 rfl).1
        simp at this
    subst hl
    subst hc
    exact ⟨_, _, run_append_owned_none (P := Try.prog) (w := w) w.heap.size 50 ty 39 i 7 Try.underlying50 hi1 (.slice none 0 0) 0 [] hz, hz, Below.refl _ _⟩
  | some ad =>
    obtain ⟨v', w', hr, h2, h3, _⟩ := run_append_own (P := Try.prog) w w.heap.size 50 ty 39 i (noOf.val) 7 40 Try.underlying50 hi1 hi2 hi3 hi4 rfl (by decide) (.slice none 0 0) 0 [] hz ad l.length cap (ofCells l) (ofCells_len l) (fun j u hj => h.src ad rfl j u hj) (ofCells_oneCell l) (by unfold maxLen; omega) (by omega) (Nat.le_refl _)
    simp only [Nat.zero_add, List.nil_append] at h2
    exact ⟨v', w', hr, h2, (Below.refl w.heap.size w).grown h3 (Nat.le_refl _) (fun k hk => by cases hk)⟩
theorem wpList_append_nil {P : Program} {ops : Array Oper} {rest : List Oper} {o : Oper} {a : Act} {w w' : World} {Q : Exit → Act → World → Prop} (hgd : o.guard = none) (x : Operand) (t : TypeId) {v v' : Value}
    (ho : o.op = .call { callee := .builtin .append, args := #[.const (.slice none 0 0), x], argTypes := #[t, t] }) (hx : a.eval x = v)
    (hr : (Builtin.append_ #[t, t] o.type #[.slice none 0 0, v]).run P w = .ok v' w') (h : wpList P ops Q rest (a.put o.dst v') w') : wpList P ops Q (o :: rest) a w :=
  wpList_plain hgd fun _ hK => wp_append_of x t ho hx hr (hK _ _ h)
set_option maxHeartbeats 4000000 in
set_option maxRecDepth 100000 in
theorem bof_f1 {W : World} {b o n cap : Nat} {i nx : Int} {x y : Of} (HB : Hid (b < W.heap.size)) (HX0 : Hid (W.cell? ⟨b, o + i.toNat * 7, none⟩ = some (.int .u64 x.se))) (HX1 : Hid (W.cell? ⟨b, o + i.toNat * 7 + 1, none⟩ = some (.int .u8 x.ow))) (HX2 : Hid (W.cell? ⟨b, o + i.toNat * 7 + 2, none⟩ = some (.int .u8 x.sl))) (HX3 : Hid (W.cell? ⟨b, o + i.toNat * 7 + 3, none⟩ = some (.int .u8 x.bu))) (HX4 : Hid (W.cell? ⟨b, o + i.toNat * 7 + 4, none⟩ = some (.int .i64 x.lf))) (HX5 : Hid (W.cell? ⟨b, o + i.toNat * 7 + 5, none⟩ = some (.int .i64 x.nu))) (HX6 : Hid (W.cell? ⟨b, o + i.toNat * 7 + 6, none⟩ = some (.int .i64 x.de))) (i4 : 0 ≤ i) (i1 : i < (n : Int)) (hn : n ≤ 32) (CM : Hid (∀ w', Calls Try.prog 38 #[.agg #[.int .u64 x.se, .int .u8 x.ow, .int .u8 x.sl, .int .u8 x.bu, .int .i64 x.lf, .int .i64 x.nu, .int .i64 x.de]] w' fun e w'' => e = .returned (.bool false) ∧ Below w'.heap.size w' w'')) {Q : Exit → Act → World → Prop} {c2 c3 c4 c5 c7 c8 c9 c10 c11 c12 c13 c14 c15 c16 c17 c18 c19 c20 c21 c22 c23 c24 c25 c26 c27 c28 c29 c30 c31 c32 c33 c34 c35 c36 c37 c38 c39 c40 c41 c42 c43 c44 c45 c46 c47 c48 c49 c50 c51 c52 c53 c54 c55 c56 c57 c58 c59 c60 c61 c62 c63 : Value}
    (hq : ∀ w6, (fun w' => Below W.heap.size W w') w6 → Q .normal ⟨#[(.slice (some ⟨b, o, none⟩) n cap), (.int .u64 nx), c2, c3, c4, c5, (.int .i64 i), c7, c8, c9, c10, c11, c12, c13, c14, c15, (.slice (some ⟨b, o, none⟩) n cap), (.int .i64 i), (.pointer (some ⟨b, o + i.toNat * 7, none⟩)), (.agg #[.int .u64 x.se, .int .u8 x.ow, .int .u8 x.sl, .int .u8 x.bu, .int .i64 x.lf, .int .i64 x.nu, .int .i64 x.de]), (.bool false), (.bool true), (.bool true), undef, undef, undef, undef, undef, undef, (.bool true), (.bool true), undef, undef, undef, undef, undef, undef, undef, undef, undef, undef, undef, undef, undef, undef, undef, undef, (.bool true), (.bool true), undef, undef, undef, undef, undef, undef, undef, (.bool true), c57, c58, c59, c60, c61, c62, c63], []⟩ w6) :
    Code.wp Try.prog (((Try.f13.body).bind (regionNo 6)).getD .skip) Q ⟨#[(.slice (some ⟨b, o, none⟩) n cap), (.int .u64 nx), c2, c3, c4, c5, (.int .i64 i), c7, c8, c9, c10, c11, c12, c13, c14, c15, c16, c17, c18, c19, c20, c21, c22, c23, c24, c25, c26, c27, c28, c29, c30, c31, c32, c33, c34, c35, c36, c37, c38, c39, c40, c41, c42, c43, c44, c45, c46, c47, c48, c49, c50, c51, c52, c53, c54, c55, c56, c57, c58, c59, c60, c61, c62, c63], []⟩ W := by
  conv => arg 2; whnf
  have HQ := Lib.hid hq
  clear hq
  refine region_still (by kernel_rfl) [(.slice (some ⟨b, o, none⟩) n cap), (.int .i64 i), (.pointer (some ⟨b, o + i.toNat * 7, none⟩)), (.agg #[.int .u64 x.se, .int .u8 x.ow, .int .u8 x.sl, .int .u8 x.bu, .int .i64 x.lf, .int .i64 x.nu, .int .i64 x.de]), (.bool false), (.bool true), (.bool true), undef, undef, undef, undef, undef, undef, (.bool true), (.bool true), undef, undef, undef, undef, undef, undef, undef, undef, undef, undef, undef, undef, undef, undef, undef, undef, (.bool true), (.bool true), undef, undef, undef, undef, undef, undef, undef, (.bool true)]
    (fun w' => Below W.heap.size W w') (by kernel_rfl) (Below.refl _ _).drew ?_
  intro af haf
  simp only [List.toList_toArray, List.append_eq, List.cons_append, List.nil_append, puts, Act.put, List.getD_cons_zero, List.getD_cons_succ, List.setIfInBounds_toArray, List.set_cons_succ, List.set_cons_zero] at haf
  subst haf
  refine ⟨?_, ?_⟩
  · simp only [List.toList_toArray, List.append_eq, List.cons_append, List.nil_append, EachTo]
    refine ⟨?_, ?_, ?_, ?_, ?_, ?_, ?_, ?_, ?_, ?_, ?_, ?_, ?_, ?_, ?_, ?_, ?_, ?_, ?_, ?_, ?_, ?_, ?_, ?_, ?_, ?_, ?_, ?_, ?_, ?_, ?_, ?_, ?_, ?_, ?_, ?_, ?_, ?_, ?_, ?_, ?_, trivial⟩
    · intro w' hS
      refine OpTo.plain ?_ ?_
      exact rfl
      have HS := Lib.hid hS
      clear hS
      go_wp2_with fail
      all_goals first | exact HS.out | exact ⟨rfl, HS.out⟩ | rfl | exact ⟨by omega, HS.out⟩
    · intro w' hS
      refine OpTo.plain ?_ ?_
      exact rfl
      have HS := Lib.hid hS
      clear hS
      go_wp2_with fail
      all_goals first | exact HS.out | exact ⟨rfl, HS.out⟩ | rfl | exact ⟨by omega, HS.out⟩
    · intro w' hS
      refine OpTo.plain ?_ ?_
      exact rfl
      have HS := Lib.hid hS
      clear hS
      go_wp2_with fail
      all_goals first | exact HS.out | exact ⟨rfl, HS.out⟩ | rfl | exact ⟨by omega, HS.out⟩
    · intro w' hS
      refine OpTo.plain ?_ ?_
      exact rfl
      have hlt := Nat.lt_of_lt_of_le HB.out hS.size
      have e0 := (hS.cell (p := ⟨b, o + i.toNat * 7, none⟩) HB.out).trans HX0.out
      have e1 := (hS.cell (p := ⟨b, o + i.toNat * 7 + 1, none⟩) HB.out).trans HX1.out
      have e2 := (hS.cell (p := ⟨b, o + i.toNat * 7 + 2, none⟩) HB.out).trans HX2.out
      have e3 := (hS.cell (p := ⟨b, o + i.toNat * 7 + 3, none⟩) HB.out).trans HX3.out
      have e4 := (hS.cell (p := ⟨b, o + i.toNat * 7 + 4, none⟩) HB.out).trans HX4.out
      have e5 := (hS.cell (p := ⟨b, o + i.toNat * 7 + 5, none⟩) HB.out).trans HX5.out
      have e6 := (hS.cell (p := ⟨b, o + i.toNat * 7 + 6, none⟩) HB.out).trans HX6.out
      have HS := Lib.hid hS
      clear hS
      go_wp2_with fail
      all_goals first | exact HS.out | exact ⟨rfl, HS.out⟩ | rfl | exact ⟨by omega, HS.out⟩
    · intro w' hS
      refine OpTo.plain ?_ ?_
      exact rfl
      have HS := Lib.hid hS
      clear hS
      go_wp2_with fail
      refine (CM.out w').mono ?_
      rintro e w'' ⟨rfl, hb2⟩
      exact ⟨rfl, andB HS.out hb2⟩
    · intro w' hS
      refine OpTo.plain ?_ ?_
      exact rfl
      have HS := Lib.hid hS
      clear hS
      go_wp2_with fail
      all_goals first | exact HS.out | exact ⟨rfl, HS.out⟩ | rfl | exact ⟨by omega, HS.out⟩
    · intro w' hS
      refine OpTo.plain ?_ ?_
      exact rfl
      have HS := Lib.hid hS
      clear hS
      go_wp2_with fail
      all_goals first | exact HS.out | exact ⟨rfl, HS.out⟩ | rfl | exact ⟨by omega, HS.out⟩
    · intro w' hS
      refine OpTo.passed (by kernel_rfl) rfl hS
    · intro w' hS
      refine OpTo.passed (by kernel_rfl) rfl hS
    · intro w' hS
      refine OpTo.passed (by kernel_rfl) rfl hS
    · intro w' hS
      refine OpTo.passed (by kernel_rfl) rfl hS
    · intro w' hS
      refine OpTo.passed (by kernel_rfl) rfl hS
    · intro w' hS
      refine OpTo.passed (by kernel_rfl) rfl hS
    · intro w' hS
      refine OpTo.plain ?_ ?_
      exact rfl
      have HS := Lib.hid hS
      clear hS
      go_wp2_with fail
      all_goals first | exact HS.out | exact ⟨rfl, HS.out⟩ | rfl | exact ⟨by omega, HS.out⟩
    · intro w' hS
      refine OpTo.plain ?_ ?_
      exact rfl
      have HS := Lib.hid hS
      clear hS
      go_wp2_with fail
      all_goals first | exact HS.out | exact ⟨rfl, HS.out⟩ | rfl | exact ⟨by omega, HS.out⟩
    · intro w' hS
      refine OpTo.passed (by kernel_rfl) rfl hS
    · intro w' hS
      refine OpTo.passed (by kernel_rfl) rfl hS
    · intro w' hS
      refine OpTo.passed (by kernel_rfl) rfl hS
    · intro w' hS
      refine OpTo.passed (by kernel_rfl) rfl hS
    · intro w' hS
      refine OpTo.passed (by kernel_rfl) rfl hS
    · intro w' hS
      refine OpTo.passed (by kernel_rfl) rfl hS
    · intro w' hS
      refine OpTo.passed (by kernel_rfl) rfl hS
    · intro w' hS
      refine OpTo.passed (by kernel_rfl) rfl hS
    · intro w' hS
      refine OpTo.passed (by kernel_rfl) rfl hS
    · intro w' hS
      refine OpTo.passed (by kernel_rfl) rfl hS
    · intro w' hS
      refine OpTo.passed (by kernel_rfl) rfl hS
    · intro w' hS
      refine OpTo.passed (by kernel_rfl) rfl hS
    · intro w' hS
      refine OpTo.passed (by kernel_rfl) rfl hS
    · intro w' hS
      refine OpTo.passed (by kernel_rfl) rfl hS
    · intro w' hS
      refine OpTo.passed (by kernel_rfl) rfl hS
    · intro w' hS
      refine OpTo.passed (by kernel_rfl) rfl hS
    · intro w' hS
      refine OpTo.plain ?_ ?_
      exact rfl
      have HS := Lib.hid hS
      clear hS
      go_wp2_with fail
      all_goals first | exact HS.out | exact ⟨rfl, HS.out⟩ | rfl | exact ⟨by omega, HS.out⟩
    · intro w' hS
      refine OpTo.plain ?_ ?_
      exact rfl
      have HS := Lib.hid hS
      clear hS
      go_wp2_with fail
      all_goals first | exact HS.out | exact ⟨rfl, HS.out⟩ | rfl | exact ⟨by omega, HS.out⟩
    · intro w' hS
      refine OpTo.passed (by kernel_rfl) rfl hS
    · intro w' hS
      refine OpTo.passed (by kernel_rfl) rfl hS
    · intro w' hS
      refine OpTo.passed (by kernel_rfl) rfl hS
    · intro w' hS
      refine OpTo.passed (by kernel_rfl) rfl hS
    · intro w' hS
      refine OpTo.passed (by kernel_rfl) rfl hS
    · intro w' hS
      refine OpTo.passed (by kernel_rfl) rfl hS
    · intro w' hS
      refine OpTo.passed (by kernel_rfl) rfl hS
    · intro w' hS
      refine OpTo.plain ?_ ?_
      exact rfl
      have HS := Lib.hid hS
      clear hS
      go_wp2_with fail
      all_goals first | exact HS.out | exact ⟨rfl, HS.out⟩ | rfl | exact ⟨by omega, HS.out⟩
  intro w6 b6
  exact HQ.out w6 b6
set_option maxHeartbeats 4000000 in
set_option maxRecDepth 100000 in
theorem bof_f2 {W : World} {b o n cap : Nat} {i nx : Int} {x y : Of} (HB : Hid (b < W.heap.size)) (HX0 : Hid (W.cell? ⟨b, o + i.toNat * 7, none⟩ = some (.int .u64 x.se))) (HX1 : Hid (W.cell? ⟨b, o + i.toNat * 7 + 1, none⟩ = some (.int .u8 x.ow))) (HX2 : Hid (W.cell? ⟨b, o + i.toNat * 7 + 2, none⟩ = some (.int .u8 x.sl))) (HX3 : Hid (W.cell? ⟨b, o + i.toNat * 7 + 3, none⟩ = some (.int .u8 x.bu))) (HX4 : Hid (W.cell? ⟨b, o + i.toNat * 7 + 4, none⟩ = some (.int .i64 x.lf))) (HX5 : Hid (W.cell? ⟨b, o + i.toNat * 7 + 5, none⟩ = some (.int .i64 x.nu))) (HX6 : Hid (W.cell? ⟨b, o + i.toNat * 7 + 6, none⟩ = some (.int .i64 x.de))) (i4 : 0 ≤ i) (i1 : i < (n : Int)) (hn : n ≤ 32) (CM : Hid (∀ w', Calls Try.prog 38 #[.agg #[.int .u64 x.se, .int .u8 x.ow, .int .u8 x.sl, .int .u8 x.bu, .int .i64 x.lf, .int .i64 x.nu, .int .i64 x.de]] w' fun e w'' => e = .returned (.bool true) ∧ Below w'.heap.size w' w'')) (c2 : (x.se == 0) = true) {Q : Exit → Act → World → Prop} {c2 c3 c4 c5 c7 c8 c9 c10 c11 c12 c13 c14 c15 c16 c17 c18 c19 c20 c21 c22 c23 c24 c25 c26 c27 c28 c29 c30 c31 c32 c33 c34 c35 c36 c37 c38 c39 c40 c41 c42 c43 c44 c45 c46 c47 c48 c49 c50 c51 c52 c53 c54 c55 c56 c57 c58 c59 c60 c61 c62 c63 : Value}
    (hq : ∀ w6, (fun w' => Below W.heap.size W w') w6 → Q .normal ⟨#[(.slice (some ⟨b, o, none⟩) n cap), (.int .u64 nx), c2, c3, c4, c5, (.int .i64 i), c7, c8, c9, c10, c11, c12, c13, c14, c15, (.slice (some ⟨b, o, none⟩) n cap), (.int .i64 i), (.pointer (some ⟨b, o + i.toNat * 7, none⟩)), (.agg #[.int .u64 x.se, .int .u8 x.ow, .int .u8 x.sl, .int .u8 x.bu, .int .i64 x.lf, .int .i64 x.nu, .int .i64 x.de]), (.bool true), (.bool false), (.bool false), (.slice (some ⟨b, o, none⟩) n cap), (.int .i64 i), (.pointer (some ⟨b, o + i.toNat * 7, none⟩)), (.pointer (some ⟨b, o + i.toNat * 7, none⟩)), (.int .u64 x.se), (.bool true), (.bool true), (.bool true), undef, undef, undef, undef, undef, undef, undef, undef, undef, undef, undef, undef, undef, undef, undef, undef, (.bool true), (.bool true), undef, undef, undef, undef, undef, undef, undef, (.bool true), c57, c58, c59, c60, c61, c62, c63], []⟩ w6) :
    Code.wp Try.prog (((Try.f13.body).bind (regionNo 6)).getD .skip) Q ⟨#[(.slice (some ⟨b, o, none⟩) n cap), (.int .u64 nx), c2, c3, c4, c5, (.int .i64 i), c7, c8, c9, c10, c11, c12, c13, c14, c15, c16, c17, c18, c19, c20, c21, c22, c23, c24, c25, c26, c27, c28, c29, c30, c31, c32, c33, c34, c35, c36, c37, c38, c39, c40, c41, c42, c43, c44, c45, c46, c47, c48, c49, c50, c51, c52, c53, c54, c55, c56, c57, c58, c59, c60, c61, c62, c63], []⟩ W := by
  conv => arg 2; whnf
  have HQ := Lib.hid hq
  clear hq
  refine region_still (by kernel_rfl) [(.slice (some ⟨b, o, none⟩) n cap), (.int .i64 i), (.pointer (some ⟨b, o + i.toNat * 7, none⟩)), (.agg #[.int .u64 x.se, .int .u8 x.ow, .int .u8 x.sl, .int .u8 x.bu, .int .i64 x.lf, .int .i64 x.nu, .int .i64 x.de]), (.bool true), (.bool false), (.bool false), (.slice (some ⟨b, o, none⟩) n cap), (.int .i64 i), (.pointer (some ⟨b, o + i.toNat * 7, none⟩)), (.pointer (some ⟨b, o + i.toNat * 7, none⟩)), (.int .u64 x.se), (.bool true), (.bool true), (.bool true), undef, undef, undef, undef, undef, undef, undef, undef, undef, undef, undef, undef, undef, undef, undef, undef, (.bool true), (.bool true), undef, undef, undef, undef, undef, undef, undef, (.bool true)]
    (fun w' => Below W.heap.size W w') (by kernel_rfl) (Below.refl _ _).drew ?_
  intro af haf
  simp only [List.toList_toArray, List.append_eq, List.cons_append, List.nil_append, puts, Act.put, List.getD_cons_zero, List.getD_cons_succ, List.setIfInBounds_toArray, List.set_cons_succ, List.set_cons_zero] at haf
  subst haf
  refine ⟨?_, ?_⟩
  · simp only [List.toList_toArray, List.append_eq, List.cons_append, List.nil_append, EachTo]
    refine ⟨?_, ?_, ?_, ?_, ?_, ?_, ?_, ?_, ?_, ?_, ?_, ?_, ?_, ?_, ?_, ?_, ?_, ?_, ?_, ?_, ?_, ?_, ?_, ?_, ?_, ?_, ?_, ?_, ?_, ?_, ?_, ?_, ?_, ?_, ?_, ?_, ?_, ?_, ?_, ?_, ?_, trivial⟩
    · intro w' hS
      refine OpTo.plain ?_ ?_
      exact rfl
      have HS := Lib.hid hS
      clear hS
      go_wp2_with fail
      all_goals first | exact HS.out | exact ⟨rfl, HS.out⟩ | rfl | exact ⟨by omega, HS.out⟩
    · intro w' hS
      refine OpTo.plain ?_ ?_
      exact rfl
      have HS := Lib.hid hS
      clear hS
      go_wp2_with fail
      all_goals first | exact HS.out | exact ⟨rfl, HS.out⟩ | rfl | exact ⟨by omega, HS.out⟩
    · intro w' hS
      refine OpTo.plain ?_ ?_
      exact rfl
      have HS := Lib.hid hS
      clear hS
      go_wp2_with fail
      all_goals first | exact HS.out | exact ⟨rfl, HS.out⟩ | rfl | exact ⟨by omega, HS.out⟩
    · intro w' hS
      refine OpTo.plain ?_ ?_
      exact rfl
      have hlt := Nat.lt_of_lt_of_le HB.out hS.size
      have e0 := (hS.cell (p := ⟨b, o + i.toNat * 7, none⟩) HB.out).trans HX0.out
      have e1 := (hS.cell (p := ⟨b, o + i.toNat * 7 + 1, none⟩) HB.out).trans HX1.out
      have e2 := (hS.cell (p := ⟨b, o + i.toNat * 7 + 2, none⟩) HB.out).trans HX2.out
      have e3 := (hS.cell (p := ⟨b, o + i.toNat * 7 + 3, none⟩) HB.out).trans HX3.out
      have e4 := (hS.cell (p := ⟨b, o + i.toNat * 7 + 4, none⟩) HB.out).trans HX4.out
      have e5 := (hS.cell (p := ⟨b, o + i.toNat * 7 + 5, none⟩) HB.out).trans HX5.out
      have e6 := (hS.cell (p := ⟨b, o + i.toNat * 7 + 6, none⟩) HB.out).trans HX6.out
      have HS := Lib.hid hS
      clear hS
      go_wp2_with fail
      all_goals first | exact HS.out | exact ⟨rfl, HS.out⟩ | rfl | exact ⟨by omega, HS.out⟩
    · intro w' hS
      refine OpTo.plain ?_ ?_
      exact rfl
      have HS := Lib.hid hS
      clear hS
      go_wp2_with fail
      refine (CM.out w').mono ?_
      rintro e w'' ⟨rfl, hb2⟩
      exact ⟨rfl, andB HS.out hb2⟩
    · intro w' hS
      refine OpTo.plain ?_ ?_
      exact rfl
      have HS := Lib.hid hS
      clear hS
      go_wp2_with fail
      all_goals first | exact HS.out | exact ⟨rfl, HS.out⟩ | rfl | exact ⟨by omega, HS.out⟩
    · intro w' hS
      refine OpTo.plain ?_ ?_
      exact rfl
      have HS := Lib.hid hS
      clear hS
      go_wp2_with fail
      all_goals first | exact HS.out | exact ⟨rfl, HS.out⟩ | rfl | exact ⟨by omega, HS.out⟩
    · intro w' hS
      refine OpTo.wanted ?_ ?_
      kernel_rfl
      have HS := Lib.hid hS
      clear hS
      go_wp2_with fail
      all_goals first | exact HS.out | exact ⟨rfl, HS.out⟩ | rfl | exact ⟨by omega, HS.out⟩
    · intro w' hS
      refine OpTo.wanted ?_ ?_
      kernel_rfl
      have HS := Lib.hid hS
      clear hS
      go_wp2_with fail
      all_goals first | exact HS.out | exact ⟨rfl, HS.out⟩ | rfl | exact ⟨by omega, HS.out⟩
    · intro w' hS
      refine OpTo.wanted ?_ ?_
      kernel_rfl
      have HS := Lib.hid hS
      clear hS
      go_wp2_with fail
      all_goals first | exact HS.out | exact ⟨rfl, HS.out⟩ | rfl | exact ⟨by omega, HS.out⟩
    · intro w' hS
      refine OpTo.wanted ?_ ?_
      kernel_rfl
      have HS := Lib.hid hS
      clear hS
      go_wp2_with fail
      all_goals first | exact HS.out | exact ⟨rfl, HS.out⟩ | rfl | exact ⟨by omega, HS.out⟩
    · intro w' hS
      refine OpTo.wanted ?_ ?_
      kernel_rfl
      have hlt := Nat.lt_of_lt_of_le HB.out hS.size
      have e0 := (hS.cell (p := ⟨b, o + i.toNat * 7, none⟩) HB.out).trans HX0.out
      have e1 := (hS.cell (p := ⟨b, o + i.toNat * 7 + 1, none⟩) HB.out).trans HX1.out
      have e2 := (hS.cell (p := ⟨b, o + i.toNat * 7 + 2, none⟩) HB.out).trans HX2.out
      have e3 := (hS.cell (p := ⟨b, o + i.toNat * 7 + 3, none⟩) HB.out).trans HX3.out
      have e4 := (hS.cell (p := ⟨b, o + i.toNat * 7 + 4, none⟩) HB.out).trans HX4.out
      have e5 := (hS.cell (p := ⟨b, o + i.toNat * 7 + 5, none⟩) HB.out).trans HX5.out
      have e6 := (hS.cell (p := ⟨b, o + i.toNat * 7 + 6, none⟩) HB.out).trans HX6.out
      have HS := Lib.hid hS
      clear hS
      go_wp2_with fail
      all_goals first | exact HS.out | exact ⟨rfl, HS.out⟩ | rfl | exact ⟨by omega, HS.out⟩
    · intro w' hS
      refine OpTo.wanted ?_ ?_
      kernel_rfl
      have HS := Lib.hid hS
      clear hS
      go_wp2_with fail
      all_goals first | exact HS.out | exact ⟨rfl, HS.out⟩ | rfl | exact ⟨by omega, HS.out⟩
    · intro w' hS
      refine OpTo.plain ?_ ?_
      exact rfl
      have HS := Lib.hid hS
      clear hS
      go_wp2_with fail
      all_goals first | exact HS.out | exact ⟨rfl, HS.out⟩ | rfl | exact ⟨by omega, HS.out⟩
    · intro w' hS
      refine OpTo.plain ?_ ?_
      exact rfl
      have HS := Lib.hid hS
      clear hS
      go_wp2_with fail
      all_goals first | exact HS.out | exact ⟨rfl, HS.out⟩ | rfl | exact ⟨by omega, HS.out⟩
    · intro w' hS
      refine OpTo.passed (by kernel_rfl) rfl hS
    · intro w' hS
      refine OpTo.passed (by kernel_rfl) rfl hS
    · intro w' hS
      refine OpTo.passed (by kernel_rfl) rfl hS
    · intro w' hS
      refine OpTo.passed (by kernel_rfl) rfl hS
    · intro w' hS
      refine OpTo.passed (by kernel_rfl) rfl hS
    · intro w' hS
      refine OpTo.passed (by kernel_rfl) rfl hS
    · intro w' hS
      refine OpTo.passed (by kernel_rfl) rfl hS
    · intro w' hS
      refine OpTo.passed (by kernel_rfl) rfl hS
    · intro w' hS
      refine OpTo.passed (by kernel_rfl) rfl hS
    · intro w' hS
      refine OpTo.passed (by kernel_rfl) rfl hS
    · intro w' hS
      refine OpTo.passed (by kernel_rfl) rfl hS
    · intro w' hS
      refine OpTo.passed (by kernel_rfl) rfl hS
    · intro w' hS
      refine OpTo.passed (by kernel_rfl) rfl hS
    · intro w' hS
      refine OpTo.passed (by kernel_rfl) rfl hS
    · intro w' hS
      refine OpTo.passed (by kernel_rfl) rfl hS
    · intro w' hS
      refine OpTo.passed (by kernel_rfl) rfl hS
    · intro w' hS
      refine OpTo.plain ?_ ?_
      exact rfl
      have HS := Lib.hid hS
      clear hS
      go_wp2_with fail
      all_goals first | exact HS.out | exact ⟨rfl, HS.out⟩ | rfl | exact ⟨by omega, HS.out⟩
    · intro w' hS
      refine OpTo.plain ?_ ?_
      exact rfl
      have HS := Lib.hid hS
      clear hS
      go_wp2_with fail
      all_goals first | exact HS.out | exact ⟨rfl, HS.out⟩ | rfl | exact ⟨by omega, HS.out⟩
    · intro w' hS
      refine OpTo.passed (by kernel_rfl) rfl hS
    · intro w' hS
      refine OpTo.passed (by kernel_rfl) rfl hS
    · intro w' hS
      refine OpTo.passed (by kernel_rfl) rfl hS
    · intro w' hS
      refine OpTo.passed (by kernel_rfl) rfl hS
    · intro w' hS
      refine OpTo.passed (by kernel_rfl) rfl hS
    · intro w' hS
      refine OpTo.passed (by kernel_rfl) rfl hS
    · intro w' hS
      refine OpTo.passed (by kernel_rfl) rfl hS
    · intro w' hS
      refine OpTo.plain ?_ ?_
      exact rfl
      have HS := Lib.hid hS
      clear hS
      go_wp2_with fail
      all_goals first | exact HS.out | exact ⟨rfl, HS.out⟩ | rfl | exact ⟨by omega, HS.out⟩
  intro w6 b6
  exact HQ.out w6 b6
set_option maxHeartbeats 4000000 in
set_option maxRecDepth 100000 in
theorem bof_t3 {W : World} {b o n cap : Nat} {i nx : Int} {x y : Of} (HB : Hid (b < W.heap.size)) (HX0 : Hid (W.cell? ⟨b, o + i.toNat * 7, none⟩ = some (.int .u64 x.se))) (HX1 : Hid (W.cell? ⟨b, o + i.toNat * 7 + 1, none⟩ = some (.int .u8 x.ow))) (HX2 : Hid (W.cell? ⟨b, o + i.toNat * 7 + 2, none⟩ = some (.int .u8 x.sl))) (HX3 : Hid (W.cell? ⟨b, o + i.toNat * 7 + 3, none⟩ = some (.int .u8 x.bu))) (HX4 : Hid (W.cell? ⟨b, o + i.toNat * 7 + 4, none⟩ = some (.int .i64 x.lf))) (HX5 : Hid (W.cell? ⟨b, o + i.toNat * 7 + 5, none⟩ = some (.int .i64 x.nu))) (HX6 : Hid (W.cell? ⟨b, o + i.toNat * 7 + 6, none⟩ = some (.int .i64 x.de))) (i4 : 0 ≤ i) (i1 : i < (n : Int)) (hn : n ≤ 32) (CM : Hid (∀ w', Calls Try.prog 38 #[.agg #[.int .u64 x.se, .int .u8 x.ow, .int .u8 x.sl, .int .u8 x.bu, .int .i64 x.lf, .int .i64 x.nu, .int .i64 x.de]] w' fun e w'' => e = .returned (.bool true) ∧ Below w'.heap.size w' w'')) (c2 : (x.se == 0) = false) (s0 : decide (0 < i) = true) (HY : Hid (W.cell? ⟨b, o + (i.toNat - 1) * 7, none⟩ = some (.int .u64 y.se))) (i0 : 0 < i) (c3 : decide (x.se ≤ y.se) = true) {Q : Exit → Act → World → Prop} {c2 c3 c4 c5 c7 c8 c9 c10 c11 c12 c13 c14 c15 c16 c17 c18 c19 c20 c21 c22 c23 c24 c25 c26 c27 c28 c29 c30 c31 c32 c33 c34 c35 c36 c37 c38 c39 c40 c41 c42 c43 c44 c45 c46 c47 c48 c49 c50 c51 c52 c53 c54 c55 c56 c57 c58 c59 c60 c61 c62 c63 : Value}
    (hq : ∀ w6, (fun w' => Below W.heap.size W w') w6 → Q .normal ⟨#[(.slice (some ⟨b, o, none⟩) n cap), (.int .u64 nx), c2, c3, c4, c5, (.int .i64 i), c7, c8, c9, c10, c11, c12, c13, c14, c15, (.slice (some ⟨b, o, none⟩) n cap), (.int .i64 i), (.pointer (some ⟨b, o + i.toNat * 7, none⟩)), (.agg #[.int .u64 x.se, .int .u8 x.ow, .int .u8 x.sl, .int .u8 x.bu, .int .i64 x.lf, .int .i64 x.nu, .int .i64 x.de]), (.bool true), (.bool false), (.bool false), (.slice (some ⟨b, o, none⟩) n cap), (.int .i64 i), (.pointer (some ⟨b, o + i.toNat * 7, none⟩)), (.pointer (some ⟨b, o + i.toNat * 7, none⟩)), (.int .u64 x.se), (.bool false), (.bool false), (.bool false), (.int .i64 i), (.bool true), (.bool true), (.slice (some ⟨b, o, none⟩) n cap), (.int .i64 i), (.pointer (some ⟨b, o + i.toNat * 7, none⟩)), (.pointer (some ⟨b, o + i.toNat * 7, none⟩)), (.int .u64 x.se), (.slice (some ⟨b, o, none⟩) n cap), (.int .i64 i), (.int .i64 (i - 1)), (.pointer (some ⟨b, o + (i.toNat - 1) * 7, none⟩)), (.pointer (some ⟨b, o + (i.toNat - 1) * 7, none⟩)), (.int .u64 y.se), (.bool true), (.bool true), (.bool true), (.bool true), undef, undef, undef, undef, undef, undef, undef, (.bool true), c57, c58, c59, c60, c61, c62, c63], []⟩ w6) :
    Code.wp Try.prog (((Try.f13.body).bind (regionNo 6)).getD .skip) Q ⟨#[(.slice (some ⟨b, o, none⟩) n cap), (.int .u64 nx), c2, c3, c4, c5, (.int .i64 i), c7, c8, c9, c10, c11, c12, c13, c14, c15, c16, c17, c18, c19, c20, c21, c22, c23, c24, c25, c26, c27, c28, c29, c30, c31, c32, c33, c34, c35, c36, c37, c38, c39, c40, c41, c42, c43, c44, c45, c46, c47, c48, c49, c50, c51, c52, c53, c54, c55, c56, c57, c58, c59, c60, c61, c62, c63], []⟩ W := by
  conv => arg 2; whnf
  have HQ := Lib.hid hq
  clear hq
  refine region_still (by kernel_rfl) [(.slice (some ⟨b, o, none⟩) n cap), (.int .i64 i), (.pointer (some ⟨b, o + i.toNat * 7, none⟩)), (.agg #[.int .u64 x.se, .int .u8 x.ow, .int .u8 x.sl, .int .u8 x.bu, .int .i64 x.lf, .int .i64 x.nu, .int .i64 x.de]), (.bool true), (.bool false), (.bool false), (.slice (some ⟨b, o, none⟩) n cap), (.int .i64 i), (.pointer (some ⟨b, o + i.toNat * 7, none⟩)), (.pointer (some ⟨b, o + i.toNat * 7, none⟩)), (.int .u64 x.se), (.bool false), (.bool false), (.bool false), (.int .i64 i), (.bool true), (.bool true), (.slice (some ⟨b, o, none⟩) n cap), (.int .i64 i), (.pointer (some ⟨b, o + i.toNat * 7, none⟩)), (.pointer (some ⟨b, o + i.toNat * 7, none⟩)), (.int .u64 x.se), (.slice (some ⟨b, o, none⟩) n cap), (.int .i64 i), (.int .i64 (i - 1)), (.pointer (some ⟨b, o + (i.toNat - 1) * 7, none⟩)), (.pointer (some ⟨b, o + (i.toNat - 1) * 7, none⟩)), (.int .u64 y.se), (.bool true), (.bool true), (.bool true), (.bool true), undef, undef, undef, undef, undef, undef, undef, (.bool true)]
    (fun w' => Below W.heap.size W w') (by kernel_rfl) (Below.refl _ _).drew ?_
  intro af haf
  simp only [List.toList_toArray, List.append_eq, List.cons_append, List.nil_append, puts, Act.put, List.getD_cons_zero, List.getD_cons_succ, List.setIfInBounds_toArray, List.set_cons_succ, List.set_cons_zero] at haf
  subst haf
  refine ⟨?_, ?_⟩
  · simp only [List.toList_toArray, List.append_eq, List.cons_append, List.nil_append, EachTo]
    refine ⟨?_, ?_, ?_, ?_, ?_, ?_, ?_, ?_, ?_, ?_, ?_, ?_, ?_, ?_, ?_, ?_, ?_, ?_, ?_, ?_, ?_, ?_, ?_, ?_, ?_, ?_, ?_, ?_, ?_, ?_, ?_, ?_, ?_, ?_, ?_, ?_, ?_, ?_, ?_, ?_, ?_, trivial⟩
    · intro w' hS
      refine OpTo.plain ?_ ?_
      exact rfl
      have HS := Lib.hid hS
      clear hS
      go_wp2_with fail
      all_goals first | exact HS.out | exact ⟨rfl, HS.out⟩ | rfl | exact ⟨by omega, HS.out⟩
    · intro w' hS
      refine OpTo.plain ?_ ?_
      exact rfl
      have HS := Lib.hid hS
      clear hS
      go_wp2_with fail
      all_goals first | exact HS.out | exact ⟨rfl, HS.out⟩ | rfl | exact ⟨by omega, HS.out⟩
    · intro w' hS
      refine OpTo.plain ?_ ?_
      exact rfl
      have HS := Lib.hid hS
      clear hS
      go_wp2_with fail
      all_goals first | exact HS.out | exact ⟨rfl, HS.out⟩ | rfl | exact ⟨by omega, HS.out⟩
    · intro w' hS
      refine OpTo.plain ?_ ?_
      exact rfl
      have hlt := Nat.lt_of_lt_of_le HB.out hS.size
      have e0 := (hS.cell (p := ⟨b, o + i.toNat * 7, none⟩) HB.out).trans HX0.out
      have e1 := (hS.cell (p := ⟨b, o + i.toNat * 7 + 1, none⟩) HB.out).trans HX1.out
      have e2 := (hS.cell (p := ⟨b, o + i.toNat * 7 + 2, none⟩) HB.out).trans HX2.out
      have e3 := (hS.cell (p := ⟨b, o + i.toNat * 7 + 3, none⟩) HB.out).trans HX3.out
      have e4 := (hS.cell (p := ⟨b, o + i.toNat * 7 + 4, none⟩) HB.out).trans HX4.out
      have e5 := (hS.cell (p := ⟨b, o + i.toNat * 7 + 5, none⟩) HB.out).trans HX5.out
      have e6 := (hS.cell (p := ⟨b, o + i.toNat * 7 + 6, none⟩) HB.out).trans HX6.out
      have HS := Lib.hid hS
      clear hS
      go_wp2_with fail
      all_goals first | exact HS.out | exact ⟨rfl, HS.out⟩ | rfl | exact ⟨by omega, HS.out⟩
    · intro w' hS
      refine OpTo.plain ?_ ?_
      exact rfl
      have HS := Lib.hid hS
      clear hS
      go_wp2_with fail
      refine (CM.out w').mono ?_
      rintro e w'' ⟨rfl, hb2⟩
      exact ⟨rfl, andB HS.out hb2⟩
    · intro w' hS
      refine OpTo.plain ?_ ?_
      exact rfl
      have HS := Lib.hid hS
      clear hS
      go_wp2_with fail
      all_goals first | exact HS.out | exact ⟨rfl, HS.out⟩ | rfl | exact ⟨by omega, HS.out⟩
    · intro w' hS
      refine OpTo.plain ?_ ?_
      exact rfl
      have HS := Lib.hid hS
      clear hS
      go_wp2_with fail
      all_goals first | exact HS.out | exact ⟨rfl, HS.out⟩ | rfl | exact ⟨by omega, HS.out⟩
    · intro w' hS
      refine OpTo.wanted ?_ ?_
      kernel_rfl
      have HS := Lib.hid hS
      clear hS
      go_wp2_with fail
      all_goals first | exact HS.out | exact ⟨rfl, HS.out⟩ | rfl | exact ⟨by omega, HS.out⟩
    · intro w' hS
      refine OpTo.wanted ?_ ?_
      kernel_rfl
      have HS := Lib.hid hS
      clear hS
      go_wp2_with fail
      all_goals first | exact HS.out | exact ⟨rfl, HS.out⟩ | rfl | exact ⟨by omega, HS.out⟩
    · intro w' hS
      refine OpTo.wanted ?_ ?_
      kernel_rfl
      have HS := Lib.hid hS
      clear hS
      go_wp2_with fail
      all_goals first | exact HS.out | exact ⟨rfl, HS.out⟩ | rfl | exact ⟨by omega, HS.out⟩
    · intro w' hS
      refine OpTo.wanted ?_ ?_
      kernel_rfl
      have HS := Lib.hid hS
      clear hS
      go_wp2_with fail
      all_goals first | exact HS.out | exact ⟨rfl, HS.out⟩ | rfl | exact ⟨by omega, HS.out⟩
    · intro w' hS
      refine OpTo.wanted ?_ ?_
      kernel_rfl
      have hlt := Nat.lt_of_lt_of_le HB.out hS.size
      have e0 := (hS.cell (p := ⟨b, o + i.toNat * 7, none⟩) HB.out).trans HX0.out
      have e1 := (hS.cell (p := ⟨b, o + i.toNat * 7 + 1, none⟩) HB.out).trans HX1.out
      have e2 := (hS.cell (p := ⟨b, o + i.toNat * 7 + 2, none⟩) HB.out).trans HX2.out
      have e3 := (hS.cell (p := ⟨b, o + i.toNat * 7 + 3, none⟩) HB.out).trans HX3.out
      have e4 := (hS.cell (p := ⟨b, o + i.toNat * 7 + 4, none⟩) HB.out).trans HX4.out
      have e5 := (hS.cell (p := ⟨b, o + i.toNat * 7 + 5, none⟩) HB.out).trans HX5.out
      have e6 := (hS.cell (p := ⟨b, o + i.toNat * 7 + 6, none⟩) HB.out).trans HX6.out
      have HS := Lib.hid hS
      clear hS
      go_wp2_with fail
      all_goals first | exact HS.out | exact ⟨rfl, HS.out⟩ | rfl | exact ⟨by omega, HS.out⟩
    · intro w' hS
      refine OpTo.wanted ?_ ?_
      kernel_rfl
      have HS := Lib.hid hS
      clear hS
      go_wp2_with fail
      all_goals first | exact HS.out | exact ⟨rfl, HS.out⟩ | rfl | exact ⟨by omega, HS.out⟩
    · intro w' hS
      refine OpTo.plain ?_ ?_
      exact rfl
      have HS := Lib.hid hS
      clear hS
      go_wp2_with fail
      all_goals first | exact HS.out | exact ⟨rfl, HS.out⟩ | rfl | exact ⟨by omega, HS.out⟩
    · intro w' hS
      refine OpTo.plain ?_ ?_
      exact rfl
      have HS := Lib.hid hS
      clear hS
      go_wp2_with fail
      all_goals first | exact HS.out | exact ⟨rfl, HS.out⟩ | rfl | exact ⟨by omega, HS.out⟩
    · intro w' hS
      refine OpTo.wanted ?_ ?_
      kernel_rfl
      have HS := Lib.hid hS
      clear hS
      go_wp2_with fail
      all_goals first | exact HS.out | exact ⟨rfl, HS.out⟩ | rfl | exact ⟨by omega, HS.out⟩
    · intro w' hS
      refine OpTo.wanted ?_ ?_
      kernel_rfl
      have HS := Lib.hid hS
      clear hS
      go_wp2_with fail
      all_goals first | exact HS.out | exact ⟨rfl, HS.out⟩ | rfl | exact ⟨by omega, HS.out⟩
    · intro w' hS
      refine OpTo.wanted ?_ ?_
      kernel_rfl
      have HS := Lib.hid hS
      clear hS
      go_wp2_with fail
      all_goals first | exact HS.out | exact ⟨rfl, HS.out⟩ | rfl | exact ⟨by omega, HS.out⟩
    · intro w' hS
      refine OpTo.wanted ?_ ?_
      kernel_rfl
      have HS := Lib.hid hS
      clear hS
      go_wp2_with fail
      all_goals first | exact HS.out | exact ⟨rfl, HS.out⟩ | rfl | exact ⟨by omega, HS.out⟩
    · intro w' hS
      refine OpTo.wanted ?_ ?_
      kernel_rfl
      have HS := Lib.hid hS
      clear hS
      go_wp2_with fail
      all_goals first | exact HS.out | exact ⟨rfl, HS.out⟩ | rfl | exact ⟨by omega, HS.out⟩
    · intro w' hS
      refine OpTo.wanted ?_ ?_
      kernel_rfl
      have HS := Lib.hid hS
      clear hS
      go_wp2_with fail
      all_goals first | exact HS.out | exact ⟨rfl, HS.out⟩ | rfl | exact ⟨by omega, HS.out⟩
    · intro w' hS
      refine OpTo.wanted ?_ ?_
      kernel_rfl
      have HS := Lib.hid hS
      clear hS
      go_wp2_with fail
      all_goals first | exact HS.out | exact ⟨rfl, HS.out⟩ | rfl | exact ⟨by omega, HS.out⟩
    · intro w' hS
      refine OpTo.wanted ?_ ?_
      kernel_rfl
      have hlt := Nat.lt_of_lt_of_le HB.out hS.size
      have e0 := (hS.cell (p := ⟨b, o + i.toNat * 7, none⟩) HB.out).trans HX0.out
      have e1 := (hS.cell (p := ⟨b, o + i.toNat * 7 + 1, none⟩) HB.out).trans HX1.out
      have e2 := (hS.cell (p := ⟨b, o + i.toNat * 7 + 2, none⟩) HB.out).trans HX2.out
      have e3 := (hS.cell (p := ⟨b, o + i.toNat * 7 + 3, none⟩) HB.out).trans HX3.out
      have e4 := (hS.cell (p := ⟨b, o + i.toNat * 7 + 4, none⟩) HB.out).trans HX4.out
      have e5 := (hS.cell (p := ⟨b, o + i.toNat * 7 + 5, none⟩) HB.out).trans HX5.out
      have e6 := (hS.cell (p := ⟨b, o + i.toNat * 7 + 6, none⟩) HB.out).trans HX6.out
      have HS := Lib.hid hS
      clear hS
      go_wp2_with fail
      all_goals first | exact HS.out | exact ⟨rfl, HS.out⟩ | rfl | exact ⟨by omega, HS.out⟩
    · intro w' hS
      refine OpTo.wanted ?_ ?_
      kernel_rfl
      have HS := Lib.hid hS
      clear hS
      go_wp2_with fail
      all_goals first | exact HS.out | exact ⟨rfl, HS.out⟩ | rfl | exact ⟨by omega, HS.out⟩
    · intro w' hS
      refine OpTo.wanted ?_ ?_
      kernel_rfl
      have HS := Lib.hid hS
      clear hS
      go_wp2_with fail
      all_goals first | exact HS.out | exact ⟨rfl, HS.out⟩ | rfl | exact ⟨by omega, HS.out⟩
    · intro w' hS
      refine OpTo.wanted ?_ ?_
      kernel_rfl
      have HS := Lib.hid hS
      clear hS
      go_wp2_with fail
      all_goals first | exact HS.out | exact ⟨rfl, HS.out⟩ | rfl | exact ⟨by omega, HS.out⟩
    · intro w' hS
      refine OpTo.wanted ?_ ?_
      kernel_rfl
      have HS := Lib.hid hS
      clear hS
      go_wp2_with fail
      all_goals first | exact HS.out | exact ⟨rfl, HS.out⟩ | rfl | exact ⟨by omega, HS.out⟩
    · intro w' hS
      refine OpTo.wanted ?_ ?_
      kernel_rfl
      have HS := Lib.hid hS
      clear hS
      go_wp2_with fail
      all_goals first | exact HS.out | exact ⟨rfl, HS.out⟩ | rfl | exact ⟨by omega, HS.out⟩
    · intro w' hS
      refine OpTo.wanted ?_ ?_
      kernel_rfl
      have hlt := Nat.lt_of_lt_of_le HB.out hS.size
      have e0 := (hS.cell (p := ⟨b, o + (i.toNat - 1) * 7, none⟩) HB.out).trans HY.out
      have HS := Lib.hid hS
      clear hS
      go_wp2_with fail
      all_goals first | exact HS.out | exact ⟨rfl, HS.out⟩ | rfl | exact ⟨by omega, HS.out⟩
    · intro w' hS
      refine OpTo.wanted ?_ ?_
      kernel_rfl
      have HS := Lib.hid hS
      clear hS
      go_wp2_with fail
      all_goals first | exact HS.out | exact ⟨rfl, HS.out⟩ | rfl | exact ⟨by omega, HS.out⟩
    · intro w' hS
      refine OpTo.wanted ?_ ?_
      kernel_rfl
      have HS := Lib.hid hS
      clear hS
      go_wp2_with fail
      all_goals first | exact HS.out | exact ⟨rfl, HS.out⟩ | rfl | exact ⟨by omega, HS.out⟩
    · intro w' hS
      refine OpTo.plain ?_ ?_
      exact rfl
      have HS := Lib.hid hS
      clear hS
      go_wp2_with fail
      all_goals first | exact HS.out | exact ⟨rfl, HS.out⟩ | rfl | exact ⟨by omega, HS.out⟩
    · intro w' hS
      refine OpTo.plain ?_ ?_
      exact rfl
      have HS := Lib.hid hS
      clear hS
      go_wp2_with fail
      all_goals first | exact HS.out | exact ⟨rfl, HS.out⟩ | rfl | exact ⟨by omega, HS.out⟩
    · intro w' hS
      refine OpTo.passed (by kernel_rfl) rfl hS
    · intro w' hS
      refine OpTo.passed (by kernel_rfl) rfl hS
    · intro w' hS
      refine OpTo.passed (by kernel_rfl) rfl hS
    · intro w' hS
      refine OpTo.passed (by kernel_rfl) rfl hS
    · intro w' hS
      refine OpTo.passed (by kernel_rfl) rfl hS
    · intro w' hS
      refine OpTo.passed (by kernel_rfl) rfl hS
    · intro w' hS
      refine OpTo.passed (by kernel_rfl) rfl hS
    · intro w' hS
      refine OpTo.plain ?_ ?_
      exact rfl
      have HS := Lib.hid hS
      clear hS
      go_wp2_with fail
      all_goals first | exact HS.out | exact ⟨rfl, HS.out⟩ | rfl | exact ⟨by omega, HS.out⟩
  intro w6 b6
  exact HQ.out w6 b6
set_option maxHeartbeats 4000000 in
set_option maxRecDepth 100000 in
theorem bof_t4 {W : World} {b o n cap : Nat} {i nx : Int} {x y : Of} (HB : Hid (b < W.heap.size)) (HX0 : Hid (W.cell? ⟨b, o + i.toNat * 7, none⟩ = some (.int .u64 x.se))) (HX1 : Hid (W.cell? ⟨b, o + i.toNat * 7 + 1, none⟩ = some (.int .u8 x.ow))) (HX2 : Hid (W.cell? ⟨b, o + i.toNat * 7 + 2, none⟩ = some (.int .u8 x.sl))) (HX3 : Hid (W.cell? ⟨b, o + i.toNat * 7 + 3, none⟩ = some (.int .u8 x.bu))) (HX4 : Hid (W.cell? ⟨b, o + i.toNat * 7 + 4, none⟩ = some (.int .i64 x.lf))) (HX5 : Hid (W.cell? ⟨b, o + i.toNat * 7 + 5, none⟩ = some (.int .i64 x.nu))) (HX6 : Hid (W.cell? ⟨b, o + i.toNat * 7 + 6, none⟩ = some (.int .i64 x.de))) (i4 : 0 ≤ i) (i1 : i < (n : Int)) (hn : n ≤ 32) (CM : Hid (∀ w', Calls Try.prog 38 #[.agg #[.int .u64 x.se, .int .u8 x.ow, .int .u8 x.sl, .int .u8 x.bu, .int .i64 x.lf, .int .i64 x.nu, .int .i64 x.de]] w' fun e w'' => e = .returned (.bool true) ∧ Below w'.heap.size w' w'')) (c2 : (x.se == 0) = false) (s0 : decide (0 < i) = true) (HY : Hid (W.cell? ⟨b, o + (i.toNat - 1) * 7, none⟩ = some (.int .u64 y.se))) (i0 : 0 < i) (c3 : decide (x.se ≤ y.se) = false) (c4 : decide (nx ≤ x.se) = true) {Q : Exit → Act → World → Prop} {c2 c3 c4 c5 c7 c8 c9 c10 c11 c12 c13 c14 c15 c16 c17 c18 c19 c20 c21 c22 c23 c24 c25 c26 c27 c28 c29 c30 c31 c32 c33 c34 c35 c36 c37 c38 c39 c40 c41 c42 c43 c44 c45 c46 c47 c48 c49 c50 c51 c52 c53 c54 c55 c56 c57 c58 c59 c60 c61 c62 c63 : Value}
    (hq : ∀ w6, (fun w' => Below W.heap.size W w') w6 → Q .normal ⟨#[(.slice (some ⟨b, o, none⟩) n cap), (.int .u64 nx), c2, c3, c4, c5, (.int .i64 i), c7, c8, c9, c10, c11, c12, c13, c14, c15, (.slice (some ⟨b, o, none⟩) n cap), (.int .i64 i), (.pointer (some ⟨b, o + i.toNat * 7, none⟩)), (.agg #[.int .u64 x.se, .int .u8 x.ow, .int .u8 x.sl, .int .u8 x.bu, .int .i64 x.lf, .int .i64 x.nu, .int .i64 x.de]), (.bool true), (.bool false), (.bool false), (.slice (some ⟨b, o, none⟩) n cap), (.int .i64 i), (.pointer (some ⟨b, o + i.toNat * 7, none⟩)), (.pointer (some ⟨b, o + i.toNat * 7, none⟩)), (.int .u64 x.se), (.bool false), (.bool false), (.bool false), (.int .i64 i), (.bool true), (.bool true), (.slice (some ⟨b, o, none⟩) n cap), (.int .i64 i), (.pointer (some ⟨b, o + i.toNat * 7, none⟩)), (.pointer (some ⟨b, o + i.toNat * 7, none⟩)), (.int .u64 x.se), (.slice (some ⟨b, o, none⟩) n cap), (.int .i64 i), (.int .i64 (i - 1)), (.pointer (some ⟨b, o + (i.toNat - 1) * 7, none⟩)), (.pointer (some ⟨b, o + (i.toNat - 1) * 7, none⟩)), (.int .u64 y.se), (.bool false), (.bool false), (.bool false), (.bool false), (.slice (some ⟨b, o, none⟩) n cap), (.int .i64 i), (.pointer (some ⟨b, o + i.toNat * 7, none⟩)), (.pointer (some ⟨b, o + i.toNat * 7, none⟩)), (.int .u64 x.se), (.int .u64 nx), (.bool true), (.bool true), c57, c58, c59, c60, c61, c62, c63], []⟩ w6) :
    Code.wp Try.prog (((Try.f13.body).bind (regionNo 6)).getD .skip) Q ⟨#[(.slice (some ⟨b, o, none⟩) n cap), (.int .u64 nx), c2, c3, c4, c5, (.int .i64 i), c7, c8, c9, c10, c11, c12, c13, c14, c15, c16, c17, c18, c19, c20, c21, c22, c23, c24, c25, c26, c27, c28, c29, c30, c31, c32, c33, c34, c35, c36, c37, c38, c39, c40, c41, c42, c43, c44, c45, c46, c47, c48, c49, c50, c51, c52, c53, c54, c55, c56, c57, c58, c59, c60, c61, c62, c63], []⟩ W := by
  conv => arg 2; whnf
  have HQ := Lib.hid hq
  clear hq
  refine region_still (by kernel_rfl) [(.slice (some ⟨b, o, none⟩) n cap), (.int .i64 i), (.pointer (some ⟨b, o + i.toNat * 7, none⟩)), (.agg #[.int .u64 x.se, .int .u8 x.ow, .int .u8 x.sl, .int .u8 x.bu, .int .i64 x.lf, .int .i64 x.nu, .int .i64 x.de]), (.bool true), (.bool false), (.bool false), (.slice (some ⟨b, o, none⟩) n cap), (.int .i64 i), (.pointer (some ⟨b, o + i.toNat * 7, none⟩)), (.pointer (some ⟨b, o + i.toNat * 7, none⟩)), (.int .u64 x.se), (.bool false), (.bool false), (.bool false), (.int .i64 i), (.bool true), (.bool true), (.slice (some ⟨b, o, none⟩) n cap), (.int .i64 i), (.pointer (some ⟨b, o + i.toNat * 7, none⟩)), (.pointer (some ⟨b, o + i.toNat * 7, none⟩)), (.int .u64 x.se), (.slice (some ⟨b, o, none⟩) n cap), (.int .i64 i), (.int .i64 (i - 1)), (.pointer (some ⟨b, o + (i.toNat - 1) * 7, none⟩)), (.pointer (some ⟨b, o + (i.toNat - 1) * 7, none⟩)), (.int .u64 y.se), (.bool false), (.bool false), (.bool false), (.bool false), (.slice (some ⟨b, o, none⟩) n cap), (.int .i64 i), (.pointer (some ⟨b, o + i.toNat * 7, none⟩)), (.pointer (some ⟨b, o + i.toNat * 7, none⟩)), (.int .u64 x.se), (.int .u64 nx), (.bool true), (.bool true)]
    (fun w' => Below W.heap.size W w') (by kernel_rfl) (Below.refl _ _).drew ?_
  intro af haf
  simp only [List.toList_toArray, List.append_eq, List.cons_append, List.nil_append, puts, Act.put, List.getD_cons_zero, List.getD_cons_succ, List.setIfInBounds_toArray, List.set_cons_succ, List.set_cons_zero] at haf
  subst haf
  refine ⟨?_, ?_⟩
  · simp only [List.toList_toArray, List.append_eq, List.cons_append, List.nil_append, EachTo]
    refine ⟨?_, ?_, ?_, ?_, ?_, ?_, ?_, ?_, ?_, ?_, ?_, ?_, ?_, ?_, ?_, ?_, ?_, ?_, ?_, ?_, ?_, ?_, ?_, ?_, ?_, ?_, ?_, ?_, ?_, ?_, ?_, ?_, ?_, ?_, ?_, ?_, ?_, ?_, ?_, ?_, ?_, trivial⟩
    · intro w' hS
      refine OpTo.plain ?_ ?_
      exact rfl
      have HS := Lib.hid hS
      clear hS
      go_wp2_with fail
      all_goals first | exact HS.out | exact ⟨rfl, HS.out⟩ | rfl | exact ⟨by omega, HS.out⟩
    · intro w' hS
      refine OpTo.plain ?_ ?_
      exact rfl
      have HS := Lib.hid hS
      clear hS
      go_wp2_with fail
      all_goals first | exact HS.out | exact ⟨rfl, HS.out⟩ | rfl | exact ⟨by omega, HS.out⟩
    · intro w' hS
      refine OpTo.plain ?_ ?_
      exact rfl
      have HS := Lib.hid hS
      clear hS
      go_wp2_with fail
      all_goals first | exact HS.out | exact ⟨rfl, HS.out⟩ | rfl | exact ⟨by omega, HS.out⟩
    · intro w' hS
      refine OpTo.plain ?_ ?_
      exact rfl
      have hlt := Nat.lt_of_lt_of_le HB.out hS.size
      have e0 := (hS.cell (p := ⟨b, o + i.toNat * 7, none⟩) HB.out).trans HX0.out
      have e1 := (hS.cell (p := ⟨b, o + i.toNat * 7 + 1, none⟩) HB.out).trans HX1.out
      have e2 := (hS.cell (p := ⟨b, o + i.toNat * 7 + 2, none⟩) HB.out).trans HX2.out
      have e3 := (hS.cell (p := ⟨b, o + i.toNat * 7 + 3, none⟩) HB.out).trans HX3.out
      have e4 := (hS.cell (p := ⟨b, o + i.toNat * 7 + 4, none⟩) HB.out).trans HX4.out
      have e5 := (hS.cell (p := ⟨b, o + i.toNat * 7 + 5, none⟩) HB.out).trans HX5.out
      have e6 := (hS.cell (p := ⟨b, o + i.toNat * 7 + 6, none⟩) HB.out).trans HX6.out
      have HS := Lib.hid hS
      clear hS
      go_wp2_with fail
      all_goals first | exact HS.out | exact ⟨rfl, HS.out⟩ | rfl | exact ⟨by omega, HS.out⟩
    · intro w' hS
      refine OpTo.plain ?_ ?_
      exact rfl
      have HS := Lib.hid hS
      clear hS
      go_wp2_with fail
      refine (CM.out w').mono ?_
      rintro e w'' ⟨rfl, hb2⟩
      exact ⟨rfl, andB HS.out hb2⟩
    · intro w' hS
      refine OpTo.plain ?_ ?_
      exact rfl
      have HS := Lib.hid hS
      clear hS
      go_wp2_with fail
      all_goals first | exact HS.out | exact ⟨rfl, HS.out⟩ | rfl | exact ⟨by omega, HS.out⟩
    · intro w' hS
      refine OpTo.plain ?_ ?_
      exact rfl
      have HS := Lib.hid hS
      clear hS
      go_wp2_with fail
      all_goals first | exact HS.out | exact ⟨rfl, HS.out⟩ | rfl | exact ⟨by omega, HS.out⟩
    · intro w' hS
      refine OpTo.wanted ?_ ?_
      kernel_rfl
      have HS := Lib.hid hS
      clear hS
      go_wp2_with fail
      all_goals first | exact HS.out | exact ⟨rfl, HS.out⟩ | rfl | exact ⟨by omega, HS.out⟩
    · intro w' hS
      refine OpTo.wanted ?_ ?_
      kernel_rfl
      have HS := Lib.hid hS
      clear hS
      go_wp2_with fail
      all_goals first | exact HS.out | exact ⟨rfl, HS.out⟩ | rfl | exact ⟨by omega, HS.out⟩
    · intro w' hS
      refine OpTo.wanted ?_ ?_
      kernel_rfl
      have HS := Lib.hid hS
      clear hS
      go_wp2_with fail
      all_goals first | exact HS.out | exact ⟨rfl, HS.out⟩ | rfl | exact ⟨by omega, HS.out⟩
    · intro w' hS
      refine OpTo.wanted ?_ ?_
      kernel_rfl
      have HS := Lib.hid hS
      clear hS
      go_wp2_with fail
      all_goals first | exact HS.out | exact ⟨rfl, HS.out⟩ | rfl | exact ⟨by omega, HS.out⟩
    · intro w' hS
      refine OpTo.wanted ?_ ?_
      kernel_rfl
      have hlt := Nat.lt_of_lt_of_le HB.out hS.size
      have e0 := (hS.cell (p := ⟨b, o + i.toNat * 7, none⟩) HB.out).trans HX0.out
      have e1 := (hS.cell (p := ⟨b, o + i.toNat * 7 + 1, none⟩) HB.out).trans HX1.out
      have e2 := (hS.cell (p := ⟨b, o + i.toNat * 7 + 2, none⟩) HB.out).trans HX2.out
      have e3 := (hS.cell (p := ⟨b, o + i.toNat * 7 + 3, none⟩) HB.out).trans HX3.out
      have e4 := (hS.cell (p := ⟨b, o + i.toNat * 7 + 4, none⟩) HB.out).trans HX4.out
      have e5 := (hS.cell (p := ⟨b, o + i.toNat * 7 + 5, none⟩) HB.out).trans HX5.out
      have e6 := (hS.cell (p := ⟨b, o + i.toNat * 7 + 6, none⟩) HB.out).trans HX6.out
      have HS := Lib.hid hS
      clear hS
      go_wp2_with fail
      all_goals first | exact HS.out | exact ⟨rfl, HS.out⟩ | rfl | exact ⟨by omega, HS.out⟩
    · intro w' hS
      refine OpTo.wanted ?_ ?_
      kernel_rfl
      have HS := Lib.hid hS
      clear hS
      go_wp2_with fail
      all_goals first | exact HS.out | exact ⟨rfl, HS.out⟩ | rfl | exact ⟨by omega, HS.out⟩
    · intro w' hS
      refine OpTo.plain ?_ ?_
      exact rfl
      have HS := Lib.hid hS
      clear hS
      go_wp2_with fail
      all_goals first | exact HS.out | exact ⟨rfl, HS.out⟩ | rfl | exact ⟨by omega, HS.out⟩
    · intro w' hS
      refine OpTo.plain ?_ ?_
      exact rfl
      have HS := Lib.hid hS
      clear hS
      go_wp2_with fail
      all_goals first | exact HS.out | exact ⟨rfl, HS.out⟩ | rfl | exact ⟨by omega, HS.out⟩
    · intro w' hS
      refine OpTo.wanted ?_ ?_
      kernel_rfl
      have HS := Lib.hid hS
      clear hS
      go_wp2_with fail
      all_goals first | exact HS.out | exact ⟨rfl, HS.out⟩ | rfl | exact ⟨by omega, HS.out⟩
    · intro w' hS
      refine OpTo.wanted ?_ ?_
      kernel_rfl
      have HS := Lib.hid hS
      clear hS
      go_wp2_with fail
      all_goals first | exact HS.out | exact ⟨rfl, HS.out⟩ | rfl | exact ⟨by omega, HS.out⟩
    · intro w' hS
      refine OpTo.wanted ?_ ?_
      kernel_rfl
      have HS := Lib.hid hS
      clear hS
      go_wp2_with fail
      all_goals first | exact HS.out | exact ⟨rfl, HS.out⟩ | rfl | exact ⟨by omega, HS.out⟩
    · intro w' hS
      refine OpTo.wanted ?_ ?_
      kernel_rfl
      have HS := Lib.hid hS
      clear hS
      go_wp2_with fail
      all_goals first | exact HS.out | exact ⟨rfl, HS.out⟩ | rfl | exact ⟨by omega, HS.out⟩
    · intro w' hS
      refine OpTo.wanted ?_ ?_
      kernel_rfl
      have HS := Lib.hid hS
      clear hS
      go_wp2_with fail
      all_goals first | exact HS.out | exact ⟨rfl, HS.out⟩ | rfl | exact ⟨by omega, HS.out⟩
    · intro w' hS
      refine OpTo.wanted ?_ ?_
      kernel_rfl
      have HS := Lib.hid hS
      clear hS
      go_wp2_with fail
      all_goals first | exact HS.out | exact ⟨rfl, HS.out⟩ | rfl | exact ⟨by omega, HS.out⟩
    · intro w' hS
      refine OpTo.wanted ?_ ?_
      kernel_rfl
      have HS := Lib.hid hS
      clear hS
      go_wp2_with fail
      all_goals first | exact HS.out | exact ⟨rfl, HS.out⟩ | rfl | exact ⟨by omega, HS.out⟩
    · intro w' hS
      refine OpTo.wanted ?_ ?_
      kernel_rfl
      have hlt := Nat.lt_of_lt_of_le HB.out hS.size
      have e0 := (hS.cell (p := ⟨b, o + i.toNat * 7, none⟩) HB.out).trans HX0.out
      have e1 := (hS.cell (p := ⟨b, o + i.toNat * 7 + 1, none⟩) HB.out).trans HX1.out
      have e2 := (hS.cell (p := ⟨b, o + i.toNat * 7 + 2, none⟩) HB.out).trans HX2.out
      have e3 := (hS.cell (p := ⟨b, o + i.toNat * 7 + 3, none⟩) HB.out).trans HX3.out
      have e4 := (hS.cell (p := ⟨b, o + i.toNat * 7 + 4, none⟩) HB.out).trans HX4.out
      have e5 := (hS.cell (p := ⟨b, o + i.toNat * 7 + 5, none⟩) HB.out).trans HX5.out
      have e6 := (hS.cell (p := ⟨b, o + i.toNat * 7 + 6, none⟩) HB.out).trans HX6.out
      have HS := Lib.hid hS
      clear hS
      go_wp2_with fail
      all_goals first | exact HS.out | exact ⟨rfl, HS.out⟩ | rfl | exact ⟨by omega, HS.out⟩
    · intro w' hS
      refine OpTo.wanted ?_ ?_
      kernel_rfl
      have HS := Lib.hid hS
      clear hS
      go_wp2_with fail
      all_goals first | exact HS.out | exact ⟨rfl, HS.out⟩ | rfl | exact ⟨by omega, HS.out⟩
    · intro w' hS
      refine OpTo.wanted ?_ ?_
      kernel_rfl
      have HS := Lib.hid hS
      clear hS
      go_wp2_with fail
      all_goals first | exact HS.out | exact ⟨rfl, HS.out⟩ | rfl | exact ⟨by omega, HS.out⟩
    · intro w' hS
      refine OpTo.wanted ?_ ?_
      kernel_rfl
      have HS := Lib.hid hS
      clear hS
      go_wp2_with fail
      all_goals first | exact HS.out | exact ⟨rfl, HS.out⟩ | rfl | exact ⟨by omega, HS.out⟩
    · intro w' hS
      refine OpTo.wanted ?_ ?_
      kernel_rfl
      have HS := Lib.hid hS
      clear hS
      go_wp2_with fail
      all_goals first | exact HS.out | exact ⟨rfl, HS.out⟩ | rfl | exact ⟨by omega, HS.out⟩
    · intro w' hS
      refine OpTo.wanted ?_ ?_
      kernel_rfl
      have HS := Lib.hid hS
      clear hS
      go_wp2_with fail
      all_goals first | exact HS.out | exact ⟨rfl, HS.out⟩ | rfl | exact ⟨by omega, HS.out⟩
    · intro w' hS
      refine OpTo.wanted ?_ ?_
      kernel_rfl
      have hlt := Nat.lt_of_lt_of_le HB.out hS.size
      have e0 := (hS.cell (p := ⟨b, o + (i.toNat - 1) * 7, none⟩) HB.out).trans HY.out
      have HS := Lib.hid hS
      clear hS
      go_wp2_with fail
      all_goals first | exact HS.out | exact ⟨rfl, HS.out⟩ | rfl | exact ⟨by omega, HS.out⟩
    · intro w' hS
      refine OpTo.wanted ?_ ?_
      kernel_rfl
      have HS := Lib.hid hS
      clear hS
      go_wp2_with fail
      all_goals first | exact HS.out | exact ⟨rfl, HS.out⟩ | rfl | exact ⟨by omega, HS.out⟩
    · intro w' hS
      refine OpTo.wanted ?_ ?_
      kernel_rfl
      have HS := Lib.hid hS
      clear hS
      go_wp2_with fail
      all_goals first | exact HS.out | exact ⟨rfl, HS.out⟩ | rfl | exact ⟨by omega, HS.out⟩
    · intro w' hS
      refine OpTo.plain ?_ ?_
      exact rfl
      have HS := Lib.hid hS
      clear hS
      go_wp2_with fail
      all_goals first | exact HS.out | exact ⟨rfl, HS.out⟩ | rfl | exact ⟨by omega, HS.out⟩
    · intro w' hS
      refine OpTo.plain ?_ ?_
      exact rfl
      have HS := Lib.hid hS
      clear hS
      go_wp2_with fail
      all_goals first | exact HS.out | exact ⟨rfl, HS.out⟩ | rfl | exact ⟨by omega, HS.out⟩
    · intro w' hS
      refine OpTo.wanted ?_ ?_
      kernel_rfl
      have HS := Lib.hid hS
      clear hS
      go_wp2_with fail
      all_goals first | exact HS.out | exact ⟨rfl, HS.out⟩ | rfl | exact ⟨by omega, HS.out⟩
    · intro w' hS
      refine OpTo.wanted ?_ ?_
      kernel_rfl
      have HS := Lib.hid hS
      clear hS
      go_wp2_with fail
      all_goals first | exact HS.out | exact ⟨rfl, HS.out⟩ | rfl | exact ⟨by omega, HS.out⟩
    · intro w' hS
      refine OpTo.wanted ?_ ?_
      kernel_rfl
      have HS := Lib.hid hS
      clear hS
      go_wp2_with fail
      all_goals first | exact HS.out | exact ⟨rfl, HS.out⟩ | rfl | exact ⟨by omega, HS.out⟩
    · intro w' hS
      refine OpTo.wanted ?_ ?_
      kernel_rfl
      have HS := Lib.hid hS
      clear hS
      go_wp2_with fail
      all_goals first | exact HS.out | exact ⟨rfl, HS.out⟩ | rfl | exact ⟨by omega, HS.out⟩
    · intro w' hS
      refine OpTo.wanted ?_ ?_
      kernel_rfl
      have hlt := Nat.lt_of_lt_of_le HB.out hS.size
      have e0 := (hS.cell (p := ⟨b, o + i.toNat * 7, none⟩) HB.out).trans HX0.out
      have e1 := (hS.cell (p := ⟨b, o + i.toNat * 7 + 1, none⟩) HB.out).trans HX1.out
      have e2 := (hS.cell (p := ⟨b, o + i.toNat * 7 + 2, none⟩) HB.out).trans HX2.out
      have e3 := (hS.cell (p := ⟨b, o + i.toNat * 7 + 3, none⟩) HB.out).trans HX3.out
      have e4 := (hS.cell (p := ⟨b, o + i.toNat * 7 + 4, none⟩) HB.out).trans HX4.out
      have e5 := (hS.cell (p := ⟨b, o + i.toNat * 7 + 5, none⟩) HB.out).trans HX5.out
      have e6 := (hS.cell (p := ⟨b, o + i.toNat * 7 + 6, none⟩) HB.out).trans HX6.out
      have HS := Lib.hid hS
      clear hS
      go_wp2_with fail
      all_goals first | exact HS.out | exact ⟨rfl, HS.out⟩ | rfl | exact ⟨by omega, HS.out⟩
    · intro w' hS
      refine OpTo.wanted ?_ ?_
      kernel_rfl
      have HS := Lib.hid hS
      clear hS
      go_wp2_with fail
      all_goals first | exact HS.out | exact ⟨rfl, HS.out⟩ | rfl | exact ⟨by omega, HS.out⟩
    · intro w' hS
      refine OpTo.wanted ?_ ?_
      kernel_rfl
      have HS := Lib.hid hS
      clear hS
      go_wp2_with fail
      all_goals first | exact HS.out | exact ⟨rfl, HS.out⟩ | rfl | exact ⟨by omega, HS.out⟩
    · intro w' hS
      refine OpTo.plain ?_ ?_
      exact rfl
      have HS := Lib.hid hS
      clear hS
      go_wp2_with fail
      all_goals first | exact HS.out | exact ⟨rfl, HS.out⟩ | rfl | exact ⟨by omega, HS.out⟩
  intro w6 b6
  exact HQ.out w6 b6
set_option maxHeartbeats 4000000 in
set_option maxRecDepth 100000 in
theorem bof_f4 {W : World} {b o n cap : Nat} {i nx : Int} {x y : Of} (HB : Hid (b < W.heap.size)) (HX0 : Hid (W.cell? ⟨b, o + i.toNat * 7, none⟩ = some (.int .u64 x.se))) (HX1 : Hid (W.cell? ⟨b, o + i.toNat * 7 + 1, none⟩ = some (.int .u8 x.ow))) (HX2 : Hid (W.cell? ⟨b, o + i.toNat * 7 + 2, none⟩ = some (.int .u8 x.sl))) (HX3 : Hid (W.cell? ⟨b, o + i.toNat * 7 + 3, none⟩ = some (.int .u8 x.bu))) (HX4 : Hid (W.cell? ⟨b, o + i.toNat * 7 + 4, none⟩ = some (.int .i64 x.lf))) (HX5 : Hid (W.cell? ⟨b, o + i.toNat * 7 + 5, none⟩ = some (.int .i64 x.nu))) (HX6 : Hid (W.cell? ⟨b, o + i.toNat * 7 + 6, none⟩ = some (.int .i64 x.de))) (i4 : 0 ≤ i) (i1 : i < (n : Int)) (hn : n ≤ 32) (CM : Hid (∀ w', Calls Try.prog 38 #[.agg #[.int .u64 x.se, .int .u8 x.ow, .int .u8 x.sl, .int .u8 x.bu, .int .i64 x.lf, .int .i64 x.nu, .int .i64 x.de]] w' fun e w'' => e = .returned (.bool true) ∧ Below w'.heap.size w' w'')) (c2 : (x.se == 0) = false) (s0 : decide (0 < i) = false) (c4 : decide (nx ≤ x.se) = true) {Q : Exit → Act → World → Prop} {c2 c3 c4 c5 c7 c8 c9 c10 c11 c12 c13 c14 c15 c16 c17 c18 c19 c20 c21 c22 c23 c24 c25 c26 c27 c28 c29 c30 c31 c32 c33 c34 c35 c36 c37 c38 c39 c40 c41 c42 c43 c44 c45 c46 c47 c48 c49 c50 c51 c52 c53 c54 c55 c56 c57 c58 c59 c60 c61 c62 c63 : Value}
    (hq : ∀ w6, (fun w' => Below W.heap.size W w') w6 → Q .normal ⟨#[(.slice (some ⟨b, o, none⟩) n cap), (.int .u64 nx), c2, c3, c4, c5, (.int .i64 i), c7, c8, c9, c10, c11, c12, c13, c14, c15, (.slice (some ⟨b, o, none⟩) n cap), (.int .i64 i), (.pointer (some ⟨b, o + i.toNat * 7, none⟩)), (.agg #[.int .u64 x.se, .int .u8 x.ow, .int .u8 x.sl, .int .u8 x.bu, .int .i64 x.lf, .int .i64 x.nu, .int .i64 x.de]), (.bool true), (.bool false), (.bool false), (.slice (some ⟨b, o, none⟩) n cap), (.int .i64 i), (.pointer (some ⟨b, o + i.toNat * 7, none⟩)), (.pointer (some ⟨b, o + i.toNat * 7, none⟩)), (.int .u64 x.se), (.bool false), (.bool false), (.bool false), (.int .i64 i), (.bool false), (.bool false), undef, undef, undef, undef, undef, undef, undef, undef, undef, undef, undef, undef, (.bool false), (.bool false), (.bool false), (.slice (some ⟨b, o, none⟩) n cap), (.int .i64 i), (.pointer (some ⟨b, o + i.toNat * 7, none⟩)), (.pointer (some ⟨b, o + i.toNat * 7, none⟩)), (.int .u64 x.se), (.int .u64 nx), (.bool true), (.bool true), c57, c58, c59, c60, c61, c62, c63], []⟩ w6) :
    Code.wp Try.prog (((Try.f13.body).bind (regionNo 6)).getD .skip) Q ⟨#[(.slice (some ⟨b, o, none⟩) n cap), (.int .u64 nx), c2, c3, c4, c5, (.int .i64 i), c7, c8, c9, c10, c11, c12, c13, c14, c15, c16, c17, c18, c19, c20, c21, c22, c23, c24, c25, c26, c27, c28, c29, c30, c31, c32, c33, c34, c35, c36, c37, c38, c39, c40, c41, c42, c43, c44, c45, c46, c47, c48, c49, c50, c51, c52, c53, c54, c55, c56, c57, c58, c59, c60, c61, c62, c63], []⟩ W := by
  conv => arg 2; whnf
  have HQ := Lib.hid hq
  clear hq
  refine region_still (by kernel_rfl) [(.slice (some ⟨b, o, none⟩) n cap), (.int .i64 i), (.pointer (some ⟨b, o + i.toNat * 7, none⟩)), (.agg #[.int .u64 x.se, .int .u8 x.ow, .int .u8 x.sl, .int .u8 x.bu, .int .i64 x.lf, .int .i64 x.nu, .int .i64 x.de]), (.bool true), (.bool false), (.bool false), (.slice (some ⟨b, o, none⟩) n cap), (.int .i64 i), (.pointer (some ⟨b, o + i.toNat * 7, none⟩)), (.pointer (some ⟨b, o + i.toNat * 7, none⟩)), (.int .u64 x.se), (.bool false), (.bool false), (.bool false), (.int .i64 i), (.bool false), (.bool false), undef, undef, undef, undef, undef, undef, undef, undef, undef, undef, undef, undef, (.bool false), (.bool false), (.bool false), (.slice (some ⟨b, o, none⟩) n cap), (.int .i64 i), (.pointer (some ⟨b, o + i.toNat * 7, none⟩)), (.pointer (some ⟨b, o + i.toNat * 7, none⟩)), (.int .u64 x.se), (.int .u64 nx), (.bool true), (.bool true)]
    (fun w' => Below W.heap.size W w') (by kernel_rfl) (Below.refl _ _).drew ?_
  intro af haf
  simp only [List.toList_toArray, List.append_eq, List.cons_append, List.nil_append, puts, Act.put, List.getD_cons_zero, List.getD_cons_succ, List.setIfInBounds_toArray, List.set_cons_succ, List.set_cons_zero] at haf
  subst haf
  refine ⟨?_, ?_⟩
  · simp only [List.toList_toArray, List.append_eq, List.cons_append, List.nil_append, EachTo]
    refine ⟨?_, ?_, ?_, ?_, ?_, ?_, ?_, ?_, ?_, ?_, ?_, ?_, ?_, ?_, ?_, ?_, ?_, ?_, ?_, ?_, ?_, ?_, ?_, ?_, ?_, ?_, ?_, ?_, ?_, ?_, ?_, ?_, ?_, ?_, ?_, ?_, ?_, ?_, ?_, ?_, ?_, trivial⟩
    · intro w' hS
      refine OpTo.plain ?_ ?_
      exact rfl
      have HS := Lib.hid hS
      clear hS
      go_wp2_with fail
      all_goals first | exact HS.out | exact ⟨rfl, HS.out⟩ | rfl | exact ⟨by omega, HS.out⟩
    · intro w' hS
      refine OpTo.plain ?_ ?_
      exact rfl
      have HS := Lib.hid hS
      clear hS
      go_wp2_with fail
      all_goals first | exact HS.out | exact ⟨rfl, HS.out⟩ | rfl | exact ⟨by omega, HS.out⟩
    · intro w' hS
      refine OpTo.plain ?_ ?_
      exact rfl
      have HS := Lib.hid hS
      clear hS
      go_wp2_with fail
      all_goals first | exact HS.out | exact ⟨rfl, HS.out⟩ | rfl | exact ⟨by omega, HS.out⟩
    · intro w' hS
      refine OpTo.plain ?_ ?_
      exact rfl
      have hlt := Nat.lt_of_lt_of_le HB.out hS.size
      have e0 := (hS.cell (p := ⟨b, o + i.toNat * 7, none⟩) HB.out).trans HX0.out
      have e1 := (hS.cell (p := ⟨b, o + i.toNat * 7 + 1, none⟩) HB.out).trans HX1.out
      have e2 := (hS.cell (p := ⟨b, o + i.toNat * 7 + 2, none⟩) HB.out).trans HX2.out
      have e3 := (hS.cell (p := ⟨b, o + i.toNat * 7 + 3, none⟩) HB.out).trans HX3.out
      have e4 := (hS.cell (p := ⟨b, o + i.toNat * 7 + 4, none⟩) HB.out).trans HX4.out
      have e5 := (hS.cell (p := ⟨b, o + i.toNat * 7 + 5, none⟩) HB.out).trans HX5.out
      have e6 := (hS.cell (p := ⟨b, o + i.toNat * 7 + 6, none⟩) HB.out).trans HX6.out
      have HS := Lib.hid hS
      clear hS
      go_wp2_with fail
      all_goals first | exact HS.out | exact ⟨rfl, HS.out⟩ | rfl | exact ⟨by omega, HS.out⟩
    · intro w' hS
      refine OpTo.plain ?_ ?_
      exact rfl
      have HS := Lib.hid hS
      clear hS
      go_wp2_with fail
      refine (CM.out w').mono ?_
      rintro e w'' ⟨rfl, hb2⟩
      exact ⟨rfl, andB HS.out hb2⟩
    · intro w' hS
      refine OpTo.plain ?_ ?_
      exact rfl
      have HS := Lib.hid hS
      clear hS
      go_wp2_with fail
      all_goals first | exact HS.out | exact ⟨rfl, HS.out⟩ | rfl | exact ⟨by omega, HS.out⟩
    · intro w' hS
      refine OpTo.plain ?_ ?_
      exact rfl
      have HS := Lib.hid hS
      clear hS
      go_wp2_with fail
      all_goals first | exact HS.out | exact ⟨rfl, HS.out⟩ | rfl | exact ⟨by omega, HS.out⟩
    · intro w' hS
      refine OpTo.wanted ?_ ?_
      kernel_rfl
      have HS := Lib.hid hS
      clear hS
      go_wp2_with fail
      all_goals first | exact HS.out | exact ⟨rfl, HS.out⟩ | rfl | exact ⟨by omega, HS.out⟩
    · intro w' hS
      refine OpTo.wanted ?_ ?_
      kernel_rfl
      have HS := Lib.hid hS
      clear hS
      go_wp2_with fail
      all_goals first | exact HS.out | exact ⟨rfl, HS.out⟩ | rfl | exact ⟨by omega, HS.out⟩
    · intro w' hS
      refine OpTo.wanted ?_ ?_
      kernel_rfl
      have HS := Lib.hid hS
      clear hS
      go_wp2_with fail
      all_goals first | exact HS.out | exact ⟨rfl, HS.out⟩ | rfl | exact ⟨by omega, HS.out⟩
    · intro w' hS
      refine OpTo.wanted ?_ ?_
      kernel_rfl
      have HS := Lib.hid hS
      clear hS
      go_wp2_with fail
      all_goals first | exact HS.out | exact ⟨rfl, HS.out⟩ | rfl | exact ⟨by omega, HS.out⟩
    · intro w' hS
      refine OpTo.wanted ?_ ?_
      kernel_rfl
      have hlt := Nat.lt_of_lt_of_le HB.out hS.size
      have e0 := (hS.cell (p := ⟨b, o + i.toNat * 7, none⟩) HB.out).trans HX0.out
      have e1 := (hS.cell (p := ⟨b, o + i.toNat * 7 + 1, none⟩) HB.out).trans HX1.out
      have e2 := (hS.cell (p := ⟨b, o + i.toNat * 7 + 2, none⟩) HB.out).trans HX2.out
      have e3 := (hS.cell (p := ⟨b, o + i.toNat * 7 + 3, none⟩) HB.out).trans HX3.out
      have e4 := (hS.cell (p := ⟨b, o + i.toNat * 7 + 4, none⟩) HB.out).trans HX4.out
      have e5 := (hS.cell (p := ⟨b, o + i.toNat * 7 + 5, none⟩) HB.out).trans HX5.out
      have e6 := (hS.cell (p := ⟨b, o + i.toNat * 7 + 6, none⟩) HB.out).trans HX6.out
      have HS := Lib.hid hS
      clear hS
      go_wp2_with fail
      all_goals first | exact HS.out | exact ⟨rfl, HS.out⟩ | rfl | exact ⟨by omega, HS.out⟩
    · intro w' hS
      refine OpTo.wanted ?_ ?_
      kernel_rfl
      have HS := Lib.hid hS
      clear hS
      go_wp2_with fail
      all_goals first | exact HS.out | exact ⟨rfl, HS.out⟩ | rfl | exact ⟨by omega, HS.out⟩
    · intro w' hS
      refine OpTo.plain ?_ ?_
      exact rfl
      have HS := Lib.hid hS
      clear hS
      go_wp2_with fail
      all_goals first | exact HS.out | exact ⟨rfl, HS.out⟩ | rfl | exact ⟨by omega, HS.out⟩
    · intro w' hS
      refine OpTo.plain ?_ ?_
      exact rfl
      have HS := Lib.hid hS
      clear hS
      go_wp2_with fail
      all_goals first | exact HS.out | exact ⟨rfl, HS.out⟩ | rfl | exact ⟨by omega, HS.out⟩
    · intro w' hS
      refine OpTo.wanted ?_ ?_
      kernel_rfl
      have HS := Lib.hid hS
      clear hS
      go_wp2_with fail
      all_goals first | exact HS.out | exact ⟨rfl, HS.out⟩ | rfl | exact ⟨by omega, HS.out⟩
    · intro w' hS
      refine OpTo.wanted ?_ ?_
      kernel_rfl
      have HS := Lib.hid hS
      clear hS
      go_wp2_with fail
      all_goals first | exact HS.out | exact ⟨rfl, HS.out⟩ | rfl | exact ⟨by omega, HS.out⟩
    · intro w' hS
      refine OpTo.wanted ?_ ?_
      kernel_rfl
      have HS := Lib.hid hS
      clear hS
      go_wp2_with fail
      all_goals first | exact HS.out | exact ⟨rfl, HS.out⟩ | rfl | exact ⟨by omega, HS.out⟩
    · intro w' hS
      refine OpTo.passed (by kernel_rfl) rfl hS
    · intro w' hS
      refine OpTo.passed (by kernel_rfl) rfl hS
    · intro w' hS
      refine OpTo.passed (by kernel_rfl) rfl hS
    · intro w' hS
      refine OpTo.passed (by kernel_rfl) rfl hS
    · intro w' hS
      refine OpTo.passed (by kernel_rfl) rfl hS
    · intro w' hS
      refine OpTo.passed (by kernel_rfl) rfl hS
    · intro w' hS
      refine OpTo.passed (by kernel_rfl) rfl hS
    · intro w' hS
      refine OpTo.passed (by kernel_rfl) rfl hS
    · intro w' hS
      refine OpTo.passed (by kernel_rfl) rfl hS
    · intro w' hS
      refine OpTo.passed (by kernel_rfl) rfl hS
    · intro w' hS
      refine OpTo.passed (by kernel_rfl) rfl hS
    · intro w' hS
      refine OpTo.passed (by kernel_rfl) rfl hS
    · intro w' hS
      refine OpTo.wanted ?_ ?_
      kernel_rfl
      have HS := Lib.hid hS
      clear hS
      go_wp2_with fail
      all_goals first | exact HS.out | exact ⟨rfl, HS.out⟩ | rfl | exact ⟨by omega, HS.out⟩
    · intro w' hS
      refine OpTo.plain ?_ ?_
      exact rfl
      have HS := Lib.hid hS
      clear hS
      go_wp2_with fail
      all_goals first | exact HS.out | exact ⟨rfl, HS.out⟩ | rfl | exact ⟨by omega, HS.out⟩
    · intro w' hS
      refine OpTo.plain ?_ ?_
      exact rfl
      have HS := Lib.hid hS
      clear hS
      go_wp2_with fail
      all_goals first | exact HS.out | exact ⟨rfl, HS.out⟩ | rfl | exact ⟨by omega, HS.out⟩
    · intro w' hS
      refine OpTo.wanted ?_ ?_
      kernel_rfl
      have HS := Lib.hid hS
      clear hS
      go_wp2_with fail
      all_goals first | exact HS.out | exact ⟨rfl, HS.out⟩ | rfl | exact ⟨by omega, HS.out⟩
    · intro w' hS
      refine OpTo.wanted ?_ ?_
      kernel_rfl
      have HS := Lib.hid hS
      clear hS
      go_wp2_with fail
      all_goals first | exact HS.out | exact ⟨rfl, HS.out⟩ | rfl | exact ⟨by omega, HS.out⟩
    · intro w' hS
      refine OpTo.wanted ?_ ?_
      kernel_rfl
      have HS := Lib.hid hS
      clear hS
      go_wp2_with fail
      all_goals first | exact HS.out | exact ⟨rfl, HS.out⟩ | rfl | exact ⟨by omega, HS.out⟩
    · intro w' hS
      refine OpTo.wanted ?_ ?_
      kernel_rfl
      have HS := Lib.hid hS
      clear hS
      go_wp2_with fail
      all_goals first | exact HS.out | exact ⟨rfl, HS.out⟩ | rfl | exact ⟨by omega, HS.out⟩
    · intro w' hS
      refine OpTo.wanted ?_ ?_
      kernel_rfl
      have hlt := Nat.lt_of_lt_of_le HB.out hS.size
      have e0 := (hS.cell (p := ⟨b, o + i.toNat * 7, none⟩) HB.out).trans HX0.out
      have e1 := (hS.cell (p := ⟨b, o + i.toNat * 7 + 1, none⟩) HB.out).trans HX1.out
      have e2 := (hS.cell (p := ⟨b, o + i.toNat * 7 + 2, none⟩) HB.out).trans HX2.out
      have e3 := (hS.cell (p := ⟨b, o + i.toNat * 7 + 3, none⟩) HB.out).trans HX3.out
      have e4 := (hS.cell (p := ⟨b, o + i.toNat * 7 + 4, none⟩) HB.out).trans HX4.out
      have e5 := (hS.cell (p := ⟨b, o + i.toNat * 7 + 5, none⟩) HB.out).trans HX5.out
      have e6 := (hS.cell (p := ⟨b, o + i.toNat * 7 + 6, none⟩) HB.out).trans HX6.out
      have HS := Lib.hid hS
      clear hS
      go_wp2_with fail
      all_goals first | exact HS.out | exact ⟨rfl, HS.out⟩ | rfl | exact ⟨by omega, HS.out⟩
    · intro w' hS
      refine OpTo.wanted ?_ ?_
      kernel_rfl
      have HS := Lib.hid hS
      clear hS
      go_wp2_with fail
      all_goals first | exact HS.out | exact ⟨rfl, HS.out⟩ | rfl | exact ⟨by omega, HS.out⟩
    · intro w' hS
      refine OpTo.wanted ?_ ?_
      kernel_rfl
      have HS := Lib.hid hS
      clear hS
      go_wp2_with fail
      all_goals first | exact HS.out | exact ⟨rfl, HS.out⟩ | rfl | exact ⟨by omega, HS.out⟩
    · intro w' hS
      refine OpTo.plain ?_ ?_
      exact rfl
      have HS := Lib.hid hS
      clear hS
      go_wp2_with fail
      all_goals first | exact HS.out | exact ⟨rfl, HS.out⟩ | rfl | exact ⟨by omega, HS.out⟩
  intro w6 b6
  exact HQ.out w6 b6
set_option maxHeartbeats 4000000 in
set_option maxRecDepth 100000 in
theorem bof_t5 {W : World} {b o n cap : Nat} {i nx : Int} {x y : Of} (HB : Hid (b < W.heap.size)) (HX0 : Hid (W.cell? ⟨b, o + i.toNat * 7, none⟩ = some (.int .u64 x.se))) (HX1 : Hid (W.cell? ⟨b, o + i.toNat * 7 + 1, none⟩ = some (.int .u8 x.ow))) (HX2 : Hid (W.cell? ⟨b, o + i.toNat * 7 + 2, none⟩ = some (.int .u8 x.sl))) (HX3 : Hid (W.cell? ⟨b, o + i.toNat * 7 + 3, none⟩ = some (.int .u8 x.bu))) (HX4 : Hid (W.cell? ⟨b, o + i.toNat * 7 + 4, none⟩ = some (.int .i64 x.lf))) (HX5 : Hid (W.cell? ⟨b, o + i.toNat * 7 + 5, none⟩ = some (.int .i64 x.nu))) (HX6 : Hid (W.cell? ⟨b, o + i.toNat * 7 + 6, none⟩ = some (.int .i64 x.de))) (i4 : 0 ≤ i) (i1 : i < (n : Int)) (hn : n ≤ 32) (CM : Hid (∀ w', Calls Try.prog 38 #[.agg #[.int .u64 x.se, .int .u8 x.ow, .int .u8 x.sl, .int .u8 x.bu, .int .i64 x.lf, .int .i64 x.nu, .int .i64 x.de]] w' fun e w'' => e = .returned (.bool true) ∧ Below w'.heap.size w' w'')) (c2 : (x.se == 0) = false) (s0 : decide (0 < i) = true) (HY : Hid (W.cell? ⟨b, o + (i.toNat - 1) * 7, none⟩ = some (.int .u64 y.se))) (i0 : 0 < i) (c3 : decide (x.se ≤ y.se) = false) (c4 : decide (nx ≤ x.se) = false) {Q : Exit → Act → World → Prop} {c2 c3 c4 c5 c7 c8 c9 c10 c11 c12 c13 c14 c15 c16 c17 c18 c19 c20 c21 c22 c23 c24 c25 c26 c27 c28 c29 c30 c31 c32 c33 c34 c35 c36 c37 c38 c39 c40 c41 c42 c43 c44 c45 c46 c47 c48 c49 c50 c51 c52 c53 c54 c55 c56 c57 c58 c59 c60 c61 c62 c63 : Value}
    (hq : ∀ w6, (fun w' => Below W.heap.size W w') w6 → Q .normal ⟨#[(.slice (some ⟨b, o, none⟩) n cap), (.int .u64 nx), c2, c3, c4, c5, (.int .i64 i), c7, c8, c9, c10, c11, c12, c13, c14, c15, (.slice (some ⟨b, o, none⟩) n cap), (.int .i64 i), (.pointer (some ⟨b, o + i.toNat * 7, none⟩)), (.agg #[.int .u64 x.se, .int .u8 x.ow, .int .u8 x.sl, .int .u8 x.bu, .int .i64 x.lf, .int .i64 x.nu, .int .i64 x.de]), (.bool true), (.bool false), (.bool false), (.slice (some ⟨b, o, none⟩) n cap), (.int .i64 i), (.pointer (some ⟨b, o + i.toNat * 7, none⟩)), (.pointer (some ⟨b, o + i.toNat * 7, none⟩)), (.int .u64 x.se), (.bool false), (.bool false), (.bool false), (.int .i64 i), (.bool true), (.bool true), (.slice (some ⟨b, o, none⟩) n cap), (.int .i64 i), (.pointer (some ⟨b, o + i.toNat * 7, none⟩)), (.pointer (some ⟨b, o + i.toNat * 7, none⟩)), (.int .u64 x.se), (.slice (some ⟨b, o, none⟩) n cap), (.int .i64 i), (.int .i64 (i - 1)), (.pointer (some ⟨b, o + (i.toNat - 1) * 7, none⟩)), (.pointer (some ⟨b, o + (i.toNat - 1) * 7, none⟩)), (.int .u64 y.se), (.bool false), (.bool false), (.bool false), (.bool false), (.slice (some ⟨b, o, none⟩) n cap), (.int .i64 i), (.pointer (some ⟨b, o + i.toNat * 7, none⟩)), (.pointer (some ⟨b, o + i.toNat * 7, none⟩)), (.int .u64 x.se), (.int .u64 nx), (.bool false), (.bool false), c57, c58, c59, c60, c61, c62, c63], []⟩ w6) :
    Code.wp Try.prog (((Try.f13.body).bind (regionNo 6)).getD .skip) Q ⟨#[(.slice (some ⟨b, o, none⟩) n cap), (.int .u64 nx), c2, c3, c4, c5, (.int .i64 i), c7, c8, c9, c10, c11, c12, c13, c14, c15, c16, c17, c18, c19, c20, c21, c22, c23, c24, c25, c26, c27, c28, c29, c30, c31, c32, c33, c34, c35, c36, c37, c38, c39, c40, c41, c42, c43, c44, c45, c46, c47, c48, c49, c50, c51, c52, c53, c54, c55, c56, c57, c58, c59, c60, c61, c62, c63], []⟩ W := by
  conv => arg 2; whnf
  have HQ := Lib.hid hq
  clear hq
  refine region_still (by kernel_rfl) [(.slice (some ⟨b, o, none⟩) n cap), (.int .i64 i), (.pointer (some ⟨b, o + i.toNat * 7, none⟩)), (.agg #[.int .u64 x.se, .int .u8 x.ow, .int .u8 x.sl, .int .u8 x.bu, .int .i64 x.lf, .int .i64 x.nu, .int .i64 x.de]), (.bool true), (.bool false), (.bool false), (.slice (some ⟨b, o, none⟩) n cap), (.int .i64 i), (.pointer (some ⟨b, o + i.toNat * 7, none⟩)), (.pointer (some ⟨b, o + i.toNat * 7, none⟩)), (.int .u64 x.se), (.bool false), (.bool false), (.bool false), (.int .i64 i), (.bool true), (.bool true), (.slice (some ⟨b, o, none⟩) n cap), (.int .i64 i), (.pointer (some ⟨b, o + i.toNat * 7, none⟩)), (.pointer (some ⟨b, o + i.toNat * 7, none⟩)), (.int .u64 x.se), (.slice (some ⟨b, o, none⟩) n cap), (.int .i64 i), (.int .i64 (i - 1)), (.pointer (some ⟨b, o + (i.toNat - 1) * 7, none⟩)), (.pointer (some ⟨b, o + (i.toNat - 1) * 7, none⟩)), (.int .u64 y.se), (.bool false), (.bool false), (.bool false), (.bool false), (.slice (some ⟨b, o, none⟩) n cap), (.int .i64 i), (.pointer (some ⟨b, o + i.toNat * 7, none⟩)), (.pointer (some ⟨b, o + i.toNat * 7, none⟩)), (.int .u64 x.se), (.int .u64 nx), (.bool false), (.bool false)]
    (fun w' => Below W.heap.size W w') (by kernel_rfl) (Below.refl _ _).drew ?_
  intro af haf
  simp only [List.toList_toArray, List.append_eq, List.cons_append, List.nil_append, puts, Act.put, List.getD_cons_zero, List.getD_cons_succ, List.setIfInBounds_toArray, List.set_cons_succ, List.set_cons_zero] at haf
  subst haf
  refine ⟨?_, ?_⟩
  · simp only [List.toList_toArray, List.append_eq, List.cons_append, List.nil_append, EachTo]
    refine ⟨?_, ?_, ?_, ?_, ?_, ?_, ?_, ?_, ?_, ?_, ?_, ?_, ?_, ?_, ?_, ?_, ?_, ?_, ?_, ?_, ?_, ?_, ?_, ?_, ?_, ?_, ?_, ?_, ?_, ?_, ?_, ?_, ?_, ?_, ?_, ?_, ?_, ?_, ?_, ?_, ?_, trivial⟩
    · intro w' hS
      refine OpTo.plain ?_ ?_
      exact rfl
      have HS := Lib.hid hS
      clear hS
      go_wp2_with fail
      all_goals first | exact HS.out | exact ⟨rfl, HS.out⟩ | rfl | exact ⟨by omega, HS.out⟩
    · intro w' hS
      refine OpTo.plain ?_ ?_
      exact rfl
      have HS := Lib.hid hS
      clear hS
      go_wp2_with fail
      all_goals first | exact HS.out | exact ⟨rfl, HS.out⟩ | rfl | exact ⟨by omega, HS.out⟩
    · intro w' hS
      refine OpTo.plain ?_ ?_
      exact rfl
      have HS := Lib.hid hS
      clear hS
      go_wp2_with fail
      all_goals first | exact HS.out | exact ⟨rfl, HS.out⟩ | rfl | exact ⟨by omega, HS.out⟩
    · intro w' hS
      refine OpTo.plain ?_ ?_
      exact rfl
      have hlt := Nat.lt_of_lt_of_le HB.out hS.size
      have e0 := (hS.cell (p := ⟨b, o + i.toNat * 7, none⟩) HB.out).trans HX0.out
      have e1 := (hS.cell (p := ⟨b, o + i.toNat * 7 + 1, none⟩) HB.out).trans HX1.out
      have e2 := (hS.cell (p := ⟨b, o + i.toNat * 7 + 2, none⟩) HB.out).trans HX2.out
      have e3 := (hS.cell (p := ⟨b, o + i.toNat * 7 + 3, none⟩) HB.out).trans HX3.out
      have e4 := (hS.cell (p := ⟨b, o + i.toNat * 7 + 4, none⟩) HB.out).trans HX4.out
      have e5 := (hS.cell (p := ⟨b, o + i.toNat * 7 + 5, none⟩) HB.out).trans HX5.out
      have e6 := (hS.cell (p := ⟨b, o + i.toNat * 7 + 6, none⟩) HB.out).trans HX6.out
      have HS := Lib.hid hS
      clear hS
      go_wp2_with fail
      all_goals first | exact HS.out | exact ⟨rfl, HS.out⟩ | rfl | exact ⟨by omega, HS.out⟩
    · intro w' hS
      refine OpTo.plain ?_ ?_
      exact rfl
      have HS := Lib.hid hS
      clear hS
      go_wp2_with fail
      refine (CM.out w').mono ?_
      rintro e w'' ⟨rfl, hb2⟩
      exact ⟨rfl, andB HS.out hb2⟩
    · intro w' hS
      refine OpTo.plain ?_ ?_
      exact rfl
      have HS := Lib.hid hS
      clear hS
      go_wp2_with fail
      all_goals first | exact HS.out | exact ⟨rfl, HS.out⟩ | rfl | exact ⟨by omega, HS.out⟩
    · intro w' hS
      refine OpTo.plain ?_ ?_
      exact rfl
      have HS := Lib.hid hS
      clear hS
      go_wp2_with fail
      all_goals first | exact HS.out | exact ⟨rfl, HS.out⟩ | rfl | exact ⟨by omega, HS.out⟩
    · intro w' hS
      refine OpTo.wanted ?_ ?_
      kernel_rfl
      have HS := Lib.hid hS
      clear hS
      go_wp2_with fail
      all_goals first | exact HS.out | exact ⟨rfl, HS.out⟩ | rfl | exact ⟨by omega, HS.out⟩
    · intro w' hS
      refine OpTo.wanted ?_ ?_
      kernel_rfl
      have HS := Lib.hid hS
      clear hS
      go_wp2_with fail
      all_goals first | exact HS.out | exact ⟨rfl, HS.out⟩ | rfl | exact ⟨by omega, HS.out⟩
    · intro w' hS
      refine OpTo.wanted ?_ ?_
      kernel_rfl
      have HS := Lib.hid hS
      clear hS
      go_wp2_with fail
      all_goals first | exact HS.out | exact ⟨rfl, HS.out⟩ | rfl | exact ⟨by omega, HS.out⟩
    · intro w' hS
      refine OpTo.wanted ?_ ?_
      kernel_rfl
      have HS := Lib.hid hS
      clear hS
      go_wp2_with fail
      all_goals first | exact HS.out | exact ⟨rfl, HS.out⟩ | rfl | exact ⟨by omega, HS.out⟩
    · intro w' hS
      refine OpTo.wanted ?_ ?_
      kernel_rfl
      have hlt := Nat.lt_of_lt_of_le HB.out hS.size
      have e0 := (hS.cell (p := ⟨b, o + i.toNat * 7, none⟩) HB.out).trans HX0.out
      have e1 := (hS.cell (p := ⟨b, o + i.toNat * 7 + 1, none⟩) HB.out).trans HX1.out
      have e2 := (hS.cell (p := ⟨b, o + i.toNat * 7 + 2, none⟩) HB.out).trans HX2.out
      have e3 := (hS.cell (p := ⟨b, o + i.toNat * 7 + 3, none⟩) HB.out).trans HX3.out
      have e4 := (hS.cell (p := ⟨b, o + i.toNat * 7 + 4, none⟩) HB.out).trans HX4.out
      have e5 := (hS.cell (p := ⟨b, o + i.toNat * 7 + 5, none⟩) HB.out).trans HX5.out
      have e6 := (hS.cell (p := ⟨b, o + i.toNat * 7 + 6, none⟩) HB.out).trans HX6.out
      have HS := Lib.hid hS
      clear hS
      go_wp2_with fail
      all_goals first | exact HS.out | exact ⟨rfl, HS.out⟩ | rfl | exact ⟨by omega, HS.out⟩
    · intro w' hS
      refine OpTo.wanted ?_ ?_
      kernel_rfl
      have HS := Lib.hid hS
      clear hS
      go_wp2_with fail
      all_goals first | exact HS.out | exact ⟨rfl, HS.out⟩ | rfl | exact ⟨by omega, HS.out⟩
    · intro w' hS
      refine OpTo.plain ?_ ?_
      exact rfl
      have HS := Lib.hid hS
      clear hS
      go_wp2_with fail
      all_goals first | exact HS.out | exact ⟨rfl, HS.out⟩ | rfl | exact ⟨by omega, HS.out⟩
    · intro w' hS
      refine OpTo.plain ?_ ?_
      exact rfl
      have HS := Lib.hid hS
      clear hS
      go_wp2_with fail
      all_goals first | exact HS.out | exact ⟨rfl, HS.out⟩ | rfl | exact ⟨by omega, HS.out⟩
    · intro w' hS
      refine OpTo.wanted ?_ ?_
      kernel_rfl
      have HS := Lib.hid hS
      clear hS
      go_wp2_with fail
      all_goals first | exact HS.out | exact ⟨rfl, HS.out⟩ | rfl | exact ⟨by omega, HS.out⟩
    · intro w' hS
      refine OpTo.wanted ?_ ?_
      kernel_rfl
      have HS := Lib.hid hS
      clear hS
      go_wp2_with fail
      all_goals first | exact HS.out | exact ⟨rfl, HS.out⟩ | rfl | exact ⟨by omega, HS.out⟩
    · intro w' hS
      refine OpTo.wanted ?_ ?_
      kernel_rfl
      have HS := Lib.hid hS
      clear hS
      go_wp2_with fail
      all_goals first | exact HS.out | exact ⟨rfl, HS.out⟩ | rfl | exact ⟨by omega, HS.out⟩
    · intro w' hS
      refine OpTo.wanted ?_ ?_
      kernel_rfl
      have HS := Lib.hid hS
      clear hS
      go_wp2_with fail
      all_goals first | exact HS.out | exact ⟨rfl, HS.out⟩ | rfl | exact ⟨by omega, HS.out⟩
    · intro w' hS
      refine OpTo.wanted ?_ ?_
      kernel_rfl
      have HS := Lib.hid hS
      clear hS
      go_wp2_with fail
      all_goals first | exact HS.out | exact ⟨rfl, HS.out⟩ | rfl | exact ⟨by omega, HS.out⟩
    · intro w' hS
      refine OpTo.wanted ?_ ?_
      kernel_rfl
      have HS := Lib.hid hS
      clear hS
      go_wp2_with fail
      all_goals first | exact HS.out | exact ⟨rfl, HS.out⟩ | rfl | exact ⟨by omega, HS.out⟩
    · intro w' hS
      refine OpTo.wanted ?_ ?_
      kernel_rfl
      have HS := Lib.hid hS
      clear hS
      go_wp2_with fail
      all_goals first | exact HS.out | exact ⟨rfl, HS.out⟩ | rfl | exact ⟨by omega, HS.out⟩
    · intro w' hS
      refine OpTo.wanted ?_ ?_
      kernel_rfl
      have hlt := Nat.lt_of_lt_of_le HB.out hS.size
      have e0 := (hS.cell (p := ⟨b, o + i.toNat * 7, none⟩) HB.out).trans HX0.out
      have e1 := (hS.cell (p := ⟨b, o + i.toNat * 7 + 1, none⟩) HB.out).trans HX1.out
      have e2 := (hS.cell (p := ⟨b, o + i.toNat * 7 + 2, none⟩) HB.out).trans HX2.out
      have e3 := (hS.cell (p := ⟨b, o + i.toNat * 7 + 3, none⟩) HB.out).trans HX3.out
      have e4 := (hS.cell (p := ⟨b, o + i.toNat * 7 + 4, none⟩) HB.out).trans HX4.out
      have e5 := (hS.cell (p := ⟨b, o + i.toNat * 7 + 5, none⟩) HB.out).trans HX5.out
      have e6 := (hS.cell (p := ⟨b, o + i.toNat * 7 + 6, none⟩) HB.out).trans HX6.out
      have HS := Lib.hid hS
      clear hS
      go_wp2_with fail
      all_goals first | exact HS.out | exact ⟨rfl, HS.out⟩ | rfl | exact ⟨by omega, HS.out⟩
    · intro w' hS
      refine OpTo.wanted ?_ ?_
      kernel_rfl
      have HS := Lib.hid hS
      clear hS
      go_wp2_with fail
      all_goals first | exact HS.out | exact ⟨rfl, HS.out⟩ | rfl | exact ⟨by omega, HS.out⟩
    · intro w' hS
      refine OpTo.wanted ?_ ?_
      kernel_rfl
      have HS := Lib.hid hS
      clear hS
      go_wp2_with fail
      all_goals first | exact HS.out | exact ⟨rfl, HS.out⟩ | rfl | exact ⟨by omega, HS.out⟩
    · intro w' hS
      refine OpTo.wanted ?_ ?_
      kernel_rfl
      have HS := Lib.hid hS
      clear hS
      go_wp2_with fail
      all_goals first | exact HS.out | exact ⟨rfl, HS.out⟩ | rfl | exact ⟨by omega, HS.out⟩
    · intro w' hS
      refine OpTo.wanted ?_ ?_
      kernel_rfl
      have HS := Lib.hid hS
      clear hS
      go_wp2_with fail
      all_goals first | exact HS.out | exact ⟨rfl, HS.out⟩ | rfl | exact ⟨by omega, HS.out⟩
    · intro w' hS
      refine OpTo.wanted ?_ ?_
      kernel_rfl
      have HS := Lib.hid hS
      clear hS
      go_wp2_with fail
      all_goals first | exact HS.out | exact ⟨rfl, HS.out⟩ | rfl | exact ⟨by omega, HS.out⟩
    · intro w' hS
      refine OpTo.wanted ?_ ?_
      kernel_rfl
      have hlt := Nat.lt_of_lt_of_le HB.out hS.size
      have e0 := (hS.cell (p := ⟨b, o + (i.toNat - 1) * 7, none⟩) HB.out).trans HY.out
      have HS := Lib.hid hS
      clear hS
      go_wp2_with fail
      all_goals first | exact HS.out | exact ⟨rfl, HS.out⟩ | rfl | exact ⟨by omega, HS.out⟩
    · intro w' hS
      refine OpTo.wanted ?_ ?_
      kernel_rfl
      have HS := Lib.hid hS
      clear hS
      go_wp2_with fail
      all_goals first | exact HS.out | exact ⟨rfl, HS.out⟩ | rfl | exact ⟨by omega, HS.out⟩
    · intro w' hS
      refine OpTo.wanted ?_ ?_
      kernel_rfl
      have HS := Lib.hid hS
      clear hS
      go_wp2_with fail
      all_goals first | exact HS.out | exact ⟨rfl, HS.out⟩ | rfl | exact ⟨by omega, HS.out⟩
    · intro w' hS
      refine OpTo.plain ?_ ?_
      exact rfl
      have HS := Lib.hid hS
      clear hS
      go_wp2_with fail
      all_goals first | exact HS.out | exact ⟨rfl, HS.out⟩ | rfl | exact ⟨by omega, HS.out⟩
    · intro w' hS
      refine OpTo.plain ?_ ?_
      exact rfl
      have HS := Lib.hid hS
      clear hS
      go_wp2_with fail
      all_goals first | exact HS.out | exact ⟨rfl, HS.out⟩ | rfl | exact ⟨by omega, HS.out⟩
    · intro w' hS
      refine OpTo.wanted ?_ ?_
      kernel_rfl
      have HS := Lib.hid hS
      clear hS
      go_wp2_with fail
      all_goals first | exact HS.out | exact ⟨rfl, HS.out⟩ | rfl | exact ⟨by omega, HS.out⟩
    · intro w' hS
      refine OpTo.wanted ?_ ?_
      kernel_rfl
      have HS := Lib.hid hS
      clear hS
      go_wp2_with fail
      all_goals first | exact HS.out | exact ⟨rfl, HS.out⟩ | rfl | exact ⟨by omega, HS.out⟩
    · intro w' hS
      refine OpTo.wanted ?_ ?_
      kernel_rfl
      have HS := Lib.hid hS
      clear hS
      go_wp2_with fail
      all_goals first | exact HS.out | exact ⟨rfl, HS.out⟩ | rfl | exact ⟨by omega, HS.out⟩
    · intro w' hS
      refine OpTo.wanted ?_ ?_
      kernel_rfl
      have HS := Lib.hid hS
      clear hS
      go_wp2_with fail
      all_goals first | exact HS.out | exact ⟨rfl, HS.out⟩ | rfl | exact ⟨by omega, HS.out⟩
    · intro w' hS
      refine OpTo.wanted ?_ ?_
      kernel_rfl
      have hlt := Nat.lt_of_lt_of_le HB.out hS.size
      have e0 := (hS.cell (p := ⟨b, o + i.toNat * 7, none⟩) HB.out).trans HX0.out
      have e1 := (hS.cell (p := ⟨b, o + i.toNat * 7 + 1, none⟩) HB.out).trans HX1.out
      have e2 := (hS.cell (p := ⟨b, o + i.toNat * 7 + 2, none⟩) HB.out).trans HX2.out
      have e3 := (hS.cell (p := ⟨b, o + i.toNat * 7 + 3, none⟩) HB.out).trans HX3.out
      have e4 := (hS.cell (p := ⟨b, o + i.toNat * 7 + 4, none⟩) HB.out).trans HX4.out
      have e5 := (hS.cell (p := ⟨b, o + i.toNat * 7 + 5, none⟩) HB.out).trans HX5.out
      have e6 := (hS.cell (p := ⟨b, o + i.toNat * 7 + 6, none⟩) HB.out).trans HX6.out
      have HS := Lib.hid hS
      clear hS
      go_wp2_with fail
      all_goals first | exact HS.out | exact ⟨rfl, HS.out⟩ | rfl | exact ⟨by omega, HS.out⟩
    · intro w' hS
      refine OpTo.wanted ?_ ?_
      kernel_rfl
      have HS := Lib.hid hS
      clear hS
      go_wp2_with fail
      all_goals first | exact HS.out | exact ⟨rfl, HS.out⟩ | rfl | exact ⟨by omega, HS.out⟩
    · intro w' hS
      refine OpTo.wanted ?_ ?_
      kernel_rfl
      have HS := Lib.hid hS
      clear hS
      go_wp2_with fail
      all_goals first | exact HS.out | exact ⟨rfl, HS.out⟩ | rfl | exact ⟨by omega, HS.out⟩
    · intro w' hS
      refine OpTo.plain ?_ ?_
      exact rfl
      have HS := Lib.hid hS
      clear hS
      go_wp2_with fail
      all_goals first | exact HS.out | exact ⟨rfl, HS.out⟩ | rfl | exact ⟨by omega, HS.out⟩
  intro w6 b6
  exact HQ.out w6 b6
set_option maxHeartbeats 4000000 in
set_option maxRecDepth 100000 in
theorem bof_f5 {W : World} {b o n cap : Nat} {i nx : Int} {x y : Of} (HB : Hid (b < W.heap.size)) (HX0 : Hid (W.cell? ⟨b, o + i.toNat * 7, none⟩ = some (.int .u64 x.se))) (HX1 : Hid (W.cell? ⟨b, o + i.toNat * 7 + 1, none⟩ = some (.int .u8 x.ow))) (HX2 : Hid (W.cell? ⟨b, o + i.toNat * 7 + 2, none⟩ = some (.int .u8 x.sl))) (HX3 : Hid (W.cell? ⟨b, o + i.toNat * 7 + 3, none⟩ = some (.int .u8 x.bu))) (HX4 : Hid (W.cell? ⟨b, o + i.toNat * 7 + 4, none⟩ = some (.int .i64 x.lf))) (HX5 : Hid (W.cell? ⟨b, o + i.toNat * 7 + 5, none⟩ = some (.int .i64 x.nu))) (HX6 : Hid (W.cell? ⟨b, o + i.toNat * 7 + 6, none⟩ = some (.int .i64 x.de))) (i4 : 0 ≤ i) (i1 : i < (n : Int)) (hn : n ≤ 32) (CM : Hid (∀ w', Calls Try.prog 38 #[.agg #[.int .u64 x.se, .int .u8 x.ow, .int .u8 x.sl, .int .u8 x.bu, .int .i64 x.lf, .int .i64 x.nu, .int .i64 x.de]] w' fun e w'' => e = .returned (.bool true) ∧ Below w'.heap.size w' w'')) (c2 : (x.se == 0) = false) (s0 : decide (0 < i) = false) (c4 : decide (nx ≤ x.se) = false) {Q : Exit → Act → World → Prop} {c2 c3 c4 c5 c7 c8 c9 c10 c11 c12 c13 c14 c15 c16 c17 c18 c19 c20 c21 c22 c23 c24 c25 c26 c27 c28 c29 c30 c31 c32 c33 c34 c35 c36 c37 c38 c39 c40 c41 c42 c43 c44 c45 c46 c47 c48 c49 c50 c51 c52 c53 c54 c55 c56 c57 c58 c59 c60 c61 c62 c63 : Value}
    (hq : ∀ w6, (fun w' => Below W.heap.size W w') w6 → Q .normal ⟨#[(.slice (some ⟨b, o, none⟩) n cap), (.int .u64 nx), c2, c3, c4, c5, (.int .i64 i), c7, c8, c9, c10, c11, c12, c13, c14, c15, (.slice (some ⟨b, o, none⟩) n cap), (.int .i64 i), (.pointer (some ⟨b, o + i.toNat * 7, none⟩)), (.agg #[.int .u64 x.se, .int .u8 x.ow, .int .u8 x.sl, .int .u8 x.bu, .int .i64 x.lf, .int .i64 x.nu, .int .i64 x.de]), (.bool true), (.bool false), (.bool false), (.slice (some ⟨b, o, none⟩) n cap), (.int .i64 i), (.pointer (some ⟨b, o + i.toNat * 7, none⟩)), (.pointer (some ⟨b, o + i.toNat * 7, none⟩)), (.int .u64 x.se), (.bool false), (.bool false), (.bool false), (.int .i64 i), (.bool false), (.bool false), undef, undef, undef, undef, undef, undef, undef, undef, undef, undef, undef, undef, (.bool false), (.bool false), (.bool false), (.slice (some ⟨b, o, none⟩) n cap), (.int .i64 i), (.pointer (some ⟨b, o + i.toNat * 7, none⟩)), (.pointer (some ⟨b, o + i.toNat * 7, none⟩)), (.int .u64 x.se), (.int .u64 nx), (.bool false), (.bool false), c57, c58, c59, c60, c61, c62, c63], []⟩ w6) :
    Code.wp Try.prog (((Try.f13.body).bind (regionNo 6)).getD .skip) Q ⟨#[(.slice (some ⟨b, o, none⟩) n cap), (.int .u64 nx), c2, c3, c4, c5, (.int .i64 i), c7, c8, c9, c10, c11, c12, c13, c14, c15, c16, c17, c18, c19, c20, c21, c22, c23, c24, c25, c26, c27, c28, c29, c30, c31, c32, c33, c34, c35, c36, c37, c38, c39, c40, c41, c42, c43, c44, c45, c46, c47, c48, c49, c50, c51, c52, c53, c54, c55, c56, c57, c58, c59, c60, c61, c62, c63], []⟩ W := by
  conv => arg 2; whnf
  have HQ := Lib.hid hq
  clear hq
  refine region_still (by kernel_rfl) [(.slice (some ⟨b, o, none⟩) n cap), (.int .i64 i), (.pointer (some ⟨b, o + i.toNat * 7, none⟩)), (.agg #[.int .u64 x.se, .int .u8 x.ow, .int .u8 x.sl, .int .u8 x.bu, .int .i64 x.lf, .int .i64 x.nu, .int .i64 x.de]), (.bool true), (.bool false), (.bool false), (.slice (some ⟨b, o, none⟩) n cap), (.int .i64 i), (.pointer (some ⟨b, o + i.toNat * 7, none⟩)), (.pointer (some ⟨b, o + i.toNat * 7, none⟩)), (.int .u64 x.se), (.bool false), (.bool false), (.bool false), (.int .i64 i), (.bool false), (.bool false), undef, undef, undef, undef, undef, undef, undef, undef, undef, undef, undef, undef, (.bool false), (.bool false), (.bool false), (.slice (some ⟨b, o, none⟩) n cap), (.int .i64 i), (.pointer (some ⟨b, o + i.toNat * 7, none⟩)), (.pointer (some ⟨b, o + i.toNat * 7, none⟩)), (.int .u64 x.se), (.int .u64 nx), (.bool false), (.bool false)]
    (fun w' => Below W.heap.size W w') (by kernel_rfl) (Below.refl _ _).drew ?_
  intro af haf
  simp only [List.toList_toArray, List.append_eq, List.cons_append, List.nil_append, puts, Act.put, List.getD_cons_zero, List.getD_cons_succ, List.setIfInBounds_toArray, List.set_cons_succ, List.set_cons_zero] at haf
  subst haf
  refine ⟨?_, ?_⟩
  · simp only [List.toList_toArray, List.append_eq, List.cons_append, List.nil_append, EachTo]
    refine ⟨?_, ?_, ?_, ?_, ?_, ?_, ?_, ?_, ?_, ?_, ?_, ?_, ?_, ?_, ?_, ?_, ?_, ?_, ?_, ?_, ?_, ?_, ?_, ?_, ?_, ?_, ?_, ?_, ?_, ?_, ?_, ?_, ?_, ?_, ?_, ?_, ?_, ?_, ?_, ?_, ?_, trivial⟩
    · intro w' hS
      refine OpTo.plain ?_ ?_
      exact rfl
      have HS := Lib.hid hS
      clear hS
      go_wp2_with fail
      all_goals first | exact HS.out | exact ⟨rfl, HS.out⟩ | rfl | exact ⟨by omega, HS.out⟩
    · intro w' hS
      refine OpTo.plain ?_ ?_
      exact rfl
      have HS := Lib.hid hS
      clear hS
      go_wp2_with fail
      all_goals first | exact HS.out | exact ⟨rfl, HS.out⟩ | rfl | exact ⟨by omega, HS.out⟩
    · intro w' hS
      refine OpTo.plain ?_ ?_
      exact rfl
      have HS := Lib.hid hS
      clear hS
      go_wp2_with fail
      all_goals first | exact HS.out | exact ⟨rfl, HS.out⟩ | rfl | exact ⟨by omega, HS.out⟩
    · intro w' hS
      refine OpTo.plain ?_ ?_
      exact rfl
      have hlt := Nat.lt_of_lt_of_le HB.out hS.size
      have e0 := (hS.cell (p := ⟨b, o + i.toNat * 7, none⟩) HB.out).trans HX0.out
      have e1 := (hS.cell (p := ⟨b, o + i.toNat * 7 + 1, none⟩) HB.out).trans HX1.out
      have e2 := (hS.cell (p := ⟨b, o + i.toNat * 7 + 2, none⟩) HB.out).trans HX2.out
      have e3 := (hS.cell (p := ⟨b, o + i.toNat * 7 + 3, none⟩) HB.out).trans HX3.out
      have e4 := (hS.cell (p := ⟨b, o + i.toNat * 7 + 4, none⟩) HB.out).trans HX4.out
      have e5 := (hS.cell (p := ⟨b, o + i.toNat * 7 + 5, none⟩) HB.out).trans HX5.out
      have e6 := (hS.cell (p := ⟨b, o + i.toNat * 7 + 6, none⟩) HB.out).trans HX6.out
      have HS := Lib.hid hS
      clear hS
      go_wp2_with fail
      all_goals first | exact HS.out | exact ⟨rfl, HS.out⟩ | rfl | exact ⟨by omega, HS.out⟩
    · intro w' hS
      refine OpTo.plain ?_ ?_
      exact rfl
      have HS := Lib.hid hS
      clear hS
      go_wp2_with fail
      refine (CM.out w').mono ?_
      rintro e w'' ⟨rfl, hb2⟩
      exact ⟨rfl, andB HS.out hb2⟩
    · intro w' hS
      refine OpTo.plain ?_ ?_
      exact rfl
      have HS := Lib.hid hS
      clear hS
      go_wp2_with fail
      all_goals first | exact HS.out | exact ⟨rfl, HS.out⟩ | rfl | exact ⟨by omega, HS.out⟩
    · intro w' hS
      refine OpTo.plain ?_ ?_
      exact rfl
      have HS := Lib.hid hS
      clear hS
      go_wp2_with fail
      all_goals first | exact HS.out | exact ⟨rfl, HS.out⟩ | rfl | exact ⟨by omega, HS.out⟩
    · intro w' hS
      refine OpTo.wanted ?_ ?_
      kernel_rfl
      have HS := Lib.hid hS
      clear hS
      go_wp2_with fail
      all_goals first | exact HS.out | exact ⟨rfl, HS.out⟩ | rfl | exact ⟨by omega, HS.out⟩
    · intro w' hS
      refine OpTo.wanted ?_ ?_
      kernel_rfl
      have HS := Lib.hid hS
      clear hS
      go_wp2_with fail
      all_goals first | exact HS.out | exact ⟨rfl, HS.out⟩ | rfl | exact ⟨by omega, HS.out⟩
    · intro w' hS
      refine OpTo.wanted ?_ ?_
      kernel_rfl
      have HS := Lib.hid hS
      clear hS
      go_wp2_with fail
      all_goals first | exact HS.out | exact ⟨rfl, HS.out⟩ | rfl | exact ⟨by omega, HS.out⟩
    · intro w' hS
      refine OpTo.wanted ?_ ?_
      kernel_rfl
      have HS := Lib.hid hS
      clear hS
      go_wp2_with fail
      all_goals first | exact HS.out | exact ⟨rfl, HS.out⟩ | rfl | exact ⟨by omega, HS.out⟩
    · intro w' hS
      refine OpTo.wanted ?_ ?_
      kernel_rfl
      have hlt := Nat.lt_of_lt_of_le HB.out hS.size
      have e0 := (hS.cell (p := ⟨b, o + i.toNat * 7, none⟩) HB.out).trans HX0.out
      have e1 := (hS.cell (p := ⟨b, o + i.toNat * 7 + 1, none⟩) HB.out).trans HX1.out
      have e2 := (hS.cell (p := ⟨b, o + i.toNat * 7 + 2, none⟩) HB.out).trans HX2.out
      have e3 := (hS.cell (p := ⟨b, o + i.toNat * 7 + 3, none⟩) HB.out).trans HX3.out
      have e4 := (hS.cell (p := ⟨b, o + i.toNat * 7 + 4, none⟩) HB.out).trans HX4.out
      have e5 := (hS.cell (p := ⟨b, o + i.toNat * 7 + 5, none⟩) HB.out).trans HX5.out
      have e6 := (hS.cell (p := ⟨b, o + i.toNat * 7 + 6, none⟩) HB.out).trans HX6.out
      have HS := Lib.hid hS
      clear hS
      go_wp2_with fail
      all_goals first | exact HS.out | exact ⟨rfl, HS.out⟩ | rfl | exact ⟨by omega, HS.out⟩
    · intro w' hS
      refine OpTo.wanted ?_ ?_
      kernel_rfl
      have HS := Lib.hid hS
      clear hS
      go_wp2_with fail
      all_goals first | exact HS.out | exact ⟨rfl, HS.out⟩ | rfl | exact ⟨by omega, HS.out⟩
    · intro w' hS
      refine OpTo.plain ?_ ?_
      exact rfl
      have HS := Lib.hid hS
      clear hS
      go_wp2_with fail
      all_goals first | exact HS.out | exact ⟨rfl, HS.out⟩ | rfl | exact ⟨by omega, HS.out⟩
    · intro w' hS
      refine OpTo.plain ?_ ?_
      exact rfl
      have HS := Lib.hid hS
      clear hS
      go_wp2_with fail
      all_goals first | exact HS.out | exact ⟨rfl, HS.out⟩ | rfl | exact ⟨by omega, HS.out⟩
    · intro w' hS
      refine OpTo.wanted ?_ ?_
      kernel_rfl
      have HS := Lib.hid hS
      clear hS
      go_wp2_with fail
      all_goals first | exact HS.out | exact ⟨rfl, HS.out⟩ | rfl | exact ⟨by omega, HS.out⟩
    · intro w' hS
      refine OpTo.wanted ?_ ?_
      kernel_rfl
      have HS := Lib.hid hS
      clear hS
      go_wp2_with fail
      all_goals first | exact HS.out | exact ⟨rfl, HS.out⟩ | rfl | exact ⟨by omega, HS.out⟩
    · intro w' hS
      refine OpTo.wanted ?_ ?_
      kernel_rfl
      have HS := Lib.hid hS
      clear hS
      go_wp2_with fail
      all_goals first | exact HS.out | exact ⟨rfl, HS.out⟩ | rfl | exact ⟨by omega, HS.out⟩
    · intro w' hS
      refine OpTo.passed (by kernel_rfl) rfl hS
    · intro w' hS
      refine OpTo.passed (by kernel_rfl) rfl hS
    · intro w' hS
      refine OpTo.passed (by kernel_rfl) rfl hS
    · intro w' hS
      refine OpTo.passed (by kernel_rfl) rfl hS
    · intro w' hS
      refine OpTo.passed (by kernel_rfl) rfl hS
    · intro w' hS
      refine OpTo.passed (by kernel_rfl) rfl hS
    · intro w' hS
      refine OpTo.passed (by kernel_rfl) rfl hS
    · intro w' hS
      refine OpTo.passed (by kernel_rfl) rfl hS
    · intro w' hS
      refine OpTo.passed (by kernel_rfl) rfl hS
    · intro w' hS
      refine OpTo.passed (by kernel_rfl) rfl hS
    · intro w' hS
      refine OpTo.passed (by kernel_rfl) rfl hS
    · intro w' hS
      refine OpTo.passed (by kernel_rfl) rfl hS
    · intro w' hS
      refine OpTo.wanted ?_ ?_
      kernel_rfl
      have HS := Lib.hid hS
      clear hS
      go_wp2_with fail
      all_goals first | exact HS.out | exact ⟨rfl, HS.out⟩ | rfl | exact ⟨by omega, HS.out⟩
    · intro w' hS
      refine OpTo.plain ?_ ?_
      exact rfl
      have HS := Lib.hid hS
      clear hS
      go_wp2_with fail
      all_goals first | exact HS.out | exact ⟨rfl, HS.out⟩ | rfl | exact ⟨by omega, HS.out⟩
    · intro w' hS
      refine OpTo.plain ?_ ?_
      exact rfl
      have HS := Lib.hid hS
      clear hS
      go_wp2_with fail
      all_goals first | exact HS.out | exact ⟨rfl, HS.out⟩ | rfl | exact ⟨by omega, HS.out⟩
    · intro w' hS
      refine OpTo.wanted ?_ ?_
      kernel_rfl
      have HS := Lib.hid hS
      clear hS
      go_wp2_with fail
      all_goals first | exact HS.out | exact ⟨rfl, HS.out⟩ | rfl | exact ⟨by omega, HS.out⟩
    · intro w' hS
      refine OpTo.wanted ?_ ?_
      kernel_rfl
      have HS := Lib.hid hS
      clear hS
      go_wp2_with fail
      all_goals first | exact HS.out | exact ⟨rfl, HS.out⟩ | rfl | exact ⟨by omega, HS.out⟩
    · intro w' hS
      refine OpTo.wanted ?_ ?_
      kernel_rfl
      have HS := Lib.hid hS
      clear hS
      go_wp2_with fail
      all_goals first | exact HS.out | exact ⟨rfl, HS.out⟩ | rfl | exact ⟨by omega, HS.out⟩
    · intro w' hS
      refine OpTo.wanted ?_ ?_
      kernel_rfl
      have HS := Lib.hid hS
      clear hS
      go_wp2_with fail
      all_goals first | exact HS.out | exact ⟨rfl, HS.out⟩ | rfl | exact ⟨by omega, HS.out⟩
    · intro w' hS
      refine OpTo.wanted ?_ ?_
      kernel_rfl
      have hlt := Nat.lt_of_lt_of_le HB.out hS.size
      have e0 := (hS.cell (p := ⟨b, o + i.toNat * 7, none⟩) HB.out).trans HX0.out
      have e1 := (hS.cell (p := ⟨b, o + i.toNat * 7 + 1, none⟩) HB.out).trans HX1.out
      have e2 := (hS.cell (p := ⟨b, o + i.toNat * 7 + 2, none⟩) HB.out).trans HX2.out
      have e3 := (hS.cell (p := ⟨b, o + i.toNat * 7 + 3, none⟩) HB.out).trans HX3.out
      have e4 := (hS.cell (p := ⟨b, o + i.toNat * 7 + 4, none⟩) HB.out).trans HX4.out
      have e5 := (hS.cell (p := ⟨b, o + i.toNat * 7 + 5, none⟩) HB.out).trans HX5.out
      have e6 := (hS.cell (p := ⟨b, o + i.toNat * 7 + 6, none⟩) HB.out).trans HX6.out
      have HS := Lib.hid hS
      clear hS
      go_wp2_with fail
      all_goals first | exact HS.out | exact ⟨rfl, HS.out⟩ | rfl | exact ⟨by omega, HS.out⟩
    · intro w' hS
      refine OpTo.wanted ?_ ?_
      kernel_rfl
      have HS := Lib.hid hS
      clear hS
      go_wp2_with fail
      all_goals first | exact HS.out | exact ⟨rfl, HS.out⟩ | rfl | exact ⟨by omega, HS.out⟩
    · intro w' hS
      refine OpTo.wanted ?_ ?_
      kernel_rfl
      have HS := Lib.hid hS
      clear hS
      go_wp2_with fail
      all_goals first | exact HS.out | exact ⟨rfl, HS.out⟩ | rfl | exact ⟨by omega, HS.out⟩
    · intro w' hS
      refine OpTo.plain ?_ ?_
      exact rfl
      have HS := Lib.hid hS
      clear hS
      go_wp2_with fail
      all_goals first | exact HS.out | exact ⟨rfl, HS.out⟩ | rfl | exact ⟨by omega, HS.out⟩
  intro w6 b6
  exact HQ.out w6 b6
/-- What Of answers. -/
def BOfPost (w : World) (l : List Of) (nx : Int) (e : Ending) (w' : World) : Prop :=
  Below w.heap.size w w' ∧ ((l.length ≤ 32 ∧ okO nx l ∧ nx ≠ 0 ∧ ∃ g vl, e = .returned (.tuple #[.pointer (some ⟨g, 0, none⟩), .int .i64 0]) ∧ RefB w' w.heap.size g l nx vl) ∨
    (e = .returned (.tuple #[.pointer none, .int .i64 9]) ∧ 32 < l.length) ∨ (e = .returned (.tuple #[.pointer none, .int .i64 1]) ∧ l.length ≤ 32 ∧ ¬ (okO nx l ∧ nx ≠ 0)))
def BOfAt (w : World) (l : List Of) (nx : Int) (i : Value) (wr : World) : Prop :=
  ∃ k : Nat, k ≤ l.length ∧ i = .int .i64 k ∧ Hid (okO nx (l.take k)) ∧ Below w.heap.size w wr
set_option maxHeartbeats 8000000 in
set_option maxRecDepth 100000 in
theorem bof_any {w : World} {ao : Option Addr} {cap : Nat} {l : List Of} {nx : Int} (hp : Reads w (.slice ao l.length cap) 7 l.length (ofCells l)) (h0 : ao = none → cap = 0) (hln : l.length ≤ 100) :
    Calls Try.prog 13 #[.slice ao l.length cap, .int .u64 nx] w (BOfPost w l nx) := by
  have HP := Lib.hid hp
  have H0 := Lib.hid h0
  obtain ⟨_, _, hv, _, hxl, hrd⟩ := hp
  cases hv
  have HR := Lib.hid hrd
  clear hxl hrd h0
  by_cases h32 : 32 < l.length
  · have q0 : decide (32 < (l.length : Int)) = true := by simp; omega
    go_enter Try.func13, Try.ntmps13
    go_wp2_with fail
    refine bodyPost_ret (v := .tuple #[.pointer none, .int .i64 9]) (by simp [results, Try.results13, go_sem]) rfl ?_
    exact ⟨Below.refl _ _, .inr (.inl ⟨rfl, h32⟩)⟩
  have h32 : l.length ≤ 32 := by omega
  have q0 : decide (32 < (l.length : Int)) = false := by simp; omega
  go_enter Try.func13, Try.ntmps13
  go_wp2_with fail
  go_loopw [6] (BOfAt w l nx) (fun i _ => l.length - (intOf i).toNat)
  case atStart => exact ⟨0, Nat.zero_le _, rfl, Lib.hid (okO.nil _), Below.refl _ _⟩
  case round =>
    obtain ⟨k, hk, rfl, HO, hB⟩ := hrel
    have B1 := Lib.hid hB
    clear hB
    by_cases hkl : k < l.length
    · obtain ⟨b, o, rfl, hb, hc⟩ := HR.out (by omega)
      have HB : Hid (b < wr.heap.size) := Lib.hid (Nat.lt_of_lt_of_le hb B1.out.size)
      have HC := Lib.hid (fun j (hj : j < l.length) i (hi : i < 7) => ((B1.out.cell (p := ⟨b, o + (j * 7 + i), none⟩) hb).trans (hc (j * 7 + i) (by omega))).trans (ofCells_get l j i hi hj))
      clear hb hc
      have hkm : k - 1 < l.length := by omega
      generalize hi : ((k : Nat) : Int) = i
      have i1 : i < (l.length : Int) := by omega
      have i4 : 0 ≤ i := by omega
      have i2 : i.toNat = k := by omega
      have i3 : i.toNat - 1 = k - 1 := by omega
      have HIi := Lib.hid hi
      clear hi
      have HX0 : Hid (wr.cell? ⟨b, o + i.toNat * 7, none⟩ = some (.int .u64 l[k].se)) := Lib.hid (by rw [i2]; exact HC.out k hkl 0 (by omega))
      have HX1 : Hid (wr.cell? ⟨b, o + i.toNat * 7 + 1, none⟩ = some (.int .u8 l[k].ow)) := Lib.hid (by rw [i2, Nat.add_assoc]; exact HC.out k hkl 1 (by omega))
      have HX2 : Hid (wr.cell? ⟨b, o + i.toNat * 7 + 2, none⟩ = some (.int .u8 l[k].sl)) := Lib.hid (by rw [i2, Nat.add_assoc]; exact HC.out k hkl 2 (by omega))
      have HX3 : Hid (wr.cell? ⟨b, o + i.toNat * 7 + 3, none⟩ = some (.int .u8 l[k].bu)) := Lib.hid (by rw [i2, Nat.add_assoc]; exact HC.out k hkl 3 (by omega))
      have HX4 : Hid (wr.cell? ⟨b, o + i.toNat * 7 + 4, none⟩ = some (.int .i64 l[k].lf)) := Lib.hid (by rw [i2, Nat.add_assoc]; exact HC.out k hkl 4 (by omega))
      have HX5 : Hid (wr.cell? ⟨b, o + i.toNat * 7 + 5, none⟩ = some (.int .i64 l[k].nu)) := Lib.hid (by rw [i2, Nat.add_assoc]; exact HC.out k hkl 5 (by omega))
      have HX6 : Hid (wr.cell? ⟨b, o + i.toNat * 7 + 6, none⟩ = some (.int .i64 l[k].de)) := Lib.hid (by rw [i2, Nat.add_assoc]; exact HC.out k hkl 6 (by omega))
      have HY : Hid (wr.cell? ⟨b, o + (i.toNat - 1) * 7, none⟩ = some (.int .u64 (l[k - 1]'hkm).se)) := Lib.hid (by rw [i3]; exact HC.out (k - 1) hkm 0 (by omega))
      have CM := Lib.hid (fun w' => omay_any l[k] w')
      have BD := Lib.hid (fun h => okO.bad (nx := nx) hkl h)
      have NX := Lib.hid (fun h1 h2 h3 hs => okO.next hkl HO.out h1 h2 h3 hs)
      clear HC i2 i3 HO
      by_cases hm : l[k].may
      case neg =>
        have HBad := Lib.hid (BD.out (.inl hm))
        rw [decide_eq_false hm] at CM
        clear hm NX BD
        generalize l[k] = x at *
        go_wp2_with fail
        refine bof_f1 (y := x) HB HX0 HX1 HX2 HX3 HX4 HX5 HX6 i4 i1 h32 CM ?_
        intro w6 b6
        have B6 := Lib.hid (B1.out.trans (b6.mono B1.out.size))
        clear b6
        go_wp2_with fail
        refine bodyPost_ret (v := .tuple #[.pointer none, .int .i64 1]) (by simp [results, Try.results13, go_sem]) rfl ?_
        exact ⟨B6.out, .inr (.inr ⟨rfl, h32, fun h => HBad.out h.1⟩)⟩
      rw [decide_eq_true hm] at CM
      by_cases hz : l[k].se = 0
      · have HBad := Lib.hid (BD.out (.inr (.inl hz)))
        have c2 : (l[k].se == 0) = true := by simpa using hz
        clear hm NX BD hz
        generalize l[k] = x at *
        go_wp2_with fail
        refine bof_f2 (y := x) HB HX0 HX1 HX2 HX3 HX4 HX5 HX6 i4 i1 h32 CM c2 ?_
        intro w6 b6
        have B6 := Lib.hid (B1.out.trans (b6.mono B1.out.size))
        clear b6
        go_wp2_with fail
        refine bodyPost_ret (v := .tuple #[.pointer none, .int .i64 1]) (by simp [results, Try.results13, go_sem]) rfl ?_
        exact ⟨B6.out, .inr (.inr ⟨rfl, h32, fun h => HBad.out h.1⟩)⟩
      have c2 : (l[k].se == 0) = false := by simpa using hz
      by_cases hk0 : 0 < k
      · have s0 : decide (0 < i) = true := by rw [decide_eq_true_eq]; have := HIi.out; omega
        have i0 : 0 < i := by have := HIi.out; omega
        by_cases hle : l[k].se ≤ (l[k - 1]'hkm).se
        · have HBad := Lib.hid (BD.out (.inr (.inr (.inr ⟨hk0, hle⟩))))
          have c3 : decide (l[k].se ≤ (l[k - 1]'hkm).se) = true := by simpa using hle
          clear hm NX BD hz hle
          generalize l[k] = x at *
          generalize l[k - 1]'hkm = y at *
          go_wp2_with fail
          refine bof_t3 HB HX0 HX1 HX2 HX3 HX4 HX5 HX6 i4 i1 h32 CM c2 s0 HY i0 c3 ?_
          intro w6 b6
          have B6 := Lib.hid (B1.out.trans (b6.mono B1.out.size))
          clear b6
          go_wp2_with fail
          refine bodyPost_ret (v := .tuple #[.pointer none, .int .i64 1]) (by simp [results, Try.results13, go_sem]) rfl ?_
          exact ⟨B6.out, .inr (.inr ⟨rfl, h32, fun h => HBad.out h.1⟩)⟩
        have c3 : decide (l[k].se ≤ (l[k - 1]'hkm).se) = false := by simpa using hle
        by_cases hx : nx ≤ l[k].se
        · have HBad := Lib.hid (BD.out (.inr (.inr (.inl hx))))
          have c4 : decide (nx ≤ l[k].se) = true := by simpa using hx
          clear hm NX BD hz hle hx
          generalize l[k] = x at *
          generalize l[k - 1]'hkm = y at *
          go_wp2_with fail
          refine bof_t4 HB HX0 HX1 HX2 HX3 HX4 HX5 HX6 i4 i1 h32 CM c2 s0 HY i0 c3 c4 ?_
          intro w6 b6
          have B6 := Lib.hid (B1.out.trans (b6.mono B1.out.size))
          clear b6
          go_wp2_with fail
          refine bodyPost_ret (v := .tuple #[.pointer none, .int .i64 1]) (by simp [results, Try.results13, go_sem]) rfl ?_
          exact ⟨B6.out, .inr (.inr ⟨rfl, h32, fun h => HBad.out h.1⟩)⟩
        have c4 : decide (nx ≤ l[k].se) = false := by simpa using hx
        have HN := Lib.hid (NX.out hm hz (by omega) (fun _ => by omega))
        have hk1 : k + 1 ≤ l.length := hkl
        clear hm NX BD hz hle hx
        generalize l[k] = x at *
        generalize l[k - 1]'hkm = y at *
        clear hkl hkm hk
        go_wp2_with fail
        refine bof_t5 HB HX0 HX1 HX2 HX3 HX4 HX5 HX6 i4 i1 h32 CM c2 s0 HY i0 c3 c4 ?_
        intro w6 b6
        have B6 := Lib.hid (B1.out.trans (b6.mono B1.out.size))
        clear b6
        go_wp2_with fail
        go_roundw
        case rel => exact ⟨k + 1, hk1, by have := HIi.out; first | go_num | (congr 1; omega), HN, B6.out⟩
        case measure => have := HIi.out; simp [intOf]; omega
      · have s0 : decide (0 < i) = false := by have := HIi.out; simp; omega
        by_cases hx : nx ≤ l[k].se
        · have HBad := Lib.hid (BD.out (.inr (.inr (.inl hx))))
          have c4 : decide (nx ≤ l[k].se) = true := by simpa using hx
          clear hm NX BD hz hx
          generalize l[k] = x at *
          go_wp2_with fail
          refine bof_f4 (y := x) HB HX0 HX1 HX2 HX3 HX4 HX5 HX6 i4 i1 h32 CM c2 s0 c4 ?_
          intro w6 b6
          have B6 := Lib.hid (B1.out.trans (b6.mono B1.out.size))
          clear b6
          go_wp2_with fail
          refine bodyPost_ret (v := .tuple #[.pointer none, .int .i64 1]) (by simp [results, Try.results13, go_sem]) rfl ?_
          exact ⟨B6.out, .inr (.inr ⟨rfl, h32, fun h => HBad.out h.1⟩)⟩
        have c4 : decide (nx ≤ l[k].se) = false := by simpa using hx
        have HN := Lib.hid (NX.out hm hz (by omega) (fun h => absurd h hk0))
        have hk1 : k + 1 ≤ l.length := hkl
        clear hm NX BD hz hx
        generalize l[k] = x at *
        clear hkl hkm hk HY
        go_wp2_with fail
        refine bof_f5 (y := x) HB HX0 HX1 HX2 HX3 HX4 HX5 HX6 i4 i1 h32 CM c2 s0 c4 ?_
        intro w6 b6
        have B6 := Lib.hid (B1.out.trans (b6.mono B1.out.size))
        clear b6
        go_wp2_with fail
        go_roundw
        case rel => exact ⟨k + 1, hk1, by have := HIi.out; first | go_num | (congr 1; omega), HN, B6.out⟩
        case measure => have := HIi.out; simp [intOf]; omega
    · have HK : Hid (okO nx l) := Lib.hid (by have := HO.out; rwa [List.take_of_length_le (by omega)] at this)
      clear HO
      by_cases hz : nx = 0
      · have c5 : (nx == 0) = true := by simpa using hz
        have HZ := Lib.hid hz
        clear hz
        go_wp2_with fail
        refine bodyPost_ret (v := .tuple #[.pointer none, .int .i64 1]) (by simp [results, Try.results13, go_sem]) rfl ?_
        exact ⟨B1.out, .inr (.inr ⟨rfl, h32, fun h => h.2 HZ.out⟩)⟩
      · have c5 : (nx == 0) = false := by simpa using hz
        obtain ⟨v', w2, hrun, how, hbel⟩ := run_append_from (HP.out.below B1.out) H0.out (by omega) 50
        have HOw := Lib.hid how
        have HBl := Lib.hid hbel
        obtain ⟨av, cv, hv, _⟩ := owns_open how
        subst hv
        clear how hbel
        go_wp2_with (at_builtin; refine wpList_append_nil rfl (.tmp 59) 50 rfl rfl hrun ?_)
        have B2 := Lib.hid (B1.out.trans (HBl.out.mono B1.out.size))
        have bx := (Below.refl w2.heap.size w2).alloc (Nat.le_refl _) (.cells #[.slice av l.length cv, .int .u64 nx] 74)
        refine bodyPost_ret (v := .tuple #[.pointer (some ⟨w2.heap.size, 0, none⟩), .int .i64 0]) (by simp [results, Try.results13, go_sem]) rfl ?_
        exact ⟨B2.out.trans (bx.mono B2.out.size), .inl ⟨h32, HK.out, hz, w2.heap.size, _, rfl, ⟨Blk.new _ _ _, B2.out.size, owns_base (owns_below HOw.out bx) B1.out.size⟩⟩⟩

end Go.Proofs.Ytdbdeodcldogmaa
