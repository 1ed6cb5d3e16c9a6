/-
  The program's rats up to Compare, in worlds that never draw back.
-/
import Derived.Test.YtdbdeodcldogmaaRats2
import Derived.Sort.Grow
namespace Go.Proofs.Ytdbdeodcldogmaa
open Go.RowKit
set_option linter.unusedSimpArgs false
set_option linter.unusedVariables false

/-- Below, and no fewer draws. -/
structure BelowD (B : Nat) (w w' : World) : Prop extends Below B w w' where
  dr : w.drawn ≤ w'.drawn
theorem BelowD.refl (B : Nat) (w : World) : BelowD B w w := ⟨Below.refl B w, Nat.le_refl _⟩
theorem BelowD.trans {B : Nat} {a b c : World} (h : BelowD B a b) (k : BelowD B b c) : BelowD B a c := ⟨h.toBelow.trans k.toBelow, Nat.le_trans h.dr k.dr⟩
theorem BelowD.mono {B B' : Nat} {w w' : World} (h : BelowD B w w') (hb : B' ≤ B) : BelowD B' w w' := ⟨h.toBelow.mono hb, h.dr⟩
theorem BelowD.alloc {B : Nat} {a w : World} (h : BelowD B a w) (hb : B ≤ w.heap.size) (o : Obj) : BelowD B a (w.alloc o) := ⟨h.toBelow.alloc hb o, h.dr⟩
theorem BelowD.drew {B : Nat} {a w : World} (h : BelowD B a w) : BelowD B a w.drew := ⟨h.toBelow.drew, Nat.le_trans h.dr (Nat.le_succ _)⟩
theorem BelowD.setCell {B : Nat} {a w : World} (h : BelowD B a w) {p : Addr} (hp : B ≤ p.block) (u : Value) : BelowD B a (w.setCell p u) := ⟨h.toBelow.setCell hp u, h.dr⟩
/-- As the library's sort asks it: some draws, some blocks behind. -/
theorem BelowD.grown {w w' : World} (h : BelowD w.heap.size w w') : ∃ q os', w' = Go.Sort.grow (w.drewN q) os' := by
  refine ⟨w'.drawn - w.drawn, w'.heap.extract w.heap.size w'.heap.size, ?_⟩
  have hd := h.dr
  have hh : w'.heap = w.heap ++ w'.heap.extract w.heap.size w'.heap.size := by
    apply Array.ext_getElem?
    intro i
    by_cases hi : i < w.heap.size
    · rw [h.block i hi, Array.getElem?_append_left hi]
    · rw [Array.getElem?_append_right (by omega), Array.getElem?_extract]
      by_cases hi2 : i < w'.heap.size
      · rw [if_pos (by simp; omega)]; congr 1; omega
      · rw [if_neg (by simp; omega), Array.getElem?_eq_none (by omega)]
  obtain ⟨h0, h1, h2, h3, h4⟩ := w'
  obtain ⟨g0, g1, g2, g3, g4⟩ := w
  have e1 := h.os; have e2 := h.tape; have e3 := h.output
  simp only at hh e1 e2 e3 hd
  subst e1 e2 e3
  simp only [Go.Sort.grow, World.drewN]
  rw [← hh]
  congr 1
  omega

set_option maxHeartbeats 1000000 in
theorem divisor_any_d (a b : Int) (w : World) (ha : In64 a) (hb : In64 b) (h1 : 1 ≤ a) (h2 : 1 ≤ b) :
    Calls Try.prog 85 #[.int .i64 a, .int .i64 b] w fun e w' => e = .returned (.int .i64 (Int.gcd a b)) ∧ BelowD w.heap.size w w' := by
  have HA := Lib.hid ha; have HB := Lib.hid hb
  clear ha hb
  go_enter Try.func85, Try.ntmps85
  go_wp2
  refine wp_scope_jumps 0 (fun a' w' => BelowD w.heap.size w w' ∧ ∃ (x y : Int) (u2 u3 u4 u5 u6 u7 u8 u9 u10 u11 : Value), a' = { tmps := #[.int .i64 x, .int .i64 y, u2, u3, u4, u5, u6, u7, u8, u9, u10, u11], defers := [] } ∧ 1 ≤ x ∧ 0 ≤ y ∧ x ≤ 9223372036854775807 ∧ y ≤ 9223372036854775807 ∧ Int.gcd x y = Int.gcd a b) (fun a' _ => (intOf (a'.tmps.getD 1 undef)).toNat) rfl ?_ ?_
  · by_cases hb : b = 0
    · omega
    · have hnb : (b == 0) = false := by simp; omega
      have HG := Lib.hid (gcd_mod a b)
      have HLT := Lib.hid (Int.emod_lt_of_pos a (show 0 < b by omega)); have HGE := Lib.hid (Int.emod_nonneg a hb)
      go_wp2
      go_step3
      go_wp2
      go_region
      all_goals
        go_wp2
        go_step3
        exact ⟨rfl, (BelowD.refl _ _).drew, b, _, _, _, _, _, _, _, _, _, _, _, rfl, h2, HGE.out, HB.out.2, by have := HLT.out; have := HB.out.2; omega, HG.out⟩
  · rintro a' w' ⟨bel, x, y, u2, u3, u4, u5, u6, u7, u8, u9, u10, u11, rfl, hx, hy, hx2, hy2, hg⟩
    have HG := Lib.hid hg
    clear hg
    by_cases hb : y = 0
    · subst hb
      have e : ((Int.gcd x 0 : Nat) : Int) = x := by rw [Int.gcd_zero_right]; omega
      have hnn : ((0 : Int) == 0) = true := rfl
      go_wp2
      simp only [Exit.jump]
      go_ret
      exact ⟨by rw [← HG.out, e]; rfl, bel⟩
    · have hnb : (y == 0) = false := by simp; omega
      have HS := Lib.hid (gcd_mod x y)
      have HLT := Lib.hid (Int.emod_lt_of_pos x (show 0 < y by omega)); have HGE := Lib.hid (Int.emod_nonneg x hb)
      go_wp2
      go_region
      all_goals
        go_wp2
        go_step3
        refine ⟨rfl, ⟨bel.drew, y, _, _, _, _, _, _, _, _, _, _, _, rfl, by omega, HGE.out, hy2, by have := HLT.out; omega, by rw [HS.out]; exact HG.out⟩, ?_⟩
        have := HLT.out; have := HGE.out
        simp [intOf]; omega
theorem of_arg_d (n d : Int) (w : World) (h : n < 1 ∨ d < 1) :
    Calls Try.prog 70 #[.int .i64 n, .int .i64 d] w fun e w' => e = .returned (ofV n d) ∧ BelowD w.heap.size w w' := by
  rw [ofV_arg h]
  have q2 : Blk (w.alloc (.cells #[.int .i64 0, .int .i64 0] 37)) w.heap.size #[.int .i64 0, .int .i64 0] 37 := Blk.new _ _ _
  have hlt := q2.lt
  clear q2
  have hs : n < 1 ∨ (1 ≤ n ∧ d < 1) := by omega
  clear h
  rcases hs with h1 | ⟨h1, h2⟩
  all_goals
    go_enter Try.func70, Try.ntmps70
    go_wp2
    refine bodyPost_ret (v := .tuple #[.agg #[.int .i64 0, .int .i64 0], .int .i64 1]) (results_cell_and rfl _ _ w.heap.size 37 #[.int .i64 0, .int .i64 0] _ _ rfl (Blk.new w #[.int .i64 0, .int .i64 0] 37).out Try.underlying37 rfl (by kernel_rfl) rfl) rfl ⟨rfl, ?_⟩
    exact ((BelowD.refl _ _).alloc (Nat.le_refl _) _)
set_option maxHeartbeats 1000000 in
theorem of_two_d (n d g x y : Int) (w : World) (h1 : 1 ≤ n) (h2 : 1 ≤ d) (hn : In64 n) (hd : In64 d) (hg : (Int.gcd n d : Int) = g) (hx : n / g = x) (hy : d / g = y) (hx0 : 0 ≤ x) (hy0 : 0 ≤ y) (hxn : x ≤ n) (hyd : y ≤ d) (hg0 : 1 ≤ g) :
    Calls Try.prog 70 #[.int .i64 n, .int .i64 d] w fun e w' => e = .returned (if 1099511627776 < x ∨ 1099511627776 < y then .tuple #[.agg #[.int .i64 0, .int .i64 0], .int .i64 10] else .tuple #[.agg #[.int .i64 x, .int .i64 y], .int .i64 0]) ∧ BelowD w.heap.size w w' := by
  have c := Lib.hid (fun w => divisor_any_d n d w hn hd h1 h2)
  rw [hg] at c
  have e1 : Int.tdiv n g = x := by rw [← hx]; exact Int.tdiv_eq_ediv_of_nonneg (by omega)
  have e2 : Int.tdiv d g = y := by rw [← hy]; exact Int.tdiv_eq_ediv_of_nonneg (by omega)
  have ew1 : wrap64 x = x := wrap64_of x ⟨by omega, by have := hn.2; omega⟩
  have ew2 : wrap64 y = y := wrap64_of y ⟨by omega, by have := hd.2; omega⟩
  have q2 : Blk (w.alloc (.cells #[.int .i64 0, .int .i64 0] 37)) w.heap.size #[.int .i64 0, .int .i64 0] 37 := Blk.new _ _ _
  have b0 : BelowD w.heap.size w (w.alloc (.cells #[.int .i64 0, .int .i64 0] 37)) := (BelowD.refl _ _).alloc (Nat.le_refl _) _
  have Q2 := Lib.hid q2; have B0 := Lib.hid b0
  have hs : 1099511627776 < x ∨ (x ≤ 1099511627776 ∧ 1099511627776 < y) ∨ (x ≤ 1099511627776 ∧ y ≤ 1099511627776) := by omega
  clear q2 b0 hn hd
  rcases hs with o1 | ⟨o1, o2⟩ | ⟨o1, o2⟩
  · rw [if_pos (.inl o1)]
    go_enter Try.func70, Try.ntmps70
    go_wp2_with fail
    refine (c.out _).mono ?_
    rintro e w1 ⟨rfl, bw⟩
    have k1 := Q2.out.below bw.toBelow Q2.out.lt
    have B1 := Lib.hid (B0.out.trans (bw.mono (by simp)))
    have d0 := k1.cell 0; have d1 := k1.cell 1
    simp at d0 d1
    have f1 := k1.frozen
    have hz := k1.lt
    have K1 := Lib.hid k1
    clear k1 bw
    go_wp2
    go_region
    all_goals
      go_wp2
      refine bodyPost_ret (v := .tuple #[.agg #[.int .i64 0, .int .i64 0], .int .i64 10]) (results_cell_and rfl _ _ w.heap.size 37 #[.int .i64 0, .int .i64 0] _ _ rfl (Blk.drew (((K1.out.set 0 (.int .i64 0)).set 1 (.int .i64 0)).alloc _)).out Try.underlying37 rfl (by kernel_rfl) rfl) rfl ⟨rfl, ?_⟩
      first
      | exact ((((B1.out.alloc B1.out.size _).drew).setCell (Nat.le_refl _) _).setCell (Nat.le_refl _) _)
      | exact ((((B1.out.setCell (Nat.le_refl _) _).setCell (Nat.le_refl _) _).alloc (by simpa using B1.out.size) _).drew)
  · rw [if_pos (.inr o2)]
    go_enter Try.func70, Try.ntmps70
    go_wp2_with fail
    refine (c.out _).mono ?_
    rintro e w1 ⟨rfl, bw⟩
    have k1 := Q2.out.below bw.toBelow Q2.out.lt
    have B1 := Lib.hid (B0.out.trans (bw.mono (by simp)))
    have d0 := k1.cell 0; have d1 := k1.cell 1
    simp at d0 d1
    have f1 := k1.frozen
    have hz := k1.lt
    have K1 := Lib.hid k1
    clear k1 bw
    go_wp2
    go_region
    all_goals
      go_wp2
      refine bodyPost_ret (v := .tuple #[.agg #[.int .i64 0, .int .i64 0], .int .i64 10]) (results_cell_and rfl _ _ w.heap.size 37 #[.int .i64 0, .int .i64 0] _ _ rfl (Blk.drew (((K1.out.set 0 (.int .i64 0)).set 1 (.int .i64 0)).alloc _)).out Try.underlying37 rfl (by kernel_rfl) rfl) rfl ⟨rfl, ?_⟩
      first
      | exact ((((B1.out.alloc B1.out.size _).drew).setCell (Nat.le_refl _) _).setCell (Nat.le_refl _) _)
      | exact ((((B1.out.setCell (Nat.le_refl _) _).setCell (Nat.le_refl _) _).alloc (by simpa using B1.out.size) _).drew)
  · rw [if_neg (by omega)]
    go_enter Try.func70, Try.ntmps70
    go_wp2_with fail
    refine (c.out _).mono ?_
    rintro e w1 ⟨rfl, bw⟩
    have k1 := Q2.out.below bw.toBelow Q2.out.lt
    have B1 := Lib.hid (B0.out.trans (bw.mono (by simp)))
    have d0 := k1.cell 0; have d1 := k1.cell 1
    simp at d0 d1
    have f1 := k1.frozen
    have hz := k1.lt
    have K1 := Lib.hid k1
    clear k1 bw
    go_wp2
    go_region
    all_goals
      go_wp2
      refine bodyPost_ret (v := .tuple #[.agg #[.int .i64 x, .int .i64 y], .int .i64 0]) (results_cell_and rfl _ _ w.heap.size 37 #[.int .i64 x, .int .i64 y] _ _ rfl (Blk.drew (((K1.out.set 0 (.int .i64 x)).set 1 (.int .i64 y)).alloc _)).out Try.underlying37 rfl (by kernel_rfl) rfl) rfl ⟨rfl, ?_⟩
      first
      | exact ((((B1.out.alloc B1.out.size _).drew).setCell (Nat.le_refl _) _).setCell (Nat.le_refl _) _)
      | exact ((((B1.out.setCell (Nat.le_refl _) _).setCell (Nat.le_refl _) _).alloc (by simpa using B1.out.size) _).drew)
theorem of_rat_d (n d : Int) (w : World) (hn : In64 n) (hd : In64 d) :
    Calls Try.prog 70 #[.int .i64 n, .int .i64 d] w fun e w' => e = .returned (ofV n d) ∧ BelowD w.heap.size w w' := by
  by_cases h : n < 1 ∨ d < 1
  · exact of_arg_d n d w h
  · obtain ⟨g0, x0, xn, y0, yd⟩ := gcd_bd (n := n) (d := d) (by omega) (by omega)
    have := of_two_d n d _ _ _ w (by omega) (by omega) hn hd rfl rfl rfl x0 y0 xn yd g0
    refine this.mono fun e w' ⟨he, hb⟩ => ⟨?_, hb⟩
    rw [he]
    by_cases ho : 1099511627776 < n / Int.gcd n d ∨ 1099511627776 < d / Int.gcd n d
    · rw [if_pos ho, ofV_over (by omega) (by omega) rfl ho]
    · rw [if_neg ho, ofV_good (by omega) (by omega) rfl ho]
set_option maxHeartbeats 1000000 in
theorem allowed_any_d (n d : Int) (w : World) (hn : In64 n) (hd : In64 d) :
    Calls Try.prog 55 #[.agg #[.int .i64 n, .int .i64 d]] w fun e w' => e = .returned (.agg #[.int .i64 (alN n d), .int .i64 (alD n d)]) ∧ BelowD w.heap.size w w' := by
  have c := Lib.hid (fun w => of_rat_d n d w hn hd)
  unfold ofV at c
  have hs : (ofN n d = n ∧ ofD n d = d ∧ alN n d = n ∧ alD n d = d) ∨ (ofN n d ≠ n ∧ alN n d = 0 ∧ alD n d = 0) ∨ (ofN n d = n ∧ ofD n d ≠ d ∧ alN n d = 0 ∧ alD n d = 0) := by
    unfold alN alD
    by_cases hm : MayN n d
    · rw [(may_iff n d).2 hm]; obtain ⟨a, b⟩ := of_self hm; exact .inl ⟨a, b, rfl, rfl⟩
    · have e : mayB n d = false := by rw [Bool.eq_false_iff]; exact fun h => hm ((may_iff n d).1 h)
      rw [e]
      rcases of_not hm with ⟨a, b, rfl, rfl⟩ | h | h
      · exact .inl ⟨a, b, rfl, rfl⟩
      · exact .inr (.inl ⟨h, rfl, rfl⟩)
      · by_cases h' : ofN n d = n
        · exact .inr (.inr ⟨h', h, rfl, rfl⟩)
        · exact .inr (.inl ⟨h', rfl, rfl⟩)
  generalize ofN n d = x at *
  generalize ofD n d = y at *
  generalize ofE n d = z at *
  have k1 : Blk ((w.alloc (.cells #[.int .i64 n, .int .i64 d] 37)).alloc (.cells #[.int .i64 0, .int .i64 0] 37)) w.heap.size #[.int .i64 n, .int .i64 d] 37 := (Blk.new _ _ _).alloc _
  have k2 : Blk ((w.alloc (.cells #[.int .i64 n, .int .i64 d] 37)).alloc (.cells #[.int .i64 0, .int .i64 0] 37)) (w.heap.size + 1) #[.int .i64 0, .int .i64 0] 37 := Blk.newAt _ _ _ (by simp)
  have b0 : BelowD w.heap.size w ((w.alloc (.cells #[.int .i64 n, .int .i64 d] 37)).alloc (.cells #[.int .i64 0, .int .i64 0] 37)) := ((BelowD.refl _ _).alloc (Nat.le_refl _) _).alloc (by simp) _
  have K1 := Lib.hid k1; have K2 := Lib.hid k2; have B0 := Lib.hid b0
  clear k1 k2 b0 hn hd
  rcases hs with ⟨e1, e2, e3, e4⟩ | ⟨e1, e3, e4⟩ | ⟨e1, e2, e3, e4⟩
  · rw [e3, e4]
    subst e1 e2
    clear e3 e4
    go_enter Try.func55, Try.ntmps55
    go_wp2_with fail
    refine (c.out _).mono ?_
    rintro e w1 ⟨rfl, bw⟩
    have q1 := K1.out.below bw.toBelow K1.out.lt; have q2 := K2.out.below bw.toBelow K2.out.lt
    have B1 := Lib.hid (B0.out.trans (bw.mono (by simp; omega)))
    have d0 := q1.cell 0; have d1 := q1.cell 1; have e0 := q2.cell 0; have e1 := q2.cell 1
    simp at d0 d1 e0 e1
    have f2 := q2.frozen
    have hz := q1.lt; have hz2 := q2.lt
    have Q1 := Lib.hid q1; have Q2 := Lib.hid q2
    clear q1 q2 bw
    go_wp2
    refine bodyPost_ret (v := .agg #[.int .i64 x, .int .i64 y]) (results_cell_row rfl _ _ (w.heap.size + 1) 37 #[.int .i64 x, .int .i64 y] (0, 0) _ rfl (((Q2.out.set 0 (.int .i64 x)).set 1 (.int .i64 y)).alloc _).out Try.underlying37 rfl (by kernel_rfl)) rfl ⟨by simp, ?_⟩
    exact (((B1.out.setCell (by simp) _).setCell (by simp) _).alloc (by simpa using B1.out.size) _)
  · rw [e3, e4]
    have e5 : (x == n) = false := by simp [e1]
    clear e1 e3 e4
    go_enter Try.func55, Try.ntmps55
    go_wp2_with fail
    refine (c.out _).mono ?_
    rintro e w1 ⟨rfl, bw⟩
    have q1 := K1.out.below bw.toBelow K1.out.lt; have q2 := K2.out.below bw.toBelow K2.out.lt
    have B1 := Lib.hid (B0.out.trans (bw.mono (by simp; omega)))
    have d0 := q1.cell 0; have d1 := q1.cell 1; have e0 := q2.cell 0; have e1 := q2.cell 1
    simp at d0 d1 e0 e1
    have f2 := q2.frozen
    have hz := q1.lt; have hz2 := q2.lt
    have Q1 := Lib.hid q1; have Q2 := Lib.hid q2
    clear q1 q2 bw
    go_wp2
    refine bodyPost_ret (v := .agg #[.int .i64 0, .int .i64 0]) (results_cell_row rfl _ _ (w.heap.size + 1) 37 #[.int .i64 0, .int .i64 0] (0, 0) _ rfl (((Q2.out.set 0 (.int .i64 0)).set 1 (.int .i64 0)).alloc _).out Try.underlying37 rfl (by kernel_rfl)) rfl ⟨by simp, ?_⟩
    exact (((B1.out.setCell (by simp) _).setCell (by simp) _).alloc (by simpa using B1.out.size) _)
  · rw [e3, e4]
    subst e1
    have e5 : (y == d) = false := by simp [e2]
    clear e2 e3 e4
    go_enter Try.func55, Try.ntmps55
    go_wp2_with fail
    refine (c.out _).mono ?_
    rintro e w1 ⟨rfl, bw⟩
    have q1 := K1.out.below bw.toBelow K1.out.lt; have q2 := K2.out.below bw.toBelow K2.out.lt
    have B1 := Lib.hid (B0.out.trans (bw.mono (by simp; omega)))
    have d0 := q1.cell 0; have d1 := q1.cell 1; have e0 := q2.cell 0; have e1 := q2.cell 1
    simp at d0 d1 e0 e1
    have f2 := q2.frozen
    have hz := q1.lt; have hz2 := q2.lt
    have Q1 := Lib.hid q1; have Q2 := Lib.hid q2
    clear q1 q2 bw
    go_wp2
    refine bodyPost_ret (v := .agg #[.int .i64 0, .int .i64 0]) (results_cell_row rfl _ _ (w.heap.size + 1) 37 #[.int .i64 0, .int .i64 0] (0, 0) _ rfl (((Q2.out.set 0 (.int .i64 0)).set 1 (.int .i64 0)).alloc _).out Try.underlying37 rfl (by kernel_rfl)) rfl ⟨by simp, ?_⟩
    exact (((B1.out.setCell (by simp) _).setCell (by simp) _).alloc (by simpa using B1.out.size) _)
set_option maxHeartbeats 1000000 in
theorem may_any_d (n d : Int) (w : World) (hn : In64 n) (hd : In64 d) :
    Calls Try.prog 35 #[.agg #[.int .i64 n, .int .i64 d]] w fun e w' => e = .returned (.bool (mayB n d)) ∧ BelowD w.heap.size w w' := by
  have c := Lib.hid (fun w => allowed_any_d n d w hn hd)
  have B0 := Lib.hid ((BelowD.refl w.heap.size w).alloc (Nat.le_refl _) (.cells #[.int .i64 n, .int .i64 d] 37))
  clear hn hd
  rcases al_cases n d with ⟨hm, h1, h2, h3, h4, h5, h6⟩ | ⟨hm, h1, h2⟩
  · rw [h1, h2] at c
    rw [hm]
    have e1 : (n == 0) = false := by simp; omega
    clear h1 h2 h4 h5 h6 h3
    go_enter Try.func35, Try.ntmps35
    go_wp2_with fail
    refine (c.out _).mono ?_
    rintro e w1 ⟨rfl, b1⟩
    go_wp2_with fail
    go_ret
    exact ⟨rfl, B0.out.trans (b1.mono (by simp))⟩
  · rw [h1, h2] at c
    rw [hm]
    clear h1 h2
    go_enter Try.func35, Try.ntmps35
    go_wp2_with fail
    refine (c.out _).mono ?_
    rintro e w1 ⟨rfl, b1⟩
    go_wp2_with fail
    go_ret
    exact ⟨rfl, B0.out.trans (b1.mono (by simp))⟩
set_option maxHeartbeats 1000000 in
theorem compare_any_d (an ad bn bd : Int) (w : World) (h1 : In64 an) (h2 : In64 ad) (h3 : In64 bn) (h4 : In64 bd) :
    Calls Try.prog 36 #[.agg #[.int .i64 an, .int .i64 ad], .agg #[.int .i64 bn, .int .i64 bd]] w fun e w' => e = .returned (.int .i64 (cmpR an ad bn bd)) ∧ BelowD w.heap.size w w' := by
  have c1 := Lib.hid (fun w => may_any_d an ad w h1 h2)
  have c2 := Lib.hid (fun w => may_any_d bn bd w h3 h4)
  have k1 : Blk ((w.alloc (.cells #[.int .i64 an, .int .i64 ad] 37)).alloc (.cells #[.int .i64 bn, .int .i64 bd] 37)) w.heap.size #[.int .i64 an, .int .i64 ad] 37 := (Blk.new _ _ _).alloc _
  have k2 : Blk ((w.alloc (.cells #[.int .i64 an, .int .i64 ad] 37)).alloc (.cells #[.int .i64 bn, .int .i64 bd] 37)) (w.heap.size + 1) #[.int .i64 bn, .int .i64 bd] 37 := Blk.newAt _ _ _ (by simp)
  have b0 : BelowD w.heap.size w ((w.alloc (.cells #[.int .i64 an, .int .i64 ad] 37)).alloc (.cells #[.int .i64 bn, .int .i64 bd] 37)) := ((BelowD.refl _ _).alloc (Nat.le_refl _) _).alloc (by simp) _
  have K1 := Lib.hid k1; have K2 := Lib.hid k2; have B0 := Lib.hid b0
  clear k1 k2 b0 h1 h2 h3 h4
  by_cases hm : mayB an ad = true
  · by_cases hm2 : mayB bn bd = true
    · rw [show cmpR an ad bn bd = cmpI (an * bd) (bn * ad) by unfold cmpR; rw [if_pos ⟨hm, hm2⟩], ← cmp_words]
      obtain ⟨p1, p2, p3, p4, _⟩ := may_bd hm
      obtain ⟨q1, q2, q3, q4, _⟩ := may_bd hm2
      rw [hm] at c1; rw [hm2] at c2
      have u1 : IntKind.u64.wrap an = an := u64_of _ ⟨by omega, by omega⟩
      have u2 : IntKind.u64.wrap ad = ad := u64_of _ ⟨by omega, by omega⟩
      have u3 : IntKind.u64.wrap bn = bn := u64_of _ ⟨by omega, by omega⟩
      have u4 : IntKind.u64.wrap bd = bd := u64_of _ ⟨by omega, by omega⟩
      have cm1 := Lib.hid (fun w => mul64_any an bd w ⟨by omega, by omega⟩ ⟨by omega, by omega⟩)
      have cm2 := Lib.hid (fun w => mul64_any bn ad w ⟨by omega, by omega⟩ ⟨by omega, by omega⟩)
      have cc := Lib.hid compare_u64
      generalize an * bd = x at *
      generalize bn * ad = y at *
      clear hm hm2 p1 p2 p3 p4 q1 q2 q3 q4
      go_enter Try.func36, Try.ntmps36
      go_wp2_with fail
      refine (c1.out _).mono ?_
      rintro e w1 ⟨rfl, b1⟩
      have B1 := Lib.hid (B0.out.trans (b1.mono (by simp; omega)))
      have r1 := K1.out.below b1.toBelow K1.out.lt; have r2 := K2.out.below b1.toBelow K2.out.lt
      have d0 := r1.cell 0; have d1 := r1.cell 1; have e0 := r2.cell 0; have e1 := r2.cell 1
      simp at d0 d1 e0 e1
      have R1 := Lib.hid r1; have R2 := Lib.hid r2
      clear r1 r2 b1
      go_wp2_with fail
      refine (c2.out _).mono ?_
      rintro e w2 ⟨rfl, b2⟩
      have B2 := Lib.hid (B1.out.trans (b2.mono B1.out.size))
      have r1 := R1.out.below b2.toBelow R1.out.lt; have r2 := R2.out.below b2.toBelow R2.out.lt
      clear d0 d1 e0 e1
      have d0 := r1.cell 0; have d1 := r1.cell 1; have e0 := r2.cell 0; have e1 := r2.cell 1
      simp at d0 d1 e0 e1
      clear r1 r2 b2
      go_wp2_with fail
      refine (cm1.out _).mono ?_
      rintro e w2 ⟨rfl, rfl⟩
      go_wp2_with fail
      refine (cm2.out _).mono ?_
      rintro e w2 ⟨rfl, rfl⟩
      go_wp2_with fail
      refine (cc.out _ _ _).mono ?_
      rintro e w2 ⟨rfl, rfl⟩
      go_wp2_with fail
      refine (cc.out _ _ _).mono ?_
      rintro e w2 ⟨rfl, rfl⟩
      go_wp2_with fail
      refine (or_two w2.heap.size _ (cmpI (x / 18446744073709551616) (y / 18446744073709551616)) (cmpI (x % 18446744073709551616) (y % 18446744073709551616)) _ (by simp) (by simp) (by simp)).mono ?_
      rintro e w2 ⟨rfl, rfl⟩
      go_wp2_with fail
      go_ret
      exact ⟨rfl, B2.out.alloc B2.out.size _⟩
    · rw [show cmpR an ad bn bd = 0 by unfold cmpR; rw [if_neg (by simp [hm2])]]
      simp only [Bool.not_eq_true] at hm2
      rw [hm] at c1; rw [hm2] at c2
      clear hm hm2
      go_enter Try.func36, Try.ntmps36
      go_wp2_with fail
      refine (c1.out _).mono ?_
      rintro e w1 ⟨rfl, b1⟩
      have B1 := Lib.hid (B0.out.trans (b1.mono (by simp; omega)))
      have r2 := K2.out.below b1.toBelow K2.out.lt
      have e0 := r2.cell 0; have e1 := r2.cell 1
      simp at e0 e1
      clear r2 b1
      go_wp2_with fail
      refine (c2.out _).mono ?_
      rintro e w2 ⟨rfl, b2⟩
      go_wp2_with fail
      go_ret
      exact ⟨rfl, B1.out.trans (b2.mono B1.out.size)⟩
  · rw [show cmpR an ad bn bd = 0 by unfold cmpR; rw [if_neg (by simp [hm])]]
    simp only [Bool.not_eq_true] at hm
    rw [hm] at c1
    clear hm
    go_enter Try.func36, Try.ntmps36
    go_wp2_with fail
    refine (c1.out _).mono ?_
    rintro e w1 ⟨rfl, b1⟩
    go_wp2_with fail
    go_ret
    exact ⟨rfl, B0.out.trans (b1.mono (by simp; omega))⟩

end Go.Proofs.Ytdbdeodcldogmaa
