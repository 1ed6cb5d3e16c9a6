/-
  The document's answers for layer 1, continued: a size by another one.
-/
import Derived.Test.YtdkmbbjdoonomaaRef01d
namespace Go.Proofs.Ytdkmbbjdoonomaa
open Go.RowKit
set_option linter.unusedSimpArgs false
set_option linter.unusedVariables false

/-- One digit of a quotient, from above. -/
theorem div_step (x y k : Nat) (hy : 0 < y) :
    x / 2 ^ k / y = 2 * (x / 2 ^ (k + 1) / y) + (if y ≤ 2 * (x / 2 ^ (k + 1) % y) + (if x.testBit k then 1 else 0) then 1 else 0) ∧
    x / 2 ^ k % y = 2 * (x / 2 ^ (k + 1) % y) + (if x.testBit k then 1 else 0) - (if y ≤ 2 * (x / 2 ^ (k + 1) % y) + (if x.testBit k then 1 else 0) then y else 0) := by
  have hh := half_bit x k
  rw [hh]
  generalize x / 2 ^ (k + 1) = n at *
  have hb : (if x.testBit k then 1 else 0 : Nat) ≤ 1 := by split <;> omega
  generalize (if x.testBit k then 1 else 0 : Nat) = b at *
  have hdm := Nat.div_add_mod n y
  have hm := Nat.mod_lt n hy
  have e : 2 * n + b = y * (2 * (n / y)) + (2 * (n % y) + b) := by
    rw [Nat.mul_left_comm]; omega
  have e1 : (2 * n + b) / y = 2 * (n / y) + (2 * (n % y) + b) / y := by rw [e, Nat.mul_add_div hy]
  have e2 : (2 * n + b) % y = (2 * (n % y) + b) % y := by rw [e, Nat.mul_add_mod]
  rw [e1, e2]
  generalize n % y = r at *
  by_cases h : y ≤ 2 * r + b
  · rw [if_pos h, if_pos h]
    have e3 : (2 * r + b) / y = 1 := Nat.div_eq_of_lt_le (by omega) (by omega)
    have e4 : (2 * r + b) % y = 2 * r + b - y := by rw [Nat.mod_eq_sub_mod h, Nat.mod_eq_of_lt (by omega)]
    rw [e3, e4]; omega
  · have e3 : (2 * r + b) / y = 0 := Nat.div_eq_of_lt (by omega)
    have e4 : (2 * r + b) % y = 2 * r + b := Nat.mod_eq_of_lt (by omega)
    rw [if_neg h, if_neg h, e3, e4]; omega
theorem quot_bit (x y k : Nat) (hy : 0 < y) : (x / y).testBit k = decide (y ≤ 2 * (x / 2 ^ (k + 1) % y) + (if x.testBit k then 1 else 0)) := by
  have h := (div_step x y k hy).1
  rw [Nat.testBit_eq_decide_div_mod_eq, Nat.div_div_eq_div_mul, Nat.mul_comm y, ← Nat.div_div_eq_div_mul, h, decide_eq_decide]
  generalize x / 2 ^ (k + 1) / y = m
  by_cases hc : y ≤ 2 * (x / 2 ^ (k + 1) % y) + (if x.testBit k then 1 else 0)
  · rw [if_pos hc]; simp only [hc, iff_true]; omega
  · rw [if_neg hc]; simp only [hc, iff_false]; omega

theorem double_set (r : Nat) (b : Bool) : (arr (r * 2 ^ 1).testBit).setIfInBounds 0 (.bool b) = arr (2 * r + (if b then 1 else 0)).testBit := by
  rw [arr_set]
  refine arr_congr fun j hj => ?_
  cases j with
  | zero => cases b <;> simp [Nat.testBit_zero] <;> omega
  | succ j =>
    rw [if_neg (by omega), Nat.testBit_succ, Nat.testBit_succ]
    congr 1
    cases b <;> simp <;> omega
theorem above_set (q k : Nat) (h : q.testBit k = true) : (arr fun j => decide (k + 1 ≤ j) && q.testBit j).setIfInBounds k (.bool true) = arr fun j => decide (k ≤ j) && q.testBit j := by
  rw [arr_set]
  refine arr_congr fun j hj => ?_
  by_cases h1 : j = k
  · subst h1; simp [h]
  · have : (k + 1 ≤ j) = (k ≤ j) := by simp; omega
    simp [h1, this]
theorem above_skip (q k : Nat) (h : q.testBit k = false) : (arr fun j => decide (k + 1 ≤ j) && q.testBit j) = arr fun j => decide (k ≤ j) && q.testBit j := by
  refine arr_congr fun j hj => ?_
  by_cases h1 : j = k
  · subst h1; simp [h]
  · have : (k + 1 ≤ j) = (k ≤ j) := by simp; omega
    simp [this]

theorem results_cells2 {P : Program} {fn : Func} {p q : Tmp} {ty : TypeId} (h : fn.results = #[.cell p ty, .cell q ty]) (tmps : Array Value) (w : World) (g g' : Nat) (t : TypeId) (cs cs' : Array Value) (d : TypeDesc)
    (hp : tmps.getD p undef = .pointer (some ⟨g, 0, none⟩)) (hq : tmps.getD q undef = .pointer (some ⟨g', 0, none⟩)) (hg : w.heap[g]? = some (.cells cs t (0, 0))) (hg' : w.heap[g']? = some (.cells cs' t (0, 0)))
    (hu : P.underlying ty = some d) (hd : (match d with | .struct _ | .array _ _ => true | _ => false) = true) (hi : (P.info? ty).map (·.size) = some cs.size) (hi' : (P.info? ty).map (·.size) = some cs'.size) :
    (results fn tmps).run P w = .ok (.tuple #[.agg cs, .agg cs']) w := by
  have hp' : tmps[p]?.getD undef = .pointer (some ⟨g, 0, none⟩) := by simpa using hp
  have hq' : tmps[q]?.getD undef = .pointer (some ⟨g', 0, none⟩) := by simpa using hq
  simp [results, h, hp', hq', asAddr, run_loadVar_row w g t ty cs (0, 0) d hg hu hd hi, run_loadVar_row w g' t ty cs' (0, 0) d hg' hu hd hi']

/-- Divided, at the head of its loop: the bits from k on are done. -/
def DivAt (x y : Nat) (w : World) (i : Value) (wr : World) : Prop :=
  ∃ k : Nat, k ≤ 192 ∧ i = .int .i64 ((k : Int) - 1) ∧ Blk wr w.heap.size (arr x.testBit) 47 ∧ Blk wr (w.heap.size + 1) (arr y.testBit) 47 ∧
    Blk wr (w.heap.size + 1 + 1) (arr fun _ => false) 47 ∧ Blk wr (w.heap.size + 1 + 1 + 1) (arr fun _ => false) 47 ∧
    Blk wr (w.heap.size + 1 + 1 + 1 + 1) (arr fun j => decide (k ≤ j) && (x / y).testBit j) 47 ∧ Blk wr (w.heap.size + 1 + 1 + 1 + 1 + 1) (arr (x / 2 ^ k % y).testBit) 47 ∧ Below w.heap.size w wr
/-- Divided, in its last statement: what each of the blocks holds, by what is done. -/
def DivI (x y : Nat) (w : World) (D : Nat → Bool) (w' : World) : Prop :=
  Blk w' (w.heap.size + 1 + 1 + 1 + 1) (arr (x / y).testBit) 47 ∧ Blk w' (w.heap.size + 1 + 1 + 1 + 1 + 1) (arr (x % y).testBit) 47 ∧
  Blk w' (w.heap.size + 1 + 1) (if D 2 then arr (x / y).testBit else arr fun _ => false) 47 ∧ Blk w' (w.heap.size + 1 + 1 + 1) (if D 3 then arr (x % y).testBit else arr fun _ => false) 47 ∧ Below w.heap.size w w'
set_option maxHeartbeats 8000000 in
set_option maxRecDepth 100000 in
theorem divided_any (x y : Nat) (w : World) (hx : x < 2 ^ 192) (hy0 : 0 < y) (hy : y < 2 ^ 191) :
    Calls Try.prog 46 #[bitsV x, bitsV y] w fun e w' => e = .returned (.tuple #[bitsV (x / y), bitsV (x % y)]) ∧ Below w.heap.size w w' := by
  have hz := zero_arr
  have HX := Lib.hid hx; have HY0 := Lib.hid hy0; have HY := Lib.hid hy
  clear hx hy0 hy
  rw [bitsV_eq, bitsV_eq]
  go_enter Try.func46, Try.ntmps46
  go_wp2_with fail
  go_loopw [8] (DivAt x y w) (fun i _ => (intOf i + 1).toNat)
  case atStart =>
    refine ⟨192, by omega, rfl, ?_, ?_, ?_, ?_, ?_, ?_, ((((((Below.refl _ _).alloc (Nat.le_refl _) _).alloc (by simp) _).alloc (by simp; omega) _).alloc (by simp; omega) _).alloc (by simp; omega) _).alloc (by simp; omega) _⟩
    · exact (((((Blk.new _ _ _).alloc _).alloc _).alloc _).alloc _).alloc _
    · exact ((((Blk.newAt _ _ _ (by simp)).alloc _).alloc _).alloc _).alloc _
    · exact (((Blk.newAt _ _ _ (by simp)).alloc _).alloc _).alloc _
    · exact ((Blk.newAt _ _ _ (by simp)).alloc _).alloc _
    · rw [show (arr fun j => decide (192 ≤ j) && (x / y).testBit j) = arr fun _ => false from arr_congr fun i hi => by simp; omega]
      exact (Blk.newAt _ _ _ (by simp)).alloc _
    · rw [Nat.div_eq_of_lt HX.out, Nat.zero_mod, show (Nat.testBit 0) = fun _ => false from funext Nat.zero_testBit]
      exact Blk.newAt _ _ _ (by simp)
  case round =>
    obtain ⟨k, hk, rfl, b0, b1, b2, b3, b4, b5, hb⟩ := hrel
    rcases k with _ | k
    · simp only [Nat.pow_zero, Nat.div_one] at b5
      rw [show (arr fun j => decide (0 ≤ j) && (x / y).testBit j) = arr (x / y).testBit from arr_congr fun i hi => by simp] at b4
      go_wp2_with fail
      refine region_inv (by kernel_rfl) [.agg (arr (x / y).testBit), .agg (arr (x % y).testBit), undef, undef] (DivI x y w) (by kernel_rfl) ⟨b4, b5, by simpa using b2.drew, by simpa using b3.drew, hb.drew⟩ ?_
      intro af haf
      simp only [puts, Act.put, List.getD_cons_zero, List.getD_cons_succ, List.setIfInBounds_toArray, List.set_cons_succ, List.set_cons_zero] at haf
      subst haf
      refine ⟨?_, ?_⟩
      · simp only [EachIn]
        refine ⟨?_, ?_, ?_, ?_, trivial⟩
        all_goals
          intro D w' hD hwt hcl hI
          obtain ⟨i4, i5, i2, i3, ib⟩ := hI
          with_reducible refine OpTo.plain ?_ ?_
          exact rfl
        · exact wp_load_row 47 (.tmp 6) rfl (w.heap.size + 1 + 1 + 1 + 1) rfl 47 (arr (x / y).testBit) (0, 0) _ i4.out Try.underlying47 rfl (info_arr _) ⟨rfl, i4, i5, by simpa [ins] using i2, by simpa [ins] using i3, ib⟩
        · exact wp_load_row 47 (.tmp 7) rfl (w.heap.size + 1 + 1 + 1 + 1 + 1) rfl 47 (arr (x % y).testBit) (0, 0) _ i5.out Try.underlying47 rfl (info_arr _) ⟨rfl, i4, i5, by simpa [ins] using i2, by simpa [ins] using i3, ib⟩
        · rw [hD] at i2
          refine wp_store_row 47 (.tmp 4) (.tmp 28) rfl (w.heap.size + 1 + 1) (arr (x / y).testBit) rfl rfl 47 _ i2.out (info_arr _) (by simp only [Bool.false_eq_true, if_false, arr_size]) (arr_one _) ⟨rfl, ?_⟩
          exact ⟨i4.rowOther (by omega), i5.rowOther (by omega), by simpa [ins] using i2.row, by simpa [ins] using i3.rowOther (by omega), below_setRow ib (by omega) _⟩
        · rw [hD] at i3
          refine wp_store_row 47 (.tmp 5) (.tmp 29) rfl (w.heap.size + 1 + 1 + 1) (arr (x % y).testBit) rfl rfl 47 _ i3.out (info_arr _) (by simp only [Bool.false_eq_true, if_false, arr_size]) (arr_one _) ⟨rfl, ?_⟩
          exact ⟨i4.rowOther (by omega), i5.rowOther (by omega), by simpa [ins] using i2.rowOther (by omega), by simpa [ins] using i3.row, below_setRow ib (by omega) _⟩
      · intro D w' hall hI
        obtain ⟨i4, i5, i2, i3, ib⟩ := hI
        rw [hall 2 (by simp)] at i2
        rw [hall 3 (by simp)] at i3
        go_wp2_with fail
        exact bodyPost_ret (v := .tuple #[bitsV (x / y), bitsV (x % y)]) (results_cells2 rfl _ _ (w.heap.size + 1 + 1) (w.heap.size + 1 + 1 + 1) 47 (arr (x / y).testBit) (arr (x % y).testBit) _ rfl rfl i2.out i3.out Try.underlying47 rfl (info_arr _) (info_arr _)) rfl ⟨rfl, ib⟩
    · have hki : ((k + 1 : Nat) : Int) - 1 = k := by omega
      rw [hki]
      have hk1 : (k : Int) < 192 := by omega
      obtain ⟨r, hr⟩ : ∃ r, x / 2 ^ (k + 1) % y = r := ⟨_, rfl⟩
      have hst := div_step x y k HY0.out
      have hqb := quot_bit x y k HY0.out
      rw [hr] at b5 hst hqb
      have hry : r < y := by rw [← hr]; exact Nat.mod_lt _ HY0.out
      have hy191 := HY.out
      have S1 := Lib.hid hst.2; have S2 := Lib.hid hqb; have RY := Lib.hid hry
      clear hst hr hqb hki hry
      generalize hbit : x.testBit k = b at S1 S2
      have BT := Lib.hid hbit
      have csh := Lib.hid (fun w => rshift_any r 1 w (by omega))
      have hlt1 : 2 * r + (if b then 1 else 0) < 2 ^ 192 := by
        have := RY.out
        have e : (2 : Nat) ^ 192 = 2 * 2 ^ 191 := by rw [Nat.pow_succ, Nat.mul_comm]
        rw [e]
        split <;> omega
      have cgr := Lib.hid (fun w => rgreater_any y (2 * r + (if b then 1 else 0)) w (Nat.lt_trans hy191 (by rw [show (2 : Nat) ^ 192 = 2 ^ 191 * 2 from Nat.pow_succ ..]; have := Nat.two_pow_pos 191; omega)) hlt1)
      clear hlt1 hy191 hbit
      go_upto_region 5 with fail
      go_wp2_with ((with_reducible refine wpList_load_row ?_ 47 (.tmp 7) ?_ (w.heap.size + 1 + 1 + 1 + 1 + 1) ?_ 47 (arr r.testBit) (0, 0) _ b5.out Try.underlying47 ?_ (info_arr _) ?_); exact rfl; exact rfl; exact rfl; exact rfl)
      refine (csh.out _).mono ?_
      rw [bitsV_eq]
      rintro e w1 ⟨rfl, hb1⟩
      have a0 := b0.below hb1 b0.lt; have a1 := b1.below hb1 b1.lt; have a2 := b2.below hb1 b2.lt; have a3 := b3.below hb1 b3.lt; have a4 := b4.below hb1 b4.lt; have a5 := b5.below hb1 b5.lt
      have ha := hb.trans (hb1.mono hb.size)
      clear b0 b1 b2 b3 b4 b5 hb hb1
      go_upto_region 6 with ((with_reducible refine wpList_store_row ?_ 47 (.tmp 7) (.tmp 14) ?_ (w.heap.size + 1 + 1 + 1 + 1 + 1) (arr (r * 2 ^ 1).testBit) ?_ ?_ 47 _ a5.out (info_arr _) (by simp only [arr_size]) (arr_one _) ?_); exact rfl; exact rfl; exact rfl; exact rfl)
      have c0 : Blk (w1.setRow (w.heap.size + 1 + 1 + 1 + 1 + 1) (arr (r * 2 ^ 1).testBit)) w.heap.size (arr x.testBit) 47 := a0.rowOther (by omega)
      have c1 : Blk (w1.setRow (w.heap.size + 1 + 1 + 1 + 1 + 1) (arr (r * 2 ^ 1).testBit)) (w.heap.size + 1) (arr y.testBit) 47 := a1.rowOther (by omega)
      have c2 : Blk (w1.setRow (w.heap.size + 1 + 1 + 1 + 1 + 1) (arr (r * 2 ^ 1).testBit)) (w.heap.size + 1 + 1) (arr fun _ => false) 47 := a2.rowOther (by omega)
      have c3 : Blk (w1.setRow (w.heap.size + 1 + 1 + 1 + 1 + 1) (arr (r * 2 ^ 1).testBit)) (w.heap.size + 1 + 1 + 1) (arr fun _ => false) 47 := a3.rowOther (by omega)
      have c4 : Blk (w1.setRow (w.heap.size + 1 + 1 + 1 + 1 + 1) (arr (r * 2 ^ 1).testBit)) (w.heap.size + 1 + 1 + 1 + 1) (arr fun j => decide (k + 1 ≤ j) && (x / y).testBit j) 47 := a4.rowOther (by omega)
      have c5 : Blk (w1.setRow (w.heap.size + 1 + 1 + 1 + 1 + 1) (arr (r * 2 ^ 1).testBit)) (w.heap.size + 1 + 1 + 1 + 1 + 1) (arr (r * 2 ^ 1).testBit) 47 := a5.row
      have hc := below_setRow ha (show w.heap.size ≤ (w.heap.size + 1 + 1 + 1 + 1 + 1) by omega) (arr (r * 2 ^ 1).testBit)
      generalize w1.setRow (w.heap.size + 1 + 1 + 1 + 1 + 1) (arr (r * 2 ^ 1).testBit) = w2 at *
      clear a0 a1 a2 a3 a4 a5 ha
      have hcell : w2.cell? ⟨w.heap.size, k, none⟩ = some (.bool b) := by rw [c0.cell k, arr_get _ _ (by omega), BT.out]
      have hcell5 : w2.cell? ⟨w.heap.size + 1 + 1 + 1 + 1 + 1, 0, none⟩ = some (.bool ((r * 2 ^ 1).testBit 0)) := by rw [c5.cell 0, arr_get _ _ (by omega)]
      have hf5 := c5.frozen 0
      have d0 := c0.setOther (a := ⟨w.heap.size + 1 + 1 + 1 + 1 + 1, 0, none⟩) (by simp; omega) (.bool b)
      have d1 := c1.setOther (a := ⟨w.heap.size + 1 + 1 + 1 + 1 + 1, 0, none⟩) (by simp) (.bool b)
      have d2 := c2.setOther (a := ⟨w.heap.size + 1 + 1 + 1 + 1 + 1, 0, none⟩) (by simp) (.bool b)
      have d3 := c3.setOther (a := ⟨w.heap.size + 1 + 1 + 1 + 1 + 1, 0, none⟩) (by simp) (.bool b)
      have d4 := c4.setOther (a := ⟨w.heap.size + 1 + 1 + 1 + 1 + 1, 0, none⟩) (by simp) (.bool b)
      have d5 := c5.set 0 (.bool b)
      rw [double_set] at d5
      have hd := hc.setCell (p := ⟨w.heap.size + 1 + 1 + 1 + 1 + 1, 0, none⟩) (by simp; omega) (.bool b)
      clear c0 c1 c2 c3 c4 c5 hc
      have D0 := Lib.hid d0; have D1 := Lib.hid d1; have D2 := Lib.hid d2; have D3 := Lib.hid d3; have D4 := Lib.hid d4; have D5 := Lib.hid d5; have HD := Lib.hid hd
      clear d0 d1 d2 d3 d4 d5 hd
      go_upto_region 7 with fail
      generalize w2.setCell ⟨w.heap.size + 1 + 1 + 1 + 1 + 1, 0, none⟩ (.bool b) = w3 at *
      generalize (if b then 1 else 0 : Nat) = bn at *
      clear hcell hcell5 hf5
      go_wp2_with (first | ((with_reducible refine wpList_load_row ?_ 47 (.tmp 3) ?_ (w.heap.size + 1) ?_ 47 (arr y.testBit) (0, 0) _ D1.out.out Try.underlying47 ?_ (info_arr _) ?_); exact rfl; exact rfl; exact rfl; exact rfl) | ((with_reducible refine wpList_load_row ?_ 47 (.tmp 7) ?_ (w.heap.size + 1 + 1 + 1 + 1 + 1) ?_ 47 (arr (2 * r + bn).testBit) (0, 0) _ D5.out.out Try.underlying47 ?_ (info_arr _) ?_); exact rfl; exact rfl; exact rfl; exact rfl))
      refine (cgr.out _).mono ?_
      rintro e w4 ⟨rfl, hb4⟩
      have e0 := D0.out.below hb4 D0.out.lt; have e1 := D1.out.below hb4 D1.out.lt; have e2 := D2.out.below hb4 D2.out.lt; have e3 := D3.out.below hb4 D3.out.lt; have e4 := D4.out.below hb4 D4.out.lt; have e5 := D5.out.below hb4 D5.out.lt
      have he := HD.out.trans (hb4.mono HD.out.size)
      clear D0 D1 D2 D3 D4 D5 HD hb4
      by_cases hge : y ≤ 2 * r + bn
      · have hdec : decide (2 * r + bn < y) = false := by simp; omega
        rw [hdec]
        have cls := Lib.hid (fun w => rless_any (2 * r + bn) y w hge)
        have s1 : x / 2 ^ k % y = 2 * r + bn - y := by rw [S1.out, if_pos hge]
        have s2 : (x / y).testBit k = true := by rw [S2.out]; simp [hge]
        have T1 := Lib.hid s1; have T2 := Lib.hid s2
        clear hdec s1 s2 hge
        go_wp2_with (first | ((with_reducible refine wpList_load_row ?_ 47 (.tmp 7) ?_ (w.heap.size + 1 + 1 + 1 + 1 + 1) ?_ 47 (arr (2 * r + bn).testBit) (0, 0) _ e5.out Try.underlying47 ?_ (info_arr _) ?_); exact rfl; exact rfl; exact rfl; exact rfl) | ((with_reducible refine wpList_load_row ?_ 47 (.tmp 3) ?_ (w.heap.size + 1) ?_ 47 (arr y.testBit) (0, 0) _ e1.out Try.underlying47 ?_ (info_arr _) ?_); exact rfl; exact rfl; exact rfl; exact rfl))
        refine (cls.out _).mono ?_
        rw [bitsV_eq]
        rintro e w5 ⟨rfl, hb5⟩
        have f0 := e0.below hb5 e0.lt; have f1 := e1.below hb5 e1.lt; have f2 := e2.below hb5 e2.lt; have f3 := e3.below hb5 e3.lt; have f4 := e4.below hb5 e4.lt; have f5 := e5.below hb5 e5.lt
        have hf := he.trans (hb5.mono he.size)
        clear e0 e1 e2 e3 e4 e5 he hb5
        go_upto_region 9 with ((with_reducible refine wpList_store_row ?_ 47 (.tmp 7) (.tmp 25) ?_ (w.heap.size + 1 + 1 + 1 + 1 + 1) (arr (2 * r + bn - y).testBit) ?_ ?_ 47 _ f5.out (info_arr _) (by simp only [arr_size]) (arr_one _) ?_); exact rfl; exact rfl; exact rfl; exact rfl)
        have g0 : Blk (w5.setRow (w.heap.size + 1 + 1 + 1 + 1 + 1) (arr (2 * r + bn - y).testBit)) w.heap.size (arr x.testBit) 47 := f0.rowOther (by omega)
        have g1 : Blk (w5.setRow (w.heap.size + 1 + 1 + 1 + 1 + 1) (arr (2 * r + bn - y).testBit)) (w.heap.size + 1) (arr y.testBit) 47 := f1.rowOther (by omega)
        have g2 : Blk (w5.setRow (w.heap.size + 1 + 1 + 1 + 1 + 1) (arr (2 * r + bn - y).testBit)) (w.heap.size + 1 + 1) (arr fun _ => false) 47 := f2.rowOther (by omega)
        have g3 : Blk (w5.setRow (w.heap.size + 1 + 1 + 1 + 1 + 1) (arr (2 * r + bn - y).testBit)) (w.heap.size + 1 + 1 + 1) (arr fun _ => false) 47 := f3.rowOther (by omega)
        have g4 : Blk (w5.setRow (w.heap.size + 1 + 1 + 1 + 1 + 1) (arr (2 * r + bn - y).testBit)) (w.heap.size + 1 + 1 + 1 + 1) (arr fun j => decide (k + 1 ≤ j) && (x / y).testBit j) 47 := f4.rowOther (by omega)
        have g5 : Blk (w5.setRow (w.heap.size + 1 + 1 + 1 + 1 + 1) (arr (2 * r + bn - y).testBit)) (w.heap.size + 1 + 1 + 1 + 1 + 1) (arr (2 * r + bn - y).testBit) 47 := f5.row
        have hg := below_setRow hf (show w.heap.size ≤ (w.heap.size + 1 + 1 + 1 + 1 + 1) by omega) (arr (2 * r + bn - y).testBit)
        generalize w5.setRow (w.heap.size + 1 + 1 + 1 + 1 + 1) (arr (2 * r + bn - y).testBit) = w6 at *
        clear f0 f1 f2 f3 f4 f5 hf
        have hcq : w6.cell? ⟨w.heap.size + 1 + 1 + 1 + 1, k, none⟩ = some (.bool (decide (k + 1 ≤ k) && (x / y).testBit k)) := by rw [g4.cell k, arr_get _ _ (by omega)]
        have hfq := g4.frozen k
        have h4 := g4.set k (.bool true)
        rw [above_set _ _ T2.out] at h4
        have H4 := Lib.hid h4
        clear h4
        go_wp2_with fail
        go_roundw
        case rel => exact ⟨k, by omega, rfl, g0.setOther (by simp; omega) _, g1.setOther (by simp) _, g2.setOther (by simp) _, g3.setOther (by simp) _, H4.out, by rw [T1.out]; exact g5.setOther (by simp) _, hg.setCell (by simp; omega) _⟩
        case measure => simp [intOf] <;> omega
      · have hdec : decide (2 * r + bn < y) = true := by simp; omega
        rw [hdec]
        have s1 : x / 2 ^ k % y = 2 * r + bn := by rw [S1.out, if_neg hge]; rfl
        have s2 : (x / y).testBit k = false := by rw [S2.out]; simp [hge]
        have T1 := Lib.hid s1; have T2 := Lib.hid s2
        clear hdec s1 s2 hge
        go_wp2_with fail
        go_roundw
        case rel => exact ⟨k, by omega, rfl, e0, e1, e2, e3, by rw [← above_skip _ _ T2.out]; exact e4, by rw [T1.out]; exact e5, he⟩
        case measure => simp [intOf] <;> omega

end Go.Proofs.Ytdkmbbjdoonomaa
