/-
  countinghouseref01's Sum, for every list of numbers.
-/
import Derived.Test.YtonbinbjddameaaRef01g
namespace Go.Proofs.Ytonbinbjddameaa
open Go.RowKit
set_option linter.unusedSimpArgs false
set_option linter.unusedVariables false

/-- What a list of numbers shows: its cells, where it has any. -/
def Lst (k : IntKind) (w : World) (a : Option Addr) (cap : Nat) (zs : List Int) : Prop :=
  (zs = [] ∧ (a = none → cap = 0)) ∨ ∃ b off, a = some ⟨b, off, none⟩ ∧ zs ≠ [] ∧ b < w.heap.size ∧ ∀ i (h : i < zs.length), w.cell? ⟨b, off + i, none⟩ = some (.int k zs[i])
theorem Lst.below {k : IntKind} {w w' : World} {a : Option Addr} {cap : Nat} {zs : List Int} (h : Lst k w a cap zs) (hb : Below w.heap.size w w') : Lst k w' a cap zs := by
  rcases h with h | ⟨b, off, rfl, hne, hlt, hcell⟩
  · exact .inl h
  · exact .inr ⟨b, off, rfl, hne, Nat.lt_of_lt_of_le hlt hb.size, fun i hi => by rw [hb.cell (p := ⟨b, off + i, none⟩) hlt]; exact hcell i hi⟩
theorem Lst.at {k : IntKind} {w : World} {a : Option Addr} {cap : Nat} {zs : List Int} (h : Lst k w a cap zs) {i : Nat} (hi : i < zs.length) :
    ∃ b off, a = some ⟨b, off, none⟩ ∧ b < w.heap.size ∧ ∀ i (h : i < zs.length), w.cell? ⟨b, off + i, none⟩ = some (.int k zs[i]) := by
  rcases h with ⟨rfl, _⟩ | ⟨b, off, rfl, hne, hlt, hcell⟩
  · simp at hi
  · exact ⟨b, off, rfl, hlt, hcell⟩

/-- What holds at the head of Sum's loop, the counter at i. -/
def RSumAt (zs : List Int) (w : World) (i : Value) (wr : World) : Prop :=
  ∃ (k : Nat) (neg : Bool) (s : Nat), k ≤ zs.length ∧ i = .int .i64 k ∧ Blk wr w.heap.size (whole neg s.testBit) 49 ∧ signed neg s = (zs.take k).sum ∧ s ≤ k * 9223372036854775808 ∧ Below w.heap.size w wr
theorem small192 {s k : Nat} (hk : k ≤ 140737488355328) (hs : s ≤ k * 9223372036854775808) : s < 2 ^ 192 :=
  Nat.lt_of_le_of_lt hs (Nat.lt_of_le_of_lt (Nat.mul_le_mul_right _ hk) (by decide))
set_option maxHeartbeats 4000000 in
set_option maxRecDepth 100000 in
theorem rsum_any (a : Option Addr) (cap : Nat) (zs : List Int) (w : World) (hz : ∀ z ∈ zs, In64 z) (hl : zs.length ≤ 140737488355328) (ha : Lst .i64 w a cap zs) :
    Calls Try.prog 18 #[.slice a zs.length cap] w fun e w' => e = .returned (ans zs.sum) ∧ Below w.heap.size w w' := by
  have hzw := zero_whole
  have HZ := Lib.hid hz; have HA := Lib.hid ha; have HLL := Lib.hid hl
  clear hz ha
  go_enter Try.func18, Try.ntmps18
  go_wp2
  go_loopw [5] (RSumAt zs w) (fun i _ => zs.length - (intOf i).toNat)
  case atStart => exact ⟨0, false, 0, Nat.zero_le _, rfl, by rw [show (Nat.testBit 0) = fun _ => false from funext Nat.zero_testBit]; exact Blk.new _ _ _, by simp [signed], by omega, (Below.refl _ _).alloc (Nat.le_refl _) _⟩
  case round =>
    obtain ⟨k, neg, s, hk, rfl, hblk, hsg, hsz, hb⟩ := hrel
    have hg := hblk.lt
    by_cases hkl : k < zs.length
    · obtain ⟨b, off, ea, hlt, hcl⟩ := HA.out.at hkl
      subst ea
      have hcell : wr.cell? ⟨b, off + k, none⟩ = some (.int .i64 zs[k]) := by rw [hb.cell (p := ⟨b, off + k, none⟩) hlt]; exact hcl k hkl
      have hz := HZ.out zs[k] (by simp)
      have hst := Lib.hid (sum_take zs k hkl)
      clear hcl
      generalize zs[k] = z at *
      have h64 := abs64 hz
      have hs192 := small192 (Nat.le_trans hk hl) hsz
      have c1 := Lib.hid (fun w => of_any z w hz)
      have c2 := Lib.hid (fun w => together_any neg (decide (z < 0)) s z.natAbs w hs192 (pair192 h64 h64).1)
      have e := signed_tog neg (decide (z < 0)) s z.natAbs
      rw [signed_abs, hsg, ← hst.out] at e
      have hle := togSize_le neg (decide (z < 0)) s z.natAbs
      have hle2 : togSize neg (decide (z < 0)) s z.natAbs ≤ (k + 1) * 9223372036854775808 := by omega
      have E := Lib.hid e; have HLE := Lib.hid hle2; have HK := Lib.hid hkl
      clear e hle hle2 h64 hs192 hsz hsg hz
      generalize togSign neg (decide (z < 0)) s z.natAbs = ns at *
      generalize togSize neg (decide (z < 0)) s z.natAbs = xs at *
      generalize decide (z < 0) = nz at *
      generalize z.natAbs = xz at *
      unfold wholeV at *
      go_wp2_with fail
      refine region_tail (by kernel_rfl) 7 [.agg (whole neg s.testBit), .slice (some ⟨b, off, none⟩) zs.length cap, .int .i64 k, .pointer (some ⟨b, off + k, none⟩), .int .i64 z, .agg (whole nz xz.testBit), .agg (whole ns xs.testBit)]
        (fun w' => Below wr.heap.size wr w') (by kernel_rfl) rfl (by kernel_rfl) (Below.refl _ _).drew ?_
      intro af haf
      simp only [puts, Act.put, List.getD_cons_zero, List.getD_cons_succ, List.setIfInBounds_toArray, List.set_cons_succ, List.set_cons_zero] at haf
      subst haf
      have hlt2 : b < wr.heap.size := Nat.lt_of_lt_of_le hlt hb.size
      refine ⟨?_, ?_⟩
      · simp only [List.take_succ_cons, List.take_zero, EachTo]
        refine ⟨?_, ?_, ?_, ?_, ?_, ?_, ?_, trivial⟩
        all_goals
          intro w' hS
          with_reducible refine OpTo.plain ?_ ?_
          exact rfl
        · exact wp_load_row 49 (.tmp 4) rfl w.heap.size rfl 49 (whole neg s.testBit) (0, 0) _ (hblk.below hS hg).out Try.underlying49 rfl (info_whole _ _) ⟨rfl, hS⟩
        · go_wp2_with fail
          all_goals first | rfl | exact ⟨rfl, hS⟩
        · go_wp2_with fail
          all_goals first | rfl | exact ⟨rfl, hS⟩
        · go_wp2_with fail
          all_goals first | rfl | exact ⟨rfl, hS⟩
        · have hc2 : w'.cell? ⟨b, off + k, none⟩ = some (.int .i64 z) := by rw [hS.cell (p := ⟨b, off + k, none⟩) hlt2]; exact hcell
          go_wp2_with fail
          all_goals first | rfl | exact ⟨rfl, hS⟩
        · go_wp2_with fail
          refine (c1.out w').mono ?_
          rintro e w'' ⟨rfl, hb2⟩
          exact ⟨rfl, andB hS hb2⟩
        · go_wp2_with fail
          refine (c2.out w').mono ?_
          rintro e w'' ⟨rfl, hb2⟩
          exact ⟨rfl, andB hS hb2⟩
      · simp only [List.getD_cons_succ, List.getD_cons_zero]
        intro w' hS
        with_reducible refine OpTo.plain ?_ ?_
        exact rfl
        have q := hblk.below hS hg
        refine wp_store_row 49 (.tmp 4) (.tmp 18) rfl w.heap.size (whole ns xs.testBit) rfl rfl 49 _ q.out (info_whole _ _) (by simp only [whole_size]) (whole_one _ _) ⟨rfl, ?_⟩
        have q2 := Lib.hid (q.row (cs := whole ns xs.testBit))
        have qb := below_setRow (hb.trans (hS.mono hb.size)) (Nat.le_refl _) (whole ns xs.testBit)
        generalize w'.setRow w.heap.size (whole ns xs.testBit) = W2 at *
        go_wp2_with fail
        go_roundw
        case rel => exact ⟨k + 1, ns, xs, by have := HK.out; omega, by go_num, q2.out, E.out, HLE.out, qb⟩
        case measure => have := HK.out; simp [intOf]; omega
    · have hkk : zs.take k = zs := List.take_of_length_le (by omega)
      rw [hkk] at hsg
      have hs192 := small192 (Nat.le_trans hk hl) hsz
      have c4 := Lib.hid (fun w => num_any neg s w hs192)
      unfold signed at hsg
      rw [hsg, ans_pair] at c4
      unfold wholeV at *
      clear hsg hs192 hsz hkk
      go_wp2_with ((with_reducible refine wpList_load_row ?_ 49 (.tmp 4) ?_ w.heap.size ?_ 49 (whole neg s.testBit) (0, 0) _ hblk.out Try.underlying49 ?_ (info_whole _ _) ?_); exact rfl; exact rfl; exact rfl; exact rfl)
      refine (c4.out _).mono ?_
      rintro e w4 ⟨rfl, b4⟩
      go_wp2_with fail
      go_ret2
      exact ⟨rfl, hb.trans (b4.mono (Nat.le_of_lt hg))⟩

end Go.Proofs.Ytonbinbjddameaa
