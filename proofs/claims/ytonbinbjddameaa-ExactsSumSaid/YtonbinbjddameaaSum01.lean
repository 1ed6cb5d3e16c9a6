/-
  ExactsSum: the walk, for every list of numbers.
-/
import Derived.Test.YtonbinbjddameaaBy01
import Derived.Test.YtonbinbjddameaaTwin
import Derived.OpenShut
namespace Go.Proofs.Ytonbinbjddameaa
open Go.RowKit
set_option linter.unusedSimpArgs false
set_option linter.unusedVariables false

/-- What came in, as a list of numbers. -/
theorem Lst.of_row {w : World} {a : Option Addr} {len cap : Nat} {zs : List Int} (h : IsRow .i64 w a len cap zs) : ∃ xs : List Int, xs.length = len ∧ (∀ x ∈ xs, In64 x) ∧ Lst .i64 w a cap xs := by
  rcases h with ⟨rfl, rfl, rfl, rfl⟩ | ⟨x, rfl, hl, hm, hz, hc, hwf⟩
  · exact ⟨[], rfl, by simp, .inl ⟨rfl, fun _ => rfl⟩⟩
  · refine ⟨zs.take len, by simp; omega, fun y hy => In64.of_wf (hwf y (List.mem_of_mem_take hy)), ?_⟩
    by_cases h0 : len = 0
    · exact .inl ⟨by simp [h0], fun h => by cases h⟩
    · obtain ⟨b, off, rfl, hc2⟩ := Go.ints_at hc (by omega)
      have h1 := hc2 0 (by omega)
      refine .inr ⟨b, off, rfl, ?_, ?_, ?_⟩
      · intro h; have e := congrArg List.length h; rw [List.length_take, Nat.min_eq_left (by omega)] at e; exact h0 e
      · exact World.block_lt_of_cell? _ _ h1
      · intro i hi
        have hi2 : i < zs.length := by simp at hi; omega
        rw [hc2 i hi2, List.getElem_take, List.getD_eq_getElem?_getD, List.getElem?_eq_getElem hi2]; rfl

set_option maxHeartbeats 4000000 in
set_option maxRecDepth 100000 in
theorem sum_walk (a : Option Addr) (len cap : Nat) (zs0 : List Int) (w : World) (h0 : IsRow .i64 w a len cap zs0) :
    Calls Try.prog 4 #[.slice a len cap] w fun e w' => e = .returned (.bool true) ∧ Below w.heap.size w w' := by
  obtain ⟨zs, rfl, hz, ha⟩ := Lst.of_row h0
  clear h0
  have l := Lib.hid lives01_any
  have k := Lib.hid alike_same
  have HZ := Lib.hid hz; have HA := Lib.hid ha
  clear hz ha
  by_cases hbig : 100 < zs.length
  · have hle : ¬ zs.length ≤ 100 := by omega
    go_enter Try.func4, Try.ntmps4
    go_wp2_with fail
    refine (l.out _).mono ?_
    rintro e w1 ⟨rfl, b1⟩
    go_wp2_with fail
    go_ret
    exact ⟨rfl, b1⟩
  · have ct := Lib.hid (twin_any a cap zs (-77) w (by omega) HA.out)
    go_enter Try.func4, Try.ntmps4
    go_wp2_with fail
    refine ct.out.mono ?_
    rintro e w1 ⟨g, rfl, hg, hlt, hc, b1⟩
    have HC := Lib.hid hc
    have cs := Lib.hid (sum_any g 0 (zs.length + 2) zs w1 HZ.out (by omega) hlt (fun i hi => by rw [Nat.zero_add, hc i (by simp; omega), List.getElem_append_left hi]))
    rw [ans_pair] at cs
    clear hc
    go_wp2_with fail
    refine cs.out.mono ?_
    rintro e w2 ⟨rfl, b2⟩
    have cr := Lib.hid (rsum_any a cap zs w2 HZ.out (by omega) (HA.out.below (andB b1 b2)))
    rw [ans_pair] at cr
    generalize okN zs.sum = x at *
    generalize erN zs.sum = y at *
    go_wp2_with fail
    refine cr.out.mono ?_
    rintro e w3 ⟨rfl, b3⟩
    have b13 := andB b2 b3
    have cl := Lib.hid (left_any g a cap zs (-77) w3 (by omega) (HA.out.below (andB b1 b13)) (Nat.lt_of_lt_of_le hlt b13.size) (fun i hi => by rw [b13.cell (p := ⟨g, i, none⟩) hlt]; exact HC.out i hi))
    go_wp2_with fail
    refine (k.out _ _ _).mono ?_
    rintro e w4 ⟨rfl, rfl⟩
    go_wp2_with fail
    refine cl.out.mono ?_
    rintro e w5 ⟨rfl, b5⟩
    go_wp2_with fail
    refine (l.out _).mono ?_
    rintro e w6 ⟨rfl, b6⟩
    go_wp2_with fail
    go_ret
    exact ⟨rfl, andB (andB (andB b1 b13) b5) b6⟩

end Go.Proofs.Ytonbinbjddameaa
