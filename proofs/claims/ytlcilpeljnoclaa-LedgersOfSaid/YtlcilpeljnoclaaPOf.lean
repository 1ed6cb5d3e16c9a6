/-
  The program's ledgers: lineMay; which parties and lines a ledger may be of.
-/
import Derived.Test.YtlcilpeljnoclaaPLed11
import Derived.Test.YtlcilpeljnoclaaOk
namespace Go.Proofs.Ytlcilpeljnoclaa
open Go.RowKit
set_option linter.unusedSimpArgs false
set_option linter.unusedVariables false

set_option maxHeartbeats 8000000 in
theorem lineMay_any {w : World} {g m : Nat} {ps : List Int} (h : Blk w g (ledC ps (.map (some m))) 65) (hb : ∀ p ∈ ps, 1 ≤ p ∧ p ≤ 16) (x : Ln) :
    Calls Try.prog 61 #[.pointer (some ⟨g, 0, none⟩), .agg #[.int .u8 x.cr, .int .u8 x.de, .int .u8 x.cu, .int .i64 x.li, .int .i64 x.db]] w fun e w' => e = .returned (.bool (decide (lnMay ps x))) ∧ Below w.heap.size w w' := by
  have B0 := Lib.hid ((Below.refl w.heap.size w).alloc (Nat.le_refl _) (.cells #[.int .u8 x.cr, .int .u8 x.de, .int .u8 x.cu, .int .i64 x.li, .int .i64 x.db] 35))
  have C0 := Lib.hid (may_any x.cr x.de x.cu (w.alloc (.cells #[.int .u8 x.cr, .int .u8 x.de, .int .u8 x.cu, .int .i64 x.li, .int .i64 x.db] 35)))
  have KX := Lib.hid (Blk.new w #[.int .u8 x.cr, .int .u8 x.de, .int .u8 x.cu, .int .i64 x.li, .int .i64 x.db] 35)
  have C1 := Lib.hid (fun (w' : World) (k : Below w.heap.size w w') => has_any (h.below k h.lt) hb x.cr)
  have C2 := Lib.hid (fun (w' : World) (k : Below w.heap.size w w') => has_any (h.below k h.lt) hb x.de)
  have HE : Hid (∃ r, decide (lnMay ps x) = r) := Lib.hid ⟨_, rfl⟩
  by_cases hm : mayE x.cr x.de x.cu = false
  · rw [decide_eq_false (fun k : lnMay ps x => by rw [k.1] at hm; cases hm)]
    rw [hm] at C0
    clear hm h hb HE
    go_enter Try.func61, Try.ntmps61
    go_wp2_with fail
    refine C0.out.mono ?_
    rintro e w1 ⟨rfl, b1⟩
    have B1 := Lib.hid (B0.out.trans (b1.mono B0.out.size))
    have K1 := Lib.hid (KX.out.below b1 KX.out.lt)
    clear b1 B0 KX
    have hl := K1.out.lt
    have d0 := K1.out.cell 0
    have d1 := K1.out.cell 1
    have d2 := K1.out.cell 2
    have d3 := K1.out.cell 3
    have d4 := K1.out.cell 4
    simp at d0 d1 d2 d3 d4
    go_wp2_with fail
    go_ret
    exact ⟨rfl, B1.out⟩
  have hm : mayE x.cr x.de x.cu = true := by simpa using hm
  rw [hm] at C0
  by_cases pa : ¬ x.cr ∈ ps
  · rw [decide_eq_false (fun k : lnMay ps x => pa k.2.1)]
    rw [decide_eq_false pa] at C1
    clear hm h hb HE pa
    go_enter Try.func61, Try.ntmps61
    go_wp2_with fail
    refine C0.out.mono ?_
    rintro e w1 ⟨rfl, b1⟩
    have B1 := Lib.hid (B0.out.trans (b1.mono B0.out.size))
    have K1 := Lib.hid (KX.out.below b1 KX.out.lt)
    clear b1 B0 KX
    have hl := K1.out.lt
    have d0 := K1.out.cell 0
    have d1 := K1.out.cell 1
    have d2 := K1.out.cell 2
    have d3 := K1.out.cell 3
    have d4 := K1.out.cell 4
    simp at d0 d1 d2 d3 d4
    go_wp2_with fail
    refine (C1.out _ B1.out).mono ?_
    rintro e w1 ⟨rfl, rfl⟩
    go_wp2_with fail
    go_ret
    exact ⟨rfl, B1.out⟩
  have pa := Decidable.not_not.1 pa
  rw [decide_eq_true pa] at C1
  by_cases pb : ¬ x.de ∈ ps
  · rw [decide_eq_false (fun k : lnMay ps x => pb k.2.2.1)]
    rw [decide_eq_false pb] at C2
    clear hm h hb HE pa pb
    go_enter Try.func61, Try.ntmps61
    go_wp2_with fail
    refine C0.out.mono ?_
    rintro e w1 ⟨rfl, b1⟩
    have B1 := Lib.hid (B0.out.trans (b1.mono B0.out.size))
    have K1 := Lib.hid (KX.out.below b1 KX.out.lt)
    clear b1 B0 KX
    have hl := K1.out.lt
    have d0 := K1.out.cell 0
    have d1 := K1.out.cell 1
    have d2 := K1.out.cell 2
    have d3 := K1.out.cell 3
    have d4 := K1.out.cell 4
    simp at d0 d1 d2 d3 d4
    go_wp2_with fail
    refine (C1.out _ B1.out).mono ?_
    rintro e w1 ⟨rfl, rfl⟩
    go_wp2_with fail
    refine (C2.out _ B1.out).mono ?_
    rintro e w1 ⟨rfl, rfl⟩
    go_wp2_with fail
    go_ret
    exact ⟨rfl, B1.out⟩
  have pb := Decidable.not_not.1 pb
  rw [decide_eq_true pb] at C2
  have hL : decide (lnMay ps x) = decide (1 ≤ x.li ∧ x.li ≤ 1099511627776 ∧ 0 ≤ x.db ∧ x.db ≤ x.li) := by
    refine decide_eq_decide.2 ⟨fun k => k.2.2.2, fun k => ⟨hm, pa, pb, k⟩⟩
  rw [hL]
  clear hm h hb HE pa pb hL
  by_cases q1 : ¬ 1 ≤ x.li
  · have s1 : decide (1 ≤ x.li) = false := by simp; omega
    rw [decide_eq_false (fun k => q1 k.1)]
    go_enter Try.func61, Try.ntmps61
    go_wp2_with fail
    refine C0.out.mono ?_
    rintro e w1 ⟨rfl, b1⟩
    have B1 := Lib.hid (B0.out.trans (b1.mono B0.out.size))
    have K1 := Lib.hid (KX.out.below b1 KX.out.lt)
    clear b1 B0 KX
    have hl := K1.out.lt
    have d0 := K1.out.cell 0
    have d1 := K1.out.cell 1
    have d2 := K1.out.cell 2
    have d3 := K1.out.cell 3
    have d4 := K1.out.cell 4
    simp at d0 d1 d2 d3 d4
    go_wp2_with fail
    refine (C1.out _ B1.out).mono ?_
    rintro e w1 ⟨rfl, rfl⟩
    go_wp2_with fail
    refine (C2.out _ B1.out).mono ?_
    rintro e w1 ⟨rfl, rfl⟩
    go_wp2_with fail
    go_ret
    exact ⟨rfl, B1.out⟩
  have q1 := Decidable.not_not.1 q1
  by_cases q2 : ¬ x.li ≤ 1099511627776
  · have s1 : decide (1 ≤ x.li) = true := by simp; omega
    have s2 : decide (x.li ≤ 1099511627776) = false := by simp; omega
    rw [decide_eq_false (fun k => q2 k.2.1)]
    go_enter Try.func61, Try.ntmps61
    go_wp2_with fail
    refine C0.out.mono ?_
    rintro e w1 ⟨rfl, b1⟩
    have B1 := Lib.hid (B0.out.trans (b1.mono B0.out.size))
    have K1 := Lib.hid (KX.out.below b1 KX.out.lt)
    clear b1 B0 KX
    have hl := K1.out.lt
    have d0 := K1.out.cell 0
    have d1 := K1.out.cell 1
    have d2 := K1.out.cell 2
    have d3 := K1.out.cell 3
    have d4 := K1.out.cell 4
    simp at d0 d1 d2 d3 d4
    go_wp2_with fail
    refine (C1.out _ B1.out).mono ?_
    rintro e w1 ⟨rfl, rfl⟩
    go_wp2_with fail
    refine (C2.out _ B1.out).mono ?_
    rintro e w1 ⟨rfl, rfl⟩
    go_wp2_with fail
    go_ret
    exact ⟨rfl, B1.out⟩
  have q2 := Decidable.not_not.1 q2
  by_cases q3 : ¬ 0 ≤ x.db
  · have s1 : decide (1 ≤ x.li) = true := by simp; omega
    have s2 : decide (x.li ≤ 1099511627776) = true := by simp; omega
    have s3 : decide (0 ≤ x.db) = false := by simp; omega
    rw [decide_eq_false (fun k => q3 k.2.2.1)]
    go_enter Try.func61, Try.ntmps61
    go_wp2_with fail
    refine C0.out.mono ?_
    rintro e w1 ⟨rfl, b1⟩
    have B1 := Lib.hid (B0.out.trans (b1.mono B0.out.size))
    have K1 := Lib.hid (KX.out.below b1 KX.out.lt)
    clear b1 B0 KX
    have hl := K1.out.lt
    have d0 := K1.out.cell 0
    have d1 := K1.out.cell 1
    have d2 := K1.out.cell 2
    have d3 := K1.out.cell 3
    have d4 := K1.out.cell 4
    simp at d0 d1 d2 d3 d4
    go_wp2_with fail
    refine (C1.out _ B1.out).mono ?_
    rintro e w1 ⟨rfl, rfl⟩
    go_wp2_with fail
    refine (C2.out _ B1.out).mono ?_
    rintro e w1 ⟨rfl, rfl⟩
    go_wp2_with fail
    go_ret
    exact ⟨rfl, B1.out⟩
  have q3 := Decidable.not_not.1 q3
  rw [show decide (1 ≤ x.li ∧ x.li ≤ 1099511627776 ∧ 0 ≤ x.db ∧ x.db ≤ x.li) = decide (x.db ≤ x.li) from decide_eq_decide.2 ⟨fun k => k.2.2.2, fun k => ⟨q1, q2, q3, k⟩⟩]
  go_enter Try.func61, Try.ntmps61
  go_wp2_with fail
  refine C0.out.mono ?_
  rintro e w1 ⟨rfl, b1⟩
  have B1 := Lib.hid (B0.out.trans (b1.mono B0.out.size))
  have K1 := Lib.hid (KX.out.below b1 KX.out.lt)
  clear b1 B0 KX
  have hl := K1.out.lt
  have d0 := K1.out.cell 0
  have d1 := K1.out.cell 1
  have d2 := K1.out.cell 2
  have d3 := K1.out.cell 3
  have d4 := K1.out.cell 4
  simp at d0 d1 d2 d3 d4
  go_wp2_with fail
  refine (C1.out _ B1.out).mono ?_
  rintro e w1 ⟨rfl, rfl⟩
  go_wp2_with fail
  refine (C2.out _ B1.out).mono ?_
  rintro e w1 ⟨rfl, rfl⟩
  go_wp2_with fail
  go_ret
  exact ⟨rfl, B1.out⟩

end Go.Proofs.Ytlcilpeljnoclaa
