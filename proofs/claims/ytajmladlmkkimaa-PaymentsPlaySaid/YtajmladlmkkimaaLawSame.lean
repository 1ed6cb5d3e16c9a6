/-
  Does a ledger have what the document's has?
-/
import Derived.Test.YtajmladlmkkimaaSortL
import Derived.Test.YtajmladlmkkimaaSameL
import Derived.Test.YtajmladlmkkimaaRef03i
import Derived.Test.YtajmladlmkkimaaOnce
namespace Go.Proofs.Ytajmladlmkkimaa
open Go.RowKit
set_option linter.unusedSimpArgs false
set_option linter.unusedVariables false

set_option maxHeartbeats 8000000 in
set_option maxRecDepth 100000 in
theorem lawSame_any {w : World} {G M g base : Nat} {ps : List Int} {ls : List Ln} {vp vl : Value} (hL : LedM w G M ps ls) (hI : LInv ps ls) (hR : RefL w base g ps ls vp vl) (hp : ps.length ≤ 100000) :
    Calls Try.prog 25 #[.pointer (some ⟨G, 0, none⟩), .pointer (some ⟨g, 0, none⟩)] w fun e w' => e = .returned (.bool true) ∧ Below w.heap.size w w' := by
  have HL2 := Lib.hid hL
  have HI2 := Lib.hid hI
  have HR := Lib.hid hR
  have HN : Hid (ps.length ≤ 100000000 ∧ ls.length ≤ 100000000) := Lib.hid ⟨by omega, by have := hI.len; omega⟩
  have hvp := owns_open hR.p
  have hvl := owns_open hR.l
  obtain ⟨ap, cp, hvp, _⟩ := hvp
  obtain ⟨al, cl, hvl, _⟩ := hvl
  clear hL hI hR hp hvp hvl
  go_enter Try.func25, Try.ntmps25
  go_wp2_with fail
  have hlasts : ∀ q ∈ ([(1, (fun v w => Reads w v 1 ps.length (ps.map (.int .u8)))), (9, (fun v w => Reads w v 5 ls.length (lnCells ls)))] : List (Nat × (Value → World → Prop))), Lasts q.2 := by
    intro q hq
    simp only [List.mem_cons, List.not_mem_nil, or_false] at hq
    rcases hq with rfl | rfl
    · exact fun v w w' h k => h.below k
    · exact fun v w w' h k => h.below k
  have HL := Lib.hid hlasts
  clear hlasts
  refine region_fresh (by kernel_rfl) (fun s : Nat → Value => [(.pointer (some ⟨G, 0, none⟩)), s 1, (.pointer (some ⟨g, 0, none⟩)), (.pointer (some ⟨g, 0, none⟩)), (.pointer (some ⟨g, 0, none⟩)), vp, (.bool true), (.bool true), (.pointer (some ⟨G, 0, none⟩)), s 9, (.pointer (some ⟨g, 0, none⟩)), (.pointer (some ⟨g, 0, none⟩)), (.pointer (some ⟨g, 1, none⟩)), vl, (.bool true), (.bool true), (.bool true)])
    (Got w [(1, (fun v w => Reads w v 1 ps.length (ps.map (.int .u8)))), (9, (fun v w => Reads w v 5 ls.length (lnCells ls)))]) (by kernel_rfl) (fun _ => undef) (Got.start _ _ _) ?_
  intro AF hAF
  simp only [List.toList_toArray, puts, Act.put, List.getD_cons_zero, List.getD_cons_succ, List.setIfInBounds_toArray, List.set_cons_succ, List.set_cons_zero] at hAF
  have hAF2 : _ = AF := funext hAF
  subst hAF2
  clear hAF
  refine ⟨?_, ?_⟩
  · simp only [List.toList_toArray, EachF]
    refine ⟨?_, ?_, ?_, ?_, ?_, ?_, ?_, ?_, ?_, ?_, ?_, ?_, ?_, ?_, ?_, ?_, ?_, trivial⟩
    · intro s D w' hD hW hC hI
      have hS := hI.below
      refine .inl ⟨s, fun _ _ _ => rfl, ?_⟩
      with_reducible refine OpTo.plain ?_ ?_
      exact rfl
      have HS := Lib.hid (hI.step HL.out (Below.refl _ _) (k := 0) (by intro q hq; simp only [List.mem_cons, List.not_mem_nil, or_false] at hq; rcases hq with rfl | rfl <;> first | exact (show (1 : Nat) ≠ 0 by decide) | exact (show (9 : Nat) ≠ 0 by decide)))
      clear hI hS hC hW hD
      go_wp2_with fail
      all_goals first | exact HS.out | exact ⟨rfl, HS.out⟩ | rfl
    · intro s D w' hD hW hC hI
      have hS := hI.below
      have HI := Lib.hid hI
      have HCl := Lib.hid hC
      have HD := Lib.hid hD
      have HC := Lib.hid (pparties_any (HL2.out.below hS) HI2.out)
      refine .inr ?_
      with_reducible refine OpGets.plain ?_ ?_
      exact rfl
      clear hI hS hC hW hD
      go_wp2_with fail
      refine HC.out.mono ?_
      rintro e w'' ⟨v, rfl, hv, hb2⟩
      refine ⟨v, rfl, updV s 1 v, vals_put _ (fun s : Nat → Value => [(.pointer (some ⟨G, 0, none⟩)), s 1, (.pointer (some ⟨g, 0, none⟩)), (.pointer (some ⟨g, 0, none⟩)), (.pointer (some ⟨g, 0, none⟩)), vp, (.bool true), (.bool true), (.pointer (some ⟨G, 0, none⟩)), s 9, (.pointer (some ⟨g, 0, none⟩)), (.pointer (some ⟨g, 0, none⟩)), (.pointer (some ⟨g, 1, none⟩)), vl, (.bool true), (.bool true), (.bool true)]) s 1 v HCl.out HD.out ?_, rfl, HI.out.put HL.out hb2 ?_⟩
      · intro j hj
        match j, hj with
        | 0, _ => exact .inr rfl
        | 1, _ => exact .inl (.inl rfl)
        | 2, _ => exact .inr rfl
        | 3, _ => exact .inr rfl
        | 4, _ => exact .inr rfl
        | 5, _ => exact .inr rfl
        | 6, _ => exact .inr rfl
        | 7, _ => exact .inr rfl
        | 8, _ => exact .inr rfl
        | 9, _ => exact .inr rfl
        | 10, _ => exact .inr rfl
        | 11, _ => exact .inr rfl
        | 12, _ => exact .inr rfl
        | 13, _ => exact .inr rfl
        | 14, _ => exact .inr rfl
        | 15, _ => exact .inr rfl
        | 16, _ => exact .inr rfl
        | j + 17, _ => exact .inr rfl
      · intro q hq he
        simp only [List.mem_cons, List.not_mem_nil, or_false] at hq
        rcases hq with rfl | rfl <;> first | exact hv.reads HN.out.1 | exact absurd (show (9 : Nat) = 1 from he) (by decide)
    · intro s D w' hD hW hC hI
      have hS := hI.below
      refine .inl ⟨s, fun _ _ _ => rfl, ?_⟩
      with_reducible refine OpTo.plain ?_ ?_
      exact rfl
      have HS := Lib.hid (hI.step HL.out (Below.refl _ _) (k := 2) (by intro q hq; simp only [List.mem_cons, List.not_mem_nil, or_false] at hq; rcases hq with rfl | rfl <;> first | exact (show (1 : Nat) ≠ 2 by decide) | exact (show (9 : Nat) ≠ 2 by decide)))
      clear hI hS hC hW hD
      go_wp2_with fail
      all_goals first | exact HS.out | exact ⟨rfl, HS.out⟩ | rfl
    · intro s D w' hD hW hC hI
      have hS := hI.below
      refine .inl ⟨s, fun _ _ _ => rfl, ?_⟩
      with_reducible refine OpTo.plain ?_ ?_
      exact rfl
      have hl0 := Nat.lt_of_lt_of_le HR.out.blk.lt hS.size
      have HS := Lib.hid (hI.step HL.out (Below.refl _ _) (k := 3) (by intro q hq; simp only [List.mem_cons, List.not_mem_nil, or_false] at hq; rcases hq with rfl | rfl <;> first | exact (show (1 : Nat) ≠ 3 by decide) | exact (show (9 : Nat) ≠ 3 by decide)))
      clear hI hS hC hW hD
      go_wp2_with fail
      all_goals first | exact HS.out | exact ⟨rfl, HS.out⟩ | rfl
    · intro s D w' hD hW hC hI
      have hS := hI.below
      refine .inl ⟨s, fun _ _ _ => rfl, ?_⟩
      with_reducible refine OpTo.plain ?_ ?_
      exact rfl
      have hl0 := Nat.lt_of_lt_of_le HR.out.blk.lt hS.size
      have HS := Lib.hid (hI.step HL.out (Below.refl _ _) (k := 4) (by intro q hq; simp only [List.mem_cons, List.not_mem_nil, or_false] at hq; rcases hq with rfl | rfl <;> first | exact (show (1 : Nat) ≠ 4 by decide) | exact (show (9 : Nat) ≠ 4 by decide)))
      clear hI hS hC hW hD
      go_wp2_with fail
      all_goals first | exact HS.out | exact ⟨rfl, HS.out⟩ | rfl
    · intro s D w' hD hW hC hI
      have hS := hI.below
      refine .inl ⟨s, fun _ _ _ => rfl, ?_⟩
      with_reducible refine OpTo.plain ?_ ?_
      exact rfl
      have hl0 := Nat.lt_of_lt_of_le HR.out.blk.lt hS.size
      have d0 := (HR.out.blk.below hS HR.out.blk.lt).cell 0
      simp at d0
      have HS := Lib.hid (hI.step HL.out (Below.refl _ _) (k := 5) (by intro q hq; simp only [List.mem_cons, List.not_mem_nil, or_false] at hq; rcases hq with rfl | rfl <;> first | exact (show (1 : Nat) ≠ 5 by decide) | exact (show (9 : Nat) ≠ 5 by decide)))
      clear hI hS hC hW hD
      go_wp2_with fail
      all_goals first | exact HS.out | exact ⟨rfl, HS.out⟩ | rfl
    · intro s D w' hD hW hC hI
      have hS := hI.below
      refine .inl ⟨s, fun _ _ _ => rfl, ?_⟩
      with_reducible refine OpTo.plain ?_ ?_
      exact rfl
      have hP1 : D 1 = true := need_waited hC hW (by kernel_rfl)
      have hq1 := hI.at (1, (fun v w => Reads w v 1 ps.length (ps.map (.int .u8)))) (by simp) hP1
      dsimp only at hq1
      have HI := Lib.hid hI
      have HC := Lib.hid ((by have q := SameParties_any hq1 (Reads.of_owns (owns_below HR.out.p hS) HN.out.1); rw [decide_eq_true rfl] at q; exact q : Calls Try.prog 63 #[s 1, vp] w' fun e w'' => e = .returned (.bool true) ∧ Below w'.heap.size w' w''))
      clear hI hS hC hW hD hP1 hq1
      go_wp2_with fail
      refine HC.out.mono ?_
      rintro e w'' ⟨rfl, hb2⟩
      exact ⟨rfl, HI.out.step HL.out hb2 (by intro q hq; simp only [List.mem_cons, List.not_mem_nil, or_false] at hq; rcases hq with rfl | rfl <;> first | exact (show (1 : Nat) ≠ 6 by decide) | exact (show (9 : Nat) ≠ 6 by decide))⟩
    · intro s D w' hD hW hC hI
      have hS := hI.below
      refine .inl ⟨s, fun _ _ _ => rfl, ?_⟩
      with_reducible refine OpTo.plain ?_ ?_
      exact rfl
      have HS := Lib.hid (hI.step HL.out (Below.refl _ _) (k := 7) (by intro q hq; simp only [List.mem_cons, List.not_mem_nil, or_false] at hq; rcases hq with rfl | rfl <;> first | exact (show (1 : Nat) ≠ 7 by decide) | exact (show (9 : Nat) ≠ 7 by decide)))
      clear hI hS hC hW hD
      go_wp2_with fail
      all_goals first | exact HS.out | exact ⟨rfl, HS.out⟩ | rfl
    · intro s D w' hD hW hC hI
      have hS := hI.below
      refine .inl ⟨s, fun _ _ _ => rfl, ?_⟩
      with_reducible refine OpTo.wanted ?_ ?_
      kernel_rfl
      have HS := Lib.hid (hI.step HL.out (Below.refl _ _) (k := 8) (by intro q hq; simp only [List.mem_cons, List.not_mem_nil, or_false] at hq; rcases hq with rfl | rfl <;> first | exact (show (1 : Nat) ≠ 8 by decide) | exact (show (9 : Nat) ≠ 8 by decide)))
      clear hI hS hC hW hD
      go_wp2_with fail
      all_goals first | exact HS.out | exact ⟨rfl, HS.out⟩ | rfl
    · intro s D w' hD hW hC hI
      have hS := hI.below
      have HI := Lib.hid hI
      have HCl := Lib.hid hC
      have HD := Lib.hid hD
      have HC := Lib.hid (plines_any (HL2.out.below hS) HI2.out)
      refine .inr ?_
      with_reducible refine OpGets.wanted ?_ ?_
      kernel_rfl
      clear hI hS hC hW hD
      go_wp2_with fail
      refine HC.out.mono ?_
      rintro e w'' ⟨v, rfl, hv, hb2⟩
      refine ⟨v, rfl, updV s 9 v, vals_put _ (fun s : Nat → Value => [(.pointer (some ⟨G, 0, none⟩)), s 1, (.pointer (some ⟨g, 0, none⟩)), (.pointer (some ⟨g, 0, none⟩)), (.pointer (some ⟨g, 0, none⟩)), vp, (.bool true), (.bool true), (.pointer (some ⟨G, 0, none⟩)), s 9, (.pointer (some ⟨g, 0, none⟩)), (.pointer (some ⟨g, 0, none⟩)), (.pointer (some ⟨g, 1, none⟩)), vl, (.bool true), (.bool true), (.bool true)]) s 9 v HCl.out HD.out ?_, rfl, HI.out.put HL.out hb2 ?_⟩
      · intro j hj
        match j, hj with
        | 0, _ => exact .inr rfl
        | 1, _ => exact .inr rfl
        | 2, _ => exact .inr rfl
        | 3, _ => exact .inr rfl
        | 4, _ => exact .inr rfl
        | 5, _ => exact .inr rfl
        | 6, _ => exact .inr rfl
        | 7, _ => exact .inr rfl
        | 8, _ => exact .inr rfl
        | 9, _ => exact .inl (.inl rfl)
        | 10, _ => exact .inr rfl
        | 11, _ => exact .inr rfl
        | 12, _ => exact .inr rfl
        | 13, _ => exact .inr rfl
        | 14, _ => exact .inr rfl
        | 15, _ => exact .inr rfl
        | 16, _ => exact .inr rfl
        | j + 17, _ => exact .inr rfl
      · intro q hq he
        simp only [List.mem_cons, List.not_mem_nil, or_false] at hq
        rcases hq with rfl | rfl <;> first | exact hv.reads HN.out.2 | exact absurd (show (1 : Nat) = 9 from he) (by decide)
    · intro s D w' hD hW hC hI
      have hS := hI.below
      refine .inl ⟨s, fun _ _ _ => rfl, ?_⟩
      with_reducible refine OpTo.wanted ?_ ?_
      kernel_rfl
      have HS := Lib.hid (hI.step HL.out (Below.refl _ _) (k := 10) (by intro q hq; simp only [List.mem_cons, List.not_mem_nil, or_false] at hq; rcases hq with rfl | rfl <;> first | exact (show (1 : Nat) ≠ 10 by decide) | exact (show (9 : Nat) ≠ 10 by decide)))
      clear hI hS hC hW hD
      go_wp2_with fail
      all_goals first | exact HS.out | exact ⟨rfl, HS.out⟩ | rfl
    · intro s D w' hD hW hC hI
      have hS := hI.below
      refine .inl ⟨s, fun _ _ _ => rfl, ?_⟩
      with_reducible refine OpTo.wanted ?_ ?_
      kernel_rfl
      have hl0 := Nat.lt_of_lt_of_le HR.out.blk.lt hS.size
      have HS := Lib.hid (hI.step HL.out (Below.refl _ _) (k := 11) (by intro q hq; simp only [List.mem_cons, List.not_mem_nil, or_false] at hq; rcases hq with rfl | rfl <;> first | exact (show (1 : Nat) ≠ 11 by decide) | exact (show (9 : Nat) ≠ 11 by decide)))
      clear hI hS hC hW hD
      go_wp2_with fail
      all_goals first | exact HS.out | exact ⟨rfl, HS.out⟩ | rfl
    · intro s D w' hD hW hC hI
      have hS := hI.below
      refine .inl ⟨s, fun _ _ _ => rfl, ?_⟩
      with_reducible refine OpTo.wanted ?_ ?_
      kernel_rfl
      have hl0 := Nat.lt_of_lt_of_le HR.out.blk.lt hS.size
      have HS := Lib.hid (hI.step HL.out (Below.refl _ _) (k := 12) (by intro q hq; simp only [List.mem_cons, List.not_mem_nil, or_false] at hq; rcases hq with rfl | rfl <;> first | exact (show (1 : Nat) ≠ 12 by decide) | exact (show (9 : Nat) ≠ 12 by decide)))
      clear hI hS hC hW hD
      go_wp2_with fail
      all_goals first | exact HS.out | exact ⟨rfl, HS.out⟩ | rfl
    · intro s D w' hD hW hC hI
      have hS := hI.below
      refine .inl ⟨s, fun _ _ _ => rfl, ?_⟩
      with_reducible refine OpTo.wanted ?_ ?_
      kernel_rfl
      have hl0 := Nat.lt_of_lt_of_le HR.out.blk.lt hS.size
      have d0 := (HR.out.blk.below hS HR.out.blk.lt).cell 1
      simp at d0
      have HS := Lib.hid (hI.step HL.out (Below.refl _ _) (k := 13) (by intro q hq; simp only [List.mem_cons, List.not_mem_nil, or_false] at hq; rcases hq with rfl | rfl <;> first | exact (show (1 : Nat) ≠ 13 by decide) | exact (show (9 : Nat) ≠ 13 by decide)))
      clear hI hS hC hW hD
      go_wp2_with fail
      all_goals first | exact HS.out | exact ⟨rfl, HS.out⟩ | rfl
    · intro s D w' hD hW hC hI
      have hS := hI.below
      refine .inl ⟨s, fun _ _ _ => rfl, ?_⟩
      with_reducible refine OpTo.wanted ?_ ?_
      kernel_rfl
      have hP9 : D 9 = true := need_waited hC hW (by kernel_rfl)
      have hq9 := hI.at (9, (fun v w => Reads w v 5 ls.length (lnCells ls))) (by simp) hP9
      dsimp only at hq9
      have HI := Lib.hid hI
      have HC := Lib.hid ((by have q := SameLines_any hq9 (Reads.of_owns (owns_below HR.out.l hS) HN.out.2); rw [decide_eq_true rfl] at q; exact q : Calls Try.prog 28 #[s 9, vl] w' fun e w'' => e = .returned (.bool true) ∧ Below w'.heap.size w' w''))
      clear hI hS hC hW hD hP9 hq9
      go_wp2_with fail
      refine HC.out.mono ?_
      rintro e w'' ⟨rfl, hb2⟩
      exact ⟨rfl, HI.out.step HL.out hb2 (by intro q hq; simp only [List.mem_cons, List.not_mem_nil, or_false] at hq; rcases hq with rfl | rfl <;> first | exact (show (1 : Nat) ≠ 14 by decide) | exact (show (9 : Nat) ≠ 14 by decide))⟩
    · intro s D w' hD hW hC hI
      have hS := hI.below
      refine .inl ⟨s, fun _ _ _ => rfl, ?_⟩
      with_reducible refine OpTo.plain ?_ ?_
      exact rfl
      have HS := Lib.hid (hI.step HL.out (Below.refl _ _) (k := 15) (by intro q hq; simp only [List.mem_cons, List.not_mem_nil, or_false] at hq; rcases hq with rfl | rfl <;> first | exact (show (1 : Nat) ≠ 15 by decide) | exact (show (9 : Nat) ≠ 15 by decide)))
      clear hI hS hC hW hD
      go_wp2_with fail
      all_goals first | exact HS.out | exact ⟨rfl, HS.out⟩ | rfl
    · intro s D w' hD hW hC hI
      have hS := hI.below
      refine .inl ⟨s, fun _ _ _ => rfl, ?_⟩
      with_reducible refine OpTo.plain ?_ ?_
      exact rfl
      have HS := Lib.hid (hI.step HL.out (Below.refl _ _) (k := 16) (by intro q hq; simp only [List.mem_cons, List.not_mem_nil, or_false] at hq; rcases hq with rfl | rfl <;> first | exact (show (1 : Nat) ≠ 16 by decide) | exact (show (9 : Nat) ≠ 16 by decide)))
      clear hI hS hC hW hD
      go_wp2_with fail
      all_goals first | exact HS.out | exact ⟨rfl, HS.out⟩ | rfl
  intro s D w2 hall hI
  have B2 := Lib.hid hI.below
  clear hI hall
  dsimp only
  go_wp2_with fail
  go_ret
  exact ⟨rfl, B2.out⟩

end Go.Proofs.Ytajmladlmkkimaa
