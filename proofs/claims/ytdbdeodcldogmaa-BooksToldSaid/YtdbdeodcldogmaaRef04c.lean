/-
  countinghouseref04: Copy.
-/
import Derived.Test.YtdbdeodcldogmaaRef04b
import Derived.Test.YtdbdeodcldogmaaAppends
import Derived.Test.YtdbdeodcldogmaaOnce
namespace Go.Proofs.Ytdbdeodcldogmaa
open Go.RowKit
set_option linter.unusedSimpArgs false
set_option linter.unusedVariables false

/-- What is held while a copy is made. -/
def CopiedB (W : World) (base : Nat) (l : List Of) (N : Int) (s : Value × Nat) (D : Nat → Bool) (w : World) : Prop :=
  Below W.heap.size W w ∧ (D 4 = true → w.ownsRow base 39 7 s.1 l.length (ofCells l) ∧ ∀ b, s.1.ownBlock = some b → W.heap.size ≤ b) ∧ (D 10 = true → W.heap.size ≤ s.2 ∧ Blk w s.2 #[s.1, .int .u64 N] 74)
theorem CopiedB.step {W w w' : World} {base : Nat} {l : List Of} {N : Int} {s : Value × Nat} {D : Nat → Bool} {k : Nat} (h : CopiedB W base l N s D w) (hb : Below w.heap.size w w') (h4 : k ≠ 4) (h10 : k ≠ 10) : CopiedB W base l N s (ins k D) w' := by
  obtain ⟨b, p, q⟩ := h
  have e4 : ¬ 4 = k := fun e => h4 e.symm
  have e10 : ¬ 10 = k := fun e => h10 e.symm
  refine ⟨b.trans (hb.mono b.size), fun d => ?_, fun d => ?_⟩
  · simp [ins, e4] at d; exact ⟨owns_below (p d).1 hb, (p d).2⟩
  · simp [ins, e10] at d; exact ⟨(q d).1, (q d).2.below hb (q d).2.lt⟩
theorem CopiedB.boxed {W w : World} {base : Nat} {l : List Of} {N : Int} {s : Value × Nat} {D : Nat → Bool} (h : CopiedB W base l N s D w) (hP : D 4 = true) : CopiedB W base l N (s.1, w.heap.size) (ins 10 D) (w.alloc (.cells #[s.1, .int .u64 N] 74)) := by
  obtain ⟨b, p, q⟩ := h
  have hb := (Below.refl w.heap.size w).alloc (Nat.le_refl _) (.cells #[s.1, .int .u64 N] 74)
  exact ⟨b.trans (hb.mono b.size), fun _ => ⟨owns_below (p hP).1 hb, (p hP).2⟩, fun _ => ⟨b.size, Blk.new _ _ _⟩⟩
/-- Another book with the same, in memory of its own. -/
def CopyBPost (base : Nat) (l : List Of) (N : Int) (w : World) (e : Ending) (w' : World) : Prop :=
  ∃ g' vl', e = .returned (.pointer (some ⟨g', 0, none⟩)) ∧ RefB w' base g' l N vl' ∧ w.heap.size ≤ g' ∧ (∀ b, vl'.ownBlock = some b → w.heap.size ≤ b) ∧ Below w.heap.size w w'
set_option maxHeartbeats 4000000 in
set_option maxRecDepth 100000 in
theorem bcopy_any {w : World} {base g : Nat} {l : List Of} {N : Int} {vl : Value} (h : RefB w base g l N vl) (hl : l.length ≤ 1000) :
    Calls Try.prog 15 #[.pointer (some ⟨g, 0, none⟩)] w (CopyBPost base l N w) := by
  have H := Lib.hid h
  have hg := h.blk.lt
  have hbase0 := h.ge
  clear h
  go_enter Try.func15, Try.ntmps15
  go_wp2_with fail
  refine region_ghost (by kernel_rfl) (fun s : Value × Nat => [(.pointer (some ⟨g, 0, none⟩)), (.pointer (some ⟨g, 0, none⟩)), (.pointer (some ⟨g, 0, none⟩)), vl, s.1, (.pointer (some ⟨g, 0, none⟩)), (.pointer (some ⟨g, 0, none⟩)), (.pointer (some ⟨g, 1, none⟩)), (.int .u64 N), (.agg #[s.1, .int .u64 N]), (.pointer (some ⟨s.2, 0, none⟩)), (.pointer (some ⟨s.2, 0, none⟩))])
    (CopiedB w base l N) (by kernel_rfl) (undef, 0) ⟨(Below.refl _ _).drew, by simp, by simp⟩ ?_
  intro AF hAF
  simp only [puts, Act.put, List.getD_cons_zero, List.getD_cons_succ, List.setIfInBounds_toArray, List.set_cons_succ, List.set_cons_zero] at hAF
  have hAF2 : _ = AF := funext hAF
  subst hAF2
  clear hAF
  refine ⟨?_, ?_⟩
  · simp only [EachG]
    refine ⟨?_, ?_, ?_, ?_, ?_, ?_, ?_, ?_, ?_, ?_, ?_, ?_, trivial⟩
    · intro s D w' hD hW hC hI
      refine ⟨s, fun _ _ _ => rfl, ?_⟩
      with_reducible refine OpTo.plain ?_ ?_
      exact rfl
      have hI' := Lib.hid (hI.step (Below.refl _ _) (k := 0) (by decide) (by decide))
      have hg' : g < w'.heap.size := Nat.lt_of_lt_of_le hg hI.1.size
      clear hI hC hW hD
      go_wp2_with fail
      all_goals first | exact hI'.out | exact ⟨rfl, hI'.out⟩ | rfl
    · intro s D w' hD hW hC hI
      refine ⟨s, fun _ _ _ => rfl, ?_⟩
      with_reducible refine OpTo.plain ?_ ?_
      exact rfl
      have hI' := Lib.hid (hI.step (Below.refl _ _) (k := 1) (by decide) (by decide))
      have hg' : g < w'.heap.size := Nat.lt_of_lt_of_le hg hI.1.size
      clear hI hC hW hD
      go_wp2_with fail
      all_goals first | exact hI'.out | exact ⟨rfl, hI'.out⟩ | rfl
    · intro s D w' hD hW hC hI
      refine ⟨s, fun _ _ _ => rfl, ?_⟩
      with_reducible refine OpTo.plain ?_ ?_
      exact rfl
      have hI' := Lib.hid (hI.step (Below.refl _ _) (k := 2) (by decide) (by decide))
      have hg' : g < w'.heap.size := Nat.lt_of_lt_of_le hg hI.1.size
      clear hI hC hW hD
      go_wp2_with fail
      all_goals first | exact hI'.out | exact ⟨rfl, hI'.out⟩ | rfl
    · intro s D w' hD hW hC hI
      refine ⟨s, fun _ _ _ => rfl, ?_⟩
      with_reducible refine OpTo.plain ?_ ?_
      exact rfl
      have hI' := Lib.hid (hI.step (Below.refl _ _) (k := 3) (by decide) (by decide))
      have hg' : g < w'.heap.size := Nat.lt_of_lt_of_le hg hI.1.size
      have d0 := (H.out.blk.below hI.1 hg).cell 0
      simp at d0
      clear hI hC hW hD
      go_wp2_with fail
      all_goals first | exact hI'.out | exact ⟨rfl, hI'.out⟩ | rfl
    · intro s D w' hD hW hC hI
      have hN : D 9 = false := need_not hC hD 9 (by kernel_rfl)
      have hN2 : D 10 = false := need_not hC hD 10 (by kernel_rfl)
      have hN3 : D 11 = false := need_not hC hD 11 (by kernel_rfl)
      obtain ⟨v', w2, hrun, how, hbel⟩ := run_append_copy (P := Try.prog) (w := w') 50 50 39 info_of Try.underlying50 rfl (by decide) (by decide) base _ _ _ (owns_below H.out.row hI.1) (ofCells_oneCell l) (by omega)
      refine ⟨(v', s.2), ?_, ?_⟩
      · intro j hj hDj
        match j, hj, hDj with
        | 0, _, _ => rfl
        | 1, _, _ => rfl
        | 2, _, _ => rfl
        | 3, _, _ => rfl
        | 4, _, h => simp_all
        | 5, _, _ => rfl
        | 6, _, _ => rfl
        | 7, _, _ => rfl
        | 8, _, _ => rfl
        | 9, _, h => simp_all
        | 10, _, _ => rfl
        | 11, _, _ => rfl
        | j + 12, _, _ => rfl
      with_reducible refine OpTo.plain ?_ ?_
      exact rfl
      refine wp_append_of (.tmp 6) 50 rfl rfl hrun ⟨rfl, ?_⟩
      have hw := hI.1.size
      have hh : ∀ b, v'.ownBlock = some b → w.heap.size ≤ b := fun b hb => Nat.le_trans hw (owns_type how hb).1
      obtain ⟨q1, q2, q3⟩ := hI
      refine ⟨q1.trans (hbel.mono q1.size), fun _ => ⟨owns_base how (Nat.le_trans hbase0 (Nat.le_trans (Nat.le_of_lt hg) hw)), hh⟩, fun d => ?_⟩
      simp [ins, hN2] at d
    · intro s D w' hD hW hC hI
      refine ⟨s, fun _ _ _ => rfl, ?_⟩
      with_reducible refine OpTo.plain ?_ ?_
      exact rfl
      have hI' := Lib.hid (hI.step (Below.refl _ _) (k := 5) (by decide) (by decide))
      have hg' : g < w'.heap.size := Nat.lt_of_lt_of_le hg hI.1.size
      clear hI hC hW hD
      go_wp2_with fail
      all_goals first | exact hI'.out | exact ⟨rfl, hI'.out⟩ | rfl
    · intro s D w' hD hW hC hI
      refine ⟨s, fun _ _ _ => rfl, ?_⟩
      with_reducible refine OpTo.plain ?_ ?_
      exact rfl
      have hI' := Lib.hid (hI.step (Below.refl _ _) (k := 6) (by decide) (by decide))
      have hg' : g < w'.heap.size := Nat.lt_of_lt_of_le hg hI.1.size
      clear hI hC hW hD
      go_wp2_with fail
      all_goals first | exact hI'.out | exact ⟨rfl, hI'.out⟩ | rfl
    · intro s D w' hD hW hC hI
      refine ⟨s, fun _ _ _ => rfl, ?_⟩
      with_reducible refine OpTo.plain ?_ ?_
      exact rfl
      have hI' := Lib.hid (hI.step (Below.refl _ _) (k := 7) (by decide) (by decide))
      have hg' : g < w'.heap.size := Nat.lt_of_lt_of_le hg hI.1.size
      clear hI hC hW hD
      go_wp2_with fail
      all_goals first | exact hI'.out | exact ⟨rfl, hI'.out⟩ | rfl
    · intro s D w' hD hW hC hI
      refine ⟨s, fun _ _ _ => rfl, ?_⟩
      with_reducible refine OpTo.plain ?_ ?_
      exact rfl
      have hI' := Lib.hid (hI.step (Below.refl _ _) (k := 8) (by decide) (by decide))
      have hg' : g < w'.heap.size := Nat.lt_of_lt_of_le hg hI.1.size
      have d0 := (H.out.blk.below hI.1 hg).cell 1
      simp at d0
      clear hI hC hW hD
      go_wp2_with fail
      all_goals first | exact hI'.out | exact ⟨rfl, hI'.out⟩ | rfl
    · intro s D w' hD hW hC hI
      have hP : D 4 = true := need_waited hC hW (by kernel_rfl)
      refine ⟨s, fun _ _ _ => rfl, ?_⟩
      with_reducible refine OpTo.plain ?_ ?_
      exact rfl
      have HS := Lib.hid (hI.step (Below.refl _ _) (k := 9) (by decide) (by decide))
      obtain ⟨ao, cap, hv, _⟩ := owns_open (hI.2.1 hP).1
      clear hC hW hD hP hI
      obtain ⟨s1, s2⟩ := s
      dsimp only at hv HS ⊢
      subst hv
      go_wp2_with fail
      all_goals first | exact HS.out | exact ⟨rfl, HS.out⟩ | rfl
    · intro s D w' hD hW hC hI
      have hP : D 4 = true := need_waited hC hW (by kernel_rfl)
      have hN3 : D 11 = false := need_not hC hD 11 (by kernel_rfl)
      refine ⟨(s.1, w'.heap.size), ?_, ?_⟩
      · intro j hj hDj
        match j, hj, hDj with
        | 0, _, _ => rfl
        | 1, _, _ => rfl
        | 2, _, _ => rfl
        | 3, _, _ => rfl
        | 4, _, _ => rfl
        | 5, _, _ => rfl
        | 6, _, _ => rfl
        | 7, _, _ => rfl
        | 8, _, _ => rfl
        | 9, _, _ => rfl
        | 10, _, h => simp_all
        | 11, _, h => simp_all
        | j + 12, _, _ => rfl
      with_reducible refine OpTo.plain ?_ ?_
      exact rfl
      have HS := Lib.hid (hI.boxed hP)
      obtain ⟨q1, q2, q3⟩ := hI
      obtain ⟨ao, cap, hv, _⟩ := owns_open (q2 hP).1
      clear hC hW hD q1 q2 q3 hP hN3
      obtain ⟨s1, s2⟩ := s
      dsimp only at hv HS ⊢
      subst hv
      go_wp2_with fail
      all_goals first | exact HS.out | exact ⟨rfl, HS.out⟩ | rfl
    · intro s D w' hD hW hC hI
      refine ⟨s, fun _ _ _ => rfl, ?_⟩
      with_reducible refine OpTo.plain ?_ ?_
      exact rfl
      have hI' := Lib.hid (hI.step (Below.refl _ _) (k := 11) (by decide) (by decide))
      have hg' : g < w'.heap.size := Nat.lt_of_lt_of_le hg hI.1.size
      clear hI hC hW hD
      go_wp2_with fail
      all_goals first | exact hI'.out | exact ⟨rfl, hI'.out⟩ | rfl
  intro s D w2 hall hI
  obtain ⟨q1, q2, q3⟩ := hI
  have Q1 := Lib.hid q1
  have Q2 := Lib.hid (q2 (hall 4 (by decide)))
  have Q3 := Lib.hid (q3 (hall 10 (by decide)))
  clear q1 q2 q3 hall
  dsimp only
  go_wp2_with fail
  go_ret
  exact ⟨s.2, s.1, rfl, ⟨Q3.out.2, Nat.le_trans hbase0 (Nat.le_trans (Nat.le_of_lt hg) Q3.out.1), Q2.out.1⟩, Q3.out.1, Q2.out.2, Q1.out⟩

end Go.Proofs.Ytdbdeodcldogmaa
