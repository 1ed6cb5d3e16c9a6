/-
  countinghouseref03: Copy.
-/
import Derived.Test.YtlcilpeljnoclaaRef03h
import Derived.Laws.AppendOwnNone
namespace Go.Proofs.Ytlcilpeljnoclaa
open Go.RowKit
set_option linter.unusedSimpArgs false
set_option linter.unusedVariables false

/-- 'append([]T(nil), src...)': a row of its own with the same. -/
theorem run_append_copy {P : Program} {w : World} (t ty e : TypeId) {z : Value} {size bytes : Nat}
    (hi : (P.info? e).map (fun i => (i.zero, i.size, i.bytes)) = some (some z, size, bytes)) (ht : P.underlying t = some (.slice e)) (hzs : z.cells.size = size) (hsz : 0 < size) (hbs : bytes ≤ 1000)
    (base : Nat) (v : Value) (n : Nat) (xs : List Value) (hown : w.ownsRow base e size v n xs) (h1 : ∀ u ∈ xs, u.oneCell' = true) (hn : n ≤ 100000) :
    ∃ v' w', (Builtin.append_ #[t, t] ty #[.slice none 0 0, v]).run P w = .ok v' w' ∧ w'.ownsRow w.heap.size e size v' n xs ∧ Below w.heap.size w w' := by
  obtain ⟨i, hi1, hi2, hi3, hi4⟩ := info_parts hi
  have h0 := World.ownsRow_nil w w.heap.size e size
  obtain ⟨ao, cap, rfl, c1, c2, c3, c4⟩ := owns_open hown
  cases ao with
  | none =>
    have hz : n = 0 := by
      rcases Nat.eq_zero_or_pos n with e | e
      · exact e
      · obtain ⟨b, hb, _⟩ := c4 e; cases hb
    have hcap : cap = 0 := by
      rcases hown.2 with ⟨e, _⟩ | ⟨g, cap', cur, e, _⟩
      · cases e; rfl
      · cases e
    subst hz
    subst hcap
    have hxs : xs = [] := List.eq_nil_of_length_eq_zero (by simpa using c3)
    subst hxs
    exact ⟨_, _, run_append_owned_none (P := P) (w := w) w.heap.size t ty e i size ht hi1 (.slice none 0 0) 0 [] h0, h0, Below.refl _ _⟩
  | some ad =>
    have hcells : ∀ j u, xs[j]? = some u → w.cell? (ad.add j) = some u := by
      intro j u hj
      have hjl : j < xs.length := (List.getElem?_eq_some_iff.1 hj).1
      have hp : 0 < n := by
        rcases Nat.eq_zero_or_pos n with e | e
        · subst e; rw [c3] at hjl; omega
        · exact e
      obtain ⟨b, hb, _, _, hc, _⟩ := c4 hp
      cases hb
      rw [Go.WideShapes.add_plain, Nat.zero_add, hc j (by omega)]
      exact hj
    have hbb := Nat.mul_le_mul hn hbs
    obtain ⟨v', w', hr, h2, h3, _⟩ := run_append_own (P := P) w w.heap.size t ty e i z size bytes ht hi1 hi2 hi3 hi4 hzs hsz (.slice none 0 0) 0 [] h0 ad n cap xs c3 hcells h1 (by unfold maxLen; omega) (by rw [Nat.zero_add]; omega) (Nat.le_refl _)
    simp only [Nat.zero_add, List.nil_append] at h2
    exact ⟨v', w', hr, h2, (Below.refl w.heap.size w).grown h3 (Nat.le_refl _) (fun k hk => by cases hk)⟩
theorem wp_append_of {P : Program} {w w' : World} {o : Oper} {a : Act} {K : Act → World → Prop} {Q : Exit → Act → World → Prop} (x : Operand) (t : TypeId) {v v' : Value}
    (ho : o.op = .call { callee := .builtin .append, args := #[.const (.slice none 0 0), x], argTypes := #[t, t] }) (hx : a.eval x = v)
    (hr : (Builtin.append_ #[t, t] o.type #[.slice none 0 0, v]).run P w = .ok v' w') (h : K (a.put o.dst v') w') : o.wp P a w K Q := by
  have hc : a.eval (.const (.slice none 0 0)) = .slice none 0 0 := rfl
  unfold Oper.wp execOp
  simp only [ho, resolve, invoke, builtin, Sem.run_bind, Sem.run_pure, Result.andThen_ok, List.map_toArray, List.map_cons, List.map_nil, hc, hx, hr]
  exact h
theorem not_done {ops : Array Oper} {D : Nat → Bool} (hC : Closed ops D) {j k : Nat} (hj : D j = false) {o : Oper} (ho : ops[k]? = some o) (he : ∃ e ∈ o.after, Region.binds .any e = true ∧ e.on = j) : D k = false := by
  obtain ⟨e, he, hb, hon⟩ := he
  by_cases h : D k = true
  · have := hC k o ho h e he hb
    rw [hon, hj] at this; cases this
  · simpa using h

theorem lnCells_one_cell (ls : List Ln) : ∀ u ∈ lnCells ls, u.oneCell' = true := by
  intro u hu
  unfold lnCells at hu
  obtain ⟨x, _, hx⟩ := List.mem_flatMap.1 hu
  simp [Ln.vals] at hx
  rcases hx with rfl | rfl | rfl | rfl | rfl <;> rfl

/-- What is held while a copy is made. -/
def Copied (W : World) (base : Nat) (ps : List Int) (ls : List Ln) (g : Value × Value × Nat) (D : Nat → Bool) (w : World) : Prop :=
  Below W.heap.size W w ∧ (D 4 = true → w.ownsRow base 28 1 g.1 ps.length (ps.map (.int .u8)) ∧ ∀ b, g.1.ownBlock = some b → W.heap.size ≤ b) ∧ (D 9 = true → w.ownsRow base 35 5 g.2.1 ls.length (lnCells ls) ∧ ∀ b, g.2.1.ownBlock = some b → W.heap.size ≤ b) ∧ (D 11 = true → W.heap.size ≤ g.2.2 ∧ Blk w g.2.2 #[g.1, g.2.1] 74)
theorem Copied.step {W w w' : World} {base : Nat} {ps : List Int} {ls : List Ln} {g : Value × Value × Nat} {D : Nat → Bool} {k : Nat} (h : Copied W base ps ls g D w) (hb : Below w.heap.size w w') (h4 : k ≠ 4) (h9 : k ≠ 9) (h11 : k ≠ 11) : Copied W base ps ls g (ins k D) w' := by
  obtain ⟨b, p, l, s⟩ := h
  have e4 : ¬ 4 = k := fun e => h4 e.symm
  have e9 : ¬ 9 = k := fun e => h9 e.symm
  have e11 : ¬ 11 = k := fun e => h11 e.symm
  refine ⟨b.trans (hb.mono b.size), fun d => ?_, fun d => ?_, fun d => ?_⟩
  · simp [ins, e4] at d; exact ⟨owns_below (p d).1 hb, (p d).2⟩
  · simp [ins, e9] at d; exact ⟨owns_below (l d).1 hb, (l d).2⟩
  · simp [ins, e11] at d; exact ⟨(s d).1, (s d).2.below hb (s d).2.lt⟩
/-- Another ledger with the same, in memory of its own. -/
def CopyPost (base : Nat) (ps : List Int) (ls : List Ln) (w : World) (e : Ending) (w' : World) : Prop :=
  ∃ g' vp' vl', e = .returned (.pointer (some ⟨g', 0, none⟩)) ∧ RefL w' base g' ps ls vp' vl' ∧ w.heap.size ≤ g' ∧ (∀ b, vp'.ownBlock = some b → w.heap.size ≤ b) ∧ (∀ b, vl'.ownBlock = some b → w.heap.size ≤ b) ∧ Below w.heap.size w w'
set_option maxHeartbeats 4000000 in
set_option maxRecDepth 100000 in
theorem rcopy_any {w : World} {base g : Nat} {ps : List Int} {ls : List Ln} {vp vl : Value} (h : RefL w base g ps ls vp vl) (hp : ps.length ≤ 1000) (hl : ls.length ≤ 1000) :
    Calls Try.prog 13 #[.pointer (some ⟨g, 0, none⟩)] w (CopyPost base ps ls w) := by
  have H := Lib.hid h
  have hg := h.blk.lt
  have hbase0 := h.ge
  clear h
  go_enter Try.func13, Try.ntmps13
  go_wp2_with fail
  refine region_ghost (by kernel_rfl) (fun s : Value × Value × Nat => [.pointer (some ⟨g, 0, none⟩), .pointer (some ⟨g, 0, none⟩), .pointer (some ⟨g, 0, none⟩), vp, s.1, .pointer (some ⟨g, 0, none⟩), .pointer (some ⟨g, 0, none⟩), .pointer (some ⟨g, 1, none⟩), vl, s.2.1, .agg #[s.1, s.2.1], .pointer (some ⟨s.2.2, 0, none⟩), .pointer (some ⟨s.2.2, 0, none⟩)])
    (Copied w base ps ls) (by kernel_rfl) (undef, undef, 0) ⟨(Below.refl _ _).drew, by simp, by simp, by simp⟩ ?_
  intro AF hAF
  simp only [puts, Act.put, List.getD_cons_zero, List.getD_cons_succ, List.setIfInBounds_toArray, List.set_cons_succ, List.set_cons_zero] at hAF
  have hAF2 : _ = AF := funext hAF
  subst hAF2
  clear hAF
  refine ⟨?_, ?_⟩
  · simp only [EachG]
    refine ⟨?_, ?_, ?_, ?_, ?_, ?_, ?_, ?_, ?_, ?_, ?_, ?_, ?_, trivial⟩
    · intro s D w' hD _ _ hI
      refine ⟨s, fun _ _ _ => rfl, ?_⟩
      with_reducible refine OpTo.plain ?_ ?_
      exact rfl
      have hI' := Lib.hid (hI.step (Below.refl _ _) (k := 0) (by decide) (by decide) (by decide))
      have hg' : g < w'.heap.size := Nat.lt_of_lt_of_le hg hI.1.size
      clear hI
      go_wp2_with fail
      all_goals first | exact hI'.out | exact ⟨rfl, hI'.out⟩ | rfl
    · intro s D w' hD _ _ hI
      refine ⟨s, fun _ _ _ => rfl, ?_⟩
      with_reducible refine OpTo.plain ?_ ?_
      exact rfl
      have hI' := Lib.hid (hI.step (Below.refl _ _) (k := 1) (by decide) (by decide) (by decide))
      have hg' : g < w'.heap.size := Nat.lt_of_lt_of_le hg hI.1.size
      clear hI
      go_wp2_with fail
      all_goals first | exact hI'.out | exact ⟨rfl, hI'.out⟩ | rfl
    · intro s D w' hD _ _ hI
      refine ⟨s, fun _ _ _ => rfl, ?_⟩
      with_reducible refine OpTo.plain ?_ ?_
      exact rfl
      have hI' := Lib.hid (hI.step (Below.refl _ _) (k := 2) (by decide) (by decide) (by decide))
      have hg' : g < w'.heap.size := Nat.lt_of_lt_of_le hg hI.1.size
      clear hI
      go_wp2_with fail
      all_goals first | exact hI'.out | exact ⟨rfl, hI'.out⟩ | rfl
    · intro s D w' hD _ _ hI
      refine ⟨s, fun _ _ _ => rfl, ?_⟩
      with_reducible refine OpTo.plain ?_ ?_
      exact rfl
      have hI' := Lib.hid (hI.step (Below.refl _ _) (k := 3) (by decide) (by decide) (by decide))
      have hg' : g < w'.heap.size := Nat.lt_of_lt_of_le hg hI.1.size
      have d0 := (H.out.blk.below hI.1 hg).cell 0
      simp at d0
      clear hI
      go_wp2_with fail
      all_goals first | exact hI'.out | exact ⟨rfl, hI'.out⟩ | rfl
    · intro s D w' hD _ hC hI
      have hN : D 10 = false := not_done hC hD rfl ⟨⟨4, .data⟩, by simp, rfl, rfl⟩
      have hN2 : D 11 = false := not_done hC hN rfl ⟨⟨10, .data⟩, by simp, rfl, rfl⟩
      obtain ⟨v', w2, hrun, how, hbel⟩ := run_append_copy (P := Try.prog) (w := w') 46 46 28 info_party Try.underlying46 rfl (by decide) (by decide) base _ _ _ (owns_below H.out.p hI.1) (by intro u hu; obtain ⟨q, _, rfl⟩ := List.mem_map.1 hu; rfl) (by omega)
      refine ⟨(v', s.2.1, s.2.2), ?_, ?_⟩
      · intro j hj hDj
        match j, hj, hDj with
        | 0, _, _ => rfl
        | 1, _, _ => rfl
        | 2, _, _ => rfl
        | 3, _, _ => rfl
        | 4, _, h => simp_all
        | 5, _, _ => rfl
        | 6, _, _ => rfl
        | 7, _, _ => rfl
        | 8, _, _ => rfl
        | 9, _, _ => rfl
        | 10, _, h => simp_all
        | 11, _, _ => rfl
        | 12, _, _ => rfl
        | j + 13, _, _ => rfl
      with_reducible refine OpTo.plain ?_ ?_
      exact rfl
      refine wp_append_of (.tmp 6) 46 rfl rfl hrun ⟨rfl, ?_⟩
      have hw := hI.1.size
      have hh : ∀ b, v'.ownBlock = some b → w.heap.size ≤ b := fun b hb => Nat.le_trans hw (owns_type how hb).1
      obtain ⟨q1, q2, q3, q4⟩ := hI
      refine ⟨q1.trans (hbel.mono q1.size), fun _ => ⟨owns_base how (Nat.le_trans hbase0 (Nat.le_trans (Nat.le_of_lt hg) hw)), hh⟩, fun d => ?_, fun d => ?_⟩
      · simp [ins] at d; exact ⟨owns_below (q3 d).1 hbel, (q3 d).2⟩
      · simp [ins, hN2] at d
    · intro s D w' hD _ _ hI
      refine ⟨s, fun _ _ _ => rfl, ?_⟩
      with_reducible refine OpTo.plain ?_ ?_
      exact rfl
      have hI' := Lib.hid (hI.step (Below.refl _ _) (k := 5) (by decide) (by decide) (by decide))
      have hg' : g < w'.heap.size := Nat.lt_of_lt_of_le hg hI.1.size
      clear hI
      go_wp2_with fail
      all_goals first | exact hI'.out | exact ⟨rfl, hI'.out⟩ | rfl
    · intro s D w' hD _ _ hI
      refine ⟨s, fun _ _ _ => rfl, ?_⟩
      with_reducible refine OpTo.plain ?_ ?_
      exact rfl
      have hI' := Lib.hid (hI.step (Below.refl _ _) (k := 6) (by decide) (by decide) (by decide))
      have hg' : g < w'.heap.size := Nat.lt_of_lt_of_le hg hI.1.size
      clear hI
      go_wp2_with fail
      all_goals first | exact hI'.out | exact ⟨rfl, hI'.out⟩ | rfl
    · intro s D w' hD _ _ hI
      refine ⟨s, fun _ _ _ => rfl, ?_⟩
      with_reducible refine OpTo.plain ?_ ?_
      exact rfl
      have hI' := Lib.hid (hI.step (Below.refl _ _) (k := 7) (by decide) (by decide) (by decide))
      have hg' : g < w'.heap.size := Nat.lt_of_lt_of_le hg hI.1.size
      clear hI
      go_wp2_with fail
      all_goals first | exact hI'.out | exact ⟨rfl, hI'.out⟩ | rfl
    · intro s D w' hD _ _ hI
      refine ⟨s, fun _ _ _ => rfl, ?_⟩
      with_reducible refine OpTo.plain ?_ ?_
      exact rfl
      have hI' := Lib.hid (hI.step (Below.refl _ _) (k := 8) (by decide) (by decide) (by decide))
      have hg' : g < w'.heap.size := Nat.lt_of_lt_of_le hg hI.1.size
      have d0 := (H.out.blk.below hI.1 hg).cell 1
      simp at d0
      clear hI
      go_wp2_with fail
      all_goals first | exact hI'.out | exact ⟨rfl, hI'.out⟩ | rfl
    · intro s D w' hD _ hC hI
      have hN : D 10 = false := not_done hC hD rfl ⟨⟨9, .data⟩, by simp, rfl, rfl⟩
      have hN2 : D 11 = false := not_done hC hN rfl ⟨⟨10, .data⟩, by simp, rfl, rfl⟩
      obtain ⟨v', w2, hrun, how, hbel⟩ := run_append_copy (P := Try.prog) (w := w') 49 49 35 info_lineAll Try.underlying49 rfl (by decide) (by decide) base _ _ _ (owns_below H.out.l hI.1) (by exact lnCells_one_cell ls) (by omega)
      refine ⟨(s.1, v', s.2.2), ?_, ?_⟩
      · intro j hj hDj
        match j, hj, hDj with
        | 0, _, _ => rfl
        | 1, _, _ => rfl
        | 2, _, _ => rfl
        | 3, _, _ => rfl
        | 4, _, _ => rfl
        | 5, _, _ => rfl
        | 6, _, _ => rfl
        | 7, _, _ => rfl
        | 8, _, _ => rfl
        | 9, _, h => simp_all
        | 10, _, h => simp_all
        | 11, _, _ => rfl
        | 12, _, _ => rfl
        | j + 13, _, _ => rfl
      with_reducible refine OpTo.plain ?_ ?_
      exact rfl
      refine wp_append_of (.tmp 11) 49 rfl rfl hrun ⟨rfl, ?_⟩
      have hw := hI.1.size
      have hh : ∀ b, v'.ownBlock = some b → w.heap.size ≤ b := fun b hb => Nat.le_trans hw (owns_type how hb).1
      obtain ⟨q1, q2, q3, q4⟩ := hI
      refine ⟨q1.trans (hbel.mono q1.size), fun d => ?_, fun _ => ⟨owns_base how (Nat.le_trans hbase0 (Nat.le_trans (Nat.le_of_lt hg) hw)), hh⟩, fun d => ?_⟩
      · simp [ins] at d; exact ⟨owns_below (q2 d).1 hbel, (q2 d).2⟩
      · simp [ins, hN2] at d
    · intro s D w' hD hW _ hI
      have h4 : D 4 = true := hW ⟨4, .data⟩ (by simp) rfl
      have h9 : D 9 = true := hW ⟨9, .data⟩ (by simp) rfl
      have hI' := Lib.hid (hI.step (Below.refl _ _) (k := 10) (by decide) (by decide) (by decide))
      obtain ⟨v1, v2, g'⟩ := s
      obtain ⟨a1, c1, hv1, _⟩ := owns_open (hI.2.1 h4).1
      obtain ⟨a2, c2, hv2, _⟩ := owns_open (hI.2.2.1 h9).1
      clear hI
      dsimp only at hv1 hv2
      subst hv1 hv2
      refine ⟨_, fun _ _ _ => rfl, ?_⟩
      with_reducible refine OpTo.plain ?_ ?_
      exact rfl
      go_wp2_with fail
      all_goals first | exact hI'.out | exact ⟨rfl, hI'.out⟩ | rfl
    · intro s D w' hD _ hC hI
      have hN : D 12 = false := not_done hC hD rfl ⟨⟨11, .data⟩, by simp, rfl, rfl⟩
      refine ⟨(s.1, s.2.1, w'.heap.size), ?_, ?_⟩
      · intro j hj hDj
        match j, hj, hDj with
        | 0, _, _ => rfl
        | 1, _, _ => rfl
        | 2, _, _ => rfl
        | 3, _, _ => rfl
        | 4, _, _ => rfl
        | 5, _, _ => rfl
        | 6, _, _ => rfl
        | 7, _, _ => rfl
        | 8, _, _ => rfl
        | 9, _, _ => rfl
        | 10, _, _ => rfl
        | 11, _, h => simp_all
        | 12, _, h => simp_all
        | j + 13, _, _ => rfl
      with_reducible refine OpTo.plain ?_ ?_
      exact rfl
      obtain ⟨q1, q2, q3, q4⟩ := hI
      have HI' : Hid (Copied w base ps ls (s.1, s.2.1, w'.heap.size) (ins 11 D) (w'.alloc (.cells #[s.1, s.2.1] 74))) := Lib.hid (by
        have hbel := (Below.refl w'.heap.size w').alloc (Nat.le_refl _) (.cells #[s.1, s.2.1] 74)
        refine ⟨q1.alloc q1.size _, fun d => ?_, fun d => ?_, fun _ => ⟨q1.size, Blk.new _ _ _⟩⟩
        · simp [ins] at d; exact ⟨owns_below (q2 d).1 hbel, (q2 d).2⟩
        · simp [ins] at d; exact ⟨owns_below (q3 d).1 hbel, (q3 d).2⟩)
      clear q1 q2 q3 q4
      go_wp2_with fail
      all_goals first | exact HI'.out | exact ⟨rfl, HI'.out⟩ | rfl
    · intro s D w' hD _ _ hI
      refine ⟨s, fun _ _ _ => rfl, ?_⟩
      with_reducible refine OpTo.plain ?_ ?_
      exact rfl
      have hI' := Lib.hid (hI.step (Below.refl _ _) (k := 12) (by decide) (by decide) (by decide))
      have hg' : g < w'.heap.size := Nat.lt_of_lt_of_le hg hI.1.size
      clear hI
      go_wp2_with fail
      all_goals first | exact hI'.out | exact ⟨rfl, hI'.out⟩ | rfl
  intro s D w2 hall hI
  obtain ⟨q1, q2, q3, q4⟩ := hI
  obtain ⟨o1, m1⟩ := q2 (hall 4 (by decide))
  obtain ⟨o2, m2⟩ := q3 (hall 9 (by decide))
  obtain ⟨n1, n2⟩ := q4 (hall 11 (by decide))
  clear q2 q3 q4
  dsimp only
  obtain ⟨v1, v2, g'⟩ := s
  have E := Lib.hid (show RefL w2 base g' ps ls v1 v2 from ⟨n2, Nat.le_trans hbase0 (Nat.le_trans (Nat.le_of_lt hg) n1), o1, o2⟩)
  clear o1 o2 n2
  go_wp2_with fail
  refine bodyPost_ret (v := .pointer (some ⟨g', 0, none⟩)) (by simp [results, go_sem]) rfl ?_
  exact ⟨g', v1, v2, rfl, E.out, n1, m1, m2, q1⟩

end Go.Proofs.Ytlcilpeljnoclaa
