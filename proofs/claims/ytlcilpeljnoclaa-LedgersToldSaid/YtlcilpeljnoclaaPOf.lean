/-
  The program's ledgers: lineMay; which parties and lines a ledger may be of.
-/
import Derived.Test.YtlcilpeljnoclaaPLed11
namespace Go.Proofs.Ytlcilpeljnoclaa
open Go.RowKit
set_option linter.unusedSimpArgs false
set_option linter.unusedVariables false

/-- May the line be among these parties? -/
def lnMay (ps : List Int) (x : Ln) : Prop := mayE x.cr x.de x.cu = true ∧ x.cr ∈ ps ∧ x.de ∈ ps ∧ 1 ≤ x.li ∧ x.li ≤ 1099511627776 ∧ 0 ≤ x.db ∧ x.db ≤ x.li
instance (ps : List Int) (x : Ln) : Decidable (lnMay ps x) := by unfold lnMay; infer_instance
theorem lnMay.good {ps : List Int} {x : Ln} (h : lnMay ps x) : x.Good := by
  obtain ⟨h1, _, _, h2, h3, h4, h5⟩ := h
  unfold mayE at h1
  simp at h1
  exact ⟨by omega, by omega, by omega, by omega, by omega, by omega⟩
/-- Parties that a ledger may be of. -/
def okP (zs : List Int) : Prop := zs.Pairwise (· < ·) ∧ ∀ p ∈ zs, 1 ≤ p ∧ p ≤ 16
/-- Lines that a ledger of these parties may be of. -/
def okL (ps : List Int) (ls : List Ln) : Prop := ls.Pairwise (fun x y => x.rank < y.rank) ∧ ∀ x ∈ ls, lnMay ps x
theorem okP.nil : okP [] := ⟨List.Pairwise.nil, by simp⟩
theorem okL.nil (ps : List Int) : okL ps [] := ⟨List.Pairwise.nil, by simp⟩
theorem okP.linv {ps : List Int} {ls : List Ln} (h : okP ps) (hl : okL ps ls) (h64 : ls.length ≤ 64) : LInv ps ls :=
  ⟨⟨fun x hx => (hl.2 x hx).good, hl.1⟩, h64, fun x hx => ⟨(hl.2 x hx).2.1, (hl.2 x hx).2.2.1⟩, h.2, h.1⟩
theorem rise_take {α : Type} {R : α → α → Prop} (ht : ∀ a b c, R a b → R b c → R a c) {zs : List α} {k : Nat} (hk : k < zs.length) (h : (zs.take k).Pairwise R) (hs : ∀ hk0 : 0 < k, R (zs[k - 1]'(by omega)) zs[k]) : (zs.take (k + 1)).Pairwise R := by
  rw [List.take_succ_eq_append_getElem hk, List.pairwise_append]
  refine ⟨h, by simp, fun a ha b hb => ?_⟩
  rw [List.mem_singleton] at hb
  subst hb
  obtain ⟨j, hj, rfl⟩ := List.mem_take_iff_getElem.1 ha
  have hk0 : 0 < k := by omega
  by_cases hjk : j = k - 1
  · subst hjk; exact hs hk0
  · refine ht _ _ _ ?_ (hs hk0)
    have := List.pairwise_iff_getElem.1 h j (k - 1) (by simp; omega) (by simp; omega) (by omega)
    simpa using this
theorem rise_step {α : Type} {R : α → α → Prop} {zs : List α} {k : Nat} (hk : k < zs.length) (h : zs.Pairwise R) (hk0 : 0 < k) : R (zs[k - 1]'(by omega)) zs[k] :=
  List.pairwise_iff_getElem.1 h (k - 1) k (by omega) hk (by omega)
theorem okP.next {zs : List Int} {k : Nat} (hk : k < zs.length) (h : okP (zs.take k)) (hm : mayP zs[k] = true) (hs : ∀ hk0 : 0 < k, zs[k - 1]'(by omega) < zs[k]) : okP (zs.take (k + 1)) := by
  refine ⟨rise_take (R := fun x y : Int => x < y) (fun a b c h1 h2 => Int.lt_trans h1 h2) hk h.1 hs, fun p hp => ?_⟩
  rw [List.take_succ_eq_append_getElem hk, List.mem_append, List.mem_singleton] at hp
  rcases hp with hp | rfl
  · exact h.2 p hp
  · unfold mayP at hm; simpa using hm
theorem okP.bad {zs : List Int} {k : Nat} (hk : k < zs.length) (h : mayP zs[k] = false ∨ ∃ hk0 : 0 < k, zs[k] ≤ zs[k - 1]'(by omega)) : ¬ okP zs := by
  rintro ⟨h1, h2⟩
  rcases h with h | ⟨hk0, h⟩
  · have := h2 zs[k] (List.getElem_mem _)
    unfold mayP at h
    simp at h
    omega
  · have := rise_step hk h1 hk0
    omega
theorem okL.next {ps : List Int} {ls : List Ln} {k : Nat} (hk : k < ls.length) (h : okL ps (ls.take k)) (hm : lnMay ps ls[k]) (hs : ∀ hk0 : 0 < k, (ls[k - 1]'(by omega)).rank < ls[k].rank) : okL ps (ls.take (k + 1)) := by
  refine ⟨rise_take (R := fun x y : Ln => x.rank < y.rank) (fun a b c h1 h2 => Int.lt_trans h1 h2) hk h.1 hs, fun p hp => ?_⟩
  rw [List.take_succ_eq_append_getElem hk, List.mem_append, List.mem_singleton] at hp
  rcases hp with hp | rfl
  · exact h.2 p hp
  · exact hm
theorem okL.bad {ps : List Int} {ls : List Ln} {k : Nat} (hk : k < ls.length) (h : ¬ lnMay ps ls[k] ∨ ∃ hk0 : 0 < k, ls[k].rank ≤ (ls[k - 1]'(by omega)).rank) : ¬ okL ps ls := by
  rintro ⟨h1, h2⟩
  rcases h with h | ⟨hk0, h⟩
  · exact h (h2 _ (List.getElem_mem _))
  · have := rise_step hk h1 hk0
    omega

set_option maxHeartbeats 8000000 in
theorem lineMay_any {w : World} {g m : Nat} {ps : List Int} (h : Blk w g (ledC ps (.map (some m))) 65) (hb : ∀ p ∈ ps, 1 ≤ p ∧ p ≤ 16) (x : Ln) :
    Calls Try.prog 61 #[.pointer (some ⟨g, 0, none⟩), .agg #[.int .u8 x.cr, .int .u8 x.de, .int .u8 x.cu, .int .i64 x.li, .int .i64 x.db]] w fun e w' => e = .returned (.bool (decide (lnMay ps x))) ∧ Below w.heap.size w w' := by
  have B0 := Lib.hid ((Below.refl w.heap.size w).alloc (Nat.le_refl _) (.cells #[.int .u8 x.cr, .int .u8 x.de, .int .u8 x.cu, .int .i64 x.li, .int .i64 x.db] 35))
  have C0 := Lib.hid (may_any x.cr x.de x.cu (w.alloc (.cells #[.int .u8 x.cr, .int .u8 x.de, .int .u8 x.cu, .int .i64 x.li, .int .i64 x.db] 35)))
  have KX := Lib.hid (Blk.new w #[.int .u8 x.cr, .int .u8 x.de, .int .u8 x.cu, .int .i64 x.li, .int .i64 x.db] 35)
  have C1 := Lib.hid (fun (w' : World) (k : Below w.heap.size w w') => has_any (h.below k h.lt) hb x.cr)
  have C2 := Lib.hid (fun (w' : World) (k : Below w.heap.size w w') => has_any (h.below k h.lt) hb x.de)
  have HE : Hid (∃ r, decide (lnMay ps x) = r) := Lib.hid ⟨_, rfl⟩
  by_cases hm : mayE x.cr x.de x.cu = false
  · rw [decide_eq_false (fun k : lnMay ps x => by rw [k.1] at hm; cases hm)]
    rw [hm] at C0
    clear hm h hb HE
    go_enter Try.func61, Try.ntmps61
    go_wp2_with fail
    refine C0.out.mono ?_
    rintro e w1 ⟨rfl, b1⟩
    have B1 := Lib.hid (B0.out.trans (b1.mono B0.out.size))
    have K1 := Lib.hid (KX.out.below b1 KX.out.lt)
    clear b1 B0 KX
    have hl := K1.out.lt
    have d0 := K1.out.cell 0
    have d1 := K1.out.cell 1
    have d2 := K1.out.cell 2
    have d3 := K1.out.cell 3
    have d4 := K1.out.cell 4
    simp at d0 d1 d2 d3 d4
    go_wp2_with fail
    go_ret
    exact ⟨rfl, B1.out⟩
  have hm : mayE x.cr x.de x.cu = true := by simpa using hm
  rw [hm] at C0
  by_cases pa : ¬ x.cr ∈ ps
  · rw [decide_eq_false (fun k : lnMay ps x => pa k.2.1)]
    rw [decide_eq_false pa] at C1
    clear hm h hb HE pa
    go_enter Try.func61, Try.ntmps61
    go_wp2_with fail
    refine C0.out.mono ?_
    rintro e w1 ⟨rfl, b1⟩
    have B1 := Lib.hid (B0.out.trans (b1.mono B0.out.size))
    have K1 := Lib.hid (KX.out.below b1 KX.out.lt)
    clear b1 B0 KX
    have hl := K1.out.lt
    have d0 := K1.out.cell 0
    have d1 := K1.out.cell 1
    have d2 := K1.out.cell 2
    have d3 := K1.out.cell 3
    have d4 := K1.out.cell 4
    simp at d0 d1 d2 d3 d4
    go_wp2_with fail
    refine (C1.out _ B1.out).mono ?_
    rintro e w1 ⟨rfl, rfl⟩
    go_wp2_with fail
    go_ret
    exact ⟨rfl, B1.out⟩
  have pa := Decidable.not_not.1 pa
  rw [decide_eq_true pa] at C1
  by_cases pb : ¬ x.de ∈ ps
  · rw [decide_eq_false (fun k : lnMay ps x => pb k.2.2.1)]
    rw [decide_eq_false pb] at C2
    clear hm h hb HE pa pb
    go_enter Try.func61, Try.ntmps61
    go_wp2_with fail
    refine C0.out.mono ?_
    rintro e w1 ⟨rfl, b1⟩
    have B1 := Lib.hid (B0.out.trans (b1.mono B0.out.size))
    have K1 := Lib.hid (KX.out.below b1 KX.out.lt)
    clear b1 B0 KX
    have hl := K1.out.lt
    have d0 := K1.out.cell 0
    have d1 := K1.out.cell 1
    have d2 := K1.out.cell 2
    have d3 := K1.out.cell 3
    have d4 := K1.out.cell 4
    simp at d0 d1 d2 d3 d4
    go_wp2_with fail
    refine (C1.out _ B1.out).mono ?_
    rintro e w1 ⟨rfl, rfl⟩
    go_wp2_with fail
    refine (C2.out _ B1.out).mono ?_
    rintro e w1 ⟨rfl, rfl⟩
    go_wp2_with fail
    go_ret
    exact ⟨rfl, B1.out⟩
  have pb := Decidable.not_not.1 pb
  rw [decide_eq_true pb] at C2
  have hL : decide (lnMay ps x) = decide (1 ≤ x.li ∧ x.li ≤ 1099511627776 ∧ 0 ≤ x.db ∧ x.db ≤ x.li) := by
    refine decide_eq_decide.2 ⟨fun k => k.2.2.2, fun k => ⟨hm, pa, pb, k⟩⟩
  rw [hL]
  clear hm h hb HE pa pb hL
  by_cases q1 : ¬ 1 ≤ x.li
  · have s1 : decide (1 ≤ x.li) = false := by simp; omega
    rw [decide_eq_false (fun k => q1 k.1)]
    go_enter Try.func61, Try.ntmps61
    go_wp2_with fail
    refine C0.out.mono ?_
    rintro e w1 ⟨rfl, b1⟩
    have B1 := Lib.hid (B0.out.trans (b1.mono B0.out.size))
    have K1 := Lib.hid (KX.out.below b1 KX.out.lt)
    clear b1 B0 KX
    have hl := K1.out.lt
    have d0 := K1.out.cell 0
    have d1 := K1.out.cell 1
    have d2 := K1.out.cell 2
    have d3 := K1.out.cell 3
    have d4 := K1.out.cell 4
    simp at d0 d1 d2 d3 d4
    go_wp2_with fail
    refine (C1.out _ B1.out).mono ?_
    rintro e w1 ⟨rfl, rfl⟩
    go_wp2_with fail
    refine (C2.out _ B1.out).mono ?_
    rintro e w1 ⟨rfl, rfl⟩
    go_wp2_with fail
    go_ret
    exact ⟨rfl, B1.out⟩
  have q1 := Decidable.not_not.1 q1
  by_cases q2 : ¬ x.li ≤ 1099511627776
  · have s1 : decide (1 ≤ x.li) = true := by simp; omega
    have s2 : decide (x.li ≤ 1099511627776) = false := by simp; omega
    rw [decide_eq_false (fun k => q2 k.2.1)]
    go_enter Try.func61, Try.ntmps61
    go_wp2_with fail
    refine C0.out.mono ?_
    rintro e w1 ⟨rfl, b1⟩
    have B1 := Lib.hid (B0.out.trans (b1.mono B0.out.size))
    have K1 := Lib.hid (KX.out.below b1 KX.out.lt)
    clear b1 B0 KX
    have hl := K1.out.lt
    have d0 := K1.out.cell 0
    have d1 := K1.out.cell 1
    have d2 := K1.out.cell 2
    have d3 := K1.out.cell 3
    have d4 := K1.out.cell 4
    simp at d0 d1 d2 d3 d4
    go_wp2_with fail
    refine (C1.out _ B1.out).mono ?_
    rintro e w1 ⟨rfl, rfl⟩
    go_wp2_with fail
    refine (C2.out _ B1.out).mono ?_
    rintro e w1 ⟨rfl, rfl⟩
    go_wp2_with fail
    go_ret
    exact ⟨rfl, B1.out⟩
  have q2 := Decidable.not_not.1 q2
  by_cases q3 : ¬ 0 ≤ x.db
  · have s1 : decide (1 ≤ x.li) = true := by simp; omega
    have s2 : decide (x.li ≤ 1099511627776) = true := by simp; omega
    have s3 : decide (0 ≤ x.db) = false := by simp; omega
    rw [decide_eq_false (fun k => q3 k.2.2.1)]
    go_enter Try.func61, Try.ntmps61
    go_wp2_with fail
    refine C0.out.mono ?_
    rintro e w1 ⟨rfl, b1⟩
    have B1 := Lib.hid (B0.out.trans (b1.mono B0.out.size))
    have K1 := Lib.hid (KX.out.below b1 KX.out.lt)
    clear b1 B0 KX
    have hl := K1.out.lt
    have d0 := K1.out.cell 0
    have d1 := K1.out.cell 1
    have d2 := K1.out.cell 2
    have d3 := K1.out.cell 3
    have d4 := K1.out.cell 4
    simp at d0 d1 d2 d3 d4
    go_wp2_with fail
    refine (C1.out _ B1.out).mono ?_
    rintro e w1 ⟨rfl, rfl⟩
    go_wp2_with fail
    refine (C2.out _ B1.out).mono ?_
    rintro e w1 ⟨rfl, rfl⟩
    go_wp2_with fail
    go_ret
    exact ⟨rfl, B1.out⟩
  have q3 := Decidable.not_not.1 q3
  rw [show decide (1 ≤ x.li ∧ x.li ≤ 1099511627776 ∧ 0 ≤ x.db ∧ x.db ≤ x.li) = decide (x.db ≤ x.li) from decide_eq_decide.2 ⟨fun k => k.2.2.2, fun k => ⟨q1, q2, q3, k⟩⟩]
  go_enter Try.func61, Try.ntmps61
  go_wp2_with fail
  refine C0.out.mono ?_
  rintro e w1 ⟨rfl, b1⟩
  have B1 := Lib.hid (B0.out.trans (b1.mono B0.out.size))
  have K1 := Lib.hid (KX.out.below b1 KX.out.lt)
  clear b1 B0 KX
  have hl := K1.out.lt
  have d0 := K1.out.cell 0
  have d1 := K1.out.cell 1
  have d2 := K1.out.cell 2
  have d3 := K1.out.cell 3
  have d4 := K1.out.cell 4
  simp at d0 d1 d2 d3 d4
  go_wp2_with fail
  refine (C1.out _ B1.out).mono ?_
  rintro e w1 ⟨rfl, rfl⟩
  go_wp2_with fail
  refine (C2.out _ B1.out).mono ?_
  rintro e w1 ⟨rfl, rfl⟩
  go_wp2_with fail
  go_ret
  exact ⟨rfl, B1.out⟩

end Go.Proofs.Ytlcilpeljnoclaa
