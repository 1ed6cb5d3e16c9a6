/-
  PathsShort: the walk, for every edges and two parties, over what the program's Short tells (written by gen_pshort.py).
-/
import Derived.Test.YtlmebpplhpjdfaaPathsLeast
import Derived.Test.YtlmebpplhpjdfaaFresh
import Derived.Test.YtlmebpplhpjdfaaPages
import Derived.Test.YtlmebpplhpjdfaaSameL
namespace Go.Proofs.Ytlmebpplhpjdfaa
open Go.RowKit
set_option linter.unusedSimpArgs false
set_option linter.unusedVariables false

/-- Two rows that were made one behind the other, and what came ahead. -/
structure RowsP (w0 : World) (L : List Int) (ao bo : Option Addr) (ca cb : Nat) (w : World) : Prop where
  keep : Below w0.heap.size w0 w
  pa : ∀ m q, ∃ cs, (Pg.party (.slice ao L.length ca) L.length ca m q).Mem w cs
  pb : ∀ m q, ∃ cs, (Pg.party (.slice bo L.length cb) L.length cb m q).Mem w cs
set_option maxHeartbeats 32000000 in
set_option maxRecDepth 100000 in
theorem pshort_walk (HS : ShortProg) (HL : Lives06) (a : Option Addr) (len cap : Nat) (zs : List Fw) (sx tx : Int) (w : World) (h0 : SlIn Fw.vals 3 Fw.Fits w a len cap zs) (hs : (Lit.int .u8 sx).wf = true) (ht : (Lit.int .u8 tx).wf = true) :
    Calls Try.prog 3 #[.slice a len cap, .int .u8 sx, .int .u8 tx] w fun e w' => e = .returned (.bool true) ∧ Below w.heap.size w w' := by
  have HZ := Lib.hid h0
  have HS8 := Lib.hid (In8.of_wf hs)
  have HT8 := Lib.hid (In8.of_wf ht)
  have hcap := h0.2.2.2.1
  have hmax := h0.2.2.2.2.1
  have hzl := h0.2.1
  unfold maxLen at hmax
  clear h0 hs ht
  subst hzl
  have HSp := Lib.hid HS
  have HLi := Lib.hid HL
  clear HS HL
  by_cases hle : ¬ zs.length ≤ 300
  · go_enter Try.func3, Try.ntmps3
    go_wp2_with fail
    refine (HLi.out _).mono ?_
    rintro e w1 ⟨rfl, b1⟩
    have B1 := Lib.hid b1
    clear b1
    go_wp2_with fail
    go_ret
    exact ⟨rfl, B1.out⟩
  have hle := Decidable.not_not.1 hle
  have l1 : decide ((300 : Int) < (zs.length : Int)) = false := by simp; omega
  have CN := Lib.hid (gnew_any (HZ.out.flows (by omega)) (by omega))
  go_enter Try.func3, Try.ntmps3
  go_wp2_with fail
  refine CN.out.mono ?_
  rintro e w2 ⟨b2, hg⟩
  have B2 := Lib.hid b2
  have HG := Lib.hid hg
  have CR := Lib.hid (rnewG_any ((HZ.out.below b2).flows (by omega)) (by omega))
  clear b2 hg CN HZ
  by_cases hok : okG zs
  · obtain ⟨_, g, rfl, hgge, hgb⟩ := HG.out.resolve_right (fun h => h.1 hok)
    have KG2 := Lib.hid hgb
    clear hgb HG
    go_wp2_with fail
    refine CR.out.mono ?_
    rintro e w3 ⟨b3, hr⟩
    obtain ⟨_, m, vl, rfl, hrm⟩ := hr.resolve_right (fun h => h.1 hok)
    have B3 := Lib.hid (B2.out.trans (b3.mono B2.out.size))
    have KG3 := Lib.hid (KG2.out.below b3 KG2.out.lt)
    have KM3 := Lib.hid hrm
    have I0 := Lib.hid (newF_inv hok.1)
    rw [newL_newF] at KM3
    generalize newF zs = f at *
    clear b3 hr hrm CR B2 KG2
    have CA := Lib.hid (HSp.out w3 _ f sx tx (IsG.of KG3.out) I0.out HS8.out HT8.out)
    have hL17 := shortW_len f sx tx
    obtain ⟨L, EL⟩ : ∃ L, Hid (shortW f sx tx = L) := ⟨_, Lib.hid rfl⟩
    rw [EL.out] at CA hL17
    go_wp2_with fail
    refine CA.out.mono ?_
    rintro e w4 ⟨va, rfl, hown, b4⟩
    have KG4 := Lib.hid (KG3.out.below b4 KG3.out.lt)
    have KM4 := Lib.hid (KM3.out.below b4)
    have B4 := Lib.hid (B3.out.trans (b4.mono B3.out.size))
    have CB := Lib.hid (HSp.out w4 _ f sx tx (IsG.of KG4.out) I0.out HS8.out HT8.out)
    rw [EL.out] at CB
    have OA := Lib.hid hown
    have hw3 := B3.out.size
    have hw34 := b4.size
    clear b4 hown CA KG3 KM3 B3
    obtain ⟨ao, ca, rfl, HPA⟩ := rowed_party OA.out
    have HPA := Lib.hid HPA
    go_wp2_with fail
    refine CB.out.mono ?_
    rintro e W ⟨vb, rfl, hown, b5⟩
    have KG := Lib.hid (KG4.out.below b5 KG4.out.lt)
    have KM := Lib.hid (KM4.out.below b5)
    have B5 := Lib.hid (B4.out.trans (b5.mono B4.out.size))
    have OB := Lib.hid hown
    have OA5 := Lib.hid (Rowed.below OA.out b5)
    obtain ⟨bo, cb, rfl, HPB⟩ := rowed_party OB.out
    have HPB := Lib.hid HPB
    obtain ⟨ao', ca', hea, HPA5⟩ := rowed_party OA5.out
    simp only [Value.slice.injEq] at hea
    obtain ⟨rfl, _, rfl⟩ := hea
    have HPA5 := Lib.hid HPA5
    have RA := Lib.hid (Rowed.reads OA5.out (by omega))
    have RB := Lib.hid (Rowed.reads OB.out (by omega))
    have OLD : Hid (∀ b m q, (Pg.party (.slice ao L.length ca) L.length ca m q).own b → b < w4.heap.size ∧ w.heap.size ≤ b) := Lib.hid (fun b m q h => ⟨((HPA.out m q).2 b h).2, by have := ((HPA.out m q).2 b h).1; omega⟩)
    have hw45 := b5.size
    clear b5 hown CB KG4 KM4 OA HPA
    go_wp2_with fail
    have hlasts : ∀ q ∈ ([(4, (fun v w => Reads w v 1 L.length (L.map (.int .u8)))), (15, (fun v w => Reads w v 3 (allE f).length (fwCells (allE f))))] : List (Nat × (Value → World → Prop))), Lasts q.2 := by
      intro q hq
      simp only [List.mem_cons, List.not_mem_nil, or_false] at hq
      rcases hq with rfl | rfl
      · exact fun v w w' h hb => Reads.below h hb
      · exact fun v w w' h hb => Reads.below h hb
    have HL := Lib.hid hlasts
    clear hlasts
    refine region_fresh (by kernel_rfl) (fun s : Nat → Value => [(.slice ao L.length ca), (.pointer (some ⟨m, 0, none⟩)), (.int .u8 sx), (.int .u8 tx), s 4, (.bool true), (.bool false), (.bool false), (.slice ao L.length ca), (.slice bo L.length cb), (.bool true), (.bool false), (.bool false), (.bool false), (.pointer (some ⟨g, 0, none⟩)), s 15, (.pointer (some ⟨m, 0, none⟩)), (.pointer (some ⟨m, 0, none⟩)), (.pointer (some ⟨m, 0, none⟩)), vl, (.bool true), (.bool false), (.bool false)])
      (Got W [(4, (fun v w => Reads w v 1 L.length (L.map (.int .u8)))), (15, (fun v w => Reads w v 3 (allE f).length (fwCells (allE f))))]) (by kernel_rfl) (fun _ => undef) (Got.start _ _ _) ?_
    intro AF hAF
    simp only [List.toList_toArray, puts, Act.put, List.getD_cons_zero, List.getD_cons_succ, List.setIfInBounds_toArray, List.set_cons_succ, List.set_cons_zero] at hAF
    have hAF2 : _ = AF := funext hAF
    subst hAF2
    clear hAF
    refine ⟨?_, ?_⟩
    · simp only [List.toList_toArray, EachF]
      refine ⟨?_, ?_, ?_, ?_, ?_, ?_, ?_, ?_, ?_, ?_, ?_, ?_, ?_, ?_, ?_, ?_, ?_, ?_, ?_, ?_, ?_, ?_, ?_, trivial⟩
      · intro s D w' hD hW hC hI
        have hS := hI.below
        refine .inl ⟨s, fun _ _ _ => rfl, ?_⟩
        with_reducible refine OpTo.plain ?_ ?_
        exact rfl
        have HS := Lib.hid (hI.step HL.out (Below.refl _ _) (k := 0) (by intro q hq; simp only [List.mem_cons, List.not_mem_nil, or_false] at hq; rcases hq with rfl | rfl <;> first | exact (show (4 : Nat) ≠ 0 by decide) | exact (show (15 : Nat) ≠ 0 by decide)))
        clear hI hS hC hW hD
        go_wp2_with fail
        all_goals first | exact HS.out | exact ⟨rfl, HS.out⟩ | rfl
      · intro s D w' hD hW hC hI
        have hS := hI.below
        refine .inl ⟨s, fun _ _ _ => rfl, ?_⟩
        with_reducible refine OpTo.plain ?_ ?_
        exact rfl
        have HS := Lib.hid (hI.step HL.out (Below.refl _ _) (k := 1) (by intro q hq; simp only [List.mem_cons, List.not_mem_nil, or_false] at hq; rcases hq with rfl | rfl <;> first | exact (show (4 : Nat) ≠ 1 by decide) | exact (show (15 : Nat) ≠ 1 by decide)))
        clear hI hS hC hW hD
        go_wp2_with fail
        all_goals first | exact HS.out | exact ⟨rfl, HS.out⟩ | rfl
      · intro s D w' hD hW hC hI
        have hS := hI.below
        refine .inl ⟨s, fun _ _ _ => rfl, ?_⟩
        with_reducible refine OpTo.plain ?_ ?_
        exact rfl
        have HS := Lib.hid (hI.step HL.out (Below.refl _ _) (k := 2) (by intro q hq; simp only [List.mem_cons, List.not_mem_nil, or_false] at hq; rcases hq with rfl | rfl <;> first | exact (show (4 : Nat) ≠ 2 by decide) | exact (show (15 : Nat) ≠ 2 by decide)))
        clear hI hS hC hW hD
        go_wp2_with fail
        all_goals first | exact HS.out | exact ⟨rfl, HS.out⟩ | rfl
      · intro s D w' hD hW hC hI
        have hS := hI.below
        refine .inl ⟨s, fun _ _ _ => rfl, ?_⟩
        with_reducible refine OpTo.plain ?_ ?_
        exact rfl
        have HS := Lib.hid (hI.step HL.out (Below.refl _ _) (k := 3) (by intro q hq; simp only [List.mem_cons, List.not_mem_nil, or_false] at hq; rcases hq with rfl | rfl <;> first | exact (show (4 : Nat) ≠ 3 by decide) | exact (show (15 : Nat) ≠ 3 by decide)))
        clear hI hS hC hW hD
        go_wp2_with fail
        all_goals first | exact HS.out | exact ⟨rfl, HS.out⟩ | rfl
      · intro s D w' hD hW hC hI
        have hS := hI.below
        have HI := Lib.hid hI
        have HCl := Lib.hid hC
        have HD := Lib.hid hD
        have HC := Lib.hid ((by have q := rshort_any (KM.out.below hS) I0.out HS8.out HT8.out; rw [EL.out] at q; exact q.mono (fun e w'' h => (by obtain ⟨v, h1, h2, h3⟩ := h; exact ⟨v, h1, Reads.of_owns h2 (by omega), h3⟩ : ∃ v, e = .returned v ∧ Reads w'' v 1 L.length (L.map (.int .u8)) ∧ Below w'.heap.size w' w'')) : Calls Try.prog 12 #[(.pointer (some ⟨m, 0, none⟩)), .int .u8 sx, .int .u8 tx] w' fun e w'' => ∃ v, e = .returned v ∧ Reads w'' v 1 L.length (L.map (.int .u8)) ∧ Below w'.heap.size w' w''))
        refine .inr ?_
        with_reducible refine OpGets.plain ?_ ?_
        exact rfl
        clear hI hS hC hW hD
        go_wp2_with fail
        refine HC.out.mono ?_
        rintro e w'' ⟨v, rfl, hv, hb2⟩
        refine ⟨v, rfl, updV s 4 v, vals_put _ (fun s : Nat → Value => [(.slice ao L.length ca), (.pointer (some ⟨m, 0, none⟩)), (.int .u8 sx), (.int .u8 tx), s 4, (.bool true), (.bool false), (.bool false), (.slice ao L.length ca), (.slice bo L.length cb), (.bool true), (.bool false), (.bool false), (.bool false), (.pointer (some ⟨g, 0, none⟩)), s 15, (.pointer (some ⟨m, 0, none⟩)), (.pointer (some ⟨m, 0, none⟩)), (.pointer (some ⟨m, 0, none⟩)), vl, (.bool true), (.bool false), (.bool false)]) s 4 v HCl.out HD.out ?_, rfl, HI.out.put HL.out hb2 ?_⟩
        · intro j hj
          match j, hj with
          | 0, _ => exact .inr rfl
          | 1, _ => exact .inr rfl
          | 2, _ => exact .inr rfl
          | 3, _ => exact .inr rfl
          | 4, _ => exact .inl (.inl rfl)
          | 5, _ => exact .inr rfl
          | 6, _ => exact .inr rfl
          | 7, _ => exact .inr rfl
          | 8, _ => exact .inr rfl
          | 9, _ => exact .inr rfl
          | 10, _ => exact .inr rfl
          | 11, _ => exact .inr rfl
          | 12, _ => exact .inr rfl
          | 13, _ => exact .inr rfl
          | 14, _ => exact .inr rfl
          | 15, _ => exact .inr rfl
          | 16, _ => exact .inr rfl
          | 17, _ => exact .inr rfl
          | 18, _ => exact .inr rfl
          | 19, _ => exact .inr rfl
          | 20, _ => exact .inr rfl
          | 21, _ => exact .inr rfl
          | 22, _ => exact .inr rfl
          | j + 23, _ => exact .inr rfl
        · intro q hq he
          simp only [List.mem_cons, List.not_mem_nil, or_false] at hq
          rcases hq with rfl | rfl <;> first | exact hv | exact absurd (show (15 : Nat) = 4 from he) (by decide)
      · intro s D w' hD hW hC hI
        have hS := hI.below
        refine .inl ⟨s, fun _ _ _ => rfl, ?_⟩
        with_reducible refine OpTo.plain ?_ ?_
        exact rfl
        have hP4 : D 4 = true := need_waited hC hW (by kernel_rfl)
        have hq4 := hI.at (4, (fun v w => Reads w v 1 L.length (L.map (.int .u8)))) (by simp) hP4
        dsimp only at hq4
        have HI := Lib.hid hI
        have HC := Lib.hid ((by have q := SameParties_any ((RA.out.below hS)) hq4; rw [decide_eq_true rfl] at q; exact q : Calls Try.prog 11 #[(.slice ao L.length ca), s 4] w' fun e w'' => e = .returned (.bool true) ∧ Below w'.heap.size w' w''))
        clear hI hS hC hW hD hP4 hq4
        go_wp2_with fail
        refine HC.out.mono ?_
        rintro e w'' ⟨rfl, hb2⟩
        exact ⟨rfl, HI.out.step HL.out hb2 (by intro q hq; simp only [List.mem_cons, List.not_mem_nil, or_false] at hq; rcases hq with rfl | rfl <;> first | exact (show (4 : Nat) ≠ 5 by decide) | exact (show (15 : Nat) ≠ 5 by decide))⟩
      · intro s D w' hD hW hC hI
        have hS := hI.below
        refine .inl ⟨s, fun _ _ _ => rfl, ?_⟩
        with_reducible refine OpTo.plain ?_ ?_
        exact rfl
        have HS := Lib.hid (hI.step HL.out (Below.refl _ _) (k := 6) (by intro q hq; simp only [List.mem_cons, List.not_mem_nil, or_false] at hq; rcases hq with rfl | rfl <;> first | exact (show (4 : Nat) ≠ 6 by decide) | exact (show (15 : Nat) ≠ 6 by decide)))
        clear hI hS hC hW hD
        go_wp2_with fail
        all_goals first | exact HS.out | exact ⟨rfl, HS.out⟩ | rfl
      · intro s D w' hD hW hC hI
        have hS := hI.below
        refine .inl ⟨s, fun _ _ _ => rfl, ?_⟩
        with_reducible refine OpTo.plain ?_ ?_
        exact rfl
        have HS := Lib.hid (hI.step HL.out (Below.refl _ _) (k := 7) (by intro q hq; simp only [List.mem_cons, List.not_mem_nil, or_false] at hq; rcases hq with rfl | rfl <;> first | exact (show (4 : Nat) ≠ 7 by decide) | exact (show (15 : Nat) ≠ 7 by decide)))
        clear hI hS hC hW hD
        go_wp2_with fail
        all_goals first | exact HS.out | exact ⟨rfl, HS.out⟩ | rfl
      · intro s D w' hD hW hC hI
        have hS := hI.below
        refine .inl ⟨s, fun _ _ _ => rfl, ?_⟩
        with_reducible refine OpTo.wanted ?_ ?_
        kernel_rfl
        have HS := Lib.hid (hI.step HL.out (Below.refl _ _) (k := 8) (by intro q hq; simp only [List.mem_cons, List.not_mem_nil, or_false] at hq; rcases hq with rfl | rfl <;> first | exact (show (4 : Nat) ≠ 8 by decide) | exact (show (15 : Nat) ≠ 8 by decide)))
        clear hI hS hC hW hD
        go_wp2_with fail
        all_goals first | exact HS.out | exact ⟨rfl, HS.out⟩ | rfl
      · intro s D w' hD hW hC hI
        have hS := hI.below
        refine .inl ⟨s, fun _ _ _ => rfl, ?_⟩
        with_reducible refine OpTo.wanted ?_ ?_
        kernel_rfl
        have HS := Lib.hid (hI.step HL.out (Below.refl _ _) (k := 9) (by intro q hq; simp only [List.mem_cons, List.not_mem_nil, or_false] at hq; rcases hq with rfl | rfl <;> first | exact (show (4 : Nat) ≠ 9 by decide) | exact (show (15 : Nat) ≠ 9 by decide)))
        clear hI hS hC hW hD
        go_wp2_with fail
        all_goals first | exact HS.out | exact ⟨rfl, HS.out⟩ | rfl
      · intro s D w' hD hW hC hI
        have hS := hI.below
        refine .inl ⟨s, fun _ _ _ => rfl, ?_⟩
        with_reducible refine OpTo.wanted ?_ ?_
        kernel_rfl
        have HI := Lib.hid hI
        have HC := Lib.hid ((by have q := SameParties_any ((RA.out.below hS)) (RB.out.below hS); rw [decide_eq_true rfl] at q; exact q : Calls Try.prog 11 #[(.slice ao L.length ca), (.slice bo L.length cb)] w' fun e w'' => e = .returned (.bool true) ∧ Below w'.heap.size w' w''))
        clear hI hS hC hW hD
        go_wp2_with fail
        refine HC.out.mono ?_
        rintro e w'' ⟨rfl, hb2⟩
        exact ⟨rfl, HI.out.step HL.out hb2 (by intro q hq; simp only [List.mem_cons, List.not_mem_nil, or_false] at hq; rcases hq with rfl | rfl <;> first | exact (show (4 : Nat) ≠ 10 by decide) | exact (show (15 : Nat) ≠ 10 by decide))⟩
      · intro s D w' hD hW hC hI
        have hS := hI.below
        refine .inl ⟨s, fun _ _ _ => rfl, ?_⟩
        with_reducible refine OpTo.wanted ?_ ?_
        kernel_rfl
        have HS := Lib.hid (hI.step HL.out (Below.refl _ _) (k := 11) (by intro q hq; simp only [List.mem_cons, List.not_mem_nil, or_false] at hq; rcases hq with rfl | rfl <;> first | exact (show (4 : Nat) ≠ 11 by decide) | exact (show (15 : Nat) ≠ 11 by decide)))
        clear hI hS hC hW hD
        go_wp2_with fail
        all_goals first | exact HS.out | exact ⟨rfl, HS.out⟩ | rfl
      · intro s D w' hD hW hC hI
        have hS := hI.below
        refine .inl ⟨s, fun _ _ _ => rfl, ?_⟩
        with_reducible refine OpTo.plain ?_ ?_
        exact rfl
        have HS := Lib.hid (hI.step HL.out (Below.refl _ _) (k := 12) (by intro q hq; simp only [List.mem_cons, List.not_mem_nil, or_false] at hq; rcases hq with rfl | rfl <;> first | exact (show (4 : Nat) ≠ 12 by decide) | exact (show (15 : Nat) ≠ 12 by decide)))
        clear hI hS hC hW hD
        go_wp2_with fail
        all_goals first | exact HS.out | exact ⟨rfl, HS.out⟩ | rfl
      · intro s D w' hD hW hC hI
        have hS := hI.below
        refine .inl ⟨s, fun _ _ _ => rfl, ?_⟩
        with_reducible refine OpTo.plain ?_ ?_
        exact rfl
        have HS := Lib.hid (hI.step HL.out (Below.refl _ _) (k := 13) (by intro q hq; simp only [List.mem_cons, List.not_mem_nil, or_false] at hq; rcases hq with rfl | rfl <;> first | exact (show (4 : Nat) ≠ 13 by decide) | exact (show (15 : Nat) ≠ 13 by decide)))
        clear hI hS hC hW hD
        go_wp2_with fail
        all_goals first | exact HS.out | exact ⟨rfl, HS.out⟩ | rfl
      · intro s D w' hD hW hC hI
        have hS := hI.below
        refine .inl ⟨s, fun _ _ _ => rfl, ?_⟩
        with_reducible refine OpTo.wanted ?_ ?_
        kernel_rfl
        have HS := Lib.hid (hI.step HL.out (Below.refl _ _) (k := 14) (by intro q hq; simp only [List.mem_cons, List.not_mem_nil, or_false] at hq; rcases hq with rfl | rfl <;> first | exact (show (4 : Nat) ≠ 14 by decide) | exact (show (15 : Nat) ≠ 14 by decide)))
        clear hI hS hC hW hD
        go_wp2_with fail
        all_goals first | exact HS.out | exact ⟨rfl, HS.out⟩ | rfl
      · intro s D w' hD hW hC hI
        have hS := hI.below
        have HI := Lib.hid hI
        have HCl := Lib.hid hC
        have HD := Lib.hid hD
        have HC := Lib.hid ((gedges_any (IsG.of (KG.out.below hS KG.out.lt)) I0.out.outF).mono (fun e w'' h => (by obtain ⟨v, h1, h2, h3⟩ := h; exact ⟨v, h1, h2.reads (by have := prefE_len f 256; unfold allE; omega), h3⟩ : ∃ v, e = .returned v ∧ Reads w'' v 3 (allE f).length (fwCells (allE f)) ∧ Below w'.heap.size w' w'')))
        refine .inr ?_
        with_reducible refine OpGets.wanted ?_ ?_
        kernel_rfl
        clear hI hS hC hW hD
        go_wp2_with fail
        refine HC.out.mono ?_
        rintro e w'' ⟨v, rfl, hv, hb2⟩
        refine ⟨v, rfl, updV s 15 v, vals_put _ (fun s : Nat → Value => [(.slice ao L.length ca), (.pointer (some ⟨m, 0, none⟩)), (.int .u8 sx), (.int .u8 tx), s 4, (.bool true), (.bool false), (.bool false), (.slice ao L.length ca), (.slice bo L.length cb), (.bool true), (.bool false), (.bool false), (.bool false), (.pointer (some ⟨g, 0, none⟩)), s 15, (.pointer (some ⟨m, 0, none⟩)), (.pointer (some ⟨m, 0, none⟩)), (.pointer (some ⟨m, 0, none⟩)), vl, (.bool true), (.bool false), (.bool false)]) s 15 v HCl.out HD.out ?_, rfl, HI.out.put HL.out hb2 ?_⟩
        · intro j hj
          match j, hj with
          | 0, _ => exact .inr rfl
          | 1, _ => exact .inr rfl
          | 2, _ => exact .inr rfl
          | 3, _ => exact .inr rfl
          | 4, _ => exact .inr rfl
          | 5, _ => exact .inr rfl
          | 6, _ => exact .inr rfl
          | 7, _ => exact .inr rfl
          | 8, _ => exact .inr rfl
          | 9, _ => exact .inr rfl
          | 10, _ => exact .inr rfl
          | 11, _ => exact .inr rfl
          | 12, _ => exact .inr rfl
          | 13, _ => exact .inr rfl
          | 14, _ => exact .inr rfl
          | 15, _ => exact .inl (.inl rfl)
          | 16, _ => exact .inr rfl
          | 17, _ => exact .inr rfl
          | 18, _ => exact .inr rfl
          | 19, _ => exact .inr rfl
          | 20, _ => exact .inr rfl
          | 21, _ => exact .inr rfl
          | 22, _ => exact .inr rfl
          | j + 23, _ => exact .inr rfl
        · intro q hq he
          simp only [List.mem_cons, List.not_mem_nil, or_false] at hq
          rcases hq with rfl | rfl <;> first | exact hv | exact absurd (show (4 : Nat) = 15 from he) (by decide)
      · intro s D w' hD hW hC hI
        have hS := hI.below
        refine .inl ⟨s, fun _ _ _ => rfl, ?_⟩
        with_reducible refine OpTo.wanted ?_ ?_
        kernel_rfl
        have HS := Lib.hid (hI.step HL.out (Below.refl _ _) (k := 16) (by intro q hq; simp only [List.mem_cons, List.not_mem_nil, or_false] at hq; rcases hq with rfl | rfl <;> first | exact (show (4 : Nat) ≠ 16 by decide) | exact (show (15 : Nat) ≠ 16 by decide)))
        clear hI hS hC hW hD
        go_wp2_with fail
        all_goals first | exact HS.out | exact ⟨rfl, HS.out⟩ | rfl
      · intro s D w' hD hW hC hI
        have hS := hI.below
        refine .inl ⟨s, fun _ _ _ => rfl, ?_⟩
        with_reducible refine OpTo.wanted ?_ ?_
        kernel_rfl
        have km := (KM.out.below hS).blk
        have hml := km.lt
        have dm := km.cell 0
        simp at dm
        have HS := Lib.hid (hI.step HL.out (Below.refl _ _) (k := 17) (by intro q hq; simp only [List.mem_cons, List.not_mem_nil, or_false] at hq; rcases hq with rfl | rfl <;> first | exact (show (4 : Nat) ≠ 17 by decide) | exact (show (15 : Nat) ≠ 17 by decide)))
        clear hI hS hC hW hD
        go_wp2_with fail
        all_goals first | exact HS.out | exact ⟨rfl, HS.out⟩ | rfl
      · intro s D w' hD hW hC hI
        have hS := hI.below
        refine .inl ⟨s, fun _ _ _ => rfl, ?_⟩
        with_reducible refine OpTo.wanted ?_ ?_
        kernel_rfl
        have km := (KM.out.below hS).blk
        have hml := km.lt
        have dm := km.cell 0
        simp at dm
        have HS := Lib.hid (hI.step HL.out (Below.refl _ _) (k := 18) (by intro q hq; simp only [List.mem_cons, List.not_mem_nil, or_false] at hq; rcases hq with rfl | rfl <;> first | exact (show (4 : Nat) ≠ 18 by decide) | exact (show (15 : Nat) ≠ 18 by decide)))
        clear hI hS hC hW hD
        go_wp2_with fail
        all_goals first | exact HS.out | exact ⟨rfl, HS.out⟩ | rfl
      · intro s D w' hD hW hC hI
        have hS := hI.below
        refine .inl ⟨s, fun _ _ _ => rfl, ?_⟩
        with_reducible refine OpTo.wanted ?_ ?_
        kernel_rfl
        have km := (KM.out.below hS).blk
        have hml := km.lt
        have dm := km.cell 0
        simp at dm
        have HS := Lib.hid (hI.step HL.out (Below.refl _ _) (k := 19) (by intro q hq; simp only [List.mem_cons, List.not_mem_nil, or_false] at hq; rcases hq with rfl | rfl <;> first | exact (show (4 : Nat) ≠ 19 by decide) | exact (show (15 : Nat) ≠ 19 by decide)))
        clear hI hS hC hW hD
        go_wp2_with fail
        all_goals first | exact HS.out | exact ⟨rfl, HS.out⟩ | rfl
      · intro s D w' hD hW hC hI
        have hS := hI.below
        refine .inl ⟨s, fun _ _ _ => rfl, ?_⟩
        with_reducible refine OpTo.wanted ?_ ?_
        kernel_rfl
        have hP15 : D 15 = true := need_waited hC hW (by kernel_rfl)
        have hq15 := hI.at (15, (fun v w => Reads w v 3 (allE f).length (fwCells (allE f)))) (by simp) hP15
        dsimp only at hq15
        have HI := Lib.hid hI
        have HC := Lib.hid ((by have q := SameFlows_any hq15 (Reads.of_owns (KM.out.below hS).row (by have := prefE_len f 256; unfold allE; omega)); rw [decide_eq_true rfl] at q; exact q : Calls Try.prog 13 #[s 15, vl] w' fun e w'' => e = .returned (.bool true) ∧ Below w'.heap.size w' w''))
        clear hI hS hC hW hD hP15 hq15
        go_wp2_with fail
        refine HC.out.mono ?_
        rintro e w'' ⟨rfl, hb2⟩
        exact ⟨rfl, HI.out.step HL.out hb2 (by intro q hq; simp only [List.mem_cons, List.not_mem_nil, or_false] at hq; rcases hq with rfl | rfl <;> first | exact (show (4 : Nat) ≠ 20 by decide) | exact (show (15 : Nat) ≠ 20 by decide))⟩
      · intro s D w' hD hW hC hI
        have hS := hI.below
        refine .inl ⟨s, fun _ _ _ => rfl, ?_⟩
        with_reducible refine OpTo.wanted ?_ ?_
        kernel_rfl
        have HS := Lib.hid (hI.step HL.out (Below.refl _ _) (k := 21) (by intro q hq; simp only [List.mem_cons, List.not_mem_nil, or_false] at hq; rcases hq with rfl | rfl <;> first | exact (show (4 : Nat) ≠ 21 by decide) | exact (show (15 : Nat) ≠ 21 by decide)))
        clear hI hS hC hW hD
        go_wp2_with fail
        all_goals first | exact HS.out | exact ⟨rfl, HS.out⟩ | rfl
      · intro s D w' hD hW hC hI
        have hS := hI.below
        refine .inl ⟨s, fun _ _ _ => rfl, ?_⟩
        with_reducible refine OpTo.plain ?_ ?_
        exact rfl
        have HS := Lib.hid (hI.step HL.out (Below.refl _ _) (k := 22) (by intro q hq; simp only [List.mem_cons, List.not_mem_nil, or_false] at hq; rcases hq with rfl | rfl <;> first | exact (show (4 : Nat) ≠ 22 by decide) | exact (show (15 : Nat) ≠ 22 by decide)))
        clear hI hS hC hW hD
        go_wp2_with fail
        all_goals first | exact HS.out | exact ⟨rfl, HS.out⟩ | rfl
    intro s' D W2 hall hI
    have hS := hI.below
    have B6 := Lib.hid (B5.out.trans (hS.mono B5.out.size))
    have hw52 := hS.size
    have FR : Hid (FarR w3.heap.size (fun w' => Below w.heap.size w w')) := Lib.hid fun w1 w2 S h k hS => h.trans (k.below (B := w.heap.size) h.size (fun k hk s => by have := hS _ s; omega))
    have T0 := Lib.hid (TailO.start FR.out B6.out (by omega))
    have OA6 := Lib.hid ((Rowed.below OA5.out hS).alloc (.cells #[.slice none 0 0] 42))
    have OB6 := Lib.hid ((Rowed.below OB.out hS).alloc (.cells #[.slice none 0 0] 42))
    have EW : (W2.alloc (.cells #[.slice none 0 0] 42)).heap.size = W2.heap.size + 1 := by simp
    clear hI hS hall B5 KG KM RA RB OA5 OB HPA5 HPB
    have CF := Lib.hid (parties_any T0.out.book (by simp) ao L.length ca)
    go_wp2_with fail
    generalize W2.alloc (.cells #[.slice none 0 0] 42) = V at *
    generalize hbk : W2.heap.size = bk at *
    refine CF.out.mono ?_
    rintro e V2 hp
    have he := hp.1
    subst he
    obtain ⟨ao1, pc1, hv1, hm1⟩ := rowed_party OA6.out
    simp only [Value.slice.injEq] at hv1
    obtain ⟨rfl, _, rfl⟩ := hv1
    obtain ⟨bv1, ht1⟩ := T0.out.add FR.out (hm1 _ _).1 (fun b hb => ⟨((hm1 _ _).2 b hb).1, by simp⟩) hp
    obtain ⟨_, _, hbkk, hkk⟩ := hp
    have T1 := Lib.hid ht1
    have OB7 := Lib.hid (Rowed.keep OB6.out hkk (fun b hb e => by
      obtain ⟨q1, q2, cur, q3⟩ := Rowed.type OB6.out hb
      rcases e with e | e
      · rw [e] at q3
        have := T0.out.book.blk.out
        rw [q3] at this
        simp only [Option.some.injEq, Obj.cells.injEq] at this
        exact absurd this.2.1 (by decide)
      · cases e))
    clear ht1 hbkk hkk CF OB6 OA6 T0 hm1
    have CF := Lib.hid (parties_any T1.out.book (by simp) bo L.length cb)
    go_wp2_with fail
    refine CF.out.mono ?_
    rintro e V3 hp
    have he := hp.1
    subst he
    obtain ⟨bo1, pc2, hv2, hm2⟩ := rowed_party OB7.out
    simp only [Value.slice.injEq] at hv2
    obtain ⟨rfl, _, rfl⟩ := hv2
    obtain ⟨bv2, ht2⟩ := T1.out.add FR.out (hm2 _ _).1 (fun b hb => ⟨by have := ((hm2 _ _).2 b hb).1; omega, fun q hq hc => by
      simp only [List.nil_append, List.mem_singleton] at hq
      subst hq
      have h1 := (OLD.out b _ _ hc).1
      have h2 := ((hm2 _ _).2 b hb).1
      omega⟩) hp
    have T2 := Lib.hid ht2
    clear hp ht2 CF OB7 T1 hm2
    have CV := Lib.hid (apart_any T2.out.book (by simp) T2.out.mem T2.out.apart)
    go_wp2_with fail
    refine CV.out.mono ?_
    rintro e V4 ⟨rfl, ky⟩
    have B8 := Lib.hid (T2.out.done FR.out ky)
    have CL := Lib.hid (HLi.out V4)
    clear ky CV T2 FR
    go_wp2_with fail
    refine CL.out.mono ?_
    rintro e V5 ⟨rfl, b9⟩
    have B9 := Lib.hid (B8.out.trans (b9.mono B8.out.size))
    clear b9 CL
    go_wp2_with fail
    go_ret
    exact ⟨rfl, B9.out⟩
  · obtain ⟨_, rfl⟩ := HG.out.resolve_left (fun h => hok h.1)
    clear HG
    go_wp2_with fail
    refine CR.out.mono ?_
    rintro e w3 ⟨b3, hr⟩
    obtain ⟨_, rfl⟩ := hr.resolve_left (fun h => hok h.1)
    have B3 := Lib.hid (B2.out.trans (b3.mono B2.out.size))
    have CS := Lib.hid (short_none HSp.out (IsG.nil w3) (GInv.zero (by decide)) HS8.out HT8.out (shortW_zero sx tx))
    clear b3 hr CR B2
    go_wp2_with fail
    refine CS.out.mono ?_
    rintro e w4 ⟨⟨ao, cp, rfl⟩, b4⟩
    have B4 := Lib.hid (B3.out.trans (b4.mono B3.out.size))
    have CL := Lib.hid (HLi.out w4)
    clear b4 CS
    go_wp2_with fail
    refine CL.out.mono ?_
    rintro e w5 ⟨rfl, b5⟩
    have B5 := Lib.hid (B4.out.trans (b5.mono B4.out.size))
    clear b5 CL
    go_wp2_with fail
    go_ret
    exact ⟨rfl, B5.out⟩

end Go.Proofs.Ytlmebpplhpjdfaa
