/-
  FlowsRoute: the walk, for every edges and ask, over what the program's Route and Most tell (written by gen_froute.py).
-/
import Derived.Test.YtgebplplpenabaaFlowProg
import Derived.Test.YtgebplplpenabaaFresh
import Derived.Test.YtgebplplpenabaaPages
import Derived.Test.YtgebplplpenabaaSameL
namespace Go.Proofs.Ytgebplplpenabaa
open Go.RowKit
set_option linter.unusedSimpArgs false
set_option linter.unusedVariables false

theorem rowA_flow {w : World} {base n : Nat} {v : Value} {xs : List Value} (h : RowA w base 52 3 v n xs) : ∃ (ao : Option Addr) (c : Nat), v = .slice ao n c ∧ ∀ m q, (∃ cs, (Pg.flow (.slice ao n c) n c m q).Mem w cs) ∧ ∀ b, (Pg.flow (.slice ao n c) n c m q).own b → base ≤ b ∧ b < w.heap.size := by
  obtain ⟨_, ⟨rfl, rfl⟩ | ⟨g, cap, cur, rfl, hb, hg, h1, h2, h3, _⟩⟩ := h
  · exact ⟨none, 0, rfl, fun m q => ⟨⟨#[], by simp [Pg.n, Pg.c], by simp [Pg.c], by simp [Pg.c], .inl ⟨rfl, rfl, rfl⟩⟩, fun b h => by cases h⟩⟩
  · exact ⟨_, cap, rfl, fun m q => ⟨⟨cur, h1, h2, h3, .inr ⟨g, rfl, hg⟩⟩, fun b h => by cases h; exact ⟨hb, lt_of_block hg⟩⟩⟩
set_option maxHeartbeats 32000000 in
set_option maxRecDepth 100000 in
theorem froute_walk (HR : RouteProg) (HM : MostProg) (HL : Lives07) (a : Option Addr) (len cap : Nat) (zs : List Fw) (ax : Fw) (w : World) (h0 : SlIn Fw.vals 3 Fw.Fits w a len cap zs) (hx : ax.Fits) :
    Calls Try.prog 3 #[.slice a len cap, .agg #[.int .u8 ax.fr, .int .u8 ax.tt, .int .i64 ax.am]] w fun e w' => e = .returned (.bool true) ∧ Below w.heap.size w w' := by
  obtain ⟨sx, tx, wx⟩ := ax
  obtain ⟨hx1, hx2, hx3⟩ := hx
  dsimp only at hx1 hx2 hx3 ⊢
  have HZ := Lib.hid h0
  have HS8 := Lib.hid hx1
  have HT8 := Lib.hid hx2
  have HW64 := Lib.hid hx3
  have hcap := h0.2.2.2.1
  have hmax := h0.2.2.2.2.1
  have hzl := h0.2.1
  unfold maxLen at hmax
  clear h0 hx1 hx2 hx3
  subst hzl
  have HRo := Lib.hid HR
  have HMo := Lib.hid HM
  have HLi := Lib.hid HL
  clear HR HM HL
  have B0 := Lib.hid ((Below.refl w.heap.size w).alloc (Nat.le_refl _) (.cells #[.int .u8 sx, .int .u8 tx, .int .i64 wx] 25))
  have KX0 := Lib.hid (Blk.new w #[.int .u8 sx, .int .u8 tx, .int .i64 wx] 25)
  by_cases hle : ¬ zs.length ≤ 300
  · go_enter Try.func3, Try.ntmps3
    go_wp2_with fail
    refine (HLi.out _).mono ?_
    rintro e w1 ⟨rfl, b1⟩
    have B1 := Lib.hid (B0.out.trans (b1.mono B0.out.size))
    clear b1
    go_wp2_with fail
    go_ret
    exact ⟨rfl, B1.out⟩
  have hle := Decidable.not_not.1 hle
  have l1 : decide ((300 : Int) < (zs.length : Int)) = false := by simp; omega
  have CN := Lib.hid (gnew_any ((HZ.out.below B0.out).flows (by omega)) (by omega))
  go_enter Try.func3, Try.ntmps3
  go_wp2_with fail
  refine CN.out.mono ?_
  rintro e w2 ⟨b2, hg⟩
  have B2 := Lib.hid (B0.out.trans (b2.mono B0.out.size))
  have KX2 := Lib.hid (KX0.out.below b2 KX0.out.lt)
  have HG := Lib.hid hg
  have CR := Lib.hid (rnewG_any ((HZ.out.below B2.out).flows (by omega)) (by omega))
  obtain ⟨X, hX⟩ : ∃ X, X = w.heap.size := ⟨_, rfl⟩
  rw [← hX] at KX2 ⊢
  have HXX := Lib.hid hX
  clear b2 hg CN HZ KX0 B0 hX
  by_cases hok : okG zs
  · obtain ⟨_, g, rfl, hgge, hgb⟩ := HG.out.resolve_right (fun h => h.1 hok)
    have KG2 := Lib.hid hgb
    clear hgb HG
    go_wp2_with fail
    refine CR.out.mono ?_
    rintro e w3 ⟨b3, hr⟩
    obtain ⟨_, m, vl, rfl, hrm⟩ := hr.resolve_right (fun h => h.1 hok)
    have B3 := Lib.hid (B2.out.trans (b3.mono B2.out.size))
    have KG3 := Lib.hid (KG2.out.below b3 KG2.out.lt)
    have KX3 := Lib.hid (KX2.out.below b3 KX2.out.lt)
    have KM3 := Lib.hid hrm
    have I0 := Lib.hid (newF_inv hok.1)
    rw [newL_newF] at KM3
    generalize newF zs = f at *
    clear b3 hr hrm CR B2 KG2 KX2
    obtain ⟨σ, hσ⟩ := route_ends I0.out sx tx wx
    obtain ⟨μ, hμ⟩ := route_ends I0.out sx tx mostW
    have HSi := Lib.hid hσ
    have HMu := Lib.hid hμ
    have hlen := hσ.len
    obtain ⟨nr, hnr⟩ : ∃ nr, wx - σ.left = nr := ⟨_, rfl⟩
    obtain ⟨nm, hnm⟩ : ∃ nm, mostW - μ.left = nm := ⟨_, rfl⟩
    have NR := Lib.hid hnr
    have NM := Lib.hid hnm
    clear hσ hμ hnr hnm
    have CA := Lib.hid (HRo.out.at_ (IsM.of KG3.out) I0.out HS8.out HT8.out HW64.out HSi.out)
    rw [NR.out] at CA
    obtain ⟨L, EL⟩ : ∃ L, Hid (σ.out = L) := ⟨_, Lib.hid rfl⟩
    rw [EL.out] at CA hlen
    have kx := KX3.out
    have hxl := kx.lt
    have e0 := kx.cell 0
    have e1 := kx.cell 1
    have e2 := kx.cell 2
    simp at e0 e1 e2
    clear kx
    go_wp2_with fail
    refine CA.out.mono ?_
    rintro e w4 ⟨va, rfl, hrow, b4⟩
    have KG4 := Lib.hid (KG3.out.below b4 KG3.out.lt)
    have KM4 := Lib.hid (KM3.out.below b4)
    have KX4 := Lib.hid (KX3.out.below b4 KX3.out.lt)
    have B4 := Lib.hid (B3.out.trans (b4.mono B3.out.size))
    have OA := Lib.hid hrow
    have hw3 := B3.out.size
    have hw34 := b4.size
    clear e0 e1 e2 hxl hrow b4 CA KG3 KM3 KX3 B3
    obtain ⟨ao, ca, rfl, HPA⟩ := rowA_flow OA.out
    have HPA := Lib.hid HPA
    have CB := Lib.hid (rroute_at KM4.out I0.out HS8.out HT8.out HW64.out HSi.out)
    rw [NR.out, EL.out] at CB
    have kx := KX4.out
    have hxl := kx.lt
    have e0 := kx.cell 0
    have e1 := kx.cell 1
    have e2 := kx.cell 2
    simp at e0 e1 e2
    clear kx
    go_wp2_with fail
    refine CB.out.mono ?_
    rintro e W ⟨vb, rfl, hown, b5⟩
    have KG := Lib.hid (KG4.out.below b5 KG4.out.lt)
    have KM := Lib.hid (KM4.out.below b5)
    have KX := Lib.hid (KX4.out.below b5 KX4.out.lt)
    have B5 := Lib.hid (B4.out.trans (b5.mono B4.out.size))
    have OA5 := Lib.hid (OA.out.below b5)
    have RA := Lib.hid (RowA.reads OA5.out (by omega))
    have RB := Lib.hid (Reads.of_owns hown (by omega))
    have OLD : Hid (∀ b m q, (Pg.flow (.slice ao L.length ca) L.length ca m q).own b → b < W.heap.size ∧ w.heap.size ≤ b) := Lib.hid (fun b m q h => ⟨Nat.lt_of_lt_of_le ((HPA.out m q).2 b h).2 b5.size, by have := ((HPA.out m q).2 b h).1; omega⟩)
    have hw45 := b5.size
    clear e0 e1 e2 hxl b5 hown CB KG4 KM4 KX4 B4 OA HPA
    go_wp2_with fail
    have hlasts : ∀ q ∈ ([(26, (fun v w => Reads w v 3 (allE f).length (fwCells (allE f))))] : List (Nat × (Value → World → Prop))), Lasts q.2 := by
      intro q hq
      simp only [List.mem_cons, List.not_mem_nil, or_false] at hq
      rcases hq with rfl
      · exact fun v w w' h hb => Reads.below h hb
    have HL := Lib.hid hlasts
    clear hlasts
    refine region_fresh (by kernel_rfl) (fun s : Nat → Value => [(.slice ao L.length ca), vb, (.bool true), (.bool false), (.bool false), (.int .i64 nr), (.int .i64 nr), (.bool false), (.bool false), (.bool false), (.pointer (some ⟨g, 0, none⟩)), (.pointer (some ⟨X, 0, none⟩)), (.int .u8 sx), (.pointer (some ⟨X, 1, none⟩)), (.int .u8 tx), (.int .i64 nm), (.pointer (some ⟨m, 0, none⟩)), (.pointer (some ⟨X, 0, none⟩)), (.int .u8 sx), (.pointer (some ⟨X, 1, none⟩)), (.int .u8 tx), (.int .i64 nm), (.bool false), (.bool false), (.bool false), (.pointer (some ⟨g, 0, none⟩)), s 26, (.pointer (some ⟨m, 0, none⟩)), (.pointer (some ⟨m, 0, none⟩)), (.pointer (some ⟨m, 0, none⟩)), vl, (.bool true), (.bool false), (.bool false)])
      (Got W [(26, (fun v w => Reads w v 3 (allE f).length (fwCells (allE f))))]) (by kernel_rfl) (fun _ => undef) (Got.start _ _ _) ?_
    intro AF hAF
    simp only [List.toList_toArray, puts, Act.put, List.getD_cons_zero, List.getD_cons_succ, List.setIfInBounds_toArray, List.set_cons_succ, List.set_cons_zero] at hAF
    have hAF2 : _ = AF := funext hAF
    subst hAF2
    clear hAF
    refine ⟨?_, ?_⟩
    · simp only [List.toList_toArray, EachF]
      refine ⟨?_, ?_, ?_, ?_, ?_, ?_, ?_, ?_, ?_, ?_, ?_, ?_, ?_, ?_, ?_, ?_, ?_, ?_, ?_, ?_, ?_, ?_, ?_, ?_, ?_, ?_, ?_, ?_, ?_, ?_, ?_, ?_, ?_, ?_, trivial⟩
      · intro s D w' hD hW hC hI
        have hS := hI.below
        refine .inl ⟨s, fun _ _ _ => rfl, ?_⟩
        with_reducible refine OpTo.plain ?_ ?_
        exact rfl
        have HS := Lib.hid (hI.step HL.out (Below.refl _ _) (k := 0) (by intro q hq; simp only [List.mem_cons, List.not_mem_nil, or_false] at hq; rcases hq with rfl <;> first | exact (show (26 : Nat) ≠ 0 by decide)))
        clear hI hS hC hW hD
        go_wp2_with fail
        all_goals first | exact HS.out | exact ⟨rfl, HS.out⟩ | rfl
      · intro s D w' hD hW hC hI
        have hS := hI.below
        refine .inl ⟨s, fun _ _ _ => rfl, ?_⟩
        with_reducible refine OpTo.plain ?_ ?_
        exact rfl
        have HS := Lib.hid (hI.step HL.out (Below.refl _ _) (k := 1) (by intro q hq; simp only [List.mem_cons, List.not_mem_nil, or_false] at hq; rcases hq with rfl <;> first | exact (show (26 : Nat) ≠ 1 by decide)))
        clear hI hS hC hW hD
        go_wp2_with fail
        all_goals first | exact HS.out | exact ⟨rfl, HS.out⟩ | rfl
      · intro s D w' hD hW hC hI
        have hS := hI.below
        refine .inl ⟨s, fun _ _ _ => rfl, ?_⟩
        with_reducible refine OpTo.plain ?_ ?_
        exact rfl
        have HI := Lib.hid hI
        have HC := Lib.hid ((by have q := SameFlows_any (RA.out.below hS) (RB.out.below hS); rw [decide_eq_true rfl] at q; exact q : Calls Try.prog 12 #[(.slice ao L.length ca), vb] w' fun e w'' => e = .returned (.bool true) ∧ Below w'.heap.size w' w''))
        clear hI hS hC hW hD
        go_wp2_with fail
        refine HC.out.mono ?_
        rintro e w'' ⟨rfl, hb2⟩
        exact ⟨rfl, HI.out.step HL.out hb2 (by intro q hq; simp only [List.mem_cons, List.not_mem_nil, or_false] at hq; rcases hq with rfl <;> first | exact (show (26 : Nat) ≠ 2 by decide))⟩
      · intro s D w' hD hW hC hI
        have hS := hI.below
        refine .inl ⟨s, fun _ _ _ => rfl, ?_⟩
        with_reducible refine OpTo.plain ?_ ?_
        exact rfl
        have HS := Lib.hid (hI.step HL.out (Below.refl _ _) (k := 3) (by intro q hq; simp only [List.mem_cons, List.not_mem_nil, or_false] at hq; rcases hq with rfl <;> first | exact (show (26 : Nat) ≠ 3 by decide)))
        clear hI hS hC hW hD
        go_wp2_with fail
        all_goals first | exact HS.out | exact ⟨rfl, HS.out⟩ | rfl
      · intro s D w' hD hW hC hI
        have hS := hI.below
        refine .inl ⟨s, fun _ _ _ => rfl, ?_⟩
        with_reducible refine OpTo.plain ?_ ?_
        exact rfl
        have HS := Lib.hid (hI.step HL.out (Below.refl _ _) (k := 4) (by intro q hq; simp only [List.mem_cons, List.not_mem_nil, or_false] at hq; rcases hq with rfl <;> first | exact (show (26 : Nat) ≠ 4 by decide)))
        clear hI hS hC hW hD
        go_wp2_with fail
        all_goals first | exact HS.out | exact ⟨rfl, HS.out⟩ | rfl
      · intro s D w' hD hW hC hI
        have hS := hI.below
        refine .inl ⟨s, fun _ _ _ => rfl, ?_⟩
        with_reducible refine OpTo.wanted ?_ ?_
        kernel_rfl
        have HS := Lib.hid (hI.step HL.out (Below.refl _ _) (k := 5) (by intro q hq; simp only [List.mem_cons, List.not_mem_nil, or_false] at hq; rcases hq with rfl <;> first | exact (show (26 : Nat) ≠ 5 by decide)))
        clear hI hS hC hW hD
        go_wp2_with fail
        all_goals first | exact HS.out | exact ⟨rfl, HS.out⟩ | rfl
      · intro s D w' hD hW hC hI
        have hS := hI.below
        refine .inl ⟨s, fun _ _ _ => rfl, ?_⟩
        with_reducible refine OpTo.wanted ?_ ?_
        kernel_rfl
        have HS := Lib.hid (hI.step HL.out (Below.refl _ _) (k := 6) (by intro q hq; simp only [List.mem_cons, List.not_mem_nil, or_false] at hq; rcases hq with rfl <;> first | exact (show (26 : Nat) ≠ 6 by decide)))
        clear hI hS hC hW hD
        go_wp2_with fail
        all_goals first | exact HS.out | exact ⟨rfl, HS.out⟩ | rfl
      · intro s D w' hD hW hC hI
        have hS := hI.below
        refine .inl ⟨s, fun _ _ _ => rfl, ?_⟩
        with_reducible refine OpTo.wanted ?_ ?_
        kernel_rfl
        have HS := Lib.hid (hI.step HL.out (Below.refl _ _) (k := 7) (by intro q hq; simp only [List.mem_cons, List.not_mem_nil, or_false] at hq; rcases hq with rfl <;> first | exact (show (26 : Nat) ≠ 7 by decide)))
        clear hI hS hC hW hD
        go_wp2_with fail
        all_goals first | exact HS.out | exact ⟨rfl, HS.out⟩ | rfl
      · intro s D w' hD hW hC hI
        have hS := hI.below
        refine .inl ⟨s, fun _ _ _ => rfl, ?_⟩
        with_reducible refine OpTo.plain ?_ ?_
        exact rfl
        have HS := Lib.hid (hI.step HL.out (Below.refl _ _) (k := 8) (by intro q hq; simp only [List.mem_cons, List.not_mem_nil, or_false] at hq; rcases hq with rfl <;> first | exact (show (26 : Nat) ≠ 8 by decide)))
        clear hI hS hC hW hD
        go_wp2_with fail
        all_goals first | exact HS.out | exact ⟨rfl, HS.out⟩ | rfl
      · intro s D w' hD hW hC hI
        have hS := hI.below
        refine .inl ⟨s, fun _ _ _ => rfl, ?_⟩
        with_reducible refine OpTo.plain ?_ ?_
        exact rfl
        have HS := Lib.hid (hI.step HL.out (Below.refl _ _) (k := 9) (by intro q hq; simp only [List.mem_cons, List.not_mem_nil, or_false] at hq; rcases hq with rfl <;> first | exact (show (26 : Nat) ≠ 9 by decide)))
        clear hI hS hC hW hD
        go_wp2_with fail
        all_goals first | exact HS.out | exact ⟨rfl, HS.out⟩ | rfl
      · intro s D w' hD hW hC hI
        have hS := hI.below
        refine .inl ⟨s, fun _ _ _ => rfl, ?_⟩
        with_reducible refine OpTo.wanted ?_ ?_
        kernel_rfl
        have HS := Lib.hid (hI.step HL.out (Below.refl _ _) (k := 10) (by intro q hq; simp only [List.mem_cons, List.not_mem_nil, or_false] at hq; rcases hq with rfl <;> first | exact (show (26 : Nat) ≠ 10 by decide)))
        clear hI hS hC hW hD
        go_wp2_with fail
        all_goals first | exact HS.out | exact ⟨rfl, HS.out⟩ | rfl
      · intro s D w' hD hW hC hI
        have hS := hI.below
        refine .inl ⟨s, fun _ _ _ => rfl, ?_⟩
        with_reducible refine OpTo.wanted ?_ ?_
        kernel_rfl
        have kx := KX.out.below hS KX.out.lt
        have hxl := kx.lt
        have e0 := kx.cell 0
        have e1 := kx.cell 1
        have e2 := kx.cell 2
        simp at e0 e1 e2
        have HS := Lib.hid (hI.step HL.out (Below.refl _ _) (k := 11) (by intro q hq; simp only [List.mem_cons, List.not_mem_nil, or_false] at hq; rcases hq with rfl <;> first | exact (show (26 : Nat) ≠ 11 by decide)))
        clear hI hS hC hW hD
        go_wp2_with fail
        all_goals first | exact HS.out | exact ⟨rfl, HS.out⟩ | rfl
      · intro s D w' hD hW hC hI
        have hS := hI.below
        refine .inl ⟨s, fun _ _ _ => rfl, ?_⟩
        with_reducible refine OpTo.wanted ?_ ?_
        kernel_rfl
        have kx := KX.out.below hS KX.out.lt
        have hxl := kx.lt
        have e0 := kx.cell 0
        have e1 := kx.cell 1
        have e2 := kx.cell 2
        simp at e0 e1 e2
        have HS := Lib.hid (hI.step HL.out (Below.refl _ _) (k := 12) (by intro q hq; simp only [List.mem_cons, List.not_mem_nil, or_false] at hq; rcases hq with rfl <;> first | exact (show (26 : Nat) ≠ 12 by decide)))
        clear hI hS hC hW hD
        go_wp2_with fail
        all_goals first | exact HS.out | exact ⟨rfl, HS.out⟩ | rfl
      · intro s D w' hD hW hC hI
        have hS := hI.below
        refine .inl ⟨s, fun _ _ _ => rfl, ?_⟩
        with_reducible refine OpTo.wanted ?_ ?_
        kernel_rfl
        have kx := KX.out.below hS KX.out.lt
        have hxl := kx.lt
        have e0 := kx.cell 0
        have e1 := kx.cell 1
        have e2 := kx.cell 2
        simp at e0 e1 e2
        have HS := Lib.hid (hI.step HL.out (Below.refl _ _) (k := 13) (by intro q hq; simp only [List.mem_cons, List.not_mem_nil, or_false] at hq; rcases hq with rfl <;> first | exact (show (26 : Nat) ≠ 13 by decide)))
        clear hI hS hC hW hD
        go_wp2_with fail
        all_goals first | exact HS.out | exact ⟨rfl, HS.out⟩ | rfl
      · intro s D w' hD hW hC hI
        have hS := hI.below
        refine .inl ⟨s, fun _ _ _ => rfl, ?_⟩
        with_reducible refine OpTo.wanted ?_ ?_
        kernel_rfl
        have kx := KX.out.below hS KX.out.lt
        have hxl := kx.lt
        have e0 := kx.cell 0
        have e1 := kx.cell 1
        have e2 := kx.cell 2
        simp at e0 e1 e2
        have HS := Lib.hid (hI.step HL.out (Below.refl _ _) (k := 14) (by intro q hq; simp only [List.mem_cons, List.not_mem_nil, or_false] at hq; rcases hq with rfl <;> first | exact (show (26 : Nat) ≠ 14 by decide)))
        clear hI hS hC hW hD
        go_wp2_with fail
        all_goals first | exact HS.out | exact ⟨rfl, HS.out⟩ | rfl
      · intro s D w' hD hW hC hI
        have hS := hI.below
        refine .inl ⟨s, fun _ _ _ => rfl, ?_⟩
        with_reducible refine OpTo.wanted ?_ ?_
        kernel_rfl
        have HI := Lib.hid hI
        have HC := Lib.hid ((by have q := HMo.out.at_ (IsM.of (KG.out.below hS KG.out.lt)) I0.out HS8.out HT8.out HMu.out; rw [NM.out] at q; exact q : Calls Try.prog 10 #[(.pointer (some ⟨g, 0, none⟩)), .int .u8 sx, .int .u8 tx] w' fun e w'' => e = .returned (.int .i64 nm) ∧ Below w'.heap.size w' w''))
        clear hI hS hC hW hD
        go_wp2_with fail
        refine HC.out.mono ?_
        rintro e w'' ⟨rfl, hb2⟩
        exact ⟨rfl, HI.out.step HL.out hb2 (by intro q hq; simp only [List.mem_cons, List.not_mem_nil, or_false] at hq; rcases hq with rfl <;> first | exact (show (26 : Nat) ≠ 15 by decide))⟩
      · intro s D w' hD hW hC hI
        have hS := hI.below
        refine .inl ⟨s, fun _ _ _ => rfl, ?_⟩
        with_reducible refine OpTo.wanted ?_ ?_
        kernel_rfl
        have HS := Lib.hid (hI.step HL.out (Below.refl _ _) (k := 16) (by intro q hq; simp only [List.mem_cons, List.not_mem_nil, or_false] at hq; rcases hq with rfl <;> first | exact (show (26 : Nat) ≠ 16 by decide)))
        clear hI hS hC hW hD
        go_wp2_with fail
        all_goals first | exact HS.out | exact ⟨rfl, HS.out⟩ | rfl
      · intro s D w' hD hW hC hI
        have hS := hI.below
        refine .inl ⟨s, fun _ _ _ => rfl, ?_⟩
        with_reducible refine OpTo.wanted ?_ ?_
        kernel_rfl
        have kx := KX.out.below hS KX.out.lt
        have hxl := kx.lt
        have e0 := kx.cell 0
        have e1 := kx.cell 1
        have e2 := kx.cell 2
        simp at e0 e1 e2
        have HS := Lib.hid (hI.step HL.out (Below.refl _ _) (k := 17) (by intro q hq; simp only [List.mem_cons, List.not_mem_nil, or_false] at hq; rcases hq with rfl <;> first | exact (show (26 : Nat) ≠ 17 by decide)))
        clear hI hS hC hW hD
        go_wp2_with fail
        all_goals first | exact HS.out | exact ⟨rfl, HS.out⟩ | rfl
      · intro s D w' hD hW hC hI
        have hS := hI.below
        refine .inl ⟨s, fun _ _ _ => rfl, ?_⟩
        with_reducible refine OpTo.wanted ?_ ?_
        kernel_rfl
        have kx := KX.out.below hS KX.out.lt
        have hxl := kx.lt
        have e0 := kx.cell 0
        have e1 := kx.cell 1
        have e2 := kx.cell 2
        simp at e0 e1 e2
        have HS := Lib.hid (hI.step HL.out (Below.refl _ _) (k := 18) (by intro q hq; simp only [List.mem_cons, List.not_mem_nil, or_false] at hq; rcases hq with rfl <;> first | exact (show (26 : Nat) ≠ 18 by decide)))
        clear hI hS hC hW hD
        go_wp2_with fail
        all_goals first | exact HS.out | exact ⟨rfl, HS.out⟩ | rfl
      · intro s D w' hD hW hC hI
        have hS := hI.below
        refine .inl ⟨s, fun _ _ _ => rfl, ?_⟩
        with_reducible refine OpTo.wanted ?_ ?_
        kernel_rfl
        have kx := KX.out.below hS KX.out.lt
        have hxl := kx.lt
        have e0 := kx.cell 0
        have e1 := kx.cell 1
        have e2 := kx.cell 2
        simp at e0 e1 e2
        have HS := Lib.hid (hI.step HL.out (Below.refl _ _) (k := 19) (by intro q hq; simp only [List.mem_cons, List.not_mem_nil, or_false] at hq; rcases hq with rfl <;> first | exact (show (26 : Nat) ≠ 19 by decide)))
        clear hI hS hC hW hD
        go_wp2_with fail
        all_goals first | exact HS.out | exact ⟨rfl, HS.out⟩ | rfl
      · intro s D w' hD hW hC hI
        have hS := hI.below
        refine .inl ⟨s, fun _ _ _ => rfl, ?_⟩
        with_reducible refine OpTo.wanted ?_ ?_
        kernel_rfl
        have kx := KX.out.below hS KX.out.lt
        have hxl := kx.lt
        have e0 := kx.cell 0
        have e1 := kx.cell 1
        have e2 := kx.cell 2
        simp at e0 e1 e2
        have HS := Lib.hid (hI.step HL.out (Below.refl _ _) (k := 20) (by intro q hq; simp only [List.mem_cons, List.not_mem_nil, or_false] at hq; rcases hq with rfl <;> first | exact (show (26 : Nat) ≠ 20 by decide)))
        clear hI hS hC hW hD
        go_wp2_with fail
        all_goals first | exact HS.out | exact ⟨rfl, HS.out⟩ | rfl
      · intro s D w' hD hW hC hI
        have hS := hI.below
        refine .inl ⟨s, fun _ _ _ => rfl, ?_⟩
        with_reducible refine OpTo.wanted ?_ ?_
        kernel_rfl
        have HI := Lib.hid hI
        have HC := Lib.hid ((by have q := rmost_at (KM.out.below hS) I0.out HS8.out HT8.out HMu.out; rw [NM.out] at q; exact q : Calls Try.prog 13 #[(.pointer (some ⟨m, 0, none⟩)), .int .u8 sx, .int .u8 tx] w' fun e w'' => e = .returned (.int .i64 nm) ∧ Below w'.heap.size w' w''))
        clear hI hS hC hW hD
        go_wp2_with fail
        refine HC.out.mono ?_
        rintro e w'' ⟨rfl, hb2⟩
        exact ⟨rfl, HI.out.step HL.out hb2 (by intro q hq; simp only [List.mem_cons, List.not_mem_nil, or_false] at hq; rcases hq with rfl <;> first | exact (show (26 : Nat) ≠ 21 by decide))⟩
      · intro s D w' hD hW hC hI
        have hS := hI.below
        refine .inl ⟨s, fun _ _ _ => rfl, ?_⟩
        with_reducible refine OpTo.wanted ?_ ?_
        kernel_rfl
        have HS := Lib.hid (hI.step HL.out (Below.refl _ _) (k := 22) (by intro q hq; simp only [List.mem_cons, List.not_mem_nil, or_false] at hq; rcases hq with rfl <;> first | exact (show (26 : Nat) ≠ 22 by decide)))
        clear hI hS hC hW hD
        go_wp2_with fail
        all_goals first | exact HS.out | exact ⟨rfl, HS.out⟩ | rfl
      · intro s D w' hD hW hC hI
        have hS := hI.below
        refine .inl ⟨s, fun _ _ _ => rfl, ?_⟩
        with_reducible refine OpTo.plain ?_ ?_
        exact rfl
        have HS := Lib.hid (hI.step HL.out (Below.refl _ _) (k := 23) (by intro q hq; simp only [List.mem_cons, List.not_mem_nil, or_false] at hq; rcases hq with rfl <;> first | exact (show (26 : Nat) ≠ 23 by decide)))
        clear hI hS hC hW hD
        go_wp2_with fail
        all_goals first | exact HS.out | exact ⟨rfl, HS.out⟩ | rfl
      · intro s D w' hD hW hC hI
        have hS := hI.below
        refine .inl ⟨s, fun _ _ _ => rfl, ?_⟩
        with_reducible refine OpTo.plain ?_ ?_
        exact rfl
        have HS := Lib.hid (hI.step HL.out (Below.refl _ _) (k := 24) (by intro q hq; simp only [List.mem_cons, List.not_mem_nil, or_false] at hq; rcases hq with rfl <;> first | exact (show (26 : Nat) ≠ 24 by decide)))
        clear hI hS hC hW hD
        go_wp2_with fail
        all_goals first | exact HS.out | exact ⟨rfl, HS.out⟩ | rfl
      · intro s D w' hD hW hC hI
        have hS := hI.below
        refine .inl ⟨s, fun _ _ _ => rfl, ?_⟩
        with_reducible refine OpTo.wanted ?_ ?_
        kernel_rfl
        have HS := Lib.hid (hI.step HL.out (Below.refl _ _) (k := 25) (by intro q hq; simp only [List.mem_cons, List.not_mem_nil, or_false] at hq; rcases hq with rfl <;> first | exact (show (26 : Nat) ≠ 25 by decide)))
        clear hI hS hC hW hD
        go_wp2_with fail
        all_goals first | exact HS.out | exact ⟨rfl, HS.out⟩ | rfl
      · intro s D w' hD hW hC hI
        have hS := hI.below
        have HI := Lib.hid hI
        have HCl := Lib.hid hC
        have HD := Lib.hid hD
        have HC := Lib.hid ((gedges_any (IsG.of (KG.out.below hS KG.out.lt)) I0.out.outF).mono (fun e w'' h => (by obtain ⟨v, h1, h2, h3⟩ := h; exact ⟨v, h1, h2.reads (by have := prefE_len f 256; unfold allE; omega), h3⟩ : ∃ v, e = .returned v ∧ Reads w'' v 3 (allE f).length (fwCells (allE f)) ∧ Below w'.heap.size w' w'')))
        refine .inr ?_
        with_reducible refine OpGets.wanted ?_ ?_
        kernel_rfl
        clear hI hS hC hW hD
        go_wp2_with fail
        refine HC.out.mono ?_
        rintro e w'' ⟨v, rfl, hv, hb2⟩
        refine ⟨v, rfl, updV s 26 v, vals_put _ (fun s : Nat → Value => [(.slice ao L.length ca), vb, (.bool true), (.bool false), (.bool false), (.int .i64 nr), (.int .i64 nr), (.bool false), (.bool false), (.bool false), (.pointer (some ⟨g, 0, none⟩)), (.pointer (some ⟨X, 0, none⟩)), (.int .u8 sx), (.pointer (some ⟨X, 1, none⟩)), (.int .u8 tx), (.int .i64 nm), (.pointer (some ⟨m, 0, none⟩)), (.pointer (some ⟨X, 0, none⟩)), (.int .u8 sx), (.pointer (some ⟨X, 1, none⟩)), (.int .u8 tx), (.int .i64 nm), (.bool false), (.bool false), (.bool false), (.pointer (some ⟨g, 0, none⟩)), s 26, (.pointer (some ⟨m, 0, none⟩)), (.pointer (some ⟨m, 0, none⟩)), (.pointer (some ⟨m, 0, none⟩)), vl, (.bool true), (.bool false), (.bool false)]) s 26 v HCl.out HD.out ?_, rfl, HI.out.put HL.out hb2 ?_⟩
        · intro j hj
          match j, hj with
          | 0, _ => exact .inr rfl
          | 1, _ => exact .inr rfl
          | 2, _ => exact .inr rfl
          | 3, _ => exact .inr rfl
          | 4, _ => exact .inr rfl
          | 5, _ => exact .inr rfl
          | 6, _ => exact .inr rfl
          | 7, _ => exact .inr rfl
          | 8, _ => exact .inr rfl
          | 9, _ => exact .inr rfl
          | 10, _ => exact .inr rfl
          | 11, _ => exact .inr rfl
          | 12, _ => exact .inr rfl
          | 13, _ => exact .inr rfl
          | 14, _ => exact .inr rfl
          | 15, _ => exact .inr rfl
          | 16, _ => exact .inr rfl
          | 17, _ => exact .inr rfl
          | 18, _ => exact .inr rfl
          | 19, _ => exact .inr rfl
          | 20, _ => exact .inr rfl
          | 21, _ => exact .inr rfl
          | 22, _ => exact .inr rfl
          | 23, _ => exact .inr rfl
          | 24, _ => exact .inr rfl
          | 25, _ => exact .inr rfl
          | 26, _ => exact .inl (.inl rfl)
          | 27, _ => exact .inr rfl
          | 28, _ => exact .inr rfl
          | 29, _ => exact .inr rfl
          | 30, _ => exact .inr rfl
          | 31, _ => exact .inr rfl
          | 32, _ => exact .inr rfl
          | 33, _ => exact .inr rfl
          | j + 34, _ => exact .inr rfl
        · intro q hq he
          simp only [List.mem_cons, List.not_mem_nil, or_false] at hq
          rcases hq with rfl <;> first | exact hv 
      · intro s D w' hD hW hC hI
        have hS := hI.below
        refine .inl ⟨s, fun _ _ _ => rfl, ?_⟩
        with_reducible refine OpTo.wanted ?_ ?_
        kernel_rfl
        have HS := Lib.hid (hI.step HL.out (Below.refl _ _) (k := 27) (by intro q hq; simp only [List.mem_cons, List.not_mem_nil, or_false] at hq; rcases hq with rfl <;> first | exact (show (26 : Nat) ≠ 27 by decide)))
        clear hI hS hC hW hD
        go_wp2_with fail
        all_goals first | exact HS.out | exact ⟨rfl, HS.out⟩ | rfl
      · intro s D w' hD hW hC hI
        have hS := hI.below
        refine .inl ⟨s, fun _ _ _ => rfl, ?_⟩
        with_reducible refine OpTo.wanted ?_ ?_
        kernel_rfl
        have km := (KM.out.below hS).blk
        have hml := km.lt
        have dm := km.cell 0
        simp at dm
        have HS := Lib.hid (hI.step HL.out (Below.refl _ _) (k := 28) (by intro q hq; simp only [List.mem_cons, List.not_mem_nil, or_false] at hq; rcases hq with rfl <;> first | exact (show (26 : Nat) ≠ 28 by decide)))
        clear hI hS hC hW hD
        go_wp2_with fail
        all_goals first | exact HS.out | exact ⟨rfl, HS.out⟩ | rfl
      · intro s D w' hD hW hC hI
        have hS := hI.below
        refine .inl ⟨s, fun _ _ _ => rfl, ?_⟩
        with_reducible refine OpTo.wanted ?_ ?_
        kernel_rfl
        have km := (KM.out.below hS).blk
        have hml := km.lt
        have dm := km.cell 0
        simp at dm
        have HS := Lib.hid (hI.step HL.out (Below.refl _ _) (k := 29) (by intro q hq; simp only [List.mem_cons, List.not_mem_nil, or_false] at hq; rcases hq with rfl <;> first | exact (show (26 : Nat) ≠ 29 by decide)))
        clear hI hS hC hW hD
        go_wp2_with fail
        all_goals first | exact HS.out | exact ⟨rfl, HS.out⟩ | rfl
      · intro s D w' hD hW hC hI
        have hS := hI.below
        refine .inl ⟨s, fun _ _ _ => rfl, ?_⟩
        with_reducible refine OpTo.wanted ?_ ?_
        kernel_rfl
        have km := (KM.out.below hS).blk
        have hml := km.lt
        have dm := km.cell 0
        simp at dm
        have HS := Lib.hid (hI.step HL.out (Below.refl _ _) (k := 30) (by intro q hq; simp only [List.mem_cons, List.not_mem_nil, or_false] at hq; rcases hq with rfl <;> first | exact (show (26 : Nat) ≠ 30 by decide)))
        clear hI hS hC hW hD
        go_wp2_with fail
        all_goals first | exact HS.out | exact ⟨rfl, HS.out⟩ | rfl
      · intro s D w' hD hW hC hI
        have hS := hI.below
        refine .inl ⟨s, fun _ _ _ => rfl, ?_⟩
        with_reducible refine OpTo.wanted ?_ ?_
        kernel_rfl
        have hP26 : D 26 = true := need_waited hC hW (by kernel_rfl)
        have hq26 := hI.at (26, (fun v w => Reads w v 3 (allE f).length (fwCells (allE f)))) (by simp) hP26
        dsimp only at hq26
        have HI := Lib.hid hI
        have HC := Lib.hid ((by have q := SameFlows_any hq26 (Reads.of_owns (KM.out.below hS).row (by have := prefE_len f 256; unfold allE; omega)); rw [decide_eq_true rfl] at q; exact q : Calls Try.prog 12 #[s 26, vl] w' fun e w'' => e = .returned (.bool true) ∧ Below w'.heap.size w' w''))
        clear hI hS hC hW hD hP26 hq26
        go_wp2_with fail
        refine HC.out.mono ?_
        rintro e w'' ⟨rfl, hb2⟩
        exact ⟨rfl, HI.out.step HL.out hb2 (by intro q hq; simp only [List.mem_cons, List.not_mem_nil, or_false] at hq; rcases hq with rfl <;> first | exact (show (26 : Nat) ≠ 31 by decide))⟩
      · intro s D w' hD hW hC hI
        have hS := hI.below
        refine .inl ⟨s, fun _ _ _ => rfl, ?_⟩
        with_reducible refine OpTo.wanted ?_ ?_
        kernel_rfl
        have HS := Lib.hid (hI.step HL.out (Below.refl _ _) (k := 32) (by intro q hq; simp only [List.mem_cons, List.not_mem_nil, or_false] at hq; rcases hq with rfl <;> first | exact (show (26 : Nat) ≠ 32 by decide)))
        clear hI hS hC hW hD
        go_wp2_with fail
        all_goals first | exact HS.out | exact ⟨rfl, HS.out⟩ | rfl
      · intro s D w' hD hW hC hI
        have hS := hI.below
        refine .inl ⟨s, fun _ _ _ => rfl, ?_⟩
        with_reducible refine OpTo.plain ?_ ?_
        exact rfl
        have HS := Lib.hid (hI.step HL.out (Below.refl _ _) (k := 33) (by intro q hq; simp only [List.mem_cons, List.not_mem_nil, or_false] at hq; rcases hq with rfl <;> first | exact (show (26 : Nat) ≠ 33 by decide)))
        clear hI hS hC hW hD
        go_wp2_with fail
        all_goals first | exact HS.out | exact ⟨rfl, HS.out⟩ | rfl
    intro s' D W2 hall hI
    have hS := hI.below
    have B6 := Lib.hid (B5.out.trans (hS.mono B5.out.size))
    have hw52 := hS.size
    have OA6 := Lib.hid (OA5.out.below hS)
    have KG6 := Lib.hid (KG.out.below hS KG.out.lt)
    have KX6 := Lib.hid (KX.out.below hS KX.out.lt)
    have CC := Lib.hid (HRo.out.at_ (IsM.of KG6.out) I0.out HS8.out HT8.out HW64.out HSi.out)
    rw [NR.out, EL.out] at CC
    clear hI hS hall B5 KG KM KX RA RB OA5
    have kx := KX6.out
    have hxl := kx.lt
    have e0 := kx.cell 0
    have e1 := kx.cell 1
    have e2 := kx.cell 2
    simp at e0 e1 e2
    clear kx
    go_wp2_with fail
    refine CC.out.mono ?_
    rintro e W3 ⟨vc, rfl, hrow, b7⟩
    have B7 := Lib.hid (B6.out.trans (b7.mono B6.out.size))
    have OA7 := Lib.hid (OA6.out.below b7)
    have OC7 := Lib.hid hrow
    have hw73 := b7.size
    clear e0 e1 e2 hxl hrow b7 CC KG6 KX6 B6 OA6
    obtain ⟨co, cc, rfl, _⟩ := rowA_flow OC7.out
    have FR : Hid (FarR w3.heap.size (fun w' => Below w.heap.size w w')) := Lib.hid fun w1 w2 S h k hS => h.trans (k.below (B := w.heap.size) h.size (fun k hk s => by have := hS _ s; omega))
    have T0 := Lib.hid (TailO.start FR.out B7.out (by omega))
    have OA8 := Lib.hid (OA7.out.alloc (.cells #[.slice none 0 0] 45))
    have OC8 := Lib.hid (OC7.out.alloc (.cells #[.slice none 0 0] 45))
    have EW : (W3.alloc (.cells #[.slice none 0 0] 45)).heap.size = W3.heap.size + 1 := by simp
    clear OA7 OC7 B7
    have CF := Lib.hid (flows_any T0.out.book (by simp) ao L.length ca)
    go_wp2_with fail
    generalize W3.alloc (.cells #[.slice none 0 0] 45) = V at *
    generalize hbk : W3.heap.size = bk at *
    refine CF.out.mono ?_
    rintro e V2 hp
    have he := hp.1
    subst he
    obtain ⟨ao1, pc1, hv1, hm1⟩ := rowA_flow OA8.out
    simp only [Value.slice.injEq] at hv1
    obtain ⟨rfl, _, rfl⟩ := hv1
    obtain ⟨bv1, ht1⟩ := T0.out.add FR.out (hm1 _ _).1 (fun b hb => ⟨((hm1 _ _).2 b hb).1, by simp⟩) hp
    obtain ⟨_, _, hbkk, hkk⟩ := hp
    have T1 := Lib.hid ht1
    have OC9 := Lib.hid (RowA.keep OC8.out hkk (fun b hb e => by
      obtain ⟨q1, q2, cur, q3⟩ := RowA.type OC8.out hb
      rcases e with e | e
      · rw [e] at q3
        have := T0.out.book.blk.out
        rw [q3] at this
        simp only [Option.some.injEq, Obj.cells.injEq] at this
        exact absurd this.2.1 (by decide)
      · cases e))
    clear ht1 hbkk hkk CF OC8 OA8 T0 hm1
    have CF := Lib.hid (flows_any T1.out.book (by simp) co L.length cc)
    go_wp2_with fail
    refine CF.out.mono ?_
    rintro e V3 hp
    have he := hp.1
    subst he
    obtain ⟨bo1, pc2, hv2, hm2⟩ := rowA_flow OC9.out
    simp only [Value.slice.injEq] at hv2
    obtain ⟨rfl, _, rfl⟩ := hv2
    obtain ⟨bv2, ht2⟩ := T1.out.add FR.out (hm2 _ _).1 (fun b hb => ⟨by have := ((hm2 _ _).2 b hb).1; omega, fun q hq hc => by
      simp only [List.nil_append, List.mem_singleton] at hq
      subst hq
      have h1 := (OLD.out b _ _ hc).1
      have h2 := ((hm2 _ _).2 b hb).1
      omega⟩) hp
    have T2 := Lib.hid ht2
    clear hp ht2 CF OC9 T1 hm2
    have CV := Lib.hid (apart_any T2.out.book (by simp) T2.out.mem T2.out.apart)
    go_wp2_with fail
    refine CV.out.mono ?_
    rintro e V4 ⟨rfl, ky⟩
    have B8 := Lib.hid (T2.out.done FR.out ky)
    have CL := Lib.hid (HLi.out V4)
    clear ky CV T2 FR
    go_wp2_with fail
    refine CL.out.mono ?_
    rintro e V5 ⟨rfl, b9⟩
    have B9 := Lib.hid (B8.out.trans (b9.mono B8.out.size))
    clear b9 CL
    go_wp2_with fail
    go_ret
    exact ⟨rfl, B9.out⟩
  · obtain ⟨_, rfl⟩ := HG.out.resolve_left (fun h => hok h.1)
    clear HG
    go_wp2_with fail
    refine CR.out.mono ?_
    rintro e w3 ⟨b3, hr⟩
    obtain ⟨_, rfl⟩ := hr.resolve_left (fun h => hok h.1)
    have B3 := Lib.hid (B2.out.trans (b3.mono B2.out.size))
    have KX3 := Lib.hid (KX2.out.below b3 KX2.out.lt)
    have I0 := Lib.hid (GInv.zero (B := 4398046511104) (by decide))
    obtain ⟨σ, hσ⟩ := route_ends I0.out sx tx wx
    obtain ⟨μ, hμ⟩ := route_ends I0.out sx tx mostW
    have hz1 := route_zero (by decide) hσ
    have hz2 := route_zero (by decide) hμ
    have CA := Lib.hid (HRo.out.at_ (IsM.nil w3) I0.out HS8.out HT8.out HW64.out hσ)
    have HMu := Lib.hid hμ
    rw [hz1] at CA
    have E0 : Hid (wx - (⟨zeroF, wx, []⟩ : RS).left = 0) := Lib.hid (Int.sub_self wx)
    rw [E0.out] at CA
    have NM : Hid (mostW - μ.left = 0) := Lib.hid (by rw [hz2]; exact Int.sub_self _)
    clear b3 hr CR B2 KX2 hσ hμ hz1 hz2
    have kx := KX3.out
    have hxl := kx.lt
    have e0 := kx.cell 0
    have e1 := kx.cell 1
    have e2 := kx.cell 2
    simp at e0 e1 e2
    clear kx
    go_wp2_with fail
    refine CA.out.mono ?_
    rintro e w4 ⟨va, rfl, hrow, b4⟩
    have B4 := Lib.hid (B3.out.trans (b4.mono B3.out.size))
    have KX4 := Lib.hid (KX3.out.below b4 KX3.out.lt)
    obtain ⟨ao, ca, rfl, _⟩ := rowA_flow hrow
    have CM := Lib.hid (HMo.out.at_ (IsM.nil w4) I0.out HS8.out HT8.out HMu.out)
    rw [NM.out] at CM
    clear e0 e1 e2 hxl hrow b4 CA B3 KX3
    have kx := KX4.out
    have hxl := kx.lt
    have e0 := kx.cell 0
    have e1 := kx.cell 1
    have e2 := kx.cell 2
    simp at e0 e1 e2
    clear kx
    go_wp2_with fail
    refine CM.out.mono ?_
    rintro e w5 ⟨rfl, b5⟩
    have B5 := Lib.hid (B4.out.trans (b5.mono B4.out.size))
    have CL := Lib.hid (HLi.out w5)
    clear b5 CM
    go_wp2_with fail
    refine CL.out.mono ?_
    rintro e w6 ⟨rfl, b6⟩
    have B6 := Lib.hid (B5.out.trans (b6.mono B5.out.size))
    clear b6 CL
    go_wp2_with fail
    go_ret
    exact ⟨rfl, B6.out⟩

end Go.Proofs.Ytgebplplpenabaa
