/-
  GraphsPair: the walk, for every acts, currency and flow (written by gen_gpair.py).
-/
import Derived.Test.YtdpkcamhafkkbaaLives05
import Derived.Test.YtdpkcamhafkkbaaPGrO
import Derived.Test.YtdpkcamhafkkbaaMade
import Derived.Test.YtdpkcamhafkkbaaFlwIn
namespace Go.Proofs.Ytdpkcamhafkkbaa
open Go.RowKit
set_option linter.unusedSimpArgs false
set_option linter.unusedVariables false

/-- The rooms of a ledger in one currency are capacities. -/
def roomF (ps : List Int) (ls : List Ln) (c a b : Int) : Int := roomL ps ls a b c
theorem roomF_inv {ps : List Int} {ls : List Ln} (h : LInv ps ls) (c : Int) : GInv (roomF ps ls c) 4398046511104 := by
  refine ⟨fun p q => (roomL_bd h.inv.good p q c).1, fun p q => ?_, fun p q hi => ?_, fun p => ?_⟩
  · have h1 := (roomL_bd (ps := ps) h.inv.good p q c).2
    have h2 := (roomL_bd (ps := ps) h.inv.good q p c).2
    unfold roomF
    omega
  · unfold roomF roomL
    rw [if_pos]
    by_cases h1 : p ∈ ps
    · by_cases h2 : q ∈ ps
      · exact absurd ⟨h.bd p h1, h.bd q h2⟩ hi
      · exact .inr (.inr h2)
    · exact .inr (.inl h1)
  · unfold roomF roomL
    rw [if_pos (.inl rfl)]
/-- Of a ledger that is there. -/
theorem gof_led {w : World} {G M : Nat} {ps : List Int} {ls : List Ln} (h : LedM w G M ps ls) (hI : LInv ps ls) {c : Int} (hc : In8 c) :
    Calls Try.prog 23 #[.pointer (some ⟨G, 0, none⟩), .int .u8 c] w fun e w' => e = .returned (.pointer (some ⟨w.heap.size, 0, none⟩)) ∧ Blk w' w.heap.size (graC (roomF ps ls c) true) 52 ∧ Below w.heap.size w w' :=
  gof_any fun w' k p q hp hq => room_any (h.below k) hI hp hq hc
theorem gcap_b {w : World} {g : Nat} {f : Int → Int → Int} {b : Bool} (h : Blk w g (graC f b) 52) (ho : outF f) (p q : Int) :
    Calls Try.prog 16 #[.pointer (some ⟨g, 0, none⟩), .int .u8 p, .int .u8 q] w fun e w' => e = .returned (.int .i64 (f p q)) ∧ Below w.heap.size w w' :=
  (gcap_any h ho p q).mono fun e w' ⟨h1, h2⟩ => ⟨h1, h2 ▸ Below.refl _ _⟩
def PairAt (W : World) (i : Value) (wr : World) : Prop := ∃ k : Nat, k ≤ 18 ∧ i = .int .u8 k ∧ W = wr
set_option maxHeartbeats 32000000 in
set_option maxRecDepth 100000 in
theorem gpair_walk (a : Option Addr) (len cap : Nat) (xs : List Ac) (c : Int) (x : Fw) (w : World) (h0 : ActsIn w a len cap xs) (hc : (Lit.int .u8 c).wf = true) (hx : x.Fits) :
    Calls Try.prog 6 #[.slice a len cap, .int .u8 c, .agg #[.int .u8 x.fr, .int .u8 x.tt, .int .i64 x.am]] w fun e w' => e = .returned (.bool true) ∧ Below w.heap.size w w' := by
  obtain ⟨fr, tt, am⟩ := x
  have HX := Lib.hid hx
  have HCc := Lib.hid (In8.of_wf hc)
  clear hx hc
  dsimp only at HX ⊢
  have HA := Lib.hid h0
  have hcap := h0.2.2.1
  have hmax := h0.2.2.2.1
  unfold maxLen at hmax
  clear h0
  have B0 := Lib.hid ((Below.refl w.heap.size w).alloc (Nat.le_refl _) (.cells #[.int .u8 fr, .int .u8 tt, .int .i64 am] 35))
  have KX0 := Lib.hid (Blk.new w #[.int .u8 fr, .int .u8 tt, .int .i64 am] 35)
  have HA0 := Lib.hid (HA.out.below ((Below.refl w.heap.size w).alloc (Nat.le_refl _) (.cells #[.int .u8 fr, .int .u8 tt, .int .i64 am] 35)))
  by_cases hle : ¬ len ≤ 120
  · go_enter Try.func6, Try.ntmps6
    go_wp2_with fail
    refine (lives05_any _).mono ?_
    rintro e w1 ⟨rfl, b1⟩
    have B1 := Lib.hid (B0.out.trans (b1.mono B0.out.size))
    clear b1
    go_wp2_with fail
    go_ret
    exact ⟨rfl, B1.out⟩
  have hle := Decidable.not_not.1 hle
  go_enter Try.func6, Try.ntmps6
  go_wp2_with fail
  have hz0 : (w.alloc (.cells #[.int .u8 fr, .int .u8 tt, .int .i64 am] 35)).heap.size = w.heap.size + 1 := by simp
  generalize w.alloc (.cells #[.int .u8 fr, .int .u8 tt, .int .i64 am] 35) = W0 at KX0 B0 HA0 hz0 ⊢
  generalize hX : w.heap.size = X at *
  refine (made_acts HA0.out hle).mono ?_
  rintro e w1 ⟨G, M, ps, ls, rfl, hL, hI, hG, hM, b1⟩
  have CO := Lib.hid (gof_led hL hI HCc.out)
  have HI := Lib.hid (roomF_inv hI c)
  have KX1 := Lib.hid (KX0.out.below b1 KX0.out.lt)
  have B1 := Lib.hid (B0.out.trans (b1.mono (by omega)))
  have hXl := KX1.out.lt
  clear hL hI hG hM b1 KX0 HA0 HA B0
  generalize roomF ps ls c = f at *
  go_wp2_with fail
  refine CO.out.mono ?_
  rintro e w2 ⟨rfl, k2, b2⟩
  have KX2 := Lib.hid (KX1.out.below b2 KX1.out.lt)
  have B2 := Lib.hid (B1.out.trans (b2.mono (by omega)))
  have CP := Lib.hid (gcopy_any k2)
  have K2 := Lib.hid k2
  have hgl := k2.lt
  generalize hg : w1.heap.size = g at *
  clear k2 b2 CO KX1 B1 hg
  go_wp2_with fail
  refine CP.out.mono ?_
  rintro e w3 ⟨rfl, k3, b3⟩
  have KX3 := Lib.hid (KX2.out.below b3 KX2.out.lt)
  have K3 := Lib.hid (K2.out.below b3 K2.out.lt)
  have B3 := Lib.hid (B2.out.trans (b3.mono (by omega)))
  have KW3 := Lib.hid k3
  have hgl2 := k3.lt
  generalize hg2 : w2.heap.size = g2 at *
  have CQ := Lib.hid (gpush_any K3.out HI.out (by decide) (a := fr) (b := tt) HX.out.am)
  have lx := KX3.out.lt
  have e0 := KX3.out.cell 0; have e1 := KX3.out.cell 1; have e2 := KX3.out.cell 2
  simp at e0 e1 e2
  clear k3 b3 CP KX2 K2 B2 hg2
  go_wp2_with fail
  refine CQ.out.mono ?_
  rintro e w4 ⟨rfl, k4, q4⟩
  have KX := Lib.hid (KX3.out.keep q4 (by omega))
  have hXW := KX.out.lt
  have KG := Lib.hid k4
  have KW := Lib.hid (KW3.out.keep q4 (by omega))
  have B4 := Lib.hid (B3.out.trans (q4.below (B := X) (by omega) (fun k hk e => by omega)))
  have HI2 := Lib.hid (HI.out.gpush fr tt am)
  clear k4 q4 CQ K3 KX3 KW3 B3 lx e0 e1 e2 hgl hgl2
  obtain ⟨W, hW⟩ : ∃ W, W = w4 := ⟨_, rfl⟩
  subst hW
  by_cases h1 : am < 1
  · have EE : gPushE f fr tt am = 1 ∧ gPushF f fr tt am = f := ⟨by unfold gPushE; rw [if_pos h1], by unfold gPushF; rw [if_neg (by omega)]⟩
    rw [EE.1]
    rw [EE.2] at KG
    have CS := Lib.hid (fun w' (hS : Below W.heap.size W w') => gsame_any (IsG.of (KG.out.below hS KG.out.lt)) (IsG.of (KW.out.below hS KW.out.lt)))
    rw [sameF_refl] at CS
    clear EE
    go_wp2_with fail
    refine region_still (by kernel_rfl) [(.pointer (some ⟨g, 0, none⟩)), (.pointer (some ⟨g2, 0, none⟩)), (.bool true), (.bool true), (.int .i64 1), (.bool true), (.bool true), (.pointer (some ⟨X, 2, none⟩)), (.int .i64 am), (.bool true), (.bool true), (.bool true), undef, undef, undef, undef, undef, undef, undef, undef, undef, undef, undef, undef, undef, (.bool true), (.bool true), (.bool true), (.bool true), (.bool true), (.bool true)]
      (fun w' => Below W.heap.size W w') (by kernel_rfl) (Below.refl _ _).drew ?_
    intro af haf
    simp only [List.toList_toArray, List.append_eq, List.cons_append, List.nil_append, puts, Act.put, List.getD_cons_zero, List.getD_cons_succ, List.setIfInBounds_toArray, List.set_cons_succ, List.set_cons_zero] at haf
    subst haf
    refine ⟨?_, ?_⟩
    · simp only [List.toList_toArray, List.append_eq, List.cons_append, List.nil_append, EachTo]
      refine ⟨?_, ?_, ?_, ?_, ?_, ?_, ?_, ?_, ?_, ?_, ?_, ?_, ?_, ?_, ?_, ?_, ?_, ?_, ?_, ?_, ?_, ?_, ?_, ?_, ?_, ?_, ?_, ?_, ?_, ?_, ?_, trivial⟩
      · intro w' hS
        refine OpTo.plain ?_ ?_
        exact rfl
        have HS := Lib.hid hS
        clear hS
        go_wp2_with fail
        all_goals first | exact HS.out | exact ⟨rfl, HS.out⟩ | rfl | exact ⟨by omega, HS.out⟩
      · intro w' hS
        refine OpTo.plain ?_ ?_
        exact rfl
        have HS := Lib.hid hS
        clear hS
        go_wp2_with fail
        all_goals first | exact HS.out | exact ⟨rfl, HS.out⟩ | rfl | exact ⟨by omega, HS.out⟩
      · intro w' hS
        refine OpTo.plain ?_ ?_
        exact rfl
        have HS := Lib.hid hS
        clear hS
        go_wp2_with fail
        refine (CS.out w' HS.out).mono ?_
        rintro e w'' ⟨rfl, hb2⟩
        exact ⟨rfl, andB HS.out hb2⟩
      · intro w' hS
        refine OpTo.plain ?_ ?_
        exact rfl
        have HS := Lib.hid hS
        clear hS
        go_wp2_with fail
        all_goals first | exact HS.out | exact ⟨rfl, HS.out⟩ | rfl | exact ⟨by omega, HS.out⟩
      · intro w' hS
        refine OpTo.wanted ?_ ?_
        kernel_rfl
        have HS := Lib.hid hS
        clear hS
        go_wp2_with fail
        all_goals first | exact HS.out | exact ⟨rfl, HS.out⟩ | rfl | exact ⟨by omega, HS.out⟩
      · intro w' hS
        refine OpTo.wanted ?_ ?_
        kernel_rfl
        have HS := Lib.hid hS
        clear hS
        go_wp2_with fail
        all_goals first | exact HS.out | exact ⟨rfl, HS.out⟩ | rfl | exact ⟨by omega, HS.out⟩
      · intro w' hS
        refine OpTo.wanted ?_ ?_
        kernel_rfl
        have HS := Lib.hid hS
        clear hS
        go_wp2_with fail
        all_goals first | exact HS.out | exact ⟨rfl, HS.out⟩ | rfl | exact ⟨by omega, HS.out⟩
      · intro w' hS
        refine OpTo.wanted ?_ ?_
        kernel_rfl
        have kx := KX.out.below hS KX.out.lt
        have hl := kx.lt
        have e0 := kx.cell 0
        have e1 := kx.cell 1
        have e2 := kx.cell 2
        simp at e0 e1 e2
        have HS := Lib.hid hS
        clear hS
        go_wp2_with fail
        all_goals first | exact HS.out | exact ⟨rfl, HS.out⟩ | rfl | exact ⟨by omega, HS.out⟩
      · intro w' hS
        refine OpTo.wanted ?_ ?_
        kernel_rfl
        have kx := KX.out.below hS KX.out.lt
        have hl := kx.lt
        have e0 := kx.cell 0
        have e1 := kx.cell 1
        have e2 := kx.cell 2
        simp at e0 e1 e2
        have HS := Lib.hid hS
        clear hS
        go_wp2_with fail
        all_goals first | exact HS.out | exact ⟨rfl, HS.out⟩ | rfl | exact ⟨by omega, HS.out⟩
      · intro w' hS
        refine OpTo.wanted ?_ ?_
        kernel_rfl
        have HS := Lib.hid hS
        clear hS
        go_wp2_with fail
        all_goals first | exact HS.out | exact ⟨rfl, HS.out⟩ | rfl | exact ⟨by omega, HS.out⟩
      · intro w' hS
        refine OpTo.wanted ?_ ?_
        kernel_rfl
        have HS := Lib.hid hS
        clear hS
        go_wp2_with fail
        all_goals first | exact HS.out | exact ⟨rfl, HS.out⟩ | rfl | exact ⟨by omega, HS.out⟩
      · intro w' hS
        refine OpTo.wanted ?_ ?_
        kernel_rfl
        have HS := Lib.hid hS
        clear hS
        go_wp2_with fail
        all_goals first | exact HS.out | exact ⟨rfl, HS.out⟩ | rfl | exact ⟨by omega, HS.out⟩
      · intro w' hS
        refine OpTo.passed (by kernel_rfl) rfl hS
      · intro w' hS
        refine OpTo.passed (by kernel_rfl) rfl hS
      · intro w' hS
        refine OpTo.passed (by kernel_rfl) rfl hS
      · intro w' hS
        refine OpTo.passed (by kernel_rfl) rfl hS
      · intro w' hS
        refine OpTo.passed (by kernel_rfl) rfl hS
      · intro w' hS
        refine OpTo.passed (by kernel_rfl) rfl hS
      · intro w' hS
        refine OpTo.passed (by kernel_rfl) rfl hS
      · intro w' hS
        refine OpTo.passed (by kernel_rfl) rfl hS
      · intro w' hS
        refine OpTo.passed (by kernel_rfl) rfl hS
      · intro w' hS
        refine OpTo.passed (by kernel_rfl) rfl hS
      · intro w' hS
        refine OpTo.passed (by kernel_rfl) rfl hS
      · intro w' hS
        refine OpTo.passed (by kernel_rfl) rfl hS
      · intro w' hS
        refine OpTo.passed (by kernel_rfl) rfl hS
      · intro w' hS
        refine OpTo.wanted ?_ ?_
        kernel_rfl
        have HS := Lib.hid hS
        clear hS
        go_wp2_with fail
        all_goals first | exact HS.out | exact ⟨rfl, HS.out⟩ | rfl | exact ⟨by omega, HS.out⟩
      · intro w' hS
        refine OpTo.plain ?_ ?_
        exact rfl
        have HS := Lib.hid hS
        clear hS
        go_wp2_with fail
        all_goals first | exact HS.out | exact ⟨rfl, HS.out⟩ | rfl | exact ⟨by omega, HS.out⟩
      · intro w' hS
        refine OpTo.plain ?_ ?_
        exact rfl
        have HS := Lib.hid hS
        clear hS
        go_wp2_with fail
        all_goals first | exact HS.out | exact ⟨rfl, HS.out⟩ | rfl | exact ⟨by omega, HS.out⟩
      · intro w' hS
        refine OpTo.wanted ?_ ?_
        kernel_rfl
        have HS := Lib.hid hS
        clear hS
        go_wp2_with fail
        refine (lives05_any w').mono ?_
        rintro e w'' ⟨rfl, hb2⟩
        exact ⟨rfl, andB HS.out hb2⟩
      · intro w' hS
        refine OpTo.plain ?_ ?_
        exact rfl
        have HS := Lib.hid hS
        clear hS
        go_wp2_with fail
        all_goals first | exact HS.out | exact ⟨rfl, HS.out⟩ | rfl | exact ⟨by omega, HS.out⟩
      · intro w' hS
        refine OpTo.plain ?_ ?_
        exact rfl
        have HS := Lib.hid hS
        clear hS
        go_wp2_with fail
        all_goals first | exact HS.out | exact ⟨rfl, HS.out⟩ | rfl | exact ⟨by omega, HS.out⟩
    intro w2 hS
    have B5 := Lib.hid (B4.out.trans (hS.mono (by omega)))
    clear hS
    go_wp2_with fail
    go_ret
    exact ⟨rfl, by rw [hX]; exact B5.out⟩
  by_cases h2 : f fr tt < am
  · have EE : gPushE f fr tt am = 11 ∧ gPushF f fr tt am = f := ⟨by unfold gPushE; rw [if_neg h1, if_pos h2], by unfold gPushF; rw [if_neg (by omega)]⟩
    rw [EE.1]
    rw [EE.2] at KG
    have CS := Lib.hid (fun w' (hS : Below W.heap.size W w') => gsame_any (IsG.of (KG.out.below hS KG.out.lt)) (IsG.of (KW.out.below hS KW.out.lt)))
    have CC := Lib.hid (fun w' (hS : Below W.heap.size W w') => gcap_b (KW.out.below hS KW.out.lt) HI.out.outF fr tt)
    rw [sameF_refl] at CS
    clear EE
    generalize f fr tt = u at *
    go_wp2_with fail
    refine region_still (by kernel_rfl) [(.pointer (some ⟨g, 0, none⟩)), (.pointer (some ⟨g2, 0, none⟩)), (.bool true), (.bool true), (.int .i64 11), (.bool false), (.bool false), undef, undef, undef, (.bool false), (.bool false), (.int .i64 11), (.bool true), (.bool true), (.pointer (some ⟨X, 2, none⟩)), (.int .i64 am), (.pointer (some ⟨g2, 0, none⟩)), (.pointer (some ⟨X, 0, none⟩)), (.int .u8 fr), (.pointer (some ⟨X, 1, none⟩)), (.int .u8 tt), (.int .i64 u), (.bool true), (.bool true), (.bool true), (.bool true), (.bool true), (.bool true), (.bool true), (.bool true)]
      (fun w' => Below W.heap.size W w') (by kernel_rfl) (Below.refl _ _).drew ?_
    intro af haf
    simp only [List.toList_toArray, List.append_eq, List.cons_append, List.nil_append, puts, Act.put, List.getD_cons_zero, List.getD_cons_succ, List.setIfInBounds_toArray, List.set_cons_succ, List.set_cons_zero] at haf
    subst haf
    refine ⟨?_, ?_⟩
    · simp only [List.toList_toArray, List.append_eq, List.cons_append, List.nil_append, EachTo]
      refine ⟨?_, ?_, ?_, ?_, ?_, ?_, ?_, ?_, ?_, ?_, ?_, ?_, ?_, ?_, ?_, ?_, ?_, ?_, ?_, ?_, ?_, ?_, ?_, ?_, ?_, ?_, ?_, ?_, ?_, ?_, ?_, trivial⟩
      · intro w' hS
        refine OpTo.plain ?_ ?_
        exact rfl
        have HS := Lib.hid hS
        clear hS
        go_wp2_with fail
        all_goals first | exact HS.out | exact ⟨rfl, HS.out⟩ | rfl | exact ⟨by omega, HS.out⟩
      · intro w' hS
        refine OpTo.plain ?_ ?_
        exact rfl
        have HS := Lib.hid hS
        clear hS
        go_wp2_with fail
        all_goals first | exact HS.out | exact ⟨rfl, HS.out⟩ | rfl | exact ⟨by omega, HS.out⟩
      · intro w' hS
        refine OpTo.plain ?_ ?_
        exact rfl
        have HS := Lib.hid hS
        clear hS
        go_wp2_with fail
        refine (CS.out w' HS.out).mono ?_
        rintro e w'' ⟨rfl, hb2⟩
        exact ⟨rfl, andB HS.out hb2⟩
      · intro w' hS
        refine OpTo.plain ?_ ?_
        exact rfl
        have HS := Lib.hid hS
        clear hS
        go_wp2_with fail
        all_goals first | exact HS.out | exact ⟨rfl, HS.out⟩ | rfl | exact ⟨by omega, HS.out⟩
      · intro w' hS
        refine OpTo.wanted ?_ ?_
        kernel_rfl
        have HS := Lib.hid hS
        clear hS
        go_wp2_with fail
        all_goals first | exact HS.out | exact ⟨rfl, HS.out⟩ | rfl | exact ⟨by omega, HS.out⟩
      · intro w' hS
        refine OpTo.wanted ?_ ?_
        kernel_rfl
        have HS := Lib.hid hS
        clear hS
        go_wp2_with fail
        all_goals first | exact HS.out | exact ⟨rfl, HS.out⟩ | rfl | exact ⟨by omega, HS.out⟩
      · intro w' hS
        refine OpTo.wanted ?_ ?_
        kernel_rfl
        have HS := Lib.hid hS
        clear hS
        go_wp2_with fail
        all_goals first | exact HS.out | exact ⟨rfl, HS.out⟩ | rfl | exact ⟨by omega, HS.out⟩
      · intro w' hS
        refine OpTo.passed (by kernel_rfl) rfl hS
      · intro w' hS
        refine OpTo.passed (by kernel_rfl) rfl hS
      · intro w' hS
        refine OpTo.passed (by kernel_rfl) rfl hS
      · intro w' hS
        refine OpTo.wanted ?_ ?_
        kernel_rfl
        have HS := Lib.hid hS
        clear hS
        go_wp2_with fail
        all_goals first | exact HS.out | exact ⟨rfl, HS.out⟩ | rfl | exact ⟨by omega, HS.out⟩
      · intro w' hS
        refine OpTo.wanted ?_ ?_
        kernel_rfl
        have HS := Lib.hid hS
        clear hS
        go_wp2_with fail
        all_goals first | exact HS.out | exact ⟨rfl, HS.out⟩ | rfl | exact ⟨by omega, HS.out⟩
      · intro w' hS
        refine OpTo.wanted ?_ ?_
        kernel_rfl
        have HS := Lib.hid hS
        clear hS
        go_wp2_with fail
        all_goals first | exact HS.out | exact ⟨rfl, HS.out⟩ | rfl | exact ⟨by omega, HS.out⟩
      · intro w' hS
        refine OpTo.wanted ?_ ?_
        kernel_rfl
        have HS := Lib.hid hS
        clear hS
        go_wp2_with fail
        all_goals first | exact HS.out | exact ⟨rfl, HS.out⟩ | rfl | exact ⟨by omega, HS.out⟩
      · intro w' hS
        refine OpTo.wanted ?_ ?_
        kernel_rfl
        have HS := Lib.hid hS
        clear hS
        go_wp2_with fail
        all_goals first | exact HS.out | exact ⟨rfl, HS.out⟩ | rfl | exact ⟨by omega, HS.out⟩
      · intro w' hS
        refine OpTo.wanted ?_ ?_
        kernel_rfl
        have kx := KX.out.below hS KX.out.lt
        have hl := kx.lt
        have e0 := kx.cell 0
        have e1 := kx.cell 1
        have e2 := kx.cell 2
        simp at e0 e1 e2
        have HS := Lib.hid hS
        clear hS
        go_wp2_with fail
        all_goals first | exact HS.out | exact ⟨rfl, HS.out⟩ | rfl | exact ⟨by omega, HS.out⟩
      · intro w' hS
        refine OpTo.wanted ?_ ?_
        kernel_rfl
        have kx := KX.out.below hS KX.out.lt
        have hl := kx.lt
        have e0 := kx.cell 0
        have e1 := kx.cell 1
        have e2 := kx.cell 2
        simp at e0 e1 e2
        have HS := Lib.hid hS
        clear hS
        go_wp2_with fail
        all_goals first | exact HS.out | exact ⟨rfl, HS.out⟩ | rfl | exact ⟨by omega, HS.out⟩
      · intro w' hS
        refine OpTo.wanted ?_ ?_
        kernel_rfl
        have HS := Lib.hid hS
        clear hS
        go_wp2_with fail
        all_goals first | exact HS.out | exact ⟨rfl, HS.out⟩ | rfl | exact ⟨by omega, HS.out⟩
      · intro w' hS
        refine OpTo.wanted ?_ ?_
        kernel_rfl
        have kx := KX.out.below hS KX.out.lt
        have hl := kx.lt
        have e0 := kx.cell 0
        have e1 := kx.cell 1
        have e2 := kx.cell 2
        simp at e0 e1 e2
        have HS := Lib.hid hS
        clear hS
        go_wp2_with fail
        all_goals first | exact HS.out | exact ⟨rfl, HS.out⟩ | rfl | exact ⟨by omega, HS.out⟩
      · intro w' hS
        refine OpTo.wanted ?_ ?_
        kernel_rfl
        have kx := KX.out.below hS KX.out.lt
        have hl := kx.lt
        have e0 := kx.cell 0
        have e1 := kx.cell 1
        have e2 := kx.cell 2
        simp at e0 e1 e2
        have HS := Lib.hid hS
        clear hS
        go_wp2_with fail
        all_goals first | exact HS.out | exact ⟨rfl, HS.out⟩ | rfl | exact ⟨by omega, HS.out⟩
      · intro w' hS
        refine OpTo.wanted ?_ ?_
        kernel_rfl
        have kx := KX.out.below hS KX.out.lt
        have hl := kx.lt
        have e0 := kx.cell 0
        have e1 := kx.cell 1
        have e2 := kx.cell 2
        simp at e0 e1 e2
        have HS := Lib.hid hS
        clear hS
        go_wp2_with fail
        all_goals first | exact HS.out | exact ⟨rfl, HS.out⟩ | rfl | exact ⟨by omega, HS.out⟩
      · intro w' hS
        refine OpTo.wanted ?_ ?_
        kernel_rfl
        have kx := KX.out.below hS KX.out.lt
        have hl := kx.lt
        have e0 := kx.cell 0
        have e1 := kx.cell 1
        have e2 := kx.cell 2
        simp at e0 e1 e2
        have HS := Lib.hid hS
        clear hS
        go_wp2_with fail
        all_goals first | exact HS.out | exact ⟨rfl, HS.out⟩ | rfl | exact ⟨by omega, HS.out⟩
      · intro w' hS
        refine OpTo.wanted ?_ ?_
        kernel_rfl
        have HS := Lib.hid hS
        clear hS
        go_wp2_with fail
        refine (CC.out w' HS.out).mono ?_
        rintro e w'' ⟨rfl, hb2⟩
        exact ⟨rfl, andB HS.out hb2⟩
      · intro w' hS
        refine OpTo.wanted ?_ ?_
        kernel_rfl
        have HS := Lib.hid hS
        clear hS
        go_wp2_with fail
        all_goals first | exact HS.out | exact ⟨rfl, HS.out⟩ | rfl | exact ⟨by omega, HS.out⟩
      · intro w' hS
        refine OpTo.wanted ?_ ?_
        kernel_rfl
        have HS := Lib.hid hS
        clear hS
        go_wp2_with fail
        all_goals first | exact HS.out | exact ⟨rfl, HS.out⟩ | rfl | exact ⟨by omega, HS.out⟩
      · intro w' hS
        refine OpTo.wanted ?_ ?_
        kernel_rfl
        have HS := Lib.hid hS
        clear hS
        go_wp2_with fail
        all_goals first | exact HS.out | exact ⟨rfl, HS.out⟩ | rfl | exact ⟨by omega, HS.out⟩
      · intro w' hS
        refine OpTo.plain ?_ ?_
        exact rfl
        have HS := Lib.hid hS
        clear hS
        go_wp2_with fail
        all_goals first | exact HS.out | exact ⟨rfl, HS.out⟩ | rfl | exact ⟨by omega, HS.out⟩
      · intro w' hS
        refine OpTo.plain ?_ ?_
        exact rfl
        have HS := Lib.hid hS
        clear hS
        go_wp2_with fail
        all_goals first | exact HS.out | exact ⟨rfl, HS.out⟩ | rfl | exact ⟨by omega, HS.out⟩
      · intro w' hS
        refine OpTo.wanted ?_ ?_
        kernel_rfl
        have HS := Lib.hid hS
        clear hS
        go_wp2_with fail
        refine (lives05_any w').mono ?_
        rintro e w'' ⟨rfl, hb2⟩
        exact ⟨rfl, andB HS.out hb2⟩
      · intro w' hS
        refine OpTo.plain ?_ ?_
        exact rfl
        have HS := Lib.hid hS
        clear hS
        go_wp2_with fail
        all_goals first | exact HS.out | exact ⟨rfl, HS.out⟩ | rfl | exact ⟨by omega, HS.out⟩
      · intro w' hS
        refine OpTo.plain ?_ ?_
        exact rfl
        have HS := Lib.hid hS
        clear hS
        go_wp2_with fail
        all_goals first | exact HS.out | exact ⟨rfl, HS.out⟩ | rfl | exact ⟨by omega, HS.out⟩
    intro w2 hS
    have B5 := Lib.hid (B4.out.trans (hS.mono (by omega)))
    clear hS
    go_wp2_with fail
    go_ret
    exact ⟨rfl, by rw [hX]; exact B5.out⟩
  have EE : gPushE f fr tt am = 0 ∧ gPushF f fr tt am = pushF f fr tt am := ⟨by unfold gPushE; rw [if_neg h1, if_neg h2], by unfold gPushF; rw [if_pos (by omega)]⟩
  obtain ⟨_, _, hne⟩ := HI.out.ends (p := fr) (q := tt) (by omega)
  have HNE := Lib.hid hne
  have HLE := Lib.hid (show am ≤ f fr tt by omega)
  have am2 : am ≤ 4398046511104 := by have := HI.out.le fr tt; omega
  rw [EE.1]
  rw [EE.2] at KG HI2
  clear EE hne h2
  go_wp2_with fail
  go_loopw [10] (PairAt W) (fun i _ => 18 - (intOf i).toNat)
  case atStart => exact ⟨0, by omega, rfl, rfl⟩
  case round =>
    obtain ⟨p, hp, rfl, rfl⟩ := hrel
    by_cases hp2 : p < 18
    · have hpi : (p : Int) < 18 := by omega
      go_wp2_with fail
      go_loopw [11] (PairAt W) (fun i _ => 18 - (intOf i).toNat)
      case atStart => exact ⟨0, by omega, rfl, rfl⟩
      case round =>
        obtain ⟨q, hq, rfl, rfl⟩ := hrel
        by_cases hq2 : q < 18
        · have hqi : (q : Int) < 18 := by omega
          have lx := KX.out.lt
          have e0 := KX.out.cell 0; have e1 := KX.out.cell 1; have e2 := KX.out.cell 2
          simp at e0 e1 e2
          have CA := Lib.hid (gcap_any KG.out HI2.out.outF (p : Int) (q : Int))
          have CB := Lib.hid (gcap_any KW.out HI.out.outF (p : Int) (q : Int))
          by_cases c1 : (p : Int) = fr
          · have q1 : ((p : Int) == fr) = true := by simp [c1]
            have q2 : ((p : Int) == tt) = false := by rw [c1]; simpa using HNE.out
            by_cases c2 : (q : Int) = tt
            · have q3 : ((q : Int) == tt) = true := by simp [c2]
              have HC := Lib.hid (And.intro c1 c2)
              clear c1 c2
              obtain ⟨y, hy⟩ : ∃ y, pushF f fr tt am (p : Int) (q : Int) = y := ⟨_, rfl⟩
              obtain ⟨z, hz⟩ : ∃ z, f (p : Int) (q : Int) = z := ⟨_, rfl⟩
              have hE : y - z = -am := by rw [← hy, ← hz]; unfold pushF; rw [if_neg (fun e => HNE.out (HC.out.1.symm.trans e.1)), if_pos HC.out, HC.out.1, HC.out.2]; omega
              have y0 : 0 ≤ y ∧ y ≤ 4398046511104 := by rw [← hy]; exact ⟨HI2.out.nn _ _, HI2.out.le _ _⟩
              have z0 : 0 ≤ z ∧ z ≤ 4398046511104 := by rw [← hz]; exact ⟨HI.out.nn _ _, HI.out.le _ _⟩
              obtain ⟨y1, y2⟩ := y0
              obtain ⟨z1, z2⟩ := z0
              have hyn : decide (y < 0) = false := by simp; omega
              rw [hy] at CA
              rw [hz] at CB
              clear hy hz
              go_wp2_with fail
              refine CA.out.mono ?_
              rintro e W ⟨rfl, rfl⟩
              go_wp2_with fail
              refine CB.out.mono ?_
              rintro e W ⟨rfl, rfl⟩
              go_wp2_with fail
              refine CA.out.mono ?_
              rintro e W ⟨rfl, rfl⟩
              go_wp2_with fail
              go_roundw
              case rel => exact ⟨q + 1, by omega, by go_num, rfl⟩
              case measure => simp [intOf]; omega
            · have q3 : ((q : Int) == tt) = false := by simp [c2]
              have HC := Lib.hid (And.intro c1 c2)
              clear c1 c2
              obtain ⟨y, hy⟩ : ∃ y, pushF f fr tt am (p : Int) (q : Int) = y := ⟨_, rfl⟩
              obtain ⟨z, hz⟩ : ∃ z, f (p : Int) (q : Int) = z := ⟨_, rfl⟩
              have hE : y - z = 0 := by rw [← hy, ← hz]; unfold pushF; rw [if_neg (fun e => HNE.out (HC.out.1.symm.trans e.1)), if_neg (fun e => HC.out.2 e.2)]; omega
              have y0 : 0 ≤ y ∧ y ≤ 4398046511104 := by rw [← hy]; exact ⟨HI2.out.nn _ _, HI2.out.le _ _⟩
              have z0 : 0 ≤ z ∧ z ≤ 4398046511104 := by rw [← hz]; exact ⟨HI.out.nn _ _, HI.out.le _ _⟩
              obtain ⟨y1, y2⟩ := y0
              obtain ⟨z1, z2⟩ := z0
              have hyn : decide (y < 0) = false := by simp; omega
              rw [hy] at CA
              rw [hz] at CB
              clear hy hz
              go_wp2_with fail
              refine CA.out.mono ?_
              rintro e W ⟨rfl, rfl⟩
              go_wp2_with fail
              refine CB.out.mono ?_
              rintro e W ⟨rfl, rfl⟩
              go_wp2_with fail
              refine CA.out.mono ?_
              rintro e W ⟨rfl, rfl⟩
              go_wp2_with fail
              go_roundw
              case rel => exact ⟨q + 1, by omega, by go_num, rfl⟩
              case measure => simp [intOf]; omega
          · have q1 : ((p : Int) == fr) = false := by simp [c1]
            by_cases c2 : (p : Int) = tt
            · have q2 : ((p : Int) == tt) = true := by simp [c2]
              by_cases c3 : (q : Int) = fr
              · have q3 : ((q : Int) == fr) = true := by simp [c3]
                have HC := Lib.hid (And.intro c1 (And.intro c2 c3))
                clear c1 c2 c3
                obtain ⟨y, hy⟩ : ∃ y, pushF f fr tt am (p : Int) (q : Int) = y := ⟨_, rfl⟩
                obtain ⟨z, hz⟩ : ∃ z, f (p : Int) (q : Int) = z := ⟨_, rfl⟩
                have hE : y - z = am := by rw [← hy, ← hz]; unfold pushF; rw [if_pos HC.out.2, HC.out.2.1, HC.out.2.2]; omega
                have y0 : 0 ≤ y ∧ y ≤ 4398046511104 := by rw [← hy]; exact ⟨HI2.out.nn _ _, HI2.out.le _ _⟩
                have z0 : 0 ≤ z ∧ z ≤ 4398046511104 := by rw [← hz]; exact ⟨HI.out.nn _ _, HI.out.le _ _⟩
                obtain ⟨y1, y2⟩ := y0
                obtain ⟨z1, z2⟩ := z0
                have hyn : decide (y < 0) = false := by simp; omega
                rw [hy] at CA
                rw [hz] at CB
                clear hy hz
                go_wp2_with fail
                refine CA.out.mono ?_
                rintro e W ⟨rfl, rfl⟩
                go_wp2_with fail
                refine CB.out.mono ?_
                rintro e W ⟨rfl, rfl⟩
                go_wp2_with fail
                refine CA.out.mono ?_
                rintro e W ⟨rfl, rfl⟩
                go_wp2_with fail
                go_roundw
                case rel => exact ⟨q + 1, by omega, by go_num, rfl⟩
                case measure => simp [intOf]; omega
              · have q3 : ((q : Int) == fr) = false := by simp [c3]
                have HC := Lib.hid (And.intro c1 (And.intro c2 c3))
                clear c1 c2 c3
                obtain ⟨y, hy⟩ : ∃ y, pushF f fr tt am (p : Int) (q : Int) = y := ⟨_, rfl⟩
                obtain ⟨z, hz⟩ : ∃ z, f (p : Int) (q : Int) = z := ⟨_, rfl⟩
                have hE : y - z = 0 := by rw [← hy, ← hz]; unfold pushF; rw [if_neg (fun e => HC.out.2.2 e.2), if_neg (fun e => HC.out.1 e.1)]; omega
                have y0 : 0 ≤ y ∧ y ≤ 4398046511104 := by rw [← hy]; exact ⟨HI2.out.nn _ _, HI2.out.le _ _⟩
                have z0 : 0 ≤ z ∧ z ≤ 4398046511104 := by rw [← hz]; exact ⟨HI.out.nn _ _, HI.out.le _ _⟩
                obtain ⟨y1, y2⟩ := y0
                obtain ⟨z1, z2⟩ := z0
                have hyn : decide (y < 0) = false := by simp; omega
                rw [hy] at CA
                rw [hz] at CB
                clear hy hz
                go_wp2_with fail
                refine CA.out.mono ?_
                rintro e W ⟨rfl, rfl⟩
                go_wp2_with fail
                refine CB.out.mono ?_
                rintro e W ⟨rfl, rfl⟩
                go_wp2_with fail
                refine CA.out.mono ?_
                rintro e W ⟨rfl, rfl⟩
                go_wp2_with fail
                go_roundw
                case rel => exact ⟨q + 1, by omega, by go_num, rfl⟩
                case measure => simp [intOf]; omega
            · have q2 : ((p : Int) == tt) = false := by simp [c2]
              have HC := Lib.hid (And.intro c1 c2)
              clear c1 c2
              obtain ⟨y, hy⟩ : ∃ y, pushF f fr tt am (p : Int) (q : Int) = y := ⟨_, rfl⟩
              obtain ⟨z, hz⟩ : ∃ z, f (p : Int) (q : Int) = z := ⟨_, rfl⟩
              have hE : y - z = 0 := by rw [← hy, ← hz]; unfold pushF; rw [if_neg (fun e => HC.out.2 e.1), if_neg (fun e => HC.out.1 e.1)]; omega
              have y0 : 0 ≤ y ∧ y ≤ 4398046511104 := by rw [← hy]; exact ⟨HI2.out.nn _ _, HI2.out.le _ _⟩
              have z0 : 0 ≤ z ∧ z ≤ 4398046511104 := by rw [← hz]; exact ⟨HI.out.nn _ _, HI.out.le _ _⟩
              obtain ⟨y1, y2⟩ := y0
              obtain ⟨z1, z2⟩ := z0
              have hyn : decide (y < 0) = false := by simp; omega
              rw [hy] at CA
              rw [hz] at CB
              clear hy hz
              go_wp2_with fail
              refine CA.out.mono ?_
              rintro e W ⟨rfl, rfl⟩
              go_wp2_with fail
              refine CB.out.mono ?_
              rintro e W ⟨rfl, rfl⟩
              go_wp2_with fail
              refine CA.out.mono ?_
              rintro e W ⟨rfl, rfl⟩
              go_wp2_with fail
              go_roundw
              case rel => exact ⟨q + 1, by omega, by go_num, rfl⟩
              case measure => simp [intOf]; omega
        · have hq18 : q = 18 := by omega
          subst hq18
          go_wp2_with fail
          go_roundw
          case rel => exact ⟨p + 1, by omega, by go_num, rfl⟩
          case measure => simp [intOf]; omega
    · have hp18 : p = 18 := by omega
      subst hp18
      have D1 := Lib.hid (fun w' (hS : Below W.heap.size W w') => gcap_b (KG.out.below hS KG.out.lt) HI2.out.outF fr tt)
      have D2 := Lib.hid (fun w' (hS : Below W.heap.size W w') => gcap_b (KG.out.below hS KG.out.lt) HI2.out.outF tt fr)
      have D3 := Lib.hid (fun w' (hS : Below W.heap.size W w') => gcap_b (KW.out.below hS KW.out.lt) HI.out.outF fr tt)
      have D4 := Lib.hid (fun w' (hS : Below W.heap.size W w') => gcap_b (KW.out.below hS KW.out.lt) HI.out.outF tt fr)
      have hs : pushF f fr tt am fr tt + pushF f fr tt am tt fr = f fr tt + f tt fr := by
        have x1 : pushF f fr tt am fr tt = f fr tt - am := by unfold pushF; rw [if_neg (fun e => HNE.out e.1), if_pos ⟨rfl, rfl⟩]
        have x2 : pushF f fr tt am tt fr = f tt fr + am := by unfold pushF; rw [if_pos ⟨rfl, rfl⟩]
        rw [x1, x2]
        omega
      have t1 := HI.out.pair fr tt
      have t2 := HI.out.nn fr tt
      have t3 := HI.out.nn tt fr
      generalize pushF f fr tt am fr tt = s1 at *
      generalize pushF f fr tt am tt fr = s2 at *
      generalize f fr tt = s3 at *
      generalize f tt fr = s4 at *
      go_wp2_with fail
      refine region_still (by kernel_rfl) [(.pointer (some ⟨g, 0, none⟩)), (.pointer (some ⟨X, 0, none⟩)), (.int .u8 fr), (.pointer (some ⟨X, 1, none⟩)), (.int .u8 tt), (.int .i64 s1), (.pointer (some ⟨g, 0, none⟩)), (.pointer (some ⟨X, 1, none⟩)), (.int .u8 tt), (.pointer (some ⟨X, 0, none⟩)), (.int .u8 fr), (.int .i64 s2), (.int .i64 (s3 + s4)), (.pointer (some ⟨g2, 0, none⟩)), (.pointer (some ⟨X, 0, none⟩)), (.int .u8 fr), (.pointer (some ⟨X, 1, none⟩)), (.int .u8 tt), (.int .i64 s3), (.pointer (some ⟨g2, 0, none⟩)), (.pointer (some ⟨X, 1, none⟩)), (.int .u8 tt), (.pointer (some ⟨X, 0, none⟩)), (.int .u8 fr), (.int .i64 s4), (.int .i64 (s3 + s4)), (.bool true), (.bool true), (.bool true), (.bool true), (.bool true)]
        (fun w' => Below W.heap.size W w') (by kernel_rfl) (Below.refl _ _).drew ?_
      intro af haf
      simp only [List.toList_toArray, List.append_eq, List.cons_append, List.nil_append, puts, Act.put, List.getD_cons_zero, List.getD_cons_succ, List.setIfInBounds_toArray, List.set_cons_succ, List.set_cons_zero] at haf
      subst haf
      refine ⟨?_, ?_⟩
      · simp only [List.toList_toArray, List.append_eq, List.cons_append, List.nil_append, EachTo]
        refine ⟨?_, ?_, ?_, ?_, ?_, ?_, ?_, ?_, ?_, ?_, ?_, ?_, ?_, ?_, ?_, ?_, ?_, ?_, ?_, ?_, ?_, ?_, ?_, ?_, ?_, ?_, ?_, ?_, ?_, ?_, ?_, trivial⟩
        · intro w' hS
          refine OpTo.plain ?_ ?_
          exact rfl
          have HS := Lib.hid hS
          clear hS
          go_wp2_with fail
          all_goals first | exact HS.out | exact ⟨rfl, HS.out⟩ | rfl | exact ⟨by omega, HS.out⟩
        · intro w' hS
          refine OpTo.plain ?_ ?_
          exact rfl
          have kx := KX.out.below hS KX.out.lt
          have hl := kx.lt
          have e0 := kx.cell 0
          have e1 := kx.cell 1
          have e2 := kx.cell 2
          simp at e0 e1 e2
          have HS := Lib.hid hS
          clear hS
          go_wp2_with fail
          all_goals first | exact HS.out | exact ⟨rfl, HS.out⟩ | rfl | exact ⟨by omega, HS.out⟩
        · intro w' hS
          refine OpTo.plain ?_ ?_
          exact rfl
          have kx := KX.out.below hS KX.out.lt
          have hl := kx.lt
          have e0 := kx.cell 0
          have e1 := kx.cell 1
          have e2 := kx.cell 2
          simp at e0 e1 e2
          have HS := Lib.hid hS
          clear hS
          go_wp2_with fail
          all_goals first | exact HS.out | exact ⟨rfl, HS.out⟩ | rfl | exact ⟨by omega, HS.out⟩
        · intro w' hS
          refine OpTo.plain ?_ ?_
          exact rfl
          have kx := KX.out.below hS KX.out.lt
          have hl := kx.lt
          have e0 := kx.cell 0
          have e1 := kx.cell 1
          have e2 := kx.cell 2
          simp at e0 e1 e2
          have HS := Lib.hid hS
          clear hS
          go_wp2_with fail
          all_goals first | exact HS.out | exact ⟨rfl, HS.out⟩ | rfl | exact ⟨by omega, HS.out⟩
        · intro w' hS
          refine OpTo.plain ?_ ?_
          exact rfl
          have kx := KX.out.below hS KX.out.lt
          have hl := kx.lt
          have e0 := kx.cell 0
          have e1 := kx.cell 1
          have e2 := kx.cell 2
          simp at e0 e1 e2
          have HS := Lib.hid hS
          clear hS
          go_wp2_with fail
          all_goals first | exact HS.out | exact ⟨rfl, HS.out⟩ | rfl | exact ⟨by omega, HS.out⟩
        · intro w' hS
          refine OpTo.plain ?_ ?_
          exact rfl
          have HS := Lib.hid hS
          clear hS
          go_wp2_with fail
          refine (D1.out w' HS.out).mono ?_
          rintro e w'' ⟨rfl, hb2⟩
          exact ⟨rfl, andB HS.out hb2⟩
        · intro w' hS
          refine OpTo.plain ?_ ?_
          exact rfl
          have HS := Lib.hid hS
          clear hS
          go_wp2_with fail
          all_goals first | exact HS.out | exact ⟨rfl, HS.out⟩ | rfl | exact ⟨by omega, HS.out⟩
        · intro w' hS
          refine OpTo.plain ?_ ?_
          exact rfl
          have kx := KX.out.below hS KX.out.lt
          have hl := kx.lt
          have e0 := kx.cell 0
          have e1 := kx.cell 1
          have e2 := kx.cell 2
          simp at e0 e1 e2
          have HS := Lib.hid hS
          clear hS
          go_wp2_with fail
          all_goals first | exact HS.out | exact ⟨rfl, HS.out⟩ | rfl | exact ⟨by omega, HS.out⟩
        · intro w' hS
          refine OpTo.plain ?_ ?_
          exact rfl
          have kx := KX.out.below hS KX.out.lt
          have hl := kx.lt
          have e0 := kx.cell 0
          have e1 := kx.cell 1
          have e2 := kx.cell 2
          simp at e0 e1 e2
          have HS := Lib.hid hS
          clear hS
          go_wp2_with fail
          all_goals first | exact HS.out | exact ⟨rfl, HS.out⟩ | rfl | exact ⟨by omega, HS.out⟩
        · intro w' hS
          refine OpTo.plain ?_ ?_
          exact rfl
          have kx := KX.out.below hS KX.out.lt
          have hl := kx.lt
          have e0 := kx.cell 0
          have e1 := kx.cell 1
          have e2 := kx.cell 2
          simp at e0 e1 e2
          have HS := Lib.hid hS
          clear hS
          go_wp2_with fail
          all_goals first | exact HS.out | exact ⟨rfl, HS.out⟩ | rfl | exact ⟨by omega, HS.out⟩
        · intro w' hS
          refine OpTo.plain ?_ ?_
          exact rfl
          have kx := KX.out.below hS KX.out.lt
          have hl := kx.lt
          have e0 := kx.cell 0
          have e1 := kx.cell 1
          have e2 := kx.cell 2
          simp at e0 e1 e2
          have HS := Lib.hid hS
          clear hS
          go_wp2_with fail
          all_goals first | exact HS.out | exact ⟨rfl, HS.out⟩ | rfl | exact ⟨by omega, HS.out⟩
        · intro w' hS
          refine OpTo.plain ?_ ?_
          exact rfl
          have HS := Lib.hid hS
          clear hS
          go_wp2_with fail
          refine (D2.out w' HS.out).mono ?_
          rintro e w'' ⟨rfl, hb2⟩
          exact ⟨rfl, andB HS.out hb2⟩
        · intro w' hS
          refine OpTo.plain ?_ ?_
          exact rfl
          have HS := Lib.hid hS
          clear hS
          go_wp2_with fail
          all_goals first | exact HS.out | exact ⟨rfl, HS.out⟩ | rfl | exact ⟨by omega, HS.out⟩
        · intro w' hS
          refine OpTo.plain ?_ ?_
          exact rfl
          have HS := Lib.hid hS
          clear hS
          go_wp2_with fail
          all_goals first | exact HS.out | exact ⟨rfl, HS.out⟩ | rfl | exact ⟨by omega, HS.out⟩
        · intro w' hS
          refine OpTo.plain ?_ ?_
          exact rfl
          have kx := KX.out.below hS KX.out.lt
          have hl := kx.lt
          have e0 := kx.cell 0
          have e1 := kx.cell 1
          have e2 := kx.cell 2
          simp at e0 e1 e2
          have HS := Lib.hid hS
          clear hS
          go_wp2_with fail
          all_goals first | exact HS.out | exact ⟨rfl, HS.out⟩ | rfl | exact ⟨by omega, HS.out⟩
        · intro w' hS
          refine OpTo.plain ?_ ?_
          exact rfl
          have kx := KX.out.below hS KX.out.lt
          have hl := kx.lt
          have e0 := kx.cell 0
          have e1 := kx.cell 1
          have e2 := kx.cell 2
          simp at e0 e1 e2
          have HS := Lib.hid hS
          clear hS
          go_wp2_with fail
          all_goals first | exact HS.out | exact ⟨rfl, HS.out⟩ | rfl | exact ⟨by omega, HS.out⟩
        · intro w' hS
          refine OpTo.plain ?_ ?_
          exact rfl
          have kx := KX.out.below hS KX.out.lt
          have hl := kx.lt
          have e0 := kx.cell 0
          have e1 := kx.cell 1
          have e2 := kx.cell 2
          simp at e0 e1 e2
          have HS := Lib.hid hS
          clear hS
          go_wp2_with fail
          all_goals first | exact HS.out | exact ⟨rfl, HS.out⟩ | rfl | exact ⟨by omega, HS.out⟩
        · intro w' hS
          refine OpTo.plain ?_ ?_
          exact rfl
          have kx := KX.out.below hS KX.out.lt
          have hl := kx.lt
          have e0 := kx.cell 0
          have e1 := kx.cell 1
          have e2 := kx.cell 2
          simp at e0 e1 e2
          have HS := Lib.hid hS
          clear hS
          go_wp2_with fail
          all_goals first | exact HS.out | exact ⟨rfl, HS.out⟩ | rfl | exact ⟨by omega, HS.out⟩
        · intro w' hS
          refine OpTo.plain ?_ ?_
          exact rfl
          have HS := Lib.hid hS
          clear hS
          go_wp2_with fail
          refine (D3.out w' HS.out).mono ?_
          rintro e w'' ⟨rfl, hb2⟩
          exact ⟨rfl, andB HS.out hb2⟩
        · intro w' hS
          refine OpTo.plain ?_ ?_
          exact rfl
          have HS := Lib.hid hS
          clear hS
          go_wp2_with fail
          all_goals first | exact HS.out | exact ⟨rfl, HS.out⟩ | rfl | exact ⟨by omega, HS.out⟩
        · intro w' hS
          refine OpTo.plain ?_ ?_
          exact rfl
          have kx := KX.out.below hS KX.out.lt
          have hl := kx.lt
          have e0 := kx.cell 0
          have e1 := kx.cell 1
          have e2 := kx.cell 2
          simp at e0 e1 e2
          have HS := Lib.hid hS
          clear hS
          go_wp2_with fail
          all_goals first | exact HS.out | exact ⟨rfl, HS.out⟩ | rfl | exact ⟨by omega, HS.out⟩
        · intro w' hS
          refine OpTo.plain ?_ ?_
          exact rfl
          have kx := KX.out.below hS KX.out.lt
          have hl := kx.lt
          have e0 := kx.cell 0
          have e1 := kx.cell 1
          have e2 := kx.cell 2
          simp at e0 e1 e2
          have HS := Lib.hid hS
          clear hS
          go_wp2_with fail
          all_goals first | exact HS.out | exact ⟨rfl, HS.out⟩ | rfl | exact ⟨by omega, HS.out⟩
        · intro w' hS
          refine OpTo.plain ?_ ?_
          exact rfl
          have kx := KX.out.below hS KX.out.lt
          have hl := kx.lt
          have e0 := kx.cell 0
          have e1 := kx.cell 1
          have e2 := kx.cell 2
          simp at e0 e1 e2
          have HS := Lib.hid hS
          clear hS
          go_wp2_with fail
          all_goals first | exact HS.out | exact ⟨rfl, HS.out⟩ | rfl | exact ⟨by omega, HS.out⟩
        · intro w' hS
          refine OpTo.plain ?_ ?_
          exact rfl
          have kx := KX.out.below hS KX.out.lt
          have hl := kx.lt
          have e0 := kx.cell 0
          have e1 := kx.cell 1
          have e2 := kx.cell 2
          simp at e0 e1 e2
          have HS := Lib.hid hS
          clear hS
          go_wp2_with fail
          all_goals first | exact HS.out | exact ⟨rfl, HS.out⟩ | rfl | exact ⟨by omega, HS.out⟩
        · intro w' hS
          refine OpTo.plain ?_ ?_
          exact rfl
          have HS := Lib.hid hS
          clear hS
          go_wp2_with fail
          refine (D4.out w' HS.out).mono ?_
          rintro e w'' ⟨rfl, hb2⟩
          exact ⟨rfl, andB HS.out hb2⟩
        · intro w' hS
          refine OpTo.plain ?_ ?_
          exact rfl
          have HS := Lib.hid hS
          clear hS
          go_wp2_with fail
          all_goals first | exact HS.out | exact ⟨rfl, HS.out⟩ | rfl | exact ⟨by omega, HS.out⟩
        · intro w' hS
          refine OpTo.plain ?_ ?_
          exact rfl
          have HS := Lib.hid hS
          clear hS
          go_wp2_with fail
          all_goals first | exact HS.out | exact ⟨rfl, HS.out⟩ | rfl | exact ⟨by omega, HS.out⟩
        · intro w' hS
          refine OpTo.plain ?_ ?_
          exact rfl
          have HS := Lib.hid hS
          clear hS
          go_wp2_with fail
          all_goals first | exact HS.out | exact ⟨rfl, HS.out⟩ | rfl | exact ⟨by omega, HS.out⟩
        · intro w' hS
          refine OpTo.wanted ?_ ?_
          kernel_rfl
          have HS := Lib.hid hS
          clear hS
          go_wp2_with fail
          refine (lives05_any w').mono ?_
          rintro e w'' ⟨rfl, hb2⟩
          exact ⟨rfl, andB HS.out hb2⟩
        · intro w' hS
          refine OpTo.plain ?_ ?_
          exact rfl
          have HS := Lib.hid hS
          clear hS
          go_wp2_with fail
          all_goals first | exact HS.out | exact ⟨rfl, HS.out⟩ | rfl | exact ⟨by omega, HS.out⟩
        · intro w' hS
          refine OpTo.plain ?_ ?_
          exact rfl
          have HS := Lib.hid hS
          clear hS
          go_wp2_with fail
          all_goals first | exact HS.out | exact ⟨rfl, HS.out⟩ | rfl | exact ⟨by omega, HS.out⟩
      intro w2 hS
      have B5 := Lib.hid (B4.out.trans (hS.mono (by omega)))
      clear hS
      go_wp2_with fail
      go_ret
      exact ⟨rfl, by rw [hX]; exact B5.out⟩

end Go.Proofs.Ytdpkcamhafkkbaa
