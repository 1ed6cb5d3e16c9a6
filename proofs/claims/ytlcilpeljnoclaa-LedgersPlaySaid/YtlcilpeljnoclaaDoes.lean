/-
  law03's Does.
-/
import Derived.Test.YtlcilpeljnoclaaDoesR
namespace Go.Proofs.Ytlcilpeljnoclaa
open Go.RowKit
set_option linter.unusedSimpArgs false
set_option linter.unusedVariables false

/-- What an act leaves, that both ledgers did. -/
def DoesPost (w : World) (G M base r : Nat) (e : Ending) (w' : World) : Prop :=
  e = .returned (.bool true) ∧ Keep (Trio G M r) w w' ∧ ∃ ps' ls' vp' vl', LedM w' G M ps' ls' ∧ LInv ps' ls' ∧ RefL w' base r ps' ls' vp' vl'
set_option maxHeartbeats 8000000 in
set_option maxRecDepth 100000 in
theorem does_any {w : World} {G M base r : Nat} {ps : List Int} {ls : List Ln} {vp vl : Value} {x : Ac} (hL : LedM w G M ps ls) (hI : LInv ps ls) (hR : RefL w base r ps ls vp vl) (hx : x.Ok) :
    Calls Try.prog 14 #[.pointer (some ⟨G, 0, none⟩), .pointer (some ⟨r, 0, none⟩), .agg #[.int .u8 x.k, .int .u8 x.a, .int .u8 x.b, .int .u8 x.c, .int .i64 x.n]] w (DoesPost w G M base r) := by
  have bw := (Below.refl w.heap.size w).alloc (Nat.le_refl _) (.cells #[.int .u8 x.k, .int .u8 x.a, .int .u8 x.b, .int .u8 x.c, .int .i64 x.n] 31)
  have HI := Lib.hid hI
  have HX := Lib.hid hx
  have HL := Lib.hid (hL.below bw)
  have HR := Lib.hid (hR.below bw)
  have KX := Lib.hid (Blk.new w #[.int .u8 x.k, .int .u8 x.a, .int .u8 x.b, .int .u8 x.c, .int .i64 x.n] 31)
  have K0 := Lib.hid (Keep.of_below (S := Trio G M r) bw)
  obtain ⟨k1, k2⟩ := hx.k
  clear bw hL hI hR
  have hs : x.k % 8 = 0 ∨ x.k % 8 = 1 ∨ x.k % 8 = 2 ∨ x.k % 8 = 3 ∨ x.k % 8 = 4 ∨ x.k % 8 = 5 ∨ x.k % 8 = 6 ∨ x.k % 8 = 7 := by omega
  rcases hs with hj | hj | hj | hj | hj | hj | hj | hj
  · have q1 : x.k % 8 = 0 := hj
    have q2 : x.k.tmod 8 = 0 := by rw [Int.tmod_eq_emod_of_nonneg hx.k.1]; exact hj
    clear hj
    have C1 : Hid (∀ w', LedM w' G M ps ls → Calls Try.prog 37 #[.pointer (some ⟨G, 0, none⟩), .int .u8 x.a] w' fun e w'' => e = .returned (.int .i64 (openE ps x.a)) ∧ LedM w'' G M (openP ps x.a) (ls) ∧ Keep (fun b => b = G ∨ b = M) w' w'') := Lib.hid fun w' h => by
      refine (open_any h HI.out.bd x.a).mono ?_
      rintro e w'' ⟨h1, h2, h3⟩
      exact ⟨h1, h2, h3.mono fun b _ hb => .inl hb⟩
    have C2 : Hid (∀ w' vp vl, RefL w' base r ps ls vp vl → Calls Try.prog 46 #[.pointer (some ⟨r, 0, none⟩), .int .u8 x.a] w' fun e w'' => e = .returned (.int .i64 (openE ps x.a)) ∧ (∃ vp vl, RefL w'' base r (openP ps x.a) (ls) vp vl) ∧ Keep (· = r) w' w'') := Lib.hid fun w' vp vl h => by
      refine (ropen_any h x.a).mono ?_
      rintro e w'' ⟨h1, v', h2, h3⟩
      exact ⟨h1, ⟨v', vl, h2⟩, h3⟩
    clear hx
    go_enter Try.func14, Try.ntmps14
    go_wp2_with fail
    refine does_open HL HR KX C1 C2 ?_
    rintro w6 ⟨k6, h6, vp6, vl6, hr6⟩
    have K6 := Lib.hid (K0.out.trans k6)
    have H6 := Lib.hid h6
    have R6 := Lib.hid hr6
    clear k6 h6 hr6 C1 C2 HL HR KX K0
    go_wp2_with fail
    go_ret
    exact ⟨rfl, K6.out, _, _, vp6, vl6, H6.out, LInv.open HI.out x.a, R6.out⟩
  · have q1 : x.k % 8 = 1 := hj
    have q2 : x.k.tmod 8 = 1 := by rw [Int.tmod_eq_emod_of_nonneg hx.k.1]; exact hj
    clear hj
    have C1 : Hid (∀ w', LedM w' G M ps ls → Calls Try.prog 38 #[.pointer (some ⟨G, 0, none⟩), .int .u8 x.a, .int .u8 x.b, .int .u8 x.c, .int .i64 x.n] w' fun e w'' => e = .returned (.int .i64 (trustE ps ls x.a x.b x.c x.n)) ∧ LedM w'' G M (ps) (trustL ps ls x.a x.b x.c x.n) ∧ Keep (fun b => b = G ∨ b = M) w' w'') := Lib.hid fun w' h => by
      refine (ptrust_any h HI.out HX.out.a HX.out.b HX.out.c).mono ?_
      rintro e w'' ⟨h1, h2, h3⟩
      exact ⟨h1, h2, h3.mono fun b _ hb => .inr hb⟩
    have C2 : Hid (∀ w' vp vl, RefL w' base r ps ls vp vl → Calls Try.prog 47 #[.pointer (some ⟨r, 0, none⟩), .int .u8 x.a, .int .u8 x.b, .int .u8 x.c, .int .i64 x.n] w' fun e w'' => e = .returned (.int .i64 (trustE ps ls x.a x.b x.c x.n)) ∧ (∃ vp vl, RefL w'' base r (ps) (trustL ps ls x.a x.b x.c x.n) vp vl) ∧ Keep (· = r) w' w'') := Lib.hid fun w' vp vl h => by
      refine (rtrust_any h HI.out.inv.good HI.out.len x.a x.b x.c x.n).mono ?_
      rintro e w'' ⟨h1, v', h2, h3⟩
      exact ⟨h1, ⟨vp, v', h2⟩, h3⟩
    clear hx
    go_enter Try.func14, Try.ntmps14
    go_wp2_with fail
    refine does_trust HL HR KX C1 C2 ?_
    rintro w6 ⟨k6, h6, vp6, vl6, hr6⟩
    have K6 := Lib.hid (K0.out.trans k6)
    have H6 := Lib.hid h6
    have R6 := Lib.hid hr6
    clear k6 h6 hr6 C1 C2 HL HR KX K0
    go_wp2_with fail
    go_ret
    exact ⟨rfl, K6.out, _, _, vp6, vl6, H6.out, LInv.trust HI.out x.a x.b x.c x.n, R6.out⟩
  · have q1 : x.k % 8 = 2 := hj
    have q2 : x.k.tmod 8 = 2 := by rw [Int.tmod_eq_emod_of_nonneg hx.k.1]; exact hj
    clear hj
    have C1 : Hid (∀ w', LedM w' G M ps ls → Calls Try.prog 38 #[.pointer (some ⟨G, 0, none⟩), .int .u8 x.a, .int .u8 x.b, .int .u8 x.c, .int .i64 x.n] w' fun e w'' => e = .returned (.int .i64 (trustE ps ls x.a x.b x.c x.n)) ∧ LedM w'' G M (ps) (trustL ps ls x.a x.b x.c x.n) ∧ Keep (fun b => b = G ∨ b = M) w' w'') := Lib.hid fun w' h => by
      refine (ptrust_any h HI.out HX.out.a HX.out.b HX.out.c).mono ?_
      rintro e w'' ⟨h1, h2, h3⟩
      exact ⟨h1, h2, h3.mono fun b _ hb => .inr hb⟩
    have C2 : Hid (∀ w' vp vl, RefL w' base r ps ls vp vl → Calls Try.prog 47 #[.pointer (some ⟨r, 0, none⟩), .int .u8 x.a, .int .u8 x.b, .int .u8 x.c, .int .i64 x.n] w' fun e w'' => e = .returned (.int .i64 (trustE ps ls x.a x.b x.c x.n)) ∧ (∃ vp vl, RefL w'' base r (ps) (trustL ps ls x.a x.b x.c x.n) vp vl) ∧ Keep (· = r) w' w'') := Lib.hid fun w' vp vl h => by
      refine (rtrust_any h HI.out.inv.good HI.out.len x.a x.b x.c x.n).mono ?_
      rintro e w'' ⟨h1, v', h2, h3⟩
      exact ⟨h1, ⟨vp, v', h2⟩, h3⟩
    clear hx
    go_enter Try.func14, Try.ntmps14
    go_wp2_with fail
    refine does_trust HL HR KX C1 C2 ?_
    rintro w6 ⟨k6, h6, vp6, vl6, hr6⟩
    have K6 := Lib.hid (K0.out.trans k6)
    have H6 := Lib.hid h6
    have R6 := Lib.hid hr6
    clear k6 h6 hr6 C1 C2 HL HR KX K0
    go_wp2_with fail
    go_ret
    exact ⟨rfl, K6.out, _, _, vp6, vl6, H6.out, LInv.trust HI.out x.a x.b x.c x.n, R6.out⟩
  · have q1 : x.k % 8 = 3 := hj
    have q2 : x.k.tmod 8 = 3 := by rw [Int.tmod_eq_emod_of_nonneg hx.k.1]; exact hj
    clear hj
    by_cases hk : x.k < 128
    · have g1 : decide (128 ≤ x.k) = false := by simp; omega
      have C1 : Hid (∀ w', LedM w' G M ps ls → Calls Try.prog 39 #[.pointer (some ⟨G, 0, none⟩), .int .u8 x.a, .int .u8 x.b, .int .u8 x.c, .int .i64 x.n] w' fun e w'' => e = .returned (.int .i64 (pushE ps ls x.a x.b x.c x.n)) ∧ LedM w'' G M (ps) (pushL ps ls x.a x.b x.c x.n) ∧ Keep (fun b => b = G ∨ b = M) w' w'') := Lib.hid fun w' h => by
        refine (ppush_any h HI.out HX.out.a HX.out.b HX.out.c HX.out.n).mono ?_
        rintro e w'' ⟨h1, h2, h3⟩
        exact ⟨h1, h2, h3.mono fun b _ hb => .inr hb⟩
      have C2 : Hid (∀ w' vp vl, RefL w' base r ps ls vp vl → Calls Try.prog 48 #[.pointer (some ⟨r, 0, none⟩), .int .u8 x.a, .int .u8 x.b, .int .u8 x.c, .int .i64 x.n] w' fun e w'' => e = .returned (.int .i64 (pushE ps ls x.a x.b x.c x.n)) ∧ (∃ vp vl, RefL w'' base r (ps) (pushL ps ls x.a x.b x.c x.n) vp vl) ∧ Keep (· = r) w' w'') := Lib.hid fun w' vp vl h => by
        refine (rpush_any h HI.out.inv.good HI.out.len x.a x.b x.c x.n).mono ?_
        rintro e w'' ⟨h1, v', h2, h3⟩
        exact ⟨h1, ⟨vp, v', h2⟩, h3⟩
      clear hx hk
      go_enter Try.func14, Try.ntmps14
      go_wp2_with fail
      refine does_push HL HR KX C1 C2 ?_
      rintro w6 ⟨k6, h6, vp6, vl6, hr6⟩
      have K6 := Lib.hid (K0.out.trans k6)
      have H6 := Lib.hid h6
      have R6 := Lib.hid hr6
      clear k6 h6 hr6 C1 C2 HL HR KX K0
      go_wp2_with fail
      go_ret
      exact ⟨rfl, K6.out, _, _, vp6, vl6, H6.out, LInv.push HI.out x.a x.b x.c x.n, R6.out⟩
    · have g1 : decide (128 ≤ x.k) = true := by simp; omega
      have hrb := roomL_bd HI.out.inv.good (ps := ps) x.a x.b x.c
      have hr64 : Hid (In64 (roomL ps ls x.a x.b x.c)) := Lib.hid ⟨by omega, by omega⟩
      have CR := Lib.hid (rroom_any HR.out HI.out.inv.good x.a x.b x.c)
      clear hrb
      generalize roomL ps ls x.a x.b x.c = rm at *
      by_cases hle : x.n ≤ rm

      · clear hx hk
        have g2 : min x.n rm = x.n := by omega
        have g3 : decide (rm < x.n) = false := by simp; omega
        have g4 : decide (x.n ≤ rm) = true := by simp; omega
        go_enter Try.func14, Try.ntmps14
        go_wp2_with fail
        refine CR.out.mono ?_
        rintro e w3 ⟨rfl, b3⟩
        have HL3 := Lib.hid (HL.out.below b3)
        have HR3 := Lib.hid (HR.out.below b3)
        have KX3 := Lib.hid (KX.out.below b3 KX.out.lt)
        have K3 := Lib.hid (K0.out.trans (Keep.of_below (S := Trio G M r) b3))
        clear b3 HL HR KX K0 CR
        have HL := HL3; have HR := HR3; have KX := KX3; have K0 := K3
        clear HL3 HR3 KX3 K3
        have kl := KX.out.lt
        have d0 := KX.out.cell 0; have d1 := KX.out.cell 1; have d2 := KX.out.cell 2; have d3 := KX.out.cell 3; have d4 := KX.out.cell 4
        simp at d0 d1 d2 d3 d4
        go_wp2_with fail
        have C1 : Hid (∀ w', LedM w' G M ps ls → Calls Try.prog 39 #[.pointer (some ⟨G, 0, none⟩), .int .u8 x.a, .int .u8 x.b, .int .u8 x.c, .int .i64 x.n] w' fun e w'' => e = .returned (.int .i64 (pushE ps ls x.a x.b x.c x.n)) ∧ LedM w'' G M (ps) (pushL ps ls x.a x.b x.c x.n) ∧ Keep (fun b => b = G ∨ b = M) w' w'') := Lib.hid fun w' h => by
          refine (ppush_any h HI.out HX.out.a HX.out.b HX.out.c HX.out.n).mono ?_
          rintro e w'' ⟨h1, h2, h3⟩
          exact ⟨h1, h2, h3.mono fun b _ hb => .inr hb⟩
        have C2 : Hid (∀ w' vp vl, RefL w' base r ps ls vp vl → Calls Try.prog 48 #[.pointer (some ⟨r, 0, none⟩), .int .u8 x.a, .int .u8 x.b, .int .u8 x.c, .int .i64 x.n] w' fun e w'' => e = .returned (.int .i64 (pushE ps ls x.a x.b x.c x.n)) ∧ (∃ vp vl, RefL w'' base r (ps) (pushL ps ls x.a x.b x.c x.n) vp vl) ∧ Keep (· = r) w' w'') := Lib.hid fun w' vp vl h => by
          refine (rpush_any h HI.out.inv.good HI.out.len x.a x.b x.c x.n).mono ?_
          rintro e w'' ⟨h1, v', h2, h3⟩
          exact ⟨h1, ⟨vp, v', h2⟩, h3⟩
        clear d0 d1 d2 d3 d4 kl
        refine does_push HL HR KX C1 C2 ?_
        rintro w6 ⟨k6, h6, vp6, vl6, hr6⟩
        have K6 := Lib.hid (K0.out.trans k6)
        have H6 := Lib.hid h6
        have R6 := Lib.hid hr6
        clear k6 h6 hr6 C1 C2 HL HR KX K0
        go_wp2_with fail
        go_ret
        exact ⟨rfl, K6.out, _, _, vp6, vl6, H6.out, LInv.push HI.out x.a x.b x.c x.n, R6.out⟩
      · clear hx hk
        have g2 : min x.n rm = rm := by omega
        have g3 : decide (rm < x.n) = true := by simp; omega
        have g4 : decide (x.n ≤ rm) = false := by simp; omega
        go_enter Try.func14, Try.ntmps14
        go_wp2_with fail
        refine CR.out.mono ?_
        rintro e w3 ⟨rfl, b3⟩
        have HL3 := Lib.hid (HL.out.below b3)
        have HR3 := Lib.hid (HR.out.below b3)
        have KX3 := Lib.hid (KX.out.below b3 KX.out.lt)
        have K3 := Lib.hid (K0.out.trans (Keep.of_below (S := Trio G M r) b3))
        clear b3 HL HR KX K0 CR
        have HL := HL3; have HR := HR3; have KX := KX3; have K0 := K3
        clear HL3 HR3 KX3 K3
        have kl := KX.out.lt
        have d0 := KX.out.cell 0; have d1 := KX.out.cell 1; have d2 := KX.out.cell 2; have d3 := KX.out.cell 3; have d4 := KX.out.cell 4
        simp at d0 d1 d2 d3 d4
        go_wp2_with fail
        have C1 : Hid (∀ w', LedM w' G M ps ls → Calls Try.prog 39 #[.pointer (some ⟨G, 0, none⟩), .int .u8 x.a, .int .u8 x.b, .int .u8 x.c, .int .i64 rm] w' fun e w'' => e = .returned (.int .i64 (pushE ps ls x.a x.b x.c rm)) ∧ LedM w'' G M (ps) (pushL ps ls x.a x.b x.c rm) ∧ Keep (fun b => b = G ∨ b = M) w' w'') := Lib.hid fun w' h => by
          refine (ppush_any h HI.out HX.out.a HX.out.b HX.out.c hr64.out).mono ?_
          rintro e w'' ⟨h1, h2, h3⟩
          exact ⟨h1, h2, h3.mono fun b _ hb => .inr hb⟩
        have C2 : Hid (∀ w' vp vl, RefL w' base r ps ls vp vl → Calls Try.prog 48 #[.pointer (some ⟨r, 0, none⟩), .int .u8 x.a, .int .u8 x.b, .int .u8 x.c, .int .i64 rm] w' fun e w'' => e = .returned (.int .i64 (pushE ps ls x.a x.b x.c rm)) ∧ (∃ vp vl, RefL w'' base r (ps) (pushL ps ls x.a x.b x.c rm) vp vl) ∧ Keep (· = r) w' w'') := Lib.hid fun w' vp vl h => by
          refine (rpush_any h HI.out.inv.good HI.out.len x.a x.b x.c rm).mono ?_
          rintro e w'' ⟨h1, v', h2, h3⟩
          exact ⟨h1, ⟨vp, v', h2⟩, h3⟩
        clear d0 d1 d2 d3 d4 kl
        refine does_push HL HR KX C1 C2 ?_
        rintro w6 ⟨k6, h6, vp6, vl6, hr6⟩
        have K6 := Lib.hid (K0.out.trans k6)
        have H6 := Lib.hid h6
        have R6 := Lib.hid hr6
        clear k6 h6 hr6 C1 C2 HL HR KX K0
        go_wp2_with fail
        go_ret
        exact ⟨rfl, K6.out, _, _, vp6, vl6, H6.out, LInv.push HI.out x.a x.b x.c rm, R6.out⟩
  · have q1 : x.k % 8 = 4 := hj
    have q2 : x.k.tmod 8 = 4 := by rw [Int.tmod_eq_emod_of_nonneg hx.k.1]; exact hj
    clear hj
    by_cases hk : x.k < 128
    · have g1 : decide (128 ≤ x.k) = false := by simp; omega
      have C1 : Hid (∀ w', LedM w' G M ps ls → Calls Try.prog 39 #[.pointer (some ⟨G, 0, none⟩), .int .u8 x.a, .int .u8 x.b, .int .u8 x.c, .int .i64 x.n] w' fun e w'' => e = .returned (.int .i64 (pushE ps ls x.a x.b x.c x.n)) ∧ LedM w'' G M (ps) (pushL ps ls x.a x.b x.c x.n) ∧ Keep (fun b => b = G ∨ b = M) w' w'') := Lib.hid fun w' h => by
        refine (ppush_any h HI.out HX.out.a HX.out.b HX.out.c HX.out.n).mono ?_
        rintro e w'' ⟨h1, h2, h3⟩
        exact ⟨h1, h2, h3.mono fun b _ hb => .inr hb⟩
      have C2 : Hid (∀ w' vp vl, RefL w' base r ps ls vp vl → Calls Try.prog 48 #[.pointer (some ⟨r, 0, none⟩), .int .u8 x.a, .int .u8 x.b, .int .u8 x.c, .int .i64 x.n] w' fun e w'' => e = .returned (.int .i64 (pushE ps ls x.a x.b x.c x.n)) ∧ (∃ vp vl, RefL w'' base r (ps) (pushL ps ls x.a x.b x.c x.n) vp vl) ∧ Keep (· = r) w' w'') := Lib.hid fun w' vp vl h => by
        refine (rpush_any h HI.out.inv.good HI.out.len x.a x.b x.c x.n).mono ?_
        rintro e w'' ⟨h1, v', h2, h3⟩
        exact ⟨h1, ⟨vp, v', h2⟩, h3⟩
      clear hx hk
      go_enter Try.func14, Try.ntmps14
      go_wp2_with fail
      refine does_push HL HR KX C1 C2 ?_
      rintro w6 ⟨k6, h6, vp6, vl6, hr6⟩
      have K6 := Lib.hid (K0.out.trans k6)
      have H6 := Lib.hid h6
      have R6 := Lib.hid hr6
      clear k6 h6 hr6 C1 C2 HL HR KX K0
      go_wp2_with fail
      go_ret
      exact ⟨rfl, K6.out, _, _, vp6, vl6, H6.out, LInv.push HI.out x.a x.b x.c x.n, R6.out⟩
    · have g1 : decide (128 ≤ x.k) = true := by simp; omega
      have hrb := roomL_bd HI.out.inv.good (ps := ps) x.a x.b x.c
      have hr64 : Hid (In64 (roomL ps ls x.a x.b x.c)) := Lib.hid ⟨by omega, by omega⟩
      have CR := Lib.hid (rroom_any HR.out HI.out.inv.good x.a x.b x.c)
      clear hrb
      generalize roomL ps ls x.a x.b x.c = rm at *
      by_cases hle : x.n ≤ rm

      · clear hx hk
        have g2 : min x.n rm = x.n := by omega
        have g3 : decide (rm < x.n) = false := by simp; omega
        have g4 : decide (x.n ≤ rm) = true := by simp; omega
        go_enter Try.func14, Try.ntmps14
        go_wp2_with fail
        refine CR.out.mono ?_
        rintro e w3 ⟨rfl, b3⟩
        have HL3 := Lib.hid (HL.out.below b3)
        have HR3 := Lib.hid (HR.out.below b3)
        have KX3 := Lib.hid (KX.out.below b3 KX.out.lt)
        have K3 := Lib.hid (K0.out.trans (Keep.of_below (S := Trio G M r) b3))
        clear b3 HL HR KX K0 CR
        have HL := HL3; have HR := HR3; have KX := KX3; have K0 := K3
        clear HL3 HR3 KX3 K3
        have kl := KX.out.lt
        have d0 := KX.out.cell 0; have d1 := KX.out.cell 1; have d2 := KX.out.cell 2; have d3 := KX.out.cell 3; have d4 := KX.out.cell 4
        simp at d0 d1 d2 d3 d4
        go_wp2_with fail
        have C1 : Hid (∀ w', LedM w' G M ps ls → Calls Try.prog 39 #[.pointer (some ⟨G, 0, none⟩), .int .u8 x.a, .int .u8 x.b, .int .u8 x.c, .int .i64 x.n] w' fun e w'' => e = .returned (.int .i64 (pushE ps ls x.a x.b x.c x.n)) ∧ LedM w'' G M (ps) (pushL ps ls x.a x.b x.c x.n) ∧ Keep (fun b => b = G ∨ b = M) w' w'') := Lib.hid fun w' h => by
          refine (ppush_any h HI.out HX.out.a HX.out.b HX.out.c HX.out.n).mono ?_
          rintro e w'' ⟨h1, h2, h3⟩
          exact ⟨h1, h2, h3.mono fun b _ hb => .inr hb⟩
        have C2 : Hid (∀ w' vp vl, RefL w' base r ps ls vp vl → Calls Try.prog 48 #[.pointer (some ⟨r, 0, none⟩), .int .u8 x.a, .int .u8 x.b, .int .u8 x.c, .int .i64 x.n] w' fun e w'' => e = .returned (.int .i64 (pushE ps ls x.a x.b x.c x.n)) ∧ (∃ vp vl, RefL w'' base r (ps) (pushL ps ls x.a x.b x.c x.n) vp vl) ∧ Keep (· = r) w' w'') := Lib.hid fun w' vp vl h => by
          refine (rpush_any h HI.out.inv.good HI.out.len x.a x.b x.c x.n).mono ?_
          rintro e w'' ⟨h1, v', h2, h3⟩
          exact ⟨h1, ⟨vp, v', h2⟩, h3⟩
        clear d0 d1 d2 d3 d4 kl
        refine does_push HL HR KX C1 C2 ?_
        rintro w6 ⟨k6, h6, vp6, vl6, hr6⟩
        have K6 := Lib.hid (K0.out.trans k6)
        have H6 := Lib.hid h6
        have R6 := Lib.hid hr6
        clear k6 h6 hr6 C1 C2 HL HR KX K0
        go_wp2_with fail
        go_ret
        exact ⟨rfl, K6.out, _, _, vp6, vl6, H6.out, LInv.push HI.out x.a x.b x.c x.n, R6.out⟩
      · clear hx hk
        have g2 : min x.n rm = rm := by omega
        have g3 : decide (rm < x.n) = true := by simp; omega
        have g4 : decide (x.n ≤ rm) = false := by simp; omega
        go_enter Try.func14, Try.ntmps14
        go_wp2_with fail
        refine CR.out.mono ?_
        rintro e w3 ⟨rfl, b3⟩
        have HL3 := Lib.hid (HL.out.below b3)
        have HR3 := Lib.hid (HR.out.below b3)
        have KX3 := Lib.hid (KX.out.below b3 KX.out.lt)
        have K3 := Lib.hid (K0.out.trans (Keep.of_below (S := Trio G M r) b3))
        clear b3 HL HR KX K0 CR
        have HL := HL3; have HR := HR3; have KX := KX3; have K0 := K3
        clear HL3 HR3 KX3 K3
        have kl := KX.out.lt
        have d0 := KX.out.cell 0; have d1 := KX.out.cell 1; have d2 := KX.out.cell 2; have d3 := KX.out.cell 3; have d4 := KX.out.cell 4
        simp at d0 d1 d2 d3 d4
        go_wp2_with fail
        have C1 : Hid (∀ w', LedM w' G M ps ls → Calls Try.prog 39 #[.pointer (some ⟨G, 0, none⟩), .int .u8 x.a, .int .u8 x.b, .int .u8 x.c, .int .i64 rm] w' fun e w'' => e = .returned (.int .i64 (pushE ps ls x.a x.b x.c rm)) ∧ LedM w'' G M (ps) (pushL ps ls x.a x.b x.c rm) ∧ Keep (fun b => b = G ∨ b = M) w' w'') := Lib.hid fun w' h => by
          refine (ppush_any h HI.out HX.out.a HX.out.b HX.out.c hr64.out).mono ?_
          rintro e w'' ⟨h1, h2, h3⟩
          exact ⟨h1, h2, h3.mono fun b _ hb => .inr hb⟩
        have C2 : Hid (∀ w' vp vl, RefL w' base r ps ls vp vl → Calls Try.prog 48 #[.pointer (some ⟨r, 0, none⟩), .int .u8 x.a, .int .u8 x.b, .int .u8 x.c, .int .i64 rm] w' fun e w'' => e = .returned (.int .i64 (pushE ps ls x.a x.b x.c rm)) ∧ (∃ vp vl, RefL w'' base r (ps) (pushL ps ls x.a x.b x.c rm) vp vl) ∧ Keep (· = r) w' w'') := Lib.hid fun w' vp vl h => by
          refine (rpush_any h HI.out.inv.good HI.out.len x.a x.b x.c rm).mono ?_
          rintro e w'' ⟨h1, v', h2, h3⟩
          exact ⟨h1, ⟨vp, v', h2⟩, h3⟩
        clear d0 d1 d2 d3 d4 kl
        refine does_push HL HR KX C1 C2 ?_
        rintro w6 ⟨k6, h6, vp6, vl6, hr6⟩
        have K6 := Lib.hid (K0.out.trans k6)
        have H6 := Lib.hid h6
        have R6 := Lib.hid hr6
        clear k6 h6 hr6 C1 C2 HL HR KX K0
        go_wp2_with fail
        go_ret
        exact ⟨rfl, K6.out, _, _, vp6, vl6, H6.out, LInv.push HI.out x.a x.b x.c rm, R6.out⟩
  · have q1 : x.k % 8 = 5 := hj
    have q2 : x.k.tmod 8 = 5 := by rw [Int.tmod_eq_emod_of_nonneg hx.k.1]; exact hj
    clear hj
    by_cases hk : x.k < 128
    · have g1 : decide (128 ≤ x.k) = false := by simp; omega
      have C1 : Hid (∀ w', LedM w' G M ps ls → Calls Try.prog 39 #[.pointer (some ⟨G, 0, none⟩), .int .u8 x.a, .int .u8 x.b, .int .u8 x.c, .int .i64 x.n] w' fun e w'' => e = .returned (.int .i64 (pushE ps ls x.a x.b x.c x.n)) ∧ LedM w'' G M (ps) (pushL ps ls x.a x.b x.c x.n) ∧ Keep (fun b => b = G ∨ b = M) w' w'') := Lib.hid fun w' h => by
        refine (ppush_any h HI.out HX.out.a HX.out.b HX.out.c HX.out.n).mono ?_
        rintro e w'' ⟨h1, h2, h3⟩
        exact ⟨h1, h2, h3.mono fun b _ hb => .inr hb⟩
      have C2 : Hid (∀ w' vp vl, RefL w' base r ps ls vp vl → Calls Try.prog 48 #[.pointer (some ⟨r, 0, none⟩), .int .u8 x.a, .int .u8 x.b, .int .u8 x.c, .int .i64 x.n] w' fun e w'' => e = .returned (.int .i64 (pushE ps ls x.a x.b x.c x.n)) ∧ (∃ vp vl, RefL w'' base r (ps) (pushL ps ls x.a x.b x.c x.n) vp vl) ∧ Keep (· = r) w' w'') := Lib.hid fun w' vp vl h => by
        refine (rpush_any h HI.out.inv.good HI.out.len x.a x.b x.c x.n).mono ?_
        rintro e w'' ⟨h1, v', h2, h3⟩
        exact ⟨h1, ⟨vp, v', h2⟩, h3⟩
      clear hx hk
      go_enter Try.func14, Try.ntmps14
      go_wp2_with fail
      refine does_push HL HR KX C1 C2 ?_
      rintro w6 ⟨k6, h6, vp6, vl6, hr6⟩
      have K6 := Lib.hid (K0.out.trans k6)
      have H6 := Lib.hid h6
      have R6 := Lib.hid hr6
      clear k6 h6 hr6 C1 C2 HL HR KX K0
      go_wp2_with fail
      go_ret
      exact ⟨rfl, K6.out, _, _, vp6, vl6, H6.out, LInv.push HI.out x.a x.b x.c x.n, R6.out⟩
    · have g1 : decide (128 ≤ x.k) = true := by simp; omega
      have hrb := roomL_bd HI.out.inv.good (ps := ps) x.a x.b x.c
      have hr64 : Hid (In64 (roomL ps ls x.a x.b x.c)) := Lib.hid ⟨by omega, by omega⟩
      have CR := Lib.hid (rroom_any HR.out HI.out.inv.good x.a x.b x.c)
      clear hrb
      generalize roomL ps ls x.a x.b x.c = rm at *
      by_cases hle : x.n ≤ rm

      · clear hx hk
        have g2 : min x.n rm = x.n := by omega
        have g3 : decide (rm < x.n) = false := by simp; omega
        have g4 : decide (x.n ≤ rm) = true := by simp; omega
        go_enter Try.func14, Try.ntmps14
        go_wp2_with fail
        refine CR.out.mono ?_
        rintro e w3 ⟨rfl, b3⟩
        have HL3 := Lib.hid (HL.out.below b3)
        have HR3 := Lib.hid (HR.out.below b3)
        have KX3 := Lib.hid (KX.out.below b3 KX.out.lt)
        have K3 := Lib.hid (K0.out.trans (Keep.of_below (S := Trio G M r) b3))
        clear b3 HL HR KX K0 CR
        have HL := HL3; have HR := HR3; have KX := KX3; have K0 := K3
        clear HL3 HR3 KX3 K3
        have kl := KX.out.lt
        have d0 := KX.out.cell 0; have d1 := KX.out.cell 1; have d2 := KX.out.cell 2; have d3 := KX.out.cell 3; have d4 := KX.out.cell 4
        simp at d0 d1 d2 d3 d4
        go_wp2_with fail
        have C1 : Hid (∀ w', LedM w' G M ps ls → Calls Try.prog 39 #[.pointer (some ⟨G, 0, none⟩), .int .u8 x.a, .int .u8 x.b, .int .u8 x.c, .int .i64 x.n] w' fun e w'' => e = .returned (.int .i64 (pushE ps ls x.a x.b x.c x.n)) ∧ LedM w'' G M (ps) (pushL ps ls x.a x.b x.c x.n) ∧ Keep (fun b => b = G ∨ b = M) w' w'') := Lib.hid fun w' h => by
          refine (ppush_any h HI.out HX.out.a HX.out.b HX.out.c HX.out.n).mono ?_
          rintro e w'' ⟨h1, h2, h3⟩
          exact ⟨h1, h2, h3.mono fun b _ hb => .inr hb⟩
        have C2 : Hid (∀ w' vp vl, RefL w' base r ps ls vp vl → Calls Try.prog 48 #[.pointer (some ⟨r, 0, none⟩), .int .u8 x.a, .int .u8 x.b, .int .u8 x.c, .int .i64 x.n] w' fun e w'' => e = .returned (.int .i64 (pushE ps ls x.a x.b x.c x.n)) ∧ (∃ vp vl, RefL w'' base r (ps) (pushL ps ls x.a x.b x.c x.n) vp vl) ∧ Keep (· = r) w' w'') := Lib.hid fun w' vp vl h => by
          refine (rpush_any h HI.out.inv.good HI.out.len x.a x.b x.c x.n).mono ?_
          rintro e w'' ⟨h1, v', h2, h3⟩
          exact ⟨h1, ⟨vp, v', h2⟩, h3⟩
        clear d0 d1 d2 d3 d4 kl
        refine does_push HL HR KX C1 C2 ?_
        rintro w6 ⟨k6, h6, vp6, vl6, hr6⟩
        have K6 := Lib.hid (K0.out.trans k6)
        have H6 := Lib.hid h6
        have R6 := Lib.hid hr6
        clear k6 h6 hr6 C1 C2 HL HR KX K0
        go_wp2_with fail
        go_ret
        exact ⟨rfl, K6.out, _, _, vp6, vl6, H6.out, LInv.push HI.out x.a x.b x.c x.n, R6.out⟩
      · clear hx hk
        have g2 : min x.n rm = rm := by omega
        have g3 : decide (rm < x.n) = true := by simp; omega
        have g4 : decide (x.n ≤ rm) = false := by simp; omega
        go_enter Try.func14, Try.ntmps14
        go_wp2_with fail
        refine CR.out.mono ?_
        rintro e w3 ⟨rfl, b3⟩
        have HL3 := Lib.hid (HL.out.below b3)
        have HR3 := Lib.hid (HR.out.below b3)
        have KX3 := Lib.hid (KX.out.below b3 KX.out.lt)
        have K3 := Lib.hid (K0.out.trans (Keep.of_below (S := Trio G M r) b3))
        clear b3 HL HR KX K0 CR
        have HL := HL3; have HR := HR3; have KX := KX3; have K0 := K3
        clear HL3 HR3 KX3 K3
        have kl := KX.out.lt
        have d0 := KX.out.cell 0; have d1 := KX.out.cell 1; have d2 := KX.out.cell 2; have d3 := KX.out.cell 3; have d4 := KX.out.cell 4
        simp at d0 d1 d2 d3 d4
        go_wp2_with fail
        have C1 : Hid (∀ w', LedM w' G M ps ls → Calls Try.prog 39 #[.pointer (some ⟨G, 0, none⟩), .int .u8 x.a, .int .u8 x.b, .int .u8 x.c, .int .i64 rm] w' fun e w'' => e = .returned (.int .i64 (pushE ps ls x.a x.b x.c rm)) ∧ LedM w'' G M (ps) (pushL ps ls x.a x.b x.c rm) ∧ Keep (fun b => b = G ∨ b = M) w' w'') := Lib.hid fun w' h => by
          refine (ppush_any h HI.out HX.out.a HX.out.b HX.out.c hr64.out).mono ?_
          rintro e w'' ⟨h1, h2, h3⟩
          exact ⟨h1, h2, h3.mono fun b _ hb => .inr hb⟩
        have C2 : Hid (∀ w' vp vl, RefL w' base r ps ls vp vl → Calls Try.prog 48 #[.pointer (some ⟨r, 0, none⟩), .int .u8 x.a, .int .u8 x.b, .int .u8 x.c, .int .i64 rm] w' fun e w'' => e = .returned (.int .i64 (pushE ps ls x.a x.b x.c rm)) ∧ (∃ vp vl, RefL w'' base r (ps) (pushL ps ls x.a x.b x.c rm) vp vl) ∧ Keep (· = r) w' w'') := Lib.hid fun w' vp vl h => by
          refine (rpush_any h HI.out.inv.good HI.out.len x.a x.b x.c rm).mono ?_
          rintro e w'' ⟨h1, v', h2, h3⟩
          exact ⟨h1, ⟨vp, v', h2⟩, h3⟩
        clear d0 d1 d2 d3 d4 kl
        refine does_push HL HR KX C1 C2 ?_
        rintro w6 ⟨k6, h6, vp6, vl6, hr6⟩
        have K6 := Lib.hid (K0.out.trans k6)
        have H6 := Lib.hid h6
        have R6 := Lib.hid hr6
        clear k6 h6 hr6 C1 C2 HL HR KX K0
        go_wp2_with fail
        go_ret
        exact ⟨rfl, K6.out, _, _, vp6, vl6, H6.out, LInv.push HI.out x.a x.b x.c rm, R6.out⟩
  · have q1 : x.k % 8 = 6 := hj
    have q2 : x.k.tmod 8 = 6 := by rw [Int.tmod_eq_emod_of_nonneg hx.k.1]; exact hj
    clear hj
    have C1 : Hid (∀ w', LedM w' G M ps ls → Calls Try.prog 40 #[.pointer (some ⟨G, 0, none⟩), .int .u8 x.a, .int .u8 x.b, .int .u8 x.c, .int .i64 x.n] w' fun e w'' => e = .returned (.int .i64 (forgiveE ls x.a x.b x.c x.n)) ∧ LedM w'' G M (ps) (forgiveL ls x.a x.b x.c x.n) ∧ Keep (fun b => b = G ∨ b = M) w' w'') := Lib.hid fun w' h => by
      refine (forgive_any h HI.out.inv HX.out.a HX.out.b HX.out.c HX.out.n).mono ?_
      rintro e w'' ⟨h1, h2, h3⟩
      exact ⟨h1, h2, h3.mono fun b _ hb => .inr hb⟩
    have C2 : Hid (∀ w' vp vl, RefL w' base r ps ls vp vl → Calls Try.prog 49 #[.pointer (some ⟨r, 0, none⟩), .int .u8 x.a, .int .u8 x.b, .int .u8 x.c, .int .i64 x.n] w' fun e w'' => e = .returned (.int .i64 (forgiveE ls x.a x.b x.c x.n)) ∧ (∃ vp vl, RefL w'' base r (ps) (forgiveL ls x.a x.b x.c x.n) vp vl) ∧ Keep (· = r) w' w'') := Lib.hid fun w' vp vl h => by
      refine (rforgive_any h HI.out.inv.good HI.out.len x.a x.b x.c x.n HX.out.n).mono ?_
      rintro e w'' ⟨h1, v', h2, h3⟩
      exact ⟨h1, ⟨vp, v', h2⟩, h3⟩
    clear hx
    go_enter Try.func14, Try.ntmps14
    go_wp2_with fail
    refine does_forgive HL HR KX C1 C2 ?_
    rintro w6 ⟨k6, h6, vp6, vl6, hr6⟩
    have K6 := Lib.hid (K0.out.trans k6)
    have H6 := Lib.hid h6
    have R6 := Lib.hid hr6
    clear k6 h6 hr6 C1 C2 HL HR KX K0
    go_wp2_with fail
    go_ret
    exact ⟨rfl, K6.out, _, _, vp6, vl6, H6.out, LInv.forgive HI.out x.a x.b x.c x.n, R6.out⟩
  · have q1 : x.k % 8 = 7 := hj
    have q2 : x.k.tmod 8 = 7 := by rw [Int.tmod_eq_emod_of_nonneg hx.k.1]; exact hj
    clear hj
    clear hx
    go_enter Try.func14, Try.ntmps14
    go_wp2_with fail
    go_ret
    exact ⟨rfl, K0.out, ps, ls, vp, vl, HL.out, HI.out, HR.out⟩

end Go.Proofs.Ytlcilpeljnoclaa
