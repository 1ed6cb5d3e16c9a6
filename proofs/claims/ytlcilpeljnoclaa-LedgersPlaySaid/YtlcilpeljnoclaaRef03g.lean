/-
  countinghouseref03: Forgive, Push.
-/
import Derived.Test.YtlcilpeljnoclaaRef03e
namespace Go.Proofs.Ytlcilpeljnoclaa
open Go.RowKit
set_option linter.unusedSimpArgs false
set_option linter.unusedVariables false

set_option maxHeartbeats 4000000 in
set_option maxRecDepth 100000 in
theorem rforgive_any {w : World} {base g : Nat} {ps : List Int} {ls : List Ln} {vp vl : Value} (h : RefL w base g ps ls vp vl) (hgood : ∀ y ∈ ls, y.Good) (hlen : ls.length ≤ 64) (a b c n : Int) (hn64 : In64 n) :
    Calls Try.prog 49 #[.pointer (some ⟨g, 0, none⟩), .int .u8 a, .int .u8 b, .int .u8 c, .int .i64 n] w fun e w' => e = .returned (.int .i64 (forgiveE ls a b c n)) ∧ ∃ vl', RefL w' base g ps (forgiveL ls a b c n) vp vl' ∧ Keep (· = g) w w' := by
  have H := Lib.hid h
  have hg := h.blk.lt
  have HG := Lib.hid hgood
  have cx := Lib.hid (rline_any h a b c)
  rw [lineV_at] at cx
  have bx := lnAt_bd hgood a b c
  have FX := Lib.hid (lnAt_fits hgood a b c)
  clear h hgood
  have hs : n < 1 ∨ (1 ≤ n ∧ lineL ls a b c = none) ∨ (1 ≤ n ∧ (lineL ls a b c).isSome = true ∧ (lnAt ls a b c).db < n) ∨ (1 ≤ n ∧ (lineL ls a b c).isSome = true ∧ n ≤ (lnAt ls a b c).db) := by
    cases lineL ls a b c <;> simp <;> omega
  rcases hs with h1 | ⟨h1, h2⟩ | ⟨h1, h2, h3⟩ | ⟨h1, h2, h3⟩
  · have e : forgiveE ls a b c n = 1 := by unfold forgiveE; rw [if_pos h1]
    have e2 : forgiveL ls a b c n = ls := by unfold forgiveL; rw [e]; rfl
    rw [e, e2]
    clear e e2
    go_enter Try.func49, Try.ntmps49
    go_wp2_with fail
    go_ret
    exact ⟨rfl, vl, H.out, Keep.refl _ _⟩
  · have e : forgiveE ls a b c n = 7 := by unfold forgiveE; rw [if_neg (by omega), if_pos h2]
    have e2 : forgiveL ls a b c n = ls := by unfold forgiveL; rw [e]; rfl
    rw [e, e2]
    rw [h2] at cx
    clear e e2 h2
    generalize lnAt ls a b c = x at *
    go_enter Try.func49, Try.ntmps49
    go_wp2_with fail
    refine cx.out.mono ?_
    rintro e w1 ⟨rfl, b1⟩
    have B1 := Lib.hid (b1.alloc b1.size (.cells #[.int .u8 x.cr, .int .u8 x.de, .int .u8 x.cu, .int .i64 x.li, .int .i64 x.db] 35))
    clear b1
    go_wp2_with fail
    go_ret
    exact ⟨rfl, vl, H.out.below B1.out, Keep.of_below B1.out⟩
  · have e : forgiveE ls a b c n = 14 := by unfold forgiveE; rw [if_neg (by omega), if_neg (by intro k; rw [k] at h2; cases h2), if_pos h3]
    have e2 : forgiveL ls a b c n = ls := by unfold forgiveL; rw [e]; rfl
    rw [e, e2]
    rw [h2] at cx
    clear e e2 h2
    generalize lnAt ls a b c = x at *
    go_enter Try.func49, Try.ntmps49
    go_wp2_with fail
    refine cx.out.mono ?_
    rintro e w1 ⟨rfl, b1⟩
    have B1 := Lib.hid (b1.alloc b1.size (.cells #[.int .u8 x.cr, .int .u8 x.de, .int .u8 x.cu, .int .i64 x.li, .int .i64 x.db] 35))
    clear b1
    go_wp2_with fail
    go_ret
    exact ⟨rfl, vl, H.out.below B1.out, Keep.of_below B1.out⟩
  · have e : forgiveE ls a b c n = 0 := by unfold forgiveE; rw [if_neg (by omega), if_neg (by intro k; rw [k] at h2; cases h2), if_neg (by omega)]
    have e2 : forgiveL ls a b c n = setL ls ((lnAt ls a b c).owe ((lnAt ls a b c).db - n)) := by unfold forgiveL; rw [e]; rfl
    rw [e, e2]
    rw [h2] at cx
    clear e e2 h2
    generalize lnAt ls a b c = x at *
    have h4 : decide (x.db < n) = false := by simp; omega
    go_enter Try.func49, Try.ntmps49
    go_wp2_with fail
    refine cx.out.mono ?_
    rintro e w1 ⟨rfl, b1⟩
    have B1 := Lib.hid (b1.alloc b1.size (.cells #[.int .u8 x.cr, .int .u8 x.de, .int .u8 x.cu, .int .i64 x.li, .int .i64 (x.db - n)] 35))
    have cs := Lib.hid (rset_any (H.out.below B1.out) (x.owe (x.db - n)) ⟨FX.out.cr, FX.out.de, FX.out.cu, FX.out.li, ⟨by show _ ≤ x.db - n; omega, by show x.db - n ≤ _; omega⟩⟩ (fun y hy => (HG.out y hy).fits) (by omega))
    unfold Ln.val Ln.owe at cs
    clear b1 HG
    go_wp2_with fail
    refine cs.out.mono ?_
    rintro e w2 ⟨rfl, vl', hr, hk⟩
    have HR := Lib.hid hr
    have HK := Lib.hid (Keep.trans (Keep.of_below B1.out) hk)
    clear hr hk
    go_wp2_with fail
    go_ret
    exact ⟨rfl, vl', HR.out, HK.out⟩

set_option maxHeartbeats 4000000 in
set_option maxRecDepth 100000 in
theorem rpush_no {w : World} {base g : Nat} {ps : List Int} {ls : List Ln} {vp vl : Value} (h : RefL w base g ps ls vp vl) (hgood : ∀ y ∈ ls, y.Good) (a b c n : Int) (hn : n < 1 ∨ roomL ps ls a b c < n) :
    Calls Try.prog 48 #[.pointer (some ⟨g, 0, none⟩), .int .u8 a, .int .u8 b, .int .u8 c, .int .i64 n] w fun e w' => e = .returned (.int .i64 (pushE ps ls a b c n)) ∧ Below w.heap.size w w' := by
  have cr := Lib.hid (rroom_any h hgood a b c)
  clear h hgood
  by_cases h1 : n < 1
  · have e : pushE ps ls a b c n = 1 := by unfold pushE; rw [if_pos h1]
    rw [e]
    clear hn e
    go_enter Try.func48, Try.ntmps48
    go_wp2_with fail
    go_ret
    exact ⟨rfl, Below.refl _ _⟩
  · have h2 : roomL ps ls a b c < n := by omega
    have e : pushE ps ls a b c n = 11 := by unfold pushE; rw [if_neg h1, if_pos h2]
    rw [e]
    clear hn e
    generalize roomL ps ls a b c = r at *
    go_enter Try.func48, Try.ntmps48
    go_wp2_with fail
    refine cr.out.mono ?_
    rintro e w1 ⟨rfl, b1⟩
    go_wp2_with fail
    go_ret
    exact ⟨rfl, b1⟩

/-- The end of a push: what is left is owed anew, or nothing is left. -/
def PushEnd (w : World) (base g : Nat) (ps : List Int) (ls' : List Ln) (vp : Value) (e : Ending) (w' : World) : Prop :=
  e = .returned (.int .i64 0) ∧ ∃ vl', RefL w' base g ps ls' vp vl' ∧ Keep (· = g) w w'

set_option maxHeartbeats 8000000 in
set_option maxRecDepth 100000 in
theorem rpush_none {w : World} {base g : Nat} {ps : List Int} {ls : List Ln} {vp vl : Value} (h : RefL w base g ps ls vp vl) (hfit : ∀ y ∈ ls, y.Fits) (hlen : ls.length ≤ 100) (a b c n r : Int) (x y : Ln) (sy : Bool) (h1 : 1 ≤ n) (hr : n ≤ r) (hr2 : r ≤ 2199023255552)
    (y0 : 0 ≤ y.db) (y1 : y.db ≤ 1099511627776) (fy : y.Fits)
    (cr : Hid (Calls Try.prog 19 #[.pointer (some ⟨g, 0, none⟩), .int .u8 a, .int .u8 b, .int .u8 c] w fun e w' => e = .returned (.int .i64 r) ∧ Below w.heap.size w w'))
    (cx : Hid (∀ w', Below w.heap.size w w' → Calls Try.prog 17 #[.pointer (some ⟨g, 0, none⟩), .int .u8 a, .int .u8 b, .int .u8 c] w' fun e w'' => e = .returned (.tuple #[.agg #[.int .u8 x.cr, .int .u8 x.de, .int .u8 x.cu, .int .i64 x.li, .int .i64 x.db], .bool false]) ∧ Below w'.heap.size w' w''))
    (cy : Hid (∀ w', Below w.heap.size w w' → Calls Try.prog 17 #[.pointer (some ⟨g, 0, none⟩), .int .u8 b, .int .u8 a, .int .u8 c] w' fun e w'' => e = .returned (.tuple #[.agg #[.int .u8 y.cr, .int .u8 y.de, .int .u8 y.cu, .int .i64 y.li, .int .i64 y.db], .bool sy]) ∧ Below w'.heap.size w' w'')) :
    Calls Try.prog 48 #[.pointer (some ⟨g, 0, none⟩), .int .u8 a, .int .u8 b, .int .u8 c, .int .i64 n] w (PushEnd w base g ps (setL ls (y.owe (y.db + n))) vp) := by
  have H := Lib.hid h
  have hg := h.blk.lt
  have HF := Lib.hid hfit
  clear h hfit
  have q1 : decide (r < n) = false := by simp; omega
  go_enter Try.func48, Try.ntmps48
  go_wp2_with fail
  refine cr.out.mono ?_
  rintro e w1 ⟨rfl, b1⟩
  have c1 := Lib.hid (cx.out _ b1)
  have B1 := Lib.hid b1
  clear b1 cx cr
  go_wp2_with fail
  refine c1.out.mono ?_
  rintro e w2 ⟨rfl, b2⟩
  have B2 := Lib.hid ((B1.out.trans (b2.mono B1.out.size)).alloc (B1.out.trans (b2.mono B1.out.size)).size (.cells #[.int .u8 x.cr, .int .u8 x.de, .int .u8 x.cu, .int .i64 x.li, .int .i64 x.db] 35))
  have c2 := Lib.hid (cy.out _ B2.out)
  clear b2 cy c1
  go_wp2_with fail
  refine c2.out.mono ?_
  rintro e w3 ⟨rfl, b3⟩
  have B3 := Lib.hid ((B2.out.trans (b3.mono B2.out.size)).alloc (B2.out.trans (b3.mono B2.out.size)).size (.cells #[.int .u8 y.cr, .int .u8 y.de, .int .u8 y.cu, .int .i64 y.li, .int .i64 (y.db + n)] 35))
  have cs := Lib.hid (rset_any (H.out.below B3.out) (y.owe (y.db + n)) ⟨fy.cr, fy.de, fy.cu, fy.li, ⟨by show _ ≤ y.db + n; omega, by show y.db + n ≤ _; omega⟩⟩ HF.out (by omega))
  unfold Ln.val Ln.owe at cs
  clear b3 c2 HF
  go_wp2_with fail
  refine cs.out.mono ?_
  rintro e w4 ⟨rfl, vl', hr, hk⟩
  have HR := Lib.hid hr
  have HK := Lib.hid (Keep.trans (Keep.of_below B3.out) hk)
  clear hr hk
  go_wp2_with fail
  refine bodyPost_ret (v := .int .i64 0) (by simp [results, go_sem]) rfl ?_
  exact ⟨rfl, vl', HR.out, HK.out⟩

end Go.Proofs.Ytlcilpeljnoclaa
