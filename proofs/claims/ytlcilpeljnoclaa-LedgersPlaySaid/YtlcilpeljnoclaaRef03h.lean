/-
  countinghouseref03: Push.
-/
import Derived.Test.YtlcilpeljnoclaaRef03g
namespace Go.Proofs.Ytlcilpeljnoclaa
open Go.RowKit
set_option linter.unusedSimpArgs false
set_option linter.unusedVariables false

theorem lnAt_of {P : Ln → Prop} {ls : List Ln} (h : ∀ y ∈ ls, P y) (h0 : P noLn) (a b c : Int) : P (lnAt ls a b c) := by
  unfold lnAt
  cases e : lineL ls a b c with
  | none => exact h0
  | some x => exact h x (lineL_mem e).1
theorem noLn_fits : noLn.Fits ∧ 0 ≤ noLn.db ∧ noLn.db ≤ 1099511627776 := ⟨fits_mk (by decide) (by decide) (by decide) (by decide) (by decide), by decide, by decide⟩

set_option maxHeartbeats 8000000 in
set_option maxRecDepth 100000 in
theorem rpush_all {w : World} {base g : Nat} {ps : List Int} {ls : List Ln} {vp vl : Value} (h : RefL w base g ps ls vp vl) (hfit : ∀ y ∈ ls, y.Fits ∧ 0 ≤ y.db ∧ y.db ≤ 1099511627776) (hlen : ls.length ≤ 100) (a b c n r : Int) (x : Ln) (h1 : 1 ≤ n) (hr : n ≤ r) (hr2 : r ≤ 2199023255552)
    (x0 : 0 ≤ x.db) (x1 : x.db ≤ 1099511627776) (fx : x.Fits) (hle : n ≤ x.db) 
    (cr : Hid (Calls Try.prog 19 #[.pointer (some ⟨g, 0, none⟩), .int .u8 a, .int .u8 b, .int .u8 c] w fun e w' => e = .returned (.int .i64 r) ∧ Below w.heap.size w w'))
    (cx : Hid (∀ w', Below w.heap.size w w' → Calls Try.prog 17 #[.pointer (some ⟨g, 0, none⟩), .int .u8 a, .int .u8 b, .int .u8 c] w' fun e w'' => e = .returned (.tuple #[.agg #[.int .u8 x.cr, .int .u8 x.de, .int .u8 x.cu, .int .i64 x.li, .int .i64 x.db], .bool true]) ∧ Below w'.heap.size w' w'')) :
    Calls Try.prog 48 #[.pointer (some ⟨g, 0, none⟩), .int .u8 a, .int .u8 b, .int .u8 c, .int .i64 n] w  (PushEnd w base g ps (setL ls (x.owe (x.db - n))) vp) := by
  have q2 : min n x.db = n := by omega
  have H := Lib.hid h
  have hg := h.blk.lt
  have HF := Lib.hid hfit
  clear h hfit
  have q1 : decide (r < n) = false := by simp; omega
  go_enter Try.func48, Try.ntmps48
  go_wp2_with fail
  refine cr.out.mono ?_
  rintro e w1 ⟨rfl, b1⟩
  have c1 := Lib.hid (cx.out _ b1)
  have B1 := Lib.hid b1
  clear b1 cx cr
  go_wp2_with fail
  refine c1.out.mono ?_
  rintro e w2 ⟨rfl, b2⟩
  have B2 := Lib.hid ((B1.out.trans (b2.mono B1.out.size)).alloc (B1.out.trans (b2.mono B1.out.size)).size (.cells #[.int .u8 x.cr, .int .u8 x.de, .int .u8 x.cu, .int .i64 x.li, .int .i64 (x.db - n)] 35))
  have cs := Lib.hid (rset_any (H.out.below B2.out) (x.owe (x.db - n)) ⟨fx.cr, fx.de, fx.cu, fx.li, ⟨by show _ ≤ x.db - n; omega, by show x.db - n ≤ _; omega⟩⟩ (fun y hy => (HF.out y hy).1) (by omega))
  unfold Ln.val Ln.owe at cs
  clear b2 c1
  go_wp2_with fail
  refine cs.out.mono ?_
  rintro e w3 ⟨rfl, vl', hr, hk⟩
  have HR := Lib.hid hr
  have HK := Lib.hid (Keep.trans (Keep.of_below B2.out) hk)
  clear hr hk cs
  go_wp2_with fail
  refine bodyPost_ret (v := .int .i64 0) (by simp [results, go_sem]) rfl ?_
  exact ⟨rfl, vl', HR.out, HK.out⟩
set_option maxHeartbeats 8000000 in
set_option maxRecDepth 100000 in
theorem rpush_part {w : World} {base g : Nat} {ps : List Int} {ls : List Ln} {vp vl : Value} (h : RefL w base g ps ls vp vl) (hfit : ∀ y ∈ ls, y.Fits ∧ 0 ≤ y.db ∧ y.db ≤ 1099511627776) (hlen : ls.length ≤ 100) (a b c n r : Int) (x : Ln) (h1 : 1 ≤ n) (hr : n ≤ r) (hr2 : r ≤ 2199023255552)
    (x0 : 0 ≤ x.db) (x1 : x.db ≤ 1099511627776) (fx : x.Fits) (hlt : x.db < n) 
    (cr : Hid (Calls Try.prog 19 #[.pointer (some ⟨g, 0, none⟩), .int .u8 a, .int .u8 b, .int .u8 c] w fun e w' => e = .returned (.int .i64 r) ∧ Below w.heap.size w w'))
    (cx : Hid (∀ w', Below w.heap.size w w' → Calls Try.prog 17 #[.pointer (some ⟨g, 0, none⟩), .int .u8 a, .int .u8 b, .int .u8 c] w' fun e w'' => e = .returned (.tuple #[.agg #[.int .u8 x.cr, .int .u8 x.de, .int .u8 x.cu, .int .i64 x.li, .int .i64 x.db], .bool true]) ∧ Below w'.heap.size w' w'')) :
    Calls Try.prog 48 #[.pointer (some ⟨g, 0, none⟩), .int .u8 a, .int .u8 b, .int .u8 c, .int .i64 n] w  (PushEnd w base g ps (setL (setL ls (x.owe 0)) ((lnAt (setL ls (x.owe 0)) b a c).owe ((lnAt (setL ls (x.owe 0)) b a c).db + (n - x.db)))) vp) := by
  have q2 : min n x.db = x.db := by omega
  have H := Lib.hid h
  have hg := h.blk.lt
  have HF := Lib.hid hfit
  clear h hfit
  have q1 : decide (r < n) = false := by simp; omega
  go_enter Try.func48, Try.ntmps48
  go_wp2_with fail
  refine cr.out.mono ?_
  rintro e w1 ⟨rfl, b1⟩
  have c1 := Lib.hid (cx.out _ b1)
  have B1 := Lib.hid b1
  clear b1 cx cr
  go_wp2_with fail
  refine c1.out.mono ?_
  rintro e w2 ⟨rfl, b2⟩
  have B2 := Lib.hid ((B1.out.trans (b2.mono B1.out.size)).alloc (B1.out.trans (b2.mono B1.out.size)).size (.cells #[.int .u8 x.cr, .int .u8 x.de, .int .u8 x.cu, .int .i64 x.li, .int .i64 0] 35))
  have cs := Lib.hid (rset_any (H.out.below B2.out) (x.owe (0)) ⟨fx.cr, fx.de, fx.cu, fx.li, ⟨show (-9223372036854775808 : Int) ≤ 0 by decide, show (0 : Int) ≤ 9223372036854775807 by decide⟩⟩ (fun y hy => (HF.out y hy).1) (by omega))
  unfold Ln.val Ln.owe at cs
  clear b2 c1
  go_wp2_with fail
  refine cs.out.mono ?_
  rintro e w3 ⟨rfl, vl', hr, hk⟩
  have HR := Lib.hid hr
  have HK := Lib.hid (Keep.trans (Keep.of_below B2.out) hk)
  clear hr hk cs
  have hl1 := setL_len ls (x.owe 0)
  have hf1 : ∀ y ∈ setL ls (x.owe 0), y.Fits ∧ 0 ≤ y.db ∧ y.db ≤ 1099511627776 := by
    intro y hy
    rcases setL_mem hy with hy | ⟨rfl, _⟩
    · exact HF.out y hy
    · exact ⟨⟨fx.cr, fx.de, fx.cu, fx.li, ⟨show (-9223372036854775808 : Int) ≤ 0 by decide, show (0 : Int) ≤ 9223372036854775807 by decide⟩⟩, show (0 : Int) ≤ 0 by decide, show (0 : Int) ≤ 1099511627776 by decide⟩
  obtain ⟨fy, y0, y1⟩ := lnAt_of hf1 noLn_fits b a c
  have HF1 := Lib.hid hf1
  have HR' : Hid (RefL w3 base g ps (setL ls (x.owe 0)) vp vl') := HR
  have cy := Lib.hid (rline_any HR'.out b a c)
  rw [lineV_at] at cy
  clear hf1 HF
  generalize (lineL (setL ls (x.owe 0)) b a c).isSome = sy at *
  generalize lnAt (setL ls (x.owe 0)) b a c = y at *
  generalize setL ls (x.owe 0) = ls1 at *
  have q3 : 0 < n - x.db := by omega
  go_wp2_with fail
  refine cy.out.mono ?_
  rintro e w4 ⟨rfl, b4⟩
  have B4 := Lib.hid (b4.alloc b4.size (.cells #[.int .u8 y.cr, .int .u8 y.de, .int .u8 y.cu, .int .i64 y.li, .int .i64 (y.db + (n - x.db))] 35))
  have cs := Lib.hid (rset_any (HR'.out.below B4.out) (y.owe (y.db + (n - x.db))) ⟨fy.cr, fy.de, fy.cu, fy.li, ⟨by show _ ≤ y.db + (n - x.db); omega, by show y.db + (n - x.db) ≤ _; omega⟩⟩ (fun y hy => (HF1.out y hy).1) (by omega))
  unfold Ln.val Ln.owe at cs
  clear b4
  go_wp2_with fail
  refine cs.out.mono ?_
  rintro e w5 ⟨rfl, vl2, hr, hk⟩
  have HR2 := Lib.hid hr
  have HK2 := Lib.hid (HK.out.trans (Keep.trans (Keep.of_below B4.out) hk))
  clear hr hk
  go_wp2_with fail
  refine bodyPost_ret (v := .int .i64 0) (by simp [results, go_sem]) rfl ?_
  exact ⟨rfl, vl2, HR2.out, HK2.out⟩
theorem rpush_any {w : World} {base g : Nat} {ps : List Int} {ls : List Ln} {vp vl : Value} (h : RefL w base g ps ls vp vl) (hgood : ∀ y ∈ ls, y.Good) (hlen : ls.length ≤ 64) (a b c n : Int) :
    Calls Try.prog 48 #[.pointer (some ⟨g, 0, none⟩), .int .u8 a, .int .u8 b, .int .u8 c, .int .i64 n] w fun e w' => e = .returned (.int .i64 (pushE ps ls a b c n)) ∧ ∃ vl', RefL w' base g ps (pushL ps ls a b c n) vp vl' ∧ Keep (· = g) w w' := by
  by_cases hn : n < 1 ∨ roomL ps ls a b c < n
  · have e : pushE ps ls a b c n ≠ 0 := by unfold pushE; (repeat' split) <;> omega
    rw [show pushL ps ls a b c n = ls by unfold pushL; rw [if_neg e]]
    exact (rpush_no h hgood a b c n hn).mono fun e w' ⟨he, hb⟩ => ⟨he, vl, h.below hb, Keep.of_below hb⟩
  have e : pushE ps ls a b c n = 0 := by unfold pushE; rw [if_neg (by omega), if_neg (by omega)]
  rw [show pushL ps ls a b c n = pushTo ls a b c n by unfold pushL; rw [if_pos e], e]
  have hrb := roomL_bd (ps := ps) hgood a b c
  have bx := lnAt_bd hgood a b c
  have by' := lnAt_bd hgood b a c
  have cr := Lib.hid (rroom_any h hgood a b c)
  have cx := Lib.hid (fun (w' : World) (k : Below w.heap.size w w') => rline_any (h.below k) a b c)
  have cy := Lib.hid (fun (w' : World) (k : Below w.heap.size w w') => rline_any (h.below k) b a c)
  simp only [lineV_at] at cx cy
  have hfit : ∀ y ∈ ls, y.Fits ∧ 0 ≤ y.db ∧ y.db ≤ 1099511627776 := fun y hy => ⟨(hgood y hy).fits, (hgood y hy).db.1, by have h1 := (hgood y hy).db; have h2 := (hgood y hy).li; omega⟩
  cases hl : lineL ls a b c with
  | none =>
    rw [hl] at cx
    have e1 : push1 ls a b c n = ls := by unfold push1; rw [hl]; rfl
    have e2 : push2 ls a b c n = n := by unfold push2; rw [hl]; rfl
    have e3 : pushTo ls a b c n = setL ls ((lnAt ls b a c).owe ((lnAt ls b a c).db + n)) := by unfold pushTo; rw [e1, e2, if_pos (by omega)]
    rw [e3]
    exact rpush_none h (fun y hy => (hgood y hy).fits) (by omega) a b c n _ _ _ _ (by omega) (by omega) hrb.2 (by omega) (by omega) (lnAt_fits hgood b a c) cr cx cy
  | some y =>
    rw [hl] at cx
    have e1 : push1 ls a b c n = setL ls ((lnAt ls a b c).owe ((lnAt ls a b c).db - min n (lnAt ls a b c).db)) := by unfold push1; rw [hl]; rfl
    have e2 : push2 ls a b c n = n - min n (lnAt ls a b c).db := by unfold push2; rw [hl]; rfl
    by_cases hle : n ≤ (lnAt ls a b c).db
    · have e3 : pushTo ls a b c n = setL ls ((lnAt ls a b c).owe ((lnAt ls a b c).db - n)) := by unfold pushTo; rw [e1, e2, if_neg (by omega), show min n (lnAt ls a b c).db = n by omega]
      rw [e3]
      exact rpush_all h hfit (by omega) a b c n _ _ (by omega) (by omega) hrb.2 (by omega) (by omega) (lnAt_fits hgood a b c) hle cr cx
    · have e4 : min n (lnAt ls a b c).db = (lnAt ls a b c).db := by omega
      have e5 : push1 ls a b c n = setL ls ((lnAt ls a b c).owe 0) := by rw [e1, e4, show (lnAt ls a b c).db - (lnAt ls a b c).db = 0 by omega]
      have e3 : pushTo ls a b c n = setL (setL ls ((lnAt ls a b c).owe 0)) ((lnAt (setL ls ((lnAt ls a b c).owe 0)) b a c).owe ((lnAt (setL ls ((lnAt ls a b c).owe 0)) b a c).db + (n - (lnAt ls a b c).db))) := by unfold pushTo; rw [e5, e2, e4, if_pos (by omega)]
      rw [e3]
      exact rpush_part h hfit (by omega) a b c n _ _ (by omega) (by omega) hrb.2 (by omega) (by omega) (lnAt_fits hgood a b c) (by omega) cr cx

end Go.Proofs.Ytlcilpeljnoclaa
