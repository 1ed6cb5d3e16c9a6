/-
  The program's graphs: Edges.
-/
import Derived.Test.YtajmladlmkkimaaGrd
import Derived.Test.YtajmladlmkkimaaSame
namespace Go.Proofs.Ytajmladlmkkimaa
open Go.RowKit
set_option linter.unusedSimpArgs false
set_option linter.unusedVariables false

theorem clipF_any {w : World} {base : Nat} {v : Value} {n : Nat} {xs : List Value} (h : w.ownsRow base 75 3 v n xs) :
    Calls Try.prog 83 #[v] w (ClipPost w base 75 3 n v xs) := by
  rcases h.2 with ⟨rfl, h0⟩ | ⟨g, cap, cur, rfl, hbase, hb, h1, h2, h3, h4⟩
  · subst h0
    have hr := run_slice_clip_none (P := Try.prog) w 22 75 3 Try.underlying22 (Try.sizeOf75 w)
    have hx := h.1
    have hx2 := Lib.hid hx
    clear h hx
    go_enter Try.func83, Try.ntmps83
    go_wp2
    refine bodyPost_ret (v := .slice none 0 0) (by simp [results, Try.results83, go_sem]) rfl ?_
    exact ⟨_, rfl, ⟨hx2.out, .inl ⟨rfl, rfl⟩⟩, rfl, rfl⟩
  · have hr := run_slice_clip (P := Try.prog) w 22 75 3 Try.underlying22 (Try.sizeOf75 w) g n cap h1
    have HR := Lib.hid (show Rowed w base 75 3 (.slice (some ⟨g, 0, none⟩) n n) n xs from ⟨h.1, .inr ⟨g, cur, rfl, hbase, hb, by omega, by omega, h4⟩⟩)
    clear h hb h4 h3
    unfold maxLen at h2
    go_enter Try.func83, Try.ntmps83
    go_wp2
    refine bodyPost_ret (v := .slice (some ⟨g, 0, none⟩) n n) (by simp [results, Try.results83, go_sem]) rfl ?_
    exact ⟨_, rfl, HR.out, rfl, rfl⟩


end Go.Proofs.Ytajmladlmkkimaa

/-
  The program's graphs: New (written by gen_pgrn.py).
-/
namespace Go.Proofs.Ytajmladlmkkimaa
open Go.RowKit
set_option linter.unusedSimpArgs false
set_option linter.unusedVariables false


end Go.Proofs.Ytajmladlmkkimaa

/-
  The program's graphs: Of (written by gen_pgro.py).
-/
namespace Go.Proofs.Ytajmladlmkkimaa
open Go.RowKit
set_option linter.unusedSimpArgs false
set_option linter.unusedVariables false

theorem Blk.capSetN {w : World} {g : Nat} {f : Int → Int → Int} {b : Bool} {t : TypeId} (h : Blk w g (graC f b) t) {p q : Nat} (hp : p < 17) (hq : q < 17) (n : Int) :
    Blk (w.setCell ⟨g, p * 17 + q, none⟩ (.int .i64 n)) g (graC (updE f p q n) b) t := by
  have := h.set (p * 17 + q) (.int .i64 n)
  rw [graC_set f b hp hq] at this
  exact this
theorem Blk.capN {w : World} {g : Nat} {f : Int → Int → Int} {b : Bool} {t : TypeId} (h : Blk w g (graC f b) t) {p q : Nat} (hp : p < 17) (hq : q < 17) : w.cell? ⟨g, p * 17 + q, none⟩ = some (.int .i64 (f p q)) := by
  rw [h.cell, graC_at f b hp hq]
/-- Those capacities that are written so far. -/
def partF (rf : Int → Int → Int) (m : Nat) (a b : Int) : Int := if a * 17 + b < m then rf a b else 0
theorem partF_zero (rf : Int → Int → Int) : graC (partF rf 0) true = graC zeroF true := graC_congr true fun p q hp hq => by unfold partF zeroF; rw [if_neg (by omega)]
theorem partF_next (rf : Int → Int → Int) {p q : Nat} (hp : p < 17) (hq : q < 17) : graC (updE (partF rf (p * 17 + q)) p q (rf p q)) true = graC (partF rf (p * 17 + (q + 1))) true := graC_congr true fun a b ha hb => by
  unfold updE partF
  by_cases h : (a : Int) = p ∧ (b : Int) = q
  · rw [if_pos h, if_pos (by omega), h.1, h.2]
  · rw [if_neg h]
    by_cases h2 : (a : Int) * 17 + b < ((p * 17 + q : Nat) : Int)
    · rw [if_pos h2, if_pos (by omega)]
    · rw [if_neg h2, if_neg (by omega)]
theorem partF_all (rf : Int → Int → Int) : graC (partF rf (17 * 17)) true = graC rf true := graC_congr true fun p q hp hq => by unfold partF; rw [if_pos (by omega)]
def GOfAt (w : World) (rf : Int → Int → Int) (i : Value) (wr : World) : Prop :=
  ∃ p : Nat, p ≤ 17 ∧ i = .int .i64 p ∧ Blk wr w.heap.size (graC (partF rf (p * 17)) true) 132 ∧ Below w.heap.size w wr
def GOfIn (w : World) (rf : Int → Int → Int) (p : Nat) (i : Value) (wr : World) : Prop :=
  ∃ q : Nat, q ≤ 17 ∧ i = .int .i64 q ∧ Blk wr w.heap.size (graC (partF rf (p * 17 + q)) true) 132 ∧ Below w.heap.size w wr
set_option maxHeartbeats 16000000 in
set_option maxRecDepth 100000 in
theorem gof_any {w : World} {lv : Value} {c : Int} {rf : Int → Int → Int}
    (hr : ∀ w', Below w.heap.size w w' → ∀ p q : Int, In8 p → In8 q → Calls Try.prog 75 #[lv, .int .u8 p, .int .u8 q, .int .u8 c] w' fun e w'' => e = .returned (.int .i64 (rf p q)) ∧ Below w'.heap.size w' w'') :
    Calls Try.prog 32 #[lv, .int .u8 c] w fun e w' => e = .returned (.pointer (some ⟨w.heap.size, 0, none⟩)) ∧ Blk w' w.heap.size (graC rf true) 132 ∧ Below w.heap.size w w' := by
  have HR := Lib.hid hr
  clear hr
  have B0 := Lib.hid ((Below.refl w.heap.size w).alloc (Nat.le_refl _) (.cells (graC zeroF true) 132))
  have K0 := Blk.new w (graC zeroF true) 132
  have K0' := Lib.hid (show Blk (w.alloc (.cells (graC zeroF true) 132)) w.heap.size (graC (partF rf (0 * 17)) true) 132 from by
    rw [show 0 * 17 = 0 from rfl, partF_zero]; exact K0)
  clear K0
  go_enter Try.func32, Try.ntmps32
  go_wp2_with ((with_reducible refine wpList_build_of ?_ 132 #[(1, .const (.bool true))] ?_ #[(1, .bool true)] ?_ (graC zeroF true) (build_gra0 _) ?_); exact rfl; exact rfl; simp [Act.eval, Act.put])
  go_loopw [10] (GOfAt w rf) (fun i _ => 17 - (intOf i).toNat)
  case atStart => exact ⟨0, by omega, rfl, K0'.out, B0.out⟩
  case round =>
    clear K0' B0
    obtain ⟨p, hp, rfl, hG, hB⟩ := hrel
    have G1 := Lib.hid hG
    have B1 := Lib.hid hB
    clear hG hB
    by_cases hp2 : p < 17
    · have hpi : (p : Int) < 17 := by omega
      go_wp2_with fail
      go_loopw [13] (GOfIn w rf p) (fun i _ => 17 - (intOf i).toNat)
      case atStart => exact ⟨0, by omega, rfl, G1.out, B1.out⟩
      case round =>
        clear G1 B1
        obtain ⟨q, hq, rfl, hG, hB⟩ := hrel
        have G1 := Lib.hid hG
        have B1 := Lib.hid hB
        have hgl := hG.lt
        clear hG hB
        by_cases hq2 : q < 17
        · have hqi : (q : Int) < 17 := by omega
          have CR := Lib.hid (fun w' (k : Below wr.heap.size wr w') => HR.out w' (B1.out.trans (k.mono B1.out.size)) p q (by unfold In8; omega) (by unfold In8; omega))
          have NX := Lib.hid (partF_next rf hp2 hq2)
          obtain ⟨n, hn⟩ : ∃ n, rf p q = n := ⟨_, rfl⟩
          rw [hn] at CR NX
          clear hn
          go_wp2_with fail
          refine region_end (by kernel_rfl) 14 16 [(.pointer (some ⟨w.heap.size, 0, none⟩)), (.int .i64 p), (.int .i64 q), lv, (.int .i64 p), (.int .u8 p), (.int .i64 q), (.int .u8 q), (.int .u8 c), (.int .i64 n), (.pointer (some ⟨w.heap.size, 0, none⟩)), (.pointer (some ⟨w.heap.size, 0, none⟩)), (.pointer (some ⟨w.heap.size, p * 17, none⟩)), (.pointer (some ⟨w.heap.size, p * 17 + q, none⟩))]
            (fun w' => Below wr.heap.size wr w') (by kernel_rfl) rfl (by kernel_rfl) (Below.refl _ _).drew ?_
          intro af haf
          simp only [List.toList_toArray, List.append_eq, List.cons_append, List.nil_append, puts, Act.put, List.getD_cons_zero, List.getD_cons_succ, List.setIfInBounds_toArray, List.set_cons_succ, List.set_cons_zero] at haf
          subst haf
          refine ⟨?_, ?_⟩
          · simp only [List.toList_toArray, List.take_succ_cons, List.take_zero, EachTo]
            refine ⟨?_, ?_, ?_, ?_, ?_, ?_, ?_, ?_, ?_, ?_, ?_, ?_, ?_, ?_, trivial⟩
            · intro w' hS
              refine OpTo.plain ?_ ?_
              exact rfl
              have HS := Lib.hid hS
              clear hS
              go_wp2_with fail
              all_goals first | exact HS.out | exact ⟨rfl, HS.out⟩ | rfl | exact ⟨by omega, HS.out⟩
            · intro w' hS
              refine OpTo.plain ?_ ?_
              exact rfl
              have HS := Lib.hid hS
              clear hS
              go_wp2_with fail
              all_goals first | exact HS.out | exact ⟨rfl, HS.out⟩ | rfl | exact ⟨by omega, HS.out⟩
            · intro w' hS
              refine OpTo.plain ?_ ?_
              exact rfl
              have HS := Lib.hid hS
              clear hS
              go_wp2_with fail
              all_goals first | exact HS.out | exact ⟨rfl, HS.out⟩ | rfl | exact ⟨by omega, HS.out⟩
            · intro w' hS
              refine OpTo.plain ?_ ?_
              exact rfl
              have HS := Lib.hid hS
              clear hS
              go_wp2_with fail
              all_goals first | exact HS.out | exact ⟨rfl, HS.out⟩ | rfl | exact ⟨by omega, HS.out⟩
            · intro w' hS
              refine OpTo.plain ?_ ?_
              exact rfl
              have HS := Lib.hid hS
              clear hS
              go_wp2_with fail
              all_goals first | exact HS.out | exact ⟨rfl, HS.out⟩ | rfl | exact ⟨by omega, HS.out⟩
            · intro w' hS
              refine OpTo.plain ?_ ?_
              exact rfl
              have HS := Lib.hid hS
              clear hS
              go_wp2_with fail
              all_goals first | exact HS.out | exact ⟨rfl, HS.out⟩ | rfl | exact ⟨by omega, HS.out⟩
            · intro w' hS
              refine OpTo.plain ?_ ?_
              exact rfl
              have HS := Lib.hid hS
              clear hS
              go_wp2_with fail
              all_goals first | exact HS.out | exact ⟨rfl, HS.out⟩ | rfl | exact ⟨by omega, HS.out⟩
            · intro w' hS
              refine OpTo.plain ?_ ?_
              exact rfl
              have HS := Lib.hid hS
              clear hS
              go_wp2_with fail
              all_goals first | exact HS.out | exact ⟨rfl, HS.out⟩ | rfl | exact ⟨by omega, HS.out⟩
            · intro w' hS
              refine OpTo.plain ?_ ?_
              exact rfl
              have HS := Lib.hid hS
              clear hS
              go_wp2_with fail
              all_goals first | exact HS.out | exact ⟨rfl, HS.out⟩ | rfl | exact ⟨by omega, HS.out⟩
            · intro w' hS
              refine OpTo.plain ?_ ?_
              exact rfl
              have HS := Lib.hid hS
              clear hS
              go_wp2_with fail
              refine (CR.out w' HS.out).mono ?_
              rintro e w'' ⟨rfl, hb2⟩
              exact ⟨rfl, andB HS.out hb2⟩
            · intro w' hS
              refine OpTo.plain ?_ ?_
              exact rfl
              have kg := G1.out.below hS G1.out.lt
              have hl := kg.lt
              have HS := Lib.hid hS
              clear hS
              go_wp2_with fail
              all_goals first | exact HS.out | exact ⟨rfl, HS.out⟩ | rfl | exact ⟨by omega, HS.out⟩
            · intro w' hS
              refine OpTo.plain ?_ ?_
              exact rfl
              have kg := G1.out.below hS G1.out.lt
              have hl := kg.lt
              have HS := Lib.hid hS
              clear hS
              go_wp2_with fail
              all_goals first | exact HS.out | exact ⟨rfl, HS.out⟩ | rfl | exact ⟨by omega, HS.out⟩
            · intro w' hS
              refine OpTo.plain ?_ ?_
              exact rfl
              have kg := G1.out.below hS G1.out.lt
              have hl := kg.lt
              have HS := Lib.hid hS
              clear hS
              go_wp2_with fail
              all_goals first | exact HS.out | exact ⟨rfl, HS.out⟩ | rfl | exact ⟨by omega, HS.out⟩
            · intro w' hS
              refine OpTo.plain ?_ ?_
              exact rfl
              have kg := G1.out.below hS G1.out.lt
              have hl := kg.lt
              have HS := Lib.hid hS
              clear hS
              go_wp2_with fail
              all_goals first | exact HS.out | exact ⟨rfl, HS.out⟩ | rfl | exact ⟨by omega, HS.out⟩
          simp only [List.getD_cons_succ, List.getD_cons_zero, List.toList_toArray]
          intro w' hS
          refine OpTo.plain ?_ ?_
          exact rfl
          have kb := Lib.hid ((G1.out.below hS G1.out.lt).capSetN hp2 hq2 n)
          have dm := (G1.out.below hS G1.out.lt).capN hp2 hq2
          have fr := (G1.out.below hS G1.out.lt).frozen (p * 17 + q)
          have k4 := Lib.hid (((B1.out.trans (hS.mono B1.out.size)).setCell (p := ⟨w.heap.size, p * 17 + q, none⟩) (by simp) (.int .i64 n)))
          clear hS
          go_wp2_with fail
          generalize w'.setCell ⟨w.heap.size, p * 17 + q, none⟩ (.int .i64 n) = w4 at *
          go_roundw
          case rel => exact ⟨q + 1, by omega, by go_num, by rw [← NX.out]; exact kb.out, k4.out⟩
          case measure => simp [intOf]; omega
        · have hq17 : q = 17 := by omega
          subst hq17
          go_wp2_with fail
          go_roundw
          case rel => exact ⟨p + 1, by omega, by go_num, by rw [show (p + 1) * 17 = p * 17 + 17 by omega]; exact G1.out, B1.out⟩
          case measure => simp [intOf]; omega
    · have hp17 : p = 17 := by omega
      subst hp17
      rw [partF_all] at G1
      go_wp2_with fail
      go_ret
      exact ⟨rfl, G1.out, B1.out⟩

end Go.Proofs.Ytajmladlmkkimaa
