/-
  Layer 6's examples.
-/
import Derived.Test.YtlmebpplhpjdfaaPShort
import Derived.Test.YtlmebpplhpjdfaaPRound
import Derived.Test.YtlmebpplhpjdfaaPGrN
import Derived.Test.YtlmebpplhpjdfaaSameL
namespace Go.Proofs.Ytlmebpplhpjdfaa
open Go.RowKit
set_option linter.unusedSimpArgs false
set_option linter.unusedVariables false

def rdA : List Ed := [⟨1, 2, 1⟩, ⟨2, 3, 1⟩, ⟨3, 1, -3⟩]
def rdB : List Ed := [⟨1, 2, 1⟩, ⟨2, 1, -1⟩]
def rdC : List Ed := [⟨3, 3, -1⟩]
theorem rdA_eq : roundW rdA = [1, 2, 3] := by decide +kernel
theorem rdB_eq : roundW rdB = [] := by decide +kernel
theorem rdC_eq : roundW rdC = [3] := by decide +kernel
theorem rdA_fit : ∀ e ∈ rdA, e.Fits := by
  unfold rdA
  intro e he
  simp at he
  rcases he with rfl | rfl | rfl <;> exact ⟨by unfold In8; decide, by unfold In8; decide, by decide⟩
theorem rdB_fit : ∀ e ∈ rdB, e.Fits := by
  unfold rdB
  intro e he
  simp at he
  rcases he with rfl | rfl <;> exact ⟨by unfold In8; decide, by unfold In8; decide, by decide⟩
theorem rdC_fit : ∀ e ∈ rdC, e.Fits := by
  unfold rdC
  intro e he
  simp at he
  subst he
  exact ⟨by unfold In8; decide, by unfold In8; decide, by decide⟩
def lvS : List Fw := [⟨1, 2, 1⟩, ⟨2, 4, 1⟩, ⟨1, 3, 1⟩, ⟨3, 4, 1⟩, ⟨2, 3, 1⟩]
theorem lvS_a : shortW (newF lvS) 1 4 = [1, 2, 4] := by decide +kernel
theorem lvS_b : shortW (newF lvS) 4 1 = [] := by decide +kernel
theorem lvS_ok : okG lvS := by
  refine ⟨fun x hx => ?_, ?_⟩
  · unfold lvS at hx
    simp at hx
    rcases hx with rfl | rfl | rfl | rfl | rfl <;> (unfold okX; simp)
  · unfold lvS
    simp
/-- A row just laid, as a list of edges. -/
theorem reads_new {w : World} {cs : Array Value} {t : TypeId} {n size : Nat} {xs : List Value} (hn : n ≤ 100) (hx : xs.length = n * size) (hc : cs.toList = xs) :
    Reads (w.alloc (.cells cs t)) (.slice (some ⟨w.heap.size, 0, none⟩) n n) size n xs :=
  ⟨some ⟨w.heap.size, 0, none⟩, n, rfl, by omega, hx, fun _ => ⟨w.heap.size, 0, rfl, by simp, fun j hj => by
    rw [Nat.zero_add, (Blk.new w cs t).cell j, ← Array.getElem?_toList, hc]⟩⟩
set_option maxHeartbeats 8000000 in
set_option maxRecDepth 100000 in
theorem lives06_any (w : World) : Calls Try.prog 7 #[] w fun e w' => e = .returned (.bool true) ∧ Below w.heap.size w w' := by
  have B0 := Lib.hid ((Below.refl w.heap.size w).alloc (Nat.le_refl _) (.cells #[.int .u8 1, .int .u8 2, .int .i64 1, .int .u8 2, .int .u8 4, .int .i64 1, .int .u8 1, .int .u8 3, .int .i64 1, .int .u8 3, .int .u8 4, .int .i64 1, .int .u8 2, .int .u8 3, .int .i64 1] 58))
  have C1 := Lib.hid (gnew_any (es := lvS) (reads_new (w := w) (t := 58) (cs := #[.int .u8 1, .int .u8 2, .int .i64 1, .int .u8 2, .int .u8 4, .int .i64 1, .int .u8 1, .int .u8 3, .int .i64 1, .int .u8 3, .int .u8 4, .int .i64 1, .int .u8 2, .int .u8 3, .int .i64 1]) (by decide) (by decide) rfl) (by decide))
  go_enter Try.func7, Try.ntmps7
  go_wp2_with fail
  refine C1.out.mono ?_
  rintro e w1 ⟨b1, h1⟩
  obtain ⟨_, g, rfl, hg, k1⟩ := h1.resolve_right (fun h => h.1 lvS_ok)
  have B1 := Lib.hid (B0.out.trans (b1.mono B0.out.size))
  have KG := Lib.hid k1
  have I0 := Lib.hid (newF_inv lvS_ok.1)
  have C2 := Lib.hid (pshort_any (IsG.of KG.out) I0.out (a := 1) (b := 4) (by unfold In8; decide) (by unfold In8; decide))
  rw [lvS_a] at C2
  clear b1 k1 C1 B0 hg
  go_wp2_with fail
  refine C2.out.mono ?_
  rintro e w2 ⟨va, rfl, ra, b2⟩
  have RA := Lib.hid ra
  have B2 := Lib.hid (B1.out.trans (b2.mono B1.out.size))
  have KG2 := Lib.hid (KG.out.below b2 KG.out.lt)
  have E2 := Lib.hid (B2.out.alloc B2.out.size (.cells #[.int .u8 1, .int .u8 2, .int .i8 1, .int .u8 2, .int .u8 3, .int .i8 1, .int .u8 3, .int .u8 1, .int .i8 (-3)] 48))
  have F2 := Lib.hid (KG2.out.alloc (.cells #[.int .u8 1, .int .u8 2, .int .i8 1, .int .u8 2, .int .u8 3, .int .i8 1, .int .u8 3, .int .u8 1, .int .i8 (-3)] 48))
  have RA3 := Lib.hid (RA.out.alloc (.cells #[.int .u8 1, .int .u8 2, .int .i8 1, .int .u8 2, .int .u8 3, .int .i8 1, .int .u8 3, .int .u8 1, .int .i8 (-3)] 48))
  have C3 := Lib.hid (pround_any (es := rdA) (reads_new (w := w2) (t := 48) (cs := #[.int .u8 1, .int .u8 2, .int .i8 1, .int .u8 2, .int .u8 3, .int .i8 1, .int .u8 3, .int .u8 1, .int .i8 (-3)]) (by decide) (by decide) rfl) rdA_fit (by decide))
  rw [rdA_eq] at C3
  clear b2 ra C2 B1 KG B2 KG2 RA
  go_wp2_with fail
  refine C3.out.mono ?_
  rintro e w3 ⟨vb, rfl, rvb, b3⟩
  have RB := Lib.hid rvb
  have B3 := Lib.hid (E2.out.trans (b3.mono E2.out.size))
  have G3 := Lib.hid (F2.out.below b3 F2.out.lt)
  have RA4 := Lib.hid (Rowed.below RA3.out b3)
  clear b3 rvb C3 E2 F2 RA3
  have D3 := Lib.hid (B3.out.alloc B3.out.size (.cells #[.int .u8 1, .int .u8 2, .int .i8 1, .int .u8 2, .int .u8 1, .int .i8 (-1)] 48))
  have H3 := Lib.hid (G3.out.alloc (.cells #[.int .u8 1, .int .u8 2, .int .i8 1, .int .u8 2, .int .u8 1, .int .i8 (-1)] 48))
  have RA5 := Lib.hid (RA4.out.alloc (.cells #[.int .u8 1, .int .u8 2, .int .i8 1, .int .u8 2, .int .u8 1, .int .i8 (-1)] 48))
  have RB5 := Lib.hid (RB.out.alloc (.cells #[.int .u8 1, .int .u8 2, .int .i8 1, .int .u8 2, .int .u8 1, .int .i8 (-1)] 48))
  have C4 := Lib.hid (pround_any (es := rdB) (reads_new (w := w3) (t := 48) (cs := #[.int .u8 1, .int .u8 2, .int .i8 1, .int .u8 2, .int .u8 1, .int .i8 (-1)]) (by decide) (by decide) rfl) rdB_fit (by decide))
  rw [rdB_eq] at C4
  clear B3 G3 RA4 RB
  go_wp2_with fail
  refine C4.out.mono ?_
  rintro e w4 ⟨vc, rfl, rvc, b4⟩
  have RC := Lib.hid rvc
  have B4 := Lib.hid (D3.out.trans (b4.mono D3.out.size))
  have G4 := Lib.hid (H3.out.below b4 H3.out.lt)
  have RA6 := Lib.hid (Rowed.below RA5.out b4)
  have RB6 := Lib.hid (Rowed.below RB5.out b4)
  clear b4 rvc C4 D3 H3 RA5 RB5
  have D4 := Lib.hid (B4.out.alloc B4.out.size (.cells #[.int .u8 3, .int .u8 3, .int .i8 (-1)] 48))
  have H4 := Lib.hid (G4.out.alloc (.cells #[.int .u8 3, .int .u8 3, .int .i8 (-1)] 48))
  have RA7 := Lib.hid (RA6.out.alloc (.cells #[.int .u8 3, .int .u8 3, .int .i8 (-1)] 48))
  have RB7 := Lib.hid (RB6.out.alloc (.cells #[.int .u8 3, .int .u8 3, .int .i8 (-1)] 48))
  obtain ⟨aoc, cpc, rfl, _⟩ := RC.out.look
  clear RC
  have C5 := Lib.hid (pround_any (es := rdC) (reads_new (w := w4) (t := 48) (cs := #[.int .u8 3, .int .u8 3, .int .i8 (-1)]) (by decide) (by decide) rfl) rdC_fit (by decide))
  rw [rdC_eq] at C5
  clear B4 G4 RA6 RB6
  go_wp2_with fail
  refine C5.out.mono ?_
  rintro e w5 ⟨vd, rfl, rvd, b5⟩
  have RD := Lib.hid rvd
  have B5 := Lib.hid (D4.out.trans (b5.mono D4.out.size))
  have G5 := Lib.hid (H4.out.below b5 H4.out.lt)
  have RA8 := Lib.hid (Rowed.below RA7.out b5)
  have RB8 := Lib.hid (Rowed.below RB7.out b5)
  clear b5 rvd C5 D4 H4 RA7 RB7
  have D5 := Lib.hid (B5.out.alloc B5.out.size (.cells #[.int .u8 1, .int .u8 2, .int .u8 4] 23))
  have H5 := Lib.hid (G5.out.alloc (.cells #[.int .u8 1, .int .u8 2, .int .u8 4] 23))
  have RA9 := Lib.hid (RA8.out.alloc (.cells #[.int .u8 1, .int .u8 2, .int .u8 4] 23))
  have RB9 := Lib.hid (RB8.out.alloc (.cells #[.int .u8 1, .int .u8 2, .int .u8 4] 23))
  have RD9 := Lib.hid (RD.out.alloc (.cells #[.int .u8 1, .int .u8 2, .int .u8 4] 23))
  clear B5 G5 RA8 RB8 RD
  have S6 := Lib.hid (SameParties_any (la := [1, 2, 4]) (lb := [1, 2, 4]) (Rowed.reads RA9.out (by decide)) (reads_new (w := w5) (t := 23) (cs := #[.int .u8 1, .int .u8 2, .int .u8 4]) (by decide) (by decide) rfl))
  rw [decide_eq_true rfl] at S6
  go_wp2_with fail
  refine S6.out.mono ?_
  rintro e w6 ⟨rfl, b6⟩
  have B6 := Lib.hid (D5.out.trans (b6.mono D5.out.size))
  have G6 := Lib.hid (H5.out.below b6 H5.out.lt)
  have RB10 := Lib.hid (Rowed.below RB9.out b6)
  have RD10 := Lib.hid (Rowed.below RD9.out b6)
  clear b6 S6 D5 H5 RA9 RB9 RD9
  have C6 := Lib.hid (pshort_any (IsG.of G6.out) I0.out (a := 4) (b := 1) (by unfold In8; decide) (by unfold In8; decide))
  rw [lvS_b] at C6
  go_wp2_with fail
  refine C6.out.mono ?_
  rintro e w7 ⟨ve, rfl, rve, b7⟩
  have RE := Lib.hid rve
  have B7 := Lib.hid (B6.out.trans (b7.mono B6.out.size))
  have G7 := Lib.hid (G6.out.below b7 G6.out.lt)
  have RB11 := Lib.hid (Rowed.below RB10.out b7)
  have RD11 := Lib.hid (Rowed.below RD10.out b7)
  clear b7 rve C6 B6 G6 RB10 RD10
  obtain ⟨aoe, cpe, rfl, _⟩ := RE.out.look
  clear RE
  have D7 := Lib.hid (B7.out.alloc B7.out.size (.cells #[.int .u8 1, .int .u8 2, .int .u8 3] 23))
  have H7 := Lib.hid (G7.out.alloc (.cells #[.int .u8 1, .int .u8 2, .int .u8 3] 23))
  have RB12 := Lib.hid (RB11.out.alloc (.cells #[.int .u8 1, .int .u8 2, .int .u8 3] 23))
  have RD12 := Lib.hid (RD11.out.alloc (.cells #[.int .u8 1, .int .u8 2, .int .u8 3] 23))
  clear B7 G7 RB11 RD11
  have S8 := Lib.hid (SameParties_any (la := [1, 2, 3]) (lb := [1, 2, 3]) (Rowed.reads RB12.out (by decide)) (reads_new (w := w7) (t := 23) (cs := #[.int .u8 1, .int .u8 2, .int .u8 3]) (by decide) (by decide) rfl))
  rw [decide_eq_true rfl] at S8
  go_wp2_with fail
  refine S8.out.mono ?_
  rintro e w8 ⟨rfl, b8⟩
  have B8 := Lib.hid (D7.out.trans (b8.mono D7.out.size))
  have G8 := Lib.hid (H7.out.below b8 H7.out.lt)
  have RD13 := Lib.hid (Rowed.below RD12.out b8)
  clear b8 S8 D7 H7 RB12 RD12
  have D8 := Lib.hid (B8.out.alloc B8.out.size (.cells #[.int .u8 3] 23))
  have H8 := Lib.hid (G8.out.alloc (.cells #[.int .u8 3] 23))
  have RD14 := Lib.hid (RD13.out.alloc (.cells #[.int .u8 3] 23))
  clear B8 G8 RD13
  have S9 := Lib.hid (SameParties_any (la := [3]) (lb := [3]) (Rowed.reads RD14.out (by decide)) (reads_new (w := w8) (t := 23) (cs := #[.int .u8 3]) (by decide) (by decide) rfl))
  rw [decide_eq_true rfl] at S9
  go_wp2_with fail
  refine S9.out.mono ?_
  rintro e w9 ⟨rfl, b9⟩
  have B9 := Lib.hid (D8.out.trans (b9.mono D8.out.size))
  clear b9 S9 D8 H8 RD14 
  go_wp2_with fail
  go_ret
  exact ⟨rfl, B9.out⟩

end Go.Proofs.Ytlmebpplhpjdfaa
