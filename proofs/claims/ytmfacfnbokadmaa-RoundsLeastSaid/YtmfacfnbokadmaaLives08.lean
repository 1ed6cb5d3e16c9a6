/-
  Layer 8: what Least tells where the answer is known; the chapter's examples; the laws' own Sum, of, great.
-/
import Derived.Test.YtmfacfnbokadmaaPCancel
import Derived.Test.YtmfacfnbokadmaaSameL
import Derived.Test.YtmfacfnbokadmaaRdMath
import Derived.Test.YtmfacfnbokadmaaRef08
namespace Go.Proofs.Ytmfacfnbokadmaa
open Go.RowKit
set_option linter.unusedSimpArgs false
set_option linter.unusedVariables false

/-- What is told behind an errand that was done. -/
def DonePost (t : TypeId) (l : List Fw) (L : Nat → Int) (k : Nat) (w : World) (e : Ending) (w' : World) : Prop :=
  ∃ v, e = .returned (.tuple #[v, .int .i64 k, .int .i64 0]) ∧ Rowed w' w.heap.size t 3 v (leftL l L).length (fwCells (leftL l L)) ∧ Below w.heap.size w w'
/-- A row in a block, as a list. -/
theorem reads_blk {w : World} {g : Nat} {cs : Array Value} {t : TypeId} {n cap size : Nat} {xs : List Value} (hk : Blk w g cs t) (hn : n ≤ 100) (hx : xs.length = n * size) (hc : ∀ j, j < n * size → cs[j]? = xs[j]?) :
    Reads w (.slice (some ⟨g, 0, none⟩) n cap) size n xs :=
  ⟨some ⟨g, 0, none⟩, cap, rfl, by omega, hx, fun _ => ⟨g, 0, rfl, hk.lt, fun j hj => by
    rw [Nat.zero_add, hk.cell j]; exact hc j hj⟩⟩
section
variable {w : World} {ao : Option Addr} {cap : Nat} {l : List Fw}
theorem least_done (hr : DebtsIn w ao l) (hfit : DebtsFit l) (hln : l.length ≤ 240) {q : Int} {L : Nat → Int} {k : Nat} (hM : MayD l) (h0 : 0 ≤ q) (hL : IsLeast l L k) (hk : (k : Int) ≤ q) :
    Calls Try.prog 7 #[.slice ao l.length cap, .int .i64 q] w (DonePost 37 l L k w) := by
  refine (pleast_any hr hfit hln q).mono ?_
  rintro e w' ⟨hb, ⟨hn, _⟩ | ⟨_, _, M, j, hj, ⟨_, v, rfl, hv⟩ | ⟨hq, _⟩⟩⟩
  · exact absurd ⟨hM, h0⟩ hn
  · obtain ⟨rfl, rfl⟩ := hL.eq hj
    exact ⟨v, rfl, hv, hb⟩
  · obtain ⟨rfl, rfl⟩ := hL.eq hj
    omega
theorem least_out (hr : DebtsIn w ao l) (hfit : DebtsFit l) (hln : l.length ≤ 240) {q : Int} {L : Nat → Int} {k : Nat} (hM : MayD l) (h0 : 0 ≤ q) (hL : IsLeast l L k) (hk : q < (k : Int)) :
    Calls Try.prog 7 #[.slice ao l.length cap, .int .i64 q] w fun e w' => e = .returned (.tuple #[.slice none 0 0, .int .i64 0, .int .i64 13]) ∧ Below w.heap.size w w' := by
  refine (pleast_any hr hfit hln q).mono ?_
  rintro e w' ⟨hb, ⟨hn, _⟩ | ⟨_, _, M, j, hj, ⟨hq, _⟩ | ⟨hq, rfl⟩⟩⟩
  · exact absurd ⟨hM, h0⟩ hn
  · obtain ⟨rfl, rfl⟩ := hL.eq hj
    omega
  · exact ⟨rfl, hb⟩
theorem least_bad (hr : DebtsIn w ao l) (hfit : DebtsFit l) (hln : l.length ≤ 240) {q : Int} (hn : ¬ (MayD l ∧ 0 ≤ q)) :
    Calls Try.prog 7 #[.slice ao l.length cap, .int .i64 q] w fun e w' => e = .returned (.tuple #[.slice none 0 0, .int .i64 0, .int .i64 1]) ∧ Below w.heap.size w w' := by
  refine (pleast_any hr hfit hln q).mono ?_
  rintro e w' ⟨hb, ⟨_, rfl⟩ | ⟨h1, h2, _⟩⟩
  · exact ⟨rfl, hb⟩
  · exact absurd ⟨h1, h2⟩ hn
end

def lvD : List Fw := [⟨1, 2, 5⟩, ⟨2, 3, 3⟩, ⟨3, 1, 4⟩]
def lvL : List Fw := [⟨1, 2, 2⟩, ⟨3, 1, 1⟩]
def lvB : List Fw := [⟨1, 1, 5⟩]
theorem lvD_may : MayD lvD := (mayD_iff lvD).1 (by decide)
theorem lvD1_may : MayD [⟨1, 2, 5⟩] := (mayD_iff [⟨1, 2, 5⟩]).1 (by decide)
theorem lvD_least : IsLeast lvD (nextD lvD (amD lvD)) 1 ∧ leftL lvD (nextD lvD (amD lvD)) = lvL :=
  ⟨⟨(RdInv.start lvD_may).step lvD_may (by decide +kernel), by decide +kernel⟩, by decide +kernel⟩
theorem lvD1_least : IsLeast [⟨1, 2, 5⟩] (amD [⟨1, 2, 5⟩]) 0 ∧ leftL [⟨1, 2, 5⟩] (amD [⟨1, 2, 5⟩]) = [⟨1, 2, 5⟩] :=
  ⟨⟨RdInv.start lvD1_may, by decide +kernel⟩, by decide +kernel⟩
theorem lvD_fits : DebtsFit lvD := fit_debts (by intro x hx; unfold lvD at hx; simp at hx; rcases hx with rfl | rfl | rfl <;> exact ⟨by unfold In8; decide, by unfold In8; decide, by unfold In64; decide⟩)
theorem lvD1_fits : DebtsFit [⟨1, 2, 5⟩] := fit_debts (by intro x hx; simp at hx; rcases hx with rfl; exact ⟨by unfold In8; decide, by unfold In8; decide, by unfold In64; decide⟩)
theorem lvB_fits : DebtsFit lvB := fit_debts (by intro x hx; unfold lvB at hx; simp at hx; rcases hx with rfl; exact ⟨by unfold In8; decide, by unfold In8; decide, by unfold In64; decide⟩)
theorem lvB_not : ¬ (MayD lvB ∧ (0 : Int) ≤ 9) := fun h => (h.1.ok 0 (by decide)).2.2.1 rfl
set_option maxHeartbeats 16000000 in
set_option maxRecDepth 100000 in
theorem lives08_any (w : World) : Calls Try.prog 5 #[] w fun e w' => e = .returned (.bool true) ∧ Below w.heap.size w w' := by
  have B0 := Lib.hid ((Below.refl w.heap.size w).alloc (Nat.le_refl _) (.cells #[.int .u8 1, .int .u8 2, .int .i64 5, .int .u8 2, .int .u8 3, .int .i64 3, .int .u8 3, .int .u8 1, .int .i64 4] 37))
  have K0 := Lib.hid (Blk.new w #[.int .u8 1, .int .u8 2, .int .i64 5, .int .u8 2, .int .u8 3, .int .i64 3, .int .u8 3, .int .u8 1, .int .i64 4] 37)
  have RD : Hid (∀ w' cap, Blk w' w.heap.size #[.int .u8 1, .int .u8 2, .int .i64 5, .int .u8 2, .int .u8 3, .int .i64 3, .int .u8 3, .int .u8 1, .int .i64 4] 37 → Reads w' (.slice (some ⟨w.heap.size, 0, none⟩) lvD.length cap) 3 lvD.length (fwCells lvD)) := Lib.hid fun w' cap h => reads_blk h (by decide) (by decide) (fun j hj => by rw [← Array.getElem?_toList]; rfl)
  have RE : Hid (∀ w' cap, Blk w' w.heap.size #[.int .u8 1, .int .u8 2, .int .i64 5, .int .u8 2, .int .u8 3, .int .i64 3, .int .u8 3, .int .u8 1, .int .i64 4] 37 → Reads w' (.slice (some ⟨w.heap.size, 0, none⟩) [(⟨1, 2, 5⟩ : Fw)].length cap) 3 [(⟨1, 2, 5⟩ : Fw)].length (fwCells [⟨1, 2, 5⟩])) := Lib.hid fun w' cap h => reads_blk h (by decide) (by decide) (fun j hj => by
    have h3 : j < 3 := hj
    rcases (by omega : j = 0 ∨ j = 1 ∨ j = 2) with rfl | rfl | rfl <;> rfl)
  have C1 := Lib.hid (least_done (cap := 3) (q := 9) (reads_debts (RD.out _ 3 K0.out)) lvD_fits (by decide) lvD_may (by decide) lvD_least.1 (by decide))
  go_enter Try.func5, Try.ntmps5
  go_wp2_with fail
  refine C1.out.mono ?_
  rintro e w1 ⟨va, rfl, ra, b1⟩
  rw [lvD_least.2] at ra
  have RA1 := Lib.hid ra
  have B1 := Lib.hid (B0.out.trans (b1.mono B0.out.size))
  have K1 := Lib.hid (K0.out.below b1 K0.out.lt)
  have C2 := Lib.hid (least_out (cap := 3) (q := 0) (reads_debts (RD.out _ 3 K1.out)) lvD_fits (by decide) lvD_may (by decide) lvD_least.1 (by decide))
  obtain ⟨ao1, cp1, rfl, _⟩ := ra.look
  clear b1 ra C1 B0 K0
  go_wp2_with fail
  refine C2.out.mono ?_
  rintro e w2 ⟨rfl, b2⟩
  have RA2 := Lib.hid (RA1.out.below b2)
  have B2 := Lib.hid (B1.out.trans (b2.mono B1.out.size))
  have K2 := Lib.hid (K1.out.below b2 K1.out.lt)
  have C3 := Lib.hid (least_done (cap := 3) (q := 0) (reads_debts (RE.out _ 3 K2.out)) lvD1_fits (by decide) lvD1_may (by decide) lvD1_least.1 (by decide))
  clear b2 C2 B1 K1 RA1
  go_wp2_with fail
  refine C3.out.mono ?_
  rintro e w3 ⟨vb, rfl, rb, b3⟩
  rw [lvD1_least.2] at rb
  have RB3 := Lib.hid rb
  have RA3 := Lib.hid (RA2.out.below b3)
  have B3 := Lib.hid (B2.out.trans (b3.mono B2.out.size))
  have K3 := Lib.hid (K2.out.below b3 K2.out.lt)
  have C4 := Lib.hid (least_bad (q := 9) (w := w3.alloc (.cells #[.int .u8 1, .int .u8 1, .int .i64 5] 37)) (cap := 1) (l := lvB) (reads_debts (reads_blk (cap := 1) (Blk.new w3 #[.int .u8 1, .int .u8 1, .int .i64 5] 37) (by decide) (by decide) (fun j hj => by rw [← Array.getElem?_toList]; rfl))) lvB_fits (by decide) lvB_not)
  obtain ⟨ao3, cp3, rfl, _⟩ := rb.look
  have X3 := Lib.hid ((Below.refl w3.heap.size w3).alloc (Nat.le_refl _) (.cells #[.int .u8 1, .int .u8 1, .int .i64 5] 37))
  clear b3 rb C3 B2 K2 RA2
  go_wp2_with fail
  refine C4.out.mono ?_
  rintro e w4 ⟨rfl, b4⟩
  have X4 := Lib.hid (X3.out.trans (b4.mono X3.out.size))
  have RA4 := Lib.hid (RA3.out.below X4.out)
  have RB4 := Lib.hid (RB3.out.below X4.out)
  have B4 := Lib.hid (B3.out.trans (X4.out.mono B3.out.size))
  have K4 := Lib.hid (K3.out.below X4.out K3.out.lt)
  have X5 := Lib.hid ((Below.refl w4.heap.size w4).alloc (Nat.le_refl _) (.cells #[.int .u8 1, .int .u8 2, .int .i64 2, .int .u8 3, .int .u8 1, .int .i64 1] 37))
  have RL := Lib.hid (reads_blk (cap := 2) (xs := fwCells lvL) (n := 2) (size := 3) (Blk.new w4 #[.int .u8 1, .int .u8 2, .int .i64 2, .int .u8 3, .int .u8 1, .int .i64 1] 37) (by decide) (by decide) (fun j hj => by rw [← Array.getElem?_toList]; rfl))
  have S1 := Lib.hid (SameFlows_any (la := lvL) (lb := lvL) ((RA4.out.below X5.out).reads (by decide)) RL.out)
  rw [decide_eq_true rfl] at S1
  clear b4 C4 B3 K3 RA3 RB3 X3 X4
  go_wp2_with fail
  refine S1.out.mono ?_
  rintro e w5 ⟨rfl, b5⟩
  have X6 := Lib.hid (X5.out.trans (b5.mono X5.out.size))
  have B5 := Lib.hid (B4.out.trans (X6.out.mono B4.out.size))
  have S2 := Lib.hid (SameFlows_any (la := [⟨1, 2, 5⟩]) (lb := [⟨1, 2, 5⟩]) ((RB4.out.below X6.out).reads (by decide)) (RE.out _ 3 (K4.out.below X6.out K4.out.lt)))
  rw [decide_eq_true rfl] at S2
  clear b5 S1 B4 K4 RA4 RB4 X5 X6 RL
  go_wp2_with fail
  refine S2.out.mono ?_
  rintro e w6 ⟨rfl, b6⟩
  have B6 := Lib.hid (B5.out.trans (b6.mono B5.out.size))
  clear b6 S2 B5
  go_wp2_with fail
  go_ret
  exact ⟨rfl, B6.out⟩

end Go.Proofs.Ytmfacfnbokadmaa

/-
  Layer 8's laws: great, Sum, of.
-/
namespace Go.Proofs.Ytmfacfnbokadmaa
open Go.RowKit
set_option linter.unusedSimpArgs false
set_option linter.unusedVariables false

def GreatAt (w : World) (l : List Fw) (s i : Value) (wr : World) : Prop := ∃ (k : Nat) (x : Int), k ≤ l.length ∧ i = .int .i64 k ∧ s = .int .i64 x ∧ 0 ≤ x ∧ x ≤ 1125899906842624 * (k : Int) ∧ wr = w
set_option maxHeartbeats 4000000 in
theorem great_any {w : World} {ao : Option Addr} {cap : Nat} {l : List Fw} (hr : DebtsIn w ao l) :
    Calls Try.prog 4 #[.slice ao l.length cap] w fun e w' => (∃ b, e = .returned (.bool b) ∧ (b = false → l.length ≤ 240)) ∧ w' = w := by
  have HC := Lib.hid hr
  clear hr
  by_cases hl : 240 < l.length
  · have q : decide ((240 : Int) < (l.length : Int)) = true := by simp; omega
    go_enter Try.func4, Try.ntmps4
    go_wp2_with fail
    go_ret
    exact ⟨⟨true, rfl, fun h => by cases h⟩, rfl⟩
  have q : decide ((240 : Int) < (l.length : Int)) = false := by simp; omega
  have hl2 : (l.length : Int) ≤ 240 := by omega
  have HL : Hid (l.length ≤ 240) := Lib.hid (by omega)
  go_enter Try.func4, Try.ntmps4
  go_wp2_with fail
  go_loopw [3, 4] (GreatAt w l) (fun _ i _ => l.length - (intOf i).toNat)
  case atStart => exact ⟨0, 0, by omega, rfl, rfl, by omega, by simp, rfl⟩
  case round =>
    obtain ⟨k, x, hk, rfl, rfl, hx0, hx9, rfl⟩ := hrel
    by_cases hkl : k < l.length
    · have qk : decide ((k : Int) < (l.length : Int)) = true := by simpa using hkl
      have k0 : (0 : Int) ≤ (k : Int) := by omega
      have k1 : (k : Int) < (l.length : Int) := by omega
      obtain ⟨b, off, rfl, hbw, hcell⟩ := HC.out (by omega)
      obtain ⟨_, _, e2⟩ := hcell k hkl
      have hx8 : x ≤ 270215977642229760 := by omega
      have HX9 := Lib.hid hx9
      obtain ⟨n, hn⟩ : ∃ n, (dbt l k).am = n := ⟨_, rfl⟩
      rw [hn] at e2
      have HLT := Lib.hid hkl
      clear hcell hn hx9
      by_cases h1 : 0 < n
      · have q1 : decide (0 < n) = true := by simpa using h1
        by_cases h2 : n < 1125899906842624
        · have q2 : decide (n < 1125899906842624) = true := by simpa using h2
          go_wp2_with fail
          refine ⟨⟨k + 1, x + n, by have := HLT.out; omega, by go_num, rfl, by omega, by have := HX9.out; rw [Int.natCast_add, Int.mul_add]; omega, rfl⟩, by simp [intOf]; have := HLT.out; omega⟩
        · have q2 : decide (n < 1125899906842624) = false := by simpa using h2
          go_wp2_with fail
          exact ⟨⟨k + 1, x, by have := HLT.out; omega, by go_num, rfl, hx0, by have := HX9.out; rw [Int.natCast_add, Int.mul_add]; omega, rfl⟩, by simp [intOf]; have := HLT.out; omega⟩
      · have q1 : decide (0 < n) = false := by simpa using h1
        go_wp2_with fail
        exact ⟨⟨k + 1, x, by have := HLT.out; omega, by go_num, rfl, hx0, by have := HX9.out; rw [Int.natCast_add, Int.mul_add]; omega, rfl⟩, by simp [intOf]; have := HLT.out; omega⟩
    · have hkn : k = l.length := by omega
      subst hkn
      have qk : decide (((l.length : Nat) : Int) < (l.length : Int)) = false := by simp
      clear hx9
      by_cases h70 : 70 < l.length
      · have q1 : decide ((70 : Int) < (l.length : Int)) = true := by simp; omega
        go_wp2_with fail
        go_ret
        exact ⟨⟨_, rfl, fun _ => HL.out⟩, rfl⟩
      · have q1 : decide ((70 : Int) < (l.length : Int)) = false := by simp; omega
        go_wp2_with fail
        go_ret
        exact ⟨⟨_, rfl, fun _ => HL.out⟩, rfl⟩
/-- How much of a debt of these ends there is: the first one's, or nothing. -/
def ofN (l : List Fw) (a b : Int) : Nat → Int
  | 0 => 0
  | k + 1 => if (dbt l (l.length - (k + 1))).fr = a ∧ (dbt l (l.length - (k + 1))).tt = b then (dbt l (l.length - (k + 1))).am else ofN l a b k
def ofL (l : List Fw) (a b : Int) : Int := ofN l a b l.length
theorem ofN_next (l : List Fw) (a b : Int) {k : Nat} (hk : k < l.length) : ofN l a b (l.length - k) = if (dbt l k).fr = a ∧ (dbt l k).tt = b then (dbt l k).am else ofN l a b (l.length - (k + 1)) := by
  rw [show l.length - k = (l.length - (k + 1)) + 1 by omega]
  show (if (dbt l (l.length - (l.length - (k + 1) + 1))).fr = a ∧ _ then _ else _) = _
  rw [show l.length - (l.length - (k + 1) + 1) = k by omega]

end Go.Proofs.Ytmfacfnbokadmaa
