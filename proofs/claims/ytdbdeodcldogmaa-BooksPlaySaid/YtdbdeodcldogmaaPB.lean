/-
  The program's books: which offers may be; New, Next, all, made.
-/
import Derived.Test.YtdbdeodcldogmaaRef04
import Derived.Test.YtdbdeodcldogmaaRats2
namespace Go.Proofs.Ytdbdeodcldogmaa
open Go.RowKit
set_option linter.unusedSimpArgs false
set_option linter.unusedVariables false

/-- The program's book: block g, its offers in a row of its own. -/
structure PB (w : World) (base g : Nat) (l : List Of) (N : Int) (vl : Value) : Prop where
  blk : Blk w g #[vl, .int .u64 N] 63
  ge : base ≤ g
  row : w.ownsRow base 75 7 vl l.length (ofCells l)
/-- The blocks of a book. -/
def Foot (g : Nat) (vl : Value) (b : Nat) : Prop := b = g ∨ vl.ownBlock = some b
/-- The row lies where it lay, or in a new block. -/
def Moved (w : World) (vl vl' : Value) : Prop := ∀ b, vl'.ownBlock = some b → vl.ownBlock = some b ∨ w.heap.size ≤ b
theorem Moved.refl (w : World) (vl : Value) : Moved w vl vl := fun _ h => .inl h
theorem Moved.of_le {w w' : World} {vl vl' : Value} (h : Moved w' vl vl') (hle : w.heap.size ≤ w'.heap.size) : Moved w vl vl' := fun b hb => (h b hb).imp id (fun q => Nat.le_trans hle q)
theorem PB.keep {S : Nat → Prop} {w w' : World} {base g : Nat} {l : List Of} {N : Int} {vl : Value} (h : PB w base g l N vl) (k : Keep S w w') (h1 : ¬ S g) (h2 : ∀ b, vl.ownBlock = some b → ¬ S b) : PB w' base g l N vl := ⟨h.blk.keep k h1, h.ge, owns_keep h.row k h2⟩
theorem PB.below {w w' : World} {base g : Nat} {l : List Of} {N : Int} {vl : Value} (h : PB w base g l N vl) (k : Below w.heap.size w w') : PB w' base g l N vl := h.keep (Keep.of_below (S := fun _ => False) k) id (fun _ _ => id)
theorem PB.lt {w : World} {base g : Nat} {l : List Of} {N : Int} {vl : Value} (h : PB w base g l N vl) {b : Nat} (hb : Foot g vl b) : base ≤ b ∧ b < w.heap.size := by
  rcases hb with rfl | hb
  · exact ⟨h.ge, h.blk.lt⟩
  · exact ⟨(owns_type h.row hb).1, (owns_type h.row hb).2.1⟩
theorem PB.apart {w : World} {base g : Nat} {l : List Of} {N : Int} {vl : Value} (h : PB w base g l N vl) : ∀ b, vl.ownBlock = some b → b ≠ g := owns_ne h.row h.blk (by decide)
/-- Offers as a book has them. -/
structure BInv (l : List Of) (N : Int) : Prop where
  may : ∀ x ∈ l, x.may
  rise : l.Pairwise fun x y => x.se < y.se
  bd : ∀ x ∈ l, 1 ≤ x.se ∧ x.se < N
  len : l.length ≤ 32
  n1 : 1 ≤ N
  n2 : N ≤ 18446744073709551615
theorem BInv.nil {N : Int} (h1 : 1 ≤ N) (h2 : N ≤ 18446744073709551615) : BInv [] N := ⟨by simp, List.Pairwise.nil, by simp, by simp, h1, h2⟩
theorem Of.may.fits {x : Of} (h : x.may) (h1 : 0 ≤ x.se ∧ x.se ≤ 18446744073709551615) : x.Fits := by
  obtain ⟨⟨a1, a2⟩, ⟨b1, b2⟩, ⟨c1, c2⟩, _, ⟨d1, d2⟩, e⟩ := h
  obtain ⟨r1, r2, r3, r4, _⟩ := may_bd e
  exact ⟨h1, ⟨by omega, by omega⟩, ⟨by omega, by omega⟩, ⟨by omega, by omega⟩, ⟨by omega, by omega⟩, ⟨by omega, by omega⟩, ⟨by omega, by omega⟩⟩
theorem BInv.fits {l : List Of} {N : Int} (h : BInv l N) {x : Of} (hx : x ∈ l) : x.Fits := by
  have := h.bd x hx
  have := h.n2
  exact (h.may x hx).fits ⟨by omega, by omega⟩

theorem currm_any (c : Int) (w : World) :
    Calls Try.prog 59 #[.int .u8 c] w fun e w' => e = .returned (.bool (decide (1 ≤ c ∧ c ≤ 8))) ∧ w' = w := by
  by_cases h1 : 1 ≤ c
  · have e1 : decide (1 ≤ c) = true := by simpa using h1
    by_cases h2 : c ≤ 8
    · rw [decide_eq_true ⟨h1, h2⟩]
      have e2 : decide (c ≤ 8) = true := by simpa using h2
      clear h1 h2
      go_enter Try.func59, Try.ntmps59
      go_wp2
      go_ret
      exact ⟨rfl, rfl⟩
    · rw [decide_eq_false (fun k => h2 k.2)]
      have e2 : decide (c ≤ 8) = false := by simpa using h2
      clear h1 h2
      go_enter Try.func59, Try.ntmps59
      go_wp2
      go_ret
      exact ⟨rfl, rfl⟩
  · rw [decide_eq_false (fun k => h1 k.1)]
    have e1 : decide (1 ≤ c) = false := by simpa using h1
    clear h1
    go_enter Try.func59, Try.ntmps59
    go_wp2
    go_ret
    exact ⟨rfl, rfl⟩
set_option maxHeartbeats 4000000 in
theorem pmay_any (x : Of) (w : World) (hf : x.Fits) :
    Calls Try.prog 37 #[.agg #[.int .u64 x.se, .int .u8 x.ow, .int .u8 x.sl, .int .u8 x.bu, .int .i64 x.lf, .int .i64 x.nu, .int .i64 x.de]] w fun e w' => e = .returned (.bool (decide x.may)) ∧ Below w.heap.size w w' := by
  have B0 := Lib.hid ((Below.refl w.heap.size w).alloc (Nat.le_refl _) (.cells #[.int .u64 x.se, .int .u8 x.ow, .int .u8 x.sl, .int .u8 x.bu, .int .i64 x.lf, .int .i64 x.nu, .int .i64 x.de] 75))
  have C := Lib.hid (fun w => may_any x.nu x.de w hf.nu hf.de)
  have C1 := Lib.hid (fun w => currm_any x.sl w)
  have C2 := Lib.hid (fun w => currm_any x.bu w)
  clear hf
  by_cases h0 : ¬ 1 ≤ x.ow
  · rw [decide_eq_false (fun k : x.may => by have := k.1; omega)]
    clear C C1 C2
    have e1 : decide (1 ≤ x.ow) = false := by simpa using h0
    clear h0
    go_enter Try.func37, Try.ntmps37
    go_wp2_with fail
    go_ret
    exact ⟨rfl, B0.out⟩
  have h0 := Decidable.not_not.1 h0
  have e1 : decide (1 ≤ x.ow) = true := by simpa using h0
  by_cases h1 : ¬ x.ow ≤ 16
  · rw [decide_eq_false (fun k : x.may => by have := k.1; omega)]
    clear C C1 C2
    have e2 : decide (x.ow ≤ 16) = false := by simpa using h1
    clear h0 h1
    go_enter Try.func37, Try.ntmps37
    go_wp2_with fail
    go_ret
    exact ⟨rfl, B0.out⟩
  have h1 := Decidable.not_not.1 h1
  have e2 : decide (x.ow ≤ 16) = true := by simpa using h1
  by_cases h2 : ¬ (1 ≤ x.sl ∧ x.sl ≤ 8)
  · rw [decide_eq_false (fun k : x.may => h2 k.2.1)]
    rw [decide_eq_false h2] at C1
    clear C C2 h0 h1 h2
    go_enter Try.func37, Try.ntmps37
    go_wp2_with fail
    refine (C1.out _).mono ?_
    rintro e w1 ⟨rfl, rfl⟩
    go_wp2_with fail
    go_ret
    exact ⟨rfl, B0.out⟩
  have h2 := Decidable.not_not.1 h2
  rw [decide_eq_true h2] at C1
  by_cases h3 : ¬ (1 ≤ x.bu ∧ x.bu ≤ 8)
  · rw [decide_eq_false (fun k : x.may => h3 k.2.2.1)]
    rw [decide_eq_false h3] at C2
    clear C h0 h1 h2 h3
    go_enter Try.func37, Try.ntmps37
    go_wp2_with fail
    refine (C1.out _).mono ?_
    rintro e w1 ⟨rfl, rfl⟩
    go_wp2_with fail
    refine (C2.out _).mono ?_
    rintro e w1 ⟨rfl, rfl⟩
    go_wp2_with fail
    go_ret
    exact ⟨rfl, B0.out⟩
  have h3 := Decidable.not_not.1 h3
  rw [decide_eq_true h3] at C2
  by_cases h4 : x.sl = x.bu
  · rw [decide_eq_false (fun k : x.may => k.2.2.2.1 h4)]
    have e3 : (x.sl == x.bu) = true := by simpa using h4
    have e4 : (x.sl != x.bu) = false := by simpa using h4
    clear C h0 h1 h2 h3 h4
    go_enter Try.func37, Try.ntmps37
    go_wp2_with fail
    refine (C1.out _).mono ?_
    rintro e w1 ⟨rfl, rfl⟩
    go_wp2_with fail
    refine (C2.out _).mono ?_
    rintro e w1 ⟨rfl, rfl⟩
    go_wp2_with fail
    go_ret
    exact ⟨rfl, B0.out⟩
  have e3 : (x.sl == x.bu) = false := by simpa using h4
  have e4 : (x.sl != x.bu) = true := by simpa using h4
  by_cases h5 : ¬ 1 ≤ x.lf
  · rw [decide_eq_false (fun k : x.may => by have := k.2.2.2.2.1; omega)]
    have e5 : decide (1 ≤ x.lf) = false := by simpa using h5
    clear C h0 h1 h2 h3 h4 h5
    go_enter Try.func37, Try.ntmps37
    go_wp2_with fail
    refine (C1.out _).mono ?_
    rintro e w1 ⟨rfl, rfl⟩
    go_wp2_with fail
    refine (C2.out _).mono ?_
    rintro e w1 ⟨rfl, rfl⟩
    go_wp2_with fail
    go_ret
    exact ⟨rfl, B0.out⟩
  have h5 := Decidable.not_not.1 h5
  have e5 : decide (1 ≤ x.lf) = true := by simpa using h5
  by_cases h6 : ¬ x.lf ≤ 1099511627776
  · rw [decide_eq_false (fun k : x.may => by have := k.2.2.2.2.1; omega)]
    have e6 : decide (x.lf ≤ 1099511627776) = false := by simpa using h6
    clear C h0 h1 h2 h3 h4 h5 h6
    go_enter Try.func37, Try.ntmps37
    go_wp2_with fail
    refine (C1.out _).mono ?_
    rintro e w1 ⟨rfl, rfl⟩
    go_wp2_with fail
    refine (C2.out _).mono ?_
    rintro e w1 ⟨rfl, rfl⟩
    go_wp2_with fail
    go_ret
    exact ⟨rfl, B0.out⟩
  have h6 := Decidable.not_not.1 h6
  have e6 : decide (x.lf ≤ 1099511627776) = true := by simpa using h6
  have hd : decide x.may = mayB x.nu x.de := by
    cases hb : mayB x.nu x.de with
    | true => exact decide_eq_true ⟨⟨h0, h1⟩, h2, h3, h4, ⟨h5, h6⟩, hb⟩
    | false => exact decide_eq_false (fun k => by have := k.2.2.2.2.2; rw [hb] at this; cases this)
  rw [hd]
  clear hd h0 h1 h2 h3 h4 h5 h6
  generalize mayB x.nu x.de = r at *
  go_enter Try.func37, Try.ntmps37
  go_wp2_with fail
  refine (C1.out _).mono ?_
  rintro e w1 ⟨rfl, rfl⟩
  go_wp2_with fail
  refine (C2.out _).mono ?_
  rintro e w1 ⟨rfl, rfl⟩
  go_wp2_with fail
  refine (C.out _).mono ?_
  rintro e w1 ⟨rfl, b1⟩
  have B1 := Lib.hid (B0.out.trans (b1.mono B0.out.size))
  clear b1 C B0
  go_wp2_with fail
  go_ret
  exact ⟨rfl, B1.out⟩
theorem pnew_any (w : World) (base : Nat) (hb : base ≤ w.heap.size) :
    Calls Try.prog 10 #[] w fun e w' => e = .returned (.pointer (some ⟨w.heap.size, 0, none⟩)) ∧ PB w' base w.heap.size [] 1 (.slice none 0 0) ∧ Below w.heap.size w w' := by
  have K := Lib.hid (Blk.new w #[.slice none 0 0, .int .u64 1] 63)
  go_enter Try.func10, Try.ntmps10
  go_wp2
  go_ret
  exact ⟨rfl, ⟨K.out, hb, World.ownsRow_nil _ _ _ _⟩, (Below.refl _ _).alloc (Nat.le_refl _) _⟩
theorem pnext_nil (w : World) :
    Calls Try.prog 33 #[.pointer none] w fun e w' => e = .returned (.int .u64 0) ∧ w = w' := by
  go_enter Try.func33, Try.ntmps33
  go_wp2
  go_ret
  exact ⟨rfl, rfl⟩
theorem pnext_any {w : World} {g : Nat} {vl : Value} {N : Int} (h : Blk w g #[vl, .int .u64 N] 63) :
    Calls Try.prog 33 #[.pointer (some ⟨g, 0, none⟩)] w fun e w' => e = .returned (.int .u64 N) ∧ w = w' := by
  have hl := h.lt
  have d1 := h.cell 1
  simp at d1
  clear h
  go_enter Try.func33, Try.ntmps33
  go_wp2
  go_ret
  exact ⟨rfl, rfl⟩
theorem pmade_nil (w : World) :
    Calls Try.prog 39 #[.pointer none] w fun e w' => e = .returned (.bool false) ∧ w = w' := by
  have C := Lib.hid (pnext_nil w)
  go_enter Try.func39, Try.ntmps39
  go_wp2_with fail
  refine C.out.mono ?_
  rintro e w ⟨rfl, rfl⟩
  go_wp2_with fail
  go_ret
  exact ⟨rfl, rfl⟩
theorem pmade_zero {w : World} {g : Nat} {vl : Value} (h : Blk w g #[vl, .int .u64 0] 63) :
    Calls Try.prog 39 #[.pointer (some ⟨g, 0, none⟩)] w fun e w' => e = .returned (.bool false) ∧ w = w' := by
  have C := Lib.hid (pnext_any h)
  clear h
  go_enter Try.func39, Try.ntmps39
  go_wp2_with fail
  refine C.out.mono ?_
  rintro e w ⟨rfl, rfl⟩
  go_wp2_with fail
  go_ret
  exact ⟨rfl, rfl⟩
theorem pmade_any {w : World} {g : Nat} {vl : Value} {N : Int} (h : Blk w g #[vl, .int .u64 N] 63) (h1 : 1 ≤ N) :
    Calls Try.prog 39 #[.pointer (some ⟨g, 0, none⟩)] w fun e w' => e = .returned (.bool true) ∧ w = w' := by
  have C := Lib.hid (pnext_any h)
  have e1 : (N == 0) = false := by simp; omega
  have e2 : (N != 0) = true := by simp; omega
  clear h h1
  go_enter Try.func39, Try.ntmps39
  go_wp2_with fail
  refine C.out.mono ?_
  rintro e w ⟨rfl, rfl⟩
  go_wp2_with fail
  go_ret
  exact ⟨rfl, rfl⟩
theorem ball_nil (w : World) :
    Calls Try.prog 45 #[.pointer none] w fun e w' => e = .returned (.slice none 0 0) ∧ w = w' := by
  go_enter Try.func45, Try.ntmps45
  go_wp2
  go_ret
  exact ⟨rfl, rfl⟩
theorem ball_any {w : World} {g : Nat} {ao : Option Addr} {n c : Nat} {N : Int} (h : Blk w g #[.slice ao n c, .int .u64 N] 63) :
    Calls Try.prog 45 #[.pointer (some ⟨g, 0, none⟩)] w fun e w' => e = .returned (.slice ao n c) ∧ w = w' := by
  have hl := h.lt
  have d1 := h.cell 0
  simp at d1
  clear h
  go_enter Try.func45, Try.ntmps45
  go_wp2
  go_ret
  exact ⟨rfl, rfl⟩

end Go.Proofs.Ytdbdeodcldogmaa
