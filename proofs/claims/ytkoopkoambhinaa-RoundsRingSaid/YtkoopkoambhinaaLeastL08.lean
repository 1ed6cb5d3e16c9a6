/-
  Layer 8's laws: Least (nothing less could be left).
-/
import Derived.Test.YtkoopkoambhinaaLives08
import Derived.Test.YtkoopkoambhinaaPathsCheap
namespace Go.Proofs.Ytkoopkoambhinaa
open Go.RowKit
set_option linter.unusedSimpArgs false
set_option linter.unusedVariables false

theorem Blk.kAt {w : World} {g : Nat} {f : Int → Int → Int} {t : TypeId} (h : Blk w g (capA f) t) {p q : Int} (h0 : 0 ≤ p) (h1 : p < 17) (h2 : 0 ≤ q) (h3 : q < 17) : w.cell? ⟨g, p.toNat * 17 + q.toNat, none⟩ = some (.int .i64 (f p q)) := by
  unfold capA at h
  rw [h.cell, gridA_at _ (by omega) (by omega), Int.toNat_of_nonneg h0, Int.toNat_of_nonneg h2]
theorem Blk.kSet {w : World} {g : Nat} {f : Int → Int → Int} {t : TypeId} (h : Blk w g (capA f) t) {p q : Int} (h0 : 0 ≤ p) (h1 : p < 17) (h2 : 0 ≤ q) (h3 : q < 17) (n : Int) : Blk (w.setCell ⟨g, p.toNat * 17 + q.toNat, none⟩ (.int .i64 n)) g (capA (updE f p q n)) t := by
  have := h.set (p.toNat * 17 + q.toNat) (.int .i64 n)
  rw [capA_set f (by omega) (by omega), Int.toNat_of_nonneg h0, Int.toNat_of_nonneg h2] at this
  exact this
/-- No way is shorter than what stands between its ends, nor than how far apart these are. -/
structure LowD (far : Int → Int) (c : Int → Int → Int) : Prop where
  hi : ∀ a b, c a b ≤ 1048576
  lo : ∀ a b, far b ≤ far a + c a b
  bd : ∀ p, -1000000 ≤ far p ∧ far p ≤ 0
theorem LowD.none {far : Int → Int} (h : ∀ p, -1000000 ≤ far p ∧ far p ≤ 0) : LowD far noneF :=
  ⟨fun a b => Int.le_refl _, fun a b => by have := h a; have := h b; show far b ≤ far a + 1048576; omega, h⟩
theorem LowD.put {far : Int → Int} {c : Int → Int → Int} (h : LowD far c) {a b v : Int} (h1 : far b ≤ far a + v) (h2 : v ≤ 1048576) : LowD far (updE c a b v) := by
  refine ⟨fun x y => ?_, fun x y => ?_, h.bd⟩
  · unfold updE
    split
    · exact h2
    · exact h.hi x y
  · unfold updE
    split
    · rename_i hc; rw [hc.1, hc.2]; exact h1
    · exact h.lo x y
theorem LowD.low {far : Int → Int} {c : Int → Int → Int} (h : LowD far c) (a b : Int) : -1000000 ≤ c a b ∧ c a b ≤ 1048576 := by
  have := h.hi a b
  have := h.lo a b
  have := h.bd a
  have := h.bd b
  omega
theorem far_bounded {es : List Ed} (hco : ∀ e ∈ es, -128 ≤ e.co ∧ e.co ≤ 127) (hlen : es.length ≤ 480) (h : roundW es = []) : ∃ far : Int → Int, (∀ e ∈ es, okEd e → far e.tt ≤ far e.fr + e.co) ∧ ∀ p, -1000000 ≤ far p ∧ far p ≤ 0 := by
  have key : ∃ n, n < 16 ∧ (passN es (n + 1)).pt = 0 := by
    unfold roundW at h
    split at h
    · unfold roundL backL at h; cases h
    · rename_i hc
      refine Classical.byContradiction fun hn => hc (List.all_eq_true.2 fun n hm => ?_)
      have : (passN es (n + 1)).pt ≠ 0 := fun he => hn ⟨n, by simpa using hm, he⟩
      simpa using this
  obtain ⟨n, hn, hp⟩ := key
  have hs := still_pass hp
  have hb := passN_bd (fun e he => (hco e he).1) n
  refine ⟨(passN es n).far, fun e he ho => hs e he ho, fun p => ?_⟩
  have h1 := hb p
  have h2 : n * es.length ≤ 15 * 480 := Nat.mul_le_mul (by omega) hlen
  omega
/-- What Least asks of both lists. -/
structure LeastI (far : Int → Int) (l m : List Fw) : Prop where
  lenL : l.length ≤ 240
  lenM : m.length ≤ 240
  okM : ∀ i, i < m.length → (0 ≤ (dbt m i).fr ∧ (dbt m i).fr ≤ 16) ∧ (0 ≤ (dbt m i).tt ∧ (dbt m i).tt ≤ 16)
  down : ∀ i, i < m.length → 0 < ofL l (dbt m i).fr (dbt m i).tt → far (dbt m i).tt ≤ far (dbt m i).fr - 1
  up : ∀ i, i < m.length → ofL l (dbt m i).fr (dbt m i).tt < (dbt m i).am → far (dbt m i).fr ≤ far (dbt m i).tt + 1
  bd : ∀ p, -1000000 ≤ far p ∧ far p ≤ 0
theorem zero_cost : (∀ w, (zeroValue 71).run Try.prog w = .ok (.agg (capA fun _ _ => 0)) w) ∧ (Try.prog.info? 71).map (·.size) = some 289 :=
  zero_of_info (by kernel_rfl)
def CoFillO (w : World) (i : Value) (wr : World) : Prop := ∃ k : Nat, k ≤ 17 ∧ i = .int .i64 k ∧ Blk wr w.heap.size (capA (fillO k)) 71 ∧ Below w.heap.size w wr
def CoFillI (w : World) (k : Nat) (i : Value) (wr : World) : Prop := ∃ j : Nat, j ≤ 17 ∧ i = .int .i64 j ∧ Blk wr w.heap.size (capA (fillI k j)) 71 ∧ Below w.heap.size w wr
def CoAt (w : World) (far : Int → Int) (n : Nat) (i : Value) (wr : World) : Prop := ∃ (k : Nat) (c : Int → Int → Int), k ≤ n ∧ i = .int .i64 k ∧ LowD far c ∧ Blk wr w.heap.size (capA c) 71 ∧ Below w.heap.size w wr
def CoLow (w : World) (far : Int → Int) (i : Value) (wr : World) : Prop := ∃ (p : Int) (c : Int → Int → Int), 1 ≤ p ∧ p ≤ 17 ∧ i = .int .i64 p ∧ LowD far c ∧ Blk wr w.heap.size (capA c) 71 ∧ Below w.heap.size w wr
set_option maxHeartbeats 32000000 in
set_option maxRecDepth 100000 in
theorem leastF_any {w : World} {ao bo : Option Addr} {ca cb : Nat} {l m : List Fw} {far : Int → Int} (hl : DebtsIn w ao l) (hm : DebtsIn w bo m) (hI : LeastI far l m) :
    Calls Try.prog 18 #[.slice ao l.length ca, .slice bo m.length cb] w fun e w' => e = .returned (.bool true) ∧ Below w.heap.size w w' := by
  have HL := Lib.hid hl
  have HM := Lib.hid hm
  have HI := Lib.hid hI
  have hz := zero_cost.1
  have lnM := hI.lenM
  have K0 := Lib.hid (Blk.new w (capA fun _ _ => 0) 71)
  have B0 := Lib.hid ((Below.refl w.heap.size w).alloc (Nat.le_refl _) (.cells (capA fun _ _ => 0) 71))
  clear hl hm hI
  go_enter Try.func18, Try.ntmps18
  go_wp2_with fail
  generalize w.alloc (.cells (capA fun _ _ => 0) 71) = W0 at K0 B0 ⊢
  clear hz
  go_loopw [6] (CoFillO w) (fun i _ => 17 - (intOf i).toNat)
  case atStart => exact ⟨0, by omega, rfl, by rw [fillO_zero]; exact K0.out, B0.out⟩
  case round =>
    clear K0 B0
    obtain ⟨k, hk, rfl, hX, hB⟩ := hrel
    have KX := Lib.hid hX
    have BB := Lib.hid hB
    clear hX hB
    by_cases hkl : k < 17
    · have hki : (k : Int) < 17 := by omega
      go_wp2_with fail
      go_loopw [7] (CoFillI w k) (fun i _ => 17 - (intOf i).toNat)
      case atStart => exact ⟨0, by omega, rfl, by rw [fillI_zero]; exact KX.out, BB.out⟩
      case round =>
        clear KX BB
        obtain ⟨j, hj, rfl, hX, hB⟩ := hrel
        have KX := Lib.hid hX
        have BB := Lib.hid hB
        have hxl := hX.lt
        clear hX hB
        by_cases hjl : j < 17
        · have hji : (j : Int) < 17 := by omega
          have dm := KX.out.kAt (p := (k : Int)) (q := (j : Int)) (by omega) hki (by omega) hji
          have fr := KX.out.frozen ((k : Int).toNat * 17 + (j : Int).toNat)
          have kx := KX.out.kSet (p := (k : Int)) (q := (j : Int)) (by omega) hki (by omega) hji 1048576
          rw [fillI_next hkl hjl] at kx
          have KX2 := Lib.hid kx
          have B2 := Lib.hid (BB.out.setCell (p := ⟨w.heap.size, (k : Int).toNat * 17 + (j : Int).toNat, none⟩) (Nat.le_refl _) (.int .i64 1048576))
          clear kx
          rw [Int.toNat_natCast, Int.toNat_natCast] at dm fr KX2 B2
          go_wp2_with fail
          go_roundw
          case rel => exact ⟨j + 1, by omega, by go_num, KX2.out, B2.out⟩
          case measure => simp [intOf]; omega
        · have hj17 : j = 17 := by omega
          subst hj17
          rw [show ((17 : Nat) : Int) = 17 from rfl]
          go_wp2_with fail
          go_roundw
          case rel => exact ⟨k + 1, by omega, by go_num, by rw [← fillI_all]; exact KX.out, BB.out⟩
          case measure => simp [intOf]; omega
    · have hk17 : k = 17 := by omega
      subst hk17
      rw [show ((17 : Nat) : Int) = 17 from rfl]
      rw [fillO_all] at KX
      go_wp2_with fail
      go_loopw [8] (CoAt w far m.length) (fun i _ => m.length - (intOf i).toNat)
      case atStart => exact ⟨0, _, by omega, rfl, LowD.none HI.out.bd, KX.out, BB.out⟩
      case round =>
        clear KX BB
        obtain ⟨k, c, hk, rfl, hlow, hX, hB⟩ := hrel
        have LO := Lib.hid hlow
        have KX0 := Lib.hid hX
        have BB := Lib.hid hB
        clear hX hB hlow
        by_cases hkl : k < m.length
        · have qk : decide ((k : Int) < (m.length : Int)) = true := by simpa using hkl
          have k0 : (0 : Int) ≤ (k : Int) := by omega
          have k1 : (k : Int) < (m.length : Int) := by omega
          obtain ⟨b, off, rfl, hbw, hcell⟩ := HM.out (by omega)
          obtain ⟨e0, e1, e2⟩ := hcell k hkl
          have d0 := (BB.out.cell (p := ⟨b, off + k * 3, none⟩) hbw).trans e0
          have d1 := (BB.out.cell (p := ⟨b, off + k * 3 + 1, none⟩) hbw).trans e1
          have d2 := (BB.out.cell (p := ⟨b, off + k * 3 + 2, none⟩) hbw).trans e2
          have hbr := Nat.lt_of_lt_of_le hbw BB.out.size
          obtain ⟨⟨f0, f9⟩, ⟨t0, t9⟩⟩ := HI.out.okM k hkl
          have DN := Lib.hid (HI.out.down k hkl)
          have UP := Lib.hid (HI.out.up k hkl)
          have CP : Hid (∀ w', Below w.heap.size w w' → Calls Try.prog 31 #[.slice ao l.length ca, .int .u8 (dbt m k).fr, .int .u8 (dbt m k).tt] w' fun e w'' => e = .returned (.int .i64 (ofL l (dbt m k).fr (dbt m k).tt)) ∧ w'' = w') := Lib.hid fun w' hb => ofF_any (HL.out.below hb) HI.out.lenL _ _
          obtain ⟨y, hy⟩ : ∃ y, ofL l (dbt m k).fr (dbt m k).tt = y := ⟨_, rfl⟩
          rw [hy] at CP DN UP
          generalize dbt m k = x at *
          obtain ⟨fr, tt, am⟩ := x
          dsimp only at d0 d1 d2 f0 f9 t0 t9 CP DN UP
          have HLT := Lib.hid hkl
          have hxl := KX0.out.lt
          clear hcell e0 e1 e2 hy
          have KY := Lib.hid (Blk.new wr #[.int .u8 fr, .int .u8 tt, .int .i64 am] 39)
          have KZ := Lib.hid (KX0.out.alloc (.cells #[.int .u8 fr, .int .u8 tt, .int .i64 am] 39))
          have BZ := Lib.hid (BB.out.alloc BB.out.size (.cells #[.int .u8 fr, .int .u8 tt, .int .i64 am] 39))
          have CZ := Lib.hid (CP.out _ BZ.out)
          have q1 : decide (16 < fr) = false := by simp; omega
          have q2 : decide (16 < tt) = false := by simp; omega
          clear CP KX0 BB
          go_wp2_with fail
          refine CZ.out.mono ?_
          rintro e w2 ⟨rfl, rfl⟩
          have KY2 := KY.out
          have KZ2 := KZ.out
          have BZ2 := BZ.out
          have LO2 := LO.out
          clear CZ KY KZ BZ LO d0 d1 d2
          have hne : wr.heap.size ≠ w.heap.size := by omega
          generalize wr.alloc (.cells #[.int .u8 fr, .int .u8 tt, .int .i64 am] 39) = V at KY2 KZ2 BZ2 ⊢
          generalize wr.heap.size = Y at *
          by_cases hy0 : 0 < y
          · have q4 : decide (0 < y) = true := by simpa using hy0
            have g0 := KY2.cell 0
            have g1 := KY2.cell 1
            have g2 := KY2.cell 2
            have gl := KY2.lt
            have zl := KZ2.lt
            simp at g0 g1 g2
            have zd := KZ2.kAt (p := fr) (q := tt) (by omega) (by omega) (by omega) (by omega)
            have zf := KZ2.frozen (fr.toNat * 17 + tt.toNat)
            have KY3 := Lib.hid (KY2.setOther (a := ⟨w.heap.size, fr.toNat * 17 + tt.toNat, none⟩) (by intro e; exact hne e) (.int .i64 (-1)))
            have KZ3 := Lib.hid (KZ2.kSet (p := fr) (q := tt) (by omega) (by omega) (by omega) (by omega) (-1))
            have BZ3 := Lib.hid (BZ2.setCell (p := ⟨w.heap.size, fr.toNat * 17 + tt.toNat, none⟩) (Nat.le_refl _) (.int .i64 (-1)))
            have LO3 := Lib.hid (LO2.put (a := fr) (b := tt) (v := -1) (by have := DN.out hy0; omega) (by omega))
            clear KY2 KZ2 BZ2 LO2 hy0
            go_wp2_with fail
            go_region
            have KY5 := Blk.drew KY3.out
            have KZ5 := Blk.drew KZ3.out
            have BZ5 := BZ3.out.drew
            have LO5 := LO3.out
            clear KY3 KZ3 BZ3 LO3 g0 g1 g2 gl zl zd zf q4
            generalize (V.setCell ⟨w.heap.size, fr.toNat * 17 + tt.toNat, none⟩ (.int .i64 (-1))).drew = V5 at KY5 KZ5 BZ5 ⊢
            generalize updE c fr tt (-1) = c5 at *
            have g0 := KY5.cell 0
            have g1 := KY5.cell 1
            have g2 := KY5.cell 2
            have gl := KY5.lt
            have zl := KZ5.lt
            simp at g0 g1 g2
            by_cases h2 : y < am
            · have q5 : decide (y < am) = true := by simpa using h2
              have hup := UP.out h2
              obtain ⟨cv, hcv⟩ : ∃ x, c5 tt fr = x := ⟨_, rfl⟩
              have zd := KZ5.kAt (p := tt) (q := fr) (by omega) (by omega) (by omega) (by omega)
              have zf := KZ5.frozen (tt.toNat * 17 + fr.toNat)
              have hlo := LO5.lo tt fr
              obtain ⟨b1, b2⟩ := LO5.low tt fr
              rw [hcv] at zd hlo b1 b2
              by_cases h3 : cv ≤ 1
              · have q6 : min cv 1 = cv := Int.min_eq_left h3
                have q7 : ¬ 1 < cv := by omega
                clear h2
                have KZ6 := Lib.hid (KZ5.kSet (p := tt) (q := fr) (by omega) (by omega) (by omega) (by omega) cv)
                have BZ6 := Lib.hid (BZ5.setCell (p := ⟨w.heap.size, tt.toNat * 17 + fr.toNat, none⟩) (Nat.le_refl _) (.int .i64 cv))
                have LO6 := Lib.hid (LO5.put (a := tt) (b := fr) (v := cv) hlo (by omega))
                clear KY5 KZ5 BZ5 LO5 hcv
                go_wp2_with fail
                go_region
                all_goals
                  go_wp2
                  go_roundw
                  case rel => exact ⟨k + 1, _, by have := HLT.out; omega, by go_num, LO6.out, KZ6.out, BZ6.out.drew⟩
                  case measure => simp [intOf]; have := HLT.out; omega
              · have q6 : min cv 1 = 1 := Int.min_eq_right (by omega)
                have q7 : 1 < cv := by omega
                clear h2
                have KZ6 := Lib.hid (KZ5.kSet (p := tt) (q := fr) (by omega) (by omega) (by omega) (by omega) 1)
                have BZ6 := Lib.hid (BZ5.setCell (p := ⟨w.heap.size, tt.toNat * 17 + fr.toNat, none⟩) (Nat.le_refl _) (.int .i64 1))
                have LO6 := Lib.hid (LO5.put (a := tt) (b := fr) (v := 1) hup (by omega))
                clear KY5 KZ5 BZ5 LO5 hcv
                go_wp2_with fail
                go_region
                all_goals
                  go_wp2
                  go_roundw
                  case rel => exact ⟨k + 1, _, by have := HLT.out; omega, by go_num, LO6.out, KZ6.out, BZ6.out.drew⟩
                  case measure => simp [intOf]; have := HLT.out; omega
            · have q5 : decide (y < am) = false := by simpa using h2
              have KZ6 := Lib.hid KZ5
              have BZ6 := Lib.hid BZ5
              have LO6 := Lib.hid LO5
              clear h2 KY5 KZ5 BZ5 LO5
              go_wp2_with fail
              go_roundw
              case rel => exact ⟨k + 1, _, by have := HLT.out; omega, by go_num, LO6.out, KZ6.out, BZ6.out⟩
              case measure => simp [intOf]; have := HLT.out; omega
          · have q4 : decide (0 < y) = false := by simpa using hy0
            obtain ⟨V5, rfl⟩ : ∃ x, x = V := ⟨_, rfl⟩
            obtain ⟨c5, rfl⟩ : ∃ x, x = c := ⟨_, rfl⟩
            have KY5 := KY2
            have KZ5 := KZ2
            have BZ5 := BZ2
            have LO5 := LO2
            clear KY2 KZ2 BZ2 LO2 hy0
            have g0 := KY5.cell 0
            have g1 := KY5.cell 1
            have g2 := KY5.cell 2
            have gl := KY5.lt
            have zl := KZ5.lt
            simp at g0 g1 g2
            by_cases h2 : y < am
            · have q5 : decide (y < am) = true := by simpa using h2
              have hup := UP.out h2
              obtain ⟨cv, hcv⟩ : ∃ x, c5 tt fr = x := ⟨_, rfl⟩
              have zd := KZ5.kAt (p := tt) (q := fr) (by omega) (by omega) (by omega) (by omega)
              have zf := KZ5.frozen (tt.toNat * 17 + fr.toNat)
              have hlo := LO5.lo tt fr
              obtain ⟨b1, b2⟩ := LO5.low tt fr
              rw [hcv] at zd hlo b1 b2
              by_cases h3 : cv ≤ 1
              · have q6 : min cv 1 = cv := Int.min_eq_left h3
                have q7 : ¬ 1 < cv := by omega
                clear h2
                have KZ6 := Lib.hid (KZ5.kSet (p := tt) (q := fr) (by omega) (by omega) (by omega) (by omega) cv)
                have BZ6 := Lib.hid (BZ5.setCell (p := ⟨w.heap.size, tt.toNat * 17 + fr.toNat, none⟩) (Nat.le_refl _) (.int .i64 cv))
                have LO6 := Lib.hid (LO5.put (a := tt) (b := fr) (v := cv) hlo (by omega))
                clear KY5 KZ5 BZ5 LO5 hcv
                go_wp2_with fail
                go_region
                all_goals
                  go_wp2
                  go_roundw
                  case rel => exact ⟨k + 1, _, by have := HLT.out; omega, by go_num, LO6.out, KZ6.out, BZ6.out.drew⟩
                  case measure => simp [intOf]; have := HLT.out; omega
              · have q6 : min cv 1 = 1 := Int.min_eq_right (by omega)
                have q7 : 1 < cv := by omega
                clear h2
                have KZ6 := Lib.hid (KZ5.kSet (p := tt) (q := fr) (by omega) (by omega) (by omega) (by omega) 1)
                have BZ6 := Lib.hid (BZ5.setCell (p := ⟨w.heap.size, tt.toNat * 17 + fr.toNat, none⟩) (Nat.le_refl _) (.int .i64 1))
                have LO6 := Lib.hid (LO5.put (a := tt) (b := fr) (v := 1) hup (by omega))
                clear KY5 KZ5 BZ5 LO5 hcv
                go_wp2_with fail
                go_region
                all_goals
                  go_wp2
                  go_roundw
                  case rel => exact ⟨k + 1, _, by have := HLT.out; omega, by go_num, LO6.out, KZ6.out, BZ6.out.drew⟩
                  case measure => simp [intOf]; have := HLT.out; omega
            · have q5 : decide (y < am) = false := by simpa using h2
              have KZ6 := Lib.hid KZ5
              have BZ6 := Lib.hid BZ5
              have LO6 := Lib.hid LO5
              clear h2 KY5 KZ5 BZ5 LO5
              go_wp2_with fail
              go_roundw
              case rel => exact ⟨k + 1, _, by have := HLT.out; omega, by go_num, LO6.out, KZ6.out, BZ6.out⟩
              case measure => simp [intOf]; have := HLT.out; omega
        · have hkn : k = m.length := by omega
          subst hkn
          have qk : decide (((m.length : Nat) : Int) < (m.length : Int)) = false := by simp
          have KX := Lib.hid KX0.out
          clear KX0
          go_wp2_with fail
          go_loopw [11] (CoLow w far) (fun i _ => 17 - (intOf i).toNat)
          case atStart => exact ⟨1, c, by omega, by omega, rfl, LO.out, KX.out, BB.out⟩
          case round =>
            clear KX BB LO
            obtain ⟨m1, c, h1m, h2m, rfl, hlow, hX, hB⟩ := hrel
            have LO := Lib.hid hlow
            have KX := Lib.hid hX
            have BB := Lib.hid hB
            clear hlow hX hB
            by_cases hm : m1 < 17
            · go_wp2_with fail
              go_loopw [12] (CoLow w far) (fun i _ => 17 - (intOf i).toNat)
              case atStart => exact ⟨1, c, by omega, by omega, rfl, LO.out, KX.out, BB.out⟩
              case round =>
                clear KX BB LO
                obtain ⟨p, c, p1, p2, rfl, hlow, hX, hB⟩ := hrel
                have LO := Lib.hid hlow
                have KX := Lib.hid hX
                have BB := Lib.hid hB
                clear hlow hX hB
                by_cases hp : p < 17
                · go_wp2_with fail
                  go_loopw [13] (CoLow w far) (fun i _ => 17 - (intOf i).toNat)
                  case atStart => exact ⟨1, c, by omega, by omega, rfl, LO.out, KX.out, BB.out⟩
                  case round =>
                    clear KX BB LO
                    obtain ⟨q, c, r1, r2, rfl, hlow, hX, hB⟩ := hrel
                    have LO := Lib.hid hlow
                    have KX := Lib.hid hX
                    have BB := Lib.hid hB
                    have hxl := hX.lt
                    clear hX hB
                    by_cases hq : q < 17
                    · have d1 := KX.out.kAt (p := p) (q := m1) (by omega) (by omega) (by omega) (by omega)
                      have d2 := KX.out.kAt (p := m1) (q := q) (by omega) (by omega) (by omega) (by omega)
                      have d3 := KX.out.kAt (p := p) (q := q) (by omega) (by omega) (by omega) (by omega)
                      have f3 := KX.out.frozen (p.toNat * 17 + q.toNat)
                      obtain ⟨b1, b2⟩ := hlow.low p m1
                      obtain ⟨b3, b4⟩ := hlow.low m1 q
                      obtain ⟨b5, b6⟩ := hlow.low p q
                      have l1 := hlow.lo p m1
                      have l2 := hlow.lo m1 q
                      have l3 := hlow.lo p q
                      have ba := hlow.bd p
                      have bq := hlow.bd q
                      clear hlow
                      obtain ⟨y, hy⟩ : ∃ y, c p m1 = y := ⟨_, rfl⟩
                      obtain ⟨z, hz⟩ : ∃ z, c m1 q = z := ⟨_, rfl⟩
                      obtain ⟨x, hx⟩ : ∃ x, c p q = x := ⟨_, rfl⟩
                      rw [hy] at d1 b1 b2 l1
                      rw [hz] at d2 b3 b4 l2
                      rw [hx] at d3 b5 b6 l3
                      clear hy hz hx
                      by_cases h1 : y < 1048576
                      · have q1 : decide (y < 1048576) = true := by simpa using h1
                        by_cases h2 : z < 1048576
                        · have q2 : decide (z < 1048576) = true := by simpa using h2
                          rcases Int.lt_or_le (y + z) x with hmn | hmn
                          · have hmx : (-1048576 : Int) < y + z := by omega
                            have N3 := Lib.hid (LO.out.put (a := p) (b := q) (v := y + z) (by omega) (by omega))
                            have K3 := Lib.hid (KX.out.kSet (p := p) (q := q) (by omega) (by omega) (by omega) (by omega) (y + z))
                            have B3 := Lib.hid (BB.out.setCell (p := ⟨w.heap.size, p.toNat * 17 + q.toNat, none⟩) (Nat.le_refl _) (.int .i64 (y + z)))
                            clear h1 h2 l1 l2 l3 ba bq
                            go_wp2_with fail
                            go_region
                            all_goals
                              go_wp2
                              go_roundw
                              case rel => exact ⟨q + 1, _, by omega, by omega, by go_num, N3.out, K3.out, ⟨B3.out.os, B3.out.tape, B3.out.output, B3.out.size, B3.out.block⟩⟩
                              case measure => simp [intOf]; omega
                          · have hmx : (-1048576 : Int) < x := by omega
                            have N3 := Lib.hid (LO.out.put (a := p) (b := q) (v := x) l3 (by omega))
                            have K3 := Lib.hid (KX.out.kSet (p := p) (q := q) (by omega) (by omega) (by omega) (by omega) x)
                            have B3 := Lib.hid (BB.out.setCell (p := ⟨w.heap.size, p.toNat * 17 + q.toNat, none⟩) (Nat.le_refl _) (.int .i64 x))
                            clear h1 h2 l1 l2 l3 ba bq
                            go_wp2_with fail
                            go_region
                            all_goals
                              go_wp2
                              go_roundw
                              case rel => exact ⟨q + 1, _, by omega, by omega, by go_num, N3.out, K3.out, ⟨B3.out.os, B3.out.tape, B3.out.output, B3.out.size, B3.out.block⟩⟩
                              case measure => simp [intOf]; omega
                        · have q2 : decide (z < 1048576) = false := by simpa using h2
                          clear h1 h2 l1 l2 l3 ba bq
                          go_wp2_with fail
                          go_roundw
                          case rel => exact ⟨q + 1, c, by omega, by omega, by go_num, LO.out, KX.out, BB.out⟩
                          case measure => simp [intOf]; omega
                      · have q1 : decide (y < 1048576) = false := by simpa using h1
                        clear h1 l1 l2 l3 ba bq
                        go_wp2_with fail
                        go_roundw
                        case rel => exact ⟨q + 1, c, by omega, by omega, by go_num, LO.out, KX.out, BB.out⟩
                        case measure => simp [intOf]; omega
                    · clear hlow
                      go_wp2_with fail
                      go_roundw
                      case rel => exact ⟨p + 1, c, by omega, by omega, by go_num, LO.out, KX.out, BB.out⟩
                      case measure => simp [intOf]; omega
                · go_wp2_with fail
                  go_roundw
                  case rel => exact ⟨m1 + 1, c, by omega, by omega, by go_num, LO.out, KX.out, BB.out⟩
                  case measure => simp [intOf]; omega
            · go_wp2_with fail
              go_loopw [14] (CoLow w far) (fun i _ => 17 - (intOf i).toNat)
              case atStart => exact ⟨1, c, by omega, by omega, rfl, LO.out, KX.out, BB.out⟩
              case round =>
                clear KX BB LO
                obtain ⟨p, c, p1, p2, rfl, hlow, hX, hB⟩ := hrel
                have LO := Lib.hid hlow
                have KX := Lib.hid hX
                have BB := Lib.hid hB
                have hxl := hX.lt
                clear hX hB
                by_cases hp : p < 17
                · have d1 := KX.out.kAt (p := p) (q := p) (by omega) (by omega) (by omega) (by omega)
                  have hs := hlow.lo p p
                  obtain ⟨y, hy⟩ : ∃ y, c p p = y := ⟨_, rfl⟩
                  rw [hy] at d1 hs
                  have q1 : decide (y < 0) = false := by simp; omega
                  clear hy hs hlow
                  go_wp2_with fail
                  go_roundw
                  case rel => exact ⟨p + 1, c, by omega, by omega, by go_num, LO.out, KX.out, BB.out⟩
                  case measure => simp [intOf]; omega
                · clear hlow
                  go_wp2_with fail
                  go_ret
                  exact ⟨rfl, BB.out⟩

end Go.Proofs.Ytkoopkoambhinaa
