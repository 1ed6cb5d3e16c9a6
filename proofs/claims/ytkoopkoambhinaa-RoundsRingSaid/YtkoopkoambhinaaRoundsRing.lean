/-
  RoundsRing: the walk, for every amounts.
-/
import Derived.Test.YtkoopkoambhinaaRingMath
import Derived.StillTailTactics
namespace Go.Proofs.Ytkoopkoambhinaa
open Go.RowKit
set_option linter.unusedSimpArgs false
set_option linter.unusedVariables false

theorem dz_fits (n : Nat) (z : Nat → Int) (h : RingZ n z) {m : Nat} (hm : m ≤ n) : DebtsFit (ringL n z m) := fun i hi => by
  rw [ringL_len] at hi
  rw [dbt_ring hi]
  have := h.z0 i (by omega)
  have := h.n16
  unfold rgD
  dsimp only
  split <;> exact ⟨⟨by omega, by omega⟩, ⟨by omega, by omega⟩, by omega, by omega⟩
def RingAt (w : World) (n : Nat) (z : Nat → Int) (b : Bool) (c lv i : Value) (wr : World) : Prop :=
  ∃ k m : Nat, k ≤ n ∧ (b = true → m = k) ∧ (b = false → m = min k (n - 1)) ∧ i = .int .i64 k ∧ lv = .int .i64 (lsN z m) ∧ wr.ownsRow w.heap.size 39 3 c (ringL n z m).length (fwCells (ringL n z m)) ∧ Below w.heap.size w wr
set_option maxHeartbeats 16000000 in
set_option maxRecDepth 100000 in
theorem ring_walk (a : Option Addr) (len cap : Nat) (zs : List Int) (cl : Bool) (w : World) (h0 : IsRow .u16 w a len cap zs) :
    Calls Try.prog 6 #[.slice a len cap, .bool cl] w fun e w' => e = .returned (.bool true) ∧ Below w.heap.size w w' := by
  have LV := Lib.hid lives08_any
  by_cases h3 : len < 3
  · have q : decide ((len : Int) < 3) = true := by simp; omega
    clear h0
    go_enter Try.func6, Try.ntmps6
    go_wp2_with fail
    refine (LV.out _).mono ?_
    rintro e w1 ⟨rfl, b1⟩
    have B1 := Lib.hid b1
    clear b1
    go_wp2_with fail
    go_ret
    exact ⟨rfl, B1.out⟩
  have q1 : decide ((len : Int) < 3) = false := by simp; omega
  by_cases h16 : 16 < len
  · have q : decide ((16 : Int) < (len : Int)) = true := by simp; omega
    clear h0
    go_enter Try.func6, Try.ntmps6
    go_wp2_with fail
    refine (LV.out _).mono ?_
    rintro e w1 ⟨rfl, b1⟩
    have B1 := Lib.hid b1
    clear b1
    go_wp2_with fail
    go_ret
    exact ⟨rfl, B1.out⟩
  have q2 : decide ((16 : Int) < (len : Int)) = false := by simp; omega
  rcases h0 with ⟨_, h, _, _⟩ | ⟨x, rfl, hlc, hcm, hzl, hcell0, hwf⟩
  · omega
  obtain ⟨bx, ox, rfl, hcell⟩ := Go.ints_at hcell0 (by omega)
  obtain ⟨z, hz⟩ : ∃ z : Nat → Int, (fun i => zs.getD i 0) = z := ⟨_, rfl⟩
  have HC : Hid (∀ i, i < len → w.cell? ⟨bx, ox + i, none⟩ = some (.int .u16 (z i))) := Lib.hid fun i hi => by
    rw [hcell i (by omega), ← hz]
  have HZ : Hid (RingZ len z) := Lib.hid ⟨by omega, by omega, fun i hi => by
    have hi2 : i < zs.length := by omega
    have h := hwf zs[i] (List.getElem_mem hi2)
    have e : z i = zs[i] := by rw [← hz]; show zs.getD i 0 = _; rw [List.getD_eq_getElem?_getD, List.getElem?_eq_getElem hi2]; rfl
    rw [e]
    simp [Lit.wf, IntKind.min, IntKind.max, IntKind.signed, IntKind.bits] at h
    omega⟩
  have hxb : bx < w.heap.size := World.block_lt_of_cell? _ _ (HC.out 0 (by omega))
  have n3 : (3 : Int) ≤ (len : Int) := by omega
  have n16 : (len : Int) ≤ 16 := by omega
  have HN : Hid (3 ≤ len ∧ len ≤ 16) := Lib.hid (by omega)
  clear hcell0 hcell hwf hz hzl
  go_enter Try.func6, Try.ntmps6
  go_wp2_with fail
  go_loopw [5, 6, 7] (RingAt w len z cl) (fun _ _ i _ => len - (intOf i).toNat)
  case atStart => exact ⟨0, 0, by omega, fun _ => rfl, fun _ => by omega, rfl, rfl, World.ownsRow_nil _ _ _ _, Below.refl _ _⟩
  case round =>
    obtain ⟨k, m, hk, hm1, hm2, rfl, rfl, hE, hB⟩ := hrel
    have BB := Lib.hid hB
    have OE := Lib.hid hE
    obtain ⟨aoc, capc, rfl, _⟩ := owns_open hE
    clear hB hE
    by_cases hkl : k < len
    · have qk : decide ((k : Int) < (len : Int)) = true := by simpa using hkl
      have k0 : (0 : Int) ≤ (k : Int) := by omega
      have k1 : (k : Int) < (len : Int) := by omega
      have k2 : (k : Int) < 16 := by omega
      have d0 := (BB.out.cell (p := ⟨bx, ox + k, none⟩) hxb).trans (HC.out k hkl)
      have hbr := Nat.lt_of_lt_of_le hxb BB.out.size
      obtain ⟨z0, z9⟩ := HZ.out.z0 k hkl
      have NX := Lib.hid (ringL_next len z k)
      have NL := Lib.hid (show lsN z (k + 1) = min (lsN z k) (z k + 1) from rfl)
      have HLT := Lib.hid hkl
      have l9 := (lsN_le z k).1
      have l0 : 0 ≤ lsN z k := by
        refine le_lsN (by omega) k fun j hj => ?_
        have := HZ.out.z0 j (by omega)
        omega
      by_cases hlast : k + 1 = len
      · have hq : ((k : Int) == (len : Int) - 1) = true := by simp; omega
        cases cl with
        | true =>
          have hmk : m = k := hm1 rfl
          subst hmk
          have FB : Hid (true = false → m + 1 = min (m + 1) (len - 1)) := Lib.hid (fun h => by cases h)
          have hrg : rgD len z m = ⟨(m : Int) + 1, 1, z m + 1⟩ := by unfold rgD; rw [if_pos hlast]
          rw [hrg] at NX
          have hel := ringL_len len z m
          have hel2 : (ringL len z m).length ≤ 100 := by omega
          generalize ringL len z m = es at *
          generalize z m = y at *
          clear hm1 hm2 hlast hrg
          have HEL := Lib.hid hel2
          clear hel hel2
          have B3 := Lib.hid (BB.out.alloc BB.out.size (.cells #[.int .u8 ((m : Int) + 1), .int .u8 1, .int .i64 (y + 1)] 39))
          have O3 := Lib.hid (owns_below OE.out ((Below.refl _ _).alloc (Nat.le_refl _) (.cells #[.int .u8 ((m : Int) + 1), .int .u8 1, .int .i64 (y + 1)] 39)))
          generalize hlsk : lsN z m = lst at *
          rcases Int.lt_or_le (y + 1) lst with hmn | hmn
          · rw [Int.min_eq_right (by omega)] at NL
            go_wp2_with (at_builtin; refine wpList_append_fw _ rfl (.tmp 52) (.tmp 54) rfl w.heap.size _ es rfl (O3.out.alloc _) (wr.heap.size + 1) 1 ⟨(m : Int) + 1, 1, y + 1⟩ (by simp [go_sem]) ?_ (by have := HEL.out; omega) (by have := BB.out.size; simp; omega) ?_)
            · exact Blk.newAt _ _ _ (by simp)
            intro v4 w4 hown hgr
            have O4 := Lib.hid hown
            have B4 := Lib.hid (below_ag B3.out B3.out.size hgr (fun k' h => (owns_type OE.out h).1))
            clear hown hgr
            go_wp2_with fail
            exact ⟨⟨m + 1, m + 1, by have := HLT.out; omega, fun _ => rfl, FB.out, by go_num, by rw [NL.out], by rw [NX.out, List.length_append]; exact O4.out, B4.out⟩, by simp [intOf]; have := HLT.out; omega⟩
          · rw [Int.min_eq_left (by omega)] at NL
            go_wp2_with (at_builtin; refine wpList_append_fw _ rfl (.tmp 52) (.tmp 54) rfl w.heap.size _ es rfl (O3.out.alloc _) (wr.heap.size + 1) 1 ⟨(m : Int) + 1, 1, y + 1⟩ (by simp [go_sem]) ?_ (by have := HEL.out; omega) (by have := BB.out.size; simp; omega) ?_)
            · exact Blk.newAt _ _ _ (by simp)
            intro v4 w4 hown hgr
            have O4 := Lib.hid hown
            have B4 := Lib.hid (below_ag B3.out B3.out.size hgr (fun k' h => (owns_type OE.out h).1))
            clear hown hgr
            go_wp2_with fail
            exact ⟨⟨m + 1, m + 1, by have := HLT.out; omega, fun _ => rfl, FB.out, by go_num, by rw [NL.out], by rw [NX.out, List.length_append]; exact O4.out, B4.out⟩, by simp [intOf]; have := HLT.out; omega⟩
        | false =>
          have hmk : m = k := by have := hm2 rfl; omega
          subst hmk
          have FB : Hid (false = false → m = min (m + 1) (len - 1)) := Lib.hid (fun h => by omega)
          generalize z m = y at *
          clear hm1 hm2 hlast
          have B3 := Lib.hid ((BB.out.alloc BB.out.size (.cells #[.int .u8 ((m : Int) + 1), .int .u8 1, .int .i64 (y + 1)] 39)))
          have O3 := Lib.hid (owns_below OE.out ((Below.refl _ _).alloc (Nat.le_refl _) (.cells #[.int .u8 ((m : Int) + 1), .int .u8 1, .int .i64 (y + 1)] 39)))
          go_wp2_with fail
          exact ⟨⟨m + 1, m, by have := HLT.out; omega, (fun h => by cases h), FB.out, by go_num, rfl, O3.out, B3.out⟩, by simp [intOf]; have := HLT.out; omega⟩
      · have hmk : m = k := by
          cases cl with
          | true => exact hm1 rfl
          | false => have := hm2 rfl; omega
        subst hmk
        have hq : ((m : Int) == (len : Int) - 1) = false := by simp; omega
        have FB : Hid (cl = false → m + 1 = min (m + 1) (len - 1)) := Lib.hid (fun h => by omega)
        have hrg : rgD len z m = ⟨(m : Int) + 1, (m : Int) + 2, z m + 1⟩ := by unfold rgD; rw [if_neg hlast]
        rw [hrg] at NX
        have hel := ringL_len len z m
        have hel2 : (ringL len z m).length ≤ 100 := by omega
        generalize ringL len z m = es at *
        generalize z m = y at *
        clear hm1 hm2 hlast hrg
        have HEL := Lib.hid hel2
        clear hel hel2
        have B3 := Lib.hid (BB.out.alloc BB.out.size (.cells #[.int .u8 ((m : Int) + 1), .int .u8 ((m : Int) + 2), .int .i64 (y + 1)] 39))
        have O3 := Lib.hid (owns_below OE.out ((Below.refl _ _).alloc (Nat.le_refl _) (.cells #[.int .u8 ((m : Int) + 1), .int .u8 ((m : Int) + 2), .int .i64 (y + 1)] 39)))
        generalize hlsk : lsN z m = lst at *
        rcases Int.lt_or_le (y + 1) lst with hmn | hmn
        · rw [Int.min_eq_right (by omega)] at NL
          go_wp2_with (at_builtin; refine wpList_append_fw _ rfl (.tmp 52) (.tmp 54) rfl w.heap.size _ es rfl (O3.out.alloc _) (wr.heap.size + 1) 1 ⟨(m : Int) + 1, (m : Int) + 2, y + 1⟩ (by simp [go_sem]) ?_ (by have := HEL.out; omega) (by have := BB.out.size; simp; omega) ?_)
          · exact Blk.newAt _ _ _ (by simp)
          intro v4 w4 hown hgr
          have O4 := Lib.hid hown
          have B4 := Lib.hid (below_ag B3.out B3.out.size hgr (fun k' h => (owns_type OE.out h).1))
          clear hown hgr
          go_wp2_with fail
          exact ⟨⟨m + 1, m + 1, by have := HLT.out; omega, fun _ => rfl, FB.out, by go_num, by rw [NL.out], by rw [NX.out, List.length_append]; exact O4.out, B4.out⟩, by simp [intOf]; have := HLT.out; omega⟩
        · rw [Int.min_eq_left (by omega)] at NL
          go_wp2_with (at_builtin; refine wpList_append_fw _ rfl (.tmp 52) (.tmp 54) rfl w.heap.size _ es rfl (O3.out.alloc _) (wr.heap.size + 1) 1 ⟨(m : Int) + 1, (m : Int) + 2, y + 1⟩ (by simp [go_sem]) ?_ (by have := HEL.out; omega) (by have := BB.out.size; simp; omega) ?_)
          · exact Blk.newAt _ _ _ (by simp)
          intro v4 w4 hown hgr
          have O4 := Lib.hid hown
          have B4 := Lib.hid (below_ag B3.out B3.out.size hgr (fun k' h => (owns_type OE.out h).1))
          clear hown hgr
          go_wp2_with fail
          exact ⟨⟨m + 1, m + 1, by have := HLT.out; omega, fun _ => rfl, FB.out, by go_num, by rw [NL.out], by rw [NX.out, List.length_append]; exact O4.out, B4.out⟩, by simp [intOf]; have := HLT.out; omega⟩

    · have hkn : k = len := by omega
      subst hkn
      have qk : decide (((k : Nat) : Int) < (k : Int)) = false := by simp
      obtain ⟨N3, N16⟩ := HN.out
      have RA := Lib.hid (Reads.of_owns OE.out (by rw [ringL_len]; have : m ≤ k := by { cases cl with | true => have := hm1 rfl; omega | false => have := hm2 rfl; omega }; omega))
      cases cl with
      | true =>
        have hmk : m = k := hm1 rfl
        subst hmk
        have hrd := ring_done HZ.out
        have hM := ring_may HZ.out (Nat.le_refl m)
        have C1 := Lib.hid (least_done (cap := capc) (q := 1) (reads_debts RA.out) (dz_fits m z HZ.out (Nat.le_refl m)) (by rw [ringL_len]; omega) hM (by omega) hrd.least (by omega))
        have hls := lsN_le z m
        have l9 : lsN z m ≤ 65536 := by have := hls.2 0 (by omega); have := HZ.out.z0 0 (by omega); omega
        have l0 : 0 ≤ lsN z m := by
          refine le_lsN (by omega) m fun j hj => ?_
          have := HZ.out.z0 j (by omega)
          omega
        have LF := Lib.hid (left_fair hM (by rw [ringL_len]; omega) hrd.least)
        have SL := Lib.hid ((left_sum (l := ringL m z m) hrd.least.inv.ok).trans (show sumN (nextD (ringL m z m) (amD (ringL m z m))) (ringL m z m).length = sumN (amD (ringL m z m)) m - lsN z m * (m : Int) by rw [ringL_len]; exact hrd.sum))
        have p0 : 0 ≤ lsN z m * (m : Int) := Int.mul_nonneg l0 (by omega)
        have p9 : lsN z m * (m : Int) ≤ 1048576 := by
          have := Int.mul_le_mul_of_nonneg_right l9 (show 0 ≤ (m : Int) by omega)
          omega
        obtain ⟨s0, s9⟩ := am_bd hM
        rw [ringL_len] at s0 s9
        have s8 : sumN (amD (ringL m z m)) m ≤ 17592186044416 := by omega
        have AM := Lib.hid (show ∀ i, i < (ringL m z m).length → 0 ≤ (dbt (ringL m z m) i).am ∧ (dbt (ringL m z m) i).am ≤ 1099511627776 from fun i hi => (LF.out.okM i hi).2.2)
        have hll := LF.out.lenL
        have HLL := Lib.hid hll
        have hML := Lib.hid (show (ringL m z m).length ≤ 240 by rw [ringL_len]; omega)
        have SM := Lib.hid (show sumN (amD (ringL m z m)) (ringL m z m).length = sumN (amD (ringL m z m)) m by rw [ringL_len])
        obtain ⟨LL, hLL⟩ : ∃ LL, leftL (ringL m z m) (nextD (ringL m z m) (amD (ringL m z m))) = LL := ⟨_, rfl⟩
        have AL := Lib.hid (show ∀ i, i < LL.length → 0 ≤ (dbt LL i).am ∧ (dbt LL i).am ≤ 1099511627776 from fun i hi => by rw [← hLL] at hi ⊢; have h := LF.out.okL i hi; exact ⟨by omega, by omega⟩)
        unfold DonePost at C1
        rw [hLL] at C1 LF SL HLL
        clear hm1 hm2 hls hrd hM hll hLL l0 l9
        generalize sumN (amD (ringL m z m)) m = S at *
        generalize ringL m z m = D at *
        generalize lsN z m = lst at *
        go_wp2_with fail
        refine C1.out.mono ?_
        rintro e w2 ⟨v2, rfl, hv2, b2⟩
        have B2 := Lib.hid (andB BB.out b2)
        have V2 := Lib.hid hv2
        have R2 := Lib.hid (RA.out.below b2)
        obtain ⟨ao2, cap2, rfl, _⟩ := hv2.look
        have D2 := Lib.hid (reads_debts (V2.out.reads (by have := HLL.out; omega)))
        have CS1 := Lib.hid (sumF_any (cap := cap2) D2.out HLL.out AL.out)
        have CS2 := Lib.hid (sumF_any (cap := capc) (reads_debts R2.out) hML.out AM.out)
        rw [SL.out] at CS1
        rw [SM.out] at CS2
        have CF := Lib.hid (fair_any (ca := cap2) (cb := capc) D2.out (reads_debts R2.out) LF.out)
        clear hv2 b2 C1
        go_wp2_with fail
        refine CS1.out.mono ?_
        rintro e w3 ⟨rfl, rfl⟩
        clear CS1
        go_wp2_with fail
        refine CS2.out.mono ?_
        rintro e w4 ⟨rfl, rfl⟩
        clear CS2
        go_wp2_with fail
        refine CF.out.mono ?_
        rintro e w5 ⟨rfl, b5⟩
        have B5 := Lib.hid (andB B2.out b5)
        clear b5 CF
        go_wp2_with fail
        refine (LV.out _).mono ?_
        rintro e w6 ⟨rfl, b6⟩
        have B6 := Lib.hid (andB B5.out b6)
        clear b6
        go_wp2_with fail
        go_ret
        exact ⟨rfl, B6.out⟩
      | false =>
        have hmk : m = k - 1 := by have := hm2 rfl; omega
        subst hmk
        have hM := ring_may HZ.out (m := k - 1) (by omega)
        have C1 := Lib.hid (least_done (cap := capc) (q := 1) (reads_debts RA.out) (dz_fits k z HZ.out (by omega)) (by rw [ringL_len]; omega) hM (by omega) (ring_open HZ.out) (by omega))
        unfold DonePost at C1
        rw [leftL_am hM] at C1
        have hML := Lib.hid (show (ringL k z (k - 1)).length ≤ 240 by rw [ringL_len]; omega)
        clear hm1 hm2 hM
        generalize ringL k z (k - 1) = D at *
        go_wp2_with fail
        refine C1.out.mono ?_
        rintro e w2 ⟨v2, rfl, hv2, b2⟩
        have B2 := Lib.hid (andB BB.out b2)
        have C2 := Lib.hid (SameFlows_any (la := D) (lb := D) (hv2.reads (by have := hML.out; omega)) (RA.out.below b2))
        rw [decide_eq_true rfl] at C2
        obtain ⟨ao2, cap2, rfl, _⟩ := hv2.look
        clear hv2 b2 C1
        go_wp2_with fail
        refine C2.out.mono ?_
        rintro e w3 ⟨rfl, b3⟩
        have B3 := Lib.hid (andB B2.out b3)
        clear b3 C2
        go_wp2_with fail
        refine (LV.out _).mono ?_
        rintro e w4 ⟨rfl, b4⟩
        have B4 := Lib.hid (andB B3.out b4)
        clear b4
        go_wp2_with fail
        go_ret
        exact ⟨rfl, B4.out⟩

end Go.Proofs.Ytkoopkoambhinaa
