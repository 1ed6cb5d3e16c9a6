/-
  The statements' own book of pages: a page of lines; pages without memory.
-/
import Derived.Test.YtlcilpeljnoclaaBook
namespace Go.Proofs.Ytlcilpeljnoclaa
open Go.RowKit
set_option linter.unusedSimpArgs false
set_option linter.unusedVariables false

def lnMk (x : Ln) (j : Nat) : Value := x.vals.getD j undef
theorem blk_ex {w : World} {b : Nat} {cs : Array Value} {t : TypeId} (h : Blk w b cs t) {j : Nat} (hj : j < cs.size) : ∃ v, w.cell? ⟨b, j, none⟩ = some v := ⟨cs[j], by rw [h.cell, Array.getElem?_eq_getElem hj]⟩

set_option maxHeartbeats 4000000 in
theorem writeL_any {w : World} {b n c : Nat} {cs : Array Value} (m q : Ln) (h : Blk w b cs 35) (hn : n ≤ c) (hs : c * 5 ≤ cs.size) (hc : c ≤ maxLen) :
    Calls Try.prog 114 #[.agg #[.slice (some ⟨b, 0, none⟩) n c, .int .u8 m.cr, .int .u8 m.de, .int .u8 m.cu, .int .i64 m.li, .int .i64 m.db, .int .u8 q.cr, .int .u8 q.de, .int .u8 q.cu, .int .i64 q.li, .int .i64 q.db]] w fun e w' => e = .returned (.tuple #[]) ∧ Blk w' b (fill 5 (lnMk m) cs 0 n) 35 ∧ Keep (· = b) w w' := by
  have KR := Lib.hid (Blk.new w #[.slice (some ⟨b, 0, none⟩) n c, .int .u8 m.cr, .int .u8 m.de, .int .u8 m.cu, .int .i64 m.li, .int .i64 m.db, .int .u8 q.cr, .int .u8 q.de, .int .u8 q.cu, .int .i64 q.li, .int .i64 q.db] 89)
  have HB := Lib.hid h
  have hlt := h.lt
  have K0 := Lib.hid ((Keep.refl (· = b) w).alloc (.cells #[.slice (some ⟨b, 0, none⟩) n c, .int .u8 m.cr, .int .u8 m.de, .int .u8 m.cu, .int .i64 m.li, .int .i64 m.db, .int .u8 q.cr, .int .u8 q.de, .int .u8 q.cu, .int .i64 q.li, .int .i64 q.db] 89))
  have H1 := Lib.hid (h.alloc (.cells #[.slice (some ⟨b, 0, none⟩) n c, .int .u8 m.cr, .int .u8 m.de, .int .u8 m.cu, .int .i64 m.li, .int .i64 m.db, .int .u8 q.cr, .int .u8 q.de, .int .u8 q.cu, .int .i64 q.li, .int .i64 q.db] 89))
  have HS := Lib.hid hs
  unfold maxLen at hc
  clear h hs
  go_enter Try.func114, Try.ntmps114
  go_wp2
  go_loopw [2] (PageAt w b cs #[.slice (some ⟨b, 0, none⟩) n c, .int .u8 m.cr, .int .u8 m.de, .int .u8 m.cu, .int .i64 m.li, .int .i64 m.db, .int .u8 q.cr, .int .u8 q.de, .int .u8 q.cu, .int .i64 q.li, .int .i64 q.db] 89 35 5 0 n (lnMk m)) (fun i _ => n - (intOf i).toNat)
  case atStart => exact ⟨0, Nat.le_refl _, Nat.zero_le _, rfl, by rw [fill_none]; exact H1.out, KR.out, K0.out⟩
  case round =>
    obtain ⟨k, hk0, hk, rfl, hblk, hrow, hkeep⟩ := hrel
    have r0 := hrow.cell 0
    have r1 := hrow.cell 1
    have r2 := hrow.cell 2
    have r3 := hrow.cell 3
    have r4 := hrow.cell 4
    have r5 := hrow.cell 5
    simp at r0 r1 r2 r3 r4 r5
    by_cases hkl : k < n
    · have hsz := fill_size 5 (lnMk m) cs 0 k
      have hS := HS.out
      obtain ⟨u0, hu0⟩ := blk_ex hblk (j := k * 5) (by omega)
      obtain ⟨u1, hu1⟩ := blk_ex hblk (j := k * 5 + 1) (by omega)
      obtain ⟨u2, hu2⟩ := blk_ex hblk (j := k * 5 + 2) (by omega)
      obtain ⟨u3, hu3⟩ := blk_ex hblk (j := k * 5 + 3) (by omega)
      obtain ⟨u4, hu4⟩ := blk_ex hblk (j := k * 5 + 4) (by omega)
      have hf := hblk.frozen
      have hz := hblk.lt
      have hne : b ≠ w.heap.size := by omega
      have HB2 := Lib.hid (by
        have := ((((hblk.set (k * 5) (lnMk m 0)).set (k * 5 + 1) (lnMk m 1)).set (k * 5 + 2) (lnMk m 2)).set (k * 5 + 3) (lnMk m 3)).set (k * 5 + 4) (lnMk m 4)
        rwa [fill_next5 (lnMk m) cs _ k hk0 (by omega)] at this)
      have HR2 := Lib.hid (((((hrow.setOther (a := ⟨b, k * 5, none⟩) (by simpa using Ne.symm hne) (lnMk m 0)).setOther (a := ⟨b, k * 5 + 1, none⟩) (by simpa using Ne.symm hne) (lnMk m 1)).setOther (a := ⟨b, k * 5 + 2, none⟩) (by simpa using Ne.symm hne) (lnMk m 2)).setOther (a := ⟨b, k * 5 + 3, none⟩) (by simpa using Ne.symm hne) (lnMk m 3)).setOther (a := ⟨b, k * 5 + 4, none⟩) (by simpa using Ne.symm hne) (lnMk m 4))
      have HK2 := Lib.hid (Keep.setCell (S := (· = b)) (Keep.setCell (S := (· = b)) (Keep.setCell (S := (· = b)) (Keep.setCell (S := (· = b)) (Keep.setCell (S := (· = b)) hkeep (p := ⟨b, k * 5, none⟩) (.inl rfl) (lnMk m 0)) (p := ⟨b, k * 5 + 1, none⟩) (.inl rfl) (lnMk m 1)) (p := ⟨b, k * 5 + 2, none⟩) (.inl rfl) (lnMk m 2)) (p := ⟨b, k * 5 + 3, none⟩) (.inl rfl) (lnMk m 3)) (p := ⟨b, k * 5 + 4, none⟩) (.inl rfl) (lnMk m 4))
      clear hblk hrow hkeep hsz hS
      go_wp2
      go_roundw
      case rel => exact ⟨k + 1, by omega, by omega, by go_num, HB2.out, HR2.out, HK2.out⟩
      case measure => simp [intOf]; omega
    · obtain rfl : k = n := by omega
      go_wp2
      go_end0
      exact ⟨rfl, hblk, hkeep⟩

set_option maxHeartbeats 4000000 in
theorem behindL_any {w : World} {b n c : Nat} {cs : Array Value} (m q : Ln) (h : Blk w b cs 35) (hn : n ≤ c) (hs : c * 5 ≤ cs.size) (hc : c ≤ maxLen) :
    Calls Try.prog 115 #[.agg #[.slice (some ⟨b, 0, none⟩) n c, .int .u8 m.cr, .int .u8 m.de, .int .u8 m.cu, .int .i64 m.li, .int .i64 m.db, .int .u8 q.cr, .int .u8 q.de, .int .u8 q.cu, .int .i64 q.li, .int .i64 q.db]] w fun e w' => e = .returned (.tuple #[]) ∧ Blk w' b (fill 5 (lnMk q) cs n c) 35 ∧ Keep (· = b) w w' := by
  have KR := Lib.hid (Blk.new w #[.slice (some ⟨b, 0, none⟩) n c, .int .u8 m.cr, .int .u8 m.de, .int .u8 m.cu, .int .i64 m.li, .int .i64 m.db, .int .u8 q.cr, .int .u8 q.de, .int .u8 q.cu, .int .i64 q.li, .int .i64 q.db] 89)
  have HB := Lib.hid h
  have hlt := h.lt
  have K0 := Lib.hid ((Keep.refl (· = b) w).alloc (.cells #[.slice (some ⟨b, 0, none⟩) n c, .int .u8 m.cr, .int .u8 m.de, .int .u8 m.cu, .int .i64 m.li, .int .i64 m.db, .int .u8 q.cr, .int .u8 q.de, .int .u8 q.cu, .int .i64 q.li, .int .i64 q.db] 89))
  have H1 := Lib.hid (h.alloc (.cells #[.slice (some ⟨b, 0, none⟩) n c, .int .u8 m.cr, .int .u8 m.de, .int .u8 m.cu, .int .i64 m.li, .int .i64 m.db, .int .u8 q.cr, .int .u8 q.de, .int .u8 q.cu, .int .i64 q.li, .int .i64 q.db] 89))
  have HS := Lib.hid hs
  unfold maxLen at hc
  clear h hs
  go_enter Try.func115, Try.ntmps115
  go_wp2
  go_loopw [3] (PageAt w b cs #[.slice (some ⟨b, 0, none⟩) n c, .int .u8 m.cr, .int .u8 m.de, .int .u8 m.cu, .int .i64 m.li, .int .i64 m.db, .int .u8 q.cr, .int .u8 q.de, .int .u8 q.cu, .int .i64 q.li, .int .i64 q.db] 89 35 5 n c (lnMk q)) (fun i _ => c - (intOf i).toNat)
  case atStart => exact ⟨n, Nat.le_refl _, hn, rfl, by rw [fill_none]; exact H1.out, KR.out, K0.out⟩
  case round =>
    obtain ⟨k, hk0, hk, rfl, hblk, hrow, hkeep⟩ := hrel
    have r0 := hrow.cell 0
    have r6 := hrow.cell 6
    have r7 := hrow.cell 7
    have r8 := hrow.cell 8
    have r9 := hrow.cell 9
    have r10 := hrow.cell 10
    simp at r0 r6 r7 r8 r9 r10
    by_cases hkl : k < c
    · have hsz := fill_size 5 (lnMk q) cs n k
      have hS := HS.out
      obtain ⟨u0, hu0⟩ := blk_ex hblk (j := k * 5) (by omega)
      obtain ⟨u1, hu1⟩ := blk_ex hblk (j := k * 5 + 1) (by omega)
      obtain ⟨u2, hu2⟩ := blk_ex hblk (j := k * 5 + 2) (by omega)
      obtain ⟨u3, hu3⟩ := blk_ex hblk (j := k * 5 + 3) (by omega)
      obtain ⟨u4, hu4⟩ := blk_ex hblk (j := k * 5 + 4) (by omega)
      have hf := hblk.frozen
      have hz := hblk.lt
      have hne : b ≠ w.heap.size := by omega
      have HB2 := Lib.hid (by
        have := ((((hblk.set (k * 5) (lnMk q 0)).set (k * 5 + 1) (lnMk q 1)).set (k * 5 + 2) (lnMk q 2)).set (k * 5 + 3) (lnMk q 3)).set (k * 5 + 4) (lnMk q 4)
        rwa [fill_next5 (lnMk q) cs _ k hk0 (by omega)] at this)
      have HR2 := Lib.hid (((((hrow.setOther (a := ⟨b, k * 5, none⟩) (by simpa using Ne.symm hne) (lnMk q 0)).setOther (a := ⟨b, k * 5 + 1, none⟩) (by simpa using Ne.symm hne) (lnMk q 1)).setOther (a := ⟨b, k * 5 + 2, none⟩) (by simpa using Ne.symm hne) (lnMk q 2)).setOther (a := ⟨b, k * 5 + 3, none⟩) (by simpa using Ne.symm hne) (lnMk q 3)).setOther (a := ⟨b, k * 5 + 4, none⟩) (by simpa using Ne.symm hne) (lnMk q 4))
      have HK2 := Lib.hid (Keep.setCell (S := (· = b)) (Keep.setCell (S := (· = b)) (Keep.setCell (S := (· = b)) (Keep.setCell (S := (· = b)) (Keep.setCell (S := (· = b)) hkeep (p := ⟨b, k * 5, none⟩) (.inl rfl) (lnMk q 0)) (p := ⟨b, k * 5 + 1, none⟩) (.inl rfl) (lnMk q 1)) (p := ⟨b, k * 5 + 2, none⟩) (.inl rfl) (lnMk q 2)) (p := ⟨b, k * 5 + 3, none⟩) (.inl rfl) (lnMk q 3)) (p := ⟨b, k * 5 + 4, none⟩) (.inl rfl) (lnMk q 4))
      clear hblk hrow hkeep hsz hS
      go_wp2
      go_roundw
      case rel => exact ⟨k + 1, by omega, by omega, by go_num, HB2.out, HR2.out, HK2.out⟩
      case measure => simp [intOf]; omega
    · obtain rfl : k = c := by omega
      go_wp2
      go_end0
      exact ⟨rfl, hblk, hkeep⟩

set_option maxHeartbeats 8000000 in
set_option maxRecDepth 100000 in
theorem standsL_any {w : World} {b n c : Nat} {cs : Array Value} (m q : Ln) (h : Blk w b cs 35) (hn : n ≤ c) (hs : c * 5 ≤ cs.size) (hc : c ≤ maxLen)
    (h1 : ∀ j, j < n → ∀ i, i < 5 → cs[j * 5 + i]? = some (lnMk m i)) (h2 : ∀ j, n ≤ j → j < c → ∀ i, i < 5 → cs[j * 5 + i]? = some (lnMk q i)) :
    Calls Try.prog 113 #[.agg #[.slice (some ⟨b, 0, none⟩) n c, .int .u8 m.cr, .int .u8 m.de, .int .u8 m.cu, .int .i64 m.li, .int .i64 m.db, .int .u8 q.cr, .int .u8 q.de, .int .u8 q.cu, .int .i64 q.li, .int .i64 q.db]] w fun e w' => e = .returned (.bool true) ∧ Below w.heap.size w w' := by
  have KR := Lib.hid (Blk.new w #[.slice (some ⟨b, 0, none⟩) n c, .int .u8 m.cr, .int .u8 m.de, .int .u8 m.cu, .int .i64 m.li, .int .i64 m.db, .int .u8 q.cr, .int .u8 q.de, .int .u8 q.cu, .int .i64 q.li, .int .i64 q.db] 89)
  have B0 := Lib.hid ((Below.refl w.heap.size w).alloc (Nat.le_refl _) (.cells #[.slice (some ⟨b, 0, none⟩) n c, .int .u8 m.cr, .int .u8 m.de, .int .u8 m.cu, .int .i64 m.li, .int .i64 m.db, .int .u8 q.cr, .int .u8 q.de, .int .u8 q.cu, .int .i64 q.li, .int .i64 q.db] 89))
  have HB := Lib.hid h
  have hlt := h.lt
  have H1 := Lib.hid h1; have H2 := Lib.hid h2
  unfold maxLen at hc
  clear h h1 h2 hs
  go_enter Try.func113, Try.ntmps113
  go_wp2
  go_loopw [4] (fun i wr => ∃ k : Nat, k ≤ c ∧ i = .int .i64 k ∧ Below w.heap.size w wr ∧ Blk wr w.heap.size #[.slice (some ⟨b, 0, none⟩) n c, .int .u8 m.cr, .int .u8 m.de, .int .u8 m.cu, .int .i64 m.li, .int .i64 m.db, .int .u8 q.cr, .int .u8 q.de, .int .u8 q.cu, .int .i64 q.li, .int .i64 q.db] 89) (fun i _ => c - (intOf i).toNat)
  case atStart => exact ⟨0, Nat.zero_le _, rfl, B0.out, KR.out⟩
  case round =>
    obtain ⟨k, hk, rfl, hb, hrow⟩ := hrel
    have r0 := hrow.cell 0
    simp at r0
    have BB := Lib.hid hb; have RR := Lib.hid hrow
    have hz := hrow.lt
    have hzb : b < wr.heap.size := Nat.lt_of_lt_of_le hlt hb.size
    by_cases hkl : k < c
    · have BK := Lib.hid (HB.out.below BB.out hlt)
      clear hb hrow
      by_cases hkn : k < n
      · have CK := Lib.hid (H1.out k hkn)
        have g1 : decide ((k : Int) < (n : Int)) = true := by simp; omega
        have g2 : decide (n ≤ k) = false := by simp; omega
        go_wp2_with fail
        refine region_still (by kernel_rfl) [.int .i64 k, .pointer (some ⟨w.heap.size, 0, none⟩), .slice (some ⟨b, 0, none⟩) n c, .int .i64 n, .bool true, .bool true, .slice (some ⟨b, 0, none⟩) c c, .int .i64 k, .pointer (some ⟨b, k * 5, none⟩), .agg #[.int .u8 m.cr, .int .u8 m.de, .int .u8 m.cu, .int .i64 m.li, .int .i64 m.db], .pointer (some ⟨w.heap.size, 1, none⟩), .agg #[.int .u8 m.cr, .int .u8 m.de, .int .u8 m.cu, .int .i64 m.li, .int .i64 m.db], .bool false, .bool false, .bool false, .int .i64 k, .pointer (some ⟨w.heap.size, 0, none⟩), .slice (some ⟨b, 0, none⟩) n c, .int .i64 n, .bool false, .bool false, undef, undef, undef, undef, undef, undef, undef, .bool false, .bool false]
          (fun w' => Below wr.heap.size wr w') (by kernel_rfl) (Below.refl _ _).drew ?_
        intro af haf
        simp only [puts, Act.put, List.getD_cons_zero, List.getD_cons_succ, List.setIfInBounds_toArray, List.set_cons_succ, List.set_cons_zero] at haf
        subst haf
        refine ⟨?_, ?_⟩
        · simp only [EachTo]
          refine ⟨?_, ?_, ?_, ?_, ?_, ?_, ?_, ?_, ?_, ?_, ?_, ?_, ?_, ?_, ?_, ?_, ?_, ?_, ?_, ?_, ?_, ?_, ?_, ?_, ?_, ?_, ?_, ?_, ?_, ?_, trivial⟩
          · intro w' hS
            refine OpTo.plain ?_ ?_
            exact rfl
            have HS := Lib.hid hS
            clear hS
            go_wp2_with fail
            all_goals first | exact HS.out | exact ⟨rfl, HS.out⟩ | rfl
          · intro w' hS
            refine OpTo.plain ?_ ?_
            exact rfl
            have HS := Lib.hid hS
            clear hS
            go_wp2_with fail
            all_goals first | exact HS.out | exact ⟨rfl, HS.out⟩ | rfl
          · intro w' hS
            refine OpTo.plain ?_ ?_
            exact rfl
            have r0 := (RR.out.below hS RR.out.lt).cell 0
            simp at r0
            have HS := Lib.hid hS
            clear hS
            go_wp2_with fail
            all_goals first | exact HS.out | exact ⟨rfl, HS.out⟩ | rfl
          · intro w' hS
            refine OpTo.plain ?_ ?_
            exact rfl
            have HS := Lib.hid hS
            clear hS
            go_wp2_with fail
            all_goals first | exact HS.out | exact ⟨rfl, HS.out⟩ | rfl
          · intro w' hS
            refine OpTo.plain ?_ ?_
            exact rfl
            have HS := Lib.hid hS
            clear hS
            go_wp2_with fail
            all_goals first | exact HS.out | exact ⟨rfl, HS.out⟩ | rfl
          · intro w' hS
            refine OpTo.plain ?_ ?_
            exact rfl
            have HS := Lib.hid hS
            clear hS
            go_wp2_with fail
            all_goals first | exact HS.out | exact ⟨rfl, HS.out⟩ | rfl
          · intro w' hS
            refine OpTo.wanted ?_ ?_
            kernel_rfl
            have HS := Lib.hid hS
            clear hS
            go_wp2_with fail
            all_goals first | exact HS.out | exact ⟨rfl, HS.out⟩ | rfl
          · intro w' hS
            refine OpTo.wanted ?_ ?_
            kernel_rfl
            have HS := Lib.hid hS
            clear hS
            go_wp2_with fail
            all_goals first | exact HS.out | exact ⟨rfl, HS.out⟩ | rfl
          · intro w' hS
            refine OpTo.wanted ?_ ?_
            kernel_rfl
            have HS := Lib.hid hS
            clear hS
            go_wp2_with fail
            all_goals first | exact HS.out | exact ⟨rfl, HS.out⟩ | rfl
          · intro w' hS
            refine OpTo.wanted ?_ ?_
            kernel_rfl
            have p0 := ((BK.out.below hS BK.out.lt).cell (k * 5)).trans (CK.out 0 (by omega))
            have p1 := ((BK.out.below hS BK.out.lt).cell (k * 5 + 1)).trans (CK.out 1 (by omega))
            have p2 := ((BK.out.below hS BK.out.lt).cell (k * 5 + 2)).trans (CK.out 2 (by omega))
            have p3 := ((BK.out.below hS BK.out.lt).cell (k * 5 + 3)).trans (CK.out 3 (by omega))
            have p4 := ((BK.out.below hS BK.out.lt).cell (k * 5 + 4)).trans (CK.out 4 (by omega))
            simp [lnMk, Ln.vals] at p0 p1 p2 p3 p4
            have HS := Lib.hid hS
            clear hS
            go_wp2_with fail
            all_goals first | exact HS.out | exact ⟨rfl, HS.out⟩ | rfl
          · intro w' hS
            refine OpTo.wanted ?_ ?_
            kernel_rfl
            have HS := Lib.hid hS
            clear hS
            go_wp2_with fail
            all_goals first | exact HS.out | exact ⟨rfl, HS.out⟩ | rfl
          · intro w' hS
            refine OpTo.wanted ?_ ?_
            kernel_rfl
            have r0 := (RR.out.below hS RR.out.lt).cell 1
            have r1 := (RR.out.below hS RR.out.lt).cell 2
            have r2 := (RR.out.below hS RR.out.lt).cell 3
            have r3 := (RR.out.below hS RR.out.lt).cell 4
            have r4 := (RR.out.below hS RR.out.lt).cell 5
            simp at r0 r1 r2 r3 r4
            have HS := Lib.hid hS
            clear hS
            go_wp2_with fail
            all_goals first | exact HS.out | exact ⟨rfl, HS.out⟩ | rfl
          · intro w' hS
            refine OpTo.wanted ?_ ?_
            kernel_rfl
            have HS := Lib.hid hS
            clear hS
            go_wp2_with fail
            all_goals first | exact HS.out | exact ⟨rfl, HS.out⟩ | rfl
          · intro w' hS
            refine OpTo.plain ?_ ?_
            exact rfl
            have HS := Lib.hid hS
            clear hS
            go_wp2_with fail
            all_goals first | exact HS.out | exact ⟨rfl, HS.out⟩ | rfl
          · intro w' hS
            refine OpTo.plain ?_ ?_
            exact rfl
            have HS := Lib.hid hS
            clear hS
            go_wp2_with fail
            all_goals first | exact HS.out | exact ⟨rfl, HS.out⟩ | rfl
          · intro w' hS
            refine OpTo.wanted ?_ ?_
            kernel_rfl
            have HS := Lib.hid hS
            clear hS
            go_wp2_with fail
            all_goals first | exact HS.out | exact ⟨rfl, HS.out⟩ | rfl
          · intro w' hS
            refine OpTo.wanted ?_ ?_
            kernel_rfl
            have HS := Lib.hid hS
            clear hS
            go_wp2_with fail
            all_goals first | exact HS.out | exact ⟨rfl, HS.out⟩ | rfl
          · intro w' hS
            refine OpTo.wanted ?_ ?_
            kernel_rfl
            have r0 := (RR.out.below hS RR.out.lt).cell 0
            simp at r0
            have HS := Lib.hid hS
            clear hS
            go_wp2_with fail
            all_goals first | exact HS.out | exact ⟨rfl, HS.out⟩ | rfl
          · intro w' hS
            refine OpTo.wanted ?_ ?_
            kernel_rfl
            have HS := Lib.hid hS
            clear hS
            go_wp2_with fail
            all_goals first | exact HS.out | exact ⟨rfl, HS.out⟩ | rfl
          · intro w' hS
            refine OpTo.wanted ?_ ?_
            kernel_rfl
            have HS := Lib.hid hS
            clear hS
            go_wp2_with fail
            all_goals first | exact HS.out | exact ⟨rfl, HS.out⟩ | rfl
          · intro w' hS
            refine OpTo.wanted ?_ ?_
            kernel_rfl
            have HS := Lib.hid hS
            clear hS
            go_wp2_with fail
            all_goals first | exact HS.out | exact ⟨rfl, HS.out⟩ | rfl
          · intro w' hS
            refine OpTo.passed (by kernel_rfl) rfl hS
          · intro w' hS
            refine OpTo.passed (by kernel_rfl) rfl hS
          · intro w' hS
            refine OpTo.passed (by kernel_rfl) rfl hS
          · intro w' hS
            refine OpTo.passed (by kernel_rfl) rfl hS
          · intro w' hS
            refine OpTo.passed (by kernel_rfl) rfl hS
          · intro w' hS
            refine OpTo.passed (by kernel_rfl) rfl hS
          · intro w' hS
            refine OpTo.passed (by kernel_rfl) rfl hS
          · intro w' hS
            refine OpTo.wanted ?_ ?_
            kernel_rfl
            have HS := Lib.hid hS
            clear hS
            go_wp2_with fail
            all_goals first | exact HS.out | exact ⟨rfl, HS.out⟩ | rfl
          · intro w' hS
            refine OpTo.plain ?_ ?_
            exact rfl
            have HS := Lib.hid hS
            clear hS
            go_wp2_with fail
            all_goals first | exact HS.out | exact ⟨rfl, HS.out⟩ | rfl
        intro w' hS
        have hS' := Lib.hid hS
        clear hS
        go_wp2
        go_roundw
        case rel => exact ⟨k + 1, by omega, by go_num, BB.out.trans (hS'.out.mono BB.out.size), RR.out.below hS'.out RR.out.lt⟩
        case measure => simp [intOf]; omega
      · have CK := Lib.hid (H2.out k (by omega) hkl)
        have g1 : decide ((k : Int) < (n : Int)) = false := by simp; omega
        have g2 : decide (n ≤ k) = true := by simp; omega
        go_wp2_with fail
        refine region_still (by kernel_rfl) [.int .i64 k, .pointer (some ⟨w.heap.size, 0, none⟩), .slice (some ⟨b, 0, none⟩) n c, .int .i64 n, .bool false, .bool false, undef, undef, undef, undef, undef, undef, undef, .bool false, .bool false, .int .i64 k, .pointer (some ⟨w.heap.size, 0, none⟩), .slice (some ⟨b, 0, none⟩) n c, .int .i64 n, .bool true, .bool true, .slice (some ⟨b, 0, none⟩) c c, .int .i64 k, .pointer (some ⟨b, k * 5, none⟩), .agg #[.int .u8 q.cr, .int .u8 q.de, .int .u8 q.cu, .int .i64 q.li, .int .i64 q.db], .pointer (some ⟨w.heap.size, 6, none⟩), .agg #[.int .u8 q.cr, .int .u8 q.de, .int .u8 q.cu, .int .i64 q.li, .int .i64 q.db], .bool false, .bool false, .bool false]
          (fun w' => Below wr.heap.size wr w') (by kernel_rfl) (Below.refl _ _).drew ?_
        intro af haf
        simp only [puts, Act.put, List.getD_cons_zero, List.getD_cons_succ, List.setIfInBounds_toArray, List.set_cons_succ, List.set_cons_zero] at haf
        subst haf
        refine ⟨?_, ?_⟩
        · simp only [EachTo]
          refine ⟨?_, ?_, ?_, ?_, ?_, ?_, ?_, ?_, ?_, ?_, ?_, ?_, ?_, ?_, ?_, ?_, ?_, ?_, ?_, ?_, ?_, ?_, ?_, ?_, ?_, ?_, ?_, ?_, ?_, ?_, trivial⟩
          · intro w' hS
            refine OpTo.plain ?_ ?_
            exact rfl
            have HS := Lib.hid hS
            clear hS
            go_wp2_with fail
            all_goals first | exact HS.out | exact ⟨rfl, HS.out⟩ | rfl
          · intro w' hS
            refine OpTo.plain ?_ ?_
            exact rfl
            have HS := Lib.hid hS
            clear hS
            go_wp2_with fail
            all_goals first | exact HS.out | exact ⟨rfl, HS.out⟩ | rfl
          · intro w' hS
            refine OpTo.plain ?_ ?_
            exact rfl
            have r0 := (RR.out.below hS RR.out.lt).cell 0
            simp at r0
            have HS := Lib.hid hS
            clear hS
            go_wp2_with fail
            all_goals first | exact HS.out | exact ⟨rfl, HS.out⟩ | rfl
          · intro w' hS
            refine OpTo.plain ?_ ?_
            exact rfl
            have HS := Lib.hid hS
            clear hS
            go_wp2_with fail
            all_goals first | exact HS.out | exact ⟨rfl, HS.out⟩ | rfl
          · intro w' hS
            refine OpTo.plain ?_ ?_
            exact rfl
            have HS := Lib.hid hS
            clear hS
            go_wp2_with fail
            all_goals first | exact HS.out | exact ⟨rfl, HS.out⟩ | rfl
          · intro w' hS
            refine OpTo.plain ?_ ?_
            exact rfl
            have HS := Lib.hid hS
            clear hS
            go_wp2_with fail
            all_goals first | exact HS.out | exact ⟨rfl, HS.out⟩ | rfl
          · intro w' hS
            refine OpTo.passed (by kernel_rfl) rfl hS
          · intro w' hS
            refine OpTo.passed (by kernel_rfl) rfl hS
          · intro w' hS
            refine OpTo.passed (by kernel_rfl) rfl hS
          · intro w' hS
            refine OpTo.passed (by kernel_rfl) rfl hS
          · intro w' hS
            refine OpTo.passed (by kernel_rfl) rfl hS
          · intro w' hS
            refine OpTo.passed (by kernel_rfl) rfl hS
          · intro w' hS
            refine OpTo.passed (by kernel_rfl) rfl hS
          · intro w' hS
            refine OpTo.plain ?_ ?_
            exact rfl
            have HS := Lib.hid hS
            clear hS
            go_wp2_with fail
            all_goals first | exact HS.out | exact ⟨rfl, HS.out⟩ | rfl
          · intro w' hS
            refine OpTo.plain ?_ ?_
            exact rfl
            have HS := Lib.hid hS
            clear hS
            go_wp2_with fail
            all_goals first | exact HS.out | exact ⟨rfl, HS.out⟩ | rfl
          · intro w' hS
            refine OpTo.wanted ?_ ?_
            kernel_rfl
            have HS := Lib.hid hS
            clear hS
            go_wp2_with fail
            all_goals first | exact HS.out | exact ⟨rfl, HS.out⟩ | rfl
          · intro w' hS
            refine OpTo.wanted ?_ ?_
            kernel_rfl
            have HS := Lib.hid hS
            clear hS
            go_wp2_with fail
            all_goals first | exact HS.out | exact ⟨rfl, HS.out⟩ | rfl
          · intro w' hS
            refine OpTo.wanted ?_ ?_
            kernel_rfl
            have r0 := (RR.out.below hS RR.out.lt).cell 0
            simp at r0
            have HS := Lib.hid hS
            clear hS
            go_wp2_with fail
            all_goals first | exact HS.out | exact ⟨rfl, HS.out⟩ | rfl
          · intro w' hS
            refine OpTo.wanted ?_ ?_
            kernel_rfl
            have HS := Lib.hid hS
            clear hS
            go_wp2_with fail
            all_goals first | exact HS.out | exact ⟨rfl, HS.out⟩ | rfl
          · intro w' hS
            refine OpTo.wanted ?_ ?_
            kernel_rfl
            have HS := Lib.hid hS
            clear hS
            go_wp2_with fail
            all_goals first | exact HS.out | exact ⟨rfl, HS.out⟩ | rfl
          · intro w' hS
            refine OpTo.wanted ?_ ?_
            kernel_rfl
            have HS := Lib.hid hS
            clear hS
            go_wp2_with fail
            all_goals first | exact HS.out | exact ⟨rfl, HS.out⟩ | rfl
          · intro w' hS
            refine OpTo.wanted ?_ ?_
            kernel_rfl
            have HS := Lib.hid hS
            clear hS
            go_wp2_with fail
            all_goals first | exact HS.out | exact ⟨rfl, HS.out⟩ | rfl
          · intro w' hS
            refine OpTo.wanted ?_ ?_
            kernel_rfl
            have HS := Lib.hid hS
            clear hS
            go_wp2_with fail
            all_goals first | exact HS.out | exact ⟨rfl, HS.out⟩ | rfl
          · intro w' hS
            refine OpTo.wanted ?_ ?_
            kernel_rfl
            have HS := Lib.hid hS
            clear hS
            go_wp2_with fail
            all_goals first | exact HS.out | exact ⟨rfl, HS.out⟩ | rfl
          · intro w' hS
            refine OpTo.wanted ?_ ?_
            kernel_rfl
            have p0 := ((BK.out.below hS BK.out.lt).cell (k * 5)).trans (CK.out 0 (by omega))
            have p1 := ((BK.out.below hS BK.out.lt).cell (k * 5 + 1)).trans (CK.out 1 (by omega))
            have p2 := ((BK.out.below hS BK.out.lt).cell (k * 5 + 2)).trans (CK.out 2 (by omega))
            have p3 := ((BK.out.below hS BK.out.lt).cell (k * 5 + 3)).trans (CK.out 3 (by omega))
            have p4 := ((BK.out.below hS BK.out.lt).cell (k * 5 + 4)).trans (CK.out 4 (by omega))
            simp [lnMk, Ln.vals] at p0 p1 p2 p3 p4
            have HS := Lib.hid hS
            clear hS
            go_wp2_with fail
            all_goals first | exact HS.out | exact ⟨rfl, HS.out⟩ | rfl
          · intro w' hS
            refine OpTo.wanted ?_ ?_
            kernel_rfl
            have HS := Lib.hid hS
            clear hS
            go_wp2_with fail
            all_goals first | exact HS.out | exact ⟨rfl, HS.out⟩ | rfl
          · intro w' hS
            refine OpTo.wanted ?_ ?_
            kernel_rfl
            have r0 := (RR.out.below hS RR.out.lt).cell 6
            have r1 := (RR.out.below hS RR.out.lt).cell 7
            have r2 := (RR.out.below hS RR.out.lt).cell 8
            have r3 := (RR.out.below hS RR.out.lt).cell 9
            have r4 := (RR.out.below hS RR.out.lt).cell 10
            simp at r0 r1 r2 r3 r4
            have HS := Lib.hid hS
            clear hS
            go_wp2_with fail
            all_goals first | exact HS.out | exact ⟨rfl, HS.out⟩ | rfl
          · intro w' hS
            refine OpTo.wanted ?_ ?_
            kernel_rfl
            have HS := Lib.hid hS
            clear hS
            go_wp2_with fail
            all_goals first | exact HS.out | exact ⟨rfl, HS.out⟩ | rfl
          · intro w' hS
            refine OpTo.wanted ?_ ?_
            kernel_rfl
            have HS := Lib.hid hS
            clear hS
            go_wp2_with fail
            all_goals first | exact HS.out | exact ⟨rfl, HS.out⟩ | rfl
          · intro w' hS
            refine OpTo.plain ?_ ?_
            exact rfl
            have HS := Lib.hid hS
            clear hS
            go_wp2_with fail
            all_goals first | exact HS.out | exact ⟨rfl, HS.out⟩ | rfl
        intro w' hS
        have hS' := Lib.hid hS
        clear hS
        go_wp2
        go_roundw
        case rel => exact ⟨k + 1, by omega, by go_num, BB.out.trans (hS'.out.mono BB.out.size), RR.out.below hS'.out RR.out.lt⟩
        case measure => simp [intOf]; omega
    · go_wp2
      go_ret
      exact ⟨rfl, BB.out⟩

end Go.Proofs.Ytlcilpeljnoclaa
