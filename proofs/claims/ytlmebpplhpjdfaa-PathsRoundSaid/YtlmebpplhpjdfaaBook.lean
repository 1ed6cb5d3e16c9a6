/-
  The statements' own book of pages: a page of parties, a page of lines: written over, and whether it stands.
-/
import Derived.Test.YtlmebpplhpjdfaaHeap
import Derived.Test.YtlmebpplhpjdfaaRegionG
namespace Go.Proofs.Ytlmebpplhpjdfaa
open Go.RowKit
set_option linter.unusedSimpArgs false
set_option linter.unusedVariables false

/-- Cells written over from element lo up to element hi, each of s cells. -/
def fill (s : Nat) (mk : Nat → Value) (cs : Array Value) (lo hi : Nat) : Array Value := Array.ofFn (n := cs.size) fun j => if lo * s ≤ j.val ∧ j.val < hi * s then mk (j.val % s) else cs[j]
theorem fill_size (s : Nat) (mk : Nat → Value) (cs : Array Value) (lo hi : Nat) : (fill s mk cs lo hi).size = cs.size := by simp [fill]
theorem fill_get (s : Nat) (mk : Nat → Value) (cs : Array Value) (lo hi j : Nat) (h : j < cs.size) : (fill s mk cs lo hi)[j]? = some (if lo * s ≤ j ∧ j < hi * s then mk (j % s) else cs[j]) := by
  rw [Array.getElem?_eq_getElem (by rw [fill_size]; exact h)]
  simp [fill]
theorem fill_none (s : Nat) (mk : Nat → Value) (cs : Array Value) (lo : Nat) : fill s mk cs lo lo = cs := by
  apply Array.ext
  · rw [fill_size]
  · intro j h1 h2
    simp [fill]
    intro a b; omega
theorem fill_next1 (mk : Nat → Value) (cs : Array Value) (lo hi : Nat) (hl : lo ≤ hi) (h : hi < cs.size) : (fill 1 mk cs lo hi).setIfInBounds hi (mk 0) = fill 1 mk cs lo (hi + 1) := by
  apply Array.ext
  · simp [fill_size]
  · intro j h1 h2
    rw [Array.getElem_setIfInBounds (by simpa using h1)]
    simp only [fill, Array.getElem_ofFn, Nat.mul_one, Nat.mod_one]
    by_cases e : hi = j
    · subst e; simp [hl]
    · rw [if_neg e]
      by_cases q : lo ≤ j ∧ j < hi
      · rw [if_pos q, if_pos (by omega)]
      · rw [if_neg q, if_neg (by omega)]
theorem fill_next5 (mk : Nat → Value) (cs : Array Value) (lo hi : Nat) (hl : lo ≤ hi) (h : (hi + 1) * 5 ≤ cs.size) :
    (((((fill 5 mk cs lo hi).setIfInBounds (hi * 5) (mk 0)).setIfInBounds (hi * 5 + 1) (mk 1)).setIfInBounds (hi * 5 + 2) (mk 2)).setIfInBounds (hi * 5 + 3) (mk 3)).setIfInBounds (hi * 5 + 4) (mk 4) = fill 5 mk cs lo (hi + 1) := by
  apply Array.ext
  · simp [fill_size]
  · intro j h1 h2
    simp only [Array.size_setIfInBounds] at h1
    repeat rw [Array.getElem_setIfInBounds (by simpa using h1)]
    simp only [fill, Array.getElem_ofFn]
    by_cases e4 : hi * 5 + 4 = j
    · rw [if_pos e4, if_pos (by omega), show j % 5 = 4 by omega]
    rw [if_neg e4]
    by_cases e3 : hi * 5 + 3 = j
    · rw [if_pos e3, if_pos (by omega), show j % 5 = 3 by omega]
    rw [if_neg e3]
    by_cases e2 : hi * 5 + 2 = j
    · rw [if_pos e2, if_pos (by omega), show j % 5 = 2 by omega]
    rw [if_neg e2]
    by_cases e1 : hi * 5 + 1 = j
    · rw [if_pos e1, if_pos (by omega), show j % 5 = 1 by omega]
    rw [if_neg e1]
    by_cases e0 : hi * 5 = j
    · rw [if_pos e0, if_pos (by omega), show j % 5 = 0 by omega]
    rw [if_neg e0]
    by_cases q : lo * 5 ≤ j ∧ j < hi * 5
    · rw [if_pos q, if_pos (by omega)]
    · rw [if_neg q, if_neg (by omega)]

/-- At the head of a page's loop. -/
def PageAt (w : World) (b : Nat) (cs : Array Value) (row : Array Value) (t e : TypeId) (s lo last : Nat) (mk : Nat → Value) (i : Value) (wr : World) : Prop :=
  ∃ k : Nat, lo ≤ k ∧ k ≤ last ∧ i = .int .i64 k ∧ Blk wr b (fill s mk cs lo k) e ∧ Blk wr w.heap.size row t ∧ Keep (· = b) w wr
set_option maxHeartbeats 4000000 in
theorem writeP_any {w : World} {b n c : Nat} {cs : Array Value} (m bh : Int) (h : Blk w b cs 23) (hn : n ≤ c) (hs : c ≤ cs.size) (hc : c ≤ maxLen) :
    Calls Try.prog 56 #[.agg #[.slice (some ⟨b, 0, none⟩) n c, .int .u8 m, .int .u8 bh]] w fun e w' => e = .returned (.tuple #[]) ∧ Blk w' b (fill 1 (fun _ => .int .u8 m) cs 0 n) 23 ∧ Keep (· = b) w w' := by
  have KR := Lib.hid (Blk.new w #[.slice (some ⟨b, 0, none⟩) n c, .int .u8 m, .int .u8 bh] 79)
  have HB := Lib.hid h
  have hlt := h.lt
  have K0 := Lib.hid ((Keep.refl (· = b) w).alloc (.cells #[.slice (some ⟨b, 0, none⟩) n c, .int .u8 m, .int .u8 bh] 79))
  have H1 := Lib.hid (h.alloc (.cells #[.slice (some ⟨b, 0, none⟩) n c, .int .u8 m, .int .u8 bh] 79))
  unfold maxLen at hc
  clear h
  go_enter Try.func56, Try.ntmps56
  go_wp2
  go_loopw [2] (PageAt w b cs #[.slice (some ⟨b, 0, none⟩) n c, .int .u8 m, .int .u8 bh] 79 23 1 0 n (fun _ => .int .u8 m)) (fun i _ => n - (intOf i).toNat)
  case atStart => exact ⟨0, Nat.le_refl _, Nat.zero_le _, rfl, by rw [fill_none]; exact H1.out, KR.out, K0.out⟩
  case round =>
    obtain ⟨k, hk0, hk, rfl, hblk, hrow, hkeep⟩ := hrel
    have r0 := hrow.cell 0; have r1 := hrow.cell 1; have r2 := hrow.cell 2
    simp at r0 r1 r2
    by_cases hkl : k < n
    · have hcell := hblk.cell k
      rw [fill_get 1 _ cs _ _ k (by omega)] at hcell
      have hf := hblk.frozen
      have hz := hblk.lt
      have hne : b ≠ w.heap.size := by omega
      have HB2 := Lib.hid (by have := hblk.set k (.int .u8 m); rwa [fill_next1 (fun _ => .int .u8 m) cs _ k hk0 (by omega)] at this)
      have HR2 := Lib.hid (hrow.setOther (a := ⟨b, k, none⟩) (by simpa using Ne.symm hne) (.int .u8 m))
      have HK2 := Lib.hid (Keep.setCell (S := (· = b)) hkeep (p := ⟨b, k, none⟩) (.inl rfl) (.int .u8 m))
      clear hblk hrow hkeep
      go_wp2
      go_roundw
      case rel => exact ⟨k + 1, by omega, by omega, by go_num, HB2.out, HR2.out, HK2.out⟩
      case measure => simp [intOf]; omega
    · obtain rfl : k = n := by omega
      go_wp2
      go_end0
      exact ⟨rfl, hblk, hkeep⟩

set_option maxHeartbeats 4000000 in
theorem behindP_any {w : World} {b n c : Nat} {cs : Array Value} (m bh : Int) (h : Blk w b cs 23) (hn : n ≤ c) (hs : c ≤ cs.size) (hc : c ≤ maxLen) :
    Calls Try.prog 57 #[.agg #[.slice (some ⟨b, 0, none⟩) n c, .int .u8 m, .int .u8 bh]] w fun e w' => e = .returned (.tuple #[]) ∧ Blk w' b (fill 1 (fun _ => .int .u8 bh) cs n c) 23 ∧ Keep (· = b) w w' := by
  have KR := Lib.hid (Blk.new w #[.slice (some ⟨b, 0, none⟩) n c, .int .u8 m, .int .u8 bh] 79)
  have HB := Lib.hid h
  have hlt := h.lt
  have K0 := Lib.hid ((Keep.refl (· = b) w).alloc (.cells #[.slice (some ⟨b, 0, none⟩) n c, .int .u8 m, .int .u8 bh] 79))
  have H1 := Lib.hid (h.alloc (.cells #[.slice (some ⟨b, 0, none⟩) n c, .int .u8 m, .int .u8 bh] 79))
  unfold maxLen at hc
  clear h
  go_enter Try.func57, Try.ntmps57
  go_wp2
  go_loopw [3] (PageAt w b cs #[.slice (some ⟨b, 0, none⟩) n c, .int .u8 m, .int .u8 bh] 79 23 1 n c (fun _ => .int .u8 bh)) (fun i _ => c - (intOf i).toNat)
  case atStart => exact ⟨n, Nat.le_refl _, hn, rfl, by rw [fill_none]; exact H1.out, KR.out, K0.out⟩
  case round =>
    obtain ⟨k, hk0, hk, rfl, hblk, hrow, hkeep⟩ := hrel
    have r0 := hrow.cell 0; have r1 := hrow.cell 1; have r2 := hrow.cell 2
    simp at r0 r1 r2
    by_cases hkl : k < c
    · have hcell := hblk.cell k
      rw [fill_get 1 _ cs _ _ k (by omega)] at hcell
      have hf := hblk.frozen
      have hz := hblk.lt
      have hne : b ≠ w.heap.size := by omega
      have HB2 := Lib.hid (by have := hblk.set k (.int .u8 bh); rwa [fill_next1 (fun _ => .int .u8 bh) cs _ k hk0 (by omega)] at this)
      have HR2 := Lib.hid (hrow.setOther (a := ⟨b, k, none⟩) (by simpa using Ne.symm hne) (.int .u8 bh))
      have HK2 := Lib.hid (Keep.setCell (S := (· = b)) hkeep (p := ⟨b, k, none⟩) (.inl rfl) (.int .u8 bh))
      clear hblk hrow hkeep
      go_wp2
      go_roundw
      case rel => exact ⟨k + 1, by omega, by omega, by go_num, HB2.out, HR2.out, HK2.out⟩
      case measure => simp [intOf]; omega
    · obtain rfl : k = c := by omega
      go_wp2
      go_end0
      exact ⟨rfl, hblk, hkeep⟩

set_option maxHeartbeats 8000000 in
set_option maxRecDepth 100000 in
theorem standsP_any {w : World} {b n c : Nat} {cs : Array Value} (m bh : Int) (h : Blk w b cs 23) (hn : n ≤ c) (hs : c ≤ cs.size) (hc : c ≤ maxLen)
    (h1 : ∀ j, j < n → cs[j]? = some (.int .u8 m)) (h2 : ∀ j, n ≤ j → j < c → cs[j]? = some (.int .u8 bh)) :
    Calls Try.prog 55 #[.agg #[.slice (some ⟨b, 0, none⟩) n c, .int .u8 m, .int .u8 bh]] w fun e w' => e = .returned (.bool true) ∧ Below w.heap.size w w' := by
  have KR := Lib.hid (Blk.new w #[.slice (some ⟨b, 0, none⟩) n c, .int .u8 m, .int .u8 bh] 79)
  have B0 := Lib.hid ((Below.refl w.heap.size w).alloc (Nat.le_refl _) (.cells #[.slice (some ⟨b, 0, none⟩) n c, .int .u8 m, .int .u8 bh] 79))
  have HB := Lib.hid h
  have hlt := h.lt
  have H1 := Lib.hid h1; have H2 := Lib.hid h2
  unfold maxLen at hc
  clear h h1 h2
  go_enter Try.func55, Try.ntmps55
  go_wp2
  go_loopw [4] (fun i wr => ∃ k : Nat, k ≤ c ∧ i = .int .i64 k ∧ Below w.heap.size w wr ∧ Blk wr w.heap.size #[.slice (some ⟨b, 0, none⟩) n c, .int .u8 m, .int .u8 bh] 79) (fun i _ => c - (intOf i).toNat)
  case atStart => exact ⟨0, Nat.zero_le _, rfl, B0.out, KR.out⟩
  case round =>
    obtain ⟨k, hk, rfl, hb, hrow⟩ := hrel
    have r0 := hrow.cell 0; have r1 := hrow.cell 1; have r2 := hrow.cell 2
    simp at r0 r1 r2
    have BB := Lib.hid hb; have RR := Lib.hid hrow
    have hz := hrow.lt
    have hzb : b < wr.heap.size := Nat.lt_of_lt_of_le hlt hb.size
    by_cases hkl : k < c
    · have hcell := (HB.out.below hb hlt).cell k
      clear hb hrow
      have BK := Lib.hid (HB.out.below BB.out hlt)
      by_cases hkn : k < n
      · have CK := Lib.hid (H1.out k hkn)
        have g1 : decide ((k : Int) < (n : Int)) = true := by simp; omega
        have g2 : decide (n ≤ k) = false := by simp; omega
        clear hcell
        go_wp2_with fail
        refine region_still (by kernel_rfl) [.int .i64 k, .pointer (some ⟨w.heap.size, 0, none⟩), .slice (some ⟨b, 0, none⟩) n c, .int .i64 n, .bool true, .bool true, .slice (some ⟨b, 0, none⟩) c c, .int .i64 k, .pointer (some ⟨b, k, none⟩), .int .u8 m, .pointer (some ⟨w.heap.size, 1, none⟩), .int .u8 m, .bool false, .bool false, .bool false, .int .i64 k, .pointer (some ⟨w.heap.size, 0, none⟩), .slice (some ⟨b, 0, none⟩) n c, .int .i64 n, .bool false, .bool false, undef, undef, undef, undef, undef, undef, undef, .bool false, .bool false]
          (fun w' => Below wr.heap.size wr w') (by kernel_rfl) (Below.refl _ _).drew ?_
        intro af haf
        simp only [puts, Act.put, List.getD_cons_zero, List.getD_cons_succ, List.setIfInBounds_toArray, List.set_cons_succ, List.set_cons_zero] at haf
        subst haf
        refine ⟨?_, ?_⟩
        · simp only [EachTo]
          refine ⟨?_, ?_, ?_, ?_, ?_, ?_, ?_, ?_, ?_, ?_, ?_, ?_, ?_, ?_, ?_, ?_, ?_, ?_, ?_, ?_, ?_, ?_, ?_, ?_, ?_, ?_, ?_, ?_, ?_, ?_, trivial⟩
          · intro w' hS
            refine OpTo.plain ?_ ?_
            exact rfl
            have HS := Lib.hid hS
            clear hS
            go_wp2_with fail
            all_goals first | exact HS.out | exact ⟨rfl, HS.out⟩ | rfl
          · intro w' hS
            refine OpTo.plain ?_ ?_
            exact rfl
            have HS := Lib.hid hS
            clear hS
            go_wp2_with fail
            all_goals first | exact HS.out | exact ⟨rfl, HS.out⟩ | rfl
          · intro w' hS
            refine OpTo.plain ?_ ?_
            exact rfl
            have r0 := (RR.out.below hS RR.out.lt).cell 0
            simp at r0
            have HS := Lib.hid hS
            clear hS
            go_wp2_with fail
            all_goals first | exact HS.out | exact ⟨rfl, HS.out⟩ | rfl
          · intro w' hS
            refine OpTo.plain ?_ ?_
            exact rfl
            have HS := Lib.hid hS
            clear hS
            go_wp2_with fail
            all_goals first | exact HS.out | exact ⟨rfl, HS.out⟩ | rfl
          · intro w' hS
            refine OpTo.plain ?_ ?_
            exact rfl
            have HS := Lib.hid hS
            clear hS
            go_wp2_with fail
            all_goals first | exact HS.out | exact ⟨rfl, HS.out⟩ | rfl
          · intro w' hS
            refine OpTo.plain ?_ ?_
            exact rfl
            have HS := Lib.hid hS
            clear hS
            go_wp2_with fail
            all_goals first | exact HS.out | exact ⟨rfl, HS.out⟩ | rfl
          · intro w' hS
            refine OpTo.wanted ?_ ?_
            kernel_rfl
            have HS := Lib.hid hS
            clear hS
            go_wp2_with fail
            all_goals first | exact HS.out | exact ⟨rfl, HS.out⟩ | rfl
          · intro w' hS
            refine OpTo.wanted ?_ ?_
            kernel_rfl
            have HS := Lib.hid hS
            clear hS
            go_wp2_with fail
            all_goals first | exact HS.out | exact ⟨rfl, HS.out⟩ | rfl
          · intro w' hS
            refine OpTo.wanted ?_ ?_
            kernel_rfl
            have HS := Lib.hid hS
            clear hS
            go_wp2_with fail
            all_goals first | exact HS.out | exact ⟨rfl, HS.out⟩ | rfl
          · intro w' hS
            refine OpTo.wanted ?_ ?_
            kernel_rfl
            have r0 := (BK.out.below hS BK.out.lt).cell k
            rw [CK.out] at r0
            have HS := Lib.hid hS
            clear hS
            go_wp2_with fail
            all_goals first | exact HS.out | exact ⟨rfl, HS.out⟩ | rfl
          · intro w' hS
            refine OpTo.wanted ?_ ?_
            kernel_rfl
            have HS := Lib.hid hS
            clear hS
            go_wp2_with fail
            all_goals first | exact HS.out | exact ⟨rfl, HS.out⟩ | rfl
          · intro w' hS
            refine OpTo.wanted ?_ ?_
            kernel_rfl
            have r0 := (RR.out.below hS RR.out.lt).cell 1
            simp at r0
            have HS := Lib.hid hS
            clear hS
            go_wp2_with fail
            all_goals first | exact HS.out | exact ⟨rfl, HS.out⟩ | rfl
          · intro w' hS
            refine OpTo.wanted ?_ ?_
            kernel_rfl
            have HS := Lib.hid hS
            clear hS
            go_wp2_with fail
            all_goals first | exact HS.out | exact ⟨rfl, HS.out⟩ | rfl
          · intro w' hS
            refine OpTo.plain ?_ ?_
            exact rfl
            have HS := Lib.hid hS
            clear hS
            go_wp2_with fail
            all_goals first | exact HS.out | exact ⟨rfl, HS.out⟩ | rfl
          · intro w' hS
            refine OpTo.plain ?_ ?_
            exact rfl
            have HS := Lib.hid hS
            clear hS
            go_wp2_with fail
            all_goals first | exact HS.out | exact ⟨rfl, HS.out⟩ | rfl
          · intro w' hS
            refine OpTo.wanted ?_ ?_
            kernel_rfl
            have HS := Lib.hid hS
            clear hS
            go_wp2_with fail
            all_goals first | exact HS.out | exact ⟨rfl, HS.out⟩ | rfl
          · intro w' hS
            refine OpTo.wanted ?_ ?_
            kernel_rfl
            have HS := Lib.hid hS
            clear hS
            go_wp2_with fail
            all_goals first | exact HS.out | exact ⟨rfl, HS.out⟩ | rfl
          · intro w' hS
            refine OpTo.wanted ?_ ?_
            kernel_rfl
            have r0 := (RR.out.below hS RR.out.lt).cell 0
            simp at r0
            have HS := Lib.hid hS
            clear hS
            go_wp2_with fail
            all_goals first | exact HS.out | exact ⟨rfl, HS.out⟩ | rfl
          · intro w' hS
            refine OpTo.wanted ?_ ?_
            kernel_rfl
            have HS := Lib.hid hS
            clear hS
            go_wp2_with fail
            all_goals first | exact HS.out | exact ⟨rfl, HS.out⟩ | rfl
          · intro w' hS
            refine OpTo.wanted ?_ ?_
            kernel_rfl
            have HS := Lib.hid hS
            clear hS
            go_wp2_with fail
            all_goals first | exact HS.out | exact ⟨rfl, HS.out⟩ | rfl
          · intro w' hS
            refine OpTo.wanted ?_ ?_
            kernel_rfl
            have HS := Lib.hid hS
            clear hS
            go_wp2_with fail
            all_goals first | exact HS.out | exact ⟨rfl, HS.out⟩ | rfl
          · intro w' hS
            refine OpTo.passed (by kernel_rfl) rfl hS
          · intro w' hS
            refine OpTo.passed (by kernel_rfl) rfl hS
          · intro w' hS
            refine OpTo.passed (by kernel_rfl) rfl hS
          · intro w' hS
            refine OpTo.passed (by kernel_rfl) rfl hS
          · intro w' hS
            refine OpTo.passed (by kernel_rfl) rfl hS
          · intro w' hS
            refine OpTo.passed (by kernel_rfl) rfl hS
          · intro w' hS
            refine OpTo.passed (by kernel_rfl) rfl hS
          · intro w' hS
            refine OpTo.wanted ?_ ?_
            kernel_rfl
            have HS := Lib.hid hS
            clear hS
            go_wp2_with fail
            all_goals first | exact HS.out | exact ⟨rfl, HS.out⟩ | rfl
          · intro w' hS
            refine OpTo.plain ?_ ?_
            exact rfl
            have HS := Lib.hid hS
            clear hS
            go_wp2_with fail
            all_goals first | exact HS.out | exact ⟨rfl, HS.out⟩ | rfl
        intro w' hS
        have hS' := Lib.hid hS
        clear hS
        go_wp2
        go_roundw
        case rel => exact ⟨k + 1, by omega, by go_num, BB.out.trans (hS'.out.mono BB.out.size), RR.out.below hS'.out RR.out.lt⟩
        case measure => simp [intOf]; omega
      · have CK := Lib.hid (H2.out k (by omega) hkl)
        have g1 : decide ((k : Int) < (n : Int)) = false := by simp; omega
        have g2 : decide (n ≤ k) = true := by simp; omega
        clear hcell
        go_wp2_with fail
        refine region_still (by kernel_rfl) [.int .i64 k, .pointer (some ⟨w.heap.size, 0, none⟩), .slice (some ⟨b, 0, none⟩) n c, .int .i64 n, .bool false, .bool false, undef, undef, undef, undef, undef, undef, undef, .bool false, .bool false, .int .i64 k, .pointer (some ⟨w.heap.size, 0, none⟩), .slice (some ⟨b, 0, none⟩) n c, .int .i64 n, .bool true, .bool true, .slice (some ⟨b, 0, none⟩) c c, .int .i64 k, .pointer (some ⟨b, k, none⟩), .int .u8 bh, .pointer (some ⟨w.heap.size, 2, none⟩), .int .u8 bh, .bool false, .bool false, .bool false]
          (fun w' => Below wr.heap.size wr w') (by kernel_rfl) (Below.refl _ _).drew ?_
        intro af haf
        simp only [puts, Act.put, List.getD_cons_zero, List.getD_cons_succ, List.setIfInBounds_toArray, List.set_cons_succ, List.set_cons_zero] at haf
        subst haf
        refine ⟨?_, ?_⟩
        · simp only [EachTo]
          refine ⟨?_, ?_, ?_, ?_, ?_, ?_, ?_, ?_, ?_, ?_, ?_, ?_, ?_, ?_, ?_, ?_, ?_, ?_, ?_, ?_, ?_, ?_, ?_, ?_, ?_, ?_, ?_, ?_, ?_, ?_, trivial⟩
          · intro w' hS
            refine OpTo.plain ?_ ?_
            exact rfl
            have HS := Lib.hid hS
            clear hS
            go_wp2_with fail
            all_goals first | exact HS.out | exact ⟨rfl, HS.out⟩ | rfl
          · intro w' hS
            refine OpTo.plain ?_ ?_
            exact rfl
            have HS := Lib.hid hS
            clear hS
            go_wp2_with fail
            all_goals first | exact HS.out | exact ⟨rfl, HS.out⟩ | rfl
          · intro w' hS
            refine OpTo.plain ?_ ?_
            exact rfl
            have r0 := (RR.out.below hS RR.out.lt).cell 0
            simp at r0
            have HS := Lib.hid hS
            clear hS
            go_wp2_with fail
            all_goals first | exact HS.out | exact ⟨rfl, HS.out⟩ | rfl
          · intro w' hS
            refine OpTo.plain ?_ ?_
            exact rfl
            have HS := Lib.hid hS
            clear hS
            go_wp2_with fail
            all_goals first | exact HS.out | exact ⟨rfl, HS.out⟩ | rfl
          · intro w' hS
            refine OpTo.plain ?_ ?_
            exact rfl
            have HS := Lib.hid hS
            clear hS
            go_wp2_with fail
            all_goals first | exact HS.out | exact ⟨rfl, HS.out⟩ | rfl
          · intro w' hS
            refine OpTo.plain ?_ ?_
            exact rfl
            have HS := Lib.hid hS
            clear hS
            go_wp2_with fail
            all_goals first | exact HS.out | exact ⟨rfl, HS.out⟩ | rfl
          · intro w' hS
            refine OpTo.passed (by kernel_rfl) rfl hS
          · intro w' hS
            refine OpTo.passed (by kernel_rfl) rfl hS
          · intro w' hS
            refine OpTo.passed (by kernel_rfl) rfl hS
          · intro w' hS
            refine OpTo.passed (by kernel_rfl) rfl hS
          · intro w' hS
            refine OpTo.passed (by kernel_rfl) rfl hS
          · intro w' hS
            refine OpTo.passed (by kernel_rfl) rfl hS
          · intro w' hS
            refine OpTo.passed (by kernel_rfl) rfl hS
          · intro w' hS
            refine OpTo.plain ?_ ?_
            exact rfl
            have HS := Lib.hid hS
            clear hS
            go_wp2_with fail
            all_goals first | exact HS.out | exact ⟨rfl, HS.out⟩ | rfl
          · intro w' hS
            refine OpTo.plain ?_ ?_
            exact rfl
            have HS := Lib.hid hS
            clear hS
            go_wp2_with fail
            all_goals first | exact HS.out | exact ⟨rfl, HS.out⟩ | rfl
          · intro w' hS
            refine OpTo.wanted ?_ ?_
            kernel_rfl
            have HS := Lib.hid hS
            clear hS
            go_wp2_with fail
            all_goals first | exact HS.out | exact ⟨rfl, HS.out⟩ | rfl
          · intro w' hS
            refine OpTo.wanted ?_ ?_
            kernel_rfl
            have HS := Lib.hid hS
            clear hS
            go_wp2_with fail
            all_goals first | exact HS.out | exact ⟨rfl, HS.out⟩ | rfl
          · intro w' hS
            refine OpTo.wanted ?_ ?_
            kernel_rfl
            have r0 := (RR.out.below hS RR.out.lt).cell 0
            simp at r0
            have HS := Lib.hid hS
            clear hS
            go_wp2_with fail
            all_goals first | exact HS.out | exact ⟨rfl, HS.out⟩ | rfl
          · intro w' hS
            refine OpTo.wanted ?_ ?_
            kernel_rfl
            have HS := Lib.hid hS
            clear hS
            go_wp2_with fail
            all_goals first | exact HS.out | exact ⟨rfl, HS.out⟩ | rfl
          · intro w' hS
            refine OpTo.wanted ?_ ?_
            kernel_rfl
            have HS := Lib.hid hS
            clear hS
            go_wp2_with fail
            all_goals first | exact HS.out | exact ⟨rfl, HS.out⟩ | rfl
          · intro w' hS
            refine OpTo.wanted ?_ ?_
            kernel_rfl
            have HS := Lib.hid hS
            clear hS
            go_wp2_with fail
            all_goals first | exact HS.out | exact ⟨rfl, HS.out⟩ | rfl
          · intro w' hS
            refine OpTo.wanted ?_ ?_
            kernel_rfl
            have HS := Lib.hid hS
            clear hS
            go_wp2_with fail
            all_goals first | exact HS.out | exact ⟨rfl, HS.out⟩ | rfl
          · intro w' hS
            refine OpTo.wanted ?_ ?_
            kernel_rfl
            have HS := Lib.hid hS
            clear hS
            go_wp2_with fail
            all_goals first | exact HS.out | exact ⟨rfl, HS.out⟩ | rfl
          · intro w' hS
            refine OpTo.wanted ?_ ?_
            kernel_rfl
            have HS := Lib.hid hS
            clear hS
            go_wp2_with fail
            all_goals first | exact HS.out | exact ⟨rfl, HS.out⟩ | rfl
          · intro w' hS
            refine OpTo.wanted ?_ ?_
            kernel_rfl
            have r0 := (BK.out.below hS BK.out.lt).cell k
            rw [CK.out] at r0
            have HS := Lib.hid hS
            clear hS
            go_wp2_with fail
            all_goals first | exact HS.out | exact ⟨rfl, HS.out⟩ | rfl
          · intro w' hS
            refine OpTo.wanted ?_ ?_
            kernel_rfl
            have HS := Lib.hid hS
            clear hS
            go_wp2_with fail
            all_goals first | exact HS.out | exact ⟨rfl, HS.out⟩ | rfl
          · intro w' hS
            refine OpTo.wanted ?_ ?_
            kernel_rfl
            have r0 := (RR.out.below hS RR.out.lt).cell 2
            simp at r0
            have HS := Lib.hid hS
            clear hS
            go_wp2_with fail
            all_goals first | exact HS.out | exact ⟨rfl, HS.out⟩ | rfl
          · intro w' hS
            refine OpTo.wanted ?_ ?_
            kernel_rfl
            have HS := Lib.hid hS
            clear hS
            go_wp2_with fail
            all_goals first | exact HS.out | exact ⟨rfl, HS.out⟩ | rfl
          · intro w' hS
            refine OpTo.wanted ?_ ?_
            kernel_rfl
            have HS := Lib.hid hS
            clear hS
            go_wp2_with fail
            all_goals first | exact HS.out | exact ⟨rfl, HS.out⟩ | rfl
          · intro w' hS
            refine OpTo.plain ?_ ?_
            exact rfl
            have HS := Lib.hid hS
            clear hS
            go_wp2_with fail
            all_goals first | exact HS.out | exact ⟨rfl, HS.out⟩ | rfl
        intro w' hS
        have hS' := Lib.hid hS
        clear hS
        go_wp2
        go_roundw
        case rel => exact ⟨k + 1, by omega, by go_num, BB.out.trans (hS'.out.mono BB.out.size), RR.out.below hS'.out RR.out.lt⟩
        case measure => simp [intOf]; omega
    · go_wp2
      go_ret
      exact ⟨rfl, BB.out⟩

end Go.Proofs.Ytlmebpplhpjdfaa
