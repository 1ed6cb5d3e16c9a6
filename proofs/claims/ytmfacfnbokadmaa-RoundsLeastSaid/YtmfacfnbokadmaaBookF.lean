/-
  The statements' own book of pages: a page of api.Flow (written by gen_pages.py).
-/
import Derived.Test.YtmfacfnbokadmaaBookL
import Derived.Test.YtmfacfnbokadmaaFlw
namespace Go.Proofs.Ytmfacfnbokadmaa
open Go.RowKit
set_option linter.unusedSimpArgs false
set_option linter.unusedVariables false

def fwMk (x : Fw) (j : Nat) : Value := x.vals.getD j undef
theorem fill_next3 (mk : Nat → Value) (cs : Array Value) (lo hi : Nat) (hl : lo ≤ hi) (h : (hi + 1) * 3 ≤ cs.size) :
    (((fill 3 mk cs lo hi).setIfInBounds (hi * 3) (mk 0)).setIfInBounds (hi * 3 + 1) (mk 1)).setIfInBounds (hi * 3 + 2) (mk 2) = fill 3 mk cs lo (hi + 1) := by
  apply Array.ext
  · simp [fill_size]
  · intro j h1 h2
    simp only [Array.size_setIfInBounds] at h1
    repeat rw [Array.getElem_setIfInBounds (by simpa using h1)]
    simp only [fill, Array.getElem_ofFn]
    by_cases e2 : hi * 3 + 2 = j
    · rw [if_pos e2, if_pos (by omega), show j % 3 = 2 by omega]
    rw [if_neg e2]
    by_cases e1 : hi * 3 + 1 = j
    · rw [if_pos e1, if_pos (by omega), show j % 3 = 1 by omega]
    rw [if_neg e1]
    by_cases e0 : hi * 3 = j
    · rw [if_pos e0, if_pos (by omega), show j % 3 = 0 by omega]
    rw [if_neg e0]
    by_cases q : lo * 3 ≤ j ∧ j < hi * 3
    · rw [if_pos q, if_pos (by omega)]
    · rw [if_neg q, if_neg (by omega)]
/-- At the head of a page's loop. -/
def PageAtF (w : World) (b : Nat) (cs : Array Value) (row : Array Value) (t e : TypeId) (s lo last : Nat) (mk : Nat → Value) (i : Value) (wr : World) : Prop :=
  ∃ k : Nat, lo ≤ k ∧ k ≤ last ∧ i = .int .i64 k ∧ Blk wr b (fill s mk cs lo k) e ∧ Blk wr w.heap.size row t ∧ Keep (· = b) w wr
set_option maxHeartbeats 4000000 in
theorem writeF_any {w : World} {b n c : Nat} {cs : Array Value} (m q : Fw) (h : Blk w b cs 37) (hn : n ≤ c) (hs : c * 3 ≤ cs.size) (hc : c ≤ maxLen) :
    Calls Try.prog 61 #[.agg #[.slice (some ⟨b, 0, none⟩) n c, .int .u8 m.fr, .int .u8 m.tt, .int .i64 m.am, .int .u8 q.fr, .int .u8 q.tt, .int .i64 q.am]] w fun e w' => e = .returned (.tuple #[]) ∧ Blk w' b (fill 3 (fwMk m) cs 0 n) 37 ∧ Keep (· = b) w w' := by
  have KR := Lib.hid (Blk.new w #[.slice (some ⟨b, 0, none⟩) n c, .int .u8 m.fr, .int .u8 m.tt, .int .i64 m.am, .int .u8 q.fr, .int .u8 q.tt, .int .i64 q.am] 58)
  have HB := Lib.hid h
  have hlt := h.lt
  have K0 := Lib.hid ((Keep.refl (· = b) w).alloc (.cells #[.slice (some ⟨b, 0, none⟩) n c, .int .u8 m.fr, .int .u8 m.tt, .int .i64 m.am, .int .u8 q.fr, .int .u8 q.tt, .int .i64 q.am] 58))
  have H1 := Lib.hid (h.alloc (.cells #[.slice (some ⟨b, 0, none⟩) n c, .int .u8 m.fr, .int .u8 m.tt, .int .i64 m.am, .int .u8 q.fr, .int .u8 q.tt, .int .i64 q.am] 58))
  have HS := Lib.hid hs
  unfold maxLen at hc
  clear h hs
  go_enter Try.func61, Try.ntmps61
  go_wp2
  go_loopw [2] (PageAtF w b cs #[.slice (some ⟨b, 0, none⟩) n c, .int .u8 m.fr, .int .u8 m.tt, .int .i64 m.am, .int .u8 q.fr, .int .u8 q.tt, .int .i64 q.am] 58 37 3 0 n (fwMk m)) (fun i _ => n - (intOf i).toNat)
  case atStart => exact ⟨0, Nat.le_refl _, Nat.zero_le _, rfl, by rw [fill_none]; exact H1.out, KR.out, K0.out⟩
  case round =>
    obtain ⟨k, hk0, hk, rfl, hblk, hrow, hkeep⟩ := hrel
    have r0 := hrow.cell 0
    have r1 := hrow.cell 1
    have r2 := hrow.cell 2
    have r3 := hrow.cell 3
    simp at r0 r1 r2 r3
    by_cases hkl : k < n
    · have hsz := fill_size 3 (fwMk m) cs 0 k
      have hS := HS.out
      obtain ⟨u0, hu0⟩ := blk_ex hblk (j := k * 3) (by omega)
      obtain ⟨u1, hu1⟩ := blk_ex hblk (j := k * 3 + 1) (by omega)
      obtain ⟨u2, hu2⟩ := blk_ex hblk (j := k * 3 + 2) (by omega)
      have hf := hblk.frozen
      have hz := hblk.lt
      have hne : b ≠ w.heap.size := by omega
      have HB2 := Lib.hid (by
        have := ((hblk.set (k * 3) (fwMk m 0)).set (k * 3 + 1) (fwMk m 1)).set (k * 3 + 2) (fwMk m 2)
        rwa [fill_next3 (fwMk m) cs _ k hk0 (by omega)] at this)
      have HR2 := Lib.hid (((hrow.setOther (a := ⟨b, k * 3, none⟩) (by simpa using Ne.symm hne) (fwMk m 0)).setOther (a := ⟨b, k * 3 + 1, none⟩) (by simpa using Ne.symm hne) (fwMk m 1)).setOther (a := ⟨b, k * 3 + 2, none⟩) (by simpa using Ne.symm hne) (fwMk m 2))
      have HK2 := Lib.hid (Keep.setCell (S := (· = b)) (Keep.setCell (S := (· = b)) (Keep.setCell (S := (· = b)) hkeep (p := ⟨b, k * 3, none⟩) (.inl rfl) (fwMk m 0)) (p := ⟨b, k * 3 + 1, none⟩) (.inl rfl) (fwMk m 1)) (p := ⟨b, k * 3 + 2, none⟩) (.inl rfl) (fwMk m 2))
      clear hblk hrow hkeep hsz hS
      go_wp2
      go_roundw
      case rel => exact ⟨k + 1, by omega, by omega, by go_num, HB2.out, HR2.out, HK2.out⟩
      case measure => simp [intOf]; omega
    · obtain rfl : k = n := by omega
      go_wp2
      go_end0
      exact ⟨rfl, hblk, hkeep⟩

set_option maxHeartbeats 4000000 in
theorem behindF_any {w : World} {b n c : Nat} {cs : Array Value} (m q : Fw) (h : Blk w b cs 37) (hn : n ≤ c) (hs : c * 3 ≤ cs.size) (hc : c ≤ maxLen) :
    Calls Try.prog 62 #[.agg #[.slice (some ⟨b, 0, none⟩) n c, .int .u8 m.fr, .int .u8 m.tt, .int .i64 m.am, .int .u8 q.fr, .int .u8 q.tt, .int .i64 q.am]] w fun e w' => e = .returned (.tuple #[]) ∧ Blk w' b (fill 3 (fwMk q) cs n c) 37 ∧ Keep (· = b) w w' := by
  have KR := Lib.hid (Blk.new w #[.slice (some ⟨b, 0, none⟩) n c, .int .u8 m.fr, .int .u8 m.tt, .int .i64 m.am, .int .u8 q.fr, .int .u8 q.tt, .int .i64 q.am] 58)
  have HB := Lib.hid h
  have hlt := h.lt
  have K0 := Lib.hid ((Keep.refl (· = b) w).alloc (.cells #[.slice (some ⟨b, 0, none⟩) n c, .int .u8 m.fr, .int .u8 m.tt, .int .i64 m.am, .int .u8 q.fr, .int .u8 q.tt, .int .i64 q.am] 58))
  have H1 := Lib.hid (h.alloc (.cells #[.slice (some ⟨b, 0, none⟩) n c, .int .u8 m.fr, .int .u8 m.tt, .int .i64 m.am, .int .u8 q.fr, .int .u8 q.tt, .int .i64 q.am] 58))
  have HS := Lib.hid hs
  unfold maxLen at hc
  clear h hs
  go_enter Try.func62, Try.ntmps62
  go_wp2
  go_loopw [3] (PageAtF w b cs #[.slice (some ⟨b, 0, none⟩) n c, .int .u8 m.fr, .int .u8 m.tt, .int .i64 m.am, .int .u8 q.fr, .int .u8 q.tt, .int .i64 q.am] 58 37 3 n c (fwMk q)) (fun i _ => c - (intOf i).toNat)
  case atStart => exact ⟨n, Nat.le_refl _, hn, rfl, by rw [fill_none]; exact H1.out, KR.out, K0.out⟩
  case round =>
    obtain ⟨k, hk0, hk, rfl, hblk, hrow, hkeep⟩ := hrel
    have r0 := hrow.cell 0
    have r4 := hrow.cell 4
    have r5 := hrow.cell 5
    have r6 := hrow.cell 6
    simp at r0 r4 r5 r6
    by_cases hkl : k < c
    · have hsz := fill_size 3 (fwMk q) cs n k
      have hS := HS.out
      obtain ⟨u0, hu0⟩ := blk_ex hblk (j := k * 3) (by omega)
      obtain ⟨u1, hu1⟩ := blk_ex hblk (j := k * 3 + 1) (by omega)
      obtain ⟨u2, hu2⟩ := blk_ex hblk (j := k * 3 + 2) (by omega)
      have hf := hblk.frozen
      have hz := hblk.lt
      have hne : b ≠ w.heap.size := by omega
      have HB2 := Lib.hid (by
        have := ((hblk.set (k * 3) (fwMk q 0)).set (k * 3 + 1) (fwMk q 1)).set (k * 3 + 2) (fwMk q 2)
        rwa [fill_next3 (fwMk q) cs _ k hk0 (by omega)] at this)
      have HR2 := Lib.hid (((hrow.setOther (a := ⟨b, k * 3, none⟩) (by simpa using Ne.symm hne) (fwMk q 0)).setOther (a := ⟨b, k * 3 + 1, none⟩) (by simpa using Ne.symm hne) (fwMk q 1)).setOther (a := ⟨b, k * 3 + 2, none⟩) (by simpa using Ne.symm hne) (fwMk q 2))
      have HK2 := Lib.hid (Keep.setCell (S := (· = b)) (Keep.setCell (S := (· = b)) (Keep.setCell (S := (· = b)) hkeep (p := ⟨b, k * 3, none⟩) (.inl rfl) (fwMk q 0)) (p := ⟨b, k * 3 + 1, none⟩) (.inl rfl) (fwMk q 1)) (p := ⟨b, k * 3 + 2, none⟩) (.inl rfl) (fwMk q 2))
      clear hblk hrow hkeep hsz hS
      go_wp2
      go_roundw
      case rel => exact ⟨k + 1, by omega, by omega, by go_num, HB2.out, HR2.out, HK2.out⟩
      case measure => simp [intOf]; omega
    · obtain rfl : k = c := by omega
      go_wp2
      go_end0
      exact ⟨rfl, hblk, hkeep⟩

set_option maxHeartbeats 8000000 in
set_option maxRecDepth 100000 in
theorem standsF_any {w : World} {b n c : Nat} {cs : Array Value} (m q : Fw) (h : Blk w b cs 37) (hn : n ≤ c) (hs : c * 3 ≤ cs.size) (hc : c ≤ maxLen)
    (h1 : ∀ j, j < n → ∀ i, i < 3 → cs[j * 3 + i]? = some (fwMk m i)) (h2 : ∀ j, n ≤ j → j < c → ∀ i, i < 3 → cs[j * 3 + i]? = some (fwMk q i)) :
    Calls Try.prog 60 #[.agg #[.slice (some ⟨b, 0, none⟩) n c, .int .u8 m.fr, .int .u8 m.tt, .int .i64 m.am, .int .u8 q.fr, .int .u8 q.tt, .int .i64 q.am]] w fun e w' => e = .returned (.bool true) ∧ Below w.heap.size w w' := by
  have KR := Lib.hid (Blk.new w #[.slice (some ⟨b, 0, none⟩) n c, .int .u8 m.fr, .int .u8 m.tt, .int .i64 m.am, .int .u8 q.fr, .int .u8 q.tt, .int .i64 q.am] 58)
  have B0 := Lib.hid ((Below.refl w.heap.size w).alloc (Nat.le_refl _) (.cells #[.slice (some ⟨b, 0, none⟩) n c, .int .u8 m.fr, .int .u8 m.tt, .int .i64 m.am, .int .u8 q.fr, .int .u8 q.tt, .int .i64 q.am] 58))
  have HB := Lib.hid h
  have hlt := h.lt
  have H1 := Lib.hid h1; have H2 := Lib.hid h2
  unfold maxLen at hc
  clear h h1 h2 hs
  go_enter Try.func60, Try.ntmps60
  go_wp2
  go_loopw [4] (fun i wr => ∃ k : Nat, k ≤ c ∧ i = .int .i64 k ∧ Below w.heap.size w wr ∧ Blk wr w.heap.size #[.slice (some ⟨b, 0, none⟩) n c, .int .u8 m.fr, .int .u8 m.tt, .int .i64 m.am, .int .u8 q.fr, .int .u8 q.tt, .int .i64 q.am] 58) (fun i _ => c - (intOf i).toNat)
  case atStart => exact ⟨0, Nat.zero_le _, rfl, B0.out, KR.out⟩
  case round =>
    obtain ⟨k, hk, rfl, hb, hrow⟩ := hrel
    have r0 := hrow.cell 0
    simp at r0
    have BB := Lib.hid hb; have RR := Lib.hid hrow
    have hz := hrow.lt
    have hzb : b < wr.heap.size := Nat.lt_of_lt_of_le hlt hb.size
    by_cases hkl : k < c
    · have BK := Lib.hid (HB.out.below BB.out hlt)
      clear hb hrow
      by_cases hkn : k < n
      · have CK := Lib.hid (H1.out k hkn)
        have g1 : decide ((k : Int) < (n : Int)) = true := by simp; omega
        have g2 : decide (n ≤ k) = false := by simp; omega
        go_wp2_with fail
        refine region_still (by kernel_rfl) [.int .i64 k, .pointer (some ⟨w.heap.size, 0, none⟩), .slice (some ⟨b, 0, none⟩) n c, .int .i64 n, .bool true, .bool true, .slice (some ⟨b, 0, none⟩) c c, .int .i64 k, .pointer (some ⟨b, k * 3, none⟩), .agg #[.int .u8 m.fr, .int .u8 m.tt, .int .i64 m.am], .pointer (some ⟨w.heap.size, 1, none⟩), .agg #[.int .u8 m.fr, .int .u8 m.tt, .int .i64 m.am], .bool false, .bool false, .bool false, .int .i64 k, .pointer (some ⟨w.heap.size, 0, none⟩), .slice (some ⟨b, 0, none⟩) n c, .int .i64 n, .bool false, .bool false, undef, undef, undef, undef, undef, undef, undef, .bool false, .bool false]
          (fun w' => Below wr.heap.size wr w') (by kernel_rfl) (Below.refl _ _).drew ?_
        intro af haf
        simp only [puts, Act.put, List.getD_cons_zero, List.getD_cons_succ, List.setIfInBounds_toArray, List.set_cons_succ, List.set_cons_zero] at haf
        subst haf
        refine ⟨?_, ?_⟩
        · simp only [EachTo]
          refine ⟨?_, ?_, ?_, ?_, ?_, ?_, ?_, ?_, ?_, ?_, ?_, ?_, ?_, ?_, ?_, ?_, ?_, ?_, ?_, ?_, ?_, ?_, ?_, ?_, ?_, ?_, ?_, ?_, ?_, ?_, trivial⟩
          · intro w' hS
            refine OpTo.plain ?_ ?_
            exact rfl
            have HS := Lib.hid hS
            clear hS
            go_wp2_with fail
            all_goals first | exact HS.out | exact ⟨rfl, HS.out⟩ | rfl
          · intro w' hS
            refine OpTo.plain ?_ ?_
            exact rfl
            have HS := Lib.hid hS
            clear hS
            go_wp2_with fail
            all_goals first | exact HS.out | exact ⟨rfl, HS.out⟩ | rfl
          · intro w' hS
            refine OpTo.plain ?_ ?_
            exact rfl
            have r0 := (RR.out.below hS RR.out.lt).cell 0
            simp at r0
            have HS := Lib.hid hS
            clear hS
            go_wp2_with fail
            all_goals first | exact HS.out | exact ⟨rfl, HS.out⟩ | rfl
          · intro w' hS
            refine OpTo.plain ?_ ?_
            exact rfl
            have HS := Lib.hid hS
            clear hS
            go_wp2_with fail
            all_goals first | exact HS.out | exact ⟨rfl, HS.out⟩ | rfl
          · intro w' hS
            refine OpTo.plain ?_ ?_
            exact rfl
            have HS := Lib.hid hS
            clear hS
            go_wp2_with fail
            all_goals first | exact HS.out | exact ⟨rfl, HS.out⟩ | rfl
          · intro w' hS
            refine OpTo.plain ?_ ?_
            exact rfl
            have HS := Lib.hid hS
            clear hS
            go_wp2_with fail
            all_goals first | exact HS.out | exact ⟨rfl, HS.out⟩ | rfl
          · intro w' hS
            refine OpTo.wanted ?_ ?_
            kernel_rfl
            have HS := Lib.hid hS
            clear hS
            go_wp2_with fail
            all_goals first | exact HS.out | exact ⟨rfl, HS.out⟩ | rfl
          · intro w' hS
            refine OpTo.wanted ?_ ?_
            kernel_rfl
            have HS := Lib.hid hS
            clear hS
            go_wp2_with fail
            all_goals first | exact HS.out | exact ⟨rfl, HS.out⟩ | rfl
          · intro w' hS
            refine OpTo.wanted ?_ ?_
            kernel_rfl
            have HS := Lib.hid hS
            clear hS
            go_wp2_with fail
            all_goals first | exact HS.out | exact ⟨rfl, HS.out⟩ | rfl
          · intro w' hS
            refine OpTo.wanted ?_ ?_
            kernel_rfl
            have p0 := ((BK.out.below hS BK.out.lt).cell (k * 3)).trans (CK.out 0 (by omega))
            have p1 := ((BK.out.below hS BK.out.lt).cell (k * 3 + 1)).trans (CK.out 1 (by omega))
            have p2 := ((BK.out.below hS BK.out.lt).cell (k * 3 + 2)).trans (CK.out 2 (by omega))
            simp [fwMk, Fw.vals] at p0 p1 p2
            have HS := Lib.hid hS
            clear hS
            go_wp2_with fail
            all_goals first | exact HS.out | exact ⟨rfl, HS.out⟩ | rfl
          · intro w' hS
            refine OpTo.wanted ?_ ?_
            kernel_rfl
            have HS := Lib.hid hS
            clear hS
            go_wp2_with fail
            all_goals first | exact HS.out | exact ⟨rfl, HS.out⟩ | rfl
          · intro w' hS
            refine OpTo.wanted ?_ ?_
            kernel_rfl
            have r0 := (RR.out.below hS RR.out.lt).cell 1
            have r1 := (RR.out.below hS RR.out.lt).cell 2
            have r2 := (RR.out.below hS RR.out.lt).cell 3
            simp at r0 r1 r2
            have HS := Lib.hid hS
            clear hS
            go_wp2_with fail
            all_goals first | exact HS.out | exact ⟨rfl, HS.out⟩ | rfl
          · intro w' hS
            refine OpTo.wanted ?_ ?_
            kernel_rfl
            have HS := Lib.hid hS
            clear hS
            go_wp2_with fail
            all_goals first | exact HS.out | exact ⟨rfl, HS.out⟩ | rfl
          · intro w' hS
            refine OpTo.plain ?_ ?_
            exact rfl
            have HS := Lib.hid hS
            clear hS
            go_wp2_with fail
            all_goals first | exact HS.out | exact ⟨rfl, HS.out⟩ | rfl
          · intro w' hS
            refine OpTo.plain ?_ ?_
            exact rfl
            have HS := Lib.hid hS
            clear hS
            go_wp2_with fail
            all_goals first | exact HS.out | exact ⟨rfl, HS.out⟩ | rfl
          · intro w' hS
            refine OpTo.wanted ?_ ?_
            kernel_rfl
            have HS := Lib.hid hS
            clear hS
            go_wp2_with fail
            all_goals first | exact HS.out | exact ⟨rfl, HS.out⟩ | rfl
          · intro w' hS
            refine OpTo.wanted ?_ ?_
            kernel_rfl
            have HS := Lib.hid hS
            clear hS
            go_wp2_with fail
            all_goals first | exact HS.out | exact ⟨rfl, HS.out⟩ | rfl
          · intro w' hS
            refine OpTo.wanted ?_ ?_
            kernel_rfl
            have r0 := (RR.out.below hS RR.out.lt).cell 0
            simp at r0
            have HS := Lib.hid hS
            clear hS
            go_wp2_with fail
            all_goals first | exact HS.out | exact ⟨rfl, HS.out⟩ | rfl
          · intro w' hS
            refine OpTo.wanted ?_ ?_
            kernel_rfl
            have HS := Lib.hid hS
            clear hS
            go_wp2_with fail
            all_goals first | exact HS.out | exact ⟨rfl, HS.out⟩ | rfl
          · intro w' hS
            refine OpTo.wanted ?_ ?_
            kernel_rfl
            have HS := Lib.hid hS
            clear hS
            go_wp2_with fail
            all_goals first | exact HS.out | exact ⟨rfl, HS.out⟩ | rfl
          · intro w' hS
            refine OpTo.wanted ?_ ?_
            kernel_rfl
            have HS := Lib.hid hS
            clear hS
            go_wp2_with fail
            all_goals first | exact HS.out | exact ⟨rfl, HS.out⟩ | rfl
          · intro w' hS
            refine OpTo.passed (by kernel_rfl) rfl hS
          · intro w' hS
            refine OpTo.passed (by kernel_rfl) rfl hS
          · intro w' hS
            refine OpTo.passed (by kernel_rfl) rfl hS
          · intro w' hS
            refine OpTo.passed (by kernel_rfl) rfl hS
          · intro w' hS
            refine OpTo.passed (by kernel_rfl) rfl hS
          · intro w' hS
            refine OpTo.passed (by kernel_rfl) rfl hS
          · intro w' hS
            refine OpTo.passed (by kernel_rfl) rfl hS
          · intro w' hS
            refine OpTo.wanted ?_ ?_
            kernel_rfl
            have HS := Lib.hid hS
            clear hS
            go_wp2_with fail
            all_goals first | exact HS.out | exact ⟨rfl, HS.out⟩ | rfl
          · intro w' hS
            refine OpTo.plain ?_ ?_
            exact rfl
            have HS := Lib.hid hS
            clear hS
            go_wp2_with fail
            all_goals first | exact HS.out | exact ⟨rfl, HS.out⟩ | rfl
        intro w' hS
        have hS' := Lib.hid hS
        clear hS
        go_wp2
        go_roundw
        case rel => exact ⟨k + 1, by omega, by go_num, BB.out.trans (hS'.out.mono BB.out.size), RR.out.below hS'.out RR.out.lt⟩
        case measure => simp [intOf]; omega
      · have CK := Lib.hid (H2.out k (by omega) hkl)
        have g1 : decide ((k : Int) < (n : Int)) = false := by simp; omega
        have g2 : decide (n ≤ k) = true := by simp; omega
        go_wp2_with fail
        refine region_still (by kernel_rfl) [.int .i64 k, .pointer (some ⟨w.heap.size, 0, none⟩), .slice (some ⟨b, 0, none⟩) n c, .int .i64 n, .bool false, .bool false, undef, undef, undef, undef, undef, undef, undef, .bool false, .bool false, .int .i64 k, .pointer (some ⟨w.heap.size, 0, none⟩), .slice (some ⟨b, 0, none⟩) n c, .int .i64 n, .bool true, .bool true, .slice (some ⟨b, 0, none⟩) c c, .int .i64 k, .pointer (some ⟨b, k * 3, none⟩), .agg #[.int .u8 q.fr, .int .u8 q.tt, .int .i64 q.am], .pointer (some ⟨w.heap.size, 4, none⟩), .agg #[.int .u8 q.fr, .int .u8 q.tt, .int .i64 q.am], .bool false, .bool false, .bool false]
          (fun w' => Below wr.heap.size wr w') (by kernel_rfl) (Below.refl _ _).drew ?_
        intro af haf
        simp only [puts, Act.put, List.getD_cons_zero, List.getD_cons_succ, List.setIfInBounds_toArray, List.set_cons_succ, List.set_cons_zero] at haf
        subst haf
        refine ⟨?_, ?_⟩
        · simp only [EachTo]
          refine ⟨?_, ?_, ?_, ?_, ?_, ?_, ?_, ?_, ?_, ?_, ?_, ?_, ?_, ?_, ?_, ?_, ?_, ?_, ?_, ?_, ?_, ?_, ?_, ?_, ?_, ?_, ?_, ?_, ?_, ?_, trivial⟩
          · intro w' hS
            refine OpTo.plain ?_ ?_
            exact rfl
            have HS := Lib.hid hS
            clear hS
            go_wp2_with fail
            all_goals first | exact HS.out | exact ⟨rfl, HS.out⟩ | rfl
          · intro w' hS
            refine OpTo.plain ?_ ?_
            exact rfl
            have HS := Lib.hid hS
            clear hS
            go_wp2_with fail
            all_goals first | exact HS.out | exact ⟨rfl, HS.out⟩ | rfl
          · intro w' hS
            refine OpTo.plain ?_ ?_
            exact rfl
            have r0 := (RR.out.below hS RR.out.lt).cell 0
            simp at r0
            have HS := Lib.hid hS
            clear hS
            go_wp2_with fail
            all_goals first | exact HS.out | exact ⟨rfl, HS.out⟩ | rfl
          · intro w' hS
            refine OpTo.plain ?_ ?_
            exact rfl
            have HS := Lib.hid hS
            clear hS
            go_wp2_with fail
            all_goals first | exact HS.out | exact ⟨rfl, HS.out⟩ | rfl
          · intro w' hS
            refine OpTo.plain ?_ ?_
            exact rfl
            have HS := Lib.hid hS
            clear hS
            go_wp2_with fail
            all_goals first | exact HS.out | exact ⟨rfl, HS.out⟩ | rfl
          · intro w' hS
            refine OpTo.plain ?_ ?_
            exact rfl
            have HS := Lib.hid hS
            clear hS
            go_wp2_with fail
            all_goals first | exact HS.out | exact ⟨rfl, HS.out⟩ | rfl
          · intro w' hS
            refine OpTo.passed (by kernel_rfl) rfl hS
          · intro w' hS
            refine OpTo.passed (by kernel_rfl) rfl hS
          · intro w' hS
            refine OpTo.passed (by kernel_rfl) rfl hS
          · intro w' hS
            refine OpTo.passed (by kernel_rfl) rfl hS
          · intro w' hS
            refine OpTo.passed (by kernel_rfl) rfl hS
          · intro w' hS
            refine OpTo.passed (by kernel_rfl) rfl hS
          · intro w' hS
            refine OpTo.passed (by kernel_rfl) rfl hS
          · intro w' hS
            refine OpTo.plain ?_ ?_
            exact rfl
            have HS := Lib.hid hS
            clear hS
            go_wp2_with fail
            all_goals first | exact HS.out | exact ⟨rfl, HS.out⟩ | rfl
          · intro w' hS
            refine OpTo.plain ?_ ?_
            exact rfl
            have HS := Lib.hid hS
            clear hS
            go_wp2_with fail
            all_goals first | exact HS.out | exact ⟨rfl, HS.out⟩ | rfl
          · intro w' hS
            refine OpTo.wanted ?_ ?_
            kernel_rfl
            have HS := Lib.hid hS
            clear hS
            go_wp2_with fail
            all_goals first | exact HS.out | exact ⟨rfl, HS.out⟩ | rfl
          · intro w' hS
            refine OpTo.wanted ?_ ?_
            kernel_rfl
            have HS := Lib.hid hS
            clear hS
            go_wp2_with fail
            all_goals first | exact HS.out | exact ⟨rfl, HS.out⟩ | rfl
          · intro w' hS
            refine OpTo.wanted ?_ ?_
            kernel_rfl
            have r0 := (RR.out.below hS RR.out.lt).cell 0
            simp at r0
            have HS := Lib.hid hS
            clear hS
            go_wp2_with fail
            all_goals first | exact HS.out | exact ⟨rfl, HS.out⟩ | rfl
          · intro w' hS
            refine OpTo.wanted ?_ ?_
            kernel_rfl
            have HS := Lib.hid hS
            clear hS
            go_wp2_with fail
            all_goals first | exact HS.out | exact ⟨rfl, HS.out⟩ | rfl
          · intro w' hS
            refine OpTo.wanted ?_ ?_
            kernel_rfl
            have HS := Lib.hid hS
            clear hS
            go_wp2_with fail
            all_goals first | exact HS.out | exact ⟨rfl, HS.out⟩ | rfl
          · intro w' hS
            refine OpTo.wanted ?_ ?_
            kernel_rfl
            have HS := Lib.hid hS
            clear hS
            go_wp2_with fail
            all_goals first | exact HS.out | exact ⟨rfl, HS.out⟩ | rfl
          · intro w' hS
            refine OpTo.wanted ?_ ?_
            kernel_rfl
            have HS := Lib.hid hS
            clear hS
            go_wp2_with fail
            all_goals first | exact HS.out | exact ⟨rfl, HS.out⟩ | rfl
          · intro w' hS
            refine OpTo.wanted ?_ ?_
            kernel_rfl
            have HS := Lib.hid hS
            clear hS
            go_wp2_with fail
            all_goals first | exact HS.out | exact ⟨rfl, HS.out⟩ | rfl
          · intro w' hS
            refine OpTo.wanted ?_ ?_
            kernel_rfl
            have HS := Lib.hid hS
            clear hS
            go_wp2_with fail
            all_goals first | exact HS.out | exact ⟨rfl, HS.out⟩ | rfl
          · intro w' hS
            refine OpTo.wanted ?_ ?_
            kernel_rfl
            have p0 := ((BK.out.below hS BK.out.lt).cell (k * 3)).trans (CK.out 0 (by omega))
            have p1 := ((BK.out.below hS BK.out.lt).cell (k * 3 + 1)).trans (CK.out 1 (by omega))
            have p2 := ((BK.out.below hS BK.out.lt).cell (k * 3 + 2)).trans (CK.out 2 (by omega))
            simp [fwMk, Fw.vals] at p0 p1 p2
            have HS := Lib.hid hS
            clear hS
            go_wp2_with fail
            all_goals first | exact HS.out | exact ⟨rfl, HS.out⟩ | rfl
          · intro w' hS
            refine OpTo.wanted ?_ ?_
            kernel_rfl
            have HS := Lib.hid hS
            clear hS
            go_wp2_with fail
            all_goals first | exact HS.out | exact ⟨rfl, HS.out⟩ | rfl
          · intro w' hS
            refine OpTo.wanted ?_ ?_
            kernel_rfl
            have r0 := (RR.out.below hS RR.out.lt).cell 4
            have r1 := (RR.out.below hS RR.out.lt).cell 5
            have r2 := (RR.out.below hS RR.out.lt).cell 6
            simp at r0 r1 r2
            have HS := Lib.hid hS
            clear hS
            go_wp2_with fail
            all_goals first | exact HS.out | exact ⟨rfl, HS.out⟩ | rfl
          · intro w' hS
            refine OpTo.wanted ?_ ?_
            kernel_rfl
            have HS := Lib.hid hS
            clear hS
            go_wp2_with fail
            all_goals first | exact HS.out | exact ⟨rfl, HS.out⟩ | rfl
          · intro w' hS
            refine OpTo.wanted ?_ ?_
            kernel_rfl
            have HS := Lib.hid hS
            clear hS
            go_wp2_with fail
            all_goals first | exact HS.out | exact ⟨rfl, HS.out⟩ | rfl
          · intro w' hS
            refine OpTo.plain ?_ ?_
            exact rfl
            have HS := Lib.hid hS
            clear hS
            go_wp2_with fail
            all_goals first | exact HS.out | exact ⟨rfl, HS.out⟩ | rfl
        intro w' hS
        have hS' := Lib.hid hS
        clear hS
        go_wp2
        go_roundw
        case rel => exact ⟨k + 1, by omega, by go_num, BB.out.trans (hS'.out.mono BB.out.size), RR.out.below hS'.out RR.out.lt⟩
        case measure => simp [intOf]; omega
    · go_wp2
      go_ret
      exact ⟨rfl, BB.out⟩

end Go.Proofs.Ytmfacfnbokadmaa
