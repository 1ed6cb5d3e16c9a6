/-
  The statements' own book of pages: a page of offers (written by gen_booko.py).
-/
import Derived.Test.YtdbdeodcldogmaaBookL
import Derived.Test.YtdbdeodcldogmaaOff
namespace Go.Proofs.Ytdbdeodcldogmaa
open Go.RowKit
set_option linter.unusedSimpArgs false
set_option linter.unusedVariables false

def ofMk (x : Of) (j : Nat) : Value := x.vals.getD j undef
theorem fill_next7 (mk : Nat → Value) (cs : Array Value) (lo hi : Nat) (hl : lo ≤ hi) (h : (hi + 1) * 7 ≤ cs.size) :
    (((((((fill 7 mk cs lo hi).setIfInBounds (hi * 7) (mk 0)).setIfInBounds (hi * 7 + 1) (mk 1)).setIfInBounds (hi * 7 + 2) (mk 2)).setIfInBounds (hi * 7 + 3) (mk 3)).setIfInBounds (hi * 7 + 4) (mk 4)).setIfInBounds (hi * 7 + 5) (mk 5)).setIfInBounds (hi * 7 + 6) (mk 6) = fill 7 mk cs lo (hi + 1) := by
  apply Array.ext
  · simp [fill_size]
  · intro j h1 h2
    simp only [Array.size_setIfInBounds] at h1
    repeat rw [Array.getElem_setIfInBounds (by simpa using h1)]
    simp only [fill, Array.getElem_ofFn]
    by_cases e6 : hi * 7 + 6 = j
    · rw [if_pos e6, if_pos (by omega), show j % 7 = 6 by omega]
    rw [if_neg e6]
    by_cases e5 : hi * 7 + 5 = j
    · rw [if_pos e5, if_pos (by omega), show j % 7 = 5 by omega]
    rw [if_neg e5]
    by_cases e4 : hi * 7 + 4 = j
    · rw [if_pos e4, if_pos (by omega), show j % 7 = 4 by omega]
    rw [if_neg e4]
    by_cases e3 : hi * 7 + 3 = j
    · rw [if_pos e3, if_pos (by omega), show j % 7 = 3 by omega]
    rw [if_neg e3]
    by_cases e2 : hi * 7 + 2 = j
    · rw [if_pos e2, if_pos (by omega), show j % 7 = 2 by omega]
    rw [if_neg e2]
    by_cases e1 : hi * 7 + 1 = j
    · rw [if_pos e1, if_pos (by omega), show j % 7 = 1 by omega]
    rw [if_neg e1]
    by_cases e0 : hi * 7 = j
    · rw [if_pos e0, if_pos (by omega), show j % 7 = 0 by omega]
    rw [if_neg e0]
    by_cases q : lo * 7 ≤ j ∧ j < hi * 7
    · rw [if_pos q, if_pos (by omega)]
    · rw [if_neg q, if_neg (by omega)]
/-- At the head of a page's loop. -/
def PageAtO (w : World) (b : Nat) (cs : Array Value) (row : Array Value) (t e : TypeId) (s lo last : Nat) (mk : Nat → Value) (i : Value) (wr : World) : Prop :=
  ∃ k : Nat, lo ≤ k ∧ k ≤ last ∧ i = .int .i64 k ∧ Blk wr b (fill s mk cs lo k) e ∧ Blk wr w.heap.size row t ∧ Keep (· = b) w wr
set_option maxHeartbeats 4000000 in
theorem writeO_any {w : World} {b n c : Nat} {cs : Array Value} (m q : Of) (h : Blk w b cs 39) (hn : n ≤ c) (hs : c * 7 ≤ cs.size) (hc : c ≤ maxLen) :
    Calls Try.prog 109 #[.agg #[.slice (some ⟨b, 0, none⟩) n c, .int .u64 m.se, .int .u8 m.ow, .int .u8 m.sl, .int .u8 m.bu, .int .i64 m.lf, .int .i64 m.nu, .int .i64 m.de, .int .u64 q.se, .int .u8 q.ow, .int .u8 q.sl, .int .u8 q.bu, .int .i64 q.lf, .int .i64 q.nu, .int .i64 q.de]] w fun e w' => e = .returned (.tuple #[]) ∧ Blk w' b (fill 7 (ofMk m) cs 0 n) 39 ∧ Keep (· = b) w w' := by
  have KR := Lib.hid (Blk.new w #[.slice (some ⟨b, 0, none⟩) n c, .int .u64 m.se, .int .u8 m.ow, .int .u8 m.sl, .int .u8 m.bu, .int .i64 m.lf, .int .i64 m.nu, .int .i64 m.de, .int .u64 q.se, .int .u8 q.ow, .int .u8 q.sl, .int .u8 q.bu, .int .i64 q.lf, .int .i64 q.nu, .int .i64 q.de] 92)
  have HB := Lib.hid h
  have hlt := h.lt
  have K0 := Lib.hid ((Keep.refl (· = b) w).alloc (.cells #[.slice (some ⟨b, 0, none⟩) n c, .int .u64 m.se, .int .u8 m.ow, .int .u8 m.sl, .int .u8 m.bu, .int .i64 m.lf, .int .i64 m.nu, .int .i64 m.de, .int .u64 q.se, .int .u8 q.ow, .int .u8 q.sl, .int .u8 q.bu, .int .i64 q.lf, .int .i64 q.nu, .int .i64 q.de] 92))
  have H1 := Lib.hid (h.alloc (.cells #[.slice (some ⟨b, 0, none⟩) n c, .int .u64 m.se, .int .u8 m.ow, .int .u8 m.sl, .int .u8 m.bu, .int .i64 m.lf, .int .i64 m.nu, .int .i64 m.de, .int .u64 q.se, .int .u8 q.ow, .int .u8 q.sl, .int .u8 q.bu, .int .i64 q.lf, .int .i64 q.nu, .int .i64 q.de] 92))
  have HS := Lib.hid hs
  unfold maxLen at hc
  clear h hs
  go_enter Try.func109, Try.ntmps109
  go_wp2
  go_loopw [2] (PageAtO w b cs #[.slice (some ⟨b, 0, none⟩) n c, .int .u64 m.se, .int .u8 m.ow, .int .u8 m.sl, .int .u8 m.bu, .int .i64 m.lf, .int .i64 m.nu, .int .i64 m.de, .int .u64 q.se, .int .u8 q.ow, .int .u8 q.sl, .int .u8 q.bu, .int .i64 q.lf, .int .i64 q.nu, .int .i64 q.de] 92 39 7 0 n (ofMk m)) (fun i _ => n - (intOf i).toNat)
  case atStart => exact ⟨0, Nat.le_refl _, Nat.zero_le _, rfl, by rw [fill_none]; exact H1.out, KR.out, K0.out⟩
  case round =>
    obtain ⟨k, hk0, hk, rfl, hblk, hrow, hkeep⟩ := hrel
    have r0 := hrow.cell 0
    have r1 := hrow.cell 1
    have r2 := hrow.cell 2
    have r3 := hrow.cell 3
    have r4 := hrow.cell 4
    have r5 := hrow.cell 5
    have r6 := hrow.cell 6
    have r7 := hrow.cell 7
    simp at r0 r1 r2 r3 r4 r5 r6 r7
    by_cases hkl : k < n
    · have hsz := fill_size 7 (ofMk m) cs 0 k
      have hS := HS.out
      obtain ⟨u0, hu0⟩ := blk_ex hblk (j := k * 7) (by omega)
      obtain ⟨u1, hu1⟩ := blk_ex hblk (j := k * 7 + 1) (by omega)
      obtain ⟨u2, hu2⟩ := blk_ex hblk (j := k * 7 + 2) (by omega)
      obtain ⟨u3, hu3⟩ := blk_ex hblk (j := k * 7 + 3) (by omega)
      obtain ⟨u4, hu4⟩ := blk_ex hblk (j := k * 7 + 4) (by omega)
      obtain ⟨u5, hu5⟩ := blk_ex hblk (j := k * 7 + 5) (by omega)
      obtain ⟨u6, hu6⟩ := blk_ex hblk (j := k * 7 + 6) (by omega)
      have hf := hblk.frozen
      have hz := hblk.lt
      have hne : b ≠ w.heap.size := by omega
      have HB2 := Lib.hid (by
        have := ((((((hblk.set (k * 7) (ofMk m 0)).set (k * 7 + 1) (ofMk m 1)).set (k * 7 + 2) (ofMk m 2)).set (k * 7 + 3) (ofMk m 3)).set (k * 7 + 4) (ofMk m 4)).set (k * 7 + 5) (ofMk m 5)).set (k * 7 + 6) (ofMk m 6)
        rwa [fill_next7 (ofMk m) cs _ k hk0 (by omega)] at this)
      have HR2 := Lib.hid (((((((hrow.setOther (a := ⟨b, k * 7, none⟩) (by simpa using Ne.symm hne) (ofMk m 0)).setOther (a := ⟨b, k * 7 + 1, none⟩) (by simpa using Ne.symm hne) (ofMk m 1)).setOther (a := ⟨b, k * 7 + 2, none⟩) (by simpa using Ne.symm hne) (ofMk m 2)).setOther (a := ⟨b, k * 7 + 3, none⟩) (by simpa using Ne.symm hne) (ofMk m 3)).setOther (a := ⟨b, k * 7 + 4, none⟩) (by simpa using Ne.symm hne) (ofMk m 4)).setOther (a := ⟨b, k * 7 + 5, none⟩) (by simpa using Ne.symm hne) (ofMk m 5)).setOther (a := ⟨b, k * 7 + 6, none⟩) (by simpa using Ne.symm hne) (ofMk m 6))
      have HK2 := Lib.hid (Keep.setCell (S := (· = b)) (Keep.setCell (S := (· = b)) (Keep.setCell (S := (· = b)) (Keep.setCell (S := (· = b)) (Keep.setCell (S := (· = b)) (Keep.setCell (S := (· = b)) (Keep.setCell (S := (· = b)) hkeep (p := ⟨b, k * 7, none⟩) (.inl rfl) (ofMk m 0)) (p := ⟨b, k * 7 + 1, none⟩) (.inl rfl) (ofMk m 1)) (p := ⟨b, k * 7 + 2, none⟩) (.inl rfl) (ofMk m 2)) (p := ⟨b, k * 7 + 3, none⟩) (.inl rfl) (ofMk m 3)) (p := ⟨b, k * 7 + 4, none⟩) (.inl rfl) (ofMk m 4)) (p := ⟨b, k * 7 + 5, none⟩) (.inl rfl) (ofMk m 5)) (p := ⟨b, k * 7 + 6, none⟩) (.inl rfl) (ofMk m 6))
      clear hblk hrow hkeep hsz hS
      go_wp2
      go_roundw
      case rel => exact ⟨k + 1, by omega, by omega, by go_num, HB2.out, HR2.out, HK2.out⟩
      case measure => simp [intOf]; omega
    · obtain rfl : k = n := by omega
      go_wp2
      go_end0
      exact ⟨rfl, hblk, hkeep⟩

set_option maxHeartbeats 4000000 in
theorem behindO_any {w : World} {b n c : Nat} {cs : Array Value} (m q : Of) (h : Blk w b cs 39) (hn : n ≤ c) (hs : c * 7 ≤ cs.size) (hc : c ≤ maxLen) :
    Calls Try.prog 110 #[.agg #[.slice (some ⟨b, 0, none⟩) n c, .int .u64 m.se, .int .u8 m.ow, .int .u8 m.sl, .int .u8 m.bu, .int .i64 m.lf, .int .i64 m.nu, .int .i64 m.de, .int .u64 q.se, .int .u8 q.ow, .int .u8 q.sl, .int .u8 q.bu, .int .i64 q.lf, .int .i64 q.nu, .int .i64 q.de]] w fun e w' => e = .returned (.tuple #[]) ∧ Blk w' b (fill 7 (ofMk q) cs n c) 39 ∧ Keep (· = b) w w' := by
  have KR := Lib.hid (Blk.new w #[.slice (some ⟨b, 0, none⟩) n c, .int .u64 m.se, .int .u8 m.ow, .int .u8 m.sl, .int .u8 m.bu, .int .i64 m.lf, .int .i64 m.nu, .int .i64 m.de, .int .u64 q.se, .int .u8 q.ow, .int .u8 q.sl, .int .u8 q.bu, .int .i64 q.lf, .int .i64 q.nu, .int .i64 q.de] 92)
  have HB := Lib.hid h
  have hlt := h.lt
  have K0 := Lib.hid ((Keep.refl (· = b) w).alloc (.cells #[.slice (some ⟨b, 0, none⟩) n c, .int .u64 m.se, .int .u8 m.ow, .int .u8 m.sl, .int .u8 m.bu, .int .i64 m.lf, .int .i64 m.nu, .int .i64 m.de, .int .u64 q.se, .int .u8 q.ow, .int .u8 q.sl, .int .u8 q.bu, .int .i64 q.lf, .int .i64 q.nu, .int .i64 q.de] 92))
  have H1 := Lib.hid (h.alloc (.cells #[.slice (some ⟨b, 0, none⟩) n c, .int .u64 m.se, .int .u8 m.ow, .int .u8 m.sl, .int .u8 m.bu, .int .i64 m.lf, .int .i64 m.nu, .int .i64 m.de, .int .u64 q.se, .int .u8 q.ow, .int .u8 q.sl, .int .u8 q.bu, .int .i64 q.lf, .int .i64 q.nu, .int .i64 q.de] 92))
  have HS := Lib.hid hs
  unfold maxLen at hc
  clear h hs
  go_enter Try.func110, Try.ntmps110
  go_wp2
  go_loopw [3] (PageAtO w b cs #[.slice (some ⟨b, 0, none⟩) n c, .int .u64 m.se, .int .u8 m.ow, .int .u8 m.sl, .int .u8 m.bu, .int .i64 m.lf, .int .i64 m.nu, .int .i64 m.de, .int .u64 q.se, .int .u8 q.ow, .int .u8 q.sl, .int .u8 q.bu, .int .i64 q.lf, .int .i64 q.nu, .int .i64 q.de] 92 39 7 n c (ofMk q)) (fun i _ => c - (intOf i).toNat)
  case atStart => exact ⟨n, Nat.le_refl _, hn, rfl, by rw [fill_none]; exact H1.out, KR.out, K0.out⟩
  case round =>
    obtain ⟨k, hk0, hk, rfl, hblk, hrow, hkeep⟩ := hrel
    have r0 := hrow.cell 0
    have r8 := hrow.cell 8
    have r9 := hrow.cell 9
    have r10 := hrow.cell 10
    have r11 := hrow.cell 11
    have r12 := hrow.cell 12
    have r13 := hrow.cell 13
    have r14 := hrow.cell 14
    simp at r0 r8 r9 r10 r11 r12 r13 r14
    by_cases hkl : k < c
    · have hsz := fill_size 7 (ofMk q) cs n k
      have hS := HS.out
      obtain ⟨u0, hu0⟩ := blk_ex hblk (j := k * 7) (by omega)
      obtain ⟨u1, hu1⟩ := blk_ex hblk (j := k * 7 + 1) (by omega)
      obtain ⟨u2, hu2⟩ := blk_ex hblk (j := k * 7 + 2) (by omega)
      obtain ⟨u3, hu3⟩ := blk_ex hblk (j := k * 7 + 3) (by omega)
      obtain ⟨u4, hu4⟩ := blk_ex hblk (j := k * 7 + 4) (by omega)
      obtain ⟨u5, hu5⟩ := blk_ex hblk (j := k * 7 + 5) (by omega)
      obtain ⟨u6, hu6⟩ := blk_ex hblk (j := k * 7 + 6) (by omega)
      have hf := hblk.frozen
      have hz := hblk.lt
      have hne : b ≠ w.heap.size := by omega
      have HB2 := Lib.hid (by
        have := ((((((hblk.set (k * 7) (ofMk q 0)).set (k * 7 + 1) (ofMk q 1)).set (k * 7 + 2) (ofMk q 2)).set (k * 7 + 3) (ofMk q 3)).set (k * 7 + 4) (ofMk q 4)).set (k * 7 + 5) (ofMk q 5)).set (k * 7 + 6) (ofMk q 6)
        rwa [fill_next7 (ofMk q) cs _ k hk0 (by omega)] at this)
      have HR2 := Lib.hid (((((((hrow.setOther (a := ⟨b, k * 7, none⟩) (by simpa using Ne.symm hne) (ofMk q 0)).setOther (a := ⟨b, k * 7 + 1, none⟩) (by simpa using Ne.symm hne) (ofMk q 1)).setOther (a := ⟨b, k * 7 + 2, none⟩) (by simpa using Ne.symm hne) (ofMk q 2)).setOther (a := ⟨b, k * 7 + 3, none⟩) (by simpa using Ne.symm hne) (ofMk q 3)).setOther (a := ⟨b, k * 7 + 4, none⟩) (by simpa using Ne.symm hne) (ofMk q 4)).setOther (a := ⟨b, k * 7 + 5, none⟩) (by simpa using Ne.symm hne) (ofMk q 5)).setOther (a := ⟨b, k * 7 + 6, none⟩) (by simpa using Ne.symm hne) (ofMk q 6))
      have HK2 := Lib.hid (Keep.setCell (S := (· = b)) (Keep.setCell (S := (· = b)) (Keep.setCell (S := (· = b)) (Keep.setCell (S := (· = b)) (Keep.setCell (S := (· = b)) (Keep.setCell (S := (· = b)) (Keep.setCell (S := (· = b)) hkeep (p := ⟨b, k * 7, none⟩) (.inl rfl) (ofMk q 0)) (p := ⟨b, k * 7 + 1, none⟩) (.inl rfl) (ofMk q 1)) (p := ⟨b, k * 7 + 2, none⟩) (.inl rfl) (ofMk q 2)) (p := ⟨b, k * 7 + 3, none⟩) (.inl rfl) (ofMk q 3)) (p := ⟨b, k * 7 + 4, none⟩) (.inl rfl) (ofMk q 4)) (p := ⟨b, k * 7 + 5, none⟩) (.inl rfl) (ofMk q 5)) (p := ⟨b, k * 7 + 6, none⟩) (.inl rfl) (ofMk q 6))
      clear hblk hrow hkeep hsz hS
      go_wp2
      go_roundw
      case rel => exact ⟨k + 1, by omega, by omega, by go_num, HB2.out, HR2.out, HK2.out⟩
      case measure => simp [intOf]; omega
    · obtain rfl : k = c := by omega
      go_wp2
      go_end0
      exact ⟨rfl, hblk, hkeep⟩

set_option maxHeartbeats 8000000 in
set_option maxRecDepth 100000 in
theorem standsO_any {w : World} {b n c : Nat} {cs : Array Value} (m q : Of) (h : Blk w b cs 39) (hn : n ≤ c) (hs : c * 7 ≤ cs.size) (hc : c ≤ maxLen)
    (h1 : ∀ j, j < n → ∀ i, i < 7 → cs[j * 7 + i]? = some (ofMk m i)) (h2 : ∀ j, n ≤ j → j < c → ∀ i, i < 7 → cs[j * 7 + i]? = some (ofMk q i)) :
    Calls Try.prog 108 #[.agg #[.slice (some ⟨b, 0, none⟩) n c, .int .u64 m.se, .int .u8 m.ow, .int .u8 m.sl, .int .u8 m.bu, .int .i64 m.lf, .int .i64 m.nu, .int .i64 m.de, .int .u64 q.se, .int .u8 q.ow, .int .u8 q.sl, .int .u8 q.bu, .int .i64 q.lf, .int .i64 q.nu, .int .i64 q.de]] w fun e w' => e = .returned (.bool true) ∧ Below w.heap.size w w' := by
  have KR := Lib.hid (Blk.new w #[.slice (some ⟨b, 0, none⟩) n c, .int .u64 m.se, .int .u8 m.ow, .int .u8 m.sl, .int .u8 m.bu, .int .i64 m.lf, .int .i64 m.nu, .int .i64 m.de, .int .u64 q.se, .int .u8 q.ow, .int .u8 q.sl, .int .u8 q.bu, .int .i64 q.lf, .int .i64 q.nu, .int .i64 q.de] 92)
  have B0 := Lib.hid ((Below.refl w.heap.size w).alloc (Nat.le_refl _) (.cells #[.slice (some ⟨b, 0, none⟩) n c, .int .u64 m.se, .int .u8 m.ow, .int .u8 m.sl, .int .u8 m.bu, .int .i64 m.lf, .int .i64 m.nu, .int .i64 m.de, .int .u64 q.se, .int .u8 q.ow, .int .u8 q.sl, .int .u8 q.bu, .int .i64 q.lf, .int .i64 q.nu, .int .i64 q.de] 92))
  have HB := Lib.hid h
  have hlt := h.lt
  have H1 := Lib.hid h1; have H2 := Lib.hid h2
  unfold maxLen at hc
  clear h h1 h2 hs
  go_enter Try.func108, Try.ntmps108
  go_wp2
  go_loopw [4] (fun i wr => ∃ k : Nat, k ≤ c ∧ i = .int .i64 k ∧ Below w.heap.size w wr ∧ Blk wr w.heap.size #[.slice (some ⟨b, 0, none⟩) n c, .int .u64 m.se, .int .u8 m.ow, .int .u8 m.sl, .int .u8 m.bu, .int .i64 m.lf, .int .i64 m.nu, .int .i64 m.de, .int .u64 q.se, .int .u8 q.ow, .int .u8 q.sl, .int .u8 q.bu, .int .i64 q.lf, .int .i64 q.nu, .int .i64 q.de] 92) (fun i _ => c - (intOf i).toNat)
  case atStart => exact ⟨0, Nat.zero_le _, rfl, B0.out, KR.out⟩
  case round =>
    obtain ⟨k, hk, rfl, hb, hrow⟩ := hrel
    have r0 := hrow.cell 0
    simp at r0
    have BB := Lib.hid hb; have RR := Lib.hid hrow
    have hz := hrow.lt
    have hzb : b < wr.heap.size := Nat.lt_of_lt_of_le hlt hb.size
    by_cases hkl : k < c
    · have BK := Lib.hid (HB.out.below BB.out hlt)
      clear hb hrow
      by_cases hkn : k < n
      · have CK := Lib.hid (H1.out k hkn)
        have g1 : decide ((k : Int) < (n : Int)) = true := by simp; omega
        have g2 : decide (n ≤ k) = false := by simp; omega
        go_wp2_with fail
        refine region_still (by kernel_rfl) [.int .i64 k, .pointer (some ⟨w.heap.size, 0, none⟩), .slice (some ⟨b, 0, none⟩) n c, .int .i64 n, .bool true, .bool true, .slice (some ⟨b, 0, none⟩) c c, .int .i64 k, .pointer (some ⟨b, k * 7, none⟩), .agg #[.int .u64 m.se, .int .u8 m.ow, .int .u8 m.sl, .int .u8 m.bu, .int .i64 m.lf, .int .i64 m.nu, .int .i64 m.de], .pointer (some ⟨w.heap.size, 1, none⟩), .agg #[.int .u64 m.se, .int .u8 m.ow, .int .u8 m.sl, .int .u8 m.bu, .int .i64 m.lf, .int .i64 m.nu, .int .i64 m.de], .bool false, .bool false, .bool false, .int .i64 k, .pointer (some ⟨w.heap.size, 0, none⟩), .slice (some ⟨b, 0, none⟩) n c, .int .i64 n, .bool false, .bool false, undef, undef, undef, undef, undef, undef, undef, .bool false, .bool false]
          (fun w' => Below wr.heap.size wr w') (by kernel_rfl) (Below.refl _ _).drew ?_
        intro af haf
        simp only [puts, Act.put, List.getD_cons_zero, List.getD_cons_succ, List.setIfInBounds_toArray, List.set_cons_succ, List.set_cons_zero] at haf
        subst haf
        refine ⟨?_, ?_⟩
        · simp only [EachTo]
          refine ⟨?_, ?_, ?_, ?_, ?_, ?_, ?_, ?_, ?_, ?_, ?_, ?_, ?_, ?_, ?_, ?_, ?_, ?_, ?_, ?_, ?_, ?_, ?_, ?_, ?_, ?_, ?_, ?_, ?_, ?_, trivial⟩
          · intro w' hS
            refine OpTo.plain ?_ ?_
            exact rfl
            have HS := Lib.hid hS
            clear hS
            go_wp2_with fail
            all_goals first | exact HS.out | exact ⟨rfl, HS.out⟩ | rfl
          · intro w' hS
            refine OpTo.plain ?_ ?_
            exact rfl
            have HS := Lib.hid hS
            clear hS
            go_wp2_with fail
            all_goals first | exact HS.out | exact ⟨rfl, HS.out⟩ | rfl
          · intro w' hS
            refine OpTo.plain ?_ ?_
            exact rfl
            have r0 := (RR.out.below hS RR.out.lt).cell 0
            simp at r0
            have HS := Lib.hid hS
            clear hS
            go_wp2_with fail
            all_goals first | exact HS.out | exact ⟨rfl, HS.out⟩ | rfl
          · intro w' hS
            refine OpTo.plain ?_ ?_
            exact rfl
            have HS := Lib.hid hS
            clear hS
            go_wp2_with fail
            all_goals first | exact HS.out | exact ⟨rfl, HS.out⟩ | rfl
          · intro w' hS
            refine OpTo.plain ?_ ?_
            exact rfl
            have HS := Lib.hid hS
            clear hS
            go_wp2_with fail
            all_goals first | exact HS.out | exact ⟨rfl, HS.out⟩ | rfl
          · intro w' hS
            refine OpTo.plain ?_ ?_
            exact rfl
            have HS := Lib.hid hS
            clear hS
            go_wp2_with fail
            all_goals first | exact HS.out | exact ⟨rfl, HS.out⟩ | rfl
          · intro w' hS
            refine OpTo.wanted ?_ ?_
            kernel_rfl
            have HS := Lib.hid hS
            clear hS
            go_wp2_with fail
            all_goals first | exact HS.out | exact ⟨rfl, HS.out⟩ | rfl
          · intro w' hS
            refine OpTo.wanted ?_ ?_
            kernel_rfl
            have HS := Lib.hid hS
            clear hS
            go_wp2_with fail
            all_goals first | exact HS.out | exact ⟨rfl, HS.out⟩ | rfl
          · intro w' hS
            refine OpTo.wanted ?_ ?_
            kernel_rfl
            have HS := Lib.hid hS
            clear hS
            go_wp2_with fail
            all_goals first | exact HS.out | exact ⟨rfl, HS.out⟩ | rfl
          · intro w' hS
            refine OpTo.wanted ?_ ?_
            kernel_rfl
            have p0 := ((BK.out.below hS BK.out.lt).cell (k * 7)).trans (CK.out 0 (by omega))
            have p1 := ((BK.out.below hS BK.out.lt).cell (k * 7 + 1)).trans (CK.out 1 (by omega))
            have p2 := ((BK.out.below hS BK.out.lt).cell (k * 7 + 2)).trans (CK.out 2 (by omega))
            have p3 := ((BK.out.below hS BK.out.lt).cell (k * 7 + 3)).trans (CK.out 3 (by omega))
            have p4 := ((BK.out.below hS BK.out.lt).cell (k * 7 + 4)).trans (CK.out 4 (by omega))
            have p5 := ((BK.out.below hS BK.out.lt).cell (k * 7 + 5)).trans (CK.out 5 (by omega))
            have p6 := ((BK.out.below hS BK.out.lt).cell (k * 7 + 6)).trans (CK.out 6 (by omega))
            simp [ofMk, Of.vals] at p0 p1 p2 p3 p4 p5 p6
            have HS := Lib.hid hS
            clear hS
            go_wp2_with fail
            all_goals first | exact HS.out | exact ⟨rfl, HS.out⟩ | rfl
          · intro w' hS
            refine OpTo.wanted ?_ ?_
            kernel_rfl
            have HS := Lib.hid hS
            clear hS
            go_wp2_with fail
            all_goals first | exact HS.out | exact ⟨rfl, HS.out⟩ | rfl
          · intro w' hS
            refine OpTo.wanted ?_ ?_
            kernel_rfl
            have r0 := (RR.out.below hS RR.out.lt).cell 1
            have r1 := (RR.out.below hS RR.out.lt).cell 2
            have r2 := (RR.out.below hS RR.out.lt).cell 3
            have r3 := (RR.out.below hS RR.out.lt).cell 4
            have r4 := (RR.out.below hS RR.out.lt).cell 5
            have r5 := (RR.out.below hS RR.out.lt).cell 6
            have r6 := (RR.out.below hS RR.out.lt).cell 7
            simp at r0 r1 r2 r3 r4 r5 r6
            have HS := Lib.hid hS
            clear hS
            go_wp2_with fail
            all_goals first | exact HS.out | exact ⟨rfl, HS.out⟩ | rfl
          · intro w' hS
            refine OpTo.wanted ?_ ?_
            kernel_rfl
            have HS := Lib.hid hS
            clear hS
            go_wp2_with fail
            all_goals first | exact HS.out | exact ⟨rfl, HS.out⟩ | rfl
          · intro w' hS
            refine OpTo.plain ?_ ?_
            exact rfl
            have HS := Lib.hid hS
            clear hS
            go_wp2_with fail
            all_goals first | exact HS.out | exact ⟨rfl, HS.out⟩ | rfl
          · intro w' hS
            refine OpTo.plain ?_ ?_
            exact rfl
            have HS := Lib.hid hS
            clear hS
            go_wp2_with fail
            all_goals first | exact HS.out | exact ⟨rfl, HS.out⟩ | rfl
          · intro w' hS
            refine OpTo.wanted ?_ ?_
            kernel_rfl
            have HS := Lib.hid hS
            clear hS
            go_wp2_with fail
            all_goals first | exact HS.out | exact ⟨rfl, HS.out⟩ | rfl
          · intro w' hS
            refine OpTo.wanted ?_ ?_
            kernel_rfl
            have HS := Lib.hid hS
            clear hS
            go_wp2_with fail
            all_goals first | exact HS.out | exact ⟨rfl, HS.out⟩ | rfl
          · intro w' hS
            refine OpTo.wanted ?_ ?_
            kernel_rfl
            have r0 := (RR.out.below hS RR.out.lt).cell 0
            simp at r0
            have HS := Lib.hid hS
            clear hS
            go_wp2_with fail
            all_goals first | exact HS.out | exact ⟨rfl, HS.out⟩ | rfl
          · intro w' hS
            refine OpTo.wanted ?_ ?_
            kernel_rfl
            have HS := Lib.hid hS
            clear hS
            go_wp2_with fail
            all_goals first | exact HS.out | exact ⟨rfl, HS.out⟩ | rfl
          · intro w' hS
            refine OpTo.wanted ?_ ?_
            kernel_rfl
            have HS := Lib.hid hS
            clear hS
            go_wp2_with fail
            all_goals first | exact HS.out | exact ⟨rfl, HS.out⟩ | rfl
          · intro w' hS
            refine OpTo.wanted ?_ ?_
            kernel_rfl
            have HS := Lib.hid hS
            clear hS
            go_wp2_with fail
            all_goals first | exact HS.out | exact ⟨rfl, HS.out⟩ | rfl
          · intro w' hS
            refine OpTo.passed (by kernel_rfl) rfl hS
          · intro w' hS
            refine OpTo.passed (by kernel_rfl) rfl hS
          · intro w' hS
            refine OpTo.passed (by kernel_rfl) rfl hS
          · intro w' hS
            refine OpTo.passed (by kernel_rfl) rfl hS
          · intro w' hS
            refine OpTo.passed (by kernel_rfl) rfl hS
          · intro w' hS
            refine OpTo.passed (by kernel_rfl) rfl hS
          · intro w' hS
            refine OpTo.passed (by kernel_rfl) rfl hS
          · intro w' hS
            refine OpTo.wanted ?_ ?_
            kernel_rfl
            have HS := Lib.hid hS
            clear hS
            go_wp2_with fail
            all_goals first | exact HS.out | exact ⟨rfl, HS.out⟩ | rfl
          · intro w' hS
            refine OpTo.plain ?_ ?_
            exact rfl
            have HS := Lib.hid hS
            clear hS
            go_wp2_with fail
            all_goals first | exact HS.out | exact ⟨rfl, HS.out⟩ | rfl
        intro w' hS
        have hS' := Lib.hid hS
        clear hS
        go_wp2
        go_roundw
        case rel => exact ⟨k + 1, by omega, by go_num, BB.out.trans (hS'.out.mono BB.out.size), RR.out.below hS'.out RR.out.lt⟩
        case measure => simp [intOf]; omega
      · have CK := Lib.hid (H2.out k (by omega) hkl)
        have g1 : decide ((k : Int) < (n : Int)) = false := by simp; omega
        have g2 : decide (n ≤ k) = true := by simp; omega
        go_wp2_with fail
        refine region_still (by kernel_rfl) [.int .i64 k, .pointer (some ⟨w.heap.size, 0, none⟩), .slice (some ⟨b, 0, none⟩) n c, .int .i64 n, .bool false, .bool false, undef, undef, undef, undef, undef, undef, undef, .bool false, .bool false, .int .i64 k, .pointer (some ⟨w.heap.size, 0, none⟩), .slice (some ⟨b, 0, none⟩) n c, .int .i64 n, .bool true, .bool true, .slice (some ⟨b, 0, none⟩) c c, .int .i64 k, .pointer (some ⟨b, k * 7, none⟩), .agg #[.int .u64 q.se, .int .u8 q.ow, .int .u8 q.sl, .int .u8 q.bu, .int .i64 q.lf, .int .i64 q.nu, .int .i64 q.de], .pointer (some ⟨w.heap.size, 8, none⟩), .agg #[.int .u64 q.se, .int .u8 q.ow, .int .u8 q.sl, .int .u8 q.bu, .int .i64 q.lf, .int .i64 q.nu, .int .i64 q.de], .bool false, .bool false, .bool false]
          (fun w' => Below wr.heap.size wr w') (by kernel_rfl) (Below.refl _ _).drew ?_
        intro af haf
        simp only [puts, Act.put, List.getD_cons_zero, List.getD_cons_succ, List.setIfInBounds_toArray, List.set_cons_succ, List.set_cons_zero] at haf
        subst haf
        refine ⟨?_, ?_⟩
        · simp only [EachTo]
          refine ⟨?_, ?_, ?_, ?_, ?_, ?_, ?_, ?_, ?_, ?_, ?_, ?_, ?_, ?_, ?_, ?_, ?_, ?_, ?_, ?_, ?_, ?_, ?_, ?_, ?_, ?_, ?_, ?_, ?_, ?_, trivial⟩
          · intro w' hS
            refine OpTo.plain ?_ ?_
            exact rfl
            have HS := Lib.hid hS
            clear hS
            go_wp2_with fail
            all_goals first | exact HS.out | exact ⟨rfl, HS.out⟩ | rfl
          · intro w' hS
            refine OpTo.plain ?_ ?_
            exact rfl
            have HS := Lib.hid hS
            clear hS
            go_wp2_with fail
            all_goals first | exact HS.out | exact ⟨rfl, HS.out⟩ | rfl
          · intro w' hS
            refine OpTo.plain ?_ ?_
            exact rfl
            have r0 := (RR.out.below hS RR.out.lt).cell 0
            simp at r0
            have HS := Lib.hid hS
            clear hS
            go_wp2_with fail
            all_goals first | exact HS.out | exact ⟨rfl, HS.out⟩ | rfl
          · intro w' hS
            refine OpTo.plain ?_ ?_
            exact rfl
            have HS := Lib.hid hS
            clear hS
            go_wp2_with fail
            all_goals first | exact HS.out | exact ⟨rfl, HS.out⟩ | rfl
          · intro w' hS
            refine OpTo.plain ?_ ?_
            exact rfl
            have HS := Lib.hid hS
            clear hS
            go_wp2_with fail
            all_goals first | exact HS.out | exact ⟨rfl, HS.out⟩ | rfl
          · intro w' hS
            refine OpTo.plain ?_ ?_
            exact rfl
            have HS := Lib.hid hS
            clear hS
            go_wp2_with fail
            all_goals first | exact HS.out | exact ⟨rfl, HS.out⟩ | rfl
          · intro w' hS
            refine OpTo.passed (by kernel_rfl) rfl hS
          · intro w' hS
            refine OpTo.passed (by kernel_rfl) rfl hS
          · intro w' hS
            refine OpTo.passed (by kernel_rfl) rfl hS
          · intro w' hS
            refine OpTo.passed (by kernel_rfl) rfl hS
          · intro w' hS
            refine OpTo.passed (by kernel_rfl) rfl hS
          · intro w' hS
            refine OpTo.passed (by kernel_rfl) rfl hS
          · intro w' hS
            refine OpTo.passed (by kernel_rfl) rfl hS
          · intro w' hS
            refine OpTo.plain ?_ ?_
            exact rfl
            have HS := Lib.hid hS
            clear hS
            go_wp2_with fail
            all_goals first | exact HS.out | exact ⟨rfl, HS.out⟩ | rfl
          · intro w' hS
            refine OpTo.plain ?_ ?_
            exact rfl
            have HS := Lib.hid hS
            clear hS
            go_wp2_with fail
            all_goals first | exact HS.out | exact ⟨rfl, HS.out⟩ | rfl
          · intro w' hS
            refine OpTo.wanted ?_ ?_
            kernel_rfl
            have HS := Lib.hid hS
            clear hS
            go_wp2_with fail
            all_goals first | exact HS.out | exact ⟨rfl, HS.out⟩ | rfl
          · intro w' hS
            refine OpTo.wanted ?_ ?_
            kernel_rfl
            have HS := Lib.hid hS
            clear hS
            go_wp2_with fail
            all_goals first | exact HS.out | exact ⟨rfl, HS.out⟩ | rfl
          · intro w' hS
            refine OpTo.wanted ?_ ?_
            kernel_rfl
            have r0 := (RR.out.below hS RR.out.lt).cell 0
            simp at r0
            have HS := Lib.hid hS
            clear hS
            go_wp2_with fail
            all_goals first | exact HS.out | exact ⟨rfl, HS.out⟩ | rfl
          · intro w' hS
            refine OpTo.wanted ?_ ?_
            kernel_rfl
            have HS := Lib.hid hS
            clear hS
            go_wp2_with fail
            all_goals first | exact HS.out | exact ⟨rfl, HS.out⟩ | rfl
          · intro w' hS
            refine OpTo.wanted ?_ ?_
            kernel_rfl
            have HS := Lib.hid hS
            clear hS
            go_wp2_with fail
            all_goals first | exact HS.out | exact ⟨rfl, HS.out⟩ | rfl
          · intro w' hS
            refine OpTo.wanted ?_ ?_
            kernel_rfl
            have HS := Lib.hid hS
            clear hS
            go_wp2_with fail
            all_goals first | exact HS.out | exact ⟨rfl, HS.out⟩ | rfl
          · intro w' hS
            refine OpTo.wanted ?_ ?_
            kernel_rfl
            have HS := Lib.hid hS
            clear hS
            go_wp2_with fail
            all_goals first | exact HS.out | exact ⟨rfl, HS.out⟩ | rfl
          · intro w' hS
            refine OpTo.wanted ?_ ?_
            kernel_rfl
            have HS := Lib.hid hS
            clear hS
            go_wp2_with fail
            all_goals first | exact HS.out | exact ⟨rfl, HS.out⟩ | rfl
          · intro w' hS
            refine OpTo.wanted ?_ ?_
            kernel_rfl
            have HS := Lib.hid hS
            clear hS
            go_wp2_with fail
            all_goals first | exact HS.out | exact ⟨rfl, HS.out⟩ | rfl
          · intro w' hS
            refine OpTo.wanted ?_ ?_
            kernel_rfl
            have p0 := ((BK.out.below hS BK.out.lt).cell (k * 7)).trans (CK.out 0 (by omega))
            have p1 := ((BK.out.below hS BK.out.lt).cell (k * 7 + 1)).trans (CK.out 1 (by omega))
            have p2 := ((BK.out.below hS BK.out.lt).cell (k * 7 + 2)).trans (CK.out 2 (by omega))
            have p3 := ((BK.out.below hS BK.out.lt).cell (k * 7 + 3)).trans (CK.out 3 (by omega))
            have p4 := ((BK.out.below hS BK.out.lt).cell (k * 7 + 4)).trans (CK.out 4 (by omega))
            have p5 := ((BK.out.below hS BK.out.lt).cell (k * 7 + 5)).trans (CK.out 5 (by omega))
            have p6 := ((BK.out.below hS BK.out.lt).cell (k * 7 + 6)).trans (CK.out 6 (by omega))
            simp [ofMk, Of.vals] at p0 p1 p2 p3 p4 p5 p6
            have HS := Lib.hid hS
            clear hS
            go_wp2_with fail
            all_goals first | exact HS.out | exact ⟨rfl, HS.out⟩ | rfl
          · intro w' hS
            refine OpTo.wanted ?_ ?_
            kernel_rfl
            have HS := Lib.hid hS
            clear hS
            go_wp2_with fail
            all_goals first | exact HS.out | exact ⟨rfl, HS.out⟩ | rfl
          · intro w' hS
            refine OpTo.wanted ?_ ?_
            kernel_rfl
            have r0 := (RR.out.below hS RR.out.lt).cell 8
            have r1 := (RR.out.below hS RR.out.lt).cell 9
            have r2 := (RR.out.below hS RR.out.lt).cell 10
            have r3 := (RR.out.below hS RR.out.lt).cell 11
            have r4 := (RR.out.below hS RR.out.lt).cell 12
            have r5 := (RR.out.below hS RR.out.lt).cell 13
            have r6 := (RR.out.below hS RR.out.lt).cell 14
            simp at r0 r1 r2 r3 r4 r5 r6
            have HS := Lib.hid hS
            clear hS
            go_wp2_with fail
            all_goals first | exact HS.out | exact ⟨rfl, HS.out⟩ | rfl
          · intro w' hS
            refine OpTo.wanted ?_ ?_
            kernel_rfl
            have HS := Lib.hid hS
            clear hS
            go_wp2_with fail
            all_goals first | exact HS.out | exact ⟨rfl, HS.out⟩ | rfl
          · intro w' hS
            refine OpTo.wanted ?_ ?_
            kernel_rfl
            have HS := Lib.hid hS
            clear hS
            go_wp2_with fail
            all_goals first | exact HS.out | exact ⟨rfl, HS.out⟩ | rfl
          · intro w' hS
            refine OpTo.plain ?_ ?_
            exact rfl
            have HS := Lib.hid hS
            clear hS
            go_wp2_with fail
            all_goals first | exact HS.out | exact ⟨rfl, HS.out⟩ | rfl
        intro w' hS
        have hS' := Lib.hid hS
        clear hS
        go_wp2
        go_roundw
        case rel => exact ⟨k + 1, by omega, by go_num, BB.out.trans (hS'.out.mono BB.out.size), RR.out.below hS'.out RR.out.lt⟩
        case measure => simp [intOf]; omega
    · go_wp2
      go_ret
      exact ⟨rfl, BB.out⟩

end Go.Proofs.Ytdbdeodcldogmaa
