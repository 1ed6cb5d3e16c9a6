/-
  A ledger of whatever acts.
-/
import Derived.Test.YtdpkcamhafkkbaaPLed6
import Derived.Test.YtdpkcamhafkkbaaActs
namespace Go.Proofs.Ytdpkcamhafkkbaa
open Go.RowKit
set_option linter.unusedSimpArgs false
set_option linter.unusedVariables false

def MadePost (w : World) (e : Ending) (w' : World) : Prop :=
  ∃ G M ps ls, e = .returned (.pointer (some ⟨G, 0, none⟩)) ∧ LedM w' G M ps ls ∧ LInv ps ls ∧ w.heap.size ≤ G ∧ w.heap.size ≤ M ∧ Below w.heap.size w w'
def MadeAt (w : World) (G M len : Nat) (i : Value) (wr : World) : Prop :=
  ∃ k : Nat, k ≤ len ∧ i = .int .i64 k ∧ ∃ ps ls, LedM wr G M ps ls ∧ LInv ps ls ∧ Below w.heap.size w wr
set_option maxHeartbeats 8000000 in
set_option maxRecDepth 100000 in
theorem made_acts {w : World} {a : Option Addr} {len cap : Nat} {xs : List Ac} (h : ActsIn w a len cap xs) (hl : len ≤ 120) :
    Calls Try.prog 24 #[.slice a len cap] w (MadePost w) := by
  have HA := Lib.hid h
  have hxl : xs.length = len := h.1
  have hcap := h.2.2.1
  have hmax := h.2.2.2.1
  unfold maxLen at hmax
  clear h
  go_enter Try.func24, Try.ntmps24
  go_wp2_with fail
  refine (new_any w).mono ?_
  rintro e w0 ⟨G, M, rfl, h0, hG, hM, hb0⟩
  have H0 := Lib.hid h0
  have B0 := Lib.hid hb0
  clear h0 hb0
  go_wp2_with fail
  go_loopw [4] (MadeAt w G M len) (fun i _ => len - (intOf i).toNat)
  case atStart => exact ⟨0, Nat.zero_le _, rfl, [], [], H0.out, LInv.nil, B0.out⟩
  case round =>
    obtain ⟨k, hk, rfl, ps, ls, hL, hI, hB⟩ := hrel
    have HL := Lib.hid hL
    have HI := Lib.hid hI
    have HB := Lib.hid hB
    clear hL hI hB
    by_cases hkl : k < len
    · obtain ⟨b, off, rfl, hb, d0, d1, d2, d3, d4⟩ := (HA.out.below HB.out).at (i := k) (by omega)
      have hx := HA.out.2.1 xs[k] (List.getElem_mem _)
      generalize hxe : xs[k] = x at *
      clear hxe
      obtain ⟨k1, k2⟩ := hx.k
      have bw := (Below.refl wr.heap.size wr).alloc (Nat.le_refl _) (.cells #[.int .u8 x.k, .int .u8 x.a, .int .u8 x.b, .int .u8 x.c, .int .i64 x.n] 79)
      have HW := Lib.hid (HL.out.below bw)
      have BW := Lib.hid (HB.out.trans (bw.mono HB.out.size))
      clear bw
      have hs : x.k % 8 = 0 ∨ x.k % 8 = 1 ∨ x.k % 8 = 2 ∨ x.k % 8 = 3 ∨ x.k % 8 = 4 ∨ x.k % 8 = 5 ∨ x.k % 8 = 6 ∨ x.k % 8 = 7 := by omega
      rcases hs with hj | hj | hj | hj | hj | hj | hj | hj
      · have q1 : x.k % 8 = 0 := hj
        have q2 : x.k.tmod 8 = 0 := by rw [Int.tmod_eq_emod_of_nonneg hx.k.1]; exact hj
        clear hj
        have C := Lib.hid (open_any HW.out HI.out.bd x.a)
        have HI2 := Lib.hid (LInv.open HI.out x.a)
        clear hx
        go_wp2_with fail
        refine C.out.mono ?_
        rintro e w2 ⟨rfl, h2, k2⟩
        have H2 := Lib.hid h2
        have B2 := Lib.hid (BW.out.trans (k2.below BW.out.size (fun b hb e => by omega)))
        clear h2 k2 C
        go_wp2_with fail
        go_roundw
        case rel => exact ⟨k + 1, by omega, by go_num, _, _, H2.out, HI2.out, B2.out⟩
        case measure => simp [intOf]; omega
      · have q1 : x.k % 8 = 1 := hj
        have q2 : x.k.tmod 8 = 1 := by rw [Int.tmod_eq_emod_of_nonneg hx.k.1]; exact hj
        clear hj
        have C := Lib.hid (ptrust_any (a := x.a) (b := x.b) (c := x.c) (n := x.n) HW.out HI.out hx.a hx.b hx.c)
        have HI2 := Lib.hid (LInv.trust HI.out x.a x.b x.c x.n)
        clear hx
        go_wp2_with fail
        refine C.out.mono ?_
        rintro e w2 ⟨rfl, h2, k2⟩
        have H2 := Lib.hid h2
        have B2 := Lib.hid (BW.out.trans (k2.below BW.out.size (fun b hb e => by omega)))
        clear h2 k2 C
        go_wp2_with fail
        go_roundw
        case rel => exact ⟨k + 1, by omega, by go_num, _, _, H2.out, HI2.out, B2.out⟩
        case measure => simp [intOf]; omega
      · have q1 : x.k % 8 = 2 := hj
        have q2 : x.k.tmod 8 = 2 := by rw [Int.tmod_eq_emod_of_nonneg hx.k.1]; exact hj
        clear hj
        have C := Lib.hid (ptrust_any (a := x.a) (b := x.b) (c := x.c) (n := x.n) HW.out HI.out hx.a hx.b hx.c)
        have HI2 := Lib.hid (LInv.trust HI.out x.a x.b x.c x.n)
        clear hx
        go_wp2_with fail
        refine C.out.mono ?_
        rintro e w2 ⟨rfl, h2, k2⟩
        have H2 := Lib.hid h2
        have B2 := Lib.hid (BW.out.trans (k2.below BW.out.size (fun b hb e => by omega)))
        clear h2 k2 C
        go_wp2_with fail
        go_roundw
        case rel => exact ⟨k + 1, by omega, by go_num, _, _, H2.out, HI2.out, B2.out⟩
        case measure => simp [intOf]; omega
      · have q1 : x.k % 8 = 3 := hj
        have q2 : x.k.tmod 8 = 3 := by rw [Int.tmod_eq_emod_of_nonneg hx.k.1]; exact hj
        clear hj
        have C := Lib.hid (ppush_any (a := x.a) (b := x.b) (c := x.c) (n := x.n) HW.out HI.out hx.a hx.b hx.c hx.n)
        have HI2 := Lib.hid (LInv.push HI.out x.a x.b x.c x.n)
        clear hx
        go_wp2_with fail
        refine C.out.mono ?_
        rintro e w2 ⟨rfl, h2, k2⟩
        have H2 := Lib.hid h2
        have B2 := Lib.hid (BW.out.trans (k2.below BW.out.size (fun b hb e => by omega)))
        clear h2 k2 C
        go_wp2_with fail
        go_roundw
        case rel => exact ⟨k + 1, by omega, by go_num, _, _, H2.out, HI2.out, B2.out⟩
        case measure => simp [intOf]; omega
      · have q1 : x.k % 8 = 4 := hj
        have q2 : x.k.tmod 8 = 4 := by rw [Int.tmod_eq_emod_of_nonneg hx.k.1]; exact hj
        clear hj
        have C := Lib.hid (ppush_any (a := x.a) (b := x.b) (c := x.c) (n := x.n) HW.out HI.out hx.a hx.b hx.c hx.n)
        have HI2 := Lib.hid (LInv.push HI.out x.a x.b x.c x.n)
        clear hx
        go_wp2_with fail
        refine C.out.mono ?_
        rintro e w2 ⟨rfl, h2, k2⟩
        have H2 := Lib.hid h2
        have B2 := Lib.hid (BW.out.trans (k2.below BW.out.size (fun b hb e => by omega)))
        clear h2 k2 C
        go_wp2_with fail
        go_roundw
        case rel => exact ⟨k + 1, by omega, by go_num, _, _, H2.out, HI2.out, B2.out⟩
        case measure => simp [intOf]; omega
      · have q1 : x.k % 8 = 5 := hj
        have q2 : x.k.tmod 8 = 5 := by rw [Int.tmod_eq_emod_of_nonneg hx.k.1]; exact hj
        clear hj
        have C := Lib.hid (ppush_any (a := x.a) (b := x.b) (c := x.c) (n := x.n) HW.out HI.out hx.a hx.b hx.c hx.n)
        have HI2 := Lib.hid (LInv.push HI.out x.a x.b x.c x.n)
        clear hx
        go_wp2_with fail
        refine C.out.mono ?_
        rintro e w2 ⟨rfl, h2, k2⟩
        have H2 := Lib.hid h2
        have B2 := Lib.hid (BW.out.trans (k2.below BW.out.size (fun b hb e => by omega)))
        clear h2 k2 C
        go_wp2_with fail
        go_roundw
        case rel => exact ⟨k + 1, by omega, by go_num, _, _, H2.out, HI2.out, B2.out⟩
        case measure => simp [intOf]; omega
      · have q1 : x.k % 8 = 6 := hj
        have q2 : x.k.tmod 8 = 6 := by rw [Int.tmod_eq_emod_of_nonneg hx.k.1]; exact hj
        clear hj
        have C := Lib.hid (forgive_any (a := x.a) (b := x.b) (c := x.c) (n := x.n) HW.out HI.out.inv hx.a hx.b hx.c hx.n)
        have HI2 := Lib.hid (LInv.forgive HI.out x.a x.b x.c x.n)
        clear hx
        go_wp2_with fail
        refine C.out.mono ?_
        rintro e w2 ⟨rfl, h2, k2⟩
        have H2 := Lib.hid h2
        have B2 := Lib.hid (BW.out.trans (k2.below BW.out.size (fun b hb e => by omega)))
        clear h2 k2 C
        go_wp2_with fail
        go_roundw
        case rel => exact ⟨k + 1, by omega, by go_num, _, _, H2.out, HI2.out, B2.out⟩
        case measure => simp [intOf]; omega
      · have q1 : x.k % 8 = 7 := hj
        have q2 : x.k.tmod 8 = 7 := by rw [Int.tmod_eq_emod_of_nonneg hx.k.1]; exact hj
        clear hj
        clear hx
        go_wp2_with fail
        go_roundw
        case rel => exact ⟨k + 1, by omega, by go_num, ps, ls, HW.out, HI.out, BW.out⟩
        case measure => simp [intOf]; omega
    · go_wp2_with fail
      refine bodyPost_ret (v := .pointer (some ⟨G, 0, none⟩)) (by simp [results, Try.results24, go_sem]) rfl ?_
      exact ⟨G, M, ps, ls, rfl, HL.out, HI.out, hG, hM, HB.out⟩

end Go.Proofs.Ytdpkcamhafkkbaa
