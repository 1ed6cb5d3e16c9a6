/-
  A book of whatever acts.
-/
import Derived.Test.YtdbdeodcldogmaaAside
import Derived.Test.YtdbdeodcldogmaaSlIn
namespace Go.Proofs.Ytdbdeodcldogmaa
open Go.RowKit
set_option linter.unusedSimpArgs false
set_option linter.unusedVariables false

def MadePost4 (w : World) (len : Nat) (e : Ending) (w' : World) : Prop :=
  ∃ g l N vl, e = .returned (.pointer (some ⟨g, 0, none⟩)) ∧ PB w' w.heap.size g l N vl ∧ BInv l N ∧ N ≤ (len : Int) + 1 ∧ Below w.heap.size w w'
def MadeAt4 (w : World) (len : Nat) (i : Value) (wr : World) : Prop :=
  ∃ k : Nat, k ≤ len ∧ i = .int .i64 k ∧ ∃ l N vl, PB wr w.heap.size w.heap.size l N vl ∧ BInv l N ∧ N ≤ (k : Int) + 1 ∧ Below w.heap.size w wr
set_option maxHeartbeats 8000000 in
set_option maxRecDepth 100000 in
theorem made4_any {w : World} {a : Option Addr} {len cap : Nat} {xs : List Ab} (h : SlIn Ab.vals 9 Ab.Ok w a len cap xs) (hl : len ≤ 120) :
    Calls Try.prog 34 #[.slice a len cap] w (MadePost4 w len) := by
  have HA := Lib.hid h
  have hxl : xs.length = len := h.2.1
  have hcap := h.2.2.2.1
  have hmax := h.2.2.2.2.1
  unfold maxLen at hmax
  clear h
  go_enter Try.func34, Try.ntmps34
  go_wp2_with fail
  refine (pnew_any w w.heap.size (Nat.le_refl _)).mono ?_
  rintro e w0 ⟨rfl, h0, hb0⟩
  have H0 := Lib.hid h0
  have B0 := Lib.hid hb0
  clear h0 hb0
  go_wp2_with fail
  go_loopw [4] (MadeAt4 w len) (fun i _ => len - (intOf i).toNat)
  case atStart => exact ⟨0, Nat.zero_le _, rfl, [], 1, _, H0.out, BInv.nil (by omega) (by omega), by omega, B0.out⟩
  case round =>
    obtain ⟨k, hk, rfl, l, N, vl, hP, hI, hN, hB⟩ := hrel
    have HP := Lib.hid hP
    have HI := Lib.hid hI
    have HB := Lib.hid hB
    clear hP hI hB
    by_cases hkl : k < len
    · obtain ⟨b, off, rfl, hb, d0, d1, d2, d3, d4, d5, d6, d7, d8⟩ := (HA.out.below HB.out).act (i := k) (by omega)
      have hx := HA.out.2.2.1 xs[k] (List.getElem_mem _)
      generalize hxe : xs[k] = x at *
      clear hxe
      obtain ⟨k1, k2⟩ := hx.k
      have bw := (Below.refl wr.heap.size wr).alloc (Nat.le_refl _) (.cells #[.int .u64 x.o.se, .int .u8 x.o.ow, .int .u8 x.o.sl, .int .u8 x.o.bu, .int .i64 x.o.lf, .int .i64 x.o.nu, .int .i64 x.o.de] 39)
      have HW := Lib.hid (HP.out.below bw)
      have BW := Lib.hid (HB.out.trans (bw.mono HB.out.size))
      clear bw
      have hs : x.k % 6 = 0 ∨ x.k % 6 = 1 ∨ x.k % 6 = 2 ∨ x.k % 6 = 3 ∨ x.k % 6 = 4 ∨ x.k % 6 = 5 := by omega
      rcases hs with hj | hj | hj | hj | hj | hj
      · have q1 : x.k % 6 = 0 := hj
        have q2 : x.k.tmod 6 = 0 := by rw [Int.tmod_eq_emod_of_nonneg hx.k.1]; exact hj
        clear hj
        have C := Lib.hid (pplace_any (x := ⟨N, x.o.ow, x.o.sl, x.o.bu, x.o.lf, x.o.nu, x.o.de⟩) HW.out HI.out ⟨⟨by have := HI.out.n1; show 0 ≤ N; omega, HI.out.n2⟩, hx.o.ow, hx.o.sl, hx.o.bu, hx.o.lf, hx.o.nu, hx.o.de⟩)
        have HI2 := Lib.hid (BInv.place (x := ⟨N, x.o.ow, x.o.sl, x.o.bu, x.o.lf, x.o.nu, x.o.de⟩) HI.out)
        have HN := Lib.hid (show (placeN l ⟨N, x.o.ow, x.o.sl, x.o.bu, x.o.lf, x.o.nu, x.o.de⟩ : Int) ≤ (k : Int) + 1 + 1 from by have e : placeN l ⟨N, x.o.ow, x.o.sl, x.o.bu, x.o.lf, x.o.nu, x.o.de⟩ ≤ N + 1 := (by unfold placeN; split <;> (dsimp only; omega)); omega)
        clear hx
        go_wp2_with fail
        refine C.out.mono ?_
        rintro e w2 ⟨rfl, vl2, h2, k2, m2⟩
        have H2 := Lib.hid h2
        have B2 := Lib.hid (BW.out.trans (k2.below BW.out.size (fun j hj hf => by have := (HW.out.lt hf).1; omega)))
        clear h2 k2 m2 C
        go_wp2_with fail
        go_roundw
        case rel => exact ⟨k + 1, by omega, by go_num, _, _, _, H2.out, HI2.out, by have := HN.out; omega, B2.out⟩
        case measure => simp [intOf]; omega
      · have q1 : x.k % 6 = 1 := hj
        have q2 : x.k.tmod 6 = 1 := by rw [Int.tmod_eq_emod_of_nonneg hx.k.1]; exact hj
        clear hj
        have C := Lib.hid (pplace_any (x := ⟨N, x.o.ow, x.o.sl, x.o.bu, x.o.lf, x.o.nu, x.o.de⟩) HW.out HI.out ⟨⟨by have := HI.out.n1; show 0 ≤ N; omega, HI.out.n2⟩, hx.o.ow, hx.o.sl, hx.o.bu, hx.o.lf, hx.o.nu, hx.o.de⟩)
        have HI2 := Lib.hid (BInv.place (x := ⟨N, x.o.ow, x.o.sl, x.o.bu, x.o.lf, x.o.nu, x.o.de⟩) HI.out)
        have HN := Lib.hid (show (placeN l ⟨N, x.o.ow, x.o.sl, x.o.bu, x.o.lf, x.o.nu, x.o.de⟩ : Int) ≤ (k : Int) + 1 + 1 from by have e : placeN l ⟨N, x.o.ow, x.o.sl, x.o.bu, x.o.lf, x.o.nu, x.o.de⟩ ≤ N + 1 := (by unfold placeN; split <;> (dsimp only; omega)); omega)
        clear hx
        go_wp2_with fail
        refine C.out.mono ?_
        rintro e w2 ⟨rfl, vl2, h2, k2, m2⟩
        have H2 := Lib.hid h2
        have B2 := Lib.hid (BW.out.trans (k2.below BW.out.size (fun j hj hf => by have := (HW.out.lt hf).1; omega)))
        clear h2 k2 m2 C
        go_wp2_with fail
        go_roundw
        case rel => exact ⟨k + 1, by omega, by go_num, _, _, _, H2.out, HI2.out, by have := HN.out; omega, B2.out⟩
        case measure => simp [intOf]; omega
      · have q1 : x.k % 6 = 2 := hj
        have q2 : x.k.tmod 6 = 2 := by rw [Int.tmod_eq_emod_of_nonneg hx.k.1]; exact hj
        clear hj
        have C := Lib.hid (pplace_any (x := ⟨N, x.o.ow, x.o.sl, x.o.bu, x.o.lf, x.o.nu, x.o.de⟩) HW.out HI.out ⟨⟨by have := HI.out.n1; show 0 ≤ N; omega, HI.out.n2⟩, hx.o.ow, hx.o.sl, hx.o.bu, hx.o.lf, hx.o.nu, hx.o.de⟩)
        have HI2 := Lib.hid (BInv.place (x := ⟨N, x.o.ow, x.o.sl, x.o.bu, x.o.lf, x.o.nu, x.o.de⟩) HI.out)
        have HN := Lib.hid (show (placeN l ⟨N, x.o.ow, x.o.sl, x.o.bu, x.o.lf, x.o.nu, x.o.de⟩ : Int) ≤ (k : Int) + 1 + 1 from by have e : placeN l ⟨N, x.o.ow, x.o.sl, x.o.bu, x.o.lf, x.o.nu, x.o.de⟩ ≤ N + 1 := (by unfold placeN; split <;> (dsimp only; omega)); omega)
        clear hx
        go_wp2_with fail
        refine C.out.mono ?_
        rintro e w2 ⟨rfl, vl2, h2, k2, m2⟩
        have H2 := Lib.hid h2
        have B2 := Lib.hid (BW.out.trans (k2.below BW.out.size (fun j hj hf => by have := (HW.out.lt hf).1; omega)))
        clear h2 k2 m2 C
        go_wp2_with fail
        go_roundw
        case rel => exact ⟨k + 1, by omega, by go_num, _, _, _, H2.out, HI2.out, by have := HN.out; omega, B2.out⟩
        case measure => simp [intOf]; omega
      · have q1 : x.k % 6 = 3 := hj
        have q2 : x.k.tmod 6 = 3 := by rw [Int.tmod_eq_emod_of_nonneg hx.k.1]; exact hj
        clear hj
        have C := Lib.hid (pcancel_any HW.out HI.out x.o.ow x.o.se)
        have HI2 := Lib.hid (HI.out.cancel x.o.ow x.o.se)
        have HN := Lib.hid (show (N : Int) ≤ (k : Int) + 1 + 1 from by omega)
        clear hx
        go_wp2_with fail
        refine C.out.mono ?_
        rintro e w2 ⟨rfl, vl2, h2, k2, m2⟩
        have H2 := Lib.hid h2
        have B2 := Lib.hid (BW.out.trans (k2.below BW.out.size (fun j hj hf => by have := (HW.out.lt hf).1; omega)))
        clear h2 k2 m2 C
        go_wp2_with fail
        go_roundw
        case rel => exact ⟨k + 1, by omega, by go_num, _, _, _, H2.out, HI2.out, by have := HN.out; omega, B2.out⟩
        case measure => simp [intOf]; omega
      · have q1 : x.k % 6 = 4 := hj
        have q2 : x.k.tmod 6 = 4 := by rw [Int.tmod_eq_emod_of_nonneg hx.k.1]; exact hj
        clear hj
        have C := Lib.hid (fun w' (b : Below (wr.alloc (.cells #[.int .u64 x.o.se, .int .u8 x.o.ow, .int .u8 x.o.sl, .int .u8 x.o.bu, .int .i64 x.o.lf, .int .i64 x.o.nu, .int .i64 x.o.de] 39)).heap.size (wr.alloc (.cells #[.int .u64 x.o.se, .int .u8 x.o.ow, .int .u8 x.o.sl, .int .u8 x.o.bu, .int .i64 x.o.lf, .int .i64 x.o.nu, .int .i64 x.o.de] 39)) w') => ptake_any (HW.out.below b) HI.out x.o.se x.n)
        have HI2 := Lib.hid (HI.out.take x.o.se x.n)
        have HN := Lib.hid (show (N : Int) ≤ (k : Int) + 1 + 1 from by omega)
        clear hx
        have PP := HW
        go_wp2_with fail
        go_region_with ((refine (C.out _ (Below.refl _ _).drew).mono ?_; rintro e w2 ⟨rfl, vl2, h2, k2, m2⟩))
        all_goals
          have H2 := Lib.hid h2
          have B2 := Lib.hid (BW.out.trans ((Keep.of_below (Below.refl _ _).drew |>.trans k2).below BW.out.size (fun j hj hf => by have := (HW.out.lt hf).1; omega)))
          clear h2 k2 m2
          go_wp2_with fail
          go_roundw
          case rel => exact ⟨k + 1, by omega, by go_num, _, _, _, H2.out, HI2.out, by have := HN.out; omega, B2.out⟩
          case measure => simp [intOf]; omega
      · have q1 : x.k % 6 = 5 := hj
        have q2 : x.k.tmod 6 = 5 := by rw [Int.tmod_eq_emod_of_nonneg hx.k.1]; exact hj
        clear hj
        clear hx
        go_wp2_with fail
        go_roundw
        case rel => exact ⟨k + 1, by omega, by go_num, l, N, vl, HW.out, HI.out, by omega, BW.out⟩
        case measure => simp [intOf]; omega
    · go_wp2_with fail
      refine bodyPost_ret (v := .pointer (some ⟨w.heap.size, 0, none⟩)) (by simp [results, Try.results34, go_sem]) rfl ?_
      exact ⟨w.heap.size, l, N, vl, rfl, HP.out, HI.out, by omega, HB.out⟩

end Go.Proofs.Ytdbdeodcldogmaa
