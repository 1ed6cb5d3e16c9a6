/-
  Pieces of one proof, without what is not wanted: Made, Ref01b, Bits, Div64.
-/
import Derived.Test.YtbieomgpfhloeaaM01
import Derived.Test.YtbieomgpfhloeaaM04
import Derived.Test.YtbieomgpfhloeaaM06
import Derived.Test.YtbieomgpfhloeaaM12
import Derived.WalkSmall
import Derived.Deep.MidRow
import Derived.Laws.Bits64b
import Derived.Lib.Mul64
import Derived.Laws.Externs
import Derived.Deep.CutBlock
import Derived.Lib.Strings
import Derived.Lib.Small
import Derived.Lib.BitFns
import Derived.Lib.Slices
import Derived.Lib.Walk
import Derived.Lib.ItoaNum
set_option linter.unusedSimpArgs false
set_option linter.unusedVariables false
namespace Go.Proofs.Ytbieomgpfhloeaa
open Go.RowKit
def actL (x : Ac) (σ : List Int × List Ln) : List Int × List Ln :=
 if x.k % 8 = 0 then (openP σ.1 x.a, σ.2) else if x.k % 8 ≤ 2 then (σ.1, trustL σ.1 σ.2 x.a x.b x.c x.n) else if x.k % 8 ≤ 5 then (σ.1, pushL σ.1 σ.2 x.a x.b x.c x.n) else if x.k % 8 = 6 then (σ.1, forgiveL σ.2 x.a x.b x.c x.n) else σ
def actsL (xs : List Ac) : List Int × List Ln := xs.foldl (fun σ x => actL x σ) ([], [])
theorem actsL_next {xs : List Ac} {k : Nat} (h : k < xs.length) {ps : List Int} {ls : List Ln} (e : actsL (xs.take k) = (ps, ls)) : actsL (xs.take (k + 1)) = actL xs[k] (ps, ls) := by
 unfold actsL at *
 rw [List.take_succ_eq_append_getElem h, List.foldl_append, e]
 rfl
def MadeAt (w : World) (G M len : Nat) (xs : List Ac) (i : Value) (wr : World) : Prop :=
 ∃ k : Nat, k ≤ len ∧ i = .int .i64 k ∧ ∃ ps ls, LedM wr G M ps ls ∧ LInv ps ls ∧ Below w.heap.size w wr ∧ Hid (actsL (xs.take k) = (ps, ls))
def MadePostF (w : World) (xs : List Ac) (e : Ending) (w' : World) : Prop :=
 ∃ G M ps ls, e = .returned (.pointer (some ⟨G, 0, none⟩)) ∧ LedM w' G M ps ls ∧ LInv ps ls ∧ w.heap.size ≤ G ∧ w.heap.size ≤ M ∧ Below w.heap.size w w' ∧ actsL xs = (ps, ls)
set_option maxHeartbeats 8000000 in
set_option maxRecDepth 100000 in
theorem made_actsF {w : World} {a : Option Addr} {len cap : Nat} {xs : List Ac} (h : ActsIn w a len cap xs) (hl : len ≤ 120) :
  Calls Try.prog 29 #[.slice a len cap] w (MadePostF w xs) := by
 have HA := Lib.hid h
 have hxl : xs.length = len := h.1
 have hcap := h.2.2.1
 have hmax := h.2.2.2.1
 unfold maxLen at hmax
 clear h
 go_enter Try.func29, Try.ntmps29
 go_wp2_with fail
 refine (new_any w).mono ?_
 rintro e w0 ⟨G, M, rfl, h0, hG, hM, hb0⟩
 have H0 := Lib.hid h0
 have B0 := Lib.hid hb0
 clear h0 hb0
 go_wp2_with fail
 go_loopw [4] (MadeAt w G M len xs) (fun i _ => len - (intOf i).toNat)
 case atStart => exact ⟨0, Nat.zero_le _, rfl, [], [], H0.out, LInv.nil, B0.out, Lib.hid rfl⟩
 case round =>
  obtain ⟨k, hk, rfl, ps, ls, hL, hI, hB, hAct⟩ := hrel
  have HL := Lib.hid hL
  have HI := Lib.hid hI
  have HB := Lib.hid hB
  clear hL hI hB
  by_cases hkl : k < len
  ·obtain ⟨b, off, rfl, hb, d0, d1, d2, d3, d4⟩ := (HA.out.below HB.out).at (i := k) (by omega)
   have hx := HA.out.2.1 xs[k] (List.getElem_mem _)
   have AT := Lib.hid (actsL_next (by omega) hAct.out)
   generalize hxe : xs[k] = x at *
   clear hxe
   obtain ⟨k1, k2⟩ := hx.k
   have bw := (Below.refl wr.heap.size wr).alloc (Nat.le_refl _) (.cells #[.int .u8 x.k, .int .u8 x.a, .int .u8 x.b, .int .u8 x.c, .int .i64 x.n] 107)
   have HW := Lib.hid (HL.out.below bw)
   have BW := Lib.hid (HB.out.trans (bw.mono HB.out.size))
   clear bw
   have hs : x.k % 8 = 0 ∨ x.k % 8 = 1 ∨ x.k % 8 = 2 ∨ x.k % 8 = 3 ∨ x.k % 8 = 4 ∨ x.k % 8 = 5 ∨ x.k % 8 = 6 ∨ x.k % 8 = 7 := by omega
   rcases hs with hj | hj | hj | hj | hj | hj | hj | hj
   ·have AN := Lib.hid (AT.out.trans (show actL x (ps, ls) = (openP ps x.a, ls) by unfold actL; simp [hj]))
    have q1 : x.k % 8 = 0 := hj
    have q2 : x.k.tmod 8 = 0 := by rw [Int.tmod_eq_emod_of_nonneg hx.k.1]; exact hj
    clear hj
    have C := Lib.hid (open_any HW.out HI.out.bd x.a)
    have HI2 := Lib.hid (LInv.open HI.out x.a)
    clear hx
    go_wp2_with fail
    refine C.out.mono ?_
    rintro e w2 ⟨rfl, h2, k2⟩
    have H2 := Lib.hid h2
    have B2 := Lib.hid (BW.out.trans (k2.below BW.out.size (fun b hb e => by omega)))
    clear h2 k2 C
    go_wp2_with fail
    go_roundw
    case rel => exact ⟨k + 1, by omega, by go_num, _, _, H2.out, HI2.out, B2.out, AN⟩
    case measure => simp [intOf]; omega
   ·have AN := Lib.hid (AT.out.trans (show actL x (ps, ls) = (ps, trustL ps ls x.a x.b x.c x.n) by unfold actL; simp [hj]))
    have q1 : x.k % 8 = 1 := hj
    have q2 : x.k.tmod 8 = 1 := by rw [Int.tmod_eq_emod_of_nonneg hx.k.1]; exact hj
    clear hj
    have C := Lib.hid (ptrust_any (a := x.a) (b := x.b) (c := x.c) (n := x.n) HW.out HI.out hx.a hx.b hx.c)
    have HI2 := Lib.hid (LInv.trust HI.out x.a x.b x.c x.n)
    clear hx
    go_wp2_with fail
    refine C.out.mono ?_
    rintro e w2 ⟨rfl, h2, k2⟩
    have H2 := Lib.hid h2
    have B2 := Lib.hid (BW.out.trans (k2.below BW.out.size (fun b hb e => by omega)))
    clear h2 k2 C
    go_wp2_with fail
    go_roundw
    case rel => exact ⟨k + 1, by omega, by go_num, _, _, H2.out, HI2.out, B2.out, AN⟩
    case measure => simp [intOf]; omega
   ·have AN := Lib.hid (AT.out.trans (show actL x (ps, ls) = (ps, trustL ps ls x.a x.b x.c x.n) by unfold actL; simp [hj]))
    have q1 : x.k % 8 = 2 := hj
    have q2 : x.k.tmod 8 = 2 := by rw [Int.tmod_eq_emod_of_nonneg hx.k.1]; exact hj
    clear hj
    have C := Lib.hid (ptrust_any (a := x.a) (b := x.b) (c := x.c) (n := x.n) HW.out HI.out hx.a hx.b hx.c)
    have HI2 := Lib.hid (LInv.trust HI.out x.a x.b x.c x.n)
    clear hx
    go_wp2_with fail
    refine C.out.mono ?_
    rintro e w2 ⟨rfl, h2, k2⟩
    have H2 := Lib.hid h2
    have B2 := Lib.hid (BW.out.trans (k2.below BW.out.size (fun b hb e => by omega)))
    clear h2 k2 C
    go_wp2_with fail
    go_roundw
    case rel => exact ⟨k + 1, by omega, by go_num, _, _, H2.out, HI2.out, B2.out, AN⟩
    case measure => simp [intOf]; omega
   ·have AN := Lib.hid (AT.out.trans (show actL x (ps, ls) = (ps, pushL ps ls x.a x.b x.c x.n) by unfold actL; simp [hj]))
    have q1 : x.k % 8 = 3 := hj
    have q2 : x.k.tmod 8 = 3 := by rw [Int.tmod_eq_emod_of_nonneg hx.k.1]; exact hj
    clear hj
    have C := Lib.hid (ppush_any (a := x.a) (b := x.b) (c := x.c) (n := x.n) HW.out HI.out hx.a hx.b hx.c hx.n)
    have HI2 := Lib.hid (LInv.push HI.out x.a x.b x.c x.n)
    clear hx
    go_wp2_with fail
    refine C.out.mono ?_
    rintro e w2 ⟨rfl, h2, k2⟩
    have H2 := Lib.hid h2
    have B2 := Lib.hid (BW.out.trans (k2.below BW.out.size (fun b hb e => by omega)))
    clear h2 k2 C
    go_wp2_with fail
    go_roundw
    case rel => exact ⟨k + 1, by omega, by go_num, _, _, H2.out, HI2.out, B2.out, AN⟩
    case measure => simp [intOf]; omega
   ·have AN := Lib.hid (AT.out.trans (show actL x (ps, ls) = (ps, pushL ps ls x.a x.b x.c x.n) by unfold actL; simp [hj]))
    have q1 : x.k % 8 = 4 := hj
    have q2 : x.k.tmod 8 = 4 := by rw [Int.tmod_eq_emod_of_nonneg hx.k.1]; exact hj
    clear hj
    have C := Lib.hid (ppush_any (a := x.a) (b := x.b) (c := x.c) (n := x.n) HW.out HI.out hx.a hx.b hx.c hx.n)
    have HI2 := Lib.hid (LInv.push HI.out x.a x.b x.c x.n)
    clear hx
    go_wp2_with fail
    refine C.out.mono ?_
    rintro e w2 ⟨rfl, h2, k2⟩
    have H2 := Lib.hid h2
    have B2 := Lib.hid (BW.out.trans (k2.below BW.out.size (fun b hb e => by omega)))
    clear h2 k2 C
    go_wp2_with fail
    go_roundw
    case rel => exact ⟨k + 1, by omega, by go_num, _, _, H2.out, HI2.out, B2.out, AN⟩
    case measure => simp [intOf]; omega
   ·have AN := Lib.hid (AT.out.trans (show actL x (ps, ls) = (ps, pushL ps ls x.a x.b x.c x.n) by unfold actL; simp [hj]))
    have q1 : x.k % 8 = 5 := hj
    have q2 : x.k.tmod 8 = 5 := by rw [Int.tmod_eq_emod_of_nonneg hx.k.1]; exact hj
    clear hj
    have C := Lib.hid (ppush_any (a := x.a) (b := x.b) (c := x.c) (n := x.n) HW.out HI.out hx.a hx.b hx.c hx.n)
    have HI2 := Lib.hid (LInv.push HI.out x.a x.b x.c x.n)
    clear hx
    go_wp2_with fail
    refine C.out.mono ?_
    rintro e w2 ⟨rfl, h2, k2⟩
    have H2 := Lib.hid h2
    have B2 := Lib.hid (BW.out.trans (k2.below BW.out.size (fun b hb e => by omega)))
    clear h2 k2 C
    go_wp2_with fail
    go_roundw
    case rel => exact ⟨k + 1, by omega, by go_num, _, _, H2.out, HI2.out, B2.out, AN⟩
    case measure => simp [intOf]; omega
   ·have AN := Lib.hid (AT.out.trans (show actL x (ps, ls) = (ps, forgiveL ls x.a x.b x.c x.n) by unfold actL; simp [hj]))
    have q1 : x.k % 8 = 6 := hj
    have q2 : x.k.tmod 8 = 6 := by rw [Int.tmod_eq_emod_of_nonneg hx.k.1]; exact hj
    clear hj
    have C := Lib.hid (forgive_any (a := x.a) (b := x.b) (c := x.c) (n := x.n) HW.out HI.out.inv hx.a hx.b hx.c hx.n)
    have HI2 := Lib.hid (LInv.forgive HI.out x.a x.b x.c x.n)
    clear hx
    go_wp2_with fail
    refine C.out.mono ?_
    rintro e w2 ⟨rfl, h2, k2⟩
    have H2 := Lib.hid h2
    have B2 := Lib.hid (BW.out.trans (k2.below BW.out.size (fun b hb e => by omega)))
    clear h2 k2 C
    go_wp2_with fail
    go_roundw
    case rel => exact ⟨k + 1, by omega, by go_num, _, _, H2.out, HI2.out, B2.out, AN⟩
    case measure => simp [intOf]; omega
   ·have AN := Lib.hid (AT.out.trans (show actL x (ps, ls) = (ps, ls) by unfold actL; simp [hj]))
    have q1 : x.k % 8 = 7 := hj
    have q2 : x.k.tmod 8 = 7 := by rw [Int.tmod_eq_emod_of_nonneg hx.k.1]; exact hj
    clear hj
    clear hx
    go_wp2_with fail
    go_roundw
    case rel => exact ⟨k + 1, by omega, by go_num, ps, ls, HW.out, HI.out, BW.out, AN⟩
    case measure => simp [intOf]; omega
  ·go_wp2_with fail
   refine bodyPost_ret (v := .pointer (some ⟨G, 0, none⟩)) (by simp [results, Try.results29, go_sem]) rfl ?_
   exact ⟨G, M, ps, ls, rfl, HL.out, HI.out, hG, hM, HB.out, by have := hAct.out; rwa [List.take_of_length_le (by omega)] at this⟩
end Go.Proofs.Ytbieomgpfhloeaa
namespace Go.Proofs.Ytbieomgpfhloeaa
open Go.RowKit
def whole (neg : Bool) (f : Nat → Bool) : Array Value := #[Value.bool neg] ++ arr f
attribute [irreducible] whole
end Go.Proofs.Ytbieomgpfhloeaa
namespace Go.Proofs.Ytbieomgpfhloeaa
open Go.RowKit Go.Lib
theorem run_Add64 (x y c : Int) (hx : 0 ≤ x) (hy : 0 ≤ y) (hc0 : 0 ≤ c) (hc : c ≤ 1) (w : World) :
  (callFunc 84 #[.int .u64 x, .int .u64 y, .int .u64 c]).run Try.prog w =
   .ok (.value (.tuple #[.int .u64 ((x + y + c) % 18446744073709551616), .int .u64 ((x + y + c) / 18446744073709551616)])) w := by
 rw [run_callFunc_extern Try.func84 (by kernel_rfl) (by kernel_rfl) (by kernel_rfl) (e := add64Entry) (by kernel_rfl), run_add64 x y c hx hy hc0 hc]
 rfl
theorem maskN (a : Nat) (ha : a < 18446744073709551616) : bits .and .u64 (a : Int) 4294967295 = ((a % 4294967296 : Nat) : Int) := by
 have h := bits_and_u64_nat a 4294967295 ha (by omega)
 have e : a &&& 4294967295 = a % 4294967296 := Nat.and_two_pow_sub_one_eq_mod a 32
 rw [e] at h
 exact h
theorem divN (a : Nat) : (a : Int) / 4294967296 = ((a / 4294967296 : Nat) : Int) := by omega
theorem mulN (a b : Nat) : (a : Int) * (b : Int) = ((a * b : Nat) : Int) := (Int.natCast_mul a b).symm
theorem addN (a b : Nat) : (a : Int) + (b : Int) = ((a + b : Nat) : Int) := (Int.natCast_add a b).symm
theorem wrapN (a : Nat) (ha : a < 18446744073709551616) : IntKind.u64.wrap (a : Int) = (a : Int) := by rw [wrap_u64]; omega
theorem wrapM (a : Nat) : IntKind.u64.wrap (a : Int) = ((a % 18446744073709551616 : Nat) : Int) := by rw [wrap_u64]; omega
set_option maxHeartbeats 1000000 in
theorem mul64_nat (x y : Nat) (hx : x < 18446744073709551616) (hy : y < 18446744073709551616) (w : World) :
  Calls Try.prog 15 #[.int .u64 x, .int .u64 y] w fun e w' =>
   e = .returned (.tuple #[.int .u64 ((x * y / 18446744073709551616 : Nat) : Int), .int .u64 ((x * y % 18446744073709551616 : Nat) : Int)]) ∧ w = w' := by
 obtain ⟨bd, bt, bw, hhi⟩ := Lib.mul64_hi x y hx hy
 have ba := Lib.half_mul_le (a := x / 4294967296) (b := y / 4294967296) (by omega) (by omega)
 have bb := Lib.half_mul_le (a := x / 4294967296) (b := y % 4294967296) (by omega) (by omega)
 have bc := Lib.half_mul_le (a := x % 4294967296) (b := y / 4294967296) (by omega) (by omega)
 have ba' : x / 4294967296 * (y / 4294967296) < 18446744073709551616 := by omega
 have bb' : x / 4294967296 * (y % 4294967296) < 18446744073709551616 := by omega
 have bc' : x % 4294967296 * (y / 4294967296) < 18446744073709551616 := by omega
 have hmul : x * y / 18446744073709551616 < 18446744073709551616 := by
  have := Nat.mul_lt_mul'' hx hy; omega
 generalize ht : x / 4294967296 * (y % 4294967296) + x % 4294967296 * (y % 4294967296) / 4294967296 = t at *
 have Ht := Lib.hid ht; clear ht
 have Hhi := Lib.hid hhi; clear hhi
 go_enter Try.func15, Try.ntmps15
 go_wp2
 simp only [maskN x hx, maskN y hy, divN, mulN, addN, wrapN _ bd, wrapN _ bb', Ht.out, wrapN _ bt, maskN _ bt, wrapN _ bc', wrapN _ bw, wrapN _ ba']
 rw [wrapN _ (show x / 4294967296 * (y / 4294967296) + t / 4294967296 < 18446744073709551616 by have := Hhi.out; omega), addN, wrapN _ (by have := Hhi.out; omega), Hhi.out, wrapM]
 go_ret2
 exact ⟨rfl, rfl⟩
theorem mul64_any (x y : Int) (w : World) (hx : InU64 x) (hy : InU64 y) :
  Calls Try.prog 15 #[.int .u64 x, .int .u64 y] w fun e w' =>
   e = .returned (.tuple #[.int .u64 (x * y / 18446744073709551616), .int .u64 (x * y % 18446744073709551616)]) ∧ w = w' := by
 unfold InU64 at hx hy
 obtain ⟨X, rfl⟩ := Int.eq_ofNat_of_zero_le hx.1
 obtain ⟨Y, rfl⟩ := Int.eq_ofNat_of_zero_le hy.1
 exact mul64_nat X Y (by omega) (by omega) w
end Go.Proofs.Ytbieomgpfhloeaa
namespace Go.Proofs.Ytbieomgpfhloeaa
open Go.RowKit
def LenOf (x n : Nat) : Prop := x < 2 ^ n ∧ (x = 0 ∨ 2 ^ n ≤ 2 * x)
theorem len8_get (j : Int) (h0 : 0 ≤ j) (h1 : j < 256) (hp : j.toNat < Lib.len8tab.size) : (Lib.len8tab[j.toNat].toNat : Int) = Lib.bitLen j.toNat := by
 rw [← Lib.len8_of j h0 (by omega), Lib.len8, getElem?_pos Lib.len8tab j.toNat hp]
 rfl
theorem len_close (x j : Int) (k : Nat) (h0 : 0 ≤ x) (h1 : x ≤ 18446744073709551615) (hj0 : 0 ≤ j) (hj1 : j < 256) (hj : j.toNat = x.toNat / 2 ^ k) (hk : 2 ^ k ≤ x.toNat) (hp : j.toNat < Lib.len8tab.size) :
  wrap64 (k + wrap64 (Lib.len8tab[j.toNat].toNat : Int)) = Lib.bitLen x.toNat := by
 have h8 := Lib.bitLen_le8' j hj0 (by omega)
 have hs := Lib.bitLen_shift k x.toNat hk (by omega)
 have hk64 : k < 64 := by
  rcases Nat.lt_or_ge k 64 with h | h
  ·exact h
  ·have := Nat.pow_le_pow_right (n := 2) (by omega) h; omega
 rw [len8_get j hj0 hj1 hp, hs, ← hj, wrap64_of (Lib.bitLen j.toNat) (by unfold In64; omega), wrap64_of _ (by unfold In64; omega)]
 omega
theorem len_close0 (x : Int) (h0 : 0 ≤ x) (h1 : x < 256) (hp : x.toNat < Lib.len8tab.size) :
  wrap64 (wrap64 (Lib.len8tab[x.toNat].toNat : Int)) = Lib.bitLen x.toNat := by
 have h8 := Lib.bitLen_le8' x h0 (by omega)
 rw [len8_get x h0 h1 hp, wrap64_of (Lib.bitLen x.toNat) (by unfold In64; omega), wrap64_of _ (by unfold In64; omega)]
theorem lenOf_bitLen (x : Nat) (h : x < 2 ^ 64) (h0 : 0 < x) : 1 ≤ Lib.bitLen x ∧ Lib.bitLen x ≤ 64 ∧ LenOf x (Lib.bitLen x) := by
 obtain ⟨h1, h2, h3⟩ := Lib.bitLenAux_bounds 64 x h (by omega)
 have h4 := Lib.bitLen_le x 64 (by omega) h
 unfold Lib.bitLen at *
 refine ⟨h1, h4, h3, .inr ?_⟩
 obtain ⟨n, hn⟩ : ∃ n, Lib.bitLenAux 64 x = n + 1 := ⟨Lib.bitLenAux 64 x - 1, by omega⟩
 rw [hn] at h2 ⊢
 rw [Nat.pow_succ]
 simp only [Nat.add_sub_cancel] at h2
 omega
set_option maxHeartbeats 4000000 in
set_option maxRecDepth 100000 in
theorem len64_any (x : Int) (w : World) (h0 : 0 ≤ x) (h1 : x ≤ 18446744073709551615) :
  Calls Try.prog 90 #[.int .u64 x] w fun e w' => e = .returned (.int .i64 (Lib.bitLen x.toNat)) ∧ w = w' := by
 have hsz : (Lib.len8tab.size : Int) = 256 := by rw [Lib.len8tab_size]; rfl
 go_enter Try.func90, Try.ntmps90
 go_wp2
 all_goals (go_ret; refine ⟨congrArg Ending.returned (congrArg (Value.int IntKind.i64) ?_), rfl⟩)
 ·exact len_close x _ 56 h0 h1 (by omega) (by omega) (by omega) (by omega) _
 ·exact len_close x _ 48 h0 h1 (by omega) (by omega) (by omega) (by omega) _
 ·exact len_close x _ 40 h0 h1 (by omega) (by omega) (by omega) (by omega) _
 ·exact len_close x _ 32 h0 h1 (by omega) (by omega) (by omega) (by omega) _
 ·exact len_close x _ 24 h0 h1 (by omega) (by omega) (by omega) (by omega) _
 ·exact len_close x _ 16 h0 h1 (by omega) (by omega) (by omega) (by omega) _
 ·exact len_close x _ 8 h0 h1 (by omega) (by omega) (by omega) (by omega) _
 ·exact len_close0 x h0 (by omega) _
theorem lz64_any (x : Int) (w : World) (h0 : 0 < x) (h1 : x ≤ 18446744073709551615) :
  Calls Try.prog 83 #[.int .u64 x] w fun e w' => e = .returned (.int .i64 (64 - (Lib.bitLen x.toNat : Int))) ∧ w = w' := by
 have hb := (lenOf_bitLen x.toNat (by omega) (by omega)).2.1
 go_enter Try.func83, Try.ntmps83
 go_wp2_with fail
 refine (len64_any x _ (by omega) h1).mono ?_
 rintro e w' ⟨rfl, rfl⟩
 go_wp2
 go_ret
 exact ⟨rfl, rfl⟩
structure Guess (Y yn1 yn0 u d q r : Nat) : Prop where
 le : (u * 4294967296 + d) / Y ≤ q
 hi : q ≤ 4294967297
 rem : q * yn1 + r = u
 small : r < 4294967296
structure Digits (Y yn1 yn0 u d : Nat) : Prop where
 y : Y = yn1 * 4294967296 + yn0
 y1 : 2147483648 ≤ yn1
 y1' : yn1 < 4294967296
 y0 : yn0 < 4294967296
 u : u < Y
 d : d < 4294967296
theorem Guess.start {Y yn1 yn0 u d : Nat} (D : Digits Y yn1 yn0 u d) : Guess Y yn1 yn0 u d (u / yn1) (u % yn1) := by
 obtain ⟨hy, h1, h1', h0, hu, hd⟩ := D
 have e1 : (u * 4294967296 + d) / Y ≤ (u * 4294967296 + d) / (4294967296 * yn1) := Nat.div_le_div_left (by omega) (by omega)
 have e2 : (u * 4294967296 + d) / (4294967296 * yn1) = u / yn1 := by rw [← Nat.div_div_eq_div_mul]; congr 1; omega
 refine ⟨by omega, ?_, by rw [Nat.mul_comm]; exact Nat.div_add_mod u yn1, by have := Nat.mod_lt u (show 0 < yn1 by omega); omega⟩
 have : u / yn1 < 4294967298 := by rw [Nat.div_lt_iff_lt_mul (by omega)]; omega
 omega
theorem Guess.mulY {Y yn1 yn0 u d q r : Nat} (D : Digits Y yn1 yn0 u d) (G : Guess Y yn1 yn0 u d q r) : q * Y + r * 4294967296 = u * 4294967296 + q * yn0 := by
 have h := G.rem
 rw [D.y, Nat.mul_add, ← Nat.mul_assoc, ← h]
 generalize q * yn1 = a
 omega
theorem Guess.done {Y yn1 yn0 u d q r : Nat} (D : Digits Y yn1 yn0 u d) (G : Guess Y yn1 yn0 u d q r) (h : q * yn0 ≤ 4294967296 * r + d) : q = (u * 4294967296 + d) / Y := by
 have h1 := G.mulY D
 have h2 : q ≤ (u * 4294967296 + d) / Y := by rw [Nat.le_div_iff_mul_le (by have := D.u; omega)]; omega
 have := G.le
 omega
theorem quot_lt {Y yn1 yn0 u d : Nat} (D : Digits Y yn1 yn0 u d) : (u * 4294967296 + d) / Y < 4294967296 := by
 obtain ⟨hy, h1, h1', h0, hu, hd⟩ := D
 rw [Nat.div_lt_iff_lt_mul (by omega)]
 omega
theorem Guess.step {Y yn1 yn0 u d q r : Nat} (D : Digits Y yn1 yn0 u d) (G : Guess Y yn1 yn0 u d q r) (h : 4294967296 ≤ q ∨ 4294967296 * r + d < q * yn0) :
  1 ≤ q ∧ (u * 4294967296 + d) / Y ≤ q - 1 ∧ (q - 1) * yn1 + (r + yn1) = u ∧ q - 1 ≤ 4294967296 := by
 have h1 := G.mulY D
 have hl := quot_lt D
 have hq : 1 ≤ q := by
  rcases Nat.eq_zero_or_pos q with rfl | h0
  ·rcases h with h | h
   ·omega
   ·simp at h
  ·exact h0
 have hlt : (u * 4294967296 + d) / Y < q := by
  rcases h with h | h
  ·omega
  ·rw [Nat.div_lt_iff_lt_mul (by have := D.u; omega)]; omega
 have hr := G.rem
 obtain ⟨p, rfl⟩ : ∃ p, q = p + 1 := ⟨q - 1, by omega⟩
 simp only [Nat.add_sub_cancel]
 rw [Nat.add_mul] at hr
 exact ⟨hq, by omega, by omega, by have := G.hi; omega⟩
theorem Guess.break {Y yn1 yn0 u d q r : Nat} (D : Digits Y yn1 yn0 u d) (h1 : (u * 4294967296 + d) / Y ≤ q) (h2 : q * yn1 + r = u) (h3 : q ≤ 4294967296) (h4 : 4294967296 ≤ r) : q = (u * 4294967296 + d) / Y := by
 have h0 := D.y0
 have h5 : q * Y + r * 4294967296 = u * 4294967296 + q * yn0 := by
  rw [D.y, Nat.mul_add, ← Nat.mul_assoc, ← h2]
  generalize q * yn1 = a
  omega
 have h6 : q * yn0 ≤ 4294967296 * 4294967295 := Nat.mul_le_mul h3 (by omega)
 have h7 : q ≤ (u * 4294967296 + d) / Y := by rw [Nat.le_div_iff_mul_le (by have := D.u; omega)]; omega
 omega
def GuessAt (Y yn1 yn0 u d : Nat) (a b : Value) : Prop := ∃ q r : Nat, a = .int .u64 q ∧ b = .int .u64 r ∧ Guess Y yn1 yn0 u d q r
theorem guess_q {u n : Nat} (hu : u < 18446744073709551616) (hn : 0 < n) : IntKind.u64.wrap ((u : Int) / (n : Int)) = ((u / n : Nat) : Int) := by
 have : u / n ≤ u := Nat.div_le_self u n
 rw [← Int.natCast_ediv, wrap_u64]
 generalize u / n = k at *
 omega
theorem guess_r {u n : Nat} (hu : u < 18446744073709551616) : IntKind.u64.wrap ((u : Int) - IntKind.u64.wrap (((u / n : Nat) : Int) * (n : Int))) = ((u % n : Nat) : Int) := by
 have h := Nat.div_add_mod u n
 rw [Nat.mul_comm] at h
 rw [← Int.natCast_mul, wrap_u64, wrap_u64]
 generalize u / n * n = p at *
 omega
theorem mul_small {a b : Nat} (ha : a < 4294967296) (hb : b < 4294967296) : IntKind.u64.wrap ((a : Int) * (b : Int)) = ((a * b : Nat) : Int) := by
 have h : a * b ≤ 4294967295 * 4294967295 := Nat.mul_le_mul (by omega) (by omega)
 rw [← Int.natCast_mul, wrap_u64]
 generalize a * b = p at *
 omega
theorem div_rest {u d Y : Nat} (hY : 0 < Y ∧ Y < 18446744073709551616) (hd : d < 4294967296) :
  IntKind.u64.wrap (IntKind.u64.wrap (IntKind.u64.wrap ((u : Int) * 4294967296) + (d : Int)) - IntKind.u64.wrap ((((u * 4294967296 + d) / Y : Nat) : Int) * (Y : Int))) = (((u * 4294967296 + d) % Y : Nat) : Int) := by
 have h := Nat.div_add_mod (u * 4294967296 + d) Y
 have hm := Nat.mod_lt (u * 4294967296 + d) hY.1
 rw [Nat.mul_comm Y] at h
 rw [← Int.natCast_mul]
 simp only [wrap_u64]
 generalize (u * 4294967296 + d) / Y * Y = p at *
 generalize (u * 4294967296 + d) % Y = m at *
 omega
set_option maxHeartbeats 2000000 in
set_option maxRecDepth 100000 in
theorem div64_loops (hi lo y : Nat) (w : World) (hh : 0 < hi) (hy : hi < y) (hy2 : y < 18446744073709551616) (hlo : lo < 18446744073709551616)
  (s Y yn1 yn0 u L d1 d0 : Nat) (hs' : Hid (64 - (Lib.bitLen y : Int) = s)) (hs2 : s ≤ 63)
  (r1 : IntKind.u64.wrap ((y : Int) * 2 ^ s) = (Y : Int)) (r2 : (Y : Int) / 4294967296 = (yn1 : Int)) (r3 : bits .and .u64 (Y : Int) 4294967295 = (yn0 : Int))
  (r4 : bits .or .u64 (IntKind.u64.wrap ((hi : Int) * 2 ^ s)) ((lo : Int) / 2 ^ (64 - s)) = (u : Int)) (r5 : IntKind.u64.wrap ((lo : Int) * 2 ^ s) = (L : Int))
  (r6 : (L : Int) / 4294967296 = (d1 : Int)) (r7 : bits .and .u64 (L : Int) 4294967295 = (d0 : Int))
  (D1 : Hid (Digits Y yn1 yn0 u d1)) (D0 : Hid (∀ u', u' < Y → Digits Y yn1 yn0 u' d0))
  (hY : Y < 18446744073709551616) (hY0 : 9223372036854775808 ≤ Y) (hu : u < Y) (hyn1 : 2147483648 ≤ yn1) (hyn1' : yn1 < 4294967296) (hyn0 : yn0 < 4294967296) (hd1 : d1 < 4294967296) (hd0 : d0 < 4294967296) :
  Calls Try.prog 69 #[.int .u64 hi, .int .u64 lo, .int .u64 y] w fun e w' =>
   e = .returned (.tuple #[.int .u64 ((((u * 4294967296 + d1) / Y : Nat) : Int) * 4294967296 + ((((u * 4294967296 + d1) % Y * 4294967296 + d0) / Y : Nat) : Int)), .int .u64 (((((u * 4294967296 + d1) % Y * 4294967296 + d0) % Y : Nat) : Int) / 2 ^ s)]) ∧ w = w' := by
 go_enter Try.func69, Try.ntmps69
 go_wp2_with fail
 refine (lz64_any y _ (by omega) (by omega)).mono ?_
 rw [Int.toNat_natCast, hs'.out]
 rintro e w' ⟨rfl, rfl⟩
 have e15 : IntKind.u64.wrap ((u : Int) / (yn1 : Int)) = ((u / yn1 : Nat) : Int) := guess_q (by omega) (by omega)
 have e16 : IntKind.u64.wrap ((u : Int) - IntKind.u64.wrap (((u / yn1 : Nat) : Int) * (yn1 : Int))) = ((u % yn1 : Nat) : Int) := guess_r (by omega)
 have G0 := Lib.hid (Guess.start D1.out)
 generalize u / yn1 = q0 at e15 e16 G0
 generalize u % yn1 = r0 at e16 G0
 go_upto_block 0 with fail
 go_cut [15, 16] (fun a _ w' => a = .int .u64 (((u * 4294967296 + d1) / Y : Nat) : Int) ∧ w = w')
 case first =>
  go_wp2_with fail
  go_loop [15, 16] (GuessAt Y yn1 yn0 u d1) (fun a _ => (intOf a).toNat)
  case atStart => exact ⟨q0, r0, rfl, rfl, G0.out⟩
  case round =>
   obtain ⟨q, r, rfl, rfl, G⟩ := hrel
   have h1 := G.hi
   have h2 := G.small
   have hg := Lib.hid G
   clear G
   by_cases hq : (4294967296 : Int) ≤ (q : Int)
   ·have st := Lib.hid (Guess.step D1.out hg.out (.inl (by omega)))
    have h1q : (1 : Int) ≤ q := by have := st.out.1; omega
    by_cases hr : (4294967296 : Int) ≤ (r : Int) + (yn1 : Int)
    ·go_wp2
     go_meet
     case rel => exact ⟨by rw [← Guess.break D1.out st.out.2.1 st.out.2.2.1 st.out.2.2.2 (by omega)]; congr 1; omega, rfl⟩
    ·go_wp2
     go_round
     case rel => exact ⟨q - 1, r + yn1, by congr 1; omega, by congr 1, ⟨st.out.2.1, by omega, st.out.2.2.1, by omega⟩⟩
     case measure => simp [intOf]; omega
   ·have n1 : IntKind.u64.wrap ((q : Int) * (yn0 : Int)) = ((q * yn0 : Nat) : Int) := mul_small (by omega) hyn0
    by_cases ht : 4294967296 * r + d1 < q * yn0
    ·have st := Lib.hid (Guess.step D1.out hg.out (.inr ht))
     have h1q : (1 : Int) ≤ q := by have := st.out.1; omega
     have ht' : 4294967296 * (r : Int) + (d1 : Int) < ((q * yn0 : Nat) : Int) := by omega
     clear ht
     generalize q * yn0 = p at *
     by_cases hr : (4294967296 : Int) ≤ (r : Int) + (yn1 : Int)
     ·go_wp2
      go_meet
      case rel => exact ⟨by rw [← Guess.break D1.out st.out.2.1 st.out.2.2.1 st.out.2.2.2 (by omega)]; congr 1; omega, rfl⟩
     ·go_wp2
      go_round
      case rel => exact ⟨q - 1, r + yn1, by congr 1; omega, by congr 1, ⟨st.out.2.1, by omega, st.out.2.2.1, by omega⟩⟩
      case measure => simp [intOf]; omega
    ·have he := Lib.hid (Guess.done D1.out hg.out (by omega))
     have ht' : ((q * yn0 : Nat) : Int) ≤ 4294967296 * (r : Int) + (d1 : Int) := by omega
     clear ht
     generalize q * yn0 = p at *
     go_wp2
     go_meet
     case rel => exact ⟨by rw [← he.out], rfl⟩
 case rest =>
  obtain ⟨rfl, rfl⟩ := hcut
  have e17 := div_rest (u := u) (d := d1) (Y := Y) (by omega) hd1
  have hql : (u * 4294967296 + d1) / Y < 4294967296 := quot_lt D1.out
  have hu2 : (u * 4294967296 + d1) % Y < Y := Nat.mod_lt _ (by omega)
  have D2 := Lib.hid (D0.out _ hu2)
  generalize k1 : (u * 4294967296 + d1) / Y = Q1 at *
  generalize k2 : (u * 4294967296 + d1) % Y = v at *
  have K1 := Lib.hid k1
  have K2 := Lib.hid k2
  clear k1 k2
  have e15 : IntKind.u64.wrap ((v : Int) / (yn1 : Int)) = ((v / yn1 : Nat) : Int) := guess_q (by omega) (by omega)
  have e16 : IntKind.u64.wrap ((v : Int) - IntKind.u64.wrap (((v / yn1 : Nat) : Int) * (yn1 : Int))) = ((v % yn1 : Nat) : Int) := guess_r (by omega)
  have G0 := Lib.hid (Guess.start D2.out)
  generalize v / yn1 = q0 at e15 e16 G0
  generalize v % yn1 = r0 at e16 G0
  go_upto_block 2 with fail
  go_cut [16, 18] (fun _ a w' => a = .int .u64 (((v * 4294967296 + d0) / Y : Nat) : Int) ∧ w = w')
  case first =>
   go_wp2_with fail
   go_loop [18, 16] (GuessAt Y yn1 yn0 v d0) (fun a _ => (intOf a).toNat)
   case atStart => exact ⟨q0, r0, rfl, rfl, G0.out⟩
   case round =>
    obtain ⟨q, r, rfl, rfl, G⟩ := hrel
    have h1 := G.hi
    have h2 := G.small
    have hg := Lib.hid G
    clear G
    by_cases hq : (4294967296 : Int) ≤ (q : Int)
    ·have st := Lib.hid (Guess.step D2.out hg.out (.inl (by omega)))
     have h1q : (1 : Int) ≤ q := by have := st.out.1; omega
     by_cases hr : (4294967296 : Int) ≤ (r : Int) + (yn1 : Int)
     ·go_wp2
      go_meet
      case rel => exact ⟨by rw [← Guess.break D2.out st.out.2.1 st.out.2.2.1 st.out.2.2.2 (by omega)]; congr 1; omega, rfl⟩
     ·go_wp2
      go_round
      case rel => exact ⟨q - 1, r + yn1, by congr 1; omega, by congr 1, ⟨st.out.2.1, by omega, st.out.2.2.1, by omega⟩⟩
      case measure => simp [intOf]; omega
    ·have n1 : IntKind.u64.wrap ((q : Int) * (yn0 : Int)) = ((q * yn0 : Nat) : Int) := mul_small (by omega) hyn0
     by_cases ht : 4294967296 * r + d0 < q * yn0
     ·have st := Lib.hid (Guess.step D2.out hg.out (.inr ht))
      have h1q : (1 : Int) ≤ q := by have := st.out.1; omega
      have ht' : 4294967296 * (r : Int) + (d0 : Int) < ((q * yn0 : Nat) : Int) := by omega
      clear ht
      generalize q * yn0 = p at *
      by_cases hr : (4294967296 : Int) ≤ (r : Int) + (yn1 : Int)
      ·go_wp2
       go_meet
       case rel => exact ⟨by rw [← Guess.break D2.out st.out.2.1 st.out.2.2.1 st.out.2.2.2 (by omega)]; congr 1; omega, rfl⟩
      ·go_wp2
       go_round
       case rel => exact ⟨q - 1, r + yn1, by congr 1; omega, by congr 1, ⟨st.out.2.1, by omega, st.out.2.2.1, by omega⟩⟩
       case measure => simp [intOf]; omega
     ·have he := Lib.hid (Guess.done D2.out hg.out (by omega))
      have ht' : ((q * yn0 : Nat) : Int) ≤ 4294967296 * (r : Int) + (d0 : Int) := by omega
      clear ht
      generalize q * yn0 = p at *
      go_wp2
      go_meet
      case rel => exact ⟨by rw [← he.out], rfl⟩
  case rest =>
   obtain ⟨rfl, rfl⟩ := hcut
   have e18 := div_rest (u := v) (d := d0) (Y := Y) (by omega) hd0
   have hql2 : (v * 4294967296 + d0) / Y < 4294967296 := quot_lt D2.out
   have hv2 : (v * 4294967296 + d0) % Y < Y := Nat.mod_lt _ (by omega)
   generalize k3 : (v * 4294967296 + d0) / Y = Q0 at e18 hql2 ⊢
   generalize k4 : (v * 4294967296 + d0) % Y = z at e18 hv2
   have K3 := Lib.hid k3
   have K4 := Lib.hid k4
   clear k3 k4
   go_wp2
   go_ret2
   refine ⟨?_, rfl⟩
   simp only [Array.getD_eq_getD_getElem?, List.getElem?_toArray, List.getElem?_cons_succ, List.getElem?_cons_zero, Option.getD_some]
   simp only [K1.out, K2.out, K3.out, K4.out]
theorem shl_or {hi lo s : Nat} (hs : s ≤ 63) (hh : hi * 2 ^ s < 18446744073709551616) (hlo : lo < 18446744073709551616) :
  bits .or .u64 (IntKind.u64.wrap ((hi : Int) * 2 ^ s)) ((lo : Int) / 2 ^ (64 - s)) = ((hi * 2 ^ s + lo / 2 ^ (64 - s) : Nat) : Int) := by
 have e1 : IntKind.u64.wrap ((hi : Int) * 2 ^ s) = ((hi * 2 ^ s : Nat) : Int) := by
  rw [show ((hi : Int) * 2 ^ s) = ((hi * 2 ^ s : Nat) : Int) by simp, wrap_u64]; omega
 have hp : (2 : Nat) ^ s * 2 ^ (64 - s) = 18446744073709551616 := by rw [← Nat.pow_add, show s + (64 - s) = 64 by omega]
 have hl : lo / 2 ^ (64 - s) < 2 ^ s := by rw [Nat.div_lt_iff_lt_mul (Nat.two_pow_pos _)]; omega
 have e2 : ((lo : Int) / 2 ^ (64 - s)) = ((lo / 2 ^ (64 - s) : Nat) : Int) := by simp
 have hl2 : lo / 2 ^ (64 - s) ≤ lo := Nat.div_le_self _ _
 rw [e1, e2, bits_or_u64_nat _ _ hh (by omega), Nat.mul_comm, ← Nat.two_pow_add_eq_or_of_lt hl]
set_option maxHeartbeats 1000000 in
theorem div64_zero (lo y : Nat) (w : World) (hy : 0 < y) (hy2 : y < 18446744073709551616) (hlo : lo < 18446744073709551616) :
  Calls Try.prog 69 #[.int .u64 0, .int .u64 lo, .int .u64 y] w fun e w' =>
   e = .returned (.tuple #[.int .u64 ((lo / y : Nat) : Int), .int .u64 ((lo % y : Nat) : Int)]) ∧ Below w.heap.size w w' := by
 have n1 : IntKind.u64.wrap ((lo : Int) / (y : Int)) = ((lo / y : Nat) : Int) := guess_q (by omega) (by omega)
 have n2 : IntKind.u64.wrap ((lo : Int) % (y : Int)) = ((lo % y : Nat) : Int) := by
  have := Nat.mod_le lo y
  rw [← Int.natCast_emod, wrap_u64]
  generalize lo % y = k at *
  omega
 go_enter Try.func69, Try.ntmps69
 go_wp2
 go_quiet (fail)
 go_wp2
 go_ret2
 exact ⟨rfl, below_drewN (Below.refl _ _) _⟩
theorem two_digits (a d Y : Nat) (hY : 0 < Y) :
  (a * 4294967296 + d) / Y = a / Y * 4294967296 + (a % Y * 4294967296 + d) / Y ∧ (a * 4294967296 + d) % Y = (a % Y * 4294967296 + d) % Y := by
 have h : a * 4294967296 + d = Y * (a / Y * 4294967296) + (a % Y * 4294967296 + d) := by
  have := Nat.div_add_mod a Y
  rw [← Nat.mul_assoc]
  generalize Y * (a / Y) = p at *
  omega
 constructor
 ·rw [h, Nat.mul_add_div hY]
 ·rw [h, Nat.mul_add_mod]
theorem four_digits (u L N : Nat) (h : u * 18446744073709551616 + L = N) : (u * 4294967296 + L / 4294967296) * 4294967296 + L % 4294967296 = N := by
 have h2 := Nat.div_add_mod L 4294967296
 generalize L / 4294967296 = p at *
 generalize L % 4294967296 = q at *
 rw [Nat.add_mul, Nat.mul_assoc, ← h, ← h2, Nat.mul_comm p]
 simp only [Nat.reduceMul, Nat.add_assoc]
theorem shl_digits (hi lo s : Nat) (hs : s ≤ 63) :
  (hi * 2 ^ s + lo / 2 ^ (64 - s)) * 18446744073709551616 + lo * 2 ^ s % 18446744073709551616 = (hi * 18446744073709551616 + lo) * 2 ^ s := by
 have hp : (2 : Nat) ^ (64 - s) * 2 ^ s = 18446744073709551616 := by rw [← Nat.pow_add, show 64 - s + s = 64 by omega]
 have e : lo / 2 ^ (64 - s) = lo * 2 ^ s / 18446744073709551616 := by rw [← hp, Nat.mul_div_mul_right _ _ (Nat.two_pow_pos s)]
 have h := Nat.div_add_mod (lo * 2 ^ s) 18446744073709551616
 rw [e, Nat.add_mul, Nat.add_mul, Nat.mul_right_comm hi]
 generalize hi * 2 ^ s = p at *
 generalize lo * 2 ^ s = q at *
 omega
theorem div64_pos (hi lo y : Nat) (w : World) (hh : 0 < hi) (hy : hi < y) (hy2 : y < 18446744073709551616) (hlo : lo < 18446744073709551616) :
  Calls Try.prog 69 #[.int .u64 hi, .int .u64 lo, .int .u64 y] w fun e w' =>
   e = .returned (.tuple #[.int .u64 (((hi * 18446744073709551616 + lo) / y : Nat) : Int), .int .u64 (((hi * 18446744073709551616 + lo) % y : Nat) : Int)]) ∧ w = w' := by
 obtain ⟨b1, b2, b3, b4⟩ := lenOf_bitLen y (by omega) (by omega)
 obtain ⟨s, hs, hs2, hs3⟩ : ∃ s : Nat, 64 - (Lib.bitLen y : Int) = s ∧ s ≤ 63 ∧ Lib.bitLen y + s = 64 := ⟨64 - Lib.bitLen y, by omega, by omega, by omega⟩
 have hp := Nat.two_pow_pos s
 have p1 : y * 2 ^ s < 18446744073709551616 := by
  have h := Nat.mul_lt_mul_of_pos_right b3 hp
  rw [← Nat.pow_add, hs3] at h; exact h
 have p2 : 9223372036854775808 ≤ y * 2 ^ s := by
  have h := Nat.mul_le_mul_right (2 ^ s) (b4.resolve_left (by omega))
  rw [← Nat.pow_add, hs3, Nat.mul_assoc] at h
  generalize y * 2 ^ s = p at *
  omega
 have p3 : hi * 2 ^ s + 2 ^ s ≤ y * 2 ^ s := by
  have := Nat.mul_le_mul_right (2 ^ s) hy
  rw [Nat.succ_mul] at this; exact this
 have hp2 : (2 : Nat) ^ (64 - s) * 2 ^ s = 18446744073709551616 := by rw [← Nat.pow_add, show 64 - s + s = 64 by omega]
 have hl : lo / 2 ^ (64 - s) < 2 ^ s := by rw [Nat.div_lt_iff_lt_mul (Nat.two_pow_pos _), Nat.mul_comm]; omega
 have r4 := shl_or (hi := hi) (lo := lo) hs2 (by omega) hlo
 have hdig := shl_digits hi lo s hs2
 have e1 : (y : Int) * 2 ^ s = ((y * 2 ^ s : Nat) : Int) := by simp
 have e5 : (lo : Int) * 2 ^ s = ((lo * 2 ^ s : Nat) : Int) := by simp
 have hc := div64_loops hi lo y w hh hy hy2 hlo s (y * 2 ^ s) (y * 2 ^ s / 4294967296) (y * 2 ^ s % 4294967296) (hi * 2 ^ s + lo / 2 ^ (64 - s)) (lo * 2 ^ s % 18446744073709551616)
  (lo * 2 ^ s % 18446744073709551616 / 4294967296) (lo * 2 ^ s % 18446744073709551616 % 4294967296) (Lib.hid hs) hs2
  (by rw [e1, wrap_u64]; omega) (by omega) (maskN _ p1) r4 (by rw [e5, wrap_u64]; omega) (by omega) (maskN _ (by omega))
  (Lib.hid ⟨by omega, by omega, by omega, by omega, by omega, by omega⟩) (Lib.hid (fun u' hu' => ⟨by omega, by omega, by omega, by omega, hu', by omega⟩))
  p1 p2 (by omega) (by omega) (by omega) (by omega) (by omega) (by omega)
 refine hc.mono ?_
 rintro e w' ⟨rfl, rfl⟩
 refine ⟨?_, rfl⟩
 have hN : ((hi * 2 ^ s + lo / 2 ^ (64 - s)) * 4294967296 + lo * 2 ^ s % 18446744073709551616 / 4294967296) * 4294967296 + lo * 2 ^ s % 18446744073709551616 % 4294967296 = (hi * 18446744073709551616 + lo) * 2 ^ s := four_digits _ _ _ hdig
 obtain ⟨t1, t2⟩ := two_digits ((hi * 2 ^ s + lo / 2 ^ (64 - s)) * 4294967296 + lo * 2 ^ s % 18446744073709551616 / 4294967296) (lo * 2 ^ s % 18446744073709551616 % 4294967296) (y * 2 ^ s) (by omega)
 rw [hN, Nat.mul_div_mul_right _ _ hp] at t1
 rw [hN, Nat.mul_mod_mul_right] at t2
 rw [← t2, t1]
 have e6 : (((hi * 18446744073709551616 + lo) % y * 2 ^ s : Nat) : Int) / 2 ^ s = (((hi * 18446744073709551616 + lo) % y : Nat) : Int) := by
  rw [show ((2 : Int) ^ s) = ((2 ^ s : Nat) : Int) by simp, ← Int.natCast_ediv, Nat.mul_div_cancel _ hp]
 rw [e6]
 simp only [Int.natCast_add, Int.natCast_mul]
 rfl
theorem div64_any (hi lo y : Int) (w : World) (hh : 0 ≤ hi) (hy : hi < y) (hy2 : y < 18446744073709551616) (hlo : InU64 lo) :
  Calls Try.prog 69 #[.int .u64 hi, .int .u64 lo, .int .u64 y] w fun e w' =>
   e = .returned (.tuple #[.int .u64 ((hi * 18446744073709551616 + lo) / y), .int .u64 ((hi * 18446744073709551616 + lo) % y)]) ∧ Below w.heap.size w w' := by
 unfold InU64 at hlo
 obtain ⟨H, rfl⟩ := Int.eq_ofNat_of_zero_le hh
 obtain ⟨L, rfl⟩ := Int.eq_ofNat_of_zero_le hlo.1
 obtain ⟨Y, rfl⟩ := Int.eq_ofNat_of_zero_le (show 0 ≤ y by omega)
 rcases Nat.eq_zero_or_pos H with rfl | hH
 ·refine (div64_zero L Y w (by omega) (by omega) (by omega)).mono ?_
  rintro e w' ⟨rfl, hb⟩
  refine ⟨?_, hb⟩
  simp
 ·refine (div64_pos H L Y w hH (by omega) (by omega) (by omega)).mono ?_
  rintro e w' ⟨rfl, rfl⟩
  refine ⟨?_, Below.refl _ _⟩
  simp
end Go.Proofs.Ytbieomgpfhloeaa
