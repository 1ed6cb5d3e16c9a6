/-
  Package flows: room (as much as each edge of a way has), ways (what it captures).
-/
import Derived.Test.YtgebplplpenabaaFlowProg
import Derived.Test.YtgebplplpenabaaPShort
namespace Go.Proofs.Ytgebplplpenabaa
open Go.RowKit
set_option linter.unusedSimpArgs false
set_option linter.unusedVariables false

theorem capX_min (f : Int → Int → Int) (x : Nat → Int) (a b : Int) : ∀ m, capX f x (min a b) m = min (capX f x a m) b
  | 0 => rfl
  | m + 1 => by
    rw [capX_stop, capX_stop, capX_min f x a b m]
    omega

def RoomAt (w : World) (f : Int → Int → Int) (x : Nat → Int) (m : Nat) (l i : Value) (wr : World) : Prop :=
  ∃ j : Nat, j ≤ m ∧ i = .int .i64 j ∧ l = .int .i64 (capX f x 9223372036854775807 j) ∧ wr = w
set_option maxHeartbeats 8000000 in
set_option maxRecDepth 100000 in
theorem room_any {w : World} {v : Value} {f : Int → Int → Int} {bl m N : Nat} {cs : Array Value} {x : Nat → Int} (hv : IsM w v f) (hI : GInv f 4398046511104) (hk : Blk w bl cs 23)
    (hx : ∀ i, i ≤ m → cs[i]? = some (.int .u8 (x i))) (hm : 1 ≤ m) (hm15 : m ≤ 15) (hN : N = m + 1) :
    Calls Try.prog 24 #[v, .slice (some ⟨bl, 0, none⟩) N N] w fun e w' => e = .returned (.int .i64 (capX f x 9223372036854775807 m)) ∧ w = w' := by
  have HV := Lib.hid hv.isG
  have HI := Lib.hid hI
  have HX := Lib.hid hx
  have HK := Lib.hid hk
  have hlt := hk.lt
  have hr := run_next (P := Try.prog) w 68 23 Try.underlying68 (Try.sizeOf23 w) bl 0 N N (by omega) (Nat.le_refl _)
  rw [show nextA bl 0 N = ⟨bl, 1, none⟩ by unfold nextA; rw [if_neg (by omega)]] at hr
  have hN1 : N - 1 = m := by omega
  rw [hN1] at hr
  have HN := Lib.hid hN
  have NE := Lib.hid hN1
  clear hv hI hx hk hN hN1
  go_enter Try.func24, Try.ntmps24
  go_wp2_with fail
  go_loopw [5, 11] (RoomAt w f x m) (fun _ i _ => m - (intOf i).toNat)
  case atStart => exact ⟨0, by omega, rfl, rfl, rfl⟩
  case round =>
    obtain ⟨j, hj, rfl, rfl, rfl⟩ := hrel
    clear hr
    by_cases hjm : j < m
    · have q0 : decide ((j : Int) < (m : Int)) = true := by simp; omega
      have i0 : (0 : Int) ≤ (j : Int) := by omega
      have i1 : (j : Int) < (m : Int) := by omega
      have i2 : (j : Int) < (N : Int) := by have := HN.out; omega
      have e0 := (HK.out.cell j).trans (HX.out j (by omega))
      have e1 := (HK.out.cell (1 + j)).trans (HX.out (1 + j) (by omega))
      rw [show x (1 + j) = x (j + 1) by rw [Nat.add_comm]] at e1
      have CP := Lib.hid (gcapI HV.out HI.out.outF (x j) (x (j + 1)))
      have NX := Lib.hid (capX_stop f x 9223372036854775807 j)
      generalize capX f x 9223372036854775807 j = y at *
      generalize hz : f (x j) (x (j + 1)) = z at *
      generalize x j = u at *
      generalize x (j + 1) = v at *
      clear hz
      go_wp2_with fail
      refine CP.out.mono ?_
      rintro e w1 ⟨rfl, rfl⟩
      rcases Int.lt_or_le z y with hc | hc
      · rw [Int.min_eq_right (by omega)] at NX
        go_wp2_with fail
        go_roundw
        case rel => exact ⟨j + 1, by omega, by go_num, by rw [NX.out], rfl⟩
        case measure => simp [intOf]; omega
      · rw [Int.min_eq_left (by omega)] at NX
        go_wp2_with fail
        go_roundw
        case rel => exact ⟨j + 1, by omega, by go_num, by rw [NX.out], rfl⟩
        case measure => simp [intOf]; omega
    · have hjm2 : j = m := by omega
      subst hjm2
      have q0 : decide ((j : Int) < (j : Int)) = false := by simp
      go_wp2_with fail
      go_ret
      exact ⟨rfl, rfl⟩

end Go.Proofs.Ytgebplplpenabaa
