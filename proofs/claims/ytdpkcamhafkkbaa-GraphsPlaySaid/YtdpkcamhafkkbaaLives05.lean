/-
  Layer 5's examples.
-/
import Derived.Test.YtdpkcamhafkkbaaPGrN
import Derived.Test.YtdpkcamhafkkbaaPGrE
namespace Go.Proofs.Ytdpkcamhafkkbaa
open Go.RowKit
set_option linter.unusedSimpArgs false
set_option linter.unusedVariables false

/-- A list that is told, opened. -/
theorem rowed_shape {w : World} {base : Nat} {e : TypeId} {size : Nat} {v : Value} {n : Nat} {xs : List Value} (h : Rowed w base e size v n xs) :
    ∃ (ao : Option Addr), v = .slice ao n n ∧ (0 < n → ∃ g, ao = some ⟨g, 0, none⟩ ∧ base ≤ g ∧ g < w.heap.size ∧ ∀ j, j < n * size → w.cell? ⟨g, j, none⟩ = xs[j]?) := by
  obtain ⟨h1, h2⟩ := h
  rcases h2 with ⟨rfl, rfl⟩ | ⟨g, cur, rfl, hb, hg, h3, h4, h5⟩
  · exact ⟨none, rfl, fun h => absurd h (by omega)⟩
  · refine ⟨some ⟨g, 0, none⟩, rfl, fun _ => ⟨g, rfl, hb, lt_of_block hg, fun j hj => ?_⟩⟩
    have : w.cell? ⟨g, j, none⟩ = cur[j]? := by simp [World.cell?, hg]
    rw [this, ← h5, List.getElem?_take_of_lt hj, Array.getElem?_toList]
def lvE : List Fw := [⟨1, 2, 5⟩, ⟨2, 1, 1⟩]
def lv0 : Int → Int → Int := newF lvE
theorem lvE_ok : okG lvE := by
  refine ⟨fun x hx => ?_, ?_⟩
  · unfold lvE at hx
    simp at hx
    rcases hx with rfl | rfl <;> (unfold okX; simp)
  · unfold lvE
    simp
theorem lv_inv : GInv lv0 4398046511104 := newF_inv lvE_ok.1
def lv1 : Int → Int → Int := gPushF lv0 1 2 3
def lv2 : Int → Int → Int := gPushF lv1 2 1 4
set_option maxHeartbeats 8000000 in
set_option maxRecDepth 100000 in
theorem lives05_any (w : World) : Calls Try.prog 7 #[] w fun e w' => e = .returned (.bool true) ∧ Below w.heap.size w w' := by
  have K0 := Blk.new w #[.int .u8 1, .int .u8 2, .int .i64 5, .int .u8 2, .int .u8 1, .int .i64 1] 35
  have B0 := Lib.hid ((Below.refl w.heap.size w).alloc (Nat.le_refl _) (.cells #[.int .u8 1, .int .u8 2, .int .i64 5, .int .u8 2, .int .u8 1, .int .i64 1] 35))
  have RD : Hid (Reads (w.alloc (.cells #[.int .u8 1, .int .u8 2, .int .i64 5, .int .u8 2, .int .u8 1, .int .i64 1] 35)) (.slice (some ⟨w.heap.size, 0, none⟩) lvE.length 2) 3 lvE.length (fwCells lvE)) := Lib.hid
    ⟨some ⟨w.heap.size, 0, none⟩, 2, rfl, by decide, by decide, fun _ => ⟨w.heap.size, 0, rfl, by simp, fun j hj => by
      rw [Nat.zero_add, K0.cell j, ← Array.getElem?_toList]
      rfl⟩⟩
  clear K0
  have C1 := Lib.hid (gnew_any RD.out (by decide))
  clear RD
  go_enter Try.func7, Try.ntmps7
  go_wp2_with fail
  refine C1.out.mono ?_
  rintro e w1 ⟨b1, h1⟩
  obtain ⟨_, g, rfl, hg, k1⟩ := h1.resolve_right (fun h => h.1 lvE_ok)
  have hgw : w.heap.size ≤ g := Nat.le_trans (by simp) hg
  have B1 := Lib.hid (B0.out.trans (b1.mono B0.out.size))
  have P1 := Lib.hid (gpush_any (f := lv0) k1 lv_inv (by decide) (a := 1) (b := 2) (n := 3) (by unfold In64; decide))
  rw [show gPushE lv0 1 2 3 = 0 by decide +kernel, show gPushF lv0 1 2 3 = lv1 from rfl] at P1
  clear b1 k1 C1 B0 hg
  go_wp2_with fail
  refine P1.out.mono ?_
  rintro e w2 ⟨rfl, k2, q2⟩
  have B2 := Lib.hid (B1.out.trans (q2.below B1.out.size (fun k hk e => by omega)))
  have I1 : GInv lv1 4398046511104 := lv_inv.gpush 1 2 3
  have P2 := Lib.hid (gcap_any k2 I1.outF 1 2)
  have P3 := Lib.hid (gcap_any k2 I1.outF 2 1)
  have P4 := Lib.hid (gpush_any (f := lv1) k2 I1 (by decide) (a := 1) (b := 2) (n := 3) (by unfold In64; decide))
  rw [show lv1 1 2 = 2 by decide +kernel] at P2
  rw [show lv1 2 1 = 4 by decide +kernel] at P3
  rw [show gPushE lv1 1 2 3 = 11 by decide +kernel, show gPushF lv1 1 2 3 = lv1 by unfold gPushF; rw [if_neg (by decide +kernel)]] at P4
  clear q2 k2 P1 B1
  go_wp2_with fail
  refine P2.out.mono ?_
  rintro e w ⟨rfl, rfl⟩
  go_wp2_with fail
  refine P3.out.mono ?_
  rintro e w ⟨rfl, rfl⟩
  go_wp2_with fail
  refine P4.out.mono ?_
  rintro e w3 ⟨rfl, k3, q3⟩
  have B3 := Lib.hid (B2.out.trans (q3.below B2.out.size (fun k hk e => by omega)))
  have P5 := Lib.hid (gpush_any (f := lv1) k3 I1 (by decide) (a := 2) (b := 1) (n := 4) (by unfold In64; decide))
  rw [show gPushE lv1 2 1 4 = 0 by decide +kernel, show gPushF lv1 2 1 4 = lv2 from rfl] at P5
  clear q3 k3 P2 P3 P4 B2
  go_wp2_with fail
  refine P5.out.mono ?_
  rintro e w4 ⟨rfl, k4, q4⟩
  have B4 := Lib.hid (B3.out.trans (q4.below B3.out.size (fun k hk e => by omega)))
  have P6 := Lib.hid (gedges_any (IsG.of k4) (I1.gpush 2 1 4).outF)
  rw [show allE lv2 = [(⟨1, 2, 6⟩ : Fw)] by kernel_rfl] at P6
  clear q4 k4 P5 B3 I1
  go_wp2_with fail
  refine P6.out.mono ?_
  rintro e w5 ⟨v5, rfl, r5, b5⟩
  have B5 := Lib.hid (B4.out.trans (b5.mono B4.out.size))
  obtain ⟨ao, hv, hr⟩ := rowed_shape r5
  obtain ⟨bl, hao, _, hbl, hcl⟩ := hr (by decide)
  subst hao
  subst hv
  have f0 := hcl 0 (by decide); have f1 := hcl 1 (by decide); have f2 := hcl 2 (by decide)
  simp only [fwCells, Fw.vals, List.flatMap_cons, List.flatMap_nil, List.cons_append, List.nil_append, List.getElem?_cons_zero, List.getElem?_cons_succ] at f0 f1 f2
  clear hr hcl r5 b5 P6 B4
  go_wp2_with fail
  go_ret
  exact ⟨rfl, B5.out⟩

end Go.Proofs.Ytdpkcamhafkkbaa
