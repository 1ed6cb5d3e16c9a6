/-
  Pieces of one proof, without what is not wanted: Model10, Ask10, FillsSay, FillFacts, FillsProg.
-/
import Derived.Test.YtbieomgpfhloeaaGreatP09
import Derived.Test.YtbieomgpfhloeaaGreatP10
import Derived.Test.YtbieomgpfhloeaaGreatP13
import Derived.Test.YtbieomgpfhloeaaGreatP23
import Derived.Test.YtbieomgpfhloeaaGreatP25
import Derived.Test.YtbieomgpfhloeaaGreatP28
import Derived.Test.YtbieomgpfhloeaaGreatP29
import Derived.ChangeArms
import Derived.Lib.SmallJoins
set_option linter.unusedSimpArgs false
set_option linter.unusedVariables false
namespace Go.Proofs.YtbieomgpfhloeaaGreat
open Go.RowKit
def ModelPost10 (w : World) (xs : List Ac) (os : List Of) (e : Ending) (w' : World) : Prop :=
 ∃ rl rb ps ls vp vl l N vb, e = .returned (.agg #[.pointer (some ⟨rl, 0, none⟩), .pointer (some ⟨rb, 0, none⟩)]) ∧ RefL w' w.heap.size rl ps ls vp vl ∧ LInv ps ls ∧ RefB w' w.heap.size rb l N vb ∧ BInv l N ∧ Below w.heap.size w w' ∧ actsL xs = (ps, ls) ∧ offsB os = (l, N)
def ModelAt10 (W : World) (rl rb hb len : Nat) (xs : List Ac) (i : Value) (wr : World) : Prop :=
 ∃ k : Nat, k ≤ len ∧ i = .int .i64 k ∧ ∃ ps ls vp vl, RefL wr W.heap.size rl ps ls vp vl ∧ LInv ps ls ∧ RefB wr W.heap.size rb [] 1 (.slice none 0 0) ∧ Blk wr hb #[.pointer (some ⟨rl, 0, none⟩), .pointer (some ⟨rb, 0, none⟩)] 37 ∧ Below W.heap.size W wr ∧ Hid (actsL (xs.take k) = (ps, ls))
def ModelBt10 (W : World) (rl rb hb len : Nat) (ps : List Int) (ls : List Ln) (os : List Of) (i : Value) (wr : World) : Prop :=
 ∃ k : Nat, k ≤ len ∧ i = .int .i64 k ∧ ∃ vp vl l N vb, RefL wr W.heap.size rl ps ls vp vl ∧ RefB wr W.heap.size rb l N vb ∧ BInv l N ∧ N ≤ (k : Int) + 1 ∧ Blk wr hb #[.pointer (some ⟨rl, 0, none⟩), .pointer (some ⟨rb, 0, none⟩)] 37 ∧ Below W.heap.size W wr ∧ Hid (offsB (os.take k) = (l, N))
set_option maxHeartbeats 32000000 in
set_option maxRecDepth 100000 in
theorem model10_any {w : World} {a1 a2 : Option Addr} {n1 n2 c1 c2 : Nat} {xs : List Ac} {os : List Of} (h1 : ActsIn w a1 n1 c1 xs) (h2 : SlIn Of.vals 7 Of.Fits w a2 n2 c2 os) (hl1 : n1 ≤ 120) (hl2 : n2 ≤ 40) :
  Calls Tryz.prog 8 #[.agg #[.slice a1 n1 c1, .slice a2 n2 c2]] w (ModelPost10 w xs os) := by
 have hg1 : (w.alloc (.cells #[.slice a1 n1 c1, .slice a2 n2 c2] 25)).heap.size = w.heap.size + 1 := by simp
 have b1 := (Below.refl w.heap.size w).alloc (Nat.le_refl _) (.cells #[.slice a1 n1 c1, .slice a2 n2 c2] 25)
 have k1 := Blk.new w #[.slice a1 n1 c1, .slice a2 n2 c2] 25
 generalize hW1 : w.alloc (.cells #[.slice a1 n1 c1, .slice a2 n2 c2] 25) = W1 at *
 have b2 := (Below.refl W1.heap.size W1).alloc (Nat.le_refl _) (.cells #[.pointer none, .pointer none] 37)
 have k2 := Blk.new W1 #[.pointer none, .pointer none] 37
 rw [hg1] at k2
 generalize hW2 : W1.alloc (.cells #[.pointer none, .pointer none] 37) = W2 at *
 have HW1 := Lib.hid hW1
 have HW2 := Lib.hid hW2
 have KX := Lib.hid (k1.below b2 k1.lt)
 have KF := Lib.hid k2
 have HA := Lib.hid ((h1.below b1).below b2)
 have HO := Lib.hid ((h2.below b1).below b2)
 have B1 := Lib.hid (b1.trans (b2.mono b1.size))
 have hol : os.length = n2 := h2.2.1
 have hcap := h2.2.2.2.1
 have hmax := h2.2.2.2.2.1
 have hal : xs.length = n1 := h1.1
 have hcap1 := h1.2.2.1
 have hmax1 := h1.2.2.2.1
 unfold maxLen at hmax hmax1
 clear h1 h2 b1 b2 k1 k2 hW1 hW2 hg1
 go_enter Tryz.func8, Tryz.ntmps8
 go_upto_region 1 with fail
 rw [HW1.out, HW2.out]
 go_wp2_with fail
 refine (rnew10_any W2 W2.heap.size W2.heap.size (Nat.le_refl _) (Nat.le_refl _)).mono ?_
 rintro e w0 ⟨rl, rb, rfl, g1, g2, r1, r2, hb0⟩
 have bh := (Below.refl w0.heap.size w0).alloc (Nat.le_refl _) (.cells #[.pointer (some ⟨rl, 0, none⟩), .pointer (some ⟨rb, 0, none⟩)] 37)
 have KH0 := Lib.hid (Blk.new w0 #[.pointer (some ⟨rl, 0, none⟩), .pointer (some ⟨rb, 0, none⟩)] 37)
 have HRL0 := Lib.hid (r1.below bh)
 have HRB0 := Lib.hid (r2.below bh)
 have B0 := Lib.hid (hb0.trans (bh.mono hb0.size))
 have hrl := r1.blk.lt
 have hrb := r2.blk.lt
 have nb : ¬ rl = rb := fun h => by subst h; exact absurd (r1.blk.out.symm.trans r2.blk.out) (by simp)
 have NB := Lib.hid nb
 have LT := Lib.hid (And.intro hrl hrb)
 have GE := Lib.hid (And.intro g1 g2)
 clear r1 r2 bh hb0 hrl hrb nb g1 g2
 go_wp2_with fail
 generalize w0.heap.size = hb at *
 go_loopw [4, 5] (fun i _ wr => ModelAt10 W2 rl rb hb n1 xs i wr) (fun i _ _ => n1 - (intOf i).toNat)
 case atStart => exact ⟨0, Nat.zero_le _, rfl, [], [], _, _, HRL0.out, LInv.nil, HRB0.out, KH0.out, B0.out, Lib.hid rfl⟩
 case round =>
  obtain ⟨k, hk, rfl, ps, ls, vp, vl, hR, hI, hE, hH, hB, hAct⟩ := hrel
  have HR := Lib.hid hR
  have HI := Lib.hid hI
  have HE := Lib.hid hE
  have HH := Lib.hid hH
  have HB := Lib.hid hB
  have KX1 := Lib.hid (KX.out.below hB KX.out.lt)
  have e0 := KX1.out.cell 0; have e1 := KX1.out.cell 1
  have kx := KX1.out.lt
  simp at e0 e1
  clear hR hI hE hH hB
  by_cases hkl : k < n1
  ·obtain ⟨b, off, rfl, hbl, d0, d1, d2, d3, d4⟩ := (HA.out.below HB.out).at (i := k) (by omega)
   have hx := HA.out.2.1 xs[k] (List.getElem_mem _)
   have AT := Lib.hid (actsL_next (by omega) hAct.out)
   generalize hxe : xs[k] = x at *
   clear hxe
   obtain ⟨k1, k2⟩ := hx.k
   have bw := (Below.refl wr.heap.size wr).alloc (Nat.le_refl _) (.cells #[.int .u8 x.k, .int .u8 x.a, .int .u8 x.b, .int .u8 x.c, .int .i64 x.n] 79)
   have HW := Lib.hid (HR.out.below bw)
   have HE1 := Lib.hid (HE.out.below bw)
   have HH1 := Lib.hid (HH.out.below bw HH.out.lt)
   have BW := Lib.hid (HB.out.trans (bw.mono HB.out.size))
   have h0 := HH1.out.cell 0; have h1 := HH1.out.cell 1
   have hhl := HH1.out.lt
   simp at h0 h1
   clear bw
   have hs : x.k % 8 = 0 ∨ x.k % 8 = 1 ∨ x.k % 8 = 2 ∨ x.k % 8 = 3 ∨ x.k % 8 = 4 ∨ x.k % 8 = 5 ∨ x.k % 8 = 6 ∨ x.k % 8 = 7 := by omega
   rcases hs with hj | hj | hj | hj | hj | hj | hj | hj
   ·have AN := Lib.hid (AT.out.trans (show actL x (ps, ls) = (openP ps x.a, ls) by unfold actL; simp [hj]))
    have q1 : x.k % 8 = 0 := hj
    have q2 : x.k.tmod 8 = 0 := by rw [Int.tmod_eq_emod_of_nonneg hx.k.1]; exact hj
    clear hj
    have C := Lib.hid (ropen_any HW.out x.a)
    have HI2 := Lib.hid (LInv.open HI.out x.a)
    clear hx
    go_wp2_with fail
    refine C.out.mono ?_
    rintro e w2 ⟨rfl, vp2, h2, k2⟩
    have H2 := Lib.hid h2
    have B2 := Lib.hid (BW.out.trans (k2.below BW.out.size (fun b hb e => by have := GE.out; omega)))
    have HE2 := Lib.hid (HE1.out.keep k2 (fun e => NB.out e.symm) (fun b hb => by simp [Value.ownBlock] at hb))
    have HH2 := Lib.hid (HH1.out.keep k2 (by have := LT.out; omega))
    clear h2 k2 C h0 h1 hhl e0 e1 kx
    go_wp2_with fail
    go_roundw
    case rel => exact ⟨k + 1, by omega, by go_num, _, _, _, _, H2.out, HI2.out, HE2.out, HH2.out, B2.out, AN⟩
    case measure => simp [intOf]; omega
   ·have AN := Lib.hid (AT.out.trans (show actL x (ps, ls) = (ps, trustL ps ls x.a x.b x.c x.n) by unfold actL; simp [hj]))
    have q1 : x.k % 8 = 1 := hj
    have q2 : x.k.tmod 8 = 1 := by rw [Int.tmod_eq_emod_of_nonneg hx.k.1]; exact hj
    clear hj
    have C := Lib.hid (rtrust_any HW.out HI.out.inv.good HI.out.len x.a x.b x.c x.n)
    have HI2 := Lib.hid (LInv.trust HI.out x.a x.b x.c x.n)
    clear hx
    go_wp2_with fail
    refine C.out.mono ?_
    rintro e w2 ⟨rfl, vl2, h2, k2⟩
    have H2 := Lib.hid h2
    have B2 := Lib.hid (BW.out.trans (k2.below BW.out.size (fun b hb e => by have := GE.out; omega)))
    have HE2 := Lib.hid (HE1.out.keep k2 (fun e => NB.out e.symm) (fun b hb => by simp [Value.ownBlock] at hb))
    have HH2 := Lib.hid (HH1.out.keep k2 (by have := LT.out; omega))
    clear h2 k2 C h0 h1 hhl e0 e1 kx
    go_wp2_with fail
    go_roundw
    case rel => exact ⟨k + 1, by omega, by go_num, _, _, _, _, H2.out, HI2.out, HE2.out, HH2.out, B2.out, AN⟩
    case measure => simp [intOf]; omega
   ·have AN := Lib.hid (AT.out.trans (show actL x (ps, ls) = (ps, trustL ps ls x.a x.b x.c x.n) by unfold actL; simp [hj]))
    have q1 : x.k % 8 = 2 := hj
    have q2 : x.k.tmod 8 = 2 := by rw [Int.tmod_eq_emod_of_nonneg hx.k.1]; exact hj
    clear hj
    have C := Lib.hid (rtrust_any HW.out HI.out.inv.good HI.out.len x.a x.b x.c x.n)
    have HI2 := Lib.hid (LInv.trust HI.out x.a x.b x.c x.n)
    clear hx
    go_wp2_with fail
    refine C.out.mono ?_
    rintro e w2 ⟨rfl, vl2, h2, k2⟩
    have H2 := Lib.hid h2
    have B2 := Lib.hid (BW.out.trans (k2.below BW.out.size (fun b hb e => by have := GE.out; omega)))
    have HE2 := Lib.hid (HE1.out.keep k2 (fun e => NB.out e.symm) (fun b hb => by simp [Value.ownBlock] at hb))
    have HH2 := Lib.hid (HH1.out.keep k2 (by have := LT.out; omega))
    clear h2 k2 C h0 h1 hhl e0 e1 kx
    go_wp2_with fail
    go_roundw
    case rel => exact ⟨k + 1, by omega, by go_num, _, _, _, _, H2.out, HI2.out, HE2.out, HH2.out, B2.out, AN⟩
    case measure => simp [intOf]; omega
   ·have AN := Lib.hid (AT.out.trans (show actL x (ps, ls) = (ps, pushL ps ls x.a x.b x.c x.n) by unfold actL; simp [hj]))
    have q1 : x.k % 8 = 3 := hj
    have q2 : x.k.tmod 8 = 3 := by rw [Int.tmod_eq_emod_of_nonneg hx.k.1]; exact hj
    clear hj
    have C := Lib.hid (rpush_any HW.out HI.out.inv.good HI.out.len x.a x.b x.c x.n)
    have HI2 := Lib.hid (LInv.push HI.out x.a x.b x.c x.n)
    clear hx
    go_wp2_with fail
    refine C.out.mono ?_
    rintro e w2 ⟨rfl, vl2, h2, k2⟩
    have H2 := Lib.hid h2
    have B2 := Lib.hid (BW.out.trans (k2.below BW.out.size (fun b hb e => by have := GE.out; omega)))
    have HE2 := Lib.hid (HE1.out.keep k2 (fun e => NB.out e.symm) (fun b hb => by simp [Value.ownBlock] at hb))
    have HH2 := Lib.hid (HH1.out.keep k2 (by have := LT.out; omega))
    clear h2 k2 C h0 h1 hhl e0 e1 kx
    go_wp2_with fail
    go_roundw
    case rel => exact ⟨k + 1, by omega, by go_num, _, _, _, _, H2.out, HI2.out, HE2.out, HH2.out, B2.out, AN⟩
    case measure => simp [intOf]; omega
   ·have AN := Lib.hid (AT.out.trans (show actL x (ps, ls) = (ps, pushL ps ls x.a x.b x.c x.n) by unfold actL; simp [hj]))
    have q1 : x.k % 8 = 4 := hj
    have q2 : x.k.tmod 8 = 4 := by rw [Int.tmod_eq_emod_of_nonneg hx.k.1]; exact hj
    clear hj
    have C := Lib.hid (rpush_any HW.out HI.out.inv.good HI.out.len x.a x.b x.c x.n)
    have HI2 := Lib.hid (LInv.push HI.out x.a x.b x.c x.n)
    clear hx
    go_wp2_with fail
    refine C.out.mono ?_
    rintro e w2 ⟨rfl, vl2, h2, k2⟩
    have H2 := Lib.hid h2
    have B2 := Lib.hid (BW.out.trans (k2.below BW.out.size (fun b hb e => by have := GE.out; omega)))
    have HE2 := Lib.hid (HE1.out.keep k2 (fun e => NB.out e.symm) (fun b hb => by simp [Value.ownBlock] at hb))
    have HH2 := Lib.hid (HH1.out.keep k2 (by have := LT.out; omega))
    clear h2 k2 C h0 h1 hhl e0 e1 kx
    go_wp2_with fail
    go_roundw
    case rel => exact ⟨k + 1, by omega, by go_num, _, _, _, _, H2.out, HI2.out, HE2.out, HH2.out, B2.out, AN⟩
    case measure => simp [intOf]; omega
   ·have AN := Lib.hid (AT.out.trans (show actL x (ps, ls) = (ps, pushL ps ls x.a x.b x.c x.n) by unfold actL; simp [hj]))
    have q1 : x.k % 8 = 5 := hj
    have q2 : x.k.tmod 8 = 5 := by rw [Int.tmod_eq_emod_of_nonneg hx.k.1]; exact hj
    clear hj
    have C := Lib.hid (rpush_any HW.out HI.out.inv.good HI.out.len x.a x.b x.c x.n)
    have HI2 := Lib.hid (LInv.push HI.out x.a x.b x.c x.n)
    clear hx
    go_wp2_with fail
    refine C.out.mono ?_
    rintro e w2 ⟨rfl, vl2, h2, k2⟩
    have H2 := Lib.hid h2
    have B2 := Lib.hid (BW.out.trans (k2.below BW.out.size (fun b hb e => by have := GE.out; omega)))
    have HE2 := Lib.hid (HE1.out.keep k2 (fun e => NB.out e.symm) (fun b hb => by simp [Value.ownBlock] at hb))
    have HH2 := Lib.hid (HH1.out.keep k2 (by have := LT.out; omega))
    clear h2 k2 C h0 h1 hhl e0 e1 kx
    go_wp2_with fail
    go_roundw
    case rel => exact ⟨k + 1, by omega, by go_num, _, _, _, _, H2.out, HI2.out, HE2.out, HH2.out, B2.out, AN⟩
    case measure => simp [intOf]; omega
   ·have AN := Lib.hid (AT.out.trans (show actL x (ps, ls) = (ps, forgiveL ls x.a x.b x.c x.n) by unfold actL; simp [hj]))
    have q1 : x.k % 8 = 6 := hj
    have q2 : x.k.tmod 8 = 6 := by rw [Int.tmod_eq_emod_of_nonneg hx.k.1]; exact hj
    clear hj
    have C := Lib.hid (rforgive_any HW.out HI.out.inv.good HI.out.len x.a x.b x.c x.n hx.n)
    have HI2 := Lib.hid (LInv.forgive HI.out x.a x.b x.c x.n)
    clear hx
    go_wp2_with fail
    refine C.out.mono ?_
    rintro e w2 ⟨rfl, vl2, h2, k2⟩
    have H2 := Lib.hid h2
    have B2 := Lib.hid (BW.out.trans (k2.below BW.out.size (fun b hb e => by have := GE.out; omega)))
    have HE2 := Lib.hid (HE1.out.keep k2 (fun e => NB.out e.symm) (fun b hb => by simp [Value.ownBlock] at hb))
    have HH2 := Lib.hid (HH1.out.keep k2 (by have := LT.out; omega))
    clear h2 k2 C h0 h1 hhl e0 e1 kx
    go_wp2_with fail
    go_roundw
    case rel => exact ⟨k + 1, by omega, by go_num, _, _, _, _, H2.out, HI2.out, HE2.out, HH2.out, B2.out, AN⟩
    case measure => simp [intOf]; omega
   ·have AN := Lib.hid (AT.out.trans (show actL x (ps, ls) = (ps, ls) by unfold actL; simp [hj]))
    have q1 : x.k % 8 = 7 := hj
    have q2 : x.k.tmod 8 = 7 := by rw [Int.tmod_eq_emod_of_nonneg hx.k.1]; exact hj
    clear hj
    clear hx
    go_wp2_with fail
    go_roundw
    case rel => exact ⟨k + 1, by omega, by go_num, ps, ls, _, _, HW.out, HI.out, HE1.out, HH1.out, BW.out, AN⟩
    case measure => simp [intOf]; omega
  ·have AC := Lib.hid (show actsL xs = (ps, ls) by have := hAct.out; rwa [List.take_of_length_le (by omega)] at this)
   clear hAct
   go_wp2_with fail
   go_loopw [6, 7] (fun i _ wr => ModelBt10 W2 rl rb hb n2 ps ls os i wr) (fun i _ _ => n2 - (intOf i).toNat)
   case atStart => exact ⟨0, Nat.zero_le _, rfl, vp, vl, [], 1, _, HR.out, HE.out, BInv.nil (by omega) (by omega), by omega, HH.out, HB.out, Lib.hid rfl⟩
   case round =>
    clear hkl hk e0 e1 kx KX1 HR HE HH HB
    obtain ⟨k, hk, rfl, vp, vl, l, N, vb, hR, hE, hJ, hN, hH, hB, hAct⟩ := hrel
    have HR := Lib.hid hR
    have HJ := Lib.hid hJ
    have HE := Lib.hid hE
    have HH := Lib.hid hH
    have HB := Lib.hid hB
    have KX1 := Lib.hid (KX.out.below hB KX.out.lt)
    have e0 := KX1.out.cell 0; have e1 := KX1.out.cell 1
    have kx := KX1.out.lt
    simp at e0 e1
    clear hR hJ hE hH hB
    by_cases hkl : k < n2
    ·obtain ⟨b, off, rfl, hbl, d0, d1, d2, d3, d4, d5, d6⟩ := (HO.out.below HB.out).off (i := k) (by omega)
     have AT := Lib.hid (offsB_next (by omega) hAct.out)
     generalize hxe : os[k] = x at *
     clear hxe
     have bw := (Below.refl wr.heap.size wr).alloc (Nat.le_refl _) (.cells #[.int .u64 x.se, .int .u8 x.ow, .int .u8 x.sl, .int .u8 x.bu, .int .i64 x.lf, .int .i64 x.nu, .int .i64 x.de] 60)
     have HW := Lib.hid (HR.out.below bw)
     have HE1 := Lib.hid (HE.out.below bw)
     have HH1 := Lib.hid (HH.out.below bw HH.out.lt)
     have BW := Lib.hid (HB.out.trans (bw.mono HB.out.size))
     have h0 := HH1.out.cell 0; have h1 := HH1.out.cell 1
     have hhl := HH1.out.lt
     simp at h0 h1
     clear bw
     have C := Lib.hid (bplace_any (x := ⟨N, x.ow, x.sl, x.bu, x.lf, x.nu, x.de⟩) HE1.out HJ.out.len (by have := HJ.out.n1; show 0 ≤ N; omega) HJ.out.n2)
     have HI2 := Lib.hid (BInv.place (x := ⟨N, x.ow, x.sl, x.bu, x.lf, x.nu, x.de⟩) HJ.out)
     have HN := Lib.hid (show (placeN l ⟨N, x.ow, x.sl, x.bu, x.lf, x.nu, x.de⟩ : Int) ≤ (k : Int) + 1 + 1 from by have e : placeN l ⟨N, x.ow, x.sl, x.bu, x.lf, x.nu, x.de⟩ ≤ N + 1 := (by unfold placeN; split <;> (dsimp only; omega)); omega)
     go_wp2_with fail
     refine C.out.mono ?_
     rintro e w2 ⟨rfl, vl2, h2, k2⟩
     have H2 := Lib.hid h2
     have B2 := Lib.hid (BW.out.trans (k2.below BW.out.size (fun b hb e => by have := GE.out; omega)))
     have HR2 := Lib.hid (HW.out.keep k2 NB.out (fun b hb h => by subst h; exact owns_ne HW.out.p HE1.out.blk (by decide) _ hb rfl) (fun b hb h => by subst h; exact owns_ne HW.out.l HE1.out.blk (by decide) _ hb rfl))
     have HH2 := Lib.hid (HH1.out.keep k2 (by have := LT.out; omega))
     clear h2 k2 C h0 h1 hhl e0 e1 kx
     go_wp2_with fail
     go_roundw
     case rel => exact ⟨k + 1, by omega, by go_num, _, _, _, _, _, HR2.out, H2.out, HI2.out, by have := HN.out; omega, HH2.out, B2.out, AT⟩
     case measure => simp [intOf]; omega
    ·have OC := Lib.hid (show offsB os = (l, N) by have := hAct.out; rwa [List.take_of_length_le (by omega)] at this)
     have h0 := HH.out.cell 0; have h1 := HH.out.cell 1
     have hhl := HH.out.lt
     have KF3 := Lib.hid (KF.out.below HB.out KF.out.lt)
     have f0 := KF3.out.cell 0; have f1 := KF3.out.cell 1
     have kf := KF3.out.lt
     simp at h0 h1 f0 f1
     clear hAct
     go_wp2_with (refine wpList_store_whole rfl 37 (.tmp 2) (.tmp 98) rfl (w.heap.size + 1) #[.pointer (some ⟨rl, 0, none⟩), .pointer (some ⟨rb, 0, none⟩)] rfl rfl 37 _ KF3.out.out (by kernel_rfl) rfl (by simp [Value.oneCell']) ?_)
     refine bodyPost_ret (v := .agg #[.pointer (some ⟨rl, 0, none⟩), .pointer (some ⟨rb, 0, none⟩)]) (results_cell_row rfl _ _ (w.heap.size + 1) 37 #[.pointer (some ⟨rl, 0, none⟩), .pointer (some ⟨rb, 0, none⟩)] (0, 0) _ rfl (setRow_heap _ (w.heap.size + 1) _ _ _ (0, 0) KF3.out.out) Tryz.underlying37 rfl (by kernel_rfl)) rfl ?_
     have kk := below_keepRow (w := wr) (w.heap.size + 1) #[.pointer (some ⟨rl, 0, none⟩), .pointer (some ⟨rb, 0, none⟩)]
     have s1 := B1.out.size
     have s3 := KF.out.lt
     obtain ⟨g1, g2⟩ := GE.out
     have hR2 := HR.out.keep kk (by omega) (fun b hb h => by subst h; exact owns_ne HR.out.p KF3.out (by decide) _ hb rfl) (fun b hb h => by subst h; exact owns_ne HR.out.l KF3.out (by decide) _ hb rfl)
     have hE2 := HE.out.keep kk (by omega) (fun b hb h => by subst h; exact owns_ne HE.out.row KF3.out (by decide) _ hb rfl)
     exact ⟨rl, rb, ps, ls, vp, vl, l, N, vb, rfl, ⟨hR2.blk, by omega, owns_base hR2.p (by omega), owns_base hR2.l (by omega)⟩, HI.out, ⟨hE2.blk, by omega, owns_base hE2.row (by omega)⟩, HJ.out, (B1.out.trans (HB.out.mono s1)).trans (kk.below (by have := HB.out.size; omega) (fun k hk h => by omega)), AC.out, OC.out⟩
end Go.Proofs.YtbieomgpfhloeaaGreat
namespace Go.Proofs.YtbieomgpfhloeaaGreat
open Go.RowKit Go.ChangeShapes Go.WideShapes Go.Deep Go.Joins
structure Wd where
 a1 : Option Addr
 n1 : Nat
 c1 : Nat
 xs : List Ac
 a2 : Option Addr
 n2 : Nat
 c2 : Nat
 os : List Of
structure Wd.In (x : Wd) (w : World) : Prop where
 acts : ActsIn w x.a1 x.n1 x.c1 x.xs
 offs : SlIn Of.vals 7 Of.Fits w x.a2 x.n2 x.c2 x.os
structure Af where
 se : Int
 tk : Int
 pt : Int
 n : Int
 mo : Int
 fu : Bool
def Af.vals (x : Af) : List Value := [.int .u64 x.se, .int .u8 x.tk, .int .u8 x.pt, .int .i64 x.n, .int .i64 x.mo, .bool x.fu]
theorem Af.vals_len (x : Af) : x.vals.length = 6 := rfl
structure Af.Fits (x : Af) : Prop where
 se : 0 ≤ x.se ∧ x.se ≤ 18446744073709551615
 tk : In8 x.tk
 pt : In8 x.pt
 n : In64 x.n
 mo : In64 x.mo
section
variable {H : Type} {enc : TypeId × Value → H} {P : Program} {w : World} {base : Nat} {spare : Nat → Bool} {held : Bool}
theorem bool_of {fs : Array Field} {xs : List (DataW H × List MemPlace)} {n : Nat} {cs : List Value} (hxl : xs.length = fs.size) (hf : ∀ (j : Nat) (f : Field), fs[j]? = some f → DataW.trod enc P w base spare held n f.type ((cs.drop f.offset).take (P.cellsOf f.type)) = xs[j]?) {j o : Nat} {f : Field} (hj : fs[j]? = some f) (ho : f.offset = o) (hc : P.cellsOf f.type = 1) (hk : P.underlying f.type = some .bool) (hl : o < cs.length) :
  ∃ b, cs[o]? = some (.bool b) := by
 have h1 := hf j f hj
 rw [ho, hc, List.drop_eq_getElem_cons hl] at h1
 have hjf : j < fs.size := (Array.getElem?_eq_some_iff.1 hj).1
 rw [List.getElem?_eq_getElem (by omega : j < xs.length)] at h1
 obtain ⟨b, hb, _⟩ := DataW.trod_bool hk h1
 refine ⟨b, ?_⟩
 rw [List.getElem?_eq_getElem hl]
 have hb' : [cs[o]] = [Value.bool b] := hb
 exact congrArg some (List.cons.inj hb').1
theorem ask10_of {t : TypeId} {f0 f1 f2 f3 f4 f5 : Field} (hu : P.underlying t = some (.struct #[f0, f1, f2, f3, f4, f5])) (hC : P.cellsOf t = 6)
  (o : f0.offset = 0 ∧ f1.offset = 1 ∧ f2.offset = 2 ∧ f3.offset = 3 ∧ f4.offset = 4 ∧ f5.offset = 5) (c : P.cellsOf f0.type = 1 ∧ P.cellsOf f1.type = 1 ∧ P.cellsOf f2.type = 1 ∧ P.cellsOf f3.type = 1 ∧ P.cellsOf f4.type = 1 ∧ P.cellsOf f5.type = 1)
  (k : P.underlying f0.type = some (.int .u64) ∧ P.underlying f1.type = some (.int .u8) ∧ P.underlying f2.type = some (.int .u8) ∧ P.underlying f3.type = some (.int .i64) ∧ P.underlying f4.type = some (.int .i64) ∧ P.underlying f5.type = some .bool)
  {fuel : Nat} {cs : List Value} {x : DataW H × List MemPlace} (h : DataW.trod enc P w base spare held fuel t cs = some x) : ∃ x : Af, x.Fits ∧ cs = x.vals := by
 obtain ⟨xs, n, _, _, hlen, hxl, hf⟩ := DataW.trod_struct hu h
 rw [hC] at hlen
 obtain ⟨m0, e0, w0⟩ := num_of hxl hf (j := 0) rfl o.1 c.1 k.1 (by omega)
 obtain ⟨m1, e1, w1⟩ := num_of hxl hf (j := 1) rfl o.2.1 c.2.1 k.2.1 (by omega)
 obtain ⟨m2, e2, w2⟩ := num_of hxl hf (j := 2) rfl o.2.2.1 c.2.2.1 k.2.2.1 (by omega)
 obtain ⟨m3, e3, w3⟩ := num_of hxl hf (j := 3) rfl o.2.2.2.1 c.2.2.2.1 k.2.2.2.1 (by omega)
 obtain ⟨m4, e4, w4⟩ := num_of hxl hf (j := 4) rfl o.2.2.2.2.1 c.2.2.2.2.1 k.2.2.2.2.1 (by omega)
 obtain ⟨m5, e5⟩ := bool_of hxl hf (j := 5) rfl o.2.2.2.2.2 c.2.2.2.2.2 k.2.2.2.2.2 (by omega)
 match cs, hlen with
 | [a0, a1, a2, a3, a4, a5], _ =>
  simp at e0 e1 e2 e3 e4 e5
  subst e0 e1 e2 e3 e4 e5
  exact ⟨⟨m0, m1, m2, m3, m4, m5⟩, ⟨InU64.of_wf w0, In8.of_wf w1, In8.of_wf w2, In64.of_wf w3, In64.of_wf w4⟩, rfl⟩
end
section
variable {H : Type} {enc : TypeId × Value → H} {w : World} {base : Nat} {spare : Nat → Bool} {held : Bool}
theorem ask10_read {fuel : Nat} {cs : List Value} {x : DataW H × List MemPlace} (h : DataW.trod enc Tryz.prog w base spare held fuel 45 cs = some x) : ∃ x : Af, x.Fits ∧ cs = x.vals :=
 ask10_of Tryz.underlying45 (by kernel_rfl) ⟨rfl, rfl, rfl, rfl, rfl, rfl⟩ ⟨by kernel_rfl, by kernel_rfl, by kernel_rfl, by kernel_rfl, by kernel_rfl, by kernel_rfl⟩
  ⟨Tryz.underlying42, Tryz.underlying43, Tryz.underlying43, Tryz.underlying2, Tryz.underlying2, Tryz.underlying4⟩ h
theorem asks10_open {a : Option Addr} {len cap : Nat} {d : DataW H} {p : List MemPlace} (h : DataW.Trod enc Tryz.prog w base spare held 26 (.slice a len cap) d p) : ∃ xs : List Af, SlIn Af.vals 6 Af.Fits w a len cap xs :=
 sl_open Tryz.underlying26 (by kernel_rfl) Af.vals_len (by decide) (fun fuel cs x h => ask10_read h) h
end
section
variable {H : Type} {enc : TypeId × Value → H} {w : World} {base : Nat} {spare : Nat → Bool} {held : Bool}
theorem slice1_of {P : Program} {t e : TypeId} {n : Nat} {v : Value} {y : DataW H × List MemPlace} (ht : P.underlying t = some (.slice e)) (h : DataW.trod enc P w base spare held n t [v] = some y) : ∃ a len cap, v = .slice a len cap := by
 rcases open_slice ht h with ⟨h0, _⟩ | ⟨ad, l, c, m, n, D, Pl, hcs, _⟩
 ·exact ⟨_, _, _, (List.cons.inj h0).1⟩
 ·exact ⟨_, _, _, (List.cons.inj hcs).1⟩
set_option maxRecDepth 100000 in
theorem world_open {r : Reach} {b0 : Nat} {v : Value} {d : DataW H} {p : List MemPlace} (hv : Value.okWide Tryz.prog w r b0 25 v) (h : DataW.Trod enc Tryz.prog w base spare held 25 v d p) :
  ∃ x : Wd, v = .agg #[.slice x.a1 x.n1 x.c1, .slice x.a2 x.n2 x.c2] ∧ x.In w := by
 obtain ⟨v0, v1, y0, y1, n, rfl, rfl, rfl, h0, h1⟩ := open_agg2 Tryz.underlying25 (by kernel_rfl) (by kernel_rfl) hv h
 obtain ⟨a1, n1, c1, rfl⟩ := slice1_of Tryz.underlying22 h0
 obtain ⟨a2, n2, c2, rfl⟩ := slice1_of Tryz.underlying23 h1
 obtain ⟨xs, hx⟩ := acts_open (a := a1) (len := n1) (cap := c1) ⟨n, h0⟩
 obtain ⟨os, ho⟩ := offers_open (a := a2) (len := n2) (cap := c2) ⟨n, h1⟩
 exact ⟨⟨a1, n1, c1, xs, a2, n2, c2, os⟩, rfl, hx, ho⟩
end
end Go.Proofs.YtbieomgpfhloeaaGreat
namespace Go.Proofs.YtbieomgpfhloeaaGreat
open Go.RowKit
theorem Keep.trans_new {S T : Nat → Prop} {a b c : World} (h : Keep S a b) (k : Keep T b c) (hT : ∀ j, j < a.heap.size → T j → S j) : Keep S a c :=
 ⟨k.os.trans h.os, k.tape.trans h.tape, k.output.trans h.output, Nat.le_trans h.size k.size, fun i hi hs => (k.block i (Nat.lt_of_lt_of_le hi h.size) (fun t => hs (hT i hi t))).trans (h.block i hi hs)⟩
theorem own_own_ne {w : World} {b1 b2 s1 s2 n1 n2 : Nat} {e1 e2 : TypeId} {v1 v2 : Value} {xs ys : List Value} (h : w.ownsRow b1 e1 s1 v1 n1 xs) (g : w.ownsRow b2 e2 s2 v2 n2 ys) (hne : e1 ≠ e2) : ∀ b, v1.ownBlock = some b → ¬ v2.ownBlock = some b := fun b hb hg => by
 obtain ⟨_, _, c1, k1⟩ := owns_type h hb
 obtain ⟨_, _, c2, k2⟩ := owns_type g hg
 have := k1.symm.trans k2
 simp at this
 exact hne this.2
def FMayProg : Prop := ∀ {w : World} {base G M gb : Nat} {ps : List Int} {ls : List Ln} {l : List Of} {N : Int} {vb : Value}, LedM w G M ps ls → LInv ps ls → PB w base gb l N vb → BInv l N →
 ∀ (s tk pt want most m1 m2 : Int), (0 ≤ s ∧ s ≤ 18446744073709551615) → In8 tk → In8 pt → In64 want → In64 most → (∀ o, findO l s = some o → Goes ps ls o tk pt m1 m2) →
 Calls Tryz.prog 13 #[.agg #[.pointer (some ⟨G, 0, none⟩), .pointer (some ⟨gb, 0, none⟩)], .int .u64 s, .int .u8 tk, .int .u8 pt, .int .i64 want, .int .i64 most] w fun e w' => e = .returned (.int .i64 (mayV l ps s tk pt want most m1 m2)) ∧ Below w.heap.size w w'
def FDoPost (w : World) (base G M gb : Nat) (ps : List Int) (ls : List Ln) (l : List Of) (N : Int) (vb : Value) (s tk pt n m1 m2 : Int) (e : Ending) (w' : World) : Prop :=
 (¬ doOk l ps s tk pt n m1 m2 ∧ e = .returned (.tuple #[noFill, .int .i64 1]) ∧ Below w.heap.size w w') ∨
 (doOk l ps s tk pt n m1 m2 ∧ ∃ o x ls' vb', findO l s = some o ∧ x = upN (n * o.nu) o.de ∧ Filled ps ls o tk pt n x ls' ∧ e = .returned (.tuple #[.agg #[.int .u64 s, .int .u8 tk, .int .u8 pt, .int .i64 n, .int .i64 x], .int .i64 0]) ∧
  LedM w' G M ps ls' ∧ PB w' base gb (takeL l s n) N vb' ∧ Keep (fun k => k = G ∨ k = M ∨ Foot gb vb k) w w' ∧ Moved w vb vb')
def FDoProg : Prop := ∀ {w : World} {base G M gb : Nat} {ps : List Int} {ls : List Ln} {l : List Of} {N : Int} {vb : Value}, LedM w G M ps ls → LInv ps ls → PB w base gb l N vb → BInv l N →
 ∀ (s tk pt n m1 m2 : Int), (0 ≤ s ∧ s ≤ 18446744073709551615) → In8 tk → In8 pt → In64 n → (∀ o, findO l s = some o → Goes ps ls o tk pt m1 m2) →
 Calls Tryz.prog 14 #[.agg #[.pointer (some ⟨G, 0, none⟩), .pointer (some ⟨gb, 0, none⟩)], .int .u64 s, .int .u8 tk, .int .u8 pt, .int .i64 n] w (FDoPost w base G M gb ps ls l N vb s tk pt n m1 m2)
def FCopyPost (w : World) (ps : List Int) (ls : List Ln) (l : List Of) (N : Int) (e : Ending) (w' : World) : Prop :=
 ∃ G M gb vb, e = .returned (.agg #[.pointer (some ⟨G, 0, none⟩), .pointer (some ⟨gb, 0, none⟩)]) ∧ LedM w' G M ps ls ∧ PB w' w.heap.size gb l N vb ∧ w.heap.size ≤ G ∧ w.heap.size ≤ M ∧ Below w.heap.size w w'
def FCopyProg : Prop := ∀ {w : World} {base G M gb : Nat} {ps : List Int} {ls : List Ln} {l : List Of} {N : Int} {vb : Value}, LedM w G M ps ls → LInv ps ls → PB w base gb l N vb → BInv l N →
 Calls Tryz.prog 9 #[.agg #[.pointer (some ⟨G, 0, none⟩), .pointer (some ⟨gb, 0, none⟩)]] w (FCopyPost w ps ls l N)
def Lives10 : Prop := ∀ w : World, Calls Tryz.prog 6 #[] w fun e w' => e = .returned (.bool true) ∧ Below w.heap.size w w'
end Go.Proofs.YtbieomgpfhloeaaGreat
namespace Go.Proofs.YtbieomgpfhloeaaGreat
theorem fitN_nn {g nu de : Int} : 0 ≤ fitN g nu de := by
 unfold fitN
 split
 ·rename_i h
  have := may_bd h.1
  have := Int.ediv_nonneg (Int.mul_nonneg h.2 (show 0 ≤ de by omega)) (show 0 ≤ nu by omega)
  omega
 ·omega
theorem mayV_bd {l : List Of} {ps : List Int} {N s tk pt want most m1 m2 : Int} (hJ : BInv l N) (h1 : 0 ≤ m1) (h2 : 0 ≤ m2) : In64 (mayV l ps s tk pt want most m1 m2) := by
 unfold mayV
 cases hf : findO l s with
 | none => exact ⟨by simp, by simp⟩
 | some o =>
  obtain ⟨_, _, _, _, ⟨l1, l2⟩, _⟩ := hJ.may o (findO_mem hf).1
  simp only [mayO]
  split
  ·exact ⟨by omega, by omega⟩
  ·rename_i hb
   have hf0 : 0 ≤ fitN (min (min most 1099511627776) m2) o.nu o.de := by
    unfold fitN
    split
    ·rename_i h
     have := may_bd h.1
     have := Int.ediv_nonneg (Int.mul_nonneg h.2 (show 0 ≤ o.de by omega)) (show 0 ≤ o.nu by omega)
     have := Int.ediv_nonneg (Int.mul_nonneg h.2 (show 0 ≤ o.nu by omega)) (show 0 ≤ o.de by omega)
     omega
    ·omega
   generalize fitN (min (min most 1099511627776) m2) o.nu o.de = q at *
   exact ⟨by split <;> omega, by split <;> omega⟩
theorem goes_some {ps : List Int} {ls : List Ln} (hI : LInv ps ls) (l : List Of) (s tk pt : Int) : ∃ m1 m2, (∀ o, findO l s = some o → Goes ps ls o tk pt m1 m2) ∧ 0 ≤ m1 ∧ 0 ≤ m2 := by
 cases hf : findO l s with
 | none => exact ⟨0, 0, (fun o h => by cases h), by omega, by omega⟩
 | some o =>
  obtain ⟨m1, m2, g⟩ := goes_ends hI o tk pt
  have := g.bd hI
  exact ⟨m1, m2, (fun o' h => by cases h; exact g), by omega, by omega⟩
end Go.Proofs.YtbieomgpfhloeaaGreat
namespace Go.Proofs.YtbieomgpfhloeaaGreat
open Go.RowKit
theorem LInv.len10 {ps : List Int} {ls : List Ln} (h : LInv ps ls) : ps.length ≤ 17 := by
 have h1 := open_all h.bd h.rise
 have h2 := openTo_len ps 0 17
 rw [h1] at h2
 omega
end Go.Proofs.YtbieomgpfhloeaaGreat
