/-
  Package paths: shorten goes over the edges once.
-/
import Derived.Test.YtmfacfnbokadmaaPTurn
import Derived.Test.YtmfacfnbokadmaaEdg
namespace Go.Proofs.Ytmfacfnbokadmaa
open Go.RowKit
set_option linter.unusedSimpArgs false
set_option linter.unusedVariables false

/-- A search: distances, and who is ahead. -/
def srC (far ahd : Int → Int) : Array Value := ltA far ++ ahA ahd
theorem srC_size (far ahd : Int → Int) : (srC far ahd).size = 34 := by unfold srC; rw [Array.size_append, ltA_size, ahA_size]
theorem srC_far (far ahd : Int → Int) {i : Nat} (h : i < 17) : (srC far ahd)[i]? = some (.int .i64 (far i)) := by
  unfold srC
  rw [Array.getElem?_append_left (by rw [ltA_size]; exact h), ltA_get far h]
theorem srC_ahd (far ahd : Int → Int) {i : Nat} (h : i < 17) : (srC far ahd)[17 + i]? = some (.int .u8 (ahd i)) := by
  unfold srC
  rw [Array.getElem?_append_right (by rw [ltA_size]; omega), ltA_size, Nat.add_sub_cancel_left, ahA_get ahd h]
theorem srC_setFar (far ahd : Int → Int) {i : Nat} (hi : i < 17) (n : Int) : (srC far ahd).setIfInBounds i (.int .i64 n) = srC (upI far i n) ahd := by
  apply Array.ext_getElem?
  intro j
  by_cases e : i = j
  · subst e
    rw [Array.getElem?_setIfInBounds_self_of_lt (by rw [srC_size]; omega), srC_far _ _ hi, upI_same]
  · rw [Array.getElem?_setIfInBounds_ne e]
    by_cases hj : j < 17
    · rw [srC_far _ _ hj, srC_far _ _ hj, upI_ne _ (by omega)]
    · by_cases hj2 : j < 34
      · have := srC_ahd far ahd (i := j - 17) (by omega)
        have h2 := srC_ahd (upI far i n) ahd (i := j - 17) (by omega)
        rw [show 17 + (j - 17) = j by omega] at this h2
        rw [this, h2]
      · rw [Array.getElem?_eq_none (by rw [srC_size]; omega), Array.getElem?_eq_none (by rw [srC_size]; omega)]
theorem srC_setAhd (far ahd : Int → Int) {i : Nat} (hi : i < 17) (n : Int) : (srC far ahd).setIfInBounds (17 + i) (.int .u8 n) = srC far (upI ahd i n) := by
  apply Array.ext_getElem?
  intro j
  by_cases e : 17 + i = j
  · subst e
    rw [Array.getElem?_setIfInBounds_self_of_lt (by rw [srC_size]; omega), srC_ahd _ _ hi, upI_same]
  · rw [Array.getElem?_setIfInBounds_ne e]
    by_cases hj : j < 17
    · rw [srC_far _ _ hj, srC_far _ _ hj]
    · by_cases hj2 : j < 34
      · have := srC_ahd far ahd (i := j - 17) (by omega)
        have h2 := srC_ahd far (upI ahd i n) (i := j - 17) (by omega)
        rw [upI_ne _ (by omega)] at h2
        rw [show 17 + (j - 17) = j by omega] at this h2
        rw [this, h2]
      · rw [Array.getElem?_eq_none (by rw [srC_size]; omega), Array.getElem?_eq_none (by rw [srC_size]; omega)]
attribute [irreducible] srC
theorem Blk.srFar {w : World} {g : Nat} {far ahd : Int → Int} {t : TypeId} (h : Blk w g (srC far ahd) t) {p : Int} (h0 : 0 ≤ p) (h1 : p < 17) : w.cell? ⟨g, p.toNat, none⟩ = some (.int .i64 (far p)) := by
  rw [h.cell, srC_far _ _ (by omega), Int.toNat_of_nonneg h0]
theorem Blk.srAhd {w : World} {g : Nat} {far ahd : Int → Int} {t : TypeId} (h : Blk w g (srC far ahd) t) {p : Int} (h0 : 0 ≤ p) (h1 : p < 17) : w.cell? ⟨g, 17 + p.toNat, none⟩ = some (.int .u8 (ahd p)) := by
  rw [h.cell, srC_ahd _ _ (by omega), Int.toNat_of_nonneg h0]
theorem Blk.srSetFar {w : World} {g : Nat} {far ahd : Int → Int} {t : TypeId} (h : Blk w g (srC far ahd) t) {p : Int} (h0 : 0 ≤ p) (h1 : p < 17) (n : Int) : Blk (w.setCell ⟨g, p.toNat, none⟩ (.int .i64 n)) g (srC (upI far p n) ahd) t := by
  have := h.set p.toNat (.int .i64 n)
  rw [srC_setFar _ _ (by omega), Int.toNat_of_nonneg h0] at this
  exact this
theorem Blk.srSetAhd {w : World} {g : Nat} {far ahd : Int → Int} {t : TypeId} (h : Blk w g (srC far ahd) t) {p : Int} (h0 : 0 ≤ p) (h1 : p < 17) (n : Int) : Blk (w.setCell ⟨g, 17 + p.toNat, none⟩ (.int .u8 n)) g (srC far (upI ahd p n)) t := by
  have := h.set (17 + p.toNat) (.int .u8 n)
  rw [srC_setAhd _ _ (by omega), Int.toNat_of_nonneg h0] at this
  exact this
def ShrtAt (w : World) (g : Nat) (es : List Ed) (k : Nat) (lv i : Value) (wr : World) : Prop :=
  ∃ (j : Nat) (s : BF), j ≤ es.length ∧ i = .int .i64 j ∧ Hid (s = (es.take j).foldl (stepE (k + 1)) { passN es k with pt := 0 }) ∧ lv = .int .u8 s.pt ∧ Blk wr g (srC s.far s.ahd) 82 ∧ Below g w wr
set_option maxHeartbeats 8000000 in
set_option maxRecDepth 100000 in
theorem shorten_any {w : World} {g k : Nat} {ao : Option Addr} {cap : Nat} {es : List Ed} (h : Blk w g (srC (passN es k).far (passN es k).ahd) 82) (hk : k < 16) (hfit : ∀ e ∈ es, e.Fits) (hln : es.length ≤ 600)
    (hes : 0 < es.length → ∃ b off, ao = some ⟨b, off, none⟩ ∧ b < g ∧ ∀ m, (hm : m < es.length) → ∀ j, j < 3 → w.cell? ⟨b, off + m * 3 + j, none⟩ = es[m].vals[j]?) :
    Calls Try.prog 34 #[.pointer (some ⟨g, 0, none⟩), .slice ao es.length cap] w fun e w' => e = .returned (.int .u8 (passN es (k + 1)).pt) ∧ Blk w' g (srC (passN es (k + 1)).far (passN es (k + 1)).ahd) 82 ∧ Below g w w' := by
  have K0 := Lib.hid h
  have HF := Lib.hid hfit
  have HC := Lib.hid hes
  have HB := Lib.hid (passN_bd (es := es) (fun e he => (hfit e he).co.1) k)
  have hgw := h.lt
  have CM := Lib.hid (fun p (w : World) => pmayP_any p w)
  clear h hfit hes
  go_enter Try.func34, Try.ntmps34
  go_wp2_with fail
  go_loopw [5, 11] (ShrtAt w g es k) (fun _ i _ => es.length - (intOf i).toNat)
  case atStart => exact ⟨0, _, by omega, rfl, Lib.hid rfl, rfl, K0.out, Below.refl _ _⟩
  case round =>
    clear K0
    obtain ⟨j, s, hj, rfl, hs, rfl, hF, hB⟩ := hrel
    have KS := Lib.hid hF
    have BB := Lib.hid hB
    clear hF hB
    by_cases hjl : j < es.length
    · obtain ⟨b, off, rfl, hbg, hcell⟩ := HC.out (by omega)
      have hbw : b < w.heap.size := by omega
      have d0 := (BB.out.cell (p := ⟨b, off + j * 3, none⟩) hbg).trans (hcell j hjl 0 (by omega))
      have d1 := (BB.out.cell (p := ⟨b, off + j * 3 + 1, none⟩) hbg).trans (hcell j hjl 1 (by omega))
      have d2 := (BB.out.cell (p := ⟨b, off + j * 3 + 2, none⟩) hbg).trans (hcell j hjl 2 (by omega))
      have hbr := Nat.lt_of_lt_of_le hbw BB.out.size
      simp only [Ed.vals, List.getElem?_cons_zero, List.getElem?_cons_succ] at d0 d1 d2
      have hfx := HF.out es[j] (List.getElem_mem hjl)
      have hfold : (es.take (j + 1)).foldl (stepE (k + 1)) { passN es k with pt := 0 } = stepE (k + 1) s es[j] := by
        rw [List.take_succ_eq_append_getElem hjl, List.foldl_append, ← hs.out]
        rfl
      have hbd := far_bd (es := es) (fun e he => (HF.out e he).co.1) (n := k + 1) (es.take j) { passN es k with pt := 0 } (k * es.length) (fun e he => List.mem_of_mem_take he) HB.out
      rw [← hs.out] at hbd
      have hm : k * es.length + (es.take j).length ≤ 9600 := by
        have h1 : (es.take j).length ≤ j := by simp; omega
        have h2 : k * es.length ≤ 15 * es.length := Nat.mul_le_mul_right _ (by omega)
        omega
      have HBD : Hid (∀ p, -1228800 ≤ s.far p ∧ s.far p ≤ 0) := Lib.hid fun p => by have := hbd p; omega
      have HFD := Lib.hid hfold
      generalize es[j] = x at *
      obtain ⟨fr, tt, co⟩ := x
      dsimp only at d0 d1 d2
      obtain ⟨⟨f0, f9⟩, ⟨t0, t9⟩, ⟨c0, c9⟩⟩ := hfx
      dsimp only at f0 f9 t0 t9 c0 c9
      have KX := Lib.hid (Blk.new wr #[.int .u8 fr, .int .u8 tt, .int .i8 co] 66)
      have KS2 := Lib.hid (KS.out.alloc (.cells #[.int .u8 fr, .int .u8 tt, .int .i8 co] 66))
      have hgr : g < wr.heap.size := KS.out.lt
      have BB2 := Lib.hid (BB.out.alloc (Nat.le_of_lt hgr) (.cells #[.int .u8 fr, .int .u8 tt, .int .i8 co] 66))
      have CF := Lib.hid (CM.out fr (wr.alloc (.cells #[.int .u8 fr, .int .u8 tt, .int .i8 co] 66)))
      have CT := Lib.hid (CM.out tt (wr.alloc (.cells #[.int .u8 fr, .int .u8 tt, .int .i8 co] 66)))
      clear hcell hfold hbd hm hs KS BB
      by_cases o1 : inP fr
      · rw [mayG_true o1] at CF
        by_cases o2 : inP tt
        · rw [mayG_true o2] at CT
          have o1' := o1
          have o2' := o2
          obtain ⟨p1, p2⟩ := o1'
          obtain ⟨p3, p4⟩ := o2'
          obtain ⟨df, hdf⟩ : ∃ df, s.far fr = df := ⟨_, rfl⟩
          obtain ⟨dt, hdt⟩ : ∃ dt, s.far tt = dt := ⟨_, rfl⟩
          have HDF := Lib.hid hdf
          have HDT := Lib.hid hdt
          have b1 := HBD.out fr
          have b2 := HBD.out tt
          have kf := KS2.out.srFar (p := fr) (by omega) (by omega)
          have kt := KS2.out.srFar (p := tt) (by omega) (by omega)
          rw [hdf] at b1 kf
          rw [hdt] at b2 kt
          obtain ⟨b3, b4⟩ := b1
          obtain ⟨b5, b6⟩ := b2
          have hgx : g < (wr.alloc (.cells #[.int .u8 fr, .int .u8 tt, .int .i8 co] 66)).heap.size := KS2.out.lt
          clear hdf hdt
          go_wp2_with fail
          refine CF.out.mono ?_
          rintro e w1 ⟨rfl, rfl⟩
          clear CF
          go_wp2_with fail
          refine CT.out.mono ?_
          rintro e w1 ⟨rfl, rfl⟩
          clear CT
          go_wp2_with fail
          generalize hW : wr.alloc (.cells #[.int .u8 fr, .int .u8 tt, .int .i8 co] 66) = W at *
          have hXl := KX.out.lt
          generalize wr.heap.size = X at *
          clear hW d0 d1 d2
          have e0 := KX.out.cell 0
          have e1 := KX.out.cell 1
          have e2 := KX.out.cell 2
          simp at e0 e1 e2
          have hgX : g < X := hgr
          have hne : ¬ X = g := by omega
          have hne' : ¬ g = X := by omega
          by_cases hless : df + co < dt
          · have cless : decide (df + co < dt) = true := by simpa using hless
            have NX : Hid ((⟨upI s.far tt (df + co), upI s.ahd tt fr, tt, fun p => if p = tt then k + 1 else s.t p, upI s.w tt co⟩ : BF) = (es.take (j + 1)).foldl (stepE (k + 1)) { passN es k with pt := 0 }) := Lib.hid (by
              rw [HFD.out]
              unfold stepE
              rw [if_pos ⟨⟨o1, o2⟩, by show s.far fr + co < s.far tt; rw [HDF.out, HDT.out]; exact hless⟩]
              dsimp only
              rw [HDF.out])
            have ft := KS2.out.frozen tt.toNat
            have ka := KS2.out.srAhd (p := tt) (by omega) (by omega)
            have fa := KS2.out.frozen (17 + tt.toNat)
            clear hless
            go_quiet (fail)
            go_wp2
            go_quiet (fail)
            go_wp2
            go_region
            all_goals
              go_wp2
              go_region
              all_goals
                go_wp2
                go_roundw
                case rel =>
                  refine ⟨j + 1, _, by omega, by go_num, NX, rfl, ?_, ?_⟩
                  · refine Blk.srSetAhd ?_ (by omega) (by omega) _
                    refine Blk.srSetFar ?_ (by omega) (by omega) _
                    exact KS2.out
                  · refine Below.drew ?_
                    refine Below.setCell (p := ⟨g, 17 + tt.toNat, none⟩) ?_ (Nat.le_refl g) _
                    refine Below.setCell (p := ⟨g, tt.toNat, none⟩) ?_ (Nat.le_refl g) _
                    exact ⟨BB2.out.os, BB2.out.tape, BB2.out.output, BB2.out.size, BB2.out.block⟩
                case measure => simp [intOf]; omega
          · have cless : decide (df + co < dt) = false := by simpa using hless
            have NX : Hid (s = (es.take (j + 1)).foldl (stepE (k + 1)) { passN es k with pt := 0 }) := Lib.hid (by
              rw [HFD.out]
              unfold stepE
              rw [if_neg (fun h => hless (by have := h.2; rw [HDF.out, HDT.out] at this; exact this))])
            clear hless
            go_quiet (fail)
            go_wp2
            go_quiet (fail)
            go_wp2
            go_roundw
            case rel => exact ⟨j + 1, s, by omega, by go_num, NX, rfl, KS2.out, ⟨BB2.out.os, BB2.out.tape, BB2.out.output, BB2.out.size, BB2.out.block⟩⟩
            case measure => simp [intOf]; omega
        · rw [mayG_false o2] at CT
          have NX : Hid (s = (es.take (j + 1)).foldl (stepE (k + 1)) { passN es k with pt := 0 }) := Lib.hid (by
            rw [HFD.out]
            unfold stepE
            rw [if_neg (fun h => o2 h.1.2)])
          clear o1 o2
          go_wp2_with fail
          refine CF.out.mono ?_
          rintro e w1 ⟨rfl, rfl⟩
          clear CF
          go_wp2_with fail
          refine CT.out.mono ?_
          rintro e w1 ⟨rfl, rfl⟩
          clear CT
          go_wp2_with fail
          go_roundw
          case rel => exact ⟨j + 1, s, by omega, by go_num, NX, rfl, KS2.out, BB2.out⟩
          case measure => simp [intOf]; omega
      · rw [mayG_false o1] at CF
        have NX : Hid (s = (es.take (j + 1)).foldl (stepE (k + 1)) { passN es k with pt := 0 }) := Lib.hid (by
          rw [HFD.out]
          unfold stepE
          rw [if_neg (fun h => o1 h.1.1)])
        clear o1 CT
        go_wp2_with fail
        refine CF.out.mono ?_
        rintro e w1 ⟨rfl, rfl⟩
        clear CF
        go_wp2_with fail
        go_roundw
        case rel => exact ⟨j + 1, s, by omega, by go_num, NX, rfl, KS2.out, BB2.out⟩
        case measure => simp [intOf]; omega
    · have hjj : es.take j = es := List.take_of_length_le (by omega)
      rw [hjj] at hs
      have hE : s = passN es (k + 1) := hs.out
      subst hE
      clear hs hjj
      go_wp2_with fail
      go_ret
      exact ⟨rfl, KS.out, BB.out⟩

end Go.Proofs.Ytmfacfnbokadmaa
