/-
  BooksOnce: the walk.
-/
import Derived.Test.YtdbdeodcldogmaaLives04
import Derived.Test.YtdbdeodcldogmaaMade04
namespace Go.Proofs.Ytdbdeodcldogmaa
open Go.RowKit
set_option linter.unusedSimpArgs false
set_option linter.unusedVariables false

/-- What follows of an offer that was placed. -/
structure OnceW (l : List Of) (N : Int) (y : Of) : Prop where
  may : (1 ≤ y.ow ∧ y.ow ≤ 16) ∧ (1 ≤ y.lf ∧ y.lf ≤ 1099511627776) ∧ l.length ≤ 31
  find : findO (l ++ [y]) y.se = some y
  other : ∀ ow, ow ≠ y.ow → cancelV (l ++ [y]) ow y.se = 0 ∧ cancelE (l ++ [y]) ow y.se = 15 ∧ cancelL (l ++ [y]) ow y.se = l ++ [y]
  much : takeE (l ++ [y]) y.se (y.lf + 1) = 1 ∧ takeL (l ++ [y]) y.se (y.lf + 1) = l ++ [y]
  none : takeE (l ++ [y]) y.se 0 = 1 ∧ takeL (l ++ [y]) y.se 0 = l ++ [y]
  all : takeE (l ++ [y]) y.se y.lf = 0 ∧ takeL (l ++ [y]) y.se y.lf = l
  gone : findO l y.se = Option.none
  own : cancelV (l ++ [y]) y.ow y.se = y.lf ∧ cancelE (l ++ [y]) y.ow y.se = 0
theorem findO_self' {l : List Of} {N : Int} (h : BInv l N) {x : Of} (hx : x ∈ l) : findO l x.se = some x := by
  obtain ⟨j, hj, rfl⟩ := List.mem_iff_getElem.1 hx
  refine findO_at hj (fun y hy => ?_) (by simp)
  obtain ⟨i, hi, rfl⟩ := List.mem_take_iff_getElem.1 hy
  have := List.pairwise_iff_getElem.1 h.rise i j (by omega) hj (by omega)
  simp; omega
theorem place_words {l : List Of} {y : Of} (h : BInv l y.se) (e0 : placeE l y = 0) (h2 : BInv (l ++ [y]) (y.se + 1)) : OnceW l y.se y := by
  have hm := h2.may y (by simp)
  have hf : findO (l ++ [y]) y.se = some y := findO_self' h2 (by simp)
  have hlen := h2.len
  rw [List.length_append, List.length_singleton] at hlen
  obtain ⟨m1, m2, m3, m4, m5, m6⟩ := hm
  have hz : setO (l ++ [y]) y.se 0 = l := by
    rw [setO_append, setO_other (fun x hx => ⟨by have := (h.bd x hx).2; omega, by have := (h.may x hx).2.2.2.2.1; omega⟩)]
    simp [setO, Of.put]
  have ea : takeE (l ++ [y]) y.se y.lf = 0 := by unfold takeE; rw [hf]; exact if_neg (by omega)
  have el : leftO (l ++ [y]) y.se = y.lf := by unfold leftO; rw [hf]
  have em : takeE (l ++ [y]) y.se (y.lf + 1) = 1 := by unfold takeE; rw [hf]; exact if_pos (.inr (by omega))
  have en : takeE (l ++ [y]) y.se 0 = 1 := by unfold takeE; rw [hf]; exact if_pos (.inl (by omega))
  refine ⟨⟨m1, m5, by omega⟩, hf, fun ow hw => ?_, ⟨em, by unfold takeL; rw [if_neg (by rw [em]; decide)]⟩, ⟨en, by unfold takeL; rw [if_neg (by rw [en]; decide)]⟩, ⟨ea, by unfold takeL; rw [if_pos ea, el, Int.sub_self, hz]⟩, ?_, ?_⟩
  · have e2 : cancelE (l ++ [y]) ow y.se = 15 := by unfold cancelE; rw [hf]; exact if_neg (fun e => hw e.symm)
    exact ⟨by unfold cancelV; rw [hf]; exact if_neg (fun e => hw e.symm), e2, by unfold cancelL; rw [if_neg (by rw [e2]; decide)]⟩
  · exact findO_none (fun x hx => by have := (h.bd x hx).2; simp; omega)
  · exact ⟨by unfold cancelV; rw [hf]; exact if_pos rfl, by unfold cancelE; rw [hf]; exact if_pos rfl⟩
set_option maxHeartbeats 8000000 in
set_option maxRecDepth 100000 in
theorem bonce_walk (a : Option Addr) (len cap : Nat) (xs : List Ab) (x : Of) (w : World) (h : SlIn Ab.vals 9 Ab.Ok w a len cap xs) (hx : x.Fits) :
    Calls Try.prog 7 #[.slice a len cap, .agg #[.int .u64 x.se, .int .u8 x.ow, .int .u8 x.sl, .int .u8 x.bu, .int .i64 x.lf, .int .i64 x.nu, .int .i64 x.de]] w fun e w' => e = .returned (.bool true) ∧ Below w.heap.size w w' := by
  have hcap := h.2.2.2.1
  have hmax := h.2.2.2.2.1
  unfold maxLen at hmax
  have bx := (Below.refl w.heap.size w).alloc (Nat.le_refl _) (.cells #[.int .u64 x.se, .int .u8 x.ow, .int .u8 x.sl, .int .u8 x.bu, .int .i64 x.lf, .int .i64 x.nu, .int .i64 x.de] 39)
  have HX := Lib.hid hx
  have KB := Lib.hid (Blk.new w #[.int .u64 x.se, .int .u8 x.ow, .int .u8 x.sl, .int .u8 x.bu, .int .i64 x.lf, .int .i64 x.nu, .int .i64 x.de] 39)
  have hz : w.heap.size < (w.alloc (.cells #[.int .u64 x.se, .int .u8 x.ow, .int .u8 x.sl, .int .u8 x.bu, .int .i64 x.lf, .int .i64 x.nu, .int .i64 x.de] 39)).heap.size := by simp
  have h := h.below bx
  have B0 := Lib.hid bx
  clear hx bx
  by_cases h120 : 120 < len
  · have q0 : decide (120 < (len : Int)) = true := by simp; omega
    have L := Lib.hid (lives04_any (w.alloc (.cells #[.int .u64 x.se, .int .u8 x.ow, .int .u8 x.sl, .int .u8 x.bu, .int .i64 x.lf, .int .i64 x.nu, .int .i64 x.de] 39)))
    clear h h120
    go_enter Try.func7, Try.ntmps7
    go_wp2_with fail
    refine L.out.mono ?_
    rintro e w1 ⟨rfl, b1⟩
    have B1 := Lib.hid (B0.out.trans (b1.mono B0.out.size))
    clear b1 L
    go_wp2_with fail
    go_ret
    exact ⟨rfl, B1.out⟩
  have q0 : decide (120 < (len : Int)) = false := by simp; omega
  have CM := Lib.hid (made4_any h (by omega))
  clear h
  go_enter Try.func7, Try.ntmps7
  go_wp2_with fail
  generalize w.alloc (.cells #[.int .u64 x.se, .int .u8 x.ow, .int .u8 x.sl, .int .u8 x.bu, .int .i64 x.lf, .int .i64 x.nu, .int .i64 x.de] 39) = W at *
  refine CM.out.mono ?_
  rintro e w1 ⟨g, l, N, vl, rfl, hP, hI, hN, hB⟩
  have P1 := Lib.hid hP
  have I1 := Lib.hid hI
  have B1 := Lib.hid (B0.out.trans (hB.mono B0.out.size))
  have KR1 := Lib.hid (show BlkO w1 g vl w.heap.size #[.int .u64 x.se, .int .u8 x.ow, .int .u8 x.sl, .int .u8 x.bu, .int .i64 x.lf, .int .i64 x.nu, .int .i64 x.de] 39 from ⟨KB.out.below hB KB.out.lt, OffB.old hP hz⟩)
  have hN1 := hI.n1
  have hl32 := hI.len
  have HW := Lib.hid B0.out.size
  have CN := Lib.hid (pnext_any hP.blk)
  have HF : Hid (∀ n : Int, 0 ≤ n → n ≤ 18446744073709551615 → Of.Fits ⟨n, x.ow, x.sl, x.bu, x.lf, x.nu, x.de⟩) := Lib.hid (fun n h1 h2 => ⟨⟨h1, h2⟩, HX.out.ow, HX.out.sl, HX.out.bu, HX.out.lf, HX.out.nu, HX.out.de⟩)
  clear CM hP hI hB KB B0
  go_wp2_with fail
  refine CN.out.mono ?_
  rintro e w1 ⟨rfl, rfl⟩
  have CP := Lib.hid (pplace_any (x := ⟨N, x.ow, x.sl, x.bu, x.lf, x.nu, x.de⟩) P1.out I1.out (HF.out N (by omega) (by omega)))
  have I2 := Lib.hid (BInv.place (x := ⟨N, x.ow, x.sl, x.bu, x.lf, x.nu, x.de⟩) I1.out)
  dsimp only at CP
  clear CN
  have he : placeE l ⟨N, x.ow, x.sl, x.bu, x.lf, x.nu, x.de⟩ = 1 ∨ placeE l ⟨N, x.ow, x.sl, x.bu, x.lf, x.nu, x.de⟩ = 9 ∨ placeE l ⟨N, x.ow, x.sl, x.bu, x.lf, x.nu, x.de⟩ = 0 := by unfold placeE; split; exact .inl rfl; split; exact .inr (.inl rfl); exact .inr (.inr rfl)
  rcases he with e0 | e0 | e0
  · rw [show placeE l ⟨N, x.ow, x.sl, x.bu, x.lf, x.nu, x.de⟩ = 1 from e0, show placeS l ⟨N, x.ow, x.sl, x.bu, x.lf, x.nu, x.de⟩ = 0 by unfold placeS; rw [e0]; rfl, show placeL l ⟨N, x.ow, x.sl, x.bu, x.lf, x.nu, x.de⟩ = l by unfold placeL; rw [e0]; rfl, show placeN l ⟨N, x.ow, x.sl, x.bu, x.lf, x.nu, x.de⟩ = N by unfold placeN; rw [e0]; rfl] at CP
    clear e0 I2
    have hl := KR1.out.blk.lt
    have d0 := KR1.out.blk.cell 0
    have d1 := KR1.out.blk.cell 1
    have d2 := KR1.out.blk.cell 2
    have d3 := KR1.out.blk.cell 3
    have d4 := KR1.out.blk.cell 4
    have d5 := KR1.out.blk.cell 5
    have d6 := KR1.out.blk.cell 6
    simp at d0 d1 d2 d3 d4 d5 d6
    go_wp2_with fail
    clear d0 d1 d2 d3 d4 d5 d6 hl
    refine (CP.out).mono ?_
    rintro e w2 ⟨rfl, vl2, p2, k2, m2⟩
    have B2 := Lib.hid (B1.out.trans (k2.below B1.out.size (fun j hj hf => by have := (P1.out.lt hf).1; omega)))
    have KR2 := Lib.hid (KR1.out.moved k2 m2)
    have P2 := Lib.hid p2
    clear p2 k2 m2
    clear CP
    have CN2 := Lib.hid (pnext_any P2.out.blk)
    go_wp2_with fail
    refine CN2.out.mono ?_
    rintro e w2 ⟨rfl, hs2⟩
    subst hs2
    clear CN2
    have L := Lib.hid (lives04_any w2)
    go_wp2_with fail
    refine L.out.mono ?_
    rintro e w3 ⟨rfl, b3⟩
    have BE := Lib.hid (B2.out.trans (b3.mono B2.out.size))
    clear b3 L
    go_wp2_with fail
    go_ret
    exact ⟨rfl, BE.out⟩
  · have h32 : l.length = 32 := by
      unfold placeE at e0
      split at e0
      · simp at e0
      · split at e0
        · rename_i h; rcases h with h | h
          · exact h
          · dsimp only at h; omega
        · simp at e0
    rw [show placeE l ⟨N, x.ow, x.sl, x.bu, x.lf, x.nu, x.de⟩ = 9 from e0, show placeS l ⟨N, x.ow, x.sl, x.bu, x.lf, x.nu, x.de⟩ = 0 by unfold placeS; rw [e0]; rfl, show placeL l ⟨N, x.ow, x.sl, x.bu, x.lf, x.nu, x.de⟩ = l by unfold placeL; rw [e0]; rfl, show placeN l ⟨N, x.ow, x.sl, x.bu, x.lf, x.nu, x.de⟩ = N by unfold placeN; rw [e0]; rfl] at CP
    clear e0 I2
    have hl := KR1.out.blk.lt
    have d0 := KR1.out.blk.cell 0
    have d1 := KR1.out.blk.cell 1
    have d2 := KR1.out.blk.cell 2
    have d3 := KR1.out.blk.cell 3
    have d4 := KR1.out.blk.cell 4
    have d5 := KR1.out.blk.cell 5
    have d6 := KR1.out.blk.cell 6
    simp at d0 d1 d2 d3 d4 d5 d6
    go_wp2_with fail
    clear d0 d1 d2 d3 d4 d5 d6 hl
    refine (CP.out).mono ?_
    rintro e w2 ⟨rfl, vl2, p2, k2, m2⟩
    have B2 := Lib.hid (B1.out.trans (k2.below B1.out.size (fun j hj hf => by have := (P1.out.lt hf).1; omega)))
    have KR2 := Lib.hid (KR1.out.moved k2 m2)
    have P2 := Lib.hid p2
    clear p2 k2 m2
    clear CP
    have CN2 := Lib.hid (pnext_any P2.out.blk)
    go_wp2_with fail
    refine CN2.out.mono ?_
    rintro e w2 ⟨rfl, hs2⟩
    subst hs2
    clear CN2
    have CA := Lib.hid (pall_any P2.out (by omega))
    go_wp2_with fail
    refine CA.out.mono ?_
    rintro e w3 ⟨v3, rfl, r3, b3⟩
    obtain ⟨ao2, cp2, hv2, _, _⟩ := rowed_open r3
    subst hv2
    have B3 := Lib.hid (B2.out.trans (b3.mono B2.out.size))
    have P3 := Lib.hid (P2.out.below b3)
    have KR3 := Lib.hid (KR2.out.below b3)
    have q32 : ((l.length : Int) == 32) = true := by rw [h32]; rfl
    clear r3 b3 CA h32
    have L := Lib.hid (lives04_any w3)
    go_wp2_with fail
    refine L.out.mono ?_
    rintro e w4 ⟨rfl, b4⟩
    have BE := Lib.hid (B3.out.trans (b4.mono B3.out.size))
    clear b4 L
    go_wp2_with fail
    go_ret
    exact ⟨rfl, BE.out⟩
  · rw [show placeE l ⟨N, x.ow, x.sl, x.bu, x.lf, x.nu, x.de⟩ = 0 from e0, show placeS l ⟨N, x.ow, x.sl, x.bu, x.lf, x.nu, x.de⟩ = N by unfold placeS; rw [if_pos e0], show placeL l ⟨N, x.ow, x.sl, x.bu, x.lf, x.nu, x.de⟩ = l ++ [⟨N, x.ow, x.sl, x.bu, x.lf, x.nu, x.de⟩] by unfold placeL; rw [if_pos e0], show placeN l ⟨N, x.ow, x.sl, x.bu, x.lf, x.nu, x.de⟩ = N + 1 by unfold placeN; rw [if_pos e0]] at CP
    rw [show placeL l ⟨N, x.ow, x.sl, x.bu, x.lf, x.nu, x.de⟩ = l ++ [⟨N, x.ow, x.sl, x.bu, x.lf, x.nu, x.de⟩] by unfold placeL; rw [if_pos e0], show placeN l ⟨N, x.ow, x.sl, x.bu, x.lf, x.nu, x.de⟩ = N + 1 by unfold placeN; rw [if_pos e0]] at I2
    have E := Lib.hid (place_words I1.out e0 I2.out)
    obtain ⟨hm1, hm2, hm3⟩ := E.out.may
    have hl := KR1.out.blk.lt
    have d0 := KR1.out.blk.cell 0
    have d1 := KR1.out.blk.cell 1
    have d2 := KR1.out.blk.cell 2
    have d3 := KR1.out.blk.cell 3
    have d4 := KR1.out.blk.cell 4
    have d5 := KR1.out.blk.cell 5
    have d6 := KR1.out.blk.cell 6
    simp at d0 d1 d2 d3 d4 d5 d6
    go_wp2_with fail
    clear d0 d1 d2 d3 d4 d5 d6 hl
    refine (CP.out).mono ?_
    rintro e w2 ⟨rfl, vl2, p2, k2, m2⟩
    have B2 := Lib.hid (B1.out.trans (k2.below B1.out.size (fun j hj hf => by have := (P1.out.lt hf).1; omega)))
    have KR2 := Lib.hid (KR1.out.moved k2 m2)
    have P2 := Lib.hid p2
    clear p2 k2 m2
    clear CP
    have hl := KR2.out.blk.lt
    have d0 := KR2.out.blk.cell 0
    have d1 := KR2.out.blk.cell 1
    have d2 := KR2.out.blk.cell 2
    have d3 := KR2.out.blk.cell 3
    have d4 := KR2.out.blk.cell 4
    have d5 := KR2.out.blk.cell 5
    have d6 := KR2.out.blk.cell 6
    simp at d0 d1 d2 d3 d4 d5 d6
    have hfz := KR2.out.blk.frozen 0
    go_wp2_with fail
    clear d0 d1 d2 d3 d4 d5 d6 hl hfz
    have ks : Keep (· = w.heap.size) w2 (w2.setCell ⟨w.heap.size, 0, none⟩ (.int .u64 N)) := Keep.setCell (S := (· = w.heap.size)) (Keep.refl _ _) (p := ⟨w.heap.size, 0, none⟩) (.inl rfl) _
    have PS := Lib.hid (P2.out.keep ks (fun e => KR2.out.off.2 (.inl e.symm)) (fun b hb e => KR2.out.off.2 (.inr (by rw [← e]; exact hb))))
    have BS := Lib.hid (show Below w.heap.size w (w2.setCell ⟨w.heap.size, 0, none⟩ (.int .u64 N)) from B2.out.setCell (Nat.le_refl _) _)
    have KS := Lib.hid (show BlkO (w2.setCell ⟨w.heap.size, 0, none⟩ (.int .u64 N)) g vl2 w.heap.size #[.int .u64 N, .int .u8 x.ow, .int .u8 x.sl, .int .u8 x.bu, .int .i64 x.lf, .int .i64 x.nu, .int .i64 x.de] 39 from ⟨by simpa using KR2.out.blk.set 0 (.int .u64 N), ⟨by simpa using KR2.out.off.1, KR2.out.off.2⟩⟩)
    clear ks
    generalize w2.setCell ⟨w.heap.size, 0, none⟩ (.int .u64 N) = W2 at *
    have CF := Lib.hid (pfind_any PS.out (by omega) N)
    rw [show findO (l ++ [⟨N, x.ow, x.sl, x.bu, x.lf, x.nu, x.de⟩]) N = some ⟨N, x.ow, x.sl, x.bu, x.lf, x.nu, x.de⟩ from E.out.find] at CF
    dsimp only [foundV, Of.val] at CF
    refine CF.out.mono ?_
    rintro e w3 ⟨rfl, b3⟩
    have bz := b3.alloc b3.size (.cells #[.int .u64 N, .int .u8 x.ow, .int .u8 x.sl, .int .u8 x.bu, .int .i64 x.lf, .int .i64 x.nu, .int .i64 x.de] 39)
    have KF := Lib.hid (show BlkO (w3.alloc (.cells #[.int .u64 N, .int .u8 x.ow, .int .u8 x.sl, .int .u8 x.bu, .int .i64 x.lf, .int .i64 x.nu, .int .i64 x.de] 39)) g vl2 w3.heap.size #[.int .u64 N, .int .u8 x.ow, .int .u8 x.sl, .int .u8 x.bu, .int .i64 x.lf, .int .i64 x.nu, .int .i64 x.de] 39 from ⟨Blk.new _ _ _, OffB.new PS.out b3.size (by simp)⟩)
    have B3 := Lib.hid (BS.out.trans (bz.mono BS.out.size))
    have P3 := Lib.hid (PS.out.below bz)
    have KR3 := Lib.hid (KS.out.below bz)
    clear b3 bz CF
    obtain ⟨o1, o2, o3⟩ := E.out.other (x.ow + 1) (by show x.ow + 1 ≠ x.ow; omega)
    have CC := Lib.hid (pcancel_any P3.out I2.out (x.ow + 1) N)
    rw [show cancelV (l ++ [⟨N, x.ow, x.sl, x.bu, x.lf, x.nu, x.de⟩]) (x.ow + 1) N = 0 from o1, show cancelE (l ++ [⟨N, x.ow, x.sl, x.bu, x.lf, x.nu, x.de⟩]) (x.ow + 1) N = 15 from o2, show cancelL (l ++ [⟨N, x.ow, x.sl, x.bu, x.lf, x.nu, x.de⟩]) (x.ow + 1) N = l ++ [⟨N, x.ow, x.sl, x.bu, x.lf, x.nu, x.de⟩] from o3] at CC
    clear o1 o2 o3
    have hl := KR3.out.blk.lt
    have d0 := KR3.out.blk.cell 0
    have d1 := KR3.out.blk.cell 1
    have d2 := KR3.out.blk.cell 2
    have d3 := KR3.out.blk.cell 3
    have d4 := KR3.out.blk.cell 4
    have d5 := KR3.out.blk.cell 5
    have d6 := KR3.out.blk.cell 6
    simp at d0 d1 d2 d3 d4 d5 d6
    go_wp2_with fail
    clear d0 d1 d2 d3 d4 d5 d6 hl
    refine (CC.out).mono ?_
    rintro e w4 ⟨rfl, vl4, p4, k4, m4⟩
    have B4 := Lib.hid (B3.out.trans (k4.below B3.out.size (fun j hj hf => by have := (P3.out.lt hf).1; omega)))
    have KR4 := Lib.hid (KR3.out.moved k4 m4)
    have KF4 := Lib.hid (KF.out.moved k4 m4)
    have P4 := Lib.hid p4
    clear p4 k4 m4
    clear CC
    have CN2 := Lib.hid (pnext_any P4.out.blk)
    go_wp2_with fail
    refine CN2.out.mono ?_
    rintro e w4 ⟨rfl, hs2⟩
    subst hs2
    clear CN2
    have CT := Lib.hid (ptake_any P4.out I2.out N (x.lf + 1))
    rw [show takeE (l ++ [⟨N, x.ow, x.sl, x.bu, x.lf, x.nu, x.de⟩]) N (x.lf + 1) = 1 from E.out.much.1, show takeL (l ++ [⟨N, x.ow, x.sl, x.bu, x.lf, x.nu, x.de⟩]) N (x.lf + 1) = l ++ [⟨N, x.ow, x.sl, x.bu, x.lf, x.nu, x.de⟩] from E.out.much.2] at CT
    have hl := KR4.out.blk.lt
    have d0 := KR4.out.blk.cell 0
    have d1 := KR4.out.blk.cell 1
    have d2 := KR4.out.blk.cell 2
    have d3 := KR4.out.blk.cell 3
    have d4 := KR4.out.blk.cell 4
    have d5 := KR4.out.blk.cell 5
    have d6 := KR4.out.blk.cell 6
    simp at d0 d1 d2 d3 d4 d5 d6
    have hlf := KF4.out.blk.lt
    have f0 := KF4.out.blk.cell 0
    have f1 := KF4.out.blk.cell 1
    have f2 := KF4.out.blk.cell 2
    have f3 := KF4.out.blk.cell 3
    have f4 := KF4.out.blk.cell 4
    have f5 := KF4.out.blk.cell 5
    have f6 := KF4.out.blk.cell 6
    simp at f0 f1 f2 f3 f4 f5 f6
    go_wp2_with fail
    clear d0 d1 d2 d3 d4 d5 d6 hl
    clear f0 f1 f2 f3 f4 f5 f6 hlf
    refine (CT.out).mono ?_
    rintro e w5 ⟨rfl, vl5, p5, k5, m5⟩
    have B5 := Lib.hid (B4.out.trans (k5.below B4.out.size (fun j hj hf => by have := (P4.out.lt hf).1; omega)))
    have KR5 := Lib.hid (KR4.out.moved k5 m5)
    have KF5 := Lib.hid (KF4.out.moved k5 m5)
    have P5 := Lib.hid p5
    clear p5 k5 m5
    clear CT
    have CT := Lib.hid (ptake_any P5.out I2.out N (0))
    rw [show takeE (l ++ [⟨N, x.ow, x.sl, x.bu, x.lf, x.nu, x.de⟩]) N (0) = 1 from E.out.none.1, show takeL (l ++ [⟨N, x.ow, x.sl, x.bu, x.lf, x.nu, x.de⟩]) N (0) = l ++ [⟨N, x.ow, x.sl, x.bu, x.lf, x.nu, x.de⟩] from E.out.none.2] at CT
    go_wp2_with fail
    refine (CT.out).mono ?_
    rintro e w6 ⟨rfl, vl6, p6, k6, m6⟩
    have B6 := Lib.hid (B5.out.trans (k6.below B5.out.size (fun j hj hf => by have := (P5.out.lt hf).1; omega)))
    have KR6 := Lib.hid (KR5.out.moved k6 m6)
    have KF6 := Lib.hid (KF5.out.moved k6 m6)
    have P6 := Lib.hid p6
    clear p6 k6 m6
    clear CT
    have CT := Lib.hid (ptake_any P6.out I2.out N (x.lf))
    rw [show takeE (l ++ [⟨N, x.ow, x.sl, x.bu, x.lf, x.nu, x.de⟩]) N (x.lf) = 0 from E.out.all.1, show takeL (l ++ [⟨N, x.ow, x.sl, x.bu, x.lf, x.nu, x.de⟩]) N (x.lf) = l from E.out.all.2] at CT
    have I3 : Hid (BInv l (N + 1)) := Lib.hid (by have := BInv.take I2.out N x.lf; rwa [show takeL (l ++ [⟨N, x.ow, x.sl, x.bu, x.lf, x.nu, x.de⟩]) N x.lf = l from E.out.all.2] at this)
    have hl := KR6.out.blk.lt
    have d0 := KR6.out.blk.cell 0
    have d1 := KR6.out.blk.cell 1
    have d2 := KR6.out.blk.cell 2
    have d3 := KR6.out.blk.cell 3
    have d4 := KR6.out.blk.cell 4
    have d5 := KR6.out.blk.cell 5
    have d6 := KR6.out.blk.cell 6
    simp at d0 d1 d2 d3 d4 d5 d6
    go_wp2_with fail
    clear d0 d1 d2 d3 d4 d5 d6 hl
    refine (CT.out).mono ?_
    rintro e w7 ⟨rfl, vl7, p7, k7, m7⟩
    have B7 := Lib.hid (B6.out.trans (k7.below B6.out.size (fun j hj hf => by have := (P6.out.lt hf).1; omega)))
    have KR7 := Lib.hid (KR6.out.moved k7 m7)
    have P7 := Lib.hid p7
    clear p7 k7 m7
    clear CT
    have CF := Lib.hid (pfind_any P7.out (by omega) N)
    rw [show findO l N = none from E.out.gone] at CF
    dsimp only [foundV, Of.val, noOf] at CF
    go_wp2_with fail
    refine (CF.out).mono ?_
    rintro e w8 ⟨rfl, b8⟩
    have B8 := Lib.hid (B7.out.trans (b8.mono B7.out.size))
    have P8 := Lib.hid (P7.out.below b8)
    have KR8 := Lib.hid (KR7.out.below b8)
    clear b8 CF
    have e1 : placeE l ⟨N + 1, x.ow, x.sl, x.bu, x.lf, x.nu, x.de⟩ = 0 := by
      unfold placeE
      rw [if_neg (by simpa using show Of.may ⟨N + 1, x.ow, x.sl, x.bu, x.lf, x.nu, x.de⟩ from (I2.out.may ⟨N, x.ow, x.sl, x.bu, x.lf, x.nu, x.de⟩ (by simp))), if_neg (by have := hm3; dsimp only; omega)]
    have CP := Lib.hid (pplace_any (x := ⟨N + 1, x.ow, x.sl, x.bu, x.lf, x.nu, x.de⟩) P8.out I3.out (HF.out (N + 1) (by omega) (by omega)))
    have I4 := Lib.hid (BInv.place (x := ⟨N + 1, x.ow, x.sl, x.bu, x.lf, x.nu, x.de⟩) I3.out)
    rw [show placeE l ⟨N + 1, x.ow, x.sl, x.bu, x.lf, x.nu, x.de⟩ = 0 from e1, show placeS l ⟨N + 1, x.ow, x.sl, x.bu, x.lf, x.nu, x.de⟩ = N + 1 by unfold placeS; rw [if_pos e1], show placeL l ⟨N + 1, x.ow, x.sl, x.bu, x.lf, x.nu, x.de⟩ = l ++ [⟨N + 1, x.ow, x.sl, x.bu, x.lf, x.nu, x.de⟩] by unfold placeL; rw [if_pos e1], show placeN l ⟨N + 1, x.ow, x.sl, x.bu, x.lf, x.nu, x.de⟩ = N + 1 + 1 by unfold placeN; rw [if_pos e1]] at CP
    rw [show placeL l ⟨N + 1, x.ow, x.sl, x.bu, x.lf, x.nu, x.de⟩ = l ++ [⟨N + 1, x.ow, x.sl, x.bu, x.lf, x.nu, x.de⟩] by unfold placeL; rw [if_pos e1], show placeN l ⟨N + 1, x.ow, x.sl, x.bu, x.lf, x.nu, x.de⟩ = N + 1 + 1 by unfold placeN; rw [if_pos e1]] at I4
    have E2 := Lib.hid (place_words I3.out e1 I4.out)
    dsimp only at CP
    clear e1
    have hl := KR8.out.blk.lt
    have d0 := KR8.out.blk.cell 0
    have d1 := KR8.out.blk.cell 1
    have d2 := KR8.out.blk.cell 2
    have d3 := KR8.out.blk.cell 3
    have d4 := KR8.out.blk.cell 4
    have d5 := KR8.out.blk.cell 5
    have d6 := KR8.out.blk.cell 6
    simp at d0 d1 d2 d3 d4 d5 d6
    go_wp2_with fail
    clear d0 d1 d2 d3 d4 d5 d6 hl
    refine (CP.out).mono ?_
    rintro e w9 ⟨rfl, vl9, p9, k9, m9⟩
    have B9 := Lib.hid (B8.out.trans (k9.below B8.out.size (fun j hj hf => by have := (P8.out.lt hf).1; omega)))
    have KR9 := Lib.hid (KR8.out.moved k9 m9)
    have P9 := Lib.hid p9
    clear p9 k9 m9
    clear CP
    have CC := Lib.hid (pcancel_any P9.out I4.out x.ow (N + 1))
    rw [show cancelV (l ++ [⟨N + 1, x.ow, x.sl, x.bu, x.lf, x.nu, x.de⟩]) x.ow (N + 1) = x.lf from E2.out.own.1, show cancelE (l ++ [⟨N + 1, x.ow, x.sl, x.bu, x.lf, x.nu, x.de⟩]) x.ow (N + 1) = 0 from E2.out.own.2] at CC
    have hl := KR9.out.blk.lt
    have d0 := KR9.out.blk.cell 0
    have d1 := KR9.out.blk.cell 1
    have d2 := KR9.out.blk.cell 2
    have d3 := KR9.out.blk.cell 3
    have d4 := KR9.out.blk.cell 4
    have d5 := KR9.out.blk.cell 5
    have d6 := KR9.out.blk.cell 6
    simp at d0 d1 d2 d3 d4 d5 d6
    go_wp2_with fail
    clear d0 d1 d2 d3 d4 d5 d6 hl
    refine (CC.out).mono ?_
    rintro e w10 ⟨rfl, vl10, p10, k10, m10⟩
    have B10 := Lib.hid (B9.out.trans (k10.below B9.out.size (fun j hj hf => by have := (P9.out.lt hf).1; omega)))
    have KR10 := Lib.hid (KR9.out.moved k10 m10)
    have P10 := Lib.hid p10
    clear p10 k10 m10
    clear CC
    have L := Lib.hid (lives04_any w10)
    have hl := KR10.out.blk.lt
    have d0 := KR10.out.blk.cell 0
    have d1 := KR10.out.blk.cell 1
    have d2 := KR10.out.blk.cell 2
    have d3 := KR10.out.blk.cell 3
    have d4 := KR10.out.blk.cell 4
    have d5 := KR10.out.blk.cell 5
    have d6 := KR10.out.blk.cell 6
    simp at d0 d1 d2 d3 d4 d5 d6
    go_wp2_with fail
    clear d0 d1 d2 d3 d4 d5 d6 hl
    refine L.out.mono ?_
    rintro e w11 ⟨rfl, b11⟩
    have BE := Lib.hid (B10.out.trans (b11.mono B10.out.size))
    clear b11 L
    go_wp2_with fail
    go_ret
    exact ⟨rfl, BE.out⟩

end Go.Proofs.Ytdbdeodcldogmaa
