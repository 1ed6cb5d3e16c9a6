/-
  Pieces of one proof, without what is not wanted: Ref10, Ref03i.
-/
import Derived.Test.YtbieomgpfhloeaaGreatP02
import Derived.Test.YtbieomgpfhloeaaGreatP13
import Derived.Test.YtbieomgpfhloeaaGreatP21
import Derived.Test.YtbieomgpfhloeaaGreatP23
import Derived.Laws.AppendOwnNone
set_option linter.unusedSimpArgs false
set_option linter.unusedVariables false
namespace Go.Proofs.YtbieomgpfhloeaaGreat
open Go.RowKit
def HalfAt (T w0 : Int) (w : World) (n least : Value) (wr : World) : Prop :=
 ∃ a b : Int, least = .int .i64 a ∧ n = .int .i64 b ∧ 0 ≤ a ∧ a ≤ T ∧ T ≤ b ∧ b ≤ w0 ∧ Below w.heap.size w wr
set_option maxHeartbeats 32000000 in
set_option maxRecDepth 100000 in
theorem rmay10_any {w : World} {bl bb rl rb : Nat} {ps : List Int} {ls : List Ln} {l : List Of} {N : Int} {vp vl vb : Value} (hR : RefL w bl rl ps ls vp vl) (hI : LInv ps ls) (hB : RefB w bb rb l N vb) (hJ : BInv l N)
  (s tk pt want most m1 m2 : Int) (ht : In8 tk) (hto : In8 pt) (hw : In64 want) (hmo : In64 most) (hG : ∀ o, findO l s = some o → Goes ps ls o tk pt m1 m2) :
  Calls Tryz.prog 12 #[.agg #[.pointer (some ⟨rl, 0, none⟩), .pointer (some ⟨rb, 0, none⟩)], .int .u64 s, .int .u8 tk, .int .u8 pt, .int .i64 want, .int .i64 most] w fun e w' => e = .returned (.int .i64 (mayV l ps s tk pt want most m1 m2)) ∧ Below w.heap.size w w' := by
 have bw := (Below.refl w.heap.size w).alloc (Nat.le_refl _) (.cells #[.pointer (some ⟨rl, 0, none⟩), .pointer (some ⟨rb, 0, none⟩)] 37)
 have HR := Lib.hid (hR.below bw)
 have HB := Lib.hid (hB.below bw)
 have II := Lib.hid hI
 have KX := Lib.hid (Blk.new w #[.pointer (some ⟨rl, 0, none⟩), .pointer (some ⟨rb, 0, none⟩)] 37)
 have B0 := Lib.hid bw
 have HT := Lib.hid ht
 have HTo := Lib.hid hto
 have HW := Lib.hid hw
 have HMo := Lib.hid hmo
 clear bw hR hB hI ht hto hw hmo
 go_enter Tryz.func12, Tryz.ntmps12
 go_wp2_with fail
 generalize w.alloc (.cells #[.pointer (some ⟨rl, 0, none⟩), .pointer (some ⟨rb, 0, none⟩)] 37) = W at *
 have kx := KX.out.lt
 have e0 := KX.out.cell 0; have e1 := KX.out.cell 1
 simp at e0 e1
 go_wp2_with fail
 refine (bfind_any HB.out s).mono ?_
 cases hf : findO l s with
 | none =>
  rintro e w1 ⟨rfl, b1⟩
  have B1 := Lib.hid (B0.out.trans (b1.mono B0.out.size))
  have EV : Hid (mayV l ps s tk pt want most m1 m2 = 0) := Lib.hid (by unfold mayV; rw [hf])
  clear b1 e0 e1 kx
  unfold foundV noOf Of.val
  go_wp2_with fail
  go_ret
  exact ⟨by rw [EV.out]; rfl, B1.out.trans (((Below.refl w1.heap.size w1).alloc (Nat.le_refl _) _).mono B1.out.size)⟩
 | some o =>
  have HGo := Lib.hid (hG o hf)
  have hmem := (findO_mem hf).1
  have hmay := hJ.may o hmem
  have hfit := hJ.fits hmem
  obtain ⟨⟨o1, o2⟩, ⟨o3, o4⟩, ⟨o5, o6⟩, _, ⟨o7, o8⟩, o9⟩ := hmay
  have FT := Lib.hid hfit
  have MY := Lib.hid o9
  rintro e w1 ⟨rfl, b1⟩
  have EV : Hid (mayV l ps s tk pt want most m1 m2 = mayO o ps tk pt want most m1 m2) := Lib.hid (by unfold mayV; rw [hf])
  have BD := Lib.hid ((hG o hf).bd II.out)
  clear hG hmem hfit hf
  have kx1 := (KX.out.below b1 KX.out.lt).lt
  have f0 := (KX.out.below b1 KX.out.lt).cell 0; have f1 := (KX.out.below b1 KX.out.lt).cell 1
  simp at f0 f1
  have bo := (Below.refl w1.heap.size w1).alloc (Nat.le_refl _) (.cells #[.int .u64 o.se, .int .u8 o.ow, .int .u8 o.sl, .int .u8 o.bu, .int .i64 o.lf, .int .i64 o.nu, .int .i64 o.de] 60)
  have KO := Lib.hid (Blk.new w1 #[.int .u64 o.se, .int .u8 o.ow, .int .u8 o.sl, .int .u8 o.bu, .int .i64 o.lf, .int .i64 o.nu, .int .i64 o.de] 60)
  have KX1 := Lib.hid ((KX.out.below b1 KX.out.lt).below bo kx1)
  have HR1 := Lib.hid ((HR.out.below b1).below bo)
  have B1 := Lib.hid (B0.out.trans ((b1.mono B0.out.size).trans (bo.mono (Nat.le_trans B0.out.size b1.size))))
  clear b1 bo e0 e1 kx f0 f1 kx1
  have CF := Lib.hid (rhas_any HR1.out o.ow)
  have CT := Lib.hid (rhas_any HR1.out tk)
  have CU := Lib.hid (rhas_any HR1.out pt)
  have f0 := KX1.out.cell 0; have f1 := KX1.out.cell 1
  have kxl := KX1.out.lt
  have d0 := KO.out.cell 0; have d1 := KO.out.cell 1; have d2 := KO.out.cell 2; have d3 := KO.out.cell 3; have d4 := KO.out.cell 4; have d5 := KO.out.cell 5; have d6 := KO.out.cell 6
  have kol := KO.out.lt
  simp at f0 f1 d0 d1 d2 d3 d4 d5 d6
  by_cases hbad : o.ow = tk ∨ o.ow ∉ ps ∨ tk ∉ ps ∨ pt ∉ ps ∨ want < 1 ∨ most < 1
  ·have EZ : Hid (mayV l ps s tk pt want most m1 m2 = 0) := Lib.hid (by rw [EV.out]; unfold mayO; rw [if_pos hbad])
   clear EV
   unfold foundV Of.val
   dsimp only
   by_cases c1 : o.ow = tk
   ·have q1 : (o.ow == tk) = true := by simpa using c1
    clear hbad c1 CF CT CU
    go_wp2_with fail
    go_ret
    exact ⟨by rw [EZ.out]; rfl, B1.out⟩
   have q1 : (o.ow == tk) = false := by simpa using c1
   by_cases c2 : o.ow ∉ ps
   ·rw [decide_eq_false c2] at CF
    clear hbad c1 c2 CT CU
    go_wp2_with fail
    refine CF.out.mono ?_
    rintro e w2 ⟨rfl, rfl⟩
    go_wp2_with fail
    go_ret
    exact ⟨by rw [EZ.out]; rfl, B1.out⟩
   have c2 := Decidable.not_not.1 c2
   rw [decide_eq_true c2] at CF
   by_cases c3 : tk ∉ ps
   ·rw [decide_eq_false c3] at CT
    clear hbad c1 c2 c3 CU
    go_wp2_with fail
    refine CF.out.mono ?_
    rintro e w2 ⟨rfl, rfl⟩
    go_wp2_with fail
    refine CT.out.mono ?_
    rintro e w2 ⟨rfl, rfl⟩
    go_wp2_with fail
    go_ret
    exact ⟨by rw [EZ.out]; rfl, B1.out⟩
   have c3 := Decidable.not_not.1 c3
   rw [decide_eq_true c3] at CT
   by_cases c4 : pt ∉ ps
   ·rw [decide_eq_false c4] at CU
    clear hbad c1 c2 c3 c4
    go_wp2_with fail
    refine CF.out.mono ?_
    rintro e w2 ⟨rfl, rfl⟩
    go_wp2_with fail
    refine CT.out.mono ?_
    rintro e w2 ⟨rfl, rfl⟩
    go_wp2_with fail
    refine CU.out.mono ?_
    rintro e w2 ⟨rfl, rfl⟩
    go_wp2_with fail
    go_ret
    exact ⟨by rw [EZ.out]; rfl, B1.out⟩
   have c4 := Decidable.not_not.1 c4
   rw [decide_eq_true c4] at CU
   by_cases c5 : want < 1
   ·have q2 : decide (want < 1) = true := by simpa using c5
    clear hbad c1 c2 c3 c4 c5
    go_wp2_with fail
    refine CF.out.mono ?_
    rintro e w2 ⟨rfl, rfl⟩
    go_wp2_with fail
    refine CT.out.mono ?_
    rintro e w2 ⟨rfl, rfl⟩
    go_wp2_with fail
    refine CU.out.mono ?_
    rintro e w2 ⟨rfl, rfl⟩
    go_wp2_with fail
    go_ret
    exact ⟨by rw [EZ.out]; rfl, B1.out⟩
   ·have q2 : decide (want < 1) = false := by simpa using c5
    have c6 : most < 1 := by
     rcases hbad with h | h | h | h | h | h
     ·exact absurd h c1
     ·exact absurd c2 h
     ·exact absurd c3 h
     ·exact absurd c4 h
     ·exact absurd h c5
     ·exact h
    have q3 : decide (most < 1) = true := by simpa using c6
    clear hbad c1 c2 c3 c4 c5 c6
    go_wp2_with fail
    refine CF.out.mono ?_
    rintro e w2 ⟨rfl, rfl⟩
    go_wp2_with fail
    refine CT.out.mono ?_
    rintro e w2 ⟨rfl, rfl⟩
    go_wp2_with fail
    refine CU.out.mono ?_
    rintro e w2 ⟨rfl, rfl⟩
    go_wp2_with fail
    go_ret
    exact ⟨by rw [EZ.out]; rfl, B1.out⟩
  ·have hgood : o.ow ≠ tk ∧ o.ow ∈ ps ∧ tk ∈ ps ∧ pt ∈ ps ∧ 1 ≤ want ∧ 1 ≤ most := by
    refine ⟨fun h => hbad (.inl h), ?_, ?_, ?_, ?_, ?_⟩
    ·exact Classical.byContradiction fun h => hbad (.inr (.inl h))
    ·exact Classical.byContradiction fun h => hbad (.inr (.inr (.inl h)))
    ·exact Classical.byContradiction fun h => hbad (.inr (.inr (.inr (.inl h))))
    ·exact Int.not_lt.1 fun h => hbad (.inr (.inr (.inr (.inr (.inl (by omega))))))
    ·exact Int.not_lt.1 fun h => hbad (.inr (.inr (.inr (.inr (.inr (by omega))))))
   obtain ⟨c1, c2, c3, c4, c5, c6⟩ := hgood
   have q1 : (o.ow == tk) = false := by simpa using c1
   have q2 : decide (want < 1) = false := by simp; omega
   have q3 : decide (most < 1) = false := by simp; omega
   rw [decide_eq_true c2] at CF
   rw [decide_eq_true c3] at CT
   rw [decide_eq_true c4] at CU
   obtain ⟨⟨b1, b2⟩, b3, b4⟩ := BD.out
   obtain ⟨⟨μ1, hμ1, hm1⟩, μ2, hμ2, hm2⟩ := HGo.out
   have CA := Lib.hid (fun w (h : RefL w bl rl ps ls vp vl) => rmost9_any h II.out FT.out.ow HTo.out hμ1)
   rw [hm1] at CA
   have CB := Lib.hid (fun w (h : RefL w bl rl ps ls vp vl) => rmost9_any h II.out HT.out FT.out.ow hμ2)
   rw [hm2] at CB
   obtain ⟨n1, hn1⟩ : ∃ n1, (if pt = o.ow then min want o.lf else min (min want o.lf) m1) = n1 := ⟨_, rfl⟩
   obtain ⟨g, hg⟩ : ∃ g, min (min most 1099511627776) m2 = g := ⟨_, rfl⟩
   have hn0 : 0 ≤ n1 ∧ n1 ≤ 1099511627776 := by rw [← hn1]; split <;> omega
   have hg0 : 0 ≤ g ∧ g ≤ 1099511627776 := by omega
   have ET : Hid (mayV l ps s tk pt want most m1 m2 = min n1 (g * o.de / o.nu)) := Lib.hid (by rw [EV.out]; unfold mayO; rw [if_neg hbad, hn1, hg, fit_half MY.out hg0.1 hn0.2])
   have hT0 : 0 ≤ g * o.de / o.nu := Int.ediv_nonneg (Int.mul_nonneg hg0.1 (by have := may_bd MY.out; omega)) (by have := may_bd MY.out; omega)
   have HN1 := Lib.hid hn1
   have HG1 : Hid ((if m2 < if 1099511627776 < most then 1099511627776 else most then m2 else if 1099511627776 < most then 1099511627776 else most) = g) := Lib.hid (by rw [← hg]; omega)
   have UT := Lib.hid (fun y (hy : 0 ≤ y) => upV2_test y g o.nu o.de MY.out hy hg0.1 (by omega))
   generalize g * o.de / o.nu = q at *
   clear hbad c1 c2 c3 c4 EV hμ1 hm1 hμ2 hm2 hg HGo BD
   unfold foundV Of.val
   dsimp only
   go_wp2_with fail
   refine CF.out.mono ?_
   rintro e w2 ⟨rfl, rfl⟩
   go_wp2_with fail
   refine CT.out.mono ?_
   rintro e w2 ⟨rfl, rfl⟩
   go_wp2_with fail
   refine CU.out.mono ?_
   rintro e w2 ⟨rfl, rfl⟩
   by_cases ho : pt = o.ow
   ·skip
    have q4 : (pt == o.ow) = true := by simpa using ho
    have hN : min want o.lf = n1 := by rw [← HN1.out, if_pos ho]
    have HNN := Lib.hid hN
    clear hN ho
    go_wp2_with fail
    refine (CB.out _ HR1.out).mono ?_
    rintro e w4 ⟨rfl, b4⟩
    have KO4 := Lib.hid (KO.out.below b4 KO.out.lt)
    have B4 := Lib.hid (B1.out.trans (b4.mono B1.out.size))
    clear b4 KO KX1 HR1 B1 CA CB
    clear f0 f1 kxl d0 d1 d2 d3 d4 d5 d6 kol
    go_upto_region 8 with fail
    rw [HG1.out, HNN.out]
    go_wp2_with fail
    go_loopw [15, 17, 18, 19, 20] (fun n a _ _ _ wr => HalfAt (min n1 q) n1 w4 n a wr) (fun n a _ _ _ _ => (intOf n - intOf a).toNat)
    case atStart => exact ⟨0, n1, rfl, rfl, by omega, by omega, by omega, by omega, Below.refl _ _⟩
    case round =>
     obtain ⟨a, b, rfl, rfl, a0, aT, Tb, bw, hB⟩ := hrel
     have BB := Lib.hid hB
     have d5 := (KO4.out.below hB KO4.out.lt).cell 5; have d6 := (KO4.out.below hB KO4.out.lt).cell 6
     have kol := (KO4.out.below hB KO4.out.lt).lt
     simp at d5 d6
     clear hB
     by_cases hab : a < b
     ·have q5 : decide (a < b) = true := by simpa using hab
      have hdv : (a + b + 1).tdiv 2 = (a + b + 1) / 2 := Int.tdiv_eq_ediv_of_nonneg (by omega)
      obtain ⟨hf, hhf⟩ : ∃ hf, (a + b + 1) / 2 = hf := ⟨_, rfl⟩
      rw [hhf] at hdv
      have hf1 : a < hf ∧ hf ≤ b := by omega
      obtain ⟨hf1, hf2⟩ := hf1
      have CC := Lib.hid (r2up_any hf o.nu o.de wr ⟨by omega, by omega⟩ FT.out.nu FT.out.de)
      have HAB := Lib.hid (And.intro hf1 hf2)
      have hst : 0 ≤ hf := by omega
      clear hhf hab
      rcases UT.out hf hst with ⟨x, e, hx, hle⟩ | ⟨x, e, hx, hgt⟩ | ⟨e, hgt⟩
      ·rw [e] at CC
       have HL := Lib.hid hle
       clear e hle
       go_wp2_with fail
       refine CC.out.mono ?_
       rintro e w6 ⟨rfl, b6⟩
       have B6 := Lib.hid (BB.out.trans (b6.mono BB.out.size))
       clear b6 CC d5 d6 kol
       go_wp2_with fail
       exact ⟨⟨hf, b, rfl, rfl, by omega, by have := HL.out; omega, by omega, by omega, B6.out⟩, by simp [intOf]; omega⟩
      ·rw [e] at CC
       have HL := Lib.hid hgt
       clear e hgt
       go_wp2_with fail
       refine CC.out.mono ?_
       rintro e w6 ⟨rfl, b6⟩
       have B6 := Lib.hid (BB.out.trans (b6.mono BB.out.size))
       clear b6 CC d5 d6 kol
       go_wp2_with fail
       exact ⟨⟨a, hf - 1, rfl, by go_num, by omega, by omega, by have := HL.out; omega, by omega, B6.out⟩, by simp [intOf]; omega⟩
      ·rw [e] at CC
       have HL := Lib.hid hgt
       clear e hgt
       go_wp2_with fail
       refine CC.out.mono ?_
       rintro e w6 ⟨rfl, b6⟩
       have B6 := Lib.hid (BB.out.trans (b6.mono BB.out.size))
       clear b6 CC d5 d6 kol
       go_wp2_with fail
       exact ⟨⟨a, hf - 1, rfl, by go_num, by omega, by omega, by have := HL.out; omega, by omega, B6.out⟩, by simp [intOf]; omega⟩
     ·have q5 : decide (a < b) = false := by simpa using hab
      have EA : Hid (mayV l ps s tk pt want most m1 m2 = a) := Lib.hid (by rw [ET.out]; omega)
      have B7 := Lib.hid (B4.out.trans (BB.out.mono B4.out.size))
      go_wp2_with fail
      go_ret
      exact ⟨by rw [EA.out]; rfl, B7.out⟩
   ·skip
    have q4 : (pt == o.ow) = false := by simpa using ho
    have hN : min (min want o.lf) m1 = n1 := by rw [← HN1.out, if_neg ho]
    have HNN : Hid (min want (min o.lf m1) = n1) := Lib.hid (by omega)
    clear hN ho
    go_wp2_with fail
    refine (CA.out _ HR1.out).mono ?_
    rintro e w3 ⟨rfl, b3⟩
    have KO3 := Lib.hid (KO.out.below b3 KO.out.lt)
    have KX3 := Lib.hid (KX1.out.below b3 KX1.out.lt)
    have HR3 := Lib.hid (HR1.out.below b3)
    have B3 := Lib.hid (B1.out.trans (b3.mono B1.out.size))
    clear b3 KO KX1 HR1 B1
    clear f0 f1 kxl d0 d1 d2 d3 d4 d5 d6 kol
    have f0 := KX3.out.cell 0; have f1 := KX3.out.cell 1
    have kxl := KX3.out.lt
    have d0 := KO3.out.cell 0; have d1 := KO3.out.cell 1; have d2 := KO3.out.cell 2; have d3 := KO3.out.cell 3; have d4 := KO3.out.cell 4; have d5 := KO3.out.cell 5; have d6 := KO3.out.cell 6
    have kol := KO3.out.lt
    simp at f0 f1 d0 d1 d2 d3 d4 d5 d6
    go_wp2_with fail
    refine (CB.out _ HR3.out).mono ?_
    rintro e w4 ⟨rfl, b4⟩
    have KO4 := Lib.hid (KO3.out.below b4 KO3.out.lt)
    have B4 := Lib.hid (B3.out.trans (b4.mono B3.out.size))
    clear b4 KO3 KX3 HR3 B3 CA CB
    clear f0 f1 kxl d0 d1 d2 d3 d4 d5 d6 kol
    go_upto_region 8 with fail
    rw [HG1.out, HNN.out]
    go_wp2_with fail
    go_loopw [15, 17, 18, 19, 20] (fun n a _ _ _ wr => HalfAt (min n1 q) n1 w4 n a wr) (fun n a _ _ _ _ => (intOf n - intOf a).toNat)
    case atStart => exact ⟨0, n1, rfl, rfl, by omega, by omega, by omega, by omega, Below.refl _ _⟩
    case round =>
     obtain ⟨a, b, rfl, rfl, a0, aT, Tb, bw, hB⟩ := hrel
     have BB := Lib.hid hB
     have d5 := (KO4.out.below hB KO4.out.lt).cell 5; have d6 := (KO4.out.below hB KO4.out.lt).cell 6
     have kol := (KO4.out.below hB KO4.out.lt).lt
     simp at d5 d6
     clear hB
     by_cases hab : a < b
     ·have q5 : decide (a < b) = true := by simpa using hab
      have hdv : (a + b + 1).tdiv 2 = (a + b + 1) / 2 := Int.tdiv_eq_ediv_of_nonneg (by omega)
      obtain ⟨hf, hhf⟩ : ∃ hf, (a + b + 1) / 2 = hf := ⟨_, rfl⟩
      rw [hhf] at hdv
      have hf1 : a < hf ∧ hf ≤ b := by omega
      obtain ⟨hf1, hf2⟩ := hf1
      have CC := Lib.hid (r2up_any hf o.nu o.de wr ⟨by omega, by omega⟩ FT.out.nu FT.out.de)
      have HAB := Lib.hid (And.intro hf1 hf2)
      have hst : 0 ≤ hf := by omega
      clear hhf hab
      rcases UT.out hf hst with ⟨x, e, hx, hle⟩ | ⟨x, e, hx, hgt⟩ | ⟨e, hgt⟩
      ·rw [e] at CC
       have HL := Lib.hid hle
       clear e hle
       go_wp2_with fail
       refine CC.out.mono ?_
       rintro e w6 ⟨rfl, b6⟩
       have B6 := Lib.hid (BB.out.trans (b6.mono BB.out.size))
       clear b6 CC d5 d6 kol
       go_wp2_with fail
       exact ⟨⟨hf, b, rfl, rfl, by omega, by have := HL.out; omega, by omega, by omega, B6.out⟩, by simp [intOf]; omega⟩
      ·rw [e] at CC
       have HL := Lib.hid hgt
       clear e hgt
       go_wp2_with fail
       refine CC.out.mono ?_
       rintro e w6 ⟨rfl, b6⟩
       have B6 := Lib.hid (BB.out.trans (b6.mono BB.out.size))
       clear b6 CC d5 d6 kol
       go_wp2_with fail
       exact ⟨⟨a, hf - 1, rfl, by go_num, by omega, by omega, by have := HL.out; omega, by omega, B6.out⟩, by simp [intOf]; omega⟩
      ·rw [e] at CC
       have HL := Lib.hid hgt
       clear e hgt
       go_wp2_with fail
       refine CC.out.mono ?_
       rintro e w6 ⟨rfl, b6⟩
       have B6 := Lib.hid (BB.out.trans (b6.mono BB.out.size))
       clear b6 CC d5 d6 kol
       go_wp2_with fail
       exact ⟨⟨a, hf - 1, rfl, by go_num, by omega, by omega, by have := HL.out; omega, by omega, B6.out⟩, by simp [intOf]; omega⟩
     ·have q5 : decide (a < b) = false := by simpa using hab
      have EA : Hid (mayV l ps s tk pt want most m1 m2 = a) := Lib.hid (by rw [ET.out]; omega)
      have B7 := Lib.hid (B4.out.trans (BB.out.mono B4.out.size))
      go_wp2_with fail
      go_ret
      exact ⟨by rw [EA.out]; rfl, B7.out⟩
end Go.Proofs.YtbieomgpfhloeaaGreat
namespace Go.Proofs.YtbieomgpfhloeaaGreat
open Go.RowKit
theorem lnCells_one_cell (ls : List Ln) : ∀ u ∈ lnCells ls, u.oneCell' = true := by
 intro u hu
 unfold lnCells at hu
 obtain ⟨x, _, hx⟩ := List.mem_flatMap.1 hu
 simp [Ln.vals] at hx
 rcases hx with rfl | rfl | rfl | rfl | rfl <;> rfl
def Copied (W : World) (base : Nat) (ps : List Int) (ls : List Ln) (g : Value × Value × Nat) (D : Nat → Bool) (w : World) : Prop :=
 Below W.heap.size W w ∧ (D 4 = true → w.ownsRow base 43 1 g.1 ps.length (ps.map (.int .u8)) ∧ ∀ b, g.1.ownBlock = some b → W.heap.size ≤ b) ∧ (D 9 = true → w.ownsRow base 102 5 g.2.1 ls.length (lnCells ls) ∧ ∀ b, g.2.1.ownBlock = some b → W.heap.size ≤ b) ∧ (D 11 = true → W.heap.size ≤ g.2.2 ∧ Blk w g.2.2 #[g.1, g.2.1] 127)
theorem Copied.step {W w w' : World} {base : Nat} {ps : List Int} {ls : List Ln} {g : Value × Value × Nat} {D : Nat → Bool} {k : Nat} (h : Copied W base ps ls g D w) (hb : Below w.heap.size w w') (h4 : k ≠ 4) (h9 : k ≠ 9) (h11 : k ≠ 11) : Copied W base ps ls g (ins k D) w' := by
 obtain ⟨b, p, l, s⟩ := h
 have e4 : ¬ 4 = k := fun e => h4 e.symm
 have e9 : ¬ 9 = k := fun e => h9 e.symm
 have e11 : ¬ 11 = k := fun e => h11 e.symm
 refine ⟨b.trans (hb.mono b.size), fun d => ?_, fun d => ?_, fun d => ?_⟩
 ·simp [ins, e4] at d; exact ⟨owns_below (p d).1 hb, (p d).2⟩
 ·simp [ins, e9] at d; exact ⟨owns_below (l d).1 hb, (l d).2⟩
 ·simp [ins, e11] at d; exact ⟨(s d).1, (s d).2.below hb (s d).2.lt⟩
def CopyPost (base : Nat) (ps : List Int) (ls : List Ln) (w : World) (e : Ending) (w' : World) : Prop :=
 ∃ g' vp' vl', e = .returned (.pointer (some ⟨g', 0, none⟩)) ∧ RefL w' base g' ps ls vp' vl' ∧ w.heap.size ≤ g' ∧ (∀ b, vp'.ownBlock = some b → w.heap.size ≤ b) ∧ (∀ b, vl'.ownBlock = some b → w.heap.size ≤ b) ∧ Below w.heap.size w w'
set_option maxHeartbeats 4000000 in
set_option maxRecDepth 100000 in
theorem rcopy_any {w : World} {base g : Nat} {ps : List Int} {ls : List Ln} {vp vl : Value} (h : RefL w base g ps ls vp vl) (hp : ps.length ≤ 1000) (hl : ls.length ≤ 1000) :
  Calls Tryz.prog 37 #[.pointer (some ⟨g, 0, none⟩)] w (CopyPost base ps ls w) := by
 have H := Lib.hid h
 have hg := h.blk.lt
 have hbase0 := h.ge
 clear h
 go_enter Tryz.func37, Tryz.ntmps37
 go_wp2_with fail
 refine region_ghost (by kernel_rfl) (fun s : Value × Value × Nat => [.pointer (some ⟨g, 0, none⟩), .pointer (some ⟨g, 0, none⟩), .pointer (some ⟨g, 0, none⟩), vp, s.1, .pointer (some ⟨g, 0, none⟩), .pointer (some ⟨g, 0, none⟩), .pointer (some ⟨g, 1, none⟩), vl, s.2.1, .agg #[s.1, s.2.1], .pointer (some ⟨s.2.2, 0, none⟩), .pointer (some ⟨s.2.2, 0, none⟩)])
  (Copied w base ps ls) (by kernel_rfl) (undef, undef, 0) ⟨(Below.refl _ _).drew, by simp, by simp, by simp⟩ ?_
 intro AF hAF
 simp only [puts, Act.put, List.getD_cons_zero, List.getD_cons_succ, List.setIfInBounds_toArray, List.set_cons_succ, List.set_cons_zero] at hAF
 have hAF2 : _ = AF := funext hAF
 subst hAF2
 clear hAF
 refine ⟨?_, ?_⟩
 ·simp only [EachG]
  refine ⟨?_, ?_, ?_, ?_, ?_, ?_, ?_, ?_, ?_, ?_, ?_, ?_, ?_, trivial⟩
  ·intro s D w' hD _ _ hI
   refine ⟨s, fun _ _ _ => rfl, ?_⟩
   with_reducible refine OpTo.plain ?_ ?_
   exact rfl
   have hI' := Lib.hid (hI.step (Below.refl _ _) (k := 0) (by decide) (by decide) (by decide))
   have hg' : g < w'.heap.size := Nat.lt_of_lt_of_le hg hI.1.size
   clear hI
   go_wp2_with fail
   all_goals first | exact hI'.out | exact ⟨rfl, hI'.out⟩ | rfl
  ·intro s D w' hD _ _ hI
   refine ⟨s, fun _ _ _ => rfl, ?_⟩
   with_reducible refine OpTo.plain ?_ ?_
   exact rfl
   have hI' := Lib.hid (hI.step (Below.refl _ _) (k := 1) (by decide) (by decide) (by decide))
   have hg' : g < w'.heap.size := Nat.lt_of_lt_of_le hg hI.1.size
   clear hI
   go_wp2_with fail
   all_goals first | exact hI'.out | exact ⟨rfl, hI'.out⟩ | rfl
  ·intro s D w' hD _ _ hI
   refine ⟨s, fun _ _ _ => rfl, ?_⟩
   with_reducible refine OpTo.plain ?_ ?_
   exact rfl
   have hI' := Lib.hid (hI.step (Below.refl _ _) (k := 2) (by decide) (by decide) (by decide))
   have hg' : g < w'.heap.size := Nat.lt_of_lt_of_le hg hI.1.size
   clear hI
   go_wp2_with fail
   all_goals first | exact hI'.out | exact ⟨rfl, hI'.out⟩ | rfl
  ·intro s D w' hD _ _ hI
   refine ⟨s, fun _ _ _ => rfl, ?_⟩
   with_reducible refine OpTo.plain ?_ ?_
   exact rfl
   have hI' := Lib.hid (hI.step (Below.refl _ _) (k := 3) (by decide) (by decide) (by decide))
   have hg' : g < w'.heap.size := Nat.lt_of_lt_of_le hg hI.1.size
   have d0 := (H.out.blk.below hI.1 hg).cell 0
   simp at d0
   clear hI
   go_wp2_with fail
   all_goals first | exact hI'.out | exact ⟨rfl, hI'.out⟩ | rfl
  ·intro s D w' hD _ hC hI
   have hN : D 10 = false := not_done hC hD rfl ⟨⟨4, .data⟩, by simp, rfl, rfl⟩
   have hN2 : D 11 = false := not_done hC hN rfl ⟨⟨10, .data⟩, by simp, rfl, rfl⟩
   obtain ⟨v', w2, hrun, how, hbel⟩ := run_append_copy (P := Tryz.prog) (w := w') 125 125 43 info_party Tryz.underlying125 rfl (by decide) (by decide) base _ _ _ (owns_below H.out.p hI.1) (by intro u hu; obtain ⟨q, _, rfl⟩ := List.mem_map.1 hu; rfl) (by omega)
   refine ⟨(v', s.2.1, s.2.2), ?_, ?_⟩
   ·intro j hj hDj
    match j, hj, hDj with
    | 0, _, _ => rfl
    | 1, _, _ => rfl
    | 2, _, _ => rfl
    | 3, _, _ => rfl
    | 4, _, h => simp_all
    | 5, _, _ => rfl
    | 6, _, _ => rfl
    | 7, _, _ => rfl
    | 8, _, _ => rfl
    | 9, _, _ => rfl
    | 10, _, h => simp_all
    | 11, _, _ => rfl
    | 12, _, _ => rfl
    | j + 13, _, _ => rfl
   with_reducible refine OpTo.plain ?_ ?_
   exact rfl
   refine wp_append_of (.tmp 6) 125 rfl rfl hrun ⟨rfl, ?_⟩
   have hw := hI.1.size
   have hh : ∀ b, v'.ownBlock = some b → w.heap.size ≤ b := fun b hb => Nat.le_trans hw (owns_type how hb).1
   obtain ⟨q1, q2, q3, q4⟩ := hI
   refine ⟨q1.trans (hbel.mono q1.size), fun _ => ⟨owns_base how (Nat.le_trans hbase0 (Nat.le_trans (Nat.le_of_lt hg) hw)), hh⟩, fun d => ?_, fun d => ?_⟩
   ·simp [ins] at d; exact ⟨owns_below (q3 d).1 hbel, (q3 d).2⟩
   ·simp [ins, hN2] at d
  ·intro s D w' hD _ _ hI
   refine ⟨s, fun _ _ _ => rfl, ?_⟩
   with_reducible refine OpTo.plain ?_ ?_
   exact rfl
   have hI' := Lib.hid (hI.step (Below.refl _ _) (k := 5) (by decide) (by decide) (by decide))
   have hg' : g < w'.heap.size := Nat.lt_of_lt_of_le hg hI.1.size
   clear hI
   go_wp2_with fail
   all_goals first | exact hI'.out | exact ⟨rfl, hI'.out⟩ | rfl
  ·intro s D w' hD _ _ hI
   refine ⟨s, fun _ _ _ => rfl, ?_⟩
   with_reducible refine OpTo.plain ?_ ?_
   exact rfl
   have hI' := Lib.hid (hI.step (Below.refl _ _) (k := 6) (by decide) (by decide) (by decide))
   have hg' : g < w'.heap.size := Nat.lt_of_lt_of_le hg hI.1.size
   clear hI
   go_wp2_with fail
   all_goals first | exact hI'.out | exact ⟨rfl, hI'.out⟩ | rfl
  ·intro s D w' hD _ _ hI
   refine ⟨s, fun _ _ _ => rfl, ?_⟩
   with_reducible refine OpTo.plain ?_ ?_
   exact rfl
   have hI' := Lib.hid (hI.step (Below.refl _ _) (k := 7) (by decide) (by decide) (by decide))
   have hg' : g < w'.heap.size := Nat.lt_of_lt_of_le hg hI.1.size
   clear hI
   go_wp2_with fail
   all_goals first | exact hI'.out | exact ⟨rfl, hI'.out⟩ | rfl
  ·intro s D w' hD _ _ hI
   refine ⟨s, fun _ _ _ => rfl, ?_⟩
   with_reducible refine OpTo.plain ?_ ?_
   exact rfl
   have hI' := Lib.hid (hI.step (Below.refl _ _) (k := 8) (by decide) (by decide) (by decide))
   have hg' : g < w'.heap.size := Nat.lt_of_lt_of_le hg hI.1.size
   have d0 := (H.out.blk.below hI.1 hg).cell 1
   simp at d0
   clear hI
   go_wp2_with fail
   all_goals first | exact hI'.out | exact ⟨rfl, hI'.out⟩ | rfl
  ·intro s D w' hD _ hC hI
   have hN : D 10 = false := not_done hC hD rfl ⟨⟨9, .data⟩, by simp, rfl, rfl⟩
   have hN2 : D 11 = false := not_done hC hN rfl ⟨⟨10, .data⟩, by simp, rfl, rfl⟩
   obtain ⟨v', w2, hrun, how, hbel⟩ := run_append_copy (P := Tryz.prog) (w := w') 64 64 102 info_lineAll Tryz.underlying64 rfl (by decide) (by decide) base _ _ _ (owns_below H.out.l hI.1) (by exact lnCells_one_cell ls) (by omega)
   refine ⟨(s.1, v', s.2.2), ?_, ?_⟩
   ·intro j hj hDj
    match j, hj, hDj with
    | 0, _, _ => rfl
    | 1, _, _ => rfl
    | 2, _, _ => rfl
    | 3, _, _ => rfl
    | 4, _, _ => rfl
    | 5, _, _ => rfl
    | 6, _, _ => rfl
    | 7, _, _ => rfl
    | 8, _, _ => rfl
    | 9, _, h => simp_all
    | 10, _, h => simp_all
    | 11, _, _ => rfl
    | 12, _, _ => rfl
    | j + 13, _, _ => rfl
   with_reducible refine OpTo.plain ?_ ?_
   exact rfl
   refine wp_append_of (.tmp 11) 64 rfl rfl hrun ⟨rfl, ?_⟩
   have hw := hI.1.size
   have hh : ∀ b, v'.ownBlock = some b → w.heap.size ≤ b := fun b hb => Nat.le_trans hw (owns_type how hb).1
   obtain ⟨q1, q2, q3, q4⟩ := hI
   refine ⟨q1.trans (hbel.mono q1.size), fun d => ?_, fun _ => ⟨owns_base how (Nat.le_trans hbase0 (Nat.le_trans (Nat.le_of_lt hg) hw)), hh⟩, fun d => ?_⟩
   ·simp [ins] at d; exact ⟨owns_below (q2 d).1 hbel, (q2 d).2⟩
   ·simp [ins, hN2] at d
  ·intro s D w' hD hW _ hI
   have h4 : D 4 = true := hW ⟨4, .data⟩ (by simp) rfl
   have h9 : D 9 = true := hW ⟨9, .data⟩ (by simp) rfl
   have hI' := Lib.hid (hI.step (Below.refl _ _) (k := 10) (by decide) (by decide) (by decide))
   obtain ⟨v1, v2, g'⟩ := s
   obtain ⟨a1, c1, hv1, _⟩ := owns_open (hI.2.1 h4).1
   obtain ⟨a2, c2, hv2, _⟩ := owns_open (hI.2.2.1 h9).1
   clear hI
   dsimp only at hv1 hv2
   subst hv1 hv2
   refine ⟨_, fun _ _ _ => rfl, ?_⟩
   with_reducible refine OpTo.plain ?_ ?_
   exact rfl
   go_wp2_with fail
   all_goals first | exact hI'.out | exact ⟨rfl, hI'.out⟩ | rfl
  ·intro s D w' hD _ hC hI
   have hN : D 12 = false := not_done hC hD rfl ⟨⟨11, .data⟩, by simp, rfl, rfl⟩
   refine ⟨(s.1, s.2.1, w'.heap.size), ?_, ?_⟩
   ·intro j hj hDj
    match j, hj, hDj with
    | 0, _, _ => rfl
    | 1, _, _ => rfl
    | 2, _, _ => rfl
    | 3, _, _ => rfl
    | 4, _, _ => rfl
    | 5, _, _ => rfl
    | 6, _, _ => rfl
    | 7, _, _ => rfl
    | 8, _, _ => rfl
    | 9, _, _ => rfl
    | 10, _, _ => rfl
    | 11, _, h => simp_all
    | 12, _, h => simp_all
    | j + 13, _, _ => rfl
   with_reducible refine OpTo.plain ?_ ?_
   exact rfl
   obtain ⟨q1, q2, q3, q4⟩ := hI
   have HI' : Hid (Copied w base ps ls (s.1, s.2.1, w'.heap.size) (ins 11 D) (w'.alloc (.cells #[s.1, s.2.1] 127))) := Lib.hid (by
    have hbel := (Below.refl w'.heap.size w').alloc (Nat.le_refl _) (.cells #[s.1, s.2.1] 127)
    refine ⟨q1.alloc q1.size _, fun d => ?_, fun d => ?_, fun _ => ⟨q1.size, Blk.new _ _ _⟩⟩
    ·simp [ins] at d; exact ⟨owns_below (q2 d).1 hbel, (q2 d).2⟩
    ·simp [ins] at d; exact ⟨owns_below (q3 d).1 hbel, (q3 d).2⟩)
   clear q1 q2 q3 q4
   go_wp2_with fail
   all_goals first | exact HI'.out | exact ⟨rfl, HI'.out⟩ | rfl
  ·intro s D w' hD _ _ hI
   refine ⟨s, fun _ _ _ => rfl, ?_⟩
   with_reducible refine OpTo.plain ?_ ?_
   exact rfl
   have hI' := Lib.hid (hI.step (Below.refl _ _) (k := 12) (by decide) (by decide) (by decide))
   have hg' : g < w'.heap.size := Nat.lt_of_lt_of_le hg hI.1.size
   clear hI
   go_wp2_with fail
   all_goals first | exact hI'.out | exact ⟨rfl, hI'.out⟩ | rfl
 intro s D w2 hall hI
 obtain ⟨q1, q2, q3, q4⟩ := hI
 obtain ⟨o1, m1⟩ := q2 (hall 4 (by decide))
 obtain ⟨o2, m2⟩ := q3 (hall 9 (by decide))
 obtain ⟨n1, n2⟩ := q4 (hall 11 (by decide))
 clear q2 q3 q4
 dsimp only
 obtain ⟨v1, v2, g'⟩ := s
 have E := Lib.hid (show RefL w2 base g' ps ls v1 v2 from ⟨n2, Nat.le_trans hbase0 (Nat.le_trans (Nat.le_of_lt hg) n1), o1, o2⟩)
 clear o1 o2 n2
 go_wp2_with fail
 refine bodyPost_ret (v := .pointer (some ⟨g', 0, none⟩)) (by simp [results, go_sem]) rfl ?_
 exact ⟨g', v1, v2, rfl, E.out, n1, m1, m2, q1⟩
end Go.Proofs.YtbieomgpfhloeaaGreat
