/-
  Pieces of one proof, without what is not wanted: FillsFair.
-/
import Derived.Test.YtbieomgpfhloeaaGreatF18
import Derived.Test.YtbieomgpfhloeaaGreatF19
import Derived.Test.YtbieomgpfhloeaaGreatF22
import Derived.Test.YtbieomgpfhloeaaGreatF23
set_option linter.unusedSimpArgs false
set_option linter.unusedVariables false
namespace Go.Proofs.YtbieomgpfhloeaaGreat
open Go.RowKit
theorem may_mo {l : List Of} {ps : List Int} {s tk pt want most m1 m2 n : Int} (hn : mayV l ps s tk pt want most m1 m2 = n) (h : 1 ≤ n) : 1 ≤ most := by
 unfold mayV at hn
 cases hf : findO l s with
 | none => rw [hf] at hn; simp at hn; omega
 | some o =>
  rw [hf] at hn
  simp only [mayO] at hn
  by_cases hb : most < 1
  ·rw [if_pos (.inr (.inr (.inr (.inr (.inr hb)))))] at hn; omega
  ·omega
set_option maxHeartbeats 64000000 in
set_option maxRecDepth 100000 in
theorem ffair10_walk (HMy : FMayProg) (HD : FDoProg) (HC : FCopyProg) (HL : Lives10) (x : Wd) (y : Af) (w : World) (h0 : x.In w) (hy : y.Fits) :
  Calls Tryz.prog 4 #[.agg #[.slice x.a1 x.n1 x.c1, .slice x.a2 x.n2 x.c2], .agg #[.int .u64 y.se, .int .u8 y.tk, .int .u8 y.pt, .int .i64 y.n, .int .i64 y.mo, .bool y.fu]] w fun e w' => e = .returned (.bool true) ∧ Below w.heap.size w w' := by
 obtain ⟨a1, n1, c1, xs, a2, n2, c2, os⟩ := x
 obtain ⟨hA, hO⟩ := h0
 dsimp only at hA hO ⊢
 have m1 : n1 ≤ maxLen := Nat.le_trans hA.2.2.1 hA.2.2.2.1
 have m2 : n2 ≤ maxLen := Nat.le_trans hO.2.2.2.1 hO.2.2.2.2.1
 have b1 := (Below.refl w.heap.size w).alloc (Nat.le_refl _) (.cells #[.slice a1 n1 c1, .slice a2 n2 c2] 25)
 have b2 := b1.alloc b1.size (.cells #[.int .u64 y.se, .int .u8 y.tk, .int .u8 y.pt, .int .i64 y.n, .int .i64 y.mo, .bool y.fu] 45)
 have KX := Lib.hid ((Blk.new w #[.slice a1 n1 c1, .slice a2 n2 c2] 25).alloc (.cells #[.int .u64 y.se, .int .u8 y.tk, .int .u8 y.pt, .int .i64 y.n, .int .i64 y.mo, .bool y.fu] 45))
 have KA := Lib.hid (Blk.newAt (w.alloc (.cells #[.slice a1 n1 c1, .slice a2 n2 c2] 25)) #[.int .u64 y.se, .int .u8 y.tk, .int .u8 y.pt, .int .i64 y.n, .int .i64 y.mo, .bool y.fu] 45 (g := w.heap.size + 1) (by simp))
 have HA := Lib.hid (hA.below b2)
 have HO := Lib.hid (hO.below b2)
 have B1 := Lib.hid b2
 have HY := Lib.hid hy
 have HLo := Lib.hid HL
 have HGt := Lib.hid (fun w => great10_any (w := w) a1 a2 n1 n2 c1 c2 m1 m2)
 clear b1 b2 hA hO m1 m2 hy HL
 go_enter Tryz.func4, Tryz.ntmps4
 go_upto_region 1 with fail
 generalize (w.alloc (.cells #[.slice a1 n1 c1, .slice a2 n2 c2] 25)).alloc (.cells #[.int .u64 y.se, .int .u8 y.tk, .int .u8 y.pt, .int .i64 y.n, .int .i64 y.mo, .bool y.fu] 45) = W at *
 have x0 := KX.out.cell 0
 have x1 := KX.out.cell 1
 have xl := KX.out.lt
 simp at x0 x1
 go_wp2_with fail
 refine (HGt.out _).mono ?_
 rintro e w_1 ⟨rfl, b⟩
 clear x0 x1 xl
 have X_2 := Lib.hid (KX.out.below b KX.out.lt)
 have A_3 := Lib.hid (KA.out.below b KA.out.lt)
 have I_4 := Lib.hid (HA.out.below b)
 have J_5 := Lib.hid (HO.out.below b)
 have B_6 := Lib.hid (B1.out.trans (b.mono B1.out.size))
 clear KX KA HA HO B1
 clear b
 clear HGt
 by_cases hgt : 120 < n1 ∨ 40 < n2
 ·rw [decide_eq_true hgt]
  go_wp2_with fail
  refine (HLo.out _).mono ?_
  rintro e w_7 ⟨rfl, b⟩
  have X_8 := Lib.hid (X_2.out.below b X_2.out.lt)
  have A_9 := Lib.hid (A_3.out.below b A_3.out.lt)
  have I_10 := Lib.hid (I_4.out.below b)
  have J_11 := Lib.hid (J_5.out.below b)
  have B_12 := Lib.hid (B_6.out.trans (b.mono B_6.out.size))
  clear X_2 A_3 I_4 J_5 B_6
  clear b
  go_wp2_with fail
  go_ret
  exact ⟨rfl, B_12.out⟩
 rw [decide_eq_false hgt]
 have CM := Lib.hid (made10_any I_4.out J_5.out (by omega) (by omega))
 have x0 := X_2.out.cell 0
 have x1 := X_2.out.cell 1
 have xl := X_2.out.lt
 simp at x0 x1
 go_wp2_with fail
 refine CM.out.mono ?_
 rintro e w2 ⟨G, M, gb, ps, ls, l, N, vl, rfl, hL, hI, hG1, hM1, hP, hJ, hN, hgG, hgM, hvl, b2, hac, hof⟩
 have bh := (Below.refl w2.heap.size w2).alloc (Nat.le_refl _) (.cells #[.pointer (some ⟨G, 0, none⟩), .pointer (some ⟨gb, 0, none⟩)] 32)
 have KH := Lib.hid (Blk.new w2 #[.pointer (some ⟨G, 0, none⟩), .pointer (some ⟨gb, 0, none⟩)] 32)
 have b3 := b2.trans (bh.mono b2.size)
 have HL2 := Lib.hid (hL.below bh)
 have hP0 : PB w2 0 gb l N vl := ⟨hP.blk, Nat.zero_le _, owns_base hP.row (Nat.zero_le _)⟩
 have HP2 := Lib.hid (hP0.below bh)
 have II := Lib.hid hI
 have JJ := Lib.hid hJ
 have GE := Lib.hid (show (w.heap.size + 1 < G ∧ w.heap.size + 1 < M ∧ ∀ b, Foot gb vl b → w.heap.size + 1 < b) ∧ G < w2.heap.size ∧ M < w2.heap.size ∧ (∀ b, Foot gb vl b → b < w2.heap.size) ∧ w.heap.size + 1 < w2.heap.size from by have hs := A_3.out.lt; have hs2 := b2.size; exact ⟨⟨by omega, by omega, fun b hb => by have := (hP.lt hb).1; omega⟩, hL.blk.lt, hL.map.lt, fun b hb => (hP.lt hb).2, by omega⟩)
 clear x0 x1 xl
 have A_13 := Lib.hid (A_3.out.below b3 A_3.out.lt)
 have B_14 := Lib.hid (B_6.out.trans (b3.mono B_6.out.size))
 clear X_2 A_3 I_4 J_5 B_6
 clear hL hI hP hP0 hG1 hM1 hJ hN hgG hgM hvl hac hof bh b2 b3 CM
 obtain ⟨m1, m2, hG, hm1, hm2⟩ := goes_some II.out l y.se y.tk y.pt
 have GG := Lib.hid hG
 have HM1 := Lib.hid hm1
 have HM2 := Lib.hid hm2
 have HNL := Lib.hid (show ls.length ≤ 100000000 ∧ l.length ≤ 32 from ⟨by have := II.out.len; omega, JJ.out.len⟩)
 have CC := Lib.hid (HC HL2.out II.out HP2.out JJ.out)
 clear hG hm1 hm2
 have h0 := KH.out.cell 0
 have h1 := KH.out.cell 1
 have hl := KH.out.lt
 simp at h0 h1
 go_wp2_with fail
 refine CC.out.mono ?_
 rintro e w4 ⟨G2, M2, gb2, vb2, rfl, hL2, hP2, hg2, hm2, b3⟩
 have hzz := KH.out.lt
 have GE2 := Lib.hid (show w2.heap.size < G2 ∧ w2.heap.size < M2 ∧ w2.heap.size < gb2 ∧ (∀ b, vb2.ownBlock = some b → w2.heap.size < b) from ⟨by omega, by omega, by have := hP2.ge; omega, fun b hb => by have := (hP2.lt (b := b) (.inr hb)).1; omega⟩)
 have bh := (Below.refl w4.heap.size w4).alloc (Nat.le_refl _) (.cells #[.pointer (some ⟨G2, 0, none⟩), .pointer (some ⟨gb2, 0, none⟩)] 32)
 have KD := Lib.hid (Blk.new w4 #[.pointer (some ⟨G2, 0, none⟩), .pointer (some ⟨gb2, 0, none⟩)] 32)
 have S4 := Lib.hid (show w2.heap.size < w4.heap.size from by have := b3.size; omega)
 have L2 := Lib.hid (hL2.below bh)
 have hP20 : PB w4 0 gb2 l N vb2 := ⟨hP2.blk, Nat.zero_le _, owns_base hP2.row (Nat.zero_le _)⟩
 have P2 := Lib.hid (hP20.below bh)
 have b4 := b3.trans (bh.mono b3.size)
 clear hzz
 clear h0 h1 hl
 have A_15 := Lib.hid (A_13.out.below b4 A_13.out.lt)
 have B_16 := Lib.hid (B_14.out.trans (b4.mono B_14.out.size))
 have H_17 := Lib.hid (KH.out.below b4 KH.out.lt)
 have L_18 := Lib.hid (HL2.out.below b4)
 have P_19 := Lib.hid (HP2.out.below b4)
 clear A_13 B_14 KH HL2 HP2
 clear b3 b4 bh hL2 hP2 hP20 hg2 hm2 CC
 have CA := Lib.hid (fun u (h : LedM u G M ps ls) (k : PB u 0 gb l N vl) => HMy h II.out k JJ.out y.se y.tk y.pt y.n y.mo m1 m2 HY.out.se HY.out.tk HY.out.pt HY.out.n HY.out.mo GG.out)
 have CDo := Lib.hid (fun nn (i : In64 nn) u (h : LedM u G M ps ls) (k : PB u 0 gb l N vl) => HD h II.out k JJ.out y.se y.tk y.pt nn m1 m2 HY.out.se HY.out.tk HY.out.pt i GG.out)
 have CF := Lib.hid (fun u (k : PB u 0 gb2 l N vb2) => pfind_any k JJ.out.n1 y.se)
 obtain ⟨fu, hfu⟩ : ∃ fu, y.fu = fu := ⟨_, rfl⟩
 rw [hfu] at A_15 ⊢
 clear hfu
 cases fu
 ·skip
  obtain ⟨nn, hnn⟩ : ∃ nn, y.n = nn := ⟨_, rfl⟩
  have CD := Lib.hid (CDo.out y.n HY.out.n)
  have N64 := Lib.hid HY.out.n
  rw [hnn] at CD N64 A_15 ⊢
  clear hnn CA CDo
  have a0 := A_15.out.cell 0
  have a1 := A_15.out.cell 1
  have a2 := A_15.out.cell 2
  have a3 := A_15.out.cell 3
  have a4 := A_15.out.cell 4
  have a5 := A_15.out.cell 5
  have al := A_15.out.lt
  simp at a0 a1 a2 a3 a4 a5
  have h0 := H_17.out.cell 0
  have h1 := H_17.out.cell 1
  have hl := H_17.out.lt
  simp at h0 h1
  go_wp2_with fail
  refine (CD.out _ L_18.out P_19.out).mono ?_
  rintro e w_20 hd
  clear CD
  rcases hd with ⟨_, rfl, b⟩ | ⟨hok, o, z, ls', vb', hox, hx, hF, rfl, hL', hP', kk, mv⟩
  ·skip
   clear a0 a1 a2 a3 a4 a5 al h0 h1 hl
   have bf := (Below.refl w_20.heap.size w_20).alloc (Nat.le_refl _) (.cells #[.int .u64 0, .int .u8 0, .int .u8 0, .int .i64 0, .int .i64 0] 48)
   have KF := Lib.hid (Blk.new w_20 #[.int .u64 0, .int .u8 0, .int .u8 0, .int .i64 0, .int .i64 0] 48)
   have b2 := b.trans (bf.mono b.size)
   have A_21 := Lib.hid (A_15.out.below b2 A_15.out.lt)
   have B_22 := Lib.hid (B_16.out.trans (b2.mono B_16.out.size))
   have H_23 := Lib.hid (H_17.out.below b2 H_17.out.lt)
   have L_24 := Lib.hid (L_18.out.below b2)
   have P_25 := Lib.hid (P_19.out.below b2)
   have D_26 := Lib.hid (KD.out.below b2 KD.out.lt)
   have M_27 := Lib.hid (L2.out.below b2)
   have Q_28 := Lib.hid (P2.out.below b2)
   clear A_15 B_16 H_17 L_18 P_19 KD L2 P2
   clear b b2 bf
   unfold noFill
   have a0 := A_21.out.cell 0
   have a1 := A_21.out.cell 1
   have a2 := A_21.out.cell 2
   have a3 := A_21.out.cell 3
   have a4 := A_21.out.cell 4
   have a5 := A_21.out.cell 5
   have al := A_21.out.lt
   simp at a0 a1 a2 a3 a4 a5
   have d0 := D_26.out.cell 0
   have d1 := D_26.out.cell 1
   have dl := D_26.out.lt
   simp at d0 d1
   go_wp2_with fail
   refine (CF.out _ Q_28.out).mono ?_
   rintro e w_29 ⟨rfl, b⟩
   clear a0 a1 a2 a3 a4 a5 al d0 d1 dl
   have A_30 := Lib.hid (A_21.out.below b A_21.out.lt)
   have B_31 := Lib.hid (B_22.out.trans (b.mono B_22.out.size))
   have H_32 := Lib.hid (H_23.out.below b H_23.out.lt)
   have L_33 := Lib.hid (L_24.out.below b)
   have P_34 := Lib.hid (P_25.out.below b)
   have D_35 := Lib.hid (D_26.out.below b D_26.out.lt)
   have M_36 := Lib.hid (M_27.out.below b)
   have Q_37 := Lib.hid (Q_28.out.below b)
   have F_38 := Lib.hid (KF.out.below b KF.out.lt)
   clear A_21 B_22 H_23 L_24 P_25 D_26 M_27 Q_28 KF
   clear b
   clear CF
   cases findO l y.se with
   | none =>
    unfold foundV noOf Of.val
    dsimp only
    have bf := (Below.refl w_29.heap.size w_29).alloc (Nat.le_refl _) (.cells #[.int .u64 0, .int .u8 0, .int .u8 0, .int .u8 0, .int .i64 0, .int .i64 0, .int .i64 0] 60)
    have A_39 := Lib.hid (A_30.out.below bf A_30.out.lt)
    have B_40 := Lib.hid (B_31.out.trans (bf.mono B_31.out.size))
    have H_41 := Lib.hid (H_32.out.below bf H_32.out.lt)
    have L_42 := Lib.hid (L_33.out.below bf)
    have P_43 := Lib.hid (P_34.out.below bf)
    have D_44 := Lib.hid (D_35.out.below bf D_35.out.lt)
    have M_45 := Lib.hid (M_36.out.below bf)
    have Q_46 := Lib.hid (Q_37.out.below bf)
    have F_47 := Lib.hid (F_38.out.below bf F_38.out.lt)
    clear A_30 B_31 H_32 L_33 P_34 D_35 M_36 Q_37 F_38
    clear bf
    go_wp2_with fail
    refine fair_r11 F_47 H_41 D_44 L_42 M_45 II P_43 Q_46 HNL HLo ?_
    rintro w_48 v10 v13 v19 v22 b
    have A_49 := Lib.hid (A_39.out.below b A_39.out.lt)
    have B_50 := Lib.hid (B_40.out.trans (b.mono B_40.out.size))
    have H_51 := Lib.hid (H_41.out.below b H_41.out.lt)
    have L_52 := Lib.hid (L_42.out.below b)
    have P_53 := Lib.hid (P_43.out.below b)
    have D_54 := Lib.hid (D_44.out.below b D_44.out.lt)
    have M_55 := Lib.hid (M_45.out.below b)
    have Q_56 := Lib.hid (Q_46.out.below b)
    have F_57 := Lib.hid (F_47.out.below b F_47.out.lt)
    clear A_39 B_40 H_41 L_42 P_43 D_44 M_45 Q_46 F_47
    clear b
    go_wp2_with fail
    go_ret
    exact ⟨rfl, B_50.out⟩
   | some o =>
    unfold foundV Of.val
    dsimp only
    have bf := (Below.refl w_29.heap.size w_29).alloc (Nat.le_refl _) (.cells #[.int .u64 o.se, .int .u8 o.ow, .int .u8 o.sl, .int .u8 o.bu, .int .i64 o.lf, .int .i64 o.nu, .int .i64 o.de] 60)
    have A_58 := Lib.hid (A_30.out.below bf A_30.out.lt)
    have B_59 := Lib.hid (B_31.out.trans (bf.mono B_31.out.size))
    have H_60 := Lib.hid (H_32.out.below bf H_32.out.lt)
    have L_61 := Lib.hid (L_33.out.below bf)
    have P_62 := Lib.hid (P_34.out.below bf)
    have D_63 := Lib.hid (D_35.out.below bf D_35.out.lt)
    have M_64 := Lib.hid (M_36.out.below bf)
    have Q_65 := Lib.hid (Q_37.out.below bf)
    have F_66 := Lib.hid (F_38.out.below bf F_38.out.lt)
    clear A_30 B_31 H_32 L_33 P_34 D_35 M_36 Q_37 F_38
    clear bf
    go_wp2_with fail
    refine fair_r11 F_66 H_60 D_63 L_61 M_64 II P_62 Q_65 HNL HLo ?_
    rintro w_67 v10 v13 v19 v22 b
    have A_68 := Lib.hid (A_58.out.below b A_58.out.lt)
    have B_69 := Lib.hid (B_59.out.trans (b.mono B_59.out.size))
    have H_70 := Lib.hid (H_60.out.below b H_60.out.lt)
    have L_71 := Lib.hid (L_61.out.below b)
    have P_72 := Lib.hid (P_62.out.below b)
    have D_73 := Lib.hid (D_63.out.below b D_63.out.lt)
    have M_74 := Lib.hid (M_64.out.below b)
    have Q_75 := Lib.hid (Q_65.out.below b)
    have F_76 := Lib.hid (F_66.out.below b F_66.out.lt)
    clear A_58 B_59 H_60 L_61 P_62 D_63 M_64 Q_65 F_66
    clear b
    go_wp2_with fail
    go_ret
    exact ⟨rfl, B_69.out⟩
  have hGo := GG.out o hox
  have FFx := filled_facts II.out JJ.out hox hGo hok hx hF
  obtain ⟨f1, f2, f3, f4, f5⟩ := FFx
  obtain ⟨_, ho2, ⟨k1, _, _, _⟩, k5, _, _⟩ := hok.facts
  rw [hox] at ho2
  cases ho2
  have OM := Lib.hid (JJ.out.may o (findO_mem hox).1)
  have OF := Lib.hid (JJ.out.fits (findO_mem hox).1)
  have TF := take_find JJ.out hox hok.1 k5
  have J2 := Lib.hid (JJ.out.take y.se nn)
  have I2 := Lib.hid (hF.inv II.out)
  have LIM := Lib.hid f1.symm
  have POS := Lib.hid f2
  have ZB := Lib.hid (And.intro f3 f4)
  have HX := Lib.hid hx
  have HOX := Lib.hid hox
  have TF1 := Lib.hid TF.1
  have TF2 := Lib.hid TF.2
  have N1 := Lib.hid (And.intro hok.1 (And.intro k5 (fun e : y.tk = o.ow => k1 e.symm)))
  clear hok hGo f1 f2 f3 f4 f5 k1 k5 TF hx hox hF
  clear a0 a1 a2 a3 a4 a5 al h0 h1 hl
  have AA5 := Lib.hid (A_15.out.keep kk (by obtain ⟨⟨q1, q2, q3⟩, _⟩ := GE.out; rintro (h | h | h); (· omega); (· omega); (· have := q3 _ h; omega)))
  have HH5 := Lib.hid (H_17.out.keep kk (by obtain ⟨_, q1, q2, q3, q4⟩ := GE.out; rintro (h | h | h); (· omega); (· omega); (· have := q3 _ h; omega)))
  have DD5 := Lib.hid (KD.out.keep kk (by obtain ⟨_, q1, q2, q3, q4⟩ := GE.out; have := S4.out; rintro (h | h | h); (· omega); (· omega); (· have := q3 _ h; omega)))
  have MM5 := Lib.hid (L2.out.keep kk (by obtain ⟨_, q1, q2, q3, q4⟩ := GE.out; obtain ⟨r1, r2, r3, r4⟩ := GE2.out; rintro (h | h | h); (· omega); (· omega); (· have := q3 _ h; omega)) (by obtain ⟨_, q1, q2, q3, q4⟩ := GE.out; obtain ⟨r1, r2, r3, r4⟩ := GE2.out; rintro (h | h | h); (· omega); (· omega); (· have := q3 _ h; omega)))
  have QQ5 := Lib.hid (P2.out.keep kk (by obtain ⟨_, q1, q2, q3, q4⟩ := GE.out; obtain ⟨r1, r2, r3, r4⟩ := GE2.out; rintro (h | h | h); (· omega); (· omega); (· have := q3 _ h; omega)) (by intro j hj; obtain ⟨_, q1, q2, q3, q4⟩ := GE.out; obtain ⟨r1, r2, r3, r4⟩ := GE2.out; have := r4 j hj; rintro (h | h | h); (· omega); (· omega); (· have := q3 _ h; omega)))
  have BB5 := Lib.hid (B_16.out.trans (kk.below B_16.out.size (fun b hb h => by
   obtain ⟨⟨q1, q2, q3⟩, _⟩ := GE.out
   rcases h with h | h | h
   ·omega
   ·omega
   ·have := q3 _ h; omega)))
  have LL5 := Lib.hid hL'
  have PP5 := Lib.hid hP'
  clear kk mv hL' hP' A_15 B_16 H_17 L_18 P_19 KD L2 P2
  have bf := (Below.refl w_20.heap.size w_20).alloc (Nat.le_refl _) (.cells #[.int .u64 y.se, .int .u8 y.tk, .int .u8 y.pt, .int .i64 nn, .int .i64 z] 48)
  have KF := Lib.hid (Blk.new w_20 #[.int .u64 y.se, .int .u8 y.tk, .int .u8 y.pt, .int .i64 nn, .int .i64 z] 48)
  have A_77 := Lib.hid (AA5.out.below bf AA5.out.lt)
  have H_78 := Lib.hid (HH5.out.below bf HH5.out.lt)
  have D_79 := Lib.hid (DD5.out.below bf DD5.out.lt)
  have M_80 := Lib.hid (MM5.out.below bf)
  have Q_81 := Lib.hid (QQ5.out.below bf)
  have B_82 := Lib.hid (BB5.out.trans (bf.mono BB5.out.size))
  have L_83 := Lib.hid (LL5.out.below bf)
  have P_84 := Lib.hid (PP5.out.below bf)
  clear AA5 HH5 DD5 MM5 QQ5 BB5 LL5 PP5
  clear bf
  have a0 := A_77.out.cell 0
  have a1 := A_77.out.cell 1
  have a2 := A_77.out.cell 2
  have a3 := A_77.out.cell 3
  have a4 := A_77.out.cell 4
  have a5 := A_77.out.cell 5
  have al := A_77.out.lt
  simp at a0 a1 a2 a3 a4 a5
  have d0 := D_79.out.cell 0
  have d1 := D_79.out.cell 1
  have dl := D_79.out.lt
  simp at d0 d1
  go_wp2_with fail
  refine (CF.out _ Q_81.out).mono ?_
  rintro e w_85 ⟨rfl, b⟩
  clear a0 a1 a2 a3 a4 a5 al d0 d1 dl
  have A_86 := Lib.hid (A_77.out.below b A_77.out.lt)
  have H_87 := Lib.hid (H_78.out.below b H_78.out.lt)
  have D_88 := Lib.hid (D_79.out.below b D_79.out.lt)
  have M_89 := Lib.hid (M_80.out.below b)
  have Q_90 := Lib.hid (Q_81.out.below b)
  have B_91 := Lib.hid (B_82.out.trans (b.mono B_82.out.size))
  have L_92 := Lib.hid (L_83.out.below b)
  have P_93 := Lib.hid (P_84.out.below b)
  have F_94 := Lib.hid (KF.out.below b KF.out.lt)
  clear A_77 H_78 D_79 M_80 Q_81 B_82 L_83 P_84 KF
  clear b
  clear CF
  rw [HOX.out]
  unfold foundV Of.val
  dsimp only
  have bf := (Below.refl w_85.heap.size w_85).alloc (Nat.le_refl _) (.cells #[.int .u64 o.se, .int .u8 o.ow, .int .u8 o.sl, .int .u8 o.bu, .int .i64 o.lf, .int .i64 o.nu, .int .i64 o.de] 60)
  have KO := Lib.hid (Blk.new w_85 #[.int .u64 o.se, .int .u8 o.ow, .int .u8 o.sl, .int .u8 o.bu, .int .i64 o.lf, .int .i64 o.nu, .int .i64 o.de] 60)
  have A_95 := Lib.hid (A_86.out.below bf A_86.out.lt)
  have H_96 := Lib.hid (H_87.out.below bf H_87.out.lt)
  have D_97 := Lib.hid (D_88.out.below bf D_88.out.lt)
  have M_98 := Lib.hid (M_89.out.below bf)
  have Q_99 := Lib.hid (Q_90.out.below bf)
  have B_100 := Lib.hid (B_91.out.trans (bf.mono B_91.out.size))
  have L_101 := Lib.hid (L_92.out.below bf)
  have P_102 := Lib.hid (P_93.out.below bf)
  have F_103 := Lib.hid (F_94.out.below bf F_94.out.lt)
  clear A_86 H_87 D_88 M_89 Q_90 B_91 L_92 P_93 F_94
  clear bf
  obtain ⟨n1, n2, n3⟩ := N1.out
  obtain ⟨z1, z2⟩ := ZB.out
  obtain ⟨lf1, lf2⟩ := OM.out.2.2.2.2.1
  have q1 : decide (nn < 1) = false := by simp; omega
  have q2 : decide (o.lf < nn) = false := by simp; omega
  have q3 : (y.tk == o.ow) = false := by simpa using n3
  have CFa := Lib.hid (fun u => fair10_any (x := z) u OM.out.2.2.2.2.2 n1 (by omega) HX.out (by omega))
  have CSt := Lib.hid (fun u (h : LedM u G M ps ls') (k : LedM u G2 M2 ps ls) => stands10_any (gb := some ⟨gb, 0, none⟩) (gb2 := some ⟨gb2, 0, none⟩) (o := o) (s := y.se) (tk := y.tk) (pt := y.pt) (n := nn) (x := z) h I2.out k II.out LIM.out POS.out OM.out.2.2.2.1 (fun e => n3 e.symm) ⟨n1, by omega⟩ ⟨z1, z2⟩)
  clear n3
  have a0 := A_95.out.cell 0
  have a1 := A_95.out.cell 1
  have a2 := A_95.out.cell 2
  have a3 := A_95.out.cell 3
  have a4 := A_95.out.cell 4
  have a5 := A_95.out.cell 5
  have al := A_95.out.lt
  simp at a0 a1 a2 a3 a4 a5
  have f0 := F_103.out.cell 0
  have f1 := F_103.out.cell 1
  have f2 := F_103.out.cell 2
  have f3 := F_103.out.cell 3
  have f4 := F_103.out.cell 4
  have fl := F_103.out.lt
  simp at f0 f1 f2 f3 f4
  have o0 := KO.out.cell 0
  have o1 := KO.out.cell 1
  have o2 := KO.out.cell 2
  have o3 := KO.out.cell 3
  have o4 := KO.out.cell 4
  have o5 := KO.out.cell 5
  have o6 := KO.out.cell 6
  have ol := KO.out.lt
  simp at o0 o1 o2 o3 o4 o5 o6
  have h0 := H_96.out.cell 0
  have h1 := H_96.out.cell 1
  have hl := H_96.out.lt
  simp at h0 h1
  have d0 := D_97.out.cell 0
  have d1 := D_97.out.cell 1
  have dl := D_97.out.lt
  simp at d0 d1
  go_wp2_with fail
  refine (CFa.out _).mono ?_
  rintro e w_104 ⟨rfl, b⟩
  clear a0 a1 a2 a3 a4 a5 al f0 f1 f2 f3 f4 fl o0 o1 o2 o3 o4 o5 o6 ol h0 h1 hl d0 d1 dl
  have A_105 := Lib.hid (A_95.out.below b A_95.out.lt)
  have H_106 := Lib.hid (H_96.out.below b H_96.out.lt)
  have D_107 := Lib.hid (D_97.out.below b D_97.out.lt)
  have M_108 := Lib.hid (M_98.out.below b)
  have Q_109 := Lib.hid (Q_99.out.below b)
  have B_110 := Lib.hid (B_100.out.trans (b.mono B_100.out.size))
  have L_111 := Lib.hid (L_101.out.below b)
  have P_112 := Lib.hid (P_102.out.below b)
  have F_113 := Lib.hid (F_103.out.below b F_103.out.lt)
  have O_114 := Lib.hid (KO.out.below b KO.out.lt)
  clear A_95 H_96 D_97 M_98 Q_99 B_100 L_101 P_102 F_103 KO
  clear b
  have a0 := A_105.out.cell 0
  have a1 := A_105.out.cell 1
  have a2 := A_105.out.cell 2
  have a3 := A_105.out.cell 3
  have a4 := A_105.out.cell 4
  have a5 := A_105.out.cell 5
  have al := A_105.out.lt
  simp at a0 a1 a2 a3 a4 a5
  have f0 := F_113.out.cell 0
  have f1 := F_113.out.cell 1
  have f2 := F_113.out.cell 2
  have f3 := F_113.out.cell 3
  have f4 := F_113.out.cell 4
  have fl := F_113.out.lt
  simp at f0 f1 f2 f3 f4
  have o0 := O_114.out.cell 0
  have o1 := O_114.out.cell 1
  have o2 := O_114.out.cell 2
  have o3 := O_114.out.cell 3
  have o4 := O_114.out.cell 4
  have o5 := O_114.out.cell 5
  have o6 := O_114.out.cell 6
  have ol := O_114.out.lt
  simp at o0 o1 o2 o3 o4 o5 o6
  have h0 := H_106.out.cell 0
  have h1 := H_106.out.cell 1
  have hl := H_106.out.lt
  simp at h0 h1
  have d0 := D_107.out.cell 0
  have d1 := D_107.out.cell 1
  have dl := D_107.out.lt
  simp at d0 d1
  go_wp2_with fail
  refine (CSt.out _ L_111.out M_108.out).mono ?_
  rintro e w_115 ⟨rfl, b⟩
  clear a0 a1 a2 a3 a4 a5 al f0 f1 f2 f3 f4 fl o0 o1 o2 o3 o4 o5 o6 ol h0 h1 hl d0 d1 dl
  have A_116 := Lib.hid (A_105.out.below b A_105.out.lt)
  have H_117 := Lib.hid (H_106.out.below b H_106.out.lt)
  have D_118 := Lib.hid (D_107.out.below b D_107.out.lt)
  have M_119 := Lib.hid (M_108.out.below b)
  have Q_120 := Lib.hid (Q_109.out.below b)
  have B_121 := Lib.hid (B_110.out.trans (b.mono B_110.out.size))
  have L_122 := Lib.hid (L_111.out.below b)
  have P_123 := Lib.hid (P_112.out.below b)
  have F_124 := Lib.hid (F_113.out.below b F_113.out.lt)
  have O_125 := Lib.hid (O_114.out.below b O_114.out.lt)
  clear A_105 H_106 D_107 M_108 Q_109 B_110 L_111 P_112 F_113 O_114
  clear b
  clear CFa CSt q1 q2 q3
  have CF2 := Lib.hid (fun u (k : PB u 0 gb (takeL l y.se nn) N vb') => pfind_any k JJ.out.n1 y.se)
  rw [TF1.out] at CF2
  have LEN := Lib.hid (show (takeL l y.se nn).length ≤ 32 ∧ l.length ≤ 32 from ⟨J2.out.len, JJ.out.len⟩)
  by_cases hst : nn < o.lf
  ·rw [if_pos hst] at CF2
   unfold foundV Of.val at CF2
   dsimp only at CF2
   have dl : decide (nn < o.lf) = true := by simpa using hst
   have DL := Lib.hid dl
   clear hst dl
   have a0 := A_116.out.cell 0
   have a1 := A_116.out.cell 1
   have a2 := A_116.out.cell 2
   have a3 := A_116.out.cell 3
   have a4 := A_116.out.cell 4
   have a5 := A_116.out.cell 5
   have al := A_116.out.lt
   simp at a0 a1 a2 a3 a4 a5
   have h0 := H_117.out.cell 0
   have h1 := H_117.out.cell 1
   have hl := H_117.out.lt
   simp at h0 h1
   go_wp2_with fail
   refine (CF2.out _ P_123.out).mono ?_
   rintro e w_126 ⟨rfl, b⟩
   clear a0 a1 a2 a3 a4 a5 al h0 h1 hl
   have A_127 := Lib.hid (A_116.out.below b A_116.out.lt)
   have H_128 := Lib.hid (H_117.out.below b H_117.out.lt)
   have D_129 := Lib.hid (D_118.out.below b D_118.out.lt)
   have M_130 := Lib.hid (M_119.out.below b)
   have Q_131 := Lib.hid (Q_120.out.below b)
   have B_132 := Lib.hid (B_121.out.trans (b.mono B_121.out.size))
   have L_133 := Lib.hid (L_122.out.below b)
   have P_134 := Lib.hid (P_123.out.below b)
   have F_135 := Lib.hid (F_124.out.below b F_124.out.lt)
   have O_136 := Lib.hid (O_125.out.below b O_125.out.lt)
   clear A_116 H_117 D_118 M_119 Q_120 B_121 L_122 P_123 F_124 O_125
   clear b
   clear CF2
   have bf := (Below.refl w_126.heap.size w_126).alloc (Nat.le_refl _) (.cells #[.int .u64 o.se, .int .u8 o.ow, .int .u8 o.sl, .int .u8 o.bu, .int .i64 (o.lf - nn), .int .i64 o.nu, .int .i64 o.de] 60)
   have KP := Lib.hid (Blk.new w_126 #[.int .u64 o.se, .int .u8 o.ow, .int .u8 o.sl, .int .u8 o.bu, .int .i64 (o.lf - nn), .int .i64 o.nu, .int .i64 o.de] 60)
   have A_137 := Lib.hid (A_127.out.below bf A_127.out.lt)
   have H_138 := Lib.hid (H_128.out.below bf H_128.out.lt)
   have D_139 := Lib.hid (D_129.out.below bf D_129.out.lt)
   have M_140 := Lib.hid (M_130.out.below bf)
   have Q_141 := Lib.hid (Q_131.out.below bf)
   have B_142 := Lib.hid (B_132.out.trans (bf.mono B_132.out.size))
   have L_143 := Lib.hid (L_133.out.below bf)
   have P_144 := Lib.hid (P_134.out.below bf)
   have F_145 := Lib.hid (F_135.out.below bf F_135.out.lt)
   have O_146 := Lib.hid (O_136.out.below bf O_136.out.lt)
   clear A_127 H_128 D_129 M_130 Q_131 B_132 L_133 P_134 F_135 O_136
   clear bf
   go_wp2_with fail
   refine fair_r15t O_146 KP H_138 D_139 P_144 Q_141 (Lib.hid ⟨LEN.out.1, LEN.out.2, rfl, rfl⟩) (Lib.hid ⟨DL.out, ⟨n1, by omega, lf1, lf2⟩, by have := TF2.out.1; simp; omega⟩) ?_
   rintro w_147 v21 v25 b
   have A_148 := Lib.hid (A_137.out.below b A_137.out.lt)
   have H_149 := Lib.hid (H_138.out.below b H_138.out.lt)
   have D_150 := Lib.hid (D_139.out.below b D_139.out.lt)
   have M_151 := Lib.hid (M_140.out.below b)
   have Q_152 := Lib.hid (Q_141.out.below b)
   have B_153 := Lib.hid (B_142.out.trans (b.mono B_142.out.size))
   have L_154 := Lib.hid (L_143.out.below b)
   have P_155 := Lib.hid (P_144.out.below b)
   have F_156 := Lib.hid (F_145.out.below b F_145.out.lt)
   have O_157 := Lib.hid (O_146.out.below b O_146.out.lt)
   have R_158 := Lib.hid (KP.out.below b KP.out.lt)
   clear A_137 H_138 D_139 M_140 Q_141 B_142 L_143 P_144 F_145 O_146 KP
   clear b
   go_wp2_with fail
   refine (HLo.out _).mono ?_
   rintro e w_159 ⟨rfl, b⟩
   have A_160 := Lib.hid (A_148.out.below b A_148.out.lt)
   have H_161 := Lib.hid (H_149.out.below b H_149.out.lt)
   have D_162 := Lib.hid (D_150.out.below b D_150.out.lt)
   have M_163 := Lib.hid (M_151.out.below b)
   have Q_164 := Lib.hid (Q_152.out.below b)
   have B_165 := Lib.hid (B_153.out.trans (b.mono B_153.out.size))
   have L_166 := Lib.hid (L_154.out.below b)
   have P_167 := Lib.hid (P_155.out.below b)
   have F_168 := Lib.hid (F_156.out.below b F_156.out.lt)
   have O_169 := Lib.hid (O_157.out.below b O_157.out.lt)
   have R_170 := Lib.hid (R_158.out.below b R_158.out.lt)
   clear A_148 H_149 D_150 M_151 Q_152 B_153 L_154 P_155 F_156 O_157 R_158
   clear b
   go_wp2_with fail
   go_ret
   exact ⟨rfl, B_165.out⟩
  ·rw [if_neg hst] at CF2
   unfold foundV noOf Of.val at CF2
   dsimp only at CF2
   have dl : decide (nn < o.lf) = false := by simpa using hst
   have DL := Lib.hid dl
   clear hst dl
   have a0 := A_116.out.cell 0
   have a1 := A_116.out.cell 1
   have a2 := A_116.out.cell 2
   have a3 := A_116.out.cell 3
   have a4 := A_116.out.cell 4
   have a5 := A_116.out.cell 5
   have al := A_116.out.lt
   simp at a0 a1 a2 a3 a4 a5
   have h0 := H_117.out.cell 0
   have h1 := H_117.out.cell 1
   have hl := H_117.out.lt
   simp at h0 h1
   go_wp2_with fail
   refine (CF2.out _ P_123.out).mono ?_
   rintro e w_171 ⟨rfl, b⟩
   clear a0 a1 a2 a3 a4 a5 al h0 h1 hl
   have A_172 := Lib.hid (A_116.out.below b A_116.out.lt)
   have H_173 := Lib.hid (H_117.out.below b H_117.out.lt)
   have D_174 := Lib.hid (D_118.out.below b D_118.out.lt)
   have M_175 := Lib.hid (M_119.out.below b)
   have Q_176 := Lib.hid (Q_120.out.below b)
   have B_177 := Lib.hid (B_121.out.trans (b.mono B_121.out.size))
   have L_178 := Lib.hid (L_122.out.below b)
   have P_179 := Lib.hid (P_123.out.below b)
   have F_180 := Lib.hid (F_124.out.below b F_124.out.lt)
   have O_181 := Lib.hid (O_125.out.below b O_125.out.lt)
   clear A_116 H_117 D_118 M_119 Q_120 B_121 L_122 P_123 F_124 O_125
   clear b
   clear CF2
   have bf := (Below.refl w_171.heap.size w_171).alloc (Nat.le_refl _) (.cells #[.int .u64 0, .int .u8 0, .int .u8 0, .int .u8 0, .int .i64 0, .int .i64 0, .int .i64 0] 60)
   have KP := Lib.hid (Blk.new w_171 #[.int .u64 0, .int .u8 0, .int .u8 0, .int .u8 0, .int .i64 0, .int .i64 0, .int .i64 0] 60)
   have A_182 := Lib.hid (A_172.out.below bf A_172.out.lt)
   have H_183 := Lib.hid (H_173.out.below bf H_173.out.lt)
   have D_184 := Lib.hid (D_174.out.below bf D_174.out.lt)
   have M_185 := Lib.hid (M_175.out.below bf)
   have Q_186 := Lib.hid (Q_176.out.below bf)
   have B_187 := Lib.hid (B_177.out.trans (bf.mono B_177.out.size))
   have L_188 := Lib.hid (L_178.out.below bf)
   have P_189 := Lib.hid (P_179.out.below bf)
   have F_190 := Lib.hid (F_180.out.below bf F_180.out.lt)
   have O_191 := Lib.hid (O_181.out.below bf O_181.out.lt)
   clear A_172 H_173 D_174 M_175 Q_176 B_177 L_178 P_179 F_180 O_181
   clear bf
   go_wp2_with fail
   refine fair_r15f O_191 H_183 D_184 P_189 Q_186 (Lib.hid ⟨LEN.out.1, LEN.out.2, rfl, rfl⟩) (Lib.hid ⟨DL.out, ⟨n1, by omega, lf1, lf2⟩, by have := TF2.out.1; simp; omega⟩) ?_
   rintro w_192 v21 v25 b
   have A_193 := Lib.hid (A_182.out.below b A_182.out.lt)
   have H_194 := Lib.hid (H_183.out.below b H_183.out.lt)
   have D_195 := Lib.hid (D_184.out.below b D_184.out.lt)
   have M_196 := Lib.hid (M_185.out.below b)
   have Q_197 := Lib.hid (Q_186.out.below b)
   have B_198 := Lib.hid (B_187.out.trans (b.mono B_187.out.size))
   have L_199 := Lib.hid (L_188.out.below b)
   have P_200 := Lib.hid (P_189.out.below b)
   have F_201 := Lib.hid (F_190.out.below b F_190.out.lt)
   have O_202 := Lib.hid (O_191.out.below b O_191.out.lt)
   have R_203 := Lib.hid (KP.out.below b KP.out.lt)
   clear A_182 H_183 D_184 M_185 Q_186 B_187 L_188 P_189 F_190 O_191 KP
   clear b
   go_wp2_with fail
   refine (HLo.out _).mono ?_
   rintro e w_204 ⟨rfl, b⟩
   have A_205 := Lib.hid (A_193.out.below b A_193.out.lt)
   have H_206 := Lib.hid (H_194.out.below b H_194.out.lt)
   have D_207 := Lib.hid (D_195.out.below b D_195.out.lt)
   have M_208 := Lib.hid (M_196.out.below b)
   have Q_209 := Lib.hid (Q_197.out.below b)
   have B_210 := Lib.hid (B_198.out.trans (b.mono B_198.out.size))
   have L_211 := Lib.hid (L_199.out.below b)
   have P_212 := Lib.hid (P_200.out.below b)
   have F_213 := Lib.hid (F_201.out.below b F_201.out.lt)
   have O_214 := Lib.hid (O_202.out.below b O_202.out.lt)
   have R_215 := Lib.hid (R_203.out.below b R_203.out.lt)
   clear A_193 H_194 D_195 M_196 Q_197 B_198 L_199 P_200 F_201 O_202 R_203
   clear b
   go_wp2_with fail
   go_ret
   exact ⟨rfl, B_210.out⟩
 ·skip
  obtain ⟨nn, hnn⟩ : ∃ nn, mayV l ps y.se y.tk y.pt y.n y.mo m1 m2 = nn := ⟨_, rfl⟩
  have N64 := Lib.hid (mayV_bd (ps := ps) (s := y.se) (tk := y.tk) (pt := y.pt) (want := y.n) (most := y.mo) JJ.out HM1.out HM2.out)
  rw [hnn] at CA N64
  have HNN := Lib.hid hnn
  clear hnn
  have a0 := A_15.out.cell 0
  have a1 := A_15.out.cell 1
  have a2 := A_15.out.cell 2
  have a3 := A_15.out.cell 3
  have a4 := A_15.out.cell 4
  have a5 := A_15.out.cell 5
  have al := A_15.out.lt
  simp at a0 a1 a2 a3 a4 a5
  have h0 := H_17.out.cell 0
  have h1 := H_17.out.cell 1
  have hl := H_17.out.lt
  simp at h0 h1
  go_wp2_with fail
  refine (CA.out _ L_18.out P_19.out).mono ?_
  rintro e w_216 ⟨rfl, b⟩
  clear a0 a1 a2 a3 a4 a5 al h0 h1 hl
  have A_217 := Lib.hid (A_15.out.below b A_15.out.lt)
  have B_218 := Lib.hid (B_16.out.trans (b.mono B_16.out.size))
  have H_219 := Lib.hid (H_17.out.below b H_17.out.lt)
  have L_220 := Lib.hid (L_18.out.below b)
  have P_221 := Lib.hid (P_19.out.below b)
  have D_222 := Lib.hid (KD.out.below b KD.out.lt)
  have M_223 := Lib.hid (L2.out.below b)
  have Q_224 := Lib.hid (P2.out.below b)
  clear A_15 B_16 H_17 L_18 P_19 KD L2 P2
  clear b
  clear CA
  have CD := Lib.hid (CDo.out nn N64.out)
  clear CDo
  have a0 := A_217.out.cell 0
  have a1 := A_217.out.cell 1
  have a2 := A_217.out.cell 2
  have a3 := A_217.out.cell 3
  have a4 := A_217.out.cell 4
  have a5 := A_217.out.cell 5
  have al := A_217.out.lt
  simp at a0 a1 a2 a3 a4 a5
  have h0 := H_219.out.cell 0
  have h1 := H_219.out.cell 1
  have hl := H_219.out.lt
  simp at h0 h1
  go_wp2_with fail
  refine (CD.out _ L_220.out P_221.out).mono ?_
  rintro e w_225 hd
  clear CD
  rcases hd with ⟨_, rfl, b⟩ | ⟨hok, o, z, ls', vb', hox, hx, hF, rfl, hL', hP', kk, mv⟩
  ·skip
   clear a0 a1 a2 a3 a4 a5 al h0 h1 hl
   have bf := (Below.refl w_225.heap.size w_225).alloc (Nat.le_refl _) (.cells #[.int .u64 0, .int .u8 0, .int .u8 0, .int .i64 0, .int .i64 0] 48)
   have KF := Lib.hid (Blk.new w_225 #[.int .u64 0, .int .u8 0, .int .u8 0, .int .i64 0, .int .i64 0] 48)
   have b2 := b.trans (bf.mono b.size)
   have A_226 := Lib.hid (A_217.out.below b2 A_217.out.lt)
   have B_227 := Lib.hid (B_218.out.trans (b2.mono B_218.out.size))
   have H_228 := Lib.hid (H_219.out.below b2 H_219.out.lt)
   have L_229 := Lib.hid (L_220.out.below b2)
   have P_230 := Lib.hid (P_221.out.below b2)
   have D_231 := Lib.hid (D_222.out.below b2 D_222.out.lt)
   have M_232 := Lib.hid (M_223.out.below b2)
   have Q_233 := Lib.hid (Q_224.out.below b2)
   clear A_217 B_218 H_219 L_220 P_221 D_222 M_223 Q_224
   clear b b2 bf
   unfold noFill
   have a0 := A_226.out.cell 0
   have a1 := A_226.out.cell 1
   have a2 := A_226.out.cell 2
   have a3 := A_226.out.cell 3
   have a4 := A_226.out.cell 4
   have a5 := A_226.out.cell 5
   have al := A_226.out.lt
   simp at a0 a1 a2 a3 a4 a5
   have d0 := D_231.out.cell 0
   have d1 := D_231.out.cell 1
   have dl := D_231.out.lt
   simp at d0 d1
   go_wp2_with fail
   refine (CF.out _ Q_233.out).mono ?_
   rintro e w_234 ⟨rfl, b⟩
   clear a0 a1 a2 a3 a4 a5 al d0 d1 dl
   have A_235 := Lib.hid (A_226.out.below b A_226.out.lt)
   have B_236 := Lib.hid (B_227.out.trans (b.mono B_227.out.size))
   have H_237 := Lib.hid (H_228.out.below b H_228.out.lt)
   have L_238 := Lib.hid (L_229.out.below b)
   have P_239 := Lib.hid (P_230.out.below b)
   have D_240 := Lib.hid (D_231.out.below b D_231.out.lt)
   have M_241 := Lib.hid (M_232.out.below b)
   have Q_242 := Lib.hid (Q_233.out.below b)
   have F_243 := Lib.hid (KF.out.below b KF.out.lt)
   clear A_226 B_227 H_228 L_229 P_230 D_231 M_232 Q_233 KF
   clear b
   clear CF
   cases findO l y.se with
   | none =>
    unfold foundV noOf Of.val
    dsimp only
    have bf := (Below.refl w_234.heap.size w_234).alloc (Nat.le_refl _) (.cells #[.int .u64 0, .int .u8 0, .int .u8 0, .int .u8 0, .int .i64 0, .int .i64 0, .int .i64 0] 60)
    have A_244 := Lib.hid (A_235.out.below bf A_235.out.lt)
    have B_245 := Lib.hid (B_236.out.trans (bf.mono B_236.out.size))
    have H_246 := Lib.hid (H_237.out.below bf H_237.out.lt)
    have L_247 := Lib.hid (L_238.out.below bf)
    have P_248 := Lib.hid (P_239.out.below bf)
    have D_249 := Lib.hid (D_240.out.below bf D_240.out.lt)
    have M_250 := Lib.hid (M_241.out.below bf)
    have Q_251 := Lib.hid (Q_242.out.below bf)
    have F_252 := Lib.hid (F_243.out.below bf F_243.out.lt)
    clear A_235 B_236 H_237 L_238 P_239 D_240 M_241 Q_242 F_243
    clear bf
    go_wp2_with fail
    refine fair_r11 F_252 H_246 D_249 L_247 M_250 II P_248 Q_251 HNL HLo ?_
    rintro w_253 v10 v13 v19 v22 b
    have A_254 := Lib.hid (A_244.out.below b A_244.out.lt)
    have B_255 := Lib.hid (B_245.out.trans (b.mono B_245.out.size))
    have H_256 := Lib.hid (H_246.out.below b H_246.out.lt)
    have L_257 := Lib.hid (L_247.out.below b)
    have P_258 := Lib.hid (P_248.out.below b)
    have D_259 := Lib.hid (D_249.out.below b D_249.out.lt)
    have M_260 := Lib.hid (M_250.out.below b)
    have Q_261 := Lib.hid (Q_251.out.below b)
    have F_262 := Lib.hid (F_252.out.below b F_252.out.lt)
    clear A_244 B_245 H_246 L_247 P_248 D_249 M_250 Q_251 F_252
    clear b
    go_wp2_with fail
    go_ret
    exact ⟨rfl, B_255.out⟩
   | some o =>
    unfold foundV Of.val
    dsimp only
    have bf := (Below.refl w_234.heap.size w_234).alloc (Nat.le_refl _) (.cells #[.int .u64 o.se, .int .u8 o.ow, .int .u8 o.sl, .int .u8 o.bu, .int .i64 o.lf, .int .i64 o.nu, .int .i64 o.de] 60)
    have A_263 := Lib.hid (A_235.out.below bf A_235.out.lt)
    have B_264 := Lib.hid (B_236.out.trans (bf.mono B_236.out.size))
    have H_265 := Lib.hid (H_237.out.below bf H_237.out.lt)
    have L_266 := Lib.hid (L_238.out.below bf)
    have P_267 := Lib.hid (P_239.out.below bf)
    have D_268 := Lib.hid (D_240.out.below bf D_240.out.lt)
    have M_269 := Lib.hid (M_241.out.below bf)
    have Q_270 := Lib.hid (Q_242.out.below bf)
    have F_271 := Lib.hid (F_243.out.below bf F_243.out.lt)
    clear A_235 B_236 H_237 L_238 P_239 D_240 M_241 Q_242 F_243
    clear bf
    go_wp2_with fail
    refine fair_r11 F_271 H_265 D_268 L_266 M_269 II P_267 Q_270 HNL HLo ?_
    rintro w_272 v10 v13 v19 v22 b
    have A_273 := Lib.hid (A_263.out.below b A_263.out.lt)
    have B_274 := Lib.hid (B_264.out.trans (b.mono B_264.out.size))
    have H_275 := Lib.hid (H_265.out.below b H_265.out.lt)
    have L_276 := Lib.hid (L_266.out.below b)
    have P_277 := Lib.hid (P_267.out.below b)
    have D_278 := Lib.hid (D_268.out.below b D_268.out.lt)
    have M_279 := Lib.hid (M_269.out.below b)
    have Q_280 := Lib.hid (Q_270.out.below b)
    have F_281 := Lib.hid (F_271.out.below b F_271.out.lt)
    clear A_263 B_264 H_265 L_266 P_267 D_268 M_269 Q_270 F_271
    clear b
    go_wp2_with fail
    go_ret
    exact ⟨rfl, B_274.out⟩
  have hGo := GG.out o hox
  have FFx := filled_facts II.out JJ.out hox hGo hok hx hF
  obtain ⟨f1, f2, f3, f4, f5⟩ := FFx
  obtain ⟨_, ho2, ⟨k1, _, _, _⟩, k5, _, _⟩ := hok.facts
  rw [hox] at ho2
  cases ho2
  have OM := Lib.hid (JJ.out.may o (findO_mem hox).1)
  have OF := Lib.hid (JJ.out.fits (findO_mem hox).1)
  have TF := take_find JJ.out hox hok.1 k5
  have J2 := Lib.hid (JJ.out.take y.se nn)
  have I2 := Lib.hid (hF.inv II.out)
  have LIM := Lib.hid f1.symm
  have POS := Lib.hid f2
  have ZB := Lib.hid (And.intro f3 f4)
  have HX := Lib.hid hx
  have HOX := Lib.hid hox
  have TF1 := Lib.hid TF.1
  have TF2 := Lib.hid TF.2
  have N1 := Lib.hid (And.intro hok.1 (And.intro k5 (fun e : y.tk = o.ow => k1 e.symm)))
  obtain ⟨_, _, _, o', ho', hfit⟩ := may_do HM1.out HM2.out HNN.out hok.1
  rw [hox] at ho'
  cases ho'
  obtain ⟨_, u2, u3⟩ := up_fits OM.out.2.2.2.2.2 (n := nn) (by have := HM2.out; have := (GG.out o hox).bd II.out; have := may_mo HNN.out hok.1; omega) (by omega) (by have := hok.1; omega) hfit
  rw [← hx] at u2 u3
  have ZM := Lib.hid (show z ≤ y.mo from by omega)
  clear hfit u2 u3
  clear hok hGo f1 f2 f3 f4 f5 k1 k5 TF hx hox hF
  clear a0 a1 a2 a3 a4 a5 al h0 h1 hl
  have AA5 := Lib.hid (A_217.out.keep kk (by obtain ⟨⟨q1, q2, q3⟩, _⟩ := GE.out; rintro (h | h | h); (· omega); (· omega); (· have := q3 _ h; omega)))
  have HH5 := Lib.hid (H_219.out.keep kk (by obtain ⟨_, q1, q2, q3, q4⟩ := GE.out; rintro (h | h | h); (· omega); (· omega); (· have := q3 _ h; omega)))
  have DD5 := Lib.hid (D_222.out.keep kk (by obtain ⟨_, q1, q2, q3, q4⟩ := GE.out; have := S4.out; rintro (h | h | h); (· omega); (· omega); (· have := q3 _ h; omega)))
  have MM5 := Lib.hid (M_223.out.keep kk (by obtain ⟨_, q1, q2, q3, q4⟩ := GE.out; obtain ⟨r1, r2, r3, r4⟩ := GE2.out; rintro (h | h | h); (· omega); (· omega); (· have := q3 _ h; omega)) (by obtain ⟨_, q1, q2, q3, q4⟩ := GE.out; obtain ⟨r1, r2, r3, r4⟩ := GE2.out; rintro (h | h | h); (· omega); (· omega); (· have := q3 _ h; omega)))
  have QQ5 := Lib.hid (Q_224.out.keep kk (by obtain ⟨_, q1, q2, q3, q4⟩ := GE.out; obtain ⟨r1, r2, r3, r4⟩ := GE2.out; rintro (h | h | h); (· omega); (· omega); (· have := q3 _ h; omega)) (by intro j hj; obtain ⟨_, q1, q2, q3, q4⟩ := GE.out; obtain ⟨r1, r2, r3, r4⟩ := GE2.out; have := r4 j hj; rintro (h | h | h); (· omega); (· omega); (· have := q3 _ h; omega)))
  have BB5 := Lib.hid (B_218.out.trans (kk.below B_218.out.size (fun b hb h => by
   obtain ⟨⟨q1, q2, q3⟩, _⟩ := GE.out
   rcases h with h | h | h
   ·omega
   ·omega
   ·have := q3 _ h; omega)))
  have LL5 := Lib.hid hL'
  have PP5 := Lib.hid hP'
  clear kk mv hL' hP' A_217 B_218 H_219 L_220 P_221 D_222 M_223 Q_224
  have bf := (Below.refl w_225.heap.size w_225).alloc (Nat.le_refl _) (.cells #[.int .u64 y.se, .int .u8 y.tk, .int .u8 y.pt, .int .i64 nn, .int .i64 z] 48)
  have KF := Lib.hid (Blk.new w_225 #[.int .u64 y.se, .int .u8 y.tk, .int .u8 y.pt, .int .i64 nn, .int .i64 z] 48)
  have A_282 := Lib.hid (AA5.out.below bf AA5.out.lt)
  have H_283 := Lib.hid (HH5.out.below bf HH5.out.lt)
  have D_284 := Lib.hid (DD5.out.below bf DD5.out.lt)
  have M_285 := Lib.hid (MM5.out.below bf)
  have Q_286 := Lib.hid (QQ5.out.below bf)
  have B_287 := Lib.hid (BB5.out.trans (bf.mono BB5.out.size))
  have L_288 := Lib.hid (LL5.out.below bf)
  have P_289 := Lib.hid (PP5.out.below bf)
  clear AA5 HH5 DD5 MM5 QQ5 BB5 LL5 PP5
  clear bf
  have a0 := A_282.out.cell 0
  have a1 := A_282.out.cell 1
  have a2 := A_282.out.cell 2
  have a3 := A_282.out.cell 3
  have a4 := A_282.out.cell 4
  have a5 := A_282.out.cell 5
  have al := A_282.out.lt
  simp at a0 a1 a2 a3 a4 a5
  have d0 := D_284.out.cell 0
  have d1 := D_284.out.cell 1
  have dl := D_284.out.lt
  simp at d0 d1
  go_wp2_with fail
  refine (CF.out _ Q_286.out).mono ?_
  rintro e w_290 ⟨rfl, b⟩
  clear a0 a1 a2 a3 a4 a5 al d0 d1 dl
  have A_291 := Lib.hid (A_282.out.below b A_282.out.lt)
  have H_292 := Lib.hid (H_283.out.below b H_283.out.lt)
  have D_293 := Lib.hid (D_284.out.below b D_284.out.lt)
  have M_294 := Lib.hid (M_285.out.below b)
  have Q_295 := Lib.hid (Q_286.out.below b)
  have B_296 := Lib.hid (B_287.out.trans (b.mono B_287.out.size))
  have L_297 := Lib.hid (L_288.out.below b)
  have P_298 := Lib.hid (P_289.out.below b)
  have F_299 := Lib.hid (KF.out.below b KF.out.lt)
  clear A_282 H_283 D_284 M_285 Q_286 B_287 L_288 P_289 KF
  clear b
  clear CF
  rw [HOX.out]
  unfold foundV Of.val
  dsimp only
  have bf := (Below.refl w_290.heap.size w_290).alloc (Nat.le_refl _) (.cells #[.int .u64 o.se, .int .u8 o.ow, .int .u8 o.sl, .int .u8 o.bu, .int .i64 o.lf, .int .i64 o.nu, .int .i64 o.de] 60)
  have KO := Lib.hid (Blk.new w_290 #[.int .u64 o.se, .int .u8 o.ow, .int .u8 o.sl, .int .u8 o.bu, .int .i64 o.lf, .int .i64 o.nu, .int .i64 o.de] 60)
  have A_300 := Lib.hid (A_291.out.below bf A_291.out.lt)
  have H_301 := Lib.hid (H_292.out.below bf H_292.out.lt)
  have D_302 := Lib.hid (D_293.out.below bf D_293.out.lt)
  have M_303 := Lib.hid (M_294.out.below bf)
  have Q_304 := Lib.hid (Q_295.out.below bf)
  have B_305 := Lib.hid (B_296.out.trans (bf.mono B_296.out.size))
  have L_306 := Lib.hid (L_297.out.below bf)
  have P_307 := Lib.hid (P_298.out.below bf)
  have F_308 := Lib.hid (F_299.out.below bf F_299.out.lt)
  clear A_291 H_292 D_293 M_294 Q_295 B_296 L_297 P_298 F_299
  clear bf
  obtain ⟨n1, n2, n3⟩ := N1.out
  obtain ⟨z1, z2⟩ := ZB.out
  obtain ⟨lf1, lf2⟩ := OM.out.2.2.2.2.1
  have q1 : decide (nn < 1) = false := by simp; omega
  have q2 : decide (o.lf < nn) = false := by simp; omega
  have q3 : (y.tk == o.ow) = false := by simpa using n3
  have q4 : decide (y.mo < z) = false := by have := ZM.out; simp; omega
  have CFa := Lib.hid (fun u => fair10_any (x := z) u OM.out.2.2.2.2.2 n1 (by omega) HX.out (by omega))
  have CSt := Lib.hid (fun u (h : LedM u G M ps ls') (k : LedM u G2 M2 ps ls) => stands10_any (gb := some ⟨gb, 0, none⟩) (gb2 := some ⟨gb2, 0, none⟩) (o := o) (s := y.se) (tk := y.tk) (pt := y.pt) (n := nn) (x := z) h I2.out k II.out LIM.out POS.out OM.out.2.2.2.1 (fun e => n3 e.symm) ⟨n1, by omega⟩ ⟨z1, z2⟩)
  clear n3
  have a0 := A_300.out.cell 0
  have a1 := A_300.out.cell 1
  have a2 := A_300.out.cell 2
  have a3 := A_300.out.cell 3
  have a4 := A_300.out.cell 4
  have a5 := A_300.out.cell 5
  have al := A_300.out.lt
  simp at a0 a1 a2 a3 a4 a5
  have f0 := F_308.out.cell 0
  have f1 := F_308.out.cell 1
  have f2 := F_308.out.cell 2
  have f3 := F_308.out.cell 3
  have f4 := F_308.out.cell 4
  have fl := F_308.out.lt
  simp at f0 f1 f2 f3 f4
  have o0 := KO.out.cell 0
  have o1 := KO.out.cell 1
  have o2 := KO.out.cell 2
  have o3 := KO.out.cell 3
  have o4 := KO.out.cell 4
  have o5 := KO.out.cell 5
  have o6 := KO.out.cell 6
  have ol := KO.out.lt
  simp at o0 o1 o2 o3 o4 o5 o6
  have h0 := H_301.out.cell 0
  have h1 := H_301.out.cell 1
  have hl := H_301.out.lt
  simp at h0 h1
  have d0 := D_302.out.cell 0
  have d1 := D_302.out.cell 1
  have dl := D_302.out.lt
  simp at d0 d1
  go_wp2_with fail
  refine (CFa.out _).mono ?_
  rintro e w_309 ⟨rfl, b⟩
  clear a0 a1 a2 a3 a4 a5 al f0 f1 f2 f3 f4 fl o0 o1 o2 o3 o4 o5 o6 ol h0 h1 hl d0 d1 dl
  have A_310 := Lib.hid (A_300.out.below b A_300.out.lt)
  have H_311 := Lib.hid (H_301.out.below b H_301.out.lt)
  have D_312 := Lib.hid (D_302.out.below b D_302.out.lt)
  have M_313 := Lib.hid (M_303.out.below b)
  have Q_314 := Lib.hid (Q_304.out.below b)
  have B_315 := Lib.hid (B_305.out.trans (b.mono B_305.out.size))
  have L_316 := Lib.hid (L_306.out.below b)
  have P_317 := Lib.hid (P_307.out.below b)
  have F_318 := Lib.hid (F_308.out.below b F_308.out.lt)
  have O_319 := Lib.hid (KO.out.below b KO.out.lt)
  clear A_300 H_301 D_302 M_303 Q_304 B_305 L_306 P_307 F_308 KO
  clear b
  have a0 := A_310.out.cell 0
  have a1 := A_310.out.cell 1
  have a2 := A_310.out.cell 2
  have a3 := A_310.out.cell 3
  have a4 := A_310.out.cell 4
  have a5 := A_310.out.cell 5
  have al := A_310.out.lt
  simp at a0 a1 a2 a3 a4 a5
  have f0 := F_318.out.cell 0
  have f1 := F_318.out.cell 1
  have f2 := F_318.out.cell 2
  have f3 := F_318.out.cell 3
  have f4 := F_318.out.cell 4
  have fl := F_318.out.lt
  simp at f0 f1 f2 f3 f4
  have o0 := O_319.out.cell 0
  have o1 := O_319.out.cell 1
  have o2 := O_319.out.cell 2
  have o3 := O_319.out.cell 3
  have o4 := O_319.out.cell 4
  have o5 := O_319.out.cell 5
  have o6 := O_319.out.cell 6
  have ol := O_319.out.lt
  simp at o0 o1 o2 o3 o4 o5 o6
  have h0 := H_311.out.cell 0
  have h1 := H_311.out.cell 1
  have hl := H_311.out.lt
  simp at h0 h1
  have d0 := D_312.out.cell 0
  have d1 := D_312.out.cell 1
  have dl := D_312.out.lt
  simp at d0 d1
  go_wp2_with fail
  refine (CSt.out _ L_316.out M_313.out).mono ?_
  rintro e w_320 ⟨rfl, b⟩
  clear a0 a1 a2 a3 a4 a5 al f0 f1 f2 f3 f4 fl o0 o1 o2 o3 o4 o5 o6 ol h0 h1 hl d0 d1 dl
  have A_321 := Lib.hid (A_310.out.below b A_310.out.lt)
  have H_322 := Lib.hid (H_311.out.below b H_311.out.lt)
  have D_323 := Lib.hid (D_312.out.below b D_312.out.lt)
  have M_324 := Lib.hid (M_313.out.below b)
  have Q_325 := Lib.hid (Q_314.out.below b)
  have B_326 := Lib.hid (B_315.out.trans (b.mono B_315.out.size))
  have L_327 := Lib.hid (L_316.out.below b)
  have P_328 := Lib.hid (P_317.out.below b)
  have F_329 := Lib.hid (F_318.out.below b F_318.out.lt)
  have O_330 := Lib.hid (O_319.out.below b O_319.out.lt)
  clear A_310 H_311 D_312 M_313 Q_314 B_315 L_316 P_317 F_318 O_319
  clear b
  clear CFa CSt q1 q2 q3 q4
  have CF2 := Lib.hid (fun u (k : PB u 0 gb (takeL l y.se nn) N vb') => pfind_any k JJ.out.n1 y.se)
  rw [TF1.out] at CF2
  have LEN := Lib.hid (show (takeL l y.se nn).length ≤ 32 ∧ l.length ≤ 32 from ⟨J2.out.len, JJ.out.len⟩)
  by_cases hst : nn < o.lf
  ·rw [if_pos hst] at CF2
   unfold foundV Of.val at CF2
   dsimp only at CF2
   have dl : decide (nn < o.lf) = true := by simpa using hst
   have DL := Lib.hid dl
   clear hst dl
   have a0 := A_321.out.cell 0
   have a1 := A_321.out.cell 1
   have a2 := A_321.out.cell 2
   have a3 := A_321.out.cell 3
   have a4 := A_321.out.cell 4
   have a5 := A_321.out.cell 5
   have al := A_321.out.lt
   simp at a0 a1 a2 a3 a4 a5
   have h0 := H_322.out.cell 0
   have h1 := H_322.out.cell 1
   have hl := H_322.out.lt
   simp at h0 h1
   go_wp2_with fail
   refine (CF2.out _ P_328.out).mono ?_
   rintro e w_331 ⟨rfl, b⟩
   clear a0 a1 a2 a3 a4 a5 al h0 h1 hl
   have A_332 := Lib.hid (A_321.out.below b A_321.out.lt)
   have H_333 := Lib.hid (H_322.out.below b H_322.out.lt)
   have D_334 := Lib.hid (D_323.out.below b D_323.out.lt)
   have M_335 := Lib.hid (M_324.out.below b)
   have Q_336 := Lib.hid (Q_325.out.below b)
   have B_337 := Lib.hid (B_326.out.trans (b.mono B_326.out.size))
   have L_338 := Lib.hid (L_327.out.below b)
   have P_339 := Lib.hid (P_328.out.below b)
   have F_340 := Lib.hid (F_329.out.below b F_329.out.lt)
   have O_341 := Lib.hid (O_330.out.below b O_330.out.lt)
   clear A_321 H_322 D_323 M_324 Q_325 B_326 L_327 P_328 F_329 O_330
   clear b
   clear CF2
   have bf := (Below.refl w_331.heap.size w_331).alloc (Nat.le_refl _) (.cells #[.int .u64 o.se, .int .u8 o.ow, .int .u8 o.sl, .int .u8 o.bu, .int .i64 (o.lf - nn), .int .i64 o.nu, .int .i64 o.de] 60)
   have KP := Lib.hid (Blk.new w_331 #[.int .u64 o.se, .int .u8 o.ow, .int .u8 o.sl, .int .u8 o.bu, .int .i64 (o.lf - nn), .int .i64 o.nu, .int .i64 o.de] 60)
   have A_342 := Lib.hid (A_332.out.below bf A_332.out.lt)
   have H_343 := Lib.hid (H_333.out.below bf H_333.out.lt)
   have D_344 := Lib.hid (D_334.out.below bf D_334.out.lt)
   have M_345 := Lib.hid (M_335.out.below bf)
   have Q_346 := Lib.hid (Q_336.out.below bf)
   have B_347 := Lib.hid (B_337.out.trans (bf.mono B_337.out.size))
   have L_348 := Lib.hid (L_338.out.below bf)
   have P_349 := Lib.hid (P_339.out.below bf)
   have F_350 := Lib.hid (F_340.out.below bf F_340.out.lt)
   have O_351 := Lib.hid (O_341.out.below bf O_341.out.lt)
   clear A_332 H_333 D_334 M_335 Q_336 B_337 L_338 P_339 F_340 O_341
   clear bf
   go_wp2_with fail
   refine fair_r15t O_351 KP H_343 D_344 P_349 Q_346 (Lib.hid ⟨LEN.out.1, LEN.out.2, rfl, rfl⟩) (Lib.hid ⟨DL.out, ⟨n1, by omega, lf1, lf2⟩, by have := TF2.out.1; simp; omega⟩) ?_
   rintro w_352 v21 v25 b
   have A_353 := Lib.hid (A_342.out.below b A_342.out.lt)
   have H_354 := Lib.hid (H_343.out.below b H_343.out.lt)
   have D_355 := Lib.hid (D_344.out.below b D_344.out.lt)
   have M_356 := Lib.hid (M_345.out.below b)
   have Q_357 := Lib.hid (Q_346.out.below b)
   have B_358 := Lib.hid (B_347.out.trans (b.mono B_347.out.size))
   have L_359 := Lib.hid (L_348.out.below b)
   have P_360 := Lib.hid (P_349.out.below b)
   have F_361 := Lib.hid (F_350.out.below b F_350.out.lt)
   have O_362 := Lib.hid (O_351.out.below b O_351.out.lt)
   have R_363 := Lib.hid (KP.out.below b KP.out.lt)
   clear A_342 H_343 D_344 M_345 Q_346 B_347 L_348 P_349 F_350 O_351 KP
   clear b
   go_wp2_with fail
   refine (HLo.out _).mono ?_
   rintro e w_364 ⟨rfl, b⟩
   have A_365 := Lib.hid (A_353.out.below b A_353.out.lt)
   have H_366 := Lib.hid (H_354.out.below b H_354.out.lt)
   have D_367 := Lib.hid (D_355.out.below b D_355.out.lt)
   have M_368 := Lib.hid (M_356.out.below b)
   have Q_369 := Lib.hid (Q_357.out.below b)
   have B_370 := Lib.hid (B_358.out.trans (b.mono B_358.out.size))
   have L_371 := Lib.hid (L_359.out.below b)
   have P_372 := Lib.hid (P_360.out.below b)
   have F_373 := Lib.hid (F_361.out.below b F_361.out.lt)
   have O_374 := Lib.hid (O_362.out.below b O_362.out.lt)
   have R_375 := Lib.hid (R_363.out.below b R_363.out.lt)
   clear A_353 H_354 D_355 M_356 Q_357 B_358 L_359 P_360 F_361 O_362 R_363
   clear b
   go_wp2_with fail
   go_ret
   exact ⟨rfl, B_370.out⟩
  ·rw [if_neg hst] at CF2
   unfold foundV noOf Of.val at CF2
   dsimp only at CF2
   have dl : decide (nn < o.lf) = false := by simpa using hst
   have DL := Lib.hid dl
   clear hst dl
   have a0 := A_321.out.cell 0
   have a1 := A_321.out.cell 1
   have a2 := A_321.out.cell 2
   have a3 := A_321.out.cell 3
   have a4 := A_321.out.cell 4
   have a5 := A_321.out.cell 5
   have al := A_321.out.lt
   simp at a0 a1 a2 a3 a4 a5
   have h0 := H_322.out.cell 0
   have h1 := H_322.out.cell 1
   have hl := H_322.out.lt
   simp at h0 h1
   go_wp2_with fail
   refine (CF2.out _ P_328.out).mono ?_
   rintro e w_376 ⟨rfl, b⟩
   clear a0 a1 a2 a3 a4 a5 al h0 h1 hl
   have A_377 := Lib.hid (A_321.out.below b A_321.out.lt)
   have H_378 := Lib.hid (H_322.out.below b H_322.out.lt)
   have D_379 := Lib.hid (D_323.out.below b D_323.out.lt)
   have M_380 := Lib.hid (M_324.out.below b)
   have Q_381 := Lib.hid (Q_325.out.below b)
   have B_382 := Lib.hid (B_326.out.trans (b.mono B_326.out.size))
   have L_383 := Lib.hid (L_327.out.below b)
   have P_384 := Lib.hid (P_328.out.below b)
   have F_385 := Lib.hid (F_329.out.below b F_329.out.lt)
   have O_386 := Lib.hid (O_330.out.below b O_330.out.lt)
   clear A_321 H_322 D_323 M_324 Q_325 B_326 L_327 P_328 F_329 O_330
   clear b
   clear CF2
   have bf := (Below.refl w_376.heap.size w_376).alloc (Nat.le_refl _) (.cells #[.int .u64 0, .int .u8 0, .int .u8 0, .int .u8 0, .int .i64 0, .int .i64 0, .int .i64 0] 60)
   have KP := Lib.hid (Blk.new w_376 #[.int .u64 0, .int .u8 0, .int .u8 0, .int .u8 0, .int .i64 0, .int .i64 0, .int .i64 0] 60)
   have A_387 := Lib.hid (A_377.out.below bf A_377.out.lt)
   have H_388 := Lib.hid (H_378.out.below bf H_378.out.lt)
   have D_389 := Lib.hid (D_379.out.below bf D_379.out.lt)
   have M_390 := Lib.hid (M_380.out.below bf)
   have Q_391 := Lib.hid (Q_381.out.below bf)
   have B_392 := Lib.hid (B_382.out.trans (bf.mono B_382.out.size))
   have L_393 := Lib.hid (L_383.out.below bf)
   have P_394 := Lib.hid (P_384.out.below bf)
   have F_395 := Lib.hid (F_385.out.below bf F_385.out.lt)
   have O_396 := Lib.hid (O_386.out.below bf O_386.out.lt)
   clear A_377 H_378 D_379 M_380 Q_381 B_382 L_383 P_384 F_385 O_386
   clear bf
   go_wp2_with fail
   refine fair_r15f O_396 H_388 D_389 P_394 Q_391 (Lib.hid ⟨LEN.out.1, LEN.out.2, rfl, rfl⟩) (Lib.hid ⟨DL.out, ⟨n1, by omega, lf1, lf2⟩, by have := TF2.out.1; simp; omega⟩) ?_
   rintro w_397 v21 v25 b
   have A_398 := Lib.hid (A_387.out.below b A_387.out.lt)
   have H_399 := Lib.hid (H_388.out.below b H_388.out.lt)
   have D_400 := Lib.hid (D_389.out.below b D_389.out.lt)
   have M_401 := Lib.hid (M_390.out.below b)
   have Q_402 := Lib.hid (Q_391.out.below b)
   have B_403 := Lib.hid (B_392.out.trans (b.mono B_392.out.size))
   have L_404 := Lib.hid (L_393.out.below b)
   have P_405 := Lib.hid (P_394.out.below b)
   have F_406 := Lib.hid (F_395.out.below b F_395.out.lt)
   have O_407 := Lib.hid (O_396.out.below b O_396.out.lt)
   have R_408 := Lib.hid (KP.out.below b KP.out.lt)
   clear A_387 H_388 D_389 M_390 Q_391 B_392 L_393 P_394 F_395 O_396 KP
   clear b
   go_wp2_with fail
   refine (HLo.out _).mono ?_
   rintro e w_409 ⟨rfl, b⟩
   have A_410 := Lib.hid (A_398.out.below b A_398.out.lt)
   have H_411 := Lib.hid (H_399.out.below b H_399.out.lt)
   have D_412 := Lib.hid (D_400.out.below b D_400.out.lt)
   have M_413 := Lib.hid (M_401.out.below b)
   have Q_414 := Lib.hid (Q_402.out.below b)
   have B_415 := Lib.hid (B_403.out.trans (b.mono B_403.out.size))
   have L_416 := Lib.hid (L_404.out.below b)
   have P_417 := Lib.hid (P_405.out.below b)
   have F_418 := Lib.hid (F_406.out.below b F_406.out.lt)
   have O_419 := Lib.hid (O_407.out.below b O_407.out.lt)
   have R_420 := Lib.hid (R_408.out.below b R_408.out.lt)
   clear A_398 H_399 D_400 M_401 Q_402 B_403 L_404 P_405 F_406 O_407 R_408
   clear b
   go_wp2_with fail
   go_ret
   exact ⟨rfl, B_415.out⟩
end Go.Proofs.YtbieomgpfhloeaaGreat
