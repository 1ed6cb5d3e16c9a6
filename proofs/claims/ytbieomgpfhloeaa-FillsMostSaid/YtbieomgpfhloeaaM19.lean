/-
  Pieces of one proof, without what is not wanted: FillsMost.
-/
import Derived.Test.YtbieomgpfhloeaaM13
import Derived.Test.YtbieomgpfhloeaaM16
import Derived.Test.YtbieomgpfhloeaaM17
import Derived.Test.YtbieomgpfhloeaaM18
set_option linter.unusedSimpArgs false
set_option linter.unusedVariables false
namespace Go.Proofs.Ytbieomgpfhloeaa
open Go.RowKit
set_option maxHeartbeats 64000000 in
set_option maxRecDepth 100000 in
theorem fmost10_walk (HMP : MostProg) (HMy : FMayProg) (HD : FDoProg) (HL : Lives10) (x : Wd) (y : Af) (w : World) (h0 : x.In w) (hy : y.Fits) :
  Calls Try.prog 4 #[.agg #[.slice x.a1 x.n1 x.c1, .slice x.a2 x.n2 x.c2], .agg #[.int .u64 y.se, .int .u8 y.tk, .int .u8 y.pt, .int .i64 y.n, .int .i64 y.mo, .bool y.fu]] w fun e w' => e = .returned (.bool true) ∧ Below w.heap.size w w' := by
 obtain ⟨a1, n1, c1, xs, a2, n2, c2, os⟩ := x
 obtain ⟨hA, hO⟩ := h0
 dsimp only at hA hO ⊢
 have m1 : n1 ≤ maxLen := Nat.le_trans hA.2.2.1 hA.2.2.2.1
 have m2 : n2 ≤ maxLen := Nat.le_trans hO.2.2.2.1 hO.2.2.2.2.1
 have b1 := (Below.refl w.heap.size w).alloc (Nat.le_refl _) (.cells #[.slice a1 n1 c1, .slice a2 n2 c2] 51)
 have b2 := b1.alloc b1.size (.cells #[.int .u64 y.se, .int .u8 y.tk, .int .u8 y.pt, .int .i64 y.n, .int .i64 y.mo, .bool y.fu] 25)
 have KX := Lib.hid ((Blk.new w #[.slice a1 n1 c1, .slice a2 n2 c2] 51).alloc (.cells #[.int .u64 y.se, .int .u8 y.tk, .int .u8 y.pt, .int .i64 y.n, .int .i64 y.mo, .bool y.fu] 25))
 have KA := Lib.hid (Blk.newAt (w.alloc (.cells #[.slice a1 n1 c1, .slice a2 n2 c2] 51)) #[.int .u64 y.se, .int .u8 y.tk, .int .u8 y.pt, .int .i64 y.n, .int .i64 y.mo, .bool y.fu] 25 (g := w.heap.size + 1) (by simp))
 have HA := Lib.hid (hA.below b2)
 have HO := Lib.hid (hO.below b2)
 have B1 := Lib.hid b2
 have HY := Lib.hid hy
 have HLo := Lib.hid HL
 have HGt := Lib.hid (fun w => great10_any (w := w) a1 a2 n1 n2 c1 c2 m1 m2)
 clear b1 b2 hA hO m1 m2 hy HL
 go_enter Try.func4, Try.ntmps4
 go_upto_region 1 with fail
 generalize (w.alloc (.cells #[.slice a1 n1 c1, .slice a2 n2 c2] 51)).alloc (.cells #[.int .u64 y.se, .int .u8 y.tk, .int .u8 y.pt, .int .i64 y.n, .int .i64 y.mo, .bool y.fu] 25) = W at *
 have x0 := KX.out.cell 0
 have x1 := KX.out.cell 1
 have xl := KX.out.lt
 simp at x0 x1
 go_wp2_with fail
 refine (HGt.out _).mono ?_
 rintro e w_1 ⟨rfl, b⟩
 clear x0 x1 xl
 have X_2 := Lib.hid (KX.out.below b KX.out.lt)
 have A_3 := Lib.hid (KA.out.below b KA.out.lt)
 have I_4 := Lib.hid (HA.out.below b)
 have J_5 := Lib.hid (HO.out.below b)
 have B_6 := Lib.hid (B1.out.trans (b.mono B1.out.size))
 clear KX KA HA HO B1
 clear b
 clear HGt
 by_cases hgt : 120 < n1 ∨ 40 < n2
 ·rw [decide_eq_true hgt]
  go_wp2_with fail
  refine (HLo.out _).mono ?_
  rintro e w_7 ⟨rfl, b⟩
  have X_8 := Lib.hid (X_2.out.below b X_2.out.lt)
  have A_9 := Lib.hid (A_3.out.below b A_3.out.lt)
  have I_10 := Lib.hid (I_4.out.below b)
  have J_11 := Lib.hid (J_5.out.below b)
  have B_12 := Lib.hid (B_6.out.trans (b.mono B_6.out.size))
  clear X_2 A_3 I_4 J_5 B_6
  clear b
  go_wp2_with fail
  go_ret
  exact ⟨rfl, B_12.out⟩
 rw [decide_eq_false hgt]
 have CM := Lib.hid (made10_any I_4.out J_5.out (by omega) (by omega))
 have x0 := X_2.out.cell 0
 have x1 := X_2.out.cell 1
 have xl := X_2.out.lt
 simp at x0 x1
 go_wp2_with fail
 refine CM.out.mono ?_
 rintro e w2 ⟨G, M, gb, ps, ls, l, N, vl, rfl, hL, hI, hG1, hM1, hP, hJ, hN, hgG, hgM, hvl, b2, hac, hof⟩
 have bh := (Below.refl w2.heap.size w2).alloc (Nat.le_refl _) (.cells #[.pointer (some ⟨G, 0, none⟩), .pointer (some ⟨gb, 0, none⟩)] 29)
 have KH := Lib.hid (Blk.new w2 #[.pointer (some ⟨G, 0, none⟩), .pointer (some ⟨gb, 0, none⟩)] 29)
 have b3 := b2.trans (bh.mono b2.size)
 have HL2 := Lib.hid (hL.below bh)
 have hP0 : PB w2 0 gb l N vl := ⟨hP.blk, Nat.zero_le _, owns_base hP.row (Nat.zero_le _)⟩
 have HP2 := Lib.hid (hP0.below bh)
 have II := Lib.hid hI
 have JJ := Lib.hid hJ
 have GE := Lib.hid (show (w.heap.size + 1 < G ∧ w.heap.size + 1 < M ∧ ∀ b, Foot gb vl b → w.heap.size + 1 < b) ∧ G < w2.heap.size ∧ M < w2.heap.size ∧ (∀ b, Foot gb vl b → b < w2.heap.size) ∧ w.heap.size + 1 < w2.heap.size from by have hs := A_3.out.lt; have hs2 := b2.size; exact ⟨⟨by omega, by omega, fun b hb => by have := (hP.lt hb).1; omega⟩, hL.blk.lt, hL.map.lt, fun b hb => (hP.lt hb).2, by omega⟩)
 clear x0 x1 xl
 have A_13 := Lib.hid (A_3.out.below b3 A_3.out.lt)
 have B_14 := Lib.hid (B_6.out.trans (b3.mono B_6.out.size))
 clear X_2 A_3 I_4 J_5 B_6
 clear hL hI hP hP0 hG1 hM1 hJ hN hgG hgM hvl hac hof bh b2 b3 CM
 obtain ⟨m1, m2, hG, hm1, hm2⟩ := goes_some II.out l y.se y.tk y.pt
 have GG := Lib.hid hG
 have HM1 := Lib.hid hm1
 have HM2 := Lib.hid hm2
 have CA := Lib.hid (fun u (h : LedM u G M ps ls) (k : PB u 0 gb l N vl) => HMy h II.out k JJ.out y.se y.tk y.pt y.n y.mo m1 m2 HY.out.se HY.out.tk HY.out.pt HY.out.n HY.out.mo GG.out)
 obtain ⟨nn, hnn⟩ : ∃ nn, mayV l ps y.se y.tk y.pt y.n y.mo m1 m2 = nn := ⟨_, rfl⟩
 have NB := mayV_nn (ps := ps) (s := y.se) (tk := y.tk) (pt := y.pt) (want := y.n) (most := y.mo) (m2 := m2) JJ.out hm1
 rw [hnn] at CA NB
 obtain ⟨nb0, nb1⟩ := NB
 have HNN := Lib.hid hnn
 have qa : decide (nn < 0) = false := by simp; omega
 have qb : decide (max y.n 0 < nn) = false := by simp; omega
 have CF := Lib.hid (fun u (k : PB u 0 gb l N vl) => pfind_any k JJ.out.n1 y.se)
 clear hG hm1 hm2 hnn
 have h0 := KH.out.cell 0
 have h1 := KH.out.cell 1
 have hl := KH.out.lt
 simp at h0 h1
 have a0 := A_13.out.cell 0
 have a1 := A_13.out.cell 1
 have a2 := A_13.out.cell 2
 have a3 := A_13.out.cell 3
 have a4 := A_13.out.cell 4
 have a5 := A_13.out.cell 5
 have al := A_13.out.lt
 simp at a0 a1 a2 a3 a4 a5
 go_wp2_with fail
 refine (CA.out _ HL2.out HP2.out).mono ?_
 rintro e w_15 ⟨rfl, b⟩
 clear h0 h1 hl a0 a1 a2 a3 a4 a5 al
 have A_16 := Lib.hid (A_13.out.below b A_13.out.lt)
 have B_17 := Lib.hid (B_14.out.trans (b.mono B_14.out.size))
 have H_18 := Lib.hid (KH.out.below b KH.out.lt)
 have L_19 := Lib.hid (HL2.out.below b)
 have P_20 := Lib.hid (HP2.out.below b)
 clear A_13 B_14 KH HL2 HP2
 clear b
 clear CA
 cases hf : findO l y.se with
 | none =>
  rw [hf] at CF
  have hz : nn = 0 := by rw [← HNN.out]; unfold mayV; rw [hf]
  clear HNN nb0 nb1 hf
  subst hz
  unfold foundV noOf Of.val at CF
  dsimp only at CF
  have h0 := H_18.out.cell 0
  have h1 := H_18.out.cell 1
  have hl := H_18.out.lt
  simp at h0 h1
  have a0 := A_16.out.cell 0
  have a1 := A_16.out.cell 1
  have a2 := A_16.out.cell 2
  have a3 := A_16.out.cell 3
  have a4 := A_16.out.cell 4
  have a5 := A_16.out.cell 5
  have al := A_16.out.lt
  simp at a0 a1 a2 a3 a4 a5
  go_wp2_with fail
  refine (CF.out _ P_20.out).mono ?_
  rintro e w_21 ⟨rfl, b⟩
  clear h0 h1 hl a0 a1 a2 a3 a4 a5 al
  have A_22 := Lib.hid (A_16.out.below b A_16.out.lt)
  have B_23 := Lib.hid (B_17.out.trans (b.mono B_17.out.size))
  have H_24 := Lib.hid (H_18.out.below b H_18.out.lt)
  have L_25 := Lib.hid (L_19.out.below b)
  have P_26 := Lib.hid (P_20.out.below b)
  clear A_16 B_17 H_18 L_19 P_20
  clear b
  have bf := (Below.refl w_21.heap.size w_21).alloc (Nat.le_refl _) (.cells #[.int .u64 0, .int .u8 0, .int .u8 0, .int .u8 0, .int .i64 0, .int .i64 0, .int .i64 0] 58)
  have A_27 := Lib.hid (A_22.out.below bf A_22.out.lt)
  have B_28 := Lib.hid (B_23.out.trans (bf.mono B_23.out.size))
  have H_29 := Lib.hid (H_24.out.below bf H_24.out.lt)
  have L_30 := Lib.hid (L_25.out.below bf)
  have P_31 := Lib.hid (P_26.out.below bf)
  clear A_22 B_23 H_24 L_25 P_26
  clear bf
  have a0 := A_27.out.cell 0
  have a1 := A_27.out.cell 1
  have a2 := A_27.out.cell 2
  have a3 := A_27.out.cell 3
  have a4 := A_27.out.cell 4
  have a5 := A_27.out.cell 5
  have al := A_27.out.lt
  simp at a0 a1 a2 a3 a4 a5
  go_wp2_with fail
  clear a0 a1 a2 a3 a4 a5 al
  refine (HLo.out _).mono ?_
  rintro e w_32 ⟨rfl, b⟩
  have A_33 := Lib.hid (A_27.out.below b A_27.out.lt)
  have B_34 := Lib.hid (B_28.out.trans (b.mono B_28.out.size))
  have H_35 := Lib.hid (H_29.out.below b H_29.out.lt)
  have L_36 := Lib.hid (L_30.out.below b)
  have P_37 := Lib.hid (P_31.out.below b)
  clear A_27 B_28 H_29 L_30 P_31
  clear b
  go_wp2_with fail
  go_ret
  exact ⟨rfl, B_34.out⟩
 | some o =>
  rw [hf] at CF
  unfold foundV Of.val at CF
  dsimp only at CF
  have HF := Lib.hid hf
  have hmem := (findO_mem hf).1
  have OM := Lib.hid (JJ.out.may o hmem)
  have OF := Lib.hid (JJ.out.fits hmem)
  have HZ : Hid ((o.ow = y.tk ∨ o.ow ∉ ps ∨ y.tk ∉ ps ∨ y.pt ∉ ps ∨ y.n < 1 ∨ y.mo < 1) → nn = 0) := Lib.hid (fun h => by rw [← HNN.out]; unfold mayV; rw [hf]; exact if_pos h)
  clear hf hmem
  have h0 := H_18.out.cell 0
  have h1 := H_18.out.cell 1
  have hl := H_18.out.lt
  simp at h0 h1
  have a0 := A_16.out.cell 0
  have a1 := A_16.out.cell 1
  have a2 := A_16.out.cell 2
  have a3 := A_16.out.cell 3
  have a4 := A_16.out.cell 4
  have a5 := A_16.out.cell 5
  have al := A_16.out.lt
  simp at a0 a1 a2 a3 a4 a5
  go_wp2_with fail
  refine (CF.out _ P_20.out).mono ?_
  rintro e w_38 ⟨rfl, b⟩
  clear h0 h1 hl a0 a1 a2 a3 a4 a5 al
  have A_39 := Lib.hid (A_16.out.below b A_16.out.lt)
  have B_40 := Lib.hid (B_17.out.trans (b.mono B_17.out.size))
  have H_41 := Lib.hid (H_18.out.below b H_18.out.lt)
  have L_42 := Lib.hid (L_19.out.below b)
  have P_43 := Lib.hid (P_20.out.below b)
  clear A_16 B_17 H_18 L_19 P_20
  clear b
  clear CF
  have KO := Lib.hid (Blk.new w_38 #[.int .u64 o.se, .int .u8 o.ow, .int .u8 o.sl, .int .u8 o.bu, .int .i64 o.lf, .int .i64 o.nu, .int .i64 o.de] 58)
  have bf := (Below.refl w_38.heap.size w_38).alloc (Nat.le_refl _) (.cells #[.int .u64 o.se, .int .u8 o.ow, .int .u8 o.sl, .int .u8 o.bu, .int .i64 o.lf, .int .i64 o.nu, .int .i64 o.de] 58)
  have A_44 := Lib.hid (A_39.out.below bf A_39.out.lt)
  have B_45 := Lib.hid (B_40.out.trans (bf.mono B_40.out.size))
  have H_46 := Lib.hid (H_41.out.below bf H_41.out.lt)
  have L_47 := Lib.hid (L_42.out.below bf)
  have P_48 := Lib.hid (P_43.out.below bf)
  clear A_39 B_40 H_41 L_42 P_43
  clear bf
  have CH := Lib.hid (fun u (h : LedM u G M ps ls) p => has_any h.blk II.out.bd p)
  by_cases c1 : o.ow = y.tk
  ·have hz := HZ.out (.inl c1)
   have s1 : (o.ow == y.tk) = true := by simpa using c1
   clear HZ HNN nb0 nb1 c1
   subst hz
   have a0 := A_44.out.cell 0
   have a1 := A_44.out.cell 1
   have a2 := A_44.out.cell 2
   have a3 := A_44.out.cell 3
   have a4 := A_44.out.cell 4
   have a5 := A_44.out.cell 5
   have al := A_44.out.lt
   simp at a0 a1 a2 a3 a4 a5
   have h0 := H_46.out.cell 0
   have h1 := H_46.out.cell 1
   have hl := H_46.out.lt
   simp at h0 h1
   have o0 := KO.out.cell 0
   have o1 := KO.out.cell 1
   have o2 := KO.out.cell 2
   have o3 := KO.out.cell 3
   have o4 := KO.out.cell 4
   have o5 := KO.out.cell 5
   have o6 := KO.out.cell 6
   have ol := KO.out.lt
   simp at o0 o1 o2 o3 o4 o5 o6
   go_wp2_with fail
   clear a0 a1 a2 a3 a4 a5 al h0 h1 hl o0 o1 o2 o3 o4 o5 o6 ol
   refine (HLo.out _).mono ?_
   rintro e w_49 ⟨rfl, b⟩
   have A_50 := Lib.hid (A_44.out.below b A_44.out.lt)
   have B_51 := Lib.hid (B_45.out.trans (b.mono B_45.out.size))
   have H_52 := Lib.hid (H_46.out.below b H_46.out.lt)
   have L_53 := Lib.hid (L_47.out.below b)
   have P_54 := Lib.hid (P_48.out.below b)
   have O_55 := Lib.hid (KO.out.below b KO.out.lt)
   clear A_44 B_45 H_46 L_47 P_48 KO
   clear b
   go_wp2_with fail
   go_ret
   exact ⟨rfl, B_51.out⟩
  have s1 : (o.ow == y.tk) = false := by simpa using c1
  by_cases c2 : o.ow ∉ ps
  ·have hz := HZ.out (.inr (.inl c2))
   have Cc2 := Lib.hid (fun u h => CH.out u h (o.ow))
   rw [decide_eq_false c2] at Cc2
   clear HZ HNN nb0 nb1 c1 c2 CH
   subst hz
   have a0 := A_44.out.cell 0
   have a1 := A_44.out.cell 1
   have a2 := A_44.out.cell 2
   have a3 := A_44.out.cell 3
   have a4 := A_44.out.cell 4
   have a5 := A_44.out.cell 5
   have al := A_44.out.lt
   simp at a0 a1 a2 a3 a4 a5
   have h0 := H_46.out.cell 0
   have h1 := H_46.out.cell 1
   have hl := H_46.out.lt
   simp at h0 h1
   have o0 := KO.out.cell 0
   have o1 := KO.out.cell 1
   have o2 := KO.out.cell 2
   have o3 := KO.out.cell 3
   have o4 := KO.out.cell 4
   have o5 := KO.out.cell 5
   have o6 := KO.out.cell 6
   have ol := KO.out.lt
   simp at o0 o1 o2 o3 o4 o5 o6
   go_wp2_with fail
   refine (Cc2.out _ L_47.out).mono ?_
   rintro e w_56 ⟨rfl, rfl⟩
   go_wp2_with fail
   clear a0 a1 a2 a3 a4 a5 al h0 h1 hl o0 o1 o2 o3 o4 o5 o6 ol
   refine (HLo.out _).mono ?_
   rintro e w_57 ⟨rfl, b⟩
   have A_58 := Lib.hid (A_44.out.below b A_44.out.lt)
   have B_59 := Lib.hid (B_45.out.trans (b.mono B_45.out.size))
   have H_60 := Lib.hid (H_46.out.below b H_46.out.lt)
   have L_61 := Lib.hid (L_47.out.below b)
   have P_62 := Lib.hid (P_48.out.below b)
   have O_63 := Lib.hid (KO.out.below b KO.out.lt)
   clear A_44 B_45 H_46 L_47 P_48 KO
   clear b
   go_wp2_with fail
   go_ret
   exact ⟨rfl, B_59.out⟩
  have c2 := Decidable.not_not.1 c2
  by_cases c3 : y.tk ∉ ps
  ·have hz := HZ.out (.inr (.inr (.inl c3)))
   have Cc2 := Lib.hid (fun u h => CH.out u h (o.ow))
   rw [decide_eq_true c2] at Cc2
   have Cc3 := Lib.hid (fun u h => CH.out u h (y.tk))
   rw [decide_eq_false c3] at Cc3
   clear HZ HNN nb0 nb1 c1 c2 c3 CH
   subst hz
   have a0 := A_44.out.cell 0
   have a1 := A_44.out.cell 1
   have a2 := A_44.out.cell 2
   have a3 := A_44.out.cell 3
   have a4 := A_44.out.cell 4
   have a5 := A_44.out.cell 5
   have al := A_44.out.lt
   simp at a0 a1 a2 a3 a4 a5
   have h0 := H_46.out.cell 0
   have h1 := H_46.out.cell 1
   have hl := H_46.out.lt
   simp at h0 h1
   have o0 := KO.out.cell 0
   have o1 := KO.out.cell 1
   have o2 := KO.out.cell 2
   have o3 := KO.out.cell 3
   have o4 := KO.out.cell 4
   have o5 := KO.out.cell 5
   have o6 := KO.out.cell 6
   have ol := KO.out.lt
   simp at o0 o1 o2 o3 o4 o5 o6
   go_wp2_with fail
   refine (Cc2.out _ L_47.out).mono ?_
   rintro e w_64 ⟨rfl, rfl⟩
   go_wp2_with fail
   refine (Cc3.out _ L_47.out).mono ?_
   rintro e w_65 ⟨rfl, rfl⟩
   go_wp2_with fail
   clear a0 a1 a2 a3 a4 a5 al h0 h1 hl o0 o1 o2 o3 o4 o5 o6 ol
   refine (HLo.out _).mono ?_
   rintro e w_66 ⟨rfl, b⟩
   have A_67 := Lib.hid (A_44.out.below b A_44.out.lt)
   have B_68 := Lib.hid (B_45.out.trans (b.mono B_45.out.size))
   have H_69 := Lib.hid (H_46.out.below b H_46.out.lt)
   have L_70 := Lib.hid (L_47.out.below b)
   have P_71 := Lib.hid (P_48.out.below b)
   have O_72 := Lib.hid (KO.out.below b KO.out.lt)
   clear A_44 B_45 H_46 L_47 P_48 KO
   clear b
   go_wp2_with fail
   go_ret
   exact ⟨rfl, B_68.out⟩
  have c3 := Decidable.not_not.1 c3
  by_cases c4 : y.pt ∉ ps
  ·have hz := HZ.out (.inr (.inr (.inr (.inl c4))))
   have Cc2 := Lib.hid (fun u h => CH.out u h (o.ow))
   rw [decide_eq_true c2] at Cc2
   have Cc3 := Lib.hid (fun u h => CH.out u h (y.tk))
   rw [decide_eq_true c3] at Cc3
   have Cc4 := Lib.hid (fun u h => CH.out u h (y.pt))
   rw [decide_eq_false c4] at Cc4
   clear HZ HNN nb0 nb1 c1 c2 c3 c4 CH
   subst hz
   have a0 := A_44.out.cell 0
   have a1 := A_44.out.cell 1
   have a2 := A_44.out.cell 2
   have a3 := A_44.out.cell 3
   have a4 := A_44.out.cell 4
   have a5 := A_44.out.cell 5
   have al := A_44.out.lt
   simp at a0 a1 a2 a3 a4 a5
   have h0 := H_46.out.cell 0
   have h1 := H_46.out.cell 1
   have hl := H_46.out.lt
   simp at h0 h1
   have o0 := KO.out.cell 0
   have o1 := KO.out.cell 1
   have o2 := KO.out.cell 2
   have o3 := KO.out.cell 3
   have o4 := KO.out.cell 4
   have o5 := KO.out.cell 5
   have o6 := KO.out.cell 6
   have ol := KO.out.lt
   simp at o0 o1 o2 o3 o4 o5 o6
   go_wp2_with fail
   refine (Cc2.out _ L_47.out).mono ?_
   rintro e w_73 ⟨rfl, rfl⟩
   go_wp2_with fail
   refine (Cc3.out _ L_47.out).mono ?_
   rintro e w_74 ⟨rfl, rfl⟩
   go_wp2_with fail
   refine (Cc4.out _ L_47.out).mono ?_
   rintro e w_75 ⟨rfl, rfl⟩
   go_wp2_with fail
   clear a0 a1 a2 a3 a4 a5 al h0 h1 hl o0 o1 o2 o3 o4 o5 o6 ol
   refine (HLo.out _).mono ?_
   rintro e w_76 ⟨rfl, b⟩
   have A_77 := Lib.hid (A_44.out.below b A_44.out.lt)
   have B_78 := Lib.hid (B_45.out.trans (b.mono B_45.out.size))
   have H_79 := Lib.hid (H_46.out.below b H_46.out.lt)
   have L_80 := Lib.hid (L_47.out.below b)
   have P_81 := Lib.hid (P_48.out.below b)
   have O_82 := Lib.hid (KO.out.below b KO.out.lt)
   clear A_44 B_45 H_46 L_47 P_48 KO
   clear b
   go_wp2_with fail
   go_ret
   exact ⟨rfl, B_78.out⟩
  have c4 := Decidable.not_not.1 c4
  by_cases c5 : y.n < 1
  ·have hz := HZ.out (.inr (.inr (.inr (.inr (.inl c5)))))
   have Cc2 := Lib.hid (fun u h => CH.out u h (o.ow))
   rw [decide_eq_true c2] at Cc2
   have Cc3 := Lib.hid (fun u h => CH.out u h (y.tk))
   rw [decide_eq_true c3] at Cc3
   have Cc4 := Lib.hid (fun u h => CH.out u h (y.pt))
   rw [decide_eq_true c4] at Cc4
   have sc5 : decide (y.n < 1) = true := by simpa using c5
   clear HZ HNN nb0 nb1 c1 c2 c3 c4 CH c5
   subst hz
   have a0 := A_44.out.cell 0
   have a1 := A_44.out.cell 1
   have a2 := A_44.out.cell 2
   have a3 := A_44.out.cell 3
   have a4 := A_44.out.cell 4
   have a5 := A_44.out.cell 5
   have al := A_44.out.lt
   simp at a0 a1 a2 a3 a4 a5
   have h0 := H_46.out.cell 0
   have h1 := H_46.out.cell 1
   have hl := H_46.out.lt
   simp at h0 h1
   have o0 := KO.out.cell 0
   have o1 := KO.out.cell 1
   have o2 := KO.out.cell 2
   have o3 := KO.out.cell 3
   have o4 := KO.out.cell 4
   have o5 := KO.out.cell 5
   have o6 := KO.out.cell 6
   have ol := KO.out.lt
   simp at o0 o1 o2 o3 o4 o5 o6
   go_wp2_with fail
   refine (Cc2.out _ L_47.out).mono ?_
   rintro e w_83 ⟨rfl, rfl⟩
   go_wp2_with fail
   refine (Cc3.out _ L_47.out).mono ?_
   rintro e w_84 ⟨rfl, rfl⟩
   go_wp2_with fail
   refine (Cc4.out _ L_47.out).mono ?_
   rintro e w_85 ⟨rfl, rfl⟩
   go_wp2_with fail
   clear a0 a1 a2 a3 a4 a5 al h0 h1 hl o0 o1 o2 o3 o4 o5 o6 ol
   refine (HLo.out _).mono ?_
   rintro e w_86 ⟨rfl, b⟩
   have A_87 := Lib.hid (A_44.out.below b A_44.out.lt)
   have B_88 := Lib.hid (B_45.out.trans (b.mono B_45.out.size))
   have H_89 := Lib.hid (H_46.out.below b H_46.out.lt)
   have L_90 := Lib.hid (L_47.out.below b)
   have P_91 := Lib.hid (P_48.out.below b)
   have O_92 := Lib.hid (KO.out.below b KO.out.lt)
   clear A_44 B_45 H_46 L_47 P_48 KO
   clear b
   go_wp2_with fail
   go_ret
   exact ⟨rfl, B_88.out⟩
  have sc5 : decide (y.n < 1) = false := by simpa using c5
  by_cases c6 : y.mo < 1
  ·have hz := HZ.out (.inr (.inr (.inr (.inr (.inr c6)))))
   have Cc2 := Lib.hid (fun u h => CH.out u h (o.ow))
   rw [decide_eq_true c2] at Cc2
   have Cc3 := Lib.hid (fun u h => CH.out u h (y.tk))
   rw [decide_eq_true c3] at Cc3
   have Cc4 := Lib.hid (fun u h => CH.out u h (y.pt))
   rw [decide_eq_true c4] at Cc4
   have sc6 : decide (y.mo < 1) = true := by simpa using c6
   clear HZ HNN nb0 nb1 c1 c2 c3 c4 CH c6
   subst hz
   have a0 := A_44.out.cell 0
   have a1 := A_44.out.cell 1
   have a2 := A_44.out.cell 2
   have a3 := A_44.out.cell 3
   have a4 := A_44.out.cell 4
   have a5 := A_44.out.cell 5
   have al := A_44.out.lt
   simp at a0 a1 a2 a3 a4 a5
   have h0 := H_46.out.cell 0
   have h1 := H_46.out.cell 1
   have hl := H_46.out.lt
   simp at h0 h1
   have o0 := KO.out.cell 0
   have o1 := KO.out.cell 1
   have o2 := KO.out.cell 2
   have o3 := KO.out.cell 3
   have o4 := KO.out.cell 4
   have o5 := KO.out.cell 5
   have o6 := KO.out.cell 6
   have ol := KO.out.lt
   simp at o0 o1 o2 o3 o4 o5 o6
   go_wp2_with fail
   refine (Cc2.out _ L_47.out).mono ?_
   rintro e w_93 ⟨rfl, rfl⟩
   go_wp2_with fail
   refine (Cc3.out _ L_47.out).mono ?_
   rintro e w_94 ⟨rfl, rfl⟩
   go_wp2_with fail
   refine (Cc4.out _ L_47.out).mono ?_
   rintro e w_95 ⟨rfl, rfl⟩
   go_wp2_with fail
   clear a0 a1 a2 a3 a4 a5 al h0 h1 hl o0 o1 o2 o3 o4 o5 o6 ol
   refine (HLo.out _).mono ?_
   rintro e w_96 ⟨rfl, b⟩
   have A_97 := Lib.hid (A_44.out.below b A_44.out.lt)
   have B_98 := Lib.hid (B_45.out.trans (b.mono B_45.out.size))
   have H_99 := Lib.hid (H_46.out.below b H_46.out.lt)
   have L_100 := Lib.hid (L_47.out.below b)
   have P_101 := Lib.hid (P_48.out.below b)
   have O_102 := Lib.hid (KO.out.below b KO.out.lt)
   clear A_44 B_45 H_46 L_47 P_48 KO
   clear b
   go_wp2_with fail
   go_ret
   exact ⟨rfl, B_98.out⟩
  have sc6 : decide (y.mo < 1) = false := by simpa using c6
  have OKO := Lib.hid (show ¬ (o.ow = y.tk ∨ o.ow ∉ ps ∨ y.tk ∉ ps ∨ y.pt ∉ ps ∨ y.n < 1 ∨ y.mo < 1) from fun h => by
   rcases h with h | h | h | h | h | h
   ·exact c1 h
   ·exact h c2
   ·exact h c3
   ·exact h c4
   ·exact c5 h
   ·exact c6 h)
  have Cc2 := Lib.hid (fun u h => CH.out u h (o.ow))
  rw [decide_eq_true c2] at Cc2
  have Cc3 := Lib.hid (fun u h => CH.out u h (y.tk))
  rw [decide_eq_true c3] at Cc3
  have Cc4 := Lib.hid (fun u h => CH.out u h (y.pt))
  rw [decide_eq_true c4] at Cc4
  have NN0 := Lib.hid nb0
  have hgo := GG.out o HF.out
  have hbd := hgo.bd II.out
  have BD := Lib.hid hbd
  obtain ⟨⟨μ, hμ, em⟩, ν, hν, en⟩ := hgo
  have CS := Lib.hid (fun u (h : LedM u G M ps ls) => pmost9_any HMP h II.out OF.out.ow HY.out.pt OF.out.sl hμ)
  rw [em] at CS
  have CB := Lib.hid (fun u (h : LedM u G M ps ls) => pmost9_any HMP h II.out HY.out.tk OF.out.ow OF.out.bu hν)
  rw [en] at CB
  have DOO := Lib.hid (fun (h : 1 ≤ nn) => may_do HM1.out HM2.out HNN.out h)
  have CD := Lib.hid (fun u (h : LedM u G M ps ls) (k : PB u 0 gb l N vl) (i : In64 nn) => HD h II.out k JJ.out y.se y.tk y.pt nn m1 m2 HY.out.se HY.out.tk HY.out.pt i GG.out)
  have MORE := Lib.hid (fun (hw : nn < y.n) (hl : nn < o.lf) (hs : y.pt = o.ow ∨ nn < m1) => one_more JJ.out HF.out HM1.out HM2.out OKO.out HNN.out hw hl hs)
  have N64 := Lib.hid (show In64 nn from by have := HY.out.n; unfold In64 at *; omega)
  have Y64 := Lib.hid (And.intro HY.out.n.1 (And.intro HY.out.n.2 (And.intro HY.out.mo.1 HY.out.mo.2)))
  clear HZ CH c1 c2 c3 c4 c5 c6 hμ hν em en hbd
  obtain ⟨y1, y2, y3, y4⟩ := Y64.out
  obtain ⟨⟨g1, g2⟩, g3, g4⟩ := BD.out
  obtain ⟨l1, l2⟩ := OM.out.2.2.2.2.1
  have hmo1 : 1 ≤ y.mo := Classical.byContradiction fun h => OKO.out (.inr (.inr (.inr (.inr (.inr (by omega))))))
  by_cases kw : nn < y.n
  ·have d1 : decide (nn < y.n) = true := by simpa using kw
   by_cases kl : nn < o.lf
   ·have d2 : decide (nn < o.lf) = true := by simpa using kl
    by_cases hp : y.pt = o.ow
    ·have d3 : (y.pt == o.ow) = true := by simpa using hp
     have hs : y.pt = o.ow ∨ nn < m1 := .inl hp
     clear hp
     have a0 := A_44.out.cell 0
     have a1 := A_44.out.cell 1
     have a2 := A_44.out.cell 2
     have a3 := A_44.out.cell 3
     have a4 := A_44.out.cell 4
     have a5 := A_44.out.cell 5
     have al := A_44.out.lt
     simp at a0 a1 a2 a3 a4 a5
     have h0 := H_46.out.cell 0
     have h1 := H_46.out.cell 1
     have hl := H_46.out.lt
     simp at h0 h1
     have o0 := KO.out.cell 0
     have o1 := KO.out.cell 1
     have o2 := KO.out.cell 2
     have o3 := KO.out.cell 3
     have o4 := KO.out.cell 4
     have o5 := KO.out.cell 5
     have o6 := KO.out.cell 6
     have ol := KO.out.lt
     simp at o0 o1 o2 o3 o4 o5 o6
     go_wp2_with fail
     refine (Cc2.out _ L_47.out).mono ?_
     rintro e w_103 ⟨rfl, rfl⟩
     go_wp2_with fail
     refine (Cc3.out _ L_47.out).mono ?_
     rintro e w_104 ⟨rfl, rfl⟩
     go_wp2_with fail
     refine (Cc4.out _ L_47.out).mono ?_
     rintro e w_105 ⟨rfl, rfl⟩
     go_wp2_with fail
     have HMO := Lib.hid (MORE.out kw kl hs)
     have n2 : nn ≤ 1099511627776 := by omega
     clear kw kl hs
     clear a0 a1 a2 a3 a4 a5 al h0 h1 hl o0 o1 o2 o3 o4 o5 o6 ol
     go_wp2_with fail
     have hWW : (w_38.alloc (.cells #[.int .u64 o.se, .int .u8 o.ow, .int .u8 o.sl, .int .u8 o.bu, .int .i64 o.lf, .int .i64 o.nu, .int .i64 o.de] 58)).heap.size = (w_38.alloc (.cells #[.int .u64 o.se, .int .u8 o.ow, .int .u8 o.sl, .int .u8 o.bu, .int .i64 o.lf, .int .i64 o.nu, .int .i64 o.de] 58)).heap.size := rfl
     clear hWW
     generalize w_38.alloc (.cells #[.int .u64 o.se, .int .u8 o.ow, .int .u8 o.sl, .int .u8 o.bu, .int .i64 o.lf, .int .i64 o.nu, .int .i64 o.de] 58) = WX at *
     refine region_still (by kernel_rfl) [(.pointer (some ⟨w.heap.size + 1, 4, none⟩)), (.int .i64 y.mo), (.pointer (some ⟨w2.heap.size, 0, none⟩)), (.pointer (some ⟨G, 0, none⟩)), (.pointer (some ⟨w.heap.size + 1, 1, none⟩)), (.int .u8 y.tk), (.pointer (some ⟨w_38.heap.size, 1, none⟩)), (.int .u8 o.ow), (.pointer (some ⟨w_38.heap.size, 3, none⟩)), (.int .u8 o.bu), (.int .i64 m2), (.int .i64 (min y.mo (min 1099511627776 m2))), (.int .i64 (min y.mo (min 1099511627776 m2)))]
      (fun w' => Below WX.heap.size WX w') (by kernel_rfl) (Below.refl _ _).drew ?_
     intro af haf
     simp only [List.toList_toArray, List.append_eq, List.cons_append, List.nil_append, puts, Act.put, List.getD_cons_zero, List.getD_cons_succ, List.setIfInBounds_toArray, List.set_cons_succ, List.set_cons_zero] at haf
     subst haf
     refine ⟨?_, ?_⟩
     ·simp only [List.toList_toArray, List.append_eq, List.cons_append, List.nil_append, EachTo]
      refine ⟨?_, ?_, ?_, ?_, ?_, ?_, ?_, ?_, ?_, ?_, ?_, ?_, ?_, trivial⟩
      ·intro w' hS
       refine OpTo.plain ?_ ?_
       exact rfl
       have hl0 := Nat.lt_of_lt_of_le A_44.out.lt hS.size
       have HS := Lib.hid hS
       clear hS
       go_wp2_with fail
       all_goals first | exact HS.out | exact ⟨rfl, HS.out⟩ | rfl | exact ⟨by omega, HS.out⟩
      ·intro w' hS
       refine OpTo.plain ?_ ?_
       exact rfl
       have d0_0 := (A_44.out.below hS A_44.out.lt).cell 0
       have d0_1 := (A_44.out.below hS A_44.out.lt).cell 1
       have d0_2 := (A_44.out.below hS A_44.out.lt).cell 2
       have d0_3 := (A_44.out.below hS A_44.out.lt).cell 3
       have d0_4 := (A_44.out.below hS A_44.out.lt).cell 4
       have d0_5 := (A_44.out.below hS A_44.out.lt).cell 5
       simp at d0_0 d0_1 d0_2 d0_3 d0_4 d0_5
       have HS := Lib.hid hS
       clear hS
       go_wp2_with fail
       all_goals first | exact HS.out | exact ⟨rfl, HS.out⟩ | rfl | exact ⟨by omega, HS.out⟩
      ·intro w' hS
       refine OpTo.plain ?_ ?_
       exact rfl
       have hl0 := Nat.lt_of_lt_of_le H_46.out.lt hS.size
       have HS := Lib.hid hS
       clear hS
       go_wp2_with fail
       all_goals first | exact HS.out | exact ⟨rfl, HS.out⟩ | rfl | exact ⟨by omega, HS.out⟩
      ·intro w' hS
       refine OpTo.plain ?_ ?_
       exact rfl
       have d0_0 := (H_46.out.below hS H_46.out.lt).cell 0
       have d0_1 := (H_46.out.below hS H_46.out.lt).cell 1
       simp at d0_0 d0_1
       have HS := Lib.hid hS
       clear hS
       go_wp2_with fail
       all_goals first | exact HS.out | exact ⟨rfl, HS.out⟩ | rfl | exact ⟨by omega, HS.out⟩
      ·intro w' hS
       refine OpTo.plain ?_ ?_
       exact rfl
       have hl0 := Nat.lt_of_lt_of_le A_44.out.lt hS.size
       have HS := Lib.hid hS
       clear hS
       go_wp2_with fail
       all_goals first | exact HS.out | exact ⟨rfl, HS.out⟩ | rfl | exact ⟨by omega, HS.out⟩
      ·intro w' hS
       refine OpTo.plain ?_ ?_
       exact rfl
       have d0_0 := (A_44.out.below hS A_44.out.lt).cell 0
       have d0_1 := (A_44.out.below hS A_44.out.lt).cell 1
       have d0_2 := (A_44.out.below hS A_44.out.lt).cell 2
       have d0_3 := (A_44.out.below hS A_44.out.lt).cell 3
       have d0_4 := (A_44.out.below hS A_44.out.lt).cell 4
       have d0_5 := (A_44.out.below hS A_44.out.lt).cell 5
       simp at d0_0 d0_1 d0_2 d0_3 d0_4 d0_5
       have HS := Lib.hid hS
       clear hS
       go_wp2_with fail
       all_goals first | exact HS.out | exact ⟨rfl, HS.out⟩ | rfl | exact ⟨by omega, HS.out⟩
      ·intro w' hS
       refine OpTo.plain ?_ ?_
       exact rfl
       have hl0 := Nat.lt_of_lt_of_le KO.out.lt hS.size
       have HS := Lib.hid hS
       clear hS
       go_wp2_with fail
       all_goals first | exact HS.out | exact ⟨rfl, HS.out⟩ | rfl | exact ⟨by omega, HS.out⟩
      ·intro w' hS
       refine OpTo.plain ?_ ?_
       exact rfl
       have d0_0 := (KO.out.below hS KO.out.lt).cell 0
       have d0_1 := (KO.out.below hS KO.out.lt).cell 1
       have d0_2 := (KO.out.below hS KO.out.lt).cell 2
       have d0_3 := (KO.out.below hS KO.out.lt).cell 3
       have d0_4 := (KO.out.below hS KO.out.lt).cell 4
       have d0_5 := (KO.out.below hS KO.out.lt).cell 5
       have d0_6 := (KO.out.below hS KO.out.lt).cell 6
       simp at d0_0 d0_1 d0_2 d0_3 d0_4 d0_5 d0_6
       have HS := Lib.hid hS
       clear hS
       go_wp2_with fail
       all_goals first | exact HS.out | exact ⟨rfl, HS.out⟩ | rfl | exact ⟨by omega, HS.out⟩
      ·intro w' hS
       refine OpTo.plain ?_ ?_
       exact rfl
       have hl0 := Nat.lt_of_lt_of_le KO.out.lt hS.size
       have HS := Lib.hid hS
       clear hS
       go_wp2_with fail
       all_goals first | exact HS.out | exact ⟨rfl, HS.out⟩ | rfl | exact ⟨by omega, HS.out⟩
      ·intro w' hS
       refine OpTo.plain ?_ ?_
       exact rfl
       have d0_0 := (KO.out.below hS KO.out.lt).cell 0
       have d0_1 := (KO.out.below hS KO.out.lt).cell 1
       have d0_2 := (KO.out.below hS KO.out.lt).cell 2
       have d0_3 := (KO.out.below hS KO.out.lt).cell 3
       have d0_4 := (KO.out.below hS KO.out.lt).cell 4
       have d0_5 := (KO.out.below hS KO.out.lt).cell 5
       have d0_6 := (KO.out.below hS KO.out.lt).cell 6
       simp at d0_0 d0_1 d0_2 d0_3 d0_4 d0_5 d0_6
       have HS := Lib.hid hS
       clear hS
       go_wp2_with fail
       all_goals first | exact HS.out | exact ⟨rfl, HS.out⟩ | rfl | exact ⟨by omega, HS.out⟩
      ·intro w' hS
       refine OpTo.plain ?_ ?_
       exact rfl
       have HS := Lib.hid hS
       clear hS
       go_wp2_with fail
       refine (CB.out w' (L_47.out.below HS.out)).mono ?_
       rintro e w'' ⟨rfl, hb2⟩
       exact ⟨rfl, andB HS.out hb2⟩
      ·intro w' hS
       refine OpTo.plain ?_ ?_
       exact rfl
       have HS := Lib.hid hS
       clear hS
       go_wp2_with fail
       all_goals first | exact HS.out | exact ⟨rfl, HS.out⟩ | rfl | exact ⟨by omega, HS.out⟩
      ·intro w' hS
       refine OpTo.plain ?_ ?_
       exact rfl
       have HS := Lib.hid hS
       clear hS
       go_wp2_with fail
       all_goals first | exact HS.out | exact ⟨rfl, HS.out⟩ | rfl | exact ⟨by omega, HS.out⟩
     intro w' hS
     have A_106 := Lib.hid (A_44.out.below hS A_44.out.lt)
     have B_107 := Lib.hid (B_45.out.trans (hS.mono B_45.out.size))
     have H_108 := Lib.hid (H_46.out.below hS H_46.out.lt)
     have L_109 := Lib.hid (L_47.out.below hS)
     have P_110 := Lib.hid (P_48.out.below hS)
     have O_111 := Lib.hid (KO.out.below hS KO.out.lt)
     clear A_44 B_45 H_46 L_47 P_48 KO
     clear hS
     rw [show min (min y.mo 1099511627776) m2 = min y.mo (min 1099511627776 m2) by omega] at HMO
     have hmx : max (min y.mo (min 1099511627776 m2)) 0 = min y.mo (min 1099511627776 m2) := by omega
     have HG : Hid (0 ≤ min y.mo (min 1099511627776 m2) ∧ min y.mo (min 1099511627776 m2) ≤ 1099511627776) := Lib.hid (by omega)
     obtain ⟨g, hg⟩ : ∃ g, min y.mo (min 1099511627776 m2) = g := ⟨_, rfl⟩
     rw [hg] at hmx HMO HG ⊢
     have HGG := Lib.hid hg
     clear hg
     obtain ⟨gg1, gg2⟩ := HG.out
     have bnu := may_bd OM.out.2.2.2.2.2
     obtain ⟨v1, v2, v3, v4, _⟩ := bnu
     have n0 := NN0.out
     have CP := Lib.hid (fun w => mul64_any (nn + 1) o.nu w ⟨by omega, by omega⟩ ⟨by omega, by omega⟩)
     have CQ := Lib.hid (fun w => mul64_any g o.de w ⟨by omega, by omega⟩ ⟨by omega, by omega⟩)
     have wx : IntKind.u64.wrap (nn + 1) = nn + 1 := by rw [wrap_u64]; omega
     have wn : IntKind.u64.wrap g = g := by rw [wrap_u64]; omega
     have wu : IntKind.u64.wrap o.nu = o.nu := by rw [wrap_u64]; omega
     have wd : IntKind.u64.wrap o.de = o.de := by rw [wrap_u64]; omega
     have hlt := HMO.out
     obtain ⟨P, hP⟩ : ∃ P, (nn + 1) * o.nu = P := ⟨_, rfl⟩
     obtain ⟨Q, hQ⟩ : ∃ Q, g * o.de = Q := ⟨_, rfl⟩
     rw [hP] at CP hlt
     rw [hQ] at CQ hlt
     have r1 : decide (P / 18446744073709551616 < Q / 18446744073709551616) = false := by simp; omega
     have hr : P / 18446744073709551616 = Q / 18446744073709551616 → decide (P % 18446744073709551616 ≤ Q % 18446744073709551616) = false := fun h => by simp; omega
     obtain ⟨ph, hph⟩ : ∃ ph, P / 18446744073709551616 = ph := ⟨_, rfl⟩
     obtain ⟨pl, hpl⟩ : ∃ pl, P % 18446744073709551616 = pl := ⟨_, rfl⟩
     obtain ⟨qh, hqh⟩ : ∃ qh, Q / 18446744073709551616 = qh := ⟨_, rfl⟩
     obtain ⟨ql, hql⟩ : ∃ ql, Q % 18446744073709551616 = ql := ⟨_, rfl⟩
     rw [hph, hpl] at CP
     rw [hqh, hql] at CQ
     rw [hph, hqh] at r1 hr
     rw [hpl, hql] at hr
     have HR := Lib.hid hr
     clear hP hQ hph hpl hqh hql hlt hr v1 v2 v3 v4 HMO
     have o0 := O_111.out.cell 0
     have o1 := O_111.out.cell 1
     have o2 := O_111.out.cell 2
     have o3 := O_111.out.cell 3
     have o4 := O_111.out.cell 4
     have o5 := O_111.out.cell 5
     have o6 := O_111.out.cell 6
     have ol := O_111.out.lt
     simp at o0 o1 o2 o3 o4 o5 o6
     go_wp2_with fail
     refine (CP.out _).mono ?_
     rintro e wp ⟨rfl, rfl⟩
     go_wp2_with fail
     refine (CQ.out _).mono ?_
     rintro e wq ⟨rfl, rfl⟩
     by_cases hpq : ph = qh
     ·have r2 : (ph == qh) = true := by simpa using hpq
      have r3 := HR.out hpq
      clear hpq HR hmx wx wn wu wd
      by_cases hz : nn = 0
      ·have z0 : (nn == 0) = true := by simpa using hz
       clear hz
       clear o0 o1 o2 o3 o4 o5 o6 ol
       go_wp2_with fail
       refine (HLo.out _).mono ?_
       rintro e w_112 ⟨rfl, b⟩
       have A_113 := Lib.hid (A_106.out.below b A_106.out.lt)
       have B_114 := Lib.hid (B_107.out.trans (b.mono B_107.out.size))
       have H_115 := Lib.hid (H_108.out.below b H_108.out.lt)
       have L_116 := Lib.hid (L_109.out.below b)
       have P_117 := Lib.hid (P_110.out.below b)
       have O_118 := Lib.hid (O_111.out.below b O_111.out.lt)
       clear A_106 B_107 H_108 L_109 P_110 O_111
       clear b
       go_wp2_with fail
       go_ret
       exact ⟨rfl, B_114.out⟩
      have z0 : (nn == 0) = false := by simpa using hz
      obtain ⟨ok, _, _, o', ho', hfit⟩ := DOO.out (by have := NN0.out; omega)
      rw [HF.out] at ho'
      cases ho'
      obtain ⟨_, u2, u3⟩ := up_fits OM.out.2.2.2.2.2 (n := nn) (by omega) (by omega) (by have := NN0.out; omega) hfit
      obtain ⟨z, hzz⟩ : ∃ z, upN (nn * o.nu) o.de = z := ⟨_, rfl⟩
      rw [hzz] at u2 u3
      have HZZ := Lib.hid hzz
      have z1 : decide (z ≤ y.mo) = true := by simp; omega
      have OKD := Lib.hid ok
      have CDD := Lib.hid (fun u h k => CD.out u h k N64.out)
      clear ok hfit hzz u2 u3 hz
      clear o0 o1 o2 o3 o4 o5 o6 ol
      have h0 := H_108.out.cell 0
      have h1 := H_108.out.cell 1
      have hl := H_108.out.lt
      simp at h0 h1
      have a0 := A_106.out.cell 0
      have a1 := A_106.out.cell 1
      have a2 := A_106.out.cell 2
      have a3 := A_106.out.cell 3
      have a4 := A_106.out.cell 4
      have a5 := A_106.out.cell 5
      have al := A_106.out.lt
      simp at a0 a1 a2 a3 a4 a5
      go_wp2_with fail
      refine (CDD.out _ L_109.out P_110.out).mono ?_
      rintro e w_119 hd
      rcases hd with ⟨hno, _⟩ | ⟨_, ox, z', ls', vb', hox, hx, _, rfl, _, _, kk, _⟩
      ·exact absurd OKD.out hno
      rw [HF.out] at hox
      cases hox
      rw [HZZ.out] at hx
      obtain rfl : z = z' := hx.symm
      clear h0 h1 hl a0 a1 a2 a3 a4 a5 al
      have AA := Lib.hid (A_106.out.keep kk (by
       obtain ⟨⟨g1, g2, g3⟩, _⟩ := GE.out
       rintro (h | h | h)
       ·omega
       ·omega
       ·have := g3 _ h; omega))
      have BB := Lib.hid (B_107.out.trans (kk.below B_107.out.size (fun b hb h => by
       obtain ⟨⟨g1, g2, g3⟩, _⟩ := GE.out
       rcases h with h | h | h
       ·omega
       ·omega
       ·have := g3 _ h; omega)))
      have bf := (Below.refl w_119.heap.size w_119).alloc (Nat.le_refl _) (.cells #[.int .u64 y.se, .int .u8 y.tk, .int .u8 y.pt, .int .i64 nn, .int .i64 z] 41)
      have KF := Lib.hid (Blk.new w_119 #[.int .u64 y.se, .int .u8 y.tk, .int .u8 y.pt, .int .i64 nn, .int .i64 z] 41)
      clear kk A_106 B_107 H_108 L_109 P_110 O_111
      have A_120 := Lib.hid (AA.out.below bf AA.out.lt)
      have B_121 := Lib.hid (BB.out.trans (bf.mono BB.out.size))
      clear AA BB
      clear bf
      have a0 := A_120.out.cell 0
      have a1 := A_120.out.cell 1
      have a2 := A_120.out.cell 2
      have a3 := A_120.out.cell 3
      have a4 := A_120.out.cell 4
      have a5 := A_120.out.cell 5
      have al := A_120.out.lt
      simp at a0 a1 a2 a3 a4 a5
      have f0 := KF.out.cell 0
      have f1 := KF.out.cell 1
      have f2 := KF.out.cell 2
      have f3 := KF.out.cell 3
      have f4 := KF.out.cell 4
      have fl := KF.out.lt
      simp at f0 f1 f2 f3 f4
      go_wp2_with fail
      clear a0 a1 a2 a3 a4 a5 al f0 f1 f2 f3 f4 fl
      refine (HLo.out _).mono ?_
      rintro e w_122 ⟨rfl, b⟩
      have A_123 := Lib.hid (A_120.out.below b A_120.out.lt)
      have B_124 := Lib.hid (B_121.out.trans (b.mono B_121.out.size))
      have F_125 := Lib.hid (KF.out.below b KF.out.lt)
      clear A_120 B_121 KF
      clear b
      go_wp2_with fail
      go_ret
      exact ⟨rfl, B_124.out⟩
     have r2 : (ph == qh) = false := by simpa using hpq
     clear hpq HR hmx wx wn wu wd
     by_cases hz : nn = 0
     ·have z0 : (nn == 0) = true := by simpa using hz
      clear hz
      clear o0 o1 o2 o3 o4 o5 o6 ol
      go_wp2_with fail
      refine (HLo.out _).mono ?_
      rintro e w_126 ⟨rfl, b⟩
      have A_127 := Lib.hid (A_106.out.below b A_106.out.lt)
      have B_128 := Lib.hid (B_107.out.trans (b.mono B_107.out.size))
      have H_129 := Lib.hid (H_108.out.below b H_108.out.lt)
      have L_130 := Lib.hid (L_109.out.below b)
      have P_131 := Lib.hid (P_110.out.below b)
      have O_132 := Lib.hid (O_111.out.below b O_111.out.lt)
      clear A_106 B_107 H_108 L_109 P_110 O_111
      clear b
      go_wp2_with fail
      go_ret
      exact ⟨rfl, B_128.out⟩
     have z0 : (nn == 0) = false := by simpa using hz
     obtain ⟨ok, _, _, o', ho', hfit⟩ := DOO.out (by have := NN0.out; omega)
     rw [HF.out] at ho'
     cases ho'
     obtain ⟨_, u2, u3⟩ := up_fits OM.out.2.2.2.2.2 (n := nn) (by omega) (by omega) (by have := NN0.out; omega) hfit
     obtain ⟨z, hzz⟩ : ∃ z, upN (nn * o.nu) o.de = z := ⟨_, rfl⟩
     rw [hzz] at u2 u3
     have HZZ := Lib.hid hzz
     have z1 : decide (z ≤ y.mo) = true := by simp; omega
     have OKD := Lib.hid ok
     have CDD := Lib.hid (fun u h k => CD.out u h k N64.out)
     clear ok hfit hzz u2 u3 hz
     clear o0 o1 o2 o3 o4 o5 o6 ol
     have h0 := H_108.out.cell 0
     have h1 := H_108.out.cell 1
     have hl := H_108.out.lt
     simp at h0 h1
     have a0 := A_106.out.cell 0
     have a1 := A_106.out.cell 1
     have a2 := A_106.out.cell 2
     have a3 := A_106.out.cell 3
     have a4 := A_106.out.cell 4
     have a5 := A_106.out.cell 5
     have al := A_106.out.lt
     simp at a0 a1 a2 a3 a4 a5
     go_wp2_with fail
     refine (CDD.out _ L_109.out P_110.out).mono ?_
     rintro e w_133 hd
     rcases hd with ⟨hno, _⟩ | ⟨_, ox, z', ls', vb', hox, hx, _, rfl, _, _, kk, _⟩
     ·exact absurd OKD.out hno
     rw [HF.out] at hox
     cases hox
     rw [HZZ.out] at hx
     obtain rfl : z = z' := hx.symm
     clear h0 h1 hl a0 a1 a2 a3 a4 a5 al
     have AA := Lib.hid (A_106.out.keep kk (by
      obtain ⟨⟨g1, g2, g3⟩, _⟩ := GE.out
      rintro (h | h | h)
      ·omega
      ·omega
      ·have := g3 _ h; omega))
     have BB := Lib.hid (B_107.out.trans (kk.below B_107.out.size (fun b hb h => by
      obtain ⟨⟨g1, g2, g3⟩, _⟩ := GE.out
      rcases h with h | h | h
      ·omega
      ·omega
      ·have := g3 _ h; omega)))
     have bf := (Below.refl w_133.heap.size w_133).alloc (Nat.le_refl _) (.cells #[.int .u64 y.se, .int .u8 y.tk, .int .u8 y.pt, .int .i64 nn, .int .i64 z] 41)
     have KF := Lib.hid (Blk.new w_133 #[.int .u64 y.se, .int .u8 y.tk, .int .u8 y.pt, .int .i64 nn, .int .i64 z] 41)
     clear kk A_106 B_107 H_108 L_109 P_110 O_111
     have A_134 := Lib.hid (AA.out.below bf AA.out.lt)
     have B_135 := Lib.hid (BB.out.trans (bf.mono BB.out.size))
     clear AA BB
     clear bf
     have a0 := A_134.out.cell 0
     have a1 := A_134.out.cell 1
     have a2 := A_134.out.cell 2
     have a3 := A_134.out.cell 3
     have a4 := A_134.out.cell 4
     have a5 := A_134.out.cell 5
     have al := A_134.out.lt
     simp at a0 a1 a2 a3 a4 a5
     have f0 := KF.out.cell 0
     have f1 := KF.out.cell 1
     have f2 := KF.out.cell 2
     have f3 := KF.out.cell 3
     have f4 := KF.out.cell 4
     have fl := KF.out.lt
     simp at f0 f1 f2 f3 f4
     go_wp2_with fail
     clear a0 a1 a2 a3 a4 a5 al f0 f1 f2 f3 f4 fl
     refine (HLo.out _).mono ?_
     rintro e w_136 ⟨rfl, b⟩
     have A_137 := Lib.hid (A_134.out.below b A_134.out.lt)
     have B_138 := Lib.hid (B_135.out.trans (b.mono B_135.out.size))
     have F_139 := Lib.hid (KF.out.below b KF.out.lt)
     clear A_134 B_135 KF
     clear b
     go_wp2_with fail
     go_ret
     exact ⟨rfl, B_138.out⟩
    have d3 : (y.pt == o.ow) = false := by simpa using hp
    by_cases hm : nn < m1
    ·have d4 : decide (nn < m1) = true := by simpa using hm
     have hs : y.pt = o.ow ∨ nn < m1 := .inr hm
     clear hp hm
     have a0 := A_44.out.cell 0
     have a1 := A_44.out.cell 1
     have a2 := A_44.out.cell 2
     have a3 := A_44.out.cell 3
     have a4 := A_44.out.cell 4
     have a5 := A_44.out.cell 5
     have al := A_44.out.lt
     simp at a0 a1 a2 a3 a4 a5
     have h0 := H_46.out.cell 0
     have h1 := H_46.out.cell 1
     have hl := H_46.out.lt
     simp at h0 h1
     have o0 := KO.out.cell 0
     have o1 := KO.out.cell 1
     have o2 := KO.out.cell 2
     have o3 := KO.out.cell 3
     have o4 := KO.out.cell 4
     have o5 := KO.out.cell 5
     have o6 := KO.out.cell 6
     have ol := KO.out.lt
     simp at o0 o1 o2 o3 o4 o5 o6
     go_wp2_with fail
     refine (Cc2.out _ L_47.out).mono ?_
     rintro e w_140 ⟨rfl, rfl⟩
     go_wp2_with fail
     refine (Cc3.out _ L_47.out).mono ?_
     rintro e w_141 ⟨rfl, rfl⟩
     go_wp2_with fail
     refine (Cc4.out _ L_47.out).mono ?_
     rintro e w_142 ⟨rfl, rfl⟩
     go_wp2_with fail
     refine (CS.out _ L_47.out).mono ?_
     rintro e w_143 ⟨rfl, b⟩
     clear a0 a1 a2 a3 a4 a5 al h0 h1 hl o0 o1 o2 o3 o4 o5 o6 ol
     have A_144 := Lib.hid (A_44.out.below b A_44.out.lt)
     have B_145 := Lib.hid (B_45.out.trans (b.mono B_45.out.size))
     have H_146 := Lib.hid (H_46.out.below b H_46.out.lt)
     have L_147 := Lib.hid (L_47.out.below b)
     have P_148 := Lib.hid (P_48.out.below b)
     have O_149 := Lib.hid (KO.out.below b KO.out.lt)
     clear A_44 B_45 H_46 L_47 P_48 KO
     clear b
     have HMO := Lib.hid (MORE.out kw kl hs)
     have n2 : nn ≤ 1099511627776 := by omega
     clear kw kl hs
     go_wp2_with fail
     have hWW : (w_143).heap.size = (w_143).heap.size := rfl
     clear hWW
     skip
     refine region_still (by kernel_rfl) [(.pointer (some ⟨w.heap.size + 1, 4, none⟩)), (.int .i64 y.mo), (.pointer (some ⟨w2.heap.size, 0, none⟩)), (.pointer (some ⟨G, 0, none⟩)), (.pointer (some ⟨w.heap.size + 1, 1, none⟩)), (.int .u8 y.tk), (.pointer (some ⟨w_38.heap.size, 1, none⟩)), (.int .u8 o.ow), (.pointer (some ⟨w_38.heap.size, 3, none⟩)), (.int .u8 o.bu), (.int .i64 m2), (.int .i64 (min y.mo (min 1099511627776 m2))), (.int .i64 (min y.mo (min 1099511627776 m2)))]
      (fun w' => Below w_143.heap.size w_143 w') (by kernel_rfl) (Below.refl _ _).drew ?_
     intro af haf
     simp only [List.toList_toArray, List.append_eq, List.cons_append, List.nil_append, puts, Act.put, List.getD_cons_zero, List.getD_cons_succ, List.setIfInBounds_toArray, List.set_cons_succ, List.set_cons_zero] at haf
     subst haf
     refine ⟨?_, ?_⟩
     ·simp only [List.toList_toArray, List.append_eq, List.cons_append, List.nil_append, EachTo]
      refine ⟨?_, ?_, ?_, ?_, ?_, ?_, ?_, ?_, ?_, ?_, ?_, ?_, ?_, trivial⟩
      ·intro w' hS
       refine OpTo.plain ?_ ?_
       exact rfl
       have hl0 := Nat.lt_of_lt_of_le A_144.out.lt hS.size
       have HS := Lib.hid hS
       clear hS
       go_wp2_with fail
       all_goals first | exact HS.out | exact ⟨rfl, HS.out⟩ | rfl | exact ⟨by omega, HS.out⟩
      ·intro w' hS
       refine OpTo.plain ?_ ?_
       exact rfl
       have d0_0 := (A_144.out.below hS A_144.out.lt).cell 0
       have d0_1 := (A_144.out.below hS A_144.out.lt).cell 1
       have d0_2 := (A_144.out.below hS A_144.out.lt).cell 2
       have d0_3 := (A_144.out.below hS A_144.out.lt).cell 3
       have d0_4 := (A_144.out.below hS A_144.out.lt).cell 4
       have d0_5 := (A_144.out.below hS A_144.out.lt).cell 5
       simp at d0_0 d0_1 d0_2 d0_3 d0_4 d0_5
       have HS := Lib.hid hS
       clear hS
       go_wp2_with fail
       all_goals first | exact HS.out | exact ⟨rfl, HS.out⟩ | rfl | exact ⟨by omega, HS.out⟩
      ·intro w' hS
       refine OpTo.plain ?_ ?_
       exact rfl
       have hl0 := Nat.lt_of_lt_of_le H_146.out.lt hS.size
       have HS := Lib.hid hS
       clear hS
       go_wp2_with fail
       all_goals first | exact HS.out | exact ⟨rfl, HS.out⟩ | rfl | exact ⟨by omega, HS.out⟩
      ·intro w' hS
       refine OpTo.plain ?_ ?_
       exact rfl
       have d0_0 := (H_146.out.below hS H_146.out.lt).cell 0
       have d0_1 := (H_146.out.below hS H_146.out.lt).cell 1
       simp at d0_0 d0_1
       have HS := Lib.hid hS
       clear hS
       go_wp2_with fail
       all_goals first | exact HS.out | exact ⟨rfl, HS.out⟩ | rfl | exact ⟨by omega, HS.out⟩
      ·intro w' hS
       refine OpTo.plain ?_ ?_
       exact rfl
       have hl0 := Nat.lt_of_lt_of_le A_144.out.lt hS.size
       have HS := Lib.hid hS
       clear hS
       go_wp2_with fail
       all_goals first | exact HS.out | exact ⟨rfl, HS.out⟩ | rfl | exact ⟨by omega, HS.out⟩
      ·intro w' hS
       refine OpTo.plain ?_ ?_
       exact rfl
       have d0_0 := (A_144.out.below hS A_144.out.lt).cell 0
       have d0_1 := (A_144.out.below hS A_144.out.lt).cell 1
       have d0_2 := (A_144.out.below hS A_144.out.lt).cell 2
       have d0_3 := (A_144.out.below hS A_144.out.lt).cell 3
       have d0_4 := (A_144.out.below hS A_144.out.lt).cell 4
       have d0_5 := (A_144.out.below hS A_144.out.lt).cell 5
       simp at d0_0 d0_1 d0_2 d0_3 d0_4 d0_5
       have HS := Lib.hid hS
       clear hS
       go_wp2_with fail
       all_goals first | exact HS.out | exact ⟨rfl, HS.out⟩ | rfl | exact ⟨by omega, HS.out⟩
      ·intro w' hS
       refine OpTo.plain ?_ ?_
       exact rfl
       have hl0 := Nat.lt_of_lt_of_le O_149.out.lt hS.size
       have HS := Lib.hid hS
       clear hS
       go_wp2_with fail
       all_goals first | exact HS.out | exact ⟨rfl, HS.out⟩ | rfl | exact ⟨by omega, HS.out⟩
      ·intro w' hS
       refine OpTo.plain ?_ ?_
       exact rfl
       have d0_0 := (O_149.out.below hS O_149.out.lt).cell 0
       have d0_1 := (O_149.out.below hS O_149.out.lt).cell 1
       have d0_2 := (O_149.out.below hS O_149.out.lt).cell 2
       have d0_3 := (O_149.out.below hS O_149.out.lt).cell 3
       have d0_4 := (O_149.out.below hS O_149.out.lt).cell 4
       have d0_5 := (O_149.out.below hS O_149.out.lt).cell 5
       have d0_6 := (O_149.out.below hS O_149.out.lt).cell 6
       simp at d0_0 d0_1 d0_2 d0_3 d0_4 d0_5 d0_6
       have HS := Lib.hid hS
       clear hS
       go_wp2_with fail
       all_goals first | exact HS.out | exact ⟨rfl, HS.out⟩ | rfl | exact ⟨by omega, HS.out⟩
      ·intro w' hS
       refine OpTo.plain ?_ ?_
       exact rfl
       have hl0 := Nat.lt_of_lt_of_le O_149.out.lt hS.size
       have HS := Lib.hid hS
       clear hS
       go_wp2_with fail
       all_goals first | exact HS.out | exact ⟨rfl, HS.out⟩ | rfl | exact ⟨by omega, HS.out⟩
      ·intro w' hS
       refine OpTo.plain ?_ ?_
       exact rfl
       have d0_0 := (O_149.out.below hS O_149.out.lt).cell 0
       have d0_1 := (O_149.out.below hS O_149.out.lt).cell 1
       have d0_2 := (O_149.out.below hS O_149.out.lt).cell 2
       have d0_3 := (O_149.out.below hS O_149.out.lt).cell 3
       have d0_4 := (O_149.out.below hS O_149.out.lt).cell 4
       have d0_5 := (O_149.out.below hS O_149.out.lt).cell 5
       have d0_6 := (O_149.out.below hS O_149.out.lt).cell 6
       simp at d0_0 d0_1 d0_2 d0_3 d0_4 d0_5 d0_6
       have HS := Lib.hid hS
       clear hS
       go_wp2_with fail
       all_goals first | exact HS.out | exact ⟨rfl, HS.out⟩ | rfl | exact ⟨by omega, HS.out⟩
      ·intro w' hS
       refine OpTo.plain ?_ ?_
       exact rfl
       have HS := Lib.hid hS
       clear hS
       go_wp2_with fail
       refine (CB.out w' (L_147.out.below HS.out)).mono ?_
       rintro e w'' ⟨rfl, hb2⟩
       exact ⟨rfl, andB HS.out hb2⟩
      ·intro w' hS
       refine OpTo.plain ?_ ?_
       exact rfl
       have HS := Lib.hid hS
       clear hS
       go_wp2_with fail
       all_goals first | exact HS.out | exact ⟨rfl, HS.out⟩ | rfl | exact ⟨by omega, HS.out⟩
      ·intro w' hS
       refine OpTo.plain ?_ ?_
       exact rfl
       have HS := Lib.hid hS
       clear hS
       go_wp2_with fail
       all_goals first | exact HS.out | exact ⟨rfl, HS.out⟩ | rfl | exact ⟨by omega, HS.out⟩
     intro w' hS
     have A_150 := Lib.hid (A_144.out.below hS A_144.out.lt)
     have B_151 := Lib.hid (B_145.out.trans (hS.mono B_145.out.size))
     have H_152 := Lib.hid (H_146.out.below hS H_146.out.lt)
     have L_153 := Lib.hid (L_147.out.below hS)
     have P_154 := Lib.hid (P_148.out.below hS)
     have O_155 := Lib.hid (O_149.out.below hS O_149.out.lt)
     clear A_144 B_145 H_146 L_147 P_148 O_149
     clear hS
     rw [show min (min y.mo 1099511627776) m2 = min y.mo (min 1099511627776 m2) by omega] at HMO
     have hmx : max (min y.mo (min 1099511627776 m2)) 0 = min y.mo (min 1099511627776 m2) := by omega
     have HG : Hid (0 ≤ min y.mo (min 1099511627776 m2) ∧ min y.mo (min 1099511627776 m2) ≤ 1099511627776) := Lib.hid (by omega)
     obtain ⟨g, hg⟩ : ∃ g, min y.mo (min 1099511627776 m2) = g := ⟨_, rfl⟩
     rw [hg] at hmx HMO HG ⊢
     have HGG := Lib.hid hg
     clear hg
     obtain ⟨gg1, gg2⟩ := HG.out
     have bnu := may_bd OM.out.2.2.2.2.2
     obtain ⟨v1, v2, v3, v4, _⟩ := bnu
     have n0 := NN0.out
     have CP := Lib.hid (fun w => mul64_any (nn + 1) o.nu w ⟨by omega, by omega⟩ ⟨by omega, by omega⟩)
     have CQ := Lib.hid (fun w => mul64_any g o.de w ⟨by omega, by omega⟩ ⟨by omega, by omega⟩)
     have wx : IntKind.u64.wrap (nn + 1) = nn + 1 := by rw [wrap_u64]; omega
     have wn : IntKind.u64.wrap g = g := by rw [wrap_u64]; omega
     have wu : IntKind.u64.wrap o.nu = o.nu := by rw [wrap_u64]; omega
     have wd : IntKind.u64.wrap o.de = o.de := by rw [wrap_u64]; omega
     have hlt := HMO.out
     obtain ⟨P, hP⟩ : ∃ P, (nn + 1) * o.nu = P := ⟨_, rfl⟩
     obtain ⟨Q, hQ⟩ : ∃ Q, g * o.de = Q := ⟨_, rfl⟩
     rw [hP] at CP hlt
     rw [hQ] at CQ hlt
     have r1 : decide (P / 18446744073709551616 < Q / 18446744073709551616) = false := by simp; omega
     have hr : P / 18446744073709551616 = Q / 18446744073709551616 → decide (P % 18446744073709551616 ≤ Q % 18446744073709551616) = false := fun h => by simp; omega
     obtain ⟨ph, hph⟩ : ∃ ph, P / 18446744073709551616 = ph := ⟨_, rfl⟩
     obtain ⟨pl, hpl⟩ : ∃ pl, P % 18446744073709551616 = pl := ⟨_, rfl⟩
     obtain ⟨qh, hqh⟩ : ∃ qh, Q / 18446744073709551616 = qh := ⟨_, rfl⟩
     obtain ⟨ql, hql⟩ : ∃ ql, Q % 18446744073709551616 = ql := ⟨_, rfl⟩
     rw [hph, hpl] at CP
     rw [hqh, hql] at CQ
     rw [hph, hqh] at r1 hr
     rw [hpl, hql] at hr
     have HR := Lib.hid hr
     clear hP hQ hph hpl hqh hql hlt hr v1 v2 v3 v4 HMO
     have o0 := O_155.out.cell 0
     have o1 := O_155.out.cell 1
     have o2 := O_155.out.cell 2
     have o3 := O_155.out.cell 3
     have o4 := O_155.out.cell 4
     have o5 := O_155.out.cell 5
     have o6 := O_155.out.cell 6
     have ol := O_155.out.lt
     simp at o0 o1 o2 o3 o4 o5 o6
     go_wp2_with fail
     refine (CP.out _).mono ?_
     rintro e wp ⟨rfl, rfl⟩
     go_wp2_with fail
     refine (CQ.out _).mono ?_
     rintro e wq ⟨rfl, rfl⟩
     by_cases hpq : ph = qh
     ·have r2 : (ph == qh) = true := by simpa using hpq
      have r3 := HR.out hpq
      clear hpq HR hmx wx wn wu wd
      by_cases hz : nn = 0
      ·have z0 : (nn == 0) = true := by simpa using hz
       clear hz
       clear o0 o1 o2 o3 o4 o5 o6 ol
       go_wp2_with fail
       refine (HLo.out _).mono ?_
       rintro e w_156 ⟨rfl, b⟩
       have A_157 := Lib.hid (A_150.out.below b A_150.out.lt)
       have B_158 := Lib.hid (B_151.out.trans (b.mono B_151.out.size))
       have H_159 := Lib.hid (H_152.out.below b H_152.out.lt)
       have L_160 := Lib.hid (L_153.out.below b)
       have P_161 := Lib.hid (P_154.out.below b)
       have O_162 := Lib.hid (O_155.out.below b O_155.out.lt)
       clear A_150 B_151 H_152 L_153 P_154 O_155
       clear b
       go_wp2_with fail
       go_ret
       exact ⟨rfl, B_158.out⟩
      have z0 : (nn == 0) = false := by simpa using hz
      obtain ⟨ok, _, _, o', ho', hfit⟩ := DOO.out (by have := NN0.out; omega)
      rw [HF.out] at ho'
      cases ho'
      obtain ⟨_, u2, u3⟩ := up_fits OM.out.2.2.2.2.2 (n := nn) (by omega) (by omega) (by have := NN0.out; omega) hfit
      obtain ⟨z, hzz⟩ : ∃ z, upN (nn * o.nu) o.de = z := ⟨_, rfl⟩
      rw [hzz] at u2 u3
      have HZZ := Lib.hid hzz
      have z1 : decide (z ≤ y.mo) = true := by simp; omega
      have OKD := Lib.hid ok
      have CDD := Lib.hid (fun u h k => CD.out u h k N64.out)
      clear ok hfit hzz u2 u3 hz
      clear o0 o1 o2 o3 o4 o5 o6 ol
      have h0 := H_152.out.cell 0
      have h1 := H_152.out.cell 1
      have hl := H_152.out.lt
      simp at h0 h1
      have a0 := A_150.out.cell 0
      have a1 := A_150.out.cell 1
      have a2 := A_150.out.cell 2
      have a3 := A_150.out.cell 3
      have a4 := A_150.out.cell 4
      have a5 := A_150.out.cell 5
      have al := A_150.out.lt
      simp at a0 a1 a2 a3 a4 a5
      go_wp2_with fail
      refine (CDD.out _ L_153.out P_154.out).mono ?_
      rintro e w_163 hd
      rcases hd with ⟨hno, _⟩ | ⟨_, ox, z', ls', vb', hox, hx, _, rfl, _, _, kk, _⟩
      ·exact absurd OKD.out hno
      rw [HF.out] at hox
      cases hox
      rw [HZZ.out] at hx
      obtain rfl : z = z' := hx.symm
      clear h0 h1 hl a0 a1 a2 a3 a4 a5 al
      have AA := Lib.hid (A_150.out.keep kk (by
       obtain ⟨⟨g1, g2, g3⟩, _⟩ := GE.out
       rintro (h | h | h)
       ·omega
       ·omega
       ·have := g3 _ h; omega))
      have BB := Lib.hid (B_151.out.trans (kk.below B_151.out.size (fun b hb h => by
       obtain ⟨⟨g1, g2, g3⟩, _⟩ := GE.out
       rcases h with h | h | h
       ·omega
       ·omega
       ·have := g3 _ h; omega)))
      have bf := (Below.refl w_163.heap.size w_163).alloc (Nat.le_refl _) (.cells #[.int .u64 y.se, .int .u8 y.tk, .int .u8 y.pt, .int .i64 nn, .int .i64 z] 41)
      have KF := Lib.hid (Blk.new w_163 #[.int .u64 y.se, .int .u8 y.tk, .int .u8 y.pt, .int .i64 nn, .int .i64 z] 41)
      clear kk A_150 B_151 H_152 L_153 P_154 O_155
      have A_164 := Lib.hid (AA.out.below bf AA.out.lt)
      have B_165 := Lib.hid (BB.out.trans (bf.mono BB.out.size))
      clear AA BB
      clear bf
      have a0 := A_164.out.cell 0
      have a1 := A_164.out.cell 1
      have a2 := A_164.out.cell 2
      have a3 := A_164.out.cell 3
      have a4 := A_164.out.cell 4
      have a5 := A_164.out.cell 5
      have al := A_164.out.lt
      simp at a0 a1 a2 a3 a4 a5
      have f0 := KF.out.cell 0
      have f1 := KF.out.cell 1
      have f2 := KF.out.cell 2
      have f3 := KF.out.cell 3
      have f4 := KF.out.cell 4
      have fl := KF.out.lt
      simp at f0 f1 f2 f3 f4
      go_wp2_with fail
      clear a0 a1 a2 a3 a4 a5 al f0 f1 f2 f3 f4 fl
      refine (HLo.out _).mono ?_
      rintro e w_166 ⟨rfl, b⟩
      have A_167 := Lib.hid (A_164.out.below b A_164.out.lt)
      have B_168 := Lib.hid (B_165.out.trans (b.mono B_165.out.size))
      have F_169 := Lib.hid (KF.out.below b KF.out.lt)
      clear A_164 B_165 KF
      clear b
      go_wp2_with fail
      go_ret
      exact ⟨rfl, B_168.out⟩
     have r2 : (ph == qh) = false := by simpa using hpq
     clear hpq HR hmx wx wn wu wd
     by_cases hz : nn = 0
     ·have z0 : (nn == 0) = true := by simpa using hz
      clear hz
      clear o0 o1 o2 o3 o4 o5 o6 ol
      go_wp2_with fail
      refine (HLo.out _).mono ?_
      rintro e w_170 ⟨rfl, b⟩
      have A_171 := Lib.hid (A_150.out.below b A_150.out.lt)
      have B_172 := Lib.hid (B_151.out.trans (b.mono B_151.out.size))
      have H_173 := Lib.hid (H_152.out.below b H_152.out.lt)
      have L_174 := Lib.hid (L_153.out.below b)
      have P_175 := Lib.hid (P_154.out.below b)
      have O_176 := Lib.hid (O_155.out.below b O_155.out.lt)
      clear A_150 B_151 H_152 L_153 P_154 O_155
      clear b
      go_wp2_with fail
      go_ret
      exact ⟨rfl, B_172.out⟩
     have z0 : (nn == 0) = false := by simpa using hz
     obtain ⟨ok, _, _, o', ho', hfit⟩ := DOO.out (by have := NN0.out; omega)
     rw [HF.out] at ho'
     cases ho'
     obtain ⟨_, u2, u3⟩ := up_fits OM.out.2.2.2.2.2 (n := nn) (by omega) (by omega) (by have := NN0.out; omega) hfit
     obtain ⟨z, hzz⟩ : ∃ z, upN (nn * o.nu) o.de = z := ⟨_, rfl⟩
     rw [hzz] at u2 u3
     have HZZ := Lib.hid hzz
     have z1 : decide (z ≤ y.mo) = true := by simp; omega
     have OKD := Lib.hid ok
     have CDD := Lib.hid (fun u h k => CD.out u h k N64.out)
     clear ok hfit hzz u2 u3 hz
     clear o0 o1 o2 o3 o4 o5 o6 ol
     have h0 := H_152.out.cell 0
     have h1 := H_152.out.cell 1
     have hl := H_152.out.lt
     simp at h0 h1
     have a0 := A_150.out.cell 0
     have a1 := A_150.out.cell 1
     have a2 := A_150.out.cell 2
     have a3 := A_150.out.cell 3
     have a4 := A_150.out.cell 4
     have a5 := A_150.out.cell 5
     have al := A_150.out.lt
     simp at a0 a1 a2 a3 a4 a5
     go_wp2_with fail
     refine (CDD.out _ L_153.out P_154.out).mono ?_
     rintro e w_177 hd
     rcases hd with ⟨hno, _⟩ | ⟨_, ox, z', ls', vb', hox, hx, _, rfl, _, _, kk, _⟩
     ·exact absurd OKD.out hno
     rw [HF.out] at hox
     cases hox
     rw [HZZ.out] at hx
     obtain rfl : z = z' := hx.symm
     clear h0 h1 hl a0 a1 a2 a3 a4 a5 al
     have AA := Lib.hid (A_150.out.keep kk (by
      obtain ⟨⟨g1, g2, g3⟩, _⟩ := GE.out
      rintro (h | h | h)
      ·omega
      ·omega
      ·have := g3 _ h; omega))
     have BB := Lib.hid (B_151.out.trans (kk.below B_151.out.size (fun b hb h => by
      obtain ⟨⟨g1, g2, g3⟩, _⟩ := GE.out
      rcases h with h | h | h
      ·omega
      ·omega
      ·have := g3 _ h; omega)))
     have bf := (Below.refl w_177.heap.size w_177).alloc (Nat.le_refl _) (.cells #[.int .u64 y.se, .int .u8 y.tk, .int .u8 y.pt, .int .i64 nn, .int .i64 z] 41)
     have KF := Lib.hid (Blk.new w_177 #[.int .u64 y.se, .int .u8 y.tk, .int .u8 y.pt, .int .i64 nn, .int .i64 z] 41)
     clear kk A_150 B_151 H_152 L_153 P_154 O_155
     have A_178 := Lib.hid (AA.out.below bf AA.out.lt)
     have B_179 := Lib.hid (BB.out.trans (bf.mono BB.out.size))
     clear AA BB
     clear bf
     have a0 := A_178.out.cell 0
     have a1 := A_178.out.cell 1
     have a2 := A_178.out.cell 2
     have a3 := A_178.out.cell 3
     have a4 := A_178.out.cell 4
     have a5 := A_178.out.cell 5
     have al := A_178.out.lt
     simp at a0 a1 a2 a3 a4 a5
     have f0 := KF.out.cell 0
     have f1 := KF.out.cell 1
     have f2 := KF.out.cell 2
     have f3 := KF.out.cell 3
     have f4 := KF.out.cell 4
     have fl := KF.out.lt
     simp at f0 f1 f2 f3 f4
     go_wp2_with fail
     clear a0 a1 a2 a3 a4 a5 al f0 f1 f2 f3 f4 fl
     refine (HLo.out _).mono ?_
     rintro e w_180 ⟨rfl, b⟩
     have A_181 := Lib.hid (A_178.out.below b A_178.out.lt)
     have B_182 := Lib.hid (B_179.out.trans (b.mono B_179.out.size))
     have F_183 := Lib.hid (KF.out.below b KF.out.lt)
     clear A_178 B_179 KF
     clear b
     go_wp2_with fail
     go_ret
     exact ⟨rfl, B_182.out⟩
    have d4 : decide (nn < m1) = false := by simpa using hm
    clear hp hm kw kl
    by_cases hz : nn = 0
    ·have z0 : (nn == 0) = true := by simpa using hz
     clear hz
     have a0 := A_44.out.cell 0
     have a1 := A_44.out.cell 1
     have a2 := A_44.out.cell 2
     have a3 := A_44.out.cell 3
     have a4 := A_44.out.cell 4
     have a5 := A_44.out.cell 5
     have al := A_44.out.lt
     simp at a0 a1 a2 a3 a4 a5
     have h0 := H_46.out.cell 0
     have h1 := H_46.out.cell 1
     have hl := H_46.out.lt
     simp at h0 h1
     have o0 := KO.out.cell 0
     have o1 := KO.out.cell 1
     have o2 := KO.out.cell 2
     have o3 := KO.out.cell 3
     have o4 := KO.out.cell 4
     have o5 := KO.out.cell 5
     have o6 := KO.out.cell 6
     have ol := KO.out.lt
     simp at o0 o1 o2 o3 o4 o5 o6
     go_wp2_with fail
     refine (Cc2.out _ L_47.out).mono ?_
     rintro e w_184 ⟨rfl, rfl⟩
     go_wp2_with fail
     refine (Cc3.out _ L_47.out).mono ?_
     rintro e w_185 ⟨rfl, rfl⟩
     go_wp2_with fail
     refine (Cc4.out _ L_47.out).mono ?_
     rintro e w_186 ⟨rfl, rfl⟩
     go_wp2_with fail
     refine (CS.out _ L_47.out).mono ?_
     rintro e w_187 ⟨rfl, b⟩
     clear a0 a1 a2 a3 a4 a5 al h0 h1 hl o0 o1 o2 o3 o4 o5 o6 ol
     have A_188 := Lib.hid (A_44.out.below b A_44.out.lt)
     have B_189 := Lib.hid (B_45.out.trans (b.mono B_45.out.size))
     have H_190 := Lib.hid (H_46.out.below b H_46.out.lt)
     have L_191 := Lib.hid (L_47.out.below b)
     have P_192 := Lib.hid (P_48.out.below b)
     have O_193 := Lib.hid (KO.out.below b KO.out.lt)
     clear A_44 B_45 H_46 L_47 P_48 KO
     clear b
     have a0 := A_188.out.cell 0
     have a1 := A_188.out.cell 1
     have a2 := A_188.out.cell 2
     have a3 := A_188.out.cell 3
     have a4 := A_188.out.cell 4
     have a5 := A_188.out.cell 5
     have al := A_188.out.lt
     simp at a0 a1 a2 a3 a4 a5
     have h0 := H_190.out.cell 0
     have h1 := H_190.out.cell 1
     have hl := H_190.out.lt
     simp at h0 h1
     have o0 := O_193.out.cell 0
     have o1 := O_193.out.cell 1
     have o2 := O_193.out.cell 2
     have o3 := O_193.out.cell 3
     have o4 := O_193.out.cell 4
     have o5 := O_193.out.cell 5
     have o6 := O_193.out.cell 6
     have ol := O_193.out.lt
     simp at o0 o1 o2 o3 o4 o5 o6
     go_wp2_with fail
     clear a0 a1 a2 a3 a4 a5 al h0 h1 hl o0 o1 o2 o3 o4 o5 o6 ol
     refine (HLo.out _).mono ?_
     rintro e w_194 ⟨rfl, b⟩
     have A_195 := Lib.hid (A_188.out.below b A_188.out.lt)
     have B_196 := Lib.hid (B_189.out.trans (b.mono B_189.out.size))
     have H_197 := Lib.hid (H_190.out.below b H_190.out.lt)
     have L_198 := Lib.hid (L_191.out.below b)
     have P_199 := Lib.hid (P_192.out.below b)
     have O_200 := Lib.hid (O_193.out.below b O_193.out.lt)
     clear A_188 B_189 H_190 L_191 P_192 O_193
     clear b
     go_wp2_with fail
     go_ret
     exact ⟨rfl, B_196.out⟩
    have z0 : (nn == 0) = false := by simpa using hz
    obtain ⟨ok, _, _, o', ho', hfit⟩ := DOO.out (by have := NN0.out; omega)
    rw [HF.out] at ho'
    cases ho'
    obtain ⟨_, u2, u3⟩ := up_fits OM.out.2.2.2.2.2 (n := nn) (by omega) (by omega) (by have := NN0.out; omega) hfit
    obtain ⟨z, hzz⟩ : ∃ z, upN (nn * o.nu) o.de = z := ⟨_, rfl⟩
    rw [hzz] at u2 u3
    have HZZ := Lib.hid hzz
    have z1 : decide (z ≤ y.mo) = true := by simp; omega
    have OKD := Lib.hid ok
    have CDD := Lib.hid (fun u h k => CD.out u h k N64.out)
    clear ok hfit hzz u2 u3 hz
    have a0 := A_44.out.cell 0
    have a1 := A_44.out.cell 1
    have a2 := A_44.out.cell 2
    have a3 := A_44.out.cell 3
    have a4 := A_44.out.cell 4
    have a5 := A_44.out.cell 5
    have al := A_44.out.lt
    simp at a0 a1 a2 a3 a4 a5
    have h0 := H_46.out.cell 0
    have h1 := H_46.out.cell 1
    have hl := H_46.out.lt
    simp at h0 h1
    have o0 := KO.out.cell 0
    have o1 := KO.out.cell 1
    have o2 := KO.out.cell 2
    have o3 := KO.out.cell 3
    have o4 := KO.out.cell 4
    have o5 := KO.out.cell 5
    have o6 := KO.out.cell 6
    have ol := KO.out.lt
    simp at o0 o1 o2 o3 o4 o5 o6
    go_wp2_with fail
    refine (Cc2.out _ L_47.out).mono ?_
    rintro e w_201 ⟨rfl, rfl⟩
    go_wp2_with fail
    refine (Cc3.out _ L_47.out).mono ?_
    rintro e w_202 ⟨rfl, rfl⟩
    go_wp2_with fail
    refine (Cc4.out _ L_47.out).mono ?_
    rintro e w_203 ⟨rfl, rfl⟩
    go_wp2_with fail
    refine (CS.out _ L_47.out).mono ?_
    rintro e w_204 ⟨rfl, b⟩
    clear a0 a1 a2 a3 a4 a5 al h0 h1 hl o0 o1 o2 o3 o4 o5 o6 ol
    have A_205 := Lib.hid (A_44.out.below b A_44.out.lt)
    have B_206 := Lib.hid (B_45.out.trans (b.mono B_45.out.size))
    have H_207 := Lib.hid (H_46.out.below b H_46.out.lt)
    have L_208 := Lib.hid (L_47.out.below b)
    have P_209 := Lib.hid (P_48.out.below b)
    have O_210 := Lib.hid (KO.out.below b KO.out.lt)
    clear A_44 B_45 H_46 L_47 P_48 KO
    clear b
    have a0 := A_205.out.cell 0
    have a1 := A_205.out.cell 1
    have a2 := A_205.out.cell 2
    have a3 := A_205.out.cell 3
    have a4 := A_205.out.cell 4
    have a5 := A_205.out.cell 5
    have al := A_205.out.lt
    simp at a0 a1 a2 a3 a4 a5
    have h0 := H_207.out.cell 0
    have h1 := H_207.out.cell 1
    have hl := H_207.out.lt
    simp at h0 h1
    have o0 := O_210.out.cell 0
    have o1 := O_210.out.cell 1
    have o2 := O_210.out.cell 2
    have o3 := O_210.out.cell 3
    have o4 := O_210.out.cell 4
    have o5 := O_210.out.cell 5
    have o6 := O_210.out.cell 6
    have ol := O_210.out.lt
    simp at o0 o1 o2 o3 o4 o5 o6
    go_wp2_with fail
    refine (CDD.out _ L_208.out P_209.out).mono ?_
    rintro e w_211 hd
    rcases hd with ⟨hno, _⟩ | ⟨_, ox, z', ls', vb', hox, hx, _, rfl, _, _, kk, _⟩
    ·exact absurd OKD.out hno
    rw [HF.out] at hox
    cases hox
    rw [HZZ.out] at hx
    obtain rfl : z = z' := hx.symm
    clear a0 a1 a2 a3 a4 a5 al h0 h1 hl o0 o1 o2 o3 o4 o5 o6 ol
    have AA := Lib.hid (A_205.out.keep kk (by
     obtain ⟨⟨g1, g2, g3⟩, _⟩ := GE.out
     rintro (h | h | h)
     ·omega
     ·omega
     ·have := g3 _ h; omega))
    have BB := Lib.hid (B_206.out.trans (kk.below B_206.out.size (fun b hb h => by
     obtain ⟨⟨g1, g2, g3⟩, _⟩ := GE.out
     rcases h with h | h | h
     ·omega
     ·omega
     ·have := g3 _ h; omega)))
    have bf := (Below.refl w_211.heap.size w_211).alloc (Nat.le_refl _) (.cells #[.int .u64 y.se, .int .u8 y.tk, .int .u8 y.pt, .int .i64 nn, .int .i64 z] 41)
    have KF := Lib.hid (Blk.new w_211 #[.int .u64 y.se, .int .u8 y.tk, .int .u8 y.pt, .int .i64 nn, .int .i64 z] 41)
    clear kk A_205 B_206 H_207 L_208 P_209 O_210
    have A_212 := Lib.hid (AA.out.below bf AA.out.lt)
    have B_213 := Lib.hid (BB.out.trans (bf.mono BB.out.size))
    clear AA BB
    clear bf
    have a0 := A_212.out.cell 0
    have a1 := A_212.out.cell 1
    have a2 := A_212.out.cell 2
    have a3 := A_212.out.cell 3
    have a4 := A_212.out.cell 4
    have a5 := A_212.out.cell 5
    have al := A_212.out.lt
    simp at a0 a1 a2 a3 a4 a5
    have f0 := KF.out.cell 0
    have f1 := KF.out.cell 1
    have f2 := KF.out.cell 2
    have f3 := KF.out.cell 3
    have f4 := KF.out.cell 4
    have fl := KF.out.lt
    simp at f0 f1 f2 f3 f4
    go_wp2_with fail
    clear a0 a1 a2 a3 a4 a5 al f0 f1 f2 f3 f4 fl
    refine (HLo.out _).mono ?_
    rintro e w_214 ⟨rfl, b⟩
    have A_215 := Lib.hid (A_212.out.below b A_212.out.lt)
    have B_216 := Lib.hid (B_213.out.trans (b.mono B_213.out.size))
    have F_217 := Lib.hid (KF.out.below b KF.out.lt)
    clear A_212 B_213 KF
    clear b
    go_wp2_with fail
    go_ret
    exact ⟨rfl, B_216.out⟩
   have d2 : decide (nn < o.lf) = false := by simpa using kl
   clear kw kl
   by_cases hz : nn = 0
   ·have z0 : (nn == 0) = true := by simpa using hz
    clear hz
    have a0 := A_44.out.cell 0
    have a1 := A_44.out.cell 1
    have a2 := A_44.out.cell 2
    have a3 := A_44.out.cell 3
    have a4 := A_44.out.cell 4
    have a5 := A_44.out.cell 5
    have al := A_44.out.lt
    simp at a0 a1 a2 a3 a4 a5
    have h0 := H_46.out.cell 0
    have h1 := H_46.out.cell 1
    have hl := H_46.out.lt
    simp at h0 h1
    have o0 := KO.out.cell 0
    have o1 := KO.out.cell 1
    have o2 := KO.out.cell 2
    have o3 := KO.out.cell 3
    have o4 := KO.out.cell 4
    have o5 := KO.out.cell 5
    have o6 := KO.out.cell 6
    have ol := KO.out.lt
    simp at o0 o1 o2 o3 o4 o5 o6
    go_wp2_with fail
    refine (Cc2.out _ L_47.out).mono ?_
    rintro e w_218 ⟨rfl, rfl⟩
    go_wp2_with fail
    refine (Cc3.out _ L_47.out).mono ?_
    rintro e w_219 ⟨rfl, rfl⟩
    go_wp2_with fail
    refine (Cc4.out _ L_47.out).mono ?_
    rintro e w_220 ⟨rfl, rfl⟩
    go_wp2_with fail
    clear a0 a1 a2 a3 a4 a5 al h0 h1 hl o0 o1 o2 o3 o4 o5 o6 ol
    refine (HLo.out _).mono ?_
    rintro e w_221 ⟨rfl, b⟩
    have A_222 := Lib.hid (A_44.out.below b A_44.out.lt)
    have B_223 := Lib.hid (B_45.out.trans (b.mono B_45.out.size))
    have H_224 := Lib.hid (H_46.out.below b H_46.out.lt)
    have L_225 := Lib.hid (L_47.out.below b)
    have P_226 := Lib.hid (P_48.out.below b)
    have O_227 := Lib.hid (KO.out.below b KO.out.lt)
    clear A_44 B_45 H_46 L_47 P_48 KO
    clear b
    go_wp2_with fail
    go_ret
    exact ⟨rfl, B_223.out⟩
   have z0 : (nn == 0) = false := by simpa using hz
   obtain ⟨ok, _, _, o', ho', hfit⟩ := DOO.out (by have := NN0.out; omega)
   rw [HF.out] at ho'
   cases ho'
   obtain ⟨_, u2, u3⟩ := up_fits OM.out.2.2.2.2.2 (n := nn) (by omega) (by omega) (by have := NN0.out; omega) hfit
   obtain ⟨z, hzz⟩ : ∃ z, upN (nn * o.nu) o.de = z := ⟨_, rfl⟩
   rw [hzz] at u2 u3
   have HZZ := Lib.hid hzz
   have z1 : decide (z ≤ y.mo) = true := by simp; omega
   have OKD := Lib.hid ok
   have CDD := Lib.hid (fun u h k => CD.out u h k N64.out)
   clear ok hfit hzz u2 u3 hz
   have a0 := A_44.out.cell 0
   have a1 := A_44.out.cell 1
   have a2 := A_44.out.cell 2
   have a3 := A_44.out.cell 3
   have a4 := A_44.out.cell 4
   have a5 := A_44.out.cell 5
   have al := A_44.out.lt
   simp at a0 a1 a2 a3 a4 a5
   have h0 := H_46.out.cell 0
   have h1 := H_46.out.cell 1
   have hl := H_46.out.lt
   simp at h0 h1
   have o0 := KO.out.cell 0
   have o1 := KO.out.cell 1
   have o2 := KO.out.cell 2
   have o3 := KO.out.cell 3
   have o4 := KO.out.cell 4
   have o5 := KO.out.cell 5
   have o6 := KO.out.cell 6
   have ol := KO.out.lt
   simp at o0 o1 o2 o3 o4 o5 o6
   go_wp2_with fail
   refine (Cc2.out _ L_47.out).mono ?_
   rintro e w_228 ⟨rfl, rfl⟩
   go_wp2_with fail
   refine (Cc3.out _ L_47.out).mono ?_
   rintro e w_229 ⟨rfl, rfl⟩
   go_wp2_with fail
   refine (Cc4.out _ L_47.out).mono ?_
   rintro e w_230 ⟨rfl, rfl⟩
   go_wp2_with fail
   refine (CDD.out _ L_47.out P_48.out).mono ?_
   rintro e w_231 hd
   rcases hd with ⟨hno, _⟩ | ⟨_, ox, z', ls', vb', hox, hx, _, rfl, _, _, kk, _⟩
   ·exact absurd OKD.out hno
   rw [HF.out] at hox
   cases hox
   rw [HZZ.out] at hx
   obtain rfl : z = z' := hx.symm
   clear a0 a1 a2 a3 a4 a5 al h0 h1 hl o0 o1 o2 o3 o4 o5 o6 ol
   have AA := Lib.hid (A_44.out.keep kk (by
    obtain ⟨⟨g1, g2, g3⟩, _⟩ := GE.out
    rintro (h | h | h)
    ·omega
    ·omega
    ·have := g3 _ h; omega))
   have BB := Lib.hid (B_45.out.trans (kk.below B_45.out.size (fun b hb h => by
    obtain ⟨⟨g1, g2, g3⟩, _⟩ := GE.out
    rcases h with h | h | h
    ·omega
    ·omega
    ·have := g3 _ h; omega)))
   have bf := (Below.refl w_231.heap.size w_231).alloc (Nat.le_refl _) (.cells #[.int .u64 y.se, .int .u8 y.tk, .int .u8 y.pt, .int .i64 nn, .int .i64 z] 41)
   have KF := Lib.hid (Blk.new w_231 #[.int .u64 y.se, .int .u8 y.tk, .int .u8 y.pt, .int .i64 nn, .int .i64 z] 41)
   clear kk A_44 B_45 H_46 L_47 P_48 KO
   have A_232 := Lib.hid (AA.out.below bf AA.out.lt)
   have B_233 := Lib.hid (BB.out.trans (bf.mono BB.out.size))
   clear AA BB
   clear bf
   have a0 := A_232.out.cell 0
   have a1 := A_232.out.cell 1
   have a2 := A_232.out.cell 2
   have a3 := A_232.out.cell 3
   have a4 := A_232.out.cell 4
   have a5 := A_232.out.cell 5
   have al := A_232.out.lt
   simp at a0 a1 a2 a3 a4 a5
   have f0 := KF.out.cell 0
   have f1 := KF.out.cell 1
   have f2 := KF.out.cell 2
   have f3 := KF.out.cell 3
   have f4 := KF.out.cell 4
   have fl := KF.out.lt
   simp at f0 f1 f2 f3 f4
   go_wp2_with fail
   clear a0 a1 a2 a3 a4 a5 al f0 f1 f2 f3 f4 fl
   refine (HLo.out _).mono ?_
   rintro e w_234 ⟨rfl, b⟩
   have A_235 := Lib.hid (A_232.out.below b A_232.out.lt)
   have B_236 := Lib.hid (B_233.out.trans (b.mono B_233.out.size))
   have F_237 := Lib.hid (KF.out.below b KF.out.lt)
   clear A_232 B_233 KF
   clear b
   go_wp2_with fail
   go_ret
   exact ⟨rfl, B_236.out⟩
  have d1 : decide (nn < y.n) = false := by simpa using kw
  clear kw
  by_cases hz : nn = 0
  ·have z0 : (nn == 0) = true := by simpa using hz
   clear hz
   have a0 := A_44.out.cell 0
   have a1 := A_44.out.cell 1
   have a2 := A_44.out.cell 2
   have a3 := A_44.out.cell 3
   have a4 := A_44.out.cell 4
   have a5 := A_44.out.cell 5
   have al := A_44.out.lt
   simp at a0 a1 a2 a3 a4 a5
   have h0 := H_46.out.cell 0
   have h1 := H_46.out.cell 1
   have hl := H_46.out.lt
   simp at h0 h1
   have o0 := KO.out.cell 0
   have o1 := KO.out.cell 1
   have o2 := KO.out.cell 2
   have o3 := KO.out.cell 3
   have o4 := KO.out.cell 4
   have o5 := KO.out.cell 5
   have o6 := KO.out.cell 6
   have ol := KO.out.lt
   simp at o0 o1 o2 o3 o4 o5 o6
   go_wp2_with fail
   refine (Cc2.out _ L_47.out).mono ?_
   rintro e w_238 ⟨rfl, rfl⟩
   go_wp2_with fail
   refine (Cc3.out _ L_47.out).mono ?_
   rintro e w_239 ⟨rfl, rfl⟩
   go_wp2_with fail
   refine (Cc4.out _ L_47.out).mono ?_
   rintro e w_240 ⟨rfl, rfl⟩
   go_wp2_with fail
   clear a0 a1 a2 a3 a4 a5 al h0 h1 hl o0 o1 o2 o3 o4 o5 o6 ol
   refine (HLo.out _).mono ?_
   rintro e w_241 ⟨rfl, b⟩
   have A_242 := Lib.hid (A_44.out.below b A_44.out.lt)
   have B_243 := Lib.hid (B_45.out.trans (b.mono B_45.out.size))
   have H_244 := Lib.hid (H_46.out.below b H_46.out.lt)
   have L_245 := Lib.hid (L_47.out.below b)
   have P_246 := Lib.hid (P_48.out.below b)
   have O_247 := Lib.hid (KO.out.below b KO.out.lt)
   clear A_44 B_45 H_46 L_47 P_48 KO
   clear b
   go_wp2_with fail
   go_ret
   exact ⟨rfl, B_243.out⟩
  have z0 : (nn == 0) = false := by simpa using hz
  obtain ⟨ok, _, _, o', ho', hfit⟩ := DOO.out (by have := NN0.out; omega)
  rw [HF.out] at ho'
  cases ho'
  obtain ⟨_, u2, u3⟩ := up_fits OM.out.2.2.2.2.2 (n := nn) (by omega) (by omega) (by have := NN0.out; omega) hfit
  obtain ⟨z, hzz⟩ : ∃ z, upN (nn * o.nu) o.de = z := ⟨_, rfl⟩
  rw [hzz] at u2 u3
  have HZZ := Lib.hid hzz
  have z1 : decide (z ≤ y.mo) = true := by simp; omega
  have OKD := Lib.hid ok
  have CDD := Lib.hid (fun u h k => CD.out u h k N64.out)
  clear ok hfit hzz u2 u3 hz
  have a0 := A_44.out.cell 0
  have a1 := A_44.out.cell 1
  have a2 := A_44.out.cell 2
  have a3 := A_44.out.cell 3
  have a4 := A_44.out.cell 4
  have a5 := A_44.out.cell 5
  have al := A_44.out.lt
  simp at a0 a1 a2 a3 a4 a5
  have h0 := H_46.out.cell 0
  have h1 := H_46.out.cell 1
  have hl := H_46.out.lt
  simp at h0 h1
  have o0 := KO.out.cell 0
  have o1 := KO.out.cell 1
  have o2 := KO.out.cell 2
  have o3 := KO.out.cell 3
  have o4 := KO.out.cell 4
  have o5 := KO.out.cell 5
  have o6 := KO.out.cell 6
  have ol := KO.out.lt
  simp at o0 o1 o2 o3 o4 o5 o6
  go_wp2_with fail
  refine (Cc2.out _ L_47.out).mono ?_
  rintro e w_248 ⟨rfl, rfl⟩
  go_wp2_with fail
  refine (Cc3.out _ L_47.out).mono ?_
  rintro e w_249 ⟨rfl, rfl⟩
  go_wp2_with fail
  refine (Cc4.out _ L_47.out).mono ?_
  rintro e w_250 ⟨rfl, rfl⟩
  go_wp2_with fail
  refine (CDD.out _ L_47.out P_48.out).mono ?_
  rintro e w_251 hd
  rcases hd with ⟨hno, _⟩ | ⟨_, ox, z', ls', vb', hox, hx, _, rfl, _, _, kk, _⟩
  ·exact absurd OKD.out hno
  rw [HF.out] at hox
  cases hox
  rw [HZZ.out] at hx
  obtain rfl : z = z' := hx.symm
  clear a0 a1 a2 a3 a4 a5 al h0 h1 hl o0 o1 o2 o3 o4 o5 o6 ol
  have AA := Lib.hid (A_44.out.keep kk (by
   obtain ⟨⟨g1, g2, g3⟩, _⟩ := GE.out
   rintro (h | h | h)
   ·omega
   ·omega
   ·have := g3 _ h; omega))
  have BB := Lib.hid (B_45.out.trans (kk.below B_45.out.size (fun b hb h => by
   obtain ⟨⟨g1, g2, g3⟩, _⟩ := GE.out
   rcases h with h | h | h
   ·omega
   ·omega
   ·have := g3 _ h; omega)))
  have bf := (Below.refl w_251.heap.size w_251).alloc (Nat.le_refl _) (.cells #[.int .u64 y.se, .int .u8 y.tk, .int .u8 y.pt, .int .i64 nn, .int .i64 z] 41)
  have KF := Lib.hid (Blk.new w_251 #[.int .u64 y.se, .int .u8 y.tk, .int .u8 y.pt, .int .i64 nn, .int .i64 z] 41)
  clear kk A_44 B_45 H_46 L_47 P_48 KO
  have A_252 := Lib.hid (AA.out.below bf AA.out.lt)
  have B_253 := Lib.hid (BB.out.trans (bf.mono BB.out.size))
  clear AA BB
  clear bf
  have a0 := A_252.out.cell 0
  have a1 := A_252.out.cell 1
  have a2 := A_252.out.cell 2
  have a3 := A_252.out.cell 3
  have a4 := A_252.out.cell 4
  have a5 := A_252.out.cell 5
  have al := A_252.out.lt
  simp at a0 a1 a2 a3 a4 a5
  have f0 := KF.out.cell 0
  have f1 := KF.out.cell 1
  have f2 := KF.out.cell 2
  have f3 := KF.out.cell 3
  have f4 := KF.out.cell 4
  have fl := KF.out.lt
  simp at f0 f1 f2 f3 f4
  go_wp2_with fail
  clear a0 a1 a2 a3 a4 a5 al f0 f1 f2 f3 f4 fl
  refine (HLo.out _).mono ?_
  rintro e w_254 ⟨rfl, b⟩
  have A_255 := Lib.hid (A_252.out.below b A_252.out.lt)
  have B_256 := Lib.hid (B_253.out.trans (b.mono B_253.out.size))
  have F_257 := Lib.hid (KF.out.below b KF.out.lt)
  clear A_252 B_253 KF
  clear b
  go_wp2_with fail
  go_ret
  exact ⟨rfl, B_256.out⟩
end Go.Proofs.Ytbieomgpfhloeaa
