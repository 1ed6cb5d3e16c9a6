/-
  Pieces of one proof, without what is not wanted: FillsPlay.
-/
import Derived.Test.YtbieomgpfhloeaaGreatP30
set_option linter.unusedSimpArgs false
set_option linter.unusedVariables false
namespace Go.Proofs.YtbieomgpfhloeaaGreat
open Go.RowKit
theorem SlIn.ask10 {w : World} {a : Option Addr} {len cap : Nat} {xs : List Af} (h : SlIn Af.vals 6 Af.Fits w a len cap xs) {i : Nat} (hi : i < xs.length) :
  ∃ b off, a = some ⟨b, off, none⟩ ∧ b < w.heap.size ∧ w.cell? ⟨b, off + i * 6, none⟩ = some (.int .u64 xs[i].se) ∧ w.cell? ⟨b, off + i * 6 + 1, none⟩ = some (.int .u8 xs[i].tk) ∧ w.cell? ⟨b, off + i * 6 + 2, none⟩ = some (.int .u8 xs[i].pt) ∧ w.cell? ⟨b, off + i * 6 + 3, none⟩ = some (.int .i64 xs[i].n) ∧
   w.cell? ⟨b, off + i * 6 + 4, none⟩ = some (.int .i64 xs[i].mo) ∧ w.cell? ⟨b, off + i * 6 + 5, none⟩ = some (.bool xs[i].fu) := by
 obtain ⟨h0, h1, h2, h3, h4, h5⟩ := h
 obtain ⟨b, off, rfl, hlt, hc⟩ := h5 (by omega)
 exact ⟨b, off, rfl, hlt, hc i hi 0 _ rfl, hc i hi 1 _ rfl, hc i hi 2 _ rfl, hc i hi 3 _ rfl, hc i hi 4 _ rfl, hc i hi 5 _ rfl⟩
def FP10 (W : World) (w0 s1 sm G M gb rl rb len : Nat) (i : Value) (wr : World) : Prop :=
 ∃ k : Nat, k ≤ len ∧ i = .int .i64 k ∧ ∃ ps ls l N vb vp vl vm, LedM wr G M ps ls ∧ LInv ps ls ∧ PB wr w0 gb l N vb ∧ BInv l N ∧ (∀ b, vb.ownBlock = some b → b < s1 ∨ W.heap.size ≤ b) ∧ RefL wr sm rl ps ls vp vl ∧ RefB wr sm rb l N vm ∧ Keep (fun k => (w0 ≤ k ∧ k < s1) ∨ k = rl ∨ k = rb) W wr
set_option maxHeartbeats 32000000 in
set_option maxRecDepth 100000 in
theorem fplay10_walk (HM : FMayProg) (HD : FDoProg) (HC : FCopyProg) (HL : Lives10) (x : Wd) (a : Option Addr) (len cap : Nat) (zs : List Af) (w : World) (h0 : x.In w) (h2 : SlIn Af.vals 6 Af.Fits w a len cap zs) :
  Calls Tryz.prog 3 #[.agg #[.slice x.a1 x.n1 x.c1, .slice x.a2 x.n2 x.c2], .slice a len cap] w fun e w' => e = .returned (.bool true) ∧ Below w.heap.size w w' := by
 obtain ⟨a1, n1, c1, xs, a2, n2, c2, os⟩ := x
 obtain ⟨hA, hO⟩ := h0
 dsimp only at hA hO ⊢
 have hcap := h2.2.2.2.1
 have hmax := h2.2.2.2.2.1
 have hz := h2.2.1
 have m1 : n1 ≤ maxLen := Nat.le_trans hA.2.2.1 hA.2.2.2.1
 have m2 : n2 ≤ maxLen := Nat.le_trans hO.2.2.2.1 hO.2.2.2.2.1
 have b1 := (Below.refl w.heap.size w).alloc (Nat.le_refl _) (.cells #[.slice a1 n1 c1, .slice a2 n2 c2] 25)
 have KX := Lib.hid (Blk.new w #[.slice a1 n1 c1, .slice a2 n2 c2] 25)
 have HA := Lib.hid (hA.below b1)
 have HO := Lib.hid (hO.below b1)
 have HZ := Lib.hid (h2.below b1)
 have HZ0 := Lib.hid h2
 have B1 := Lib.hid b1
 have HGt := Lib.hid (fun w => great10_any (w := w) a1 a2 n1 n2 c1 c2 m1 m2)
 unfold maxLen at hmax
 clear b1 hA hO h2 m1 m2
 go_enter Tryz.func3, Tryz.ntmps3
 go_upto_region 1 with fail
 generalize w.alloc (.cells #[.slice a1 n1 c1, .slice a2 n2 c2] 25) = W at *
 have e0 := KX.out.cell 0; have e1 := KX.out.cell 1
 have kx := KX.out.lt
 simp at e0 e1
 go_wp2_with fail
 refine (HGt.out _).mono ?_
 rintro e w1 ⟨rfl, b1⟩
 have KX1 := Lib.hid (KX.out.below b1 KX.out.lt)
 have HA1 := Lib.hid (HA.out.below b1)
 have HO1 := Lib.hid (HO.out.below b1)
 have HZ1 := Lib.hid (HZ.out.below b1)
 have B2 := Lib.hid (B1.out.trans (b1.mono B1.out.size))
 clear b1 e0 e1 kx KX HA HO HZ B1 HGt
 have e0 := KX1.out.cell 0; have e1 := KX1.out.cell 1
 have kx := KX1.out.lt
 simp at e0 e1
 have S1 := Lib.hid B2.out.size
 by_cases hgt : 120 < n1 ∨ 40 < n2
 ·rw [decide_eq_true hgt]
  go_wp2_with fail
  refine (HL _).mono ?_
  rintro e w2 ⟨rfl, b2⟩
  go_wp2_with fail
  go_ret
  exact ⟨rfl, B2.out.trans (b2.mono B2.out.size)⟩
 ·rw [decide_eq_false hgt]
  by_cases hlen : 10 < len
  ·have q1 : decide ((10 : Int) < (len : Int)) = true := by simp; omega
   go_wp2_with fail
   refine (HL _).mono ?_
   rintro e w2 ⟨rfl, b2⟩
   go_wp2_with fail
   go_ret
   exact ⟨rfl, B2.out.trans (b2.mono B2.out.size)⟩
  ·have q1 : decide ((10 : Int) < (len : Int)) = false := by simp; omega
   have CM := Lib.hid (made10_any HA1.out HO1.out (by omega) (by omega))
   go_wp2_with fail
   refine CM.out.mono ?_
   rintro e w2 ⟨G, M, gb, ps, ls, l, N, vl, rfl, hL, hI, hG1, hM1, hP, hJ, hN, hgG, hgM, hvl, b2, hac, hof⟩
   have bh := (Below.refl w2.heap.size w2).alloc (Nat.le_refl _) (.cells #[.pointer (some ⟨G, 0, none⟩), .pointer (some ⟨gb, 0, none⟩)] 32)
   have K5 := Lib.hid (Blk.new w2 #[.pointer (some ⟨G, 0, none⟩), .pointer (some ⟨gb, 0, none⟩)] 32)
   have b3 := b2.trans (bh.mono b2.size)
   have KX2 := Lib.hid (KX1.out.below b3 KX1.out.lt)
   have HA2 := Lib.hid (HA1.out.below b3)
   have HO2 := Lib.hid (HO1.out.below b3)
   have HZ2 := Lib.hid (HZ1.out.below b3)
   have HL2 := Lib.hid (hL.below bh)
   have HP2 := Lib.hid (hP.below bh)
   have II := Lib.hid hI
   have JJ := Lib.hid hJ
   have AC := Lib.hid hac
   have OC := Lib.hid hof
   have B3 := Lib.hid (B2.out.trans (b3.mono B2.out.size))
   have S2 := Lib.hid (show (w2.alloc (.cells #[.pointer (some ⟨G, 0, none⟩), .pointer (some ⟨gb, 0, none⟩)] 32)).heap.size = w2.heap.size + 1 by simp)
   have GE := Lib.hid (And.intro hG1 (And.intro hM1 (And.intro hP.ge b2.size)))
   have FT := Lib.hid (And.intro hL.blk.lt (And.intro hL.map.lt (And.intro hP.blk.lt (fun b (hb : vl.ownBlock = some b) => (hP.lt (b := b) (.inr hb)).2))))
   clear hL hI hG1 hM1 hP hJ hN hgG hgM hvl b2 hac hof bh b3 CM e0 e1 kx KX1 HA1 HO1 HZ1 B2
   have e0 := KX2.out.cell 0; have e1 := KX2.out.cell 1
   have kx := KX2.out.lt
   simp at e0 e1
   have CD := Lib.hid (model10_any HA2.out HO2.out (by omega) (by omega))
   go_wp2_with fail
   refine CD.out.mono ?_
   rintro e w3 ⟨rl, rb, ps', ls', vp, vm, l', N', vr, rfl, hR, _, hE, _, b3, hac, hof⟩
   obtain ⟨rfl, rfl⟩ := Prod.mk.inj (AC.out.symm.trans hac)
   obtain ⟨rfl, rfl⟩ := Prod.mk.inj (OC.out.symm.trans hof)
   have bh := (Below.refl w3.heap.size w3).alloc (Nat.le_refl _) (.cells #[.pointer (some ⟨rl, 0, none⟩), .pointer (some ⟨rb, 0, none⟩)] 37)
   have K6 := Lib.hid (Blk.new w3 #[.pointer (some ⟨rl, 0, none⟩), .pointer (some ⟨rb, 0, none⟩)] 37)
   have b4 := b3.trans (bh.mono b3.size)
   have HR := Lib.hid (hR.below bh)
   have HE := Lib.hid (hE.below bh)
   have MT := Lib.hid (And.intro hR.ge (And.intro hE.ge (And.intro hR.blk.lt hE.blk.lt)))
   have S3 := Lib.hid b3.size
   have K5_1 := Lib.hid (K5.out.below b4 K5.out.lt)
   have HZ_1 := Lib.hid (HZ2.out.below b4)
   have HL_1 := Lib.hid (HL2.out.below b4)
   have HP_1 := Lib.hid (HP2.out.below b4)
   have B4 := Lib.hid (B3.out.trans (b4.mono B3.out.size))
   clear K5 HZ2 HL2 HP2 B3 hac hof hR hE bh b3 b4 CD AC OC e0 e1 kx KX2 HA2 HO2
   have k5c0 := K5_1.out.cell 0; have k5c1 := K5_1.out.cell 1
   have k5l := K5_1.out.lt
   simp at k5c0 k5c1
   have CC := Lib.hid (HC HL_1.out II.out HP_1.out JJ.out)
   go_wp2_with fail
   refine CC.out.mono ?_
   rintro e w4 ⟨G2, M2, gb2, vb2, rfl, hL, hP, hg, hm, b3⟩
   have bh := (Below.refl w4.heap.size w4).alloc (Nat.le_refl _) (.cells #[.pointer (some ⟨G2, 0, none⟩), .pointer (some ⟨gb2, 0, none⟩)] 32)
   have K7 := Lib.hid (Blk.new w4 #[.pointer (some ⟨G2, 0, none⟩), .pointer (some ⟨gb2, 0, none⟩)] 32)
   have b4 := b3.trans (bh.mono b3.size)
   have L2 := Lib.hid (hL.below bh)
   have P2 := Lib.hid (hP.below bh)
   have CT := Lib.hid (And.intro hg hm)
   have S4 := Lib.hid b3.size
   have S6 := Lib.hid (show (w3.alloc (.cells #[.pointer (some ⟨rl, 0, none⟩), .pointer (some ⟨rb, 0, none⟩)] 37)).heap.size = w3.heap.size + 1 by simp)
   have S7 := Lib.hid (show (w4.alloc (.cells #[.pointer (some ⟨G2, 0, none⟩), .pointer (some ⟨gb2, 0, none⟩)] 32)).heap.size = w4.heap.size + 1 by simp)
   have K5_2 := Lib.hid (K5_1.out.below b4 K5_1.out.lt)
   have HZ_2 := Lib.hid (HZ_1.out.below b4)
   have HL_2 := Lib.hid (HL_1.out.below b4)
   have HP_2 := Lib.hid (HP_1.out.below b4)
   have K6_2 := Lib.hid (K6.out.below b4 K6.out.lt)
   have HR_2 := Lib.hid (HR.out.below b4)
   have HE_2 := Lib.hid (HE.out.below b4)
   have B5 := Lib.hid (B4.out.trans (b4.mono B4.out.size))
   clear K5_1 HZ_1 HL_1 HP_1 K6 HR HE B4 hL hP hg hm bh b3 b4 CC k5c0 k5c1 k5l
   have k6c0 := K6_2.out.cell 0; have k6c1 := K6_2.out.cell 1
   have k6l := K6_2.out.lt
   simp at k6c0 k6c1
   have hl1 : ps.length ≤ 1000 := by have := II.out.len10; omega
   have hl2 : ls.length ≤ 1000 := by have := II.out.len; omega
   have hl3 : l.length ≤ 1000 := by have := JJ.out.len; omega
   have CC := Lib.hid (rcopy10_any HR_2.out HE_2.out hl1 hl2 hl3)
   go_wp2_with fail
   refine CC.out.mono ?_
   rintro e w5 ⟨rl2, rb2, vp2, vl2, vr2, rfl, hR, hE, hg, hm, h5, h6, h7, b3⟩
   have bh := (Below.refl w5.heap.size w5).alloc (Nat.le_refl _) (.cells #[.pointer (some ⟨rl2, 0, none⟩), .pointer (some ⟨rb2, 0, none⟩)] 37)
   have K8 := Lib.hid (Blk.new w5 #[.pointer (some ⟨rl2, 0, none⟩), .pointer (some ⟨rb2, 0, none⟩)] 37)
   have b4 := b3.trans (bh.mono b3.size)
   have R2 := Lib.hid (hR.below bh)
   have E2 := Lib.hid (hE.below bh)
   have DT := Lib.hid (And.intro hg (And.intro hm (And.intro h5 (And.intro h6 h7))))
   have S5 := Lib.hid b3.size
   have K5_3 := Lib.hid (K5_2.out.below b4 K5_2.out.lt)
   have HZ_3 := Lib.hid (HZ_2.out.below b4)
   have HL_3 := Lib.hid (HL_2.out.below b4)
   have HP_3 := Lib.hid (HP_2.out.below b4)
   have K6_3 := Lib.hid (K6_2.out.below b4 K6_2.out.lt)
   have HR_3 := Lib.hid (HR_2.out.below b4)
   have HE_3 := Lib.hid (HE_2.out.below b4)
   have K7_3 := Lib.hid (K7.out.below b4 K7.out.lt)
   have L2_3 := Lib.hid (L2.out.below b4)
   have P2_3 := Lib.hid (P2.out.below b4)
   have B6 := Lib.hid (B5.out.trans (b4.mono B5.out.size))
   clear K5_2 HZ_2 HL_2 HP_2 K6_2 HR_2 HE_2 K7 L2 P2 B5 hR hE hg hm h5 h6 h7 bh b3 b4 CC hl1 hl2 k6c0 k6c1 k6l
   have k5c0 := K5_3.out.cell 0; have k5c1 := K5_3.out.cell 1
   have k5l := K5_3.out.lt
   simp at k5c0 k5c1
   have k6c0 := K6_3.out.cell 0; have k6c1 := K6_3.out.cell 1
   have k6l := K6_3.out.lt
   simp at k6c0 k6c1
   have hp : ps.length ≤ 100000 := by have := II.out.len10; omega
   have CC := Lib.hid (same10_any HL_3.out II.out HP_3.out HR_3.out HE_3.out hp hl3)
   go_wp2_with fail
   refine CC.out.mono ?_
   rintro e w6 ⟨rfl, b4⟩
   have K5_4 := Lib.hid (K5_3.out.below b4 K5_3.out.lt)
   have HZ_4 := Lib.hid (HZ_3.out.below b4)
   have HL_4 := Lib.hid (HL_3.out.below b4)
   have HP_4 := Lib.hid (HP_3.out.below b4)
   have K6_4 := Lib.hid (K6_3.out.below b4 K6_3.out.lt)
   have HR_4 := Lib.hid (HR_3.out.below b4)
   have HE_4 := Lib.hid (HE_3.out.below b4)
   have K7_4 := Lib.hid (K7_3.out.below b4 K7_3.out.lt)
   have L2_4 := Lib.hid (L2_3.out.below b4)
   have P2_4 := Lib.hid (P2_3.out.below b4)
   have K8_4 := Lib.hid (K8.out.below b4 K8.out.lt)
   have R2_4 := Lib.hid (R2.out.below b4)
   have E2_4 := Lib.hid (E2.out.below b4)
   have B7 := Lib.hid (B6.out.trans (b4.mono B6.out.size))
   clear K5_3 HZ_3 HL_3 HP_3 K6_3 HR_3 HE_3 K7_3 L2_3 P2_3 K8 R2 E2 B6 b4 CC hl3 hp k5c0 k5c1 k5l k6c0 k6c1 k6l
   obtain ⟨g1, g2, g3, g4⟩ := GE.out
   obtain ⟨f1, f2, f3, f4⟩ := FT.out
   obtain ⟨t1, t2, t3, t4⟩ := MT.out
   have hs2 := S2.out
   have hs1 := S1.out
   have hs3 := S3.out
   generalize hsm : (w2.alloc (.cells #[.pointer (some ⟨G, 0, none⟩), .pointer (some ⟨gb, 0, none⟩)] 32)).heap.size = sm at *
   go_wp2_with fail
   go_loopw [9, 10, 11, 12, 13, 14, 15] (fun i _ _ _ _ _ _ wr => FP10 w6 w1.heap.size w2.heap.size sm G M gb rl rb len i wr) (fun i _ _ _ _ _ _ _ => len - (intOf i).toNat)
   case atStart => exact ⟨0, Nat.zero_le _, rfl, ps, ls, l, N, vl, vp, vm, vr, HL_4.out, II.out, HP_4.out, JJ.out, fun b hb => .inl (f4 b hb), HR_4.out, HE_4.out, Keep.refl _ _⟩
   case round =>
    obtain ⟨k, hk, rfl, qs, ks, bs, N1, vb, up, ul, um, hL, hI, hP, hJ, hv, hR, hE, hK⟩ := hrel
    have BW := Lib.hid (B7.out.trans (hK.below B7.out.size (fun j hj h => by have := GE.out; have := MT.out; omega)))
    have KK := Lib.hid hK
    by_cases hkl : k < len
    ·skip
     obtain ⟨b, off, rfl, hbl, d0, d1, d2, d3, d4, d5⟩ := (HZ0.out.below BW.out).ask10 (i := k) (by omega)
     have hy := HZ0.out.2.2.1 zs[k] (List.getElem_mem _)
     generalize hye : zs[k] = y at *
     clear hye
     obtain ⟨m1, m2, hG, hm1, hm2⟩ := goes_some hI bs y.se y.tk y.pt
     have hbd := mayV_bd (ps := qs) (s := y.se) (tk := y.tk) (pt := y.pt) (want := y.n) (most := y.mo) hJ hm1 hm2
     have K5r := Lib.hid (K5_4.out.keep hK (by omega))
     have K6r := Lib.hid (K6_4.out.keep hK (by omega))
     have VB := Lib.hid hv
     have I1 := Lib.hid hI
     have J1 := Lib.hid hJ
     have GG := Lib.hid hG
     have HY := Lib.hid hy
     have BD := Lib.hid hbd
     have bw := (Below.refl wr.heap.size wr).alloc (Nat.le_refl _) (.cells #[.int .u64 y.se, .int .u8 y.tk, .int .u8 y.pt, .int .i64 y.n, .int .i64 y.mo, .bool y.fu] 45)
     have KA := Lib.hid (Blk.new wr #[.int .u64 y.se, .int .u8 y.tk, .int .u8 y.pt, .int .i64 y.n, .int .i64 y.mo, .bool y.fu] 45)
     have LL := Lib.hid (hL.below bw)
     have PP := Lib.hid (hP.below bw)
     have RR := Lib.hid (hR.below bw)
     have EE := Lib.hid (hE.below bw)
     have KV := Lib.hid ((Keep.of_below (S := fun _ => False) bw))
     have K5a := Lib.hid (K5r.out.below bw K5r.out.lt)
     have K6a := Lib.hid (K6r.out.below bw K6r.out.lt)
     have LTS := Lib.hid (And.intro hL.blk.lt (And.intro hL.map.lt (And.intro hP.blk.lt (fun b (hb : vb.ownBlock = some b) => (hP.lt (b := b) (.inr hb)).2))))
     have SZ := Lib.hid hK.size
     have X5 := Lib.hid K5_4.out.lt
     have K6lt := Lib.hid K6_4.out.lt
     clear hm1 hm2 hbd hG hy hv hI hJ hL hP hR hE hK bw K5r K6r
     have k6ac0 := K6a.out.cell 0; have k6ac1 := K6a.out.cell 1
     have k6al := K6a.out.lt
     simp at k6ac0 k6ac1
     have kac0 := KA.out.cell 0; have kac1 := KA.out.cell 1; have kac2 := KA.out.cell 2; have kac3 := KA.out.cell 3; have kac4 := KA.out.cell 4; have kac5 := KA.out.cell 5
     have kal := KA.out.lt
     simp at kac0 kac1 kac2 kac3 kac4 kac5
     have CA := Lib.hid (rmay10_any RR.out I1.out EE.out J1.out y.se y.tk y.pt y.n y.mo m1 m2 HY.out.tk HY.out.pt HY.out.n HY.out.mo GG.out)
     go_wp2_with fail
     refine CA.out.mono ?_
     rintro e w7 ⟨rfl, b7⟩
     have LL_101 := Lib.hid (LL.out.below b7)
     have PP_101 := Lib.hid (PP.out.below b7)
     have RR_101 := Lib.hid (RR.out.below b7)
     have EE_101 := Lib.hid (EE.out.below b7)
     have KA_101 := Lib.hid (KA.out.below b7 KA.out.lt)
     have K5a_101 := Lib.hid (K5a.out.below b7 K5a.out.lt)
     have K6a_101 := Lib.hid (K6a.out.below b7 K6a.out.lt)
     have KV1 := Lib.hid (KV.out.trans (Keep.of_below (S := fun _ => False) b7))
     clear LL PP RR EE KA K5a K6a KV b7 CA k6ac0 k6ac1 k6al kac0 kac1 kac2 kac3 kac4 kac5 kal
     have k5ac0 := K5a_101.out.cell 0; have k5ac1 := K5a_101.out.cell 1
     have k5al := K5a_101.out.lt
     simp at k5ac0 k5ac1
     have kac0 := KA_101.out.cell 0; have kac1 := KA_101.out.cell 1; have kac2 := KA_101.out.cell 2; have kac3 := KA_101.out.cell 3; have kac4 := KA_101.out.cell 4; have kac5 := KA_101.out.cell 5
     have kal := KA_101.out.lt
     simp at kac0 kac1 kac2 kac3 kac4 kac5
     have CA := Lib.hid (HM LL_101.out I1.out PP_101.out J1.out y.se y.tk y.pt y.n y.mo m1 m2 HY.out.se HY.out.tk HY.out.pt HY.out.n HY.out.mo GG.out)
     go_wp2_with fail
     refine CA.out.mono ?_
     rintro e w8 ⟨rfl, b8⟩
     have LL_102 := Lib.hid (LL_101.out.below b8)
     have PP_102 := Lib.hid (PP_101.out.below b8)
     have RR_102 := Lib.hid (RR_101.out.below b8)
     have EE_102 := Lib.hid (EE_101.out.below b8)
     have KA_102 := Lib.hid (KA_101.out.below b8 KA_101.out.lt)
     have K5a_102 := Lib.hid (K5a_101.out.below b8 K5a_101.out.lt)
     have K6a_102 := Lib.hid (K6a_101.out.below b8 K6a_101.out.lt)
     have KV2 := Lib.hid (KV1.out.trans (Keep.of_below (S := fun _ => False) b8))
     clear LL_101 PP_101 RR_101 EE_101 KA_101 K5a_101 K6a_101 KV1 b8 CA k5ac0 k5ac1 k5al kac0 kac1 kac2 kac3 kac4 kac5 kal
     have k5ac0 := K5a_102.out.cell 0; have k5ac1 := K5a_102.out.cell 1
     have k5al := K5a_102.out.lt
     simp at k5ac0 k5ac1
     have kac0 := KA_102.out.cell 0; have kac1 := KA_102.out.cell 1; have kac2 := KA_102.out.cell 2; have kac3 := KA_102.out.cell 3; have kac4 := KA_102.out.cell 4; have kac5 := KA_102.out.cell 5
     have kal := KA_102.out.lt
     simp at kac0 kac1 kac2 kac3 kac4 kac5
     generalize mayV bs qs y.se y.tk y.pt y.n y.mo m1 m2 = mv at *
     cases hfu : y.fu
     ·rw [hfu] at kac5
      have CA := Lib.hid (HD LL_102.out I1.out PP_102.out J1.out y.se y.tk y.pt y.n m1 m2 HY.out.se HY.out.tk HY.out.pt HY.out.n GG.out)
      go_wp2_with fail
      refine CA.out.mono ?_
      rintro e w9 (⟨hno, rfl, b9⟩ | ⟨hok, o, x, ls', vb', hf, hx, hfi, rfl, hL', hP', hk, hm⟩)
      ·unfold noFill
       have bf := (Below.refl w9.heap.size w9).alloc (Nat.le_refl _) (.cells #[.int .u64 0, .int .u8 0, .int .u8 0, .int .i64 0, .int .i64 0] 48)
       have KFa := Lib.hid (Blk.new w9 #[.int .u64 0, .int .u8 0, .int .u8 0, .int .i64 0, .int .i64 0] 48)
       have b10 := b9.trans (bf.mono b9.size)
       have LL_103 := Lib.hid (LL_102.out.below b10)
       have PP_103 := Lib.hid (PP_102.out.below b10)
       have RR_103 := Lib.hid (RR_102.out.below b10)
       have EE_103 := Lib.hid (EE_102.out.below b10)
       have KA_103 := Lib.hid (KA_102.out.below b10 KA_102.out.lt)
       have K5a_103 := Lib.hid (K5a_102.out.below b10 K5a_102.out.lt)
       have K6a_103 := Lib.hid (K6a_102.out.below b10 K6a_102.out.lt)
       have KV3 := Lib.hid (KV2.out.trans (Keep.of_below (S := fun _ => False) b10))
       clear LL_102 PP_102 RR_102 EE_102 KA_102 K5a_102 K6a_102 KV2 b9 b10 bf CA k5ac0 k5ac1 k5al kac0 kac1 kac2 kac3 kac4 kac5 kal
       have k6ac0 := K6a_103.out.cell 0; have k6ac1 := K6a_103.out.cell 1
       have k6al := K6a_103.out.lt
       simp at k6ac0 k6ac1
       have kac0 := KA_103.out.cell 0; have kac1 := KA_103.out.cell 1; have kac2 := KA_103.out.cell 2; have kac3 := KA_103.out.cell 3; have kac4 := KA_103.out.cell 4; have kac5 := KA_103.out.cell 5
       have kal := KA_103.out.lt
       simp at kac0 kac1 kac2 kac3 kac4 kac5
       have CA := Lib.hid (rdo10_any RR_103.out I1.out EE_103.out J1.out y.se y.tk y.pt y.n m1 m2 HY.out.tk HY.out.pt HY.out.n GG.out)
       go_wp2_with fail
       refine CA.out.mono ?_
       rintro e w10 (⟨_, rfl, b9⟩ | ⟨hok, _⟩)
       rotate_left
       ·exact absurd hok hno
       unfold noFill
       have bf := (Below.refl w10.heap.size w10).alloc (Nat.le_refl _) (.cells #[.int .u64 0, .int .u8 0, .int .u8 0, .int .i64 0, .int .i64 0] 52)
       have KFb := Lib.hid (Blk.new w10 #[.int .u64 0, .int .u8 0, .int .u8 0, .int .i64 0, .int .i64 0] 52)
       have b10 := b9.trans (bf.mono b9.size)
       have LL_104 := Lib.hid (LL_103.out.below b10)
       have PP_104 := Lib.hid (PP_103.out.below b10)
       have RR_104 := Lib.hid (RR_103.out.below b10)
       have EE_104 := Lib.hid (EE_103.out.below b10)
       have KA_104 := Lib.hid (KA_103.out.below b10 KA_103.out.lt)
       have K5a_104 := Lib.hid (K5a_103.out.below b10 K5a_103.out.lt)
       have K6a_104 := Lib.hid (K6a_103.out.below b10 K6a_103.out.lt)
       have KFa_104 := Lib.hid (KFa.out.below b10 KFa.out.lt)
       have KV4 := Lib.hid (KV3.out.trans (Keep.of_below (S := fun _ => False) b10))
       clear LL_103 PP_103 RR_103 EE_103 KA_103 K5a_103 K6a_103 KFa KV3 b9 b10 bf CA k6ac0 k6ac1 k6al kac0 kac1 kac2 kac3 kac4 kac5 kal
       have k5ac0 := K5a_104.out.cell 0; have k5ac1 := K5a_104.out.cell 1
       have k5al := K5a_104.out.lt
       simp at k5ac0 k5ac1
       have k6ac0 := K6a_104.out.cell 0; have k6ac1 := K6a_104.out.cell 1
       have k6al := K6a_104.out.lt
       simp at k6ac0 k6ac1
       have kfac0 := KFa_104.out.cell 0; have kfac1 := KFa_104.out.cell 1; have kfac2 := KFa_104.out.cell 2; have kfac3 := KFa_104.out.cell 3; have kfac4 := KFa_104.out.cell 4
       have kfal := KFa_104.out.lt
       simp at kfac0 kfac1 kfac2 kfac3 kfac4
       have kfbc0 := KFb.out.cell 0; have kfbc1 := KFb.out.cell 1; have kfbc2 := KFb.out.cell 2; have kfbc3 := KFb.out.cell 3; have kfbc4 := KFb.out.cell 4
       have kfbl := KFb.out.lt
       simp at kfbc0 kfbc1 kfbc2 kfbc3 kfbc4
       have hp : qs.length ≤ 100000 := by have := I1.out.len10; omega
       have hl3 : bs.length ≤ 1000 := by have := J1.out.len; omega
       have CA := Lib.hid (same10_any LL_104.out I1.out PP_104.out RR_104.out EE_104.out hp hl3)
       go_wp2_with fail
       refine CA.out.mono ?_
       rintro e w11 ⟨rfl, b9⟩
       have LL_105 := Lib.hid (LL_104.out.below b9)
       have PP_105 := Lib.hid (PP_104.out.below b9)
       have RR_105 := Lib.hid (RR_104.out.below b9)
       have EE_105 := Lib.hid (EE_104.out.below b9)
       have KA_105 := Lib.hid (KA_104.out.below b9 KA_104.out.lt)
       have K5a_105 := Lib.hid (K5a_104.out.below b9 K5a_104.out.lt)
       have K6a_105 := Lib.hid (K6a_104.out.below b9 K6a_104.out.lt)
       have KFa_105 := Lib.hid (KFa_104.out.below b9 KFa_104.out.lt)
       have KV5 := Lib.hid (KV4.out.trans (Keep.of_below (S := fun _ => False) b9))
       clear LL_104 PP_104 RR_104 EE_104 KA_104 K5a_104 K6a_104 KFa_104 KV4 b9 CA hp hl3 k5ac0 k5ac1 k5al k6ac0 k6ac1 k6al kfac0 kfac1 kfac2 kfac3 kfac4 kfal kfbc0 kfbc1 kfbc2 kfbc3 kfbc4 kfbl
       go_wp2_with fail
       go_roundw
       case rel => exact ⟨k + 1, by omega, by go_num, qs, ks, bs, N1, vb, up, ul, um, LL_105.out, I1.out, PP_105.out, J1.out, VB.out, RR_105.out, EE_105.out, KK.out.trans (KV5.out.mono fun _ _ h => h.elim)⟩
       case measure => simp [intOf]; omega
      ·obtain ⟨l1, l2, l3, l4⟩ := LTS.out
       have sz := SZ.out
       have x5 := X5.out
       have vb0 := VB.out
       have hrl : ¬ (rl = G ∨ rl = M ∨ Foot gb vb rl) := by
        rintro (h | h | h | h)
        ·omega
        ·omega
        ·omega
        ·exact owns_ne PP_102.out.row RR_102.out.blk (by decide) _ h rfl
       have hrb : ¬ (rb = G ∨ rb = M ∨ Foot gb vb rb) := by
        rintro (h | h | h | h)
        ·omega
        ·omega
        ·omega
        ·exact owns_ne PP_102.out.row EE_102.out.blk (by decide) _ h rfl
       have hup : ∀ j, up.ownBlock = some j → ¬ (j = G ∨ j = M ∨ Foot gb vb j) := by
        intro j hj
        have := (owns_type RR_102.out.p hj).1
        rintro (h | h | h | h)
        ·omega
        ·omega
        ·omega
        ·exact own_own_ne PP_102.out.row RR_102.out.p (by decide) _ h hj
       have hul : ∀ j, ul.ownBlock = some j → ¬ (j = G ∨ j = M ∨ Foot gb vb j) := by
        intro j hj
        have := (owns_type RR_102.out.l hj).1
        rintro (h | h | h | h)
        ·omega
        ·omega
        ·omega
        ·exact own_own_ne PP_102.out.row RR_102.out.l (by decide) _ h hj
       have hum : ∀ j, um.ownBlock = some j → ¬ (j = G ∨ j = M ∨ Foot gb vb j) := by
        intro j hj
        have := (owns_type EE_102.out.row hj).1
        rintro (h | h | h | h)
        ·omega
        ·omega
        ·omega
        ·exact own_own_ne PP_102.out.row EE_102.out.row (by decide) _ h hj
       have hbx : ∀ j, w2.heap.size ≤ j → j < w6.heap.size → ¬ (j = G ∨ j = M ∨ Foot gb vb j) := by
        intro j h1 h2
        rintro (h | h | h | h)
        ·omega
        ·omega
        ·omega
        ·have := vb0 j h; omega
       have hka : ¬ (wr.heap.size = G ∨ wr.heap.size = M ∨ Foot gb vb wr.heap.size) := by
        rintro (h | h | h | h)
        ·omega
        ·omega
        ·omega
        ·have := l4 _ h; omega
       have RRk := Lib.hid (RR_102.out.keep hk hrl hup hul)
       have EEk := Lib.hid (EE_102.out.keep hk hrb hum)
       have KAk := Lib.hid (KA_102.out.keep hk hka)
       have K5k := Lib.hid (K5a_102.out.keep hk (hbx _ (by omega) x5))
       have K6k := Lib.hid (K6a_102.out.keep hk (hbx _ (by omega) (K6lt.out)))
       have LLk := Lib.hid hL'
       have PPk := Lib.hid hP'
       have KD := Lib.hid hk
       have MV := Lib.hid hm
       have FI := Lib.hid hfi
       have HXX := Lib.hid hx
       have HFF := Lib.hid hf
       have I2 := Lib.hid (hfi.inv I1.out)
       have J2 := Lib.hid (J1.out.take y.se y.n)
       have KQ : Hid (Keep (fun k => (w1.heap.size ≤ k ∧ k < w2.heap.size) ∨ k = rl ∨ k = rb) w6 w9) := Lib.hid ((KK.out.trans (KV2.out.mono fun _ _ h => h.elim)).trans_new hk (by
        intro j hj h
        rcases h with h | h | h | h
        ·exact .inl (by omega)
        ·exact .inl (by omega)
        ·exact .inl (by omega)
        ·have e1 := vb0 j h
         have e2 := (PP_102.out.lt (b := j) (.inr h)).1
         exact .inl (by omega)))
       have VC : Hid (∀ j, vb'.ownBlock = some j → j < w2.heap.size ∨ w6.heap.size ≤ j) := Lib.hid (fun j hj => by
        rcases hm j hj with h | h
        ·exact vb0 j h
        ·have := KV2.out.size; exact .inr (by omega))
       have SK := Lib.hid (And.intro KV2.out.size hk.size)
       clear hrl hrb hup hul hum hbx hka hL' hP' hk hm hx hf hfi sz x5 vb0 CA k5ac0 k5ac1 k5al kac0 kac1 kac2 kac3 kac4 kac5 kal
       have bf := (Below.refl w9.heap.size w9).alloc (Nat.le_refl _) (.cells #[.int .u64 y.se, .int .u8 y.tk, .int .u8 y.pt, .int .i64 y.n, .int .i64 x] 48)
       have KFa := Lib.hid (Blk.new w9 #[.int .u64 y.se, .int .u8 y.tk, .int .u8 y.pt, .int .i64 y.n, .int .i64 x] 48)
       have LL_123 := Lib.hid (LLk.out.below bf)
       have PP_123 := Lib.hid (PPk.out.below bf)
       have RR_123 := Lib.hid (RRk.out.below bf)
       have EE_123 := Lib.hid (EEk.out.below bf)
       have KA_123 := Lib.hid (KAk.out.below bf KAk.out.lt)
       have K5a_123 := Lib.hid (K5k.out.below bf K5k.out.lt)
       have K6a_123 := Lib.hid (K6k.out.below bf K6k.out.lt)
       have KQ1 := Lib.hid (KQ.out.trans (Keep.of_below (S := _) bf))
       clear LLk PPk RRk EEk KAk K5k K6k KQ bf
       have k6ac0 := K6a_123.out.cell 0; have k6ac1 := K6a_123.out.cell 1
       have k6al := K6a_123.out.lt
       simp at k6ac0 k6ac1
       have kac0 := KA_123.out.cell 0; have kac1 := KA_123.out.cell 1; have kac2 := KA_123.out.cell 2; have kac3 := KA_123.out.cell 3; have kac4 := KA_123.out.cell 4; have kac5 := KA_123.out.cell 5
       have kal := KA_123.out.lt
       simp at kac0 kac1 kac2 kac3 kac4 kac5
       have CA := Lib.hid (rdo10_any RR_123.out I1.out EE_123.out J1.out y.se y.tk y.pt y.n m1 m2 HY.out.tk HY.out.pt HY.out.n GG.out)
       dsimp only
       go_wp2_with fail
       refine CA.out.mono ?_
       rintro e w10 (⟨hno, _⟩ | ⟨_, o2, x2, ls2, ul2, um2, hf2, hx2, hfi2, rfl, hR2, hE2, hk2⟩)
       ·exact absurd hok hno
       obtain rfl : o = o2 := Option.some.inj (HFF.out.symm.trans hf2)
       obtain rfl : x = x2 := HXX.out.trans hx2.symm
       obtain rfl : ls' = ls2 := FI.out.eq hfi2
       clear hf2 hx2 hfi2
       have sz := SZ.out
       have x6 := K6lt.out
       obtain ⟨k1, k2⟩ := SK.out
       have LLz := Lib.hid (LL_123.out.keep hk2 (by omega) (by omega))
       have PPz := Lib.hid (PP_123.out.keep hk2 (by omega) (fun j hj h => by
        rcases h with h | h
        ·exact owns_ne PP_123.out.row RR_123.out.blk (by decide) j hj h
        ·exact owns_ne PP_123.out.row EE_123.out.blk (by decide) j hj h))
       have KAz := Lib.hid (KA_123.out.keep hk2 (by omega))
       have K5z := Lib.hid (K5a_123.out.keep hk2 (by omega))
       have K6z := Lib.hid (K6a_123.out.keep hk2 (by omega))
       have KFz := Lib.hid (KFa.out.keep hk2 (by omega))
       have KQ2 := Lib.hid (KQ1.out.trans (hk2.mono (fun j _ h => .inr h)))
       have RRz := Lib.hid hR2
       have EEz := Lib.hid hE2
       clear hR2 hE2 hk2 CA k6ac0 k6ac1 k6al kac0 kac1 kac2 kac3 kac4 kac5 kal
       have bf := (Below.refl w10.heap.size w10).alloc (Nat.le_refl _) (.cells #[.int .u64 y.se, .int .u8 y.tk, .int .u8 y.pt, .int .i64 y.n, .int .i64 x] 52)
       have KFb := Lib.hid (Blk.new w10 #[.int .u64 y.se, .int .u8 y.tk, .int .u8 y.pt, .int .i64 y.n, .int .i64 x] 52)
       have LL_124 := Lib.hid (LLz.out.below bf)
       have PP_124 := Lib.hid (PPz.out.below bf)
       have RR_124 := Lib.hid (RRz.out.below bf)
       have EE_124 := Lib.hid (EEz.out.below bf)
       have KA_124 := Lib.hid (KAz.out.below bf KAz.out.lt)
       have K5a_124 := Lib.hid (K5z.out.below bf K5z.out.lt)
       have K6a_124 := Lib.hid (K6z.out.below bf K6z.out.lt)
       have KFa_124 := Lib.hid (KFz.out.below bf KFz.out.lt)
       have KQ3 := Lib.hid (KQ2.out.trans (Keep.of_below (S := _) bf))
       clear bf
       have k5ac0 := K5a_124.out.cell 0; have k5ac1 := K5a_124.out.cell 1
       have k5al := K5a_124.out.lt
       simp at k5ac0 k5ac1
       have k6ac0 := K6a_124.out.cell 0; have k6ac1 := K6a_124.out.cell 1
       have k6al := K6a_124.out.lt
       simp at k6ac0 k6ac1
       have kfac0 := KFa_124.out.cell 0; have kfac1 := KFa_124.out.cell 1; have kfac2 := KFa_124.out.cell 2; have kfac3 := KFa_124.out.cell 3; have kfac4 := KFa_124.out.cell 4
       have kfal := KFa_124.out.lt
       simp at kfac0 kfac1 kfac2 kfac3 kfac4
       have kfbc0 := KFb.out.cell 0; have kfbc1 := KFb.out.cell 1; have kfbc2 := KFb.out.cell 2; have kfbc3 := KFb.out.cell 3; have kfbc4 := KFb.out.cell 4
       have kfbl := KFb.out.lt
       simp at kfbc0 kfbc1 kfbc2 kfbc3 kfbc4
       have hp : qs.length ≤ 100000 := by have := I1.out.len10; omega
       have hl3 : (takeL bs y.se y.n).length ≤ 1000 := by have := J2.out.len; omega
       have CA := Lib.hid (same10_any LL_124.out I2.out PP_124.out RR_124.out EE_124.out hp hl3)
       go_wp2_with fail
       refine CA.out.mono ?_
       rintro e w11 ⟨rfl, b9⟩
       have LL_125 := Lib.hid (LL_124.out.below b9)
       have PP_125 := Lib.hid (PP_124.out.below b9)
       have RR_125 := Lib.hid (RR_124.out.below b9)
       have EE_125 := Lib.hid (EE_124.out.below b9)
       have KA_125 := Lib.hid (KA_124.out.below b9 KA_124.out.lt)
       have K5a_125 := Lib.hid (K5a_124.out.below b9 K5a_124.out.lt)
       have K6a_125 := Lib.hid (K6a_124.out.below b9 K6a_124.out.lt)
       have KFa_125 := Lib.hid (KFa_124.out.below b9 KFa_124.out.lt)
       have KQ4 := Lib.hid (KQ3.out.trans (Keep.of_below (S := _) b9))
       clear b9 CA hp hl3 k5ac0 k5ac1 k5al k6ac0 k6ac1 k6al kfac0 kfac1 kfac2 kfac3 kfac4 kfal kfbc0 kfbc1 kfbc2 kfbc3 kfbc4 kfbl
       go_wp2_with fail
       go_roundw
       case rel => exact ⟨k + 1, by omega, by go_num, qs, ls', takeL bs y.se y.n, N1, vb', up, ul2, um2, LL_125.out, I2.out, PP_125.out, J2.out, VC.out, RR_125.out, EE_125.out, KQ4.out⟩
       case measure => simp [intOf]; omega
     ·rw [hfu] at kac5
      have CA := Lib.hid (HD LL_102.out I1.out PP_102.out J1.out y.se y.tk y.pt mv m1 m2 HY.out.se HY.out.tk HY.out.pt BD.out GG.out)
      go_wp2_with fail
      refine CA.out.mono ?_
      rintro e w9 (⟨hno, rfl, b9⟩ | ⟨hok, o, x, ls', vb', hf, hx, hfi, rfl, hL', hP', hk, hm⟩)
      ·unfold noFill
       have bf := (Below.refl w9.heap.size w9).alloc (Nat.le_refl _) (.cells #[.int .u64 0, .int .u8 0, .int .u8 0, .int .i64 0, .int .i64 0] 48)
       have KFa := Lib.hid (Blk.new w9 #[.int .u64 0, .int .u8 0, .int .u8 0, .int .i64 0, .int .i64 0] 48)
       have b10 := b9.trans (bf.mono b9.size)
       have LL_103 := Lib.hid (LL_102.out.below b10)
       have PP_103 := Lib.hid (PP_102.out.below b10)
       have RR_103 := Lib.hid (RR_102.out.below b10)
       have EE_103 := Lib.hid (EE_102.out.below b10)
       have KA_103 := Lib.hid (KA_102.out.below b10 KA_102.out.lt)
       have K5a_103 := Lib.hid (K5a_102.out.below b10 K5a_102.out.lt)
       have K6a_103 := Lib.hid (K6a_102.out.below b10 K6a_102.out.lt)
       have KV3 := Lib.hid (KV2.out.trans (Keep.of_below (S := fun _ => False) b10))
       clear LL_102 PP_102 RR_102 EE_102 KA_102 K5a_102 K6a_102 KV2 b9 b10 bf CA k5ac0 k5ac1 k5al kac0 kac1 kac2 kac3 kac4 kac5 kal
       have k6ac0 := K6a_103.out.cell 0; have k6ac1 := K6a_103.out.cell 1
       have k6al := K6a_103.out.lt
       simp at k6ac0 k6ac1
       have kac0 := KA_103.out.cell 0; have kac1 := KA_103.out.cell 1; have kac2 := KA_103.out.cell 2; have kac3 := KA_103.out.cell 3; have kac4 := KA_103.out.cell 4; have kac5 := KA_103.out.cell 5
       have kal := KA_103.out.lt
       simp at kac0 kac1 kac2 kac3 kac4 kac5
       have CA := Lib.hid (rdo10_any RR_103.out I1.out EE_103.out J1.out y.se y.tk y.pt mv m1 m2 HY.out.tk HY.out.pt BD.out GG.out)
       go_wp2_with fail
       refine CA.out.mono ?_
       rintro e w10 (⟨_, rfl, b9⟩ | ⟨hok, _⟩)
       rotate_left
       ·exact absurd hok hno
       unfold noFill
       have bf := (Below.refl w10.heap.size w10).alloc (Nat.le_refl _) (.cells #[.int .u64 0, .int .u8 0, .int .u8 0, .int .i64 0, .int .i64 0] 52)
       have KFb := Lib.hid (Blk.new w10 #[.int .u64 0, .int .u8 0, .int .u8 0, .int .i64 0, .int .i64 0] 52)
       have b10 := b9.trans (bf.mono b9.size)
       have LL_104 := Lib.hid (LL_103.out.below b10)
       have PP_104 := Lib.hid (PP_103.out.below b10)
       have RR_104 := Lib.hid (RR_103.out.below b10)
       have EE_104 := Lib.hid (EE_103.out.below b10)
       have KA_104 := Lib.hid (KA_103.out.below b10 KA_103.out.lt)
       have K5a_104 := Lib.hid (K5a_103.out.below b10 K5a_103.out.lt)
       have K6a_104 := Lib.hid (K6a_103.out.below b10 K6a_103.out.lt)
       have KFa_104 := Lib.hid (KFa.out.below b10 KFa.out.lt)
       have KV4 := Lib.hid (KV3.out.trans (Keep.of_below (S := fun _ => False) b10))
       clear LL_103 PP_103 RR_103 EE_103 KA_103 K5a_103 K6a_103 KFa KV3 b9 b10 bf CA k6ac0 k6ac1 k6al kac0 kac1 kac2 kac3 kac4 kac5 kal
       have k5ac0 := K5a_104.out.cell 0; have k5ac1 := K5a_104.out.cell 1
       have k5al := K5a_104.out.lt
       simp at k5ac0 k5ac1
       have k6ac0 := K6a_104.out.cell 0; have k6ac1 := K6a_104.out.cell 1
       have k6al := K6a_104.out.lt
       simp at k6ac0 k6ac1
       have kfac0 := KFa_104.out.cell 0; have kfac1 := KFa_104.out.cell 1; have kfac2 := KFa_104.out.cell 2; have kfac3 := KFa_104.out.cell 3; have kfac4 := KFa_104.out.cell 4
       have kfal := KFa_104.out.lt
       simp at kfac0 kfac1 kfac2 kfac3 kfac4
       have kfbc0 := KFb.out.cell 0; have kfbc1 := KFb.out.cell 1; have kfbc2 := KFb.out.cell 2; have kfbc3 := KFb.out.cell 3; have kfbc4 := KFb.out.cell 4
       have kfbl := KFb.out.lt
       simp at kfbc0 kfbc1 kfbc2 kfbc3 kfbc4
       have hp : qs.length ≤ 100000 := by have := I1.out.len10; omega
       have hl3 : bs.length ≤ 1000 := by have := J1.out.len; omega
       have CA := Lib.hid (same10_any LL_104.out I1.out PP_104.out RR_104.out EE_104.out hp hl3)
       go_wp2_with fail
       refine CA.out.mono ?_
       rintro e w11 ⟨rfl, b9⟩
       have LL_105 := Lib.hid (LL_104.out.below b9)
       have PP_105 := Lib.hid (PP_104.out.below b9)
       have RR_105 := Lib.hid (RR_104.out.below b9)
       have EE_105 := Lib.hid (EE_104.out.below b9)
       have KA_105 := Lib.hid (KA_104.out.below b9 KA_104.out.lt)
       have K5a_105 := Lib.hid (K5a_104.out.below b9 K5a_104.out.lt)
       have K6a_105 := Lib.hid (K6a_104.out.below b9 K6a_104.out.lt)
       have KFa_105 := Lib.hid (KFa_104.out.below b9 KFa_104.out.lt)
       have KV5 := Lib.hid (KV4.out.trans (Keep.of_below (S := fun _ => False) b9))
       clear LL_104 PP_104 RR_104 EE_104 KA_104 K5a_104 K6a_104 KFa_104 KV4 b9 CA hp hl3 k5ac0 k5ac1 k5al k6ac0 k6ac1 k6al kfac0 kfac1 kfac2 kfac3 kfac4 kfal kfbc0 kfbc1 kfbc2 kfbc3 kfbc4 kfbl
       go_wp2_with fail
       go_roundw
       case rel => exact ⟨k + 1, by omega, by go_num, qs, ks, bs, N1, vb, up, ul, um, LL_105.out, I1.out, PP_105.out, J1.out, VB.out, RR_105.out, EE_105.out, KK.out.trans (KV5.out.mono fun _ _ h => h.elim)⟩
       case measure => simp [intOf]; omega
      ·obtain ⟨l1, l2, l3, l4⟩ := LTS.out
       have sz := SZ.out
       have x5 := X5.out
       have vb0 := VB.out
       have hrl : ¬ (rl = G ∨ rl = M ∨ Foot gb vb rl) := by
        rintro (h | h | h | h)
        ·omega
        ·omega
        ·omega
        ·exact owns_ne PP_102.out.row RR_102.out.blk (by decide) _ h rfl
       have hrb : ¬ (rb = G ∨ rb = M ∨ Foot gb vb rb) := by
        rintro (h | h | h | h)
        ·omega
        ·omega
        ·omega
        ·exact owns_ne PP_102.out.row EE_102.out.blk (by decide) _ h rfl
       have hup : ∀ j, up.ownBlock = some j → ¬ (j = G ∨ j = M ∨ Foot gb vb j) := by
        intro j hj
        have := (owns_type RR_102.out.p hj).1
        rintro (h | h | h | h)
        ·omega
        ·omega
        ·omega
        ·exact own_own_ne PP_102.out.row RR_102.out.p (by decide) _ h hj
       have hul : ∀ j, ul.ownBlock = some j → ¬ (j = G ∨ j = M ∨ Foot gb vb j) := by
        intro j hj
        have := (owns_type RR_102.out.l hj).1
        rintro (h | h | h | h)
        ·omega
        ·omega
        ·omega
        ·exact own_own_ne PP_102.out.row RR_102.out.l (by decide) _ h hj
       have hum : ∀ j, um.ownBlock = some j → ¬ (j = G ∨ j = M ∨ Foot gb vb j) := by
        intro j hj
        have := (owns_type EE_102.out.row hj).1
        rintro (h | h | h | h)
        ·omega
        ·omega
        ·omega
        ·exact own_own_ne PP_102.out.row EE_102.out.row (by decide) _ h hj
       have hbx : ∀ j, w2.heap.size ≤ j → j < w6.heap.size → ¬ (j = G ∨ j = M ∨ Foot gb vb j) := by
        intro j h1 h2
        rintro (h | h | h | h)
        ·omega
        ·omega
        ·omega
        ·have := vb0 j h; omega
       have hka : ¬ (wr.heap.size = G ∨ wr.heap.size = M ∨ Foot gb vb wr.heap.size) := by
        rintro (h | h | h | h)
        ·omega
        ·omega
        ·omega
        ·have := l4 _ h; omega
       have RRk := Lib.hid (RR_102.out.keep hk hrl hup hul)
       have EEk := Lib.hid (EE_102.out.keep hk hrb hum)
       have KAk := Lib.hid (KA_102.out.keep hk hka)
       have K5k := Lib.hid (K5a_102.out.keep hk (hbx _ (by omega) x5))
       have K6k := Lib.hid (K6a_102.out.keep hk (hbx _ (by omega) (K6lt.out)))
       have LLk := Lib.hid hL'
       have PPk := Lib.hid hP'
       have KD := Lib.hid hk
       have MV := Lib.hid hm
       have FI := Lib.hid hfi
       have HXX := Lib.hid hx
       have HFF := Lib.hid hf
       have I2 := Lib.hid (hfi.inv I1.out)
       have J2 := Lib.hid (J1.out.take y.se mv)
       have KQ : Hid (Keep (fun k => (w1.heap.size ≤ k ∧ k < w2.heap.size) ∨ k = rl ∨ k = rb) w6 w9) := Lib.hid ((KK.out.trans (KV2.out.mono fun _ _ h => h.elim)).trans_new hk (by
        intro j hj h
        rcases h with h | h | h | h
        ·exact .inl (by omega)
        ·exact .inl (by omega)
        ·exact .inl (by omega)
        ·have e1 := vb0 j h
         have e2 := (PP_102.out.lt (b := j) (.inr h)).1
         exact .inl (by omega)))
       have VC : Hid (∀ j, vb'.ownBlock = some j → j < w2.heap.size ∨ w6.heap.size ≤ j) := Lib.hid (fun j hj => by
        rcases hm j hj with h | h
        ·exact vb0 j h
        ·have := KV2.out.size; exact .inr (by omega))
       have SK := Lib.hid (And.intro KV2.out.size hk.size)
       clear hrl hrb hup hul hum hbx hka hL' hP' hk hm hx hf hfi sz x5 vb0 CA k5ac0 k5ac1 k5al kac0 kac1 kac2 kac3 kac4 kac5 kal
       have bf := (Below.refl w9.heap.size w9).alloc (Nat.le_refl _) (.cells #[.int .u64 y.se, .int .u8 y.tk, .int .u8 y.pt, .int .i64 mv, .int .i64 x] 48)
       have KFa := Lib.hid (Blk.new w9 #[.int .u64 y.se, .int .u8 y.tk, .int .u8 y.pt, .int .i64 mv, .int .i64 x] 48)
       have LL_123 := Lib.hid (LLk.out.below bf)
       have PP_123 := Lib.hid (PPk.out.below bf)
       have RR_123 := Lib.hid (RRk.out.below bf)
       have EE_123 := Lib.hid (EEk.out.below bf)
       have KA_123 := Lib.hid (KAk.out.below bf KAk.out.lt)
       have K5a_123 := Lib.hid (K5k.out.below bf K5k.out.lt)
       have K6a_123 := Lib.hid (K6k.out.below bf K6k.out.lt)
       have KQ1 := Lib.hid (KQ.out.trans (Keep.of_below (S := _) bf))
       clear LLk PPk RRk EEk KAk K5k K6k KQ bf
       have k6ac0 := K6a_123.out.cell 0; have k6ac1 := K6a_123.out.cell 1
       have k6al := K6a_123.out.lt
       simp at k6ac0 k6ac1
       have kac0 := KA_123.out.cell 0; have kac1 := KA_123.out.cell 1; have kac2 := KA_123.out.cell 2; have kac3 := KA_123.out.cell 3; have kac4 := KA_123.out.cell 4; have kac5 := KA_123.out.cell 5
       have kal := KA_123.out.lt
       simp at kac0 kac1 kac2 kac3 kac4 kac5
       have CA := Lib.hid (rdo10_any RR_123.out I1.out EE_123.out J1.out y.se y.tk y.pt mv m1 m2 HY.out.tk HY.out.pt BD.out GG.out)
       dsimp only
       go_wp2_with fail
       refine CA.out.mono ?_
       rintro e w10 (⟨hno, _⟩ | ⟨_, o2, x2, ls2, ul2, um2, hf2, hx2, hfi2, rfl, hR2, hE2, hk2⟩)
       ·exact absurd hok hno
       obtain rfl : o = o2 := Option.some.inj (HFF.out.symm.trans hf2)
       obtain rfl : x = x2 := HXX.out.trans hx2.symm
       obtain rfl : ls' = ls2 := FI.out.eq hfi2
       clear hf2 hx2 hfi2
       have sz := SZ.out
       have x6 := K6lt.out
       obtain ⟨k1, k2⟩ := SK.out
       have LLz := Lib.hid (LL_123.out.keep hk2 (by omega) (by omega))
       have PPz := Lib.hid (PP_123.out.keep hk2 (by omega) (fun j hj h => by
        rcases h with h | h
        ·exact owns_ne PP_123.out.row RR_123.out.blk (by decide) j hj h
        ·exact owns_ne PP_123.out.row EE_123.out.blk (by decide) j hj h))
       have KAz := Lib.hid (KA_123.out.keep hk2 (by omega))
       have K5z := Lib.hid (K5a_123.out.keep hk2 (by omega))
       have K6z := Lib.hid (K6a_123.out.keep hk2 (by omega))
       have KFz := Lib.hid (KFa.out.keep hk2 (by omega))
       have KQ2 := Lib.hid (KQ1.out.trans (hk2.mono (fun j _ h => .inr h)))
       have RRz := Lib.hid hR2
       have EEz := Lib.hid hE2
       clear hR2 hE2 hk2 CA k6ac0 k6ac1 k6al kac0 kac1 kac2 kac3 kac4 kac5 kal
       have bf := (Below.refl w10.heap.size w10).alloc (Nat.le_refl _) (.cells #[.int .u64 y.se, .int .u8 y.tk, .int .u8 y.pt, .int .i64 mv, .int .i64 x] 52)
       have KFb := Lib.hid (Blk.new w10 #[.int .u64 y.se, .int .u8 y.tk, .int .u8 y.pt, .int .i64 mv, .int .i64 x] 52)
       have LL_124 := Lib.hid (LLz.out.below bf)
       have PP_124 := Lib.hid (PPz.out.below bf)
       have RR_124 := Lib.hid (RRz.out.below bf)
       have EE_124 := Lib.hid (EEz.out.below bf)
       have KA_124 := Lib.hid (KAz.out.below bf KAz.out.lt)
       have K5a_124 := Lib.hid (K5z.out.below bf K5z.out.lt)
       have K6a_124 := Lib.hid (K6z.out.below bf K6z.out.lt)
       have KFa_124 := Lib.hid (KFz.out.below bf KFz.out.lt)
       have KQ3 := Lib.hid (KQ2.out.trans (Keep.of_below (S := _) bf))
       clear bf
       have k5ac0 := K5a_124.out.cell 0; have k5ac1 := K5a_124.out.cell 1
       have k5al := K5a_124.out.lt
       simp at k5ac0 k5ac1
       have k6ac0 := K6a_124.out.cell 0; have k6ac1 := K6a_124.out.cell 1
       have k6al := K6a_124.out.lt
       simp at k6ac0 k6ac1
       have kfac0 := KFa_124.out.cell 0; have kfac1 := KFa_124.out.cell 1; have kfac2 := KFa_124.out.cell 2; have kfac3 := KFa_124.out.cell 3; have kfac4 := KFa_124.out.cell 4
       have kfal := KFa_124.out.lt
       simp at kfac0 kfac1 kfac2 kfac3 kfac4
       have kfbc0 := KFb.out.cell 0; have kfbc1 := KFb.out.cell 1; have kfbc2 := KFb.out.cell 2; have kfbc3 := KFb.out.cell 3; have kfbc4 := KFb.out.cell 4
       have kfbl := KFb.out.lt
       simp at kfbc0 kfbc1 kfbc2 kfbc3 kfbc4
       have hp : qs.length ≤ 100000 := by have := I1.out.len10; omega
       have hl3 : (takeL bs y.se mv).length ≤ 1000 := by have := J2.out.len; omega
       have CA := Lib.hid (same10_any LL_124.out I2.out PP_124.out RR_124.out EE_124.out hp hl3)
       go_wp2_with fail
       refine CA.out.mono ?_
       rintro e w11 ⟨rfl, b9⟩
       have LL_125 := Lib.hid (LL_124.out.below b9)
       have PP_125 := Lib.hid (PP_124.out.below b9)
       have RR_125 := Lib.hid (RR_124.out.below b9)
       have EE_125 := Lib.hid (EE_124.out.below b9)
       have KA_125 := Lib.hid (KA_124.out.below b9 KA_124.out.lt)
       have K5a_125 := Lib.hid (K5a_124.out.below b9 K5a_124.out.lt)
       have K6a_125 := Lib.hid (K6a_124.out.below b9 K6a_124.out.lt)
       have KFa_125 := Lib.hid (KFa_124.out.below b9 KFa_124.out.lt)
       have KQ4 := Lib.hid (KQ3.out.trans (Keep.of_below (S := _) b9))
       clear b9 CA hp hl3 k5ac0 k5ac1 k5al k6ac0 k6ac1 k6al kfac0 kfac1 kfac2 kfac3 kfac4 kfal kfbc0 kfbc1 kfbc2 kfbc3 kfbc4 kfbl
       go_wp2_with fail
       go_roundw
       case rel => exact ⟨k + 1, by omega, by go_num, qs, ls', takeL bs y.se mv, N1, vb', up, ul2, um2, LL_125.out, I2.out, PP_125.out, J2.out, VC.out, RR_125.out, EE_125.out, KQ4.out⟩
       case measure => simp [intOf]; omega
    ·have hs6 := S6.out
     have hs7 := S7.out
     have hs4 := S4.out
     have hs5 := S5.out
     obtain ⟨c1, c2⟩ := CT.out
     obtain ⟨d1, d2, d3, d4, d5⟩ := DT.out
     have L3 := Lib.hid (L2_4.out.keep hK (by omega) (by omega))
     have P3 := Lib.hid (P2_4.out.keep hK (by have := P2_4.out.ge; omega) (fun b hb => by have := (P2_4.out.lt (b := b) (.inr hb)).1; omega))
     have R3 := Lib.hid (R2_4.out.keep hK (by omega) (fun b hb => by have := d3 b hb; omega) (fun b hb => by have := d4 b hb; omega))
     have E3 := Lib.hid (E2_4.out.keep hK (by omega) (fun b hb => by have := d5 b hb; omega))
     have K7r := Lib.hid (K7_4.out.keep hK (by omega))
     have K8r := Lib.hid (K8_4.out.keep hK (by omega))
     have x0 := K7r.out.cell 0; have x1 := K7r.out.cell 1; have y0 := K8r.out.cell 0; have y1 := K8r.out.cell 1
     have xl := K7r.out.lt; have yl := K8r.out.lt
     simp at x0 x1 y0 y1
     have hp : ps.length ≤ 100000 := by have := II.out.len10; omega
     have hl3 : l.length ≤ 1000 := by have := JJ.out.len; omega
     have CC := Lib.hid (same10_any L3.out II.out P3.out R3.out E3.out hp hl3)
     clear hL hI hP hJ hv hR hE hK hs6 hs7 hs4 hs5 c1 c2 d1 d2 d3 d4 d5
     go_wp2_with fail
     refine CC.out.mono ?_
     rintro e w7 ⟨rfl, b7⟩
     have B8 := Lib.hid (BW.out.trans (b7.mono BW.out.size))
     clear b7 CC x0 x1 y0 y1 xl yl
     go_wp2_with fail
     refine (HL _).mono ?_
     rintro e w8 ⟨rfl, b8⟩
     go_wp2_with fail
     go_ret
     exact ⟨rfl, B8.out.trans (b8.mono B8.out.size)⟩
end Go.Proofs.YtbieomgpfhloeaaGreat
