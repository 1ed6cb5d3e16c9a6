/-
  PaymentsVoid: the walk, for every payment (written by gen_pvoid9.py).
-/
import Derived.Test.YtajmladlmkkimaaLives09
import Derived.Test.YtajmladlmkkimaaPVoid
namespace Go.Proofs.Ytajmladlmkkimaa
open Go.RowKit
set_option linter.unusedSimpArgs false
set_option linter.unusedVariables false

theorem gof_void {w : World} {lp : Option Addr} (h : Void w (.pointer lp)) {c : Int} (hc : In8 c) :
    Calls Try.prog 32 #[.pointer lp, .int .u8 c] w fun e w' => e = .returned (.pointer (some ⟨w.heap.size, 0, none⟩)) ∧ Blk w' w.heap.size (graC zeroF true) 132 ∧ Below w.heap.size w w' :=
  gof_any fun w' k p q hp hq => void_room (h.below k) hp hq hc
theorem answers_void {w : World} {lp : Option Addr} (h : Void w (.pointer lp)) : Answers w lp 2 (fun _ => false) :=
  ⟨fun w' k => void_open (h.below k) 0, fun w' k p => void_has (h.below k) p⟩
set_option maxHeartbeats 4000000 in
theorem pmost9_void (HM : MostProg) {w : World} {lp : Option Addr} {a b c : Int} (h : Void w (.pointer lp)) (ha : In8 a) (hb : In8 b) (hc : In8 c) :
    Calls Try.prog 21 #[.pointer lp, .int .u8 a, .int .u8 b, .int .u8 c] w fun e w' => e = .returned (.int .i64 0) ∧ Below w.heap.size w w' := by
  have C1 := Lib.hid (gof_void h hc)
  have GZ : GInv zeroF 4398046511104 := GInv.zero (by decide)
  obtain ⟨μ, hμ⟩ := route_ends GZ a b mostW
  have em : mostW - μ.left = 0 := by rw [route_zero (by decide) hμ]; exact Int.sub_self _
  have C2 := Lib.hid (fun w1 (hk : IsM w1 (.pointer (some ⟨w.heap.size, 0, none⟩)) zeroF) => HM.at_ hk GZ ha hb hμ)
  rw [em] at C2
  clear h em hμ GZ
  go_enter Try.func21, Try.ntmps21
  go_wp2_with fail
  refine C1.out.mono ?_
  rintro e w1 ⟨rfl, hk, hb1⟩
  have C3 := Lib.hid (C2.out w1 (IsM.of hk))
  have B1 := Lib.hid hb1
  clear hk hb1 C2
  go_wp2_with fail
  refine C3.out.mono ?_
  rintro e w2 ⟨rfl, hb2⟩
  have B2 := Lib.hid (B1.out.trans (hb2.mono B1.out.size))
  clear hb2
  go_wp2_with fail
  go_ret
  exact ⟨rfl, B2.out⟩
set_option maxHeartbeats 8000000 in
set_option maxRecDepth 100000 in
theorem ppay_void (HR : RouteProg) {w : World} {lp : Option Addr} {a b c n : Int} (h : Void w (.pointer lp)) (ha : In8 a) (hb : In8 b) (hc : In8 c) (hn : In64 n) :
    Calls Try.prog 23 #[.pointer lp, .int .u8 a, .int .u8 b, .int .u8 c, .int .i64 n] w fun e w' => e = .returned (.tuple #[.int .i64 0, .int .i64 2]) ∧ Below w.heap.size w w' := by
  have bw := (Below.refl w.heap.size w).alloc (Nat.le_refl _) (.cells #[.pointer lp, .int .u8 a, .int .u8 b, .int .u8 c, .int .i64 n, .slice none 0 0, .int .i64 0] 109)
  have V0 := Lib.hid h
  have V1 := Lib.hid (h.below bw)
  have KX := Lib.hid (Blk.new w #[.pointer lp, .int .u8 a, .int .u8 b, .int .u8 c, .int .i64 n, .slice none 0 0, .int .i64 0] 109)
  have B0 := Lib.hid bw
  have HC := Lib.hid hc
  have GZ : GInv zeroF 4398046511104 := GInv.zero (by decide)
  obtain ⟨σ, hσ⟩ := route_ends GZ a b n
  have es := route_zero (by decide) hσ
  have CR := Lib.hid (fun w1 g (hk : IsM w1 (.pointer (some ⟨g, 0, none⟩)) zeroF) => HR.at_ hk GZ ha hb hn hσ)
  have HS := Lib.hid es
  clear bw h ha hb hc hn hσ es GZ
  go_enter Try.func23, Try.ntmps23
  go_wp2_with fail
  generalize w.alloc (.cells #[.pointer lp, .int .u8 a, .int .u8 b, .int .u8 c, .int .i64 n, .slice none 0 0, .int .i64 0] 109) = W at *
  have hwW := B0.out.size
  have hXl := KX.out.lt
  refine (gof_void V1.out HC.out).mono ?_
  rintro e w1 ⟨rfl, hk, hb1⟩
  have CR1 := Lib.hid (CR.out w1 _ (IsM.of hk))
  have V2 := Lib.hid (V1.out.below hb1)
  have K2 := Lib.hid (KX.out.below hb1 KX.out.lt)
  have B2 := Lib.hid (B0.out.trans (hb1.mono hwW))
  have hWw1 := hb1.size
  clear hk hb1 V1 KX B0 CR
  go_wp2_with fail
  refine CR1.out.mono ?_
  rintro e w3 ⟨v', rfl, hr, hb3⟩
  rw [HS.out] at hr ⊢
  obtain ⟨ao, cap, rfl, _, _, _, _⟩ := hr.look (by decide)
  have V3 := Lib.hid (V2.out.below hb3)
  have K3 := Lib.hid (K2.out.below hb3 K2.out.lt)
  have B3 := Lib.hid (B2.out.trans (hb3.mono B2.out.size))
  have d5 := K3.out.cell 5
  have d6 := K3.out.cell 6
  have f5 := K3.out.frozen 5
  have f6 := K3.out.frozen 6
  have l3 := K3.out.lt
  simp at d5 d6
  simp only [List.length_nil, Int.sub_self]
  clear hb3 hr V2 K2 B2 CR1
  go_upto_region 3 with fail
  have K4 := (K3.out.set 5 (.slice ao 0 cap)).set 6 (.int .i64 0)
  have B4 := Lib.hid ((B3.out.setCell (p := ⟨w.heap.size, 5, none⟩) (Nat.le_refl _) (.slice ao 0 cap)).setCell (p := ⟨w.heap.size, 6, none⟩) (Nat.le_refl _) (.int .i64 0))
  have B5 := B4.out
  have KX4 := Lib.hid (show Blk _ w.heap.size #[.pointer lp, .int .u8 a, .int .u8 b, .int .u8 c, .int .i64 n, .slice ao 0 cap, .int .i64 0] 109 from by simpa using K4)
  clear d5 d6 f5 f6 l3 K4
  have V4 : Hid (Void ((w3.setCell ⟨w.heap.size, 5, none⟩ (.slice ao 0 cap)).setCell ⟨w.heap.size, 6, none⟩ (.int .i64 0)) (.pointer lp)) := Lib.hid (V0.out.below B5)
  clear K3 B3 V3 B5
  generalize (w3.setCell ⟨w.heap.size, 5, none⟩ (.slice ao 0 cap)).setCell ⟨w.heap.size, 6, none⟩ (.int .i64 0) = W4 at *
  have d0 := KX4.out.cell 0; have d1 := KX4.out.cell 1; have d2 := KX4.out.cell 2; have d3 := KX4.out.cell 3; have d4 := KX4.out.cell 4; have d5 := KX4.out.cell 5; have d6 := KX4.out.cell 6
  have hl4 := KX4.out.lt
  simp at d0 d1 d2 d3 d4 d5 d6
  have CW := Lib.hid (wrong_any (answers_void V4.out) a b c n ao 0 cap 0)
  rw [show wrongE 2 (fun _ => false) a b c n 0 = 2 from rfl] at CW
  go_wp2_with fail
  refine CW.out.mono ?_
  rintro e w5 ⟨rfl, hb5⟩
  have B5 := Lib.hid (B4.out.trans (hb5.mono B4.out.size))
  clear hb5 B4 CW d0 d1 d2 d3 d4 d5 d6 KX4
  go_wp2_with fail
  refine bodyPost_ret (v := .tuple #[.int .i64 0, .int .i64 2]) (by simp [results, Try.results23, go_sem]) rfl ?_
  exact ⟨rfl, B5.out⟩
def VoidAt9 (W : World) (i : Value) (wr : World) : Prop := ∃ k : Nat, k ≤ 2 ∧ i = .int .i64 k ∧ Below W.heap.size W wr
theorem ledC_void9 : ledC [] (.map none) = #[.bool false, .bool false, .bool false, .bool false, .bool false, .bool false, .bool false, .bool false, .bool false, .bool false, .bool false, .bool false, .bool false, .bool false, .bool false, .bool false, .bool false, .map none] := by
  unfold ledC
  rfl
set_option maxHeartbeats 16000000 in
set_option maxRecDepth 100000 in
theorem pvoid_walk (HR : RouteProg) (HM : MostProg) (HL : Lives09) (fr tt cu n : Int) (w : World) (ha : In8 fr) (hb : In8 tt) (hc : In8 cu) (hn : In64 n) :
    Calls Try.prog 5 #[.agg #[.int .u8 fr, .int .u8 tt, .int .u8 cu, .int .i64 n]] w fun e w' => e = .returned (.bool true) ∧ Below w.heap.size w w' := by
  have b0 := ((Below.refl w.heap.size w).alloc (Nat.le_refl _) (.cells #[.int .u8 fr, .int .u8 tt, .int .u8 cu, .int .i64 n] 47))
  have b1 := b0.alloc b0.size (.cells (ledC [] (.map none)) 58)
  have b2 := b1.alloc b1.size (.cells #[.pointer none, .pointer (some ⟨w.heap.size + 1, 0, none⟩)] 37)
  have kx := ((Blk.new w #[.int .u8 fr, .int .u8 tt, .int .u8 cu, .int .i64 n] 47).alloc (.cells (ledC [] (.map none)) 58)).alloc (.cells #[.pointer none, .pointer (some ⟨w.heap.size + 1, 0, none⟩)] 37)
  have kg := (Blk.newAt (w.alloc (.cells #[.int .u8 fr, .int .u8 tt, .int .u8 cu, .int .i64 n] 47)) (ledC [] (.map none)) 58 (g := w.heap.size + 1) (by simp)).alloc (.cells #[.pointer none, .pointer (some ⟨w.heap.size + 1, 0, none⟩)] 37)
  have kl := Blk.newAt ((w.alloc (.cells #[.int .u8 fr, .int .u8 tt, .int .u8 cu, .int .i64 n] 47)).alloc (.cells (ledC [] (.map none)) 58)) #[.pointer none, .pointer (some ⟨w.heap.size + 1, 0, none⟩)] 37 (g := w.heap.size + 1 + 1) (by simp)
  generalize hW : ((w.alloc (.cells #[.int .u8 fr, .int .u8 tt, .int .u8 cu, .int .i64 n] 47)).alloc (.cells (ledC [] (.map none)) 58)).alloc (.cells #[.pointer none, .pointer (some ⟨w.heap.size + 1, 0, none⟩)] 37) = W at *
  rw [ledC_void9] at hW
  have B2 := Lib.hid b2
  have KX := Lib.hid kx
  have KG := Lib.hid kg
  have KL := Lib.hid kl
  have hW' := Lib.hid hW
  have HA := Lib.hid ha
  have HB := Lib.hid hb
  have HC := Lib.hid hc
  have HN := Lib.hid hn
  have HRo := Lib.hid HR
  have HMo := Lib.hid HM
  have HLo := Lib.hid HL
  clear b0 b1 b2 kx kg kl hW ha hb hc hn HR HM HL
  go_enter Try.func5, Try.ntmps5
  go_wp2_with fail
  rw [hW'.out]
  clear hW'
  obtain ⟨L, hL⟩ : ∃ L, w.heap.size + 1 = L := ⟨_, rfl⟩
  obtain ⟨S, hS⟩ : ∃ S, w.heap.size + 1 + 1 = S := ⟨_, rfl⟩
  rw [hL] at KG KL ⊢
  rw [← hL, hS, hL] at KL
  rw [← hL, hS]
  rw [hL]
  go_loopw [5] (VoidAt9 W) (fun i _ => 2 - (intOf i).toNat)
  case atStart => exact ⟨0, by omega, rfl, Below.refl _ _⟩
  case round =>
    obtain ⟨k, hk, rfl, hbr⟩ := hrel
    by_cases hk2 : k < 2
    · obtain ⟨p, VV, HD⟩ : ∃ p : Option Addr, Hid (Void wr (.pointer p)) ∧ Hid (∀ w', Below wr.heap.size wr w' → S < w'.heap.size ∧ w'.cell? ⟨S, k, none⟩ = some (.pointer p)) := by
        have hSl := KL.out.lt
        have kl := KL.out.below hbr hSl
        have kg := KG.out.below hbr KG.out.lt
        rcases (by omega : k = 0 ∨ k = 1) with rfl | rfl
        · exact ⟨_, Lib.hid (void_nil wr), Lib.hid fun w' h => ⟨(kl.below h kl.lt).lt, (by simpa using (kl.below h kl.lt).cell 0)⟩⟩
        · exact ⟨_, Lib.hid (void_zero kg), Lib.hid fun w' h => ⟨(kl.below h kl.lt).lt, (by simpa using (kl.below h kl.lt).cell 1)⟩⟩
      have KXr := Lib.hid (KX.out.below hbr KX.out.lt)
      have BR := Lib.hid hbr
      have hki : (k : Int) < 2 := by omega
      have hk0 : (0 : Int) ≤ (k : Int) := by omega
      have hk3 : (k : Int) + 1 ≤ 9 := by omega
      have HK := Lib.hid hk2
      have CP := Lib.hid (fun w' (h : Below wr.heap.size wr w') => ppay_void HRo.out (VV.out.below h) HA.out HB.out HC.out HN.out)
      clear hbr
      go_wp2_with fail
      refine region_still (by kernel_rfl) [(.slice (some ⟨S, 0, none⟩) 2 2), (.int .i64 k), (.pointer (some ⟨S, k, none⟩)), (.pointer p), (.pointer (some ⟨w.heap.size, 0, none⟩)), (.int .u8 fr), (.pointer (some ⟨w.heap.size, 1, none⟩)), (.int .u8 tt), (.pointer (some ⟨w.heap.size, 2, none⟩)), (.int .u8 cu), (.pointer (some ⟨w.heap.size, 3, none⟩)), (.int .i64 n), (.tuple #[.int .i64 0, .int .i64 2]), (.tuple #[.int .i64 0, .int .i64 2]), (.int .i64 0), (.int .i64 2), (.int .i64 0), (.int .i64 2)]
        (fun w' => Below wr.heap.size wr w') (by kernel_rfl) (Below.refl _ _).drew ?_
      intro af haf
      simp only [List.toList_toArray, List.append_eq, List.cons_append, List.nil_append, puts, Act.put, List.getD_cons_zero, List.getD_cons_succ, List.setIfInBounds_toArray, List.set_cons_succ, List.set_cons_zero] at haf
      subst haf
      refine ⟨?_, ?_⟩
      · simp only [List.toList_toArray, List.append_eq, List.cons_append, List.nil_append, EachTo]
        refine ⟨?_, ?_, ?_, ?_, ?_, ?_, ?_, ?_, ?_, ?_, ?_, ?_, ?_, ?_, ?_, ?_, ?_, ?_, trivial⟩
        · intro w' hS
          refine OpTo.plain ?_ ?_
          exact rfl
          have HS := Lib.hid hS
          clear hS
          go_wp2_with fail
          all_goals first | exact HS.out | exact ⟨rfl, HS.out⟩ | rfl | exact ⟨by omega, HS.out⟩
        · intro w' hS
          refine OpTo.plain ?_ ?_
          exact rfl
          have HS := Lib.hid hS
          clear hS
          go_wp2_with fail
          all_goals first | exact HS.out | exact ⟨rfl, HS.out⟩ | rfl | exact ⟨by omega, HS.out⟩
        · intro w' hS
          refine OpTo.plain ?_ ?_
          exact rfl
          obtain ⟨hsl, hsc⟩ := HD.out w' hS
          have HS := Lib.hid hS
          clear hS
          go_wp2_with fail
          all_goals first | exact HS.out | exact ⟨rfl, HS.out⟩ | rfl | exact ⟨by omega, HS.out⟩
        · intro w' hS
          refine OpTo.plain ?_ ?_
          exact rfl
          obtain ⟨hsl, hsc⟩ := HD.out w' hS
          have HS := Lib.hid hS
          clear hS
          go_wp2_with fail
          all_goals first | exact HS.out | exact ⟨rfl, HS.out⟩ | rfl | exact ⟨by omega, HS.out⟩
        · intro w' hS
          refine OpTo.plain ?_ ?_
          exact rfl
          have kx := KXr.out.below hS KXr.out.lt
          have hl := kx.lt
          have e0 := kx.cell 0; have e1 := kx.cell 1; have e2 := kx.cell 2; have e3 := kx.cell 3
          simp at e0 e1 e2 e3
          clear kx
          have HS := Lib.hid hS
          clear hS
          go_wp2_with fail
          all_goals first | exact HS.out | exact ⟨rfl, HS.out⟩ | rfl | exact ⟨by omega, HS.out⟩
        · intro w' hS
          refine OpTo.plain ?_ ?_
          exact rfl
          have kx := KXr.out.below hS KXr.out.lt
          have hl := kx.lt
          have e0 := kx.cell 0; have e1 := kx.cell 1; have e2 := kx.cell 2; have e3 := kx.cell 3
          simp at e0 e1 e2 e3
          clear kx
          have HS := Lib.hid hS
          clear hS
          go_wp2_with fail
          all_goals first | exact HS.out | exact ⟨rfl, HS.out⟩ | rfl | exact ⟨by omega, HS.out⟩
        · intro w' hS
          refine OpTo.plain ?_ ?_
          exact rfl
          have kx := KXr.out.below hS KXr.out.lt
          have hl := kx.lt
          have e0 := kx.cell 0; have e1 := kx.cell 1; have e2 := kx.cell 2; have e3 := kx.cell 3
          simp at e0 e1 e2 e3
          clear kx
          have HS := Lib.hid hS
          clear hS
          go_wp2_with fail
          all_goals first | exact HS.out | exact ⟨rfl, HS.out⟩ | rfl | exact ⟨by omega, HS.out⟩
        · intro w' hS
          refine OpTo.plain ?_ ?_
          exact rfl
          have kx := KXr.out.below hS KXr.out.lt
          have hl := kx.lt
          have e0 := kx.cell 0; have e1 := kx.cell 1; have e2 := kx.cell 2; have e3 := kx.cell 3
          simp at e0 e1 e2 e3
          clear kx
          have HS := Lib.hid hS
          clear hS
          go_wp2_with fail
          all_goals first | exact HS.out | exact ⟨rfl, HS.out⟩ | rfl | exact ⟨by omega, HS.out⟩
        · intro w' hS
          refine OpTo.plain ?_ ?_
          exact rfl
          have kx := KXr.out.below hS KXr.out.lt
          have hl := kx.lt
          have e0 := kx.cell 0; have e1 := kx.cell 1; have e2 := kx.cell 2; have e3 := kx.cell 3
          simp at e0 e1 e2 e3
          clear kx
          have HS := Lib.hid hS
          clear hS
          go_wp2_with fail
          all_goals first | exact HS.out | exact ⟨rfl, HS.out⟩ | rfl | exact ⟨by omega, HS.out⟩
        · intro w' hS
          refine OpTo.plain ?_ ?_
          exact rfl
          have kx := KXr.out.below hS KXr.out.lt
          have hl := kx.lt
          have e0 := kx.cell 0; have e1 := kx.cell 1; have e2 := kx.cell 2; have e3 := kx.cell 3
          simp at e0 e1 e2 e3
          clear kx
          have HS := Lib.hid hS
          clear hS
          go_wp2_with fail
          all_goals first | exact HS.out | exact ⟨rfl, HS.out⟩ | rfl | exact ⟨by omega, HS.out⟩
        · intro w' hS
          refine OpTo.plain ?_ ?_
          exact rfl
          have kx := KXr.out.below hS KXr.out.lt
          have hl := kx.lt
          have e0 := kx.cell 0; have e1 := kx.cell 1; have e2 := kx.cell 2; have e3 := kx.cell 3
          simp at e0 e1 e2 e3
          clear kx
          have HS := Lib.hid hS
          clear hS
          go_wp2_with fail
          all_goals first | exact HS.out | exact ⟨rfl, HS.out⟩ | rfl | exact ⟨by omega, HS.out⟩
        · intro w' hS
          refine OpTo.plain ?_ ?_
          exact rfl
          have kx := KXr.out.below hS KXr.out.lt
          have hl := kx.lt
          have e0 := kx.cell 0; have e1 := kx.cell 1; have e2 := kx.cell 2; have e3 := kx.cell 3
          simp at e0 e1 e2 e3
          clear kx
          have HS := Lib.hid hS
          clear hS
          go_wp2_with fail
          all_goals first | exact HS.out | exact ⟨rfl, HS.out⟩ | rfl | exact ⟨by omega, HS.out⟩
        · intro w' hS
          refine OpTo.plain ?_ ?_
          exact rfl
          have HS := Lib.hid hS
          clear hS
          go_wp2_with fail
          refine (CP.out w' HS.out).mono ?_
          rintro e w'' ⟨rfl, hb2⟩
          exact ⟨rfl, andB HS.out hb2⟩
        · intro w' hS
          refine OpTo.plain ?_ ?_
          exact rfl
          have HS := Lib.hid hS
          clear hS
          go_wp2_with fail
          all_goals first | exact HS.out | exact ⟨rfl, HS.out⟩ | rfl | exact ⟨by omega, HS.out⟩
        · intro w' hS
          refine OpTo.plain ?_ ?_
          exact rfl
          have HS := Lib.hid hS
          clear hS
          go_wp2_with fail
          all_goals first | exact HS.out | exact ⟨rfl, HS.out⟩ | rfl | exact ⟨by omega, HS.out⟩
        · intro w' hS
          refine OpTo.plain ?_ ?_
          exact rfl
          have HS := Lib.hid hS
          clear hS
          go_wp2_with fail
          all_goals first | exact HS.out | exact ⟨rfl, HS.out⟩ | rfl | exact ⟨by omega, HS.out⟩
        · intro w' hS
          refine OpTo.plain ?_ ?_
          exact rfl
          have HS := Lib.hid hS
          clear hS
          go_wp2_with fail
          all_goals first | exact HS.out | exact ⟨rfl, HS.out⟩ | rfl | exact ⟨by omega, HS.out⟩
        · intro w' hS
          refine OpTo.plain ?_ ?_
          exact rfl
          have HS := Lib.hid hS
          clear hS
          go_wp2_with fail
          all_goals first | exact HS.out | exact ⟨rfl, HS.out⟩ | rfl | exact ⟨by omega, HS.out⟩
      intro W6 hS6
      have HD6 := Lib.hid (fun w' (h : Below W6.heap.size W6 w') => HD.out w' (andB hS6 h))
      have KX6 := Lib.hid (KXr.out.below hS6 KXr.out.lt)
      have BR6 := Lib.hid (BR.out.trans (hS6.mono BR.out.size))
      have CM := Lib.hid (fun w' (h : Below W6.heap.size W6 w') => pmost9_void HMo.out (VV.out.below (andB hS6 h)) HA.out HB.out HC.out)
      clear hS6 CP HD KXr BR VV
      go_wp2_with fail
      refine region_still (by kernel_rfl) [(.int .i64 0), (.bool false), (.bool false), (.int .i64 2), (.bool false), (.bool false), (.bool false), (.slice (some ⟨S, 0, none⟩) 2 2), (.int .i64 k), (.pointer (some ⟨S, k, none⟩)), (.pointer p), (.pointer (some ⟨w.heap.size, 0, none⟩)), (.int .u8 fr), (.pointer (some ⟨w.heap.size, 1, none⟩)), (.int .u8 tt), (.pointer (some ⟨w.heap.size, 2, none⟩)), (.int .u8 cu), (.int .i64 0), (.bool false), (.bool false)]
        (fun w' => Below W6.heap.size W6 w') (by kernel_rfl) (Below.refl _ _).drew ?_
      intro af haf
      simp only [List.toList_toArray, List.append_eq, List.cons_append, List.nil_append, puts, Act.put, List.getD_cons_zero, List.getD_cons_succ, List.setIfInBounds_toArray, List.set_cons_succ, List.set_cons_zero] at haf
      subst haf
      refine ⟨?_, ?_⟩
      · simp only [List.toList_toArray, List.append_eq, List.cons_append, List.nil_append, EachTo]
        refine ⟨?_, ?_, ?_, ?_, ?_, ?_, ?_, ?_, ?_, ?_, ?_, ?_, ?_, ?_, ?_, ?_, ?_, ?_, ?_, ?_, trivial⟩
        · intro w' hS
          refine OpTo.plain ?_ ?_
          exact rfl
          have HS := Lib.hid hS
          clear hS
          go_wp2_with fail
          all_goals first | exact HS.out | exact ⟨rfl, HS.out⟩ | rfl | exact ⟨by omega, HS.out⟩
        · intro w' hS
          refine OpTo.plain ?_ ?_
          exact rfl
          have HS := Lib.hid hS
          clear hS
          go_wp2_with fail
          all_goals first | exact HS.out | exact ⟨rfl, HS.out⟩ | rfl | exact ⟨by omega, HS.out⟩
        · intro w' hS
          refine OpTo.plain ?_ ?_
          exact rfl
          have HS := Lib.hid hS
          clear hS
          go_wp2_with fail
          all_goals first | exact HS.out | exact ⟨rfl, HS.out⟩ | rfl | exact ⟨by omega, HS.out⟩
        · intro w' hS
          refine OpTo.wanted ?_ ?_
          kernel_rfl
          have HS := Lib.hid hS
          clear hS
          go_wp2_with fail
          all_goals first | exact HS.out | exact ⟨rfl, HS.out⟩ | rfl | exact ⟨by omega, HS.out⟩
        · intro w' hS
          refine OpTo.wanted ?_ ?_
          kernel_rfl
          have HS := Lib.hid hS
          clear hS
          go_wp2_with fail
          all_goals first | exact HS.out | exact ⟨rfl, HS.out⟩ | rfl | exact ⟨by omega, HS.out⟩
        · intro w' hS
          refine OpTo.plain ?_ ?_
          exact rfl
          have HS := Lib.hid hS
          clear hS
          go_wp2_with fail
          all_goals first | exact HS.out | exact ⟨rfl, HS.out⟩ | rfl | exact ⟨by omega, HS.out⟩
        · intro w' hS
          refine OpTo.plain ?_ ?_
          exact rfl
          have HS := Lib.hid hS
          clear hS
          go_wp2_with fail
          all_goals first | exact HS.out | exact ⟨rfl, HS.out⟩ | rfl | exact ⟨by omega, HS.out⟩
        · intro w' hS
          refine OpTo.wanted ?_ ?_
          kernel_rfl
          have HS := Lib.hid hS
          clear hS
          go_wp2_with fail
          all_goals first | exact HS.out | exact ⟨rfl, HS.out⟩ | rfl | exact ⟨by omega, HS.out⟩
        · intro w' hS
          refine OpTo.wanted ?_ ?_
          kernel_rfl
          have HS := Lib.hid hS
          clear hS
          go_wp2_with fail
          all_goals first | exact HS.out | exact ⟨rfl, HS.out⟩ | rfl | exact ⟨by omega, HS.out⟩
        · intro w' hS
          refine OpTo.wanted ?_ ?_
          kernel_rfl
          obtain ⟨hsl, hsc⟩ := HD6.out w' hS
          have HS := Lib.hid hS
          clear hS
          go_wp2_with fail
          all_goals first | exact HS.out | exact ⟨rfl, HS.out⟩ | rfl | exact ⟨by omega, HS.out⟩
        · intro w' hS
          refine OpTo.wanted ?_ ?_
          kernel_rfl
          obtain ⟨hsl, hsc⟩ := HD6.out w' hS
          have HS := Lib.hid hS
          clear hS
          go_wp2_with fail
          all_goals first | exact HS.out | exact ⟨rfl, HS.out⟩ | rfl | exact ⟨by omega, HS.out⟩
        · intro w' hS
          refine OpTo.wanted ?_ ?_
          kernel_rfl
          have kx := KX6.out.below hS KX6.out.lt
          have hl := kx.lt
          have e0 := kx.cell 0; have e1 := kx.cell 1; have e2 := kx.cell 2; have e3 := kx.cell 3
          simp at e0 e1 e2 e3
          clear kx
          have HS := Lib.hid hS
          clear hS
          go_wp2_with fail
          all_goals first | exact HS.out | exact ⟨rfl, HS.out⟩ | rfl | exact ⟨by omega, HS.out⟩
        · intro w' hS
          refine OpTo.wanted ?_ ?_
          kernel_rfl
          have kx := KX6.out.below hS KX6.out.lt
          have hl := kx.lt
          have e0 := kx.cell 0; have e1 := kx.cell 1; have e2 := kx.cell 2; have e3 := kx.cell 3
          simp at e0 e1 e2 e3
          clear kx
          have HS := Lib.hid hS
          clear hS
          go_wp2_with fail
          all_goals first | exact HS.out | exact ⟨rfl, HS.out⟩ | rfl | exact ⟨by omega, HS.out⟩
        · intro w' hS
          refine OpTo.wanted ?_ ?_
          kernel_rfl
          have kx := KX6.out.below hS KX6.out.lt
          have hl := kx.lt
          have e0 := kx.cell 0; have e1 := kx.cell 1; have e2 := kx.cell 2; have e3 := kx.cell 3
          simp at e0 e1 e2 e3
          clear kx
          have HS := Lib.hid hS
          clear hS
          go_wp2_with fail
          all_goals first | exact HS.out | exact ⟨rfl, HS.out⟩ | rfl | exact ⟨by omega, HS.out⟩
        · intro w' hS
          refine OpTo.wanted ?_ ?_
          kernel_rfl
          have kx := KX6.out.below hS KX6.out.lt
          have hl := kx.lt
          have e0 := kx.cell 0; have e1 := kx.cell 1; have e2 := kx.cell 2; have e3 := kx.cell 3
          simp at e0 e1 e2 e3
          clear kx
          have HS := Lib.hid hS
          clear hS
          go_wp2_with fail
          all_goals first | exact HS.out | exact ⟨rfl, HS.out⟩ | rfl | exact ⟨by omega, HS.out⟩
        · intro w' hS
          refine OpTo.wanted ?_ ?_
          kernel_rfl
          have kx := KX6.out.below hS KX6.out.lt
          have hl := kx.lt
          have e0 := kx.cell 0; have e1 := kx.cell 1; have e2 := kx.cell 2; have e3 := kx.cell 3
          simp at e0 e1 e2 e3
          clear kx
          have HS := Lib.hid hS
          clear hS
          go_wp2_with fail
          all_goals first | exact HS.out | exact ⟨rfl, HS.out⟩ | rfl | exact ⟨by omega, HS.out⟩
        · intro w' hS
          refine OpTo.wanted ?_ ?_
          kernel_rfl
          have kx := KX6.out.below hS KX6.out.lt
          have hl := kx.lt
          have e0 := kx.cell 0; have e1 := kx.cell 1; have e2 := kx.cell 2; have e3 := kx.cell 3
          simp at e0 e1 e2 e3
          clear kx
          have HS := Lib.hid hS
          clear hS
          go_wp2_with fail
          all_goals first | exact HS.out | exact ⟨rfl, HS.out⟩ | rfl | exact ⟨by omega, HS.out⟩
        · intro w' hS
          refine OpTo.wanted ?_ ?_
          kernel_rfl
          have HS := Lib.hid hS
          clear hS
          go_wp2_with fail
          refine (CM.out w' HS.out).mono ?_
          rintro e w'' ⟨rfl, hb2⟩
          exact ⟨rfl, andB HS.out hb2⟩
        · intro w' hS
          refine OpTo.wanted ?_ ?_
          kernel_rfl
          have HS := Lib.hid hS
          clear hS
          go_wp2_with fail
          all_goals first | exact HS.out | exact ⟨rfl, HS.out⟩ | rfl | exact ⟨by omega, HS.out⟩
        · intro w' hS
          refine OpTo.plain ?_ ?_
          exact rfl
          have HS := Lib.hid hS
          clear hS
          go_wp2_with fail
          all_goals first | exact HS.out | exact ⟨rfl, HS.out⟩ | rfl | exact ⟨by omega, HS.out⟩
      intro W7 hS7
      have BR7 := Lib.hid (BR6.out.trans (hS7.mono BR6.out.size))
      clear hS7
      go_wp2_with fail
      exact ⟨⟨k + 1, by have := HK.out; omega, by go_num, BR7.out⟩, by simp [intOf]; have := HK.out; omega⟩
    · have hkn : k = 2 := by omega
      subst hkn
      have BR := Lib.hid (B2.out.trans (hbr.mono B2.out.size))
      clear hbr
      go_wp2_with fail
      refine (HLo.out _).mono ?_
      rintro e w9 ⟨rfl, b9⟩
      have B9 := Lib.hid (BR.out.trans (b9.mono BR.out.size))
      clear b9
      go_wp2_with fail
      go_ret
      exact ⟨rfl, B9.out⟩
theorem pvoid_frame (HR : RouteProg) (HM : MostProg) (HL : Lives09) (fr tt cu n : Int) (w : World) (ha : (Lit.int .u8 fr).wf = true) (hb : (Lit.int .u8 tt).wf = true) (hc : (Lit.int .u8 cu).wf = true) (hn : (Lit.int .i64 n).wf = true) :
    Calls Try.prog 5 #[.agg #[.int .u8 fr, .int .u8 tt, .int .u8 cu, .int .i64 n]] w fun e w' => e = .returned (.bool true) ∧ Below w.heap.size w w' :=
  pvoid_walk HR HM HL fr tt cu n w (In8.of_wf ha) (In8.of_wf hb) (In8.of_wf hc) (In64.of_wf hn)

end Go.Proofs.Ytajmladlmkkimaa
