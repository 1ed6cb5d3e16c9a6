/-
  The program's ledgers: Push.
-/
import Derived.Test.YtdpkcamhafkkbaaPLed4
namespace Go.Proofs.Ytdpkcamhafkkbaa
open Go.RowKit
set_option linter.unusedSimpArgs false
set_option linter.unusedVariables false

set_option maxHeartbeats 4000000 in
set_option maxRecDepth 100000 in
theorem ppush_any {w : World} {G M : Nat} {ps : List Int} {ls : List Ln} (h : LedM w G M ps ls) (hI : LInv ps ls) {a b c n : Int} (ha : In8 a) (hb : In8 b) (hc : In8 c) (hn : In64 n) :
    Calls Try.prog 26 #[.pointer (some ⟨G, 0, none⟩), .int .u8 a, .int .u8 b, .int .u8 c, .int .i64 n] w fun e w' => e = .returned (.int .i64 (pushE ps ls a b c n)) ∧ LedM w' G M ps (pushL ps ls a b c n) ∧ Keep (· = M) w w' := by
  have H := Lib.hid h
  have C1 := Lib.hid (made_any h.blk)
  have C2 := Lib.hid (room_any h hI ha hb hc)
  have hr := roomL_bd (ps := ps) hI.inv.good a b c
  obtain ⟨n0, n1⟩ := hn
  by_cases h1 : n < 1
  · have EE := Lib.hid (show pushE ps ls a b c n = 1 ∧ pushL ps ls a b c n = ls from ⟨by unfold pushE; rw [if_pos h1], by unfold pushL pushE; rw [if_pos h1]; rfl⟩)
    clear h hI ha hb hc C2 hr
    go_enter Try.func26, Try.ntmps26
    go_wp2_with fail
    refine C1.out.mono ?_
    rintro e w ⟨rfl, rfl⟩
    go_wp2_with fail
    go_ret
    exact ⟨by rw [EE.out.1]; rfl, by rw [EE.out.2]; exact H.out, Keep.refl _ _⟩
  by_cases h2 : roomL ps ls a b c < n
  · have EE := Lib.hid (show pushE ps ls a b c n = 11 ∧ pushL ps ls a b c n = ls from ⟨by unfold pushE; rw [if_neg h1, if_pos h2], by unfold pushL pushE; rw [if_neg h1, if_pos h2]; rfl⟩)
    clear h hI ha hb hc
    generalize roomL ps ls a b c = r at *
    go_enter Try.func26, Try.ntmps26
    go_wp2_with fail
    refine C1.out.mono ?_
    rintro e w ⟨rfl, rfl⟩
    go_wp2_with fail
    refine C2.out.mono ?_
    rintro e w1 ⟨rfl, b1⟩
    have B1 := Lib.hid b1
    clear b1
    go_wp2_with fail
    go_ret
    exact ⟨by rw [EE.out.1]; rfl, by rw [EE.out.2]; exact H.out.below B1.out, Keep.of_below B1.out⟩
  · have e0 : pushE ps ls a b c n = 0 := by unfold pushE; rw [if_neg h1, if_neg h2]
    obtain ⟨p1, p2, p3⟩ := push_owe hI (a := a) (b := b) (c := c) (n := n) (by omega) (by omega)
    have EE := Lib.hid (show pushE ps ls a b c n = 0 ∧ pushL ps ls a b c n = oweL (oweL ls a b c (-(min n (lnAt ls a b c).db))) b a c (n - min n (lnAt ls a b c).db) from ⟨e0, by unfold pushL; rw [if_pos e0, p3]⟩)
    have hx := lnAt_bd hI.inv.good a b c
    have HX := Lib.hid (fun w' k => (h.map.looks hI.inv ha hb hc w' k).2)
    obtain ⟨bk, hbk⟩ : ∃ bk, min n (lnAt ls a b c).db = bk := ⟨_, rfl⟩
    have k0 : 0 ≤ bk := by omega
    have k1 : bk ≤ n := by omega
    rw [hbk] at EE p1 p2
    have P1 := Lib.hid p1
    have P2 := Lib.hid p2
    have hi2 := Lib.hid (oweL_inv hI.inv p1)
    have HI := Lib.hid hI
    have HAB := Lib.hid (And.intro ha (And.intro hb hc))
    generalize hls : lnAt ls a b c = x at *
    clear h hI ha hb hc p1 p2 p3 e0 hls
    generalize roomL ps ls a b c = r at *
    go_enter Try.func26, Try.ntmps26
    go_wp2_with fail
    refine C1.out.mono ?_
    rintro e w ⟨rfl, rfl⟩
    go_wp2_with fail
    refine C2.out.mono ?_
    rintro e w1 ⟨rfl, b1⟩
    have B1 := Lib.hid b1
    clear b1 C1 C2
    go_wp2_with fail
    have B0 := Lib.hid ((B1.out.alloc B1.out.size (.cells #[.int .u8 a, .int .u8 b, .int .u8 c] 86)).alloc (B1.out.alloc B1.out.size (.cells #[.int .u8 a, .int .u8 b, .int .u8 c] 86)).size (.cells #[.int .u8 b, .int .u8 a, .int .u8 c] 86))
    have K1 := Lib.hid ((Blk.new w1 #[.int .u8 a, .int .u8 b, .int .u8 c] 86).alloc (.cells #[.int .u8 b, .int .u8 a, .int .u8 c] 86))
    have K2 := Lib.hid (Blk.newAt (w1.alloc (.cells #[.int .u8 a, .int .u8 b, .int .u8 c] 86)) #[.int .u8 b, .int .u8 a, .int .u8 c] 86 (g := w1.heap.size + 1) (by simp))
    have S1 := Lib.hid B1.out.size
    generalize ((w1.alloc (.cells #[.int .u8 a, .int .u8 b, .int .u8 c] 86)).alloc (.cells #[.int .u8 b, .int .u8 a, .int .u8 c] 86)) = W at B0 K1 K2 ⊢
    generalize w1.heap.size = z at *
    refine region_still (by kernel_rfl) [(.int .i64 n), (.pointer (some ⟨G, 0, none⟩)), (.pointer (some ⟨G, 0, none⟩)), (.pointer (some ⟨G, 17, none⟩)), (.map (some M)), (.agg #[.int .u8 a, .int .u8 b, .int .u8 c]), (.agg #[.int .i64 x.li, .int .i64 x.db]), (.int .i64 x.db), (.int .i64 bk), (.int .i64 bk)]
      (fun w' => Below W.heap.size W w') (by kernel_rfl) (Below.refl _ _).drew ?_
    intro af haf
    simp only [List.toList_toArray, List.append_eq, List.cons_append, List.nil_append, puts, Act.put, List.getD_cons_zero, List.getD_cons_succ, List.setIfInBounds_toArray, List.set_cons_succ, List.set_cons_zero] at haf
    subst haf
    refine ⟨?_, ?_⟩
    · simp only [List.toList_toArray, List.append_eq, List.cons_append, List.nil_append, EachTo]
      refine ⟨?_, ?_, ?_, ?_, ?_, ?_, ?_, ?_, ?_, ?_, trivial⟩
      · intro w' hS
        refine OpTo.plain ?_ ?_
        exact rfl
        have HS := Lib.hid hS
        clear hS
        go_wp2_with fail
        all_goals first | exact HS.out | exact ⟨rfl, HS.out⟩ | rfl | exact ⟨by omega, HS.out⟩
      · intro w' hS
        refine OpTo.plain ?_ ?_
        exact rfl
        have HS := Lib.hid hS
        clear hS
        go_wp2_with fail
        all_goals first | exact HS.out | exact ⟨rfl, HS.out⟩ | rfl | exact ⟨by omega, HS.out⟩
      · intro w' hS
        refine OpTo.plain ?_ ?_
        exact rfl
        have hl := Nat.lt_of_lt_of_le H.out.blk.lt (Nat.le_trans B0.out.size hS.size)
        have d := (H.out.blk.below (B0.out.trans (hS.mono B0.out.size)) H.out.blk.lt).ledMap
        have HS := Lib.hid hS
        clear hS
        go_wp2_with fail
        all_goals first | exact HS.out | exact ⟨rfl, HS.out⟩ | rfl | exact ⟨by omega, HS.out⟩
      · intro w' hS
        refine OpTo.plain ?_ ?_
        exact rfl
        have hl := Nat.lt_of_lt_of_le H.out.blk.lt (Nat.le_trans B0.out.size hS.size)
        have d := (H.out.blk.below (B0.out.trans (hS.mono B0.out.size)) H.out.blk.lt).ledMap
        have HS := Lib.hid hS
        clear hS
        go_wp2_with fail
        all_goals first | exact HS.out | exact ⟨rfl, HS.out⟩ | rfl | exact ⟨by omega, HS.out⟩
      · intro w' hS
        refine OpTo.plain ?_ ?_
        exact rfl
        have hl := Nat.lt_of_lt_of_le H.out.blk.lt (Nat.le_trans B0.out.size hS.size)
        have d := (H.out.blk.below (B0.out.trans (hS.mono B0.out.size)) H.out.blk.lt).ledMap
        have HS := Lib.hid hS
        clear hS
        go_wp2_with fail
        all_goals first | exact HS.out | exact ⟨rfl, HS.out⟩ | rfl | exact ⟨by omega, HS.out⟩
      · intro w' hS
        refine OpTo.plain ?_ ?_
        exact rfl
        have d0_0 := (K1.out.below hS K1.out.lt).cell 0
        have d0_1 := (K1.out.below hS K1.out.lt).cell 1
        have d0_2 := (K1.out.below hS K1.out.lt).cell 2
        simp at d0_0 d0_1 d0_2
        have HS := Lib.hid hS
        clear hS
        go_wp2_with fail
        all_goals first | exact HS.out | exact ⟨rfl, HS.out⟩ | rfl | exact ⟨by omega, HS.out⟩
      · intro w' hS
        refine OpTo.plain ?_ ?_
        exact rfl
        have q := HX.out w' (B0.out.trans (hS.mono B0.out.size))
        have HS := Lib.hid hS
        clear hS
        go_wp2_with fail
        all_goals first | exact HS.out | exact ⟨rfl, HS.out⟩ | rfl | exact ⟨by omega, HS.out⟩
      · intro w' hS
        refine OpTo.plain ?_ ?_
        exact rfl
        have HS := Lib.hid hS
        clear hS
        go_wp2_with fail
        all_goals first | exact HS.out | exact ⟨rfl, HS.out⟩ | rfl | exact ⟨by omega, HS.out⟩
      · intro w' hS
        refine OpTo.plain ?_ ?_
        exact rfl
        have HS := Lib.hid hS
        clear hS
        go_wp2_with fail
        all_goals first | exact HS.out | exact ⟨rfl, HS.out⟩ | rfl | exact ⟨by omega, HS.out⟩
      · intro w' hS
        refine OpTo.plain ?_ ?_
        exact rfl
        have HS := Lib.hid hS
        clear hS
        go_wp2_with fail
        all_goals first | exact HS.out | exact ⟨rfl, HS.out⟩ | rfl | exact ⟨by omega, HS.out⟩
    intro w2 hS
    have B2 := Lib.hid (B0.out.trans (hS.mono B0.out.size))
    have K12 := Lib.hid (K1.out.below hS K1.out.lt)
    have K22 := Lib.hid (K2.out.below hS K2.out.lt)
    have H2 := Lib.hid (H.out.below B2.out)
    have c0 := K12.out.cell 0; have c1 := K12.out.cell 1; have c2 := K12.out.cell 2
    have lk := K12.out.lt
    simp at c0 c1 c2
    have CO := Lib.hid (owe_any H2.out HI.out.inv (n := -bk) HAB.out.1 HAB.out.2.1 HAB.out.2.2 P1.out)
    clear hS HX B0 K1 K2
    go_wp2_with fail
    refine CO.out.mono ?_
    rintro e w3 ⟨rfl, hL3, hK3⟩
    have hMlt := H.out.map.lt
    have hzM : ¬ z + 1 = M := by have := S1.out; omega
    have K23 := Lib.hid (K22.out.keep hK3 hzM)
    have H3 := Lib.hid hL3
    have KK := Lib.hid ((Keep.of_below (S := (· = M)) B2.out).trans hK3)
    have CO2 := Lib.hid (owe_any H3.out hi2.out (n := n - bk) HAB.out.2.1 HAB.out.1 HAB.out.2.2 P2.out)
    clear hL3 hK3 CO c0 c1 c2 lk K12 K22
    have c0 := K23.out.cell 0; have c1 := K23.out.cell 1; have c2 := K23.out.cell 2
    have lk := K23.out.lt
    simp at c0 c1 c2
    go_wp2_with fail
    refine CO2.out.mono ?_
    rintro e w4 ⟨rfl, hL4, hK4⟩
    have H4 := Lib.hid hL4
    have K4 := Lib.hid (KK.out.trans hK4)
    clear hL4 hK4 c0 c1 c2 lk
    go_wp2_with fail
    go_ret
    exact ⟨by rw [EE.out.1]; rfl, by rw [EE.out.2]; exact H4.out, K4.out⟩

end Go.Proofs.Ytdpkcamhafkkbaa
