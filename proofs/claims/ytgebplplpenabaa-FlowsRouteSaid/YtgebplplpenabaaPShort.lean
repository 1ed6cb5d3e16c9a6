/-
  Package paths: Short tells the shortest way.
-/
import Derived.Test.YtgebplplpenabaaPSpread
namespace Go.Proofs.Ytgebplplpenabaa
open Go.RowKit
set_option linter.unusedSimpArgs false
set_option linter.unusedVariables false


theorem RowPost.empty {w w' : World} {e : TypeId} (h : Below w.heap.size w w') : RowPost e [] w (.returned (.slice none 0 0)) w' := ⟨_, rfl, ⟨rfl, .inl ⟨rfl, rfl⟩⟩, h⟩
set_option maxHeartbeats 4000000 in
set_option maxRecDepth 100000 in
theorem pshort_any {w : World} {v : Value} {f : Int → Int → Int} {a b : Int} (h : IsG w v f) (hI : GInv f 4398046511104) (ha : In8 a) (hb : In8 b) :
    Calls Try.prog 36 #[v, .int .u8 a, .int .u8 b] w (RowPost 23 (shortW f a b) w) := by
  have C1 := Lib.hid (pmayP_any a w)
  have C2 := Lib.hid (pmayP_any b w)
  by_cases c1 : inP a
  · rw [mayG_true c1] at C1
    by_cases c2 : inP b
    · rw [mayG_true c2] at C2
      have CS := Lib.hid (spread_any h hI c1)
      have HI := Lib.hid hI
      have HA := Lib.hid c1
      have HB := Lib.hid c2
      have hz := zero_links.1
      obtain ⟨b1, b2⟩ := c2
      clear h hI ha hb c1
      go_enter Try.func36, Try.ntmps36
      go_wp2_with fail
      refine C1.out.mono ?_
      rintro e w1 ⟨rfl, rfl⟩
      clear C1
      go_wp2_with fail
      refine C2.out.mono ?_
      rintro e w1 ⟨rfl, rfl⟩
      clear C2
      go_wp2_with fail
      refine CS.out.mono ?_
      rintro e w1 ⟨bb, pos, ah, rfl, hS, ha0, hah, hB⟩
      have SP := Lib.hid hS
      have A0 := Lib.hid ha0
      have AH := Lib.hid hah
      have B1 := Lib.hid hB
      have Z := Lib.hid (Blk.new w1 (ahA fun _ => 0) 86)
      have E1 := World.setRow_alloc_new w1 (ahA fun _ => 0) (ahA ah) 86
      have B2 := Lib.hid (B1.out.alloc B1.out.size (.cells (ahA ah) 86))
      have K2 := Lib.hid (Blk.new w1 (ahA ah) 86)
      have d2 := K2.out.ahAt (p := b) (by omega) (by omega)
      clear hS ha0 hah hB CS
      by_cases hr : bb b = true ∧ b ≠ a
      · obtain ⟨hr1, hr2⟩ := hr
        obtain ⟨D, D1, D15, D2, D3, D4, D5⟩ := SP.out.short HI.out HA.out hr1 hr2
        have hin := SP.out.inp _ (SP.out.par b hr1 hr2).1
        have q0 : (ah b == 0) = false := by
          unfold inP at hin
          simp
          omega
        have CT := Lib.hid (turned_any (w := w1.alloc (.cells (ahA ah) 86)) (g := w1.heap.size) (off := 0) (ah := ah) (p := b) (n := D + 1) (by simp) (fun c hc => by rw [Nat.zero_add, K2.out.cell, ahA_get ah hc]) (fun i hi => D3 i (by omega)) (fun i j hij hj => D4 i j hij (by omega)) (.inl (by rw [itr_succ, D2]; exact A0.out)) (by omega) (by omega))
        rw [← D5] at CT
        clear D3 D4 D5 D2 hin hr1 hr2
        generalize shortW f a b = L at *
        generalize ah b = y at *
        go_wp2_with ((with_reducible refine wpList_store_row ?_ 86 (.tmp 7) (.tmp 18) ?_ w1.heap.size (ahA ah) ?_ ?_ 86 _ Z.out.out (info_links _) (by simp only [ahA_size]) (ahA_one _) ?_); exact rfl; exact rfl; exact rfl; exact rfl; rw [E1])
        refine CT.out.mono ?_
        rintro e w2 ⟨v2, rfl, hrow, hb2⟩
        have R2 := Lib.hid (hrow.base (b' := w.heap.size) (by have := B2.out.size; simpa using this))
        have B3 := Lib.hid (B2.out.trans (hb2.mono B2.out.size))
        clear hrow hb2 CT
        go_wp2_with fail
        refine bodyPost_ret (v := v2) (by simp [results, Try.results36, go_sem]) rfl ?_
        exact ⟨v2, rfl, R2.out, B3.out⟩
      · have hy : ah b = 0 := by
          by_cases hba : b = a
          · rw [hba]; exact A0.out
          · refine AH.out b ?_
            cases hc : bb b with
            | false => rfl
            | true => exact absurd ⟨hc, hba⟩ hr
        have hL : shortW f a b = [] := by
          by_cases hba : b = a
          · unfold shortW
            rw [if_neg (fun h => h.2.2.1 hba.symm)]
          · exact SP.out.no HI.out (fun hc => hr ⟨hc, hba⟩)
        have HL := Lib.hid hL
        rw [hy] at d2
        clear hr hL hy
        go_wp2_with ((with_reducible refine wpList_store_row ?_ 86 (.tmp 7) (.tmp 18) ?_ w1.heap.size (ahA ah) ?_ ?_ 86 _ Z.out.out (info_links _) (by simp only [ahA_size]) (ahA_one _) ?_); exact rfl; exact rfl; exact rfl; exact rfl; rw [E1])
        refine bodyPost_ret (v := .slice none 0 0) (by simp [results, Try.results36, go_sem]) rfl ?_
        rw [HL.out]
        exact RowPost.empty B2.out
    · rw [mayG_false c2] at C2
      rw [show shortW f a b = [] by unfold shortW; rw [if_neg (fun h => c2 h.2.1)]]
      clear h hI ha hb c1 c2
      go_enter Try.func36, Try.ntmps36
      go_wp2_with fail
      refine C1.out.mono ?_
      rintro e w1 ⟨rfl, rfl⟩
      go_wp2_with fail
      refine C2.out.mono ?_
      rintro e w1 ⟨rfl, rfl⟩
      go_wp2_with fail
      refine bodyPost_ret (v := .slice none 0 0) (by simp [results, Try.results36, go_sem]) rfl ?_
      exact RowPost.empty (Below.refl _ _)
  · rw [mayG_false c1] at C1
    rw [show shortW f a b = [] by unfold shortW; rw [if_neg (fun h => c1 h.1)]]
    clear h hI ha hb c1 C2
    go_enter Try.func36, Try.ntmps36
    go_wp2_with fail
    refine C1.out.mono ?_
    rintro e w1 ⟨rfl, rfl⟩
    go_wp2_with fail
    refine bodyPost_ret (v := .slice none 0 0) (by simp [results, Try.results36, go_sem]) rfl ?_
    exact RowPost.empty (Below.refl _ _)

end Go.Proofs.Ytgebplplpenabaa
