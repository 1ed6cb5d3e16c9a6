/-
  The program's graphs: partyMay, edgeMay, Cap, Push, all, Same, Copy.
-/
import Derived.Test.YtlmebpplhpjdfaaGrd
import Derived.Test.YtlmebpplhpjdfaaLays
namespace Go.Proofs.Ytlmebpplhpjdfaa
open Go.RowKit
set_option linter.unusedSimpArgs false
set_option linter.unusedVariables false

def mayG (p : Int) : Bool := decide (1 ≤ p ∧ p ≤ 16)
theorem gmay_any (p : Int) (w : World) : Calls Try.prog 34 #[.int .u8 p] w fun e w' => e = .returned (.bool (mayG p)) ∧ w = w' := by
  have hs : (¬ 1 ≤ p ∧ mayG p = false) ∨ (1 ≤ p ∧ p ≤ 16 ∧ mayG p = true) ∨ (1 ≤ p ∧ ¬ p ≤ 16 ∧ mayG p = false) := by unfold mayG; simp; omega
  rcases hs with ⟨h1, h2⟩ | ⟨h1, h3, h2⟩ | ⟨h1, h3, h2⟩
  all_goals
    rw [h2]
    clear h2
    go_enter Try.func34, Try.ntmps34
    go_wp2
    go_ret
    exact ⟨rfl, rfl⟩
theorem mayG_true {p : Int} (h : inP p) : mayG p = true := by unfold mayG; unfold inP at h; simp; omega
theorem mayG_false {p : Int} (h : ¬ inP p) : mayG p = false := by unfold mayG; unfold inP at h; simp; omega

instance (x : Fw) : Decidable (okX x) := by unfold okX; infer_instance
set_option maxHeartbeats 2000000 in
theorem edgeMay_any (x : Fw) (w : World) : Calls Try.prog 20 #[.agg #[.int .u8 x.fr, .int .u8 x.tt, .int .i64 x.am]] w fun e w' => e = .returned (.bool (decide (okX x))) ∧ Below w.heap.size w w' := by
  have B := Lib.hid ((Below.refl w.heap.size w).alloc (Nat.le_refl _) (.cells #[.int .u8 x.fr, .int .u8 x.tt, .int .i64 x.am] 58))
  obtain ⟨a, b, n⟩ := x
  dsimp only at B ⊢
  have C1 := Lib.hid (gmay_any a)
  have C2 := Lib.hid (gmay_any b)
  obtain ⟨r, hr⟩ : ∃ r, decide (okX ⟨a, b, n⟩) = r := ⟨_, rfl⟩
  rw [hr]
  have hs : (mayG a = false ∧ r = false) ∨ (mayG a = true ∧ mayG b = false ∧ r = false) ∨ (mayG a = true ∧ mayG b = true ∧ (a == b) = true ∧ r = false) ∨
      (mayG a = true ∧ mayG b = true ∧ (a == b) = false ∧ ¬ 0 ≤ n ∧ r = false) ∨ (mayG a = true ∧ mayG b = true ∧ (a == b) = false ∧ 0 ≤ n ∧ decide (n ≤ 2199023255552) = false ∧ r = false) ∨ (mayG a = true ∧ mayG b = true ∧ (a == b) = false ∧ 0 ≤ n ∧ n ≤ 2199023255552 ∧ r = true) := by
    have hf : ¬ okX ⟨a, b, n⟩ → r = false := fun h => by rw [← hr]; exact decide_eq_false h
    by_cases h1 : inP a
    · by_cases h2 : inP b
      · by_cases h3 : a = b
        · exact .inr (.inr (.inl ⟨mayG_true h1, mayG_true h2, by simp [h3], hf (fun o => o.2.2.1 h3)⟩))
        · have h3' : (a == b) = false := by simp [h3]
          by_cases h4 : 0 ≤ n
          · by_cases h5 : n ≤ 2199023255552
            · exact .inr (.inr (.inr (.inr (.inr ⟨mayG_true h1, mayG_true h2, h3', h4, h5, by rw [← hr]; exact decide_eq_true ⟨h1, h2, h3, h4, h5⟩⟩))))
            · exact .inr (.inr (.inr (.inr (.inl ⟨mayG_true h1, mayG_true h2, h3', h4, by simp [h5], hf (fun o => h5 o.2.2.2.2)⟩))))
          · exact .inr (.inr (.inr (.inl ⟨mayG_true h1, mayG_true h2, h3', h4, hf (fun o => h4 o.2.2.2.1)⟩)))
      · exact .inr (.inl ⟨mayG_true h1, mayG_false h2, hf (fun o => h2 o.2.1)⟩)
    · exact .inl ⟨mayG_false h1, hf (fun o => h1 o.1)⟩
  clear hr
  have hneq : (a != b) = !(a == b) := rfl
  rcases hs with ⟨h1, h2⟩ | ⟨h1, h3, h2⟩ | ⟨h1, h3, h4, h2⟩ | ⟨h1, h3, h4, h5, h2⟩ | ⟨h1, h3, h4, h5, h6, h2⟩ | ⟨h1, h3, h4, h5, h6, h2⟩
  · rw [h1] at C1
    rw [h2]
    clear h1 h2
    go_enter Try.func20, Try.ntmps20
    go_wp2_with fail
    refine (C1.out _).mono ?_
    rintro e w1 ⟨rfl, rfl⟩
    go_wp2_with fail
    go_ret
    exact ⟨rfl, B.out⟩
  all_goals
    rw [h1] at C1
    rw [h3] at C2
    rw [h2]
    clear h1 h3 h2
    go_enter Try.func20, Try.ntmps20
    go_wp2_with fail
    refine (C1.out _).mono ?_
    rintro e w1 ⟨rfl, rfl⟩
    go_wp2_with fail
    refine (C2.out _).mono ?_
    rintro e w1 ⟨rfl, rfl⟩
    go_wp2_with fail
    go_ret
    exact ⟨rfl, B.out⟩

def outF (f : Int → Int → Int) : Prop := ∀ p q, ¬ (inP p ∧ inP q) → f p q = 0
theorem GInv.outF {f : Int → Int → Int} {B : Int} (h : GInv f B) : outF f := h.out
theorem outF_zero : outF zeroF := fun _ _ _ => rfl
set_option maxHeartbeats 2000000 in
theorem gcap_any {w : World} {g : Nat} {f : Int → Int → Int} {b : Bool} (h : Blk w g (graC f b) 63) (ho : outF f) (p q : Int) :
    Calls Try.prog 19 #[.pointer (some ⟨g, 0, none⟩), .int .u8 p, .int .u8 q] w fun e w' => e = .returned (.int .i64 (f p q)) ∧ w = w' := by
  have C1 := Lib.hid (gmay_any p w)
  have C2 := Lib.hid (gmay_any q w)
  have hlt := h.lt
  by_cases hp : inP p
  · by_cases hq : inP q
    · rw [mayG_true hp] at C1
      rw [mayG_true hq] at C2
      obtain ⟨p1, p2⟩ := hp
      obtain ⟨q1, q2⟩ := hq
      have d := h.cap (p := p) (q := q) (by omega) (by omega) (by omega) (by omega)
      have p3 : 0 ≤ p := by omega
      have p4 : p < 17 := by omega
      have q3 : 0 ≤ q := by omega
      have q4 : q < 17 := by omega
      clear h ho
      generalize f p q = n at *
      go_enter Try.func19, Try.ntmps19
      go_wp2_with fail
      refine C1.out.mono ?_
      rintro e w ⟨rfl, rfl⟩
      go_wp2_with fail
      refine C2.out.mono ?_
      rintro e w ⟨rfl, rfl⟩
      go_wp2_with fail
      go_ret
      exact ⟨rfl, rfl⟩
    · rw [mayG_true hp] at C1
      rw [mayG_false hq] at C2
      rw [ho p q (fun e => hq e.2)]
      clear h ho hp hq
      go_enter Try.func19, Try.ntmps19
      go_wp2_with fail
      refine C1.out.mono ?_
      rintro e w ⟨rfl, rfl⟩
      go_wp2_with fail
      refine C2.out.mono ?_
      rintro e w ⟨rfl, rfl⟩
      go_wp2_with fail
      go_ret
      exact ⟨rfl, rfl⟩
  · rw [mayG_false hp] at C1
    rw [ho p q (fun e => hp e.1)]
    clear h ho hp
    go_enter Try.func19, Try.ntmps19
    go_wp2_with fail
    refine C1.out.mono ?_
    rintro e w ⟨rfl, rfl⟩
    go_wp2_with fail
    go_ret
    exact ⟨rfl, rfl⟩
theorem gcap_nil (p q : Int) (w : World) : Calls Try.prog 19 #[.pointer none, .int .u8 p, .int .u8 q] w fun e w' => e = .returned (.int .i64 0) ∧ w = w' := by
  go_enter Try.func19, Try.ntmps19
  go_wp2
  go_ret
  exact ⟨rfl, rfl⟩

/-! Push, all, Same, Copy. -/


/-- A graph, or none, that has these capacities. -/
def IsG (w : World) (v : Value) (f : Int → Int → Int) : Prop := (v = .pointer none ∧ f = zeroF) ∨ ∃ g b, v = .pointer (some ⟨g, 0, none⟩) ∧ Blk w g (graC f b) 63
theorem IsG.below {w w' : World} {v : Value} {f : Int → Int → Int} (h : IsG w v f) (hb : Below w.heap.size w w') : IsG w' v f := by
  rcases h with h | ⟨g, b, h1, h2⟩
  · exact .inl h
  · exact .inr ⟨g, b, h1, h2.below hb h2.lt⟩
theorem IsG.of {w : World} {g : Nat} {f : Int → Int → Int} {b : Bool} (h : Blk w g (graC f b) 63) : IsG w (.pointer (some ⟨g, 0, none⟩)) f := .inr ⟨g, b, rfl, h⟩
theorem IsG.nil (w : World) : IsG w (.pointer none) zeroF := .inl ⟨rfl, rfl⟩
set_option maxHeartbeats 2000000 in
set_option maxRecDepth 100000 in
theorem gall_any {w : World} {v : Value} {f : Int → Int → Int} (h : IsG w v f) :
    Calls Try.prog 29 #[v] w fun e w' => e = .returned (.agg (capA f)) ∧ Below w.heap.size w w' := by
  have hz := zero_caps.1
  have B := Lib.hid ((Below.refl w.heap.size w).alloc (Nat.le_refl _) (.cells (capA zeroF) 61))
  have K := Lib.hid (Blk.new w (capA zeroF) 61)
  rcases h with ⟨rfl, rfl⟩ | ⟨g, b, rfl, h⟩
  · go_enter Try.func29, Try.ntmps29
    go_wp2_with first
      | ((with_reducible refine wpList_build_of ?_ 61 #[] ?_ #[] ?_ (capA zeroF) (build_caps0 _) ?_); exact rfl; exact rfl; exact rfl)
      | ((with_reducible refine wpList_store_row ?_ 61 (.tmp 2) (.tmp 5) ?_ w.heap.size (capA zeroF) ?_ ?_ 61 _ K.out.out (info_caps _) (by simp only [capA_size]) (capA_one _) ?_); exact rfl; exact rfl; exact rfl; exact rfl)
    have K2 := K.out.row (cs := capA zeroF)
    have B2 := below_setRow B.out (Nat.le_refl _) (capA zeroF)
    refine bodyPost_ret (v := .agg (capA zeroF)) (results_cell_row rfl _ _ w.heap.size 61 (capA zeroF) (0, 0) _ rfl K2 Try.underlying61 rfl (info_caps _)) rfl ⟨rfl, B2⟩
  · have R := Lib.hid (cap_range (h.alloc (.cells (capA zeroF) 61)))
    have hlt := h.lt
    clear h
    go_enter Try.func29, Try.ntmps29
    go_wp2_with first
      | ((with_reducible refine wpList_load_mid ?_ 61 (.tmp 8) ?_ g 0 ?_ (capA f).toList _ R.out Try.underlying61 ?_ (info_caps_l _) ?_); exact rfl; exact rfl; exact rfl; exact rfl; rw [Array.toArray_toList])
      | ((with_reducible refine wpList_store_row ?_ 61 (.tmp 2) (.tmp 9) ?_ w.heap.size (capA f) ?_ ?_ 61 _ K.out.out (info_caps _) (by simp only [capA_size]) (capA_one _) ?_); exact rfl; exact rfl; exact rfl; exact rfl)
    have K2 := K.out.row (cs := capA f)
    have B2 := below_setRow B.out (Nat.le_refl _) (capA f)
    refine bodyPost_ret (v := .agg (capA f)) (results_cell_row rfl _ _ w.heap.size 61 (capA f) (0, 0) _ rfl K2 Try.underlying61 rfl (info_caps _)) rfl ⟨rfl, B2⟩



end Go.Proofs.Ytlmebpplhpjdfaa
