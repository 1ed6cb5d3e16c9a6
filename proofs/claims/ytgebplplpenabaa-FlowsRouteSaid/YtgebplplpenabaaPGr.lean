/-
  The program's graphs: partyMay, edgeMay, Cap, Push, all, Same, Copy.
-/
import Derived.Test.YtgebplplpenabaaGrd
import Derived.Test.YtgebplplpenabaaLays
namespace Go.Proofs.Ytgebplplpenabaa
open Go.RowKit
set_option linter.unusedSimpArgs false
set_option linter.unusedVariables false

def mayG (p : Int) : Bool := decide (1 ≤ p ∧ p ≤ 16)
theorem gmay_any (p : Int) (w : World) : Calls Try.prog 34 #[.int .u8 p] w fun e w' => e = .returned (.bool (mayG p)) ∧ w = w' := by
  have hs : (¬ 1 ≤ p ∧ mayG p = false) ∨ (1 ≤ p ∧ p ≤ 16 ∧ mayG p = true) ∨ (1 ≤ p ∧ ¬ p ≤ 16 ∧ mayG p = false) := by unfold mayG; simp; omega
  rcases hs with ⟨h1, h2⟩ | ⟨h1, h3, h2⟩ | ⟨h1, h3, h2⟩
  all_goals
    rw [h2]
    clear h2
    go_enter Try.func34, Try.ntmps34
    go_wp2
    go_ret
    exact ⟨rfl, rfl⟩
theorem mayG_true {p : Int} (h : inP p) : mayG p = true := by unfold mayG; unfold inP at h; simp; omega
theorem mayG_false {p : Int} (h : ¬ inP p) : mayG p = false := by unfold mayG; unfold inP at h; simp; omega

instance (x : Fw) : Decidable (okX x) := by unfold okX; infer_instance
set_option maxHeartbeats 2000000 in
theorem edgeMay_any (x : Fw) (w : World) : Calls Try.prog 21 #[.agg #[.int .u8 x.fr, .int .u8 x.tt, .int .i64 x.am]] w fun e w' => e = .returned (.bool (decide (okX x))) ∧ Below w.heap.size w w' := by
  have B := Lib.hid ((Below.refl w.heap.size w).alloc (Nat.le_refl _) (.cells #[.int .u8 x.fr, .int .u8 x.tt, .int .i64 x.am] 52))
  obtain ⟨a, b, n⟩ := x
  dsimp only at B ⊢
  have C1 := Lib.hid (gmay_any a)
  have C2 := Lib.hid (gmay_any b)
  obtain ⟨r, hr⟩ : ∃ r, decide (okX ⟨a, b, n⟩) = r := ⟨_, rfl⟩
  rw [hr]
  have hs : (mayG a = false ∧ r = false) ∨ (mayG a = true ∧ mayG b = false ∧ r = false) ∨ (mayG a = true ∧ mayG b = true ∧ (a == b) = true ∧ r = false) ∨
      (mayG a = true ∧ mayG b = true ∧ (a == b) = false ∧ ¬ 0 ≤ n ∧ r = false) ∨ (mayG a = true ∧ mayG b = true ∧ (a == b) = false ∧ 0 ≤ n ∧ decide (n ≤ 2199023255552) = false ∧ r = false) ∨ (mayG a = true ∧ mayG b = true ∧ (a == b) = false ∧ 0 ≤ n ∧ n ≤ 2199023255552 ∧ r = true) := by
    have hf : ¬ okX ⟨a, b, n⟩ → r = false := fun h => by rw [← hr]; exact decide_eq_false h
    by_cases h1 : inP a
    · by_cases h2 : inP b
      · by_cases h3 : a = b
        · exact .inr (.inr (.inl ⟨mayG_true h1, mayG_true h2, by simp [h3], hf (fun o => o.2.2.1 h3)⟩))
        · have h3' : (a == b) = false := by simp [h3]
          by_cases h4 : 0 ≤ n
          · by_cases h5 : n ≤ 2199023255552
            · exact .inr (.inr (.inr (.inr (.inr ⟨mayG_true h1, mayG_true h2, h3', h4, h5, by rw [← hr]; exact decide_eq_true ⟨h1, h2, h3, h4, h5⟩⟩))))
            · exact .inr (.inr (.inr (.inr (.inl ⟨mayG_true h1, mayG_true h2, h3', h4, by simp [h5], hf (fun o => h5 o.2.2.2.2)⟩))))
          · exact .inr (.inr (.inr (.inl ⟨mayG_true h1, mayG_true h2, h3', h4, hf (fun o => h4 o.2.2.2.1)⟩)))
      · exact .inr (.inl ⟨mayG_true h1, mayG_false h2, hf (fun o => h2 o.2.1)⟩)
    · exact .inl ⟨mayG_false h1, hf (fun o => h1 o.1)⟩
  clear hr
  have hneq : (a != b) = !(a == b) := rfl
  rcases hs with ⟨h1, h2⟩ | ⟨h1, h3, h2⟩ | ⟨h1, h3, h4, h2⟩ | ⟨h1, h3, h4, h5, h2⟩ | ⟨h1, h3, h4, h5, h6, h2⟩ | ⟨h1, h3, h4, h5, h6, h2⟩
  · rw [h1] at C1
    rw [h2]
    clear h1 h2
    go_enter Try.func21, Try.ntmps21
    go_wp2_with fail
    refine (C1.out _).mono ?_
    rintro e w1 ⟨rfl, rfl⟩
    go_wp2_with fail
    go_ret
    exact ⟨rfl, B.out⟩
  all_goals
    rw [h1] at C1
    rw [h3] at C2
    rw [h2]
    clear h1 h3 h2
    go_enter Try.func21, Try.ntmps21
    go_wp2_with fail
    refine (C1.out _).mono ?_
    rintro e w1 ⟨rfl, rfl⟩
    go_wp2_with fail
    refine (C2.out _).mono ?_
    rintro e w1 ⟨rfl, rfl⟩
    go_wp2_with fail
    go_ret
    exact ⟨rfl, B.out⟩

def outF (f : Int → Int → Int) : Prop := ∀ p q, ¬ (inP p ∧ inP q) → f p q = 0
theorem GInv.outF {f : Int → Int → Int} {B : Int} (h : GInv f B) : outF f := h.out
theorem outF_zero : outF zeroF := fun _ _ _ => rfl
set_option maxHeartbeats 2000000 in
theorem gcap_any {w : World} {g : Nat} {f : Int → Int → Int} {b : Bool} (h : Blk w g (graC f b) 60) (ho : outF f) (p q : Int) :
    Calls Try.prog 33 #[.pointer (some ⟨g, 0, none⟩), .int .u8 p, .int .u8 q] w fun e w' => e = .returned (.int .i64 (f p q)) ∧ w = w' := by
  have C1 := Lib.hid (gmay_any p w)
  have C2 := Lib.hid (gmay_any q w)
  have hlt := h.lt
  by_cases hp : inP p
  · by_cases hq : inP q
    · rw [mayG_true hp] at C1
      rw [mayG_true hq] at C2
      obtain ⟨p1, p2⟩ := hp
      obtain ⟨q1, q2⟩ := hq
      have d := h.cap (p := p) (q := q) (by omega) (by omega) (by omega) (by omega)
      have p3 : 0 ≤ p := by omega
      have p4 : p < 17 := by omega
      have q3 : 0 ≤ q := by omega
      have q4 : q < 17 := by omega
      clear h ho
      generalize f p q = n at *
      go_enter Try.func33, Try.ntmps33
      go_wp2_with fail
      refine C1.out.mono ?_
      rintro e w ⟨rfl, rfl⟩
      go_wp2_with fail
      refine C2.out.mono ?_
      rintro e w ⟨rfl, rfl⟩
      go_wp2_with fail
      go_ret
      exact ⟨rfl, rfl⟩
    · rw [mayG_true hp] at C1
      rw [mayG_false hq] at C2
      rw [ho p q (fun e => hq e.2)]
      clear h ho hp hq
      go_enter Try.func33, Try.ntmps33
      go_wp2_with fail
      refine C1.out.mono ?_
      rintro e w ⟨rfl, rfl⟩
      go_wp2_with fail
      refine C2.out.mono ?_
      rintro e w ⟨rfl, rfl⟩
      go_wp2_with fail
      go_ret
      exact ⟨rfl, rfl⟩
  · rw [mayG_false hp] at C1
    rw [ho p q (fun e => hp e.1)]
    clear h ho hp
    go_enter Try.func33, Try.ntmps33
    go_wp2_with fail
    refine C1.out.mono ?_
    rintro e w ⟨rfl, rfl⟩
    go_wp2_with fail
    go_ret
    exact ⟨rfl, rfl⟩
theorem gcap_nil (p q : Int) (w : World) : Calls Try.prog 33 #[.pointer none, .int .u8 p, .int .u8 q] w fun e w' => e = .returned (.int .i64 0) ∧ w = w' := by
  go_enter Try.func33, Try.ntmps33
  go_wp2
  go_ret
  exact ⟨rfl, rfl⟩

/-! Push, all, Same, Copy. -/

def gPushE (f : Int → Int → Int) (a b n : Int) : Int := if n < 1 then 1 else if f a b < n then 11 else 0
def gPushF (f : Int → Int → Int) (a b n : Int) : Int → Int → Int := if 1 ≤ n ∧ n ≤ f a b then pushF f a b n else f
theorem GInv.gpush {f : Int → Int → Int} {B : Int} (h : GInv f B) (a b n : Int) : GInv (gPushF f a b n) B := by
  unfold gPushF
  split
  · rename_i hc; exact h.push hc.1 hc.2
  · exact h
theorem gpush_nil (p q n : Int) (w : World) : Calls Try.prog 18 #[.pointer none, .int .u8 p, .int .u8 q, .int .i64 n] w fun e w' => e = .returned (.int .i64 2) ∧ w = w' := by
  go_enter Try.func18, Try.ntmps18
  go_wp2
  go_ret
  exact ⟨rfl, rfl⟩
theorem gpush_unmade {w : World} {g : Nat} {f : Int → Int → Int} (h : Blk w g (graC f false) 60) (p q n : Int) : Calls Try.prog 18 #[.pointer (some ⟨g, 0, none⟩), .int .u8 p, .int .u8 q, .int .i64 n] w fun e w' => e = .returned (.int .i64 2) ∧ w = w' := by
  have d := h.madeG
  have hlt := h.lt
  clear h
  go_enter Try.func18, Try.ntmps18
  go_wp2
  go_ret
  exact ⟨rfl, rfl⟩
set_option maxHeartbeats 8000000 in
set_option maxRecDepth 100000 in
theorem gpush_any {w : World} {g : Nat} {f : Int → Int → Int} {B : Int} (h : Blk w g (graC f true) 60) (hI : GInv f B) (hB : B ≤ 4611686018427387903) {a b n : Int} (hn : In64 n) :
    Calls Try.prog 18 #[.pointer (some ⟨g, 0, none⟩), .int .u8 a, .int .u8 b, .int .i64 n] w fun e w' => e = .returned (.int .i64 (gPushE f a b n)) ∧ Blk w' g (graC (gPushF f a b n) true) 60 ∧ Keep (· = g) w w' := by
  have KB := Lib.hid h
  have dm := h.madeG
  have hlt := h.lt
  have C := Lib.hid (gcap_any h hI.outF a b)
  obtain ⟨n0, n1⟩ := hn
  by_cases h1 : n < 1
  · have EE := Lib.hid (show gPushE f a b n = 1 ∧ gPushF f a b n = f from ⟨by unfold gPushE; rw [if_pos h1], by unfold gPushF; rw [if_neg (by omega)]⟩)
    clear h hI C
    go_enter Try.func18, Try.ntmps18
    go_wp2
    go_ret
    exact ⟨by rw [EE.out.1]; rfl, by rw [EE.out.2]; exact KB.out, Keep.refl _ _⟩
  by_cases h2 : f a b < n
  · have EE := Lib.hid (show gPushE f a b n = 11 ∧ gPushF f a b n = f from ⟨by unfold gPushE; rw [if_neg h1, if_pos h2], by unfold gPushF; rw [if_neg (by omega)]⟩)
    clear h hI
    obtain ⟨x, hx⟩ : ∃ x, f a b = x := ⟨_, rfl⟩
    rw [hx] at C h2
    clear hx
    go_enter Try.func18, Try.ntmps18
    go_wp2_with fail
    refine C.out.mono ?_
    rintro e w ⟨rfl, rfl⟩
    go_wp2_with fail
    go_ret
    exact ⟨by rw [EE.out.1]; rfl, by rw [EE.out.2]; exact KB.out, Keep.refl _ _⟩
  obtain ⟨⟨a1, a2⟩, ⟨b1, b2⟩, hab⟩ := hI.ends (p := a) (q := b) (by omega)
  have hbd := hI.pair a b
  have hnn := hI.nn b a
  have EE := Lib.hid (show gPushE f a b n = 0 ∧ gPushF f a b n = updE (updE f a b (f a b - n)) b a (f b a + n) from ⟨by unfold gPushE; rw [if_neg h1, if_neg h2], by unfold gPushF; rw [if_pos (by omega)]; rfl⟩)
  obtain ⟨x, hx⟩ : ∃ x, f a b = x := ⟨_, rfl⟩
  obtain ⟨y, hy⟩ : ∃ y, f b a = y := ⟨_, rfl⟩
  have hy2 : updE f a b (x - n) b a = y := by unfold updE; rw [if_neg (fun e => hab e.1.symm), hy]
  rw [hx, hy] at EE
  rw [hx] at C h2 hbd
  rw [hy] at hbd hnn
  have HX := Lib.hid hx
  have HY2 := Lib.hid hy2
  have HAB := Lib.hid hab
  clear h hI hx hy hy2 hab
  go_enter Try.func18, Try.ntmps18
  go_wp2_with fail
  refine C.out.mono ?_
  rintro e w ⟨rfl, rfl⟩
  go_wp2_with fail
  refine region_end (by kernel_rfl) 14 16 [(.pointer (some ⟨g, 0, none⟩)), (.int .u8 a), (.int .u8 b), (.pointer (some ⟨g, 0, none⟩)), (.pointer (some ⟨g, 0, none⟩)), (.pointer (some ⟨g, a.toNat * 17, none⟩)), (.pointer (some ⟨g, a.toNat * 17 + b.toNat, none⟩)), (.int .i64 x), (.int .i64 n), (.int .i64 (x - n)), (.pointer (some ⟨g, 0, none⟩)), (.pointer (some ⟨g, 0, none⟩)), (.pointer (some ⟨g, a.toNat * 17, none⟩)), (.pointer (some ⟨g, a.toNat * 17 + b.toNat, none⟩))]
    (fun w' => Below w.heap.size w w') (by kernel_rfl) rfl (by kernel_rfl) (Below.refl _ _).drew ?_
  intro af haf
  simp only [List.toList_toArray, List.append_eq, List.cons_append, List.nil_append, puts, Act.put, List.getD_cons_zero, List.getD_cons_succ, List.setIfInBounds_toArray, List.set_cons_succ, List.set_cons_zero] at haf
  subst haf
  refine ⟨?_, ?_⟩
  · simp only [List.toList_toArray, List.take_succ_cons, List.take_zero, EachTo]
    refine ⟨?_, ?_, ?_, ?_, ?_, ?_, ?_, ?_, ?_, ?_, ?_, ?_, ?_, ?_, trivial⟩
    · intro w' hS
      refine OpTo.plain ?_ ?_
      exact rfl
      have HS := Lib.hid hS
      clear hS
      go_wp2_with fail
      all_goals first | exact HS.out | exact ⟨rfl, HS.out⟩ | rfl | exact ⟨by omega, HS.out⟩
    · intro w' hS
      refine OpTo.plain ?_ ?_
      exact rfl
      have HS := Lib.hid hS
      clear hS
      go_wp2_with fail
      all_goals first | exact HS.out | exact ⟨rfl, HS.out⟩ | rfl | exact ⟨by omega, HS.out⟩
    · intro w' hS
      refine OpTo.plain ?_ ?_
      exact rfl
      have HS := Lib.hid hS
      clear hS
      go_wp2_with fail
      all_goals first | exact HS.out | exact ⟨rfl, HS.out⟩ | rfl | exact ⟨by omega, HS.out⟩
    · intro w' hS
      refine OpTo.plain ?_ ?_
      exact rfl
      have kb := KB.out.below hS KB.out.lt
      have hl := kb.lt
      have HS := Lib.hid hS
      clear hS
      go_wp2_with fail
      all_goals first | exact HS.out | exact ⟨rfl, HS.out⟩ | rfl | exact ⟨by omega, HS.out⟩
    · intro w' hS
      refine OpTo.plain ?_ ?_
      exact rfl
      have kb := KB.out.below hS KB.out.lt
      have hl := kb.lt
      have HS := Lib.hid hS
      clear hS
      go_wp2_with fail
      all_goals first | exact HS.out | exact ⟨rfl, HS.out⟩ | rfl | exact ⟨by omega, HS.out⟩
    · intro w' hS
      refine OpTo.plain ?_ ?_
      exact rfl
      have kb := KB.out.below hS KB.out.lt
      have hl := kb.lt
      have HS := Lib.hid hS
      clear hS
      go_wp2_with fail
      all_goals first | exact HS.out | exact ⟨rfl, HS.out⟩ | rfl | exact ⟨by omega, HS.out⟩
    · intro w' hS
      refine OpTo.plain ?_ ?_
      exact rfl
      have kb := KB.out.below hS KB.out.lt
      have hl := kb.lt
      have HS := Lib.hid hS
      clear hS
      go_wp2_with fail
      all_goals first | exact HS.out | exact ⟨rfl, HS.out⟩ | rfl | exact ⟨by omega, HS.out⟩
    · intro w' hS
      refine OpTo.plain ?_ ?_
      exact rfl
      have kb := KB.out.below hS KB.out.lt
      have hl := kb.lt
      have d := kb.cap (p := a) (q := b) (by omega) (by omega) (by omega) (by omega)
      rw [HX.out] at d
      have HS := Lib.hid hS
      clear hS
      go_wp2_with fail
      all_goals first | exact HS.out | exact ⟨rfl, HS.out⟩ | rfl | exact ⟨by omega, HS.out⟩
    · intro w' hS
      refine OpTo.plain ?_ ?_
      exact rfl
      have HS := Lib.hid hS
      clear hS
      go_wp2_with fail
      all_goals first | exact HS.out | exact ⟨rfl, HS.out⟩ | rfl | exact ⟨by omega, HS.out⟩
    · intro w' hS
      refine OpTo.plain ?_ ?_
      exact rfl
      have HS := Lib.hid hS
      clear hS
      go_wp2_with fail
      all_goals first | exact HS.out | exact ⟨rfl, HS.out⟩ | rfl | exact ⟨by omega, HS.out⟩
    · intro w' hS
      refine OpTo.plain ?_ ?_
      exact rfl
      have kb := KB.out.below hS KB.out.lt
      have hl := kb.lt
      have HS := Lib.hid hS
      clear hS
      go_wp2_with fail
      all_goals first | exact HS.out | exact ⟨rfl, HS.out⟩ | rfl | exact ⟨by omega, HS.out⟩
    · intro w' hS
      refine OpTo.plain ?_ ?_
      exact rfl
      have kb := KB.out.below hS KB.out.lt
      have hl := kb.lt
      have HS := Lib.hid hS
      clear hS
      go_wp2_with fail
      all_goals first | exact HS.out | exact ⟨rfl, HS.out⟩ | rfl | exact ⟨by omega, HS.out⟩
    · intro w' hS
      refine OpTo.plain ?_ ?_
      exact rfl
      have kb := KB.out.below hS KB.out.lt
      have hl := kb.lt
      have HS := Lib.hid hS
      clear hS
      go_wp2_with fail
      all_goals first | exact HS.out | exact ⟨rfl, HS.out⟩ | rfl | exact ⟨by omega, HS.out⟩
    · intro w' hS
      refine OpTo.plain ?_ ?_
      exact rfl
      have kb := KB.out.below hS KB.out.lt
      have hl := kb.lt
      have HS := Lib.hid hS
      clear hS
      go_wp2_with fail
      all_goals first | exact HS.out | exact ⟨rfl, HS.out⟩ | rfl | exact ⟨by omega, HS.out⟩
  simp only [List.getD_cons_succ, List.getD_cons_zero, List.toList_toArray]
  intro w' hS
  refine OpTo.plain ?_ ?_
  exact rfl
  have kb := Lib.hid ((KB.out.below hS KB.out.lt).capSet (p := a) (q := b) (by omega) (by omega) (by omega) (by omega) (x - n))
  have dm := (KB.out.below hS KB.out.lt).cap (p := a) (q := b) (by omega) (by omega) (by omega) (by omega)
  have fr := (KB.out.below hS KB.out.lt).frozen (a.toNat * 17 + b.toNat)
  have kk := Lib.hid ((Keep.of_below (S := (· = g)) hS).setCell (p := ⟨g, a.toNat * 17 + b.toNat, none⟩) (.inl rfl) (.int .i64 (x - n)))
  clear hS
  go_wp2_with fail
  generalize w'.setCell ⟨g, a.toNat * 17 + b.toNat, none⟩ (.int .i64 (x - n)) = w2 at *
  have KC := Lib.hid KB.out
  clear KB
  have KB := Lib.hid kb.out
  clear kb dm fr C
  refine region_end (by kernel_rfl) 14 16 [(.pointer (some ⟨g, 0, none⟩)), (.int .u8 b), (.int .u8 a), (.pointer (some ⟨g, 0, none⟩)), (.pointer (some ⟨g, 0, none⟩)), (.pointer (some ⟨g, b.toNat * 17, none⟩)), (.pointer (some ⟨g, b.toNat * 17 + a.toNat, none⟩)), (.int .i64 y), (.int .i64 n), (.int .i64 (y + n)), (.pointer (some ⟨g, 0, none⟩)), (.pointer (some ⟨g, 0, none⟩)), (.pointer (some ⟨g, b.toNat * 17, none⟩)), (.pointer (some ⟨g, b.toNat * 17 + a.toNat, none⟩))]
    (fun w' => Below w2.heap.size w2 w') (by kernel_rfl) rfl (by kernel_rfl) (Below.refl _ _).drew ?_
  intro af haf
  simp only [List.toList_toArray, List.append_eq, List.cons_append, List.nil_append, puts, Act.put, List.getD_cons_zero, List.getD_cons_succ, List.setIfInBounds_toArray, List.set_cons_succ, List.set_cons_zero] at haf
  subst haf
  refine ⟨?_, ?_⟩
  · simp only [List.toList_toArray, List.take_succ_cons, List.take_zero, EachTo]
    refine ⟨?_, ?_, ?_, ?_, ?_, ?_, ?_, ?_, ?_, ?_, ?_, ?_, ?_, ?_, trivial⟩
    · intro w' hS
      refine OpTo.plain ?_ ?_
      exact rfl
      have HS := Lib.hid hS
      clear hS
      go_wp2_with fail
      all_goals first | exact HS.out | exact ⟨rfl, HS.out⟩ | rfl | exact ⟨by omega, HS.out⟩
    · intro w' hS
      refine OpTo.plain ?_ ?_
      exact rfl
      have HS := Lib.hid hS
      clear hS
      go_wp2_with fail
      all_goals first | exact HS.out | exact ⟨rfl, HS.out⟩ | rfl | exact ⟨by omega, HS.out⟩
    · intro w' hS
      refine OpTo.plain ?_ ?_
      exact rfl
      have HS := Lib.hid hS
      clear hS
      go_wp2_with fail
      all_goals first | exact HS.out | exact ⟨rfl, HS.out⟩ | rfl | exact ⟨by omega, HS.out⟩
    · intro w' hS
      refine OpTo.plain ?_ ?_
      exact rfl
      have kb := KB.out.below hS KB.out.lt
      have hl := kb.lt
      have HS := Lib.hid hS
      clear hS
      go_wp2_with fail
      all_goals first | exact HS.out | exact ⟨rfl, HS.out⟩ | rfl | exact ⟨by omega, HS.out⟩
    · intro w' hS
      refine OpTo.plain ?_ ?_
      exact rfl
      have kb := KB.out.below hS KB.out.lt
      have hl := kb.lt
      have HS := Lib.hid hS
      clear hS
      go_wp2_with fail
      all_goals first | exact HS.out | exact ⟨rfl, HS.out⟩ | rfl | exact ⟨by omega, HS.out⟩
    · intro w' hS
      refine OpTo.plain ?_ ?_
      exact rfl
      have kb := KB.out.below hS KB.out.lt
      have hl := kb.lt
      have HS := Lib.hid hS
      clear hS
      go_wp2_with fail
      all_goals first | exact HS.out | exact ⟨rfl, HS.out⟩ | rfl | exact ⟨by omega, HS.out⟩
    · intro w' hS
      refine OpTo.plain ?_ ?_
      exact rfl
      have kb := KB.out.below hS KB.out.lt
      have hl := kb.lt
      have HS := Lib.hid hS
      clear hS
      go_wp2_with fail
      all_goals first | exact HS.out | exact ⟨rfl, HS.out⟩ | rfl | exact ⟨by omega, HS.out⟩
    · intro w' hS
      refine OpTo.plain ?_ ?_
      exact rfl
      have kb := KB.out.below hS KB.out.lt
      have hl := kb.lt
      have d := kb.cap (p := b) (q := a) (by omega) (by omega) (by omega) (by omega)
      rw [HY2.out] at d
      have HS := Lib.hid hS
      clear hS
      go_wp2_with fail
      all_goals first | exact HS.out | exact ⟨rfl, HS.out⟩ | rfl | exact ⟨by omega, HS.out⟩
    · intro w' hS
      refine OpTo.plain ?_ ?_
      exact rfl
      have HS := Lib.hid hS
      clear hS
      go_wp2_with fail
      all_goals first | exact HS.out | exact ⟨rfl, HS.out⟩ | rfl | exact ⟨by omega, HS.out⟩
    · intro w' hS
      refine OpTo.plain ?_ ?_
      exact rfl
      have HS := Lib.hid hS
      clear hS
      go_wp2_with fail
      all_goals first | exact HS.out | exact ⟨rfl, HS.out⟩ | rfl | exact ⟨by omega, HS.out⟩
    · intro w' hS
      refine OpTo.plain ?_ ?_
      exact rfl
      have kb := KB.out.below hS KB.out.lt
      have hl := kb.lt
      have HS := Lib.hid hS
      clear hS
      go_wp2_with fail
      all_goals first | exact HS.out | exact ⟨rfl, HS.out⟩ | rfl | exact ⟨by omega, HS.out⟩
    · intro w' hS
      refine OpTo.plain ?_ ?_
      exact rfl
      have kb := KB.out.below hS KB.out.lt
      have hl := kb.lt
      have HS := Lib.hid hS
      clear hS
      go_wp2_with fail
      all_goals first | exact HS.out | exact ⟨rfl, HS.out⟩ | rfl | exact ⟨by omega, HS.out⟩
    · intro w' hS
      refine OpTo.plain ?_ ?_
      exact rfl
      have kb := KB.out.below hS KB.out.lt
      have hl := kb.lt
      have HS := Lib.hid hS
      clear hS
      go_wp2_with fail
      all_goals first | exact HS.out | exact ⟨rfl, HS.out⟩ | rfl | exact ⟨by omega, HS.out⟩
    · intro w' hS
      refine OpTo.plain ?_ ?_
      exact rfl
      have kb := KB.out.below hS KB.out.lt
      have hl := kb.lt
      have HS := Lib.hid hS
      clear hS
      go_wp2_with fail
      all_goals first | exact HS.out | exact ⟨rfl, HS.out⟩ | rfl | exact ⟨by omega, HS.out⟩
  simp only [List.getD_cons_succ, List.getD_cons_zero, List.toList_toArray]
  intro w' hS
  refine OpTo.plain ?_ ?_
  exact rfl
  have kb := Lib.hid ((KB.out.below hS KB.out.lt).capSet (p := b) (q := a) (by omega) (by omega) (by omega) (by omega) (y + n))
  have dm := (KB.out.below hS KB.out.lt).cap (p := b) (q := a) (by omega) (by omega) (by omega) (by omega)
  have fr := (KB.out.below hS KB.out.lt).frozen (b.toNat * 17 + a.toNat)
  have k2 := Lib.hid ((kk.out.trans (Keep.of_below (S := (· = g)) hS)).setCell (p := ⟨g, b.toNat * 17 + a.toNat, none⟩) (.inl rfl) (.int .i64 (y + n)))
  clear hS
  go_wp2_with fail
  generalize w'.setCell ⟨g, b.toNat * 17 + a.toNat, none⟩ (.int .i64 (y + n)) = w3 at *
  go_ret
  exact ⟨by rw [EE.out.1]; rfl, by rw [EE.out.2]; exact kb.out, k2.out⟩

/-- A graph, or none, that has these capacities. -/
def IsG (w : World) (v : Value) (f : Int → Int → Int) : Prop := (v = .pointer none ∧ f = zeroF) ∨ ∃ g b, v = .pointer (some ⟨g, 0, none⟩) ∧ Blk w g (graC f b) 60
theorem IsG.below {w w' : World} {v : Value} {f : Int → Int → Int} (h : IsG w v f) (hb : Below w.heap.size w w') : IsG w' v f := by
  rcases h with h | ⟨g, b, h1, h2⟩
  · exact .inl h
  · exact .inr ⟨g, b, h1, h2.below hb h2.lt⟩
theorem IsG.of {w : World} {g : Nat} {f : Int → Int → Int} {b : Bool} (h : Blk w g (graC f b) 60) : IsG w (.pointer (some ⟨g, 0, none⟩)) f := .inr ⟨g, b, rfl, h⟩
theorem IsG.nil (w : World) : IsG w (.pointer none) zeroF := .inl ⟨rfl, rfl⟩
set_option maxHeartbeats 2000000 in
set_option maxRecDepth 100000 in
theorem gall_any {w : World} {v : Value} {f : Int → Int → Int} (h : IsG w v f) :
    Calls Try.prog 31 #[v] w fun e w' => e = .returned (.agg (capA f)) ∧ Below w.heap.size w w' := by
  have hz := zero_caps.1
  have B := Lib.hid ((Below.refl w.heap.size w).alloc (Nat.le_refl _) (.cells (capA zeroF) 58))
  have K := Lib.hid (Blk.new w (capA zeroF) 58)
  rcases h with ⟨rfl, rfl⟩ | ⟨g, b, rfl, h⟩
  · go_enter Try.func31, Try.ntmps31
    go_wp2_with first
      | ((with_reducible refine wpList_build_of ?_ 58 #[] ?_ #[] ?_ (capA zeroF) (build_caps0 _) ?_); exact rfl; exact rfl; exact rfl)
      | ((with_reducible refine wpList_store_row ?_ 58 (.tmp 2) (.tmp 5) ?_ w.heap.size (capA zeroF) ?_ ?_ 58 _ K.out.out (info_caps _) (by simp only [capA_size]) (capA_one _) ?_); exact rfl; exact rfl; exact rfl; exact rfl)
    have K2 := K.out.row (cs := capA zeroF)
    have B2 := below_setRow B.out (Nat.le_refl _) (capA zeroF)
    refine bodyPost_ret (v := .agg (capA zeroF)) (results_cell_row rfl _ _ w.heap.size 58 (capA zeroF) (0, 0) _ rfl K2 Try.underlying58 rfl (info_caps _)) rfl ⟨rfl, B2⟩
  · have R := Lib.hid (cap_range (h.alloc (.cells (capA zeroF) 58)))
    have hlt := h.lt
    clear h
    go_enter Try.func31, Try.ntmps31
    go_wp2_with first
      | ((with_reducible refine wpList_load_mid ?_ 58 (.tmp 8) ?_ g 0 ?_ (capA f).toList _ R.out Try.underlying58 ?_ (info_caps_l _) ?_); exact rfl; exact rfl; exact rfl; exact rfl; rw [Array.toArray_toList])
      | ((with_reducible refine wpList_store_row ?_ 58 (.tmp 2) (.tmp 9) ?_ w.heap.size (capA f) ?_ ?_ 58 _ K.out.out (info_caps _) (by simp only [capA_size]) (capA_one _) ?_); exact rfl; exact rfl; exact rfl; exact rfl)
    have K2 := K.out.row (cs := capA f)
    have B2 := below_setRow B.out (Nat.le_refl _) (capA f)
    refine bodyPost_ret (v := .agg (capA f)) (results_cell_row rfl _ _ w.heap.size 58 (capA f) (0, 0) _ rfl K2 Try.underlying58 rfl (info_caps _)) rfl ⟨rfl, B2⟩


theorem gcopy_nil (w : World) : Calls Try.prog 17 #[.pointer none] w fun e w' => e = .returned (.pointer none) ∧ w = w' := by
  go_enter Try.func17, Try.ntmps17
  go_wp2
  go_ret
  exact ⟨rfl, rfl⟩
theorem gcopy_unmade {w : World} {g : Nat} {f : Int → Int → Int} (h : Blk w g (graC f false) 60) : Calls Try.prog 17 #[.pointer (some ⟨g, 0, none⟩)] w fun e w' => e = .returned (.pointer none) ∧ w = w' := by
  have d := h.madeG
  have hlt := h.lt
  clear h
  go_enter Try.func17, Try.ntmps17
  go_wp2
  go_ret
  exact ⟨rfl, rfl⟩
set_option maxHeartbeats 2000000 in
set_option maxRecDepth 100000 in
theorem gcopy_any {w : World} {g : Nat} {f : Int → Int → Int} (h : Blk w g (graC f true) 60) :
    Calls Try.prog 17 #[.pointer (some ⟨g, 0, none⟩)] w fun e w' => e = .returned (.pointer (some ⟨w.heap.size, 0, none⟩)) ∧ Blk w' w.heap.size (graC f true) 60 ∧ Below w.heap.size w w' := by
  have d := h.madeG
  have hlt := h.lt
  have R := Lib.hid (cap_range h)
  clear h
  go_enter Try.func17, Try.ntmps17
  go_wp2_with first
    | ((with_reducible refine wpList_load_mid ?_ 58 (.tmp 14) ?_ g 0 ?_ (capA f).toList _ R.out Try.underlying58 ?_ (info_caps_l _) ?_); exact rfl; exact rfl; exact rfl; exact rfl; rw [Array.toArray_toList])
    | ((with_reducible refine wpList_build_of ?_ 60 #[(0, .tmp 15), (1, .const (.bool true))] ?_ #[(0, .agg (capA f)), (1, .bool true)] ?_ (graC f true) (build_gra f _) ?_); exact rfl; exact rfl; simp [Act.eval, Act.put])
  go_ret
  exact ⟨rfl, Blk.new _ _ _, (Below.refl _ _).alloc (Nat.le_refl _) _⟩

end Go.Proofs.Ytgebplplpenabaa
