/-
  PathsCheap: the walk, for every edges, over what the program's Round tells (written by gen_pcheap.py).
-/
import Derived.Test.YtlmebpplhpjdfaaCheapMath
import Derived.Test.YtlmebpplhpjdfaaEdg
import Derived.Test.YtlmebpplhpjdfaaPGrN
namespace Go.Proofs.Ytlmebpplhpjdfaa
open Go.RowKit
set_option linter.unusedSimpArgs false
set_option linter.unusedVariables false

theorem capA_set (f : Int → Int → Int) {p q : Nat} (hp : p < 17) (hq : q < 17) (n : Int) : (capA f).setIfInBounds (p * 17 + q) (.int .i64 n) = capA (updE f p q n) := by
  unfold capA
  rw [gridA_set _ hp hq]
  congr 1
  funext a b
  unfold updE
  split <;> rfl
theorem capA_congr {f g : Int → Int → Int} (h : ∀ p q : Nat, p < 17 → q < 17 → f p q = g p q) : capA f = capA g := by
  apply Array.ext_getElem?
  intro i
  by_cases hi : i < 289
  · rw [capA_get _ hi, capA_get _ hi, h _ _ (by omega) (by omega)]
  · rw [Array.getElem?_eq_none (by rw [capA_size]; omega), Array.getElem?_eq_none (by rw [capA_size]; omega)]
theorem Blk.cAt {w : World} {g : Nat} {f : Int → Int → Int} {t : TypeId} (h : Blk w g (capA f) t) {p q : Int} (h0 : 0 ≤ p) (h1 : p < 17) (h2 : 0 ≤ q) (h3 : q < 17) : w.cell? ⟨g, p.toNat * 17 + q.toNat, none⟩ = some (.int .i64 (f p q)) := by
  unfold capA at h
  exact h.gridAt h0 h1 h2 h3
theorem Blk.cSet {w : World} {g : Nat} {f : Int → Int → Int} {t : TypeId} (h : Blk w g (capA f) t) {p q : Int} (h0 : 0 ≤ p) (h1 : p < 17) (h2 : 0 ≤ q) (h3 : q < 17) (n : Int) : Blk (w.setCell ⟨g, p.toNat * 17 + q.toNat, none⟩ (.int .i64 n)) g (capA (updE f p q n)) t := by
  have := h.set (p.toNat * 17 + q.toNat) (.int .i64 n)
  rw [capA_set f (by omega) (by omega), Int.toNat_of_nonneg h0, Int.toNat_of_nonneg h2] at this
  exact this
theorem CostI.upTo (es : List Ed) : ∀ k, k ≤ es.length → CostI es (es.take k) ((es.take k).foldl costE noneF)
  | 0, _ => by simpa using CostI.init es
  | k + 1, h => by
    rw [List.take_succ_eq_append_getElem (by omega), List.foldl_append]
    exact (CostI.upTo es k (by omega)).step (List.getElem_mem _)
def fillO (k : Nat) : Int → Int → Int := fun a _ => if a < (k : Int) then 1048576 else 0
def fillI (k j : Nat) : Int → Int → Int := fun a b => if a < (k : Int) ∨ (a = k ∧ b < (j : Int)) then 1048576 else 0
theorem fillI_next {k j : Nat} (hk : k < 17) (hj : j < 17) : capA (updE (fillI k j) k j 1048576) = capA (fillI k (j + 1)) := by
  refine capA_congr fun p q hp hq => ?_
  unfold updE fillI
  by_cases h1 : (p : Int) = k ∧ (q : Int) = j
  · rw [if_pos h1, if_pos (by omega)]
  · rw [if_neg h1]
    by_cases h2 : (p : Int) < k ∨ ((p : Int) = k ∧ (q : Int) < j)
    · rw [if_pos h2, if_pos (by omega)]
    · rw [if_neg h2, if_neg (by omega)]
theorem fillI_zero (k : Nat) : capA (fillI k 0) = capA (fillO k) := by
  refine capA_congr fun p q hp hq => ?_
  unfold fillI fillO
  by_cases h1 : (p : Int) < k
  · rw [if_pos h1, if_pos (.inl h1)]
  · rw [if_neg h1, if_neg (by omega)]
theorem fillI_all (k : Nat) : capA (fillI k 17) = capA (fillO (k + 1)) := by
  refine capA_congr fun p q hp hq => ?_
  unfold fillI fillO
  by_cases h1 : (p : Int) < ((k + 1 : Nat) : Int)
  · rw [if_pos h1, if_pos (by omega)]
  · rw [if_neg h1, if_neg (by omega)]
theorem fillO_zero : capA (fillO 0) = capA (fun _ _ => 0) := by
  refine capA_congr fun p q hp hq => ?_
  unfold fillO
  rw [if_neg (by omega)]
theorem fillO_all : capA (fillO 17) = capA noneF := by
  refine capA_congr fun p q hp hq => ?_
  unfold fillO noneF
  rw [if_pos (by omega)]
theorem zero_cst : (∀ w, (zeroValue 56).run Try.prog w = .ok (.agg (capA fun _ _ => 0)) w) ∧ (Try.prog.info? 56).map (·.size) = some 289 :=
  zero_of_info (by kernel_rfl)
def CFillO (w : World) (i : Value) (wr : World) : Prop := ∃ k : Nat, k ≤ 17 ∧ i = .int .i64 k ∧ Blk wr w.heap.size (capA (fillO k)) 56 ∧ Below w.heap.size w wr
def CFillI (w : World) (k : Nat) (i : Value) (wr : World) : Prop := ∃ j : Nat, j ≤ 17 ∧ i = .int .i64 j ∧ Blk wr w.heap.size (capA (fillI k j)) 56 ∧ Below w.heap.size w wr
def CostAt (w : World) (es : List Ed) (i : Value) (wr : World) : Prop := ∃ k : Nat, k ≤ es.length ∧ i = .int .i64 k ∧ Blk wr w.heap.size (capA ((es.take k).foldl costE noneF)) 56 ∧ Below w.heap.size w wr
def SumAt (W : World) (c : Int → Int → Int) (u : Nat → Int) (K : Nat) (s i : Value) (wr : World) : Prop := ∃ n : Nat, n ≤ K ∧ i = .int .i64 n ∧ s = .int .i64 (sumU c u n) ∧ Below W.heap.size W wr
def UpAt (W : World) (n : Nat) (i : Value) (wr : World) : Prop := ∃ k : Nat, k ≤ n ∧ i = .int .i64 k ∧ Below W.heap.size W wr
def LowAt (w : World) (far : Int → Int) (i : Value) (wr : World) : Prop := ∃ (p : Int) (c : Int → Int → Int), 1 ≤ p ∧ p ≤ 17 ∧ i = .int .i64 p ∧ LowI far c ∧ Blk wr w.heap.size (capA c) 56 ∧ Below w.heap.size w wr
set_option maxHeartbeats 32000000 in
set_option maxRecDepth 100000 in
theorem pcheap_walk (HR : RoundProg) (HL : Lives06) (a : Option Addr) (len cap : Nat) (es : List Ed) (w : World) (h0 : SlIn Ed.vals 3 Ed.Fits w a len cap es) :
    Calls Try.prog 6 #[.slice a len cap] w fun e w' => e = .returned (.bool true) ∧ Below w.heap.size w w' := by
  have HZ := Lib.hid h0
  have hcap := h0.2.2.2.1
  have hmax := h0.2.2.2.2.1
  have hzl := h0.2.1
  have HFit := Lib.hid h0.2.2.1
  unfold maxLen at hmax
  clear h0
  subst hzl
  have HRo := Lib.hid HR
  have HLi := Lib.hid HL
  clear HR HL
  by_cases hle : ¬ es.length ≤ 300
  · go_enter Try.func6, Try.ntmps6
    go_wp2_with fail
    refine (HLi.out _).mono ?_
    rintro e w1 ⟨rfl, b1⟩
    have B1 := Lib.hid b1
    clear b1
    go_wp2_with fail
    go_ret
    exact ⟨rfl, B1.out⟩
  have hle := Decidable.not_not.1 hle
  have l1 : decide ((300 : Int) < (es.length : Int)) = false := by simp; omega
  have hz := zero_cst.1
  have K0 := Lib.hid (Blk.new w (capA fun _ _ => 0) 56)
  have B0 := Lib.hid ((Below.refl w.heap.size w).alloc (Nat.le_refl _) (.cells (capA fun _ _ => 0) 56))
  go_enter Try.func6, Try.ntmps6
  go_wp2_with fail
  generalize w.alloc (.cells (capA fun _ _ => 0) 56) = W0 at K0 B0 ⊢
  go_loopw [4] (CFillO w) (fun i _ => 17 - (intOf i).toNat)
  case atStart => exact ⟨0, by omega, rfl, by rw [fillO_zero]; exact K0.out, B0.out⟩
  case round =>
    clear K0 B0
    obtain ⟨k, hk, rfl, hX, hB⟩ := hrel
    have KX := Lib.hid hX
    have BB := Lib.hid hB
    clear hX hB
    by_cases hkl : k < 17
    · have hki : (k : Int) < 17 := by omega
      go_wp2_with fail
      go_loopw [5] (CFillI w k) (fun i _ => 17 - (intOf i).toNat)
      case atStart => exact ⟨0, by omega, rfl, by rw [fillI_zero]; exact KX.out, BB.out⟩
      case round =>
        clear KX BB
        obtain ⟨j, hj, rfl, hX, hB⟩ := hrel
        have KX := Lib.hid hX
        have BB := Lib.hid hB
        have hxl := hX.lt
        clear hX hB
        by_cases hjl : j < 17
        · have hji : (j : Int) < 17 := by omega
          have dm := KX.out.cAt (p := (k : Int)) (q := (j : Int)) (by omega) hki (by omega) hji
          have fr := KX.out.frozen ((k : Int).toNat * 17 + (j : Int).toNat)
          have kx := KX.out.cSet (p := (k : Int)) (q := (j : Int)) (by omega) hki (by omega) hji 1048576
          rw [fillI_next hkl hjl] at kx
          have KX2 := Lib.hid kx
          have B2 := Lib.hid (BB.out.setCell (p := ⟨w.heap.size, (k : Int).toNat * 17 + (j : Int).toNat, none⟩) (Nat.le_refl _) (.int .i64 1048576))
          clear kx
          rw [Int.toNat_natCast, Int.toNat_natCast] at dm fr KX2 B2
          go_wp2_with fail
          go_roundw
          case rel => exact ⟨j + 1, by omega, by go_num, KX2.out, B2.out⟩
          case measure => simp [intOf]; omega
        · have hj17 : j = 17 := by omega
          subst hj17
          rw [show ((17 : Nat) : Int) = 17 from rfl]
          go_wp2_with fail
          go_roundw
          case rel => exact ⟨k + 1, by omega, by go_num, by rw [← fillI_all]; exact KX.out, BB.out⟩
          case measure => simp [intOf]; omega
    · have hk17 : k = 17 := by omega
      subst hk17
      rw [show ((17 : Nat) : Int) = 17 from rfl]
      rw [fillO_all] at KX
      go_wp2_with fail
      go_loopw [6] (CostAt w es) (fun i _ => es.length - (intOf i).toNat)
      case atStart => exact ⟨0, by omega, rfl, KX.out, BB.out⟩
      case round =>
        clear KX BB
        obtain ⟨k, hk, rfl, hX, hB⟩ := hrel
        have KX0 := Lib.hid hX
        have BB := Lib.hid hB
        clear hX hB
        by_cases hkl : k < es.length
        · have hki : (k : Int) < es.length := by omega
          obtain ⟨bl, off, rfl, hbl, e0, e1, e2⟩ := (HZ.out.below BB.out).edge hkl
          have CI := Lib.hid (CostI.upTo es k (by omega))
          have NX : Hid ((es.take (k + 1)).foldl costE noneF = costE ((es.take k).foldl costE noneF) es[k]) := Lib.hid (by
            rw [List.take_succ_eq_append_getElem hkl, List.foldl_append]
            rfl)
          have hfx := HFit.out es[k] (List.getElem_mem hkl)
          generalize (es.take k).foldl costE noneF = c at *
          generalize es[k] = x at *
          obtain ⟨fr, tt, co⟩ := x
          dsimp only at e0 e1 e2
          obtain ⟨⟨f0, f9⟩, ⟨t0, t9⟩, ⟨c0, c9⟩⟩ := hfx
          dsimp only at f0 f9 t0 t9 c0 c9
          have KY := Lib.hid (Blk.new wr #[.int .u8 fr, .int .u8 tt, .int .i8 co] 48)
          have KX := Lib.hid (KX0.out.alloc (.cells #[.int .u8 fr, .int .u8 tt, .int .i8 co] 48))
          have BB2 := Lib.hid (BB.out.alloc BB.out.size (.cells #[.int .u8 fr, .int .u8 tt, .int .i8 co] 48))
          have hwx : w.heap.size < wr.heap.size := KX0.out.lt
          clear BB KX0
          by_cases hok : okEd ⟨fr, tt, co⟩
          · have hok2 := hok
            obtain ⟨⟨o1, o2⟩, ⟨o3, o4⟩⟩ := hok2
            dsimp only at o1 o2 o3 o4
            have q1 : decide (1 ≤ fr) = true := by simpa using o1
            have q2 : decide (fr ≤ 16) = true := by simpa using o2
            have q3 : decide (1 ≤ tt) = true := by simpa using o3
            have q4 : decide (tt ≤ 16) = true := by simpa using o4
            obtain ⟨cv, hcv⟩ : ∃ cv, c fr tt = cv := ⟨_, rfl⟩
            have HCV := Lib.hid hcv
            have hcb := CI.out.bd (fun e he => (HFit.out e he).co) fr tt
            rw [hcv] at hcb
            obtain ⟨b3, b4⟩ := hcb
            by_cases hm : co < cv
            · have NX2 : Hid ((es.take (k + 1)).foldl costE noneF = updE c fr tt co) := Lib.hid (by
                rw [NX.out]
                unfold costE
                rw [if_pos hok]
                dsimp only
                rw [hcv, Int.min_eq_right (by omega)])
              clear hcv hok NX CI
              go_upto_region 16 with fail
              generalize wr.alloc (.cells #[.int .u8 fr, .int .u8 tt, .int .i8 co] 48) = W at *
              generalize wr.heap.size = Y at *
              refine region_end (by kernel_rfl) 17 16 [(.pointer (some ⟨Y, 0, none⟩)), (.int .u8 fr), (.pointer (some ⟨Y, 1, none⟩)), (.int .u8 tt), (.pointer (some ⟨Y, 0, none⟩)), (.int .u8 fr), (.pointer (some ⟨Y, 1, none⟩)), (.int .u8 tt), (.pointer (some ⟨w.heap.size, fr.toNat * 17, none⟩)), (.pointer (some ⟨w.heap.size, fr.toNat * 17 + tt.toNat, none⟩)), (.int .i64 cv), (.pointer (some ⟨Y, 2, none⟩)), (.int .i8 co), (.int .i64 co), (.int .i64 co), (.pointer (some ⟨w.heap.size, fr.toNat * 17, none⟩)), (.pointer (some ⟨w.heap.size, fr.toNat * 17 + tt.toNat, none⟩))]
                (fun w' => Below W.heap.size W w') (by kernel_rfl) rfl (by kernel_rfl) (Below.refl _ _).drew ?_
              intro af haf
              simp only [List.toList_toArray, List.append_eq, List.cons_append, List.nil_append, puts, Act.put, List.getD_cons_zero, List.getD_cons_succ, List.setIfInBounds_toArray, List.set_cons_succ, List.set_cons_zero] at haf
              subst haf
              refine ⟨?_, ?_⟩
              · simp only [List.toList_toArray, List.take_succ_cons, List.take_zero, EachTo]
                refine ⟨?_, ?_, ?_, ?_, ?_, ?_, ?_, ?_, ?_, ?_, ?_, ?_, ?_, ?_, ?_, ?_, ?_, trivial⟩
                · intro w' hS
                  refine OpTo.plain ?_ ?_
                  exact rfl
                  have kx := KY.out.below hS KY.out.lt
                  have hl := kx.lt
                  have e0 := kx.cell 0
                  have e1 := kx.cell 1
                  have e2 := kx.cell 2
                  simp at e0 e1 e2
                  have HS := Lib.hid hS
                  clear hS
                  go_wp2_with fail
                  all_goals first | exact HS.out | exact ⟨rfl, HS.out⟩ | rfl | exact ⟨by omega, HS.out⟩
                · intro w' hS
                  refine OpTo.plain ?_ ?_
                  exact rfl
                  have kx := KY.out.below hS KY.out.lt
                  have hl := kx.lt
                  have e0 := kx.cell 0
                  have e1 := kx.cell 1
                  have e2 := kx.cell 2
                  simp at e0 e1 e2
                  have HS := Lib.hid hS
                  clear hS
                  go_wp2_with fail
                  all_goals first | exact HS.out | exact ⟨rfl, HS.out⟩ | rfl | exact ⟨by omega, HS.out⟩
                · intro w' hS
                  refine OpTo.plain ?_ ?_
                  exact rfl
                  have kx := KY.out.below hS KY.out.lt
                  have hl := kx.lt
                  have e0 := kx.cell 0
                  have e1 := kx.cell 1
                  have e2 := kx.cell 2
                  simp at e0 e1 e2
                  have HS := Lib.hid hS
                  clear hS
                  go_wp2_with fail
                  all_goals first | exact HS.out | exact ⟨rfl, HS.out⟩ | rfl | exact ⟨by omega, HS.out⟩
                · intro w' hS
                  refine OpTo.plain ?_ ?_
                  exact rfl
                  have kx := KY.out.below hS KY.out.lt
                  have hl := kx.lt
                  have e0 := kx.cell 0
                  have e1 := kx.cell 1
                  have e2 := kx.cell 2
                  simp at e0 e1 e2
                  have HS := Lib.hid hS
                  clear hS
                  go_wp2_with fail
                  all_goals first | exact HS.out | exact ⟨rfl, HS.out⟩ | rfl | exact ⟨by omega, HS.out⟩
                · intro w' hS
                  refine OpTo.plain ?_ ?_
                  exact rfl
                  have kx := KY.out.below hS KY.out.lt
                  have hl := kx.lt
                  have e0 := kx.cell 0
                  have e1 := kx.cell 1
                  have e2 := kx.cell 2
                  simp at e0 e1 e2
                  have HS := Lib.hid hS
                  clear hS
                  go_wp2_with fail
                  all_goals first | exact HS.out | exact ⟨rfl, HS.out⟩ | rfl | exact ⟨by omega, HS.out⟩
                · intro w' hS
                  refine OpTo.plain ?_ ?_
                  exact rfl
                  have kx := KY.out.below hS KY.out.lt
                  have hl := kx.lt
                  have e0 := kx.cell 0
                  have e1 := kx.cell 1
                  have e2 := kx.cell 2
                  simp at e0 e1 e2
                  have HS := Lib.hid hS
                  clear hS
                  go_wp2_with fail
                  all_goals first | exact HS.out | exact ⟨rfl, HS.out⟩ | rfl | exact ⟨by omega, HS.out⟩
                · intro w' hS
                  refine OpTo.plain ?_ ?_
                  exact rfl
                  have kx := KY.out.below hS KY.out.lt
                  have hl := kx.lt
                  have e0 := kx.cell 0
                  have e1 := kx.cell 1
                  have e2 := kx.cell 2
                  simp at e0 e1 e2
                  have HS := Lib.hid hS
                  clear hS
                  go_wp2_with fail
                  all_goals first | exact HS.out | exact ⟨rfl, HS.out⟩ | rfl | exact ⟨by omega, HS.out⟩
                · intro w' hS
                  refine OpTo.plain ?_ ?_
                  exact rfl
                  have kx := KY.out.below hS KY.out.lt
                  have hl := kx.lt
                  have e0 := kx.cell 0
                  have e1 := kx.cell 1
                  have e2 := kx.cell 2
                  simp at e0 e1 e2
                  have HS := Lib.hid hS
                  clear hS
                  go_wp2_with fail
                  all_goals first | exact HS.out | exact ⟨rfl, HS.out⟩ | rfl | exact ⟨by omega, HS.out⟩
                · intro w' hS
                  refine OpTo.plain ?_ ?_
                  exact rfl
                  have kf := KX.out.below hS KX.out.lt
                  have hfl := kf.lt
                  have HS := Lib.hid hS
                  clear hS
                  go_wp2_with fail
                  all_goals first | exact HS.out | exact ⟨rfl, HS.out⟩ | rfl | exact ⟨by omega, HS.out⟩
                · intro w' hS
                  refine OpTo.plain ?_ ?_
                  exact rfl
                  have kf := KX.out.below hS KX.out.lt
                  have hfl := kf.lt
                  have HS := Lib.hid hS
                  clear hS
                  go_wp2_with fail
                  all_goals first | exact HS.out | exact ⟨rfl, HS.out⟩ | rfl | exact ⟨by omega, HS.out⟩
                · intro w' hS
                  refine OpTo.plain ?_ ?_
                  exact rfl
                  have kf := KX.out.below hS KX.out.lt
                  have hfl := kf.lt
                  have d := kf.cAt (p := fr) (q := tt) (by omega) (by omega) (by omega) (by omega)
                  rw [HCV.out] at d
                  have HS := Lib.hid hS
                  clear hS
                  go_wp2_with fail
                  all_goals first | exact HS.out | exact ⟨rfl, HS.out⟩ | rfl | exact ⟨by omega, HS.out⟩
                · intro w' hS
                  refine OpTo.plain ?_ ?_
                  exact rfl
                  have kx := KY.out.below hS KY.out.lt
                  have hl := kx.lt
                  have e0 := kx.cell 0
                  have e1 := kx.cell 1
                  have e2 := kx.cell 2
                  simp at e0 e1 e2
                  have HS := Lib.hid hS
                  clear hS
                  go_wp2_with fail
                  all_goals first | exact HS.out | exact ⟨rfl, HS.out⟩ | rfl | exact ⟨by omega, HS.out⟩
                · intro w' hS
                  refine OpTo.plain ?_ ?_
                  exact rfl
                  have kx := KY.out.below hS KY.out.lt
                  have hl := kx.lt
                  have e0 := kx.cell 0
                  have e1 := kx.cell 1
                  have e2 := kx.cell 2
                  simp at e0 e1 e2
                  have HS := Lib.hid hS
                  clear hS
                  go_wp2_with fail
                  all_goals first | exact HS.out | exact ⟨rfl, HS.out⟩ | rfl | exact ⟨by omega, HS.out⟩
                · intro w' hS
                  refine OpTo.plain ?_ ?_
                  exact rfl
                  have HS := Lib.hid hS
                  clear hS
                  go_wp2_with fail
                  all_goals first | exact HS.out | exact ⟨rfl, HS.out⟩ | rfl | exact ⟨by omega, HS.out⟩
                · intro w' hS
                  refine OpTo.plain ?_ ?_
                  exact rfl
                  have HS := Lib.hid hS
                  clear hS
                  go_wp2_with fail
                  all_goals first | exact HS.out | exact ⟨rfl, HS.out⟩ | rfl | exact ⟨by omega, HS.out⟩
                · intro w' hS
                  refine OpTo.plain ?_ ?_
                  exact rfl
                  have kf := KX.out.below hS KX.out.lt
                  have hfl := kf.lt
                  have HS := Lib.hid hS
                  clear hS
                  go_wp2_with fail
                  all_goals first | exact HS.out | exact ⟨rfl, HS.out⟩ | rfl | exact ⟨by omega, HS.out⟩
                · intro w' hS
                  refine OpTo.plain ?_ ?_
                  exact rfl
                  have kf := KX.out.below hS KX.out.lt
                  have hfl := kf.lt
                  have HS := Lib.hid hS
                  clear hS
                  go_wp2_with fail
                  all_goals first | exact HS.out | exact ⟨rfl, HS.out⟩ | rfl | exact ⟨by omega, HS.out⟩
              simp only [List.getD_cons_succ, List.getD_cons_zero, List.toList_toArray]
              intro w' hS
              refine OpTo.plain ?_ ?_
              exact rfl
              have kf := KX.out.below hS KX.out.lt
              have hfl := kf.lt
              have dm := kf.cAt (p := fr) (q := tt) (by omega) (by omega) (by omega) (by omega)
              have fz := kf.frozen (fr.toNat * 17 + tt.toNat)
              have kx := Lib.hid (kf.cSet (p := fr) (q := tt) (by omega) (by omega) (by omega) (by omega) co)
              have kb := Lib.hid ((BB2.out.trans (hS.mono BB2.out.size)).setCell (p := ⟨w.heap.size, fr.toNat * 17 + tt.toNat, none⟩) (Nat.le_refl _) (.int .i64 co))
              clear hS kf KX KY BB2
              go_wp2_with fail
              go_roundw
              case rel => exact ⟨k + 1, by omega, by go_num, by rw [NX2.out]; exact kx.out, kb.out⟩
              case measure => simp [intOf]; omega
            · have NX2 : Hid ((es.take (k + 1)).foldl costE noneF = updE c fr tt cv) := Lib.hid (by
                rw [NX.out]
                unfold costE
                rw [if_pos hok]
                dsimp only
                rw [hcv, Int.min_eq_left (by omega)])
              have hm2 : cv ≤ co := by omega
              clear hcv hok NX CI
              go_upto_region 16 with fail
              generalize wr.alloc (.cells #[.int .u8 fr, .int .u8 tt, .int .i8 co] 48) = W at *
              generalize wr.heap.size = Y at *
              refine region_end (by kernel_rfl) 17 16 [(.pointer (some ⟨Y, 0, none⟩)), (.int .u8 fr), (.pointer (some ⟨Y, 1, none⟩)), (.int .u8 tt), (.pointer (some ⟨Y, 0, none⟩)), (.int .u8 fr), (.pointer (some ⟨Y, 1, none⟩)), (.int .u8 tt), (.pointer (some ⟨w.heap.size, fr.toNat * 17, none⟩)), (.pointer (some ⟨w.heap.size, fr.toNat * 17 + tt.toNat, none⟩)), (.int .i64 cv), (.pointer (some ⟨Y, 2, none⟩)), (.int .i8 co), (.int .i64 co), (.int .i64 cv), (.pointer (some ⟨w.heap.size, fr.toNat * 17, none⟩)), (.pointer (some ⟨w.heap.size, fr.toNat * 17 + tt.toNat, none⟩))]
                (fun w' => Below W.heap.size W w') (by kernel_rfl) rfl (by kernel_rfl) (Below.refl _ _).drew ?_
              intro af haf
              simp only [List.toList_toArray, List.append_eq, List.cons_append, List.nil_append, puts, Act.put, List.getD_cons_zero, List.getD_cons_succ, List.setIfInBounds_toArray, List.set_cons_succ, List.set_cons_zero] at haf
              subst haf
              refine ⟨?_, ?_⟩
              · simp only [List.toList_toArray, List.take_succ_cons, List.take_zero, EachTo]
                refine ⟨?_, ?_, ?_, ?_, ?_, ?_, ?_, ?_, ?_, ?_, ?_, ?_, ?_, ?_, ?_, ?_, ?_, trivial⟩
                · intro w' hS
                  refine OpTo.plain ?_ ?_
                  exact rfl
                  have kx := KY.out.below hS KY.out.lt
                  have hl := kx.lt
                  have e0 := kx.cell 0
                  have e1 := kx.cell 1
                  have e2 := kx.cell 2
                  simp at e0 e1 e2
                  have HS := Lib.hid hS
                  clear hS
                  go_wp2_with fail
                  all_goals first | exact HS.out | exact ⟨rfl, HS.out⟩ | rfl | exact ⟨by omega, HS.out⟩
                · intro w' hS
                  refine OpTo.plain ?_ ?_
                  exact rfl
                  have kx := KY.out.below hS KY.out.lt
                  have hl := kx.lt
                  have e0 := kx.cell 0
                  have e1 := kx.cell 1
                  have e2 := kx.cell 2
                  simp at e0 e1 e2
                  have HS := Lib.hid hS
                  clear hS
                  go_wp2_with fail
                  all_goals first | exact HS.out | exact ⟨rfl, HS.out⟩ | rfl | exact ⟨by omega, HS.out⟩
                · intro w' hS
                  refine OpTo.plain ?_ ?_
                  exact rfl
                  have kx := KY.out.below hS KY.out.lt
                  have hl := kx.lt
                  have e0 := kx.cell 0
                  have e1 := kx.cell 1
                  have e2 := kx.cell 2
                  simp at e0 e1 e2
                  have HS := Lib.hid hS
                  clear hS
                  go_wp2_with fail
                  all_goals first | exact HS.out | exact ⟨rfl, HS.out⟩ | rfl | exact ⟨by omega, HS.out⟩
                · intro w' hS
                  refine OpTo.plain ?_ ?_
                  exact rfl
                  have kx := KY.out.below hS KY.out.lt
                  have hl := kx.lt
                  have e0 := kx.cell 0
                  have e1 := kx.cell 1
                  have e2 := kx.cell 2
                  simp at e0 e1 e2
                  have HS := Lib.hid hS
                  clear hS
                  go_wp2_with fail
                  all_goals first | exact HS.out | exact ⟨rfl, HS.out⟩ | rfl | exact ⟨by omega, HS.out⟩
                · intro w' hS
                  refine OpTo.plain ?_ ?_
                  exact rfl
                  have kx := KY.out.below hS KY.out.lt
                  have hl := kx.lt
                  have e0 := kx.cell 0
                  have e1 := kx.cell 1
                  have e2 := kx.cell 2
                  simp at e0 e1 e2
                  have HS := Lib.hid hS
                  clear hS
                  go_wp2_with fail
                  all_goals first | exact HS.out | exact ⟨rfl, HS.out⟩ | rfl | exact ⟨by omega, HS.out⟩
                · intro w' hS
                  refine OpTo.plain ?_ ?_
                  exact rfl
                  have kx := KY.out.below hS KY.out.lt
                  have hl := kx.lt
                  have e0 := kx.cell 0
                  have e1 := kx.cell 1
                  have e2 := kx.cell 2
                  simp at e0 e1 e2
                  have HS := Lib.hid hS
                  clear hS
                  go_wp2_with fail
                  all_goals first | exact HS.out | exact ⟨rfl, HS.out⟩ | rfl | exact ⟨by omega, HS.out⟩
                · intro w' hS
                  refine OpTo.plain ?_ ?_
                  exact rfl
                  have kx := KY.out.below hS KY.out.lt
                  have hl := kx.lt
                  have e0 := kx.cell 0
                  have e1 := kx.cell 1
                  have e2 := kx.cell 2
                  simp at e0 e1 e2
                  have HS := Lib.hid hS
                  clear hS
                  go_wp2_with fail
                  all_goals first | exact HS.out | exact ⟨rfl, HS.out⟩ | rfl | exact ⟨by omega, HS.out⟩
                · intro w' hS
                  refine OpTo.plain ?_ ?_
                  exact rfl
                  have kx := KY.out.below hS KY.out.lt
                  have hl := kx.lt
                  have e0 := kx.cell 0
                  have e1 := kx.cell 1
                  have e2 := kx.cell 2
                  simp at e0 e1 e2
                  have HS := Lib.hid hS
                  clear hS
                  go_wp2_with fail
                  all_goals first | exact HS.out | exact ⟨rfl, HS.out⟩ | rfl | exact ⟨by omega, HS.out⟩
                · intro w' hS
                  refine OpTo.plain ?_ ?_
                  exact rfl
                  have kf := KX.out.below hS KX.out.lt
                  have hfl := kf.lt
                  have HS := Lib.hid hS
                  clear hS
                  go_wp2_with fail
                  all_goals first | exact HS.out | exact ⟨rfl, HS.out⟩ | rfl | exact ⟨by omega, HS.out⟩
                · intro w' hS
                  refine OpTo.plain ?_ ?_
                  exact rfl
                  have kf := KX.out.below hS KX.out.lt
                  have hfl := kf.lt
                  have HS := Lib.hid hS
                  clear hS
                  go_wp2_with fail
                  all_goals first | exact HS.out | exact ⟨rfl, HS.out⟩ | rfl | exact ⟨by omega, HS.out⟩
                · intro w' hS
                  refine OpTo.plain ?_ ?_
                  exact rfl
                  have kf := KX.out.below hS KX.out.lt
                  have hfl := kf.lt
                  have d := kf.cAt (p := fr) (q := tt) (by omega) (by omega) (by omega) (by omega)
                  rw [HCV.out] at d
                  have HS := Lib.hid hS
                  clear hS
                  go_wp2_with fail
                  all_goals first | exact HS.out | exact ⟨rfl, HS.out⟩ | rfl | exact ⟨by omega, HS.out⟩
                · intro w' hS
                  refine OpTo.plain ?_ ?_
                  exact rfl
                  have kx := KY.out.below hS KY.out.lt
                  have hl := kx.lt
                  have e0 := kx.cell 0
                  have e1 := kx.cell 1
                  have e2 := kx.cell 2
                  simp at e0 e1 e2
                  have HS := Lib.hid hS
                  clear hS
                  go_wp2_with fail
                  all_goals first | exact HS.out | exact ⟨rfl, HS.out⟩ | rfl | exact ⟨by omega, HS.out⟩
                · intro w' hS
                  refine OpTo.plain ?_ ?_
                  exact rfl
                  have kx := KY.out.below hS KY.out.lt
                  have hl := kx.lt
                  have e0 := kx.cell 0
                  have e1 := kx.cell 1
                  have e2 := kx.cell 2
                  simp at e0 e1 e2
                  have HS := Lib.hid hS
                  clear hS
                  go_wp2_with fail
                  all_goals first | exact HS.out | exact ⟨rfl, HS.out⟩ | rfl | exact ⟨by omega, HS.out⟩
                · intro w' hS
                  refine OpTo.plain ?_ ?_
                  exact rfl
                  have HS := Lib.hid hS
                  clear hS
                  go_wp2_with fail
                  all_goals first | exact HS.out | exact ⟨rfl, HS.out⟩ | rfl | exact ⟨by omega, HS.out⟩
                · intro w' hS
                  refine OpTo.plain ?_ ?_
                  exact rfl
                  have HS := Lib.hid hS
                  clear hS
                  go_wp2_with fail
                  all_goals first | exact HS.out | exact ⟨rfl, HS.out⟩ | rfl | exact ⟨by omega, HS.out⟩
                · intro w' hS
                  refine OpTo.plain ?_ ?_
                  exact rfl
                  have kf := KX.out.below hS KX.out.lt
                  have hfl := kf.lt
                  have HS := Lib.hid hS
                  clear hS
                  go_wp2_with fail
                  all_goals first | exact HS.out | exact ⟨rfl, HS.out⟩ | rfl | exact ⟨by omega, HS.out⟩
                · intro w' hS
                  refine OpTo.plain ?_ ?_
                  exact rfl
                  have kf := KX.out.below hS KX.out.lt
                  have hfl := kf.lt
                  have HS := Lib.hid hS
                  clear hS
                  go_wp2_with fail
                  all_goals first | exact HS.out | exact ⟨rfl, HS.out⟩ | rfl | exact ⟨by omega, HS.out⟩
              simp only [List.getD_cons_succ, List.getD_cons_zero, List.toList_toArray]
              intro w' hS
              refine OpTo.plain ?_ ?_
              exact rfl
              have kf := KX.out.below hS KX.out.lt
              have hfl := kf.lt
              have dm := kf.cAt (p := fr) (q := tt) (by omega) (by omega) (by omega) (by omega)
              have fz := kf.frozen (fr.toNat * 17 + tt.toNat)
              have kx := Lib.hid (kf.cSet (p := fr) (q := tt) (by omega) (by omega) (by omega) (by omega) cv)
              have kb := Lib.hid ((BB2.out.trans (hS.mono BB2.out.size)).setCell (p := ⟨w.heap.size, fr.toNat * 17 + tt.toNat, none⟩) (Nat.le_refl _) (.int .i64 cv))
              clear hS kf KX KY BB2
              go_wp2_with fail
              go_roundw
              case rel => exact ⟨k + 1, by omega, by go_num, by rw [NX2.out]; exact kx.out, kb.out⟩
              case measure => simp [intOf]; omega
          · have NX2 : Hid ((es.take (k + 1)).foldl costE noneF = c) := Lib.hid (by
              rw [NX.out]
              unfold costE
              rw [if_neg hok])
            unfold okEd inP at hok
            dsimp only at hok
            have hs : fr < 1 ∨ (1 ≤ fr ∧ 16 < fr) ∨ (1 ≤ fr ∧ fr ≤ 16 ∧ tt < 1) ∨ (1 ≤ fr ∧ fr ≤ 16 ∧ 1 ≤ tt ∧ 16 < tt) := by omega
            rcases hs with h1 | ⟨h1, h2⟩ | ⟨h1, h2, h3⟩ | ⟨h1, h2, h3, h4⟩
            all_goals
              clear hok NX CI
              go_wp2_with fail
              go_roundw
              case rel => exact ⟨k + 1, by omega, by go_num, by rw [NX2.out]; exact KX.out, BB2.out⟩
              case measure => simp [intOf]; omega
        · have hke : es.take k = es := List.take_of_length_le (by omega)
          have CI := Lib.hid (CostI.upTo es k (by omega))
          rw [hke] at KX0 CI
          clear hke hz
          generalize es.foldl costE noneF = c at *
          have HCO := Lib.hid (fun e he => (HFit.out e he).co)
          have CA := Lib.hid (HRo.out wr _ _ es ((HZ.out.below BB.out).edges (by omega)) HFit.out (by omega))
          by_cases hne : roundW es = []
          · obtain ⟨far, hlow⟩ := LowI.start CI.out HCO.out (by omega) hne
            have LO := Lib.hid hlow
            rw [hne] at CA
            clear hne hlow CI HCO
            go_wp2_with fail
            refine CA.out.mono ?_
            rintro e w5 ⟨v, rfl, hown, b5⟩
            obtain ⟨ao, cp, rfl, _⟩ := hown.look
            have KX := Lib.hid (KX0.out.below b5 KX0.out.lt)
            have B5 := Lib.hid (BB.out.trans (b5.mono BB.out.size))
            clear b5 hown CA KX0 BB
            go_wp2_with fail
            go_loopw [13] (LowAt w far) (fun i _ => 17 - (intOf i).toNat)
            case atStart => exact ⟨1, c, by omega, by omega, rfl, LO.out, KX.out, B5.out⟩
            case round =>
              clear KX B5 LO
              obtain ⟨m, c, m1, m2, rfl, hlow, hX, hB⟩ := hrel
              have LO := Lib.hid hlow
              have KX := Lib.hid hX
              have BB := Lib.hid hB
              clear hlow hX hB
              by_cases hm : m < 17
              · go_wp2_with fail
                go_loopw [14] (LowAt w far) (fun i _ => 17 - (intOf i).toNat)
                case atStart => exact ⟨1, c, by omega, by omega, rfl, LO.out, KX.out, BB.out⟩
                case round =>
                  clear KX BB LO
                  obtain ⟨p, c, p1, p2, rfl, hlow, hX, hB⟩ := hrel
                  have LO := Lib.hid hlow
                  have KX := Lib.hid hX
                  have BB := Lib.hid hB
                  clear hlow hX hB
                  by_cases hp : p < 17
                  · go_wp2_with fail
                    go_loopw [15] (LowAt w far) (fun i _ => 17 - (intOf i).toNat)
                    case atStart => exact ⟨1, c, by omega, by omega, rfl, LO.out, KX.out, BB.out⟩
                    case round =>
                      clear KX BB LO
                      obtain ⟨q, c, r1, r2, rfl, hlow, hX, hB⟩ := hrel
                      have LO := Lib.hid hlow
                      have KX := Lib.hid hX
                      have BB := Lib.hid hB
                      have hxl := hX.lt
                      clear hX hB
                      by_cases hq : q < 17
                      · have d1 := KX.out.cAt (p := p) (q := m) (by omega) (by omega) (by omega) (by omega)
                        have d2 := KX.out.cAt (p := m) (q := q) (by omega) (by omega) (by omega) (by omega)
                        have d3 := KX.out.cAt (p := p) (q := q) (by omega) (by omega) (by omega) (by omega)
                        have f3 := KX.out.frozen (p.toNat * 17 + q.toNat)
                        obtain ⟨b1, b2⟩ := hlow.low p m
                        obtain ⟨b3, b4⟩ := hlow.low m q
                        obtain ⟨b5, b6⟩ := hlow.low p q
                        have NX := Lib.hid (fun (h1 : c p m < 1048576) (h2 : c m q < 1048576) => hlow.step (a := p) (m := m) (b := q) h1 h2)
                        clear hlow
                        obtain ⟨y, hy⟩ : ∃ y, c p m = y := ⟨_, rfl⟩
                        obtain ⟨z, hz⟩ : ∃ z, c m q = z := ⟨_, rfl⟩
                        obtain ⟨x, hx⟩ : ∃ x, c p q = x := ⟨_, rfl⟩
                        rw [hy] at d1 b1 b2 NX
                        rw [hz] at d2 b3 b4 NX
                        rw [hx] at d3 b5 b6 NX
                        clear hy hz hx
                        by_cases h1 : y < 1048576
                        · have q1 : decide (y < 1048576) = true := by simpa using h1
                          by_cases h2 : z < 1048576
                          · have q2 : decide (z < 1048576) = true := by simpa using h2
                            have N2 := NX.out h1 h2
                            clear h1 h2 NX
                            rcases Int.lt_or_le (y + z) x with hmn | hmn
                            · rw [Int.min_eq_right (by omega)] at N2
                              have N3 := Lib.hid N2
                              have K3 := Lib.hid (KX.out.cSet (p := p) (q := q) (by omega) (by omega) (by omega) (by omega) (y + z))
                              have B3 := Lib.hid (BB.out.setCell (p := ⟨w.heap.size, p.toNat * 17 + q.toNat, none⟩) (Nat.le_refl _) (.int .i64 (y + z)))
                              clear N2
                              go_wp2_with fail
                              go_region
                              all_goals
                                go_wp2
                                go_roundw
                                case rel => exact ⟨q + 1, _, by omega, by omega, by go_num, N3.out, K3.out, ⟨B3.out.os, B3.out.tape, B3.out.output, B3.out.size, B3.out.block⟩⟩
                                case measure => simp [intOf]; omega
                            · rw [Int.min_eq_left (by omega)] at N2
                              have N3 := Lib.hid N2
                              have K3 := Lib.hid (KX.out.cSet (p := p) (q := q) (by omega) (by omega) (by omega) (by omega) x)
                              have B3 := Lib.hid (BB.out.setCell (p := ⟨w.heap.size, p.toNat * 17 + q.toNat, none⟩) (Nat.le_refl _) (.int .i64 x))
                              clear N2
                              go_wp2_with fail
                              go_region
                              all_goals
                                go_wp2
                                go_roundw
                                case rel => exact ⟨q + 1, _, by omega, by omega, by go_num, N3.out, K3.out, ⟨B3.out.os, B3.out.tape, B3.out.output, B3.out.size, B3.out.block⟩⟩
                                case measure => simp [intOf]; omega
                          · have q2 : decide (z < 1048576) = false := by simpa using h2
                            clear h1 h2 NX
                            go_wp2_with fail
                            go_roundw
                            case rel => exact ⟨q + 1, c, by omega, by omega, by go_num, LO.out, KX.out, BB.out⟩
                            case measure => simp [intOf]; omega
                        · have q1 : decide (y < 1048576) = false := by simpa using h1
                          clear h1 NX
                          go_wp2_with fail
                          go_roundw
                          case rel => exact ⟨q + 1, c, by omega, by omega, by go_num, LO.out, KX.out, BB.out⟩
                          case measure => simp [intOf]; omega
                      · clear hlow
                        go_wp2_with fail
                        go_roundw
                        case rel => exact ⟨p + 1, c, by omega, by omega, by go_num, LO.out, KX.out, BB.out⟩
                        case measure => simp [intOf]; omega
                  · go_wp2_with fail
                    go_roundw
                    case rel => exact ⟨m + 1, c, by omega, by omega, by go_num, LO.out, KX.out, BB.out⟩
                    case measure => simp [intOf]; omega
              · go_wp2_with fail
                go_loopw [16] (LowAt w far) (fun i _ => 17 - (intOf i).toNat)
                case atStart => exact ⟨1, c, by omega, by omega, rfl, LO.out, KX.out, BB.out⟩
                case round =>
                  clear KX BB LO
                  obtain ⟨p, c, p1, p2, rfl, hlow, hX, hB⟩ := hrel
                  have LO := Lib.hid hlow
                  have KX := Lib.hid hX
                  have BB := Lib.hid hB
                  have hxl := hX.lt
                  clear hX hB
                  by_cases hp : p < 17
                  · have d1 := KX.out.cAt (p := p) (q := p) (by omega) (by omega) (by omega) (by omega)
                    have hs := hlow.self p
                    obtain ⟨y, hy⟩ : ∃ y, c p p = y := ⟨_, rfl⟩
                    rw [hy] at d1 hs
                    have q1 : decide (y < 0) = false := by simpa using hs
                    clear hy hs hlow
                    go_wp2_with fail
                    go_roundw
                    case rel => exact ⟨p + 1, c, by omega, by omega, by go_num, LO.out, KX.out, BB.out⟩
                    case measure => simp [intOf]; omega
                  · have CL := Lib.hid (HLi.out wr)
                    clear hlow
                    go_wp2_with fail
                    refine CL.out.mono ?_
                    rintro e w6 ⟨rfl, b6⟩
                    have B7 := Lib.hid (BB.out.trans (b6.mono BB.out.size))
                    clear b6 CL
                    go_wp2_with fail
                    go_ret
                    exact ⟨rfl, B7.out⟩
          · obtain ⟨K, u, hch⟩ := round_cheap CI.out HCO.out hne
            obtain ⟨L, EL⟩ : ∃ L, Hid (roundW es = L) := ⟨_, Lib.hid rfl⟩
            rw [EL.out] at CA hch
            have CH := Lib.hid hch
            have hlen := hch.len
            have k1 := hch.k1
            have k16 := hch.k16
            clear hne hch CI HCO EL
            go_wp2_with fail
            refine CA.out.mono ?_
            rintro e W ⟨v, rfl, hown, b5⟩
            obtain ⟨ao, cp, rfl, hc1, hc2, _, hc4⟩ := hown.look
            obtain ⟨bl, rfl, _, hbl, hcell, _⟩ := hc4 (by omega)
            have KX := Lib.hid (KX0.out.below b5 KX0.out.lt)
            have B5 := Lib.hid (BB.out.trans (b5.mono BB.out.size))
            have CE := Lib.hid (fun j (hj : j < K) => show W.cell? ⟨bl, j, none⟩ = some (.int .u8 (u j)) by rw [hcell j (by omega), List.getElem?_map, CH.out.at_ j hj]; rfl)
            unfold maxLen at hc2
            clear hown hc4 hcell CA KX0 BB b5
            rw [hlen] at hc1 ⊢
            clear hlen
            have q0 : decide ((0 : Int) < (K : Int)) = true := decide_eq_true (by omega)
            go_wp2_with fail
            clear q0
            go_loopw [9, 10] (SumAt W c u K) (fun _ i _ => K - (intOf i).toNat)
            case atStart => exact ⟨0, by omega, rfl, rfl, Below.refl _ _⟩
            case round =>
              obtain ⟨i, hi, rfl, rfl, hb⟩ := hrel
              have BW := Lib.hid hb
              clear hb
              have hbr := Nat.lt_of_lt_of_le hbl BW.out.size
              have hxl := Nat.lt_of_lt_of_le KX.out.lt BW.out.size
              by_cases hil : i < K
              · have hii : (i : Int) < K := by omega
                have hrem : ((i : Int) + 1).tmod (K : Int) = (((i + 1) % K : Nat) : Int) := by
                  rw [Int.tmod_eq_emod_of_nonneg (by omega), Int.natCast_emod]
                  rfl
                have hjK : (i + 1) % K < K := Nat.mod_lt _ (by omega)
                have hju : u ((i + 1) % K) = u (i + 1) := by
                  by_cases h1 : i + 1 < K
                  · rw [Nat.mod_eq_of_lt h1]
                  · have h2 : i + 1 = K := by omega
                    rw [h2, Nat.mod_self, CH.out.back]
                have dj := (BW.out.cell (p := ⟨bl, (i + 1) % K, none⟩) hbl).trans (CE.out _ hjK)
                rw [hju] at dj
                generalize (i + 1) % K = j at *
                have hji : (j : Int) < K := by omega
                have hin := CH.out.ends i
                have hin2 := CH.out.ends (i + 1)
                have hlst := CH.out.least i
                have hcst := CH.out.cost i hil
                have hsb := CH.out.bd i hi
                have hs1 : sumU c u (i + 1) = sumU c u i + c (u i) (u (i + 1)) := rfl
                obtain ⟨ui, hui⟩ : ∃ x, u i = x := ⟨_, rfl⟩
                obtain ⟨v, hv⟩ : ∃ x, u (i + 1) = x := ⟨_, rfl⟩
                obtain ⟨z, hz0⟩ : ∃ x, u 0 = x := ⟨_, rfl⟩
                rw [hui, hv] at hs1 hcst
                rw [hui] at hin
                rw [hv] at hin2 dj
                rw [hui, hz0] at hlst
                obtain ⟨cv, hcv⟩ : ∃ x, c ui v = x := ⟨_, rfl⟩
                obtain ⟨S, hsu⟩ : ∃ x, sumU c u i = x := ⟨_, rfl⟩
                rw [hcv] at hs1 hcst
                rw [hsu] at hs1 hsb
                have HS1 := Lib.hid hs1
                have HUI := Lib.hid hui
                have HVI := Lib.hid hv
                have HZI := Lib.hid hz0
                have HCV := Lib.hid hcv
                obtain ⟨n1, n2⟩ := hin
                obtain ⟨n3, n4⟩ := hin2
                obtain ⟨n5, n6⟩ := hcst
                obtain ⟨n7, n8⟩ := hsb
                have q1 : decide (ui < 1) = false := by simp; omega
                have q2 : decide (16 < ui) = false := by simp; omega
                have q3 : decide (v < 1) = false := by simp; omega
                have q4 : decide (16 < v) = false := by simp; omega
                have q5 : decide (ui < z) = false := by simp; omega
                have q6 : (cv == 1048576) = false := by simp; omega
                rw [hsu]
                clear hs1 hui hv hz0 hcv hsu hju hlst
                go_wp2_with fail
                have ei := (BW.out.cell (p := ⟨bl, i, none⟩) hbl).trans (CE.out i hil)
                rw [HUI.out] at ei
                have ez := (BW.out.cell (p := ⟨bl, 0, none⟩) hbl).trans (CE.out 0 (by omega))
                rw [HZI.out] at ez
                have dc := (KX.out.below BW.out KX.out.lt).cAt (p := ui) (q := v) (by omega) (by omega) (by omega) (by omega)
                rw [HCV.out] at dc
                clear dj hrem
                go_quiet (fail)
                clear ei ez dc
                go_wp2_with fail
                go_loopw [12] (UpAt W i) (fun k _ => i - (intOf k).toNat)
                case atStart => exact ⟨0, by omega, rfl, ⟨BW.out.os, BW.out.tape, BW.out.output, BW.out.size, BW.out.block⟩⟩
                case round =>
                  clear BW hbr hxl
                  obtain ⟨k, hk, rfl, hb⟩ := hrel
                  have BW := Lib.hid hb
                  clear hb
                  have hbr := Nat.lt_of_lt_of_le hbl BW.out.size
                  have hxl := Nat.lt_of_lt_of_le KX.out.lt BW.out.size
                  by_cases hki : k < i
                  · have hkii : (k : Int) < i := by omega
                    have hkK : k < K := by omega
                    have hap := CH.out.apart k i hki hil
                    rw [HUI.out] at hap
                    obtain ⟨uk, huk⟩ : ∃ x, u k = x := ⟨_, rfl⟩
                    rw [huk] at hap
                    have HUK := Lib.hid huk
                    have q7 : (uk == ui) = false := by simpa using hap
                    clear huk hap
                    go_wp2_with fail
                    have ei := (BW.out.cell (p := ⟨bl, i, none⟩) hbl).trans (CE.out i hil)
                    rw [HUI.out] at ei
                    have ek := (BW.out.cell (p := ⟨bl, k, none⟩) hbl).trans (CE.out k hkK)
                    rw [HUK.out] at ek
                    go_quiet (fail)
                    clear ei ek
                    go_wp2_with fail
                    go_roundw
                    case rel => exact ⟨k + 1, by omega, by go_num, ⟨BW.out.os, BW.out.tape, BW.out.output, BW.out.size, BW.out.block⟩⟩
                    case measure => simp [intOf]; omega
                  · have hkie : k = i := by omega
                    subst hkie
                    have e := (BW.out.cell (p := ⟨bl, k, none⟩) hbl).trans (CE.out k hil)
                    rw [HUI.out] at e
                    have d := (KX.out.below BW.out KX.out.lt).cAt (p := ui) (q := v) (by omega) (by omega) (by omega) (by omega)
                    rw [HCV.out] at d
                    go_wp2_with fail
                    go_roundw
                    case rel => exact ⟨k + 1, by omega, by go_num, by rw [HS1.out], BW.out⟩
                    case measure => simp [intOf]; omega
              · have hie : i = K := by omega
                subst hie
                have q := CH.out.all
                have B6 := Lib.hid (B5.out.trans (BW.out.mono B5.out.size))
                have CL := Lib.hid (HLi.out wr)
                have q8 : decide (sumU c u i < 0) = true := by simpa using q
                clear q
                go_wp2_with fail
                refine CL.out.mono ?_
                rintro e w6 ⟨rfl, b6⟩
                have B7 := Lib.hid (B6.out.trans (b6.mono B6.out.size))
                clear b6 CL
                go_wp2_with fail
                go_ret
                exact ⟨rfl, B7.out⟩

end Go.Proofs.Ytlmebpplhpjdfaa
