/-
  PathsLeast: the walk, for every edges and two parties, over what the program's Short tells (written by gen_pleast.py).
-/
import Derived.Test.YtlmebpplhpjdfaaLeastMath
import Derived.Test.YtlmebpplhpjdfaaRowed
import Derived.Test.YtlmebpplhpjdfaaRef06s
import Derived.Test.YtlmebpplhpjdfaaPGrN
import Derived.Test.YtlmebpplhpjdfaaFlwIn
namespace Go.Proofs.Ytlmebpplhpjdfaa
open Go.RowKit
set_option linter.unusedSimpArgs false
set_option linter.unusedVariables false

/-- Seventeen numbers. -/
def ltA (left : Int → Int) : Array Value := rowA (fun _ q => .int .i64 (left q)) 0
theorem ltA_size (left : Int → Int) : (ltA left).size = 17 := rowA_size _ _
theorem ltA_get (left : Int → Int) {i : Nat} (h : i < 17) : (ltA left)[i]? = some (.int .i64 (left i)) := rowA_get _ _ h
theorem ltA_set (left : Int → Int) {i : Nat} (hi : i < 17) (n : Int) : (ltA left).setIfInBounds i (.int .i64 n) = ltA (upL left i n) := by
  unfold ltA
  rw [rowA_set _ _ hi]
  refine rowA_congr fun j hj => ?_
  unfold upL
  try dsimp only
  split <;> rfl
theorem ltA_congr {l m : Int → Int} (h : ∀ i : Nat, i < 17 → l i = m i) : ltA l = ltA m := rowA_congr fun i hi => by rw [h i hi]
theorem Blk.ltAt {w : World} {g : Nat} {l : Int → Int} {t : TypeId} (h : Blk w g (ltA l) t) {p : Int} (h0 : 0 ≤ p) (h1 : p < 17) : w.cell? ⟨g, p.toNat, none⟩ = some (.int .i64 (l p)) := by
  rw [h.cell, ltA_get l (by omega), Int.toNat_of_nonneg h0]
theorem Blk.ltSet {w : World} {g : Nat} {l : Int → Int} {t : TypeId} (h : Blk w g (ltA l) t) {p : Int} (h0 : 0 ≤ p) (h1 : p < 17) (n : Int) : Blk (w.setCell ⟨g, p.toNat, none⟩ (.int .i64 n)) g (ltA (upL l p n)) t := by
  have := h.set p.toNat (.int .i64 n)
  rw [ltA_set l (by omega), Int.toNat_of_nonneg h0] at this
  exact this
theorem shortW_zero (a b : Int) : shortW zeroF a b = [] := by
  unfold shortW
  rw [if_neg]
  rintro ⟨_, _, hne, hr⟩
  obtain ⟨m, _, hw⟩ := (inS_iff (GInv.zero (B := 0) (Int.le_refl _)) a 16 b).1 hr
  match m, hw with
  | 0, hw => exact hne hw
  | m + 1, ⟨r, h1, _⟩ => unfold zeroF at h1; omega
theorem zero_lt : (∀ w, (zeroValue 54).run Try.prog w = .ok (.agg (ltA fun _ => 0)) w) ∧ (Try.prog.info? 54).map (·.size) = some 17 :=
  zero_of_info (by kernel_rfl)
attribute [irreducible] ltA
/-- What the program's Short tells. -/
def ShortProg : Prop := ∀ (w : World) (v : Value) (f : Int → Int → Int) (a b : Int), IsG w v f → GInv f 4398046511104 → In8 a → In8 b → Calls Try.prog 10 #[v, .int .u8 a, .int .u8 b] w (RowPost 23 (shortW f a b) w)
def Lives06 : Prop := ∀ w, Calls Try.prog 7 #[] w fun e w' => e = .returned (.bool true) ∧ Below w.heap.size w w'
/-- No way: an empty list. -/
theorem short_none (HS : ShortProg) {w : World} {v : Value} {f : Int → Int → Int} {a b : Int} (hv : IsG w v f) (hI : GInv f 4398046511104) (ha : In8 a) (hb : In8 b) (h0 : shortW f a b = []) :
    Calls Try.prog 10 #[v, .int .u8 a, .int .u8 b] w fun e w' => (∃ ao c, e = .returned (.slice ao 0 c)) ∧ Below w.heap.size w w' := by
  refine (HS w v f a b hv hI ha hb).mono ?_
  rintro e w' ⟨v', rfl, hown, hb⟩
  rw [h0] at hown
  obtain ⟨ao, c, rfl, _⟩ := hown.look
  exact ⟨⟨ao, c, rfl⟩, hb⟩
theorem fill_next {k : Nat} (hk : k < 17) : (ltA fun p => if p < (k : Int) then 99 else 0).setIfInBounds k (.int .i64 99) = ltA fun p => if p < ((k + 1 : Nat) : Int) then 99 else 0 := by
  rw [ltA_set _ hk]
  refine ltA_congr fun i hi => ?_
  show (if (i : Int) = k then (99 : Int) else if (i : Int) < k then 99 else 0) = if (i : Int) < ((k + 1 : Nat) : Int) then 99 else 0
  by_cases h1 : (i : Int) = k
  · rw [if_pos h1, if_pos (by omega)]
  · rw [if_neg h1]
    by_cases h2 : (i : Int) < k
    · rw [if_pos h2, if_pos (by omega)]
    · rw [if_neg h2, if_neg (by omega)]
theorem fill_done (t : Int) : ltA (upL (fun p => if p < ((17 : Nat) : Int) then 99 else 0) t 0) = ltA (upL (fun _ => 99) t 0) := by
  refine ltA_congr fun i hi => ?_
  show (if (i : Int) = t then (0 : Int) else if (i : Int) < ((17 : Nat) : Int) then 99 else 0) = if (i : Int) = t then 0 else 99
  split
  · rfl
  · rw [if_pos (by omega)]
def FillAt (w W : World) (g : Nat) (f : Int → Int → Int) (X : Nat) (i : Value) (wr : World) : Prop :=
  ∃ k : Nat, k ≤ 17 ∧ i = .int .i64 k ∧ Blk wr X (ltA fun p => if p < k then 99 else 0) 54 ∧ Blk wr g (graC f true) 63 ∧ Below w.heap.size w wr
def PassAt (w : World) (g X : Nat) (f : Int → Int → Int) (b : Int) (i : Value) (wr : World) : Prop :=
  ∃ (k : Nat) (left : Int → Int), k ≤ 16 ∧ i = .int .i64 k ∧ LeftI f b k (fun _ _ => False) left ∧ Blk wr X (ltA left) 54 ∧ Blk wr g (graC f true) 63 ∧ Below w.heap.size w wr
def PassIn (w : World) (g X : Nat) (f : Int → Int → Int) (b : Int) (n : Nat) (i : Value) (wr : World) : Prop :=
  ∃ (p : Int) (left : Int → Int), 1 ≤ p ∧ p ≤ 17 ∧ i = .int .u8 p ∧ LeftI f b n (fun x y => inP x ∧ inP y ∧ x < p) left ∧ Blk wr X (ltA left) 54 ∧ Blk wr g (graC f true) 63 ∧ Below w.heap.size w wr
def PassIn2 (w : World) (g X : Nat) (f : Int → Int → Int) (b : Int) (n : Nat) (p : Int) (i : Value) (wr : World) : Prop :=
  ∃ (q : Int) (left : Int → Int), 1 ≤ q ∧ q ≤ 17 ∧ i = .int .u8 q ∧ LeftI f b n (fun x y => inP x ∧ inP y ∧ (x < p ∨ (x = p ∧ y < q))) left ∧ Blk wr X (ltA left) 54 ∧ Blk wr g (graC f true) 63 ∧ Below w.heap.size w wr
def StepAt (W : World) (N : Nat) (i : Value) (wr : World) : Prop := ∃ j : Nat, j + 1 ≤ N ∧ i = .int .i64 ((j : Int) + 1) ∧ Below W.heap.size W wr
def LessAt6 (W : World) (v : Int) (i : Value) (wr : World) : Prop := ∃ p : Int, 1 ≤ p ∧ p ≤ v ∧ i = .int .u8 p ∧ Below W.heap.size W wr
set_option maxHeartbeats 32000000 in
set_option maxRecDepth 100000 in
theorem pleast_walk (HS : ShortProg) (HL : Lives06) (a : Option Addr) (len cap : Nat) (zs : List Fw) (s t : Int) (w : World) (h0 : SlIn Fw.vals 3 Fw.Fits w a len cap zs) (hs : (Lit.int .u8 s).wf = true) (ht : (Lit.int .u8 t).wf = true) :
    Calls Try.prog 5 #[.slice a len cap, .int .u8 s, .int .u8 t] w fun e w' => e = .returned (.bool true) ∧ Below w.heap.size w w' := by
  have HZ := Lib.hid h0
  have HS8 := Lib.hid (In8.of_wf hs)
  have HT8 := Lib.hid (In8.of_wf ht)
  have hcap := h0.2.2.2.1
  have hmax := h0.2.2.2.2.1
  have hzl := h0.2.1
  unfold maxLen at hmax
  clear h0 hs ht
  subst hzl
  have HSp := Lib.hid HS
  have HLi := Lib.hid HL
  clear HS HL
  obtain ⟨s0, s9⟩ := HS8.out
  obtain ⟨t0, t9⟩ := HT8.out
  by_cases hle : ¬ zs.length ≤ 300
  · go_enter Try.func5, Try.ntmps5
    go_wp2_with fail
    refine (HLi.out _).mono ?_
    rintro e w1 ⟨rfl, b1⟩
    have B1 := Lib.hid b1
    clear b1
    go_wp2_with fail
    go_ret
    exact ⟨rfl, B1.out⟩
  have hle := Decidable.not_not.1 hle
  have l1 : decide ((300 : Int) < (zs.length : Int)) = false := by simp; omega
  have CN := Lib.hid (gnew_any (HZ.out.flows (by omega)) (by omega))
  clear HZ
  go_enter Try.func5, Try.ntmps5
  go_wp2_with fail
  refine CN.out.mono ?_
  rintro e w2 ⟨b2, hg⟩
  have B2 := Lib.hid b2
  have HG := Lib.hid hg
  clear b2 hg CN
  by_cases hok : okG zs
  · obtain ⟨_, g, rfl, hgge, hgb⟩ := HG.out.resolve_right (fun h => h.1 hok)
    have KG := Lib.hid hgb
    have hgl := hgb.lt
    have I0 := Lib.hid (newF_inv hok.1)
    clear hgb HG
    generalize newF zs = f at *
    by_cases c3 : (s == t) = true
    · have c3' : s = t := by simpa using c3
      subst c3'
      have CS := Lib.hid (short_none HSp.out (IsG.of KG.out) I0.out HS8.out HT8.out (by unfold shortW; rw [if_neg (fun h => h.2.2.1 rfl)]))
      go_wp2_with fail
      refine CS.out.mono ?_
      rintro e w3 ⟨⟨ao, cp, rfl⟩, b3⟩
      have B3 := Lib.hid (B2.out.trans (b3.mono B2.out.size))
      have CL := Lib.hid (HLi.out w3)
      clear b3 CS
      go_wp2_with fail
      refine CL.out.mono ?_
      rintro e w4 ⟨rfl, b4⟩
      have B4 := Lib.hid (B3.out.trans (b4.mono B3.out.size))
      clear b4 CL
      go_wp2_with fail
      go_ret
      exact ⟨rfl, B4.out⟩
    have c3 : (s == t) = false := by simpa using c3
    have hst : Hid (s ≠ t) := Lib.hid (by simpa using c3)
    by_cases c1 : s < 1
    · have q1 : decide (s < 1) = true := by simpa using c1
      have CS := Lib.hid (short_none HSp.out (IsG.of KG.out) I0.out HS8.out HT8.out (by unfold shortW; rw [if_neg (fun h => by have := h.1.1; omega)]))
      go_wp2_with fail
      refine CS.out.mono ?_
      rintro e w3 ⟨⟨ao, cp, rfl⟩, b3⟩
      have B3 := Lib.hid (B2.out.trans (b3.mono B2.out.size))
      have CL := Lib.hid (HLi.out w3)
      clear b3 CS
      go_wp2_with fail
      refine CL.out.mono ?_
      rintro e w4 ⟨rfl, b4⟩
      have B4 := Lib.hid (B3.out.trans (b4.mono B3.out.size))
      clear b4 CL
      go_wp2_with fail
      go_ret
      exact ⟨rfl, B4.out⟩
    have q1 : decide (s < 1) = false := by simpa using c1
    by_cases c2 : 16 < s
    · have q2 : decide (16 < s) = true := by simpa using c2
      have CS := Lib.hid (short_none HSp.out (IsG.of KG.out) I0.out HS8.out HT8.out (by unfold shortW; rw [if_neg (fun h => by have := h.1.2; omega)]))
      go_wp2_with fail
      refine CS.out.mono ?_
      rintro e w3 ⟨⟨ao, cp, rfl⟩, b3⟩
      have B3 := Lib.hid (B2.out.trans (b3.mono B2.out.size))
      have CL := Lib.hid (HLi.out w3)
      clear b3 CS
      go_wp2_with fail
      refine CL.out.mono ?_
      rintro e w4 ⟨rfl, b4⟩
      have B4 := Lib.hid (B3.out.trans (b4.mono B3.out.size))
      clear b4 CL
      go_wp2_with fail
      go_ret
      exact ⟨rfl, B4.out⟩
    have q2 : decide (16 < s) = false := by simpa using c2
    by_cases d1 : t < 1
    · have q3 : decide (t < 1) = true := by simpa using d1
      have CS := Lib.hid (short_none HSp.out (IsG.of KG.out) I0.out HS8.out HT8.out (by unfold shortW; rw [if_neg (fun h => by have := h.2.1.1; omega)]))
      go_wp2_with fail
      refine CS.out.mono ?_
      rintro e w3 ⟨⟨ao, cp, rfl⟩, b3⟩
      have B3 := Lib.hid (B2.out.trans (b3.mono B2.out.size))
      have CL := Lib.hid (HLi.out w3)
      clear b3 CS
      go_wp2_with fail
      refine CL.out.mono ?_
      rintro e w4 ⟨rfl, b4⟩
      have B4 := Lib.hid (B3.out.trans (b4.mono B3.out.size))
      clear b4 CL
      go_wp2_with fail
      go_ret
      exact ⟨rfl, B4.out⟩
    have q3 : decide (t < 1) = false := by simpa using d1
    by_cases d2 : 16 < t
    · have q4 : decide (16 < t) = true := by simpa using d2
      have CS := Lib.hid (short_none HSp.out (IsG.of KG.out) I0.out HS8.out HT8.out (by unfold shortW; rw [if_neg (fun h => by have := h.2.1.2; omega)]))
      go_wp2_with fail
      refine CS.out.mono ?_
      rintro e w3 ⟨⟨ao, cp, rfl⟩, b3⟩
      have B3 := Lib.hid (B2.out.trans (b3.mono B2.out.size))
      have CL := Lib.hid (HLi.out w3)
      clear b3 CS
      go_wp2_with fail
      refine CL.out.mono ?_
      rintro e w4 ⟨rfl, b4⟩
      have B4 := Lib.hid (B3.out.trans (b4.mono B3.out.size))
      clear b4 CL
      go_wp2_with fail
      go_ret
      exact ⟨rfl, B4.out⟩
    have q4 : decide (16 < t) = false := by simpa using d2
    have hz := zero_lt.1
    have BX := Lib.hid (B2.out.alloc B2.out.size (.cells (ltA fun _ => 0) 54))
    have KX0 := Lib.hid (Blk.new w2 (ltA fun _ => 0) 54)
    have KG0 := Lib.hid (KG.out.alloc (.cells (ltA fun _ => 0) 54))
    obtain ⟨X, hX⟩ : ∃ X, X = w2.heap.size := ⟨_, rfl⟩
    have hgX : g < X := by rw [hX]; exact hgl
    have hwX : w.heap.size ≤ X := by rw [hX]; exact B2.out.size
    rw [← hX] at KX0
    have qn : (s != t) = true := by simp [bne, c3]
    go_wp2_with fail
    rw [← hX]
    generalize w2.alloc (.cells (ltA fun _ => 0) 54) = W3 at KX0 KG0 BX ⊢
    clear hX hgl KG hz
    go_loopw [10] (FillAt w W3 g f X) (fun i _ => 17 - (intOf i).toNat)
    case atStart => exact ⟨0, by omega, rfl, by rw [show ltA (fun p => if p < ((0 : Nat) : Int) then 99 else 0) = ltA fun _ => 0 from ltA_congr fun i hi => by rw [if_neg (by omega)]]; exact KX0.out, KG0.out, BX.out⟩
    case round =>
      clear KX0 KG0 BX
      obtain ⟨k, hk, rfl, hX, hG, hB⟩ := hrel
      have KX := Lib.hid hX
      have KG := Lib.hid hG
      have BB := Lib.hid hB
      have hxl := hX.lt
      clear hX hG hB
      by_cases hkl : k < 17
      · have hki : (k : Int) < 17 := by omega
        have dm := KX.out.cell k
        rw [ltA_get _ hkl] at dm
        have fr := KX.out.frozen k
        have kx := KX.out.set k (.int .i64 99)
        rw [fill_next hkl] at kx
        have KX2 := Lib.hid kx
        have KG2 := Lib.hid (KG.out.setOther (a := ⟨X, k, none⟩) (by simp; omega) (.int .i64 99))
        have B2 := Lib.hid (BB.out.setCell (p := ⟨X, k, none⟩) hwX (.int .i64 99))
        clear kx
        go_wp2_with fail
        go_roundw
        case rel => exact ⟨k + 1, by omega, by go_num, KX2.out, KG2.out, B2.out⟩
        case measure => simp [intOf]; omega
      · have hk17 : k = 17 := by omega
        subst hk17
        have dm := KX.out.ltAt (p := t) (by omega) (by omega)
        have fr := KX.out.frozen t.toNat
        have kx := KX.out.ltSet (p := t) (by omega) (by omega) 0
        rw [fill_done t] at kx
        have KX2 := Lib.hid kx
        have KG2 := Lib.hid (KG.out.setOther (a := ⟨X, t.toNat, none⟩) (by simp; omega) (.int .i64 0))
        have B2 := Lib.hid (BB.out.setCell (p := ⟨X, t.toNat, none⟩) hwX (.int .i64 0))
        clear kx KX KG BB
        go_wp2_with fail
        generalize wr.setCell ⟨X, t.toNat, none⟩ (.int .i64 0) = W4 at KX2 KG2 B2 ⊢
        clear dm fr hxl
        go_loopw [11] (PassAt w g X f t) (fun i _ => 16 - (intOf i).toNat)
        case atStart => exact ⟨0, _, by omega, rfl, LeftI.init I0.out t, KX2.out, KG2.out, B2.out⟩
        case round =>
          clear KX2 KG2 B2
          obtain ⟨n, left, hn, rfl, hL, hX, hG, hB⟩ := hrel
          have LL := Lib.hid hL
          have KX := Lib.hid hX
          have KG := Lib.hid hG
          have BB := Lib.hid hB
          clear hL hX hG hB
          by_cases hnl : n < 16
          · have hni : (n : Int) < 16 := by omega
            go_wp2_with fail
            go_loopw [12] (PassIn w g X f t n) (fun i _ => 17 - (intOf i).toNat)
            case atStart => exact ⟨1, left, by omega, by omega, rfl, ⟨LL.out.lo, LL.out.way, LL.out.all, fun p r hd => by have := hd.1.1; have := hd.2.2; omega⟩, KX.out, KG.out, BB.out⟩
            case round =>
              clear LL KX KG BB
              obtain ⟨p, left, hp1, hp2, rfl, hL, hX, hG, hB⟩ := hrel
              have LL := Lib.hid hL
              have KX := Lib.hid hX
              have KG := Lib.hid hG
              have BB := Lib.hid hB
              clear hL hX hG hB
              by_cases hpl : p < 17
              · go_wp2_with fail
                go_loopw [13] (PassIn2 w g X f t n p) (fun i _ => 17 - (intOf i).toNat)
                case atStart => exact ⟨1, left, by omega, by omega, rfl, ⟨LL.out.lo, LL.out.way, LL.out.all, fun x y hd => LL.out.cur x y ⟨hd.1, hd.2.1, by have := hd.2.1.1; have := hd.2.2; omega⟩⟩, KX.out, KG.out, BB.out⟩
                case round =>
                  clear LL KX KG BB
                  obtain ⟨q, left, hq1, hq2, rfl, hL, hX, hG, hB⟩ := hrel
                  have LL := Lib.hid hL
                  have KX := Lib.hid hX
                  have KG := Lib.hid hG
                  have BB := Lib.hid hB
                  have hxl := hX.lt
                  clear hL hX hG hB
                  by_cases hql : q < 17
                  · have CC := Lib.hid (fun w' (hS : Below wr.heap.size wr w') => (gcap_any (KG.out.below hS KG.out.lt) I0.out.outF p q).mono (fun e w'' h => (⟨h.1, h.2 ▸ Below.refl _ _⟩ : e = .returned (.int .i64 (f p q)) ∧ Below w'.heap.size w' w'')))
                    have DD : Hid (∀ x y, (inP x ∧ inP y ∧ (x < p ∨ (x = p ∧ y < q + 1))) → (inP x ∧ inP y ∧ (x < p ∨ (x = p ∧ y < q))) ∨ (x = p ∧ y = q)) := Lib.hid (fun x y h => by
                      obtain ⟨h1, h2, h3⟩ := h
                      rcases h3 with h3 | ⟨h3, h4⟩
                      · exact .inl ⟨h1, h2, .inl h3⟩
                      · by_cases h5 : y = q
                        · exact .inr ⟨h3, h5⟩
                        · exact .inl ⟨h1, h2, .inr ⟨h3, by omega⟩⟩)
                    have b1 := LL.out.lo p
                    have b2 := LL.out.lo q
                    obtain ⟨W, hW⟩ : ∃ W, W = wr := ⟨_, rfl⟩
                    subst hW
                    obtain ⟨y, hy⟩ : ∃ y, f p q = y := ⟨_, rfl⟩
                    obtain ⟨lr, hlr⟩ : ∃ lr, left p = lr := ⟨_, rfl⟩
                    obtain ⟨lq, hlq⟩ : ∃ lq, left q = lq := ⟨_, rfl⟩
                    rw [hlr] at b1
                    rw [hlq] at b2
                    obtain ⟨b3, b4⟩ := b1
                    obtain ⟨b5, b6⟩ := b2
                    rw [hy] at CC
                    have HP := Lib.hid hlr
                    have HQ := Lib.hid hlq
                    have HY := Lib.hid hy
                    clear hlr hlq hy
                    by_cases hpos : 0 < y
                    · have cpos : decide (0 < y) = true := by simpa using hpos
                      by_cases hless : lq + 1 < lr
                      · have cless : decide (lq + 1 < lr) = true := by simpa using hless
                        have hnew := Lib.hid (LL.out.less I0.out (a := p) (c := q) DD.out (by rw [HY.out]; exact hpos) (by rw [HP.out, HQ.out]; exact hless))
                        rw [HQ.out] at hnew
                        clear hpos hless
                        go_wp2_with fail
                        refine region_still (by kernel_rfl) [(.pointer (some ⟨g, 0, none⟩)), (.int .u8 p), (.int .u8 q), (.int .i64 y), (.bool true), (.bool true), (.int .u8 q), (.pointer (some ⟨X, q.toNat, none⟩)), (.int .i64 lq), (.int .i64 (lq + 1)), (.int .u8 p), (.pointer (some ⟨X, p.toNat, none⟩)), (.int .i64 lr), (.bool true), (.bool true)]
                          (fun w' => Below W.heap.size W w') (by kernel_rfl) (Below.refl _ _).drew ?_
                        intro af haf
                        simp only [List.toList_toArray, List.append_eq, List.cons_append, List.nil_append, puts, Act.put, List.getD_cons_zero, List.getD_cons_succ, List.setIfInBounds_toArray, List.set_cons_succ, List.set_cons_zero] at haf
                        subst haf
                        refine ⟨?_, ?_⟩
                        · simp only [List.toList_toArray, List.append_eq, List.cons_append, List.nil_append, EachTo]
                          refine ⟨?_, ?_, ?_, ?_, ?_, ?_, ?_, ?_, ?_, ?_, ?_, ?_, ?_, ?_, ?_, trivial⟩
                          · intro w' hS
                            refine OpTo.plain ?_ ?_
                            exact rfl
                            have HS := Lib.hid hS
                            clear hS
                            go_wp2_with fail
                            all_goals first | exact HS.out | exact ⟨rfl, HS.out⟩ | rfl | exact ⟨by omega, HS.out⟩
                          · intro w' hS
                            refine OpTo.plain ?_ ?_
                            exact rfl
                            have HS := Lib.hid hS
                            clear hS
                            go_wp2_with fail
                            all_goals first | exact HS.out | exact ⟨rfl, HS.out⟩ | rfl | exact ⟨by omega, HS.out⟩
                          · intro w' hS
                            refine OpTo.plain ?_ ?_
                            exact rfl
                            have HS := Lib.hid hS
                            clear hS
                            go_wp2_with fail
                            all_goals first | exact HS.out | exact ⟨rfl, HS.out⟩ | rfl | exact ⟨by omega, HS.out⟩
                          · intro w' hS
                            refine OpTo.plain ?_ ?_
                            exact rfl
                            have HS := Lib.hid hS
                            clear hS
                            go_wp2_with fail
                            refine (CC.out w' HS.out).mono ?_
                            rintro e w'' ⟨rfl, hb2⟩
                            exact ⟨rfl, andB HS.out hb2⟩
                          · intro w' hS
                            refine OpTo.plain ?_ ?_
                            exact rfl
                            have HS := Lib.hid hS
                            clear hS
                            go_wp2_with fail
                            all_goals first | exact HS.out | exact ⟨rfl, HS.out⟩ | rfl | exact ⟨by omega, HS.out⟩
                          · intro w' hS
                            refine OpTo.plain ?_ ?_
                            exact rfl
                            have HS := Lib.hid hS
                            clear hS
                            go_wp2_with fail
                            all_goals first | exact HS.out | exact ⟨rfl, HS.out⟩ | rfl | exact ⟨by omega, HS.out⟩
                          · intro w' hS
                            refine OpTo.wanted ?_ ?_
                            kernel_rfl
                            have HS := Lib.hid hS
                            clear hS
                            go_wp2_with fail
                            all_goals first | exact HS.out | exact ⟨rfl, HS.out⟩ | rfl | exact ⟨by omega, HS.out⟩
                          · intro w' hS
                            refine OpTo.wanted ?_ ?_
                            kernel_rfl
                            have kx := KX.out.below hS KX.out.lt
                            have hl := kx.lt
                            have HS := Lib.hid hS
                            clear hS
                            go_wp2_with fail
                            all_goals first | exact HS.out | exact ⟨rfl, HS.out⟩ | rfl | exact ⟨by omega, HS.out⟩
                          · intro w' hS
                            refine OpTo.wanted ?_ ?_
                            kernel_rfl
                            have kx := KX.out.below hS KX.out.lt
                            have hl := kx.lt
                            have d := kx.ltAt (p := q) (by omega) (by omega)
                            rw [HQ.out] at d
                            have HS := Lib.hid hS
                            clear hS
                            go_wp2_with fail
                            all_goals first | exact HS.out | exact ⟨rfl, HS.out⟩ | rfl | exact ⟨by omega, HS.out⟩
                          · intro w' hS
                            refine OpTo.wanted ?_ ?_
                            kernel_rfl
                            have HS := Lib.hid hS
                            clear hS
                            go_wp2_with fail
                            all_goals first | exact HS.out | exact ⟨rfl, HS.out⟩ | rfl | exact ⟨by omega, HS.out⟩
                          · intro w' hS
                            refine OpTo.wanted ?_ ?_
                            kernel_rfl
                            have HS := Lib.hid hS
                            clear hS
                            go_wp2_with fail
                            all_goals first | exact HS.out | exact ⟨rfl, HS.out⟩ | rfl | exact ⟨by omega, HS.out⟩
                          · intro w' hS
                            refine OpTo.wanted ?_ ?_
                            kernel_rfl
                            have kx := KX.out.below hS KX.out.lt
                            have hl := kx.lt
                            have HS := Lib.hid hS
                            clear hS
                            go_wp2_with fail
                            all_goals first | exact HS.out | exact ⟨rfl, HS.out⟩ | rfl | exact ⟨by omega, HS.out⟩
                          · intro w' hS
                            refine OpTo.wanted ?_ ?_
                            kernel_rfl
                            have kx := KX.out.below hS KX.out.lt
                            have hl := kx.lt
                            have d := kx.ltAt (p := p) (by omega) (by omega)
                            rw [HP.out] at d
                            have HS := Lib.hid hS
                            clear hS
                            go_wp2_with fail
                            all_goals first | exact HS.out | exact ⟨rfl, HS.out⟩ | rfl | exact ⟨by omega, HS.out⟩
                          · intro w' hS
                            refine OpTo.wanted ?_ ?_
                            kernel_rfl
                            have HS := Lib.hid hS
                            clear hS
                            go_wp2_with fail
                            all_goals first | exact HS.out | exact ⟨rfl, HS.out⟩ | rfl | exact ⟨by omega, HS.out⟩
                          · intro w' hS
                            refine OpTo.plain ?_ ?_
                            exact rfl
                            have HS := Lib.hid hS
                            clear hS
                            go_wp2_with fail
                            all_goals first | exact HS.out | exact ⟨rfl, HS.out⟩ | rfl | exact ⟨by omega, HS.out⟩
                        intro w2 hS
                        have KX2 := Lib.hid (KX.out.below hS KX.out.lt)
                        have KG2 := Lib.hid (KG.out.below hS KG.out.lt)
                        have B2 := Lib.hid (BB.out.trans (hS.mono BB.out.size))
                        clear hS
                        have hl2 := KX2.out.lt
                        have e1 := KX2.out.ltAt (p := q) (by omega) (by omega)
                        have e2 := KX2.out.ltAt (p := p) (by omega) (by omega)
                        have fr := KX2.out.frozen p.toNat
                        rw [HQ.out] at e1
                        rw [HP.out] at e2
                        have kx := Lib.hid (KX2.out.ltSet (p := p) (by omega) (by omega) (lq + 1))
                        have kg := Lib.hid (KG2.out.setOther (a := ⟨X, p.toNat, none⟩) (by simp; omega) (.int .i64 (lq + 1)))
                        have kb := Lib.hid (B2.out.setCell (p := ⟨X, p.toNat, none⟩) hwX (.int .i64 (lq + 1)))
                        go_wp2_with fail
                        go_roundw
                        case rel => exact ⟨q + 1, _, by omega, by omega, by go_num, hnew.out, kx.out, kg.out, kb.out⟩
                        case measure => simp [intOf]; omega
                      · have cless : decide (lq + 1 < lr) = false := by simpa using hless
                        have hnew := Lib.hid (LL.out.keep (a := p) (c := q) DD.out (by rw [HP.out, HQ.out]; exact fun h => hless h.2))
                        clear hpos hless
                        go_wp2_with fail
                        refine region_still (by kernel_rfl) [(.pointer (some ⟨g, 0, none⟩)), (.int .u8 p), (.int .u8 q), (.int .i64 y), (.bool true), (.bool true), (.int .u8 q), (.pointer (some ⟨X, q.toNat, none⟩)), (.int .i64 lq), (.int .i64 (lq + 1)), (.int .u8 p), (.pointer (some ⟨X, p.toNat, none⟩)), (.int .i64 lr), (.bool false), (.bool false)]
                          (fun w' => Below W.heap.size W w') (by kernel_rfl) (Below.refl _ _).drew ?_
                        intro af haf
                        simp only [List.toList_toArray, List.append_eq, List.cons_append, List.nil_append, puts, Act.put, List.getD_cons_zero, List.getD_cons_succ, List.setIfInBounds_toArray, List.set_cons_succ, List.set_cons_zero] at haf
                        subst haf
                        refine ⟨?_, ?_⟩
                        · simp only [List.toList_toArray, List.append_eq, List.cons_append, List.nil_append, EachTo]
                          refine ⟨?_, ?_, ?_, ?_, ?_, ?_, ?_, ?_, ?_, ?_, ?_, ?_, ?_, ?_, ?_, trivial⟩
                          · intro w' hS
                            refine OpTo.plain ?_ ?_
                            exact rfl
                            have HS := Lib.hid hS
                            clear hS
                            go_wp2_with fail
                            all_goals first | exact HS.out | exact ⟨rfl, HS.out⟩ | rfl | exact ⟨by omega, HS.out⟩
                          · intro w' hS
                            refine OpTo.plain ?_ ?_
                            exact rfl
                            have HS := Lib.hid hS
                            clear hS
                            go_wp2_with fail
                            all_goals first | exact HS.out | exact ⟨rfl, HS.out⟩ | rfl | exact ⟨by omega, HS.out⟩
                          · intro w' hS
                            refine OpTo.plain ?_ ?_
                            exact rfl
                            have HS := Lib.hid hS
                            clear hS
                            go_wp2_with fail
                            all_goals first | exact HS.out | exact ⟨rfl, HS.out⟩ | rfl | exact ⟨by omega, HS.out⟩
                          · intro w' hS
                            refine OpTo.plain ?_ ?_
                            exact rfl
                            have HS := Lib.hid hS
                            clear hS
                            go_wp2_with fail
                            refine (CC.out w' HS.out).mono ?_
                            rintro e w'' ⟨rfl, hb2⟩
                            exact ⟨rfl, andB HS.out hb2⟩
                          · intro w' hS
                            refine OpTo.plain ?_ ?_
                            exact rfl
                            have HS := Lib.hid hS
                            clear hS
                            go_wp2_with fail
                            all_goals first | exact HS.out | exact ⟨rfl, HS.out⟩ | rfl | exact ⟨by omega, HS.out⟩
                          · intro w' hS
                            refine OpTo.plain ?_ ?_
                            exact rfl
                            have HS := Lib.hid hS
                            clear hS
                            go_wp2_with fail
                            all_goals first | exact HS.out | exact ⟨rfl, HS.out⟩ | rfl | exact ⟨by omega, HS.out⟩
                          · intro w' hS
                            refine OpTo.wanted ?_ ?_
                            kernel_rfl
                            have HS := Lib.hid hS
                            clear hS
                            go_wp2_with fail
                            all_goals first | exact HS.out | exact ⟨rfl, HS.out⟩ | rfl | exact ⟨by omega, HS.out⟩
                          · intro w' hS
                            refine OpTo.wanted ?_ ?_
                            kernel_rfl
                            have kx := KX.out.below hS KX.out.lt
                            have hl := kx.lt
                            have HS := Lib.hid hS
                            clear hS
                            go_wp2_with fail
                            all_goals first | exact HS.out | exact ⟨rfl, HS.out⟩ | rfl | exact ⟨by omega, HS.out⟩
                          · intro w' hS
                            refine OpTo.wanted ?_ ?_
                            kernel_rfl
                            have kx := KX.out.below hS KX.out.lt
                            have hl := kx.lt
                            have d := kx.ltAt (p := q) (by omega) (by omega)
                            rw [HQ.out] at d
                            have HS := Lib.hid hS
                            clear hS
                            go_wp2_with fail
                            all_goals first | exact HS.out | exact ⟨rfl, HS.out⟩ | rfl | exact ⟨by omega, HS.out⟩
                          · intro w' hS
                            refine OpTo.wanted ?_ ?_
                            kernel_rfl
                            have HS := Lib.hid hS
                            clear hS
                            go_wp2_with fail
                            all_goals first | exact HS.out | exact ⟨rfl, HS.out⟩ | rfl | exact ⟨by omega, HS.out⟩
                          · intro w' hS
                            refine OpTo.wanted ?_ ?_
                            kernel_rfl
                            have HS := Lib.hid hS
                            clear hS
                            go_wp2_with fail
                            all_goals first | exact HS.out | exact ⟨rfl, HS.out⟩ | rfl | exact ⟨by omega, HS.out⟩
                          · intro w' hS
                            refine OpTo.wanted ?_ ?_
                            kernel_rfl
                            have kx := KX.out.below hS KX.out.lt
                            have hl := kx.lt
                            have HS := Lib.hid hS
                            clear hS
                            go_wp2_with fail
                            all_goals first | exact HS.out | exact ⟨rfl, HS.out⟩ | rfl | exact ⟨by omega, HS.out⟩
                          · intro w' hS
                            refine OpTo.wanted ?_ ?_
                            kernel_rfl
                            have kx := KX.out.below hS KX.out.lt
                            have hl := kx.lt
                            have d := kx.ltAt (p := p) (by omega) (by omega)
                            rw [HP.out] at d
                            have HS := Lib.hid hS
                            clear hS
                            go_wp2_with fail
                            all_goals first | exact HS.out | exact ⟨rfl, HS.out⟩ | rfl | exact ⟨by omega, HS.out⟩
                          · intro w' hS
                            refine OpTo.wanted ?_ ?_
                            kernel_rfl
                            have HS := Lib.hid hS
                            clear hS
                            go_wp2_with fail
                            all_goals first | exact HS.out | exact ⟨rfl, HS.out⟩ | rfl | exact ⟨by omega, HS.out⟩
                          · intro w' hS
                            refine OpTo.plain ?_ ?_
                            exact rfl
                            have HS := Lib.hid hS
                            clear hS
                            go_wp2_with fail
                            all_goals first | exact HS.out | exact ⟨rfl, HS.out⟩ | rfl | exact ⟨by omega, HS.out⟩
                        intro w2 hS
                        have KX2 := Lib.hid (KX.out.below hS KX.out.lt)
                        have KG2 := Lib.hid (KG.out.below hS KG.out.lt)
                        have B2 := Lib.hid (BB.out.trans (hS.mono BB.out.size))
                        clear hS
                        go_wp2_with fail
                        go_roundw
                        case rel => exact ⟨q + 1, left, by omega, by omega, by go_num, hnew.out, KX2.out, KG2.out, B2.out⟩
                        case measure => simp [intOf]; omega
                    · have cpos : decide (0 < y) = false := by simpa using hpos
                      have hnew := Lib.hid (LL.out.keep (a := p) (c := q) DD.out (by rw [HY.out]; exact fun h => hpos h.1))
                      clear hpos
                      go_wp2_with fail
                      refine region_still (by kernel_rfl) [(.pointer (some ⟨g, 0, none⟩)), (.int .u8 p), (.int .u8 q), (.int .i64 y), (.bool false), (.bool false), undef, undef, undef, undef, undef, undef, undef, undef, (.bool false)]
                        (fun w' => Below W.heap.size W w') (by kernel_rfl) (Below.refl _ _).drew ?_
                      intro af haf
                      simp only [List.toList_toArray, List.append_eq, List.cons_append, List.nil_append, puts, Act.put, List.getD_cons_zero, List.getD_cons_succ, List.setIfInBounds_toArray, List.set_cons_succ, List.set_cons_zero] at haf
                      subst haf
                      refine ⟨?_, ?_⟩
                      · simp only [List.toList_toArray, List.append_eq, List.cons_append, List.nil_append, EachTo]
                        refine ⟨?_, ?_, ?_, ?_, ?_, ?_, ?_, ?_, ?_, ?_, ?_, ?_, ?_, ?_, ?_, trivial⟩
                        · intro w' hS
                          refine OpTo.plain ?_ ?_
                          exact rfl
                          have HS := Lib.hid hS
                          clear hS
                          go_wp2_with fail
                          all_goals first | exact HS.out | exact ⟨rfl, HS.out⟩ | rfl | exact ⟨by omega, HS.out⟩
                        · intro w' hS
                          refine OpTo.plain ?_ ?_
                          exact rfl
                          have HS := Lib.hid hS
                          clear hS
                          go_wp2_with fail
                          all_goals first | exact HS.out | exact ⟨rfl, HS.out⟩ | rfl | exact ⟨by omega, HS.out⟩
                        · intro w' hS
                          refine OpTo.plain ?_ ?_
                          exact rfl
                          have HS := Lib.hid hS
                          clear hS
                          go_wp2_with fail
                          all_goals first | exact HS.out | exact ⟨rfl, HS.out⟩ | rfl | exact ⟨by omega, HS.out⟩
                        · intro w' hS
                          refine OpTo.plain ?_ ?_
                          exact rfl
                          have HS := Lib.hid hS
                          clear hS
                          go_wp2_with fail
                          refine (CC.out w' HS.out).mono ?_
                          rintro e w'' ⟨rfl, hb2⟩
                          exact ⟨rfl, andB HS.out hb2⟩
                        · intro w' hS
                          refine OpTo.plain ?_ ?_
                          exact rfl
                          have HS := Lib.hid hS
                          clear hS
                          go_wp2_with fail
                          all_goals first | exact HS.out | exact ⟨rfl, HS.out⟩ | rfl | exact ⟨by omega, HS.out⟩
                        · intro w' hS
                          refine OpTo.plain ?_ ?_
                          exact rfl
                          have HS := Lib.hid hS
                          clear hS
                          go_wp2_with fail
                          all_goals first | exact HS.out | exact ⟨rfl, HS.out⟩ | rfl | exact ⟨by omega, HS.out⟩
                        · intro w' hS
                          refine OpTo.passed (by kernel_rfl) rfl hS
                        · intro w' hS
                          refine OpTo.passed (by kernel_rfl) rfl hS
                        · intro w' hS
                          refine OpTo.passed (by kernel_rfl) rfl hS
                        · intro w' hS
                          refine OpTo.passed (by kernel_rfl) rfl hS
                        · intro w' hS
                          refine OpTo.passed (by kernel_rfl) rfl hS
                        · intro w' hS
                          refine OpTo.passed (by kernel_rfl) rfl hS
                        · intro w' hS
                          refine OpTo.passed (by kernel_rfl) rfl hS
                        · intro w' hS
                          refine OpTo.passed (by kernel_rfl) rfl hS
                        · intro w' hS
                          refine OpTo.plain ?_ ?_
                          exact rfl
                          have HS := Lib.hid hS
                          clear hS
                          go_wp2_with fail
                          all_goals first | exact HS.out | exact ⟨rfl, HS.out⟩ | rfl | exact ⟨by omega, HS.out⟩
                      intro w2 hS
                      have KX2 := Lib.hid (KX.out.below hS KX.out.lt)
                      have KG2 := Lib.hid (KG.out.below hS KG.out.lt)
                      have B2 := Lib.hid (BB.out.trans (hS.mono BB.out.size))
                      clear hS
                      go_wp2_with fail
                      go_roundw
                      case rel => exact ⟨q + 1, left, by omega, by omega, by go_num, hnew.out, KX2.out, KG2.out, B2.out⟩
                      case measure => simp [intOf]; omega
                  · have hq17 : q = 17 := by omega
                    subst hq17
                    go_wp2_with fail
                    go_roundw
                    case rel => exact ⟨p + 1, left, by omega, by omega, by go_num, ⟨LL.out.lo, LL.out.way, LL.out.all, fun x y hd => LL.out.cur x y ⟨hd.1, hd.2.1, by have := hd.2.1.2; have := hd.2.2; omega⟩⟩, KX.out, KG.out, BB.out⟩
                    case measure => simp [intOf]; omega
              · have hp17 : p = 17 := by omega
                subst hp17
                have LP := Lib.hid (LL.out.pass I0.out (fun x y hx hy => ⟨hx, hy, by have := hx.2; omega⟩))
                go_wp2_with fail
                go_roundw
                case rel => exact ⟨n + 1, left, by omega, by go_num, LP.out, KX.out, KG.out, BB.out⟩
                case measure => simp [intOf]; omega
          · have hn16 : n = 16 := by omega
            subst hn16
            have LD := Lib.hid (fun p => LL.out.done I0.out p)
            have CS := Lib.hid (HSp.out wr _ f s t (IsG.of KG.out) I0.out HS8.out HT8.out)
            have hxl := KX.out.lt
            have hls := KX.out.ltAt (p := s) (by omega) (by omega)
            clear LL
            by_cases hr : inS f s 16 t = true
            · obtain ⟨L, D, E, hlen, hd16, G0, GD, GA, hlsv⟩ : ∃ (L : List Int) (D : Nat), Hid (shortW f s t = L) ∧ L.length = D + 1 ∧ D ≤ 16 ∧ Hid (L[0]? = some s) ∧ Hid (L[D]? = some t) ∧ Hid (∀ i (hi : i < L.length), inP L[i] ∧ inS f L[i] 16 t = true ∧ dst f L[i] t + i = D ∧
                  ∀ (hj : i + 1 < L.length), 0 < f L[i] L[i + 1] ∧ ∀ z, inP z → z < L[i + 1] → 0 < f L[i] z → ¬ (inS f z 16 t = true ∧ dst f z t + (i + 1) = D)) ∧ left s = (D : Int) := by
                refine ⟨goS f t (dst f s t) s, dst f s t, Lib.hid (by unfold shortW; rw [if_pos ⟨⟨c1, c2⟩, ⟨d1, d2⟩, hst.out, hr⟩]), goS_len f t (dst f s t) s, (dst_spec hr).2.1, Lib.hid ?_, Lib.hid ?_, Lib.hid (goS_at I0.out (dst f s t) s ⟨c1, c2⟩ hr rfl), ?_⟩
                · rw [List.getElem?_eq_getElem (by rw [goS_len]; omega), goS_head]
                · rw [List.getElem?_eq_getElem (by rw [goS_len]; omega), goS_last I0.out (p := s) ⟨c1, c2⟩ hr rfl]
                · have := LD.out s
                  rw [if_pos hr] at this
                  exact this
              rw [E.out] at CS
              rw [hlsv] at hls
              clear hr E
              go_wp2_with fail
              refine CS.out.mono ?_
              rintro e w5 ⟨v, rfl, hown, b5⟩
              obtain ⟨ao, cp, rfl, hc1, hc2, _, hc4⟩ := hown.look
              obtain ⟨bl, rfl, _, hbl, hcell, _⟩ := hc4 (by omega)
              have KX2 := Lib.hid (KX.out.below b5 KX.out.lt)
              have KG2 := Lib.hid (KG.out.below b5 KG.out.lt)
              have B2 := Lib.hid (BB.out.trans (b5.mono BB.out.size))
              have CE := Lib.hid (fun j (hj : j < L.length) => show w5.cell? ⟨bl, j, none⟩ = some (.int .u8 L[j]) by rw [hcell j (by omega), List.getElem?_map, List.getElem?_eq_getElem hj]; rfl)
              have hls5 := KX2.out.ltAt (p := s) (by omega) (by omega)
              have hl5 := KX2.out.lt
              have h0 := CE.out 0 (by omega)
              have h1 := CE.out D (by omega)
              rw [show L[0] = s by have := G0.out; rw [List.getElem?_eq_getElem (by omega)] at this; simpa using this] at h0
              rw [show L[D] = t by have := GD.out; rw [List.getElem?_eq_getElem (by omega)] at this; simpa using this] at h1
              unfold maxLen at hc2
              rw [hlsv] at hls5
              clear hown hc4 hcell CS KX KG BB b5 hls
              have hcp0 : L.length ≤ cp := hc1
              have CE0 := Lib.hid hbl
              obtain ⟨N, hN⟩ : ∃ N, N = L.length := ⟨_, rfl⟩
              have HN := Lib.hid hN
              have n1 : D + 1 ≤ N := by omega
              have n2 : N ≤ D + 1 := by omega
              rw [show D = N - 1 by omega] at h1
              have qN : ((N : Int) != (D : Int) + 1) = false := by simp [bne]; omega
              rw [← hN]
              have hcp : N ≤ cp := by omega
              clear hN hlen hc1 hcp0
              go_wp2_with fail
              clear h0 h1 hls5 qN
              go_loopw [15] (StepAt w5 N) (fun i _ => N + 1 - (intOf i).toNat)
              case atStart => exact ⟨0, by omega, rfl, Below.refl _ _⟩
              case round =>
                obtain ⟨j, hj, rfl, hb⟩ := hrel
                have BW := Lib.hid hb
                have hbW := Nat.lt_of_lt_of_le hbl hb.size
                have BB := Lib.hid (B2.out.trans (hb.mono B2.out.size))
                have KX := Lib.hid (KX2.out.below hb KX2.out.lt)
                have KG := Lib.hid (KG2.out.below hb KG2.out.lt)
                have hxl := KX.out.lt
                clear hb
                obtain ⟨W, hW⟩ : ∃ W, W = wr := ⟨_, rfl⟩
                subst hW
                by_cases hjl : j + 1 < N
                · have hji : (j : Int) + 1 < N := by omega
                  have hL1 : j < L.length := by have := HN.out; omega
                  have hL2 : j + 1 < L.length := by have := HN.out; omega
                  have EU := Lib.hid (fun w' (hS : Below W.heap.size W w') => (andB BW.out hS).cell (p := ⟨bl, j, none⟩) hbl |>.trans (CE.out j hL1))
                  have EV := Lib.hid (fun w' (hS : Below W.heap.size W w') => (andB BW.out hS).cell (p := ⟨bl, j + 1, none⟩) hbl |>.trans (CE.out (j + 1) hL2))
                  obtain ⟨u1, u2, u3, u4⟩ := GA.out j hL1
                  obtain ⟨v1, v2, v3, _⟩ := GA.out (j + 1) hL2
                  obtain ⟨y1, y2⟩ := u4 hL2
                  have CC := Lib.hid (fun w' (hS : Below W.heap.size W w') => (gcap_any (KG.out.below hS KG.out.lt) I0.out.outF L[j] L[j + 1]).mono (fun e w'' h => (⟨h.1, h.2 ▸ Below.refl _ _⟩ : e = .returned (.int .i64 (f L[j] L[j + 1])) ∧ Below w'.heap.size w' w'')))
                  have hlv := LD.out L[j + 1]
                  rw [if_pos v2] at hlv
                  have HV3 := Lib.hid v3
                  have Y2 := Lib.hid y2
                  have HU1 := Lib.hid u1
                  have CP6 := Lib.hid (fun (p : Int) w' (hS : Below W.heap.size W w') => (gcap_any (KG.out.below hS KG.out.lt) I0.out.outF L[j] p).mono (fun e w'' h => (⟨h.1, h.2 ▸ Below.refl _ _⟩ : e = .returned (.int .i64 (f L[j] p)) ∧ Below w'.heap.size w' w'')))
                  clear u1 u2 u3 u4 v2 v3 y2
                  generalize L[j + 1] = v at *
                  generalize L[j] = u at *
                  obtain ⟨v0, v9⟩ := v1
                  obtain ⟨y, hy⟩ : ∃ y, f u v = y := ⟨_, rfl⟩
                  obtain ⟨lv, hlv2⟩ : ∃ lv, left v = lv := ⟨_, rfl⟩
                  rw [hy] at CC y1
                  have hne : (lv != (N : Int) - 1 - ((j : Int) + 1)) = false := by
                    have := HV3.out
                    simp [bne]
                    omega
                  have HLV := Lib.hid hlv2
                  have HLV2 := Lib.hid hlv
                  clear hlv hlv2 hy
                  have qv : decide (16 < v) = false := by simp; omega
                  have qy : decide (y < 1) = false := by simp; omega
                  go_wp2_with fail
                  refine region_still (by kernel_rfl) [(.slice (some ⟨bl, 0, none⟩) N cp), (.int .i64 ((j : Int) + 1)), (.pointer (some ⟨bl, j + 1, none⟩)), (.int .u8 v), (.bool false), (.bool false), (.pointer (some ⟨g, 0, none⟩)), (.slice (some ⟨bl, 0, none⟩) N cp), (.int .i64 ((j : Int) + 1)), (.int .i64 j), (.pointer (some ⟨bl, j, none⟩)), (.int .u8 u), (.slice (some ⟨bl, 0, none⟩) N cp), (.int .i64 ((j : Int) + 1)), (.pointer (some ⟨bl, j + 1, none⟩)), (.int .u8 v), (.int .i64 y), (.bool false), (.bool false), (.bool false), (.slice (some ⟨bl, 0, none⟩) N cp), (.int .i64 ((j : Int) + 1)), (.pointer (some ⟨bl, j + 1, none⟩)), (.int .u8 v), (.pointer (some ⟨X, v.toNat, none⟩)), (.int .i64 lv), (.slice (some ⟨bl, 0, none⟩) N cp), (.int .i64 N), (.int .i64 ((N : Int) - 1)), (.int .i64 ((j : Int) + 1)), (.int .i64 ((N : Int) - 1 - ((j : Int) + 1))), (.bool false), (.bool false)]
                    (fun w' => Below W.heap.size W w') (by kernel_rfl) (Below.refl _ _).drew ?_
                  intro af haf
                  simp only [List.toList_toArray, List.append_eq, List.cons_append, List.nil_append, puts, Act.put, List.getD_cons_zero, List.getD_cons_succ, List.setIfInBounds_toArray, List.set_cons_succ, List.set_cons_zero] at haf
                  subst haf
                  refine ⟨?_, ?_⟩
                  · simp only [List.toList_toArray, List.append_eq, List.cons_append, List.nil_append, EachTo]
                    refine ⟨?_, ?_, ?_, ?_, ?_, ?_, ?_, ?_, ?_, ?_, ?_, ?_, ?_, ?_, ?_, ?_, ?_, ?_, ?_, ?_, ?_, ?_, ?_, ?_, ?_, ?_, ?_, ?_, ?_, ?_, ?_, ?_, ?_, trivial⟩
                    · intro w' hS
                      refine OpTo.plain ?_ ?_
                      exact rfl
                      have HS := Lib.hid hS
                      clear hS
                      go_wp2_with fail
                      all_goals first | exact HS.out | exact ⟨rfl, HS.out⟩ | rfl | exact ⟨by omega, HS.out⟩
                    · intro w' hS
                      refine OpTo.plain ?_ ?_
                      exact rfl
                      have HS := Lib.hid hS
                      clear hS
                      go_wp2_with fail
                      all_goals first | exact HS.out | exact ⟨rfl, HS.out⟩ | rfl | exact ⟨by omega, HS.out⟩
                    · intro w' hS
                      refine OpTo.plain ?_ ?_
                      exact rfl
                      have e := EV.out w' hS
                      have hbb := Nat.lt_of_lt_of_le hbW hS.size
                      have HS := Lib.hid hS
                      clear hS
                      go_wp2_with fail
                      all_goals first | exact HS.out | exact ⟨rfl, HS.out⟩ | rfl | exact ⟨by omega, HS.out⟩
                    · intro w' hS
                      refine OpTo.plain ?_ ?_
                      exact rfl
                      have e := EV.out w' hS
                      have hbb := Nat.lt_of_lt_of_le hbW hS.size
                      have HS := Lib.hid hS
                      clear hS
                      go_wp2_with fail
                      all_goals first | exact HS.out | exact ⟨rfl, HS.out⟩ | rfl | exact ⟨by omega, HS.out⟩
                    · intro w' hS
                      refine OpTo.plain ?_ ?_
                      exact rfl
                      have HS := Lib.hid hS
                      clear hS
                      go_wp2_with fail
                      all_goals first | exact HS.out | exact ⟨rfl, HS.out⟩ | rfl | exact ⟨by omega, HS.out⟩
                    · intro w' hS
                      refine OpTo.plain ?_ ?_
                      exact rfl
                      have HS := Lib.hid hS
                      clear hS
                      go_wp2_with fail
                      all_goals first | exact HS.out | exact ⟨rfl, HS.out⟩ | rfl | exact ⟨by omega, HS.out⟩
                    · intro w' hS
                      refine OpTo.wanted ?_ ?_
                      kernel_rfl
                      have HS := Lib.hid hS
                      clear hS
                      go_wp2_with fail
                      all_goals first | exact HS.out | exact ⟨rfl, HS.out⟩ | rfl | exact ⟨by omega, HS.out⟩
                    · intro w' hS
                      refine OpTo.wanted ?_ ?_
                      kernel_rfl
                      have HS := Lib.hid hS
                      clear hS
                      go_wp2_with fail
                      all_goals first | exact HS.out | exact ⟨rfl, HS.out⟩ | rfl | exact ⟨by omega, HS.out⟩
                    · intro w' hS
                      refine OpTo.wanted ?_ ?_
                      kernel_rfl
                      have HS := Lib.hid hS
                      clear hS
                      go_wp2_with fail
                      all_goals first | exact HS.out | exact ⟨rfl, HS.out⟩ | rfl | exact ⟨by omega, HS.out⟩
                    · intro w' hS
                      refine OpTo.wanted ?_ ?_
                      kernel_rfl
                      have HS := Lib.hid hS
                      clear hS
                      go_wp2_with fail
                      all_goals first | exact HS.out | exact ⟨rfl, HS.out⟩ | rfl | exact ⟨by omega, HS.out⟩
                    · intro w' hS
                      refine OpTo.wanted ?_ ?_
                      kernel_rfl
                      have e := EU.out w' hS
                      have hbb := Nat.lt_of_lt_of_le hbW hS.size
                      have HS := Lib.hid hS
                      clear hS
                      go_wp2_with fail
                      all_goals first | exact HS.out | exact ⟨rfl, HS.out⟩ | rfl | exact ⟨by omega, HS.out⟩
                    · intro w' hS
                      refine OpTo.wanted ?_ ?_
                      kernel_rfl
                      have e := EU.out w' hS
                      have hbb := Nat.lt_of_lt_of_le hbW hS.size
                      have HS := Lib.hid hS
                      clear hS
                      go_wp2_with fail
                      all_goals first | exact HS.out | exact ⟨rfl, HS.out⟩ | rfl | exact ⟨by omega, HS.out⟩
                    · intro w' hS
                      refine OpTo.wanted ?_ ?_
                      kernel_rfl
                      have HS := Lib.hid hS
                      clear hS
                      go_wp2_with fail
                      all_goals first | exact HS.out | exact ⟨rfl, HS.out⟩ | rfl | exact ⟨by omega, HS.out⟩
                    · intro w' hS
                      refine OpTo.wanted ?_ ?_
                      kernel_rfl
                      have HS := Lib.hid hS
                      clear hS
                      go_wp2_with fail
                      all_goals first | exact HS.out | exact ⟨rfl, HS.out⟩ | rfl | exact ⟨by omega, HS.out⟩
                    · intro w' hS
                      refine OpTo.wanted ?_ ?_
                      kernel_rfl
                      have e := EV.out w' hS
                      have hbb := Nat.lt_of_lt_of_le hbW hS.size
                      have HS := Lib.hid hS
                      clear hS
                      go_wp2_with fail
                      all_goals first | exact HS.out | exact ⟨rfl, HS.out⟩ | rfl | exact ⟨by omega, HS.out⟩
                    · intro w' hS
                      refine OpTo.wanted ?_ ?_
                      kernel_rfl
                      have e := EV.out w' hS
                      have hbb := Nat.lt_of_lt_of_le hbW hS.size
                      have HS := Lib.hid hS
                      clear hS
                      go_wp2_with fail
                      all_goals first | exact HS.out | exact ⟨rfl, HS.out⟩ | rfl | exact ⟨by omega, HS.out⟩
                    · intro w' hS
                      refine OpTo.wanted ?_ ?_
                      kernel_rfl
                      have HS := Lib.hid hS
                      clear hS
                      go_wp2_with fail
                      refine (CC.out w' HS.out).mono ?_
                      rintro e w'' ⟨rfl, hb2⟩
                      exact ⟨rfl, andB HS.out hb2⟩
                    · intro w' hS
                      refine OpTo.wanted ?_ ?_
                      kernel_rfl
                      have HS := Lib.hid hS
                      clear hS
                      go_wp2_with fail
                      all_goals first | exact HS.out | exact ⟨rfl, HS.out⟩ | rfl | exact ⟨by omega, HS.out⟩
                    · intro w' hS
                      refine OpTo.plain ?_ ?_
                      exact rfl
                      have HS := Lib.hid hS
                      clear hS
                      go_wp2_with fail
                      all_goals first | exact HS.out | exact ⟨rfl, HS.out⟩ | rfl | exact ⟨by omega, HS.out⟩
                    · intro w' hS
                      refine OpTo.plain ?_ ?_
                      exact rfl
                      have HS := Lib.hid hS
                      clear hS
                      go_wp2_with fail
                      all_goals first | exact HS.out | exact ⟨rfl, HS.out⟩ | rfl | exact ⟨by omega, HS.out⟩
                    · intro w' hS
                      refine OpTo.wanted ?_ ?_
                      kernel_rfl
                      have HS := Lib.hid hS
                      clear hS
                      go_wp2_with fail
                      all_goals first | exact HS.out | exact ⟨rfl, HS.out⟩ | rfl | exact ⟨by omega, HS.out⟩
                    · intro w' hS
                      refine OpTo.wanted ?_ ?_
                      kernel_rfl
                      have HS := Lib.hid hS
                      clear hS
                      go_wp2_with fail
                      all_goals first | exact HS.out | exact ⟨rfl, HS.out⟩ | rfl | exact ⟨by omega, HS.out⟩
                    · intro w' hS
                      refine OpTo.wanted ?_ ?_
                      kernel_rfl
                      have e := EV.out w' hS
                      have hbb := Nat.lt_of_lt_of_le hbW hS.size
                      have HS := Lib.hid hS
                      clear hS
                      go_wp2_with fail
                      all_goals first | exact HS.out | exact ⟨rfl, HS.out⟩ | rfl | exact ⟨by omega, HS.out⟩
                    · intro w' hS
                      refine OpTo.wanted ?_ ?_
                      kernel_rfl
                      have e := EV.out w' hS
                      have hbb := Nat.lt_of_lt_of_le hbW hS.size
                      have HS := Lib.hid hS
                      clear hS
                      go_wp2_with fail
                      all_goals first | exact HS.out | exact ⟨rfl, HS.out⟩ | rfl | exact ⟨by omega, HS.out⟩
                    · intro w' hS
                      refine OpTo.wanted ?_ ?_
                      kernel_rfl
                      have kx := KX.out.below hS KX.out.lt
                      have hl := kx.lt
                      have HS := Lib.hid hS
                      clear hS
                      go_wp2_with fail
                      all_goals first | exact HS.out | exact ⟨rfl, HS.out⟩ | rfl | exact ⟨by omega, HS.out⟩
                    · intro w' hS
                      refine OpTo.wanted ?_ ?_
                      kernel_rfl
                      have kx := KX.out.below hS KX.out.lt
                      have hl := kx.lt
                      have d := kx.ltAt (p := v) (by omega) (by omega)
                      rw [HLV.out] at d
                      have HS := Lib.hid hS
                      clear hS
                      go_wp2_with fail
                      all_goals first | exact HS.out | exact ⟨rfl, HS.out⟩ | rfl | exact ⟨by omega, HS.out⟩
                    · intro w' hS
                      refine OpTo.wanted ?_ ?_
                      kernel_rfl
                      have HS := Lib.hid hS
                      clear hS
                      go_wp2_with fail
                      all_goals first | exact HS.out | exact ⟨rfl, HS.out⟩ | rfl | exact ⟨by omega, HS.out⟩
                    · intro w' hS
                      refine OpTo.wanted ?_ ?_
                      kernel_rfl
                      have HS := Lib.hid hS
                      clear hS
                      go_wp2_with fail
                      all_goals first | exact HS.out | exact ⟨rfl, HS.out⟩ | rfl | exact ⟨by omega, HS.out⟩
                    · intro w' hS
                      refine OpTo.wanted ?_ ?_
                      kernel_rfl
                      have HS := Lib.hid hS
                      clear hS
                      go_wp2_with fail
                      all_goals first | exact HS.out | exact ⟨rfl, HS.out⟩ | rfl | exact ⟨by omega, HS.out⟩
                    · intro w' hS
                      refine OpTo.wanted ?_ ?_
                      kernel_rfl
                      have HS := Lib.hid hS
                      clear hS
                      go_wp2_with fail
                      all_goals first | exact HS.out | exact ⟨rfl, HS.out⟩ | rfl | exact ⟨by omega, HS.out⟩
                    · intro w' hS
                      refine OpTo.wanted ?_ ?_
                      kernel_rfl
                      have HS := Lib.hid hS
                      clear hS
                      go_wp2_with fail
                      all_goals first | exact HS.out | exact ⟨rfl, HS.out⟩ | rfl | exact ⟨by omega, HS.out⟩
                    · intro w' hS
                      refine OpTo.wanted ?_ ?_
                      kernel_rfl
                      have HS := Lib.hid hS
                      clear hS
                      go_wp2_with fail
                      all_goals first | exact HS.out | exact ⟨rfl, HS.out⟩ | rfl | exact ⟨by omega, HS.out⟩
                    · intro w' hS
                      refine OpTo.plain ?_ ?_
                      exact rfl
                      have HS := Lib.hid hS
                      clear hS
                      go_wp2_with fail
                      all_goals first | exact HS.out | exact ⟨rfl, HS.out⟩ | rfl | exact ⟨by omega, HS.out⟩
                  intro w6 hS
                  have BW6 := Lib.hid (andB BW.out hS)
                  have hS6 := Lib.hid hS
                  clear hS hne
                  go_wp2_with fail
                  go_loopw [16] (LessAt6 W v) (fun i _ => v.toNat - (intOf i).toNat)
                  case atStart => exact ⟨1, by omega, v0, rfl, hS6.out⟩
                  case round =>
                    obtain ⟨p, hp1, hp2, rfl, hb⟩ := hrel
                    have hS7 := Lib.hid hb
                    have ev := EV.out wr hb
                    have hbr := Nat.lt_of_lt_of_le hbW hb.size
                    clear hb
                    by_cases hpl : p < v
                    · have qp : decide (p < v) = true := by simpa using hpl
                      have KXr := Lib.hid (KX.out.below hS7.out KX.out.lt)
                      have hno := Y2.out p ⟨hp1, by omega⟩ hpl
                      have hlp := LD.out p
                      obtain ⟨y2, hy2⟩ : ∃ y2, f u p = y2 := ⟨_, rfl⟩
                      obtain ⟨lp, hlp2⟩ : ∃ lp, left p = lp := ⟨_, rfl⟩
                      have HLP := Lib.hid hlp2
                      have CC6 := Lib.hid (fun w' (hS : Below wr.heap.size wr w') => (CP6.out p w' (andB hS7.out hS)))
                      rw [hy2] at CC6
                      by_cases hpos : 0 < y2
                      · have qpos : decide (0 < y2) = true := by simpa using hpos
                        have hne2 : (lp == lv) = false := by
                          have h1 := HV3.out
                          have h2 := HLV.out
                          have h3 := HLV2.out
                          have h4 := hno (by rw [hy2]; exact hpos)
                          by_cases hr : inS f p 16 t = true
                          · rw [if_pos hr] at hlp
                            have : ¬ dst f p t + (j + 1) = D := fun h => h4 ⟨hr, h⟩
                            have h5 : lp ≠ lv := by omega
                            simpa using h5
                          · rw [if_neg hr] at hlp
                            have h5 : lp ≠ lv := by omega
                            simpa using h5
                        clear hpos hno hlp hlp2 hy2 hpl
                        go_wp2_with fail
                        refine region_still (by kernel_rfl) [(.pointer (some ⟨g, 0, none⟩)), (.slice (some ⟨bl, 0, none⟩) N cp), (.int .i64 ((j : Int) + 1)), (.int .i64 j), (.pointer (some ⟨bl, j, none⟩)), (.int .u8 u), (.int .u8 p), (.int .i64 y2), (.bool true), (.bool true), (.int .u8 p), (.pointer (some ⟨X, p.toNat, none⟩)), (.int .i64 lp), (.slice (some ⟨bl, 0, none⟩) N cp), (.int .i64 ((j : Int) + 1)), (.pointer (some ⟨bl, j + 1, none⟩)), (.int .u8 v), (.pointer (some ⟨X, v.toNat, none⟩)), (.int .i64 lv), (.bool false), (.bool false)]
                          (fun w' => Below wr.heap.size wr w') (by kernel_rfl) (Below.refl _ _).drew ?_
                        intro af haf
                        simp only [List.toList_toArray, List.append_eq, List.cons_append, List.nil_append, puts, Act.put, List.getD_cons_zero, List.getD_cons_succ, List.setIfInBounds_toArray, List.set_cons_succ, List.set_cons_zero] at haf
                        subst haf
                        refine ⟨?_, ?_⟩
                        · simp only [List.toList_toArray, List.append_eq, List.cons_append, List.nil_append, EachTo]
                          refine ⟨?_, ?_, ?_, ?_, ?_, ?_, ?_, ?_, ?_, ?_, ?_, ?_, ?_, ?_, ?_, ?_, ?_, ?_, ?_, ?_, ?_, trivial⟩
                          · intro w' hS
                            refine OpTo.plain ?_ ?_
                            exact rfl
                            have HS := Lib.hid hS
                            clear hS
                            go_wp2_with fail
                            all_goals first | exact HS.out | exact ⟨rfl, HS.out⟩ | rfl | exact ⟨by omega, HS.out⟩
                          · intro w' hS
                            refine OpTo.plain ?_ ?_
                            exact rfl
                            have HS := Lib.hid hS
                            clear hS
                            go_wp2_with fail
                            all_goals first | exact HS.out | exact ⟨rfl, HS.out⟩ | rfl | exact ⟨by omega, HS.out⟩
                          · intro w' hS
                            refine OpTo.plain ?_ ?_
                            exact rfl
                            have HS := Lib.hid hS
                            clear hS
                            go_wp2_with fail
                            all_goals first | exact HS.out | exact ⟨rfl, HS.out⟩ | rfl | exact ⟨by omega, HS.out⟩
                          · intro w' hS
                            refine OpTo.plain ?_ ?_
                            exact rfl
                            have HS := Lib.hid hS
                            clear hS
                            go_wp2_with fail
                            all_goals first | exact HS.out | exact ⟨rfl, HS.out⟩ | rfl | exact ⟨by omega, HS.out⟩
                          · intro w' hS
                            refine OpTo.plain ?_ ?_
                            exact rfl
                            have e := EU.out w' (andB hS7.out hS)
                            have hbb := Nat.lt_of_lt_of_le hbr hS.size
                            have HS := Lib.hid hS
                            clear hS
                            go_wp2_with fail
                            all_goals first | exact HS.out | exact ⟨rfl, HS.out⟩ | rfl | exact ⟨by omega, HS.out⟩
                          · intro w' hS
                            refine OpTo.plain ?_ ?_
                            exact rfl
                            have e := EU.out w' (andB hS7.out hS)
                            have hbb := Nat.lt_of_lt_of_le hbr hS.size
                            have HS := Lib.hid hS
                            clear hS
                            go_wp2_with fail
                            all_goals first | exact HS.out | exact ⟨rfl, HS.out⟩ | rfl | exact ⟨by omega, HS.out⟩
                          · intro w' hS
                            refine OpTo.plain ?_ ?_
                            exact rfl
                            have HS := Lib.hid hS
                            clear hS
                            go_wp2_with fail
                            all_goals first | exact HS.out | exact ⟨rfl, HS.out⟩ | rfl | exact ⟨by omega, HS.out⟩
                          · intro w' hS
                            refine OpTo.plain ?_ ?_
                            exact rfl
                            have HS := Lib.hid hS
                            clear hS
                            go_wp2_with fail
                            refine (CC6.out w' HS.out).mono ?_
                            rintro e w'' ⟨rfl, hb2⟩
                            exact ⟨rfl, andB HS.out hb2⟩
                          · intro w' hS
                            refine OpTo.plain ?_ ?_
                            exact rfl
                            have HS := Lib.hid hS
                            clear hS
                            go_wp2_with fail
                            all_goals first | exact HS.out | exact ⟨rfl, HS.out⟩ | rfl | exact ⟨by omega, HS.out⟩
                          · intro w' hS
                            refine OpTo.plain ?_ ?_
                            exact rfl
                            have HS := Lib.hid hS
                            clear hS
                            go_wp2_with fail
                            all_goals first | exact HS.out | exact ⟨rfl, HS.out⟩ | rfl | exact ⟨by omega, HS.out⟩
                          · intro w' hS
                            refine OpTo.wanted ?_ ?_
                            kernel_rfl
                            have HS := Lib.hid hS
                            clear hS
                            go_wp2_with fail
                            all_goals first | exact HS.out | exact ⟨rfl, HS.out⟩ | rfl | exact ⟨by omega, HS.out⟩
                          · intro w' hS
                            refine OpTo.wanted ?_ ?_
                            kernel_rfl
                            have kx := KXr.out.below hS KXr.out.lt
                            have hl := kx.lt
                            have HS := Lib.hid hS
                            clear hS
                            go_wp2_with fail
                            all_goals first | exact HS.out | exact ⟨rfl, HS.out⟩ | rfl | exact ⟨by omega, HS.out⟩
                          · intro w' hS
                            refine OpTo.wanted ?_ ?_
                            kernel_rfl
                            have kx := KXr.out.below hS KXr.out.lt
                            have hl := kx.lt
                            have d := kx.ltAt (p := p) (by omega) (by omega)
                            rw [HLP.out] at d
                            have HS := Lib.hid hS
                            clear hS
                            go_wp2_with fail
                            all_goals first | exact HS.out | exact ⟨rfl, HS.out⟩ | rfl | exact ⟨by omega, HS.out⟩
                          · intro w' hS
                            refine OpTo.wanted ?_ ?_
                            kernel_rfl
                            have HS := Lib.hid hS
                            clear hS
                            go_wp2_with fail
                            all_goals first | exact HS.out | exact ⟨rfl, HS.out⟩ | rfl | exact ⟨by omega, HS.out⟩
                          · intro w' hS
                            refine OpTo.wanted ?_ ?_
                            kernel_rfl
                            have HS := Lib.hid hS
                            clear hS
                            go_wp2_with fail
                            all_goals first | exact HS.out | exact ⟨rfl, HS.out⟩ | rfl | exact ⟨by omega, HS.out⟩
                          · intro w' hS
                            refine OpTo.wanted ?_ ?_
                            kernel_rfl
                            have e := EV.out w' (andB hS7.out hS)
                            have hbb := Nat.lt_of_lt_of_le hbr hS.size
                            have HS := Lib.hid hS
                            clear hS
                            go_wp2_with fail
                            all_goals first | exact HS.out | exact ⟨rfl, HS.out⟩ | rfl | exact ⟨by omega, HS.out⟩
                          · intro w' hS
                            refine OpTo.wanted ?_ ?_
                            kernel_rfl
                            have e := EV.out w' (andB hS7.out hS)
                            have hbb := Nat.lt_of_lt_of_le hbr hS.size
                            have HS := Lib.hid hS
                            clear hS
                            go_wp2_with fail
                            all_goals first | exact HS.out | exact ⟨rfl, HS.out⟩ | rfl | exact ⟨by omega, HS.out⟩
                          · intro w' hS
                            refine OpTo.wanted ?_ ?_
                            kernel_rfl
                            have kx := KXr.out.below hS KXr.out.lt
                            have hl := kx.lt
                            have HS := Lib.hid hS
                            clear hS
                            go_wp2_with fail
                            all_goals first | exact HS.out | exact ⟨rfl, HS.out⟩ | rfl | exact ⟨by omega, HS.out⟩
                          · intro w' hS
                            refine OpTo.wanted ?_ ?_
                            kernel_rfl
                            have kx := KXr.out.below hS KXr.out.lt
                            have hl := kx.lt
                            have d := kx.ltAt (p := v) (by omega) (by omega)
                            rw [HLV.out] at d
                            have HS := Lib.hid hS
                            clear hS
                            go_wp2_with fail
                            all_goals first | exact HS.out | exact ⟨rfl, HS.out⟩ | rfl | exact ⟨by omega, HS.out⟩
                          · intro w' hS
                            refine OpTo.wanted ?_ ?_
                            kernel_rfl
                            have HS := Lib.hid hS
                            clear hS
                            go_wp2_with fail
                            all_goals first | exact HS.out | exact ⟨rfl, HS.out⟩ | rfl | exact ⟨by omega, HS.out⟩
                          · intro w' hS
                            refine OpTo.plain ?_ ?_
                            exact rfl
                            have HS := Lib.hid hS
                            clear hS
                            go_wp2_with fail
                            all_goals first | exact HS.out | exact ⟨rfl, HS.out⟩ | rfl | exact ⟨by omega, HS.out⟩
                        intro w8 hS
                        have B8 := Lib.hid (andB hS7.out hS)
                        clear hS hne2
                        go_wp2_with fail
                        go_roundw
                        case rel => exact ⟨p + 1, by omega, by have := of_decide_eq_true qp; omega, by go_num, B8.out⟩
                        case measure => have := of_decide_eq_true qp; simp [intOf]; omega
                      · have qpos : decide (0 < y2) = false := by simpa using hpos
                        clear hpos hno hlp hlp2 hy2 hpl
                        go_wp2_with fail
                        refine region_still (by kernel_rfl) [(.pointer (some ⟨g, 0, none⟩)), (.slice (some ⟨bl, 0, none⟩) N cp), (.int .i64 ((j : Int) + 1)), (.int .i64 j), (.pointer (some ⟨bl, j, none⟩)), (.int .u8 u), (.int .u8 p), (.int .i64 y2), (.bool false), (.bool false), undef, undef, undef, undef, undef, undef, undef, undef, undef, undef, (.bool false)]
                          (fun w' => Below wr.heap.size wr w') (by kernel_rfl) (Below.refl _ _).drew ?_
                        intro af haf
                        simp only [List.toList_toArray, List.append_eq, List.cons_append, List.nil_append, puts, Act.put, List.getD_cons_zero, List.getD_cons_succ, List.setIfInBounds_toArray, List.set_cons_succ, List.set_cons_zero] at haf
                        subst haf
                        refine ⟨?_, ?_⟩
                        · simp only [List.toList_toArray, List.append_eq, List.cons_append, List.nil_append, EachTo]
                          refine ⟨?_, ?_, ?_, ?_, ?_, ?_, ?_, ?_, ?_, ?_, ?_, ?_, ?_, ?_, ?_, ?_, ?_, ?_, ?_, ?_, ?_, trivial⟩
                          · intro w' hS
                            refine OpTo.plain ?_ ?_
                            exact rfl
                            have HS := Lib.hid hS
                            clear hS
                            go_wp2_with fail
                            all_goals first | exact HS.out | exact ⟨rfl, HS.out⟩ | rfl | exact ⟨by omega, HS.out⟩
                          · intro w' hS
                            refine OpTo.plain ?_ ?_
                            exact rfl
                            have HS := Lib.hid hS
                            clear hS
                            go_wp2_with fail
                            all_goals first | exact HS.out | exact ⟨rfl, HS.out⟩ | rfl | exact ⟨by omega, HS.out⟩
                          · intro w' hS
                            refine OpTo.plain ?_ ?_
                            exact rfl
                            have HS := Lib.hid hS
                            clear hS
                            go_wp2_with fail
                            all_goals first | exact HS.out | exact ⟨rfl, HS.out⟩ | rfl | exact ⟨by omega, HS.out⟩
                          · intro w' hS
                            refine OpTo.plain ?_ ?_
                            exact rfl
                            have HS := Lib.hid hS
                            clear hS
                            go_wp2_with fail
                            all_goals first | exact HS.out | exact ⟨rfl, HS.out⟩ | rfl | exact ⟨by omega, HS.out⟩
                          · intro w' hS
                            refine OpTo.plain ?_ ?_
                            exact rfl
                            have e := EU.out w' (andB hS7.out hS)
                            have hbb := Nat.lt_of_lt_of_le hbr hS.size
                            have HS := Lib.hid hS
                            clear hS
                            go_wp2_with fail
                            all_goals first | exact HS.out | exact ⟨rfl, HS.out⟩ | rfl | exact ⟨by omega, HS.out⟩
                          · intro w' hS
                            refine OpTo.plain ?_ ?_
                            exact rfl
                            have e := EU.out w' (andB hS7.out hS)
                            have hbb := Nat.lt_of_lt_of_le hbr hS.size
                            have HS := Lib.hid hS
                            clear hS
                            go_wp2_with fail
                            all_goals first | exact HS.out | exact ⟨rfl, HS.out⟩ | rfl | exact ⟨by omega, HS.out⟩
                          · intro w' hS
                            refine OpTo.plain ?_ ?_
                            exact rfl
                            have HS := Lib.hid hS
                            clear hS
                            go_wp2_with fail
                            all_goals first | exact HS.out | exact ⟨rfl, HS.out⟩ | rfl | exact ⟨by omega, HS.out⟩
                          · intro w' hS
                            refine OpTo.plain ?_ ?_
                            exact rfl
                            have HS := Lib.hid hS
                            clear hS
                            go_wp2_with fail
                            refine (CC6.out w' HS.out).mono ?_
                            rintro e w'' ⟨rfl, hb2⟩
                            exact ⟨rfl, andB HS.out hb2⟩
                          · intro w' hS
                            refine OpTo.plain ?_ ?_
                            exact rfl
                            have HS := Lib.hid hS
                            clear hS
                            go_wp2_with fail
                            all_goals first | exact HS.out | exact ⟨rfl, HS.out⟩ | rfl | exact ⟨by omega, HS.out⟩
                          · intro w' hS
                            refine OpTo.plain ?_ ?_
                            exact rfl
                            have HS := Lib.hid hS
                            clear hS
                            go_wp2_with fail
                            all_goals first | exact HS.out | exact ⟨rfl, HS.out⟩ | rfl | exact ⟨by omega, HS.out⟩
                          · intro w' hS
                            refine OpTo.passed (by kernel_rfl) rfl hS
                          · intro w' hS
                            refine OpTo.passed (by kernel_rfl) rfl hS
                          · intro w' hS
                            refine OpTo.passed (by kernel_rfl) rfl hS
                          · intro w' hS
                            refine OpTo.passed (by kernel_rfl) rfl hS
                          · intro w' hS
                            refine OpTo.passed (by kernel_rfl) rfl hS
                          · intro w' hS
                            refine OpTo.passed (by kernel_rfl) rfl hS
                          · intro w' hS
                            refine OpTo.passed (by kernel_rfl) rfl hS
                          · intro w' hS
                            refine OpTo.passed (by kernel_rfl) rfl hS
                          · intro w' hS
                            refine OpTo.passed (by kernel_rfl) rfl hS
                          · intro w' hS
                            refine OpTo.passed (by kernel_rfl) rfl hS
                          · intro w' hS
                            refine OpTo.plain ?_ ?_
                            exact rfl
                            have HS := Lib.hid hS
                            clear hS
                            go_wp2_with fail
                            all_goals first | exact HS.out | exact ⟨rfl, HS.out⟩ | rfl | exact ⟨by omega, HS.out⟩
                        intro w8 hS
                        have B8 := Lib.hid (andB hS7.out hS)
                        clear hS
                        go_wp2_with fail
                        go_roundw
                        case rel => exact ⟨p + 1, by omega, by have := of_decide_eq_true qp; omega, by go_num, B8.out⟩
                        case measure => have := of_decide_eq_true qp; simp [intOf]; omega
                    · have hpv : p = v := by omega
                      have B7 := Lib.hid (andB BW.out hS7.out)
                      have qp : decide (p < v) = false := by simp; omega
                      clear hpv
                      go_wp2_with fail
                      go_roundw
                      case rel => exact ⟨j + 1, by omega, by go_num, B7.out⟩
                      case measure => simp [intOf]; omega
                · have CL := Lib.hid (HLi.out W)
                  have qe : decide ((j : Int) + 1 < (N : Int)) = false := by simp; omega
                  go_wp2_with fail
                  refine CL.out.mono ?_
                  rintro e w6 ⟨rfl, b6⟩
                  have B6 := Lib.hid (BB.out.trans (b6.mono BB.out.size))
                  clear b6 CL
                  go_wp2_with fail
                  go_ret
                  exact ⟨rfl, B6.out⟩
            · have hr : inS f s 16 t = false := by simpa using hr
              have E : shortW f s t = [] := by unfold shortW; rw [if_neg (fun h => by rw [hr] at h; exact absurd h.2.2.2 (by simp))]
              have LDs := LD.out s
              rw [if_neg (by rw [hr]; simp)] at LDs
              rw [LDs] at hls
              have CS2 := Lib.hid (short_none HSp.out (IsG.of KG.out) I0.out HS8.out HT8.out E)
              clear CS E hr LDs
              go_wp2_with fail
              refine CS2.out.mono ?_
              rintro e w5 ⟨⟨ao, cp, rfl⟩, b5⟩
              have KX2 := Lib.hid (KX.out.below b5 KX.out.lt)
              have hls5 : w5.cell? ⟨X, s.toNat, none⟩ = some (.int .i64 99) := by
                rw [b5.cell (p := ⟨X, s.toNat, none⟩) hxl]; exact hls
              have hxl5 := KX2.out.lt
              have B5 := Lib.hid (BB.out.trans (b5.mono BB.out.size))
              have CL := Lib.hid (HLi.out w5)
              clear b5 CS2 hls
              go_wp2_with fail
              refine CL.out.mono ?_
              rintro e w6 ⟨rfl, b6⟩
              have B6 := Lib.hid (B5.out.trans (b6.mono B5.out.size))
              clear b6 CL
              go_wp2_with fail
              go_ret
              exact ⟨rfl, B6.out⟩
  · obtain ⟨_, rfl⟩ := HG.out.resolve_left (fun h => hok h.1)
    clear HG
    have CS := Lib.hid (short_none HSp.out (IsG.nil w2) (GInv.zero (by decide)) HS8.out HT8.out (shortW_zero s t))
    go_wp2_with fail
    refine CS.out.mono ?_
    rintro e w3 ⟨⟨ao, cp, rfl⟩, b3⟩
    have B3 := Lib.hid (B2.out.trans (b3.mono B2.out.size))
    have CL := Lib.hid (HLi.out w3)
    clear b3 CS
    go_wp2_with fail
    refine CL.out.mono ?_
    rintro e w4 ⟨rfl, b4⟩
    have B4 := Lib.hid (B3.out.trans (b4.mono B3.out.size))
    clear b4 CL
    go_wp2_with fail
    go_ret
    exact ⟨rfl, B4.out⟩

end Go.Proofs.Ytlmebpplhpjdfaa
