/-
  LedgersOf: the walk, for every parties and lines.
-/
import Derived.Test.YtlcilpeljnoclaaROf
import Derived.Test.YtlcilpeljnoclaaPOf3
import Derived.Test.YtlcilpeljnoclaaTwinP
import Derived.Test.YtlcilpeljnoclaaLinesIn
import Derived.Test.YtlcilpeljnoclaaLawSame
import Derived.Test.YtlcilpeljnoclaaLives03
namespace Go.Proofs.Ytlcilpeljnoclaa
open Go.RowKit
set_option linter.unusedSimpArgs false
set_option linter.unusedVariables false

theorem okP.len {zs : List Int} (h : okP zs) : zs.length ≤ 17 := by
  have h1 := open_all h.2 h.1
  have h2 := openTo_len zs 0 17
  rw [h1] at h2
  omega
theorem Twinned.blk {w : World} {base g : Nat} {e : TypeId} {size n : Nat} {xs marks : List Value} (h : Twinned w base g e size n xs marks) : ∃ cs : Array Value, Blk w g cs e ∧ n * size ≤ cs.size := by
  obtain ⟨_, h2⟩ := h
  rcases h2 with ⟨hv, _⟩ | ⟨g', cap, cur, hv, _, hg, hc, _, hs, _⟩
  · cases hv
  · cases hv
    refine ⟨cur, hg, ?_⟩
    rw [hs]
    exact Nat.mul_le_mul_right _ (by omega)
/-- Both answers: a ledger each, or the same error. -/
theorem of_cases (zs : List Int) (ls : List Ln) : (okP zs ∧ ls.length ≤ 64 ∧ okL zs ls) ∨ (∃ er : Int, (er = 1 ∨ er = 9) ∧ (∀ w e w', OfPost w zs ls e w' → e = .returned (.tuple #[.pointer none, .int .i64 er]) ∧ Below w.heap.size w w') ∧
    (∀ w e w', ROfPost w zs ls e w' → e = .returned (.tuple #[.pointer none, .int .i64 er]) ∧ Below w.heap.size w w')) := by
  by_cases h1 : okP zs
  · by_cases h2 : ls.length ≤ 64
    · by_cases h3 : okL zs ls
      · exact .inl ⟨h1, h2, h3⟩
      · refine .inr ⟨1, .inl rfl, ?_, ?_⟩
        · rintro w e w' ⟨hb, ⟨_, _, hk, _⟩ | ⟨_, _, hk⟩ | ⟨he, _⟩⟩
          · exact absurd hk h3
          · omega
          · exact ⟨he, hb⟩
        · rintro w e w' ⟨hb, ⟨_, _, hk, _⟩ | ⟨_, _, hk⟩ | ⟨he, _⟩⟩
          · exact absurd hk h3
          · omega
          · exact ⟨he, hb⟩
    · refine .inr ⟨9, .inr rfl, ?_, ?_⟩
      · rintro w e w' ⟨hb, ⟨_, hk, _⟩ | ⟨he, _⟩ | ⟨_, hk | ⟨_, hk, _⟩⟩⟩
        · omega
        · exact ⟨he, hb⟩
        · exact absurd h1 hk
        · omega
      · rintro w e w' ⟨hb, ⟨_, hk, _⟩ | ⟨he, _⟩ | ⟨_, hk | ⟨_, hk, _⟩⟩⟩
        · omega
        · exact ⟨he, hb⟩
        · exact absurd h1 hk
        · omega
  · refine .inr ⟨1, .inl rfl, ?_, ?_⟩
    · rintro w e w' ⟨hb, ⟨hk, _⟩ | ⟨_, hk, _⟩ | ⟨he, _⟩⟩
      · exact absurd hk h1
      · exact absurd hk h1
      · exact ⟨he, hb⟩
    · rintro w e w' ⟨hb, ⟨hk, _⟩ | ⟨_, hk, _⟩ | ⟨he, _⟩⟩
      · exact absurd hk h1
      · exact absurd hk h1
      · exact ⟨he, hb⟩
/-- While the twins are spoilt: the ledgers stay. -/
def SpoilAt (w : World) (n size gb : Nat) (ty : TypeId) (gx nx : Nat) (tx : TypeId) (g m r base : Nat) (zs : List Int) (ls : List Ln) (vp vl : Value) (i : Value) (wr : World) : Prop :=
  ∃ (k : Nat) (cs : Array Value), k ≤ n ∧ i = .int .i64 k ∧ Blk wr gb cs ty ∧ n * size ≤ cs.size ∧ (∃ cx : Array Value, Blk wr gx cx tx ∧ nx ≤ cx.size) ∧ LedM wr g m zs ls ∧ RefL wr base r zs ls vp vl ∧ Below w.heap.size w wr
theorem SpoilAt.set {w wr : World} {n size gb gx nx g m r base k : Nat} {ty tx : TypeId} {zs : List Int} {ls : List Ln} {vp vl : Value} {cs : Array Value} (hk : k < n) (h1 : Blk wr gb cs ty) (h2 : n * size ≤ cs.size) (h3 : ∃ cx : Array Value, Blk wr gx cx tx ∧ nx ≤ cx.size)
    (h4 : LedM wr g m zs ls) (h5 : RefL wr base r zs ls vp vl) (h6 : Below w.heap.size w wr) (o : Nat) (v : Value) (hx : gx ≠ gb) (hg : gb < g) (hm : gb < m) (hb : gb < base) (hw : w.heap.size ≤ gb) {i : Value} (hi : i = .int .i64 ((k + 1 : Nat) : Int)) :
    SpoilAt w n size gb ty gx nx tx g m r base zs ls vp vl i (wr.setCell ⟨gb, o, none⟩ v) := by
  have kk := (Keep.refl (· = gb) wr).setCell (p := ⟨gb, o, none⟩) (.inl rfl) v
  obtain ⟨cx, hcx, hnx⟩ := h3
  refine ⟨k + 1, cs.setIfInBounds o v, hk, hi, h1.set o v, by simpa using h2, ⟨cx, hcx.keep kk hx, hnx⟩, h4.keep kk (by omega) (by omega), ?_, h6.trans (kk.below h6.size (fun b hb e => by omega))⟩
  refine h5.keep kk (by have := h5.ge; omega) (fun b hb' e => ?_) (fun b hb' e => ?_)
  · have := (owns_type h5.p hb').1; omega
  · have := (owns_type h5.l hb').1; omega
set_option maxHeartbeats 8000000 in
set_option maxRecDepth 100000 in
theorem of_walk (a0 : Option Addr) (len0 cap0 : Nat) (z0 : List Int) (a1 : Option Addr) (len1 cap1 : Nat) (ls : List Ln) (w : World) (h0 : IsRow .u8 w a0 len0 cap0 z0) (h1 : LinesIn w a1 len1 cap1 ls) :
    Calls Try.prog 4 #[.slice a0 len0 cap0, .slice a1 len1 cap1] w fun e w' => e = .returned (.bool true) ∧ Below w.heap.size w w' := by
  by_cases hl0 : ¬ len0 ≤ 30
  · have s0 : decide (30 < (len0 : Int)) = true := by simp; omega
    clear h0 h1 hl0
    go_enter Try.func4, Try.ntmps4
    go_wp2_with fail
    refine (lives03_any _).mono ?_
    rintro e w1 ⟨rfl, b1⟩
    have B1 := Lib.hid b1
    clear b1
    go_wp2_with fail
    go_ret
    exact ⟨rfl, B1.out⟩
  have hl0 := Decidable.not_not.1 hl0
  have s0 : decide (30 < (len0 : Int)) = false := by simp; omega
  by_cases hl1 : ¬ len1 ≤ 100
  · have s1 : decide (100 < (len1 : Int)) = true := by simp; omega
    clear h0 h1 hl1
    go_enter Try.func4, Try.ntmps4
    go_wp2_with fail
    refine (lives03_any _).mono ?_
    rintro e w1 ⟨rfl, b1⟩
    have B1 := Lib.hid b1
    clear b1
    go_wp2_with fail
    go_ret
    exact ⟨rfl, B1.out⟩
  have hl1 := Decidable.not_not.1 hl1
  have s1 : decide (100 < (len1 : Int)) = false := by simp; omega
  obtain ⟨zs, hz, hn0, h8, hR0⟩ := reads_row h0 (by omega)
  have hR1 := h1.reads (by omega)
  have hn1 := h1.1
  have hls := h1.2.1
  have hf := h1.2.2.1
  subst hz
  subst hls
  have P0 := Lib.hid hR0
  have Q0 := Lib.hid hR1
  have H8 := Lib.hid h8
  have HF := Lib.hid hf
  have hz30 : zs.length ≤ 100000000 := by omega
  have hl100 : ls.length ≤ 10000000 := by omega
  have TW := Lib.hid (TwinParties_any hR0 hn0)
  have HN1 := Lib.hid hn1
  clear h0 h1 hn0 hn1 h8 hf hR0 hR1
  go_enter Try.func4, Try.ntmps4
  go_wp2_with fail
  refine TW.out.mono ?_
  rintro e w1 ⟨g1, rfl, hg1, ht1, b1⟩
  have B1 := Lib.hid b1
  have T1 := Lib.hid ht1
  have Q1 := Lib.hid (Q0.out.below b1)
  have P1 := Lib.hid (P0.out.below b1)
  have TL := Lib.hid (TwinLines_any Q1.out HN1.out)
  clear ht1 b1 TW P0 Q0
  go_wp2_with fail
  refine TL.out.mono ?_
  rintro e w2 ⟨g2, rfl, hg2, ht2, b2⟩
  have B2 := Lib.hid (B1.out.trans (b2.mono B1.out.size))
  have T12 := Lib.hid (T1.out.below b2)
  have T2 := Lib.hid ht2
  have Q2 := Lib.hid (Q1.out.below b2)
  have P2 := Lib.hid (P1.out.below b2)
  have hg12 : g1 < g2 := Nat.lt_of_lt_of_le T1.out.cells.1 hg2
  clear ht2 b2 TL P1 Q1
  have OF := Lib.hid (pof_any (T12.out.reads hz30 (by simp)) (T2.out.reads (by omega) (lnCells_len ls)) H8.out HF.out)
  rcases of_cases zs ls with ⟨hP, h64, hL⟩ | ⟨er, her, hA, hB⟩
  · go_wp2_with fail
    refine OF.out.mono ?_
    rintro e w3 ⟨b3, ⟨_, _, _, g, m, hg, hm, rfl, hl3⟩ | ⟨_, _, hk⟩ | ⟨_, hk | ⟨_, _, hk⟩⟩⟩
    rotate_left
    · omega
    · exact absurd hP hk
    · exact absurd hL hk
    have B3 := Lib.hid (B2.out.trans (b3.mono B2.out.size))
    have L3 := Lib.hid hl3
    have T13 := Lib.hid (T12.out.below b3)
    have T23 := Lib.hid (T2.out.below b3)
    have Q3 := Lib.hid (Q2.out.below b3)
    have P3 := Lib.hid (P2.out.below b3)
    have hgg : g2 < g := Nat.lt_of_lt_of_le T2.out.cells.1 hg
    have hgm : g2 < m := Nat.lt_of_lt_of_le T2.out.cells.1 hm
    have hgb : g2 < w3.heap.size := T23.out.cells.1
    have RO := Lib.hid (rof_any P3.out Q3.out HF.out)
    clear hl3 b3 OF P2 Q2 T12 T2
    go_wp2_with fail
    refine RO.out.mono ?_
    rintro e w4 ⟨b4, ⟨_, _, _, r, vp, vl, rfl, hr4⟩ | ⟨_, _, hk⟩ | ⟨_, hk | ⟨_, _, hk⟩⟩⟩
    rotate_left
    · omega
    · exact absurd hP hk
    · exact absurd hL hk
    have B4 := Lib.hid (B3.out.trans (b4.mono B3.out.size))
    have L4 := Lib.hid (L3.out.below b4)
    have R4 := Lib.hid hr4
    have T14 := Lib.hid (T13.out.below b4)
    have T24 := Lib.hid (T23.out.below b4)
    have Q4 := Lib.hid (Q3.out.below b4)
    have P4 := Lib.hid (P3.out.below b4)
    have LP := Lib.hid (LeftParties_any hz30 T14.out P4.out)
    rw [decide_eq_true rfl] at LP
    clear hr4 b4 RO P3 Q3 T13 T23
    go_wp2_with fail
    refine LP.out.mono ?_
    rintro e w5 ⟨rfl, b5⟩
    have B5 := Lib.hid (B4.out.trans (b5.mono B4.out.size))
    have L5 := Lib.hid (L4.out.below b5)
    have R5 := Lib.hid (R4.out.below b5)
    have T15 := Lib.hid (T14.out.below b5)
    have T25 := Lib.hid (T24.out.below b5)
    have Q5 := Lib.hid (Q4.out.below b5)
    have LL := Lib.hid (LeftLines_any hl100 T25.out Q5.out)
    rw [decide_eq_true rfl] at LL
    clear b5 LP P4 Q4 T14 T24
    go_wp2_with fail
    refine LL.out.mono ?_
    rintro e w6 ⟨rfl, b6⟩
    have B6 := Lib.hid (B5.out.trans (b6.mono B5.out.size))
    have L6 := Lib.hid (L5.out.below b6)
    have R6 := Lib.hid (R5.out.below b6)
    have C1 := Lib.hid (T15.out.below b6).blk
    have C2 := Lib.hid (T25.out.below b6).blk
    have hw3 := B3.out.size
    clear b6 LL Q5 T15 T25
    have I6 := Lib.hid (hP.linv hL h64)
    have h17 := hP.len
    have hw1 := B1.out.size
    have hg2w : w.heap.size ≤ g2 := Nat.le_trans hw1 hg2
    go_wp2_with fail
    go_loopw [11] (SpoilAt w ls.length 5 g2 35 g1 (zs.length * 1) 28 g m r w3.heap.size zs ls vp vl) (fun i _ => ls.length - (intOf i).toNat)
    case atStart =>
      obtain ⟨cs, hcs, hn⟩ := C2.out
      exact ⟨0, cs, Nat.zero_le _, rfl, hcs, hn, C1.out, L6.out, R6.out, B6.out⟩
    case round =>
      clear L6 R6 C1 C2 B6
      obtain ⟨k, cs, hk, rfl, hcs, hn, hcx, hlm, hrl, hbw⟩ := hrel
      have K1 := Lib.hid hcs
      have CX := Lib.hid hcx
      have L7 := Lib.hid hlm
      have R7 := Lib.hid hrl
      have B7 := Lib.hid hbw
      clear hcs hcx hlm hrl hbw
      by_cases hkl : k < ls.length
      · have ks := K1.out.lt
        have kf := K1.out.frozen (k * 5 + 4)
        have kc := K1.out.cell (k * 5 + 4)
        rw [Array.getElem?_eq_getElem (by omega)] at kc
        have ST := Lib.hid (fun o v i hi => SpoilAt.set (w := w) (i := i) hkl K1.out hn CX.out L7.out R7.out B7.out o v (by omega) hgg hgm hgb hg2w hi)
        generalize cs[k * 5 + 4]'(by omega) = cv at *
        go_wp2_with fail
        go_roundw
        case rel => exact ST.out _ _ _ (by first | rfl | go_num)
        case measure => simp [intOf]; omega
      · go_wp2_with fail
        go_loopw [12] (SpoilAt w zs.length 1 g1 28 g2 0 35 g m r w3.heap.size zs ls vp vl) (fun i _ => zs.length - (intOf i).toNat)
        case atStart =>
          obtain ⟨cx, hcx, hnx⟩ := CX.out
          exact ⟨0, cx, Nat.zero_le _, rfl, hcx, hnx, ⟨cs, K1.out, Nat.zero_le _⟩, L7.out, R7.out, B7.out⟩
        case round =>
          clear L7 R7 K1 CX B7 hn hk
          obtain ⟨k, cs, hk, rfl, hcs, hn, hcx, hlm, hrl, hbw⟩ := hrel
          have K1 := Lib.hid hcs
          have CX := Lib.hid hcx
          have L7 := Lib.hid hlm
          have R7 := Lib.hid hrl
          have B7 := Lib.hid hbw
          clear hcs hcx hlm hrl hbw
          by_cases hkl : k < zs.length
          · have ks := K1.out.lt
            have kf := K1.out.frozen k
            have kc := K1.out.cell k
            rw [Array.getElem?_eq_getElem (by omega)] at kc
            have ST := Lib.hid (fun o v i hi => SpoilAt.set (w := w) (i := i) hkl K1.out hn CX.out L7.out R7.out B7.out o v (by omega) (by omega) (by omega) (by omega) hg1 hi)
            generalize cs[k]'(by omega) = cv at *
            go_wp2_with fail
            go_roundw
            case rel => exact ST.out _ _ _ (by first | rfl | go_num)
            case measure => simp [intOf]; omega
          · have SA := Lib.hid (lawSame_any L7.out I6.out R7.out (by omega))
            go_wp2_with fail
            refine SA.out.mono ?_
            rintro e w8 ⟨rfl, b8⟩
            have B8 := Lib.hid (B7.out.trans (b8.mono B7.out.size))
            clear b8 SA
            go_wp2_with fail
            refine (lives03_any _).mono ?_
            rintro e w9 ⟨rfl, b9⟩
            have B9 := Lib.hid (B8.out.trans (b9.mono B8.out.size))
            clear b9
            go_wp2_with fail
            go_ret
            exact ⟨rfl, B9.out⟩
  · have HER := Lib.hid her
    have her0 : (er == 0) = false := by rcases her with rfl | rfl <;> rfl
    have her1 : decide (er = 0) = false := by rcases her with rfl | rfl <;> rfl
    have her2 : (er != 0) = true := by rcases her with rfl | rfl <;> rfl
    clear her
    go_wp2_with fail
    refine (OF.out.mono (hA _)).mono ?_
    rintro e w3 ⟨rfl, b3⟩
    have B3 := Lib.hid (B2.out.trans (b3.mono B2.out.size))
    have T13 := Lib.hid (T12.out.below b3)
    have T23 := Lib.hid (T2.out.below b3)
    have Q3 := Lib.hid (Q2.out.below b3)
    have P3 := Lib.hid (P2.out.below b3)
    have RO := Lib.hid ((rof_any P3.out Q3.out HF.out).mono (hB _))
    clear b3 OF P2 Q2 T12 T2 hA hB
    go_wp2_with fail
    refine RO.out.mono ?_
    rintro e w4 ⟨rfl, b4⟩
    have B4 := Lib.hid (B3.out.trans (b4.mono B3.out.size))
    have T14 := Lib.hid (T13.out.below b4)
    have T24 := Lib.hid (T23.out.below b4)
    have Q4 := Lib.hid (Q3.out.below b4)
    have P4 := Lib.hid (P3.out.below b4)
    have LP := Lib.hid (LeftParties_any hz30 T14.out P4.out)
    rw [decide_eq_true rfl] at LP
    clear b4 RO P3 Q3 T13 T23
    go_wp2_with fail
    refine LP.out.mono ?_
    rintro e w5 ⟨rfl, b5⟩
    have B5 := Lib.hid (B4.out.trans (b5.mono B4.out.size))
    have T25 := Lib.hid (T24.out.below b5)
    have Q5 := Lib.hid (Q4.out.below b5)
    have LL := Lib.hid (LeftLines_any hl100 T25.out Q5.out)
    rw [decide_eq_true rfl] at LL
    clear b5 LP P4 Q4 T14 T24
    go_wp2_with fail
    refine LL.out.mono ?_
    rintro e w6 ⟨rfl, b6⟩
    have B6 := Lib.hid (B5.out.trans (b6.mono B5.out.size))
    clear b6 LL Q5 T25
    go_wp2_with fail
    refine (lives03_any _).mono ?_
    rintro e w7 ⟨rfl, b7⟩
    have B7 := Lib.hid (B6.out.trans (b7.mono B6.out.size))
    clear b7
    go_wp2_with fail
    go_ret
    exact ⟨rfl, B7.out⟩

end Go.Proofs.Ytlcilpeljnoclaa
