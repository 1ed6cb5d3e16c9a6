/-
  PathsRound: the walk, for every edges, over what the program's Round tells (written by gen_pround.py).
-/
import Derived.Test.YtlmebpplhpjdfaaEdg
import Derived.Test.YtlmebpplhpjdfaaFresh
import Derived.Test.YtlmebpplhpjdfaaPages
import Derived.Test.YtlmebpplhpjdfaaSameL
import Derived.StillTailTactics
namespace Go.Proofs.Ytlmebpplhpjdfaa
open Go.RowKit
set_option linter.unusedSimpArgs false
set_option linter.unusedVariables false

theorem roundW_len (es : List Ed) : (roundW es).length ≤ 17 := by
  by_cases h : roundW es = []
  · rw [h]; simp
  · obtain ⟨K, l, _, _, _, hR, he⟩ := roundW_some h
    rw [he, backL_len]
    have := hR.k16
    omega
theorem tw_edge {w : World} {base g : Nat} {e : TypeId} {marks : List Value} {es : List Ed} (h : Twinned w base g e 3 es.length (edCells es) marks) {k : Nat} (hk : k < es.length) (j : Nat) (hj : j < 3) : w.cell? ⟨g, k * 3 + j, none⟩ = es[k].vals[j]? := by
  rw [h.cells.2 (k * 3 + j) (by omega), List.getElem?_append_left (by rw [edCells_len]; omega), edCells_get es k j hj hk]
def RedAt (w : World) (W : World) (es : List Ed) (lv i : Value) (wr : World) : Prop :=
  ∃ k : Nat, k ≤ es.length ∧ i = .int .i64 k ∧ wr.ownsRow W.heap.size 50 3 lv (es.take k).length (edCells (es.take k)) ∧ Below W.heap.size W wr
def SameAt (w : World) (es : List Ed) (i : Value) (wr : World) : Prop := ∃ k : Nat, k ≤ es.length ∧ i = .int .i64 k ∧ Below w.heap.size w wr
set_option maxHeartbeats 32000000 in
set_option maxRecDepth 100000 in
theorem pround_walk (HR : RoundProg) (HL : Lives06) (a : Option Addr) (len cap : Nat) (es : List Ed) (w : World) (h0 : SlIn Ed.vals 3 Ed.Fits w a len cap es) :
    Calls Try.prog 4 #[.slice a len cap] w fun e w' => e = .returned (.bool true) ∧ Below w.heap.size w w' := by
  have HZ := Lib.hid h0
  have hcap := h0.2.2.2.1
  have hmax := h0.2.2.2.2.1
  have hzl := h0.2.1
  have HNone := Lib.hid h0.1
  have HFit := Lib.hid h0.2.2.1
  unfold maxLen at hmax
  clear h0
  subst hzl
  have HRo := Lib.hid HR
  have HLi := Lib.hid HL
  clear HR HL
  by_cases hle : ¬ es.length ≤ 300
  · go_enter Try.func4, Try.ntmps4
    go_wp2_with fail
    refine (HLi.out _).mono ?_
    rintro e w1 ⟨rfl, b1⟩
    have B1 := Lib.hid b1
    clear b1
    go_wp2_with fail
    go_ret
    exact ⟨rfl, B1.out⟩
  have hle := Decidable.not_not.1 hle
  have l1 : decide ((300 : Int) < (es.length : Int)) = false := by simp; omega
  have HRd := Lib.hid (HZ.out.edges (by omega))
  obtain ⟨i0, hi, hz0, hz1, hz2⟩ := info_parts info_pe
  obtain ⟨g, hg⟩ : ∃ g, g = w.heap.size := ⟨_, rfl⟩
  go_enter Try.func4, Try.ntmps4
  go_wp2_with (at_make; refine wpList_make_own _ rfl _ _ 45 rfl w.heap.size 48 i0 (Ed.val ⟨0, 0, 0⟩) 3 Try.underlying45 hi hz0 hz1 _ _ _ (es.length + 2) rfl rfl (by first | omega | go_num | (simp; omega)) (by rw [hz2]; omega) (by unfold maxLen; omega) (by simp) ?_)
  intro w1 hown1 hgrow1
  have b1 : Below w.heap.size w w1 := (Below.refl w.heap.size w).grown hgrow1 (Nat.le_refl _) (fun k h => by cases h)
  have HA1 := Lib.hid (HRd.out.below b1)
  go_wp2_with (at_builtin; refine wpList_append_fits_any _ rfl (.tmp 19) (.tmp 20) 45 rfl w.heap.size 48 i0 3 Try.underlying45 hi hz1 w.heap.size 0 (es.length + 2) _ rfl hown1 _ _ _ (edCells es) rfl (edCells_len es) (HA1.out.ofNone HNone.out) HA1.out.src (edCells_oneCell es) (by omega) ?_)
  intro w2 hown2 hgrow2
  have b2 := b1.grown hgrow2 b1.size (fun k h => by cases h; omega)
  go_wp2_with (at_builtin; refine wpList_append_fits _ rfl (.tmp 22) (.tmp 25) 45 rfl w.heap.size 48 i0 3 Try.underlying45 hi hz1 w.heap.size es.length (es.length + 2) _ (by simp [go_sem]) (hown2.alloc _) ⟨w2.heap.size, 0, none⟩ 2 2 (edCells [⟨0, 0, 77⟩, ⟨0, 0, 78⟩]) rfl rfl ?_ (edCells_oneCell [⟨0, 0, 77⟩, ⟨0, 0, 78⟩]) (by omega) ?_)
  · intro j u hj
    rw [Go.WideShapes.add_plain, Nat.zero_add]
    refine ((Blk.new w2 _ 48).cell j).trans ?_
    simpa [edCells, Ed.vals] using hj
  intro w3 hown3 hgrow3
  have b3 : Below w.heap.size w w3 := (b2.alloc b2.size _).grown hgrow3 (by simp; have := b2.size; omega) (fun k h => by cases h; omega)
  have H3 := Lib.hid (show Twinned w3 w.heap.size w.heap.size 48 3 es.length (edCells es) (edCells [⟨0, 0, 77⟩, ⟨0, 0, 78⟩]) from by unfold Twinned; simpa using hown3)
  have B3 := Lib.hid b3
  clear hown1 hown2 hown3 b1 b2 b3 hgrow1 hgrow2 hgrow3 HA1
  go_wp2_with fail
  generalize hg0 : w.heap.size = g at H3 ⊢
  go_loopw [4, 5] (RedAt w w3 es) (fun _ i _ => es.length - (intOf i).toNat)
  case atStart => exact ⟨0, by omega, rfl, World.ownsRow_nil _ _ _ _, Below.refl _ _⟩
  case round =>
    obtain ⟨k, hk, rfl, hown, hb⟩ := hrel
    have O1 := Lib.hid hown
    have BB := Lib.hid hb
    clear hown hb
    by_cases hkl : k < es.length
    · have hki : (k : Int) < es.length := by omega
      obtain ⟨bl, off, rfl, hbl, e0, e1, e2⟩ := ((HZ.out.below B3.out).below BB.out).edge hkl
      have TK := Lib.hid (show es.take (k + 1) = es.take k ++ [es[k]] from (List.take_append_getElem hkl).symm)
      have hl2 : (es.take k).length ≤ 300 := by rw [List.length_take]; omega
      generalize es.take k = out at *
      generalize es[k] = x at *
      go_wp2_with fail
      go_region_law (refine step_append_re rfl (.tmp 36) (.tmp 53) 49 rfl w3.heap.size 50 Try.underlying49 rfl info_re u4 out rfl (owns_below O1.out ((Below.refl _ _).drew.alloc (Nat.le_refl _) _)) wr.heap.size 1 x rfl (Blk.new wr.drew _ _) (by omega) (by have := BB.out.size; simp; omega) ?_; intro v' w' ho hgr; have HO := Lib.hid ho; have HGR := Lib.hid hgr; clear ho hgr)
      all_goals
        have R2 : ∀ k, Value.ownBlock _ = some k → w3.heap.size ≤ k := fun k hk => (owns_type O1.out hk).1
        have O2 := Lib.hid (show World.ownsRow _ w3.heap.size 50 3 _ (out ++ [x]).length (edCells (out ++ [x])) by simpa using HO.out)
        have B2 := Lib.hid (((BB.out.trans ((Below.refl wr.heap.size wr).drew.mono BB.out.size)).alloc (by have := BB.out.size; simpa using this) _).grown HGR.out (by have := BB.out.size; simp; omega) (fun k hk => R2 k hk))
        clear R2 HO HGR
        go_wp2
        go_roundw
        case rel => exact ⟨k + 1, by omega, by go_num, by rw [TK.out]; exact O2.out, B2.out⟩
        case measure => simp [intOf]; omega
    · have hke : es.take k = es := List.take_of_length_le (by omega)
      rw [hke] at O1
      obtain ⟨lo, lc, rfl, _⟩ := owns_open O1.out
      obtain ⟨V0, hV0⟩ : ∃ V0, V0 = wr := ⟨_, rfl⟩
      subst hV0
      have hw3r := BB.out.size
      have H4 := Lib.hid (H3.out.below (BB.out))
      have BW := Lib.hid (B3.out.trans (BB.out.mono B3.out.size))
      have hwr := BW.out.size
      have CA := Lib.hid (HRo.out V0 _ _ es (H4.out.reads (by omega) (edCells_len es)) HFit.out (by omega))
      obtain ⟨L, EL⟩ : ∃ L, Hid (roundW es = L) := ⟨_, Lib.hid rfl⟩
      have hL17 := roundW_len es
      rw [EL.out] at CA hL17
      clear BB H3 B3 hke hk
      go_wp2_with fail
      refine CA.out.mono ?_
      rintro e w4 ⟨va, rfl, hown, b4⟩
      have H5 := Lib.hid (H4.out.below b4)
      have O2 := Lib.hid (owns_below O1.out b4)
      have B4 := Lib.hid (BW.out.trans (b4.mono BW.out.size))
      have CB := Lib.hid (HRo.out w4 _ _ es (H5.out.reads (by omega) (edCells_len es)) HFit.out (by omega))
      rw [EL.out] at CB
      have OA := Lib.hid hown
      have hw34 := b4.size
      clear b4 hown CA H4 O1 BW
      obtain ⟨ao, ca, rfl, HPA⟩ := rowed_party OA.out
      have HPA := Lib.hid HPA
      go_wp2_with fail
      refine CB.out.mono ?_
      rintro e W ⟨vb, rfl, hown, b5⟩
      have H6 := Lib.hid (H5.out.below b5)
      have O3 := Lib.hid (owns_below O2.out b5)
      have B5 := Lib.hid (B4.out.trans (b5.mono B4.out.size))
      have OB := Lib.hid hown
      have OA5 := Lib.hid (Rowed.below OA.out b5)
      obtain ⟨bo, cb, rfl, HPB⟩ := rowed_party OB.out
      have HPB := Lib.hid HPB
      have OLD : Hid (∀ b m q, (Pg.party (.slice ao L.length ca) L.length ca m q).own b → b < w4.heap.size ∧ V0.heap.size ≤ b) := Lib.hid (fun b m q h => ⟨((HPA.out m q).2 b h).2, by have := ((HPA.out m q).2 b h).1; omega⟩)
      have hw45 := b5.size
      have CR := Lib.hid (rround_any (Reads.of_owns O3.out (by omega)) HFit.out (by omega))
      rw [EL.out] at CR
      clear b5 hown CB H5 O2 OA HPA B4
      go_wp2_with fail
      refine CR.out.mono ?_
      rintro e w6 ⟨vr, rfl, hown, b6⟩
      have H7 := Lib.hid (H6.out.below b6)
      have B6 := Lib.hid (B5.out.trans (b6.mono B5.out.size))
      have OA6 := Lib.hid (Rowed.below OA5.out b6)
      have OB6 := Lib.hid (Rowed.below OB.out b6)
      have CS := Lib.hid (SameParties_any (Rowed.reads OA6.out (by omega)) (Reads.of_owns hown (by omega)))
      rw [decide_eq_true rfl] at CS
      have hw56 := b6.size
      clear b6 hown CR H6 O3 OB OA5 B5
      go_wp2_with fail
      refine CS.out.mono ?_
      rintro e w7 ⟨rfl, b7⟩
      have H8 := Lib.hid (H7.out.below b7)
      have B7 := Lib.hid (B6.out.trans (b7.mono B6.out.size))
      have OA7 := Lib.hid (Rowed.below OA6.out b7)
      have OB7 := Lib.hid (Rowed.below OB6.out b7)
      have CS := Lib.hid (SameParties_any (Rowed.reads OA7.out (by omega)) (Rowed.reads OB7.out (by omega)))
      rw [decide_eq_true rfl] at CS
      have hw67 := b7.size
      clear b7 H7 OA6 OB6 B6
      go_wp2_with fail
      refine CS.out.mono ?_
      rintro e w8 ⟨rfl, b8⟩
      have H9 := Lib.hid (H8.out.below b8)
      have B8 := Lib.hid (B7.out.trans (b8.mono B7.out.size))
      have OA8 := Lib.hid (Rowed.below OA7.out b8)
      have OB8 := Lib.hid (Rowed.below OB7.out b8)
      have hw78 := b8.size
      clear b8 H8 OA7 OB7 B7
      go_wp2_with fail
      go_loopw [8] (SameAt w8 es) (fun i _ => es.length - (intOf i).toNat)
      case atStart => exact ⟨0, by omega, rfl, Below.refl _ _⟩
      case round =>
        obtain ⟨k, hk, rfl, hb⟩ := hrel
        have BB := Lib.hid hb
        clear hb
        by_cases hkl : k < es.length
        · have hki : (k : Int) < es.length := by omega
          obtain ⟨bl, off, rfl, hbl, e0, e1, e2⟩ := ((HZ.out.below B8.out).below BB.out).edge hkl
          have hc := H9.out.below BB.out
          have hgl := hc.cells.1
          have f0 : wr.cell? ⟨g, k * 3, none⟩ = some (.int .u8 es[k].fr) := tw_edge hc hkl 0 (by omega)
          have f1 : wr.cell? ⟨g, k * 3 + 1, none⟩ = some (.int .u8 es[k].tt) := tw_edge hc hkl 1 (by omega)
          have f2 : wr.cell? ⟨g, k * 3 + 2, none⟩ = some (.int .i8 es[k].co) := tw_edge hc hkl 2 (by omega)
          clear hc
          generalize es[k] = x at *
          go_wp2
          go_region
          all_goals
            go_wp2
            go_roundw
            case rel => exact ⟨k + 1, by omega, by go_num, by first | exact BB.out.drew | exact BB.out⟩
            case measure => simp [intOf]; omega
        · have H10 := H9.out.below BB.out
          have hc := H10.cells
          have hgl := hc.1
          have m2 : wr.cell? ⟨g, es.length * 3 + 2, none⟩ = some (.int .i8 77) := by
            rw [hc.2 _ (by omega), List.getElem?_append_right (by rw [edCells_len]; omega), edCells_len, show es.length * 3 + 2 - es.length * 3 = 2 by omega]; rfl
          have n2 : wr.cell? ⟨g, es.length * 3 + 3 + 2, none⟩ = some (.int .i8 78) := by
            rw [hc.2 _ (by omega), List.getElem?_append_right (by rw [edCells_len]; omega), edCells_len, show es.length * 3 + 3 + 2 - es.length * 3 = 5 by omega]; rfl
          have hc2 : es.length + 2 - es.length = 2 := by omega
          clear hc H10
          have hw9 := BB.out.size
          have B9 := Lib.hid (B8.out.trans (BB.out.mono B8.out.size))
          have FR : Hid (FarR V0.heap.size (fun w' => Below w.heap.size w w')) := Lib.hid fun w1 w2 S h k hS => h.trans (k.below (B := w.heap.size) h.size (fun k hk s => by have := hS _ s; omega))
          have T0 := Lib.hid (TailO.start FR.out B9.out (by omega))
          have OA9 := Lib.hid ((Rowed.below OA8.out BB.out).alloc (.cells #[.slice none 0 0] 42))
          have OB9 := Lib.hid ((Rowed.below OB8.out BB.out).alloc (.cells #[.slice none 0 0] 42))
          have EW : (wr.alloc (.cells #[.slice none 0 0] 42)).heap.size = wr.heap.size + 1 := by simp
          have CF := Lib.hid (parties_any T0.out.book (by simp) ao L.length ca)
          clear BB B8 OA8 OB8 H9 HPB
          go_wp2_with fail
          generalize wr.alloc (.cells #[.slice none 0 0] 42) = V at *
          generalize hbk : wr.heap.size = bk at *
          refine CF.out.mono ?_
          rintro e V2 hp
          have he := hp.1
          subst he
          obtain ⟨ao1, pc1, hv1, hm1⟩ := rowed_party OA9.out
          simp only [Value.slice.injEq] at hv1
          obtain ⟨rfl, _, rfl⟩ := hv1
          obtain ⟨bv1, ht1⟩ := T0.out.add FR.out (hm1 _ _).1 (fun b hb => ⟨((hm1 _ _).2 b hb).1, by simp⟩) hp
          obtain ⟨_, _, hbkk, hkk⟩ := hp
          have T1 := Lib.hid ht1
          have OB10 := Lib.hid (Rowed.keep OB9.out hkk (fun b hb e => by
            obtain ⟨q1, q2, cur, q3⟩ := Rowed.type OB9.out hb
            rcases e with e | e
            · rw [e] at q3
              have := T0.out.book.blk.out
              rw [q3] at this
              simp only [Option.some.injEq, Obj.cells.injEq] at this
              exact absurd this.2.1 (by decide)
            · cases e))
          clear ht1 hbkk hkk CF OB9 OA9 T0 hm1
          have CF := Lib.hid (parties_any T1.out.book (by simp) bo L.length cb)
          go_wp2_with fail
          refine CF.out.mono ?_
          rintro e V3 hp
          have he := hp.1
          subst he
          obtain ⟨bo1, pc2, hv2, hm2⟩ := rowed_party OB10.out
          simp only [Value.slice.injEq] at hv2
          obtain ⟨rfl, _, rfl⟩ := hv2
          obtain ⟨bv2, ht2⟩ := T1.out.add FR.out (hm2 _ _).1 (fun b hb => ⟨by have := ((hm2 _ _).2 b hb).1; omega, fun q hq hc => by
            simp only [List.nil_append, List.mem_singleton] at hq
            subst hq
            have h1 := (OLD.out b _ _ hc).1
            have h2 := ((hm2 _ _).2 b hb).1
            omega⟩) hp
          have T2 := Lib.hid ht2
          clear hp ht2 CF OB10 T1 hm2
          have CV := Lib.hid (apart_any T2.out.book (by simp) T2.out.mem T2.out.apart)
          go_wp2_with fail
          refine CV.out.mono ?_
          rintro e V4 ⟨rfl, ky⟩
          have B11 := Lib.hid (T2.out.done FR.out ky)
          have CL := Lib.hid (HLi.out V4)
          clear ky CV T2 FR
          go_wp2_with fail
          refine CL.out.mono ?_
          rintro e V5 ⟨rfl, b9⟩
          have B12 := Lib.hid (B11.out.trans (b9.mono B11.out.size))
          clear b9 CL
          go_wp2_with fail
          go_ret
          exact ⟨rfl, B12.out⟩

end Go.Proofs.Ytlmebpplhpjdfaa
