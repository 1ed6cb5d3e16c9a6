/-
  countinghouseref06: reach.
-/
import Derived.Test.YtgebplplpenabaaWayMath
import Derived.Test.YtgebplplpenabaaGrd
namespace Go.Proofs.Ytgebplplpenabaa
open Go.RowKit
set_option linter.unusedSimpArgs false
set_option linter.unusedVariables false

theorem rowA_set (v : Int → Int → Value) (p : Int) {i : Nat} (hi : i < 17) (u : Value) : (rowA v p).setIfInBounds i u = rowA (fun a q => if q = (i : Int) then u else v a q) p := by
  apply Array.ext_getElem?
  intro j
  by_cases hj : j < 17
  · rw [rowA_get _ p hj]
    by_cases h : i = j
    · subst h
      rw [Array.getElem?_setIfInBounds_self_of_lt (by rw [rowA_size]; exact hj), if_pos rfl]
    · rw [Array.getElem?_setIfInBounds_ne h, rowA_get v p hj, if_neg (by omega)]
  · rw [Array.getElem?_eq_none (by simp [rowA_size]; omega), Array.getElem?_eq_none (by rw [rowA_size]; omega)]
theorem rowA_congr {v u : Int → Int → Value} {p p' : Int} (h : ∀ i : Nat, i < 17 → v p i = u p' i) : rowA v p = rowA u p' := by
  apply Array.ext_getElem?
  intro j
  by_cases hj : j < 17
  · rw [rowA_get v p hj, rowA_get u p' hj, h j hj]
  · rw [Array.getElem?_eq_none (by rw [rowA_size]; omega), Array.getElem?_eq_none (by rw [rowA_size]; omega)]
/-- Seventeen answers. -/
def inA (b : Int → Bool) : Array Value := rowA (fun _ q => .bool (b q)) 0
theorem inA_size (b : Int → Bool) : (inA b).size = 17 := rowA_size _ _
theorem inA_get (b : Int → Bool) {i : Nat} (h : i < 17) : (inA b)[i]? = some (.bool (b i)) := rowA_get _ _ h
theorem inA_set (b : Int → Bool) {i : Nat} (hi : i < 17) (u : Bool) : (inA b).setIfInBounds i (.bool u) = inA fun q => if q = (i : Int) then u else b q := by
  unfold inA
  rw [rowA_set _ _ hi]
  refine rowA_congr fun j hj => ?_
  dsimp only
  split <;> rfl
theorem inA_congr {b c : Int → Bool} (h : ∀ i : Nat, i < 17 → b i = c i) : inA b = inA c := rowA_congr fun i hi => by rw [h i hi]
theorem inA_one (b : Int → Bool) : (inA b).all (·.oneCell') = true := by
  rw [Array.all_eq_true]
  intro i hi
  have h17 : i < 17 := by rw [inA_size] at hi; exact hi
  have := inA_get b h17
  rw [Array.getElem?_eq_getElem hi] at this
  simp only [Option.some.injEq] at this
  rw [this]
  rfl
theorem Blk.inAt {w : World} {g : Nat} {b : Int → Bool} {t : TypeId} (h : Blk w g (inA b) t) {p : Int} (h0 : 0 ≤ p) (h1 : p < 17) : w.cell? ⟨g, p.toNat, none⟩ = some (.bool (b p)) := by
  rw [h.cell, inA_get b (by omega), Int.toNat_of_nonneg h0]
theorem Blk.inSet {w : World} {g : Nat} {b : Int → Bool} {t : TypeId} (h : Blk w g (inA b) t) {p : Int} (h0 : 0 ≤ p) (h1 : p < 17) (u : Bool) : Blk (w.setCell ⟨g, p.toNat, none⟩ (.bool u)) g (inA fun q => if q = p then u else b q) t := by
  have := h.set p.toNat (.bool u)
  rw [inA_set b (by omega), Int.toNat_of_nonneg h0] at this
  exact this
theorem zero_in : (∀ w, (zeroValue 61).run Try.prog w = .ok (.agg (inA fun _ => false)) w) ∧ (Try.prog.info? 61).map (·.size) = some 17 :=
  zero_of_info (by kernel_rfl)
theorem info_in (b : Int → Bool) : (Try.prog.info? 61).map (·.size) = some (inA b).size := by rw [inA_size]; exact zero_in.2
attribute [irreducible] inA
/-- The edges that came so far, of those who are in: whom they lead to. -/
def ledTo (f : Int → Int → Int) (p : Int) (n : Nat) (es : List Fw) (q : Int) : Bool := inS f p n q || es.any fun e => inS f p n e.fr && e.tt == q
theorem ledTo_next {f : Int → Int → Int} {p : Int} {n : Nat} {es : List Fw} {k : Nat} (hk : k < es.length) (q : Int) : ledTo f p n (es.take (k + 1)) q = if inS f p n es[k].fr = true ∧ q = es[k].tt then true else ledTo f p n (es.take k) q := by
  unfold ledTo
  rw [List.take_succ_eq_append_getElem hk, List.any_append]
  simp only [List.any_cons, List.any_nil, Bool.or_false]
  by_cases h : inS f p n es[k].fr = true ∧ q = es[k].tt
  · rw [if_pos h, h.1, h.2]; simp
  · rw [if_neg h]
    have : (inS f p n es[k].fr && es[k].tt == q) = false := by
      cases h1 : inS f p n es[k].fr with
      | false => rfl
      | true =>
        have : es[k].tt ≠ q := fun e => h ⟨h1, e.symm⟩
        simp [this]
    rw [this]; simp
theorem ledTo_all {f : Int → Int → Int} {B : Int} (h : GInv f B) (p : Int) (n : Nat) (q : Int) : ledTo f p n (allE f) q = inS f p (n + 1) q := by
  show (inS f p n q || _) = (inS f p n q || parts.any fun r => inS f p n r && decide (0 < f r q))
  congr 1
  rw [Bool.eq_iff_iff, List.any_eq_true, List.any_eq_true]
  constructor
  · rintro ⟨e, he, h1⟩
    rw [Bool.and_eq_true, beq_iff_eq] at h1
    obtain ⟨e1, e2, e3, e4⟩ := allE_mem.1 he
    refine ⟨e.fr, parts_mem.2 e1, ?_⟩
    rw [Bool.and_eq_true, decide_eq_true_eq]
    refine ⟨h1.1, ?_⟩
    rw [← h1.2, ← e3]; exact e4
  · rintro ⟨r, hr, h1⟩
    rw [Bool.and_eq_true, decide_eq_true_eq] at h1
    refine ⟨⟨r, q, f r q⟩, allE_mem.2 ⟨parts_mem.1 hr, (h.ends h1.2).2.1, rfl, h1.2⟩, ?_⟩
    rw [Bool.and_eq_true, beq_iff_eq]
    exact ⟨h1.1, rfl⟩
def ReachAt (w : World) (f : Int → Int → Int) (p : Int) (n : Nat) (i : Value) (wr : World) : Prop :=
  ∃ k : Nat, k ≤ n ∧ i = .int .i64 k ∧ Blk wr w.heap.size (inA fun _ => false) 61 ∧ Blk wr (w.heap.size + 1) (inA (inS f p k)) 61 ∧ Below w.heap.size w wr
def ReachIn (w : World) (f : Int → Int → Int) (p : Int) (k W : Nat) (i : Value) (wr : World) : Prop :=
  ∃ j : Nat, j ≤ (allE f).length ∧ i = .int .i64 j ∧ Blk wr w.heap.size (inA fun _ => false) 61 ∧ Blk wr (w.heap.size + 1) (inA (ledTo f p k ((allE f).take j))) 61 ∧ Blk wr W (inA (inS f p k)) 61 ∧ Below w.heap.size w wr
set_option maxHeartbeats 8000000 in
set_option maxRecDepth 100000 in
theorem reach_any {w : World} {base g : Nat} {f : Int → Int → Int} {B : Int} {vl : Value} (h : RefG w base g (allE f) vl) (hI : GInv f B) {p : Int} (hp : inP p) {n : Nat} (hn : n ≤ 100) :
    Calls Try.prog 37 #[.pointer (some ⟨g, 0, none⟩), .int .u8 p, .int .i64 n] w fun e w' => e = .returned (.agg (inA (inS f p n))) ∧ Below w.heap.size w w' := by
  obtain ⟨ao, cap, rfl, hc1, hc2, hc3, hc4⟩ := owns_open h.row
  have HC := Lib.hid hc4
  have HI := Lib.hid hI
  have hg := h.blk.lt
  have dg0 := h.blk.cell 0
  simp at dg0
  have DG := Lib.hid dg0
  have hll := prefE_len f 256
  have hll2 : (allE f).length ≤ 256 := hll
  unfold maxLen at hc2
  have hz := zero_in.1
  obtain ⟨p1, p2⟩ := hp
  have ES : (inA fun _ => false).setIfInBounds p.toNat (.bool true) = inA (inS f p 0) := by
    rw [inA_set _ (by omega), Int.toNat_of_nonneg (by omega)]
    congr 1
  have B1 := Lib.hid (((Below.refl w.heap.size w).alloc (Nat.le_refl _) (.cells (inA fun _ => false) 61)).alloc (by simp) (.cells (inA (inS f p 0)) 61))
  have R1 := Lib.hid ((Blk.new w (inA fun _ => false) 61).alloc (.cells (inA (inS f p 0)) 61))
  have K1 := Lib.hid (Blk.newAt (w.alloc (.cells (inA fun _ => false) 61)) (inA (inS f p 0)) 61 (g := w.heap.size + 1) (by simp))
  have K0 := Blk.newAt (w.alloc (.cells (inA fun _ => false) 61)) (inA fun _ => false) 61 (g := w.heap.size + 1) (by simp)
  have dk := K0.inAt (p := p) (by omega) (by omega)
  have fk := K0.frozen p.toNat
  clear hc3 hc4 h hI K0 hll dg0
  go_enter Try.func37, Try.ntmps37
  go_wp2_with fail
  generalize (w.alloc (.cells (inA fun _ => false) 61)).alloc (.cells (inA (inS f p 0)) 61) = W1 at *
  clear dk fk ES
  go_loopw [8] (ReachAt w f p n) (fun i _ => n - (intOf i).toNat)
  case atStart => exact ⟨0, by omega, rfl, R1.out, K1.out, B1.out⟩
  case round =>
    clear R1 K1 B1
    obtain ⟨k, hk, rfl, hR, hK, hB⟩ := hrel
    have R1 := Lib.hid hR
    have K1 := Lib.hid hK
    have B1 := Lib.hid hB
    clear hR hK hB
    by_cases hkn : k < n
    · have hkl := K1.out.lt
      have Z := Lib.hid (Blk.new wr (inA fun _ => false) 61)
      have E1 := World.setRow_alloc_new wr (inA fun _ => false) (inA (inS f p k)) 61
      have B2 := Lib.hid (B1.out.alloc B1.out.size (.cells (inA (inS f p k)) 61))
      have R2 := Lib.hid (R1.out.alloc (.cells (inA (inS f p k)) 61))
      have K2 := Lib.hid (K1.out.alloc (.cells (inA (inS f p k)) 61))
      have S2 := Lib.hid (Blk.new wr (inA (inS f p k)) 61)
      go_wp2_with first
        | ((with_reducible refine wpList_load_row ?_ 61 (.tmp 7) ?_ (w.heap.size + 1) ?_ 61 (inA (inS f p k)) (0, 0) _ K1.out.out Try.underlying61 ?_ (info_in _) ?_); exact rfl; exact rfl; exact rfl; exact rfl)
        | ((with_reducible refine wpList_store_row ?_ 61 (.tmp 9) (.tmp 18) ?_ wr.heap.size (inA (inS f p k)) ?_ ?_ 61 _ Z.out.out (info_in _) (by simp only [inA_size]) (inA_one _) ?_); exact rfl; exact rfl; exact rfl; exact rfl; rw [E1])
      generalize hW : wr.alloc (.cells (inA (inS f p k)) 61) = W at *
      generalize hX : wr.heap.size = X at *
      clear hW hX E1 Z
      go_loopw [10] (ReachIn w f p k X) (fun i _ => (allE f).length - (intOf i).toNat)
      case atStart => exact ⟨0, by omega, rfl, R2.out, by rw [show ledTo f p k ((allE f).take 0) = inS f p k by funext q; simp [ledTo]]; exact K2.out, S2.out, B2.out⟩
      case round =>
        clear R2 K2 S2 B2 R1 K1 B1
        obtain ⟨j, hj, rfl, hR, hK, hS, hB⟩ := hrel
        have R1 := Lib.hid hR
        have K1 := Lib.hid hK
        have S1 := Lib.hid hS
        have B1 := Lib.hid hB
        clear hR hK hS hB
        have dg := (B1.out.cell (p := ⟨g, 0, none⟩) hg).trans DG.out
        have hgr := Nat.lt_of_lt_of_le hg B1.out.size
        by_cases hjl : j < (allE f).length
        · obtain ⟨bl, rfl, hb1, hb2, hcell, _⟩ := HC.out (by omega)
          have hbr := Nat.lt_of_lt_of_le hb2 B1.out.size
          obtain ⟨e0, e1, _⟩ := fw_cells hcell hjl
          have d0 := (B1.out.cell (p := ⟨bl, j * 3, none⟩) hb2).trans e0
          have d1 := (B1.out.cell (p := ⟨bl, j * 3 + 1, none⟩) hb2).trans e1
          have NX := Lib.hid (ledTo_next (f := f) (p := p) (n := k) hjl)
          obtain ⟨⟨a1, a2⟩, ⟨b1, b2⟩, _⟩ := allE_mem.1 (List.getElem_mem hjl)
          generalize (allE f)[j] = x at *
          have ds := S1.out.inAt (p := x.fr) (by omega) (by omega)
          have hsl := S1.out.lt
          have hil := K1.out.lt
          by_cases hin : inS f p k x.fr = true
          · rw [hin] at ds
            have dk := K1.out.inAt (p := x.tt) (by omega) (by omega)
            have fk := K1.out.frozen x.tt.toNat
            have K2 := Lib.hid (K1.out.inSet (p := x.tt) (by omega) (by omega) true)
            have R2 := Lib.hid (R1.out.setOther (a := ⟨w.heap.size + 1, x.tt.toNat, none⟩) (by simp) (.bool true))
            have S2 := Lib.hid (S1.out.setOther (a := ⟨w.heap.size + 1, x.tt.toNat, none⟩) (by simp; omega) (.bool true))
            have B2 := Lib.hid (B1.out.setCell (p := ⟨w.heap.size + 1, x.tt.toNat, none⟩) (by simp) (.bool true))
            have NE : Hid ((fun q => if q = x.tt then true else ledTo f p k ((allE f).take j) q) = ledTo f p k ((allE f).take (j + 1))) := Lib.hid (by
              funext q
              rw [NX.out q, hin]
              simp)
            go_wp2_with fail
            go_roundw
            case rel => exact ⟨j + 1, by omega, by go_num, R2.out, by rw [← NE.out]; exact K2.out, S2.out, B2.out⟩
            case measure => simp [intOf]; omega
          · have hin : inS f p k x.fr = false := by simpa using hin
            rw [hin] at ds
            have NE : Hid (ledTo f p k ((allE f).take j) = ledTo f p k ((allE f).take (j + 1))) := Lib.hid (by
              funext q
              rw [NX.out q, hin]
              simp)
            go_wp2_with fail
            go_roundw
            case rel => exact ⟨j + 1, by omega, by go_num, R1.out, by rw [← NE.out]; exact K1.out, S1.out, B1.out⟩
            case measure => simp [intOf]; omega
        · have hjj : (allE f).take j = allE f := List.take_of_length_le (by omega)
          rw [hjj] at K1
          have NE : Hid (ledTo f p k (allE f) = inS f p (k + 1)) := Lib.hid (funext fun q => ledTo_all HI.out p k q)
          rw [NE.out] at K1
          go_wp2_with fail
          go_roundw
          case rel => exact ⟨k + 1, by omega, by go_num, R1.out, K1.out, B1.out⟩
          case measure => simp [intOf]; omega
    · have hkn2 : k = n := by omega
      subst hkn2
      go_wp2_with first
        | ((with_reducible refine wpList_load_row ?_ 61 (.tmp 7) ?_ (w.heap.size + 1) ?_ 61 (inA (inS f p k)) (0, 0) _ K1.out.out Try.underlying61 ?_ (info_in _) ?_); exact rfl; exact rfl; exact rfl; exact rfl)
        | ((with_reducible refine wpList_store_row ?_ 61 (.tmp 6) (.tmp 47) ?_ w.heap.size (inA (inS f p k)) ?_ ?_ 61 _ R1.out.out (info_in _) (by simp only [inA_size]) (inA_one _) ?_); exact rfl; exact rfl; exact rfl; exact rfl)
      have R2 := R1.out.row (cs := inA (inS f p k))
      have B2 := below_setRow B1.out (Nat.le_refl _) (inA (inS f p k))
      exact bodyPost_ret (v := .agg (inA (inS f p k))) (results_cell_row rfl _ _ w.heap.size 61 (inA (inS f p k)) (0, 0) _ rfl R2 Try.underlying61 rfl (info_in _)) rfl ⟨rfl, B2⟩

end Go.Proofs.Ytgebplplpenabaa
