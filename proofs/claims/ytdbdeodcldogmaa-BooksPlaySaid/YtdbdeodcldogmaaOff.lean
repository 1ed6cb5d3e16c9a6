/-
  Lists of api.Offer: their cells; the statements' own 'same', 'twin', 'left' on them.
-/
import Derived.Test.YtdbdeodcldogmaaSame
namespace Go.Proofs.Ytdbdeodcldogmaa
open Go.RowKit
set_option linter.unusedSimpArgs false
set_option linter.unusedVariables false

structure Of where
  se : Int
  ow : Int
  sl : Int
  bu : Int
  lf : Int
  nu : Int
  de : Int
deriving DecidableEq
def Of.vals (x : Of) : List Value := [.int .u64 x.se, .int .u8 x.ow, .int .u8 x.sl, .int .u8 x.bu, .int .i64 x.lf, .int .i64 x.nu, .int .i64 x.de]
theorem Of.vals_len (x : Of) : x.vals.length = 7 := rfl
def ofCells (ls : List Of) : List Value := ls.flatMap Of.vals
def Of.val (x : Of) : Value := .agg #[.int .u64 x.se, .int .u8 x.ow, .int .u8 x.sl, .int .u8 x.bu, .int .i64 x.lf, .int .i64 x.nu, .int .i64 x.de]
theorem ofCells_len (ls : List Of) : (ofCells ls).length = ls.length * 7 := flat_len _ 7 Of.vals_len ls
theorem ofCells_get (ls : List Of) (i j : Nat) (hj : j < 7) (h : i < ls.length) : (ofCells ls)[i * 7 + j]? = ls[i].vals[j]? := by
  unfold ofCells
  rw [flat_get _ 7 Of.vals_len ls i j hj, List.getElem?_eq_getElem h]
  rfl
theorem ofCells_append (a b : List Of) : ofCells (a ++ b) = ofCells a ++ ofCells b := by unfold ofCells; exact List.flatMap_append
theorem ofCells_one (x : Of) : ofCells [x] = x.vals := by simp [ofCells]
/-- Numbers that fit. -/
structure Of.Fits (x : Of) : Prop where
  se : (0 ≤ x.se ∧ x.se ≤ 18446744073709551615)
  ow : In8 x.ow
  sl : In8 x.sl
  bu : In8 x.bu
  lf : In64 x.lf
  nu : In64 x.nu
  de : In64 x.de
theorem ofCells_oneCell (l : List Of) : ∀ u ∈ ofCells l, u.oneCell' = true := by
  intro u hu
  unfold ofCells at hu
  obtain ⟨x, _, hx⟩ := List.mem_flatMap.1 hu
  simp [Of.vals] at hx
  rcases hx with rfl | rfl | rfl | rfl | rfl | rfl | rfl <;> rfl
theorem info_of : (Try.prog.info? 39).map (fun i => (i.zero, i.size, i.bytes)) = some (some (Of.val ⟨0, 0, 0, 0, 0, 0, 0⟩), 7, 40) := by kernel_rfl
/-- 'append(out, y)', of one that was just laid. -/
theorem wpList_append_of (w : World) {ops : Array Oper} {rest : List Oper} {o : Oper} {a : Act} {Q : Exit → Act → World → Prop} (hgd : o.guard = none) (s x : Operand)
    (ho : o.op = .call { callee := .builtin .append, args := #[s, x], argTypes := #[50, 50] }) (base : Nat) (v : Value) (ls : List Of) (hs : a.eval s = v)
    (hown : w.ownsRow base 39 7 v ls.length (ofCells ls)) (g c : Nat) (y : Of) (hx : a.eval x = .slice (some ⟨g, 0, none⟩) 1 c) (hy : Blk w g #[.int .u64 y.se, .int .u8 y.ow, .int .u8 y.sl, .int .u8 y.bu, .int .i64 y.lf, .int .i64 y.nu, .int .i64 y.de] 39) (hlen : ls.length ≤ 100000) (hbase : base ≤ w.heap.size)
    (h : ∀ v' w', w'.ownsRow base 39 7 v' (ls ++ [y]).length (ofCells (ls ++ [y])) → w.grownBy w' v.ownBlock → wpList Try.prog ops Q rest (a.put o.dst v') w') : wpList Try.prog ops Q (o :: rest) a w := by
  obtain ⟨i0, hi, hz0, hz1, hz2⟩ := info_parts info_of
  refine wpList_append_own w hgd s x 50 ho base 39 i0 (Of.val ⟨0, 0, 0, 0, 0, 0, 0⟩) 7 40 Try.underlying50 hi hz0 hz1 hz2 rfl (by decide) v ls.length (ofCells ls) hs hown ⟨g, 0, none⟩ 1 c y.vals hx rfl ?_ ?_ (by unfold maxLen; omega) (by omega) hbase ?_
  · intro j u hj
    have := hy.cell j
    rw [Go.WideShapes.add_plain]
    match j, hj with
    | 0, hj => simp [Of.vals] at hj; subst hj; simpa using this
    | 1, hj => simp [Of.vals] at hj; subst hj; simpa using this
    | 2, hj => simp [Of.vals] at hj; subst hj; simpa using this
    | 3, hj => simp [Of.vals] at hj; subst hj; simpa using this
    | 4, hj => simp [Of.vals] at hj; subst hj; simpa using this
    | 5, hj => simp [Of.vals] at hj; subst hj; simpa using this
    | 6, hj => simp [Of.vals] at hj; subst hj; simpa using this
    | j + 7, hj => simp [Of.vals] at hj
  · intro u hu
    simp [Of.vals] at hu
    rcases hu with rfl | rfl | rfl | rfl | rfl | rfl | rfl <;> rfl
  · intro v' w' h1 h2 _
    refine h v' w' ?_ h2
    rw [ofCells_append, ofCells_one, List.length_append]
    exact h1
theorem of_parts (x y : Of) : (x = y) ∨ (x ≠ y ∧ (x.se == y.se) = false) ∨ (x ≠ y ∧ (x.se == y.se) = true ∧ (x.ow == y.ow) = false) ∨ (x ≠ y ∧ (x.se == y.se) = true ∧ (x.ow == y.ow) = true ∧ (x.sl == y.sl) = false) ∨ (x ≠ y ∧ (x.se == y.se) = true ∧ (x.ow == y.ow) = true ∧ (x.sl == y.sl) = true ∧ (x.bu == y.bu) = false) ∨ (x ≠ y ∧ (x.se == y.se) = true ∧ (x.ow == y.ow) = true ∧ (x.sl == y.sl) = true ∧ (x.bu == y.bu) = true ∧ (x.lf == y.lf) = false) ∨ (x ≠ y ∧ (x.se == y.se) = true ∧ (x.ow == y.ow) = true ∧ (x.sl == y.sl) = true ∧ (x.bu == y.bu) = true ∧ (x.lf == y.lf) = true ∧ (x.nu == y.nu) = false) ∨ (x ≠ y ∧ (x.se == y.se) = true ∧ (x.ow == y.ow) = true ∧ (x.sl == y.sl) = true ∧ (x.bu == y.bu) = true ∧ (x.lf == y.lf) = true ∧ (x.nu == y.nu) = true ∧ (x.de == y.de) = false) := by
  obtain ⟨a0, a1, a2, a3, a4, a5, a6⟩ := x
  obtain ⟨b0, b1, b2, b3, b4, b5, b6⟩ := y
  by_cases h0 : a0 = b0
  case neg => simp [h0]
  case pos =>
    by_cases h1 : a1 = b1
    case neg => simp [h0, h1]
    case pos =>
      by_cases h2 : a2 = b2
      case neg => simp [h0, h1, h2]
      case pos =>
        by_cases h3 : a3 = b3
        case neg => simp [h0, h1, h2, h3]
        case pos =>
          by_cases h4 : a4 = b4
          case neg => simp [h0, h1, h2, h3, h4]
          case pos =>
            by_cases h5 : a5 = b5
            case neg => simp [h0, h1, h2, h3, h4, h5]
            case pos =>
              by_cases h6 : a6 = b6
              case neg => simp [h0, h1, h2, h3, h4, h5, h6]
              case pos =>
                simp [h0, h1, h2, h3, h4, h5, h6]

set_option maxHeartbeats 8000000 in
theorem sameOf_any {w : World} {va vb : Value} {la lb : List Of} (ha : Reads w va 7 la.length (ofCells la)) (hb : Reads w vb 7 lb.length (ofCells lb)) :
    Calls Try.prog 50 #[va, vb] w fun e w' => e = .returned (.bool (decide (la = lb))) ∧ Below w.heap.size w w' := by
  obtain ⟨ao, ca, rfl, a1, a2, a3⟩ := ha
  obtain ⟨bo, cb, rfl, b1, b2, b3⟩ := hb
  have HA := Lib.hid a3; have HB := Lib.hid b3
  clear a2 a3 b2 b3
  by_cases hlen : la.length = lb.length
  · have L := Lib.hid hlen
    have hll : lb.length = la.length := hlen.symm
    rw [hll]
    clear hll hlen b1
    go_enter Try.func50, Try.ntmps50
    go_wp2
    go_loopw [5] (fun i wr => ∃ k : Nat, k ≤ la.length ∧ i = .int .i64 k ∧ Hid (la.take k = lb.take k) ∧ Below w.heap.size w wr) (fun i _ => la.length - (intOf i).toNat)
    case atStart => exact ⟨0, Nat.zero_le _, rfl, Lib.hid (by simp), Below.refl _ _⟩
    case round =>
      obtain ⟨k, hk, rfl, ht, hbl⟩ := hrel
      have BL := Lib.hid hbl
      by_cases hkl : k < la.length
      · have hkb : k < lb.length := by have := L.out; omega
        obtain ⟨b1, o1, rfl, hlt1, hc1⟩ := HA.out (by omega)
        obtain ⟨b2, o2, rfl, hlt2, hc2⟩ := HB.out (by omega)
        have HC1 := Lib.hid (fun j (hj : j < la.length * 7) => (hbl.cell (p := ⟨b1, o1 + j, none⟩) hlt1).trans (hc1 j hj))
        have HC2 := Lib.hid (fun j (hj : j < lb.length * 7) => (hbl.cell (p := ⟨b2, o2 + j, none⟩) hlt2).trans (hc2 j hj))
        have d0 : wr.cell? ⟨b1, o1 + k * 7, none⟩ = some (.int .u64 la[k].se) := by
          have q1 := HC1.out (k * 7 + 0) (by omega)
          rw [ofCells_get la k 0 (by omega) hkl] at q1
          first | exact q1 | (rw [← Nat.add_assoc] at q1; exact q1)
        have d1 : wr.cell? ⟨b1, o1 + k * 7 + 1, none⟩ = some (.int .u8 la[k].ow) := by
          have q1 := HC1.out (k * 7 + 1) (by omega)
          rw [ofCells_get la k 1 (by omega) hkl] at q1
          first | exact q1 | (rw [← Nat.add_assoc] at q1; exact q1)
        have d2 : wr.cell? ⟨b1, o1 + k * 7 + 2, none⟩ = some (.int .u8 la[k].sl) := by
          have q1 := HC1.out (k * 7 + 2) (by omega)
          rw [ofCells_get la k 2 (by omega) hkl] at q1
          first | exact q1 | (rw [← Nat.add_assoc] at q1; exact q1)
        have d3 : wr.cell? ⟨b1, o1 + k * 7 + 3, none⟩ = some (.int .u8 la[k].bu) := by
          have q1 := HC1.out (k * 7 + 3) (by omega)
          rw [ofCells_get la k 3 (by omega) hkl] at q1
          first | exact q1 | (rw [← Nat.add_assoc] at q1; exact q1)
        have d4 : wr.cell? ⟨b1, o1 + k * 7 + 4, none⟩ = some (.int .i64 la[k].lf) := by
          have q1 := HC1.out (k * 7 + 4) (by omega)
          rw [ofCells_get la k 4 (by omega) hkl] at q1
          first | exact q1 | (rw [← Nat.add_assoc] at q1; exact q1)
        have d5 : wr.cell? ⟨b1, o1 + k * 7 + 5, none⟩ = some (.int .i64 la[k].nu) := by
          have q1 := HC1.out (k * 7 + 5) (by omega)
          rw [ofCells_get la k 5 (by omega) hkl] at q1
          first | exact q1 | (rw [← Nat.add_assoc] at q1; exact q1)
        have d6 : wr.cell? ⟨b1, o1 + k * 7 + 6, none⟩ = some (.int .i64 la[k].de) := by
          have q1 := HC1.out (k * 7 + 6) (by omega)
          rw [ofCells_get la k 6 (by omega) hkl] at q1
          first | exact q1 | (rw [← Nat.add_assoc] at q1; exact q1)
        have f0 : wr.cell? ⟨b2, o2 + k * 7, none⟩ = some (.int .u64 lb[k].se) := by
          have q1 := HC2.out (k * 7 + 0) (by omega)
          rw [ofCells_get lb k 0 (by omega) hkb] at q1
          first | exact q1 | (rw [← Nat.add_assoc] at q1; exact q1)
        have f1 : wr.cell? ⟨b2, o2 + k * 7 + 1, none⟩ = some (.int .u8 lb[k].ow) := by
          have q1 := HC2.out (k * 7 + 1) (by omega)
          rw [ofCells_get lb k 1 (by omega) hkb] at q1
          first | exact q1 | (rw [← Nat.add_assoc] at q1; exact q1)
        have f2 : wr.cell? ⟨b2, o2 + k * 7 + 2, none⟩ = some (.int .u8 lb[k].sl) := by
          have q1 := HC2.out (k * 7 + 2) (by omega)
          rw [ofCells_get lb k 2 (by omega) hkb] at q1
          first | exact q1 | (rw [← Nat.add_assoc] at q1; exact q1)
        have f3 : wr.cell? ⟨b2, o2 + k * 7 + 3, none⟩ = some (.int .u8 lb[k].bu) := by
          have q1 := HC2.out (k * 7 + 3) (by omega)
          rw [ofCells_get lb k 3 (by omega) hkb] at q1
          first | exact q1 | (rw [← Nat.add_assoc] at q1; exact q1)
        have f4 : wr.cell? ⟨b2, o2 + k * 7 + 4, none⟩ = some (.int .i64 lb[k].lf) := by
          have q1 := HC2.out (k * 7 + 4) (by omega)
          rw [ofCells_get lb k 4 (by omega) hkb] at q1
          first | exact q1 | (rw [← Nat.add_assoc] at q1; exact q1)
        have f5 : wr.cell? ⟨b2, o2 + k * 7 + 5, none⟩ = some (.int .i64 lb[k].nu) := by
          have q1 := HC2.out (k * 7 + 5) (by omega)
          rw [ofCells_get lb k 5 (by omega) hkb] at q1
          first | exact q1 | (rw [← Nat.add_assoc] at q1; exact q1)
        have f6 : wr.cell? ⟨b2, o2 + k * 7 + 6, none⟩ = some (.int .i64 lb[k].de) := by
          have q1 := HC2.out (k * 7 + 6) (by omega)
          rw [ofCells_get lb k 6 (by omega) hkb] at q1
          first | exact q1 | (rw [← Nat.add_assoc] at q1; exact q1)
        have hz1 : b1 < wr.heap.size := Nat.lt_of_lt_of_le hlt1 hbl.size
        have hz2 : b2 < wr.heap.size := Nat.lt_of_lt_of_le hlt2 hbl.size
        have NE := Lib.hid (fun (he : la[k] ≠ lb[k]) => show decide (la = lb) = false by
          rw [decide_eq_false_iff_not]; rintro rfl; exact he rfl)
        have EQ := Lib.hid (fun (he : la[k] = lb[k]) => take_eq_next hkl hkb ht.out he)
        clear hc1 hc2 HC1 HC2 hbl
        generalize la[k] = x at *
        generalize lb[k] = y at *
        rcases of_parts x y with rfl | ⟨he, s0⟩ | ⟨he, s0, s1⟩ | ⟨he, s0, s1, s2⟩ | ⟨he, s0, s1, s2, s3⟩ | ⟨he, s0, s1, s2, s3, s4⟩ | ⟨he, s0, s1, s2, s3, s4, s5⟩ | ⟨he, s0, s1, s2, s3, s4, s5, s6⟩
        · clear NE
          go_wp2
          go_region
          all_goals
            go_wp2
            go_roundw
            case rel => exact ⟨k + 1, by omega, by go_num, Lib.hid (EQ.out (by first | exact rfl | trivial)), by first | exact BL.out.drew | exact BL.out⟩
            case measure => simp [intOf]; omega
        · have E := Lib.hid (NE.out he)
          clear he NE EQ
          go_wp2
          go_region
          all_goals
            go_wp2
            go_ret
            exact ⟨by rw [E.out]; rfl, by first | exact BL.out.drew | exact BL.out⟩
        · have E := Lib.hid (NE.out he)
          clear he NE EQ
          go_wp2
          go_region
          all_goals
            go_wp2
            go_ret
            exact ⟨by rw [E.out]; rfl, by first | exact BL.out.drew | exact BL.out⟩
        · have E := Lib.hid (NE.out he)
          clear he NE EQ
          go_wp2
          go_region
          all_goals
            go_wp2
            go_ret
            exact ⟨by rw [E.out]; rfl, by first | exact BL.out.drew | exact BL.out⟩
        · have E := Lib.hid (NE.out he)
          clear he NE EQ
          go_wp2
          go_region
          all_goals
            go_wp2
            go_ret
            exact ⟨by rw [E.out]; rfl, by first | exact BL.out.drew | exact BL.out⟩
        · have E := Lib.hid (NE.out he)
          clear he NE EQ
          go_wp2
          go_region
          all_goals
            go_wp2
            go_ret
            exact ⟨by rw [E.out]; rfl, by first | exact BL.out.drew | exact BL.out⟩
        · have E := Lib.hid (NE.out he)
          clear he NE EQ
          go_wp2
          go_region
          all_goals
            go_wp2
            go_ret
            exact ⟨by rw [E.out]; rfl, by first | exact BL.out.drew | exact BL.out⟩
        · have E := Lib.hid (NE.out he)
          clear he NE EQ
          go_wp2
          go_region
          all_goals
            go_wp2
            go_ret
            exact ⟨by rw [E.out]; rfl, by first | exact BL.out.drew | exact BL.out⟩
      · have E := Lib.hid (show decide (la = lb) = true by
          have h1 := ht.out
          rw [List.take_of_length_le (by omega), List.take_of_length_le (by have := L.out; omega)] at h1
          rw [decide_eq_true_eq]; exact h1)
        go_wp2
        go_ret
        exact ⟨by rw [E.out]; rfl, BL.out⟩
  · have E := Lib.hid (show decide (la = lb) = false by rw [decide_eq_false_iff_not]; rintro rfl; exact hlen rfl)
    have q : ((la.length : Int) == (lb.length : Int)) = false := by simp; omega
    clear hlen
    go_enter Try.func50, Try.ntmps50
    go_wp2
    go_ret
    exact ⟨by rw [E.out]; rfl, Below.refl _ _⟩
theorem SameOffers_any {w : World} {va vb : Value} {la lb : List Of} (ha : Reads w va 7 la.length (ofCells la)) (hb : Reads w vb 7 lb.length (ofCells lb)) :
    Calls Try.prog 26 #[va, vb] w fun e w' => e = .returned (.bool (decide (la = lb))) ∧ Below w.heap.size w w' := by
  have C := Lib.hid (sameOf_any ha hb)
  clear ha hb
  generalize decide (la = lb) = r at *
  go_enter Try.func26, Try.ntmps26
  go_wp2_with fail
  refine C.out.mono ?_
  rintro e w1 ⟨rfl, b1⟩
  go_wp2_with fail
  go_ret
  exact ⟨rfl, b1⟩
set_option maxHeartbeats 1000000 in
theorem twinOf_any {ao : Option Addr} {cap : Nat} {l : List Of} (x : Of) {w : World} (hr : Reads w (.slice ao l.length cap) 7 l.length (ofCells l)) (h0 : ao = none → cap = 0) (hl : l.length ≤ 10000000) :
    Calls Try.prog 53 #[.slice ao l.length cap, .agg #[.int .u64 x.se, .int .u8 x.ow, .int .u8 x.sl, .int .u8 x.bu, .int .i64 x.lf, .int .i64 x.nu, .int .i64 x.de]] w (TwinDone w 39 7 l.length (ofCells l) (ofCells [x, x])) := by
  obtain ⟨i0, hi, hz0, hz1, hz2⟩ := info_parts info_of
  have HR := Lib.hid hr
  have HX := Lib.hid (Blk.new w #[.int .u64 x.se, .int .u8 x.ow, .int .u8 x.sl, .int .u8 x.bu, .int .i64 x.lf, .int .i64 x.nu, .int .i64 x.de] 39)
  have HN := Lib.hid (hr.ofNone h0)
  have bx := (Below.refl w.heap.size w).alloc (Nat.le_refl _) (.cells #[.int .u64 x.se, .int .u8 x.ow, .int .u8 x.sl, .int .u8 x.bu, .int .i64 x.lf, .int .i64 x.nu, .int .i64 x.de] 39)
  clear hr h0
  go_enter Try.func53, Try.ntmps53
  go_wp2_with (at_make; refine wpList_make_own _ rfl _ _ 50 rfl (w.heap.size + 1) 39 i0 (Of.val ⟨0, 0, 0, 0, 0, 0, 0⟩) 7 Try.underlying50 hi hz0 hz1 _ _ _ (l.length + 2) rfl rfl (by first | omega | go_num | (simp; omega)) (by rw [hz2]; omega) (by unfold maxLen; omega) (by simp) ?_)
  intro w1 hown1 hgrow1
  have X1 := Lib.hid (HX.out.grown hgrow1 (by simp))
  have b1 : Below w.heap.size w w1 := bx.grown hgrow1 (by simp) (fun k h => by cases h)
  have HA1 := Lib.hid (HR.out.below b1)
  go_wp2_with (at_builtin; refine wpList_append_fits_any _ rfl (.tmp 10) (.tmp 11) 50 rfl (w.heap.size + 1) 39 i0 7 Try.underlying50 hi hz1 (w.heap.size + 1) 0 (l.length + 2) _ rfl hown1 _ _ _ (ofCells l) rfl (ofCells_len l) HN.out HA1.out.src (ofCells_oneCell l) (by omega) ?_)
  intro w2 hown2 hgrow2
  have b2 := b1.grown hgrow2 b1.size (fun k h => by cases h; omega)
  have hX2 := X1.out.grown hgrow2 (by simp)
  have x0 := hX2.cell 0; have x1 := hX2.cell 1; have x2 := hX2.cell 2; have x3 := hX2.cell 3; have x4 := hX2.cell 4; have x5 := hX2.cell 5; have x6 := hX2.cell 6
  simp at x0 x1 x2 x3 x4 x5 x6
  have hxl := hX2.lt
  clear hX2
  go_wp2_with (at_builtin; refine wpList_append_fits _ rfl (.tmp 13) (.tmp 16) 50 rfl (w.heap.size + 1) 39 i0 7 Try.underlying50 hi hz1 (w.heap.size + 1) l.length (l.length + 2) _ (by simp [go_sem]) (hown2.alloc _) ⟨w2.heap.size, 0, none⟩ 2 2 (ofCells [x, x]) rfl rfl ?_ (ofCells_oneCell [x, x]) (by omega) ?_)
  · intro j u hj
    rw [Go.WideShapes.add_plain, Nat.zero_add]
    refine ((Blk.new w2 _ 39).cell j).trans ?_
    simpa [ofCells, Of.vals] using hj
  intro w3 hown3 hgrow3
  have b3 : Below w.heap.size w w3 := (b2.alloc b2.size _).grown hgrow3 (by simp; have := b2.size; omega) (fun k h => by cases h; omega)
  have H3 := Lib.hid (show Twinned w3 w.heap.size (w.heap.size + 1) 39 7 l.length (ofCells l) (ofCells [x, x]) from owns_base (by simpa using hown3) (Nat.le_succ _))
  clear hown1 hown2 hown3
  go_wp2
  go_ret
  exact ⟨w.heap.size + 1, rfl, Nat.le_succ _, H3.out, b3⟩
set_option maxHeartbeats 4000000 in
theorem leftOf_any {base g : Nat} {v : Value} {l m : List Of} {x : Of} {w : World} (hl : l.length ≤ 10000000) (ht : Twinned w base g 39 7 l.length (ofCells l) (ofCells [x, x])) (hr : Reads w v 7 m.length (ofCells m)) :
    Calls Try.prog 54 #[.slice (some ⟨g, 0, none⟩) l.length (l.length + 2), v, .agg #[.int .u64 x.se, .int .u8 x.ow, .int .u8 x.sl, .int .u8 x.bu, .int .i64 x.lf, .int .i64 x.nu, .int .i64 x.de]] w fun e w' => e = .returned (.bool (decide (l = m))) ∧ Below w.heap.size w w' := by
  have HR := Lib.hid hr
  have HT := Lib.hid (ht.reads (by omega) (ofCells_len l))
  have b0 := (Below.refl w.heap.size w).alloc (Nat.le_refl _) (.cells #[.int .u64 x.se, .int .u8 x.ow, .int .u8 x.sl, .int .u8 x.bu, .int .i64 x.lf, .int .i64 x.nu, .int .i64 x.de] 39)
  have hs := Lib.hid (sameOf_any (HT.out.below b0) (HR.out.below b0))
  have B0 := Lib.hid b0
  have KX := Lib.hid (Blk.new w #[.int .u64 x.se, .int .u8 x.ow, .int .u8 x.sl, .int .u8 x.bu, .int .i64 x.lf, .int .i64 x.nu, .int .i64 x.de] 39)
  have hg := ht.cells.1
  have MC : Hid (∀ j, j < 14 → w.cell? ⟨g, l.length * 7 + j, none⟩ = (ofCells [x, x])[j]?) := Lib.hid fun j hj => by
    have := ht.cells.2 (l.length * 7 + j) (by omega)
    rwa [List.getElem?_append_right (by rw [ofCells_len]; omega), ofCells_len, Nat.add_sub_cancel_left] at this
  obtain ⟨ao, cap, rfl, _⟩ := hr
  clear ht b0 HT HR
  go_enter Try.func54, Try.ntmps54
  go_wp2_with fail
  refine hs.out.mono ?_
  rintro e w1 ⟨rfl, b1⟩
  have B1 := Lib.hid (B0.out.trans (b1.mono B0.out.size))
  have KX1 := Lib.hid (KX.out.below b1 KX.out.lt)
  clear b1 B0 KX hs
  by_cases he : l = m
  · subst he
    have hg1 : g < w1.heap.size := Nat.lt_of_lt_of_le hg B1.out.size
    have M1 : Hid (∀ j, j < 14 → w1.cell? ⟨g, l.length * 7 + j, none⟩ = (ofCells [x, x])[j]?) := Lib.hid fun j hj => (B1.out.cell (p := ⟨g, l.length * 7 + j, none⟩) hg).trans (MC.out j hj)
    have m0 : w1.cell? ⟨g, l.length * 7, none⟩ = some (.int .u64 x.se) := M1.out 0 (by omega)
    have m1 : w1.cell? ⟨g, l.length * 7 + 1, none⟩ = some (.int .u8 x.ow) := M1.out 1 (by omega)
    have m2 : w1.cell? ⟨g, l.length * 7 + 2, none⟩ = some (.int .u8 x.sl) := M1.out 2 (by omega)
    have m3 : w1.cell? ⟨g, l.length * 7 + 3, none⟩ = some (.int .u8 x.bu) := M1.out 3 (by omega)
    have m4 : w1.cell? ⟨g, l.length * 7 + 4, none⟩ = some (.int .i64 x.lf) := M1.out 4 (by omega)
    have m5 : w1.cell? ⟨g, l.length * 7 + 5, none⟩ = some (.int .i64 x.nu) := M1.out 5 (by omega)
    have m6 : w1.cell? ⟨g, l.length * 7 + 6, none⟩ = some (.int .i64 x.de) := M1.out 6 (by omega)
    have n0 : w1.cell? ⟨g, l.length * 7 + 7, none⟩ = some (.int .u64 x.se) := M1.out 7 (by omega)
    have n1 : w1.cell? ⟨g, l.length * 7 + 7 + 1, none⟩ = some (.int .u8 x.ow) := M1.out 8 (by omega)
    have n2 : w1.cell? ⟨g, l.length * 7 + 7 + 2, none⟩ = some (.int .u8 x.sl) := M1.out 9 (by omega)
    have n3 : w1.cell? ⟨g, l.length * 7 + 7 + 3, none⟩ = some (.int .u8 x.bu) := M1.out 10 (by omega)
    have n4 : w1.cell? ⟨g, l.length * 7 + 7 + 4, none⟩ = some (.int .i64 x.lf) := M1.out 11 (by omega)
    have n5 : w1.cell? ⟨g, l.length * 7 + 7 + 5, none⟩ = some (.int .i64 x.nu) := M1.out 12 (by omega)
    have n6 : w1.cell? ⟨g, l.length * 7 + 7 + 6, none⟩ = some (.int .i64 x.de) := M1.out 13 (by omega)
    have k0 := KX1.out.cell 0; have k1 := KX1.out.cell 1; have k2 := KX1.out.cell 2; have k3 := KX1.out.cell 3; have k4 := KX1.out.cell 4; have k5 := KX1.out.cell 5; have k6 := KX1.out.cell 6
    have kl := KX1.out.lt
    simp at k0 k1 k2 k3 k4 k5 k6
    rw [decide_eq_true rfl]
    clear M1 MC
    go_wp2_with fail
    rw [show l.length + 2 - l.length = 2 by omega]
    go_quiet (fail)
    all_goals
      go_wp2_with fail
      go_ret
      exact ⟨rfl, below_drewN B1.out _⟩
  · rw [decide_eq_false he]
    go_wp2
    go_ret
    exact ⟨by rw [decide_eq_false he]; rfl, B1.out⟩
theorem TwinOffers_any {ao : Option Addr} {cap : Nat} {l : List Of} {w : World} (hr : Reads w (.slice ao l.length cap) 7 l.length (ofCells l)) (h0 : ao = none → cap = 0) (hl : l.length ≤ 10000000) :
    Calls Try.prog 31 #[.slice ao l.length cap] w (TwinDone w 39 7 l.length (ofCells l) (ofCells [⟨0, 0, 0, 0, -77, 0, 0⟩, ⟨0, 0, 0, 0, -77, 0, 0⟩])) := by
  have c := Lib.hid (twinOf_any ⟨0, 0, 0, 0, -77, 0, 0⟩ hr h0 hl)
  clear hr h0
  dsimp only at c
  go_enter Try.func31, Try.ntmps31
  go_wp2_with fail
  refine c.out.mono ?_
  rintro e w' ⟨g, rfl, h1, h2, h3⟩
  have T := Lib.hid h2
  clear h2
  go_wp2
  go_ret
  exact ⟨g, rfl, h1, T.out, h3⟩
theorem LeftOffers_any {base g : Nat} {v : Value} {l m : List Of} {w : World} (hl : l.length ≤ 10000000) (ht : Twinned w base g 39 7 l.length (ofCells l) (ofCells [⟨0, 0, 0, 0, -77, 0, 0⟩, ⟨0, 0, 0, 0, -77, 0, 0⟩])) (hr : Reads w v 7 m.length (ofCells m)) :
    Calls Try.prog 32 #[.slice (some ⟨g, 0, none⟩) l.length (l.length + 2), v] w fun e w' => e = .returned (.bool (decide (l = m))) ∧ Below w.heap.size w w' := by
  have c := Lib.hid (leftOf_any hl ht hr)
  clear ht hr
  dsimp only at c
  go_enter Try.func32, Try.ntmps32
  go_wp2_with fail
  refine c.out.mono ?_
  rintro e w' ⟨rfl, h⟩
  go_wp2
  go_ret
  exact ⟨rfl, h⟩

end Go.Proofs.Ytdbdeodcldogmaa
