/-
  Lists of api.Flow: their cells; the statements' own 'same', 'twin', 'left' on them.
-/
import Derived.Test.YtajmladlmkkimaaSame
namespace Go.Proofs.Ytajmladlmkkimaa
open Go.RowKit
set_option linter.unusedSimpArgs false
set_option linter.unusedVariables false

structure Fw where
  fr : Int
  tt : Int
  am : Int
deriving DecidableEq
def Fw.vals (x : Fw) : List Value := [.int .u8 x.fr, .int .u8 x.tt, .int .i64 x.am]
theorem Fw.vals_len (x : Fw) : x.vals.length = 3 := rfl
def fwCells (ls : List Fw) : List Value := ls.flatMap Fw.vals
def Fw.val (x : Fw) : Value := .agg #[.int .u8 x.fr, .int .u8 x.tt, .int .i64 x.am]
theorem fwCells_len (ls : List Fw) : (fwCells ls).length = ls.length * 3 := flat_len _ 3 Fw.vals_len ls
theorem fwCells_get (ls : List Fw) (i j : Nat) (hj : j < 3) (h : i < ls.length) : (fwCells ls)[i * 3 + j]? = ls[i].vals[j]? := by
  unfold fwCells
  rw [flat_get _ 3 Fw.vals_len ls i j hj, List.getElem?_eq_getElem h]
  rfl
theorem fwCells_append (a b : List Fw) : fwCells (a ++ b) = fwCells a ++ fwCells b := by unfold fwCells; exact List.flatMap_append
theorem fwCells_one (x : Fw) : fwCells [x] = x.vals := by simp [fwCells]
/-- Numbers that fit. -/
structure Fw.Fits (x : Fw) : Prop where
  fr : In8 x.fr
  tt : In8 x.tt
  am : In64 x.am
theorem fwCells_oneCell (l : List Fw) : ∀ u ∈ fwCells l, u.oneCell' = true := by
  intro u hu
  unfold fwCells at hu
  obtain ⟨x, _, hx⟩ := List.mem_flatMap.1 hu
  simp [Fw.vals] at hx
  rcases hx with rfl | rfl | rfl <;> rfl
theorem info_fw : (Try.prog.info? 75).map (fun i => (i.zero, i.size, i.bytes)) = some (some (Fw.val ⟨0, 0, 0⟩), 3, 16) := by kernel_rfl
/-- 'append(out, y)', of one that was just laid. -/
theorem wpList_append_fw (w : World) {ops : Array Oper} {rest : List Oper} {o : Oper} {a : Act} {Q : Exit → Act → World → Prop} (hgd : o.guard = none) (s x : Operand)
    (ho : o.op = .call { callee := .builtin .append, args := #[s, x], argTypes := #[22, 22] }) (base : Nat) (v : Value) (ls : List Fw) (hs : a.eval s = v)
    (hown : w.ownsRow base 75 3 v ls.length (fwCells ls)) (g c : Nat) (y : Fw) (hx : a.eval x = .slice (some ⟨g, 0, none⟩) 1 c) (hy : Blk w g #[.int .u8 y.fr, .int .u8 y.tt, .int .i64 y.am] 75) (hlen : ls.length ≤ 100000) (hbase : base ≤ w.heap.size)
    (h : ∀ v' w', w'.ownsRow base 75 3 v' (ls ++ [y]).length (fwCells (ls ++ [y])) → w.grownBy w' v.ownBlock → wpList Try.prog ops Q rest (a.put o.dst v') w') : wpList Try.prog ops Q (o :: rest) a w := by
  obtain ⟨i0, hi, hz0, hz1, hz2⟩ := info_parts info_fw
  refine wpList_append_own w hgd s x 22 ho base 75 i0 (Fw.val ⟨0, 0, 0⟩) 3 16 Try.underlying22 hi hz0 hz1 hz2 rfl (by decide) v ls.length (fwCells ls) hs hown ⟨g, 0, none⟩ 1 c y.vals hx rfl ?_ ?_ (by unfold maxLen; omega) (by omega) hbase ?_
  · intro j u hj
    have := hy.cell j
    rw [Go.WideShapes.add_plain]
    match j, hj with
    | 0, hj => simp [Fw.vals] at hj; subst hj; simpa using this
    | 1, hj => simp [Fw.vals] at hj; subst hj; simpa using this
    | 2, hj => simp [Fw.vals] at hj; subst hj; simpa using this
    | j + 3, hj => simp [Fw.vals] at hj
  · intro u hu
    simp [Fw.vals] at hu
    rcases hu with rfl | rfl | rfl <;> rfl
  · intro v' w' h1 h2 _
    refine h v' w' ?_ h2
    rw [fwCells_append, fwCells_one, List.length_append]
    exact h1
theorem fw_parts (x y : Fw) : (x = y) ∨ (x ≠ y ∧ (x.fr == y.fr) = false) ∨ (x ≠ y ∧ (x.fr == y.fr) = true ∧ (x.tt == y.tt) = false) ∨ (x ≠ y ∧ (x.fr == y.fr) = true ∧ (x.tt == y.tt) = true ∧ (x.am == y.am) = false) := by
  obtain ⟨a0, a1, a2⟩ := x
  obtain ⟨b0, b1, b2⟩ := y
  by_cases h0 : a0 = b0
  case neg => simp [h0]
  case pos =>
    by_cases h1 : a1 = b1
    case neg => simp [h0, h1]
    case pos =>
      by_cases h2 : a2 = b2
      case neg => simp [h0, h1, h2]
      case pos =>
        simp [h0, h1, h2]

set_option maxHeartbeats 8000000 in
theorem sameFw_any {w : World} {va vb : Value} {la lb : List Fw} (ha : Reads w va 3 la.length (fwCells la)) (hb : Reads w vb 3 lb.length (fwCells lb)) :
    Calls Try.prog 44 #[va, vb] w fun e w' => e = .returned (.bool (decide (la = lb))) ∧ Below w.heap.size w w' := by
  obtain ⟨ao, ca, rfl, a1, a2, a3⟩ := ha
  obtain ⟨bo, cb, rfl, b1, b2, b3⟩ := hb
  have HA := Lib.hid a3; have HB := Lib.hid b3
  clear a2 a3 b2 b3
  by_cases hlen : la.length = lb.length
  · have L := Lib.hid hlen
    have hll : lb.length = la.length := hlen.symm
    rw [hll]
    clear hll hlen b1
    go_enter Try.func44, Try.ntmps44
    go_wp2
    go_loopw [5] (fun i wr => ∃ k : Nat, k ≤ la.length ∧ i = .int .i64 k ∧ Hid (la.take k = lb.take k) ∧ Below w.heap.size w wr) (fun i _ => la.length - (intOf i).toNat)
    case atStart => exact ⟨0, Nat.zero_le _, rfl, Lib.hid (by simp), Below.refl _ _⟩
    case round =>
      obtain ⟨k, hk, rfl, ht, hbl⟩ := hrel
      have BL := Lib.hid hbl
      by_cases hkl : k < la.length
      · have hkb : k < lb.length := by have := L.out; omega
        obtain ⟨b1, o1, rfl, hlt1, hc1⟩ := HA.out (by omega)
        obtain ⟨b2, o2, rfl, hlt2, hc2⟩ := HB.out (by omega)
        have HC1 := Lib.hid (fun j (hj : j < la.length * 3) => (hbl.cell (p := ⟨b1, o1 + j, none⟩) hlt1).trans (hc1 j hj))
        have HC2 := Lib.hid (fun j (hj : j < lb.length * 3) => (hbl.cell (p := ⟨b2, o2 + j, none⟩) hlt2).trans (hc2 j hj))
        have d0 : wr.cell? ⟨b1, o1 + k * 3, none⟩ = some (.int .u8 la[k].fr) := by
          have q1 := HC1.out (k * 3 + 0) (by omega)
          rw [fwCells_get la k 0 (by omega) hkl] at q1
          first | exact q1 | (rw [← Nat.add_assoc] at q1; exact q1)
        have d1 : wr.cell? ⟨b1, o1 + k * 3 + 1, none⟩ = some (.int .u8 la[k].tt) := by
          have q1 := HC1.out (k * 3 + 1) (by omega)
          rw [fwCells_get la k 1 (by omega) hkl] at q1
          first | exact q1 | (rw [← Nat.add_assoc] at q1; exact q1)
        have d2 : wr.cell? ⟨b1, o1 + k * 3 + 2, none⟩ = some (.int .i64 la[k].am) := by
          have q1 := HC1.out (k * 3 + 2) (by omega)
          rw [fwCells_get la k 2 (by omega) hkl] at q1
          first | exact q1 | (rw [← Nat.add_assoc] at q1; exact q1)
        have f0 : wr.cell? ⟨b2, o2 + k * 3, none⟩ = some (.int .u8 lb[k].fr) := by
          have q1 := HC2.out (k * 3 + 0) (by omega)
          rw [fwCells_get lb k 0 (by omega) hkb] at q1
          first | exact q1 | (rw [← Nat.add_assoc] at q1; exact q1)
        have f1 : wr.cell? ⟨b2, o2 + k * 3 + 1, none⟩ = some (.int .u8 lb[k].tt) := by
          have q1 := HC2.out (k * 3 + 1) (by omega)
          rw [fwCells_get lb k 1 (by omega) hkb] at q1
          first | exact q1 | (rw [← Nat.add_assoc] at q1; exact q1)
        have f2 : wr.cell? ⟨b2, o2 + k * 3 + 2, none⟩ = some (.int .i64 lb[k].am) := by
          have q1 := HC2.out (k * 3 + 2) (by omega)
          rw [fwCells_get lb k 2 (by omega) hkb] at q1
          first | exact q1 | (rw [← Nat.add_assoc] at q1; exact q1)
        have hz1 : b1 < wr.heap.size := Nat.lt_of_lt_of_le hlt1 hbl.size
        have hz2 : b2 < wr.heap.size := Nat.lt_of_lt_of_le hlt2 hbl.size
        have NE := Lib.hid (fun (he : la[k] ≠ lb[k]) => show decide (la = lb) = false by
          rw [decide_eq_false_iff_not]; rintro rfl; exact he rfl)
        have EQ := Lib.hid (fun (he : la[k] = lb[k]) => take_eq_next hkl hkb ht.out he)
        clear hc1 hc2 HC1 HC2 hbl
        generalize la[k] = x at *
        generalize lb[k] = y at *
        rcases fw_parts x y with rfl | ⟨he, s0⟩ | ⟨he, s0, s1⟩ | ⟨he, s0, s1, s2⟩
        · clear NE
          go_wp2
          go_region
          all_goals
            go_wp2
            go_roundw
            case rel => exact ⟨k + 1, by omega, by go_num, Lib.hid (EQ.out (by first | exact rfl | trivial)), by first | exact BL.out.drew | exact BL.out⟩
            case measure => simp [intOf]; omega
        · have E := Lib.hid (NE.out he)
          clear he NE EQ
          go_wp2
          go_region
          all_goals
            go_wp2
            go_ret
            exact ⟨by rw [E.out]; rfl, by first | exact BL.out.drew | exact BL.out⟩
        · have E := Lib.hid (NE.out he)
          clear he NE EQ
          go_wp2
          go_region
          all_goals
            go_wp2
            go_ret
            exact ⟨by rw [E.out]; rfl, by first | exact BL.out.drew | exact BL.out⟩
        · have E := Lib.hid (NE.out he)
          clear he NE EQ
          go_wp2
          go_region
          all_goals
            go_wp2
            go_ret
            exact ⟨by rw [E.out]; rfl, by first | exact BL.out.drew | exact BL.out⟩
      · have E := Lib.hid (show decide (la = lb) = true by
          have h1 := ht.out
          rw [List.take_of_length_le (by omega), List.take_of_length_le (by have := L.out; omega)] at h1
          rw [decide_eq_true_eq]; exact h1)
        go_wp2
        go_ret
        exact ⟨by rw [E.out]; rfl, BL.out⟩
  · have E := Lib.hid (show decide (la = lb) = false by rw [decide_eq_false_iff_not]; rintro rfl; exact hlen rfl)
    have q : ((la.length : Int) == (lb.length : Int)) = false := by simp; omega
    clear hlen
    go_enter Try.func44, Try.ntmps44
    go_wp2
    go_ret
    exact ⟨by rw [E.out]; rfl, Below.refl _ _⟩
theorem SameFlows_any {w : World} {va vb : Value} {la lb : List Fw} (ha : Reads w va 3 la.length (fwCells la)) (hb : Reads w vb 3 lb.length (fwCells lb)) :
    Calls Try.prog 13 #[va, vb] w fun e w' => e = .returned (.bool (decide (la = lb))) ∧ Below w.heap.size w w' := by
  have C := Lib.hid (sameFw_any ha hb)
  clear ha hb
  generalize decide (la = lb) = r at *
  go_enter Try.func13, Try.ntmps13
  go_wp2_with fail
  refine C.out.mono ?_
  rintro e w1 ⟨rfl, b1⟩
  go_wp2_with fail
  go_ret
  exact ⟨rfl, b1⟩
set_option maxHeartbeats 1000000 in
theorem twinFw_any {ao : Option Addr} {cap : Nat} {l : List Fw} (x : Fw) {w : World} (hr : Reads w (.slice ao l.length cap) 3 l.length (fwCells l)) (h0 : ao = none → cap = 0) (hl : l.length ≤ 10000000) :
    Calls Try.prog 36 #[.slice ao l.length cap, .agg #[.int .u8 x.fr, .int .u8 x.tt, .int .i64 x.am]] w (TwinDone w 75 3 l.length (fwCells l) (fwCells [x, x])) := by
  obtain ⟨i0, hi, hz0, hz1, hz2⟩ := info_parts info_fw
  have HR := Lib.hid hr
  have HX := Lib.hid (Blk.new w #[.int .u8 x.fr, .int .u8 x.tt, .int .i64 x.am] 75)
  have HN := Lib.hid (hr.ofNone h0)
  have bx := (Below.refl w.heap.size w).alloc (Nat.le_refl _) (.cells #[.int .u8 x.fr, .int .u8 x.tt, .int .i64 x.am] 75)
  clear hr h0
  go_enter Try.func36, Try.ntmps36
  go_wp2_with (at_make; refine wpList_make_own _ rfl _ _ 22 rfl (w.heap.size + 1) 75 i0 (Fw.val ⟨0, 0, 0⟩) 3 Try.underlying22 hi hz0 hz1 _ _ _ (l.length + 2) rfl rfl (by first | omega | go_num | (simp; omega)) (by rw [hz2]; omega) (by unfold maxLen; omega) (by simp) ?_)
  intro w1 hown1 hgrow1
  have X1 := Lib.hid (HX.out.grown hgrow1 (by simp))
  have b1 : Below w.heap.size w w1 := bx.grown hgrow1 (by simp) (fun k h => by cases h)
  have HA1 := Lib.hid (HR.out.below b1)
  go_wp2_with (at_builtin; refine wpList_append_fits_any _ rfl (.tmp 10) (.tmp 11) 22 rfl (w.heap.size + 1) 75 i0 3 Try.underlying22 hi hz1 (w.heap.size + 1) 0 (l.length + 2) _ rfl hown1 _ _ _ (fwCells l) rfl (fwCells_len l) HN.out HA1.out.src (fwCells_oneCell l) (by omega) ?_)
  intro w2 hown2 hgrow2
  have b2 := b1.grown hgrow2 b1.size (fun k h => by cases h; omega)
  have hX2 := X1.out.grown hgrow2 (by simp)
  have x0 := hX2.cell 0; have x1 := hX2.cell 1; have x2 := hX2.cell 2
  simp at x0 x1 x2
  have hxl := hX2.lt
  clear hX2
  go_wp2_with (at_builtin; refine wpList_append_fits _ rfl (.tmp 13) (.tmp 16) 22 rfl (w.heap.size + 1) 75 i0 3 Try.underlying22 hi hz1 (w.heap.size + 1) l.length (l.length + 2) _ (by simp [go_sem]) (hown2.alloc _) ⟨w2.heap.size, 0, none⟩ 2 2 (fwCells [x, x]) rfl rfl ?_ (fwCells_oneCell [x, x]) (by omega) ?_)
  · intro j u hj
    rw [Go.WideShapes.add_plain, Nat.zero_add]
    refine ((Blk.new w2 _ 75).cell j).trans ?_
    simpa [fwCells, Fw.vals] using hj
  intro w3 hown3 hgrow3
  have b3 : Below w.heap.size w w3 := (b2.alloc b2.size _).grown hgrow3 (by simp; have := b2.size; omega) (fun k h => by cases h; omega)
  have H3 := Lib.hid (show Twinned w3 w.heap.size (w.heap.size + 1) 75 3 l.length (fwCells l) (fwCells [x, x]) from owns_base (by simpa using hown3) (Nat.le_succ _))
  clear hown1 hown2 hown3
  go_wp2
  go_ret
  exact ⟨w.heap.size + 1, rfl, Nat.le_succ _, H3.out, b3⟩
set_option maxHeartbeats 4000000 in
theorem leftFw_any {base g : Nat} {v : Value} {l m : List Fw} {x : Fw} {w : World} (hl : l.length ≤ 10000000) (ht : Twinned w base g 75 3 l.length (fwCells l) (fwCells [x, x])) (hr : Reads w v 3 m.length (fwCells m)) :
    Calls Try.prog 45 #[.slice (some ⟨g, 0, none⟩) l.length (l.length + 2), v, .agg #[.int .u8 x.fr, .int .u8 x.tt, .int .i64 x.am]] w fun e w' => e = .returned (.bool (decide (l = m))) ∧ Below w.heap.size w w' := by
  have HR := Lib.hid hr
  have HT := Lib.hid (ht.reads (by omega) (fwCells_len l))
  have b0 := (Below.refl w.heap.size w).alloc (Nat.le_refl _) (.cells #[.int .u8 x.fr, .int .u8 x.tt, .int .i64 x.am] 75)
  have hs := Lib.hid (sameFw_any (HT.out.below b0) (HR.out.below b0))
  have B0 := Lib.hid b0
  have KX := Lib.hid (Blk.new w #[.int .u8 x.fr, .int .u8 x.tt, .int .i64 x.am] 75)
  have hg := ht.cells.1
  have MC : Hid (∀ j, j < 6 → w.cell? ⟨g, l.length * 3 + j, none⟩ = (fwCells [x, x])[j]?) := Lib.hid fun j hj => by
    have := ht.cells.2 (l.length * 3 + j) (by omega)
    rwa [List.getElem?_append_right (by rw [fwCells_len]; omega), fwCells_len, Nat.add_sub_cancel_left] at this
  obtain ⟨ao, cap, rfl, _⟩ := hr
  clear ht b0 HT HR
  go_enter Try.func45, Try.ntmps45
  go_wp2_with fail
  refine hs.out.mono ?_
  rintro e w1 ⟨rfl, b1⟩
  have B1 := Lib.hid (B0.out.trans (b1.mono B0.out.size))
  have KX1 := Lib.hid (KX.out.below b1 KX.out.lt)
  clear b1 B0 KX hs
  by_cases he : l = m
  · subst he
    have hg1 : g < w1.heap.size := Nat.lt_of_lt_of_le hg B1.out.size
    have M1 : Hid (∀ j, j < 6 → w1.cell? ⟨g, l.length * 3 + j, none⟩ = (fwCells [x, x])[j]?) := Lib.hid fun j hj => (B1.out.cell (p := ⟨g, l.length * 3 + j, none⟩) hg).trans (MC.out j hj)
    have m0 : w1.cell? ⟨g, l.length * 3, none⟩ = some (.int .u8 x.fr) := M1.out 0 (by omega)
    have m1 : w1.cell? ⟨g, l.length * 3 + 1, none⟩ = some (.int .u8 x.tt) := M1.out 1 (by omega)
    have m2 : w1.cell? ⟨g, l.length * 3 + 2, none⟩ = some (.int .i64 x.am) := M1.out 2 (by omega)
    have n0 : w1.cell? ⟨g, l.length * 3 + 3, none⟩ = some (.int .u8 x.fr) := M1.out 3 (by omega)
    have n1 : w1.cell? ⟨g, l.length * 3 + 3 + 1, none⟩ = some (.int .u8 x.tt) := M1.out 4 (by omega)
    have n2 : w1.cell? ⟨g, l.length * 3 + 3 + 2, none⟩ = some (.int .i64 x.am) := M1.out 5 (by omega)
    have k0 := KX1.out.cell 0; have k1 := KX1.out.cell 1; have k2 := KX1.out.cell 2
    have kl := KX1.out.lt
    simp at k0 k1 k2
    rw [decide_eq_true rfl]
    clear M1 MC
    go_wp2_with fail
    rw [show l.length + 2 - l.length = 2 by omega]
    go_quiet (fail)
    all_goals
      go_wp2_with fail
      go_ret
      exact ⟨rfl, below_drewN B1.out _⟩
  · rw [decide_eq_false he]
    go_wp2
    go_ret
    exact ⟨by rw [decide_eq_false he]; rfl, B1.out⟩
theorem TwinFlows_any {ao : Option Addr} {cap : Nat} {l : List Fw} {w : World} (hr : Reads w (.slice ao l.length cap) 3 l.length (fwCells l)) (h0 : ao = none → cap = 0) (hl : l.length ≤ 10000000) :
    Calls Try.prog 10 #[.slice ao l.length cap] w (TwinDone w 75 3 l.length (fwCells l) (fwCells [⟨0, 0, -77⟩, ⟨0, 0, -77⟩])) := by
  have c := Lib.hid (twinFw_any ⟨0, 0, -77⟩ hr h0 hl)
  clear hr h0
  dsimp only at c
  go_enter Try.func10, Try.ntmps10
  go_wp2_with fail
  refine c.out.mono ?_
  rintro e w' ⟨g, rfl, h1, h2, h3⟩
  have T := Lib.hid h2
  clear h2
  go_wp2
  go_ret
  exact ⟨g, rfl, h1, T.out, h3⟩
theorem LeftFlows_any {base g : Nat} {v : Value} {l m : List Fw} {w : World} (hl : l.length ≤ 10000000) (ht : Twinned w base g 75 3 l.length (fwCells l) (fwCells [⟨0, 0, -77⟩, ⟨0, 0, -77⟩])) (hr : Reads w v 3 m.length (fwCells m)) :
    Calls Try.prog 14 #[.slice (some ⟨g, 0, none⟩) l.length (l.length + 2), v] w fun e w' => e = .returned (.bool (decide (l = m))) ∧ Below w.heap.size w w' := by
  have c := Lib.hid (leftFw_any hl ht hr)
  clear ht hr
  dsimp only at c
  go_enter Try.func14, Try.ntmps14
  go_wp2_with fail
  refine c.out.mono ?_
  rintro e w' ⟨rfl, h⟩
  go_wp2
  go_ret
  exact ⟨rfl, h⟩

end Go.Proofs.Ytajmladlmkkimaa
