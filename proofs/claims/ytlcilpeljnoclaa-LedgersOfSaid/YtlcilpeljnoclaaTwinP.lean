/-
  The statements' own 'twin', 'left' on lists of parties and of lines.
-/
import Derived.Test.YtlcilpeljnoclaaSame
import Derived.Test.YtlcilpeljnoclaaRef03d
import Derived.OwnWalk
import Derived.BigQuiet
namespace Go.Proofs.Ytlcilpeljnoclaa
open Go.RowKit
set_option linter.unusedSimpArgs false
set_option linter.unusedVariables false

theorem Reads.src {w : World} {ao : Option Addr} {size n cap : Nat} {xs : List Value} (h : Reads w (.slice ao n cap) size n xs) : ∀ ad, ao = some ad → ∀ j u, xs[j]? = some u → w.cell? (ad.add j) = some u := by
  rintro ad rfl j u hu
  obtain ⟨ao', cap', hv, _, hlen, h3⟩ := h
  cases hv
  have hj : j < xs.length := by
    obtain ⟨hj, _⟩ := List.getElem?_eq_some_iff.1 hu
    exact hj
  have hn : 0 < n := by
    rcases Nat.eq_zero_or_pos n with rfl | hn
    · omega
    · exact hn
  obtain ⟨b, off, e, _, hc⟩ := h3 hn
  cases e
  rw [Go.WideShapes.add_plain, hc j (by omega)]
  exact hu
theorem Reads.ofNone {w : World} {ao : Option Addr} {size n cap : Nat} {xs : List Value} (h : Reads w (.slice ao n cap) size n xs) (h0 : ao = none → cap = 0) : ao = none → n = 0 ∧ cap = 0 := by
  intro e
  refine ⟨?_, h0 e⟩
  obtain ⟨ao', cap', hv, _, _, h3⟩ := h
  cases hv
  rcases Nat.eq_zero_or_pos n with hn | hn
  · exact hn
  · obtain ⟨b, off, e', _⟩ := h3 hn
    rw [e] at e'; cases e'
/-- A twin in block g: its n elements, and two marks behind. -/
def Twinned (w : World) (base g : Nat) (e : TypeId) (size n : Nat) (xs marks : List Value) : Prop := w.ownsRow base e size (.slice (some ⟨g, 0, none⟩) (n + 2) (n + 2)) (n + 2) (xs ++ marks)
theorem Twinned.keep {S : Nat → Prop} {w w' : World} {base g : Nat} {e : TypeId} {size n : Nat} {xs marks : List Value} (h : Twinned w base g e size n xs marks) (k : Keep S w w') (hs : ¬ S g) : Twinned w' base g e size n xs marks :=
  owns_keep h k (fun b hb => by cases hb; exact hs)
theorem Twinned.below {w w' : World} {base g : Nat} {e : TypeId} {size n : Nat} {xs marks : List Value} (h : Twinned w base g e size n xs marks) (k : Below w.heap.size w w') : Twinned w' base g e size n xs marks := owns_below h k
theorem Twinned.cells {w : World} {base g : Nat} {e : TypeId} {size n : Nat} {xs marks : List Value} (h : Twinned w base g e size n xs marks) : g < w.heap.size ∧ ∀ j, j < (n + 2) * size → w.cell? ⟨g, j, none⟩ = (xs ++ marks)[j]? := by
  obtain ⟨ao, cap, hv, _, _, _, hr⟩ := owns_open h
  cases hv
  obtain ⟨b, hb, _, hlt, hc, _⟩ := hr (by omega)
  cases hb
  exact ⟨hlt, hc⟩
theorem Twinned.reads {w : World} {base g : Nat} {e : TypeId} {size n : Nat} {xs marks : List Value} (h : Twinned w base g e size n xs marks) (hn : n ≤ 100000000) (hx : xs.length = n * size) : Reads w (.slice (some ⟨g, 0, none⟩) n (n + 2)) size n xs := by
  obtain ⟨hlt, hc⟩ := h.cells
  refine ⟨_, _, rfl, hn, hx, fun _ => ⟨g, 0, rfl, hlt, fun j hj => ?_⟩⟩
  rw [Nat.zero_add, hc j (by rw [Nat.add_mul]; omega), List.getElem?_append_left (by omega)]
def TwinDone (w : World) (e : TypeId) (size n : Nat) (xs marks : List Value) (en : Ending) (w' : World) : Prop :=
  ∃ g, en = .returned (.slice (some ⟨g, 0, none⟩) n (n + 2)) ∧ w.heap.size ≤ g ∧ Twinned w' w.heap.size g e size n xs marks ∧ Below w.heap.size w w'

set_option maxHeartbeats 1000000 in
theorem twinParty_any {ao : Option Addr} {cap : Nat} {l : List Int} (mark : Int) {w : World} (hr : Reads w (.slice ao l.length cap) 1 l.length (l.map (.int .u8))) (h0 : ao = none → cap = 0) :
    Calls Try.prog 59 #[.slice ao l.length cap, .int .u8 mark] w (TwinDone w 28 1 l.length (l.map (.int .u8)) [.int .u8 mark, .int .u8 mark]) := by
  obtain ⟨i0, hi, hz0, hz1, hz2⟩ := info_parts info_party
  have HR := Lib.hid hr
  have HN := Lib.hid (hr.ofNone h0)
  have hl : l.length ≤ 100000000 := by obtain ⟨_, _, _, h, _⟩ := hr; exact h
  clear hr h0
  go_enter Try.func59, Try.ntmps59
  go_wp2_with (at_make; refine wpList_make_own _ rfl _ _ 46 rfl w.heap.size 28 i0 (.int .u8 0) 1 Try.underlying46 hi hz0 hz1 _ _ _ (l.length + 2) rfl rfl (by first | omega | go_num | (simp; omega)) (by rw [hz2]; omega) (by unfold maxLen; omega) (Nat.le_refl _) ?_)
  intro w1 hown1 hgrow1
  have b1 := (Below.refl w.heap.size w).grown hgrow1 (Nat.le_refl _) (fun k h => by cases h)
  have HA1 := Lib.hid (HR.out.below b1)
  go_wp2_with (at_builtin; refine wpList_append_fits_any _ rfl (.tmp 10) (.tmp 11) 46 rfl w.heap.size 28 i0 1 Try.underlying46 hi hz1 w.heap.size 0 (l.length + 2) _ rfl hown1 _ _ _ (l.map (Value.int .u8)) rfl (by simp) HN.out HA1.out.src (ints_oneCell _ _) (by omega) ?_)
  intro w2 hown2 hgrow2
  have b2 := b1.grown hgrow2 b1.size (fun k h => by cases h; exact Nat.le_refl _)
  go_wp2_with (at_builtin; refine wpList_append_fits _ rfl (.tmp 13) (.tmp 16) 46 rfl w.heap.size 28 i0 1 Try.underlying46 hi hz1 w.heap.size l.length (l.length + 2) _ rfl (hown2.alloc _) ⟨w2.heap.size, 0, none⟩ 2 2 [.int .u8 mark, .int .u8 mark] rfl rfl (by intro j u hj; match j, hj with | 0, hj => (simp at hj; subst hj; simp [Addr.add]) | 1, hj => (simp at hj; subst hj; simp [Addr.add])) (ints_oneCell .u8 [mark, mark]) (by omega) ?_)
  intro w3 hown3 hgrow3
  have b3 : Below w.heap.size w w3 := (b2.alloc b2.size _).grown hgrow3 (by simp; have := b2.size; omega) (fun k h => by cases h; exact Nat.le_refl _)
  have H3 := Lib.hid (show Twinned w3 w.heap.size w.heap.size 28 1 l.length (l.map (.int .u8)) [.int .u8 mark, .int .u8 mark] by unfold Twinned; simpa using hown3)
  clear hown1 hown2 hown3
  go_wp2
  go_ret
  exact ⟨w.heap.size, rfl, Nat.le_refl _, H3.out, b3⟩

set_option maxHeartbeats 1000000 in
theorem leftParty_any {base g : Nat} {v : Value} {l m : List Int} {mark : Int} {w : World} (hl : l.length ≤ 100000000) (ht : Twinned w base g 28 1 l.length (l.map (.int .u8)) [.int .u8 mark, .int .u8 mark]) (hr : Reads w v 1 m.length (m.map (.int .u8))) :
    Calls Try.prog 64 #[.slice (some ⟨g, 0, none⟩) l.length (l.length + 2), v, .int .u8 mark] w fun e w' => e = .returned (.bool (decide (l = m))) ∧ Below w.heap.size w w' := by
  have hs := Lib.hid (sameParty_any (ht.reads hl (by simp)) hr)
  have hlt := ht.cells.1
  have m1 := ht.cells.2 l.length (by omega)
  have m2 := ht.cells.2 (l.length + 1) (by omega)
  rw [List.getElem?_append_right (by simp)] at m1 m2
  simp at m1 m2
  obtain ⟨ao, cap, rfl, _⟩ := hr
  clear ht
  go_enter Try.func64, Try.ntmps64
  go_wp2_with fail
  refine hs.out.mono ?_
  rintro e w1 ⟨rfl, b1⟩
  by_cases he : l = m
  · subst he
    have n1 : w1.cell? ⟨g, l.length, none⟩ = some (.int .u8 mark) := by rw [b1.cell (p := ⟨g, l.length, none⟩) hlt]; exact m1
    have n2 : w1.cell? ⟨g, l.length + 1, none⟩ = some (.int .u8 mark) := by rw [b1.cell (p := ⟨g, l.length + 1, none⟩) hlt]; exact m2
    rw [decide_eq_true rfl]
    go_wp2
    go_ret
    exact ⟨rfl, b1⟩
  · rw [decide_eq_false he]
    go_wp2
    go_ret
    exact ⟨by rw [decide_eq_false he]; rfl, b1⟩

theorem TwinParties_any {ao : Option Addr} {cap : Nat} {l : List Int} {w : World} (hr : Reads w (.slice ao l.length cap) 1 l.length (l.map (.int .u8))) (h0 : ao = none → cap = 0) :
    Calls Try.prog 31 #[.slice ao l.length cap] w (TwinDone w 28 1 l.length (l.map (.int .u8)) [.int .u8 195, .int .u8 195]) := by
  have c := Lib.hid (twinParty_any 195 hr h0)
  clear hr h0
  go_enter Try.func31, Try.ntmps31
  go_wp2_with fail
  refine c.out.mono ?_
  rintro e w' ⟨g, rfl, h1, h2, h3⟩
  have T := Lib.hid h2
  clear h2
  go_wp2
  go_ret
  exact ⟨g, rfl, h1, T.out, h3⟩
theorem LeftParties_any {base g : Nat} {v : Value} {l m : List Int} {w : World} (hl : l.length ≤ 100000000) (ht : Twinned w base g 28 1 l.length (l.map (.int .u8)) [.int .u8 195, .int .u8 195]) (hr : Reads w v 1 m.length (m.map (.int .u8))) :
    Calls Try.prog 35 #[.slice (some ⟨g, 0, none⟩) l.length (l.length + 2), v] w fun e w' => e = .returned (.bool (decide (l = m))) ∧ Below w.heap.size w w' := by
  have c := Lib.hid (leftParty_any hl ht hr)
  clear ht hr
  go_enter Try.func35, Try.ntmps35
  go_wp2_with fail
  refine c.out.mono ?_
  rintro e w' ⟨rfl, h⟩
  go_wp2
  go_ret
  exact ⟨rfl, h⟩

theorem lnCells_oneCell (l : List Ln) : ∀ u ∈ lnCells l, u.oneCell' = true := by
  intro u hu
  unfold lnCells at hu
  obtain ⟨x, _, hx⟩ := List.mem_flatMap.1 hu
  simp [Ln.vals] at hx
  rcases hx with rfl | rfl | rfl | rfl | rfl <;> rfl
set_option maxHeartbeats 1000000 in
theorem twinLine_any {ao : Option Addr} {cap : Nat} {l : List Ln} (x : Ln) {w : World} (hr : Reads w (.slice ao l.length cap) 5 l.length (lnCells l)) (h0 : ao = none → cap = 0) :
    Calls Try.prog 60 #[.slice ao l.length cap, .agg #[.int .u8 x.cr, .int .u8 x.de, .int .u8 x.cu, .int .i64 x.li, .int .i64 x.db]] w (TwinDone w 35 5 l.length (lnCells l) (lnCells [x, x])) := by
  obtain ⟨i0, hi, hz0, hz1, hz2⟩ := info_parts info_lineAll
  have HR := Lib.hid hr
  have HX := Lib.hid (Blk.new w #[.int .u8 x.cr, .int .u8 x.de, .int .u8 x.cu, .int .i64 x.li, .int .i64 x.db] 35)
  have HN := Lib.hid (hr.ofNone h0)
  have hl : l.length ≤ 100000000 := by obtain ⟨_, _, _, h, _⟩ := hr; exact h
  have bx := (Below.refl w.heap.size w).alloc (Nat.le_refl _) (.cells #[.int .u8 x.cr, .int .u8 x.de, .int .u8 x.cu, .int .i64 x.li, .int .i64 x.db] 35)
  clear hr h0
  go_enter Try.func60, Try.ntmps60
  go_wp2_with (at_make; refine wpList_make_own _ rfl _ _ 49 rfl (w.heap.size + 1) 35 i0 noLn.val 5 Try.underlying49 hi hz0 hz1 _ _ _ (l.length + 2) rfl rfl (by first | omega | go_num | (simp; omega)) (by rw [hz2]; omega) (by unfold maxLen; omega) (by simp) ?_)
  intro w1 hown1 hgrow1
  have X1 := Lib.hid (HX.out.grown hgrow1 (by simp))
  have b1 : Below w.heap.size w w1 := bx.grown hgrow1 (by simp) (fun k h => by cases h)
  have HA1 := Lib.hid (HR.out.below b1)
  go_wp2_with (at_builtin; refine wpList_append_fits_any _ rfl (.tmp 10) (.tmp 11) 49 rfl (w.heap.size + 1) 35 i0 5 Try.underlying49 hi hz1 (w.heap.size + 1) 0 (l.length + 2) _ rfl hown1 _ _ _ (lnCells l) rfl (lnCells_len l) HN.out HA1.out.src (lnCells_oneCell l) (by omega) ?_)
  intro w2 hown2 hgrow2
  have b2 := b1.grown hgrow2 b1.size (fun k h => by cases h; omega)
  have hX2 := X1.out.grown hgrow2 (by simp)
  have x0 := hX2.cell 0; have x1 := hX2.cell 1; have x2 := hX2.cell 2; have x3 := hX2.cell 3; have x4 := hX2.cell 4
  simp at x0 x1 x2 x3 x4
  have hxl := hX2.lt
  clear hX2
  go_wp2_with (at_builtin; refine wpList_append_fits _ rfl (.tmp 13) (.tmp 16) 49 rfl (w.heap.size + 1) 35 i0 5 Try.underlying49 hi hz1 (w.heap.size + 1) l.length (l.length + 2) _ (by simp [go_sem]) (hown2.alloc _) ⟨w2.heap.size, 0, none⟩ 2 2 (lnCells [x, x]) rfl rfl ?_ (lnCells_oneCell [x, x]) (by omega) ?_)
  · intro j u hj
    rw [Go.WideShapes.add_plain, Nat.zero_add]
    refine ((Blk.new w2 _ 35).cell j).trans ?_
    simpa [lnCells, Ln.vals] using hj
  intro w3 hown3 hgrow3
  have b3 : Below w.heap.size w w3 := (b2.alloc b2.size _).grown hgrow3 (by simp; have := b2.size; omega) (fun k h => by cases h; omega)
  have H3 := Lib.hid (show Twinned w3 w.heap.size (w.heap.size + 1) 35 5 l.length (lnCells l) (lnCells [x, x]) from owns_base (by simpa using hown3) (Nat.le_succ _))
  clear hown1 hown2 hown3
  go_wp2
  go_ret
  exact ⟨w.heap.size + 1, rfl, Nat.le_succ _, H3.out, b3⟩

set_option maxHeartbeats 2000000 in
theorem leftLine_any {base g : Nat} {v : Value} {l m : List Ln} {x : Ln} {w : World} (hl : l.length ≤ 10000000) (ht : Twinned w base g 35 5 l.length (lnCells l) (lnCells [x, x])) (hr : Reads w v 5 m.length (lnCells m)) :
    Calls Try.prog 65 #[.slice (some ⟨g, 0, none⟩) l.length (l.length + 2), v, .agg #[.int .u8 x.cr, .int .u8 x.de, .int .u8 x.cu, .int .i64 x.li, .int .i64 x.db]] w fun e w' => e = .returned (.bool (decide (l = m))) ∧ Below w.heap.size w w' := by
  have HR := Lib.hid hr
  have HT := Lib.hid (ht.reads (by omega) (lnCells_len l))
  have b0 := (Below.refl w.heap.size w).alloc (Nat.le_refl _) (.cells #[.int .u8 x.cr, .int .u8 x.de, .int .u8 x.cu, .int .i64 x.li, .int .i64 x.db] 35)
  have hs := Lib.hid (sameLine_any (HT.out.below b0) (HR.out.below b0))
  have B0 := Lib.hid b0
  have KX := Lib.hid (Blk.new w #[.int .u8 x.cr, .int .u8 x.de, .int .u8 x.cu, .int .i64 x.li, .int .i64 x.db] 35)
  have hg := ht.cells.1
  have MC : Hid (∀ j, j < 10 → w.cell? ⟨g, l.length * 5 + j, none⟩ = (lnCells [x, x])[j]?) := Lib.hid fun j hj => by
    have := ht.cells.2 (l.length * 5 + j) (by omega)
    rwa [List.getElem?_append_right (by rw [lnCells_len]; omega), lnCells_len, Nat.add_sub_cancel_left] at this
  obtain ⟨ao, cap, rfl, _⟩ := hr
  clear ht b0 HT HR
  go_enter Try.func65, Try.ntmps65
  go_wp2_with fail
  refine hs.out.mono ?_
  rintro e w1 ⟨rfl, b1⟩
  have B1 := Lib.hid (B0.out.trans (b1.mono B0.out.size))
  have KX1 := Lib.hid (KX.out.below b1 KX.out.lt)
  clear b1 B0 KX hs
  by_cases he : l = m
  · subst he
    have hg1 : g < w1.heap.size := Nat.lt_of_lt_of_le hg B1.out.size
    have M1 : Hid (∀ j, j < 10 → w1.cell? ⟨g, l.length * 5 + j, none⟩ = (lnCells [x, x])[j]?) := Lib.hid fun j hj => (B1.out.cell (p := ⟨g, l.length * 5 + j, none⟩) hg).trans (MC.out j hj)
    have m0 : w1.cell? ⟨g, l.length * 5, none⟩ = some (.int .u8 x.cr) := M1.out 0 (by omega)
    have m1 : w1.cell? ⟨g, l.length * 5 + 1, none⟩ = some (.int .u8 x.de) := M1.out 1 (by omega)
    have m2 : w1.cell? ⟨g, l.length * 5 + 2, none⟩ = some (.int .u8 x.cu) := M1.out 2 (by omega)
    have m3 : w1.cell? ⟨g, l.length * 5 + 3, none⟩ = some (.int .i64 x.li) := M1.out 3 (by omega)
    have m4 : w1.cell? ⟨g, l.length * 5 + 4, none⟩ = some (.int .i64 x.db) := M1.out 4 (by omega)
    have n0 : w1.cell? ⟨g, l.length * 5 + 5, none⟩ = some (.int .u8 x.cr) := M1.out 5 (by omega)
    have n1 : w1.cell? ⟨g, l.length * 5 + 5 + 1, none⟩ = some (.int .u8 x.de) := M1.out 6 (by omega)
    have n2 : w1.cell? ⟨g, l.length * 5 + 5 + 2, none⟩ = some (.int .u8 x.cu) := M1.out 7 (by omega)
    have n3 : w1.cell? ⟨g, l.length * 5 + 5 + 3, none⟩ = some (.int .i64 x.li) := M1.out 8 (by omega)
    have n4 : w1.cell? ⟨g, l.length * 5 + 5 + 4, none⟩ = some (.int .i64 x.db) := M1.out 9 (by omega)
    have k0 := KX1.out.cell 0; have k1 := KX1.out.cell 1; have k2 := KX1.out.cell 2; have k3 := KX1.out.cell 3; have k4 := KX1.out.cell 4
    have kl := KX1.out.lt
    simp at k0 k1 k2 k3 k4
    rw [decide_eq_true rfl]
    clear M1 MC
    go_wp2_with fail
    rw [show l.length + 2 - l.length = 2 by omega]
    go_quiet (fail)
    all_goals
      go_wp2_with fail
      go_ret
      exact ⟨rfl, below_drewN B1.out _⟩
  · rw [decide_eq_false he]
    go_wp2
    go_ret
    exact ⟨by rw [decide_eq_false he]; rfl, B1.out⟩
theorem TwinLines_any {ao : Option Addr} {cap : Nat} {l : List Ln} {w : World} (hr : Reads w (.slice ao l.length cap) 5 l.length (lnCells l)) (h0 : ao = none → cap = 0) :
    Calls Try.prog 32 #[.slice ao l.length cap] w (TwinDone w 35 5 l.length (lnCells l) (lnCells [⟨0, 0, 0, -77, 0⟩, ⟨0, 0, 0, -77, 0⟩])) := by
  have c := Lib.hid (twinLine_any ⟨0, 0, 0, -77, 0⟩ hr h0)
  clear hr h0
  dsimp only at c
  go_enter Try.func32, Try.ntmps32
  go_wp2_with fail
  refine c.out.mono ?_
  rintro e w' ⟨g, rfl, h1, h2, h3⟩
  have T := Lib.hid h2
  clear h2
  go_wp2
  go_ret
  exact ⟨g, rfl, h1, T.out, h3⟩
theorem LeftLines_any {base g : Nat} {v : Value} {l m : List Ln} {w : World} (hl : l.length ≤ 10000000) (ht : Twinned w base g 35 5 l.length (lnCells l) (lnCells [⟨0, 0, 0, -77, 0⟩, ⟨0, 0, 0, -77, 0⟩])) (hr : Reads w v 5 m.length (lnCells m)) :
    Calls Try.prog 36 #[.slice (some ⟨g, 0, none⟩) l.length (l.length + 2), v] w fun e w' => e = .returned (.bool (decide (l = m))) ∧ Below w.heap.size w w' := by
  have c := Lib.hid (leftLine_any hl ht hr)
  clear ht hr
  dsimp only at c
  go_enter Try.func36, Try.ntmps36
  go_wp2_with fail
  refine c.out.mono ?_
  rintro e w' ⟨rfl, h⟩
  go_wp2
  go_ret
  exact ⟨rfl, h⟩

end Go.Proofs.Ytlcilpeljnoclaa
