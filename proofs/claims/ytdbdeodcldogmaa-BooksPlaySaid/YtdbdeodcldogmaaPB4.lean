/-
  The program's books: Cancel, Take, Find.
-/
import Derived.Test.YtdbdeodcldogmaaPB2
import Derived.Test.YtdbdeodcldogmaaSame
import Derived.Lib.SliceRun
namespace Go.Proofs.Ytdbdeodcldogmaa
open Go.RowKit
set_option linter.unusedSimpArgs false
set_option linter.unusedVariables false

theorem setO_append (a b : List Of) (s n : Int) : setO (a ++ b) s n = setO a s n ++ setO b s n := by unfold setO; rw [List.map_append, List.filter_append]
theorem setO_other {a : List Of} {s n : Int} (h : ∀ x ∈ a, x.se ≠ s ∧ 0 < x.lf) : setO a s n = a := by
  induction a with
  | nil => rfl
  | cons x r ih =>
    have hx := h x (by simp)
    have hr := ih (fun y hy => h y (by simp [hy]))
    unfold setO at *
    rw [List.map_cons, List.filter_cons, show Of.put s n x = x by unfold Of.put; rw [if_neg hx.1], if_pos (by simpa using hx.2), hr]
theorem BInv.others {l : List Of} {N : Int} (h : BInv l N) {s : Int} (hp : posO l s < l.length) : (∀ x ∈ l.take (posO l s), x.se ≠ s ∧ 0 < x.lf) ∧ (∀ x ∈ l.drop (posO l s + 1), x.se ≠ s ∧ 0 < x.lf) ∧ l[posO l s].se = s := by
  have hlf : ∀ x ∈ l, 0 < x.lf := fun x hx => by have := (h.may x hx).2.2.2.2.1; omega
  have hat : l[posO l s].se = s := by
    have := List.findIdx_getElem (p := fun x : Of => x.se == s) (xs := l) (w := hp)
    exact eq_of_beq this
  refine ⟨fun x hx => ⟨?_, hlf x (List.mem_of_mem_take hx)⟩, fun x hx => ⟨?_, hlf x (List.mem_of_mem_drop hx)⟩, hat⟩
  · obtain ⟨j, hj, rfl⟩ := List.mem_take_iff_getElem.1 hx
    have := List.not_of_lt_findIdx (p := fun x : Of => x.se == s) (xs := l) (i := j) (by unfold posO at hj; omega)
    simpa using this
  · obtain ⟨j, hj, rfl⟩ := List.mem_drop_iff_getElem.1 hx
    have := List.pairwise_iff_getElem.1 h.rise (posO l s) (posO l s + 1 + j) hp (by omega) (by omega)
    intro e
    omega
theorem off_split {l : List Of} {k : Nat} (h : k < l.length) : l = l.take k ++ [l[k]] ++ l.drop (k + 1) := by
  rw [← List.take_succ_eq_append_getElem h, List.take_append_drop]
theorem setO_erase {l : List Of} {N : Int} (h : BInv l N) {s : Int} (hp : posO l s < l.length) : setO l s 0 = l.eraseIdx (posO l s) := by
  obtain ⟨h1, h2, h3⟩ := h.others hp
  conv => lhs; rw [off_split hp]
  rw [setO_append, setO_append, setO_other h1, setO_other h2, List.eraseIdx_eq_take_drop_succ]
  simp [setO, Of.put, h3]
theorem setO_put {l : List Of} {N : Int} (h : BInv l N) {s n : Int} (hn : 0 < n) (hp : posO l s < l.length) : setO l s n = l.set (posO l s) { l[posO l s] with lf := n } := by
  obtain ⟨h1, h2, h3⟩ := h.others hp
  conv => lhs; rw [off_split hp]
  rw [setO_append, setO_append, setO_other h1, setO_other h2, List.set_eq_take_append_cons_drop, if_pos hp]
  simp [setO, Of.put, h3, hn]
theorem setO_mem {l : List Of} {s n : Int} {y : Of} (h : y ∈ setO l s n) : 0 < y.lf ∧ ∃ x ∈ l, y = x ∨ (x.se = s ∧ y = { x with lf := n }) := by
  unfold setO at h
  obtain ⟨h1, h2⟩ := List.mem_filter.1 h
  obtain ⟨x, hx, rfl⟩ := List.mem_map.1 h1
  refine ⟨by simpa using h2, x, hx, ?_⟩
  unfold Of.put
  split
  · rename_i e; exact .inr ⟨e, rfl⟩
  · exact .inl rfl
theorem setO_se (l : List Of) (s n : Int) : ((l.map (Of.put s n)).map Of.se) = l.map Of.se := by
  rw [List.map_map]
  apply List.map_congr_left
  intro x _
  show (Of.put s n x).se = x.se
  unfold Of.put; split <;> rfl
theorem BInv.set {l : List Of} {N : Int} (h : BInv l N) {s n : Int} (hn : n ≤ 1099511627776) : BInv (setO l s n) N := by
  refine ⟨fun y hy => ?_, ?_, fun y hy => ?_, Nat.le_trans (setO_len l s n) h.len, h.n1, h.n2⟩
  · obtain ⟨h0, x, hx, rfl | ⟨_, rfl⟩⟩ := setO_mem hy
    · exact h.may _ hx
    · obtain ⟨a, b, c, d, e, f⟩ := h.may _ hx
      exact ⟨a, b, c, d, ⟨by have : 0 < n := h0; show 1 ≤ n; omega, hn⟩, f⟩
  · have h1 : (l.map (Of.put s n)).Pairwise fun x y => x.se < y.se := by
      rw [← List.pairwise_map (f := Of.se) (R := fun a b : Int => a < b), setO_se, List.pairwise_map]
      exact h.rise
    exact h1.filter _
  · obtain ⟨_, x, hx, rfl | ⟨_, rfl⟩⟩ := setO_mem hy
    · exact h.bd _ hx
    · have := h.bd _ hx; exact this
theorem BInv.cancel {l : List Of} {N : Int} (h : BInv l N) (ow s : Int) : BInv (cancelL l ow s) N := by
  unfold cancelL
  split
  · exact h.set (by omega)
  · exact h
theorem leftO_bd {l : List Of} {N : Int} (h : BInv l N) (s : Int) : 0 ≤ leftO l s ∧ leftO l s ≤ 1099511627776 := by
  unfold leftO
  cases hf : findO l s with
  | none => simp
  | some x => have := (h.may _ (findO_mem hf).1).2.2.2.2.1; simp only; omega
theorem takeE_pos {l : List Of} {s n : Int} (h : takeE l s n = 0) : 1 ≤ n := by
  unfold takeE at h
  split at h
  · omega
  · split at h
    · omega
    · omega
theorem BInv.take {l : List Of} {N : Int} (h : BInv l N) (s n : Int) : BInv (takeL l s n) N := by
  unfold takeL
  split
  · rename_i e
    have := leftO_bd h s
    have := takeE_pos e
    exact h.set (by omega)
  · exact h
theorem ofCells_set : ∀ (l : List Of) (k : Nat) (h : k < l.length) (n : Int), (ofCells l).set (k * 7 + 4) (.int .i64 n) = ofCells (l.set k { l[k] with lf := n })
  | x :: r, 0, _, n => by simp [ofCells, Of.vals]
  | x :: r, k + 1, h, n => by
    have ih := ofCells_set r k (by simpa using h) n
    have e1 : ofCells (x :: r) = x.vals ++ ofCells r := rfl
    have hk' : k < r.length := by simpa using h
    have e2 : ofCells ((x :: r).set (k + 1) { (x :: r)[k + 1] with lf := n }) = x.vals ++ ofCells (r.set k { r[k] with lf := n }) := rfl
    rw [e1, e2, ← ih, List.set_append_right _ _ (by simp [Of.vals]; omega)]
    congr 2
    simp [Of.vals]; omega
theorem owns_put {w : World} {base b cap k : Nat} {e : TypeId} {l : List Of} (h : w.ownsRow base e 7 (.slice (some ⟨b, 0, none⟩) l.length cap) l.length (ofCells l)) (hk : k < l.length) (n : Int) :
    (w.setCell ⟨b, k * 7 + 4, none⟩ (.int .i64 n)).ownsRow base e 7 (.slice (some ⟨b, 0, none⟩) l.length cap) (l.set k { l[k] with lf := n }).length (ofCells (l.set k { l[k] with lf := n })) := by
  obtain ⟨_, hx⟩ := h
  rcases hx with ⟨hx, _⟩ | ⟨g, cap', cur, hv, hbase, hb, h1, h2, h3, h4⟩
  · cases hx
  cases hv
  refine ⟨by rw [ofCells_len], .inr ⟨b, cap, _, by rw [List.length_set], hbase, Blk.set (show Blk w b cur e from hb) (k * 7 + 4) (.int .i64 n), by rw [List.length_set]; exact h1, h2, by simpa using h3, ?_⟩⟩
  rw [← ofCells_set l k hk n, ← h4, List.length_set, Array.toList_setIfInBounds, List.take_set]

set_option maxHeartbeats 4000000 in
theorem pcancel_any {w : World} {base g : Nat} {l : List Of} {N : Int} {vl : Value} (h : PB w base g l N vl) (hI : BInv l N) (ow s : Int) :
    Calls Try.prog 18 #[.pointer (some ⟨g, 0, none⟩), .int .u8 ow, .int .u64 s] w fun e w' => e = .returned (.tuple #[.int .i64 (cancelV l ow s), .int .i64 (cancelE l ow s)]) ∧ ∃ vl', PB w' base g (cancelL l ow s) N vl' ∧ Keep (Foot g vl) w w' ∧ Moved w vl vl' := by
  have C := Lib.hid (pstand_any h hI.n1 s)
  have H := Lib.hid h
  have HI := Lib.hid hI
  have hlen := hI.len
  clear h hI
  by_cases hp : posO l s < l.length
  · rw [show standV l s = .tuple #[.int .i64 (posO l s : Nat), .int .i64 0] by unfold standV; rw [if_pos hp]] at C
    have hf := posO_found hp
    have SE := Lib.hid (setO_erase HI.out hp)
    obtain ⟨ao, cap, hv, _, hcm, _, hr⟩ := owns_open H.out.row
    subst hv
    obtain ⟨b, rfl, hbb, hbl, hcell, _⟩ := hr (by omega)
    have HC := Lib.hid hcell
    have CR := Lib.hid (fun w1 (b1 : Below w.heap.size w w1) => premove_any (H.out.below b1) hp (by omega))
    clear hr hcell
    generalize hpk : posO l s = k at *
    clear hpk
    generalize hxk : l[k] = x at *
    unfold maxLen at hcm
    by_cases hw : x.ow = ow
    · have E := Lib.hid (show cancelV l ow s = x.lf ∧ cancelE l ow s = 0 ∧ cancelL l ow s = l.eraseIdx k from by
        have e2 : cancelE l ow s = 0 := by unfold cancelE; rw [hf]; exact if_pos hw
        exact ⟨by unfold cancelV; rw [hf]; exact if_pos hw, e2, by unfold cancelL; rw [if_pos e2, SE.out]⟩)
      have q1 : (x.ow == ow) = true := by simpa using hw
      have q2 : (x.ow != ow) = false := by simpa using hw
      rw [E.out.1, E.out.2.1, E.out.2.2]
      clear hf hw
      go_enter Try.func18, Try.ntmps18
      go_wp2_with fail
      refine C.out.mono ?_
      rintro e w1 ⟨rfl, b1⟩
      have H1 := H.out.below b1
      have hl := H1.blk.lt
      have d0 := H1.blk.cell 0
      simp at d0
      obtain ⟨e0, e1, e2, e3, e4, e5, e6⟩ := of_cells (w := w1) (fun j hj => by rw [b1.cell (p := ⟨b, j, none⟩) hbl]; exact HC.out j hj) hp
      rw [hxk] at e0 e1 e2 e3 e4 e5 e6
      have CR1 := Lib.hid (CR.out w1 b1)
      have HB1 := Lib.hid b1
      clear b1 H1 CR C hxk
      go_wp2_with fail
      refine CR1.out.mono ?_
      rintro e w2 ⟨rfl, vl', h2, k2, m2⟩
      have R := Lib.hid (And.intro h2 (And.intro k2 m2))
      clear h2 k2 m2
      go_wp2_with fail
      refine bodyPost_ret (v := .tuple #[.int .i64 x.lf, .int .i64 0]) (by simp [results, Try.results18, go_sem]) rfl ?_
      exact ⟨rfl, vl', R.out.1, (Keep.of_below HB1.out).trans R.out.2.1, fun b hb => .inl (by rw [← R.out.2.2]; exact hb)⟩
    · have E := Lib.hid (show cancelV l ow s = 0 ∧ cancelE l ow s = 15 ∧ cancelL l ow s = l from by
        have e2 : cancelE l ow s = 15 := by unfold cancelE; rw [hf]; exact if_neg hw
        exact ⟨by unfold cancelV; rw [hf]; exact if_neg hw, e2, by unfold cancelL; rw [if_neg (by rw [e2]; decide)]⟩)
      have q1 : (x.ow == ow) = false := by simpa using hw
      have q2 : (x.ow != ow) = true := by simpa using hw
      rw [E.out.1, E.out.2.1, E.out.2.2]
      clear hf hw CR
      go_enter Try.func18, Try.ntmps18
      go_wp2_with fail
      refine C.out.mono ?_
      rintro e w1 ⟨rfl, b1⟩
      have H1 := H.out.below b1
      have hl := H1.blk.lt
      have d0 := H1.blk.cell 0
      simp at d0
      obtain ⟨e0, e1, e2, e3, e4, e5, e6⟩ := of_cells (w := w1) (fun j hj => by rw [b1.cell (p := ⟨b, j, none⟩) hbl]; exact HC.out j hj) hp
      rw [hxk] at e0 e1 e2 e3 e4 e5 e6
      have HB1 := Lib.hid b1
      clear b1 H1 C hxk
      go_wp2_with fail
      refine bodyPost_ret (v := .tuple #[.int .i64 0, .int .i64 15]) (by simp [results, Try.results18, go_sem]) rfl ?_
      exact ⟨rfl, _, H.out.below HB1.out, Keep.of_below HB1.out, Moved.refl _ _⟩
  · rw [show standV l s = .tuple #[.int .i64 0, .int .i64 7] by unfold standV; rw [if_neg hp]] at C
    have hf := posO_missed hp
    have E := Lib.hid (show cancelV l ow s = 0 ∧ cancelE l ow s = 7 ∧ cancelL l ow s = l from by
      have e2 : cancelE l ow s = 7 := by unfold cancelE; rw [hf]
      exact ⟨by unfold cancelV; rw [hf], e2, by unfold cancelL; rw [if_neg (by rw [e2]; decide)]⟩)
    rw [E.out.1, E.out.2.1, E.out.2.2]
    clear hf hp
    go_enter Try.func18, Try.ntmps18
    go_wp2_with fail
    refine C.out.mono ?_
    rintro e w1 ⟨rfl, b1⟩
    have HB1 := Lib.hid b1
    clear b1 C
    go_wp2_with fail
    refine bodyPost_ret (v := .tuple #[.int .i64 0, .int .i64 7]) (by simp [results, Try.results18, go_sem]) rfl ?_
    exact ⟨rfl, _, H.out.below HB1.out, Keep.of_below HB1.out, Moved.refl _ _⟩
set_option maxHeartbeats 4000000 in
theorem ptake_any {w : World} {base g : Nat} {l : List Of} {N : Int} {vl : Value} (h : PB w base g l N vl) (hI : BInv l N) (s n : Int) :
    Calls Try.prog 20 #[.pointer (some ⟨g, 0, none⟩), .int .u64 s, .int .i64 n] w fun e w' => e = .returned (.int .i64 (takeE l s n)) ∧ ∃ vl', PB w' base g (takeL l s n) N vl' ∧ Keep (Foot g vl) w w' ∧ Moved w vl vl' := by
  have C := Lib.hid (pstand_any h hI.n1 s)
  have H := Lib.hid h
  have HI := Lib.hid hI
  have hlen := hI.len
  clear h hI
  by_cases hp : posO l s < l.length
  · rw [show standV l s = .tuple #[.int .i64 (posO l s : Nat), .int .i64 0] by unfold standV; rw [if_pos hp]] at C
    have hf := posO_found hp
    have SE := Lib.hid (setO_erase HI.out hp)
    have SP := Lib.hid (fun m hm => setO_put HI.out (s := s) (n := m) hm hp)
    obtain ⟨ao, cap, hv, _, hcm, _, hr⟩ := owns_open H.out.row
    subst hv
    obtain ⟨b, rfl, hbb, hbl, hcell, hfr⟩ := hr (by omega)
    have HC := Lib.hid hcell
    have HF := Lib.hid hfr
    have CR := Lib.hid (fun w1 (b1 : Below w.heap.size w w1) => premove_any (H.out.below b1) hp (by omega))
    have hlf := (HI.out.may _ (List.getElem_mem hp)).2.2.2.2.1
    have HA := Lib.hid (H.out.apart b rfl)
    have OP := Lib.hid (fun w1 (b1 : Below w.heap.size w w1) m => owns_put (owns_below H.out.row b1) hp m)
    clear hr hcell hfr
    generalize hpk : posO l s = k at *
    clear hpk
    generalize hxk : l[k] = x at *
    obtain ⟨hlf1, hlf2⟩ := hlf
    unfold maxLen at hcm
    by_cases hn1 : n < 1
    · have E := Lib.hid (show takeE l s n = 1 ∧ takeL l s n = l from by
        have e2 : takeE l s n = 1 := by unfold takeE; rw [hf]; exact if_pos (.inl hn1)
        exact ⟨e2, by unfold takeL; rw [if_neg (by rw [e2]; decide)]⟩)
      rw [E.out.1, E.out.2]
      clear hf CR OP SP SE
      go_enter Try.func20, Try.ntmps20
      go_wp2_with fail
      refine C.out.mono ?_
      rintro e w1 ⟨rfl, b1⟩
      have HB1 := Lib.hid b1
      clear b1 C hxk
      go_wp2_with fail
      go_ret
      exact ⟨rfl, _, H.out.below HB1.out, Keep.of_below HB1.out, Moved.refl _ _⟩
    by_cases hn2 : x.lf < n
    · have E := Lib.hid (show takeE l s n = 1 ∧ takeL l s n = l from by
        have e2 : takeE l s n = 1 := by unfold takeE; rw [hf]; exact if_pos (.inr hn2)
        exact ⟨e2, by unfold takeL; rw [if_neg (by rw [e2]; decide)]⟩)
      rw [E.out.1, E.out.2]
      clear hf CR OP SP SE
      go_enter Try.func20, Try.ntmps20
      go_wp2_with fail
      refine C.out.mono ?_
      rintro e w1 ⟨rfl, b1⟩
      have H1 := H.out.below b1
      have hl := H1.blk.lt
      have d0 := H1.blk.cell 0
      simp at d0
      obtain ⟨e0, e1, e2, e3, e4, e5, e6⟩ := of_cells (w := w1) (fun j hj => by rw [b1.cell (p := ⟨b, j, none⟩) hbl]; exact HC.out j hj) hp
      rw [hxk] at e0 e1 e2 e3 e4 e5 e6
      have HB1 := Lib.hid b1
      clear b1 C H1 hxk
      go_wp2_with fail
      go_ret
      exact ⟨rfl, _, H.out.below HB1.out, Keep.of_below HB1.out, Moved.refl _ _⟩
    have e0' : takeE l s n = 0 := by unfold takeE; rw [hf]; exact if_neg (by omega)
    have eL : leftO l s = x.lf := by unfold leftO; rw [hf]
    by_cases hn3 : n = x.lf
    · have E := Lib.hid (show takeE l s n = 0 ∧ takeL l s n = l.eraseIdx k from ⟨e0', by unfold takeL; rw [if_pos e0', eL, hn3, Int.sub_self, SE.out]⟩)
      rw [E.out.1, E.out.2]
      have q1 : (n == x.lf) = true := by simpa using hn3
      clear hf OP SP SE e0' eL hn3
      go_enter Try.func20, Try.ntmps20
      go_wp2_with fail
      refine C.out.mono ?_
      rintro e w1 ⟨rfl, b1⟩
      have H1 := H.out.below b1
      have hl := H1.blk.lt
      have d0 := H1.blk.cell 0
      simp at d0
      obtain ⟨e0, e1, e2, e3, e4, e5, e6⟩ := of_cells (w := w1) (fun j hj => by rw [b1.cell (p := ⟨b, j, none⟩) hbl]; exact HC.out j hj) hp
      rw [hxk] at e0 e1 e2 e3 e4 e5 e6
      have CR1 := Lib.hid (CR.out w1 b1)
      have HB1 := Lib.hid b1
      clear b1 C H1 CR hxk
      go_wp2_with fail
      refine CR1.out.mono ?_
      rintro e w2 ⟨rfl, vl', h2, k2, m2⟩
      have R := Lib.hid (And.intro h2 (And.intro k2 m2))
      clear h2 k2 m2
      go_wp2_with fail
      go_ret
      exact ⟨rfl, vl', R.out.1, (Keep.of_below HB1.out).trans R.out.2.1, fun b hb => .inl (by rw [← R.out.2.2]; exact hb)⟩
    · have E := Lib.hid (show takeE l s n = 0 ∧ takeL l s n = l.set k { x with lf := x.lf - n } from ⟨e0', by unfold takeL; rw [if_pos e0', eL, SP.out _ (by omega)]⟩)
      rw [E.out.1, E.out.2]
      have q1 : (n == x.lf) = false := by simpa using hn3
      clear hf CR SP SE e0' eL hn3
      go_enter Try.func20, Try.ntmps20
      go_wp2_with fail
      refine C.out.mono ?_
      rintro e w1 ⟨rfl, b1⟩
      have H1 := H.out.below b1
      have hl := H1.blk.lt
      have d0 := H1.blk.cell 0
      simp at d0
      obtain ⟨e0, e1, e2, e3, e4, e5, e6⟩ := of_cells (w := w1) (fun j hj => by rw [b1.cell (p := ⟨b, j, none⟩) hbl]; exact HC.out j hj) hp
      rw [hxk] at e0 e1 e2 e3 e4 e5 e6
      have hfz : w1.frozen? ⟨b, k * 7 + 4, none⟩ = false := by rw [b1.frozen (p := ⟨b, k * 7 + 4, none⟩) hbl]; exact HF.out _
      have HO1 := Lib.hid (OP.out w1 b1 (x.lf - n))
      have hb1 : b < w1.heap.size := Nat.lt_of_lt_of_le hbl b1.size
      have HG := Lib.hid H1.blk
      have HB1 := Lib.hid b1
      clear b1 C H1 OP hxk
      go_wp2_with fail
      go_ret
      have k2 : Keep (· = b) w1 (w1.setCell ⟨b, k * 7 + 4, none⟩ (.int .i64 (x.lf - n))) := Keep.setCell (S := (· = b)) (Keep.refl _ _) (p := ⟨b, k * 7 + 4, none⟩) (.inl rfl) _
      refine ⟨rfl, _, ⟨HG.out.keep k2 (fun e => HA.out e.symm), H.out.ge, HO1.out⟩, ((Keep.of_below HB1.out).trans k2).mono (fun j _ (hj : j = b) => .inr (by rw [hj]; rfl)), Moved.refl _ _⟩
  · rw [show standV l s = .tuple #[.int .i64 0, .int .i64 7] by unfold standV; rw [if_neg hp]] at C
    have hf := posO_missed hp
    have E := Lib.hid (show takeE l s n = 7 ∧ takeL l s n = l from by
      have e2 : takeE l s n = 7 := by unfold takeE; rw [hf]
      exact ⟨e2, by unfold takeL; rw [if_neg (by rw [e2]; decide)]⟩)
    rw [E.out.1, E.out.2]
    clear hf hp
    go_enter Try.func20, Try.ntmps20
    go_wp2_with fail
    refine C.out.mono ?_
    rintro e w1 ⟨rfl, b1⟩
    have HB1 := Lib.hid b1
    clear b1 C
    go_wp2_with fail
    go_ret
    exact ⟨rfl, _, H.out.below HB1.out, Keep.of_below HB1.out, Moved.refl _ _⟩
set_option maxHeartbeats 4000000 in
theorem pfind_any {w : World} {base g : Nat} {l : List Of} {N : Int} {vl : Value} (h : PB w base g l N vl) (h1 : 1 ≤ N) (s : Int) :
    Calls Try.prog 23 #[.pointer (some ⟨g, 0, none⟩), .int .u64 s] w fun e w' => e = .returned (foundV (findO l s)) ∧ Below w.heap.size w w' := by
  have bw := (Below.refl w.heap.size w).alloc (Nat.le_refl _) (.cells #[.int .u64 0, .int .u8 0, .int .u8 0, .int .u8 0, .int .i64 0, .int .i64 0, .int .i64 0] 39)
  have h2 := h.below bw
  have B := Lib.hid bw
  have H := Lib.hid h2
  have KR := Lib.hid (Blk.new w #[.int .u64 0, .int .u8 0, .int .u8 0, .int .u8 0, .int .i64 0, .int .i64 0, .int .i64 0] 39)
  have C := Lib.hid (pstand_any h2 h1 s)
  obtain ⟨ao, cap, rfl, hc1, hc2, hc3, hc4⟩ := owns_open h2.row
  have HC := Lib.hid hc4
  unfold maxLen at hc2
  clear hc3 hc4 h bw h2 h1
  by_cases hp : posO l s < l.length
  · rw [show standV l s = .tuple #[.int .i64 (posO l s : Nat), .int .i64 0] by unfold standV; rw [if_pos hp]] at C
    have E := Lib.hid (posO_found hp)
    generalize hpk : posO l s = k at *
    clear hpk
    go_enter Try.func23, Try.ntmps23
    go_wp2_with fail
    refine C.out.mono ?_
    rintro e w1 ⟨rfl, b1⟩
    obtain ⟨b, rfl, hb1, hb2, hcell, _⟩ := HC.out (by omega)
    have H1 := H.out.below b1
    have hl := H1.blk.lt
    have d0 := H1.blk.cell 0
    simp at d0
    obtain ⟨e0, e1, e2, e3, e4, e5, e6⟩ := of_cells (w := w1) (fun j hj => by rw [b1.cell (p := ⟨b, j, none⟩) hb2]; exact hcell j hj) hp
    have KR1 := Lib.hid (KR.out.below b1 KR.out.lt)
    have B1 := Lib.hid (B.out.trans (b1.mono B.out.size))
    clear hcell b1 C H1 KR
    generalize l[k] = x at *
    go_wp2_with (refine wpList_store_whole rfl 39 (.tmp 4) (.tmp 23) rfl w.heap.size #[.int .u64 x.se, .int .u8 x.ow, .int .u8 x.sl, .int .u8 x.bu, .int .i64 x.lf, .int .i64 x.nu, .int .i64 x.de] rfl rfl 39 _ KR1.out.out (by kernel_rfl) rfl (by simp [Value.oneCell']) ?_)
    rw [E.out]
    refine bodyPost_ret (v := .tuple #[x.val, .bool true]) (results_cell_and rfl _ _ w.heap.size 39 #[.int .u64 x.se, .int .u8 x.ow, .int .u8 x.sl, .int .u8 x.bu, .int .i64 x.lf, .int .i64 x.nu, .int .i64 x.de] _ _ rfl (setRow_heap _ w.heap.size _ _ _ (0, 0) KR1.out.out) Try.underlying39 rfl (by kernel_rfl) rfl) rfl ⟨rfl, below_setRow B1.out (Nat.le_refl _) _⟩
  · rw [show standV l s = .tuple #[.int .i64 0, .int .i64 7] by unfold standV; rw [if_neg hp]] at C
    have E := Lib.hid (posO_missed hp)
    clear hp
    go_enter Try.func23, Try.ntmps23
    go_wp2_with fail
    refine C.out.mono ?_
    rintro e w1 ⟨rfl, b1⟩
    have KR1 := Lib.hid (KR.out.below b1 KR.out.lt)
    have B1 := Lib.hid (B.out.trans (b1.mono B.out.size))
    clear b1 C KR
    go_wp2_with (refine wpList_store_whole rfl 39 (.tmp 4) (.tmp 16) rfl w.heap.size #[.int .u64 0, .int .u8 0, .int .u8 0, .int .u8 0, .int .i64 0, .int .i64 0, .int .i64 0] rfl rfl 39 _ KR1.out.out (by kernel_rfl) rfl (by simp [Value.oneCell']) ?_)
    rw [E.out]
    refine bodyPost_ret (v := .tuple #[noOf.val, .bool false]) (results_cell_and rfl _ _ w.heap.size 39 #[.int .u64 0, .int .u8 0, .int .u8 0, .int .u8 0, .int .i64 0, .int .i64 0, .int .i64 0] _ _ rfl (setRow_heap _ w.heap.size _ _ _ (0, 0) KR1.out.out) Try.underlying39 rfl (by kernel_rfl) rfl) rfl ⟨rfl, below_setRow B1.out (Nat.le_refl _) _⟩

end Go.Proofs.Ytdbdeodcldogmaa

/-
  The program's books: All; slices.Clone, slices.Clip on offers.
-/
namespace Go.Proofs.Ytdbdeodcldogmaa
open Go.RowKit
set_option linter.unusedSimpArgs false
set_option linter.unusedVariables false

def OwnPost (w : World) (e : TypeId) (l : List Of) (en : Ending) (w' : World) : Prop :=
  ∃ v', en = .returned v' ∧ w'.ownsRow w.heap.size e 7 v' l.length (ofCells l) ∧ Below w.heap.size w w'
set_option maxHeartbeats 2000000 in
set_option maxRecDepth 100000 in
theorem cloneO_any {w : World} {base : Nat} {v : Value} {l : List Of} (h : w.ownsRow base 75 7 v l.length (ofCells l)) (hl : l.length ≤ 1000) :
    Calls Try.prog 40 #[v] w (OwnPost w 75 l) := by
  have q22 : ∀ (w : World) (a : Option Addr) (n c n' c' : Nat), (binOp .eql 61 (.slice a n c) (.slice none n' c')).run Try.prog w = .ok (.bool a.isNone) w := fun w a n c n' c' => Lib.run_eql_slice_nil w _ _ a n c n' c' Try.underlying61
  rcases h.2 with ⟨rfl, h0⟩ | ⟨g, cap, cur, rfl, hbase, hb, h1, h2, h3, h4⟩
  · have hl0 := List.eq_nil_of_length_eq_zero h0
    subst hl0
    clear h h0
    go_enter Try.func40, Try.ntmps40
    go_wp2
    refine bodyPost_ret (v := .slice none 0 0) (by simp [results, Try.results40, go_sem]) rfl ?_
    exact ⟨_, rfl, World.ownsRow_nil _ _ _ _, Below.refl _ _⟩
  · obtain ⟨i0, hi1, hi2, hi3, hi4⟩ := info_parts info_poff
    have HC := Lib.hid (h.cells (g := g) rfl)
    have HL := Lib.hid hl
    have HX := Lib.hid h.1
    clear h hb h1 h2 h3 h4 hl
    go_enter Try.func40, Try.ntmps40
    go_wp2_with (at_builtin; refine wpList_append_own _ rfl _ _ 61 rfl w.heap.size 75 i0 zOff 7 40 Try.underlying61 hi1 hi2 hi3 hi4 rfl (by decide) _ _ _ rfl (World.ownsRow_made w #[] 0 (Nat.le_refl _) (Nat.zero_le _) (by simp)) ⟨g, 0, none⟩ l.length cap (ofCells l) rfl ?qc1 ?qc2 ?qc3 ?qc4 ?qc5 ?qc6 ?_)
    case qc1 => exact HX.out
    case qc2 =>
      intro j u hj
      exact Lib.cell?_alloc_some _ (HC.out j u hj)
    case qc3 => exact ofCells_oneCell l
    case qc4 => rw [Nat.zero_add]; have := HL.out; unfold maxLen; omega
    case qc5 => rw [Nat.zero_add]; have := HL.out; omega
    case qc6 => simp
    intro v' w1 hown hgrow hnil
    have HO := Lib.hid (show w1.ownsRow w.heap.size 75 7 v' l.length (ofCells l) by simpa using hown)
    have HB := Lib.hid (((Below.refl w.heap.size w).alloc (Nat.le_refl _) (.cells #[] 75)).grown hgrow (by simp) (by intro k hk; simp [Value.ownBlock] at hk; omega))
    clear hown hgrow hnil
    go_wp2
    refine bodyPost_ret (v := v') (by simp [results, Try.results40, go_sem]) rfl ?_
    exact ⟨v', rfl, HO.out, HB.out⟩
theorem clipO_any {w : World} {base : Nat} {v : Value} {n : Nat} {xs : List Value} (h : w.ownsRow base 39 7 v n xs) :
    Calls Try.prog 66 #[v] w (ClipPost w base 39 7 n v xs) := by
  rcases h.2 with ⟨rfl, h0⟩ | ⟨g, cap, cur, rfl, hbase, hb, h1, h2, h3, h4⟩
  · subst h0
    have hr := run_slice_clip_none (P := Try.prog) w 50 39 7 Try.underlying50 (Try.sizeOf39 w)
    have hx := h.1
    have hx2 := Lib.hid hx
    clear h hx
    go_enter Try.func66, Try.ntmps66
    go_wp2
    refine bodyPost_ret (v := .slice none 0 0) (by simp [results, Try.results66, go_sem]) rfl ?_
    exact ⟨_, rfl, ⟨hx2.out, .inl ⟨rfl, rfl⟩⟩, rfl, rfl⟩
  · have hr := run_slice_clip (P := Try.prog) w 50 39 7 Try.underlying50 (Try.sizeOf39 w) g n cap h1
    have HR := Lib.hid (show Rowed w base 39 7 (.slice (some ⟨g, 0, none⟩) n n) n xs from ⟨h.1, .inr ⟨g, cur, rfl, hbase, hb, by omega, by omega, h4⟩⟩)
    clear h hb h4 h3
    unfold maxLen at h2
    go_enter Try.func66, Try.ntmps66
    go_wp2
    refine bodyPost_ret (v := .slice (some ⟨g, 0, none⟩) n n) (by simp [results, Try.results66, go_sem]) rfl ?_
    exact ⟨_, rfl, HR.out, rfl, rfl⟩
def ToldAt (w : World) (l : List Of) (v i : Value) (wr : World) : Prop :=
  ∃ k : Nat, k ≤ l.length ∧ i = .int .i64 k ∧ wr.ownsRow w.heap.size 39 7 v (l.take k).length (ofCells (l.take k)) ∧ Below w.heap.size w wr
set_option maxHeartbeats 4000000 in
set_option maxRecDepth 100000 in
theorem told_any {w : World} {base : Nat} {v : Value} {l : List Of} (h : w.ownsRow base 75 7 v l.length (ofCells l)) (hl : l.length ≤ 1000) :
    Calls Try.prog 49 #[v] w (ListPost w 39 7 l.length (ofCells l)) := by
  obtain ⟨ao, cap, rfl, hc1, hc2, hc3, hc4⟩ := owns_open h
  have HC := Lib.hid hc4
  unfold maxLen at hc2
  clear hc3 hc4 h
  go_enter Try.func49, Try.ntmps49
  go_wp2_with fail
  go_loopw [3, 8] (ToldAt w l) (fun _ i _ => l.length - (intOf i).toNat)
  case atStart => exact ⟨0, Nat.zero_le _, rfl, World.ownsRow_nil _ _ _ _, Below.refl _ _⟩
  case round =>
    obtain ⟨k, hk, rfl, hown, hb⟩ := hrel
    by_cases hkl : k < l.length
    · obtain ⟨b, rfl, hb1, hb2, hcell, _⟩ := HC.out (by omega)
      obtain ⟨e0, e1, e2, e3, e4, e5, e6⟩ := of_cells (w := wr) (fun j hj => by rw [hb.cell (p := ⟨b, j, none⟩) hb2]; exact hcell j hj) hkl
      have NX := Lib.hid (List.take_succ_eq_append_getElem hkl)
      have hlk : (l.take k).length ≤ 1000 := Nat.le_trans (List.length_take_le _ _) (by omega)
      clear hcell
      generalize l[k] = y at *
      generalize l.take k = out at *
      have bw := (Below.refl wr.heap.size wr).alloc (Nat.le_refl _) (.cells #[.int .u64 y.se, .int .u8 y.ow, .int .u8 y.sl, .int .u8 y.bu, .int .i64 y.lf, .int .i64 y.nu, .int .i64 y.de] 75)
      have K0 := Lib.hid (Blk.new wr #[.int .u64 y.se, .int .u8 y.ow, .int .u8 y.sl, .int .u8 y.bu, .int .i64 y.lf, .int .i64 y.nu, .int .i64 y.de] 75)
      have OY := Lib.hid (owns_below hown bw)
      have BY := Lib.hid (hb.trans (bw.mono hb.size))
      have hl2 : out.length ≤ 100000 := by omega
      clear hown hb bw
      go_wp2_with (at_builtin; refine wpList_append_of _ rfl (.tmp 12) (.tmp 14) rfl w.heap.size _ out rfl (OY.out.alloc _) _ _ y rfl (Blk.newAt _ _ _ (by simp)) hl2 (by have := BY.out.size; simp at this ⊢; omega) ?_)
      intro v3 w3 hown3 hgr3
      have R2 : ∀ k, Value.ownBlock _ = some k → w.heap.size ≤ k := fun k hk => (owns_type OY.out hk).1
      have B3 := Lib.hid ((BY.out.alloc BY.out.size _).grown hgr3 (by have := BY.out.size; simp at this ⊢; omega) (fun k hk => R2 k hk))
      have O3 := Lib.hid (show w3.ownsRow w.heap.size 39 7 v3 (out ++ [y]).length (ofCells (out ++ [y])) by simpa using hown3)
      clear R2 hown3 hgr3
      go_wp2_with fail
      go_roundw
      case rel => exact ⟨k + 1, by omega, by go_num, by rw [NX.out]; exact O3.out, B3.out⟩
      case measure => simp [intOf]; omega
    · have hke : l.take k = l := List.take_of_length_le (by omega)
      rw [hke] at hown
      have CC := Lib.hid (clipO_any hown)
      have HB := Lib.hid hb
      clear hown hb hke
      go_wp2_with fail
      refine CC.out.mono ?_
      rintro e w3 ⟨v', rfl, hrow, _, rfl⟩
      have HRow := Lib.hid hrow
      clear hrow CC
      go_wp2_with fail
      refine bodyPost_ret (v := v') (by simp [results, Try.results49, go_sem]) rfl ?_
      exact ⟨v', rfl, HRow.out, HB.out⟩
theorem pall_of {w : World} {base : Nat} {pv v : Value} {l : List Of} (hc : Calls Try.prog 45 #[pv] w fun e w' => e = .returned v ∧ w = w') (h : w.ownsRow base 75 7 v l.length (ofCells l)) (hl : l.length ≤ 1000) :
    Calls Try.prog 29 #[pv] w (ListPost w 39 7 l.length (ofCells l)) := by
  have C1 := Lib.hid hc
  have C2 := Lib.hid (told_any h hl)
  clear hc h
  go_enter Try.func29, Try.ntmps29
  go_wp2_with fail
  refine C1.out.mono ?_
  rintro e w ⟨rfl, rfl⟩
  go_wp2_with fail
  refine C2.out.mono ?_
  rintro e w1 ⟨v', rfl, h1, b1⟩
  have H1 := Lib.hid (And.intro h1 b1)
  clear h1 b1
  go_wp2_with fail
  refine bodyPost_ret (v := v') (by simp [results, Try.results29, go_sem]) rfl ?_
  exact ⟨v', rfl, H1.out.1, H1.out.2⟩
theorem pall_nil (w : World) : Calls Try.prog 29 #[.pointer none] w (ListPost w 39 7 0 []) :=
  pall_of (l := []) (ball_nil w) (World.ownsRow_nil w 0 _ _) (by simp)
theorem pall_any {w : World} {base g : Nat} {l : List Of} {N : Int} {vl : Value} (h : PB w base g l N vl) (hl : l.length ≤ 1000) :
    Calls Try.prog 29 #[.pointer (some ⟨g, 0, none⟩)] w (ListPost w 39 7 l.length (ofCells l)) := by
  obtain ⟨ao, cap, rfl, _⟩ := owns_open h.row
  exact pall_of (ball_any h.blk) h.row hl

end Go.Proofs.Ytdbdeodcldogmaa
