/-
  Pieces of one proof, without what is not wanted: PB4, Ref04e, PB8.
-/
import Derived.Test.YtbieomgpfhloeaaM02
import Derived.Test.YtbieomgpfhloeaaM14
import Derived.Test.YtbieomgpfhloeaaM15
import Derived.Lib.SliceRun
import Derived.Maps.AppendAt
import Derived.Deep.RegionLaw
set_option linter.unusedSimpArgs false
set_option linter.unusedVariables false
namespace Go.Proofs.Ytbieomgpfhloeaa
open Go.RowKit
theorem setO_append (a b : List Of) (s n : Int) : setO (a ++ b) s n = setO a s n ++ setO b s n := by unfold setO; rw [List.map_append, List.filter_append]
theorem setO_other {a : List Of} {s n : Int} (h : ∀ x ∈ a, x.se ≠ s ∧ 0 < x.lf) : setO a s n = a := by
 induction a with
 | nil => rfl
 | cons x r ih =>
  have hx := h x (by simp)
  have hr := ih (fun y hy => h y (by simp [hy]))
  unfold setO at *
  rw [List.map_cons, List.filter_cons, show Of.put s n x = x by unfold Of.put; rw [if_neg hx.1], if_pos (by simpa using hx.2), hr]
theorem BInv.others {l : List Of} {N : Int} (h : BInv l N) {s : Int} (hp : posO l s < l.length) : (∀ x ∈ l.take (posO l s), x.se ≠ s ∧ 0 < x.lf) ∧ (∀ x ∈ l.drop (posO l s + 1), x.se ≠ s ∧ 0 < x.lf) ∧ l[posO l s].se = s := by
 have hlf : ∀ x ∈ l, 0 < x.lf := fun x hx => by have := (h.may x hx).2.2.2.2.1; omega
 have hat : l[posO l s].se = s := by
  have := List.findIdx_getElem (p := fun x : Of => x.se == s) (xs := l) (w := hp)
  exact eq_of_beq this
 refine ⟨fun x hx => ⟨?_, hlf x (List.mem_of_mem_take hx)⟩, fun x hx => ⟨?_, hlf x (List.mem_of_mem_drop hx)⟩, hat⟩
 ·obtain ⟨j, hj, rfl⟩ := List.mem_take_iff_getElem.1 hx
  have := List.not_of_lt_findIdx (p := fun x : Of => x.se == s) (xs := l) (i := j) (by unfold posO at hj; omega)
  simpa using this
 ·obtain ⟨j, hj, rfl⟩ := List.mem_drop_iff_getElem.1 hx
  have := List.pairwise_iff_getElem.1 h.rise (posO l s) (posO l s + 1 + j) hp (by omega) (by omega)
  intro e
  omega
theorem off_split {l : List Of} {k : Nat} (h : k < l.length) : l = l.take k ++ [l[k]] ++ l.drop (k + 1) := by
 rw [← List.take_succ_eq_append_getElem h, List.take_append_drop]
theorem setO_erase {l : List Of} {N : Int} (h : BInv l N) {s : Int} (hp : posO l s < l.length) : setO l s 0 = l.eraseIdx (posO l s) := by
 obtain ⟨h1, h2, h3⟩ := h.others hp
 conv => lhs; rw [off_split hp]
 rw [setO_append, setO_append, setO_other h1, setO_other h2, List.eraseIdx_eq_take_drop_succ]
 simp [setO, Of.put, h3]
theorem setO_put {l : List Of} {N : Int} (h : BInv l N) {s n : Int} (hn : 0 < n) (hp : posO l s < l.length) : setO l s n = l.set (posO l s) { l[posO l s] with lf := n } := by
 obtain ⟨h1, h2, h3⟩ := h.others hp
 conv => lhs; rw [off_split hp]
 rw [setO_append, setO_append, setO_other h1, setO_other h2, List.set_eq_take_append_cons_drop, if_pos hp]
 simp [setO, Of.put, h3, hn]
theorem setO_mem {l : List Of} {s n : Int} {y : Of} (h : y ∈ setO l s n) : 0 < y.lf ∧ ∃ x ∈ l, y = x ∨ (x.se = s ∧ y = { x with lf := n }) := by
 unfold setO at h
 obtain ⟨h1, h2⟩ := List.mem_filter.1 h
 obtain ⟨x, hx, rfl⟩ := List.mem_map.1 h1
 refine ⟨by simpa using h2, x, hx, ?_⟩
 unfold Of.put
 split
 ·rename_i e; exact .inr ⟨e, rfl⟩
 ·exact .inl rfl
theorem setO_se (l : List Of) (s n : Int) : ((l.map (Of.put s n)).map Of.se) = l.map Of.se := by
 rw [List.map_map]
 apply List.map_congr_left
 intro x _
 show (Of.put s n x).se = x.se
 unfold Of.put; split <;> rfl
theorem BInv.set {l : List Of} {N : Int} (h : BInv l N) {s n : Int} (hn : n ≤ 1099511627776) : BInv (setO l s n) N := by
 refine ⟨fun y hy => ?_, ?_, fun y hy => ?_, Nat.le_trans (setO_len l s n) h.len, h.n1, h.n2⟩
 ·obtain ⟨h0, x, hx, rfl | ⟨_, rfl⟩⟩ := setO_mem hy
  ·exact h.may _ hx
  ·obtain ⟨a, b, c, d, e, f⟩ := h.may _ hx
   exact ⟨a, b, c, d, ⟨by have : 0 < n := h0; show 1 ≤ n; omega, hn⟩, f⟩
 ·have h1 : (l.map (Of.put s n)).Pairwise fun x y => x.se < y.se := by
   rw [← List.pairwise_map (f := Of.se) (R := fun a b : Int => a < b), setO_se, List.pairwise_map]
   exact h.rise
  exact h1.filter _
 ·obtain ⟨_, x, hx, rfl | ⟨_, rfl⟩⟩ := setO_mem hy
  ·exact h.bd _ hx
  ·have := h.bd _ hx; exact this
theorem leftO_bd {l : List Of} {N : Int} (h : BInv l N) (s : Int) : 0 ≤ leftO l s ∧ leftO l s ≤ 1099511627776 := by
 unfold leftO
 cases hf : findO l s with
 | none => simp
 | some x => have := (h.may _ (findO_mem hf).1).2.2.2.2.1; simp only; omega
theorem takeE_pos {l : List Of} {s n : Int} (h : takeE l s n = 0) : 1 ≤ n := by
 unfold takeE at h
 split at h
 ·omega
 ·split at h
  ·omega
  ·omega
theorem BInv.take {l : List Of} {N : Int} (h : BInv l N) (s n : Int) : BInv (takeL l s n) N := by
 unfold takeL
 split
 ·rename_i e
  have := leftO_bd h s
  have := takeE_pos e
  exact h.set (by omega)
 ·exact h
theorem ofCells_set : ∀ (l : List Of) (k : Nat) (h : k < l.length) (n : Int), (ofCells l).set (k * 7 + 4) (.int .i64 n) = ofCells (l.set k { l[k] with lf := n })
 | x :: r, 0, _, n => by simp [ofCells, Of.vals]
 | x :: r, k + 1, h, n => by
  have ih := ofCells_set r k (by simpa using h) n
  have e1 : ofCells (x :: r) = x.vals ++ ofCells r := rfl
  have hk' : k < r.length := by simpa using h
  have e2 : ofCells ((x :: r).set (k + 1) { (x :: r)[k + 1] with lf := n }) = x.vals ++ ofCells (r.set k { r[k] with lf := n }) := rfl
  rw [e1, e2, ← ih, List.set_append_right _ _ (by simp [Of.vals]; omega)]
  congr 2
  simp [Of.vals]; omega
theorem owns_put {w : World} {base b cap k : Nat} {e : TypeId} {l : List Of} (h : w.ownsRow base e 7 (.slice (some ⟨b, 0, none⟩) l.length cap) l.length (ofCells l)) (hk : k < l.length) (n : Int) :
  (w.setCell ⟨b, k * 7 + 4, none⟩ (.int .i64 n)).ownsRow base e 7 (.slice (some ⟨b, 0, none⟩) l.length cap) (l.set k { l[k] with lf := n }).length (ofCells (l.set k { l[k] with lf := n })) := by
 obtain ⟨_, hx⟩ := h
 rcases hx with ⟨hx, _⟩ | ⟨g, cap', cur, hv, hbase, hb, h1, h2, h3, h4⟩
 ·cases hx
 cases hv
 refine ⟨by rw [ofCells_len], .inr ⟨b, cap, _, by rw [List.length_set], hbase, Blk.set (show Blk w b cur e from hb) (k * 7 + 4) (.int .i64 n), by rw [List.length_set]; exact h1, h2, by simpa using h3, ?_⟩⟩
 rw [← ofCells_set l k hk n, ← h4, List.length_set, Array.toList_setIfInBounds, List.take_set]
set_option maxHeartbeats 4000000 in
theorem ptake_any {w : World} {base g : Nat} {l : List Of} {N : Int} {vl : Value} (h : PB w base g l N vl) (hI : BInv l N) (s n : Int) :
  Calls Try.prog 19 #[.pointer (some ⟨g, 0, none⟩), .int .u64 s, .int .i64 n] w fun e w' => e = .returned (.int .i64 (takeE l s n)) ∧ ∃ vl', PB w' base g (takeL l s n) N vl' ∧ Keep (Foot g vl) w w' ∧ Moved w vl vl' := by
 have C := Lib.hid (pstand_any h hI.n1 s)
 have H := Lib.hid h
 have HI := Lib.hid hI
 have hlen := hI.len
 clear h hI
 by_cases hp : posO l s < l.length
 ·rw [show standV l s = .tuple #[.int .i64 (posO l s : Nat), .int .i64 0] by unfold standV; rw [if_pos hp]] at C
  have hf := posO_found hp
  have SE := Lib.hid (setO_erase HI.out hp)
  have SP := Lib.hid (fun m hm => setO_put HI.out (s := s) (n := m) hm hp)
  obtain ⟨ao, cap, hv, _, hcm, _, hr⟩ := owns_open H.out.row
  subst hv
  obtain ⟨b, rfl, hbb, hbl, hcell, hfr⟩ := hr (by omega)
  have HC := Lib.hid hcell
  have HF := Lib.hid hfr
  have CR := Lib.hid (fun w1 (b1 : Below w.heap.size w w1) => premove_any (H.out.below b1) hp (by omega))
  have hlf := (HI.out.may _ (List.getElem_mem hp)).2.2.2.2.1
  have HA := Lib.hid (H.out.apart b rfl)
  have OP := Lib.hid (fun w1 (b1 : Below w.heap.size w w1) m => owns_put (owns_below H.out.row b1) hp m)
  clear hr hcell hfr
  generalize hpk : posO l s = k at *
  clear hpk
  generalize hxk : l[k] = x at *
  obtain ⟨hlf1, hlf2⟩ := hlf
  unfold maxLen at hcm
  by_cases hn1 : n < 1
  ·have E := Lib.hid (show takeE l s n = 1 ∧ takeL l s n = l from by
    have e2 : takeE l s n = 1 := by unfold takeE; rw [hf]; exact if_pos (.inl hn1)
    exact ⟨e2, by unfold takeL; rw [if_neg (by rw [e2]; decide)]⟩)
   rw [E.out.1, E.out.2]
   clear hf CR OP SP SE
   go_enter Try.func19, Try.ntmps19
   go_wp2_with fail
   refine C.out.mono ?_
   rintro e w1 ⟨rfl, b1⟩
   have HB1 := Lib.hid b1
   clear b1 C hxk
   go_wp2_with fail
   go_ret
   exact ⟨rfl, _, H.out.below HB1.out, Keep.of_below HB1.out, Moved.refl _ _⟩
  by_cases hn2 : x.lf < n
  ·have E := Lib.hid (show takeE l s n = 1 ∧ takeL l s n = l from by
    have e2 : takeE l s n = 1 := by unfold takeE; rw [hf]; exact if_pos (.inr hn2)
    exact ⟨e2, by unfold takeL; rw [if_neg (by rw [e2]; decide)]⟩)
   rw [E.out.1, E.out.2]
   clear hf CR OP SP SE
   go_enter Try.func19, Try.ntmps19
   go_wp2_with fail
   refine C.out.mono ?_
   rintro e w1 ⟨rfl, b1⟩
   have H1 := H.out.below b1
   have hl := H1.blk.lt
   have d0 := H1.blk.cell 0
   simp at d0
   obtain ⟨e0, e1, e2, e3, e4, e5, e6⟩ := of_cells (w := w1) (fun j hj => by rw [b1.cell (p := ⟨b, j, none⟩) hbl]; exact HC.out j hj) hp
   rw [hxk] at e0 e1 e2 e3 e4 e5 e6
   have HB1 := Lib.hid b1
   clear b1 C H1 hxk
   go_wp2_with fail
   go_ret
   exact ⟨rfl, _, H.out.below HB1.out, Keep.of_below HB1.out, Moved.refl _ _⟩
  have e0' : takeE l s n = 0 := by unfold takeE; rw [hf]; exact if_neg (by omega)
  have eL : leftO l s = x.lf := by unfold leftO; rw [hf]
  by_cases hn3 : n = x.lf
  ·have E := Lib.hid (show takeE l s n = 0 ∧ takeL l s n = l.eraseIdx k from ⟨e0', by unfold takeL; rw [if_pos e0', eL, hn3, Int.sub_self, SE.out]⟩)
   rw [E.out.1, E.out.2]
   have q1 : (n == x.lf) = true := by simpa using hn3
   clear hf OP SP SE e0' eL hn3
   go_enter Try.func19, Try.ntmps19
   go_wp2_with fail
   refine C.out.mono ?_
   rintro e w1 ⟨rfl, b1⟩
   have H1 := H.out.below b1
   have hl := H1.blk.lt
   have d0 := H1.blk.cell 0
   simp at d0
   obtain ⟨e0, e1, e2, e3, e4, e5, e6⟩ := of_cells (w := w1) (fun j hj => by rw [b1.cell (p := ⟨b, j, none⟩) hbl]; exact HC.out j hj) hp
   rw [hxk] at e0 e1 e2 e3 e4 e5 e6
   have CR1 := Lib.hid (CR.out w1 b1)
   have HB1 := Lib.hid b1
   clear b1 C H1 CR hxk
   go_wp2_with fail
   refine CR1.out.mono ?_
   rintro e w2 ⟨rfl, vl', h2, k2, m2⟩
   have R := Lib.hid (And.intro h2 (And.intro k2 m2))
   clear h2 k2 m2
   go_wp2_with fail
   go_ret
   exact ⟨rfl, vl', R.out.1, (Keep.of_below HB1.out).trans R.out.2.1, fun b hb => .inl (by rw [← R.out.2.2]; exact hb)⟩
  ·have E := Lib.hid (show takeE l s n = 0 ∧ takeL l s n = l.set k { x with lf := x.lf - n } from ⟨e0', by unfold takeL; rw [if_pos e0', eL, SP.out _ (by omega)]⟩)
   rw [E.out.1, E.out.2]
   have q1 : (n == x.lf) = false := by simpa using hn3
   clear hf CR SP SE e0' eL hn3
   go_enter Try.func19, Try.ntmps19
   go_wp2_with fail
   refine C.out.mono ?_
   rintro e w1 ⟨rfl, b1⟩
   have H1 := H.out.below b1
   have hl := H1.blk.lt
   have d0 := H1.blk.cell 0
   simp at d0
   obtain ⟨e0, e1, e2, e3, e4, e5, e6⟩ := of_cells (w := w1) (fun j hj => by rw [b1.cell (p := ⟨b, j, none⟩) hbl]; exact HC.out j hj) hp
   rw [hxk] at e0 e1 e2 e3 e4 e5 e6
   have hfz : w1.frozen? ⟨b, k * 7 + 4, none⟩ = false := by rw [b1.frozen (p := ⟨b, k * 7 + 4, none⟩) hbl]; exact HF.out _
   have HO1 := Lib.hid (OP.out w1 b1 (x.lf - n))
   have hb1 : b < w1.heap.size := Nat.lt_of_lt_of_le hbl b1.size
   have HG := Lib.hid H1.blk
   have HB1 := Lib.hid b1
   clear b1 C H1 OP hxk
   go_wp2_with fail
   go_ret
   have k2 : Keep (· = b) w1 (w1.setCell ⟨b, k * 7 + 4, none⟩ (.int .i64 (x.lf - n))) := Keep.setCell (S := (· = b)) (Keep.refl _ _) (p := ⟨b, k * 7 + 4, none⟩) (.inl rfl) _
   refine ⟨rfl, _, ⟨HG.out.keep k2 (fun e => HA.out e.symm), H.out.ge, HO1.out⟩, ((Keep.of_below HB1.out).trans k2).mono (fun j _ (hj : j = b) => .inr (by rw [hj]; rfl)), Moved.refl _ _⟩
 ·rw [show standV l s = .tuple #[.int .i64 0, .int .i64 7] by unfold standV; rw [if_neg hp]] at C
  have hf := posO_missed hp
  have E := Lib.hid (show takeE l s n = 7 ∧ takeL l s n = l from by
   have e2 : takeE l s n = 7 := by unfold takeE; rw [hf]
   exact ⟨e2, by unfold takeL; rw [if_neg (by rw [e2]; decide)]⟩)
  rw [E.out.1, E.out.2]
  clear hf hp
  go_enter Try.func19, Try.ntmps19
  go_wp2_with fail
  refine C.out.mono ?_
  rintro e w1 ⟨rfl, b1⟩
  have HB1 := Lib.hid b1
  clear b1 C
  go_wp2_with fail
  go_ret
  exact ⟨rfl, _, H.out.below HB1.out, Keep.of_below HB1.out, Moved.refl _ _⟩
set_option maxHeartbeats 4000000 in
theorem pfind_any {w : World} {base g : Nat} {l : List Of} {N : Int} {vl : Value} (h : PB w base g l N vl) (h1 : 1 ≤ N) (s : Int) :
  Calls Try.prog 12 #[.pointer (some ⟨g, 0, none⟩), .int .u64 s] w fun e w' => e = .returned (foundV (findO l s)) ∧ Below w.heap.size w w' := by
 have bw := (Below.refl w.heap.size w).alloc (Nat.le_refl _) (.cells #[.int .u64 0, .int .u8 0, .int .u8 0, .int .u8 0, .int .i64 0, .int .i64 0, .int .i64 0] 58)
 have h2 := h.below bw
 have B := Lib.hid bw
 have H := Lib.hid h2
 have KR := Lib.hid (Blk.new w #[.int .u64 0, .int .u8 0, .int .u8 0, .int .u8 0, .int .i64 0, .int .i64 0, .int .i64 0] 58)
 have C := Lib.hid (pstand_any h2 h1 s)
 obtain ⟨ao, cap, rfl, hc1, hc2, hc3, hc4⟩ := owns_open h2.row
 have HC := Lib.hid hc4
 unfold maxLen at hc2
 clear hc3 hc4 h bw h2 h1
 by_cases hp : posO l s < l.length
 ·rw [show standV l s = .tuple #[.int .i64 (posO l s : Nat), .int .i64 0] by unfold standV; rw [if_pos hp]] at C
  have E := Lib.hid (posO_found hp)
  generalize hpk : posO l s = k at *
  clear hpk
  go_enter Try.func12, Try.ntmps12
  go_wp2_with fail
  refine C.out.mono ?_
  rintro e w1 ⟨rfl, b1⟩
  obtain ⟨b, rfl, hb1, hb2, hcell, _⟩ := HC.out (by omega)
  have H1 := H.out.below b1
  have hl := H1.blk.lt
  have d0 := H1.blk.cell 0
  simp at d0
  obtain ⟨e0, e1, e2, e3, e4, e5, e6⟩ := of_cells (w := w1) (fun j hj => by rw [b1.cell (p := ⟨b, j, none⟩) hb2]; exact hcell j hj) hp
  have KR1 := Lib.hid (KR.out.below b1 KR.out.lt)
  have B1 := Lib.hid (B.out.trans (b1.mono B.out.size))
  clear hcell b1 C H1 KR
  generalize l[k] = x at *
  go_wp2_with (refine wpList_store_whole rfl 58 (.tmp 4) (.tmp 23) rfl w.heap.size #[.int .u64 x.se, .int .u8 x.ow, .int .u8 x.sl, .int .u8 x.bu, .int .i64 x.lf, .int .i64 x.nu, .int .i64 x.de] rfl rfl 58 _ KR1.out.out (by kernel_rfl) rfl (by simp [Value.oneCell']) ?_)
  rw [E.out]
  refine bodyPost_ret (v := .tuple #[x.val, .bool true]) (results_cell_and rfl _ _ w.heap.size 58 #[.int .u64 x.se, .int .u8 x.ow, .int .u8 x.sl, .int .u8 x.bu, .int .i64 x.lf, .int .i64 x.nu, .int .i64 x.de] _ _ rfl (setRow_heap _ w.heap.size _ _ _ (0, 0) KR1.out.out) Try.underlying58 rfl (by kernel_rfl) rfl) rfl ⟨rfl, below_setRow B1.out (Nat.le_refl _) _⟩
 ·rw [show standV l s = .tuple #[.int .i64 0, .int .i64 7] by unfold standV; rw [if_neg hp]] at C
  have E := Lib.hid (posO_missed hp)
  clear hp
  go_enter Try.func12, Try.ntmps12
  go_wp2_with fail
  refine C.out.mono ?_
  rintro e w1 ⟨rfl, b1⟩
  have KR1 := Lib.hid (KR.out.below b1 KR.out.lt)
  have B1 := Lib.hid (B.out.trans (b1.mono B.out.size))
  clear b1 C KR
  go_wp2_with (refine wpList_store_whole rfl 58 (.tmp 4) (.tmp 16) rfl w.heap.size #[.int .u64 0, .int .u8 0, .int .u8 0, .int .u8 0, .int .i64 0, .int .i64 0, .int .i64 0] rfl rfl 58 _ KR1.out.out (by kernel_rfl) rfl (by simp [Value.oneCell']) ?_)
  rw [E.out]
  refine bodyPost_ret (v := .tuple #[noOf.val, .bool false]) (results_cell_and rfl _ _ w.heap.size 58 #[.int .u64 0, .int .u8 0, .int .u8 0, .int .u8 0, .int .i64 0, .int .i64 0, .int .i64 0] _ _ rfl (setRow_heap _ w.heap.size _ _ _ (0, 0) KR1.out.out) Try.underlying58 rfl (by kernel_rfl) rfl) rfl ⟨rfl, below_setRow B1.out (Nat.le_refl _) _⟩
end Go.Proofs.Ytbieomgpfhloeaa
namespace Go.Proofs.Ytbieomgpfhloeaa
open Go.RowKit
end Go.Proofs.Ytbieomgpfhloeaa
namespace Go.Proofs.Ytbieomgpfhloeaa
open Go.RowKit
theorem wp_append_pair {P : Program} {w w' : World} {o : Oper} {a : Act} {K : Act → World → Prop} {Q : Exit → Act → World → Prop} (y x : Operand) (t : TypeId) {u v v' : Value}
  (ho : o.op = .call { callee := .builtin .append, args := #[y, x], argTypes := #[t, t] }) (hy : a.eval y = u) (hx : a.eval x = v)
  (hr : (Builtin.append_ #[t, t] o.type #[u, v]).run P w = .ok v' w') (h : K (a.put o.dst v') w') : o.wp P a w K Q := by
 unfold Oper.wp execOp
 simp only [ho, resolve, invoke, builtin, Sem.run_bind, Sem.run_pure, Result.andThen_ok, List.map_toArray, List.map_cons, List.map_nil, hy, hx, hr]
 exact h
def placeE (l : List Of) (x : Of) : Int := if ¬ x.may then 1 else if l.length = 32 ∨ x.se = 18446744073709551615 then 9 else 0
def placeS (l : List Of) (x : Of) : Int := if placeE l x = 0 then x.se else 0
def placeL (l : List Of) (x : Of) : List Of := if placeE l x = 0 then l ++ [x] else l
def placeN (l : List Of) (x : Of) : Int := if placeE l x = 0 then x.se + 1 else x.se
end Go.Proofs.Ytbieomgpfhloeaa
namespace Go.Proofs.Ytbieomgpfhloeaa
open Go.RowKit
theorem step_append_off {P : Program} {ops : Array Oper} {o : Oper} {a : Act} {w : World} {K : Act → World → Prop} {Q : Exit → Act → World → Prop} {E : Prop}
  (hg : o.guard = none) (s x : Operand) (t : TypeId) (hop : o.op = Op.call { callee := Callee.builtin Builtin.append, args := #[s, x], argTypes := #[t, t] })
  (base : Nat) (e : TypeId) {z : Value} (ht : P.underlying t = some (.slice e)) (hz0 : z.cells.size = 7) (hi : (P.info? e).map (fun i => (i.zero, i.size, i.bytes)) = some (some z, 7, 40)) (v : Value) (l : List Of) (hs : a.eval s = v) (hown : w.ownsRow base e 7 v l.length (ofCells l))
  (g c : Nat) (y : Of) (hx : a.eval x = .slice (some ⟨g, 0, none⟩) 1 c) (hy : Blk w g #[.int .u64 y.se, .int .u8 y.ow, .int .u8 y.sl, .int .u8 y.bu, .int .i64 y.lf, .int .i64 y.nu, .int .i64 y.de] e) (hlen : l.length ≤ 100000) (hbase : base ≤ w.heap.size)
  (hK : ∀ v' w', w'.ownsRow base e 7 v' (l ++ [y]).length (ofCells (l ++ [y])) → w.grownBy w' v.ownBlock → (v'.ownBlock = v.ownBlock ∨ v'.ownBlock = some w.heap.size) → K (a.put o.dst v') w') :
  if Region.wanted o (yielded ops a.tmps) = true then Oper.wp P o a w K Q else E := by
 have hw : Region.wanted o (yielded ops a.tmps) = true := by simp [Region.wanted, hg]
 rw [if_pos hw]
 obtain ⟨i0, hi1, hi2, hi3, hi4⟩ := info_parts hi
 obtain ⟨v', w', hr, h2, h3, _, h5⟩ := run_append_own_at (P := P) w base t o.type e i0 z 7 40 ht hi1 hi2 hi3 hi4 hz0 (by decide) v l.length (ofCells l) hown ⟨g, 0, none⟩ 1 c y.vals rfl (fun j u hj => by
   have := hy.cell j
   rw [Go.WideShapes.add_plain, Nat.zero_add, this]
   match j, hj with
   | 0, hj => simpa [Of.vals] using hj
   | 1, hj => simpa [Of.vals] using hj
   | 2, hj => simpa [Of.vals] using hj
   | 3, hj => simpa [Of.vals] using hj
   | 4, hj => simpa [Of.vals] using hj
   | 5, hj => simpa [Of.vals] using hj
   | 6, hj => simpa [Of.vals] using hj
   | j + 7, hj => simp [Of.vals] at hj) (by intro u hu; simp [Of.vals] at hu; rcases hu with rfl | rfl | rfl | rfl | rfl | rfl | rfl <;> rfl) (by unfold maxLen; omega) (by omega) hbase
 rw [← ofCells_one, ← ofCells_append] at h2
 refine wp_append_pair s x t hop hs hx hr ?_
 exact hK v' w' (by rw [List.length_append]; exact h2) h3 h5
theorem BInv.place {l : List Of} {x : Of} (h : BInv l x.se) : BInv (placeL l x) (placeN l x) := by
 unfold placeL placeN
 by_cases e : placeE l x = 0
 ·rw [if_pos e, if_pos e]
  unfold placeE at e
  split at e
  ·simp at e
  ·rename_i hm
   have hm := Decidable.not_not.1 hm
   split at e
   ·simp at e
   ·rename_i h2
    have := h.len; have := h.n1; have := h.n2
    have hl : l.length ≠ 32 := fun k => h2 (.inl k)
    have hs : x.se ≠ 18446744073709551615 := fun k => h2 (.inr k)
    refine ⟨fun y hy => ?_, ?_, fun y hy => ?_, by rw [List.length_append, List.length_singleton]; omega, by omega, by omega⟩
    ·rcases List.mem_append.1 hy with hy | hy
     ·exact h.may y hy
     ·rw [List.mem_singleton] at hy; rw [hy]; exact hm
    ·rw [List.pairwise_append]
     refine ⟨h.rise, by simp, fun a ha b hb => ?_⟩
     rw [List.mem_singleton] at hb
     rw [hb]
     exact (h.bd a ha).2
    ·rcases List.mem_append.1 hy with hy | hy
     ·have := h.bd y hy; omega
     ·rw [List.mem_singleton] at hy; rw [hy]; omega
 ·rw [if_neg e, if_neg e]; exact h
theorem PB.setN {w : World} {base g : Nat} {l : List Of} {N : Int} {vl : Value} (h : PB w base g l N vl) (M : Int) : PB (w.setCell ⟨g, 1, none⟩ (.int .u64 M)) base g l M vl := by
 have k2 : Keep (· = g) w (w.setCell ⟨g, 1, none⟩ (.int .u64 M)) := Keep.setCell (S := (· = g)) (Keep.refl _ _) (p := ⟨g, 1, none⟩) (.inl rfl) _
 exact ⟨by simpa using h.blk.set 1 (.int .u64 M), h.ge, owns_keep h.row k2 (fun b hb e => h.apart b hb e)⟩
theorem appended {W w' : World} {base g cap : Nat} {ao : Option Addr} {l : List Of} {x : Of} {N : Int} {c : Obj} {v' : Value} (h : PB W base g l N (.slice ao l.length cap)) (ho : w'.ownsRow base 81 7 v' (l ++ [x]).length (ofCells (l ++ [x])))
  (hgr : (W.drew.alloc c).grownBy w' (Value.ownBlock (.slice ao l.length cap))) (hat : v'.ownBlock = Value.ownBlock (.slice ao l.length cap) ∨ v'.ownBlock = some (W.drew.alloc c).heap.size) :
  Blk w' g #[.slice ao l.length cap, .int .u64 N] 38 ∧ (PB (w'.setCell ⟨g, 0, none⟩ v') base g (l ++ [x]) N v' ∧ (Keep (Foot g (.slice ao l.length cap)) W (w'.setCell ⟨g, 0, none⟩ v') ∧ Moved W (.slice ao l.length cap) v') ∧
   ∀ {a : Nat} {cs : Array Value} {t : TypeId}, Blk W a cs t → (¬ Foot g (.slice ao l.length cap) a) → Blk (w'.setCell ⟨g, 0, none⟩ v') a cs t) := by
 have hB : Blk w' g #[.slice ao l.length cap, .int .u64 N] 38 := Blk.grown ((h.blk.drew).alloc _) hgr (fun e => (h.apart _ e) rfl)
 have k2 : Keep (· = g) w' (w'.setCell ⟨g, 0, none⟩ v') := Keep.setCell (S := (· = g)) (Keep.refl _ _) (p := ⟨g, 0, none⟩) (.inl rfl) _
 have k1 : Keep (Foot g (.slice ao l.length cap)) W w' := ((Keep.refl _ W).drew.alloc _).grown hgr (fun k hk => .inl (.inr hk))
 have hgl := h.blk.lt
 have k3 := k1.trans (k2.mono fun k _ hk => .inl hk)
 refine ⟨hB, ⟨by simpa using hB.set 0 v', h.ge, owns_keep ho k2 ?_⟩, ⟨k3, ?_⟩, fun ha hf => ha.keep k3 hf⟩
 ·intro b hb e
  rcases hat with q | q
  ·rw [hb] at q; exact h.apart b q.symm e
  ·rw [hb] at q; cases q; rw [← e] at hgl; simp at hgl; omega
 ·intro b hb
  rcases hat with q | q
  ·exact .inl (by rw [← q]; exact hb)
  ·rw [hb] at q; cases q; exact .inr (by simp)
set_option maxHeartbeats 4000000 in
set_option maxRecDepth 100000 in
theorem pplace_r1 {W : World} {R : Nat} {x : Of} {pv : Value} (HN : Hid (∀ w', Below W.heap.size W w' → Calls Try.prog 35 #[pv] w' fun e w'' => e = .returned (.int .u64 x.se) ∧ w' = w'')) (KR : Hid (Blk W R #[.int .i64 x.nu, .int .i64 x.de] 56)) {Q : Exit → Act → World → Prop} {c5 c6 c7 c8 c9 c10 c12 c13 c14 c15 c16 c17 c18 c19 c20 c21 c22 c23 c24 c25 c26 c27 c28 c29 c30 c31 c32 c33 c34 c35 c36 c37 c38 c39 c40 c41 c42 c43 c44 c45 c46 c47 c48 c49 c50 c51 c52 c53 c54 c55 c56 c57 c58 c59 c60 c61 : Value}
  (hq : ∀ a w6, W.heap.size ≤ a → Blk w6 a #[.int .u64 x.se, .int .u8 x.ow, .int .u8 x.sl, .int .u8 x.bu, .int .i64 x.lf, .int .i64 x.nu, .int .i64 x.de] 81 → Below W.heap.size W w6 → Q .normal ⟨#[pv, (.int .u8 x.ow), (.int .u8 x.sl), (.int .u8 x.bu), (.int .i64 x.lf), c5, c6, c7, c8, c9, c10, (.pointer (some ⟨R, 0, none⟩)), c12, c13, (.pointer (some ⟨a, 0, none⟩)), pv, (.int .u64 x.se), (.int .u8 x.ow), (.int .u8 x.sl), (.int .u8 x.bu), (.int .i64 x.lf), (.agg #[.int .i64 x.nu, .int .i64 x.de]), (.agg #[.int .u64 x.se, .int .u8 x.ow, .int .u8 x.sl, .int .u8 x.bu, .int .i64 x.lf, .int .i64 x.nu, .int .i64 x.de]), c23, c24, c25, c26, c27, c28, c29, c30, c31, c32, c33, c34, c35, c36, c37, c38, c39, c40, c41, c42, c43, c44, c45, c46, c47, c48, c49, c50, c51, c52, c53, c54, c55, c56, c57, c58, c59, c60, c61], []⟩ w6) :
  Code.wp Try.prog (((Try.f28.body).bind (regionNo 1)).getD .skip) Q ⟨#[pv, (.int .u8 x.ow), (.int .u8 x.sl), (.int .u8 x.bu), (.int .i64 x.lf), c5, c6, c7, c8, c9, c10, (.pointer (some ⟨R, 0, none⟩)), c12, c13, c14, c15, c16, c17, c18, c19, c20, c21, c22, c23, c24, c25, c26, c27, c28, c29, c30, c31, c32, c33, c34, c35, c36, c37, c38, c39, c40, c41, c42, c43, c44, c45, c46, c47, c48, c49, c50, c51, c52, c53, c54, c55, c56, c57, c58, c59, c60, c61], []⟩ W := by
 conv => arg 2; whnf
 have HQ := Lib.hid hq
 clear hq
 refine region_ghost (by kernel_rfl) (fun g : Nat → Nat => [pv, (.int .u64 x.se), (.int .u8 x.ow), (.int .u8 x.sl), (.int .u8 x.bu), (.int .i64 x.lf), (.agg #[.int .i64 x.nu, .int .i64 x.de]), (.agg #[.int .u64 x.se, .int .u8 x.ow, .int .u8 x.sl, .int .u8 x.bu, .int .i64 x.lf, .int .i64 x.nu, .int .i64 x.de]), (.pointer (some ⟨g 8, 0, none⟩)), undef])
  (Lays W [(⟨8, 9, (.cells #[.int .u64 0, .int .u8 0, .int .u8 0, .int .u8 0, .int .i64 0, .int .i64 0, .int .i64 0] 81), (.cells #[.int .u64 x.se, .int .u8 x.ow, .int .u8 x.sl, .int .u8 x.bu, .int .i64 x.lf, .int .i64 x.nu, .int .i64 x.de] 81)⟩ : Spec)]) (by kernel_rfl) (fun _ => 0) (Lays.start _ _ _) ?_
 intro AF hAF
 simp only [List.toList_toArray, puts, Act.put, List.getD_cons_zero, List.getD_cons_succ, List.setIfInBounds_toArray, List.set_cons_succ, List.set_cons_zero] at hAF
 have hAF2 : _ = AF := funext hAF
 subst hAF2
 clear hAF
 refine ⟨?_, ?_⟩
 ·simp only [List.toList_toArray, EachG]
  refine ⟨?_, ?_, ?_, ?_, ?_, ?_, ?_, ?_, ?_, ?_, trivial⟩
  ·intro g D w' hD hW hC hI
   refine ⟨g, fun _ _ _ => rfl, ?_⟩
   with_reducible refine OpTo.plain ?_ ?_
   exact rfl
   have hS := hI.below
   have HS := Lib.hid (hI.step (Below.refl _ _) (k := 0) (by rfl))
   clear hI hS hC hW hD
   go_wp2_with fail
   all_goals first | exact HS.out | exact ⟨rfl, HS.out⟩ | rfl
  ·intro g D w' hD hW hC hI
   refine ⟨g, fun _ _ _ => rfl, ?_⟩
   with_reducible refine OpTo.plain ?_ ?_
   exact rfl
   have hS := hI.below
   have HI := Lib.hid hI
   have HC := Lib.hid (HN.out w' hS)
   clear hI hS hC hW hD
   go_wp2_with fail
   refine HC.out.mono ?_
   rintro e w'' ⟨rfl, rfl⟩
   exact ⟨rfl, HI.out.step (Below.refl _ _) (by rfl)⟩
  ·intro g D w' hD hW hC hI
   refine ⟨g, fun _ _ _ => rfl, ?_⟩
   with_reducible refine OpTo.plain ?_ ?_
   exact rfl
   have hS := hI.below
   have HS := Lib.hid (hI.step (Below.refl _ _) (k := 2) (by rfl))
   clear hI hS hC hW hD
   go_wp2_with fail
   all_goals first | exact HS.out | exact ⟨rfl, HS.out⟩ | rfl
  ·intro g D w' hD hW hC hI
   refine ⟨g, fun _ _ _ => rfl, ?_⟩
   with_reducible refine OpTo.plain ?_ ?_
   exact rfl
   have hS := hI.below
   have HS := Lib.hid (hI.step (Below.refl _ _) (k := 3) (by rfl))
   clear hI hS hC hW hD
   go_wp2_with fail
   all_goals first | exact HS.out | exact ⟨rfl, HS.out⟩ | rfl
  ·intro g D w' hD hW hC hI
   refine ⟨g, fun _ _ _ => rfl, ?_⟩
   with_reducible refine OpTo.plain ?_ ?_
   exact rfl
   have hS := hI.below
   have HS := Lib.hid (hI.step (Below.refl _ _) (k := 4) (by rfl))
   clear hI hS hC hW hD
   go_wp2_with fail
   all_goals first | exact HS.out | exact ⟨rfl, HS.out⟩ | rfl
  ·intro g D w' hD hW hC hI
   refine ⟨g, fun _ _ _ => rfl, ?_⟩
   with_reducible refine OpTo.plain ?_ ?_
   exact rfl
   have hS := hI.below
   have HS := Lib.hid (hI.step (Below.refl _ _) (k := 5) (by rfl))
   clear hI hS hC hW hD
   go_wp2_with fail
   all_goals first | exact HS.out | exact ⟨rfl, HS.out⟩ | rfl
  ·intro g D w' hD hW hC hI
   refine ⟨g, fun _ _ _ => rfl, ?_⟩
   with_reducible refine OpTo.plain ?_ ?_
   exact rfl
   have hS := hI.below
   have hl0 := Nat.lt_of_lt_of_le KR.out.lt hS.size
   have d0_0 := (KR.out.below hS KR.out.lt).cell 0
   have d0_1 := (KR.out.below hS KR.out.lt).cell 1
   simp at d0_0 d0_1
   have HS := Lib.hid (hI.step (Below.refl _ _) (k := 6) (by rfl))
   clear hI hS hC hW hD
   go_wp2_with fail
   all_goals first | exact HS.out | exact ⟨rfl, HS.out⟩ | rfl
  ·intro g D w' hD hW hC hI
   refine ⟨g, fun _ _ _ => rfl, ?_⟩
   with_reducible refine OpTo.plain ?_ ?_
   exact rfl
   have hS := hI.below
   have HS := Lib.hid (hI.step (Below.refl _ _) (k := 7) (by rfl))
   clear hI hS hC hW hD
   go_wp2_with fail
   all_goals first | exact HS.out | exact ⟨rfl, HS.out⟩ | rfl
  ·intro g D w' hD hW hC hI
   have hN : D 9 = false := waits_not hC hD 12 9 (by kernel_rfl)
   refine ⟨upd g 8 w'.heap.size, vals_upd _ (fun g : Nat → Nat => [pv, (.int .u64 x.se), (.int .u8 x.ow), (.int .u8 x.sl), (.int .u8 x.bu), (.int .i64 x.lf), (.agg #[.int .i64 x.nu, .int .i64 x.de]), (.agg #[.int .u64 x.se, .int .u8 x.ow, .int .u8 x.sl, .int .u8 x.bu, .int .i64 x.lf, .int .i64 x.nu, .int .i64 x.de]), (.pointer (some ⟨g 8, 0, none⟩)), undef]) g 8 _ 12 hC hD ?_, ?_⟩
   ·intro j hj
    match j, hj with
    | 0, _ => exact .inr rfl
    | 1, _ => exact .inr rfl
    | 2, _ => exact .inr rfl
    | 3, _ => exact .inr rfl
    | 4, _ => exact .inr rfl
    | 5, _ => exact .inr rfl
    | 6, _ => exact .inr rfl
    | 7, _ => exact .inr rfl
    | 8, _ => exact .inl (.inl rfl)
    | 9, _ => exact .inr rfl
    | j + 10, _ => exact .inr rfl
   with_reducible refine OpTo.plain ?_ ?_
   exact rfl
   have HS := Lib.hid (hI.lay (⟨8, 9, (.cells #[.int .u64 0, .int .u8 0, .int .u8 0, .int .u8 0, .int .i64 0, .int .i64 0, .int .i64 0] 81), (.cells #[.int .u64 x.se, .int .u8 x.ow, .int .u8 x.sl, .int .u8 x.bu, .int .i64 x.lf, .int .i64 x.nu, .int .i64 x.de] 81)⟩ : Spec) (by simp) (by rfl) (.inr hN) (by rfl) (fun s' hs' _ => List.mem_singleton.1 hs') (.cells #[.int .u64 0, .int .u8 0, .int .u8 0, .int .u8 0, .int .i64 0, .int .i64 0, .int .i64 0] 81) rfl)
   clear hI hC hW hD hN
   go_wp2_with fail
   all_goals first | exact HS.out | exact ⟨rfl, HS.out⟩ | rfl
  ·intro g D w' hD hW hC hI
   have hP : D 8 = true := waited_done hC hW (d := 12) (by kernel_rfl)
   obtain ⟨hg, hk⟩ := hI.zeroed (⟨8, 9, (.cells #[.int .u64 0, .int .u8 0, .int .u8 0, .int .u8 0, .int .i64 0, .int .i64 0, .int .i64 0] 81), (.cells #[.int .u64 x.se, .int .u8 x.ow, .int .u8 x.sl, .int .u8 x.bu, .int .i64 x.lf, .int .i64 x.nu, .int .i64 x.de] 81)⟩ : Spec) (by simp) hP hD
   refine ⟨g, fun _ _ _ => rfl, ?_⟩
   with_reducible refine OpTo.plain ?_ ?_
   exact rfl
   refine wp_store_row 81 (.tmp 14) (.tmp 22) rfl (g 8) #[.int .u64 x.se, .int .u8 x.ow, .int .u8 x.sl, .int .u8 x.bu, .int .i64 x.lf, .int .i64 x.nu, .int .i64 x.de] rfl rfl 81 _ hk (by kernel_rfl) rfl (by simp [Value.oneCell']) ⟨rfl, ?_⟩
   exact hI.fill (⟨8, 9, (.cells #[.int .u64 0, .int .u8 0, .int .u8 0, .int .u8 0, .int .i64 0, .int .i64 0, .int .i64 0] 81), (.cells #[.int .u64 x.se, .int .u8 x.ow, .int .u8 x.sl, .int .u8 x.bu, .int .i64 x.lf, .int .i64 x.nu, .int .i64 x.de] 81)⟩ : Spec) (by simp) (by rfl) (show (9 : Nat) ≠ 8 by decide) (fun s' hs' _ => List.mem_singleton.1 hs') hP (below_keepRow _ _) (setRow_heap w' (g 8) _ _ 81 (0, 0) hk)
 intro g D w6 hall hI
 obtain ⟨h1, h2⟩ := hI.full (⟨8, 9, (.cells #[.int .u64 0, .int .u8 0, .int .u8 0, .int .u8 0, .int .i64 0, .int .i64 0, .int .i64 0] 81), (.cells #[.int .u64 x.se, .int .u8 x.ow, .int .u8 x.sl, .int .u8 x.bu, .int .i64 x.lf, .int .i64 x.nu, .int .i64 x.de] 81)⟩ : Spec) (by simp) (hall 8 (by decide)) (hall 9 (by decide))
 exact HQ.out (g 8) w6 h1 h2 hI.below
set_option maxHeartbeats 8000000 in
set_option maxRecDepth 100000 in
theorem pplace_any {w : World} {base g : Nat} {l : List Of} {x : Of} {vl : Value} (h : PB w base g l x.se vl) (hI : BInv l x.se) (hx : x.Fits) :
  Calls Try.prog 28 #[.pointer (some ⟨g, 0, none⟩), .int .u8 x.ow, .int .u8 x.sl, .int .u8 x.bu, .int .i64 x.lf, .agg #[.int .i64 x.nu, .int .i64 x.de]] w fun e w' => e = .returned (.tuple #[.int .u64 (placeS l x), .int .i64 (placeE l x)]) ∧ ∃ vl', PB w' base g (placeL l x) (placeN l x) vl' ∧ Keep (Foot g vl) w w' ∧ Moved w vl vl' := by
 have bw := (Below.refl w.heap.size w).alloc (Nat.le_refl _) (.cells #[.int .i64 x.nu, .int .i64 x.de] 56)
 have H1 := Lib.hid (h.below bw)
 have KR := Lib.hid (Blk.new w #[.int .i64 x.nu, .int .i64 x.de] 56)
 have B1 := Lib.hid bw
 have HI := Lib.hid hI
 have HX := Lib.hid hx
 have HG := Lib.hid (h.below bw).blk
 have HL := Lib.hid (fun b (hb : Foot g vl b) => (h.lt hb).2)
 clear bw h hI hx
 go_enter Try.func28, Try.ntmps28
 go_wp2_with fail
 generalize hWW : w.alloc (.cells #[.int .i64 x.nu, .int .i64 x.de] 56) = W at *
 clear hWW
 refine pplace_r1 (Lib.hid (fun w' k => pnext_any (HG.out.below k HG.out.lt))) KR ?_
 intro a w2 ha hA b2
 have H2 := Lib.hid (H1.out.below b2)
 have B2 := Lib.hid (B1.out.trans (b2.mono B1.out.size))
 have HA := Lib.hid hA
 have HAF := Lib.hid (show ¬ Foot g vl a from fun hf => by have := HL.out a hf; have := B1.out.size; omega)
 have CM := Lib.hid (pmade_any H2.out.blk HI.out.n1)
 have CY := Lib.hid (pmay_any x w2 HX.out)
 have kl := hA.lt
 have a0 := hA.cell 0; have a1 := hA.cell 1; have a2 := hA.cell 2; have a3 := hA.cell 3; have a4 := hA.cell 4; have a5 := hA.cell 5; have a6 := hA.cell 6
 simp at a0 a1 a2 a3 a4 a5 a6
 have hlen := HI.out.len
 clear ha hA b2 H1 B1 HG KR HL
 by_cases hm : ¬ x.may
 ·have e1 : placeE l x = 1 := by unfold placeE; rw [if_pos hm]
  have E := Lib.hid (show placeE l x = 1 ∧ placeS l x = 0 ∧ placeL l x = l ∧ placeN l x = x.se from ⟨e1, by unfold placeS; rw [e1]; rfl, by unfold placeL; rw [e1]; rfl, by unfold placeN; rw [e1]; rfl⟩)
  rw [decide_eq_false hm] at CY
  clear e1 hm
  go_wp2_with fail
  refine CM.out.mono ?_
  rintro e w2 ⟨rfl, rfl⟩
  go_wp2_with fail
  refine CY.out.mono ?_
  rintro e w3 ⟨rfl, b3⟩
  have H3 := Lib.hid (H2.out.below b3)
  have B3 := Lib.hid (B2.out.trans (b3.mono B2.out.size))
  clear b3 H2 B2 CM CY a0 a1 a2 a3 a4 a5 a6 kl
  go_wp2_with fail
  refine bodyPost_ret (v := .tuple #[.int .u64 0, .int .i64 1]) (by simp [results, Try.results28, go_sem]) rfl ?_
  rw [E.out.1, E.out.2.1, E.out.2.2.1, E.out.2.2.2]
  exact ⟨rfl, vl, H3.out, Keep.of_below B3.out, Moved.refl _ _⟩
 have hm := Decidable.not_not.1 hm
 rw [decide_eq_true hm] at CY
 obtain ⟨ao, cap, hvl, hc1, hc2, _⟩ := owns_open H2.out.row
 subst hvl
 unfold maxLen at hc2
 go_wp2_with fail
 refine CM.out.mono ?_
 rintro e w2 ⟨rfl, rfl⟩
 go_wp2_with fail
 refine CY.out.mono ?_
 rintro e w3 ⟨rfl, b3⟩
 have HG4 := Lib.hid (H2.out.below b3)
 have HA4 := Lib.hid (HA.out.below b3 HA.out.lt)
 have HA4b := HAF
 have B3 := Lib.hid (B2.out.trans (b3.mono B2.out.size))
 clear b3 H2 B2 CM CY a0 a1 a2 a3 a4 a5 a6 kl HA HAF
 have hgl := HG4.out.blk.lt
 have d0 := HG4.out.blk.cell 0
 have a0 := HA4.out.cell 0
 have hal := HA4.out.lt
 simp at d0 a0
 by_cases hf : l.length = 32 ∨ x.se = 18446744073709551615
 ·have e1 : placeE l x = 9 := by unfold placeE; rw [if_neg (by simpa using hm), if_pos hf]
  have E := Lib.hid (show placeE l x = 9 ∧ placeS l x = 0 ∧ placeL l x = l ∧ placeN l x = x.se from ⟨e1, by unfold placeS; rw [e1]; rfl, by unfold placeL; rw [e1]; rfl, by unfold placeN; rw [e1]; rfl⟩)
  clear e1
  by_cases h32 : l.length = 32
  ·have q1 : ((l.length : Int) == 32) = true := by rw [h32]; rfl
   clear hf h32
   go_wp2_with fail
   refine bodyPost_ret (v := .tuple #[.int .u64 0, .int .i64 9]) (by simp [results, Try.results28, go_sem]) rfl ?_
   rw [E.out.1, E.out.2.1, E.out.2.2.1, E.out.2.2.2]
   exact ⟨rfl, _, HG4.out, Keep.of_below B3.out, Moved.refl _ _⟩
  ·have q1 : ((l.length : Int) == 32) = false := by simp; omega
   have hse : x.se = 18446744073709551615 := by rcases hf with h | h; exact absurd h h32; exact h
   have q2 : (x.se == 18446744073709551615) = true := by simpa using hse
   have HSE := Lib.hid hse
   clear hf h32 hse
   go_wp2_with fail
   refine bodyPost_ret (v := .tuple #[.int .u64 0, .int .i64 9]) (by simp [results, Try.results28, go_sem]) rfl ?_
   rw [E.out.1, E.out.2.1, E.out.2.2.1, E.out.2.2.2]
   exact ⟨rfl, _, HG4.out, Keep.of_below B3.out, Moved.refl _ _⟩
 have e1 : placeE l x = 0 := by unfold placeE; rw [if_neg (by simpa using hm), if_neg hf]
 have E := Lib.hid (show placeE l x = 0 ∧ placeS l x = x.se ∧ placeL l x = l ++ [x] ∧ placeN l x = x.se + 1 from ⟨e1, by unfold placeS; rw [if_pos e1], by unfold placeL; rw [if_pos e1], by unfold placeN; rw [if_pos e1]⟩)
 have q1 : ((l.length : Int) == 32) = false := by simp; omega
 have q2 : (x.se == 18446744073709551615) = false := by simp; omega
 have hn := HI.out.n2
 have hn1 := HI.out.n1
 have hse0 : 0 ≤ x.se + 1 := by omega
 have hse1 : x.se + 1 ≤ 18446744073709551615 := by omega
 clear e1 hf
 go_wp2_with fail
 clear d0 a0 hgl hal
 generalize w3 = W at *
 have hgl := HG4.out.blk.lt
 have d0 := HG4.out.blk.cell 0
 simp at d0
 have hal := HA4.out.lt
 have a0 := HA4.out.cell 0; have a1 := HA4.out.cell 1; have a2 := HA4.out.cell 2; have a3 := HA4.out.cell 3; have a4 := HA4.out.cell 4; have a5 := HA4.out.cell 5; have a6 := HA4.out.cell 6
 simp at a0 a1 a2 a3 a4 a5 a6
 have hbs := Nat.le_trans HG4.out.ge (Nat.le_of_lt hgl)
 go_region_law (refine step_append_off rfl (.tmp 47) (.tmp 49) 36 rfl base 81 Try.underlying36 rfl info_poff (.slice ao l.length cap) l rfl (owns_below HG4.out.row ((Below.refl _ _).drew.alloc (Nat.le_refl _) _)) W.heap.size 1 x rfl (Blk.new W.drew _ _) (by omega) (by simp; omega) ?_; intro v' w' ho hgr hat; have HAP := Lib.hid (appended HG4.out ho hgr hat); have hB := HAP.out.1; have d1 := hB.cell 0; have f1 := hB.frozen 0; have l1 := hB.lt; simp at d1; obtain ⟨ao', cap', hv', _⟩ := owns_open ho; obtain ⟨ln, hln⟩ : ∃ ln, (l ++ [x]).length = ln := ⟨_, rfl⟩; rw [hln] at hv'; subst hv'; clear hln; clear ho hgr hat hB d0)
 all_goals
  have HE := Lib.hid HAP.out.2
  clear HAP d1 f1 l1
  have e0 := HE.out.1.blk.cell 1
  have e1 := HE.out.1.blk.lt
  have e2 := HE.out.1.blk.frozen 1
  have e3 := HE.out.2.2 HA4.out HA4b.out
  have e4 := e3.cell 0
  have e5 := e3.lt
  simp at e0 e4
  clear e3
  go_wp2
  refine bodyPost_ret (v := .tuple #[.int .u64 x.se, .int .i64 0]) (by simp [results, Try.results28, go_sem]) rfl ?_
  have k3 : Keep (· = g) (w'.setCell ⟨g, 0, none⟩ (.slice ao' ln cap')) ((w'.setCell ⟨g, 0, none⟩ (.slice ao' ln cap')).setCell ⟨g, 1, none⟩ (.int .u64 (x.se + 1))) := Keep.setCell (S := (· = g)) (Keep.refl _ _) (p := ⟨g, 1, none⟩) (.inl rfl) _
  rw [E.out.1, E.out.2.1, E.out.2.2.1, E.out.2.2.2]
  exact ⟨rfl, _, HE.out.1.setN _, (Keep.of_below B3.out).trans (HE.out.2.1.1.trans (k3.mono fun k _ hk => .inl hk)), HE.out.2.1.2.of_le B3.out.size⟩
end Go.Proofs.Ytbieomgpfhloeaa
