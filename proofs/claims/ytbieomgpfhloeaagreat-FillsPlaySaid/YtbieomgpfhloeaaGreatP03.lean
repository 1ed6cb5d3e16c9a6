/-
  Pieces of one proof, without what is not wanted: Ref05, GraphMath.
-/
import Derived.Test.YtbieomgpfhloeaaGreatP02
set_option linter.unusedSimpArgs false
set_option linter.unusedVariables false
namespace Go.Proofs.YtbieomgpfhloeaaGreat
open Go.RowKit
def hitE (a b : Int) (x : Fw) : Bool := x.fr == a && x.tt == b
def capE (es : List Fw) (a b : Int) : Int := match es.find? (hitE a b) with | some x => x.am | none => 0
theorem capE_at {es : List Fw} {a b : Int} {k : Nat} (hk : k < es.length) (hn : ∀ x ∈ es.take k, hitE a b x = false) (hx : hitE a b es[k] = true) : capE es a b = es[k].am := by
 unfold capE
 rw [List.find?_eq_some_iff_getElem.2 ⟨hx, k, hk, rfl, fun j hj => by
  have := hn es[j] (by rw [List.mem_take_iff_getElem]; exact ⟨j, by omega, rfl⟩)
  simp [this]⟩]
theorem capE_none {es : List Fw} {a b : Int} (hn : ∀ x ∈ es, hitE a b x = false) : capE es a b = 0 := by
 unfold capE
 rw [List.find?_eq_none.2 (fun x hx => by simp [hn x hx])]
theorem take_all_nextF {q : Fw → Prop} {l : List Fw} {k : Nat} (h : k < l.length) (hn : ∀ x ∈ l.take k, q x) (hx : q l[k]) : ∀ x ∈ l.take (k + 1), q x := by
 rw [List.take_succ_eq_append_getElem h]
 intro x hx'
 rcases List.mem_append.1 hx' with h1 | h1
 ·exact hn x h1
 ·rw [List.mem_singleton] at h1; rw [h1]; exact hx
theorem fw_cells {w : World} {b : Nat} {ls : List Fw} (h : ∀ j, j < ls.length * 3 → w.cell? ⟨b, j, none⟩ = (fwCells ls)[j]?) {k : Nat} (hk : k < ls.length) :
  w.cell? ⟨b, k * 3, none⟩ = some (.int .u8 ls[k].fr) ∧ w.cell? ⟨b, k * 3 + 1, none⟩ = some (.int .u8 ls[k].tt) ∧ w.cell? ⟨b, k * 3 + 2, none⟩ = some (.int .i64 ls[k].am) := by
 refine ⟨?_, ?_, ?_⟩
 ·exact (h (k * 3 + 0) (by omega)).trans (fwCells_get ls k 0 (by omega) hk)
 ·exact (h (k * 3 + 1) (by omega)).trans (fwCells_get ls k 1 (by omega) hk)
 ·exact (h (k * 3 + 2) (by omega)).trans (fwCells_get ls k 2 (by omega) hk)
def edgeAt (f : Int → Int → Int) (m : Nat) : Fw := ⟨((m / 16 : Nat) : Int) + 1, ((m % 16 : Nat) : Int) + 1, f (((m / 16 : Nat) : Int) + 1) (((m % 16 : Nat) : Int) + 1)⟩
def prefE (f : Int → Int → Int) (m : Nat) : List Fw := ((List.range m).map (edgeAt f)).filter fun x => decide (0 < x.am)
def allE (f : Int → Int → Int) : List Fw := prefE f 256
theorem prefE_succ (f : Int → Int → Int) (m : Nat) : prefE f (m + 1) = prefE f m ++ (if 0 < (edgeAt f m).am then [edgeAt f m] else []) := by
 unfold prefE
 rw [List.range_succ, List.map_append, List.filter_append]
 congr 1
 simp only [List.map_cons, List.map_nil, List.filter_cons, List.filter_nil, decide_eq_true_eq]
theorem edge_at (f : Int → Int → Int) {p q : Nat} (hq : q < 16) : edgeAt f (p * 16 + q) = ⟨(p : Int) + 1, (q : Int) + 1, f ((p : Int) + 1) ((q : Int) + 1)⟩ := by
 unfold edgeAt
 rw [show (p * 16 + q) / 16 = p by omega, show (p * 16 + q) % 16 = q by omega]
theorem prefE_len (f : Int → Int → Int) (m : Nat) : (prefE f m).length ≤ m := by
 unfold prefE
 exact Nat.le_trans (List.length_filter_le _ _) (by simp)
def capF (es : List Fw) (a b n : Int) (p q : Int) : Int := if p = a ∧ q = b then n else capE es p q
def setE (es : List Fw) (a b n : Int) : List Fw := allE (capF es a b n)
structure RefG (w : World) (base g : Nat) (es : List Fw) (vl : Value) : Prop where
 blk : Blk w g #[vl] 177
 ge : base ≤ g
 row : w.ownsRow base 156 3 vl es.length (fwCells es)
theorem RefG.keep {S : Nat → Prop} {w w' : World} {base g : Nat} {es : List Fw} {vl : Value} (h : RefG w base g es vl) (k : Keep S w w') (h1 : ¬ S g) (h2 : ∀ b, vl.ownBlock = some b → ¬ S b) : RefG w' base g es vl := ⟨h.blk.keep k h1, h.ge, owns_keep h.row k h2⟩
theorem RefG.below {w w' : World} {base g : Nat} {es : List Fw} {vl : Value} (h : RefG w base g es vl) (k : Below w.heap.size w w') : RefG w' base g es vl := h.keep (Keep.of_below (S := fun _ => False) k) id (fun _ _ => id)
theorem wpList_append_run {P : Program} {ops : Array Oper} {rest : List Oper} {w w' : World} {o : Oper} {a : Act} {Q : Exit → Act → World → Prop} (hgd : o.guard = none) (y x : Operand) (t : TypeId) {u v v' : Value}
  (ho : o.op = .call { callee := .builtin .append, args := #[y, x], argTypes := #[t, t] }) (hy : a.eval y = u) (hx : a.eval x = v)
  (hr : (Builtin.append_ #[t, t] o.type #[u, v]).run P w = .ok v' w') (h : wpList P ops Q rest (a.put o.dst v') w') : wpList P ops Q (o :: rest) a w :=
 wpList_plain hgd fun K hK => by
  unfold Oper.wp execOp
  simp only [ho, resolve, invoke, builtin, Sem.run_bind, Sem.run_pure, Result.andThen_ok, List.map_toArray, List.map_cons, List.map_nil, hy, hx, hr]
  exact hK _ _ h
set_option maxHeartbeats 4000000 in
theorem rcap_any {w : World} {base g : Nat} {es : List Fw} {vl : Value} (h : RefG w base g es vl) (a b : Int) :
  Calls Tryz.prog 140 #[.pointer (some ⟨g, 0, none⟩), .int .u8 a, .int .u8 b] w fun e w' => e = .returned (.int .i64 (capE es a b)) ∧ w' = w := by
 obtain ⟨ao, cap, rfl, hc1, hc2, hc3, hc4⟩ := owns_open h.row
 have HC := Lib.hid hc4
 have hg := h.blk.lt
 have dg := h.blk.cell 0
 simp at dg
 unfold maxLen at hc2
 clear hc3 hc4 h
 go_enter Tryz.func140, Tryz.ntmps140
 go_wp2_with fail
 go_loopw [7] (fun i wr => ∃ k : Nat, k ≤ es.length ∧ i = .int .i64 k ∧ Hid (∀ x ∈ es.take k, hitE a b x = false) ∧ wr = w) (fun i _ => es.length - (intOf i).toNat)
 case atStart => exact ⟨0, Nat.zero_le _, rfl, Lib.hid (by simp), rfl⟩
 case round =>
  obtain ⟨k, hk, rfl, hn, rfl⟩ := hrel
  by_cases hkl : k < es.length
  ·obtain ⟨bl, rfl, hb1, hb2, hcell, _⟩ := HC.out (by omega)
   obtain ⟨e0, e1, e2⟩ := fw_cells hcell hkl
   have FA := Lib.hid (fun hx => capE_at (a := a) (b := b) hkl hn.out hx)
   have TN := Lib.hid (fun hx => take_all_nextF (q := fun x => hitE a b x = false) hkl hn.out hx)
   clear hcell hn
   generalize es[k] = x at *
   by_cases ha : (x.fr == a) = true
   ·by_cases hb : (x.tt == b) = true
    ·have E := Lib.hid (FA.out (by unfold hitE; rw [ha, hb]; rfl))
     clear FA TN
     go_wp2_with fail
     go_ret
     exact ⟨by rw [E.out]; rfl, rfl⟩
    ·have hb : (x.tt == b) = false := by simpa using hb
     have E := Lib.hid (TN.out (by unfold hitE; rw [hb]; simp))
     clear FA TN
     go_wp2_with fail
     go_roundw
     case rel => exact ⟨k + 1, by omega, by go_num, E, by first | rfl | trivial⟩
     case measure => simp [intOf]; omega
   ·have ha : (x.fr == a) = false := by simpa using ha
    have E := Lib.hid (TN.out (by unfold hitE; rw [ha]; simp))
    clear FA TN
    go_wp2_with fail
    go_roundw
    case rel => exact ⟨k + 1, by omega, by go_num, E, by first | rfl | trivial⟩
    case measure => simp [intOf]; omega
  ·have E : Hid (capE es a b = 0) := Lib.hid (capE_none (by have := hn.out; rwa [List.take_of_length_le (by omega)] at this))
   clear hn
   go_wp2_with fail
   go_ret
   exact ⟨by rw [E.out]; rfl, rfl⟩
def SetGAt (w : World) (es : List Fw) (a b n : Int) (v i : Value) (wr : World) : Prop :=
 ∃ (p : Nat) (P : Int), Hid (P = (p : Int) + 1) ∧ 1 ≤ P ∧ P ≤ 17 ∧ i = .int .u8 P ∧ wr.ownsRow w.heap.size 156 3 v (prefE (capF es a b n) (p * 16)).length (fwCells (prefE (capF es a b n) (p * 16))) ∧ Below w.heap.size w wr
def SetGIn (w : World) (es : List Fw) (a b n : Int) (p : Nat) (v i : Value) (wr : World) : Prop :=
 ∃ (q : Nat) (Q : Int), Hid (Q = (q : Int) + 1) ∧ 1 ≤ Q ∧ Q ≤ 17 ∧ i = .int .u8 Q ∧ wr.ownsRow w.heap.size 156 3 v (prefE (capF es a b n) (p * 16 + q)).length (fwCells (prefE (capF es a b n) (p * 16 + q))) ∧ Below w.heap.size w wr
set_option maxHeartbeats 8000000 in
set_option maxRecDepth 100000 in
theorem rset_fresh {w : World} {base g : Nat} {es : List Fw} {vl : Value} (h : RefG w base g es vl) (a b n : Int) :
  Calls Tryz.prog 175 #[.pointer (some ⟨g, 0, none⟩), .int .u8 a, .int .u8 b, .int .i64 n] w fun e w' => e = .returned (.tuple #[]) ∧ ∃ vl', RefG w' base g (setE es a b n) vl' ∧ Keep (· = g) w w' ∧ ∀ b, vl'.ownBlock = some b → w.heap.size ≤ b := by
 have H := Lib.hid h
 have hg := h.blk.lt
 clear h
 go_enter Tryz.func175, Tryz.ntmps175
 go_wp2_with fail
 go_loopw [8, 9] (SetGAt w es a b n) (fun _ i _ => 17 - (intOf i).toNat)
 case atStart => exact ⟨0, 1, Lib.hid rfl, by omega, by omega, rfl, World.ownsRow_nil _ _ _ _, Below.refl _ _⟩
 case round =>
  obtain ⟨p, P, hP, hP1, hP2, rfl, hown, hb⟩ := hrel
  have dg := (H.out.blk.below hb hg).cell 0
  simp at dg
  have hgr := (H.out.blk.below hb hg).lt
  by_cases hpl : p < 16
  ·have g0 : decide (P ≤ 16) = true := by have := hP.out; simp; omega
   have hP3 : P ≤ 16 := by have := hP.out; omega
   have O3 := Lib.hid hown
   have B3 := Lib.hid hb
   clear hown hb dg hgr
   go_wp2_with fail
   go_loopw [8, 10] (SetGIn w es a b n p) (fun _ i _ => 17 - (intOf i).toNat)
   case atStart => exact ⟨0, 1, Lib.hid rfl, by omega, by omega, rfl, O3.out, B3.out⟩
   case round =>
    obtain ⟨q, Q, hQ, hQ1, hQ2, rfl, hown, hb⟩ := hrel
    have dg := (H.out.blk.below hb hg).cell 0
    simp at dg
    have hgr := (H.out.blk.below hb hg).lt
    by_cases hql : q < 16
    ·have NX := Lib.hid (prefE_succ (capF es a b n) (p * 16 + q))
     rw [edge_at _ hql, ← hP.out, ← hQ.out] at NX
     have hlo := prefE_len (capF es a b n) (p * 16 + q)
     have g1 : decide (Q ≤ 16) = true := by have := hQ.out; simp; omega
     have hQ3 : Q ≤ 16 := by have := hQ.out; omega
     have C := Lib.hid (rcap_any (H.out.below hb) P Q)
     generalize prefE (capF es a b n) (p * 16 + q) = out at *
     obtain ⟨y, hy⟩ : ∃ y, Hid (capE es P Q = y) := ⟨_, Lib.hid rfl⟩
     rw [hy.out] at C
     have hl2 : out.length ≤ 100000 := by omega
     have A0 := (Below.refl wr.heap.size wr).alloc (Nat.le_refl _) (.cells #[.int .u8 P, .int .u8 Q, .int .i64 y] 156)
     have K0 := Blk.new wr #[.int .u8 P, .int .u8 Q, .int .i64 y] 156
     have hwy : w.heap.size ≤ wr.heap.size := hb.size
     have rowlt : ∀ k, Value.ownBlock _ = some k → k < wr.heap.size := fun k hk => (owns_type hown hk).2.1
     go_wp2_with fail
     refine C.out.mono ?_
     rintro e wr ⟨rfl, rfl⟩
     by_cases ha : P = a
     ·subst ha
      by_cases hb2 : Q = b
      ·subst hb2
       have hz : capF es P Q n P Q = n := by unfold capF; rw [if_pos ⟨rfl, rfl⟩]
       rw [hz] at NX
       have kk := (Keep.refl (· = wr.heap.size) (wr.alloc (.cells #[.int .u8 P, .int .u8 Q, .int .i64 y] 156))).setCell (p := ⟨wr.heap.size, 2, none⟩) (.inl rfl) (.int .i64 n)
       have KY := Lib.hid (K0.set 2 (.int .i64 n))
       simp only [List.setIfInBounds_toArray, List.set_cons_succ, List.set_cons_zero] at KY
       have OY := Lib.hid (owns_keep (hown.alloc (.cells #[.int .u8 P, .int .u8 Q, .int .i64 y] 156)) kk (fun b hb e => by have := rowlt b hb; omega))
       have BY := Lib.hid ((hb.trans (A0.mono hb.size)).trans (kk.below (hb.trans (A0.mono hb.size)).size (fun b hb e => by omega)))
       have z0 : wr.heap.size + 1 ≤ ((wr.alloc (.cells #[.int .u8 P, .int .u8 Q, .int .i64 y] 156)).setCell ⟨wr.heap.size, 2, none⟩ (.int .i64 n)).heap.size := by simp
       clear hown hb A0 K0 kk hz rowlt C
       generalize hW : (wr.alloc (.cells #[.int .u8 P, .int .u8 Q, .int .i64 y] 156)).setCell ⟨wr.heap.size, 2, none⟩ (.int .i64 n) = Wy at *
       have kl := KY.out.lt
       have y0 := KY.out.cell 0; have y1 := KY.out.cell 1; have y2 := KY.out.cell 2
       simp at y0 y1 y2
       by_cases hp : 0 < n
       ·have q3 : decide (0 < n) = true := by simpa using hp
        rw [if_pos hp] at NX
        clear hp
        go_wp2_with (at_builtin; refine wpList_append_fw _ rfl (.tmp 40) (.tmp 42) rfl w.heap.size _ out rfl (OY.out.alloc _) _ _ (⟨P, Q, n⟩ : Fw) rfl (Blk.new _ _ _) hl2 (by simp; omega) ?_)
        intro v3 w3 hown3 hgr3
        have R2 : ∀ k, Value.ownBlock _ = some k → w.heap.size ≤ k := fun k hk => (owns_type OY.out hk).1
        have B3 := Lib.hid ((BY.out.alloc BY.out.size _).grown hgr3 (by simp; have := BY.out.size; omega) (fun k hk => R2 k hk))
        have O3 := Lib.hid (show w3.ownsRow w.heap.size 156 3 v3 (out ++ [(⟨P, Q, n⟩ : Fw)]).length (fwCells (out ++ [(⟨P, Q, n⟩ : Fw)])) by simpa using hown3)
        clear R2 hown3 hgr3
        go_wp2_with fail
        go_roundw
        case rel => exact ⟨q + 1, Q + 1, Lib.hid (by have := hQ.out; omega), by omega, by omega, by go_num, by rw [show p * 16 + (q + 1) = p * 16 + q + 1 by omega, NX.out]; exact O3.out, B3.out⟩
        case measure => simp [intOf]; omega
       ·have q3 : decide (0 < n) = false := by simpa using hp
        rw [if_neg hp, List.append_nil] at NX
        clear hp
        go_wp2_with fail
        go_roundw
        case rel => exact ⟨q + 1, Q + 1, Lib.hid (by have := hQ.out; omega), by omega, by omega, by go_num, by rw [show p * 16 + (q + 1) = p * 16 + q + 1 by omega, NX.out]; exact OY.out, BY.out⟩
        case measure => simp [intOf]; omega
      ·have hb2 : (Q == b) = false := by simpa using hb2
       have hz : capF es P b n P Q = y := by unfold capF; rw [if_neg (fun h => by simp [h.2] at hb2), hy.out]
       rw [hz] at NX
       have KY := Lib.hid K0
       have OY := Lib.hid (hown.alloc (.cells #[.int .u8 P, .int .u8 Q, .int .i64 y] 156))
       have BY := Lib.hid (hb.trans (A0.mono hb.size))
       have z0 : wr.heap.size + 1 ≤ (wr.alloc (.cells #[.int .u8 P, .int .u8 Q, .int .i64 y] 156)).heap.size := by simp
       clear hown hb A0 K0 hz rowlt C
       generalize hW : (wr.alloc (.cells #[.int .u8 P, .int .u8 Q, .int .i64 y] 156)) = Wy at *
       have kl := KY.out.lt
       have y0 := KY.out.cell 0; have y1 := KY.out.cell 1; have y2 := KY.out.cell 2
       simp at y0 y1 y2
       by_cases hp : 0 < y
       ·have q3 : decide (0 < y) = true := by simpa using hp
        rw [if_pos hp] at NX
        clear hp
        go_wp2_with (at_builtin; refine wpList_append_fw _ rfl (.tmp 40) (.tmp 42) rfl w.heap.size _ out rfl (OY.out.alloc _) _ _ (⟨P, Q, y⟩ : Fw) rfl (Blk.new _ _ _) hl2 (by simp; omega) ?_)
        intro v3 w3 hown3 hgr3
        have R2 : ∀ k, Value.ownBlock _ = some k → w.heap.size ≤ k := fun k hk => (owns_type OY.out hk).1
        have B3 := Lib.hid ((BY.out.alloc BY.out.size _).grown hgr3 (by simp; have := BY.out.size; omega) (fun k hk => R2 k hk))
        have O3 := Lib.hid (show w3.ownsRow w.heap.size 156 3 v3 (out ++ [(⟨P, Q, y⟩ : Fw)]).length (fwCells (out ++ [(⟨P, Q, y⟩ : Fw)])) by simpa using hown3)
        clear R2 hown3 hgr3
        go_wp2_with fail
        go_roundw
        case rel => exact ⟨q + 1, Q + 1, Lib.hid (by have := hQ.out; omega), by omega, by omega, by go_num, by rw [show p * 16 + (q + 1) = p * 16 + q + 1 by omega, NX.out]; exact O3.out, B3.out⟩
        case measure => simp [intOf]; omega
       ·have q3 : decide (0 < y) = false := by simpa using hp
        rw [if_neg hp, List.append_nil] at NX
        clear hp
        go_wp2_with fail
        go_roundw
        case rel => exact ⟨q + 1, Q + 1, Lib.hid (by have := hQ.out; omega), by omega, by omega, by go_num, by rw [show p * 16 + (q + 1) = p * 16 + q + 1 by omega, NX.out]; exact OY.out, BY.out⟩
        case measure => simp [intOf]; omega
     ·have ha : (P == a) = false := by simpa using ha
      have hz : capF es a b n P Q = y := by unfold capF; rw [if_neg (fun h => by simp [h.1] at ha), hy.out]
      rw [hz] at NX
      have KY := Lib.hid K0
      have OY := Lib.hid (hown.alloc (.cells #[.int .u8 P, .int .u8 Q, .int .i64 y] 156))
      have BY := Lib.hid (hb.trans (A0.mono hb.size))
      have z0 : wr.heap.size + 1 ≤ (wr.alloc (.cells #[.int .u8 P, .int .u8 Q, .int .i64 y] 156)).heap.size := by simp
      clear hown hb A0 K0 hz rowlt C
      generalize hW : (wr.alloc (.cells #[.int .u8 P, .int .u8 Q, .int .i64 y] 156)) = Wy at *
      have kl := KY.out.lt
      have y0 := KY.out.cell 0; have y1 := KY.out.cell 1; have y2 := KY.out.cell 2
      simp at y0 y1 y2
      by_cases hp : 0 < y
      ·have q3 : decide (0 < y) = true := by simpa using hp
       rw [if_pos hp] at NX
       clear hp
       go_wp2_with (at_builtin; refine wpList_append_fw _ rfl (.tmp 40) (.tmp 42) rfl w.heap.size _ out rfl (OY.out.alloc _) _ _ (⟨P, Q, y⟩ : Fw) rfl (Blk.new _ _ _) hl2 (by simp; omega) ?_)
       intro v3 w3 hown3 hgr3
       have R2 : ∀ k, Value.ownBlock _ = some k → w.heap.size ≤ k := fun k hk => (owns_type OY.out hk).1
       have B3 := Lib.hid ((BY.out.alloc BY.out.size _).grown hgr3 (by simp; have := BY.out.size; omega) (fun k hk => R2 k hk))
       have O3 := Lib.hid (show w3.ownsRow w.heap.size 156 3 v3 (out ++ [(⟨P, Q, y⟩ : Fw)]).length (fwCells (out ++ [(⟨P, Q, y⟩ : Fw)])) by simpa using hown3)
       clear R2 hown3 hgr3
       go_wp2_with fail
       go_roundw
       case rel => exact ⟨q + 1, Q + 1, Lib.hid (by have := hQ.out; omega), by omega, by omega, by go_num, by rw [show p * 16 + (q + 1) = p * 16 + q + 1 by omega, NX.out]; exact O3.out, B3.out⟩
       case measure => simp [intOf]; omega
      ·have q3 : decide (0 < y) = false := by simpa using hp
       rw [if_neg hp, List.append_nil] at NX
       clear hp
       go_wp2_with fail
       go_roundw
       case rel => exact ⟨q + 1, Q + 1, Lib.hid (by have := hQ.out; omega), by omega, by omega, by go_num, by rw [show p * 16 + (q + 1) = p * 16 + q + 1 by omega, NX.out]; exact OY.out, BY.out⟩
       case measure => simp [intOf]; omega
    ·have hq : q = 16 := by have := hQ.out; omega
     subst hq
     have g1 : decide (Q ≤ 16) = false := by have := hQ.out; simp; omega
     have hQ3 : ¬ Q ≤ 16 := by have := hQ.out; omega
     have O4 := Lib.hid hown
     have B4 := Lib.hid hb
     clear hown hb
     go_wp2_with fail
     go_roundw
     case rel => exact ⟨p + 1, P + 1, Lib.hid (by have := hP.out; omega), by omega, by omega, by go_num, by rw [show (p + 1) * 16 = p * 16 + 16 by omega]; exact O4.out, B4.out⟩
     case measure => simp [intOf]; omega
  ·have hp : p = 16 := by have := hP.out; omega
   subst hp
   have g0 : decide (P ≤ 16) = false := by have := hP.out; simp; omega
   have hP3 : ¬ P ≤ 16 := by have := hP.out; omega
   have O0 := Lib.hid (show wr.ownsRow w.heap.size 156 3 _ (setE es a b n).length (fwCells (setE es a b n)) from hown)
   have B0 := Lib.hid hb
   have HBk := Lib.hid (H.out.blk.below hb hg)
   have hf := HBk.out.frozen
   obtain ⟨ao3, cap3, hv3, _⟩ := owns_open O0.out
   subst hv3
   clear hown hb
   go_wp2_with fail
   go_end0
   have kk : Keep (· = g) wr (wr.setCell ⟨g, 0, none⟩ (.slice ao3 (setE es a b n).length cap3)) := Keep.setCell (S := (· = g)) (Keep.refl _ _) (p := ⟨g, 0, none⟩) (.inl rfl) _
   refine ⟨rfl, .slice ao3 (setE es a b n).length cap3, ⟨?_, H.out.ge, ?_⟩, (Keep.of_below B0.out).trans kk, fun b hb => (owns_type O0.out hb).1⟩
   ·have := HBk.out.set 0 (.slice ao3 (setE es a b n).length cap3)
    simpa using this
   ·exact owns_keep (owns_base O0.out (by have := H.out.ge; omega)) kk (owns_ne O0.out HBk.out (by decide))
def pushEE (es : List Fw) (a b n : Int) : Int := if n < 1 then 1 else if capE es a b < n then 11 else 0
def pushEL (es : List Fw) (a b n : Int) : List Fw := if pushEE es a b n = 0 then setE (setE es a b (capE es a b - n)) b a (capE es b a + n) else es
def CapB (es : List Fw) (B : Int) : Prop := ∀ x ∈ es, 0 < x.am ∧ x.am ≤ B
theorem capE_bd {es : List Fw} {B : Int} (h : CapB es B) (h0 : 0 ≤ B) (a b : Int) : 0 ≤ capE es a b ∧ capE es a b ≤ B := by
 unfold capE
 cases hf : es.find? (hitE a b) with
 | none => exact ⟨Int.le_refl _, h0⟩
 | some x => have := h x (List.mem_of_find?_eq_some hf); exact ⟨by show 0 ≤ x.am; omega, this.2⟩
def PushGPostF (base g : Nat) (es : List Fw) (vl : Value) (a b n : Int) (w : World) (e : Ending) (w' : World) : Prop :=
 e = .returned (.int .i64 (pushEE es a b n)) ∧ ∃ vl', RefG w' base g (pushEL es a b n) vl' ∧ Keep (· = g) w w' ∧ (vl' = vl ∨ ∀ b, vl'.ownBlock = some b → w.heap.size ≤ b)
set_option maxHeartbeats 8000000 in
theorem rpushG_fresh {w : World} {base g : Nat} {es : List Fw} {vl : Value} {B : Int} (h : RefG w base g es vl) (hB : CapB es B) (h0 : 0 ≤ B) (hB2 : B ≤ 4611686018427387903) (a b n : Int) :
  Calls Tryz.prog 141 #[.pointer (some ⟨g, 0, none⟩), .int .u8 a, .int .u8 b, .int .i64 n] w (PushGPostF base g es vl a b n w) := by
 have H := Lib.hid h
 clear h
 by_cases h1 : n < 1
 ·have q1 : decide (n < 1) = true := by simp [h1]
  have E : Hid (pushEE es a b n = 1 ∧ pushEL es a b n = es) := Lib.hid (by unfold pushEL pushEE; simp [h1])
  go_enter Tryz.func141, Tryz.ntmps141
  go_wp2_with fail
  go_ret
  exact ⟨by rw [E.out.1]; rfl, vl, by rw [E.out.2]; exact H.out, Keep.refl _ _, .inl rfl⟩
 ·have q1 : decide (n < 1) = false := by simp; omega
  have hbd := capE_bd hB h0 a b
  have hbd2 := capE_bd hB h0 b a
  have C := Lib.hid (rcap_any H.out a b)
  by_cases h2 : capE es a b < n
  ·have E : Hid (pushEE es a b n = 11 ∧ pushEL es a b n = es) := Lib.hid (by unfold pushEL pushEE; simp [h1, h2])
   generalize capE es a b = m at *
   have q2 : decide (m < n) = true := by simp [h2]
   go_enter Tryz.func141, Tryz.ntmps141
   go_wp2_with fail
   refine C.out.mono ?_
   rintro e w ⟨rfl, rfl⟩
   go_wp2_with fail
   go_ret
   exact ⟨by rw [E.out.1]; rfl, vl, by rw [E.out.2]; exact H.out, Keep.refl _ _, .inl rfl⟩
  ·have E : Hid (pushEE es a b n = 0 ∧ pushEL es a b n = setE (setE es a b (capE es a b - n)) b a (capE es b a + n)) := Lib.hid (by unfold pushEL pushEE; simp [h1, h2])
   have C2 := Lib.hid (rcap_any H.out b a)
   have C3 := Lib.hid (rset_fresh H.out a b (capE es a b - n))
   generalize hm : capE es a b = m at *
   generalize hk : capE es b a = k at *
   clear hm hk
   have q2 : decide (m < n) = false := by simp; omega
   go_enter Tryz.func141, Tryz.ntmps141
   go_wp2_with fail
   refine C.out.mono ?_
   rintro e w ⟨rfl, rfl⟩
   go_wp2_with fail
   refine C2.out.mono ?_
   rintro e w ⟨rfl, rfl⟩
   go_wp2_with fail
   refine C.out.mono ?_
   rintro e w ⟨rfl, rfl⟩
   go_wp2_with fail
   refine C3.out.mono ?_
   rintro e w3 ⟨rfl, vl3, hr3, k3, _⟩
   have R3 := Lib.hid hr3
   have K3 := Lib.hid k3
   clear hr3 k3 C C2 C3
   have C4 := Lib.hid (rset_fresh R3.out b a (k + n))
   go_wp2_with fail
   refine C4.out.mono ?_
   rintro e w4 ⟨rfl, vl4, hr4, k4, n4⟩
   have R4 := Lib.hid hr4
   have K4 := Lib.hid (K3.out.trans k4)
   have N4 := Lib.hid (show ∀ b, vl4.ownBlock = some b → _ ≤ b from fun b hb => Nat.le_trans K3.out.size (n4 b hb))
   clear hr4 k4 n4 C4 R3 K3
   go_wp2_with fail
   go_ret
   exact ⟨by rw [E.out.1]; rfl, vl4, by rw [E.out.2]; exact R4.out, K4.out, .inr N4.out⟩
def CopyGPost (base : Nat) (es : List Fw) (w : World) (e : Ending) (w' : World) : Prop :=
 ∃ g' vl', e = .returned (.pointer (some ⟨g', 0, none⟩)) ∧ RefG w' base g' es vl' ∧ w.heap.size ≤ g' ∧ (∀ b, vl'.ownBlock = some b → w.heap.size ≤ b) ∧ Below w.heap.size w w'
set_option maxHeartbeats 4000000 in
theorem rcopyG_any {w : World} {base g : Nat} {es : List Fw} {vl : Value} (h : RefG w base g es vl) (hl : es.length ≤ 1000) :
  Calls Tryz.prog 138 #[.pointer (some ⟨g, 0, none⟩)] w (CopyGPost base es w) := by
 obtain ⟨v', w2, hrun, how, hbel⟩ := run_append_copy (P := Tryz.prog) (w := w) 147 147 156 info_fw Tryz.underlying147 rfl (by decide) (by decide) base _ _ _ h.row (fwCells_oneCell es) (by omega)
 have dg := h.blk.cell 0
 simp at dg
 have hg := h.blk.lt
 have hge := h.ge
 have HR := Lib.hid hrun
 have HO := Lib.hid how
 have HB := Lib.hid hbel
 clear h hrun how hbel
 go_enter Tryz.func138, Tryz.ntmps138
 obtain ⟨ao, cap, hv, _⟩ := owns_open HO.out
 subst hv
 go_wp2_with (at_builtin; refine wpList_append_run rfl (.const (.slice none 0 0)) (.tmp 6) 147 rfl rfl rfl HR.out ?_)
 go_ret
 have bw := (Below.refl w2.heap.size w2).alloc (Nat.le_refl _) (.cells #[.slice ao es.length cap] 177)
 exact ⟨w2.heap.size, _, rfl, ⟨Blk.new _ _ _, by have := HB.out.size; omega, owns_base (owns_below HO.out bw) (by omega)⟩, HB.out.size, fun b hb => (owns_type HO.out hb).1, HB.out.trans (bw.mono HB.out.size)⟩
end Go.Proofs.YtbieomgpfhloeaaGreat
namespace Go.Proofs.YtbieomgpfhloeaaGreat
open Go.RowKit
end Go.Proofs.YtbieomgpfhloeaaGreat
namespace Go.Proofs.YtbieomgpfhloeaaGreat
theorem hitE_iff {a b : Int} {x : Fw} : hitE a b x = true ↔ x.fr = a ∧ x.tt = b := by unfold hitE; simp
theorem prefE_mem {f : Int → Int → Int} {m : Nat} {x : Fw} : x ∈ prefE f m ↔ ∃ i, i < m ∧ edgeAt f i = x ∧ 0 < x.am := by
 unfold prefE
 simp only [List.mem_filter, List.mem_map, List.mem_range, decide_eq_true_eq]
 constructor
 ·rintro ⟨⟨i, hi, he⟩, h⟩; exact ⟨i, hi, he, h⟩
 ·rintro ⟨i, hi, he, h⟩; exact ⟨⟨i, hi, he⟩, h⟩
def inP (p : Int) : Prop := 1 ≤ p ∧ p ≤ 16
theorem allE_mem {f : Int → Int → Int} {x : Fw} : x ∈ allE f ↔ inP x.fr ∧ inP x.tt ∧ x.am = f x.fr x.tt ∧ 0 < x.am := by
 unfold allE
 rw [prefE_mem]
 constructor
 ·rintro ⟨i, hi, he, h⟩
  unfold edgeAt at he
  subst he
  refine ⟨⟨?_, ?_⟩, ⟨?_, ?_⟩, rfl, h⟩ <;> dsimp only <;> omega
 ·rintro ⟨⟨h1, h2⟩, ⟨h3, h4⟩, h5, h6⟩
  refine ⟨(x.fr.toNat - 1) * 16 + (x.tt.toNat - 1), by omega, ?_, h6⟩
  rw [edge_at f (by omega)]
  have e1 : ((x.fr.toNat - 1 : Nat) : Int) + 1 = x.fr := by omega
  have e2 : ((x.tt.toNat - 1 : Nat) : Int) + 1 = x.tt := by omega
  rw [e1, e2, ← h5]
theorem capE_allE {f : Int → Int → Int} {p q : Int} (hp : inP p) (hq : inP q) : capE (allE f) p q = if 0 < f p q then f p q else 0 := by
 unfold capE
 cases hf : (allE f).find? (hitE p q) with
 | some x =>
  have h1 := hitE_iff.1 (List.find?_some hf)
  have h2 := allE_mem.1 (List.mem_of_find?_eq_some hf)
  obtain ⟨rfl, rfl⟩ := h1
  have h3 : 0 < f x.fr x.tt := by have := h2.2.2.1; have := h2.2.2.2; omega
  rw [if_pos h3]
  exact h2.2.2.1
 | none =>
  by_cases h3 : 0 < f p q
  ·have := List.find?_eq_none.1 hf ⟨p, q, f p q⟩ (allE_mem.2 ⟨hp, hq, rfl, h3⟩)
   exact absurd (hitE_iff.2 ⟨rfl, rfl⟩) this
  ·rw [if_neg h3]
theorem capE_out {f : Int → Int → Int} {p q : Int} (h : ¬ (inP p ∧ inP q)) : capE (allE f) p q = 0 := by
 refine capE_none fun x hx => ?_
 have h2 := allE_mem.1 hx
 cases hh : hitE p q x with
 | false => rfl
 | true =>
  obtain ⟨rfl, rfl⟩ := hitE_iff.1 hh
  exact absurd ⟨h2.1, h2.2.1⟩ h
theorem prefE_congr {f g : Int → Int → Int} (h : ∀ p q, inP p → inP q → f p q = g p q ∨ (f p q ≤ 0 ∧ g p q ≤ 0)) : ∀ m, m ≤ 256 → prefE f m = prefE g m
 | 0, _ => rfl
 | m + 1, hm => by
  rw [prefE_succ, prefE_succ, prefE_congr h m (by omega)]
  congr 1
  have h1 := h (((m / 16 : Nat) : Int) + 1) (((m % 16 : Nat) : Int) + 1) ⟨by omega, by omega⟩ ⟨by omega, by omega⟩
  unfold edgeAt
  dsimp only
  rcases h1 with h1 | ⟨h1, h2⟩
  ·rw [h1]
  ·rw [if_neg (by omega), if_neg (by omega)]
theorem allE_congr {f g : Int → Int → Int} (h : ∀ p q, inP p → inP q → f p q = g p q ∨ (f p q ≤ 0 ∧ g p q ≤ 0)) : allE f = allE g := prefE_congr h 256 (Nat.le_refl _)
def updE (f : Int → Int → Int) (a b n p q : Int) : Int := if p = a ∧ q = b then n else f p q
theorem setE_allE (f : Int → Int → Int) (a b n : Int) : setE (allE f) a b n = allE (updE f a b n) := by
 unfold setE
 refine allE_congr fun p q hp hq => ?_
 unfold capF updE
 by_cases h : p = a ∧ q = b
 ·rw [if_pos h, if_pos h]; exact .inl rfl
 ·rw [if_neg h, if_neg h, capE_allE hp hq]
  by_cases h2 : 0 < f p q
  ·rw [if_pos h2]; exact .inl rfl
  ·rw [if_neg h2]; exact .inr ⟨by omega, by omega⟩
theorem CapB.all {f : Int → Int → Int} {B : Int} (h : ∀ p q, inP p → inP q → f p q ≤ B) : CapB (allE f) B := by
 intro x hx
 have := allE_mem.1 hx
 exact ⟨this.2.2.2, by rw [this.2.2.1]; exact h _ _ this.1 this.2.1⟩
structure GInv (f : Int → Int → Int) (B : Int) : Prop where
 nn : ∀ p q, 0 ≤ f p q
 pair : ∀ p q, f p q + f q p ≤ B
 out : ∀ p q, ¬ (inP p ∧ inP q) → f p q = 0
 self : ∀ p, f p p = 0
theorem GInv.le {f : Int → Int → Int} {B : Int} (h : GInv f B) (p q : Int) : f p q ≤ B := by have := h.pair p q; have := h.nn q p; omega
theorem GInv.cap {f : Int → Int → Int} {B : Int} (h : GInv f B) (p q : Int) : capE (allE f) p q = f p q := by
 by_cases hi : inP p ∧ inP q
 ·rw [capE_allE hi.1 hi.2]
  by_cases h0 : 0 < f p q
  ·rw [if_pos h0]
  ·rw [if_neg h0]; have := h.nn p q; omega
 ·rw [capE_out hi, h.out p q hi]
theorem GInv.capB {f : Int → Int → Int} {B : Int} (h : GInv f B) : CapB (allE f) B := CapB.all fun p q _ _ => h.le p q
theorem GInv.ends {f : Int → Int → Int} {B : Int} (h : GInv f B) {p q : Int} (h0 : 0 < f p q) : inP p ∧ inP q ∧ p ≠ q := by
 by_cases hi : inP p ∧ inP q
 ·refine ⟨hi.1, hi.2, ?_⟩
  rintro rfl
  have := h.self p
  omega
 ·have := h.out p q hi; omega
def zeroF (_ _ : Int) : Int := 0
theorem GInv.zero {B : Int} (h : 0 ≤ B) : GInv zeroF B := ⟨fun _ _ => Int.le_refl _, fun _ _ => by unfold zeroF; omega, fun _ _ _ => rfl, fun _ => rfl⟩
def pushF (f : Int → Int → Int) (a b n p q : Int) : Int := if p = b ∧ q = a then f b a + n else if p = a ∧ q = b then f a b - n else f p q
theorem GInv.push {f : Int → Int → Int} {B : Int} (h : GInv f B) {a b n : Int} (h1 : 1 ≤ n) (h2 : n ≤ f a b) : GInv (pushF f a b n) B := by
 obtain ⟨ha, hb, hne⟩ := h.ends (p := a) (q := b) (by omega)
 have hba := h.nn b a
 refine ⟨fun p q => ?_, fun p q => ?_, fun p q hi => ?_, fun p => ?_⟩
 ·unfold pushF
  have := h.nn p q
  split
  ·omega
  ·split <;> omega
 ·have hp := h.pair p q
  have hab := h.pair a b
  by_cases c1 : p = b ∧ q = a
  ·obtain ⟨rfl, rfl⟩ := c1
   have e1 : pushF f q p n p q = f p q + n := by unfold pushF; rw [if_pos ⟨rfl, rfl⟩]
   have e2 : pushF f q p n q p = f q p - n := by unfold pushF; rw [if_neg (fun e => hne e.1), if_pos ⟨rfl, rfl⟩]
   omega
  ·by_cases c2 : p = a ∧ q = b
   ·obtain ⟨rfl, rfl⟩ := c2
    have e1 : pushF f p q n p q = f p q - n := by unfold pushF; rw [if_neg (fun e => hne e.1), if_pos ⟨rfl, rfl⟩]
    have e2 : pushF f p q n q p = f q p + n := by unfold pushF; rw [if_pos ⟨rfl, rfl⟩]
    omega
   ·have e1 : pushF f a b n p q = f p q := by unfold pushF; rw [if_neg c1, if_neg c2]
    have e2 : pushF f a b n q p = f q p := by unfold pushF; rw [if_neg (fun e => c2 ⟨e.2, e.1⟩), if_neg (fun e => c1 ⟨e.2, e.1⟩)]
    omega
 ·unfold pushF
  rw [if_neg (fun e => hi ⟨by rw [e.1]; exact hb, by rw [e.2]; exact ha⟩), if_neg (fun e => hi ⟨by rw [e.1]; exact ha, by rw [e.2]; exact hb⟩)]
  exact h.out p q hi
 ·unfold pushF
  rw [if_neg (fun e => hne (e.2.symm.trans e.1)), if_neg (fun e => hne (e.1.symm.trans e.2))]
  exact h.self p
theorem pushEE_allE {f : Int → Int → Int} {B : Int} (h : GInv f B) (a b n : Int) : pushEE (allE f) a b n = if n < 1 then 1 else if f a b < n then 11 else 0 := by
 unfold pushEE
 rw [h.cap]
theorem pushEL_allE {f : Int → Int → Int} {B : Int} (h : GInv f B) (a b n : Int) : pushEL (allE f) a b n = if 1 ≤ n ∧ n ≤ f a b then allE (pushF f a b n) else allE f := by
 unfold pushEL
 rw [pushEE_allE h, h.cap, h.cap]
 by_cases h1 : n < 1
 ·rw [if_pos h1, if_neg (by omega), if_neg (by omega)]
 ·by_cases h2 : f a b < n
  ·rw [if_neg h1, if_pos h2, if_neg (by omega), if_neg (by omega)]
  ·rw [if_neg h1, if_neg h2, if_pos rfl, if_pos ⟨by omega, by omega⟩, setE_allE, setE_allE]
   rfl
end Go.Proofs.YtbieomgpfhloeaaGreat
