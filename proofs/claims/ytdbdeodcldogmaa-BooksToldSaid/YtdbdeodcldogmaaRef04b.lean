/-
  countinghouseref04: set, Cancel, Take.
-/
import Derived.Test.YtdbdeodcldogmaaRef04
namespace Go.Proofs.Ytdbdeodcldogmaa
open Go.RowKit
set_option linter.unusedSimpArgs false
set_option linter.unusedVariables false

/-- What is left of an offer is set; of nothing it is none. -/
def Of.put (s n : Int) (x : Of) : Of := if x.se = s then { x with lf := n } else x
def setO (l : List Of) (s n : Int) : List Of := (l.map (Of.put s n)).filter fun x => decide (0 < x.lf)
theorem setO_next (l : List Of) (s n : Int) (k : Nat) (h : k < l.length) : setO (l.take (k + 1)) s n = setO (l.take k) s n ++ (if 0 < (l[k].put s n).lf then [l[k].put s n] else []) := by
  unfold setO
  rw [List.take_succ_eq_append_getElem h, List.map_append, List.filter_append]
  congr 1
  simp only [List.map_cons, List.map_nil, List.filter_cons, List.filter_nil, decide_eq_true_eq]
theorem setO_len (l : List Of) (s n : Int) : (setO l s n).length ≤ l.length := by
  unfold setO
  exact Nat.le_trans (List.length_filter_le _ _) (by simp)
def SetOAt (w : World) (l : List Of) (s n : Int) (v i : Value) (wr : World) : Prop :=
  ∃ k : Nat, k ≤ l.length ∧ i = .int .i64 k ∧ wr.ownsRow w.heap.size 39 7 v (setO (l.take k) s n).length (ofCells (setO (l.take k) s n)) ∧ Below w.heap.size w wr
set_option maxHeartbeats 8000000 in
set_option maxRecDepth 100000 in
theorem bset_any {w : World} {base g : Nat} {l : List Of} {N : Int} {vl : Value} (h : RefB w base g l N vl) (s n : Int) (hlen : l.length ≤ 1000) :
    Calls Try.prog 43 #[.pointer (some ⟨g, 0, none⟩), .int .u64 s, .int .i64 n] w fun e w' => e = .returned (.tuple #[]) ∧ ∃ vl', RefB w' base g (setO l s n) N vl' ∧ Keep (· = g) w w' := by
  have H := Lib.hid h
  obtain ⟨ao, cap, rfl, hc1, hc2, hc3, hc4⟩ := owns_open h.row
  have HC := Lib.hid hc4
  have hg := h.blk.lt
  unfold maxLen at hc2
  clear hc3 hc4 h
  go_enter Try.func43, Try.ntmps43
  go_wp2_with fail
  go_loopw [6, 7] (SetOAt w l s n) (fun _ i _ => l.length - (intOf i).toNat)
  case atStart => exact ⟨0, Nat.zero_le _, rfl, World.ownsRow_nil _ _ _ _, Below.refl _ _⟩
  case round =>
    obtain ⟨k, hk, rfl, hown, hb⟩ := hrel
    have hlo := setO_len (l.take k) s n
    have hlk : (l.take k).length ≤ k := List.length_take_le _ _
    have dg := (H.out.blk.below hb hg).cell 0
    simp at dg
    have hgr := (H.out.blk.below hb hg).lt
    by_cases hkl : k < l.length
    · obtain ⟨b, rfl, hb1, hb2, hcell, _⟩ := HC.out (by omega)
      obtain ⟨e0, e1, e2, e3, e4, e5, e6⟩ := of_cells (w := wr) (fun j hj => by rw [hb.cell (p := ⟨b, j, none⟩) hb2]; exact hcell j hj) hkl
      have hbr : b < wr.heap.size := Nat.lt_of_lt_of_le hb2 hb.size
      have NX := Lib.hid (setO_next l s n k hkl)
      clear hcell
      generalize l[k] = y at *
      generalize setO (l.take k) s n = out at *
      have hl2 : out.length ≤ 100000 := by omega
      have A0 := (Below.refl wr.heap.size wr).alloc (Nat.le_refl _) (.cells #[.int .u64 y.se, .int .u8 y.ow, .int .u8 y.sl, .int .u8 y.bu, .int .i64 y.lf, .int .i64 y.nu, .int .i64 y.de] 39)
      have K0 := Blk.new wr #[.int .u64 y.se, .int .u8 y.ow, .int .u8 y.sl, .int .u8 y.bu, .int .i64 y.lf, .int .i64 y.nu, .int .i64 y.de] 39
      have hwy : w.heap.size ≤ wr.heap.size := hb.size
      have rowlt : ∀ k, Value.ownBlock _ = some k → k < wr.heap.size := fun k hk => (owns_type hown hk).2.1
      by_cases hs : y.se = s
      · have q1 : (y.se == s) = true := by simpa using hs
        have hy : y.put s n = { y with lf := n } := by unfold Of.put; rw [if_pos hs]
        rw [hy] at NX
        have kk := (Keep.refl (· = wr.heap.size) (wr.alloc (.cells #[.int .u64 y.se, .int .u8 y.ow, .int .u8 y.sl, .int .u8 y.bu, .int .i64 y.lf, .int .i64 y.nu, .int .i64 y.de] 39))).setCell (p := ⟨wr.heap.size, 4, none⟩) (.inl rfl) (.int .i64 n)
        have KY := Lib.hid (K0.set 4 (.int .i64 n))
        simp only [List.setIfInBounds_toArray, List.set_cons_succ, List.set_cons_zero] at KY
        have OY := Lib.hid (owns_keep (hown.alloc (.cells #[.int .u64 y.se, .int .u8 y.ow, .int .u8 y.sl, .int .u8 y.bu, .int .i64 y.lf, .int .i64 y.nu, .int .i64 y.de] 39)) kk (fun b hb e => by have := rowlt b hb; omega))
        have BY := Lib.hid ((hb.trans (A0.mono hb.size)).trans (kk.below (hb.trans (A0.mono hb.size)).size (fun b hb e => by omega)))
        have z0 : wr.heap.size + 1 ≤ ((wr.alloc (.cells #[.int .u64 y.se, .int .u8 y.ow, .int .u8 y.sl, .int .u8 y.bu, .int .i64 y.lf, .int .i64 y.nu, .int .i64 y.de] 39)).setCell ⟨wr.heap.size, 4, none⟩ (.int .i64 n)).heap.size := by simp
        clear hown hb A0 K0 kk hs hy rowlt
        generalize hW : (wr.alloc (.cells #[.int .u64 y.se, .int .u8 y.ow, .int .u8 y.sl, .int .u8 y.bu, .int .i64 y.lf, .int .i64 y.nu, .int .i64 y.de] 39)).setCell ⟨wr.heap.size, 4, none⟩ (.int .i64 n) = Wy at *
        have kl := KY.out.lt
        have y0 := KY.out.cell 0; have y1 := KY.out.cell 1; have y2 := KY.out.cell 2; have y3 := KY.out.cell 3; have y4 := KY.out.cell 4; have y5 := KY.out.cell 5; have y6 := KY.out.cell 6
        simp at y0 y1 y2 y3 y4 y5 y6
        by_cases hn : 0 < n
        · have q2 : decide (0 < n) = true := by simpa using hn
          rw [if_pos hn] at NX
          clear hn
          go_wp2_with (at_builtin; refine wpList_append_of _ rfl (.tmp 34) (.tmp 36) rfl w.heap.size _ out rfl (OY.out.alloc _) _ _ { y with lf := n } rfl (Blk.new _ _ _) hl2 (by simp; omega) ?_)
          intro v3 w3 hown3 hgr3
          have R2 : ∀ k, Value.ownBlock _ = some k → w.heap.size ≤ k := fun k hk => (owns_type OY.out hk).1
          have B3 := Lib.hid ((BY.out.alloc BY.out.size _).grown hgr3 (by simp; have := BY.out.size; omega) (fun k hk => R2 k hk))
          have O3 := Lib.hid (show w3.ownsRow w.heap.size 39 7 v3 (out ++ [{ y with lf := n }]).length (ofCells (out ++ [{ y with lf := n }])) by simpa using hown3)
          clear R2 hown3 hgr3
          go_wp2_with fail
          go_roundw
          case rel => exact ⟨k + 1, by omega, by go_num, by rw [NX.out]; exact O3.out, B3.out⟩
          case measure => simp [intOf]; omega
        · have q2 : decide (0 < n) = false := by simpa using hn
          rw [if_neg hn, List.append_nil] at NX
          clear hn
          go_wp2_with fail
          go_roundw
          case rel => exact ⟨k + 1, by omega, by go_num, by rw [NX.out]; exact OY.out, BY.out⟩
          case measure => simp [intOf]; omega
      · have q1 : (y.se == s) = false := by simpa using hs
        have hy : y.put s n = y := by unfold Of.put; rw [if_neg hs]
        rw [hy] at NX
        have KY := Lib.hid K0
        have OY := Lib.hid (hown.alloc (.cells #[.int .u64 y.se, .int .u8 y.ow, .int .u8 y.sl, .int .u8 y.bu, .int .i64 y.lf, .int .i64 y.nu, .int .i64 y.de] 39))
        have BY := Lib.hid (hb.trans (A0.mono hb.size))
        have z0 : wr.heap.size + 1 ≤ (wr.alloc (.cells #[.int .u64 y.se, .int .u8 y.ow, .int .u8 y.sl, .int .u8 y.bu, .int .i64 y.lf, .int .i64 y.nu, .int .i64 y.de] 39)).heap.size := by simp
        clear hown hb A0 K0 hs hy rowlt
        generalize hW : wr.alloc (.cells #[.int .u64 y.se, .int .u8 y.ow, .int .u8 y.sl, .int .u8 y.bu, .int .i64 y.lf, .int .i64 y.nu, .int .i64 y.de] 39) = Wy at *
        have kl := KY.out.lt
        have y0 := KY.out.cell 0; have y1 := KY.out.cell 1; have y2 := KY.out.cell 2; have y3 := KY.out.cell 3; have y4 := KY.out.cell 4; have y5 := KY.out.cell 5; have y6 := KY.out.cell 6
        simp at y0 y1 y2 y3 y4 y5 y6
        by_cases hn : 0 < y.lf
        · have q2 : decide (0 < y.lf) = true := by simpa using hn
          rw [if_pos hn] at NX
          clear hn
          go_wp2_with (at_builtin; refine wpList_append_of _ rfl (.tmp 34) (.tmp 36) rfl w.heap.size _ out rfl (OY.out.alloc _) _ _ y rfl (Blk.new _ _ _) hl2 (by simp; omega) ?_)
          intro v3 w3 hown3 hgr3
          have R2 : ∀ k, Value.ownBlock _ = some k → w.heap.size ≤ k := fun k hk => (owns_type OY.out hk).1
          have B3 := Lib.hid ((BY.out.alloc BY.out.size _).grown hgr3 (by simp; have := BY.out.size; omega) (fun k hk => R2 k hk))
          have O3 := Lib.hid (show w3.ownsRow w.heap.size 39 7 v3 (out ++ [y]).length (ofCells (out ++ [y])) by simpa using hown3)
          clear R2 hown3 hgr3
          go_wp2_with fail
          go_roundw
          case rel => exact ⟨k + 1, by omega, by go_num, by rw [NX.out]; exact O3.out, B3.out⟩
          case measure => simp [intOf]; omega
        · have q2 : decide (0 < y.lf) = false := by simpa using hn
          rw [if_neg hn, List.append_nil] at NX
          clear hn
          go_wp2_with fail
          go_roundw
          case rel => exact ⟨k + 1, by omega, by go_num, by rw [NX.out]; exact OY.out, BY.out⟩
          case measure => simp [intOf]; omega
    · have hke : l.take k = l := List.take_of_length_le (by omega)
      rw [hke] at hown
      have O0 := Lib.hid hown
      have B0 := Lib.hid hb
      have HBk := Lib.hid (H.out.blk.below hb hg)
      have hf := HBk.out.frozen
      obtain ⟨ao3, cap3, hv3, _⟩ := owns_open O0.out
      subst hv3
      clear hown hb
      go_wp2
      go_end0
      have kk : Keep (· = g) wr (wr.setCell ⟨g, 0, none⟩ (.slice ao3 (setO l s n).length cap3)) := Keep.setCell (S := (· = g)) (Keep.refl _ _) (p := ⟨g, 0, none⟩) (.inl rfl) _
      refine ⟨rfl, .slice ao3 (setO l s n).length cap3, ⟨?_, H.out.ge, ?_⟩, (Keep.of_below B0.out).trans kk⟩
      · have := HBk.out.set 0 (.slice ao3 (setO l s n).length cap3)
        simpa using this
      · exact owns_keep (owns_base O0.out (by have := H.out.ge; omega)) kk (owns_ne O0.out HBk.out (by decide))

/-- What Cancel answers, and what stands behind it. -/
def cancelV (l : List Of) (ow s : Int) : Int := match findO l s with | none => 0 | some x => if x.ow = ow then x.lf else 0
def cancelE (l : List Of) (ow s : Int) : Int := match findO l s with | none => 7 | some x => if x.ow = ow then 0 else 15
def cancelL (l : List Of) (ow s : Int) : List Of := if cancelE l ow s = 0 then setO l s 0 else l
/-- What Take answers, and what stands behind it. -/
def takeE (l : List Of) (s n : Int) : Int := match findO l s with | none => 7 | some x => if n < 1 ∨ x.lf < n then 1 else 0
def leftO (l : List Of) (s : Int) : Int := match findO l s with | none => 0 | some x => x.lf
def takeL (l : List Of) (s n : Int) : List Of := if takeE l s n = 0 then setO l s (leftO l s - n) else l
theorem findO_mem {l : List Of} {s : Int} {x : Of} (h : findO l s = some x) : x ∈ l ∧ x.se = s := by
  unfold findO at h
  exact ⟨List.mem_of_find?_eq_some h, by have := List.find?_some h; simpa using this⟩
set_option maxHeartbeats 4000000 in
theorem bcancel_any {w : World} {base g : Nat} {l : List Of} {N : Int} {vl : Value} (h : RefB w base g l N vl) (ow s : Int) (hlen : l.length ≤ 1000) :
    Calls Try.prog 19 #[.pointer (some ⟨g, 0, none⟩), .int .u8 ow, .int .u64 s] w fun e w' => e = .returned (.tuple #[.int .i64 (cancelV l ow s), .int .i64 (cancelE l ow s)]) ∧ ∃ vl', RefB w' base g (cancelL l ow s) N vl' ∧ Keep (· = g) w w' := by
  have H := Lib.hid h
  have C := Lib.hid (bfind_any h s)
  clear h
  cases hf : findO l s with
  | none =>
    have e1 : cancelV l ow s = 0 := by unfold cancelV; rw [hf]
    have e2 : cancelE l ow s = 7 := by unfold cancelE; rw [hf]
    have e3 : cancelL l ow s = l := by unfold cancelL; rw [e2]; rfl
    rw [e1, e2, e3]
    rw [hf] at C
    dsimp only [foundV, Of.val, noOf] at C
    clear e1 e2 e3 hf
    go_enter Try.func19, Try.ntmps19
    go_wp2_with fail
    refine C.out.mono ?_
    rintro e w1 ⟨rfl, b1⟩
    have B2 := Lib.hid (b1.alloc b1.size (.cells #[.int .u64 0, .int .u8 0, .int .u8 0, .int .u8 0, .int .i64 0, .int .i64 0, .int .i64 0] 39))
    clear b1
    go_wp2_with fail
    refine bodyPost_ret (v := .tuple #[.int .i64 0, .int .i64 7]) (by simp [results, Try.results19, go_sem]) rfl ?_
    exact ⟨rfl, vl, H.out.below B2.out, Keep.of_below B2.out⟩
  | some x =>
    rw [hf] at C
    dsimp only [foundV, Of.val] at C
    by_cases hw : x.ow = ow
    · have e1 : cancelV l ow s = x.lf := by unfold cancelV; rw [hf]; exact if_pos hw
      have e2 : cancelE l ow s = 0 := by unfold cancelE; rw [hf]; exact if_pos hw
      have e3 : cancelL l ow s = setO l s 0 := by unfold cancelL; rw [e2]; rfl
      rw [e1, e2, e3]
      have q1 : (x.ow == ow) = true := by simpa using hw
      have q2 : (x.ow != ow) = false := by simpa using hw
      clear e1 e2 e3 hf hw
      go_enter Try.func19, Try.ntmps19
      go_wp2_with fail
      refine C.out.mono ?_
      rintro e w1 ⟨rfl, b1⟩
      have B2 := Lib.hid (b1.alloc b1.size (.cells #[.int .u64 x.se, .int .u8 x.ow, .int .u8 x.sl, .int .u8 x.bu, .int .i64 x.lf, .int .i64 x.nu, .int .i64 x.de] 39))
      have KX := Lib.hid (Blk.new w1 #[.int .u64 x.se, .int .u8 x.ow, .int .u8 x.sl, .int .u8 x.bu, .int .i64 x.lf, .int .i64 x.nu, .int .i64 x.de] 39)
      have CS := Lib.hid (bset_any (H.out.below B2.out) s 0 hlen)
      have hgw : Hid (g < w1.heap.size) := Lib.hid (Nat.lt_of_lt_of_le H.out.blk.lt b1.size)
      clear b1 C
      go_wp2_with fail
      refine CS.out.mono ?_
      rintro e w2 ⟨rfl, vl2, hr2, k2⟩
      have R2 := Lib.hid hr2
      have K2 := Lib.hid ((Keep.of_below B2.out).trans k2)
      have KX2 := Lib.hid (KX.out.keep k2 (fun e => by have := hgw.out; omega))
      have kl := KX2.out.lt
      have y4 := KX2.out.cell 4
      simp at y4
      clear hr2 k2 CS KX
      go_wp2_with fail
      refine bodyPost_ret (v := .tuple #[.int .i64 x.lf, .int .i64 0]) (by simp [results, Try.results19, go_sem]) rfl ?_
      exact ⟨rfl, vl2, R2.out, K2.out⟩
    · have e1 : cancelV l ow s = 0 := by unfold cancelV; rw [hf]; exact if_neg hw
      have e2 : cancelE l ow s = 15 := by unfold cancelE; rw [hf]; exact if_neg hw
      have e3 : cancelL l ow s = l := by unfold cancelL; rw [e2]; rfl
      rw [e1, e2, e3]
      have q1 : (x.ow == ow) = false := by simpa using hw
      have q2 : (x.ow != ow) = true := by simpa using hw
      clear e1 e2 e3 hf hw
      go_enter Try.func19, Try.ntmps19
      go_wp2_with fail
      refine C.out.mono ?_
      rintro e w1 ⟨rfl, b1⟩
      have B2 := Lib.hid (b1.alloc b1.size (.cells #[.int .u64 x.se, .int .u8 x.ow, .int .u8 x.sl, .int .u8 x.bu, .int .i64 x.lf, .int .i64 x.nu, .int .i64 x.de] 39))
      clear b1
      go_wp2_with fail
      refine bodyPost_ret (v := .tuple #[.int .i64 0, .int .i64 15]) (by simp [results, Try.results19, go_sem]) rfl ?_
      exact ⟨rfl, vl, H.out.below B2.out, Keep.of_below B2.out⟩
set_option maxHeartbeats 4000000 in
theorem btake_any {w : World} {base g : Nat} {l : List Of} {N : Int} {vl : Value} (h : RefB w base g l N vl) (s n : Int) (hlen : l.length ≤ 1000) (hfit : ∀ x ∈ l, x.lf ≤ 9223372036854775807) :
    Calls Try.prog 21 #[.pointer (some ⟨g, 0, none⟩), .int .u64 s, .int .i64 n] w fun e w' => e = .returned (.int .i64 (takeE l s n)) ∧ ∃ vl', RefB w' base g (takeL l s n) N vl' ∧ Keep (· = g) w w' := by
  have H := Lib.hid h
  have C := Lib.hid (bfind_any h s)
  clear h
  cases hf : findO l s with
  | none =>
    have e2 : takeE l s n = 7 := by unfold takeE; rw [hf]
    have e3 : takeL l s n = l := by unfold takeL; rw [e2]; rfl
    rw [e2, e3]
    rw [hf] at C
    dsimp only [foundV, Of.val, noOf] at C
    clear e2 e3 hf hfit
    go_enter Try.func21, Try.ntmps21
    go_wp2_with fail
    refine C.out.mono ?_
    rintro e w1 ⟨rfl, b1⟩
    have B2 := Lib.hid (b1.alloc b1.size (.cells #[.int .u64 0, .int .u8 0, .int .u8 0, .int .u8 0, .int .i64 0, .int .i64 0, .int .i64 0] 39))
    clear b1
    go_wp2_with fail
    go_ret
    exact ⟨rfl, vl, H.out.below B2.out, Keep.of_below B2.out⟩
  | some x =>
    have hxf := hfit x (findO_mem hf).1
    clear hfit
    rw [hf] at C
    dsimp only [foundV, Of.val] at C
    by_cases h1 : n < 1
    · have e2 : takeE l s n = 1 := by unfold takeE; rw [hf]; exact if_pos (.inl h1)
      have e3 : takeL l s n = l := by unfold takeL; rw [e2]; rfl
      rw [e2, e3]
      clear e2 e3 hf hxf
      go_enter Try.func21, Try.ntmps21
      go_wp2_with fail
      refine C.out.mono ?_
      rintro e w1 ⟨rfl, b1⟩
      have B2 := Lib.hid (b1.alloc b1.size (.cells #[.int .u64 x.se, .int .u8 x.ow, .int .u8 x.sl, .int .u8 x.bu, .int .i64 x.lf, .int .i64 x.nu, .int .i64 x.de] 39))
      clear b1
      go_wp2_with fail
      go_ret
      exact ⟨rfl, vl, H.out.below B2.out, Keep.of_below B2.out⟩
    by_cases h2 : x.lf < n
    · have e2 : takeE l s n = 1 := by unfold takeE; rw [hf]; exact if_pos (.inr h2)
      have e3 : takeL l s n = l := by unfold takeL; rw [e2]; rfl
      rw [e2, e3]
      clear e2 e3 hf hxf
      go_enter Try.func21, Try.ntmps21
      go_wp2_with fail
      refine C.out.mono ?_
      rintro e w1 ⟨rfl, b1⟩
      have B2 := Lib.hid (b1.alloc b1.size (.cells #[.int .u64 x.se, .int .u8 x.ow, .int .u8 x.sl, .int .u8 x.bu, .int .i64 x.lf, .int .i64 x.nu, .int .i64 x.de] 39))
      clear b1
      go_wp2_with fail
      go_ret
      exact ⟨rfl, vl, H.out.below B2.out, Keep.of_below B2.out⟩
    · have e2 : takeE l s n = 0 := by unfold takeE; rw [hf]; exact if_neg (by omega)
      have e3 : takeL l s n = setO l s (x.lf - n) := by unfold takeL leftO; rw [if_pos e2, hf]
      rw [e2, e3]
      have hw : Hid (wrap64 (x.lf - n) = x.lf - n) := Lib.hid (wrap64_of _ ⟨by omega, by omega⟩)
      clear e2 e3 hf
      go_enter Try.func21, Try.ntmps21
      go_wp2_with fail
      refine C.out.mono ?_
      rintro e w1 ⟨rfl, b1⟩
      have B2 := Lib.hid (b1.alloc b1.size (.cells #[.int .u64 x.se, .int .u8 x.ow, .int .u8 x.sl, .int .u8 x.bu, .int .i64 x.lf, .int .i64 x.nu, .int .i64 x.de] 39))
      have CS := Lib.hid (fun m => bset_any (H.out.below B2.out) s m hlen)
      clear b1 C
      go_wp2_with fail
      refine (CS.out _).mono ?_
      rintro e w2 ⟨rfl, vl2, hr2, k2⟩
      have K2 := Lib.hid ((Keep.of_below B2.out).trans k2)
      first | rw [hw.out] at hr2 | skip
      have R2 := Lib.hid hr2
      clear hr2 k2 CS
      go_wp2_with fail
      go_ret
      exact ⟨rfl, vl2, R2.out, K2.out⟩

end Go.Proofs.Ytdbdeodcldogmaa
