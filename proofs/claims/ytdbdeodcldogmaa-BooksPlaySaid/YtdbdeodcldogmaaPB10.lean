/-
  The program's books: Of.
-/
import Derived.Test.YtdbdeodcldogmaaPB8
namespace Go.Proofs.Ytdbdeodcldogmaa
open Go.RowKit
set_option linter.unusedSimpArgs false
set_option linter.unusedVariables false

theorem of_cells_off {w : World} {b o : Nat} {ls : List Of} (h : ∀ j, j < ls.length * 7 → w.cell? ⟨b, o + j, none⟩ = (ofCells ls)[j]?) {k : Nat} (hk : k < ls.length) :
    w.cell? ⟨b, o + k * 7, none⟩ = some (.int .u64 ls[k].se) ∧ w.cell? ⟨b, o + k * 7 + 1, none⟩ = some (.int .u8 ls[k].ow) ∧ w.cell? ⟨b, o + k * 7 + 2, none⟩ = some (.int .u8 ls[k].sl) ∧ w.cell? ⟨b, o + k * 7 + 3, none⟩ = some (.int .u8 ls[k].bu) ∧ w.cell? ⟨b, o + k * 7 + 4, none⟩ = some (.int .i64 ls[k].lf) ∧ w.cell? ⟨b, o + k * 7 + 5, none⟩ = some (.int .i64 ls[k].nu) ∧ w.cell? ⟨b, o + k * 7 + 6, none⟩ = some (.int .i64 ls[k].de) := by
  have q : ∀ j, j < 7 → w.cell? ⟨b, o + k * 7 + j, none⟩ = ls[k].vals[j]? := fun j hj => by
    have := h (k * 7 + j) (by omega)
    rw [ofCells_get ls k j hj hk, ← Nat.add_assoc] at this
    exact this
  exact ⟨q 0 (by omega), q 1 (by omega), q 2 (by omega), q 3 (by omega), q 4 (by omega), q 5 (by omega), q 6 (by omega)⟩
/-- Offers that were let by, up to the last number. -/
structure OkTo (l : List Of) (last : Int) : Prop where
  rise : l.Pairwise fun x y => x.se < y.se
  ok : ∀ x ∈ l, x.may ∧ 1 ≤ x.se ∧ x.se ≤ last
  last : (l = [] ∧ last = 0) ∨ ∃ x ∈ l, x.se = last
theorem OkTo.nil : OkTo [] 0 := ⟨List.Pairwise.nil, by simp, .inl ⟨rfl, rfl⟩⟩
theorem OkTo.nonneg {l : List Of} {last : Int} (h : OkTo l last) : 0 ≤ last := by
  rcases h.last with ⟨_, h⟩ | ⟨x, hx, h⟩
  · omega
  · have := (h ▸ (‹OkTo l last›).ok x hx).2.1; omega
theorem OkTo.next {l : List Of} {last : Int} {k : Nat} (hk : k < l.length) (h : OkTo (l.take k) last) (hm : l[k].may) (hs : last < l[k].se) : OkTo (l.take (k + 1)) l[k].se := by
  have h0 := h.nonneg
  rw [List.take_succ_eq_append_getElem hk]
  refine ⟨?_, fun x hx => ?_, .inr ⟨l[k], List.mem_append_right _ (List.mem_singleton.2 rfl), rfl⟩⟩
  · rw [List.pairwise_append]
    refine ⟨h.rise, by simp, fun a ha b hb => ?_⟩
    rw [List.mem_singleton] at hb
    subst hb
    have := (h.ok a ha).2.2; omega
  · rcases List.mem_append.1 hx with hx | hx
    · obtain ⟨a, b, c⟩ := h.ok x hx
      exact ⟨a, b, by omega⟩
    · rw [List.mem_singleton] at hx
      subst hx
      exact ⟨hm, by omega, Int.le_refl _⟩
theorem OkTo.good {l : List Of} {last nx : Int} (h : OkTo l last) (hn : last < nx) : okO nx l ∧ nx ≠ 0 := by
  have := h.nonneg
  exact ⟨⟨h.rise, fun x hx => by obtain ⟨a, b, c⟩ := h.ok x hx; exact ⟨a, by omega, by omega⟩⟩, by omega⟩
theorem OkTo.bad {l : List Of} {last nx : Int} {k : Nat} (hk : k < l.length) (h : OkTo (l.take k) last) (h0 : 0 ≤ l[k].se) (hb : ¬ l[k].may ∨ l[k].se ≤ last) : ¬ (okO nx l ∧ nx ≠ 0) := by
  rintro ⟨⟨h1, h2⟩, _⟩
  obtain ⟨m, z, _⟩ := h2 _ (List.getElem_mem hk)
  rcases hb with hb | hb
  · exact hb m
  · rcases h.last with ⟨_, e⟩ | ⟨x, hx, e⟩
    · omega
    · obtain ⟨j, hj, rfl⟩ := List.mem_take_iff_getElem.1 hx
      have := List.pairwise_iff_getElem.1 h1 j k (by omega) hk (by omega)
      omega
theorem OkTo.late {l : List Of} {last nx : Int} (h : OkTo l last) (h0 : 0 ≤ nx) (hb : nx ≤ last) : ¬ (okO nx l ∧ nx ≠ 0) := by
  rintro ⟨⟨_, h2⟩, hz⟩
  rcases h.last with ⟨_, e⟩ | ⟨x, hx, e⟩
  · omega
  · have := (h2 x hx).2.2; omega
theorem okO.binv {l : List Of} {nx : Int} (h : okO nx l) (h0 : nx ≠ 0) (h1 : 0 ≤ nx) (h2 : nx ≤ 18446744073709551615) (hl : l.length ≤ 32) (hf : ∀ x ∈ l, x.Fits) : BInv l nx :=
  ⟨fun x hx => (h.2 x hx).1, h.1, fun x hx => by have := (h.2 x hx).2; have := (hf x hx).se; omega, hl, by omega, h2⟩
def POfPost (w : World) (l : List Of) (nx : Int) (e : Ending) (w' : World) : Prop :=
  Below w.heap.size w w' ∧ ((l.length ≤ 32 ∧ okO nx l ∧ nx ≠ 0 ∧ ∃ g vl, e = .returned (.tuple #[.pointer (some ⟨g, 0, none⟩), .int .i64 0]) ∧ PB w' w.heap.size g l nx vl) ∨
    (e = .returned (.tuple #[.pointer none, .int .i64 9]) ∧ 32 < l.length) ∨ (e = .returned (.tuple #[.pointer none, .int .i64 1]) ∧ l.length ≤ 32 ∧ ¬ (okO nx l ∧ nx ≠ 0)))
def POfAt (w : World) (l : List Of) (nx : Int) (s7 s18 : Value) (wr : World) : Prop :=
  ∃ (k : Nat) (last : Int) (vl : Value), k ≤ l.length ∧ s18 = .int .i64 k ∧ s7 = .int .u64 last ∧ OkTo (l.take k) last ∧ PB wr w.heap.size w.heap.size (l.take k) nx vl ∧ Below w.heap.size w wr
set_option maxHeartbeats 8000000 in
set_option maxRecDepth 100000 in
theorem pofB_any {w : World} {v : Value} {l : List Of} {nx : Int} (hp : Reads w v 7 l.length (ofCells l)) (hf : ∀ x ∈ l, x.Fits) (h0 : 0 ≤ nx) (h1 : nx ≤ 18446744073709551615) :
    Calls Try.prog 12 #[v, .int .u64 nx] w (POfPost w l nx) := by
  obtain ⟨ai, capi, hv, hn, hxl, hrd⟩ := hp
  subst hv
  have HR := Lib.hid hrd
  have HF := Lib.hid hf
  clear hxl hrd hf
  by_cases h32 : 32 < l.length
  · have q0 : decide (32 < (l.length : Int)) = true := by simp; omega
    have H32 := Lib.hid h32
    clear h32
    go_enter Try.func12, Try.ntmps12
    go_wp2_with fail
    refine bodyPost_ret (v := .tuple #[.pointer none, .int .i64 9]) (by simp [results, Try.results12, go_sem]) rfl ?_
    exact ⟨Below.refl _ _, .inr (.inl ⟨rfl, H32.out⟩)⟩
  have q0 : decide (32 < (l.length : Int)) = false := by simp; omega
  have h32 : l.length ≤ 32 := by omega
  have KG := Lib.hid (Blk.new w #[.slice none 0 0, .int .u64 nx] 63)
  have B0 := Lib.hid ((Below.refl w.heap.size w).alloc (Nat.le_refl _) (.cells #[.slice none 0 0, .int .u64 nx] 63))
  go_enter Try.func12, Try.ntmps12
  go_wp2_with fail
  go_loopw [7, 18] (POfAt w l nx) (fun _ i _ => l.length - (intOf i).toNat)
  case atStart => exact ⟨0, 0, .slice none 0 0, Nat.zero_le _, rfl, rfl, OkTo.nil, ⟨KG.out, Nat.le_refl _, World.ownsRow_nil _ _ _ _⟩, B0.out⟩
  case round =>
    obtain ⟨k, last, vl, hk, rfl, rfl, hO, hP, hb⟩ := hrel
    have hl0 := hO.nonneg
    by_cases hkl : k < l.length
    · obtain ⟨b, o, rfl, hbl, hcell⟩ := HR.out (by omega)
      obtain ⟨e0, e1, e2, e3, e4, e5, e6⟩ := of_cells_off (w := wr) (fun j hj => by rw [hb.cell (p := ⟨b, o + j, none⟩) hbl]; exact hcell j hj) hkl
      have hbl2 : b < wr.heap.size := Nat.lt_of_lt_of_le hbl hb.size
      have hx := HF.out _ (List.getElem_mem hkl)
      have BD := Lib.hid (fun h => OkTo.bad (nx := nx) hkl hO hx.se.1 h)
      have NX := Lib.hid (fun h1 h2 => OkTo.next hkl hO h1 h2)
      have TK := Lib.hid (List.take_succ_eq_append_getElem hkl)
      have hlk : (l.take k).length ≤ 32 := Nat.le_trans (List.length_take_le _ _) (by omega)
      have HX := Lib.hid hx
      clear hcell hx hO
      generalize l[k] = x at *
      generalize l.take k = out at *
      have bw := (Below.refl wr.heap.size wr).alloc (Nat.le_refl _) (.cells #[.int .u64 x.se, .int .u8 x.ow, .int .u8 x.sl, .int .u8 x.bu, .int .i64 x.lf, .int .i64 x.nu, .int .i64 x.de] 39)
      have K0 := Lib.hid (Blk.new wr #[.int .u64 x.se, .int .u8 x.ow, .int .u8 x.sl, .int .u8 x.bu, .int .i64 x.lf, .int .i64 x.nu, .int .i64 x.de] 39)
      have HP0 := Lib.hid (hP.below bw)
      have HNF := Lib.hid (show ¬ Foot w.heap.size vl wr.heap.size from fun h => by have := (hP.lt h).2; omega)
      have HBW := Lib.hid (hb.trans (bw.mono hb.size))
      have CM := Lib.hid (pmay_any x (wr.alloc (.cells #[.int .u64 x.se, .int .u8 x.ow, .int .u8 x.sl, .int .u8 x.bu, .int .i64 x.lf, .int .i64 x.nu, .int .i64 x.de] 39)) HX.out)
      clear bw hP hb
      by_cases hm : x.may
      · rw [decide_eq_true hm] at CM
        by_cases hs : x.se ≤ last
        · have HBad := Lib.hid (BD.out (.inr hs))
          clear BD NX hm TK
          go_wp2_with fail
          refine CM.out.mono ?_
          rintro e w3 ⟨rfl, b3⟩
          have K3 := K0.out.below b3 K0.out.lt
          have d0 := K3.cell 0
          have dl := K3.lt
          simp at d0
          have HB3 := Lib.hid (HBW.out.trans (b3.mono HBW.out.size))
          clear b3 K3 CM
          go_wp2_with fail
          refine bodyPost_ret (v := .tuple #[.pointer none, .int .i64 1]) (by simp [results, Try.results12, go_sem]) rfl ?_
          exact ⟨HB3.out, .inr (.inr ⟨rfl, h32, HBad.out⟩)⟩
        have hs' : last < x.se := by omega
        have HN := Lib.hid (NX.out hm hs')
        clear BD NX hm hs
        go_wp2_with fail
        refine CM.out.mono ?_
        rintro e w3 ⟨rfl, b3⟩
        have HA4 := Lib.hid (K0.out.below b3 K0.out.lt)
        have HG4' := HP0.out.below b3
        have HB3 := Lib.hid (HBW.out.trans (b3.mono HBW.out.size))
        clear b3 CM HP0 HBW K0
        obtain ⟨ao, cap, hvl, hc1, hc2, _⟩ := owns_open HG4'.row
        subst hvl
        have HG4 := Lib.hid HG4'
        clear HG4'
        unfold maxLen at hc2
        have d0 := HA4.out.cell 0
        have dl := HA4.out.lt
        simp at d0
        go_wp2_with fail
        clear d0 dl
        have hgl := HG4.out.blk.lt
        have d0 := HG4.out.blk.cell 0
        simp at d0
        have hal := HA4.out.lt
        have a0 := HA4.out.cell 0; have a1 := HA4.out.cell 1; have a2 := HA4.out.cell 2; have a3 := HA4.out.cell 3; have a4 := HA4.out.cell 4; have a5 := HA4.out.cell 5; have a6 := HA4.out.cell 6
        simp at a0 a1 a2 a3 a4 a5 a6
        have hbs := Nat.le_trans HG4.out.ge (Nat.le_of_lt hgl)
        go_region_law (refine step_append_off rfl (.tmp 35) (.tmp 37) 61 rfl w.heap.size 75 Try.underlying61 rfl info_poff (.slice ao out.length cap) out rfl (owns_below HG4.out.row ((Below.refl _ _).drew.alloc (Nat.le_refl _) _)) w3.heap.size 1 x rfl (Blk.new w3.drew _ _) (by omega) (by simp; omega) ?_; intro v' w' ho hgr hat; have HAP := Lib.hid (appended HG4.out ho hgr hat); have hB := HAP.out.1; have d1 := hB.cell 0; have f1 := hB.frozen 0; have l1 := hB.lt; simp at d1; obtain ⟨ao', cap', hv', _⟩ := owns_open ho; obtain ⟨ln, hln⟩ : ∃ ln, (out ++ [x]).length = ln := ⟨_, rfl⟩; rw [hln] at hv'; subst hv'; clear hln; clear ho hgr hat hB d0)
        all_goals
          have HE := Lib.hid HAP.out.2
          clear HAP d1 f1 l1
          have e3 := HE.out.2.2 HA4.out HNF.out
          have e4 := e3.cell 0
          have e5 := e3.lt
          simp at e4
          clear e3
          go_wp2_with fail
          go_roundw
          case rel => exact ⟨k + 1, x.se, _, by omega, by go_num, by first | rfl | go_num, HN.out, by rw [TK.out]; exact HE.out.1, HB3.out.trans (HE.out.2.1.1.below HB3.out.size (fun j hj hf => by have := (HG4.out.lt hf).1; omega))⟩
          case measure => simp [intOf]; omega
      · rw [decide_eq_false hm] at CM
        have HBad := Lib.hid (BD.out (.inl hm))
        clear BD NX hm TK
        go_wp2_with fail
        refine CM.out.mono ?_
        rintro e w3 ⟨rfl, b3⟩
        have HB3 := Lib.hid (HBW.out.trans (b3.mono HBW.out.size))
        clear b3 CM
        go_wp2_with fail
        refine bodyPost_ret (v := .tuple #[.pointer none, .int .i64 1]) (by simp [results, Try.results12, go_sem]) rfl ?_
        exact ⟨HB3.out, .inr (.inr ⟨rfl, h32, HBad.out⟩)⟩
    · have hke : l.take k = l := List.take_of_length_le (by omega)
      rw [hke] at hO hP
      by_cases hs : nx ≤ last
      · have HBad := Lib.hid (hO.late h0 hs)
        have HB := Lib.hid hb
        clear hO hP hb hke
        go_wp2_with fail
        refine bodyPost_ret (v := .tuple #[.pointer none, .int .i64 1]) (by simp [results, Try.results12, go_sem]) rfl ?_
        exact ⟨HB.out, .inr (.inr ⟨rfl, h32, HBad.out⟩)⟩
      · have HG := Lib.hid (hO.good (nx := nx) (by omega))
        have HB := Lib.hid hb
        have HP := Lib.hid hP
        clear hO hP hb hke
        go_wp2_with fail
        refine bodyPost_ret (v := .tuple #[.pointer (some ⟨w.heap.size, 0, none⟩), .int .i64 0]) (by simp [results, Try.results12, go_sem]) rfl ?_
        exact ⟨HB.out, .inl ⟨h32, HG.out.1, HG.out.2, w.heap.size, vl, rfl, HP.out⟩⟩

end Go.Proofs.Ytdbdeodcldogmaa
