/-
  The statements' own book: a page more.
-/
import Derived.Test.YtlcilpeljnoclaaBook2
namespace Go.Proofs.Ytlcilpeljnoclaa
open Go.RowKit
set_option linter.unusedSimpArgs false
set_option linter.unusedVariables false

def Pg.iface (p : Pg) : Value := .iface p.kind p.agg
/-- A book at block g, with these pages. -/
structure BookIs (w : World) (base g : Nat) (vp : Value) (ps : List Pg) : Prop where
  blk : Blk w g #[vp] 44
  ge : base ≤ g
  row : w.ownsRow base 93 1 vp ps.length (ps.map Pg.iface)
theorem number_any {w : World} {base g : Nat} {vp : Value} {ps : List Pg} (h : BookIs w base g vp ps) (hl : ps.length ≤ 1000) :
    Calls Try.prog 54 #[.pointer (some ⟨g, 0, none⟩)] w fun e w' => e = .returned (.int .i64 (ps.length + 1)) ∧ w' = w := by
  have d0 := h.blk.cell 0
  simp at d0
  obtain ⟨ao, cap, rfl, _⟩ := owns_open h.row
  have hlt := h.blk.lt
  clear h
  go_enter Try.func54, Try.ntmps54
  go_wp2
  go_ret
  exact ⟨rfl, rfl⟩
theorem info_page : (Try.prog.info? 93).map (fun i => (i.zero, i.size, i.bytes)) = some (some .nilIface, 1, 16) := by kernel_rfl
/-- A page more. -/
def Paged (base g : Nat) (vp : Value) (ps : List Pg) (p : Pg) (w : World) (e : Ending) (w' : World) : Prop :=
  e = .returned (.tuple #[]) ∧ ∃ vp', BookIs w' base g vp' (ps ++ [p]) ∧ Keep (fun k => k = g ∨ vp.ownBlock = some k) w w'
theorem paged_done {w w1 : World} {base g : Nat} {vp v : Value} {ps : List Pg} {p : Pg} (h : BookIs w base g vp ps) (hg : g < w.heap.size)
    (ho : w1.ownsRow base 93 1 v (ps ++ [p]).length ((ps ++ [p]).map Pg.iface)) (hgr : (w.alloc (.cells #[p.iface] 93)).grownBy w1 vp.ownBlock) :
    ∃ vp', BookIs (w1.setCell ⟨g, 0, none⟩ v) base g vp' (ps ++ [p]) ∧ Keep (fun k => k = g ∨ vp.ownBlock = some k) w (w1.setCell ⟨g, 0, none⟩ v) := by
  have hne := owns_ne h.row h.blk (by decide)
  have hb1 : Blk w1 g #[vp] 44 := (h.blk.alloc _).grown hgr (fun e => hne g e rfl)
  refine ⟨v, ⟨?_, h.ge, ?_⟩, ?_⟩
  · have := hb1.set 0 v
    simpa using this
  · exact owns_keep ho (Keep.setCell (S := (· = g)) (Keep.refl _ _) (p := ⟨g, 0, none⟩) (.inl rfl) v) (owns_ne ho hb1 (by decide))
  · refine Keep.setCell (p := ⟨g, 0, none⟩) ?_ (.inl (.inl rfl)) v
    exact Keep.grown (Keep.alloc (Keep.refl _ w) _) hgr (fun k hk => .inl (.inr hk))
set_option maxHeartbeats 4000000 in
theorem parties_any {w : World} {base g : Nat} {vp : Value} {ps : List Pg} (h : BookIs w base g vp ps) (hl : ps.length ≤ 100) (ao : Option Addr) (n c : Nat) :
    Calls Try.prog 26 #[.pointer (some ⟨g, 0, none⟩), .slice ao n c] w (Paged base g vp ps (Pg.party (.slice ao n c) n c ((ps.length : Int) + 1) (bits .xor .u8 ((ps.length : Int) + 1) 128)) w) := by
  have d0 := h.blk.cell 0
  simp at d0
  have H := Lib.hid h
  have cn := Lib.hid (number_any h (by omega))
  obtain ⟨ap, cap, hvp, _⟩ := owns_open h.row
  subst hvp
  have hlt := h.blk.lt
  have hne := Lib.hid (owns_ne h.row h.blk (by decide))
  clear h
  obtain ⟨i0, hi, hz0, hz1, hz2⟩ := info_parts info_page
  go_enter Try.func26, Try.ntmps26
  go_wp2_with fail
  refine cn.out.mono ?_
  rintro e w ⟨rfl, rfl⟩
  go_wp2_with (at_builtin; refine wpList_append_own _ rfl (.tmp 12) (.tmp 19) 42 rfl base 93 i0 .nilIface 1 16 Try.underlying42 hi hz0 hz1 hz2 rfl (by decide) _ _ _ rfl (H.out.row.alloc _) ⟨w.heap.size, 0, none⟩ 1 1 [(Pg.party (.slice ao n c) n c ((ps.length : Int) + 1) (bits .xor .u8 ((ps.length : Int) + 1) 128)).iface] rfl rfl ?_ ?_ (by unfold maxLen; omega) (by omega) (by have := H.out.ge; simp; omega) ?_)
  · intro j u hj
    rw [Go.WideShapes.add_plain]
    match j, hj with
    | 0, hj =>
      simp at hj; subst hj
      rw [Nat.zero_add]
      exact (Blk.new w #[(Pg.party (.slice ao n c) n c ((ps.length : Int) + 1) (bits .xor .u8 ((ps.length : Int) + 1) 128)).iface] 93).cell 0
    | j + 1, hj => simp at hj
  · intro u hu
    simp at hu
    subst hu; rfl
  · intro v' w1 hown hgr _
    have HO : Hid (w1.ownsRow base 93 1 v' (ps ++ [Pg.party (.slice ao n c) n c ((ps.length : Int) + 1) (bits .xor .u8 ((ps.length : Int) + 1) 128)]).length ((ps ++ [Pg.party (.slice ao n c) n c ((ps.length : Int) + 1) (bits .xor .u8 ((ps.length : Int) + 1) 128)]).map Pg.iface)) := Lib.hid (by simpa using hown)
    have HGR : Hid ((w.alloc (.cells #[(Pg.party (.slice ao n c) n c ((ps.length : Int) + 1) (bits .xor .u8 ((ps.length : Int) + 1) 128)).iface] 93)).grownBy w1 (Value.slice ap ps.length cap).ownBlock) := hgr
    have hb1 := (H.out.blk.alloc (.cells #[(Pg.party (.slice ao n c) n c ((ps.length : Int) + 1) (bits .xor .u8 ((ps.length : Int) + 1) 128)).iface] 93)).grown hgr (fun e => hne.out g e rfl)
    have d1 := hb1.cell 0
    simp at d1
    have hf1 := hb1.frozen
    have hlt1 := hb1.lt
    clear hown hgr hb1 d0
    obtain ⟨a3, c3, hv3, _⟩ := owns_open HO.out
    subst hv3
    go_wp2_with fail
    go_end0
    have fin := paged_done H.out hlt HO.out HGR.out
    simp only [List.length_append, List.length_singleton] at fin
    exact ⟨rfl, fin⟩
set_option maxHeartbeats 4000000 in
theorem lines_any {w : World} {base g : Nat} {vp : Value} {ps : List Pg} (h : BookIs w base g vp ps) (hl : ps.length ≤ 100) (ao : Option Addr) (n c : Nat) :
    Calls Try.prog 28 #[.pointer (some ⟨g, 0, none⟩), .slice ao n c] w (Paged base g vp ps (Pg.line (.slice ao n c) n c ⟨0, 0, 0, (ps.length : Int) + 1, 0⟩ ⟨0, 0, 0, 0, (ps.length : Int) + 1⟩) w) := by
  have d0 := h.blk.cell 0
  simp at d0
  have H := Lib.hid h
  have cn := Lib.hid (number_any h (by omega))
  obtain ⟨ap, cap, hvp, _⟩ := owns_open h.row
  subst hvp
  have hlt := h.blk.lt
  have hne := Lib.hid (owns_ne h.row h.blk (by decide))
  clear h
  obtain ⟨i0, hi, hz0, hz1, hz2⟩ := info_parts info_page
  go_enter Try.func28, Try.ntmps28
  go_wp2_with fail
  refine cn.out.mono ?_
  rintro e w ⟨rfl, rfl⟩
  go_wp2_with (at_builtin; refine wpList_append_own _ rfl (.tmp 11) (.tmp 19) 42 rfl base 93 i0 .nilIface 1 16 Try.underlying42 hi hz0 hz1 hz2 rfl (by decide) _ _ _ rfl (H.out.row.alloc _) ⟨w.heap.size, 0, none⟩ 1 1 [(Pg.line (.slice ao n c) n c ⟨0, 0, 0, (ps.length : Int) + 1, 0⟩ ⟨0, 0, 0, 0, (ps.length : Int) + 1⟩).iface] rfl rfl ?_ ?_ (by unfold maxLen; omega) (by omega) (by have := H.out.ge; simp; omega) ?_)
  · intro j u hj
    rw [Go.WideShapes.add_plain]
    match j, hj with
    | 0, hj =>
      simp at hj; subst hj
      rw [Nat.zero_add]
      exact (Blk.new w #[(Pg.line (.slice ao n c) n c ⟨0, 0, 0, (ps.length : Int) + 1, 0⟩ ⟨0, 0, 0, 0, (ps.length : Int) + 1⟩).iface] 93).cell 0
    | j + 1, hj => simp at hj
  · intro u hu
    simp at hu
    subst hu; rfl
  · intro v' w1 hown hgr _
    have HO : Hid (w1.ownsRow base 93 1 v' (ps ++ [Pg.line (.slice ao n c) n c ⟨0, 0, 0, (ps.length : Int) + 1, 0⟩ ⟨0, 0, 0, 0, (ps.length : Int) + 1⟩]).length ((ps ++ [Pg.line (.slice ao n c) n c ⟨0, 0, 0, (ps.length : Int) + 1, 0⟩ ⟨0, 0, 0, 0, (ps.length : Int) + 1⟩]).map Pg.iface)) := Lib.hid (by simpa using hown)
    have HGR : Hid ((w.alloc (.cells #[(Pg.line (.slice ao n c) n c ⟨0, 0, 0, (ps.length : Int) + 1, 0⟩ ⟨0, 0, 0, 0, (ps.length : Int) + 1⟩).iface] 93)).grownBy w1 (Value.slice ap ps.length cap).ownBlock) := hgr
    have hb1 := (H.out.blk.alloc (.cells #[(Pg.line (.slice ao n c) n c ⟨0, 0, 0, (ps.length : Int) + 1, 0⟩ ⟨0, 0, 0, 0, (ps.length : Int) + 1⟩).iface] 93)).grown hgr (fun e => hne.out g e rfl)
    have d1 := hb1.cell 0
    simp at d1
    have hf1 := hb1.frozen
    have hlt1 := hb1.lt
    clear hown hgr hb1 d0
    obtain ⟨a3, c3, hv3, _⟩ := owns_open HO.out
    subst hv3
    go_wp2_with fail
    go_end0
    have fin := paged_done H.out hlt HO.out HGR.out
    simp only [List.length_append, List.length_singleton] at fin
    exact ⟨rfl, fin⟩

end Go.Proofs.Ytlcilpeljnoclaa
