/-
  The program's books: All; slices.Clone, slices.Clip on offers.
-/
import Derived.Test.YtdbdeodcldogmaaPB4
import Derived.Test.YtdbdeodcldogmaaRowed
import Derived.Lib.SliceRun
namespace Go.Proofs.Ytdbdeodcldogmaa
open Go.RowKit
set_option linter.unusedSimpArgs false
set_option linter.unusedVariables false

def OwnPost (w : World) (e : TypeId) (l : List Of) (en : Ending) (w' : World) : Prop :=
  ∃ v', en = .returned v' ∧ w'.ownsRow w.heap.size e 7 v' l.length (ofCells l) ∧ Below w.heap.size w w'
set_option maxHeartbeats 2000000 in
set_option maxRecDepth 100000 in
theorem cloneO_any {w : World} {base : Nat} {v : Value} {l : List Of} (h : w.ownsRow base 75 7 v l.length (ofCells l)) (hl : l.length ≤ 1000) :
    Calls Try.prog 40 #[v] w (OwnPost w 75 l) := by
  have q22 : ∀ (w : World) (a : Option Addr) (n c n' c' : Nat), (binOp .eql 61 (.slice a n c) (.slice none n' c')).run Try.prog w = .ok (.bool a.isNone) w := fun w a n c n' c' => Lib.run_eql_slice_nil w _ _ a n c n' c' Try.underlying61
  rcases h.2 with ⟨rfl, h0⟩ | ⟨g, cap, cur, rfl, hbase, hb, h1, h2, h3, h4⟩
  · have hl0 := List.eq_nil_of_length_eq_zero h0
    subst hl0
    clear h h0
    go_enter Try.func40, Try.ntmps40
    go_wp2
    refine bodyPost_ret (v := .slice none 0 0) (by simp [results, Try.results40, go_sem]) rfl ?_
    exact ⟨_, rfl, World.ownsRow_nil _ _ _ _, Below.refl _ _⟩
  · obtain ⟨i0, hi1, hi2, hi3, hi4⟩ := info_parts info_poff
    have HC := Lib.hid (h.cells (g := g) rfl)
    have HL := Lib.hid hl
    have HX := Lib.hid h.1
    clear h hb h1 h2 h3 h4 hl
    go_enter Try.func40, Try.ntmps40
    go_wp2_with (at_builtin; refine wpList_append_own _ rfl _ _ 61 rfl w.heap.size 75 i0 zOff 7 40 Try.underlying61 hi1 hi2 hi3 hi4 rfl (by decide) _ _ _ rfl (World.ownsRow_made w #[] 0 (Nat.le_refl _) (Nat.zero_le _) (by simp)) ⟨g, 0, none⟩ l.length cap (ofCells l) rfl ?qc1 ?qc2 ?qc3 ?qc4 ?qc5 ?qc6 ?_)
    case qc1 => exact HX.out
    case qc2 =>
      intro j u hj
      exact Lib.cell?_alloc_some _ (HC.out j u hj)
    case qc3 => exact ofCells_oneCell l
    case qc4 => rw [Nat.zero_add]; have := HL.out; unfold maxLen; omega
    case qc5 => rw [Nat.zero_add]; have := HL.out; omega
    case qc6 => simp
    intro v' w1 hown hgrow hnil
    have HO := Lib.hid (show w1.ownsRow w.heap.size 75 7 v' l.length (ofCells l) by simpa using hown)
    have HB := Lib.hid (((Below.refl w.heap.size w).alloc (Nat.le_refl _) (.cells #[] 75)).grown hgrow (by simp) (by intro k hk; simp [Value.ownBlock] at hk; omega))
    clear hown hgrow hnil
    go_wp2
    refine bodyPost_ret (v := v') (by simp [results, Try.results40, go_sem]) rfl ?_
    exact ⟨v', rfl, HO.out, HB.out⟩
theorem clipO_any {w : World} {base : Nat} {v : Value} {n : Nat} {xs : List Value} (h : w.ownsRow base 39 7 v n xs) :
    Calls Try.prog 66 #[v] w (ClipPost w base 39 7 n v xs) := by
  rcases h.2 with ⟨rfl, h0⟩ | ⟨g, cap, cur, rfl, hbase, hb, h1, h2, h3, h4⟩
  · subst h0
    have hr := run_slice_clip_none (P := Try.prog) w 50 39 7 Try.underlying50 (Try.sizeOf39 w)
    have hx := h.1
    have hx2 := Lib.hid hx
    clear h hx
    go_enter Try.func66, Try.ntmps66
    go_wp2
    refine bodyPost_ret (v := .slice none 0 0) (by simp [results, Try.results66, go_sem]) rfl ?_
    exact ⟨_, rfl, ⟨hx2.out, .inl ⟨rfl, rfl⟩⟩, rfl, rfl⟩
  · have hr := run_slice_clip (P := Try.prog) w 50 39 7 Try.underlying50 (Try.sizeOf39 w) g n cap h1
    have HR := Lib.hid (show Rowed w base 39 7 (.slice (some ⟨g, 0, none⟩) n n) n xs from ⟨h.1, .inr ⟨g, cur, rfl, hbase, hb, by omega, by omega, h4⟩⟩)
    clear h hb h4 h3
    unfold maxLen at h2
    go_enter Try.func66, Try.ntmps66
    go_wp2
    refine bodyPost_ret (v := .slice (some ⟨g, 0, none⟩) n n) (by simp [results, Try.results66, go_sem]) rfl ?_
    exact ⟨_, rfl, HR.out, rfl, rfl⟩
def ToldAt (w : World) (l : List Of) (v i : Value) (wr : World) : Prop :=
  ∃ k : Nat, k ≤ l.length ∧ i = .int .i64 k ∧ wr.ownsRow w.heap.size 39 7 v (l.take k).length (ofCells (l.take k)) ∧ Below w.heap.size w wr
set_option maxHeartbeats 4000000 in
set_option maxRecDepth 100000 in
theorem told_any {w : World} {base : Nat} {v : Value} {l : List Of} (h : w.ownsRow base 75 7 v l.length (ofCells l)) (hl : l.length ≤ 1000) :
    Calls Try.prog 49 #[v] w (ListPost w 39 7 l.length (ofCells l)) := by
  obtain ⟨ao, cap, rfl, hc1, hc2, hc3, hc4⟩ := owns_open h
  have HC := Lib.hid hc4
  unfold maxLen at hc2
  clear hc3 hc4 h
  go_enter Try.func49, Try.ntmps49
  go_wp2_with fail
  go_loopw [3, 8] (ToldAt w l) (fun _ i _ => l.length - (intOf i).toNat)
  case atStart => exact ⟨0, Nat.zero_le _, rfl, World.ownsRow_nil _ _ _ _, Below.refl _ _⟩
  case round =>
    obtain ⟨k, hk, rfl, hown, hb⟩ := hrel
    by_cases hkl : k < l.length
    · obtain ⟨b, rfl, hb1, hb2, hcell, _⟩ := HC.out (by omega)
      obtain ⟨e0, e1, e2, e3, e4, e5, e6⟩ := of_cells (w := wr) (fun j hj => by rw [hb.cell (p := ⟨b, j, none⟩) hb2]; exact hcell j hj) hkl
      have NX := Lib.hid (List.take_succ_eq_append_getElem hkl)
      have hlk : (l.take k).length ≤ 1000 := Nat.le_trans (List.length_take_le _ _) (by omega)
      clear hcell
      generalize l[k] = y at *
      generalize l.take k = out at *
      have bw := (Below.refl wr.heap.size wr).alloc (Nat.le_refl _) (.cells #[.int .u64 y.se, .int .u8 y.ow, .int .u8 y.sl, .int .u8 y.bu, .int .i64 y.lf, .int .i64 y.nu, .int .i64 y.de] 75)
      have K0 := Lib.hid (Blk.new wr #[.int .u64 y.se, .int .u8 y.ow, .int .u8 y.sl, .int .u8 y.bu, .int .i64 y.lf, .int .i64 y.nu, .int .i64 y.de] 75)
      have OY := Lib.hid (owns_below hown bw)
      have BY := Lib.hid (hb.trans (bw.mono hb.size))
      have hl2 : out.length ≤ 100000 := by omega
      clear hown hb bw
      go_wp2_with (at_builtin; refine wpList_append_of _ rfl (.tmp 12) (.tmp 14) rfl w.heap.size _ out rfl (OY.out.alloc _) _ _ y rfl (Blk.newAt _ _ _ (by simp)) hl2 (by have := BY.out.size; simp at this ⊢; omega) ?_)
      intro v3 w3 hown3 hgr3
      have R2 : ∀ k, Value.ownBlock _ = some k → w.heap.size ≤ k := fun k hk => (owns_type OY.out hk).1
      have B3 := Lib.hid ((BY.out.alloc BY.out.size _).grown hgr3 (by have := BY.out.size; simp at this ⊢; omega) (fun k hk => R2 k hk))
      have O3 := Lib.hid (show w3.ownsRow w.heap.size 39 7 v3 (out ++ [y]).length (ofCells (out ++ [y])) by simpa using hown3)
      clear R2 hown3 hgr3
      go_wp2_with fail
      go_roundw
      case rel => exact ⟨k + 1, by omega, by go_num, by rw [NX.out]; exact O3.out, B3.out⟩
      case measure => simp [intOf]; omega
    · have hke : l.take k = l := List.take_of_length_le (by omega)
      rw [hke] at hown
      have CC := Lib.hid (clipO_any hown)
      have HB := Lib.hid hb
      clear hown hb hke
      go_wp2_with fail
      refine CC.out.mono ?_
      rintro e w3 ⟨v', rfl, hrow, _, rfl⟩
      have HRow := Lib.hid hrow
      clear hrow CC
      go_wp2_with fail
      refine bodyPost_ret (v := v') (by simp [results, Try.results49, go_sem]) rfl ?_
      exact ⟨v', rfl, HRow.out, HB.out⟩
theorem pall_of {w : World} {base : Nat} {pv v : Value} {l : List Of} (hc : Calls Try.prog 45 #[pv] w fun e w' => e = .returned v ∧ w = w') (h : w.ownsRow base 75 7 v l.length (ofCells l)) (hl : l.length ≤ 1000) :
    Calls Try.prog 29 #[pv] w (ListPost w 39 7 l.length (ofCells l)) := by
  have C1 := Lib.hid hc
  have C2 := Lib.hid (told_any h hl)
  clear hc h
  go_enter Try.func29, Try.ntmps29
  go_wp2_with fail
  refine C1.out.mono ?_
  rintro e w ⟨rfl, rfl⟩
  go_wp2_with fail
  refine C2.out.mono ?_
  rintro e w1 ⟨v', rfl, h1, b1⟩
  have H1 := Lib.hid (And.intro h1 b1)
  clear h1 b1
  go_wp2_with fail
  refine bodyPost_ret (v := v') (by simp [results, Try.results29, go_sem]) rfl ?_
  exact ⟨v', rfl, H1.out.1, H1.out.2⟩
theorem pall_nil (w : World) : Calls Try.prog 29 #[.pointer none] w (ListPost w 39 7 0 []) :=
  pall_of (l := []) (ball_nil w) (World.ownsRow_nil w 0 _ _) (by simp)
theorem pall_any {w : World} {base g : Nat} {l : List Of} {N : Int} {vl : Value} (h : PB w base g l N vl) (hl : l.length ≤ 1000) :
    Calls Try.prog 29 #[.pointer (some ⟨g, 0, none⟩)] w (ListPost w 39 7 l.length (ofCells l)) := by
  obtain ⟨ao, cap, rfl, _⟩ := owns_open h.row
  exact pall_of (ball_any h.blk) h.row hl

end Go.Proofs.Ytdbdeodcldogmaa
