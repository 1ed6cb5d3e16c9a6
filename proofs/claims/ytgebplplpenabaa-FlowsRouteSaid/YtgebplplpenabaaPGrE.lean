/-
  The program's graphs: Edges.
-/
import Derived.Test.YtgebplplpenabaaPGr
import Derived.Test.YtgebplplpenabaaSame
namespace Go.Proofs.Ytgebplplpenabaa
open Go.RowKit
set_option linter.unusedSimpArgs false
set_option linter.unusedVariables false

theorem clipF_any {w : World} {base : Nat} {v : Value} {n : Nat} {xs : List Value} (h : w.ownsRow base 52 3 v n xs) :
    Calls Try.prog 25 #[v] w (ClipPost w base 52 3 n v xs) := by
  rcases h.2 with ⟨rfl, h0⟩ | ⟨g, cap, cur, rfl, hbase, hb, h1, h2, h3, h4⟩
  · subst h0
    have hr := run_slice_clip_none (P := Try.prog) w 22 52 3 Try.underlying22 (Try.sizeOf52 w)
    have hx := h.1
    have hx2 := Lib.hid hx
    clear h hx
    go_enter Try.func25, Try.ntmps25
    go_wp2
    refine bodyPost_ret (v := .slice none 0 0) (by simp [results, Try.results25, go_sem]) rfl ?_
    exact ⟨_, rfl, ⟨hx2.out, .inl ⟨rfl, rfl⟩⟩, rfl, rfl⟩
  · have hr := run_slice_clip (P := Try.prog) w 22 52 3 Try.underlying22 (Try.sizeOf52 w) g n cap h1
    have HR := Lib.hid (show Rowed w base 52 3 (.slice (some ⟨g, 0, none⟩) n n) n xs from ⟨h.1, .inr ⟨g, cur, rfl, hbase, hb, by omega, by omega, h4⟩⟩)
    clear h hb h4 h3
    unfold maxLen at h2
    go_enter Try.func25, Try.ntmps25
    go_wp2
    refine bodyPost_ret (v := .slice (some ⟨g, 0, none⟩) n n) (by simp [results, Try.results25, go_sem]) rfl ?_
    exact ⟨_, rfl, HR.out, rfl, rfl⟩

/-- Which edge, of those of parties alone, stands at row p, column q. -/
def mE (p q : Nat) : Nat := if p = 0 then 0 else (p - 1) * 16 + (q - 1)
theorem mE_next (p : Nat) : mE (p + 1) 0 = mE p 17 := by
  unfold mE
  by_cases h : p = 0
  · subst h; rfl
  · rw [if_neg (by omega), if_neg h]; omega
theorem mE_end : mE 17 0 = 256 := rfl
theorem edges_next {f : Int → Int → Int} (ho : outF f) {p q : Nat} (hp : p < 17) (hq : q < 17) : prefE f (mE p (q + 1)) = prefE f (mE p q) ++ (if 0 < f p q then [(⟨(p : Int), (q : Int), f p q⟩ : Fw)] else []) := by
  by_cases h0 : p = 0
  · subst h0
    have : f ((0 : Nat) : Int) (q : Int) = 0 := ho _ _ (fun e => by have := e.1.1; omega)
    rw [this]
    simp [mE]
  · by_cases h1 : q = 0
    · subst h1
      have : f (p : Int) ((0 : Nat) : Int) = 0 := ho _ _ (fun e => by have := e.2.1; omega)
      rw [this]
      simp [mE]
    · have e1 : mE p (q + 1) = mE p q + 1 := by unfold mE; rw [if_neg h0, if_neg h0]; omega
      have e2 : edgeAt f (mE p q) = ⟨(p : Int), (q : Int), f p q⟩ := by
        unfold mE
        rw [if_neg h0, edge_at f (by omega), show ((p - 1 : Nat) : Int) + 1 = p by omega, show ((q - 1 : Nat) : Int) + 1 = q by omega]
      rw [e1, prefE_succ, e2]
theorem idx_row (f : Int → Int → Int) {p : Nat} (hp : p < 17) (w : World) : (Instr.index 58 (.agg (capA f)) (.int .i64 p)).run Try.prog w = .ok (.agg (rowA (fun a b => .int .i64 (f a b)) p)) w := by
  rw [run_index_row 58 49 17 17 Try.underlying58 (fun w => by kernel_rfl) (fun w => by kernel_rfl) (capA f) p hp w]
  unfold capA
  rw [gridA_row _ hp]
theorem idx_cell (f : Int → Int → Int) (p : Nat) {q : Nat} (hq : q < 17) (w : World) : (Instr.index 49 (.agg (rowA (fun a b => .int .i64 (f a b)) p)) (.int .i64 q)).run Try.prog w = .ok (.int .i64 (f p q)) w :=
  run_index_cell 49 2 17 Try.underlying49 (fun w => by kernel_rfl) (fun w => by kernel_rfl) _ q hq _ (rowA_get _ _ hq) w
theorem rowA_one (v : Int → Int → Value) (p : Int) (h : ∀ p q, (v p q).oneCell' = true) : (rowA v p).all (·.oneCell') = true := by
  unfold rowA
  rw [Array.all_eq_true]
  intro i hi
  simp only [Array.getElem_ofFn]
  exact h _ _
theorem info_row (v : Int → Int → Value) (p : Int) : (Try.prog.info? 49).map (·.size) = some (rowA v p).size := by rw [rowA_size]; exact zero_row.2
def EdgesAt (w : World) (f : Int → Int → Int) (v i : Value) (wr : World) : Prop :=
  ∃ p : Nat, p ≤ 17 ∧ i = .int .i64 p ∧ wr.ownsRow w.heap.size 52 3 v (prefE f (mE p 0)).length (fwCells (prefE f (mE p 0))) ∧ Below w.heap.size w wr
def EdgesIn (w : World) (f : Int → Int → Int) (p : Nat) (v i : Value) (wr : World) : Prop :=
  ∃ q : Nat, q ≤ 17 ∧ i = .int .i64 q ∧ wr.ownsRow w.heap.size 52 3 v (prefE f (mE p q)).length (fwCells (prefE f (mE p q))) ∧ Below w.heap.size w wr
theorem prefE_le (f : Int → Int → Int) {p q : Nat} (hp : p ≤ 17) (hq : q ≤ 17) : (prefE f (mE p q)).length ≤ 300 := by
  refine Nat.le_trans (prefE_len _ _) ?_
  unfold mE
  split
  · omega
  · omega
set_option maxHeartbeats 8000000 in
set_option maxRecDepth 100000 in
theorem gedges_any {w : World} {v : Value} {f : Int → Int → Int} (h : IsG w v f) (ho : outF f) :
    Calls Try.prog 14 #[v] w (ListPost w 52 3 (allE f).length (fwCells (allE f))) := by
  have C := Lib.hid (gall_any h)
  have HO := Lib.hid ho
  have hz := zero_row.1
  clear h ho
  go_enter Try.func14, Try.ntmps14
  go_wp2_with fail
  refine C.out.mono ?_
  rintro e w1 ⟨rfl, b1⟩
  have B1 := Lib.hid b1
  clear b1 C
  go_wp2_with fail
  go_loopw [3, 10] (EdgesAt w f) (fun _ i _ => 17 - (intOf i).toNat)
  case atStart => exact ⟨0, by omega, rfl, World.ownsRow_nil _ _ _ _, B1.out⟩
  case round =>
    obtain ⟨p, hp, rfl, hown, hb⟩ := hrel
    have O1 := Lib.hid hown
    have BB := Lib.hid hb
    clear hown hb
    by_cases hp2 : p < 17
    · have K := Lib.hid (Blk.new wr (rowA (fun _ _ => .int .i64 0) 0) 49)
      have E1 := World.setRow_alloc_new wr (rowA (fun _ _ => .int .i64 0) 0) (rowA (fun a b => .int .i64 (f a b)) p) 49
      have B2 := Lib.hid (BB.out.alloc BB.out.size (.cells (rowA (fun a b => .int .i64 (f a b)) p) 49))
      have K2 := Lib.hid (Blk.new wr (rowA (fun a b => .int .i64 (f a b)) p) 49)
      have O2 := Lib.hid (O1.out.alloc (.cells (rowA (fun a b => .int .i64 (f a b)) p) 49))
      go_wp2_with first
        | ((with_reducible refine wpList_index_of ?_ 58 (.tmp 9) (.tmp 10) ?_ (.agg (capA f)) (.int .i64 p) _ ?_ ?_ (idx_row f hp2 _) ?_); exact rfl; exact rfl; exact rfl; exact rfl)
        | ((with_reducible refine wpList_store_row ?_ 49 (.tmp 5) (.tmp 13) ?_ wr.heap.size (rowA (fun a b => .int .i64 (f a b)) p) ?_ ?_ 49 _ K.out.out (info_row _ _) (by simp only [rowA_size]) (rowA_one _ _ (fun _ _ => rfl)) ?_); exact rfl; exact rfl; exact rfl; exact rfl; rw [E1])
        | ((with_reducible refine wpList_load_row ?_ 49 (.tmp 5) ?_ wr.heap.size ?_ 49 (rowA (fun a b => .int .i64 (f a b)) p) (0, 0) _ K2.out.out Try.underlying49 ?_ (info_row _ _) ?_); exact rfl; exact rfl; exact rfl; exact rfl)
      go_loopw [3, 15] (EdgesIn w f p) (fun _ i _ => 17 - (intOf i).toNat)
      case atStart => exact ⟨0, by omega, rfl, O2.out, B2.out⟩
      case round =>
        obtain ⟨q, hq, rfl, hown, hb⟩ := hrel
        by_cases hq2 : q < 17
        · have NX := Lib.hid (edges_next HO.out hp2 hq2)
          have hl2 := prefE_le f (p := p) (q := q) (by omega) hq
          generalize prefE f (mE p q) = out at *
          have IC := Lib.hid (fun w => idx_cell f p hq2 w)
          obtain ⟨y, hy⟩ : ∃ y, f p q = y := ⟨_, rfl⟩
          rw [hy] at NX IC
          clear hy
          have O4 := Lib.hid hown
          have B4 := Lib.hid hb
          have hwy : w.heap.size ≤ wr.heap.size := hb.size
          clear hown hb
          by_cases hpos : 0 < y
          · rw [if_pos hpos] at NX
            have q3 : decide (0 < y) = true := by simpa using hpos
            clear hpos
            go_wp2_with first
              | ((with_reducible refine wpList_index_of ?_ 49 (.tmp 14) (.tmp 15) ?_ (.agg (rowA (fun a b => .int .i64 (f a b)) p)) (.int .i64 q) _ ?_ ?_ (IC.out _) ?_); exact rfl; exact rfl; exact rfl; exact rfl)
              | (at_builtin; refine wpList_append_fw _ rfl (.tmp 21) (.tmp 28) rfl w.heap.size _ out rfl (O4.out.alloc _) _ _ (⟨(p : Int), (q : Int), y⟩ : Fw) rfl (Blk.new _ _ _) (by omega) (by simp; omega) ?_)
            intro v3 w3 hown3 hgr3
            have R2 : ∀ k, Value.ownBlock _ = some k → w.heap.size ≤ k := fun k hk => (owns_type O4.out hk).1
            have B3 := Lib.hid ((B4.out.alloc B4.out.size _).grown hgr3 (by simp; have := B4.out.size; omega) (fun k hk => R2 k hk))
            have O3 := Lib.hid (show w3.ownsRow w.heap.size 52 3 v3 (out ++ [(⟨(p : Int), (q : Int), y⟩ : Fw)]).length (fwCells (out ++ [(⟨(p : Int), (q : Int), y⟩ : Fw)])) by simpa using hown3)
            clear R2 hown3 hgr3 q3
            go_wp2_with fail
            go_roundw
            case rel => exact ⟨q + 1, by omega, by go_num, by rw [NX.out]; exact O3.out, B3.out⟩
            case measure => simp [intOf]; omega
          · rw [if_neg hpos, List.append_nil] at NX
            have q3 : decide (0 < y) = false := by simpa using hpos
            clear hpos
            go_wp2_with ((with_reducible refine wpList_index_of ?_ 49 (.tmp 14) (.tmp 15) ?_ (.agg (rowA (fun a b => .int .i64 (f a b)) p)) (.int .i64 q) _ ?_ ?_ (IC.out _) ?_); exact rfl; exact rfl; exact rfl; exact rfl)
            go_roundw
            case rel => exact ⟨q + 1, by omega, by go_num, by rw [NX.out]; exact O4.out, B4.out⟩
            case measure => simp [intOf]; omega
        · have hq17 : q = 17 := by omega
          subst hq17
          have O4 := Lib.hid hown
          have B4 := Lib.hid hb
          clear hown hb
          go_wp2_with fail
          go_roundw
          case rel => exact ⟨p + 1, by omega, by go_num, by rw [mE_next]; exact O4.out, B4.out⟩
          case measure => simp [intOf]; omega
    · have hp17 : p = 17 := by omega
      subst hp17
      have CC := Lib.hid (clipF_any (show wr.ownsRow w.heap.size 52 3 _ (allE f).length (fwCells (allE f)) from O1.out))
      go_wp2_with fail
      refine CC.out.mono ?_
      rintro e w3 ⟨v', rfl, hrow, _, rfl⟩
      have HRow := Lib.hid hrow
      clear hrow CC
      go_wp2_with fail
      refine bodyPost_ret (v := v') (by simp [results, Try.results14, go_sem]) rfl ?_
      exact ⟨v', rfl, HRow.out, BB.out⟩

end Go.Proofs.Ytgebplplpenabaa
