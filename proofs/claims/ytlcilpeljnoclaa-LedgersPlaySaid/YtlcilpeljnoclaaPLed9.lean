/-
  slices.Clip of rows; the program's ledgers: Lines, Parties.
-/
import Derived.Test.YtlcilpeljnoclaaSortL3
import Derived.Test.YtlcilpeljnoclaaSame
namespace Go.Proofs.Ytlcilpeljnoclaa
open Go.RowKit
set_option linter.unusedSimpArgs false
set_option linter.unusedVariables false

/-- A slice of a call's own, of just its length. -/
def Rowed (w : World) (base : Nat) (e : TypeId) (size : Nat) (v : Value) (n : Nat) (xs : List Value) : Prop :=
  xs.length = n * size ∧ ((v = .slice none 0 0 ∧ n = 0) ∨ ∃ g cur, v = .slice (some ⟨g, 0, none⟩) n n ∧ base ≤ g ∧ w.heap[g]? = some (.cells cur e (0, 0)) ∧ n ≤ maxLen ∧ n * size ≤ cur.size ∧ cur.toList.take (n * size) = xs)
theorem Rowed.keep {S : Nat → Prop} {w w' : World} {base : Nat} {e : TypeId} {size : Nat} {v : Value} {n : Nat} {xs : List Value} (h : Rowed w base e size v n xs) (k : Keep S w w') (hs : ∀ b, v.ownBlock = some b → ¬ S b) : Rowed w' base e size v n xs := by
  obtain ⟨h1, h2⟩ := h
  refine ⟨h1, ?_⟩
  rcases h2 with h2 | ⟨g, cur, rfl, hb, hg, hr⟩
  · exact .inl h2
  · refine .inr ⟨g, cur, rfl, hb, ?_, hr⟩
    rw [k.block g (lt_of_block hg) (hs g rfl)]
    exact hg
theorem Rowed.below {w w' : World} {base : Nat} {e : TypeId} {size : Nat} {v : Value} {n : Nat} {xs : List Value} (h : Rowed w base e size v n xs) (k : Below w.heap.size w w') : Rowed w' base e size v n xs :=
  h.keep (Keep.of_below (S := fun _ => False) k) (fun _ _ => id)
theorem Rowed.base {w : World} {base b' : Nat} {e : TypeId} {size : Nat} {v : Value} {n : Nat} {xs : List Value} (h : Rowed w base e size v n xs) (hb : b' ≤ base) : Rowed w b' e size v n xs := by
  obtain ⟨h1, h2⟩ := h
  refine ⟨h1, ?_⟩
  rcases h2 with h2 | ⟨g, cur, hv, hg, hr⟩
  · exact .inl h2
  · exact .inr ⟨g, cur, hv, Nat.le_trans hb hg, hr⟩
theorem Rowed.type {w : World} {base : Nat} {e : TypeId} {size : Nat} {v : Value} {n : Nat} {xs : List Value} (h : Rowed w base e size v n xs) {b : Nat} (hb : v.ownBlock = some b) : base ≤ b ∧ b < w.heap.size ∧ ∃ cur, w.heap[b]? = some (.cells cur e (0, 0)) := by
  obtain ⟨_, h2⟩ := h
  rcases h2 with ⟨rfl, _⟩ | ⟨g, cur, rfl, hge, hg, _⟩
  · cases hb
  · cases hb; exact ⟨hge, lt_of_block hg, cur, hg⟩
theorem Rowed.reads {w : World} {base : Nat} {e : TypeId} {size : Nat} {v : Value} {n : Nat} {xs : List Value} (h : Rowed w base e size v n xs) (hn : n ≤ 100000000) : Reads w v size n xs := by
  obtain ⟨h1, h2⟩ := h
  rcases h2 with ⟨rfl, rfl⟩ | ⟨g, cur, rfl, _, hg, _, hc, ht⟩
  · exact ⟨none, 0, rfl, by omega, h1, fun h => by omega⟩
  · refine ⟨_, n, rfl, hn, h1, fun hp => ⟨g, 0, rfl, lt_of_block hg, fun j hj => ?_⟩⟩
    rw [Nat.zero_add]
    show w.cell? ⟨g, j, none⟩ = _
    simp only [World.cell?, hg, Option.isSome_none, Bool.false_eq_true, if_false]
    rw [← ht, List.getElem?_take_of_lt hj, Array.getElem?_toList]
def ClipPost (w : World) (base : Nat) (e : TypeId) (size n : Nat) (v : Value) (xs : List Value) (en : Ending) (w' : World) : Prop :=
  ∃ v', en = .returned v' ∧ Rowed w' base e size v' n xs ∧ v'.ownBlock = v.ownBlock ∧ w' = w

theorem clipL_any {w : World} {base : Nat} {v : Value} {n : Nat} {xs : List Value} (h : w.ownsRow base 35 5 v n xs) :
    Calls Try.prog 58 #[v] w (ClipPost w base 35 5 n v xs) := by
  rcases h.2 with ⟨rfl, h0⟩ | ⟨g, cap, cur, rfl, hbase, hb, h1, h2, h3, h4⟩
  · subst h0
    have hr := run_slice_clip_none (P := Try.prog) w 49 35 5 Try.underlying49 (Try.sizeOf35 w)
    have hx := h.1
    have hx2 := Lib.hid hx
    clear h hx
    go_enter Try.func58, Try.ntmps58
    go_wp2
    refine bodyPost_ret (v := .slice none 0 0) (by simp [results, Try.results58, go_sem]) rfl ?_
    exact ⟨_, rfl, ⟨hx2.out, .inl ⟨rfl, rfl⟩⟩, rfl, rfl⟩
  · have hr := run_slice_clip (P := Try.prog) w 49 35 5 Try.underlying49 (Try.sizeOf35 w) g n cap h1
    have HR := Lib.hid (show Rowed w base 35 5 (.slice (some ⟨g, 0, none⟩) n n) n xs from ⟨h.1, .inr ⟨g, cur, rfl, hbase, hb, by omega, by omega, h4⟩⟩)
    clear h hb h4 h3
    unfold maxLen at h2
    go_enter Try.func58, Try.ntmps58
    go_wp2
    refine bodyPost_ret (v := .slice (some ⟨g, 0, none⟩) n n) (by simp [results, Try.results58, go_sem]) rfl ?_
    exact ⟨_, rfl, HR.out, rfl, rfl⟩
theorem clipP_any {w : World} {base : Nat} {v : Value} {n : Nat} {xs : List Value} (h : w.ownsRow base 28 1 v n xs) :
    Calls Try.prog 55 #[v] w (ClipPost w base 28 1 n v xs) := by
  rcases h.2 with ⟨rfl, h0⟩ | ⟨g, cap, cur, rfl, hbase, hb, h1, h2, h3, h4⟩
  · subst h0
    have hr := run_slice_clip_none (P := Try.prog) w 46 28 1 Try.underlying46 (Try.sizeOf28 w)
    have hx2 := Lib.hid h.1
    clear h
    go_enter Try.func55, Try.ntmps55
    go_wp2
    refine bodyPost_ret (v := .slice none 0 0) (by simp [results, Try.results55, go_sem]) rfl ?_
    exact ⟨_, rfl, ⟨hx2.out, .inl ⟨rfl, rfl⟩⟩, rfl, rfl⟩
  · have hr := run_slice_clip (P := Try.prog) w 46 28 1 Try.underlying46 (Try.sizeOf28 w) g n cap h1
    have HR := Lib.hid (show Rowed w base 28 1 (.slice (some ⟨g, 0, none⟩) n n) n xs from ⟨h.1, .inr ⟨g, cur, rfl, hbase, hb, by omega, by omega, h4⟩⟩)
    clear h hb h4 h3
    unfold maxLen at h2
    go_enter Try.func55, Try.ntmps55
    go_wp2
    refine bodyPost_ret (v := .slice (some ⟨g, 0, none⟩) n n) (by simp [results, Try.results55, go_sem]) rfl ?_
    exact ⟨_, rfl, HR.out, rfl, rfl⟩

/-- A list that a ledger tells. -/
def ListPost (w : World) (e : TypeId) (size n : Nat) (xs : List Value) (en : Ending) (w' : World) : Prop :=
  ∃ v', en = .returned v' ∧ Rowed w' w.heap.size e size v' n xs ∧ Below w.heap.size w w'

def LinesAt (w : World) (M : Nat) (ls : List Ln) (s : Value) (wr : World) : Prop :=
  ∃ done, RangeIs wr M w.heap.size ls done ∧ wr.ownsRow (w.heap.size + 1) 35 5 s done.length (lnCells done) ∧ Below w.heap.size w wr
set_option maxHeartbeats 4000000 in
set_option maxRecDepth 100000 in
theorem plines_any {w : World} {G M : Nat} {ps : List Int} {ls : List Ln} (h : LedM w G M ps ls) (hI : LInv ps ls) :
    Calls Try.prog 29 #[.pointer (some ⟨G, 0, none⟩)] w (ListPost w 35 5 ls.length (lnCells ls)) := by
  have C1 := Lib.hid (all_any h.blk)
  have HM := Lib.hid h.map
  have HI := Lib.hid hI
  clear h hI
  go_enter Try.func29, Try.ntmps29
  go_wp2_with fail
  refine C1.out.mono ?_
  rintro e w ⟨rfl, rfl⟩
  have hMlt := HM.out.lt
  go_wp2_with (first | (at_range; refine wpList_range_lines rfl _ rfl M ls rfl HM.out ?_; intro w0 hr0 hb0) | go_in)
  go_frame
  go_loopw [3] (LinesAt w M ls) (fun _ wr => leftN wr M w.heap.size)
  case atStart => exact ⟨[], hr0, World.ownsRow_nil _ _ _ _, hb0⟩
  case round =>
    obtain ⟨done, hR, hown, hB⟩ := hrel
    have hlen := hR.len
    have hleft := hR.left
    have hl64 := HI.out.len
    have HR := Lib.hid hR
    have HB := Lib.hid hB
    have HO := Lib.hid hown
    clear hR hB hown
    go_wp2_with (first | (at_next; refine wpList_next_lines rfl _ rfl M w.heap.size ls done rfl HR.out ?_ ?_) | go_in)
    · intro hd
      have CS := Lib.hid (sortL_any HI.out.inv hd HI.out.len HO.out)
      clear hd
      go_wp2_with fail
      refine CS.out.mono ?_
      rintro e w2 ⟨rfl, ho2, hk2⟩
      have hB2 := Lib.hid (HB.out.trans (hk2.below HB.out.size (fun k hk he => by have := (owns_type HO.out he).1; omega)))
      have CC := Lib.hid (clipL_any ho2)
      clear ho2 hk2 CS
      go_wp2_with fail
      refine CC.out.mono ?_
      rintro e w3 ⟨v', rfl, hrow, _, rfl⟩
      have HRow := Lib.hid hrow
      clear hrow CC
      go_wp2_with fail
      refine bodyPost_ret (v := v') (by simp [results, Try.results29, go_sem]) rfl ?_
      exact ⟨v', rfl, HRow.out.base (Nat.le_succ _), hB2.out⟩
    · intro x w1 hx hR1 hT hen
      have hb1 := HB.out.trans (hT.below (Nat.le_refl _))
      have hO1 := owns_keep HO.out hT.keep (fun b hb e => by have := (owns_type HO.out hb).1; omega)
      have hb2 := ((Below.refl w1.heap.size w1).alloc (Nat.le_refl _) (.cells #[.int .u8 x.cr, .int .u8 x.de, .int .u8 x.cu] 77)).alloc (by simp) (.cells #[.int .i64 x.li, .int .i64 x.db] 79)
      have CP := Lib.hid (fun w => pline_any x w)
      have HR1 := Lib.hid hR1
      have HB1 := Lib.hid hb1
      have HO1 := Lib.hid hO1
      have HB2 := Lib.hid hb2
      clear hx hR1 hT hb1 hO1 hb2
      go_wp2_with fail
      refine (CP.out _).mono ?_
      rintro e w3 ⟨rfl, hb3⟩
      have HB3 := Lib.hid (HB2.out.trans (hb3.mono HB2.out.size))
      have HO3 := Lib.hid (owns_below HO1.out HB3.out)
      have HR3 := Lib.hid (HR1.out.below HB3.out)
      have hz3 := Nat.lt_of_lt_of_le HR1.out.lt HB3.out.size
      clear hb3 hen
      go_wp2_with (at_builtin; refine wpList_append_line _ rfl (.tmp 14) (.tmp 18) rfl (w.heap.size + 1) _ done rfl (HO3.out.alloc _) _ _ x rfl (Blk.new _ _ _) (by omega) (by simp; omega) ?_)
      intro v4 w4 hown4 hgr4
      have R2 : ∀ k, Value.ownBlock _ = some k → w.heap.size + 1 ≤ k := fun k hk => (owns_type HO3.out hk).1
      have K4 := Lib.hid (((Keep.of_below (S := fun b => w.heap.size + 1 ≤ b) (Below.refl w3.heap.size w3)).alloc (.cells #[.int .u8 x.cr, .int .u8 x.de, .int .u8 x.cu, .int .i64 x.li, .int .i64 x.db] 35)).grown hgr4 (fun k hk => .inl (R2 k hk)))
      have O4 := Lib.hid (show w4.ownsRow (w.heap.size + 1) 35 5 v4 (done ++ [x]).length (lnCells (done ++ [x])) by simpa using hown4)
      have HR4 := Lib.hid (HR3.out.keep K4.out (by omega) (by omega))
      have HB4 := Lib.hid ((HB1.out.trans (HB3.out.mono HB1.out.size)).trans (K4.out.below (B := w.heap.size) (by omega) (fun k hk he => by omega)))
      have hleft4 := HR4.out.left
      rw [List.length_append, List.length_singleton] at hleft4
      clear R2 hown4 hgr4 hz3
      go_wp2_with fail
      go_roundw
      case rel => exact ⟨done ++ [x], HR4.out, O4.out, HB4.out⟩
      case measure => omega

end Go.Proofs.Ytlcilpeljnoclaa
