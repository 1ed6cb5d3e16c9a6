/-
  The statements' own 'twin', 'same', 'left' on lists of int64.
-/
import Derived.Test.YtonbinbjddameaaRef01h
import Derived.OwnWalk
namespace Go.Proofs.Ytonbinbjddameaa
open Go.RowKit
set_option linter.unusedSimpArgs false
set_option linter.unusedVariables false

def SameAt (zs : List Int) (w : World) (i : Value) (wr : World) : Prop := ∃ k : Nat, k ≤ zs.length ∧ i = .int .i64 k ∧ Below w.heap.size w wr
set_option maxHeartbeats 1000000 in
theorem same_any (a b : Option Addr) (ca cb : Nat) (zs : List Int) (w : World) (hl : zs.length ≤ 140737488355328) (ha : Lst .i64 w a ca zs) (hb : Lst .i64 w b cb zs) :
    Calls Try.prog 35 #[.slice a zs.length ca, .slice b zs.length cb] w fun e w' => e = .returned (.bool true) ∧ Below w.heap.size w w' := by
  have HA := Lib.hid ha; have HB := Lib.hid hb
  clear ha hb
  go_enter Try.func35, Try.ntmps35
  go_wp2
  go_loopw [5] (SameAt zs w) (fun i _ => zs.length - (intOf i).toNat)
  case atStart => exact ⟨0, Nat.zero_le _, rfl, Below.refl _ _⟩
  case round =>
    obtain ⟨k, hk, rfl, hb⟩ := hrel
    by_cases hkl : k < zs.length
    · obtain ⟨b1, o1, e1, hlt1, hc1⟩ := HA.out.at hkl
      obtain ⟨b2, o2, e2, hlt2, hc2⟩ := HB.out.at hkl
      subst e1; subst e2
      have c1 : wr.cell? ⟨b1, o1 + k, none⟩ = some (.int .i64 zs[k]) := by rw [hb.cell (p := ⟨b1, o1 + k, none⟩) hlt1]; exact hc1 k hkl
      have c2 : wr.cell? ⟨b2, o2 + k, none⟩ = some (.int .i64 zs[k]) := by rw [hb.cell (p := ⟨b2, o2 + k, none⟩) hlt2]; exact hc2 k hkl
      clear hc1 hc2
      generalize zs[k] = z at *
      go_wp2
      go_region
      all_goals
        go_wp2
        go_roundw
        case rel => exact ⟨k + 1, by omega, by go_num, by first | exact hb.drew | exact hb⟩
        case measure => simp [intOf]; omega
    · go_wp2
      go_ret
      exact ⟨rfl, hb⟩

theorem Lst.src {k : IntKind} {w : World} {a : Option Addr} {cap : Nat} {zs : List Int} (h : Lst k w a cap zs) : ∀ ad, a = some ad → ∀ j u, (zs.map (Value.int k))[j]? = some u → w.cell? (ad.add j) = some u := by
  rintro ad rfl j u hu
  rw [List.getElem?_map] at hu
  obtain ⟨z, hz, rfl⟩ := Option.map_eq_some_iff.1 hu
  obtain ⟨hj, rfl⟩ := List.getElem?_eq_some_iff.1 hz
  obtain ⟨b, off, e, _, hc⟩ := h.at hj
  cases e
  rw [Go.WideShapes.add_plain]
  exact hc j hj
theorem Lst.ofNone {k : IntKind} {w : World} {a : Option Addr} {cap : Nat} {zs : List Int} (h : Lst k w a cap zs) : a = none → zs.length = 0 ∧ cap = 0 := by
  rintro rfl
  rcases h with ⟨rfl, h⟩ | ⟨b, off, h, _⟩
  · exact ⟨rfl, h rfl⟩
  · cases h

theorem info_int64 : (Try.prog.info? 2).map (fun i => (i.zero, i.size, i.bytes)) = some (some (.int .i64 0), 1, 8) := by kernel_rfl
/-- What a twin is. -/
def TwinAt (w : World) (mark : Int) (zs : List Int) (e : Ending) (w' : World) : Prop :=
  ∃ g, e = .returned (.slice (some ⟨g, 0, none⟩) zs.length (zs.length + 2)) ∧ w.heap.size ≤ g ∧ g < w'.heap.size ∧ (∀ i (h : i < (zs ++ [mark, mark]).length), w'.cell? ⟨g, i, none⟩ = some (.int .i64 (zs ++ [mark, mark])[i])) ∧ Below w.heap.size w w'
set_option maxHeartbeats 1000000 in
theorem twin_any (a : Option Addr) (cap : Nat) (zs : List Int) (mark : Int) (w : World) (hl : zs.length ≤ 1000000) (ha : Lst .i64 w a cap zs) :
    Calls Try.prog 16 #[.slice a zs.length cap, .int .i64 mark] w (TwinAt w mark zs) := by
  obtain ⟨i0, hi, hz0, hz1, hz2⟩ := info_parts info_int64
  have HA := Lib.hid ha
  clear ha
  go_enter Try.func16, Try.ntmps16
  go_wp2_with (at_make; refine wpList_make_own _ rfl _ _ 28 rfl w.heap.size 2 i0 (.int .i64 0) 1 Try.underlying28 hi hz0 hz1 _ _ _ (zs.length + 2) rfl rfl (by first | omega | go_num | (simp; omega)) (by rw [hz2]; omega) (by unfold maxLen; omega) (Nat.le_refl _) ?_)
  intro w1 hown1 hgrow1
  have b1 := (Below.refl w.heap.size w).grown hgrow1 (Nat.le_refl _) (fun k h => by cases h)
  have HA1 := Lib.hid (HA.out.below b1)
  go_wp2_with (at_builtin; refine wpList_append_fits_any _ rfl (.tmp 10) (.tmp 11) 28 rfl w.heap.size 2 i0 1 Try.underlying28 hi hz1 w.heap.size 0 (zs.length + 2) _ rfl hown1 _ _ _ (zs.map (Value.int .i64)) rfl (by simp) HA1.out.ofNone HA1.out.src (ints_oneCell _ _) (by omega) ?_)
  intro w2 hown2 hgrow2
  have b2 := b1.grown hgrow2 b1.size (fun k h => by cases h; exact Nat.le_refl _)
  go_wp2_with (at_builtin; refine wpList_append_fits _ rfl (.tmp 13) (.tmp 16) 28 rfl w.heap.size 2 i0 1 Try.underlying28 hi hz1 w.heap.size zs.length (zs.length + 2) _ rfl (hown2.alloc _) ⟨w2.heap.size, 0, none⟩ 2 2 [.int .i64 mark, .int .i64 mark] rfl rfl (by intro j u hj; match j, hj with | 0, hj => (simp at hj; subst hj; simp [Addr.add]) | 1, hj => (simp at hj; subst hj; simp [Addr.add])) (ints_oneCell .i64 [mark, mark]) (by omega) ?_)
  intro w3 hown3 hgrow3
  have b3 : Below w.heap.size w w3 := (b2.alloc b2.size _).grown hgrow3 (by simp; have := b2.size; omega) (fun k h => by cases h; exact Nat.le_refl _)
  go_wp2
  go_ret
  have hc := hown3.cells rfl
  have hlt := (hown3.lt _ rfl).2
  refine ⟨w.heap.size, rfl, Nat.le_refl _, hlt, fun i h => ?_, b3⟩
  have := hc i (.int .i64 (zs ++ [mark, mark])[i]) (by
    have e : List.map (Value.int .i64) zs ++ [.int .i64 mark, .int .i64 mark] = List.map (Value.int .i64) (zs ++ [mark, mark]) := by simp
    rw [e, List.getElem?_map, List.getElem?_eq_getElem h]; rfl)
  simpa [Go.WideShapes.add_plain] using this

theorem Lst.of_twin {k : IntKind} {w : World} {g c : Nat} {zs ms : List Int} (hlt : g < w.heap.size) (hc : ∀ i (h : i < (zs ++ ms).length), w.cell? ⟨g, i, none⟩ = some (.int k (zs ++ ms)[i])) : Lst k w (some ⟨g, 0, none⟩) c zs := by
  by_cases h : zs = []
  · exact .inl ⟨h, fun h => by cases h⟩
  · refine .inr ⟨g, 0, rfl, h, hlt, fun i hi => ?_⟩
    rw [Nat.zero_add, hc i (by simp; omega), List.getElem_append_left hi]
set_option maxHeartbeats 1000000 in
theorem left_any (g : Nat) (a : Option Addr) (cap : Nat) (zs : List Int) (mark : Int) (w : World) (hl : zs.length ≤ 1000000) (ha : Lst .i64 w a cap zs) (hlt : g < w.heap.size)
    (hc : ∀ i (h : i < (zs ++ [mark, mark]).length), w.cell? ⟨g, i, none⟩ = some (.int .i64 (zs ++ [mark, mark])[i])) :
    Calls Try.prog 19 #[.slice (some ⟨g, 0, none⟩) zs.length (zs.length + 2), .slice a zs.length cap, .int .i64 mark] w fun e w' => e = .returned (.bool true) ∧ Below w.heap.size w w' := by
  have hs := Lib.hid (same_any (some ⟨g, 0, none⟩) a (zs.length + 2) cap zs w (by omega) (Lst.of_twin hlt hc) ha)
  have m1 := hc zs.length (by simp)
  have m2 := hc (zs.length + 1) (by simp)
  rw [List.getElem_append_right (by omega)] at m1 m2
  simp at m1 m2
  clear hc ha
  go_enter Try.func19, Try.ntmps19
  go_wp2_with fail
  refine hs.out.mono ?_
  rintro e w1 ⟨rfl, b1⟩
  have n1 : w1.cell? ⟨g, zs.length, none⟩ = some (.int .i64 mark) := by rw [b1.cell (p := ⟨g, zs.length, none⟩) hlt]; exact m1
  have n2 : w1.cell? ⟨g, zs.length + 1, none⟩ = some (.int .i64 mark) := by rw [b1.cell (p := ⟨g, zs.length + 1, none⟩) hlt]; exact m2
  go_wp2
  go_ret
  exact ⟨rfl, b1⟩

end Go.Proofs.Ytonbinbjddameaa
