/-
  The statements' own book: do its pages stand apart?
-/
import Derived.Test.YtlcilpeljnoclaaBook3
namespace Go.Proofs.Ytlcilpeljnoclaa
open Go.RowKit
set_option linter.unusedSimpArgs false
set_option linter.unusedVariables false

/-- No two pages share a block. -/
def Apartly (ps : List Pg) : Prop := ∀ (i j : Nat) (p q : Pg) (b : Nat), ps[i]? = some p → ps[j]? = some q → p.own b → q.own b → i = j
def Pg.any (ps : List Pg) (b : Nat) : Prop := ∃ p ∈ ps, p.own b
/-- A book whose first f pages are written, and behind the first b of them too. -/
structure Pages (w : World) (base g : Nat) (vp : Value) (ps : List Pg) (f b : Nat) (wr : World) : Prop where
  book : BookIs wr base g vp ps
  keep : Keep (Pg.any ps) w wr
  page : ∀ j p, ps[j]? = some p → ∃ cs, p.Mem wr cs ∧ (j < f → p.Front cs) ∧ (j < b → p.Back cs)
theorem Pg.elem_ne (p : Pg) : p.elem ≠ 93 ∧ p.elem ≠ 44 := by
  cases p
  · exact ⟨show 28 ≠ 93 by decide, show 28 ≠ 44 by decide⟩
  · exact ⟨show 35 ≠ 93 by decide, show 35 ≠ 44 by decide⟩
theorem BookIs.keep {w1 w2 : World} {base g : Nat} {vp : Value} {ps : List Pg} {p : Pg} {cs : Array Value} (h : BookIs w1 base g vp ps) (hm : p.Mem w1 cs) (hk : Keep p.own w1 w2) : BookIs w2 base g vp ps := by
  refine ⟨h.blk.keep hk fun hg => ?_, h.ge, owns_keep h.row hk fun b hv hb => ?_⟩
  · obtain ⟨_, cur, hc⟩ := hm.own hg
    have := h.blk.out
    rw [hc] at this
    simp at this
    exact p.elem_ne.2 this.2
  · obtain ⟨_, cur, hc⟩ := hm.own hb
    obtain ⟨_, _, cur', hc'⟩ := owns_type h.row hv
    rw [hc] at hc'
    simp at hc'
    exact p.elem_ne.1 hc'.2
theorem Pages.step {w w1 w2 : World} {base g : Nat} {vp : Value} {ps : List Pg} {f b f' b' k : Nat} {p : Pg} (h : Pages w base g vp ps f b w1) (ha : Apartly ps) (hp : ps[k]? = some p) (hk : Keep p.own w1 w2)
    (hm : ∃ cs', p.Mem w2 cs' ∧ (k < f' → p.Front cs') ∧ (k < b' → p.Back cs')) (hf : ∀ j, j ≠ k → j < f' → j < f) (hb : ∀ j, j ≠ k → j < b' → j < b) : Pages w base g vp ps f' b' w2 := by
  obtain ⟨cs, m0, _, _⟩ := h.page k p hp
  refine ⟨h.book.keep m0 hk, h.keep.trans (hk.mono fun x _ hx => ⟨p, List.mem_of_getElem? hp, hx⟩), fun j q hq => ?_⟩
  · by_cases hj : j = k
    · subst hj
      rw [hp] at hq; cases hq
      exact hm
    · obtain ⟨cs, m, f1, b1⟩ := h.page j q hq
      exact ⟨cs, m.keep hk (fun x hx hpx => hj (ha j k q p x hq hp hx hpx)), fun h1 => f1 (hf j hj h1), fun h1 => b1 (hb j hj h1)⟩
theorem Pages.wrote {w w1 w2 : World} {base g : Nat} {vp : Value} {ps : List Pg} {k : Nat} {p : Pg} {e : Ending} (h : Pages w base g vp ps k 0 w1) (ha : Apartly ps) (hp : ps[k]? = some p) (hw : Wrote w1 p e w2) : Pages w base g vp ps (k + 1) 0 w2 := by
  obtain ⟨_, cs', m, f, kp⟩ := hw
  exact h.step ha hp kp ⟨cs', m, fun _ => f, fun h => absurd h (by omega)⟩ (fun j h1 h2 => by omega) (fun j h1 h2 => by omega)
theorem Pages.wroteBehind {w w1 w2 : World} {base g : Nat} {vp : Value} {ps : List Pg} {k : Nat} {p : Pg} {e : Ending} (h : Pages w base g vp ps ps.length k w1) (ha : Apartly ps) (hp : ps[k]? = some p) (hw : WroteBehind w1 p e w2) : Pages w base g vp ps ps.length (k + 1) w2 := by
  obtain ⟨_, cs', m, f, b, kp⟩ := hw
  exact h.step ha hp kp ⟨cs', m, fun _ => f, fun _ => b⟩ (fun j h1 h2 => h2) (fun j h1 h2 => by omega)
theorem Pages.below {w w1 w2 : World} {base g : Nat} {vp : Value} {ps : List Pg} {f b : Nat} (h : Pages w base g vp ps f b w1) (hk : Below w1.heap.size w1 w2) : Pages w base g vp ps f b w2 := by
  have kk : Keep (fun _ => False) w1 w2 := Keep.of_below hk
  refine ⟨⟨h.book.blk.keep kk id, h.book.ge, owns_below h.book.row hk⟩, h.keep.trans (Keep.of_below hk), fun j p hp => ?_⟩
  obtain ⟨cs, m, f1, b1⟩ := h.page j p hp
  exact ⟨cs, m.keep kk (fun _ _ => id), f1, b1⟩
theorem Pages.read {w wr : World} {base g f b cap : Nat} {ao : Option Addr} {ps : List Pg} (h : Pages w base g (.slice ao ps.length cap) ps f b wr) {k : Nat} (hk : k < ps.length) :
    ∃ z p, ps[k]? = some p ∧ ao = some ⟨z, 0, none⟩ ∧ wr.cell? ⟨z, k, none⟩ = some (.iface p.kind p.agg) ∧ wr.frozen? ⟨z, k, none⟩ = false ∧ z < wr.heap.size := by
  obtain ⟨ao', cap', hv, _, _, _, hr⟩ := owns_open h.book.row
  cases hv
  obtain ⟨z, hz, _, hlt, hc, hfr⟩ := hr (by omega)
  refine ⟨z, ps[k], List.getElem?_eq_getElem hk, hz, ?_, hfr k, hlt⟩
  rw [hc k (by omega), List.getElem?_map, List.getElem?_eq_getElem hk]
  rfl
theorem method_write (p : Pg) (n : Nat) (w : World) : (method (n + 1) p.kind p.agg "countinghouse/countinghouselaw01.write").run Try.prog w = .ok (p.writeF, p.agg) w := by
  cases p <;> kernel_rfl
theorem method_behind (p : Pg) (n : Nat) (w : World) : (method (n + 1) p.kind p.agg "countinghouse/countinghouselaw01.writeBehind").run Try.prog w = .ok (p.behindF, p.agg) w := by
  cases p <;> kernel_rfl
theorem method_stands (p : Pg) (n : Nat) (w : World) : (method (n + 1) p.kind p.agg "countinghouse/countinghouselaw01.stands").run Try.prog w = .ok (p.standsF, p.agg) w := by
  cases p <;> kernel_rfl
theorem enter_write (p : Pg) (w : World) : (callFunc p.writeF #[p.agg]).run Try.prog w = .ok (.enter p.writeF #[p.agg]) w := by
  cases p <;> kernel_rfl
theorem enter_behind (p : Pg) (w : World) : (callFunc p.behindF #[p.agg]).run Try.prog w = .ok (.enter p.behindF #[p.agg]) w := by
  cases p <;> kernel_rfl
theorem enter_stands (p : Pg) (w : World) : (callFunc p.standsF #[p.agg]).run Try.prog w = .ok (.enter p.standsF #[p.agg]) w := by
  cases p <;> kernel_rfl
/-- At the head of a loop over the pages. -/
def PagesAt (w : World) (base g : Nat) (vp : Value) (ps : List Pg) (f b : Nat → Nat) (i : Value) (wr : World) : Prop :=
  ∃ k : Nat, k ≤ ps.length ∧ i = .int .i64 k ∧ Pages w base g vp ps (f k) (b k) wr
set_option maxHeartbeats 4000000 in
theorem apart_any {w : World} {base g : Nat} {vp : Value} {ps : List Pg} (h : BookIs w base g vp ps) (hl : ps.length ≤ 120) (hm : ∀ p ∈ ps, ∃ cs, p.Mem w cs) (ha : Apartly ps) :
    Calls Try.prog 30 #[.pointer (some ⟨g, 0, none⟩)] w fun e w' => e = .returned (.bool true) ∧ Keep (Pg.any ps) w w' := by
  obtain ⟨ao, cap, rfl, hcap, hmax, _, _⟩ := owns_open h.row
  have d0 := h.blk.cell 0
  simp at d0
  have hg := h.blk.lt
  have P0 : Hid (Pages w base g (.slice ao ps.length cap) ps 0 0 w) := Lib.hid ⟨h, Keep.refl _ w, fun j p hp => by
    obtain ⟨cs, m⟩ := hm p (List.mem_of_getElem? hp)
    exact ⟨cs, m, fun h => absurd h (by omega), fun h => absurd h (by omega)⟩⟩
  have HA := Lib.hid ha
  have MW := method_write
  have MB := method_behind
  have MS := method_stands
  have EW := enter_write
  have EB := enter_behind
  have ES := enter_stands
  clear h hm ha
  unfold maxLen at hmax
  go_enter Try.func30, Try.ntmps30
  go_wp2
  go_loopw [3] (PagesAt w base g (.slice ao ps.length cap) ps (fun k => k) (fun _ => 0)) (fun i _ => ps.length - (intOf i).toNat)
  case atStart => exact ⟨0, Nat.zero_le _, rfl, P0.out⟩
  case round =>
    obtain ⟨k, hk, rfl, hP⟩ := hrel
    have HP := Lib.hid hP
    have d0 := hP.book.blk.cell 0
    simp at d0
    by_cases hkl : k < ps.length
    · obtain ⟨z, p, hp, rfl, hcell, hf, hz⟩ := hP.read hkl
      obtain ⟨cs, m, _, _⟩ := hP.page k p hp
      have cw := Lib.hid (write_pg m)
      clear hP m
      go_wp2_with fail
      refine cw.out.mono ?_
      intro e w2 hw
      have N2 := Lib.hid (HP.out.wrote HA.out hp hw)
      obtain ⟨rfl, _⟩ := hw
      go_wp2
      go_roundw
      case rel => exact ⟨k + 1, by omega, by go_num, N2.out⟩
      case measure => simp [intOf]; omega
    · obtain rfl : k = ps.length := by omega
      clear hP
      go_wp2
      go_loopw [4] (PagesAt w base g (.slice ao ps.length cap) ps (fun _ => ps.length) (fun k => k)) (fun i _ => ps.length - (intOf i).toNat)
      case atStart => exact ⟨0, Nat.zero_le _, rfl, HP.out⟩
      case round =>
        obtain ⟨k, hk, rfl, hP⟩ := hrel
        have HP := Lib.hid hP
        have d0 := hP.book.blk.cell 0
        simp at d0
        by_cases hkl : k < ps.length
        · obtain ⟨z, p, hp, rfl, hcell, hf, hz⟩ := hP.read hkl
          obtain ⟨cs, m, f1, _⟩ := hP.page k p hp
          have cw := Lib.hid (behind_pg m (f1 hkl))
          clear hP m
          go_wp2_with fail
          refine cw.out.mono ?_
          intro e w2 hw
          have N2 := Lib.hid (HP.out.wroteBehind HA.out hp hw)
          obtain ⟨rfl, _⟩ := hw
          go_wp2
          go_roundw
          case rel => exact ⟨k + 1, by omega, by go_num, N2.out⟩
          case measure => simp [intOf]; omega
        · obtain rfl : k = ps.length := by omega
          clear hP
          go_wp2
          go_loopw [5] (PagesAt w base g (.slice ao ps.length cap) ps (fun _ => ps.length) (fun _ => ps.length)) (fun i _ => ps.length - (intOf i).toNat)
          case atStart => exact ⟨0, Nat.zero_le _, rfl, HP.out⟩
          case round =>
            obtain ⟨k, hk, rfl, hP⟩ := hrel
            have HP := Lib.hid hP
            have d0 := hP.book.blk.cell 0
            simp at d0
            by_cases hkl : k < ps.length
            · obtain ⟨z, p, hp, rfl, hcell, hf, hz⟩ := hP.read hkl
              obtain ⟨cs, m, f1, b1⟩ := hP.page k p hp
              have cw := Lib.hid (stands_pg m (f1 hkl) (b1 hkl))
              clear hP m
              go_wp2_with fail
              refine cw.out.mono ?_
              rintro e w2 ⟨rfl, hb⟩
              have N2 := Lib.hid (HP.out.below hb)
              clear hb
              go_wp2
              go_roundw
              case rel => exact ⟨k + 1, by omega, by go_num, N2.out⟩
              case measure => simp [intOf]; omega
            · obtain rfl : k = ps.length := by omega
              clear hP
              go_wp2
              go_ret
              exact ⟨rfl, HP.out.keep⟩

end Go.Proofs.Ytlcilpeljnoclaa
