/-
  Package flows: ways, and what it calls yield with: the shortest ways, one behind the other.
-/
import Derived.Test.YtgebplplpenabaaRounds
import Derived.Test.YtgebplplpenabaaPRoom
import Derived.Shelf.Abstract
import Derived.WalkKit
import Derived.OwnWalkIn
import Derived.TacticsInMore
import Derived.LoopNIn
import Derived.LoopIn
namespace Go.Proofs.Ytgebplplpenabaa
open Go.RowKit
set_option linter.unusedSimpArgs false
set_option linter.unusedVariables false
attribute [local go_sem] Oper.semAt_some

open Classical in
/-- The least number below n that p holds of (n, if none). -/
noncomputable def lst (p : Nat → Prop) : Nat → Nat
  | 0 => 0
  | n + 1 => if p 0 then 0 else lst (fun i => p (i + 1)) n + 1
theorem lst_spec : ∀ {n : Nat} {p : Nat → Prop} {k : Nat}, p k → k ≤ n → lst p n ≤ k ∧ p (lst p n)
  | 0, p, k, h, hk => by
    have : k = 0 := by omega
    subst this
    exact ⟨Nat.le_refl _, h⟩
  | n + 1, p, k, h, hk => by
    unfold lst
    by_cases h0 : p 0
    · rw [if_pos h0]
      exact ⟨Nat.zero_le _, h0⟩
    · rw [if_neg h0]
      match k, h with
      | 0, h => exact absurd h h0
      | k + 1, h =>
        obtain ⟨h1, h2⟩ := lst_spec (n := n) (p := fun i => p (i + 1)) (k := k) h (by omega)
        exact ⟨by omega, h2⟩

theorem ways_any (w : World) (p : Option Addr) (s t : Int) :
    Calls Try.prog 23 #[.pointer p, .int .u8 s, .int .u8 t] w fun e w' => e = .returned (.func (.func 35) #[] #[.pointer (some ⟨w.heap.size, 0, none⟩), .pointer (some ⟨w.heap.size + 1, 0, none⟩), .pointer (some ⟨w.heap.size + 1 + 1, 0, none⟩)]) ∧
      w' = ((w.alloc (.cells #[.pointer p] 27)).alloc (.cells #[.int .u8 s] 23)).alloc (.cells #[.int .u8 t] 23) := by
  go_enter Try.func23, Try.ntmps23
  go_wp2
  go_ret
  exact ⟨rfl, rfl⟩

/-- A way, in memory. -/
def WayY (s t : Int) (x : Nat × RS) (vs : Array Value) (W : World) : Prop :=
  ∃ bl cs m, vs = #[.slice (some ⟨bl, 0, none⟩) (m + 1) (m + 1)] ∧ Blk W bl cs 23 ∧ (∀ i, i ≤ m → cs[i]? = some (.int .u8 (wayX x.2.f s t i))) ∧ (shortW x.2.f s t).length = m + 1
theorem rowed_way {w : World} {base : Nat} {e : TypeId} {v : Value} {f : Int → Int → Int} {s t : Int} {m : Nat} (h : Rowed w base e 1 v (shortW f s t).length ((shortW f s t).map (.int .u8))) (hm : (shortW f s t).length = m + 1) :
    ∃ bl cs, v = .slice (some ⟨bl, 0, none⟩) (m + 1) (m + 1) ∧ Blk w bl cs e ∧ base ≤ bl ∧ ∀ i, i ≤ m → cs[i]? = some (.int .u8 (wayX f s t i)) := by
  obtain ⟨h1, ⟨_, h2⟩ | ⟨g, cs, hv, hb, hg, _, hc, ht⟩⟩ := h
  · omega
  · refine ⟨g, cs, by rw [hv, hm], hg, hb, fun i hi => ?_⟩
    have h3 : (cs.toList.take ((shortW f s t).length * 1))[i]? = ((shortW f s t).map (Value.int .u8))[i]? := by rw [ht]
    rw [List.getElem?_take_of_lt (by omega), Array.getElem?_toList, List.getElem?_map] at h3
    rw [h3, List.getElem?_eq_getElem (by omega)]
    simp [wayX, List.getElem?_eq_getElem (show i < (shortW f s t).length by omega)]

def WaysAt (J : (Nat × RS) → World → Prop) (u : Value) (wr : World) : Prop := ∃ x, J x wr
noncomputable def waysM (J : (Nat × RS) → World → Prop) (wr : World) : Nat := lst (fun k => ∃ x, J x wr ∧ k = 4114 - x.1) 5000
set_option maxHeartbeats 8000000 in
set_option maxRecDepth 100000 in
theorem ways_seq {I : (Nat × RS) → World → Prop} {b3 b4 b5 : Nat} {p : Option Addr} {f0 : Int → Int → Int} {s t want : Int} (hs : In8 s) (ht : In8 t)
    (hI : ∀ x W, I x W → IsM W (.pointer p) x.2.f ∧ RInv f0 4398046511104 s t want x.1 x.2 ∧ Blk W b3 #[.pointer p] 27 ∧ Blk W b4 #[.int .u8 s] 23 ∧ Blk W b5 #[.int .u8 t] 23) :
    SeqJ Try.prog 35 #[.pointer (some ⟨b3, 0, none⟩), .pointer (some ⟨b4, 0, none⟩), .pointer (some ⟨b5, 0, none⟩)] (fun x => shortW x.2.f s t = []) (WayY s t) (fun x x' => x'.1 = x.1 + 1) I := by
  intro n l J Jx hgrow hJI hY s0 W0 h0
  have GR := Lib.hid hgrow
  have JI := Lib.hid hJI
  have HY := Lib.hid hY
  have HI := Lib.hid hI
  have HS := Lib.hid hs
  have HT := Lib.hid ht
  clear hgrow hJI hY hI hs ht
  refine callsIn_of_wp Try.func35 rfl trivial ?_ rfl
  simp only [Try.ntmps35, List.size_toArray, List.length_cons, List.length_nil, Nat.reduceAdd, Nat.reduceSub, Array.replicate_succ, Array.replicate_zero, List.push_toArray, List.append_toArray, List.nil_append, List.cons_append]
  gi_wp2_with fail
  gi_loopw [5] (WaysAt J) (fun _ wr => waysM J wr)
  case atStart => exact ⟨s0, h0⟩
  case round =>
    have hm : ∃ x, J x wr ∧ waysM J wr = 4114 - x.1 := by
      obtain ⟨x, hx⟩ := hrel
      exact (lst_spec (p := fun k => ∃ x, J x wr ∧ k = 4114 - x.1) (k := 4114 - x.1) ⟨x, hx, rfl⟩ (by omega : 4114 - x.1 ≤ 5000)).2
    obtain ⟨x, hx, hmx⟩ := hm
    have HX := Lib.hid hx
    have HM := Lib.hid hmx
    obtain ⟨hv, hR, k3, k4, k5⟩ := HI.out x wr (JI.out x wr hx)
    have CS := Lib.hid (pshort_any hv.isG hR.g HS.out HT.out)
    have c3 := k3.cell 0
    have c4 := k4.cell 0
    have c5 := k5.cell 0
    simp at c3 c4 c5
    clear hx hmx hrel h0 hv hR k3 k4 k5
    gi_wp2_with fail
    refine ⟨trivial, (fun hh => (by cases hh)), (callsIn_wide.2 CS.out).mono ?_⟩
    rintro e w1 ⟨wv, rfl, hrow, hb⟩
    have J1 := Lib.hid (GR.out x wr w1 HX.out hb)
    clear c3 c4 c5 CS hb
    by_cases hL : shortW x.2.f s t = []
    · have HL := Lib.hid hL
      obtain ⟨ao, cap, rfl, _⟩ := hrow.look
      rw [hL]
      clear hL hrow
      gi_wp2_with fail
      refine ⟨fun _ h => (by cases h), ?_⟩
      gi_wp2_with fail
      refine bodyPost_ret (results_none rfl _ _ _) rfl ?_
      exact ⟨⟨_, rfl⟩, .inl ⟨x, HL.out, J1.out⟩⟩
    · obtain ⟨m, hm⟩ : ∃ m, (shortW x.2.f s t).length = m + 1 := by
        match h : shortW x.2.f s t with
        | [] => exact absurd h hL
        | a :: r => exact ⟨r.length, rfl⟩
      obtain ⟨bl, cs, rfl, hk, _, hcs⟩ := rowed_way hrow hm
      obtain ⟨fn, tmps, assign, body, hy, hR⟩ := HY.out (n - 1) x #[.slice (some ⟨bl, 0, none⟩) (m + 1) (m + 1)] w1 J1.out ⟨bl, cs, m, rfl, hk, hcs, hm⟩
      have RR := Lib.hid hR
      have q0 : (((m + 1 : Nat) : Int) == 0) = false := by simp; omega
      clear hL hm hrow hk hcs hR
      generalize m + 1 = N at *
      gi_wp2_with fail
      refine ⟨(fun hh => (by cases hh)), RR.out.mono ?_⟩
      rintro e W3 (⟨rfl, x', hn, hj⟩ | ⟨rfl, hjx⟩)
      · have J3 := Lib.hid hj
        have k5 := (HI.out x' W3 (JI.out x' W3 hj)).2.1.k5
        have hlt : waysM J W3 < waysM J wr := by
          have h1 := (lst_spec (n := 5000) (p := fun k => ∃ x, J x W3 ∧ k = 4114 - x.1) (k := 4114 - x'.1) ⟨x', hj, rfl⟩ (by omega)).1
          have h2 := HM.out
          show lst _ 5000 < _
          omega
        have HL := Lib.hid hlt
        clear hn hj k5 hlt
        gi_wp2_with fail
        go_roundw
        case rel => exact ⟨x', J3.out⟩
        case measure => exact HL.out
      · gi_wp2_with fail
        refine bodyPost_ret (results_none rfl _ _ _) rfl ?_
        exact ⟨⟨_, rfl⟩, .inr hjx⟩

end Go.Proofs.Ytgebplplpenabaa
