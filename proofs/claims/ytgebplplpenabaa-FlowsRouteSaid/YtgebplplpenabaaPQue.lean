/-
  A row of parties that begins anywhere: 'row[1:]', and append onto it.
-/
import Derived.Test.YtgebplplpenabaaRef03d
import Derived.Deep.AppendSrc
namespace Go.Proofs.Ytgebplplpenabaa
open Go.RowKit
set_option linter.unusedSimpArgs false
set_option linter.unusedVariables false

/-- Parties, one behind the other, in a block of one's own, from any place of it on. -/
def Que (w : World) (base : Nat) (e : TypeId) (v : Value) (l : List Int) : Prop :=
  ∃ (g off cap : Nat) (cur : Array Value), v = .slice (some ⟨g, off, none⟩) l.length cap ∧ base ≤ g ∧ Blk w g cur e ∧ l.length ≤ cap ∧ cap ≤ maxLen ∧ off + cap ≤ cur.size ∧ ∀ j (hj : j < l.length), cur[off + j]? = some (.int .u8 l[j])
theorem Que.keep {S : Nat → Prop} {w w' : World} {base : Nat} {e : TypeId} {v : Value} {l : List Int} (h : Que w base e v l) (k : Keep S w w') (hs : ∀ b, v.ownBlock = some b → ¬ S b) : Que w' base e v l := by
  obtain ⟨g, off, cap, cur, rfl, hb, hg, hr⟩ := h
  exact ⟨g, off, cap, cur, rfl, hb, (k.block g hg.lt (hs g rfl)).trans hg, hr⟩
theorem Que.below {w w' : World} {base : Nat} {e : TypeId} {v : Value} {l : List Int} (h : Que w base e v l) (k : Below w.heap.size w w') : Que w' base e v l :=
  h.keep (Keep.of_below (S := fun _ => False) k) (fun _ _ => id)
theorem Que.alloc {w : World} {base : Nat} {e : TypeId} {v : Value} {l : List Int} (h : Que w base e v l) (o : Obj) : Que (w.alloc o) base e v l :=
  h.below ((Below.refl w.heap.size w).alloc (Nat.le_refl _) o)
theorem Que.type {w : World} {base : Nat} {e : TypeId} {v : Value} {l : List Int} (h : Que w base e v l) {b : Nat} (hb : v.ownBlock = some b) : base ≤ b ∧ b < w.heap.size ∧ ∃ cur, Blk w b cur e := by
  obtain ⟨g, off, cap, cur, rfl, hge, hg, _⟩ := h
  cases hb
  exact ⟨hge, hg.lt, cur, hg⟩
theorem Que.ne {w : World} {base : Nat} {e : TypeId} {v : Value} {l : List Int} (h : Que w base e v l) {g : Nat} {cs : Array Value} {t : TypeId} (hg : Blk w g cs t) (hne : e ≠ t) : ∀ b, v.ownBlock = some b → ¬ b = g := by
  intro b hb e'
  obtain ⟨_, _, cur, hc⟩ := h.type hb
  subst e'
  have := hc.symm.trans hg
  simp only [Option.some.injEq, Obj.cells.injEq] at this
  exact hne this.2.1
theorem Que.shape {w : World} {base : Nat} {e : TypeId} {v : Value} {l : List Int} (h : Que w base e v l) :
    ∃ (g off cap : Nat), v = .slice (some ⟨g, off, none⟩) l.length cap ∧ l.length ≤ cap ∧ cap ≤ maxLen ∧ g < w.heap.size ∧ base ≤ g ∧ ∀ j (hj : j < l.length), w.cell? ⟨g, off + j, none⟩ = some (.int .u8 l[j]) := by
  obtain ⟨g, off, cap, cur, rfl, hb, hg, h1, h2, h3, h4⟩ := h
  exact ⟨g, off, cap, rfl, h1, h2, hg.lt, hb, fun j hj => by rw [hg.cell]; exact h4 j hj⟩
theorem Que.one {w : World} {base : Nat} {e : TypeId} {x : Int} (hb : base ≤ w.heap.size) : Que (w.alloc (.cells #[.int .u8 x] e)) base e (.slice (some ⟨w.heap.size, 0, none⟩) 1 1) [x] :=
  ⟨w.heap.size, 0, 1, _, rfl, hb, Blk.new _ _ _, Nat.le_refl _, by unfold maxLen; decide, by simp, fun j hj => by
    have : j = 0 := by simpa using hj
    subst this; rfl⟩
/-- Where 'row[1:]' begins. -/
def nextA (g off cap : Nat) : Addr := if cap = 1 then ⟨g, off, none⟩ else ⟨g, off + 1, none⟩
theorem run_next {P : Program} (w : World) (t e : TypeId) (ht : P.underlying t = some (.slice e)) (hs : (sizeOf e).run P w = .ok 1 w) (g off n cap : Nat) (h1 : 1 ≤ n) (h : n ≤ cap) :
    (Instr.sliceAt t (.slice (some ⟨g, off, none⟩) n cap) (some (.int .i64 1)) none none).run P w = .ok (.slice (some (nextA g off cap)) (n - 1) (cap - 1)) w := by
  have hb : (Instr.sliceBound (.int .i64 1) n .sliceB).run P w = .ok 1 w := by
    have hn : (0 : Int) ≤ 1 ∧ (1 : Int) ≤ (n : Int) := ⟨by decide, by omega⟩
    simp [Instr.sliceBound, asIntOf, hn, go_sem]
  by_cases hc : cap = 1
  · simp [Instr.sliceAt, Instr.slice, run_underlying ht, Instr.sliceBounds, hb, hs, Result.andThen, nextA, hc]
  · simp [Instr.sliceAt, Instr.slice, run_underlying ht, Instr.sliceBounds, hb, hs, Result.andThen, nextA, hc, Addr.add]
theorem Que.next {w : World} {base : Nat} {e : TypeId} {x : Int} {l : List Int} {g off cap : Nat} (h : Que w base e (.slice (some ⟨g, off, none⟩) (l.length + 1) cap) (x :: l)) :
    Que w base e (.slice (some (nextA g off cap)) l.length (cap - 1)) l := by
  obtain ⟨g', off', cap', cur, he, hb, hg, h1, h2, h3, h4⟩ := h
  simp only [Value.slice.injEq, Option.some.injEq, Addr.mk.injEq] at he
  obtain ⟨⟨rfl, rfl, _⟩, _, rfl⟩ := he
  simp only [List.length_cons] at h1 h4
  unfold nextA
  by_cases hc : cap = 1
  · have hl : l = [] := List.eq_nil_of_length_eq_zero (by omega)
    subst hl
    rw [if_pos hc]
    exact ⟨g, off, cap - 1, cur, rfl, hb, hg, by simp, by omega, by omega, fun j hj => by simp at hj⟩
  · rw [if_neg hc]
    refine ⟨g, off + 1, cap - 1, cur, rfl, hb, hg, by omega, by omega, by omega, fun j hj => ?_⟩
    have := h4 (j + 1) (by omega)
    rw [show off + 1 + j = off + (j + 1) by omega, this]
    rfl
/-- 'append(row, y)', of one party. -/
theorem wpList_append_que (w : World) {ops : Array Oper} {rest : List Oper} {o : Oper} {a : Act} {Q : Exit → Act → World → Prop} (hgd : o.guard = none) (s x : Operand)
    (ho : o.op = .call { callee := .builtin .append, args := #[s, x], argTypes := #[68, 68] }) (base : Nat) (v : Value) (l : List Int) (hs : a.eval s = v)
    (hq : Que w base 23 v l) (g2 c : Nat) (y : Int) (hx : a.eval x = .slice (some ⟨g2, 0, none⟩) 1 c) (hy : Blk w g2 #[.int .u8 y] 23) (hlen : l.length ≤ 100000) (hbase : base ≤ w.heap.size)
    (h : ∀ v' w', Que w' base 23 v' (l ++ [y]) → w.grownBy w' v.ownBlock → wpList Try.prog ops Q rest (a.put o.dst v') w') : wpList Try.prog ops Q (o :: rest) a w := by
  obtain ⟨i0, hi, hz0, hz1, hz2⟩ := info_parts info_party
  obtain ⟨g, off, cap, cur, rfl, hb, hg, h1, h2, h3, h4⟩ := hq
  have hnews : ∀ j u, ([.int .u8 y] : List Value)[j]? = some u → w.cell? ((⟨g2, 0, none⟩ : Addr).add j) = some u := by
    intro j u hj
    have := hy.cell j
    rw [Go.WideShapes.add_plain, Nat.zero_add]
    match j, hj with
    | 0, hj => simp at hj; subst hj; simpa using this
    | j + 1, hj => simp at hj
  have key : ∃ v' w', (Builtin.append_ #[68, 68] o.type #[.slice (some ⟨g, off, none⟩) l.length cap, .slice (some ⟨g2, 0, none⟩) 1 c]).run Try.prog w = .ok v' w' ∧ Que w' base 23 v' (l ++ [y]) ∧ w.grownBy w' (some g) := by
    by_cases hroom : l.length + 1 ≤ cap
    · have hsrc : Src Try.prog i0.size 68 (.slice (some ⟨g2, 0, none⟩) 1 c) 1 [.int .u8 y] w := Src.ofSlice w Try.underlying68 ⟨g2, 0, none⟩ 1 c [.int .u8 y] (by simp [hz1]) hnews (by simp [Value.oneCell'])
      have hr := run_append_room_src (P := Try.prog) w 68 68 o.type 23 i0 Try.underlying68 hi g off l.length cap (.slice (some ⟨g2, 0, none⟩) 1 c) 1 [.int .u8 y] hsrc hroom (fun j hj => by
        rw [hg.cell, hz1]
        simp at hj
        rw [Array.getElem?_eq_getElem (by omega)]
        rfl) (fun j hj => hg.frozen _)
      rw [hz1, Nat.mul_one] at hr
      refine ⟨_, _, hr, ?_, ?_⟩
      · have hset : w.setCells g (off + l.length) [.int .u8 y] = w.setCell ⟨g, off + l.length, none⟩ (.int .u8 y) := rfl
        rw [hset]
        refine ⟨g, off, cap, _, by simp, hb, hg.set (off + l.length) (.int .u8 y), by simp; omega, h2, by simpa using h3, fun j hj => ?_⟩
        by_cases e : j = l.length
        · subst e
          rw [Array.getElem?_setIfInBounds_self_of_lt (by omega)]
          simp
        · simp at hj
          rw [Array.getElem?_setIfInBounds_ne (by omega), h4 j (by omega), List.getElem_append_left (by omega)]
      · have hset : w.setCells g (off + l.length) [.int .u8 y] = w.setCell ⟨g, off + l.length, none⟩ (.int .u8 y) := rfl
        rw [hset]
        exact ⟨rfl, rfl, rfl, by simp, fun k hk hne => Below.heap_setCell w _ _ k (fun e => hne (by rw [e]))⟩
    · have hlc : l.length = cap := by omega
      have hr := run_append_grow (P := Try.prog) w 68 o.type 23 i0 (.int .u8 0) Try.underlying68 hi hz0 ⟨g, off, none⟩ l.length cap (l.map (.int .u8)) (by simp [hz1]) (fun j u hj => by
        rw [List.getElem?_map] at hj
        obtain ⟨q, hq, rfl⟩ := Option.map_eq_some_iff.1 hj
        obtain ⟨hjl, hq⟩ := List.getElem?_eq_some_iff.1 hq
        subst hq
        rw [Addr.add_mid, hg.cell]
        exact h4 j hjl) ⟨g2, 0, none⟩ 1 c [.int .u8 y] (by simp [hz1]) hnews (by omega) (by omega) (growslice_fits (by omega) (by rw [hz2]; omega))
      have hge := grownCap_ge w (l.length + 1) cap 23
      have hle := grownCap_le_maxLen w (l.length + 1) cap 23 (by unfold maxLen; omega)
      refine ⟨_, _, hr, ?_, ⟨rfl, rfl, rfl, by simp, fun k hk _ => heap_alloc_old w.drew _ hk⟩⟩
      refine ⟨w.heap.size, 0, _, _, by simp, hbase, Blk.new w.drew _ _, by simpa using hge, hle, ?_, fun j hj => ?_⟩
      · simp [size_zeroCells, show (Value.int IntKind.u8 0).cells.size = 1 from rfl]
        omega
      · simp only [List.length_append, List.length_cons, List.length_nil] at hj
        rw [Nat.zero_add, Array.getElem?_append_left (by simp; omega)]
        by_cases e : j = l.length
        · subst e
          simp
        · rw [Array.getElem?_append_left (by simp; omega)]
          simp
          rw [List.getElem?_eq_getElem (by omega), List.getElem_append_left (by omega)]
          try rfl
  obtain ⟨v', w', hr, k1, k2⟩ := key
  refine wpList_plain hgd fun K hK => ?_
  unfold Oper.wp execOp
  simp only [ho, resolve, invoke, builtin, Sem.run_bind, Sem.run_pure, Result.andThen_ok, List.map_toArray, List.map_cons, List.map_nil, hs, hx, hr]
  exact hK _ _ (h v' w' k1 k2)

end Go.Proofs.Ytgebplplpenabaa
