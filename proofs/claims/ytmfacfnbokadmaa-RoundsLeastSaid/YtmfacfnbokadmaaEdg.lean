/-
  Lists of edges with costs: those of the program (they come in), those of the document (they are built).
-/
import Derived.Test.YtmfacfnbokadmaaSlIn
import Derived.Test.YtmfacfnbokadmaaRowed
import Derived.Test.YtmfacfnbokadmaaRef06r
import Derived.Maps.AppendAt
import Derived.Deep.RegionLaw
namespace Go.Proofs.Ytmfacfnbokadmaa
open Go.RowKit Go.ChangeShapes Go.WideShapes Go.Deep
set_option linter.unusedSimpArgs false
set_option linter.unusedVariables false

def Ed.val (x : Ed) : Value := .agg #[.int .u8 x.fr, .int .u8 x.tt, .int .i8 x.co]
theorem edCells_append (a b : List Ed) : edCells (a ++ b) = edCells a ++ edCells b := by unfold edCells; exact List.flatMap_append
theorem edCells_one (x : Ed) : edCells [x] = x.vals := by simp [edCells]
theorem edCells_oneCell (l : List Ed) : ∀ u ∈ edCells l, u.oneCell' = true := by
  intro u hu
  unfold edCells at hu
  obtain ⟨x, _, hx⟩ := List.mem_flatMap.1 hu
  simp [Ed.vals] at hx
  rcases hx with rfl | rfl | rfl <;> rfl
section
variable {H : Type} {enc : TypeId × Value → H} {P : Program} {w : World} {base : Nat} {spare : Nat → Bool} {held : Bool}
theorem InI8.of_wf {n : Int} (h : (Lit.int .i8 n).wf = true) : -128 ≤ n ∧ n ≤ 127 := by
  simp [Lit.wf, IntKind.min, IntKind.max, IntKind.signed, IntKind.bits] at h
  exact ⟨by omega, by omega⟩
theorem edge_of {t : TypeId} {f0 f1 f2 : Field} (hu : P.underlying t = some (.struct #[f0, f1, f2])) (hC : P.cellsOf t = 3)
    (o : f0.offset = 0 ∧ f1.offset = 1 ∧ f2.offset = 2) (c : P.cellsOf f0.type = 1 ∧ P.cellsOf f1.type = 1 ∧ P.cellsOf f2.type = 1)
    (k : P.underlying f0.type = some (.int .u8) ∧ P.underlying f1.type = some (.int .u8) ∧ P.underlying f2.type = some (.int .i8))
    {fuel : Nat} {cs : List Value} {x : DataW H × List MemPlace} (h : DataW.trod enc P w base spare held fuel t cs = some x) : ∃ x : Ed, x.Fits ∧ cs = x.vals := by
  obtain ⟨xs, n, _, _, hlen, hxl, hf⟩ := DataW.trod_struct hu h
  rw [hC] at hlen
  obtain ⟨m0, e0, w0⟩ := num_of hxl hf (j := 0) rfl o.1 c.1 k.1 (by omega)
  obtain ⟨m1, e1, w1⟩ := num_of hxl hf (j := 1) rfl o.2.1 c.2.1 k.2.1 (by omega)
  obtain ⟨m2, e2, w2⟩ := num_of hxl hf (j := 2) rfl o.2.2 c.2.2 k.2.2 (by omega)
  match cs, hlen with
  | [a0, a1, a2], _ =>
    simp at e0 e1 e2
    subst e0 e1 e2
    exact ⟨⟨m0, m1, m2⟩, ⟨In8.of_wf w0, In8.of_wf w1, InI8.of_wf w2⟩, rfl⟩
end
theorem info_pe : (Try.prog.info? 66).map (fun i => (i.zero, i.size, i.bytes)) = some (some (Ed.val ⟨0, 0, 0⟩), 3, 3) := by kernel_rfl
section
variable {H : Type} {enc : TypeId × Value → H} {w : World} {base : Nat} {spare : Nat → Bool} {held : Bool}
theorem edge_read {fuel : Nat} {cs : List Value} {x : DataW H × List MemPlace} (h : DataW.trod enc Try.prog w base spare held fuel 66 cs = some x) : ∃ x : Ed, x.Fits ∧ cs = x.vals :=
  edge_of Try.underlying66 (by kernel_rfl) ⟨rfl, rfl, rfl⟩ ⟨by kernel_rfl, by kernel_rfl, by kernel_rfl⟩ ⟨Try.underlying35, Try.underlying35, Try.underlying48⟩ h
set_option maxRecDepth 100000 in
theorem edges_open {a : Option Addr} {len cap : Nat} {d : DataW H} {p : List MemPlace} (h : DataW.Trod enc Try.prog w base spare held 65 (.slice a len cap) d p) : ∃ xs : List Ed, SlIn Ed.vals 3 Ed.Fits w a len cap xs :=
  sl_open Try.underlying65 (by kernel_rfl) Ed.vals_len (by decide) (fun fuel cs x h => edge_read h) h
end
theorem SlIn.edges {w : World} {a : Option Addr} {len cap : Nat} {xs : List Ed} (h : SlIn Ed.vals 3 Ed.Fits w a len cap xs) (hn : len ≤ 100000000) : Reads w (.slice a xs.length cap) 3 xs.length (edCells xs) := by
  obtain ⟨h0, hl, hk, h1, h2, h3⟩ := h
  subst hl
  refine ⟨a, cap, rfl, hn, edCells_len xs, fun hp => ?_⟩
  obtain ⟨b, off, ha, hb, hc⟩ := h3 hp
  refine ⟨b, off, ha, hb, fun j hj => ?_⟩
  have hjd : j / 3 < xs.length := by omega
  have h4 := edCells_get xs (j / 3) (j % 3) (by omega) hjd
  rw [show j / 3 * 3 + j % 3 = j by omega] at h4
  have hv : (xs[j / 3].vals)[j % 3]? = some (xs[j / 3].vals[j % 3]'(by rw [Ed.vals_len]; omega)) := List.getElem?_eq_getElem _
  have h5 := hc (j / 3) hjd (j % 3) _ hv
  rw [show off + j / 3 * 3 + j % 3 = off + j by omega] at h5
  rw [h5, h4, hv]
/-- Element i. -/
theorem SlIn.edge {w : World} {a : Option Addr} {len cap : Nat} {xs : List Ed} (h : SlIn Ed.vals 3 Ed.Fits w a len cap xs) {i : Nat} (hi : i < xs.length) :
    ∃ b off, a = some ⟨b, off, none⟩ ∧ b < w.heap.size ∧ w.cell? ⟨b, off + i * 3, none⟩ = some (.int .u8 xs[i].fr) ∧ w.cell? ⟨b, off + i * 3 + 1, none⟩ = some (.int .u8 xs[i].tt) ∧ w.cell? ⟨b, off + i * 3 + 2, none⟩ = some (.int .i8 xs[i].co) := by
  obtain ⟨_, hl, _, _, _, h3⟩ := h
  obtain ⟨b, off, ha, hb, hc⟩ := h3 (by omega)
  exact ⟨b, off, ha, hb, hc i hi 0 _ rfl, hc i hi 1 _ rfl, hc i hi 2 _ rfl⟩
theorem info_re : (Try.prog.info? 50).map (fun i => (i.zero, i.size, i.bytes)) = some (some (Ed.val ⟨0, 0, 0⟩), 3, 3) := by kernel_rfl
theorem wp_append_args {P : Program} {w w' : World} {o : Oper} {a : Act} {K : Act → World → Prop} {Q : Exit → Act → World → Prop} (y x : Operand) (t : TypeId) {u v v' : Value}
    (ho : o.op = .call { callee := .builtin .append, args := #[y, x], argTypes := #[t, t] }) (hy : a.eval y = u) (hx : a.eval x = v)
    (hr : (Builtin.append_ #[t, t] o.type #[u, v]).run P w = .ok v' w') (h : K (a.put o.dst v') w') : o.wp P a w K Q := by
  unfold Oper.wp execOp
  simp only [ho, resolve, invoke, builtin, Sem.run_bind, Sem.run_pure, Result.andThen_ok, List.map_toArray, List.map_cons, List.map_nil, hy, hx, hr]
  exact h
/-- append of one edge that was just laid, as one step of a region that draws. -/
theorem step_append_re {P : Program} {ops : Array Oper} {o : Oper} {a : Act} {w : World} {K : Act → World → Prop} {Q : Exit → Act → World → Prop} {E : Prop}
    (hg : o.guard = none) (s x : Operand) (t : TypeId) (hop : o.op = Op.call { callee := Callee.builtin Builtin.append, args := #[s, x], argTypes := #[t, t] })
    (base : Nat) (e : TypeId) {z : Value} (ht : P.underlying t = some (.slice e)) (hz0 : z.cells.size = 3) (hi : (P.info? e).map (fun i => (i.zero, i.size, i.bytes)) = some (some z, 3, 3)) (v : Value) (l : List Ed) (hs : a.eval s = v) (hown : w.ownsRow base e 3 v l.length (edCells l))
    (g c : Nat) (y : Ed) (hx : a.eval x = .slice (some ⟨g, 0, none⟩) 1 c) (hy : Blk w g #[.int .u8 y.fr, .int .u8 y.tt, .int .i8 y.co] e) (hlen : l.length ≤ 100000) (hbase : base ≤ w.heap.size)
    (hK : ∀ v' w', w'.ownsRow base e 3 v' (l ++ [y]).length (edCells (l ++ [y])) → w.grownBy w' v.ownBlock → K (a.put o.dst v') w') :
    if Region.wanted o (yielded ops a.tmps) = true then Oper.wp P o a w K Q else E := by
  have hw : Region.wanted o (yielded ops a.tmps) = true := by simp [Region.wanted, hg]
  rw [if_pos hw]
  obtain ⟨i0, hi1, hi2, hi3, hi4⟩ := info_parts hi
  obtain ⟨v', w', hr, h2, h3, _⟩ := run_append_own_at (P := P) w base t o.type e i0 z 3 3 ht hi1 hi2 hi3 hi4 hz0 (by decide) v l.length (edCells l) hown ⟨g, 0, none⟩ 1 c y.vals rfl (fun j u hj => by
      have := hy.cell j
      rw [Go.WideShapes.add_plain, Nat.zero_add, this]
      match j, hj with
      | 0, hj => simpa [Ed.vals] using hj
      | 1, hj => simpa [Ed.vals] using hj
      | 2, hj => simpa [Ed.vals] using hj
      | j + 3, hj => simp [Ed.vals] at hj) (by
      intro u hu
      simp [Ed.vals] at hu
      rcases hu with rfl | rfl | rfl <;> rfl) (by unfold maxLen; omega) (by omega) hbase
  rw [← edCells_one, ← edCells_append] at h2
  refine wp_append_args s x t hop hs hx hr ?_
  exact hK v' w' (by rw [List.length_append]; exact h2) h3
/-- 'append(l, y)', of one that was just laid. -/
theorem wpList_append_re (w : World) {ops : Array Oper} {rest : List Oper} {o : Oper} {a : Act} {Q : Exit → Act → World → Prop} (hgd : o.guard = none) (s x : Operand)
    (ho : o.op = .call { callee := .builtin .append, args := #[s, x], argTypes := #[47, 47] }) (base : Nat) (v : Value) (ls : List Ed) (hs : a.eval s = v)
    (hown : w.ownsRow base 50 3 v ls.length (edCells ls)) (g c : Nat) (y : Ed) (hx : a.eval x = .slice (some ⟨g, 0, none⟩) 1 c) (hy : Blk w g #[.int .u8 y.fr, .int .u8 y.tt, .int .i8 y.co] 50) (hlen : ls.length ≤ 100000) (hbase : base ≤ w.heap.size)
    (h : ∀ v' w', w'.ownsRow base 50 3 v' (ls ++ [y]).length (edCells (ls ++ [y])) → w.grownBy w' v.ownBlock → wpList Try.prog ops Q rest (a.put o.dst v') w') : wpList Try.prog ops Q (o :: rest) a w := by
  obtain ⟨i0, hi, hz0, hz1, hz2⟩ := info_parts info_re
  refine wpList_append_own w hgd s x 47 ho base 50 i0 (Ed.val ⟨0, 0, 0⟩) 3 3 Try.underlying47 hi hz0 hz1 hz2 rfl (by decide) v ls.length (edCells ls) hs hown ⟨g, 0, none⟩ 1 c y.vals hx rfl ?_ ?_ (by unfold maxLen; omega) (by omega) hbase ?_
  · intro j u hj
    have := hy.cell j
    rw [Go.WideShapes.add_plain]
    match j, hj with
    | 0, hj => simp [Ed.vals] at hj; subst hj; simpa using this
    | 1, hj => simp [Ed.vals] at hj; subst hj; simpa using this
    | 2, hj => simp [Ed.vals] at hj; subst hj; simpa using this
    | j + 3, hj => simp [Ed.vals] at hj
  · intro u hu
    simp [Ed.vals] at hu
    rcases hu with rfl | rfl | rfl <;> rfl
  · intro v' w' h1 h2 _
    refine h v' w' ?_ h2
    rw [edCells_append, edCells_one, List.length_append]
    exact h1
/-- What the program's Round tells. -/
def RoundProg : Prop := ∀ (w : World) (ao : Option Addr) (cap : Nat) (es : List Ed), Reads w (.slice ao es.length cap) 3 es.length (edCells es) → (∀ e ∈ es, e.Fits) → es.length ≤ 600 → Calls Try.prog 26 #[.slice ao es.length cap] w (RowPost 35 (roundW es) w)

end Go.Proofs.Ytmfacfnbokadmaa
