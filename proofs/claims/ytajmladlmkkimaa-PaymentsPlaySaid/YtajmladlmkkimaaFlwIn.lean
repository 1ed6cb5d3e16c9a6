/-
  Flows that came in: by value, and as a slice.
-/
import Derived.Test.YtajmladlmkkimaaSlIn
import Derived.Test.YtajmladlmkkimaaFlw
namespace Go.Proofs.Ytajmladlmkkimaa
open Go.RowKit Go.ChangeShapes Go.WideShapes Go.Deep
set_option linter.unusedSimpArgs false
set_option linter.unusedVariables false

section
variable {H : Type} {enc : TypeId × Value → H} {P : Program} {w : World} {base : Nat} {spare : Nat → Bool} {held : Bool}
theorem flow_of {t : TypeId} {f0 f1 f2 : Field} (hu : P.underlying t = some (.struct #[f0, f1, f2])) (hC : P.cellsOf t = 3)
    (o : f0.offset = 0 ∧ f1.offset = 1 ∧ f2.offset = 2) (c : P.cellsOf f0.type = 1 ∧ P.cellsOf f1.type = 1 ∧ P.cellsOf f2.type = 1)
    (k : P.underlying f0.type = some (.int .u8) ∧ P.underlying f1.type = some (.int .u8) ∧ P.underlying f2.type = some (.int .i64))
    {fuel : Nat} {cs : List Value} {x : DataW H × List MemPlace} (h : DataW.trod enc P w base spare held fuel t cs = some x) : ∃ x : Fw, x.Fits ∧ cs = x.vals := by
  obtain ⟨xs, n, _, _, hlen, hxl, hf⟩ := DataW.trod_struct hu h
  rw [hC] at hlen
  obtain ⟨m0, e0, w0⟩ := num_of hxl hf (j := 0) rfl o.1 c.1 k.1 (by omega)
  obtain ⟨m1, e1, w1⟩ := num_of hxl hf (j := 1) rfl o.2.1 c.2.1 k.2.1 (by omega)
  obtain ⟨m2, e2, w2⟩ := num_of hxl hf (j := 2) rfl o.2.2 c.2.2 k.2.2 (by omega)
  match cs, hlen with
  | [a0, a1, a2], _ =>
    simp at e0 e1 e2
    subst e0 e1 e2
    exact ⟨⟨m0, m1, m2⟩, ⟨In8.of_wf w0, In8.of_wf w1, In64.of_wf w2⟩, rfl⟩
end
section
variable {H : Type} {enc : TypeId × Value → H} {w : World} {base : Nat} {spare : Nat → Bool} {held : Bool}
theorem flow_read {fuel : Nat} {cs : List Value} {x : DataW H × List MemPlace} (h : DataW.trod enc Try.prog w base spare held fuel 75 cs = some x) : ∃ x : Fw, x.Fits ∧ cs = x.vals :=
  flow_of Try.underlying75 (by kernel_rfl) ⟨rfl, rfl, rfl⟩ ⟨by kernel_rfl, by kernel_rfl, by kernel_rfl⟩ ⟨Try.underlying42, Try.underlying42, Try.underlying2⟩ h
set_option maxRecDepth 100000 in
/-- A flow by value. -/
theorem flow_open {r : Reach} {b0 : Nat} {v : Value} {d : DataW H} {p : List MemPlace} (hv : Value.okWide Try.prog w r b0 75 v) (h : DataW.Trod enc Try.prog w base spare held 75 v d p) :
    ∃ x : Fw, v = .agg #[.int .u8 x.fr, .int .u8 x.tt, .int .i64 x.am] ∧ x.Fits := by
  obtain ⟨cs, rfl, _⟩ := okWide_struct Try.underlying75 hv
  obtain ⟨fuel, hf⟩ := h
  obtain ⟨x, hx, hc⟩ := flow_read hf
  refine ⟨x, ?_, hx⟩
  have : cs.toList = x.vals := by simpa [Value.cells] using hc
  rw [show cs = x.vals.toArray by rw [← this]]
  rfl
set_option maxRecDepth 100000 in
theorem flows_open {a : Option Addr} {len cap : Nat} {d : DataW H} {p : List MemPlace} (h : DataW.Trod enc Try.prog w base spare held 22 (.slice a len cap) d p) : ∃ xs : List Fw, SlIn Fw.vals 3 Fw.Fits w a len cap xs :=
  sl_open Try.underlying22 (by kernel_rfl) Fw.vals_len (by decide) (fun fuel cs x h => flow_read h) h
end
theorem SlIn.flows {w : World} {a : Option Addr} {len cap : Nat} {xs : List Fw} (h : SlIn Fw.vals 3 Fw.Fits w a len cap xs) (hn : len ≤ 100000000) : Reads w (.slice a xs.length cap) 3 xs.length (fwCells xs) := by
  obtain ⟨h0, hl, hk, h1, h2, h3⟩ := h
  subst hl
  refine ⟨a, cap, rfl, hn, fwCells_len xs, fun hp => ?_⟩
  obtain ⟨b, off, ha, hb, hc⟩ := h3 hp
  refine ⟨b, off, ha, hb, fun j hj => ?_⟩
  have hjd : j / 3 < xs.length := by omega
  have h4 := fwCells_get xs (j / 3) (j % 3) (by omega) hjd
  rw [show j / 3 * 3 + j % 3 = j by omega] at h4
  have hv : (xs[j / 3].vals)[j % 3]? = some (xs[j / 3].vals[j % 3]'(by rw [Fw.vals_len]; omega)) := List.getElem?_eq_getElem _
  have h5 := hc (j / 3) hjd (j % 3) _ hv
  rw [show off + j / 3 * 3 + j % 3 = off + j by omega] at h5
  rw [h5, h4, hv]
/-- Element i. -/
theorem SlIn.flow {w : World} {a : Option Addr} {len cap : Nat} {xs : List Fw} (h : SlIn Fw.vals 3 Fw.Fits w a len cap xs) {i : Nat} (hi : i < xs.length) :
    ∃ b off, a = some ⟨b, off, none⟩ ∧ b < w.heap.size ∧ w.cell? ⟨b, off + i * 3, none⟩ = some (.int .u8 xs[i].fr) ∧ w.cell? ⟨b, off + i * 3 + 1, none⟩ = some (.int .u8 xs[i].tt) ∧ w.cell? ⟨b, off + i * 3 + 2, none⟩ = some (.int .i64 xs[i].am) := by
  obtain ⟨_, hl, _, _, _, h3⟩ := h
  obtain ⟨b, off, ha, hb, hc⟩ := h3 (by omega)
  exact ⟨b, off, ha, hb, hc i hi 0 _ rfl, hc i hi 1 _ rfl, hc i hi 2 _ rfl⟩

end Go.Proofs.Ytajmladlmkkimaa
