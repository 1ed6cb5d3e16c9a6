/-
  What came in: structs of numbers, by value and in slices; acts on a ledger.
-/
import Derived.Test.YtmfacfnbokadmaaHeap
import Derived.Deep.Slices
import Derived.Deep.Fields
import Derived.ChangeSame
import Derived.OpenShut
import Derived.Lib.SmallJoins
namespace Go.Proofs.Ytmfacfnbokadmaa
open Go.RowKit Go.ChangeShapes Go.WideShapes Go.Deep
set_option linter.unusedSimpArgs false
set_option linter.unusedVariables false

section
variable {H : Type} {enc : TypeId × Value → H} {P : Program} {w : World} {base : Nat} {spare : Nat → Bool} {held : Bool}
/-- The cells of a struct of numbers: as many as there are kinds, each a number of its kind. -/
theorem nums_read {t : TypeId} {fs : Array Field} {ks : List IntKind} (hu : P.underlying t = some (.struct fs)) (hone : oneCellFields P fs = true) (hC : P.cellsOf t = ks.length)
    (hk : ∀ (j : Nat) (k : IntKind), ks[j]? = some k → ∃ f, fs[j]? = some f ∧ P.underlying f.type = some (.int k)) {fuel : Nat} {cs : List Value} {x : DataW H × List MemPlace} (h : DataW.trod enc P w base spare held fuel t cs = some x) :
    cs.length = ks.length ∧ ∀ (j : Nat) (k : IntKind), ks[j]? = some k → ∃ n, cs[j]? = some (.int k n) ∧ (Lit.int k n).wf = true := by
  obtain ⟨xs, n, _, _, hlen, hxl, hf⟩ := DataW.trod_struct hu h
  rw [hC] at hlen
  refine ⟨hlen, fun j k hj => ?_⟩
  have hjl : j < ks.length := (List.getElem?_eq_some_iff.1 hj).1
  obtain ⟨f, hfj, hfk⟩ := hk j k hj
  obtain ⟨ho, hc⟩ := hone_of hone j f hfj
  have h1 := hf j f hfj
  have hone' : (cs.drop j).take 1 = [cs[j]'(by omega)] := by
    rw [List.drop_eq_getElem_cons (by omega)]
    rfl
  rw [ho, hc, hone'] at h1
  have hjf : j < fs.size := (Array.getElem?_eq_some_iff.1 hfj).1
  have h2 : xs[j]? = some (xs[j]'(by omega)) := List.getElem?_eq_getElem (by omega)
  rw [h2] at h1
  obtain ⟨m, hm, _, hw⟩ := DataW.trod_int hfk h1
  refine ⟨m, ?_, hw⟩
  rw [List.getElem?_eq_getElem (by omega)]
  simpa using hm
end

/-- An act on a ledger: its kind, two parties, a currency, a number. -/
structure Ac where
  k : Int
  a : Int
  b : Int
  c : Int
  n : Int
def Ac.vals (x : Ac) : List Value := [.int .u8 x.k, .int .u8 x.a, .int .u8 x.b, .int .u8 x.c, .int .i64 x.n]
structure Ac.Ok (x : Ac) : Prop where
  k : In8 x.k
  a : In8 x.a
  b : In8 x.b
  c : In8 x.c
  n : In64 x.n
theorem In8.of_wf {n : Int} (h : (Lit.int .u8 n).wf = true) : In8 n := by
  simp [Lit.wf, IntKind.min, IntKind.max, IntKind.signed, IntKind.bits] at h
  exact ⟨by omega, by omega⟩
theorem ac_of {cs : List Value} (h1 : cs.length = 5) (h : ∀ (j : Nat) (k : IntKind), ([.u8, .u8, .u8, .u8, .i64] : List IntKind)[j]? = some k → ∃ n, cs[j]? = some (.int k n) ∧ (Lit.int k n).wf = true) : ∃ x : Ac, x.Ok ∧ cs = x.vals := by
  obtain ⟨n0, e0, w0⟩ := h 0 _ rfl
  obtain ⟨n1, e1, w1⟩ := h 1 _ rfl
  obtain ⟨n2, e2, w2⟩ := h 2 _ rfl
  obtain ⟨n3, e3, w3⟩ := h 3 _ rfl
  obtain ⟨n4, e4, w4⟩ := h 4 _ rfl
  match cs, h1 with
  | [c0, c1, c2, c3, c4], _ =>
    simp at e0 e1 e2 e3 e4
    subst e0 e1 e2 e3 e4
    exact ⟨⟨n0, n1, n2, n3, n4⟩, ⟨In8.of_wf w0, In8.of_wf w1, In8.of_wf w2, In8.of_wf w3, In64.of_wf w4⟩, rfl⟩


end Go.Proofs.Ytmfacfnbokadmaa
