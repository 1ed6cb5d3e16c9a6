/-
  Slices of structs of numbers that came in: read element by element, whatever the element is.
-/
import Derived.Test.YtajmladlmkkimaaActs
import Derived.Test.YtajmladlmkkimaaSame
import Derived.Test.YtajmladlmkkimaaOff
namespace Go.Proofs.Ytajmladlmkkimaa
open Go.RowKit Go.ChangeShapes Go.WideShapes Go.Deep
set_option linter.unusedSimpArgs false
set_option linter.unusedVariables false

/-- A slice that came in reads as the list xs. -/
def SlIn {α : Type} (vals : α → List Value) (size : Nat) (Ok : α → Prop) (w : World) (a : Option Addr) (len cap : Nat) (xs : List α) : Prop :=
  (a = none → cap = 0) ∧ xs.length = len ∧ (∀ x ∈ xs, Ok x) ∧ len ≤ cap ∧ cap ≤ maxLen ∧ (0 < len → ∃ b off, a = some ⟨b, off, none⟩ ∧ b < w.heap.size ∧ ∀ i (h : i < xs.length) (j : Nat) (v : Value), (vals xs[i])[j]? = some v → w.cell? ⟨b, off + i * size + j, none⟩ = some v)
section
variable {H : Type} {enc : TypeId × Value → H} {P : Program} {w : World} {base : Nat} {spare : Nat → Bool} {held : Bool}
theorem sl_open {α : Type} {vals : α → List Value} {size : Nat} {Ok : α → Prop} {ts te : TypeId} (hu : P.underlying ts = some (.slice te)) (hC : P.cellsOf te = size) (hlen : ∀ y, (vals y).length = size) (hsz : 0 < size)
    (hr : ∀ (fuel : Nat) (cs : List Value) (x : DataW H × List MemPlace), DataW.trod enc P w base spare held fuel te cs = some x → ∃ y : α, Ok y ∧ cs = vals y)
    {a : Option Addr} {len cap : Nat} {d : DataW H} {p : List MemPlace} (h : DataW.Trod enc P w base spare held ts (.slice a len cap) d p) : ∃ xs, SlIn vals size Ok w a len cap xs := by
  obtain ⟨fuel, hf⟩ := h
  rcases open_slice hu hf with ⟨h0, _⟩ | ⟨ad, l, c, m, n, D, Pl, hcs, hb, hl, hm, hmm, hx, hi⟩
  · simp [Value.cells] at h0
    obtain ⟨rfl, rfl, rfl⟩ := h0
    exact ⟨[], fun _ => rfl, rfl, by simp, Nat.le_refl _, by unfold maxLen; omega, fun h => by omega⟩
  · simp [Value.cells] at hcs
    obtain ⟨rfl, rfl, rfl⟩ := hcs
    have hlm : len ≤ m := by rw [hmm]; split <;> omega
    have key : ∀ i, i < len → ∃ x : α, Ok x ∧ ∀ (j : Nat) (v : Value), (vals x)[j]? = some v → w.cell? ((ad.add (i * size)).add j) = some v := by
      intro i hil
      obtain ⟨cs', hc, ht⟩ := hi i (by omega)
      rw [hC] at hc
      obtain ⟨x, hx, rfl⟩ := hr _ _ _ ht
      obtain ⟨_, _, hat⟩ := World.cells?_some hc
      refine ⟨x, hx, fun j v hj => ?_⟩
      have hj5 : j < size := by
        have := (List.getElem?_eq_some_iff.1 hj).1
        rw [hlen] at this
        exact this
      rw [hat j hj5, hj]
    have hex : ∀ k, k ≤ len → ∃ xs : List α, xs.length = k ∧ (∀ x ∈ xs, Ok x) ∧ ∀ i (h : i < xs.length) (j : Nat) (v : Value), (vals xs[i])[j]? = some v → w.cell? ((ad.add (i * size)).add j) = some v := by
      intro k
      induction k with
      | zero => intro _; exact ⟨[], rfl, by simp, fun i h => by simp at h⟩
      | succ k ih =>
        intro hk
        obtain ⟨xs, h1, h2, h3⟩ := ih (by omega)
        obtain ⟨x, hx, hxc⟩ := key k (by omega)
        refine ⟨xs ++ [x], by simp [h1], ?_, ?_⟩
        · intro y hy
          rcases List.mem_append.1 hy with hy | hy
          · exact h2 y hy
          · rw [List.mem_singleton] at hy; rw [hy]; exact hx
        · intro i hi j v hv
          by_cases hik : i < xs.length
          · rw [List.getElem_append_left hik] at hv
            exact h3 i hik j v hv
          · have : i = k := by rw [List.length_append, List.length_singleton] at hi; omega
            subst this
            rw [List.getElem_append_right (by omega)] at hv
            simp [h1] at hv
            exact hxc j v hv
    obtain ⟨xs, h1, h2, h3⟩ := hex len (Nat.le_refl _)
    refine ⟨xs, fun h => (by cases h), h1, h2, hl, hm, fun hp => ?_⟩
    have hv0 : (vals (xs[0]'(by omega)))[0]? = some ((vals (xs[0]'(by omega)))[0]'(by rw [hlen]; exact hsz)) := List.getElem?_eq_getElem _
    have h00 := h3 0 (by omega) 0 _ hv0
    have hsp : ad.spot = none := by
      rcases hs : ad.spot with _ | s
      · rfl
      · exfalso
        rw [Go.Deep.add_add] at h00
        have e : (ad.add (0 * size + 0)).spot = ad.spot := by cases ad; simp [Addr.add]
        unfold World.cell? at h00
        rw [e, hs] at h00
        split at h00
        · simp at h00
        · cases h00
    obtain ⟨b, off, sp⟩ := ad
    simp only at hsp
    subst hsp
    have hcell : ∀ i (h : i < xs.length) (j : Nat) (v : Value), (vals xs[i])[j]? = some v → w.cell? ⟨b, off + i * size + j, none⟩ = some v := by
      intro i hi j v hv
      have := h3 i hi j v hv
      rw [Go.Deep.add_add, Go.WideShapes.add_plain] at this
      rw [Nat.add_assoc]
      exact this
    exact ⟨b, off, rfl, World.block_lt_of_cell? _ _ (hcell 0 (by omega) 0 _ hv0), hcell⟩
end
theorem SlIn.below {α : Type} {vals : α → List Value} {size : Nat} {Ok : α → Prop} {w w' : World} {a : Option Addr} {len cap : Nat} {xs : List α} (h : SlIn vals size Ok w a len cap xs) (k : Below w.heap.size w w') : SlIn vals size Ok w' a len cap xs := by
  obtain ⟨h0, h1, h2, h3, h4, h5⟩ := h
  refine ⟨h0, h1, h2, h3, h4, fun hp => ?_⟩
  obtain ⟨b, off, rfl, hlt, hc⟩ := h5 hp
  exact ⟨b, off, rfl, Nat.lt_of_lt_of_le hlt k.size, fun i hi j v hv => by rw [k.cell (p := ⟨b, off + i * size + j, none⟩) hlt]; exact hc i hi j v hv⟩

section
variable {H : Type} {enc : TypeId × Value → H} {P : Program} {w : World} {base : Nat} {spare : Nat → Bool} {held : Bool}
/-- One number of a struct. -/
theorem num_of {fs : Array Field} {xs : List (DataW H × List MemPlace)} {n : Nat} {cs : List Value} (hxl : xs.length = fs.size) (hf : ∀ (j : Nat) (f : Field), fs[j]? = some f → DataW.trod enc P w base spare held n f.type ((cs.drop f.offset).take (P.cellsOf f.type)) = xs[j]?) {j o : Nat} {f : Field} {k : IntKind} (hj : fs[j]? = some f) (ho : f.offset = o) (hc : P.cellsOf f.type = 1) (hk : P.underlying f.type = some (.int k)) (hl : o < cs.length) :
    ∃ m, cs[o]? = some (.int k m) ∧ (Lit.int k m).wf = true := by
  have h1 := hf j f hj
  rw [ho, hc, List.drop_eq_getElem_cons hl] at h1
  have hjf : j < fs.size := (Array.getElem?_eq_some_iff.1 hj).1
  rw [List.getElem?_eq_getElem (by omega : j < xs.length)] at h1
  obtain ⟨m, hm, _, hw⟩ := DataW.trod_int hk h1
  refine ⟨m, ?_, hw⟩
  rw [List.getElem?_eq_getElem hl]
  have hm' : [cs[o]] = [Value.int k m] := hm
  exact congrArg some (List.cons.inj hm').1
end

end Go.Proofs.Ytajmladlmkkimaa

/-
  Offers, and acts on a book, that came in.
-/
namespace Go.Proofs.Ytajmladlmkkimaa
open Go.RowKit Go.ChangeShapes Go.WideShapes Go.Deep
set_option linter.unusedSimpArgs false
set_option linter.unusedVariables false

theorem InU64.of_wf {n : Int} (h : (Lit.int .u64 n).wf = true) : 0 ≤ n ∧ n ≤ 18446744073709551615 := by
  simp [Lit.wf, IntKind.min, IntKind.max, IntKind.signed, IntKind.bits] at h
  exact ⟨by omega, by omega⟩
section
variable {H : Type} {enc : TypeId × Value → H} {P : Program} {w : World} {base : Nat} {spare : Nat → Bool} {held : Bool}
/-- A struct of two numbers within another one. -/
theorem pair_of {t : TypeId} {g0 g1 : Field} {k0 k1 : IntKind} (hu : P.underlying t = some (.struct #[g0, g1])) (hC : P.cellsOf t = 2) (o0 : g0.offset = 0) (o1 : g1.offset = 1) (c0 : P.cellsOf g0.type = 1) (c1 : P.cellsOf g1.type = 1)
    (h0 : P.underlying g0.type = some (.int k0)) (h1 : P.underlying g1.type = some (.int k1)) {fuel : Nat} {cs : List Value} {x : DataW H × List MemPlace} (h : DataW.trod enc P w base spare held fuel t cs = some x) :
    ∃ m0 m1, cs = [.int k0 m0, .int k1 m1] ∧ (Lit.int k0 m0).wf = true ∧ (Lit.int k1 m1).wf = true := by
  obtain ⟨xs, n, _, _, hlen, hxl, hf⟩ := DataW.trod_struct hu h
  rw [hC] at hlen
  obtain ⟨m0, e0, w0⟩ := num_of hxl hf (j := 0) rfl o0 c0 h0 (by omega)
  obtain ⟨m1, e1, w1⟩ := num_of hxl hf (j := 1) rfl o1 c1 h1 (by omega)
  match cs, hlen with
  | [a, b], _ =>
    simp at e0 e1
    subst e0 e1
    exact ⟨m0, m1, rfl, w0, w1⟩
theorem offer_of {t : TypeId} {f0 f1 f2 f3 f4 f5 g0 g1 : Field} (hu : P.underlying t = some (.struct #[f0, f1, f2, f3, f4, f5])) (hC : P.cellsOf t = 7)
    (o : f0.offset = 0 ∧ f1.offset = 1 ∧ f2.offset = 2 ∧ f3.offset = 3 ∧ f4.offset = 4 ∧ f5.offset = 5) (c : P.cellsOf f0.type = 1 ∧ P.cellsOf f1.type = 1 ∧ P.cellsOf f2.type = 1 ∧ P.cellsOf f3.type = 1 ∧ P.cellsOf f4.type = 1 ∧ P.cellsOf f5.type = 2)
    (k : P.underlying f0.type = some (.int .u64) ∧ P.underlying f1.type = some (.int .u8) ∧ P.underlying f2.type = some (.int .u8) ∧ P.underlying f3.type = some (.int .u8) ∧ P.underlying f4.type = some (.int .i64))
    (hr : P.underlying f5.type = some (.struct #[g0, g1])) (og : g0.offset = 0 ∧ g1.offset = 1) (cg : P.cellsOf g0.type = 1 ∧ P.cellsOf g1.type = 1) (kg : P.underlying g0.type = some (.int .i64) ∧ P.underlying g1.type = some (.int .i64))
    {fuel : Nat} {cs : List Value} {x : DataW H × List MemPlace} (h : DataW.trod enc P w base spare held fuel t cs = some x) : ∃ x : Of, x.Fits ∧ cs = x.vals := by
  obtain ⟨xs, n, _, _, hlen, hxl, hf⟩ := DataW.trod_struct hu h
  rw [hC] at hlen
  obtain ⟨m0, e0, w0⟩ := num_of hxl hf (j := 0) rfl o.1 c.1 k.1 (by omega)
  obtain ⟨m1, e1, w1⟩ := num_of hxl hf (j := 1) rfl o.2.1 c.2.1 k.2.1 (by omega)
  obtain ⟨m2, e2, w2⟩ := num_of hxl hf (j := 2) rfl o.2.2.1 c.2.2.1 k.2.2.1 (by omega)
  obtain ⟨m3, e3, w3⟩ := num_of hxl hf (j := 3) rfl o.2.2.2.1 c.2.2.2.1 k.2.2.2.1 (by omega)
  obtain ⟨m4, e4, w4⟩ := num_of hxl hf (j := 4) rfl o.2.2.2.2.1 c.2.2.2.2.1 k.2.2.2.2 (by omega)
  have h5 := hf 5 f5 rfl
  rw [o.2.2.2.2.2, c.2.2.2.2.2] at h5
  rw [List.getElem?_eq_getElem (by rw [hxl]; simp : 5 < xs.length)] at h5
  obtain ⟨m5, m6, e5, w5, w6⟩ := pair_of hr c.2.2.2.2.2 og.1 og.2 cg.1 cg.2 kg.1 kg.2 h5
  match cs, hlen with
  | [a0, a1, a2, a3, a4, a5, a6], _ =>
    simp at e0 e1 e2 e3 e4 e5
    obtain ⟨e5, e6⟩ := e5
    subst e0 e1 e2 e3 e4 e5 e6
    exact ⟨⟨m0, m1, m2, m3, m4, m5, m6⟩, ⟨InU64.of_wf w0, In8.of_wf w1, In8.of_wf w2, In8.of_wf w3, In64.of_wf w4, In64.of_wf w5, In64.of_wf w6⟩, rfl⟩
end
/-- An act on a book: its kind, an offer, a number. -/
structure Ab where
  k : Int
  o : Of
  n : Int
def Ab.vals (x : Ab) : List Value := [.int .u8 x.k, .int .u64 x.o.se, .int .u8 x.o.ow, .int .u8 x.o.sl, .int .u8 x.o.bu, .int .i64 x.o.lf, .int .i64 x.o.nu, .int .i64 x.o.de, .int .i64 x.n]
structure Ab.Ok (x : Ab) : Prop where
  k : In8 x.k
  o : x.o.Fits
  n : In64 x.n

end Go.Proofs.Ytajmladlmkkimaa
