/-
  Slices of structs of numbers that came in: read element by element, whatever the element is.
-/
import Derived.Test.YtdbdeodcldogmaaActs
import Derived.Test.YtdbdeodcldogmaaSame
namespace Go.Proofs.Ytdbdeodcldogmaa
open Go.RowKit Go.ChangeShapes Go.WideShapes Go.Deep
set_option linter.unusedSimpArgs false
set_option linter.unusedVariables false

/-- A slice that came in reads as the list xs. -/
def SlIn {α : Type} (vals : α → List Value) (size : Nat) (Ok : α → Prop) (w : World) (a : Option Addr) (len cap : Nat) (xs : List α) : Prop :=
  (a = none → cap = 0) ∧ xs.length = len ∧ (∀ x ∈ xs, Ok x) ∧ len ≤ cap ∧ cap ≤ maxLen ∧ (0 < len → ∃ b off, a = some ⟨b, off, none⟩ ∧ b < w.heap.size ∧ ∀ i (h : i < xs.length) (j : Nat) (v : Value), (vals xs[i])[j]? = some v → w.cell? ⟨b, off + i * size + j, none⟩ = some v)
section
variable {H : Type} {enc : TypeId × Value → H} {P : Program} {w : World} {base : Nat} {spare : Nat → Bool} {held : Bool}
theorem sl_open {α : Type} {vals : α → List Value} {size : Nat} {Ok : α → Prop} {ts te : TypeId} (hu : P.underlying ts = some (.slice te)) (hC : P.cellsOf te = size) (hlen : ∀ y, (vals y).length = size) (hsz : 0 < size)
    (hr : ∀ (fuel : Nat) (cs : List Value) (x : DataW H × List MemPlace), DataW.trod enc P w base spare held fuel te cs = some x → ∃ y : α, Ok y ∧ cs = vals y)
    {a : Option Addr} {len cap : Nat} {d : DataW H} {p : List MemPlace} (h : DataW.Trod enc P w base spare held ts (.slice a len cap) d p) : ∃ xs, SlIn vals size Ok w a len cap xs := by
  obtain ⟨fuel, hf⟩ := h
  rcases open_slice hu hf with ⟨h0, _⟩ | ⟨ad, l, c, m, n, D, Pl, hcs, hb, hl, hm, hmm, hx, hi⟩
  · simp [Value.cells] at h0
    obtain ⟨rfl, rfl, rfl⟩ := h0
    exact ⟨[], fun _ => rfl, rfl, by simp, Nat.le_refl _, by unfold maxLen; omega, fun h => by omega⟩
  · simp [Value.cells] at hcs
    obtain ⟨rfl, rfl, rfl⟩ := hcs
    have hlm : len ≤ m := by rw [hmm]; split <;> omega
    have key : ∀ i, i < len → ∃ x : α, Ok x ∧ ∀ (j : Nat) (v : Value), (vals x)[j]? = some v → w.cell? ((ad.add (i * size)).add j) = some v := by
      intro i hil
      obtain ⟨cs', hc, ht⟩ := hi i (by omega)
      rw [hC] at hc
      obtain ⟨x, hx, rfl⟩ := hr _ _ _ ht
      obtain ⟨_, _, hat⟩ := World.cells?_some hc
      refine ⟨x, hx, fun j v hj => ?_⟩
      have hj5 : j < size := by
        have := (List.getElem?_eq_some_iff.1 hj).1
        rw [hlen] at this
        exact this
      rw [hat j hj5, hj]
    have hex : ∀ k, k ≤ len → ∃ xs : List α, xs.length = k ∧ (∀ x ∈ xs, Ok x) ∧ ∀ i (h : i < xs.length) (j : Nat) (v : Value), (vals xs[i])[j]? = some v → w.cell? ((ad.add (i * size)).add j) = some v := by
      intro k
      induction k with
      | zero => intro _; exact ⟨[], rfl, by simp, fun i h => by simp at h⟩
      | succ k ih =>
        intro hk
        obtain ⟨xs, h1, h2, h3⟩ := ih (by omega)
        obtain ⟨x, hx, hxc⟩ := key k (by omega)
        refine ⟨xs ++ [x], by simp [h1], ?_, ?_⟩
        · intro y hy
          rcases List.mem_append.1 hy with hy | hy
          · exact h2 y hy
          · rw [List.mem_singleton] at hy; rw [hy]; exact hx
        · intro i hi j v hv
          by_cases hik : i < xs.length
          · rw [List.getElem_append_left hik] at hv
            exact h3 i hik j v hv
          · have : i = k := by rw [List.length_append, List.length_singleton] at hi; omega
            subst this
            rw [List.getElem_append_right (by omega)] at hv
            simp [h1] at hv
            exact hxc j v hv
    obtain ⟨xs, h1, h2, h3⟩ := hex len (Nat.le_refl _)
    refine ⟨xs, fun h => (by cases h), h1, h2, hl, hm, fun hp => ?_⟩
    have hv0 : (vals (xs[0]'(by omega)))[0]? = some ((vals (xs[0]'(by omega)))[0]'(by rw [hlen]; exact hsz)) := List.getElem?_eq_getElem _
    have h00 := h3 0 (by omega) 0 _ hv0
    have hsp : ad.spot = none := by
      rcases hs : ad.spot with _ | s
      · rfl
      · exfalso
        rw [Go.Deep.add_add] at h00
        have e : (ad.add (0 * size + 0)).spot = ad.spot := by cases ad; simp [Addr.add]
        unfold World.cell? at h00
        rw [e, hs] at h00
        split at h00
        · simp at h00
        · cases h00
    obtain ⟨b, off, sp⟩ := ad
    simp only at hsp
    subst hsp
    have hcell : ∀ i (h : i < xs.length) (j : Nat) (v : Value), (vals xs[i])[j]? = some v → w.cell? ⟨b, off + i * size + j, none⟩ = some v := by
      intro i hi j v hv
      have := h3 i hi j v hv
      rw [Go.Deep.add_add, Go.WideShapes.add_plain] at this
      rw [Nat.add_assoc]
      exact this
    exact ⟨b, off, rfl, World.block_lt_of_cell? _ _ (hcell 0 (by omega) 0 _ hv0), hcell⟩
end
theorem SlIn.below {α : Type} {vals : α → List Value} {size : Nat} {Ok : α → Prop} {w w' : World} {a : Option Addr} {len cap : Nat} {xs : List α} (h : SlIn vals size Ok w a len cap xs) (k : Below w.heap.size w w') : SlIn vals size Ok w' a len cap xs := by
  obtain ⟨h0, h1, h2, h3, h4, h5⟩ := h
  refine ⟨h0, h1, h2, h3, h4, fun hp => ?_⟩
  obtain ⟨b, off, rfl, hlt, hc⟩ := h5 hp
  exact ⟨b, off, rfl, Nat.lt_of_lt_of_le hlt k.size, fun i hi j v hv => by rw [k.cell (p := ⟨b, off + i * size + j, none⟩) hlt]; exact hc i hi j v hv⟩

section
variable {H : Type} {enc : TypeId × Value → H} {P : Program} {w : World} {base : Nat} {spare : Nat → Bool} {held : Bool}
/-- One number of a struct. -/
theorem num_of {fs : Array Field} {xs : List (DataW H × List MemPlace)} {n : Nat} {cs : List Value} (hxl : xs.length = fs.size) (hf : ∀ (j : Nat) (f : Field), fs[j]? = some f → DataW.trod enc P w base spare held n f.type ((cs.drop f.offset).take (P.cellsOf f.type)) = xs[j]?) {j o : Nat} {f : Field} {k : IntKind} (hj : fs[j]? = some f) (ho : f.offset = o) (hc : P.cellsOf f.type = 1) (hk : P.underlying f.type = some (.int k)) (hl : o < cs.length) :
    ∃ m, cs[o]? = some (.int k m) ∧ (Lit.int k m).wf = true := by
  have h1 := hf j f hj
  rw [ho, hc, List.drop_eq_getElem_cons hl] at h1
  have hjf : j < fs.size := (Array.getElem?_eq_some_iff.1 hj).1
  rw [List.getElem?_eq_getElem (by omega : j < xs.length)] at h1
  obtain ⟨m, hm, _, hw⟩ := DataW.trod_int hk h1
  refine ⟨m, ?_, hw⟩
  rw [List.getElem?_eq_getElem hl]
  have hm' : [cs[o]] = [Value.int k m] := hm
  exact congrArg some (List.cons.inj hm').1
end

end Go.Proofs.Ytdbdeodcldogmaa
