/-
  Lines in slices that came in.
-/
import Derived.Test.YtlcilpeljnoclaaActs
import Derived.Test.YtlcilpeljnoclaaSame
namespace Go.Proofs.Ytlcilpeljnoclaa
open Go.RowKit Go.ChangeShapes Go.WideShapes Go.Deep
set_option linter.unusedSimpArgs false
set_option linter.unusedVariables false

theorem ln_of {cs : List Value} (h1 : cs.length = 5) (h : ∀ (j : Nat) (k : IntKind), ([.u8, .u8, .u8, .i64, .i64] : List IntKind)[j]? = some k → ∃ n, cs[j]? = some (.int k n) ∧ (Lit.int k n).wf = true) : ∃ x : Ln, x.Fits ∧ cs = x.vals := by
  obtain ⟨n0, e0, w0⟩ := h 0 _ rfl
  obtain ⟨n1, e1, w1⟩ := h 1 _ rfl
  obtain ⟨n2, e2, w2⟩ := h 2 _ rfl
  obtain ⟨n3, e3, w3⟩ := h 3 _ rfl
  obtain ⟨n4, e4, w4⟩ := h 4 _ rfl
  match cs, h1 with
  | [c0, c1, c2, c3, c4], _ =>
    simp at e0 e1 e2 e3 e4
    subst e0 e1 e2 e3 e4
    exact ⟨⟨n0, n1, n2, n3, n4⟩, ⟨In8.of_wf w0, In8.of_wf w1, In8.of_wf w2, In64.of_wf w3, In64.of_wf w4⟩, rfl⟩

theorem line_kinds : ∃ fs, Try.prog.underlying 35 = some (.struct fs) ∧ oneCellFields Try.prog fs = true ∧ ∀ (j : Nat) (k : IntKind), ([.u8, .u8, .u8, .i64, .i64] : List IntKind)[j]? = some k → ∃ f, fs[j]? = some f ∧ Try.prog.underlying f.type = some (.int k) := by
  refine ⟨_, Try.underlying35, by kernel_rfl, ?_⟩
  intro j k hj
  match j, hj with
  | 0, hj => cases hj; exact ⟨_, rfl, Try.underlying28⟩
  | 1, hj => cases hj; exact ⟨_, rfl, Try.underlying28⟩
  | 2, hj => cases hj; exact ⟨_, rfl, Try.underlying29⟩
  | 3, hj => cases hj; exact ⟨_, rfl, Try.underlying2⟩
  | 4, hj => cases hj; exact ⟨_, rfl, Try.underlying2⟩
  | j + 5, hj => simp at hj
section
variable {H : Type} {enc : TypeId × Value → H} {w : World} {base : Nat} {spare : Nat → Bool} {held : Bool}
theorem line_read {fuel : Nat} {cs : List Value} {x : DataW H × List MemPlace} (h : DataW.trod enc Try.prog w base spare held fuel 35 cs = some x) : ∃ x : Ln, x.Fits ∧ cs = x.vals := by
  obtain ⟨fs, hu, ho, hk⟩ := line_kinds
  have hC : Try.prog.cellsOf 35 = 5 := by kernel_rfl
  generalize Try.prog = P at *
  obtain ⟨h1, h2⟩ := nums_read (ks := [.u8, .u8, .u8, .i64, .i64]) hu ho hC hk h
  exact ln_of h1 h2
/-- Lines in a slice that came in. -/
def LinesIn (w : World) (a : Option Addr) (len cap : Nat) (xs : List Ln) : Prop :=
  (a = none → cap = 0) ∧ xs.length = len ∧ (∀ x ∈ xs, x.Fits) ∧ len ≤ cap ∧ cap ≤ maxLen ∧ (0 < len → ∃ b off, a = some ⟨b, off, none⟩ ∧ b < w.heap.size ∧ ∀ i (h : i < xs.length) (j : Nat) (v : Value), xs[i].vals[j]? = some v → w.cell? ⟨b, off + i * 5 + j, none⟩ = some v)
set_option maxRecDepth 100000 in
theorem lines_open {a : Option Addr} {len cap : Nat} {d : DataW H} {p : List MemPlace} (h : DataW.Trod enc Try.prog w base spare held 49 (.slice a len cap) d p) : ∃ xs, LinesIn w a len cap xs := by
  obtain ⟨fuel, hf⟩ := h
  rcases open_slice Try.underlying49 hf with ⟨h0, _⟩ | ⟨ad, l, c, m, n, D, Pl, hcs, hb, hl, hm, hmm, hx, hi⟩
  · simp [Value.cells] at h0
    obtain ⟨rfl, rfl, rfl⟩ := h0
    exact ⟨[], fun _ => rfl, rfl, by simp, Nat.le_refl _, by unfold maxLen; omega, fun h => by omega⟩
  · simp [Value.cells] at hcs
    obtain ⟨rfl, rfl, rfl⟩ := hcs
    have hC : Try.prog.cellsOf 35 = 5 := by kernel_rfl
    have hlm : len ≤ m := by rw [hmm]; split <;> omega
    have key : ∀ i, i < len → ∃ x : Ln, x.Fits ∧ ∀ (j : Nat) (v : Value), x.vals[j]? = some v → w.cell? ((ad.add (i * 5)).add j) = some v := by
      intro i hil
      obtain ⟨cs', hc, ht⟩ := hi i (by omega)
      rw [hC] at hc
      obtain ⟨x, hx, rfl⟩ := line_read ht
      obtain ⟨_, _, hat⟩ := World.cells?_some hc
      refine ⟨x, hx, fun j v hj => ?_⟩
      have hj5 : j < 5 := by
        have := (List.getElem?_eq_some_iff.1 hj).1
        exact this
      rw [hat j hj5, hj]
    have hex : ∀ k, k ≤ len → ∃ xs : List Ln, xs.length = k ∧ (∀ x ∈ xs, x.Fits) ∧ ∀ i (h : i < xs.length) (j : Nat) (v : Value), xs[i].vals[j]? = some v → w.cell? ((ad.add (i * 5)).add j) = some v := by
      intro k
      induction k with
      | zero => intro _; exact ⟨[], rfl, by simp, fun i h => by simp at h⟩
      | succ k ih =>
        intro hk
        obtain ⟨xs, h1, h2, h3⟩ := ih (by omega)
        obtain ⟨x, hx, hxc⟩ := key k (by omega)
        refine ⟨xs ++ [x], by simp [h1], ?_, ?_⟩
        · intro y hy
          rcases List.mem_append.1 hy with hy | hy
          · exact h2 y hy
          · rw [List.mem_singleton] at hy; rw [hy]; exact hx
        · intro i hi j v hv
          by_cases hik : i < xs.length
          · rw [List.getElem_append_left hik] at hv
            exact h3 i hik j v hv
          · have : i = k := by rw [List.length_append, List.length_singleton] at hi; omega
            subst this
            rw [List.getElem_append_right (by omega)] at hv
            simp [h1] at hv
            exact hxc j v hv
    obtain ⟨xs, h1, h2, h3⟩ := hex len (Nat.le_refl _)
    refine ⟨xs, fun h => (by cases h), h1, h2, hl, hm, fun hp => ?_⟩
    have h00 := h3 0 (by omega) 0 _ rfl
    have hsp : ad.spot = none := by
      rcases hs : ad.spot with _ | s
      · rfl
      · exfalso
        rw [Go.Deep.add_add] at h00
        have e : (ad.add (0 * 5 + 0)).spot = ad.spot := by cases ad; simp [Addr.add]
        unfold World.cell? at h00
        rw [e, hs] at h00
        split at h00
        · simp at h00
        · cases h00
    obtain ⟨b, off, sp⟩ := ad
    simp only at hsp
    subst hsp
    have hcell : ∀ i (h : i < xs.length) (j : Nat) (v : Value), xs[i].vals[j]? = some v → w.cell? ⟨b, off + i * 5 + j, none⟩ = some v := by
      intro i hi j v hv
      have := h3 i hi j v hv
      rw [Go.Deep.add_add, Go.WideShapes.add_plain] at this
      rw [Nat.add_assoc]
      exact this
    exact ⟨b, off, rfl, World.block_lt_of_cell? _ _ (hcell 0 (by omega) 0 _ rfl), hcell⟩
end
theorem LinesIn.reads {w : World} {a : Option Addr} {len cap : Nat} {xs : List Ln} (h : LinesIn w a len cap xs) (hn : len ≤ 100000000) : Reads w (.slice a xs.length cap) 5 xs.length (lnCells xs) := by
  obtain ⟨h0, h1, h2, h3, h4, h5⟩ := h
  subst h1
  refine ⟨a, cap, rfl, hn, lnCells_len xs, fun hp => ?_⟩
  obtain ⟨b, off, rfl, hlt, hc⟩ := h5 hp
  refine ⟨b, off, rfl, hlt, fun j hj => ?_⟩
  have hi : j / 5 < xs.length := by omega
  have hm : j % 5 < 5 := Nat.mod_lt _ (by decide)
  have e : j = j / 5 * 5 + j % 5 := by omega
  have hv : xs[j / 5].vals[j % 5]? = some (xs[j / 5].vals[j % 5]'(by rw [Ln.vals_len]; omega)) := List.getElem?_eq_getElem _
  have := hc (j / 5) hi (j % 5) _ hv
  rw [Nat.add_assoc, ← e] at this
  rw [this, ← hv, ← lnCells_get xs (j / 5) (j % 5) hm hi, ← e]
/-- Numbers of a byte in a slice that came in. -/
theorem reads_row {w : World} {a : Option Addr} {len cap : Nat} {zs : List Int} (h : IsRow .u8 w a len cap zs) (hn : len ≤ 100000000) : ∃ xs : List Int, xs.length = len ∧ (a = none → cap = 0) ∧ (∀ p ∈ xs, In8 p) ∧ Reads w (.slice a xs.length cap) 1 xs.length (xs.map (.int .u8)) := by
  rcases h with ⟨rfl, rfl, rfl, rfl⟩ | ⟨x, rfl, hl, hm, hz, hc, hw⟩
  · exact ⟨[], rfl, fun _ => rfl, by simp, none, 0, rfl, by simp, by simp, fun h => by simp at h⟩
  · have hxl : (zs.take len).length = len := by rw [List.length_take]; omega
    refine ⟨zs.take len, hxl, fun h => (by cases h), fun p hp => In8.of_wf (hw p (List.mem_of_mem_take hp)), some x, cap, rfl, by omega, by simp, fun hp => ?_⟩
    rw [hxl] at hp
    have h0 := hc 0 (by omega)
    have hsp : x.spot = none := by
      rcases hs : x.spot with _ | s
      · rfl
      · exfalso
        have e : (x.add 0).spot = x.spot := by cases x; simp [Addr.add]
        unfold World.cell? at h0
        rw [e, hs] at h0
        split at h0
        · simp at h0
        · cases h0
    obtain ⟨b, off, sp⟩ := x
    simp only at hsp
    subst hsp
    refine ⟨b, off, rfl, ?_, fun j hj => ?_⟩
    · have := World.block_lt_of_cell? _ _ h0
      simpa [Addr.add] using this
    · rw [hxl] at hj
      have h1 := hc j (by omega)
      rw [Go.WideShapes.add_plain] at h1
      rw [h1, List.getElem?_map, List.getElem?_take_of_lt (by omega), List.getD_eq_getElem?_getD, List.getElem?_eq_getElem (by omega : j < zs.length)]
      rfl

end Go.Proofs.Ytlcilpeljnoclaa
