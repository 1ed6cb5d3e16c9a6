/-
  Graphs as lists of edges: what may go from whom to whom, and setting it.
-/
import Derived.Test.YtajmladlmkkimaaRef05
namespace Go.Proofs.Ytajmladlmkkimaa
set_option linter.unusedSimpArgs false
set_option linter.unusedVariables false

theorem hitE_iff {a b : Int} {x : Fw} : hitE a b x = true ↔ x.fr = a ∧ x.tt = b := by unfold hitE; simp
theorem prefE_mem {f : Int → Int → Int} {m : Nat} {x : Fw} : x ∈ prefE f m ↔ ∃ i, i < m ∧ edgeAt f i = x ∧ 0 < x.am := by
  unfold prefE
  simp only [List.mem_filter, List.mem_map, List.mem_range, decide_eq_true_eq]
  constructor
  · rintro ⟨⟨i, hi, he⟩, h⟩; exact ⟨i, hi, he, h⟩
  · rintro ⟨i, hi, he, h⟩; exact ⟨⟨i, hi, he⟩, h⟩
/-- What is no party. -/
def inP (p : Int) : Prop := 1 ≤ p ∧ p ≤ 16
theorem allE_mem {f : Int → Int → Int} {x : Fw} : x ∈ allE f ↔ inP x.fr ∧ inP x.tt ∧ x.am = f x.fr x.tt ∧ 0 < x.am := by
  unfold allE
  rw [prefE_mem]
  constructor
  · rintro ⟨i, hi, he, h⟩
    unfold edgeAt at he
    subst he
    refine ⟨⟨?_, ?_⟩, ⟨?_, ?_⟩, rfl, h⟩ <;> dsimp only <;> omega
  · rintro ⟨⟨h1, h2⟩, ⟨h3, h4⟩, h5, h6⟩
    refine ⟨(x.fr.toNat - 1) * 16 + (x.tt.toNat - 1), by omega, ?_, h6⟩
    rw [edge_at f (by omega)]
    have e1 : ((x.fr.toNat - 1 : Nat) : Int) + 1 = x.fr := by omega
    have e2 : ((x.tt.toNat - 1 : Nat) : Int) + 1 = x.tt := by omega
    rw [e1, e2, ← h5]
theorem capE_allE {f : Int → Int → Int} {p q : Int} (hp : inP p) (hq : inP q) : capE (allE f) p q = if 0 < f p q then f p q else 0 := by
  unfold capE
  cases hf : (allE f).find? (hitE p q) with
  | some x =>
    have h1 := hitE_iff.1 (List.find?_some hf)
    have h2 := allE_mem.1 (List.mem_of_find?_eq_some hf)
    obtain ⟨rfl, rfl⟩ := h1
    have h3 : 0 < f x.fr x.tt := by have := h2.2.2.1; have := h2.2.2.2; omega
    rw [if_pos h3]
    exact h2.2.2.1
  | none =>
    by_cases h3 : 0 < f p q
    · have := List.find?_eq_none.1 hf ⟨p, q, f p q⟩ (allE_mem.2 ⟨hp, hq, rfl, h3⟩)
      exact absurd (hitE_iff.2 ⟨rfl, rfl⟩) this
    · rw [if_neg h3]
theorem capE_out {f : Int → Int → Int} {p q : Int} (h : ¬ (inP p ∧ inP q)) : capE (allE f) p q = 0 := by
  refine capE_none fun x hx => ?_
  have h2 := allE_mem.1 hx
  cases hh : hitE p q x with
  | false => rfl
  | true =>
    obtain ⟨rfl, rfl⟩ := hitE_iff.1 hh
    exact absurd ⟨h2.1, h2.2.1⟩ h
theorem prefE_congr {f g : Int → Int → Int} (h : ∀ p q, inP p → inP q → f p q = g p q ∨ (f p q ≤ 0 ∧ g p q ≤ 0)) : ∀ m, m ≤ 256 → prefE f m = prefE g m
  | 0, _ => rfl
  | m + 1, hm => by
    rw [prefE_succ, prefE_succ, prefE_congr h m (by omega)]
    congr 1
    have h1 := h (((m / 16 : Nat) : Int) + 1) (((m % 16 : Nat) : Int) + 1) ⟨by omega, by omega⟩ ⟨by omega, by omega⟩
    unfold edgeAt
    dsimp only
    rcases h1 with h1 | ⟨h1, h2⟩
    · rw [h1]
    · rw [if_neg (by omega), if_neg (by omega)]
theorem allE_congr {f g : Int → Int → Int} (h : ∀ p q, inP p → inP q → f p q = g p q ∨ (f p q ≤ 0 ∧ g p q ≤ 0)) : allE f = allE g := prefE_congr h 256 (Nat.le_refl _)
/-- One capacity is another one. -/
def updE (f : Int → Int → Int) (a b n p q : Int) : Int := if p = a ∧ q = b then n else f p q
theorem setE_allE (f : Int → Int → Int) (a b n : Int) : setE (allE f) a b n = allE (updE f a b n) := by
  unfold setE
  refine allE_congr fun p q hp hq => ?_
  unfold capF updE
  by_cases h : p = a ∧ q = b
  · rw [if_pos h, if_pos h]; exact .inl rfl
  · rw [if_neg h, if_neg h, capE_allE hp hq]
    by_cases h2 : 0 < f p q
    · rw [if_pos h2]; exact .inl rfl
    · rw [if_neg h2]; exact .inr ⟨by omega, by omega⟩
/-- Every list of edges that New makes is one of all edges of a function. -/
theorem newL_allE (es : List Fw) : ∃ f, newL es = allE f := by
  have key : ∀ (es : List Fw) (f : Int → Int → Int), ∃ g, es.foldl (fun E x => setE E x.fr x.tt x.am) (allE f) = allE g := by
    intro es
    induction es with
    | nil => intro f; exact ⟨f, rfl⟩
    | cons x r ih => intro f; rw [List.foldl_cons, setE_allE]; exact ih _
  have h0 : allE (fun _ _ => 0) = [] := by
    refine List.eq_nil_iff_forall_not_mem.2 fun x hx => ?_
    have := allE_mem.1 hx
    omega
  have := key es (fun _ _ => 0)
  rw [h0] at this
  exact this
/-- Bounds go through setting. -/
theorem CapB.all {f : Int → Int → Int} {B : Int} (h : ∀ p q, inP p → inP q → f p q ≤ B) : CapB (allE f) B := by
  intro x hx
  have := allE_mem.1 hx
  exact ⟨this.2.2.2, by rw [this.2.2.1]; exact h _ _ this.1 this.2.1⟩
/-- Capacities as a function of all ends: none of what is no party, and of one to itself; none below 0; both ways of a pair within twice B. -/
structure GInv (f : Int → Int → Int) (B : Int) : Prop where
  nn : ∀ p q, 0 ≤ f p q
  pair : ∀ p q, f p q + f q p ≤ B
  out : ∀ p q, ¬ (inP p ∧ inP q) → f p q = 0
  self : ∀ p, f p p = 0
theorem GInv.le {f : Int → Int → Int} {B : Int} (h : GInv f B) (p q : Int) : f p q ≤ B := by have := h.pair p q; have := h.nn q p; omega
theorem GInv.cap {f : Int → Int → Int} {B : Int} (h : GInv f B) (p q : Int) : capE (allE f) p q = f p q := by
  by_cases hi : inP p ∧ inP q
  · rw [capE_allE hi.1 hi.2]
    by_cases h0 : 0 < f p q
    · rw [if_pos h0]
    · rw [if_neg h0]; have := h.nn p q; omega
  · rw [capE_out hi, h.out p q hi]
theorem GInv.capB {f : Int → Int → Int} {B : Int} (h : GInv f B) : CapB (allE f) B := CapB.all fun p q _ _ => h.le p q
theorem GInv.ends {f : Int → Int → Int} {B : Int} (h : GInv f B) {p q : Int} (h0 : 0 < f p q) : inP p ∧ inP q ∧ p ≠ q := by
  by_cases hi : inP p ∧ inP q
  · refine ⟨hi.1, hi.2, ?_⟩
    rintro rfl
    have := h.self p
    omega
  · have := h.out p q hi; omega
def zeroF (_ _ : Int) : Int := 0
theorem allE_zero : allE zeroF = [] := by
  refine List.eq_nil_iff_forall_not_mem.2 fun x hx => ?_
  have := allE_mem.1 hx
  unfold zeroF at this
  omega
theorem GInv.zero {B : Int} (h : 0 ≤ B) : GInv zeroF B := ⟨fun _ _ => Int.le_refl _, fun _ _ => by unfold zeroF; omega, fun _ _ _ => rfl, fun _ => rfl⟩
/-- A push of n from a to b. -/
def pushF (f : Int → Int → Int) (a b n p q : Int) : Int := if p = b ∧ q = a then f b a + n else if p = a ∧ q = b then f a b - n else f p q
theorem GInv.push {f : Int → Int → Int} {B : Int} (h : GInv f B) {a b n : Int} (h1 : 1 ≤ n) (h2 : n ≤ f a b) : GInv (pushF f a b n) B := by
  obtain ⟨ha, hb, hne⟩ := h.ends (p := a) (q := b) (by omega)
  have hba := h.nn b a
  refine ⟨fun p q => ?_, fun p q => ?_, fun p q hi => ?_, fun p => ?_⟩
  · unfold pushF
    have := h.nn p q
    split
    · omega
    · split <;> omega
  · have hp := h.pair p q
    have hab := h.pair a b
    by_cases c1 : p = b ∧ q = a
    · obtain ⟨rfl, rfl⟩ := c1
      have e1 : pushF f q p n p q = f p q + n := by unfold pushF; rw [if_pos ⟨rfl, rfl⟩]
      have e2 : pushF f q p n q p = f q p - n := by unfold pushF; rw [if_neg (fun e => hne e.1), if_pos ⟨rfl, rfl⟩]
      omega
    · by_cases c2 : p = a ∧ q = b
      · obtain ⟨rfl, rfl⟩ := c2
        have e1 : pushF f p q n p q = f p q - n := by unfold pushF; rw [if_neg (fun e => hne e.1), if_pos ⟨rfl, rfl⟩]
        have e2 : pushF f p q n q p = f q p + n := by unfold pushF; rw [if_pos ⟨rfl, rfl⟩]
        omega
      · have e1 : pushF f a b n p q = f p q := by unfold pushF; rw [if_neg c1, if_neg c2]
        have e2 : pushF f a b n q p = f q p := by unfold pushF; rw [if_neg (fun e => c2 ⟨e.2, e.1⟩), if_neg (fun e => c1 ⟨e.2, e.1⟩)]
        omega
  · unfold pushF
    rw [if_neg (fun e => hi ⟨by rw [e.1]; exact hb, by rw [e.2]; exact ha⟩), if_neg (fun e => hi ⟨by rw [e.1]; exact ha, by rw [e.2]; exact hb⟩)]
    exact h.out p q hi
  · unfold pushF
    rw [if_neg (fun e => hne (e.2.symm.trans e.1)), if_neg (fun e => hne (e.1.symm.trans e.2))]
    exact h.self p
theorem pushEE_allE {f : Int → Int → Int} {B : Int} (h : GInv f B) (a b n : Int) : pushEE (allE f) a b n = if n < 1 then 1 else if f a b < n then 11 else 0 := by
  unfold pushEE
  rw [h.cap]
theorem pushEL_allE {f : Int → Int → Int} {B : Int} (h : GInv f B) (a b n : Int) : pushEL (allE f) a b n = if 1 ≤ n ∧ n ≤ f a b then allE (pushF f a b n) else allE f := by
  unfold pushEL
  rw [pushEE_allE h, h.cap, h.cap]
  by_cases h1 : n < 1
  · rw [if_pos h1, if_neg (by omega), if_neg (by omega)]
  · by_cases h2 : f a b < n
    · rw [if_neg h1, if_pos h2, if_neg (by omega), if_neg (by omega)]
    · rw [if_neg h1, if_neg h2, if_pos rfl, if_pos ⟨by omega, by omega⟩, setE_allE, setE_allE]
      rfl
/-- The capacities of a graph that is made of these edges. -/
def newF (es : List Fw) : Int → Int → Int := es.foldl (fun f x => updE f x.fr x.tt x.am) zeroF
theorem newL_newF (es : List Fw) : newL es = allE (newF es) := by
  have key : ∀ (es : List Fw) (f : Int → Int → Int), es.foldl (fun E x => setE E x.fr x.tt x.am) (allE f) = allE (es.foldl (fun f x => updE f x.fr x.tt x.am) f) := by
    intro es
    induction es with
    | nil => intro f; rfl
    | cons x r ih => intro f; rw [List.foldl_cons, List.foldl_cons, setE_allE]; exact ih _
  unfold newL newF
  rw [← key es zeroF, allE_zero]
/-- Capacities none of which is above 2 to the 41. -/
theorem newF_inv {es : List Fw} (h : ∀ x ∈ es, okX x) : GInv (newF es) 4398046511104 := by
  have key : ∀ (es : List Fw) (f : Int → Int → Int), (∀ x ∈ es, okX x) → ((∀ p q, 0 ≤ f p q ∧ f p q ≤ 2199023255552) ∧ (∀ p q, ¬ (inP p ∧ inP q) → f p q = 0) ∧ ∀ p, f p p = 0) →
      ((∀ p q, 0 ≤ (es.foldl (fun f x => updE f x.fr x.tt x.am) f) p q ∧ (es.foldl (fun f x => updE f x.fr x.tt x.am) f) p q ≤ 2199023255552) ∧ (∀ p q, ¬ (inP p ∧ inP q) → (es.foldl (fun f x => updE f x.fr x.tt x.am) f) p q = 0) ∧ ∀ p, (es.foldl (fun f x => updE f x.fr x.tt x.am) f) p p = 0) := by
    intro es
    induction es with
    | nil => intro f _ h; exact h
    | cons x r ih =>
      intro f hx h
      rw [List.foldl_cons]
      refine ih _ (fun y hy => hx y (List.mem_cons_of_mem _ hy)) ?_
      have ho := hx x (List.mem_cons_self ..)
      unfold okX at ho
      obtain ⟨h1, h2, h3⟩ := h
      refine ⟨fun p q => ?_, fun p q hi => ?_, fun p => ?_⟩
      · unfold updE
        have := h1 p q
        split <;> omega
      · unfold updE
        rw [if_neg (fun e => hi ⟨by unfold inP; omega, by unfold inP; omega⟩)]
        exact h2 p q hi
      · unfold updE
        rw [if_neg (fun e => ho.2.2.1 (e.1.symm.trans e.2))]
        exact h3 p
  obtain ⟨h1, h2, h3⟩ := key es zeroF h ⟨fun p q => by unfold zeroF; omega, fun _ _ _ => rfl, fun _ => rfl⟩
  exact ⟨fun p q => (h1 p q).1, fun p q => by have := (h1 p q).2; have := (h1 q p).2; show newF es p q + newF es q p ≤ _; unfold newF; omega, h2, h3⟩

end Go.Proofs.Ytajmladlmkkimaa
