/-
  Ledgers as lists: what a push does to lines, rooms and positions. No program.
-/
import Derived.Test.YtdpkcamhafkkbaaLedMath
namespace Go.Proofs.Ytdpkcamhafkkbaa
open Go.RowKit
set_option linter.unusedSimpArgs false
set_option linter.unusedVariables false

theorem sorted_ext : ∀ (l m : List Ln), l.Pairwise (fun x y => x.rank < y.rank) → m.Pairwise (fun x y => x.rank < y.rank) → (∀ x, x ∈ l ↔ x ∈ m) → l = m
  | [], [], _, _, _ => rfl
  | [], y :: m, _, _, h => absurd ((h y).2 (by simp)) (by simp)
  | x :: l, [], _, _, h => absurd ((h x).1 (by simp)) (by simp)
  | x :: l, y :: m, h1, h2, h => by
    rw [List.pairwise_cons] at h1 h2
    have exy : x = y := by
      have a := (h x).1 (by simp)
      have b := (h y).2 (by simp)
      rcases List.mem_cons.1 a with a | a
      · exact a
      · rcases List.mem_cons.1 b with b | b
        · exact b.symm
        · have c := h2.1 x a
          have d := h1.1 y b
          omega
    subst exy
    congr 1
    refine sorted_ext l m h1.2 h2.2 fun z => ?_
    constructor
    · intro hz
      rcases List.mem_cons.1 ((h z).1 (by simp [hz])) with e | e
      · subst e; have := h1.1 z hz; omega
      · exact e
    · intro hz
      rcases List.mem_cons.1 ((h z).2 (by simp [hz])) with e | e
      · subst e; have := h2.1 z hz; omega
      · exact e
/-- Lines in order are told by what is found. -/
theorem Inv.ext {ls ms : List Ln} (h : Inv ls) (k : Inv ms) (e : ∀ a b c, lineL ls a b c = lineL ms a b c) : ls = ms := by
  refine sorted_ext ls ms h.sorted k.sorted fun x => ?_
  constructor
  · intro hx
    have := (line_iff h x.cr x.de x.cu x).2 ⟨hx, rfl, rfl, rfl⟩
    rw [e] at this
    exact ((line_iff k _ _ _ _).1 this).1
  · intro hx
    have := (line_iff k x.cr x.de x.cu x).2 ⟨hx, rfl, rfl, rfl⟩
    rw [← e] at this
    exact ((line_iff h _ _ _ _).1 this).1

theorem lnAt_some {ls : List Ln} {a b c : Int} {x : Ln} (h : lineL ls a b c = some x) : lnAt ls a b c = x := by unfold lnAt; rw [h]; rfl
theorem lnAt_none {ls : List Ln} {a b c : Int} (h : lineL ls a b c = none) : lnAt ls a b c = noLn := by unfold lnAt; rw [h]; rfl
/-- Setting another debt on a line that is there. -/
theorem owe_set {ls : List Ln} (h : Inv ls) {a b c d : Int} {x : Ln} (hx : lineL ls a b c = some x) (h0 : 0 ≤ d) (h1 : d ≤ x.li) :
    Inv (setL ls (x.owe d)) ∧ (∀ a' b' c', lineL (setL ls (x.owe d)) a' b' c' = if a = a' ∧ b = b' ∧ c = c' then some (x.owe d) else lineL ls a' b' c') ∧
      (∀ f : Ln → Int, f noLn = 0 → ((setL ls (x.owe d)).map f).sum = (ls.map f).sum - f x + f (x.owe d)) ∧ (setL ls (x.owe d)).length = ls.length := by
  obtain ⟨hm, k1, k2, k3⟩ := (line_iff h a b c x).1 hx
  have hg := h.good x hm
  have hg2 : (x.owe d).Good := ⟨hg.cr, hg.de, hg.cu, hg.ne, hg.li, ⟨h0, h1⟩⟩
  have hli : (x.owe d).li ≠ 0 := by have := hg.li; show x.li ≠ 0; omega
  refine ⟨h.set (fun _ => hg2), fun a' b' c' => ?_, fun f hf => ?_, ?_⟩
  · rw [line_set h (fun _ => hg2) hg2.fits a' b' c', if_neg hli]
    show (if x.cr = a' ∧ x.de = b' ∧ x.cu = c' then _ else _) = _
    rw [k1, k2, k3]
  · rw [sum_set h hg2.fits f hf, if_neg hli]
    congr 2
    show f (lnAt ls x.cr x.de x.cu) = f x
    rw [k1, k2, k3, lnAt_some hx]
  · have h2 : ((setL ls (x.owe d)).map fun _ => (1 : Int)).sum = (ls.map fun _ => (1 : Int)).sum := by
      have e1 : ((setL ls (x.owe d)).map fun y : Ln => if y = noLn then (0 : Int) else 1).sum = (ls.map fun y : Ln => if y = noLn then (0 : Int) else 1).sum := by
        rw [sum_set h hg2.fits (fun y => if y = noLn then (0 : Int) else 1) (by simp), if_neg hli]
        show _ - (if lnAt ls x.cr x.de x.cu = noLn then (0 : Int) else 1) + _ = _
        rw [k1, k2, k3, lnAt_some hx]
        have n1 : x ≠ noLn := by rintro rfl; have := hg.li; simp [noLn] at this
        have n2 : x.owe d ≠ noLn := by intro e; have := congrArg Ln.li e; exact hli this
        rw [if_neg n1, if_neg n2]
        omega
      have e2 : ∀ l : List Ln, (∀ y ∈ l, y.Good) → (l.map fun y : Ln => if y = noLn then (0 : Int) else 1) = l.map fun _ => (1 : Int) := by
        intro l hl
        refine List.map_congr_left fun y hy => ?_
        have n1 : y ≠ noLn := by rintro rfl; have := (hl _ hy).li; simp [noLn] at this
        rw [if_neg n1]
      rw [e2 _ (h.set (fun _ => hg2)).good, e2 _ h.good] at e1
      exact e1
    have e3 : ∀ l : List Ln, (l.map fun _ => (1 : Int)).sum = (l.length : Int) := by
      intro l
      induction l with
      | nil => rfl
      | cons y r ih => simp only [List.map_cons, List.sum_cons, List.length_cons, ih]; omega
    rw [e3, e3] at h2
    omega

/-- A push that goes: what is found behind it, sums, and that it is a ledger still. -/
theorem push_done {ls : List Ln} (h : Inv ls) {a b c n : Int} (hab : a ≠ b) (h1 : 1 ≤ n) (hr : n ≤ (lnAt ls a b c).db + (lnAt ls b a c).li - (lnAt ls b a c).db) :
    Inv (pushTo ls a b c n) ∧ (pushTo ls a b c n).length = ls.length ∧
    (∀ a' b' c', lineL (pushTo ls a b c n) a' b' c' = if a = a' ∧ b = b' ∧ c = c' then (lineL ls a b c).map (fun x => x.owe (x.db - min n x.db)) else if b = a' ∧ a = b' ∧ c = c' then (lineL ls b a c).map (fun y => y.owe (y.db + (n - min n (lnAt ls a b c).db))) else lineL ls a' b' c') ∧
    (∀ f : Ln → Int, f noLn = 0 → ((pushTo ls a b c n).map f).sum = (ls.map f).sum - f (lnAt ls a b c) + f ((lnAt ls a b c).owe ((lnAt ls a b c).db - min n (lnAt ls a b c).db)) - f (lnAt ls b a c) + f ((lnAt ls b a c).owe ((lnAt ls b a c).db + (n - min n (lnAt ls a b c).db)))) := by
  have bx := lnAt_bd h.good a b c
  have by' := lnAt_bd h.good b a c
  have hown : noLn.owe 0 = noLn := rfl
  -- the first part
  obtain ⟨i1, l1, s1, n1⟩ : Inv (push1 ls a b c n) ∧ (∀ a' b' c', lineL (push1 ls a b c n) a' b' c' = if a = a' ∧ b = b' ∧ c = c' then (lineL ls a b c).map (fun x => x.owe (x.db - min n x.db)) else lineL ls a' b' c') ∧
      (∀ f : Ln → Int, f noLn = 0 → ((push1 ls a b c n).map f).sum = (ls.map f).sum - f (lnAt ls a b c) + f ((lnAt ls a b c).owe ((lnAt ls a b c).db - min n (lnAt ls a b c).db))) ∧ (push1 ls a b c n).length = ls.length := by
    unfold push1
    cases hl : lineL ls a b c with
    | none =>
      rw [if_neg (by simp), lnAt_none hl]
      refine ⟨h, fun a' b' c' => ?_, fun f hf => ?_, rfl⟩
      · by_cases e : a = a' ∧ b = b' ∧ c = c'
        · rw [if_pos e]; obtain ⟨rfl, rfl, rfl⟩ := e; rw [hl]; rfl
        · rw [if_neg e]
      · rw [show noLn.owe (noLn.db - min n noLn.db) = noLn by unfold Ln.owe noLn; simp; omega, hf]; omega
    | some x =>
      simp only [Option.isSome_some, if_true]
      rw [lnAt_some hl]
      rw [lnAt_some hl] at bx
      obtain ⟨q1, q2, q3, q4⟩ := owe_set h hl (d := x.db - min n x.db) (by omega) (by omega)
      exact ⟨q1, q2, q3, q4⟩
  have e2 : push2 ls a b c n = n - min n (lnAt ls a b c).db := by
    unfold push2
    cases hl : lineL ls a b c with
    | none => rw [if_neg (by simp), lnAt_none hl]; simp [noLn]; omega
    | some x => simp only [Option.isSome_some, if_true]
  have hy1 : lineL (push1 ls a b c n) b a c = lineL ls b a c := by rw [l1, if_neg (by omega)]
  have hyA : lnAt (push1 ls a b c n) b a c = lnAt ls b a c := by unfold lnAt; rw [hy1]
  unfold pushTo
  rw [e2, hyA]
  by_cases hp : 0 < n - min n (lnAt ls a b c).db
  · rw [if_pos hp]
    have hex : ∃ y, lineL ls b a c = some y := by
      cases hl : lineL ls b a c with
      | none => rw [lnAt_none hl] at by' hr; simp [noLn] at hr; omega
      | some y => exact ⟨y, rfl⟩
    obtain ⟨y, hy⟩ := hex
    rw [lnAt_some hy] at by' hr ⊢
    obtain ⟨q1, q2, q3, q4⟩ := owe_set i1 (hy1.trans hy) (d := y.db + (n - min n (lnAt ls a b c).db)) (by omega) (by omega)
    refine ⟨q1, q4.trans n1, fun a' b' c' => ?_, fun f hf => ?_⟩
    · rw [q2]
      by_cases e : b = a' ∧ a = b' ∧ c = c'
      · rw [if_pos e, if_neg (by omega), if_pos e, hy]; rfl
      · rw [if_neg e, l1, if_neg e]
    · rw [q3 f hf, s1 f hf]
  · rw [if_neg hp]
    have hz : n - min n (lnAt ls a b c).db = 0 := by omega
    rw [hz]
    refine ⟨i1, n1, fun a' b' c' => ?_, fun f hf => ?_⟩
    · rw [l1]
      by_cases e : a = a' ∧ b = b' ∧ c = c'
      · rw [if_pos e, if_pos e]
      · rw [if_neg e, if_neg e]
        by_cases e' : b = a' ∧ a = b' ∧ c = c'
        · rw [if_pos e']
          obtain ⟨rfl, rfl, rfl⟩ := e'
          cases lineL ls b a c with
          | none => rfl
          | some y => simp [Ln.owe]
        · rw [if_neg e']
    · rw [s1 f hf]
      rw [show (lnAt ls b a c).owe ((lnAt ls b a c).db + 0) = lnAt ls b a c by unfold Ln.owe; simp]
      omega

end Go.Proofs.Ytdpkcamhafkkbaa
