/-
  Ledgers, as lists: the document's own words in Lean.
-/
import Derived.Test.YtdbdeodcldogmaaHeap
namespace Go.Proofs.Ytdbdeodcldogmaa
open Go.RowKit
set_option linter.unusedSimpArgs false
set_option linter.unusedVariables false

/-- A line: creditor, debtor, currency, limit, debt. -/
structure Ln where
  cr : Int
  de : Int
  cu : Int
  li : Int
  db : Int
deriving DecidableEq
def Ln.vals (x : Ln) : List Value := [.int .u8 x.cr, .int .u8 x.de, .int .u8 x.cu, .int .i64 x.li, .int .i64 x.db]
theorem Ln.vals_len (x : Ln) : x.vals.length = 5 := rfl
def lnCells (ls : List Ln) : List Value := ls.flatMap Ln.vals
def Ln.val (x : Ln) : Value := .agg #[.int .u8 x.cr, .int .u8 x.de, .int .u8 x.cu, .int .i64 x.li, .int .i64 x.db]
theorem lnCells_len (ls : List Ln) : (lnCells ls).length = ls.length * 5 := flat_len _ 5 Ln.vals_len ls
theorem lnCells_get (ls : List Ln) (i j : Nat) (hj : j < 5) (h : i < ls.length) : (lnCells ls)[i * 5 + j]? = ls[i].vals[j]? := by
  unfold lnCells
  rw [flat_get _ 5 Ln.vals_len ls i j hj, List.getElem?_eq_getElem h]
  rfl
def Ln.rank (x : Ln) : Int := x.cu * 65536 + x.cr * 256 + x.de
def In8 (n : Int) : Prop := 0 ≤ n ∧ n ≤ 255
/-- A line whose ends and currency are bytes, and whose numbers fit. -/
structure Ln.Fits (x : Ln) : Prop where
  cr : In8 x.cr
  de : In8 x.de
  cu : In8 x.cu
  li : In64 x.li
  db : In64 x.db
theorem fits_mk {a b c n d : Int} (h1 : 0 ≤ a ∧ a ≤ 255) (h2 : 0 ≤ b ∧ b ≤ 255) (h3 : 0 ≤ c ∧ c ≤ 255) (h4 : 0 ≤ n ∧ n ≤ 1099511627776) (h5 : 0 ≤ d ∧ d ≤ 1099511627776) : (⟨a, b, c, n, d⟩ : Ln).Fits :=
  ⟨h1, h2, h3, ⟨Int.le_trans (by decide) h4.1, Int.le_trans h4.2 (by decide)⟩, ⟨Int.le_trans (by decide) h5.1, Int.le_trans h5.2 (by decide)⟩⟩
def Ln.is (x : Ln) (a b c : Int) : Bool := x.cr == a && x.de == b && x.cu == c

/-- The place of a line, if there is one. -/
def atL (ls : List Ln) (a b c : Int) : Int := match ls.findIdx? (fun x => x.is a b c) with | some i => i | none => -1
/-- The line itself. -/
def lineL (ls : List Ln) (a b c : Int) : Option Ln := ls.find? fun x => x.is a b c
def noLn : Ln := ⟨0, 0, 0, 0, 0⟩

/-- One step of putting a line: what is out already, and whether the line is put (or is none). -/
def setStep (x : Ln) (s : List Ln × Bool) (y : Ln) : List Ln × Bool :=
  if y.rank = x.rank then s else if s.2 = false ∧ x.rank < y.rank then (s.1 ++ [x, y], true) else (s.1 ++ [y], s.2)
def setTo (ls : List Ln) (x : Ln) : List Ln × Bool := ls.foldl (setStep x) ([], x.li == 0)
/-- A line as it is now; of the limit 0 it is none. -/
def setL (ls : List Ln) (x : Ln) : List Ln := if (setTo ls x).2 = false then (setTo ls x).1 ++ [x] else (setTo ls x).1
theorem setTo_take (ls : List Ln) (x : Ln) (k : Nat) (h : k < ls.length) : setTo (ls.take (k + 1)) x = setStep x (setTo (ls.take k) x) ls[k] := by
  unfold setTo
  rw [List.take_succ_eq_append_getElem h, List.foldl_append]
  rfl

theorem at_found {ls : List Ln} {a b c : Int} {k : Nat} (h : k < ls.length) (hn : ∀ x ∈ ls.take k, x.is a b c = false) (hx : ls[k].is a b c = true) : atL ls a b c = k ∧ lineL ls a b c = some ls[k] := by
  have e : ls = ls.take k ++ ls[k] :: ls.drop (k + 1) := by rw [List.getElem_cons_drop, List.take_append_drop]
  have h1 : ls.findIdx? (fun x => x.is a b c) = some k := by
    rw [List.findIdx?_eq_some_iff_getElem]
    refine ⟨h, hx, fun j hj => ?_⟩
    have := hn ls[j] (by rw [List.mem_take_iff_getElem]; exact ⟨j, by omega, rfl⟩)
    simp [this]
  refine ⟨by unfold atL; rw [h1], ?_⟩
  unfold lineL
  rw [List.find?_eq_some_iff_getElem]
  refine ⟨hx, k, h, rfl, fun j hj => ?_⟩
  have := hn ls[j] (by rw [List.mem_take_iff_getElem]; exact ⟨j, by omega, rfl⟩)
  simp [this]
theorem at_none {ls : List Ln} {a b c : Int} (hn : ∀ x ∈ ls, x.is a b c = false) : atL ls a b c = -1 ∧ lineL ls a b c = none := by
  refine ⟨?_, ?_⟩
  · unfold atL
    rw [List.findIdx?_eq_none_iff.2 hn]
  · unfold lineL
    rw [List.find?_eq_none]
    intro x hx
    simp [hn x hx]
/-- A line is there, at its place; or it is not. -/
theorem at_cases (ls : List Ln) (a b c : Int) : (∃ (k : Nat) (h : k < ls.length), atL ls a b c = k ∧ lineL ls a b c = some ls[k] ∧ ls[k].is a b c = true) ∨ (atL ls a b c = -1 ∧ lineL ls a b c = none ∧ ∀ x ∈ ls, x.is a b c = false) := by
  by_cases h : ∀ x ∈ ls, x.is a b c = false
  · exact .inr ⟨(at_none h).1, (at_none h).2, h⟩
  · left
    cases hf : ls.findIdx? (fun x => x.is a b c) with
    | none =>
      exact absurd (List.findIdx?_eq_none_iff.1 hf) h
    | some k =>
      obtain ⟨hk, hx, hn⟩ := List.findIdx?_eq_some_iff_getElem.1 hf
      obtain ⟨h1, h2⟩ := at_found hk (a := a) (b := b) (c := c) (by
        intro x hx
        obtain ⟨j, hj, rfl⟩ := List.mem_take_iff_getElem.1 hx
        have := hn j (by omega)
        simpa using this) hx
      exact ⟨k, hk, h1, h2, hx⟩

def unput (b : Bool) : Nat := cond b 0 1
theorem unput_le (b : Bool) : unput b ≤ 1 := by cases b <;> simp [unput]
theorem setStep_len (x : Ln) (s : List Ln × Bool) (y : Ln) : (setStep x s y).1.length + unput (setStep x s y).2 ≤ s.1.length + unput s.2 + 1 := by
  unfold setStep
  split
  · omega
  · split
    · rename_i h
      have e1 : (s.1 ++ [x, y]).length = s.1.length + 2 := by simp
      have e2 : unput true = 0 := rfl
      have e3 : unput false = 1 := rfl
      rw [h.1]
      dsimp only
      omega
    · have e1 : (s.1 ++ [y]).length = s.1.length + 1 := by simp
      dsimp only
      omega
theorem setTo_len (ls : List Ln) (x : Ln) : (setTo ls x).1.length ≤ ls.length + 1 := by
  have key : ∀ (l : List Ln) (s : List Ln × Bool), (l.foldl (setStep x) s).1.length + unput (l.foldl (setStep x) s).2 ≤ s.1.length + unput s.2 + l.length := by
    intro l
    induction l with
    | nil => intro s; exact Nat.le_refl _
    | cons y r ih =>
      intro s
      have h1 := ih (setStep x s y)
      have h2 := setStep_len x s y
      simp only [List.foldl_cons, List.length_cons]
      omega
  have := key ls ([], x.li == 0)
  unfold setTo
  simp only [List.length_nil] at this
  have h2 := unput_le (x.li == 0)
  omega
theorem lnCells_append (a b : List Ln) : lnCells (a ++ b) = lnCells a ++ lnCells b := by unfold lnCells; exact List.flatMap_append
theorem lnCells_one (x : Ln) : lnCells [x] = x.vals := by simp [lnCells]

/-- The line, or one without limit and debt. -/
def lnAt (ls : List Ln) (a b c : Int) : Ln := (lineL ls a b c).getD noLn
/-- A line of a ledger: what its numbers may be. -/
structure Ln.Good (x : Ln) : Prop where
  cr : 1 ≤ x.cr ∧ x.cr ≤ 16
  de : 1 ≤ x.de ∧ x.de ≤ 16
  cu : 1 ≤ x.cu ∧ x.cu ≤ 8
  ne : x.cr ≠ x.de
  li : 1 ≤ x.li ∧ x.li ≤ 1099511627776
  db : 0 ≤ x.db ∧ x.db ≤ x.li
theorem Ln.Good.fits {x : Ln} (h : x.Good) : x.Fits := by
  obtain ⟨h1, h2, h3, _, h5, h6⟩ := h
  exact ⟨⟨by omega, by omega⟩, ⟨by omega, by omega⟩, ⟨by omega, by omega⟩, ⟨by omega, by omega⟩, ⟨by omega, by omega⟩⟩
theorem lineL_mem {ls : List Ln} {a b c : Int} {x : Ln} (h : lineL ls a b c = some x) : x ∈ ls ∧ x.cr = a ∧ x.de = b ∧ x.cu = c := by
  unfold lineL at h
  refine ⟨List.mem_of_find?_eq_some h, ?_⟩
  have := List.find?_some h
  unfold Ln.is at this
  simp only [Bool.and_eq_true, beq_iff_eq] at this
  exact ⟨this.1.1, this.1.2, this.2⟩
theorem lnAt_bd {ls : List Ln} (hg : ∀ y ∈ ls, y.Good) (a b c : Int) : 0 ≤ (lnAt ls a b c).db ∧ (lnAt ls a b c).db ≤ (lnAt ls a b c).li ∧ (lnAt ls a b c).li ≤ 1099511627776 := by
  unfold lnAt
  cases h : lineL ls a b c with
  | none => simp [noLn]
  | some x => have := hg x (lineL_mem h).1; have h5 := this.li; have h6 := this.db; simp; omega
theorem lnAt_fits {ls : List Ln} (hg : ∀ y ∈ ls, y.Good) (a b c : Int) : (lnAt ls a b c).Fits := by
  unfold lnAt
  cases h : lineL ls a b c with
  | none => exact ⟨⟨by decide, by decide⟩, ⟨by decide, by decide⟩, ⟨by decide, by decide⟩, ⟨by decide, by decide⟩, ⟨by decide, by decide⟩⟩
  | some x => exact (hg x (lineL_mem h).1).fits
/-- How much may be pushed. -/
def roomL (ps : List Int) (ls : List Ln) (a b c : Int) : Int := if a = b ∨ a ∉ ps ∨ b ∉ ps then 0 else (lnAt ls a b c).db + (lnAt ls b a c).li - (lnAt ls b a c).db
theorem roomL_bd {ps : List Int} {ls : List Ln} (hg : ∀ y ∈ ls, y.Good) (a b c : Int) : 0 ≤ roomL ps ls a b c ∧ roomL ps ls a b c ≤ 2199023255552 := by
  unfold roomL
  have h1 := lnAt_bd hg a b c
  have h2 := lnAt_bd hg b a c
  split <;> omega
/-- What Trust answers, and what stands behind it. -/
def trustE (ps : List Int) (ls : List Ln) (a b c n : Int) : Int :=
  if a < 1 ∨ 16 < a ∨ b < 1 ∨ 16 < b ∨ c < 1 ∨ 8 < c ∨ a = b ∨ n < 0 ∨ 1099511627776 < n then 1
  else if a ∉ ps ∨ b ∉ ps then 7
  else if n < (lnAt ls a b c).db then 14
  else if lineL ls a b c = none ∧ 0 < n ∧ 64 ≤ ls.length then 9 else 0
def trustL (ps : List Int) (ls : List Ln) (a b c n : Int) : List Ln := if trustE ps ls a b c n = 0 then setL ls ⟨a, b, c, n, (lnAt ls a b c).db⟩ else ls

/-- What Forgive answers, and what stands behind it. -/
def forgiveE (ls : List Ln) (a b c n : Int) : Int := if n < 1 then 1 else if lineL ls a b c = none then 7 else if (lnAt ls a b c).db < n then 14 else 0
def Ln.owe (x : Ln) (d : Int) : Ln := ⟨x.cr, x.de, x.cu, x.li, d⟩
def forgiveL (ls : List Ln) (a b c n : Int) : List Ln := if forgiveE ls a b c n = 0 then setL ls ((lnAt ls a b c).owe ((lnAt ls a b c).db - n)) else ls
/-- What Push answers, and what stands behind it. -/
def pushE (ps : List Int) (ls : List Ln) (a b c n : Int) : Int := if n < 1 then 1 else if roomL ps ls a b c < n then 11 else 0
def push1 (ls : List Ln) (a b c n : Int) : List Ln := if (lineL ls a b c).isSome = true then setL ls ((lnAt ls a b c).owe ((lnAt ls a b c).db - min n (lnAt ls a b c).db)) else ls
def push2 (ls : List Ln) (a b c n : Int) : Int := if (lineL ls a b c).isSome = true then n - min n (lnAt ls a b c).db else n
def pushTo (ls : List Ln) (a b c n : Int) : List Ln :=
  if 0 < push2 ls a b c n then setL (push1 ls a b c n) ((lnAt (push1 ls a b c n) b a c).owe ((lnAt (push1 ls a b c n) b a c).db + push2 ls a b c n)) else push1 ls a b c n
def pushL (ps : List Int) (ls : List Ln) (a b c n : Int) : List Ln := if pushE ps ls a b c n = 0 then pushTo ls a b c n else ls
/-- What stands behind setting a line was there, or is that line. -/
theorem setL_mem {ls : List Ln} {x y : Ln} (h : y ∈ setL ls x) : y ∈ ls ∨ (y = x ∧ x.li ≠ 0) := by
  have key : ∀ (l : List Ln) (s : List Ln × Bool), (∀ y ∈ s.1, y ∈ ls ∨ (y = x ∧ x.li ≠ 0)) → (s.2 = false → x.li ≠ 0) → (∀ y ∈ l, y ∈ ls) →
      (∀ y ∈ (l.foldl (setStep x) s).1, y ∈ ls ∨ (y = x ∧ x.li ≠ 0)) ∧ ((l.foldl (setStep x) s).2 = false → x.li ≠ 0) := by
    intro l
    induction l with
    | nil => intro s h1 h2 _; exact ⟨h1, h2⟩
    | cons z r ih =>
      intro s h1 h2 h3
      rw [List.foldl_cons]
      refine ih _ ?_ ?_ (fun y hy => h3 y (by simp [hy]))
      · intro y hy
        unfold setStep at hy
        split at hy
        · exact h1 y hy
        · split at hy
          · rename_i h4
            simp only [List.mem_append, List.mem_cons, List.not_mem_nil, or_false] at hy
            rcases hy with hy | rfl | rfl
            · exact h1 y hy
            · exact .inr ⟨rfl, h2 h4.1⟩
            · exact .inl (h3 _ (by simp))
          · simp only [List.mem_append, List.mem_singleton] at hy
            rcases hy with hy | rfl
            · exact h1 y hy
            · exact .inl (h3 _ (by simp))
      · intro hf
        unfold setStep at hf
        split at hf
        · exact h2 hf
        · split at hf
          · cases hf
          · exact h2 hf
  have k := key ls ([], x.li == 0) (by simp) (by intro h e; rw [e] at h; cases h) (fun y hy => hy)
  unfold setL setTo at h
  split at h
  · rename_i h4
    rcases List.mem_append.1 h with h | h
    · exact k.1 y h
    · rw [List.mem_singleton] at h; exact .inr ⟨h, k.2 h4⟩
  · exact k.1 y h
theorem setL_len (ls : List Ln) (x : Ln) : (setL ls x).length ≤ ls.length + 1 := by
  have key : ∀ (l : List Ln) (s : List Ln × Bool), (l.foldl (setStep x) s).1.length + unput (l.foldl (setStep x) s).2 ≤ s.1.length + unput s.2 + l.length := by
    intro l
    induction l with
    | nil => intro s; exact Nat.le_refl _
    | cons y r ih =>
      intro s
      have h1 := ih (setStep x s y)
      have h2 := setStep_len x s y
      simp only [List.foldl_cons, List.length_cons]
      omega
  have h1 := key ls ([], x.li == 0)
  have h2 := unput_le (x.li == 0)
  simp only [List.length_nil] at h1
  unfold setL setTo
  split
  · rename_i h; rw [h, show unput false = 1 from rfl] at h1; simp; omega
  · omega
/-- What a party is owed, less what it owes; what is owed altogether. -/
def posOf (p c : Int) (x : Ln) : Int := if x.cu = c then (if x.cr = p then x.db else 0) - (if x.de = p then x.db else 0) else 0
def posL (ls : List Ln) (p c : Int) : Int := (ls.map (posOf p c)).sum
def totOf (c : Int) (x : Ln) : Int := if x.cu = c then x.db else 0
def totL (ls : List Ln) (c : Int) : Int := (ls.map (totOf c)).sum
theorem sum_next {α : Type} (f : α → Int) (l : List α) (k : Nat) (h : k < l.length) : ((l.take (k + 1)).map f).sum = ((l.take k).map f).sum + f l[k] := by
  rw [List.take_succ_eq_append_getElem h, List.map_append, List.sum_append]; simp
theorem sum_le {α : Type} (f : α → Int) (m : Int) : ∀ (l : List α), (∀ x ∈ l, -m ≤ f x ∧ f x ≤ m) → -m * (l.length : Int) ≤ (l.map f).sum ∧ (l.map f).sum ≤ m * (l.length : Int)
  | [], _ => by simp
  | x :: r, h => by
    have h1 := h x (by simp)
    have h2 := sum_le f m r (fun y hy => h y (by simp [hy]))
    simp only [List.map_cons, List.sum_cons, List.length_cons]
    rw [show ((r.length + 1 : Nat) : Int) = (r.length : Int) + 1 by omega, Int.mul_add, Int.mul_add]
    omega
theorem posOf_bd {x : Ln} (h : x.Good) (p c : Int) : -1099511627776 ≤ posOf p c x ∧ posOf p c x ≤ 1099511627776 := by
  have h5 := h.li; have h6 := h.db
  unfold posOf
  (repeat' split) <;> omega
theorem totOf_bd {x : Ln} (h : x.Good) (c : Int) : -1099511627776 ≤ totOf c x ∧ totOf c x ≤ 1099511627776 := by
  have h5 := h.li; have h6 := h.db
  unfold totOf
  split <;> omega

end Go.Proofs.Ytdbdeodcldogmaa
