/-
  Ledgers as lists: rooms and positions behind a push; all positions come to nothing; what each act keeps. No program.
-/
import Derived.Test.YtajmladlmkkimaaLedMath
import Derived.Test.YtajmladlmkkimaaRef03
namespace Go.Proofs.Ytajmladlmkkimaa
open Go.RowKit
set_option linter.unusedSimpArgs false
set_option linter.unusedVariables false

theorem map_at {o : Option Ln} {d : Ln → Int} (h : o = none → d noLn = 0) : ((o.map fun x => x.owe (d x)).getD noLn) = (o.getD noLn).owe (d (o.getD noLn)) := by
  cases o with
  | none => simp only [Option.map_none, Option.getD_none]; rw [h rfl]; rfl
  | some x => rfl
theorem push_at {ls : List Ln} (h : Inv ls) {a b c n : Int} (hab : a ≠ b) (h1 : 1 ≤ n) (hr : n ≤ (lnAt ls a b c).db + (lnAt ls b a c).li - (lnAt ls b a c).db) :
    lnAt (pushTo ls a b c n) a b c = (lnAt ls a b c).owe ((lnAt ls a b c).db - min n (lnAt ls a b c).db) ∧ lnAt (pushTo ls a b c n) b a c = (lnAt ls b a c).owe ((lnAt ls b a c).db + (n - min n (lnAt ls a b c).db)) := by
  obtain ⟨_, _, hl, _⟩ := push_done h hab h1 hr
  have bx := lnAt_bd h.good a b c
  have by' := lnAt_bd h.good b a c
  constructor
  · show (lineL (pushTo ls a b c n) a b c).getD noLn = _
    rw [hl, if_pos ⟨rfl, rfl, rfl⟩]
    exact map_at (o := lineL ls a b c) (d := fun x => x.db - min n x.db) (fun _ => by simp [noLn]; omega)
  · show (lineL (pushTo ls a b c n) b a c).getD noLn = _
    rw [hl, if_neg (by omega), if_pos ⟨rfl, rfl, rfl⟩]
    refine map_at (o := lineL ls b a c) (d := fun y => y.db + (n - min n (lnAt ls a b c).db)) (fun hn => ?_)
    rw [lnAt_none hn] at hr
    simp [noLn] at hr ⊢
    omega
theorem push_room {ps : List Int} {ls : List Ln} (h : Inv ls) {a b c n : Int} (h1 : 1 ≤ n) (hr : n ≤ roomL ps ls a b c) :
    roomL ps (pushTo ls a b c n) a b c = roomL ps ls a b c - n ∧ roomL ps (pushTo ls a b c n) b a c = roomL ps ls b a c + n := by
  have hz : ¬ (a = b ∨ a ∉ ps ∨ b ∉ ps) := by
    intro hz
    unfold roomL at hr
    rw [if_pos hz] at hr
    omega
  have hz2 : ¬ (b = a ∨ b ∉ ps ∨ a ∉ ps) := by
    intro k
    refine hz ?_
    rcases k with k | k | k
    · exact .inl k.symm
    · exact .inr (.inr k)
    · exact .inr (.inl k)
  have hr' : n ≤ (lnAt ls a b c).db + (lnAt ls b a c).li - (lnAt ls b a c).db := by unfold roomL at hr; rwa [if_neg hz] at hr
  obtain ⟨e1, e2⟩ := push_at h (fun k => hz (.inl k)) h1 hr'
  unfold roomL
  rw [if_neg hz, if_neg hz, if_neg hz2, if_neg hz2, e1, e2]
  simp only [Ln.owe]
  constructor <;> omega
theorem posOf_noLn (p c : Int) : posOf p c noLn = 0 := by unfold posOf noLn; simp
theorem posOf_owe {ls : List Ln} (h : Inv ls) (a b c d p : Int) (hab : a ≠ b) (hd : lineL ls a b c = none → d = 0) :
    posOf p c ((lnAt ls a b c).owe d) = posOf p c (lnAt ls a b c) + (if p = a then d - (lnAt ls a b c).db else 0) - (if p = b then d - (lnAt ls a b c).db else 0) := by
  cases hl : lineL ls a b c with
  | none =>
    rw [lnAt_none hl, hd hl, show noLn.owe 0 = noLn from rfl, posOf_noLn]
    simp [noLn]
  | some x =>
    obtain ⟨_, k1, k2, k3⟩ := lineL_mem hl
    rw [lnAt_some hl]
    unfold posOf Ln.owe
    simp only [k1, k2, k3]
    by_cases e1 : p = a
    · have e2 : ¬ p = b := by omega
      simp [e1, e2, Ne.symm (show b ≠ a by omega)]
      have : ¬ a = b := hab
      simp [this, Ne.symm hab]
      try omega
    · by_cases e2 : p = b
      · simp [e2, hab, Ne.symm hab]; omega
      · simp [e1, e2, Ne.symm e1, Ne.symm e2, show ¬ a = p by omega, show ¬ b = p by omega]
theorem push_pos {ps : List Int} {ls : List Ln} (h : Inv ls) {a b c n : Int} (h1 : 1 ≤ n) (hr : n ≤ roomL ps ls a b c) (p : Int) :
    posL (pushTo ls a b c n) p c = posL ls p c - (if p = a then n else 0) + (if p = b then n else 0) := by
  have hz : ¬ (a = b ∨ a ∉ ps ∨ b ∉ ps) := by
    intro hz
    unfold roomL at hr
    rw [if_pos hz] at hr
    omega
  have hab : a ≠ b := fun k => hz (.inl k)
  have hr' : n ≤ (lnAt ls a b c).db + (lnAt ls b a c).li - (lnAt ls b a c).db := by unfold roomL at hr; rwa [if_neg hz] at hr
  obtain ⟨_, _, _, hs⟩ := push_done h hab h1 hr'
  unfold posL
  rw [hs (posOf p c) (posOf_noLn p c)]
  have bx := lnAt_bd h.good a b c
  rw [posOf_owe h a b c _ p hab (fun k => by rw [lnAt_none k]; simp [noLn]; omega), posOf_owe h b a c _ p (Ne.symm hab) (fun k => by rw [lnAt_none k] at hr' ⊢; simp [noLn] at hr' ⊢; omega)]
  by_cases e1 : p = a
  · have e2 : ¬ p = b := by omega
    rw [if_pos e1, if_neg e2, if_neg e2, if_pos e1, if_pos e1, if_neg e2]
    omega
  · by_cases e2 : p = b
    · rw [if_neg e1, if_pos e2, if_pos e2, if_neg e1, if_neg e1, if_pos e2]
      omega
    · rw [if_neg e1, if_neg e2, if_neg e2, if_neg e1, if_neg e1, if_neg e2]
      omega

/-- All positions come to nothing. -/
theorem sum_swap {α β : Type} (f : α → β → Int) (l : List α) : ∀ (m : List β), (l.map fun a => (m.map (f a)).sum).sum = (m.map fun b => (l.map fun a => f a b).sum).sum
  | [] => by
    simp only [List.map_nil, List.sum_nil]
    induction l with
    | nil => rfl
    | cons x r ih => simpa using ih
  | b :: m => by
    simp only [List.map_cons, List.sum_cons]
    rw [← sum_swap f l m]
    clear sum_swap
    induction l with
    | nil => rfl
    | cons x r ih => simp only [List.map_cons, List.sum_cons, ih]; omega
theorem sum_one (z d : Int) : ∀ k : Nat, ((List.range k).map fun p : Nat => if z = (p : Int) then d else 0).sum = if 0 ≤ z ∧ z < (k : Int) then d else 0
  | 0 => by simp; omega
  | k + 1 => by
    rw [List.range_succ, List.map_append, List.sum_append, sum_one z d k]
    simp only [List.map_singleton, List.sum_singleton]
    by_cases h1 : z = (k : Int)
    · rw [if_neg (by omega), if_pos h1, if_pos (by omega)]; omega
    · rw [if_neg h1]
      by_cases h2 : 0 ≤ z ∧ z < (k : Int)
      · rw [if_pos h2, if_pos (by omega)]; omega
      · rw [if_neg h2, if_neg (by omega)]; omega
theorem pos_zero {ls : List Ln} (h : ∀ x ∈ ls, x.Good) (c : Int) : ((List.range 20).map fun p : Nat => posL ls (p : Int) c).sum = 0 := by
  unfold posL
  rw [sum_swap (fun (p : Nat) (x : Ln) => posOf (p : Int) c x) (List.range 20) ls]
  have hz : ∀ x ∈ ls, ((List.range 20).map fun p : Nat => posOf (p : Int) c x).sum = 0 := by
    intro x hx
    have g := h x hx
    have g1 := g.cr; have g2 := g.de
    unfold posOf
    by_cases hc : x.cu = c
    · have e : ∀ l : List Nat, (l.map fun p : Nat => if x.cu = c then (if x.cr = (p : Int) then x.db else 0) - (if x.de = (p : Int) then x.db else 0) else 0).sum = (l.map fun p : Nat => if x.cr = (p : Int) then x.db else 0).sum - (l.map fun p : Nat => if x.de = (p : Int) then x.db else 0).sum := by
        intro l
        induction l with
        | nil => rfl
        | cons q r ih => simp only [List.map_cons, List.sum_cons, if_pos hc] at ih ⊢; omega
      rw [e, sum_one, sum_one, if_pos (by omega), if_pos (by omega)]
      omega
    · have e : ∀ l : List Nat, (l.map fun p : Nat => if x.cu = c then (if x.cr = (p : Int) then x.db else 0) - (if x.de = (p : Int) then x.db else 0) else 0).sum = 0 := by
        intro l
        induction l with
        | nil => rfl
        | cons q r ih => simp only [List.map_cons, List.sum_cons, if_neg hc] at ih ⊢; omega
      exact e _
  have e : ∀ l : List Ln, (∀ x ∈ l, ((List.range 20).map fun p : Nat => posOf (p : Int) c x).sum = 0) → (l.map fun x => ((List.range 20).map fun p : Nat => posOf (p : Int) c x).sum).sum = 0 := by
    intro l
    induction l with
    | nil => intro _; rfl
    | cons y r ih => intro hl; rw [List.map_cons, List.sum_cons, hl y (by simp), ih (fun x hx => hl x (by simp [hx]))]; rfl
  exact e ls hz

/-- A ledger: parties and lines. -/
structure LInv (ps : List Int) (ls : List Ln) : Prop where
  inv : Inv ls
  len : ls.length ≤ 64
  ends : ∀ x ∈ ls, x.cr ∈ ps ∧ x.de ∈ ps
  bd : ∀ p ∈ ps, 1 ≤ p ∧ p ≤ 16
  rise : ps.Pairwise (· < ·)
theorem LInv.nil : LInv [] [] := ⟨Inv.nil, by simp, by simp, by simp, List.Pairwise.nil⟩
theorem setL_len_there {ls : List Ln} (h : Inv ls) (x : Ln) {y : Ln} (hy : y ∈ ls) (hr : y.rank = x.rank) : (setL ls x).length ≤ ls.length := by
  have hsp := split_sorted x.rank ls h.sorted
  have hm : y ∈ eqL x.rank ls := by unfold eqL; exact List.mem_filter.2 ⟨hy, by simpa using hr⟩
  have h1 : 1 ≤ (eqL x.rank ls).length := List.length_pos_of_mem hm
  have h2 := congrArg List.length hsp
  rw [List.length_append, List.length_append] at h2
  rw [setL_eq h.sorted, List.length_append, List.length_append]
  split <;> simp <;> omega
theorem LInv.push {ps : List Int} {ls : List Ln} (h : LInv ps ls) (a b c n : Int) : LInv ps (pushL ps ls a b c n) := by
  unfold pushL
  by_cases he : pushE ps ls a b c n = 0
  · rw [if_pos he]
    have h1 : 1 ≤ n ∧ n ≤ roomL ps ls a b c := by unfold pushE at he; (repeat' split at he) <;> omega
    have hz : ¬ (a = b ∨ a ∉ ps ∨ b ∉ ps) := by
      intro hz
      unfold roomL at h1
      rw [if_pos hz] at h1
      omega
    have hr' : n ≤ (lnAt ls a b c).db + (lnAt ls b a c).li - (lnAt ls b a c).db := by unfold roomL at h1; rw [if_neg hz] at h1; exact h1.2
    obtain ⟨i, l, f, _⟩ := push_done h.inv (fun k => hz (.inl k)) h1.1 hr'
    refine ⟨i, by rw [l]; exact h.len, fun x hx => ?_, h.bd, h.rise⟩
    have hx2 := (line_iff i x.cr x.de x.cu x).2 ⟨hx, rfl, rfl, rfl⟩
    rw [f] at hx2
    have ha : a ∈ ps := Classical.byContradiction fun k => hz (.inr (.inl k))
    have hb : b ∈ ps := Classical.byContradiction fun k => hz (.inr (.inr k))
    split at hx2
    · rename_i k; rw [← k.1, ← k.2.1]; exact ⟨ha, hb⟩
    · split at hx2
      · rename_i k; rw [← k.1, ← k.2.1]; exact ⟨hb, ha⟩
      · exact h.ends x (lineL_mem hx2).1
  · rw [if_neg he]; exact h
theorem LInv.forgive {ps : List Int} {ls : List Ln} (h : LInv ps ls) (a b c n : Int) : LInv ps (forgiveL ls a b c n) := by
  unfold forgiveL
  by_cases he : forgiveE ls a b c n = 0
  · rw [if_pos he]
    unfold forgiveE at he
    cases hl : lineL ls a b c with
    | none => rw [hl] at he; (repeat' split at he) <;> simp_all
    | some x =>
      rw [lnAt_some hl] at he ⊢
      have h1 : 1 ≤ n ∧ n ≤ x.db := by (repeat' split at he) <;> omega
      have hg := h.inv.good x (lineL_mem hl).1
      have hdb := hg.db
      obtain ⟨i, f, _, l⟩ := owe_set h.inv hl (d := x.db - n) (by omega) (by omega)
      refine ⟨i, by rw [l]; exact h.len, fun y hy => ?_, h.bd, h.rise⟩
      have hy2 := (line_iff i y.cr y.de y.cu y).2 ⟨hy, rfl, rfl, rfl⟩
      rw [f] at hy2
      split at hy2
      · rename_i k
        obtain ⟨m, k1, k2, _⟩ := lineL_mem hl
        have := h.ends x m
        rw [← k.1, ← k.2.1, ← k1, ← k2]; exact this
      · exact h.ends y (lineL_mem hy2).1
  · rw [if_neg he]; exact h
theorem LInv.trust {ps : List Int} {ls : List Ln} (h : LInv ps ls) (a b c n : Int) : LInv ps (trustL ps ls a b c n) := by
  unfold trustL
  by_cases he : trustE ps ls a b c n = 0
  · rw [if_pos he]
    have hs : ¬ (a < 1 ∨ 16 < a ∨ b < 1 ∨ 16 < b ∨ c < 1 ∨ 8 < c ∨ a = b ∨ n < 0 ∨ 1099511627776 < n) ∧ ¬ (a ∉ ps ∨ b ∉ ps) ∧ ¬ n < (lnAt ls a b c).db ∧ ¬ (lineL ls a b c = none ∧ 0 < n ∧ 64 ≤ ls.length) := by
      unfold trustE at he
      split at he
      · omega
      · split at he
        · omega
        · split at he
          · omega
          · split at he
            · omega
            · rename_i k1 k2 k3 k4; exact ⟨k1, k2, k3, k4⟩
    obtain ⟨k1, k2, k3, k4⟩ := hs
    have bx := lnAt_bd h.inv.good a b c
    have hg : (⟨a, b, c, n, (lnAt ls a b c).db⟩ : Ln).li ≠ 0 → (⟨a, b, c, n, (lnAt ls a b c).db⟩ : Ln).Good := fun hn => by
      have hn' : n ≠ 0 := hn
      refine ⟨⟨?_, ?_⟩, ⟨?_, ?_⟩, ⟨?_, ?_⟩, ?_, ⟨?_, ?_⟩, ⟨?_, ?_⟩⟩ <;> simp only <;> omega
    have hf : (⟨a, b, c, n, (lnAt ls a b c).db⟩ : Ln).Fits := fits_mk ⟨by omega, by omega⟩ ⟨by omega, by omega⟩ ⟨by omega, by omega⟩ ⟨by omega, by omega⟩ ⟨by omega, by omega⟩
    refine ⟨h.inv.set hg, ?_, fun y hy => ?_, h.bd, h.rise⟩
    · cases hl : lineL ls a b c with
      | none =>
        by_cases hn : 0 < n
        · have h1 : ls.length < 64 := Nat.lt_of_not_le fun k => k4 ⟨hl, hn, k⟩
          have h2 := setL_len ls ⟨a, b, c, n, (lnAt ls a b c).db⟩
          omega
        · have h0 : n = 0 := by omega
          have h2 := congrArg List.length (split_sorted (⟨a, b, c, n, (lnAt ls a b c).db⟩ : Ln).rank ls h.inv.sorted)
          have h3 := h.len
          rw [List.length_append, List.length_append] at h2
          rw [setL_eq h.inv.sorted, List.length_append, List.length_append, if_pos (show (⟨a, b, c, n, (lnAt ls a b c).db⟩ : Ln).li = 0 from h0)]
          simp only [List.length_nil]
          omega
      | some x =>
        obtain ⟨m, e1, e2, e3⟩ := lineL_mem hl
        exact Nat.le_trans (setL_len_there h.inv _ m (rank_of e1 e2 e3)) h.len
    · rcases (setL_mem_iff h.inv.sorted _ y).1 hy with ⟨m, _⟩ | ⟨rfl, _⟩
      · exact h.ends y m
      · exact ⟨Classical.byContradiction fun k => k2 (.inl k), Classical.byContradiction fun k => k2 (.inr k)⟩
  · rw [if_neg he]; exact h

end Go.Proofs.Ytajmladlmkkimaa

/-
  Ledgers as lists: Open; a party, a line behind all that stand. No program.
-/
namespace Go.Proofs.Ytajmladlmkkimaa
open Go.RowKit
set_option linter.unusedSimpArgs false
set_option linter.unusedVariables false

theorem openTo_mem {ps : List Int} {p q : Int} : q ∈ openTo ps p 17 ↔ (1 ≤ q ∧ q ≤ 16) ∧ (q = p ∨ q ∈ ps) := by
  unfold openTo
  rw [List.mem_filter, List.mem_map]
  constructor
  · rintro ⟨⟨i, hi, rfl⟩, h⟩
    rw [List.mem_range] at hi
    simp at h
    exact ⟨⟨by omega, by omega⟩, h⟩
  · rintro ⟨⟨h1, h2⟩, h⟩
    refine ⟨⟨q.toNat - 1, List.mem_range.2 (by omega), by omega⟩, by simpa using h⟩
theorem openTo_rise (ps : List Int) (p : Int) (k : Nat) : (openTo ps p k).Pairwise (· < ·) := by
  unfold openTo
  refine List.Pairwise.filter _ (List.pairwise_map.2 ?_)
  exact (List.pairwise_lt_range).imp fun {a b} h => by omega
theorem rise_ext : ∀ (l m : List Int), l.Pairwise (· < ·) → m.Pairwise (· < ·) → (∀ x, x ∈ l ↔ x ∈ m) → l = m
  | [], [], _, _, _ => rfl
  | [], y :: m, _, _, h => by have := (h y).2 (by simp); cases this
  | x :: l, [], _, _, h => by have := (h x).1 (by simp); cases this
  | x :: l, y :: m, hl, hm, h => by
    rw [List.pairwise_cons] at hl hm
    have hxy : x = y := by
      have h1 := (h x).1 (by simp)
      have h2 := (h y).2 (by simp)
      rcases List.mem_cons.1 h1 with h1 | h1
      · exact h1
      · rcases List.mem_cons.1 h2 with h2 | h2
        · exact h2.symm
        · have a := hl.1 y h2
          have b := hm.1 x h1
          omega
    subst hxy
    rw [rise_ext l m hl.2 hm.2 fun z => ?_]
    constructor
    · intro hz
      have a := hl.1 z hz
      rcases List.mem_cons.1 ((h z).1 (by simp [hz])) with e | e
      · omega
      · exact e
    · intro hz
      have a := hm.1 z hz
      rcases List.mem_cons.1 ((h z).2 (by simp [hz])) with e | e
      · omega
      · exact e
theorem LInv.open {ps : List Int} {ls : List Ln} (h : LInv ps ls) (p : Int) : LInv (openP ps p) ls := by
  unfold openP
  split
  · exact h
  · split
    · exact h
    · refine ⟨h.inv, h.len, fun x hx => ?_, fun q hq => (openTo_mem.1 hq).1, openTo_rise _ _ _⟩
      obtain ⟨h1, h2⟩ := h.ends x hx
      exact ⟨openTo_mem.2 ⟨h.bd _ h1, .inr h1⟩, openTo_mem.2 ⟨h.bd _ h2, .inr h2⟩⟩
/-- A party above all that stand. -/
theorem open_last {ps : List Int} {p : Int} (hr : ps.Pairwise (· < ·)) (hb : ∀ q ∈ ps, 1 ≤ q ∧ q ≤ 16) (hp : 1 ≤ p ∧ p ≤ 16) (hl : ∀ q ∈ ps, q < p) : openE ps p = 0 ∧ openP ps p = ps ++ [p] := by
  have hn : p ∉ ps := fun h => by have := hl p h; omega
  have h1 : ¬ (p < 1 ∨ 16 < p) := by omega
  unfold openE openP
  rw [if_neg h1, if_neg h1, if_neg hn, if_neg hn]
  refine ⟨rfl, rise_ext _ _ (openTo_rise _ _ _) ?_ fun q => ?_⟩
  · rw [List.pairwise_append]
    exact ⟨hr, by simp, fun a ha b hb => by rw [List.mem_singleton] at hb; subst hb; exact hl a ha⟩
  · rw [openTo_mem, List.mem_append, List.mem_singleton]
    constructor
    · rintro ⟨_, h | h⟩
      · exact .inr h
      · exact .inl h
    · rintro (h | h)
      · exact ⟨hb q h, .inr h⟩
      · subst h; exact ⟨hp, .inl rfl⟩
/-- A line above all that stand. -/
theorem set_last {ls : List Ln} {x : Ln} (hs : ls.Pairwise fun x y => x.rank < y.rank) (hl : ∀ y ∈ ls, y.rank < x.rank) (hx : x.li ≠ 0) : setL ls x = ls ++ [x] := by
  refine sorted_ext _ _ (setL_sorted hs x) ?_ fun y => ?_
  · rw [List.pairwise_append]
    exact ⟨hs, by simp, fun a ha b hb => by rw [List.mem_singleton] at hb; subst hb; exact hl a ha⟩
  · rw [setL_mem_iff hs, List.mem_append, List.mem_singleton]
    constructor
    · rintro (⟨h, _⟩ | ⟨h, _⟩)
      · exact .inl h
      · exact .inr h
    · rintro (h | h)
      · exact .inl ⟨h, by have := hl y h; omega⟩
      · exact .inr ⟨h, hx⟩
/-- A line twice: the second stands. -/
theorem set_twice {ls : List Ln} {x y : Ln} (hs : ls.Pairwise fun x y => x.rank < y.rank) (hr : y.rank = x.rank) : setL (setL ls y) x = setL ls x := by
  refine sorted_ext _ _ (setL_sorted (setL_sorted hs y) x) (setL_sorted hs x) fun z => ?_
  rw [setL_mem_iff (setL_sorted hs y), setL_mem_iff hs, setL_mem_iff hs]
  constructor
  · rintro (⟨h | h, h2⟩ | h)
    · exact .inl ⟨h.1, h2⟩
    · exact absurd (by rw [h.1]; exact hr) h2
    · exact .inr h
  · rintro (⟨h, h2⟩ | h)
    · exact .inl ⟨.inl ⟨h, by rw [hr]; exact h2⟩, h2⟩
    · exact .inr h

end Go.Proofs.Ytajmladlmkkimaa
