/-
  Ways in a graph: who is reached over so many steps; the shortest way, party by party the least one.
-/
import Derived.Test.YtmfacfnbokadmaaRndMath
namespace Go.Proofs.Ytmfacfnbokadmaa
set_option linter.unusedSimpArgs false
set_option linter.unusedVariables false

/-- Just so many steps lead from p to q. -/
def wk (f : Int → Int → Int) : Nat → Int → Int → Prop
  | 0, p, q => p = q
  | n + 1, p, q => ∃ r, 0 < f p r ∧ wk f n r q
theorem wk_add {f : Int → Int → Int} : ∀ {m n : Nat} {p r q : Int}, wk f m p r → wk f n r q → wk f (m + n) p q
  | 0, n, p, r, q, h1, h2 => by
    have : p = r := h1
    subst this
    rw [Nat.zero_add]; exact h2
  | m + 1, n, p, r, q, ⟨x, h1, h3⟩, h2 => by
    rw [Nat.add_right_comm]
    exact ⟨x, h1, wk_add h3 h2⟩
theorem wk_one {f : Int → Int → Int} {p q : Int} (h : 0 < f p q) : wk f 1 p q := ⟨q, h, rfl⟩
theorem wk_split {f : Int → Int → Int} : ∀ {m n : Nat} {p q : Int}, wk f (m + n) p q → ∃ r, wk f m p r ∧ wk f n r q
  | 0, n, p, q, h => ⟨p, rfl, by rwa [Nat.zero_add] at h⟩
  | m + 1, n, p, q, h => by
    rw [Nat.add_right_comm] at h
    obtain ⟨x, h1, h2⟩ := h
    obtain ⟨r, h3, h4⟩ := wk_split h2
    exact ⟨r, ⟨x, h1, h3⟩, h4⟩
theorem wk_last {f : Int → Int → Int} {n : Nat} {p q : Int} (h : wk f (n + 1) p q) : ∃ r, wk f n p r ∧ 0 < f r q := by
  obtain ⟨r, h1, x, h2, h3⟩ := wk_split (m := n) (n := 1) h
  have : x = q := h3
  subst this
  exact ⟨r, h1, h2⟩
/-- All parties. -/
def parts : List Int := (List.range 16).map fun i : Nat => (i : Int) + 1
theorem parts_mem {p : Int} : p ∈ parts ↔ inP p := by
  unfold parts inP
  simp only [List.mem_map, List.mem_range]
  constructor
  · rintro ⟨i, hi, rfl⟩; omega
  · rintro ⟨h1, h2⟩; exact ⟨p.toNat - 1, by omega, by omega⟩
theorem parts_get (i : Nat) (h : i < parts.length) : parts[i] = (i : Int) + 1 := by simp [parts]
theorem parts_len : parts.length = 16 := by simp [parts]
/-- Who is reached from p over so many steps at most. -/
def inS (f : Int → Int → Int) (p : Int) : Nat → Int → Bool
  | 0, q => q == p
  | n + 1, q => inS f p n q || parts.any fun r => inS f p n r && decide (0 < f r q)
theorem inS_iff {f : Int → Int → Int} {B : Int} (h : GInv f B) (p : Int) : ∀ (n : Nat) (q : Int), inS f p n q = true ↔ ∃ m, m ≤ n ∧ wk f m p q
  | 0, q => by
    unfold inS
    rw [beq_iff_eq]
    constructor
    · rintro rfl; exact ⟨0, Nat.le_refl _, rfl⟩
    · rintro ⟨m, hm, hw⟩
      have : m = 0 := by omega
      subst this
      exact (show p = q from hw).symm
  | n + 1, q => by
    show (inS f p n q || parts.any fun r => inS f p n r && decide (0 < f r q)) = true ↔ _
    rw [Bool.or_eq_true, List.any_eq_true]
    constructor
    · rintro (h1 | ⟨r, hr, h2⟩)
      · obtain ⟨m, hm, hw⟩ := (inS_iff h p n q).1 h1
        exact ⟨m, by omega, hw⟩
      · rw [Bool.and_eq_true, decide_eq_true_eq] at h2
        obtain ⟨m, hm, hw⟩ := (inS_iff h p n r).1 h2.1
        exact ⟨m + 1, by omega, wk_add hw (wk_one h2.2)⟩
    · rintro ⟨m, hm, hw⟩
      by_cases hmn : m ≤ n
      · exact .inl ((inS_iff h p n q).2 ⟨m, hmn, hw⟩)
      · have : m = n + 1 := by omega
        subst this
        obtain ⟨r, h1, h2⟩ := wk_last hw
        refine .inr ⟨r, parts_mem.2 (h.ends h2).1, ?_⟩
        rw [Bool.and_eq_true, decide_eq_true_eq]
        exact ⟨(inS_iff h p n r).2 ⟨n, Nat.le_refl _, h1⟩, h2⟩
theorem inS_mono {f : Int → Int → Int} {p q : Int} {n m : Nat} (hn : n ≤ m) (h : inS f p n q = true) : inS f p m q = true := by
  induction m with
  | zero => have : n = 0 := by omega
            subst this; exact h
  | succ m ih =>
    by_cases hm : n ≤ m
    · show (inS f p m q || _) = true
      rw [ih hm]; rfl
    · have : n = m + 1 := by omega
      subst this; exact h
/-- A way has its parties, one behind the other. -/
theorem wk_nodes {f : Int → Int → Int} : ∀ {m : Nat} {p q : Int}, wk f m p q ↔ ∃ x : Nat → Int, x 0 = p ∧ x m = q ∧ ∀ i, i < m → 0 < f (x i) (x (i + 1))
  | 0, p, q => by
    constructor
    · intro h; exact ⟨fun _ => p, rfl, h, fun i hi => by omega⟩
    · rintro ⟨x, h1, h2, _⟩; exact h1.symm.trans h2
  | m + 1, p, q => by
    constructor
    · rintro ⟨r, h1, h2⟩
      obtain ⟨x, h3, h4, h5⟩ := wk_nodes.1 h2
      refine ⟨fun i => match i with | 0 => p | i + 1 => x i, rfl, h4, fun i hi => ?_⟩
      match i with
      | 0 => show 0 < f p (x 0); rw [h3]; exact h1
      | i + 1 => exact h5 i (by omega)
    · rintro ⟨x, h1, h2, h3⟩
      refine ⟨x 1, ?_, wk_nodes.2 ⟨fun i => x (i + 1), rfl, h2, fun i hi => h3 (i + 1) (by omega)⟩⟩
      rw [← h1]; exact h3 0 (by omega)
/-- Who is reached at all is reached over fifteen steps. -/
theorem wk_short {f : Int → Int → Int} {B : Int} (h : GInv f B) {p q : Int} : ∀ (m : Nat), wk f m p q → ∃ k, k ≤ 15 ∧ wk f k p q := by
  intro m
  induction m using Nat.strongRecOn with
  | _ m ih =>
    intro hw
    by_cases hm : m ≤ 15
    · exact ⟨m, hm, hw⟩
    · obtain ⟨x, h1, h2, h3⟩ := wk_nodes.1 hw
      have hin : ∀ i, i ≤ 16 → inP (x i) := by
        intro i hi
        by_cases h0 : i = 0
        · subst h0; exact (h.ends (h3 0 (by omega))).1
        · have := h3 (i - 1) (by omega)
          rw [show i - 1 + 1 = i by omega] at this
          exact (h.ends this).2.1
      obtain ⟨i, j, c1, c2, c3⟩ := pigeon 16 (fun i => (x i).toNat - 1) (fun i hi => by
        have := hin i hi
        unfold inP at this
        try dsimp only
        omega)
      have hij : x i = x j := by
        have a := hin i (by omega)
        have b := hin j c2
        unfold inP at a b
        try dsimp only at c3
        omega
      have hw' : wk f (m - (j - i)) p q := by
        refine wk_nodes.2 ⟨fun k => if k ≤ i then x k else x (k + (j - i)), ?_, ?_, fun k hk => ?_⟩
        · try dsimp only
          rw [if_pos (by omega)]; exact h1
        · try dsimp only
          by_cases hz : m - (j - i) ≤ i
          · rw [if_pos hz, ← h2]
            have : m = j := by omega
            rw [show m - (j - i) = i by omega, this]; exact hij
          · rw [if_neg hz, ← h2]
            congr 1
            omega
        · try dsimp only
          by_cases k1 : k + 1 ≤ i
          · rw [if_pos (by omega), if_pos k1]; exact h3 k (by omega)
          · rw [if_neg k1]
            by_cases k2 : k ≤ i
            · have : k = i := by omega
              subst this
              rw [if_pos k2, hij, show k + 1 + (j - k) = j + 1 by omega]
              exact h3 j (by omega)
            · rw [if_neg k2, show k + 1 + (j - i) = (k + (j - i)) + 1 by omega]
              exact h3 (k + (j - i)) (by omega)
      exact ih (m - (j - i)) (by omega) hw'
theorem inS_all {f : Int → Int → Int} {B : Int} (h : GInv f B) {p q : Int} {m : Nat} (hw : wk f m p q) : inS f p 15 q = true := by
  obtain ⟨k, h1, h2⟩ := wk_short h m hw
  exact (inS_iff h p 15 q).2 ⟨k, h1, h2⟩
/-- How many steps, at least. -/
def dst (f : Int → Int → Int) (p q : Int) : Nat := ((List.range 17).find? fun n => inS f p n q).getD 0
theorem dst_eq {f : Int → Int → Int} {p q : Int} {n : Nat} (hn : n ≤ 16) (h : inS f p n q = true) (hm : ∀ m, m < n → inS f p m q = false) : dst f p q = n := by
  unfold dst
  have : (List.range 17).find? (fun n => inS f p n q) = some n := by
    rw [List.find?_eq_some_iff_getElem]
    refine ⟨h, n, by simp; omega, by simp, fun j hj => ?_⟩
    simp [hm j hj]
  rw [this]
  rfl
theorem dst_spec {f : Int → Int → Int} {p q : Int} (h : inS f p 16 q = true) : inS f p (dst f p q) q = true ∧ dst f p q ≤ 16 ∧ ∀ m, m < dst f p q → inS f p m q = false := by
  have key : ∀ n, n ≤ 16 → inS f p n q = true → ∃ k, k ≤ n ∧ inS f p k q = true ∧ ∀ m, m < k → inS f p m q = false := by
    intro n
    induction n using Nat.strongRecOn with
    | _ n ih =>
      intro hn h1
      by_cases hx : ∃ m, m < n ∧ inS f p m q = true
      · obtain ⟨m, m1, m2⟩ := hx
        obtain ⟨k, k1, k2⟩ := ih m m1 (by omega) m2
        exact ⟨k, by omega, k2⟩
      · refine ⟨n, Nat.le_refl _, h1, fun m hm => ?_⟩
        cases hb : inS f p m q with
        | false => rfl
        | true => exact absurd ⟨m, hm, hb⟩ hx
  obtain ⟨k, k1, k2, k3⟩ := key 16 (Nat.le_refl _) h
  rw [dst_eq k1 k2 k3]
  exact ⟨k2, k1, k3⟩
/-- The next party of the shortest way, if n steps are left behind it. -/
def nxt (f : Int → Int → Int) (b : Int) (n : Nat) (p : Int) : Int := (parts.find? fun q => decide (0 < f p q) && inS f q n b).getD 0
def goS (f : Int → Int → Int) (b : Int) : Nat → Int → List Int
  | 0, p => [p]
  | n + 1, p => p :: goS f b n (nxt f b n p)
/-- The shortest way. -/
def shortW (f : Int → Int → Int) (a b : Int) : List Int := if inP a ∧ inP b ∧ a ≠ b ∧ inS f a 16 b = true then goS f b (dst f a b) a else []
theorem goS_len (f : Int → Int → Int) (b : Int) : ∀ (n : Nat) (p : Int), (goS f b n p).length = n + 1
  | 0, p => rfl
  | n + 1, p => by show (goS f b n _).length + 1 = _; rw [goS_len f b n]
theorem parts_find {q : Int → Bool} {x : Int} (hx : inP x) (h : q x = true) (hm : ∀ y, inP y → y < x → q y = false) : parts.find? q = some x := by
  rw [List.find?_eq_some_iff_getElem]
  have hx' := hx
  unfold inP at hx'
  refine ⟨h, x.toNat - 1, by unfold parts; simp; omega, by unfold parts; simp; omega, fun j hj => ?_⟩
  have : q (parts[j]'(by unfold parts; simp; omega)) = false := by
    refine hm _ ?_ ?_
    · unfold parts inP; simp; omega
    · unfold parts; simp; omega
  simp [this]
/-- One step on: there is a next party, from which one step less is left. -/
theorem nxt_spec {f : Int → Int → Int} {B : Int} (h : GInv f B) {p b : Int} {n : Nat} (h1 : inS f p (n + 1) b = true) (h2 : inS f p n b = false) (hb : ∀ m, m ≤ n → inS f p m b = false) :
    inP (nxt f b n p) ∧ 0 < f p (nxt f b n p) ∧ inS f (nxt f b n p) n b = true ∧ (∀ m, m < n → inS f (nxt f b n p) m b = false) ∧ ∀ y, inP y → y < nxt f b n p → ¬ (0 < f p y ∧ inS f y n b = true) := by
  obtain ⟨m, hm, hw⟩ := (inS_iff h p (n + 1) b).1 h1
  have hmn : m = n + 1 := by
    rcases Nat.lt_or_ge n m with h3 | h3
    · omega
    · have := (inS_iff h p n b).2 ⟨m, h3, hw⟩
      rw [h2] at this; cases this
  subst hmn
  obtain ⟨r, r1, r2⟩ := hw
  have hr : (decide (0 < f p r) && inS f r n b) = true := by
    rw [Bool.and_eq_true, decide_eq_true_eq]
    exact ⟨r1, (inS_iff h r n b).2 ⟨n, Nat.le_refl _, r2⟩⟩
  cases hf : parts.find? fun q => decide (0 < f p q) && inS f q n b with
  | none =>
    have := List.find?_eq_none.1 hf r (parts_mem.2 (h.ends r1).2.1)
    exact absurd hr this
  | some x =>
    have hx : nxt f b n p = x := by unfold nxt; rw [hf]; rfl
    rw [hx]
    obtain ⟨hq, i, hi, hxi, hlt⟩ := List.find?_eq_some_iff_getElem.1 hf
    rw [Bool.and_eq_true, decide_eq_true_eq] at hq
    have hinx : inP x := parts_mem.1 (List.mem_of_find?_eq_some hf)
    refine ⟨hinx, hq.1, hq.2, fun m hm => ?_, fun y hy hyx hc => ?_⟩
    · cases hc : inS f x m b with
      | false => rfl
      | true =>
        obtain ⟨k, k1, k2⟩ := (inS_iff h x m b).1 hc
        have := (inS_iff h p (m + 1) b).2 ⟨k + 1, by omega, x, hq.1, k2⟩
        rw [hb (m + 1) (by omega)] at this
        cases this
    · unfold inP at hy hinx
      have hpi := parts_get i hi
      rw [parts_len] at hi
      have hj : y.toNat - 1 < i := by omega
      have := hlt (y.toNat - 1) hj
      have hy2 : parts[y.toNat - 1]'(by rw [parts_len]; omega) = y := by rw [parts_get]; omega
      rw [hy2] at this
      simp [hc.1, hc.2] at this

end Go.Proofs.Ytmfacfnbokadmaa
