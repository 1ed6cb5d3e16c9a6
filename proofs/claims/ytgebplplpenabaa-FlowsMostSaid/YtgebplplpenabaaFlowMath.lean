/-
  Routes: pushes along shortest ways; that so many ways do.
-/
import Derived.Test.YtgebplplpenabaaLeastMath
namespace Go.Proofs.Ytgebplplpenabaa
set_option linter.unusedSimpArgs false
set_option linter.unusedVariables false

/-- A way, party by party: x 0 to x m; no way is shorter. -/
structure WayX (f : Int → Int → Int) (s t : Int) (x : Nat → Int) (m : Nat) : Prop where
  x0 : x 0 = s
  xm : x m = t
  edge : ∀ i, i < m → 0 < f (x i) (x (i + 1))
  ne : ∀ i j, i < j → j ≤ m → x i ≠ x j
  inp : ∀ i, i ≤ m → inP (x i)
  m1 : 1 ≤ m
  m15 : m ≤ 15
  least : ∀ k, wk f k s t → m ≤ k
/-- The parties of the shortest way. -/
def wayX (f : Int → Int → Int) (s t : Int) (i : Nat) : Int := (shortW f s t).getD i 0
theorem wayX_of {f : Int → Int → Int} {B : Int} (h : GInv f B) {s t : Int} (hne : shortW f s t ≠ []) : ∃ m, (shortW f s t).length = m + 1 ∧ WayX f s t (wayX f s t) m := by
  unfold wayX
  unfold shortW at hne ⊢
  by_cases hc : inP s ∧ inP t ∧ s ≠ t ∧ inS f s 16 t = true
  · rw [if_pos hc]
    obtain ⟨hs, ht, hst, hr⟩ := hc
    have hat := goS_at h (dst f s t) s hs hr rfl
    have hlen := goS_len f t (dst f s t) s
    obtain ⟨d1, d2, d3⟩ := dst_spec hr
    have hx : ∀ i (hi : i < (goS f t (dst f s t) s).length), (goS f t (dst f s t) s).getD i 0 = (goS f t (dst f s t) s)[i] := fun i hi => by
      rw [List.getD_eq_getElem?_getD, List.getElem?_eq_getElem hi]
      rfl
    have hm1 : 1 ≤ dst f s t := by
      rcases Nat.eq_zero_or_pos (dst f s t) with h0 | h0
      · rw [h0] at d1
        exact absurd (beq_iff_eq.1 (show (t == s) = true from d1)).symm hst
      · exact h0
    refine ⟨dst f s t, hlen, ⟨?_, ?_, fun i hi => ?_, fun i j hij hj => ?_, fun i hi => ?_, hm1, ?_, fun k hk => ?_⟩⟩
    · rw [hx 0 (by omega), goS_head]
    · rw [hx _ (by omega)]
      exact goS_last h hs hr rfl
    · rw [hx i (by omega), hx (i + 1) (by omega)]
      exact ((hat i (by omega)).2.2.2 (by omega)).1
    · rw [hx i (by omega), hx j (by omega)]
      intro e
      have h1 := (hat i (by omega)).2.2.1
      have h2 := (hat j (by omega)).2.2.1
      rw [e] at h1
      omega
    · rw [hx i (by omega)]
      exact (hat i (by omega)).1
    · obtain ⟨m, hm, hw⟩ := (inS_iff h s 16 t).1 hr
      have := inS_all h hw
      rcases Nat.lt_or_ge 15 (dst f s t) with hlt | hge
      · rw [d3 15 hlt] at this; cases this
      · exact hge
    · rcases Nat.lt_or_ge k (dst f s t) with hlt | hge
      · have := (inS_iff h s k t).2 ⟨k, Nat.le_refl _, hk⟩
        rw [d3 k hlt] at this; cases this
      · exact hge
  · rw [if_neg hc] at hne
    exact absurd rfl hne
/-- No way: the end is not reached. -/
theorem way_none {f : Int → Int → Int} {B : Int} (h : GInv f B) {s t : Int} (hs : inP s) (ht : inP t) (hst : s ≠ t) (h0 : shortW f s t = []) : ∀ k, ¬ wk f k s t := by
  intro k hk
  unfold shortW at h0
  rw [if_pos ⟨hs, ht, hst, inS_mono (by omega) (inS_all h hk)⟩] at h0
  have := goS_len f t (dst f s t) s
  rw [h0] at this
  simp at this
theorem pushF_ne {f : Int → Int → Int} {a b n p q : Int} (h1 : ¬ (p = b ∧ q = a)) (h2 : ¬ (p = a ∧ q = b)) : pushF f a b n p q = f p q := by
  unfold pushF
  rw [if_neg h1, if_neg h2]
theorem pushF_at {f : Int → Int → Int} {a b n : Int} (h : a ≠ b) : pushF f a b n a b = f a b - n := by
  unfold pushF
  rw [if_neg (fun e => h e.1), if_pos ⟨rfl, rfl⟩]
/-- Pushed along the first i steps. -/
def pushX (f : Int → Int → Int) (x : Nat → Int) (n : Int) : Nat → (Int → Int → Int)
  | 0 => f
  | i + 1 => pushF (pushX f x n i) (x i) (x (i + 1)) n
/-- What goes along the first i steps, and is wanted. -/
def capX (f : Int → Int → Int) (x : Nat → Int) (n : Int) : Nat → Int
  | 0 => n
  | i + 1 => min (capX f x n i) (f (x i) (x (i + 1)))
/-- The pushes. -/
def flX (x : Nat → Int) (n : Int) : Nat → List Fw
  | 0 => []
  | i + 1 => flX x n i ++ [⟨x i, x (i + 1), n⟩]
theorem flX_len (x : Nat → Int) (n : Int) : ∀ i, (flX x n i).length = i
  | 0 => rfl
  | i + 1 => by show (flX x n i ++ [_]).length = _; rw [List.length_append, flX_len x n i]; rfl
theorem capX_le (f : Int → Int → Int) (x : Nat → Int) (n : Int) : ∀ i, capX f x n i ≤ n
  | 0 => Int.le_refl _
  | i + 1 => Int.le_trans (Int.min_le_left _ _) (capX_le f x n i)
theorem capX_edge (f : Int → Int → Int) (x : Nat → Int) (n : Int) : ∀ i j, j < i → capX f x n i ≤ f (x j) (x (j + 1))
  | i + 1, j, h => by
    by_cases e : j = i
    · subst e; exact Int.min_le_right _ _
    · exact Int.le_trans (Int.min_le_left _ _) (capX_edge f x n i j (by omega))
theorem capX_pos {f : Int → Int → Int} {x : Nat → Int} {n : Int} (h0 : 1 ≤ n) : ∀ i, (∀ j, j < i → 0 < f (x j) (x (j + 1))) → 1 ≤ capX f x n i
  | 0, _ => h0
  | i + 1, h => by
    have h1 := capX_pos h0 i (fun j hj => h j (by omega))
    have h2 := h i (by omega)
    show 1 ≤ min _ _
    omega
theorem capX_is (f : Int → Int → Int) (x : Nat → Int) (n : Int) : ∀ i, capX f x n i = n ∨ ∃ j, j < i ∧ capX f x n i = f (x j) (x (j + 1))
  | 0 => .inl rfl
  | i + 1 => by
    show min (capX f x n i) (f (x i) (x (i + 1))) = n ∨ ∃ j, j < i + 1 ∧ min (capX f x n i) (f (x i) (x (i + 1))) = f (x j) (x (j + 1))
    rcases Int.le_total (capX f x n i) (f (x i) (x (i + 1))) with h | h
    · rw [Int.min_eq_left h]
      rcases capX_is f x n i with h1 | ⟨j, h1, h2⟩
      · exact .inl h1
      · exact .inr ⟨j, by omega, h2⟩
    · rw [Int.min_eq_right h]
      exact .inr ⟨i, by omega, rfl⟩
variable {f : Int → Int → Int} {s t : Int} {x : Nat → Int} {m : Nat} {n : Int}
/-- Ahead of its push each edge of the way has what it had. -/
theorem pushX_ahead (h : WayX f s t x m) : ∀ i j, i ≤ j → j < m → pushX f x n i (x j) (x (j + 1)) = f (x j) (x (j + 1))
  | 0, j, _, _ => rfl
  | i + 1, j, hij, hj => by
    show pushF (pushX f x n i) (x i) (x (i + 1)) n (x j) (x (j + 1)) = _
    rw [pushF_ne (fun e => h.ne i (j + 1) (by omega) (by omega) e.2.symm) (fun e => h.ne i j (by omega) (by omega) e.1.symm)]
    exact pushX_ahead h i j (by omega) hj
/-- Behind it: so much less. -/
theorem pushX_behind (h : WayX f s t x m) : ∀ i j, j < i → i ≤ m → pushX f x n i (x j) (x (j + 1)) = f (x j) (x (j + 1)) - n
  | i + 1, j, hj, hi => by
    show pushF (pushX f x n i) (x i) (x (i + 1)) n (x j) (x (j + 1)) = _
    by_cases e : j = i
    · subst e
      rw [pushF_at (h.ne j (j + 1) (by omega) (by omega)), pushX_ahead h j j (Nat.le_refl _) (by omega)]
    · rw [pushF_ne (fun e2 => h.ne j (i + 1) (by omega) (by omega) e2.1) (fun e2 => h.ne j i (by omega) (by omega) e2.1)]
      exact pushX_behind h i j (by omega) (by omega)
theorem pushX_inv {B : Int} (hI : GInv f B) (h : WayX f s t x m) (h1 : 1 ≤ n) (h2 : ∀ j, j < m → n ≤ f (x j) (x (j + 1))) : ∀ i, i ≤ m → GInv (pushX f x n i) B
  | 0, _ => hI
  | i + 1, hi => (pushX_inv hI h h1 h2 i (by omega)).push h1 (by rw [pushX_ahead h i i (Nat.le_refl _) (by omega)]; exact h2 i (by omega))
/-- An edge that is there behind the pushes was there, or is one of the way's, turned. -/
theorem pushX_edge (h1 : 0 ≤ n) : ∀ i p q, 0 < pushX f x n i p q → 0 < f p q ∨ ∃ j, j < i ∧ p = x (j + 1) ∧ q = x j
  | 0, p, q, h => .inl h
  | i + 1, p, q, h => by
    have h : 0 < pushF (pushX f x n i) (x i) (x (i + 1)) n p q := h
    by_cases c1 : p = x (i + 1) ∧ q = x i
    · exact .inr ⟨i, by omega, c1⟩
    · have h2 : 0 < pushX f x n i p q := by
        by_cases c2 : p = x i ∧ q = x (i + 1)
        · unfold pushF at h
          rw [if_neg c1, if_pos c2] at h
          rw [c2.1, c2.2]
          omega
        · rw [pushF_ne c1 c2] at h
          exact h
      rcases pushX_edge h1 i p q h2 with h3 | ⟨j, h3, h4⟩
      · exact .inl h3
      · exact .inr ⟨j, by omega, h4⟩

/-- Pairs that are one level apart. -/
def tightP (f : Int → Int → Int) (d : Int → Nat) (i : Nat) : Bool := decide (0 < f (((i / 16 : Nat) : Int) + 1) (((i % 16 : Nat) : Int) + 1)) && (d (((i % 16 : Nat) : Int) + 1) == d (((i / 16 : Nat) : Int) + 1) + 1)
def tightN (f : Int → Int → Int) (d : Int → Nat) : Nat := (List.range 256).countP (tightP f d)
theorem tightN_le (f : Int → Int → Int) (d : Int → Nat) : tightN f d ≤ 256 := by
  have := List.countP_le_length (p := tightP f d) (l := List.range 256)
  simpa [tightN] using this
theorem pair_ix {p q : Int} (hp : inP p) (hq : inP q) : ∃ i, i < 256 ∧ ((i / 16 : Nat) : Int) + 1 = p ∧ ((i % 16 : Nat) : Int) + 1 = q := by
  unfold inP at hp hq
  refine ⟨(p.toNat - 1) * 16 + (q.toNat - 1), by omega, by omega, by omega⟩
theorem countP_less {p q : Nat → Bool} {l : List Nat} (h : ∀ x ∈ l, p x = true → q x = true) {k : Nat} (hk : k ∈ l) (h1 : q k = true) (h2 : p k = false) : l.countP p < l.countP q := by
  obtain ⟨a, b, rfl⟩ := List.append_of_mem hk
  have ha := List.countP_mono_left (l := a) (p := p) (q := q) (fun x hx => h x (by simp [hx]))
  have hb := List.countP_mono_left (l := b) (p := p) (q := q) (fun x hx => h x (by simp [hx]))
  rw [List.countP_append, List.countP_append, List.countP_cons_of_pos h1, List.countP_cons_of_neg (by simp [h2])]
  omega
/-- Levels: no edge goes up more than one. -/
structure Lab (f : Int → Int → Int) (s t : Int) (d : Int → Nat) : Prop where
  s0 : d s = 0
  t16 : d t ≤ 16
  le : ∀ u v, 0 < f u v → d v ≤ d u + 1
theorem Lab.way {d : Int → Nat} (h : Lab f s t d) (hw : WayX f s t x m) : ∀ i, i ≤ m → d (x i) ≤ i
  | 0, _ => by rw [hw.x0, h.s0]; exact Nat.le_refl _
  | i + 1, hi => by
    have h1 := h.way hw i (by omega)
    have h2 := h.le _ _ (hw.edge i (by omega))
    omega
theorem Lab.rest {d : Int → Nat} (h : Lab f s t d) (hw : WayX f s t x m) : ∀ k, k ≤ m → d (x m) ≤ d (x (m - k)) + k
  | 0, _ => Nat.le_refl _
  | k + 1, hk => by
    have h1 := h.rest hw k (by omega)
    have h2 := h.le _ _ (hw.edge (m - (k + 1)) (by omega))
    rw [show m - (k + 1) + 1 = m - k by omega] at h2
    omega
/-- Levels by the steps from s. -/
def dstL (f : Int → Int → Int) (s v : Int) : Nat := if inS f s 16 v = true then dst f s v else 16
theorem dst_lab {B : Int} (hI : GInv f B) (hw : WayX f s t x m) : Lab f s t (dstL f s) ∧ dstL f s t = m := by
  have hdl : ∀ v, dstL f s v ≤ 16 := fun v => by
    unfold dstL
    split
    · rename_i hv; exact (dst_spec hv).2.1
    · exact Nat.le_refl _
  refine ⟨⟨?_, hdl t, fun u v huv => ?_⟩, ?_⟩
  · have h0 : inS f s 0 s = true := by show (s == s) = true; simp
    unfold dstL
    rw [if_pos (inS_mono (by omega) h0)]
    exact dst_eq (by omega) h0 (fun k hk => by omega)
  · by_cases hu : inS f s 16 u = true
    · obtain ⟨d1, d2, d3⟩ := dst_spec hu
      obtain ⟨k, k1, k2⟩ := (inS_iff hI s _ u).1 d1
      have hv : wk f (k + 1) s v := wk_add k2 (wk_one huv)
      have hv2 := inS_mono (m := 16) (by omega) (inS_all hI hv)
      obtain ⟨e1, e2, e3⟩ := dst_spec hv2
      unfold dstL
      rw [if_pos hu, if_pos hv2]
      rcases Nat.lt_or_ge (dst f s u + 1) (dst f s v) with hlt | hge
      · have := e3 _ hlt
        rw [(inS_iff hI s _ v).2 ⟨k + 1, by omega, hv⟩] at this
        cases this
      · exact hge
    · have : dstL f s u = 16 := by unfold dstL; rw [if_neg hu]
      rw [this]
      have := hdl v
      omega
  · have hwk : ∀ i, i ≤ m → wk f i s (x i) := by
      intro i
      induction i with
      | zero => intro _; exact hw.x0.symm
      | succ i ih => intro hi; exact wk_add (ih (by omega)) (wk_one (hw.edge i (by omega)))
    have hm := hwk m (Nat.le_refl _)
    rw [hw.xm] at hm
    have hin : inS f s m t = true := (inS_iff hI s m t).2 ⟨m, Nat.le_refl _, hm⟩
    have h15 := hw.m15
    unfold dstL
    rw [if_pos (inS_mono (by omega) hin)]
    refine dst_eq (by omega) hin fun k hk => ?_
    cases hc : inS f s k t with
    | false => rfl
    | true =>
      obtain ⟨j, j1, j2⟩ := (inS_iff hI s k t).1 hc
      have := hw.least j j2
      omega
/-- Along a way whose steps all go up one level: levels stay; one pair less is one level apart. -/
theorem Lab.push {B : Int} (hI : GInv f B) {d : Int → Nat} (h : Lab f s t d) (hw : WayX f s t x m) (hd : ∀ i, i ≤ m → d (x i) = i) (h1 : 1 ≤ n) (h2 : ∀ j, j < m → n ≤ f (x j) (x (j + 1))) (h3 : ∃ j, j < m ∧ n = f (x j) (x (j + 1))) :
    Lab (pushX f x n m) s t d ∧ tightN (pushX f x n m) d + 1 ≤ tightN f d := by
  refine ⟨⟨h.s0, h.t16, fun u v huv => ?_⟩, ?_⟩
  · rcases pushX_edge (by omega) m u v huv with q | ⟨j, j1, rfl, rfl⟩
    · exact h.le u v q
    · rw [hd j (by omega), hd (j + 1) (by omega)]
      omega
  · obtain ⟨j, j1, j2⟩ := h3
    obtain ⟨k, k1, k2, k3⟩ := pair_ix (hw.inp j (by omega)) (hw.inp (j + 1) (by omega))
    refine countP_less (fun i hi hp => ?_) (List.mem_range.2 k1) ?_ ?_
    · unfold tightP at hp ⊢
      rw [Bool.and_eq_true, decide_eq_true_eq, beq_iff_eq] at hp ⊢
      obtain ⟨p1, p2⟩ := hp
      refine ⟨?_, p2⟩
      rcases pushX_edge (by omega) m _ _ p1 with q | ⟨i', i1, e1, e2⟩
      · exact q
      · rw [e1, e2, hd i' (by omega), hd (i' + 1) (by omega)] at p2
        omega
    · unfold tightP
      rw [k2, k3, Bool.and_eq_true, decide_eq_true_eq, beq_iff_eq, hd j (by omega), hd (j + 1) (by omega)]
      exact ⟨hw.edge j j1, rfl⟩
    · unfold tightP
      rw [k2, k3, pushX_behind hw m j j1 (Nat.le_refl _), ← j2]
      simp
/-- How many ways may come yet. -/
def Bud (f : Int → Int → Int) (s t : Int) (k : Nat) : Prop := ∃ d, Lab f s t d ∧ k + (16 - d t) * 257 + tightN f d ≤ 4112
theorem Bud.start (f : Int → Int → Int) (s t : Int) : Bud f s t 0 := by
  refine ⟨fun _ => 0, ⟨rfl, by omega, fun _ _ _ => by omega⟩, ?_⟩
  have : tightN f (fun _ => 0) = 0 := by
    unfold tightN
    rw [List.countP_eq_zero]
    intro i _
    unfold tightP
    simp
  rw [this]
  dsimp only
  omega
theorem Bud.le {k : Nat} (h : Bud f s t k) : k ≤ 4112 := by
  obtain ⟨d, _, h⟩ := h
  omega
theorem Bud.next {B : Int} {k : Nat} (hI : GInv f B) (h : Bud f s t k) (hw : WayX f s t x m) (h1 : 1 ≤ n) (h2 : ∀ j, j < m → n ≤ f (x j) (x (j + 1))) (h3 : ∃ j, j < m ∧ n = f (x j) (x (j + 1))) :
    Bud (pushX f x n m) s t (k + 1) := by
  obtain ⟨d, hd, hb⟩ := h
  have hup := hd.way hw
  have hre := hd.rest hw
  have ht := hw.xm
  have hm15 := hw.m15
  have hdm := hup m (Nat.le_refl _)
  rw [ht] at hdm
  by_cases he : d t = m
  · have hall : ∀ i, i ≤ m → d (x i) = i := fun i hi => by
      have q1 := hup i hi
      have q2 := hre (m - i) (by omega)
      rw [ht, show m - (m - i) = i by omega] at q2
      omega
    obtain ⟨l1, l2⟩ := hd.push hI hw hall h1 h2 h3
    exact ⟨d, l1, by omega⟩
  · obtain ⟨l1, l2⟩ := dst_lab hI hw
    have hup := l1.way hw
    have hre := l1.rest hw
    have hall : ∀ i, i ≤ m → dstL f s (x i) = i := fun i hi => by
      have q1 := hup i hi
      have q2 := hre (m - i) (by omega)
      rw [ht, show m - (m - i) = i by omega] at q2
      omega
    obtain ⟨l3, l4⟩ := l1.push hI hw hall h1 h2 h3
    have := tightN_le f (dstL f s)
    refine ⟨dstL f s, l3, ?_⟩
    rw [l2]
    omega

end Go.Proofs.Ytgebplplpenabaa
