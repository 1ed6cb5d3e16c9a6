/-
  A round that costs less than nothing: distances, pass by pass; whoever is ahead; that one is found, and what it costs.
-/
import Derived.Test.YtmfacfnbokadmaaGraphMath
namespace Go.Proofs.Ytmfacfnbokadmaa
set_option linter.unusedSimpArgs false
set_option linter.unusedVariables false

/-- An edge with a cost. -/
structure Ed where
  fr : Int
  tt : Int
  co : Int
/-- Distances, who is ahead of whom, whose distance changed last in this pass; and, for the proof alone: in which pass a distance changed last, and by which cost. -/
structure BF where
  far : Int → Int
  ahd : Int → Int
  pt : Int
  t : Int → Nat
  w : Int → Int
def upI (f : Int → Int) (a x : Int) : Int → Int := fun p => if p = a then x else f p
theorem upI_same (f : Int → Int) (a x : Int) : upI f a x a = x := by simp [upI]
theorem upI_ne (f : Int → Int) {a x p : Int} (h : p ≠ a) : upI f a x p = f p := by simp [upI, h]
def okEd (e : Ed) : Prop := inP e.fr ∧ inP e.tt
instance (p : Int) : Decidable (inP p) := by unfold inP; infer_instance
instance (e : Ed) : Decidable (okEd e) := by unfold okEd; infer_instance
def stepE (n : Nat) (s : BF) (e : Ed) : BF :=
  if okEd e ∧ s.far e.fr + e.co < s.far e.tt then ⟨upI s.far e.tt (s.far e.fr + e.co), upI s.ahd e.tt e.fr, e.tt, fun p => if p = e.tt then n else s.t p, upI s.w e.tt e.co⟩ else s
def initB : BF := ⟨fun _ => 0, fun _ => 0, 0, fun _ => 0, fun _ => 0⟩
def passE (n : Nat) (es : List Ed) (s : BF) : BF := es.foldl (stepE n) { s with pt := 0 }
def passN (es : List Ed) : Nat → BF
  | 0 => initB
  | n + 1 => passE (n + 1) es (passN es n)

/-- So many steps. -/
def itr (f : Int → Int) : Nat → Int → Int
  | 0, x => x
  | k + 1, x => itr f k (f x)
theorem itr_add (f : Int → Int) : ∀ (j k : Nat) (x : Int), itr f (j + k) x = itr f k (itr f j x)
  | 0, k, x => by rw [Nat.zero_add]; rfl
  | j + 1, k, x => by rw [Nat.add_right_comm]; exact itr_add f j k (f x)
theorem itr_succ (f : Int → Int) (k : Nat) (x : Int) : itr f (k + 1) x = f (itr f k x) := itr_add f k 1 x
/-- What so many steps cost. -/
def sumI (f w : Int → Int) : Nat → Int → Int
  | 0, _ => 0
  | k + 1, x => w x + sumI f w k (f x)
theorem sumI_add (f w : Int → Int) : ∀ (j k : Nat) (x : Int), sumI f w (j + k) x = sumI f w j x + sumI f w k (itr f j x)
  | 0, k, x => by simp [sumI, itr]
  | j + 1, k, x => by
    rw [Nat.add_right_comm]
    show w x + sumI f w (j + k) (f x) = (w x + sumI f w j (f x)) + sumI f w k (itr f j (f x))
    rw [sumI_add f w j k (f x)]
    omega
theorem itr_off {f w : Int → Int} {v u c : Int} : ∀ (k : Nat) (x : Int), (∀ i, i < k → itr (upI f v u) i x ≠ v) → itr (upI f v u) k x = itr f k x ∧ sumI (upI f v u) (upI w v c) k x = sumI f w k x
  | 0, x, _ => ⟨rfl, rfl⟩
  | k + 1, x, h => by
    have hx : x ≠ v := h 0 (by omega)
    have hf : upI f v u x = f x := upI_ne f hx
    have ih := itr_off (w := w) (c := c) k (f x) (fun i hi => by
      have := h (i + 1) (by omega)
      show itr (upI f v u) i (f x) ≠ v
      rw [← hf]; exact this)
    refine ⟨?_, ?_⟩
    · show itr (upI f v u) k (upI f v u x) = itr f k (f x)
      rw [hf]; exact ih.1
    · show upI w v c x + sumI (upI f v u) (upI w v c) k (upI f v u x) = w x + sumI f w k (f x)
      rw [hf, upI_ne w hx, ih.2]

/-- What holds while a pass runs: of the edges es those of pre came already. -/
structure BInvE (es pre : List Ed) (n : Nat) (s : BF) : Prop where
  a : ∀ e ∈ es, okEd e → s.t e.fr + 1 < n → s.far e.tt ≤ s.far e.fr + e.co
  b : ∀ e ∈ pre, okEd e → s.t e.fr < n → s.far e.tt ≤ s.far e.fr + e.co
  le : ∀ v, s.t v ≤ n
  pos : ∀ v, 1 ≤ s.t v → inP v ∧ inP (s.ahd v) ∧ s.t v ≤ s.t (s.ahd v) + 1 ∧ s.far (s.ahd v) + s.w v ≤ s.far v ∧ ∃ e ∈ es, e.fr = s.ahd v ∧ e.tt = v ∧ e.co = s.w v
  zero : ∀ v, s.t v = 0 → s.ahd v = 0
  pt : s.pt ≠ 0 → s.t s.pt = n
  neg : ∀ v k, 1 ≤ k → itr s.ahd k v = v → inP v → sumI s.ahd s.w k v < 0
theorem BInvE.none {es pre : List Ed} {n : Nat} {s : BF} (h : BInvE es pre n s) : s.ahd 0 = 0 := by
  refine h.zero 0 ?_
  rcases Nat.eq_zero_or_pos (s.t 0) with h0 | h0
  · exact h0
  · have := (h.pos 0 h0).1.1
    omega
theorem BInvE.stay {es pre : List Ed} {n : Nat} {s : BF} (h : BInvE es pre n s) : ∀ k, itr s.ahd k 0 = 0
  | 0 => rfl
  | k + 1 => by
    show itr s.ahd k (s.ahd 0) = 0
    rw [h.none]; exact h.stay k
theorem BInvE.chain {es pre : List Ed} {n : Nat} {s : BF} (h : BInvE es pre n s) {v : Int} (hv : inP v) : ∀ (m : Nat) (u : Int), itr s.ahd m u = v → s.far v + sumI s.ahd s.w m u ≤ s.far u
  | 0, u, hu => by
    have : u = v := hu
    subst this
    simp [sumI]
  | m + 1, u, hu => by
    have hu' : itr s.ahd m (s.ahd u) = v := hu
    have h1 : 1 ≤ s.t u := by
      rcases Nat.eq_zero_or_pos (s.t u) with h0 | h0
      · rw [h.zero u h0, h.stay m] at hu'
        have := hv.1
        omega
      · exact h0
    have h2 := (h.pos u h1).2.2.2.1
    have h3 := h.chain hv m (s.ahd u) hu'
    show s.far v + (s.w u + sumI s.ahd s.w m (s.ahd u)) ≤ s.far u
    omega
theorem BInvE.step {es pre : List Ed} {n : Nat} {s : BF} (h : BInvE es pre n s) (hn : 1 ≤ n) {e : Ed} (he : e ∈ es) : BInvE es (pre ++ [e]) n (stepE n s e) := by
  by_cases hc : okEd e ∧ s.far e.fr + e.co < s.far e.tt
  · have hs : stepE n s e = ⟨upI s.far e.tt (s.far e.fr + e.co), upI s.ahd e.tt e.fr, e.tt, fun p => if p = e.tt then n else s.t p, upI s.w e.tt e.co⟩ := by unfold stepE; rw [if_pos hc]
    obtain ⟨hok, hlt⟩ := hc
    have htu : n ≤ s.t e.fr + 1 := by
      rcases Nat.lt_or_ge (s.t e.fr + 1) n with h1 | h1
      · have := h.a e he hok h1
        omega
      · exact h1
    have fle : ∀ x, upI s.far e.tt (s.far e.fr + e.co) x ≤ s.far x := fun x => by
      by_cases hx : x = e.tt
      · subst hx; rw [upI_same]; omega
      · rw [upI_ne _ hx]; exact Int.le_refl _
    rw [hs]
    refine ⟨fun d hd hdo hdt => ?_, fun d hd hdo hdt => ?_, fun v => ?_, fun v hv => ?_, fun v hv => ?_, fun _ => ?_, fun v k hk hit hv => ?_⟩
    · dsimp only at hdt ⊢
      by_cases hx : d.fr = e.tt
      · rw [if_pos hx] at hdt; omega
      · rw [if_neg hx] at hdt
        rw [upI_ne _ hx]
        have := h.a d hd hdo hdt
        have := fle d.tt
        omega
    · dsimp only at hdt ⊢
      by_cases hx : d.fr = e.tt
      · rw [if_pos hx] at hdt; omega
      · rw [if_neg hx] at hdt
        rw [upI_ne _ hx]
        rcases List.mem_append.1 hd with h1 | h1
        · have := h.b d h1 hdo hdt
          have := fle d.tt
          omega
        · rw [List.mem_singleton] at h1
          subst h1
          rw [upI_same]
          exact Int.le_refl _
    · dsimp only
      split
      · exact Nat.le_refl _
      · exact h.le v
    · dsimp only at hv ⊢
      by_cases hx : v = e.tt
      · subst hx
        rw [upI_same, upI_same, upI_same, if_pos rfl]
        refine ⟨hok.2, hok.1, ?_, ?_, e, he, rfl, rfl, rfl⟩
        · split
          · omega
          · omega
        · by_cases hy : e.fr = e.tt
          · rw [hy, upI_same]
            rw [hy] at hlt
            omega
          · rw [upI_ne _ hy]; exact Int.le_refl _
      · rw [if_neg hx] at hv
        rw [if_neg hx, upI_ne _ hx, upI_ne _ hx, upI_ne _ hx]
        obtain ⟨p1, p2, p3, p4, p5⟩ := h.pos v hv
        refine ⟨p1, p2, ?_, ?_, p5⟩
        · split
          · rename_i hy
            have := h.le v
            omega
          · exact p3
        · have := fle (s.ahd v)
          omega
    · dsimp only at hv ⊢
      by_cases hx : v = e.tt
      · rw [if_pos hx] at hv; omega
      · rw [if_neg hx] at hv
        rw [upI_ne _ hx]; exact h.zero v hv
    · dsimp only
      rw [if_pos rfl]
    · dsimp only at hit ⊢
      -- a round that goes over the new step
      have negv : ∀ k, 1 ≤ k → itr (upI s.ahd e.tt e.fr) k e.tt = e.tt → sumI (upI s.ahd e.tt e.fr) (upI s.w e.tt e.co) k e.tt < 0 := by
        intro k
        induction k using Nat.strongRecOn with
        | _ k ih =>
          intro hk hit
          by_cases hm : ∃ m, 1 ≤ m ∧ m < k ∧ itr (upI s.ahd e.tt e.fr) m e.tt = e.tt
          · obtain ⟨m, m1, m2, m3⟩ := hm
            have hkm : k = m + (k - m) := by omega
            have h2 : itr (upI s.ahd e.tt e.fr) (k - m) e.tt = e.tt := by
              have := itr_add (upI s.ahd e.tt e.fr) m (k - m) e.tt
              rw [← hkm, hit, m3] at this
              exact this.symm
            have h3 := sumI_add (upI s.ahd e.tt e.fr) (upI s.w e.tt e.co) m (k - m) e.tt
            rw [← hkm, m3] at h3
            have i1 := ih m m2 m1 m3
            have i2 := ih (k - m) (by omega) (by omega) h2
            omega
          · match k, hk, hit with
            | k + 1, _, hit =>
              have hf : upI s.ahd e.tt e.fr e.tt = e.fr := upI_same _ _ _
              have hit' : itr (upI s.ahd e.tt e.fr) k e.fr = e.tt := by
                have : itr (upI s.ahd e.tt e.fr) k (upI s.ahd e.tt e.fr e.tt) = e.tt := hit
                rwa [hf] at this
              obtain ⟨o1, o2⟩ := itr_off (f := s.ahd) (w := s.w) (v := e.tt) (u := e.fr) (c := e.co) k e.fr (fun i hi hz => hm ⟨i + 1, by omega, by omega, by
                show itr (upI s.ahd e.tt e.fr) i (upI s.ahd e.tt e.fr e.tt) = e.tt
                rw [hf]; exact hz⟩)
              rw [hit'] at o1
              have hc := h.chain hok.2 k e.fr o1.symm
              show upI s.w e.tt e.co e.tt + sumI (upI s.ahd e.tt e.fr) (upI s.w e.tt e.co) k (upI s.ahd e.tt e.fr e.tt) < 0
              rw [hf, upI_same, o2]
              omega
      by_cases hex : ∃ j, j < k ∧ itr (upI s.ahd e.tt e.fr) j v = e.tt
      · obtain ⟨j, j1, j2⟩ := hex
        have h1 : itr (upI s.ahd e.tt e.fr) k e.tt = e.tt := by
          have a1 := itr_add (upI s.ahd e.tt e.fr) j k v
          have a2 := itr_add (upI s.ahd e.tt e.fr) k j v
          rw [j2] at a1
          rw [hit, j2] at a2
          rw [← a1, Nat.add_comm, a2]
        have b1 := sumI_add (upI s.ahd e.tt e.fr) (upI s.w e.tt e.co) j k v
        have b2 := sumI_add (upI s.ahd e.tt e.fr) (upI s.w e.tt e.co) k j v
        rw [j2] at b1
        rw [hit, Nat.add_comm] at b2
        have := negv k hk h1
        omega
      · obtain ⟨o1, o2⟩ := itr_off (f := s.ahd) (w := s.w) (v := e.tt) (u := e.fr) (c := e.co) k v (fun i hi hz => hex ⟨i, hi, hz⟩)
        rw [hit] at o1
        rw [o2]
        exact h.neg v k hk o1.symm hv
  · have hs : stepE n s e = s := by unfold stepE; rw [if_neg hc]
    rw [hs]
    refine ⟨h.a, fun d hd hdo hdt => ?_, h.le, h.pos, h.zero, h.pt, h.neg⟩
    rcases List.mem_append.1 hd with h1 | h1
    · exact h.b d h1 hdo hdt
    · rw [List.mem_singleton] at h1
      subst h1
      rcases Int.lt_or_le (s.far d.fr + d.co) (s.far d.tt) with h2 | h2
      · exact absurd ⟨hdo, h2⟩ hc
      · exact h2
theorem BInvE.start {es : List Ed} {n : Nat} {s : BF} (h : BInvE es es n s) : BInvE es [] (n + 1) { s with pt := 0 } :=
  ⟨fun e he ho ht => h.b e he ho (by have : s.t e.fr + 1 < n + 1 := ht; omega), fun e he => by simp at he, fun v => Nat.le_succ_of_le (h.le v), h.pos, h.zero, fun hp => absurd rfl hp, h.neg⟩
theorem BInvE.init (es : List Ed) : BInvE es es 0 initB := by
  refine ⟨fun e _ _ h => by omega, fun e _ _ h => by omega, fun v => Nat.le_refl _, fun v h => ?_, fun v _ => rfl, fun h => absurd rfl h, fun v k hk hit hv => ?_⟩
  · have : (0 : Nat) ≥ 1 := h; omega
  · match k, hk with
    | k + 1, _ =>
      have h1 := itr_succ initB.ahd k v
      rw [hit] at h1
      have h2 : v = 0 := h1
      have := hv.1
      omega
theorem BInvE.go {es : List Ed} {n : Nat} (hn : 1 ≤ n) : ∀ (l pre : List Ed) (s : BF), BInvE es pre n s → (∀ e ∈ l, e ∈ es) → BInvE es (pre ++ l) n (l.foldl (stepE n) s)
  | [], pre, s, h, _ => by rw [List.append_nil]; exact h
  | e :: l, pre, s, h, hl => by
    rw [List.foldl_cons, show pre ++ e :: l = (pre ++ [e]) ++ l by simp]
    exact BInvE.go hn l (pre ++ [e]) (stepE n s e) (h.step hn (hl e (List.mem_cons_self ..))) (fun d hd => hl d (List.mem_cons_of_mem _ hd))
theorem passN_inv (es : List Ed) : ∀ n, BInvE es es n (passN es n)
  | 0 => BInvE.init es
  | n + 1 => by
    have := BInvE.go (n := n + 1) (by omega) es [] _ (passN_inv es n).start (fun e he => he)
    rwa [List.nil_append] at this

/-- Of more letters than boxes two are in one. -/
theorem pigeon : ∀ (n : Nat) (f : Nat → Nat), (∀ i, i ≤ n → f i < n) → ∃ i j, i < j ∧ j ≤ n ∧ f i = f j
  | 0, f, h => absurd (h 0 (Nat.le_refl _)) (by omega)
  | n + 1, f, h => by
    by_cases hx : ∃ i, i ≤ n ∧ f i = f (n + 1)
    · obtain ⟨i, hi, he⟩ := hx
      exact ⟨i, n + 1, by omega, Nat.le_refl _, he⟩
    · have hne : ∀ i, i ≤ n → f i ≠ f (n + 1) := fun i hi he => hx ⟨i, hi, he⟩
      have hlast := h (n + 1) (Nat.le_refl _)
      obtain ⟨i, j, h1, h2, h3⟩ := pigeon n (fun i => if f (n + 1) < f i then f i - 1 else f i) (fun i hi => by
        have := h i (by omega)
        have := hne i hi
        try dsimp only
        split <;> omega)
      refine ⟨i, j, h1, by omega, ?_⟩
      have a1 := hne i (by omega)
      have a2 := hne j (by omega)
      try dsimp only at h3
      split at h3 <;> split at h3 <;> omega
/-- Behind sixteen passes that all changed something: sixteen steps ahead one is on a round. -/
theorem round_found {es : List Ed} (h : (passN es 16).pt ≠ 0) : (∀ i, i ≤ 16 → inP (itr (passN es 16).ahd i (passN es 16).pt)) ∧
    ∃ k, 1 ≤ k ∧ k ≤ 16 ∧ itr (passN es 16).ahd k (itr (passN es 16).ahd 16 (passN es 16).pt) = itr (passN es 16).ahd 16 (passN es 16).pt := by
  have hI := passN_inv es 16
  generalize passN es 16 = s at *
  have ht := hI.pt h
  have key : ∀ i, i ≤ 16 → 16 ≤ s.t (itr s.ahd i s.pt) + i := by
    intro i
    induction i with
    | zero => intro _; rw [show itr s.ahd 0 s.pt = s.pt from rfl, ht]; omega
    | succ i ih =>
      intro hi
      have h1 := ih (by omega)
      rw [itr_succ]
      have h2 := (hI.pos (itr s.ahd i s.pt) (by omega)).2.2.1
      omega
  have hin : ∀ i, i ≤ 16 → inP (itr s.ahd i s.pt) := by
    intro i hi
    match i, hi with
    | 0, _ => exact (hI.pos s.pt (by omega)).1
    | i + 1, hi =>
      rw [itr_succ]
      exact (hI.pos (itr s.ahd i s.pt) (by have := key i (by omega); omega)).2.1
  refine ⟨hin, ?_⟩
  obtain ⟨i, j, h1, h2, h3⟩ := pigeon 16 (fun i => (itr s.ahd i s.pt).toNat - 1) (fun i hi => by
    have := hin i hi
    unfold inP at this
    try dsimp only
    omega)
  have h4 : itr s.ahd i s.pt = itr s.ahd j s.pt := by
    have a := hin i (by omega)
    have b := hin j h2
    unfold inP at a b
    try dsimp only at h3
    omega
  refine ⟨j - i, by omega, by omega, ?_⟩
  have e1 : itr s.ahd 16 s.pt = itr s.ahd (16 - i) (itr s.ahd i s.pt) := by rw [← itr_add, show i + (16 - i) = 16 by omega]
  have e2 : itr s.ahd (j - i) (itr s.ahd i s.pt) = itr s.ahd i s.pt := by rw [← itr_add, show i + (j - i) = j by omega, ← h4]
  rw [e1, ← itr_add, Nat.add_comm, itr_add, e2]
/-- A pass that changed nothing: no edge is too long. -/
theorem still_pass {es : List Ed} {n : Nat} {s : BF} (h : (passE n es s).pt = 0) : ∀ e ∈ es, okEd e → s.far e.tt ≤ s.far e.fr + e.co := by
  have key : ∀ (l : List Ed) (s : BF), s.pt ≠ 0 → (l.foldl (stepE n) s).pt ≠ 0 := by
    intro l
    induction l with
    | nil => intro s h; exact h
    | cons e l ih =>
      intro s h
      rw [List.foldl_cons]
      refine ih _ ?_
      unfold stepE
      split
      · rename_i hc
        have := hc.1.2.1
        try dsimp only
        omega
      · exact h
  have main : ∀ (l : List Ed) (s : BF), (l.foldl (stepE n) s).pt = 0 → ∀ e ∈ l, okEd e → s.far e.tt ≤ s.far e.fr + e.co := by
    intro l
    induction l with
    | nil => intro s _ e he; simp at he
    | cons d l ih =>
      intro s h e he ho
      rw [List.foldl_cons] at h
      by_cases hc : okEd d ∧ s.far d.fr + d.co < s.far d.tt
      · exfalso
        refine key l (stepE n s d) ?_ h
        unfold stepE
        rw [if_pos hc]
        have := hc.1.2.1
        try dsimp only
        omega
      · have hs : stepE n s d = s := by unfold stepE; rw [if_neg hc]
        rw [hs] at h
        rcases List.mem_cons.1 he with rfl | he
        · rcases Int.lt_or_le (s.far e.fr + e.co) (s.far e.tt) with h2 | h2
          · exact absurd ⟨ho, h2⟩ hc
          · exact h2
        · exact ih s h e he ho
  exact main es { s with pt := 0 } h

end Go.Proofs.Ytmfacfnbokadmaa
