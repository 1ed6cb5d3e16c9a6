/-
  A route: its ways, one behind the other; what it got; what any parties let out.
-/
import Derived.Test.YtgebplplpenabaaFlowMath
namespace Go.Proofs.Ytgebplplpenabaa
set_option linter.unusedSimpArgs false
set_option linter.unusedVariables false

/-- Pushes that may be done, one behind the other. -/
def goodL : (Int → Int → Int) → List Fw → Prop
  | _, [] => True
  | f, x :: r => 1 ≤ x.am ∧ x.am ≤ f x.fr x.tt ∧ goodL (pushF f x.fr x.tt x.am) r
def foldF (f : Int → Int → Int) (l : List Fw) : Int → Int → Int := l.foldl (fun g x => pushF g x.fr x.tt x.am) f
theorem foldF_append (f : Int → Int → Int) (a b : List Fw) : foldF f (a ++ b) = foldF (foldF f a) b := by unfold foldF; rw [List.foldl_append]
theorem goodL_append : ∀ (a : List Fw) (f : Int → Int → Int) (b : List Fw), goodL f (a ++ b) ↔ goodL f a ∧ goodL (foldF f a) b
  | [], f, b => by simp [goodL, foldF]
  | x :: a, f, b => by
    have ih := goodL_append a (pushF f x.fr x.tt x.am) b
    show (1 ≤ x.am ∧ x.am ≤ f x.fr x.tt ∧ goodL (pushF f x.fr x.tt x.am) (a ++ b)) ↔ (1 ≤ x.am ∧ x.am ≤ f x.fr x.tt ∧ goodL (pushF f x.fr x.tt x.am) a) ∧ goodL (foldF (pushF f x.fr x.tt x.am) a) b
    rw [ih]
    constructor
    · rintro ⟨h1, h2, h3, h4⟩; exact ⟨⟨h1, h2, h3⟩, h4⟩
    · rintro ⟨⟨h1, h2, h3⟩, h4⟩; exact ⟨h1, h2, h3, h4⟩
theorem goodL_inv {B : Int} : ∀ (l : List Fw) (f : Int → Int → Int), GInv f B → goodL f l → GInv (foldF f l) B
  | [], f, h, _ => h
  | x :: l, f, h, ⟨h1, h2, h3⟩ => goodL_inv l _ (h.push h1 h2) h3
theorem flX_fold (f : Int → Int → Int) (x : Nat → Int) (n : Int) : ∀ i, foldF f (flX x n i) = pushX f x n i
  | 0 => rfl
  | i + 1 => by
    show foldF f (flX x n i ++ [_]) = _
    rw [foldF_append, flX_fold f x n i]
    rfl
theorem flX_good {f : Int → Int → Int} {s t : Int} {x : Nat → Int} {m : Nat} {n : Int} (h : WayX f s t x m) (h1 : 1 ≤ n) (h2 : ∀ j, j < m → n ≤ f (x j) (x (j + 1))) : ∀ i, i ≤ m → goodL f (flX x n i)
  | 0, _ => trivial
  | i + 1, hi => by
    show goodL f (flX x n i ++ [_])
    rw [goodL_append, flX_fold]
    refine ⟨flX_good h h1 h2 i (by omega), h1, ?_, trivial⟩
    show n ≤ pushX f x n i (x i) (x (i + 1))
    rw [pushX_ahead h i i (Nat.le_refl _) (by omega)]
    exact h2 i (by omega)
theorem flX_mem {x : Nat → Int} {n : Int} {e : Fw} : ∀ {i : Nat}, e ∈ flX x n i → ∃ j, j < i ∧ e = ⟨x j, x (j + 1), n⟩
  | i + 1, h => by
    have h : e ∈ flX x n i ++ [⟨x i, x (i + 1), n⟩] := h
    rcases List.mem_append.1 h with h | h
    · obtain ⟨j, h1, h2⟩ := flX_mem h
      exact ⟨j, by omega, h2⟩
    · exact ⟨i, by omega, by simpa using h⟩
/-- What they bring to p. -/
def netL : List Fw → Int → Int
  | [], _ => 0
  | x :: r, p => (if x.tt = p then x.am else 0) - (if x.fr = p then x.am else 0) + netL r p
theorem netL_append (p : Int) : ∀ (a b : List Fw), netL (a ++ b) p = netL a p + netL b p
  | [], b => by simp [netL]
  | x :: a, b => by
    show _ + netL (a ++ b) p = (_ + netL a p) + netL b p
    rw [netL_append p a b]
    omega
theorem netL_flX (x : Nat → Int) (n p : Int) : ∀ i, netL (flX x n i) p = (if x i = p then n else 0) - (if x 0 = p then n else 0)
  | 0 => by show (0 : Int) = _; omega
  | i + 1 => by
    show netL (flX x n i ++ [_]) p = _
    rw [netL_append, netL_flX x n p i]
    show _ + ((if x (i + 1) = p then n else 0) - (if x i = p then n else 0) + 0) = _
    omega
/-- The first so many, together. -/
def sumTo (g : Nat → Int) : Nat → Int
  | 0 => 0
  | k + 1 => sumTo g k + g k
theorem sumTo_add (g h : Nat → Int) : ∀ k, sumTo (fun i => g i + h i) k = sumTo g k + sumTo h k
  | 0 => rfl
  | k + 1 => by
    show sumTo (fun i => g i + h i) k + (g k + h k) = (sumTo g k + g k) + (sumTo h k + h k)
    rw [sumTo_add g h k]; omega
theorem sumTo_congr {g h : Nat → Int} : ∀ k, (∀ i, i < k → g i = h i) → sumTo g k = sumTo h k
  | 0, _ => rfl
  | k + 1, e => by
    show sumTo g k + g k = sumTo h k + h k
    rw [sumTo_congr k (fun i hi => e i (by omega)), e k (by omega)]
theorem sumTo_one (j : Nat) (c : Int) : ∀ k, sumTo (fun i => if i = j then c else 0) k = if j < k then c else 0
  | 0 => by simp [sumTo]
  | k + 1 => by
    show sumTo (fun i => if i = j then c else 0) k + (if k = j then c else 0) = _
    rw [sumTo_one j c k]
    by_cases e : k = j
    · subst e; rw [if_neg (by omega), if_pos rfl, if_pos (by omega)]; omega
    · rw [if_neg e]
      by_cases h : j < k
      · rw [if_pos h, if_pos (by omega)]; omega
      · rw [if_neg h, if_neg (by omega)]; omega
theorem sumTo_bd {g : Nat → Int} {B : Int} : ∀ k, (∀ i, i < k → 0 ≤ g i ∧ g i ≤ B) → 0 ≤ sumTo g k ∧ sumTo g k ≤ B * k
  | 0, _ => by simp [sumTo]
  | k + 1, h => by
    have h1 := sumTo_bd k (fun i hi => h i (by omega))
    have h2 := h k (by omega)
    show 0 ≤ sumTo g k + g k ∧ sumTo g k + g k ≤ B * ((k + 1 : Nat) : Int)
    rw [Int.natCast_succ, Int.mul_add, Int.mul_one]
    omega
def pU (i : Nat) : Int := ((i / 16 : Nat) : Int) + 1
def pV (i : Nat) : Int := ((i % 16 : Nat) : Int) + 1
/-- What the parties of S let out, of the first k pairs. -/
def outK (f : Int → Int → Int) (S : Int → Bool) (k : Nat) : Int := sumTo (fun i => if S (pU i) && !S (pV i) then f (pU i) (pV i) else 0) k
def outS (f : Int → Int → Int) (S : Int → Bool) : Int := outK f S 256
theorem outK_bd {f : Int → Int → Int} {B : Int} (h : GInv f B) (S : Int → Bool) (k : Nat) : 0 ≤ outK f S k ∧ outK f S k ≤ B * k := by
  have hB : 0 ≤ B := by have := h.nn 1 1; have := h.le 1 1; omega
  refine sumTo_bd k fun i _ => ?_
  split
  · exact ⟨h.nn _ _, h.le _ _⟩
  · exact ⟨Int.le_refl _, hB⟩
theorem pUV_inj {i j : Nat} (h1 : pU i = pU j) (h2 : pV i = pV j) : i = j := by
  unfold pU at h1
  unfold pV at h2
  omega
theorem pair_pUV {p q : Int} (hp : inP p) (hq : inP q) : ∃ i, i < 256 ∧ pU i = p ∧ pV i = q := pair_ix hp hq
theorem pushF_back (f : Int → Int → Int) (a b n : Int) : pushF f a b n b a = f b a + n := by
  unfold pushF
  rw [if_pos ⟨rfl, rfl⟩]
theorem outS_push (f : Int → Int → Int) (S : Int → Bool) {a b : Int} (n : Int) (ha : inP a) (hb : inP b) (hab : a ≠ b) :
    outS (pushF f a b n) S = outS f S + (if S b = true ∧ S a = false then n else 0) - (if S a = true ∧ S b = false then n else 0) := by
  obtain ⟨k1, k1l, k1u, k1v⟩ := pair_pUV hb ha
  obtain ⟨k2, k2l, k2u, k2v⟩ := pair_pUV ha hb
  have hk : k1 ≠ k2 := by rintro rfl; exact hab (k2u.symm.trans k1u)
  have e : outS (pushF f a b n) S = sumTo (fun i => ((if S (pU i) && !S (pV i) then f (pU i) (pV i) else 0) + (if i = k1 then (if S b = true ∧ S a = false then n else 0) else 0)) + (if i = k2 then -(if S a = true ∧ S b = false then n else 0) else 0)) 256 := by
    refine sumTo_congr 256 fun i hi => ?_
    by_cases e1 : i = k1
    · subst e1
      rw [if_pos rfl, if_neg hk, k1u, k1v]
      rw [pushF_back]
      cases S b <;> cases S a <;> simp
    · by_cases e2 : i = k2
      · subst e2
        rw [if_neg e1, if_pos rfl, k2u, k2v]
        rw [pushF_at hab]
        cases S b <;> cases S a <;> simp <;> omega
      · rw [if_neg e1, if_neg e2]
        rw [pushF_ne (fun h => e1 (pUV_inj (h.1.trans k1u.symm) (h.2.trans k1v.symm))) (fun h => e2 (pUV_inj (h.1.trans k2u.symm) (h.2.trans k2v.symm)))]
        omega
  rw [e, sumTo_add, sumTo_add, sumTo_one, sumTo_one, if_pos k1l, if_pos k2l]
  unfold outS outK
  omega
theorem outS_way {f : Int → Int → Int} {s t : Int} {x : Nat → Int} {m : Nat} (h : WayX f s t x m) (n : Int) (S : Int → Bool) : ∀ i, i ≤ m → outS (pushX f x n i) S = outS f S - (if S (x 0) = true then n else 0) + (if S (x i) = true then n else 0)
  | 0, _ => by show outS f S = _; omega
  | i + 1, hi => by
    show outS (pushF (pushX f x n i) (x i) (x (i + 1)) n) S = _
    rw [outS_push _ S n (h.inp i (by omega)) (h.inp (i + 1) hi) (h.ne i (i + 1) (by omega) hi), outS_way h n S i (by omega)]
    cases S (x i) <;> cases S (x (i + 1)) <;> simp <;> omega

/-- While a route is found: the graph, what is wanted yet, the pushes. -/
structure RS where
  f : Int → Int → Int
  left : Int
  out : List Fw
def doneR (s t : Int) (σ : RS) : Prop := σ.left ≤ 0 ∨ shortW σ.f s t = []
instance (s t : Int) (σ : RS) : Decidable (doneR s t σ) := by unfold doneR; infer_instance
/-- One way more. -/
def wayR (s t : Int) (σ : RS) : RS :=
  ⟨pushX σ.f (wayX σ.f s t) (capX σ.f (wayX σ.f s t) σ.left ((shortW σ.f s t).length - 1)) ((shortW σ.f s t).length - 1), σ.left - capX σ.f (wayX σ.f s t) σ.left ((shortW σ.f s t).length - 1),
    σ.out ++ flX (wayX σ.f s t) (capX σ.f (wayX σ.f s t) σ.left ((shortW σ.f s t).length - 1)) ((shortW σ.f s t).length - 1)⟩
def stepR (s t : Int) (σ : RS) : RS := if doneR s t σ then σ else wayR s t σ
def itR (s t : Int) (σ : RS) : Nat → RS
  | 0 => σ
  | k + 1 => stepR s t (itR s t σ k)
theorem itR_done {s t : Int} {σ : RS} {k : Nat} (h : doneR s t (itR s t σ k)) : ∀ j, itR s t σ (k + j) = itR s t σ k
  | 0 => rfl
  | j + 1 => by
    show stepR s t (itR s t σ (k + j)) = _
    rw [itR_done h j]
    unfold stepR
    rw [if_pos h]
structure RInv (f0 : Int → Int → Int) (B s t want : Int) (k : Nat) (σ : RS) : Prop where
  k5 : k ≤ 4113
  at_ : σ = itR s t ⟨f0, want, []⟩ k
  g : GInv σ.f B
  good : goodL f0 σ.out
  fold : foldF f0 σ.out = σ.f
  lo : 0 ≤ σ.left ∨ σ.left = want
  hi : σ.left ≤ want
  len : σ.out.length ≤ 15 * k
  bud : 0 < σ.left → Bud σ.f s t k
  net : ∀ p, netL σ.out p = (if t = p then want - σ.left else 0) - (if s = p then want - σ.left else 0)
  cut : ∀ S : Int → Bool, S s = true → S t = false → outS σ.f S = outS f0 S - (want - σ.left)
  els : ∀ e ∈ σ.out, inP e.fr ∧ inP e.tt ∧ e.fr ≠ e.tt ∧ 1 ≤ e.am ∧ e.am ≤ B
theorem RInv.start {f0 : Int → Int → Int} {B : Int} (h : GInv f0 B) (s t want : Int) : RInv f0 B s t want 0 ⟨f0, want, []⟩ := by
  refine ⟨by omega, rfl, h, trivial, rfl, .inr rfl, Int.le_refl _, by simp, fun _ => Bud.start f0 s t, fun p => ?_, fun S _ _ => ?_, by simp⟩
  · show (0 : Int) = (if t = p then want - want else 0) - (if s = p then want - want else 0)
    rw [Int.sub_self]; split <;> split <;> omega
  · show outS f0 S = outS f0 S - (want - want)
    omega
/-- What is known of the way that comes next. -/
theorem RInv.way {f0 : Int → Int → Int} {B s t want : Int} {k : Nat} {σ : RS} (h : RInv f0 B s t want k σ) (hd : ¬ doneR s t σ) : ∃ m n, (shortW σ.f s t).length = m + 1 ∧ WayX σ.f s t (wayX σ.f s t) m ∧ n = capX σ.f (wayX σ.f s t) σ.left m ∧ 1 ≤ n ∧ n ≤ σ.left ∧ (∀ j, j < m → n ≤ σ.f (wayX σ.f s t j) (wayX σ.f s t (j + 1))) ∧
    wayR s t σ = ⟨pushX σ.f (wayX σ.f s t) n m, σ.left - n, σ.out ++ flX (wayX σ.f s t) n m⟩ := by
  have h1 : 0 < σ.left := by
    rcases Int.lt_or_le 0 σ.left with q | q
    · exact q
    · exact absurd (.inl q) hd
  have h2 : shortW σ.f s t ≠ [] := fun e => hd (.inr e)
  obtain ⟨m, hm, hw⟩ := wayX_of h.g h2
  refine ⟨m, _, hm, hw, rfl, capX_pos (by omega) m hw.edge, capX_le _ _ _ _, fun j hj => capX_edge _ _ _ m j hj, ?_⟩
  unfold wayR
  rw [hm, Nat.add_sub_cancel]
theorem RInv.step {f0 : Int → Int → Int} {B s t want : Int} {k : Nat} {σ : RS} (h : RInv f0 B s t want k σ) (hd : ¬ doneR s t σ) : RInv f0 B s t want (k + 1) (wayR s t σ) := by
  obtain ⟨m, n, hm, hw, hn, n1, n2, n3, he⟩ := h.way hd
  have hpos : 0 < σ.left := by omega
  have hk := (h.bud hpos).le
  rw [he]
  refine ⟨by omega, ?_, pushX_inv h.g hw n1 n3 m (Nat.le_refl _), ?_, ?_, ?_, ?_, ?_, fun hl => ?_, fun p => ?_, fun S hs ht => ?_, fun e hmem => ?_⟩
  · rw [← he]
    show _ = stepR s t (itR s t ⟨f0, want, []⟩ k)
    rw [← h.at_]
    unfold stepR
    rw [if_neg hd]
  · show goodL f0 (σ.out ++ _)
    rw [goodL_append, h.fold]
    exact ⟨h.good, flX_good hw n1 n3 m (Nat.le_refl _)⟩
  · show foldF f0 (σ.out ++ _) = _
    rw [foldF_append, h.fold, flX_fold]
  · left; show 0 ≤ σ.left - n; omega
  · show σ.left - n ≤ want
    have := h.hi; omega
  · show (σ.out ++ _).length ≤ _
    rw [List.length_append, flX_len]
    have := h.len
    have := hw.m15
    omega
  · have hl : 0 < σ.left - n := hl
    refine (h.bud hpos).next h.g hw n1 n3 ?_
    rcases capX_is σ.f (wayX σ.f s t) σ.left m with q | ⟨j, q1, q2⟩
    · rw [← hn] at q; omega
    · exact ⟨j, q1, hn.trans q2⟩
  · show netL (σ.out ++ _) p = (if t = p then want - (σ.left - n) else 0) - (if s = p then want - (σ.left - n) else 0)
    rw [netL_append, h.net p, netL_flX, hw.x0, hw.xm]
    split <;> split <;> omega
  · show outS (pushX σ.f (wayX σ.f s t) n m) S = outS f0 S - (want - (σ.left - n))
    rw [outS_way hw n S m (Nat.le_refl _), hw.x0, hw.xm, h.cut S hs ht, hs, ht]
    simp
    omega
  · have hmem : e ∈ σ.out ++ flX (wayX σ.f s t) n m := hmem
    rcases List.mem_append.1 hmem with q | q
    · exact h.els e q
    · obtain ⟨j, j1, rfl⟩ := flX_mem q
      have := n3 j j1
      have := h.g.le (wayX σ.f s t j) (wayX σ.f s t (j + 1))
      exact ⟨hw.inp j (by omega), hw.inp (j + 1) (by omega), hw.ne j (j + 1) (by omega) (by omega), n1, by show n ≤ B; omega⟩
/-- A route that is found: where it ends. -/
def IsRoute (f0 : Int → Int → Int) (B s t want : Int) (σ : RS) : Prop := ∃ k, RInv f0 B s t want k σ ∧ doneR s t σ
/-- There is one alone. -/
theorem IsRoute.eq {f0 : Int → Int → Int} {B s t want : Int} {σ τ : RS} (h : IsRoute f0 B s t want σ) (g : IsRoute f0 B s t want τ) : σ = τ := by
  obtain ⟨k, h1, h2⟩ := h
  obtain ⟨j, g1, g2⟩ := g
  have a1 := h1.at_
  have a2 := g1.at_
  rw [a1] at h2 ⊢
  rw [a2] at g2 ⊢
  rcases Nat.le_total k j with q | q
  · have := itR_done h2 (j - k)
    rw [show k + (j - k) = j by omega] at this
    exact this.symm
  · have := itR_done g2 (k - j)
    rw [show j + (k - j) = k by omega] at this
    exact this
/-- Who is reached lets nothing out. -/
theorem out_reached {f : Int → Int → Int} {B : Int} (h : GInv f B) {S : Int → Bool} (hS : ∀ a b, S a = true → 0 < f a b → S b = true) : outS f S = 0 := by
  have : outS f S = sumTo (fun _ => 0) 256 := by
    refine sumTo_congr 256 fun i _ => ?_
    cases h1 : S (pU i) with
    | false => rfl
    | true =>
      cases h2 : S (pV i) with
      | true => rfl
      | false =>
        have h3 := h.nn (pU i) (pV i)
        by_cases h4 : 0 < f (pU i) (pV i)
        · rw [hS _ _ h1 h4] at h2; cases h2
        · show f (pU i) (pV i) = 0
          omega
  rw [this]
  have hz : ∀ k, sumTo (fun _ => 0) k = 0 := by
    intro k
    induction k with
    | zero => rfl
    | succ k ih => show sumTo (fun _ => 0) k + 0 = 0; omega
  exact hz 256
theorem IsRoute.n0 {f0 : Int → Int → Int} {B s t want : Int} {σ : RS} (h : IsRoute f0 B s t want σ) : 0 ≤ want - σ.left := by
  obtain ⟨k, h, _⟩ := h
  have := h.hi; omega
theorem IsRoute.nw {f0 : Int → Int → Int} {B s t want : Int} {σ : RS} (h : IsRoute f0 B s t want σ) (hw : 1 ≤ want) : want - σ.left ≤ want := by
  obtain ⟨k, h, _⟩ := h
  have := h.lo; omega
theorem IsRoute.void {f0 : Int → Int → Int} {B s t want : Int} {σ : RS} (h : IsRoute f0 B s t want σ) (h0 : GInv f0 B) (hw : want < 1) : σ = ⟨f0, want, []⟩ :=
  h.eq ⟨0, RInv.start h0 s t want, .inl (Int.le_of_lt_add_one hw)⟩
theorem IsRoute.g {f0 : Int → Int → Int} {B s t want : Int} {σ : RS} (h : IsRoute f0 B s t want σ) : GInv σ.f B := by
  obtain ⟨k, h, _⟩ := h
  exact h.g
theorem IsRoute.cut {f0 : Int → Int → Int} {B s t want : Int} {σ : RS} (h : IsRoute f0 B s t want σ) (S : Int → Bool) (hs : S s = true) (ht : S t = false) : outS σ.f S = outS f0 S - (want - σ.left) := by
  obtain ⟨k, h, _⟩ := h
  exact h.cut S hs ht
/-- No more goes than what any parties let out. -/
theorem IsRoute.le_cut {f0 : Int → Int → Int} {B s t want : Int} {σ : RS} (h : IsRoute f0 B s t want σ) {S : Int → Bool} (hs : S s = true) (ht : S t = false) : want - σ.left ≤ outS f0 S := by
  have h1 := h.cut S hs ht
  have h2 := (outK_bd h.g S 256).1
  unfold outS at h1
  show _ ≤ outK f0 S 256
  omega
/-- Who is reached behind the route. -/
def reachS (f : Int → Int → Int) (s : Int) (v : Int) : Bool := inS f s 16 v
theorem reachS_closed {f : Int → Int → Int} {B : Int} (h : GInv f B) (s : Int) : ∀ a b, reachS f s a = true → 0 < f a b → reachS f s b = true := fun a b h1 h2 => by
  obtain ⟨k, _, k2⟩ := (inS_iff h s 16 a).1 h1
  exact inS_mono (by omega) (inS_all h (wk_add k2 (wk_one h2)))
theorem reachS_self (f : Int → Int → Int) (s : Int) : reachS f s s = true := inS_mono (n := 0) (by omega) (by show (s == s) = true; simp)
/-- Where less came than was wanted: who is reached lets out just so much. -/
theorem IsRoute.less {f0 : Int → Int → Int} {B s t want : Int} {σ : RS} (h : IsRoute f0 B s t want σ) (hs : inP s) (ht : inP t) (hst : s ≠ t) (hl : want - σ.left < want) :
    reachS σ.f s t = false ∧ outS f0 (reachS σ.f s) = want - σ.left := by
  have hg := h.g
  have hcut := h.cut
  obtain ⟨k, hI, hD⟩ := h
  have h0 : shortW σ.f s t = [] := by
    rcases hD with q | q
    · omega
    · exact q
  have hno := way_none hg hs ht hst h0
  have hrt : reachS σ.f s t = false := by
    cases hc : reachS σ.f s t with
    | false => rfl
    | true =>
      obtain ⟨k, _, k2⟩ := (inS_iff hg s 16 t).1 hc
      exact absurd k2 (hno k)
  refine ⟨hrt, ?_⟩
  have h1 := hcut _ (reachS_self σ.f s) hrt
  rw [out_reached hg (reachS_closed hg s)] at h1
  omega
/-- As much as goes at most, is asked for. -/
def mostW : Int := 4611686018427387904
theorem most_bd {f0 : Int → Int → Int} {s t : Int} {μ : RS} (h : IsRoute f0 4398046511104 s t mostW μ) (h0 : GInv f0 4398046511104) (hst : s ≠ t) : 0 ≤ mostW - μ.left ∧ mostW - μ.left ≤ 1125899906842624 := by
  have h2 := h.le_cut (S := fun v => v == s) (by simp) (by simpa using fun e => hst e.symm)
  have h3 := (outK_bd h0 (fun v => v == s) 256).2
  unfold outS at h2
  have := h.n0
  omega
/-- What goes at most is a cut. -/
theorem most_cut {f0 : Int → Int → Int} {s t : Int} {μ : RS} (h : IsRoute f0 4398046511104 s t mostW μ) (h0 : GInv f0 4398046511104) (hs : inP s) (ht : inP t) (hst : s ≠ t) : ∃ S : Int → Bool, S s = true ∧ S t = false ∧ outS f0 S = mostW - μ.left := by
  have hb := most_bd h h0 hst
  obtain ⟨h1, h2⟩ := h.less hs ht hst (by unfold mostW at hb ⊢; omega)
  exact ⟨_, reachS_self _ _, h1, h2⟩
/-- What is got is what is wanted, or what goes at most. -/
theorem route_min {f0 : Int → Int → Int} {s t want : Int} {σ μ : RS} (hR : IsRoute f0 4398046511104 s t want σ) (hM : IsRoute f0 4398046511104 s t mostW μ) (h0 : GInv f0 4398046511104) (hs : inP s) (ht : inP t) (hst : s ≠ t) (hw : 1 ≤ want) :
    want - σ.left = min want (mostW - μ.left) := by
  obtain ⟨S, h1, h2, h3⟩ := most_cut hM h0 hs ht hst
  have h4 := hR.le_cut h1 h2
  have h5 := hR.nw hw
  by_cases hl : want - σ.left < want
  · obtain ⟨h6, h7⟩ := hR.less hs ht hst hl
    have h8 := hM.le_cut (reachS_self σ.f s) h6
    omega
  · omega
/-- In two asks, one behind the other, no more goes. -/
theorem most_rest {f0 : Int → Int → Int} {s t want : Int} {σ μ ν : RS} (hR : IsRoute f0 4398046511104 s t want σ) (hM : IsRoute f0 4398046511104 s t mostW μ) (hN : IsRoute σ.f 4398046511104 s t mostW ν) (h0 : GInv f0 4398046511104) (hs : inP s) (ht : inP t) (hst : s ≠ t) :
    mostW - ν.left = (mostW - μ.left) - (want - σ.left) := by
  obtain ⟨S, h1, h2, h3⟩ := most_cut hM h0 hs ht hst
  obtain ⟨T, g1, g2, g3⟩ := most_cut hN hR.g hs ht hst
  have a1 := hM.le_cut g1 g2
  have a2 := hN.le_cut h1 h2
  have a3 := hR.cut S h1 h2
  have a4 := hR.cut T g1 g2
  omega

end Go.Proofs.Ytgebplplpenabaa
