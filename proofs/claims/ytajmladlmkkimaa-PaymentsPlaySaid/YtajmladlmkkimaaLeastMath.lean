/-
  How many steps are left from each party, pass by pass; what the shortest way has, step by step.
-/
import Derived.Test.YtajmladlmkkimaaRndMath
namespace Go.Proofs.Ytajmladlmkkimaa
set_option linter.unusedSimpArgs false
set_option linter.unusedVariables false

/-- While pass number n + 1 runs: done are the pairs that came. -/
structure LeftI (f : Int → Int → Int) (b : Int) (n : Nat) (done : Int → Int → Prop) (left : Int → Int) : Prop where
  lo : ∀ p, 0 ≤ left p ∧ left p ≤ 99
  way : ∀ p, left p = 99 ∨ wk f (left p).toNat p b
  all : ∀ p m, m ≤ n → wk f m p b → left p ≤ m
  cur : ∀ p r, done p r → 0 < f p r → ∀ m, m ≤ n → wk f m r b → left p ≤ m + 1
def upL (left : Int → Int) (a x : Int) : Int → Int := fun p => if p = a then x else left p
theorem LeftI.init {f : Int → Int → Int} {B : Int} (h : GInv f B) (b : Int) : LeftI f b 0 (fun _ _ => False) (upL (fun _ => 99) b 0) := by
  refine ⟨fun p => ?_, fun p => ?_, fun p m hm hw => ?_, fun p r hd => hd.elim⟩
  · unfold upL
    by_cases hp : p = b
    · rw [if_pos hp]; omega
    · rw [if_neg hp]; exact (⟨by decide, by decide⟩ : (0 : Int) ≤ 99 ∧ (99 : Int) ≤ 99)
  · unfold upL
    by_cases hp : p = b
    · rw [if_pos hp]; exact .inr hp
    · rw [if_neg hp]; exact .inl rfl
  · have : m = 0 := by omega
    subst this
    have hp : p = b := hw
    unfold upL
    rw [if_pos hp]
    exact Int.le_refl _
theorem LeftI.less {f : Int → Int → Int} {B : Int} (g : GInv f B) {b : Int} {n : Nat} {done done' : Int → Int → Prop} {left : Int → Int} (h : LeftI f b n done left) {a c : Int} (hd : ∀ p r, done' p r → done p r ∨ (p = a ∧ r = c)) (h1 : 0 < f a c) (h2 : left c + 1 < left a) : LeftI f b n done' (upL left a (left c + 1)) := by
  have hne : c ≠ a := by rintro rfl; omega
  have hle : ∀ p, upL left a (left c + 1) p ≤ left p := fun p => by
    unfold upL
    split
    · rename_i hp; rw [hp]; omega
    · exact Int.le_refl _
  refine ⟨fun p => ?_, fun p => ?_, fun p m hm hw => Int.le_trans (hle p) (h.all p m hm hw), fun p r hdp h0 m hm hw => ?_⟩
  · have := h.lo p
    have := h.lo c
    have := h.lo a
    unfold upL
    split <;> omega
  · unfold upL
    by_cases hp : p = a
    · rw [if_pos hp]
      refine .inr ?_
      rcases h.way c with hc | hc
      · have := (h.lo a).2; omega
      · have := (h.lo c).1
        rw [show (left c + 1).toNat = (left c).toNat + 1 by omega, hp]
        exact ⟨c, h1, hc⟩
    · rw [if_neg hp]; exact h.way p
  · rcases hd p r hdp with hd | ⟨rfl, rfl⟩
    · exact Int.le_trans (hle p) (h.cur p r hd h0 m hm hw)
    · have := h.all r m hm hw
      unfold upL
      rw [if_pos rfl]
      omega
theorem LeftI.keep {f : Int → Int → Int} {b : Int} {n : Nat} {done done' : Int → Int → Prop} {left : Int → Int} (h : LeftI f b n done left) {a c : Int} (hd : ∀ p r, done' p r → done p r ∨ (p = a ∧ r = c)) (h1 : ¬ (0 < f a c ∧ left c + 1 < left a)) : LeftI f b n done' left := by
  refine ⟨h.lo, h.way, h.all, fun p r hdp h0 m hm hw => ?_⟩
  rcases hd p r hdp with hd | ⟨rfl, rfl⟩
  · exact h.cur p r hd h0 m hm hw
  · have := h.all r m hm hw
    rcases Int.lt_or_le (left r + 1) (left p) with h2 | h2
    · exact absurd ⟨h0, h2⟩ h1
    · omega
theorem LeftI.pass {f : Int → Int → Int} {B : Int} (g : GInv f B) {b : Int} {n : Nat} {done : Int → Int → Prop} {left : Int → Int} (h : LeftI f b n done left) (hd : ∀ p r, inP p → inP r → done p r) : LeftI f b (n + 1) (fun _ _ => False) left := by
  refine ⟨h.lo, h.way, fun p m hm hw => ?_, fun p r hd => hd.elim⟩
  match m, hm, hw with
  | 0, _, hw => exact h.all p 0 (by omega) hw
  | m + 1, hm, ⟨r, h1, h2⟩ =>
    obtain ⟨e1, e2, _⟩ := g.ends h1
    have := h.cur p r (hd p r e1 e2) h1 m (by omega) h2
    omega
/-- Behind sixteen passes: so many steps, or 99. -/
theorem LeftI.done {f : Int → Int → Int} {B : Int} (g : GInv f B) {b : Int} {left : Int → Int} (h : LeftI f b 16 (fun _ _ => False) left) (p : Int) : left p = if inS f p 16 b = true then (dst f p b : Int) else 99 := by
  by_cases hr : inS f p 16 b = true
  · rw [if_pos hr]
    obtain ⟨d1, d2, d3⟩ := dst_spec hr
    obtain ⟨m, hm, hw⟩ := (inS_iff g p (dst f p b) b).1 d1
    have h1 := h.all p m (by omega) hw
    rcases h.way p with h2 | h2
    · have : left p ≤ m := h1
      omega
    · have h3 := h.lo p
      rcases Nat.lt_or_ge (left p).toNat (dst f p b) with h4 | h4
      · have h5 := d3 _ h4
        rw [(inS_iff g p (left p).toNat b).2 ⟨_, Nat.le_refl _, h2⟩] at h5
        cases h5
      · omega
  · rw [if_neg hr]
    rcases h.way p with h2 | h2
    · exact h2
    · exact absurd (inS_mono (by omega) (inS_all g h2)) hr
/-- The shortest way, step by step. -/
theorem goS_at {f : Int → Int → Int} {B : Int} (g : GInv f B) {b : Int} : ∀ (n : Nat) (p : Int), inP p → inS f p 16 b = true → dst f p b = n →
    ∀ i (hi : i < (goS f b n p).length), inP (goS f b n p)[i] ∧ inS f (goS f b n p)[i] 16 b = true ∧ dst f (goS f b n p)[i] b + i = n ∧
      ∀ (hj : i + 1 < (goS f b n p).length), 0 < f (goS f b n p)[i] (goS f b n p)[i + 1] ∧ ∀ z, inP z → z < (goS f b n p)[i + 1] → 0 < f (goS f b n p)[i] z → ¬ (inS f z 16 b = true ∧ dst f z b + (i + 1) = n)
  | 0, p, hp, hr, hd, i, hi => by
    have h0 : i = 0 := by rw [goS_len] at hi; omega
    subst h0
    exact ⟨hp, hr, hd, fun hj => by rw [goS_len] at hj; omega⟩
  | n + 1, p, hp, hr, hd, i, hi => by
    obtain ⟨d1, d2, d3⟩ := dst_spec hr
    rw [hd] at d1 d2 d3
    obtain ⟨n1, n2, n3, n4, n5⟩ := nxt_spec g d1 (d3 n (by omega)) (fun m hm => d3 m (by omega))
    have hdn := dst_eq (by omega) n3 n4
    have ih := goS_at g n (nxt f b n p) n1 (inS_mono (by omega) n3) hdn
    have hlen := goS_len f b n (nxt f b n p)
    have hl1 : (goS f b (n + 1) p).length = n + 2 := goS_len f b (n + 1) p
    match i, hi with
    | 0, hi =>
      refine ⟨hp, hr, hd, fun hj => ?_⟩
      have e : (goS f b (n + 1) p)[0 + 1] = nxt f b n p := by
        show (goS f b n (nxt f b n p))[0]'(by rw [hlen]; omega) = nxt f b n p
        cases n <;> rfl
      rw [e]
      refine ⟨n2, fun z hz hzl hf hc => n5 z hz hzl ⟨hf, ?_⟩⟩
      have := (dst_spec hc.1).1
      rw [show dst f z b = n by have := hc.2; omega] at this
      exact this
    | i + 1, hi =>
      have hi' : i < (goS f b n (nxt f b n p)).length := by rw [hlen]; rw [hl1] at hi; omega
      obtain ⟨i1, i2, i3, i4⟩ := ih i hi'
      refine ⟨i1, i2, ?_, fun hj => ?_⟩
      · show dst f ((goS f b n (nxt f b n p))[i]'hi') b + (i + 1) = n + 1
        omega
      · have hj' : i + 1 < (goS f b n (nxt f b n p)).length := by rw [hlen]; rw [hl1] at hj; omega
        obtain ⟨j1, j2⟩ := i4 hj'
        refine ⟨j1, fun z hz hzl hf hc => j2 z hz hzl hf ⟨hc.1, ?_⟩⟩
        have := hc.2
        omega
theorem goS_head (f : Int → Int → Int) (b : Int) (n : Nat) (p : Int) : (goS f b n p)[0]'(by rw [goS_len]; omega) = p := by cases n <;> rfl
theorem goS_last {f : Int → Int → Int} {B : Int} (g : GInv f B) {b p : Int} {n : Nat} (hp : inP p) (hr : inS f p 16 b = true) (hd : dst f p b = n) : (goS f b n p)[n]'(by rw [goS_len]; omega) = b := by
  obtain ⟨h1, h2, h3, _⟩ := goS_at g n p hp hr hd n (by rw [goS_len]; omega)
  have h4 : dst f ((goS f b n p)[n]'(by rw [goS_len]; omega)) b = 0 := by omega
  have h5 := (dst_spec h2).1
  rw [h4] at h5
  have : (b == (goS f b n p)[n]'(by rw [goS_len]; omega)) = true := h5
  exact (beq_iff_eq.1 this).symm

end Go.Proofs.Ytajmladlmkkimaa
