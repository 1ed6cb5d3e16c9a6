/-
  The best offers, as lists: in order by rate, of one rate by number. No program.
-/
import Derived.Test.YtdbdeodcldogmaaRef04
import Derived.Test.YtdbdeodcldogmaaRats2
namespace Go.Proofs.Ytdbdeodcldogmaa
open Go.RowKit
set_option linter.unusedSimpArgs false
set_option linter.unusedVariables false

/-- An offer among others that sell and buy the same: behind all that are no worse. -/
def noWorse (x y : Of) : Bool := decide (cmpR y.nu y.de x.nu x.de ≤ 0)
def insO (out : List Of) (x : Of) : List Of := out.takeWhile (noWorse x) ++ x :: out.dropWhile (noWorse x)
def bestStep (s b : Int) (out : List Of) (x : Of) : List Of := if x.sl = s ∧ x.bu = b then insO out x else out
def bestO (l : List Of) (s b : Int) : List Of := l.foldl (bestStep s b) []
theorem bestO_next (l : List Of) (s b : Int) (k : Nat) (h : k < l.length) : bestO (l.take (k + 1)) s b = bestStep s b (bestO (l.take k) s b) l[k] := by
  unfold bestO
  rw [List.take_succ_eq_append_getElem h, List.foldl_append]
  rfl
theorem split_at {p : Of → Bool} {l : List Of} {j : Nat} (h1 : ∀ y ∈ l.take j, p y = true) (h2 : ∀ h : j < l.length, p l[j] = false) : l.takeWhile p = l.take j ∧ l.dropWhile p = l.drop j := by
  have e : l = l.take j ++ l.drop j := (List.take_append_drop j l).symm
  have hd : (l.drop j).takeWhile p = [] ∧ (l.drop j).dropWhile p = l.drop j := by
    by_cases h : j < l.length
    · rw [← List.getElem_cons_drop h, List.takeWhile_cons, List.dropWhile_cons, h2 h]
      simp
    · rw [List.drop_eq_nil_of_le (by omega)]; simp
  constructor
  · conv => lhs; rw [e]
    rw [List.takeWhile_append_of_pos h1, hd.1, List.append_nil]
  · conv => lhs; rw [e]
    rw [List.dropWhile_append_of_pos h1, hd.2]
theorem insO_at {x : Of} {l : List Of} {j : Nat} (h1 : ∀ y ∈ l.take j, noWorse x y = true) (h2 : ∀ h : j < l.length, noWorse x l[j] = false) : insO l x = l.take j ++ x :: l.drop j := by
  unfold insO
  rw [(split_at h1 h2).1, (split_at h1 h2).2]
theorem insO_len (out : List Of) (x : Of) : (insO out x).length = out.length + 1 := by
  unfold insO
  rw [List.length_append, List.length_cons]
  have := congrArg List.length (List.takeWhile_append_dropWhile (p := noWorse x) (l := out))
  rw [List.length_append] at this
  omega
theorem bestO_len (l : List Of) (s b : Int) : (bestO l s b).length ≤ l.length := by
  have key : ∀ (l : List Of) (out : List Of), (l.foldl (bestStep s b) out).length ≤ out.length + l.length := by
    intro l
    induction l with
    | nil => intro out; exact Nat.le_refl _
    | cons x r ih =>
      intro out
      have h1 := ih (bestStep s b out x)
      have h2 : (bestStep s b out x).length ≤ out.length + 1 := by
        unfold bestStep
        split
        · rw [insO_len]; omega
        · omega
      simp only [List.foldl_cons, List.length_cons]
      omega
  have := key l []
  simpa [bestO] using this

/-! ### the order -/
/-- One ahead of another: a lesser rate, of one rate a lesser number. -/
def ltO (x y : Of) : Prop := x.nu * y.de < y.nu * x.de ∨ (x.nu * y.de = y.nu * x.de ∧ x.se < y.se)
def ordO (x y : Of) : Int := orI (cmpR x.nu x.de y.nu y.de) (cmpI x.se y.se)
theorem cmpR_may {an ad bn bd : Int} (h1 : mayB an ad = true) (h2 : mayB bn bd = true) : cmpR an ad bn bd = cmpI (an * bd) (bn * ad) := by unfold cmpR; rw [if_pos ⟨h1, h2⟩]
theorem ordO_lt {x y : Of} (hx : x.may) (hy : y.may) : ordO x y < 0 ↔ ltO x y := by
  unfold ordO
  rw [cmpR_may hx.2.2.2.2.2 hy.2.2.2.2.2]
  unfold ltO orI cmpI
  generalize x.nu * y.de = p
  generalize y.nu * x.de = q
  (repeat' split) <;> omega
theorem sgn3 {a1 d1 a2 d2 a3 d3 : Int} (h1 : 1 ≤ d1) (h2 : 1 ≤ d2) (h3 : 1 ≤ d3) : d2 * (a1 * d3 - a3 * d1) = d3 * (a1 * d2 - a2 * d1) + d1 * (a2 * d3 - a3 * d2) := by
  simp only [Int.mul_sub]
  have e1 : d2 * (a1 * d3) = d3 * (a1 * d2) := by rw [← Int.mul_assoc, Int.mul_comm d2 a1, Int.mul_comm d3, Int.mul_assoc]
  have e2 : d2 * (a3 * d1) = d1 * (a3 * d2) := by rw [← Int.mul_assoc, Int.mul_comm d2 a3, Int.mul_comm d1, Int.mul_assoc]
  have e3 : d3 * (a2 * d1) = d1 * (a2 * d3) := by rw [← Int.mul_assoc, Int.mul_comm d3 a2, Int.mul_comm d1, Int.mul_assoc]
  omega
theorem sgn_three {d1 d2 d3 u v t : Int} (h1 : 1 ≤ d1) (h2 : 1 ≤ d2) (h3 : 1 ≤ d3) (h : d2 * t = d3 * u + d1 * v) : (u < 0 → v ≤ 0 → t < 0) ∧ (u ≤ 0 → v < 0 → t < 0) ∧ (u = 0 → v = 0 → t = 0) ∧ (0 < u → 0 ≤ v → 0 < t) ∧ (0 ≤ u → 0 < v → 0 < t) := by
  refine ⟨fun a b => ?_, fun a b => ?_, fun a b => ?_, fun a b => ?_, fun a b => ?_⟩
  · have p := Int.mul_neg_of_pos_of_neg (show 0 < d3 by omega) a
    have q := Int.mul_nonpos_of_nonneg_of_nonpos (show 0 ≤ d1 by omega) b
    by_cases c : 0 ≤ t
    · have := Int.mul_nonneg (show 0 ≤ d2 by omega) c; omega
    · omega
  · have p := Int.mul_neg_of_pos_of_neg (show 0 < d1 by omega) b
    have q := Int.mul_nonpos_of_nonneg_of_nonpos (show 0 ≤ d3 by omega) a
    by_cases c : 0 ≤ t
    · have := Int.mul_nonneg (show 0 ≤ d2 by omega) c; omega
    · omega
  · subst a b
    rw [Int.mul_zero, Int.mul_zero, Int.add_zero] at h
    rcases Int.mul_eq_zero.1 h with e | e <;> omega
  · have p := Int.mul_pos (show 0 < d3 by omega) a
    have q := Int.mul_nonneg (show 0 ≤ d1 by omega) b
    by_cases c : t ≤ 0
    · have := Int.mul_nonpos_of_nonneg_of_nonpos (show 0 ≤ d2 by omega) c; omega
    · omega
  · have p := Int.mul_pos (show 0 < d1 by omega) b
    have q := Int.mul_nonneg (show 0 ≤ d3 by omega) a
    by_cases c : t ≤ 0
    · have := Int.mul_nonpos_of_nonneg_of_nonpos (show 0 ≤ d2 by omega) c; omega
    · omega
theorem Of.may.de {x : Of} (h : x.may) : 1 ≤ x.de := (may_bd h.2.2.2.2.2).2.1
theorem ltO_trans {x y z : Of} (hx : x.may) (hy : y.may) (hz : z.may) (h1 : ltO x y) (h2 : ltO y z) : ltO x z := by
  have k := sgn_three hx.de hy.de hz.de (sgn3 (a1 := x.nu) (a2 := y.nu) (a3 := z.nu) hx.de hy.de hz.de)
  unfold ltO at *
  generalize x.nu * y.de = a at *
  generalize y.nu * x.de = b at *
  generalize y.nu * z.de = c at *
  generalize z.nu * y.de = d at *
  generalize x.nu * z.de = e at *
  generalize z.nu * x.de = f at *
  obtain ⟨k1, k2, k3, k4, k5⟩ := k
  rcases h1 with h1 | ⟨h1, s1⟩
  · have := k1 (by omega) (by omega); omega
  · rcases h2 with h2 | ⟨h2, s2⟩
    · have := k2 (by omega) (by omega); omega
    · have := k3 (by omega) (by omega); omega
theorem ltO_ntrans {x y z : Of} (hx : x.may) (hy : y.may) (hz : z.may) (h1 : ¬ ltO x y) (h2 : ¬ ltO y z) : ¬ ltO x z := by
  have k := sgn_three hx.de hy.de hz.de (sgn3 (a1 := x.nu) (a2 := y.nu) (a3 := z.nu) hx.de hy.de hz.de)
  unfold ltO at *
  generalize x.nu * y.de = a at *
  generalize y.nu * x.de = b at *
  generalize y.nu * z.de = c at *
  generalize z.nu * y.de = d at *
  generalize x.nu * z.de = e at *
  generalize z.nu * x.de = f at *
  obtain ⟨k1, k2, k3, k4, k5⟩ := k
  by_cases u : b < a
  · have := k4 (by omega) (by omega); omega
  · have ue : a = b := by omega
    by_cases v : d < c
    · have := k5 (by omega) (by omega); omega
    · have := k3 (by omega) (by omega); omega
theorem ltO_irrefl (x : Of) : ¬ ltO x x := by unfold ltO; omega
theorem ltO_total {x y : Of} (h : x.se ≠ y.se) (h1 : ¬ ltO x y) : ltO y x := by
  unfold ltO at *
  generalize x.nu * y.de = a at *
  generalize y.nu * x.de = b at *
  omega
theorem ltO_asymm {x y : Of} (h1 : ltO x y) (h2 : ltO y x) : False := by
  unfold ltO at *
  generalize x.nu * y.de = a at *
  generalize y.nu * x.de = b at *
  omega
/-! ### the best ones -/
theorem noWorse_lt {x y : Of} (hx : x.may) (hy : y.may) (hs : y.se < x.se) (h : noWorse x y = true) : ltO y x := by
  unfold noWorse at h
  rw [cmpR_may hy.2.2.2.2.2 hx.2.2.2.2.2] at h
  unfold ltO
  generalize x.nu * y.de = a at *
  generalize y.nu * x.de = b at *
  unfold cmpI at h
  split at h
  · omega
  · split at h
    · simp at h
    · omega
theorem worse_lt {x y : Of} (hx : x.may) (hy : y.may) (h : noWorse x y = false) : ltO x y := by
  unfold noWorse at h
  rw [cmpR_may hy.2.2.2.2.2 hx.2.2.2.2.2] at h
  unfold ltO
  generalize x.nu * y.de = a at *
  generalize y.nu * x.de = b at *
  unfold cmpI at h
  split at h
  · simp at h
  · split at h
    · omega
    · simp at h
theorem insO_perm (out : List Of) (x : Of) : (insO out x).Perm (out ++ [x]) := by
  unfold insO
  have h1 : (out.takeWhile (noWorse x) ++ x :: out.dropWhile (noWorse x)).Perm (x :: (out.takeWhile (noWorse x) ++ out.dropWhile (noWorse x))) := List.perm_middle
  rw [List.takeWhile_append_dropWhile] at h1
  exact h1.trans (List.perm_append_singleton x out).symm
theorem mem_takeWhile {p : Of → Bool} : ∀ {l : List Of} {y : Of}, y ∈ l.takeWhile p → p y = true
  | x :: r, y, h => by
    rw [List.takeWhile_cons] at h
    split at h
    · rcases List.mem_cons.1 h with rfl | h
      · assumption
      · exact mem_takeWhile h
    · simp at h
theorem insO_sorted {out : List Of} {x : Of} (hm : ∀ y ∈ out, y.may) (hx : x.may) (hs : ∀ y ∈ out, y.se < x.se) (ho : out.Pairwise ltO) : (insO out x).Pairwise ltO := by
  unfold insO
  have hsplit : out.takeWhile (noWorse x) ++ out.dropWhile (noWorse x) = out := List.takeWhile_append_dropWhile
  have h1 : ∀ y ∈ out.takeWhile (noWorse x), y ∈ out ∧ noWorse x y = true := fun y hy => ⟨by rw [← hsplit]; exact List.mem_append_left _ hy, mem_takeWhile hy⟩
  have h2 : ∀ y ∈ out.dropWhile (noWorse x), y ∈ out := fun y hy => by rw [← hsplit]; exact List.mem_append_right _ hy
  rw [← hsplit, List.pairwise_append] at ho
  obtain ⟨o1, o2, o3⟩ := ho
  have h3 : ∀ y ∈ out.dropWhile (noWorse x), ltO x y := by
    cases hd : out.dropWhile (noWorse x) with
    | nil => simp
    | cons z r =>
      rw [hd] at o2 h2
      have hz : noWorse x z = false := by
        have := List.head_dropWhile_not (noWorse x) (l := out) (by rw [hd]; simp)
        simpa [hd] using this
      have hz2 := worse_lt hx (hm z (h2 z (by simp))) hz
      intro y hy
      rcases List.mem_cons.1 hy with rfl | hy
      · exact hz2
      · exact ltO_trans hx (hm z (h2 z (by simp))) (hm y (h2 y (by simp [hy]))) hz2 ((List.pairwise_cons.1 o2).1 y hy)
  rw [List.pairwise_append]
  refine ⟨o1, List.pairwise_cons.2 ⟨h3, o2⟩, fun y hy z hz => ?_⟩
  obtain ⟨hyo, hyn⟩ := h1 y hy
  have hyx := noWorse_lt hx (hm y hyo) (hs y hyo) hyn
  rcases List.mem_cons.1 hz with rfl | hz
  · exact hyx
  · exact o3 y hy z hz
/-- Of these currencies. -/
def ofPair (s b : Int) (x : Of) : Bool := decide (x.sl = s ∧ x.bu = b)
theorem foldl_best {s b : Int} : ∀ (l out : List Of), (∀ x ∈ l, x.may) → (∀ x ∈ out, x.may) → l.Pairwise (fun x y => x.se < y.se) → (∀ y ∈ out, ∀ x ∈ l, y.se < x.se) → out.Pairwise ltO →
    (l.foldl (bestStep s b) out).Perm (out ++ l.filter (ofPair s b)) ∧ (l.foldl (bestStep s b) out).Pairwise ltO
  | [], out, _, _, _, _, ho => by simpa using ho
  | x :: r, out, h1, h2, h3, h4, ho => by
    obtain ⟨h3a, h3b⟩ := List.pairwise_cons.1 h3
    rw [List.foldl_cons]
    by_cases hp : x.sl = s ∧ x.bu = b
    · have e : bestStep s b out x = insO out x := by unfold bestStep; rw [if_pos hp]
      have hi := insO_perm out x
      have hmem : ∀ y ∈ insO out x, y ∈ out ∨ y = x := fun y hy => by
        have := hi.mem_iff.1 hy
        simpa using this
      rw [e]
      obtain ⟨p, q⟩ := foldl_best r (insO out x) (fun y hy => h1 y (by simp [hy])) (fun y hy => by rcases hmem y hy with h | rfl; exact h2 y h; exact h1 y (by simp)) h3b
        (fun y hy z hz => by rcases hmem y hy with h | rfl; exact h4 y h z (by simp [hz]); exact h3a z hz) (insO_sorted h2 (h1 x (by simp)) (fun y hy => h4 y hy x (by simp)) ho)
      refine ⟨p.trans ?_, q⟩
      rw [List.filter_cons, if_pos (by unfold ofPair; simpa using hp)]
      exact (hi.append_right _).trans (by simp)
    · have e : bestStep s b out x = out := by unfold bestStep; rw [if_neg hp]
      rw [e]
      obtain ⟨p, q⟩ := foldl_best r out (fun y hy => h1 y (by simp [hy])) h2 h3b (fun y hy z hz => h4 y hy z (by simp [hz])) ho
      refine ⟨?_, q⟩
      rw [List.filter_cons, if_neg (by unfold ofPair; simpa using hp)]
      exact p
theorem bestO_is {l : List Of} (h1 : ∀ x ∈ l, x.may) (h3 : l.Pairwise (fun x y => x.se < y.se)) (s b : Int) : (bestO l s b).Perm (l.filter (ofPair s b)) ∧ (bestO l s b).Pairwise ltO := by
  have := foldl_best (s := s) (b := b) l [] h1 (by simp) h3 (by simp) List.Pairwise.nil
  simpa [bestO] using this

end Go.Proofs.Ytdbdeodcldogmaa
