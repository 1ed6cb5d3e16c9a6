/-
  Payments as lists: the pushes of a route done in a ledger, its rooms, positions and limits behind them; what is paid may be paid back. No program.
-/
import Derived.Test.YtajmladlmkkimaaFlowProg
import Derived.Test.YtajmladlmkkimaaGraphsPair
namespace Go.Proofs.Ytajmladlmkkimaa
set_option linter.unusedSimpArgs false
set_option linter.unusedVariables false

/-- Pushes done in a ledger, one behind the other. -/
def pushAll (ps : List Int) (c : Int) (ls : List Ln) (l : List Fw) : List Ln := l.foldl (fun ls x => pushL ps ls x.fr x.tt c x.am) ls
theorem pushAll_take {ps : List Int} {c : Int} {ls : List Ln} {l : List Fw} {k : Nat} (h : k < l.length) : pushAll ps c ls (l.take (k + 1)) = pushL ps (pushAll ps c ls (l.take k)) l[k].fr l[k].tt c l[k].am := by
  unfold pushAll
  rw [List.take_succ_eq_append_getElem h, List.foldl_append]
  rfl
theorem pushAll_inv {ps : List Int} {c : Int} : ∀ (l : List Fw) {ls : List Ln}, LInv ps ls → LInv ps (pushAll ps c ls l)
  | [], _, h => h
  | x :: l, _, h => pushAll_inv l (h.push x.fr x.tt c x.am)
theorem pushAll_room {ps : List Int} {c : Int} : ∀ (l : List Fw) {ls : List Ln}, LInv ps ls → goodL (roomF ps ls c) l → roomF ps (pushAll ps c ls l) c = foldF (roomF ps ls c) l
  | [], _, _, _ => rfl
  | x :: l, ls, h, ⟨h1, h2, h3⟩ => by
    have e : roomF ps (pushL ps ls x.fr x.tt c x.am) c = pushF (roomF ps ls c) x.fr x.tt x.am := by
      rw [room_push h]
      unfold gPushF
      rw [if_pos ⟨h1, h2⟩]
    show roomF ps (pushAll ps c (pushL ps ls x.fr x.tt c x.am) l) c = foldF (pushF (roomF ps ls c) x.fr x.tt x.am) l
    rw [pushAll_room l (h.push _ _ _ _) (by rw [e]; exact h3), e]
theorem pushAll_else {ps : List Int} {c d : Int} (hd : c ≠ d) : ∀ (l : List Fw) {ls : List Ln}, LInv ps ls → roomF ps (pushAll ps c ls l) d = roomF ps ls d
  | [], _, _ => rfl
  | x :: l, ls, h => by
    show roomF ps (pushAll ps c (pushL ps ls x.fr x.tt c x.am) l) d = _
    rw [pushAll_else hd l (h.push _ _ _ _), room_else h _ _ _ hd]
/-- A line, whatever of it is owed. -/
def limL (ls : List Ln) : List Ln := ls.map fun x => x.owe 0
theorem push_lims {ls : List Ln} (h : Inv ls) {a b c n : Int} (hab : a ≠ b) (h1 : 1 ≤ n) (hr : n ≤ (lnAt ls a b c).db + (lnAt ls b a c).li - (lnAt ls b a c).db) : limL (pushTo ls a b c n) = limL ls := by
  obtain ⟨i, _, f, _⟩ := push_done h hab h1 hr
  have hs : ∀ {m : List Ln}, m.Pairwise (fun x y => x.rank < y.rank) → (limL m).Pairwise (fun x y => x.rank < y.rank) := fun {m} hm => by
    unfold limL
    rw [List.pairwise_map]
    exact hm
  refine sorted_ext _ _ (hs i.sorted) (hs h.sorted) fun z => ?_
  unfold limL
  rw [List.mem_map, List.mem_map]
  constructor
  · rintro ⟨y, hy, rfl⟩
    have hl := (line_iff i y.cr y.de y.cu y).2 ⟨hy, rfl, rfl, rfl⟩
    rw [f] at hl
    split at hl
    · obtain ⟨x, hx, e⟩ := Option.map_eq_some_iff.1 hl
      exact ⟨x, (lineL_mem hx).1, by rw [← e]; rfl⟩
    · split at hl
      · obtain ⟨x, hx, e⟩ := Option.map_eq_some_iff.1 hl
        exact ⟨x, (lineL_mem hx).1, by rw [← e]; rfl⟩
      · exact ⟨y, (lineL_mem hl).1, rfl⟩
  · rintro ⟨x, hx, rfl⟩
    have hl := (line_iff h x.cr x.de x.cu x).2 ⟨hx, rfl, rfl, rfl⟩
    have hf := f x.cr x.de x.cu
    split at hf
    · rename_i k
      obtain ⟨k1, k2, k3⟩ := k
      rw [← k1, ← k2, ← k3] at hl
      rw [hl] at hf
      exact ⟨_, (lineL_mem hf).1, rfl⟩
    · split at hf
      · rename_i k
        obtain ⟨k1, k2, k3⟩ := k
        rw [← k1, ← k2, ← k3] at hl
        rw [hl] at hf
        exact ⟨_, (lineL_mem hf).1, rfl⟩
      · rw [hl] at hf
        exact ⟨x, (lineL_mem hf).1, rfl⟩
theorem room_goes {ps : List Int} {ls : List Ln} {a b c n : Int} (h1 : 1 ≤ n) (hr : n ≤ roomL ps ls a b c) : pushL ps ls a b c n = pushTo ls a b c n ∧ a ≠ b ∧ n ≤ (lnAt ls a b c).db + (lnAt ls b a c).li - (lnAt ls b a c).db := by
  have hz : ¬ (a = b ∨ a ∉ ps ∨ b ∉ ps) := by
    intro hz
    unfold roomL at hr
    rw [if_pos hz] at hr
    omega
  have hr2 := hr
  unfold roomL at hr2
  rw [if_neg hz] at hr2
  have he : pushE ps ls a b c n = 0 := by unfold pushE; rw [if_neg (by omega), if_neg (by omega)]
  exact ⟨by unfold pushL; rw [if_pos he], fun e => hz (.inl e), hr2⟩
theorem pushAll_lims {ps : List Int} {c : Int} : ∀ (l : List Fw) {ls : List Ln}, LInv ps ls → limL (pushAll ps c ls l) = limL ls
  | [], _, _ => rfl
  | x :: l, ls, h => by
    show limL (pushAll ps c (pushL ps ls x.fr x.tt c x.am) l) = _
    rw [pushAll_lims l (h.push _ _ _ _)]
    by_cases he : pushE ps ls x.fr x.tt c x.am = 0
    · have h1 : 1 ≤ x.am ∧ x.am ≤ roomL ps ls x.fr x.tt c := by unfold pushE at he; (repeat' split at he) <;> omega
      obtain ⟨e, k1, k2⟩ := room_goes h1.1 h1.2
      rw [e]
      exact push_lims h.inv k1 h1.1 k2
    · unfold pushL
      rw [if_neg he]
theorem posOf_else {x : Ln} {p c : Int} (h : x.cu ≠ c) : posOf p c x = 0 := by unfold posOf; rw [if_neg h]
theorem push_pos_else {ls : List Ln} (h : Inv ls) {a b c n : Int} (hab : a ≠ b) (h1 : 1 ≤ n) (hr : n ≤ (lnAt ls a b c).db + (lnAt ls b a c).li - (lnAt ls b a c).db) (p : Int) {d : Int} (hd : c ≠ d) : posL (pushTo ls a b c n) p d = posL ls p d := by
  obtain ⟨_, _, _, hs⟩ := push_done h hab h1 hr
  unfold posL
  rw [hs (posOf p d) (posOf_noLn p d)]
  have key : ∀ a b m, posOf p d ((lnAt ls a b c).owe m) = posOf p d (lnAt ls a b c) := by
    intro a b m
    cases hl : lineL ls a b c with
    | none => rw [lnAt_none hl]; unfold posOf noLn Ln.owe; simp
    | some x =>
      have hc := (lineL_mem hl).2.2.2
      rw [lnAt_some hl, posOf_else (x := x) (by omega), posOf_else (x := x.owe m) (by show x.cu ≠ d; omega)]
  rw [key, key]
  omega
theorem pushAll_pos {ps : List Int} {c : Int} (p : Int) : ∀ (l : List Fw) {ls : List Ln}, LInv ps ls → goodL (roomF ps ls c) l → ∀ d, posL (pushAll ps c ls l) p d = posL ls p d + (if d = c then netL l p else 0)
  | [], ls, _, _, d => by show posL ls p d = posL ls p d + (if d = c then 0 else 0); split <;> omega
  | x :: l, ls, h, ⟨h1, h2, h3⟩, d => by
    have e : roomF ps (pushL ps ls x.fr x.tt c x.am) c = pushF (roomF ps ls c) x.fr x.tt x.am := by
      rw [room_push h]
      unfold gPushF
      rw [if_pos ⟨h1, h2⟩]
    show posL (pushAll ps c (pushL ps ls x.fr x.tt c x.am) l) p d = _
    rw [pushAll_pos p l (h.push _ _ _ _) (by rw [e]; exact h3) d]
    obtain ⟨k, k1, k2⟩ := room_goes (ps := ps) (ls := ls) h1 h2
    rw [k]
    by_cases hd : d = c
    · subst hd
      rw [if_pos rfl, if_pos rfl, push_pos (ps := ps) h.inv h1 h2 p]
      show _ = _ + ((if x.tt = p then x.am else 0) - (if x.fr = p then x.am else 0) + netL l p)
      have e1 : (if p = x.fr then x.am else 0) = (if x.fr = p then x.am else 0) := by simp only [eq_comm]
      have e2 : (if p = x.tt then x.am else 0) = (if x.tt = p then x.am else 0) := by simp only [eq_comm]
      rw [e1, e2]
      omega
    · rw [if_neg hd, if_neg hd, push_pos_else h.inv k1 h1 k2 p (fun e => hd e.symm)]

/-- What pushes bring to any parties. -/
def netS (S : Int → Bool) : List Fw → Int
  | [] => 0
  | x :: r => (if S x.tt = true then x.am else 0) - (if S x.fr = true then x.am else 0) + netS S r
theorem outS_fold (S : Int → Bool) : ∀ (l : List Fw) (f : Int → Int → Int), (∀ e ∈ l, inP e.fr ∧ inP e.tt ∧ e.fr ≠ e.tt) → outS (foldF f l) S = outS f S + netS S l
  | [], f, _ => by show outS f S = outS f S + 0; omega
  | x :: l, f, h => by
    obtain ⟨h1, h2, h3⟩ := h x (by simp)
    show outS (foldF (pushF f x.fr x.tt x.am) l) S = outS f S + ((if S x.tt = true then x.am else 0) - (if S x.fr = true then x.am else 0) + netS S l)
    rw [outS_fold S l _ (fun e he => h e (by simp [he])), outS_push f S x.am h1 h2 h3]
    cases S x.tt <;> cases S x.fr <;> simp <;> omega
theorem sumTo_if (S : Int → Bool) (q : Int) (hq : inP q) (n : Int) : sumTo (fun k => if S ((k : Int) + 1) = true then (if q = (k : Int) + 1 then n else 0) else 0) 16 = if S q = true then n else 0 := by
  have e : sumTo (fun k => if S ((k : Int) + 1) = true then (if q = (k : Int) + 1 then n else 0) else 0) 16 = sumTo (fun k => if k = (q - 1).toNat then (if S q = true then n else 0) else 0) 16 := by
    refine sumTo_congr 16 fun k hk => ?_
    unfold inP at hq
    by_cases e : q = (k : Int) + 1
    · rw [if_pos (by omega : k = (q - 1).toNat), if_pos e, ← e]
    · rw [if_neg (by omega : ¬ k = (q - 1).toNat), if_neg e]; split <;> rfl
  unfold inP at hq
  rw [e, sumTo_one, if_pos (by omega)]
theorem sumTo_sub (g h : Nat → Int) : ∀ k, sumTo (fun i => g i - h i) k = sumTo g k - sumTo h k
  | 0 => rfl
  | k + 1 => by
    show sumTo (fun i => g i - h i) k + (g k - h k) = (sumTo g k + g k) - (sumTo h k + h k)
    rw [sumTo_sub g h k]; omega
theorem netS_netL (S : Int → Bool) : ∀ (l : List Fw), (∀ e ∈ l, inP e.fr ∧ inP e.tt) → netS S l = sumTo (fun k => if S ((k : Int) + 1) = true then netL l ((k : Int) + 1) else 0) 16
  | [], _ => by
    have : ∀ n, sumTo (fun k : Nat => if S ((k : Int) + 1) = true then netL [] ((k : Int) + 1) else 0) n = 0 := by
      intro n
      induction n with
      | zero => rfl
      | succ n ih => show sumTo _ n + (if S ((n : Int) + 1) = true then 0 else 0) = 0; rw [ih]; split <;> rfl
    exact (this 16).symm
  | x :: l, h => by
    obtain ⟨h1, h2⟩ := h x (by simp)
    have e : sumTo (fun k => if S ((k : Int) + 1) = true then netL (x :: l) ((k : Int) + 1) else 0) 16 =
        sumTo (fun k => ((if S ((k : Int) + 1) = true then (if x.tt = (k : Int) + 1 then x.am else 0) else 0) - (if S ((k : Int) + 1) = true then (if x.fr = (k : Int) + 1 then x.am else 0) else 0)) + (if S ((k : Int) + 1) = true then netL l ((k : Int) + 1) else 0)) 16 := by
      refine sumTo_congr 16 fun k _ => ?_
      show (if S ((k : Int) + 1) = true then ((if x.tt = (k : Int) + 1 then x.am else 0) - (if x.fr = (k : Int) + 1 then x.am else 0) + netL l ((k : Int) + 1)) else 0) = _
      split <;> omega
    rw [e, sumTo_add, sumTo_sub, sumTo_if S x.tt h2, sumTo_if S x.fr h1, ← netS_netL S l (fun e he => h e (by simp [he]))]
    rfl
/-- What any parties let out behind a route. -/
theorem IsRoute.cutS {f0 : Int → Int → Int} {B s t want : Int} {σ : RS} (h : IsRoute f0 B s t want σ) (hs : inP s) (ht : inP t) (S : Int → Bool) : outS σ.f S = outS f0 S + (if S t = true then want - σ.left else 0) - (if S s = true then want - σ.left else 0) := by
  obtain ⟨k, h, _⟩ := h
  have e1 := outS_fold S σ.out f0 (fun e he => ⟨(h.els e he).1, (h.els e he).2.1, (h.els e he).2.2.1⟩)
  rw [h.fold] at e1
  rw [e1, netS_netL S σ.out (fun e he => ⟨(h.els e he).1, (h.els e he).2.1⟩)]
  have e2 : sumTo (fun k => if S ((k : Int) + 1) = true then netL σ.out ((k : Int) + 1) else 0) 16 = sumTo (fun k => (if S ((k : Int) + 1) = true then (if t = (k : Int) + 1 then want - σ.left else 0) else 0) - (if S ((k : Int) + 1) = true then (if s = (k : Int) + 1 then want - σ.left else 0) else 0)) 16 := by
    refine sumTo_congr 16 fun k _ => ?_
    rw [h.net]
    split <;> omega
  rw [e2, sumTo_sub, sumTo_if S t ht, sumTo_if S s hs]
  omega
theorem IsRoute.good {f0 : Int → Int → Int} {B s t want : Int} {σ : RS} (h : IsRoute f0 B s t want σ) : goodL f0 σ.out ∧ foldF f0 σ.out = σ.f := by
  obtain ⟨k, h, _⟩ := h
  exact ⟨h.good, h.fold⟩
theorem IsRoute.net {f0 : Int → Int → Int} {B s t want : Int} {σ : RS} (h : IsRoute f0 B s t want σ) (p : Int) : netL σ.out p = (if t = p then want - σ.left else 0) - (if s = p then want - σ.left else 0) := by
  obtain ⟨k, h, _⟩ := h
  exact h.net p
theorem IsRoute.els {f0 : Int → Int → Int} {B s t want : Int} {σ : RS} (h : IsRoute f0 B s t want σ) : ∀ e ∈ σ.out, inP e.fr ∧ inP e.tt ∧ e.fr ≠ e.tt ∧ 1 ≤ e.am ∧ e.am ≤ B := by
  obtain ⟨k, h, _⟩ := h
  exact h.els
/-- What was paid may be paid back. -/
theorem back_goes {f0 : Int → Int → Int} {s t n : Int} {σ τ : RS} (h0 : GInv f0 4398046511104) (hs : inP s) (ht : inP t) (hst : s ≠ t) (hn : 1 ≤ n) (hR : IsRoute f0 4398046511104 s t n σ) (hl : σ.left ≤ 0) (hB : IsRoute σ.f 4398046511104 t s n τ) : τ.left ≤ 0 := by
  rcases Int.lt_or_le 0 τ.left with q | q
  · exfalso
    obtain ⟨h1, h2⟩ := hB.less ht hs (fun e => hst e.symm) (by omega)
    have h3 := hR.cutS hs ht (reachS τ.f t)
    rw [reachS_self, if_pos rfl, h1, if_neg (by decide)] at h3
    have h4 := (outK_bd h0 (reachS τ.f t) 256).1
    change 0 ≤ outS f0 (reachS τ.f t) at h4
    omega
  · exact q
/-- Behind both as much goes as ahead of them. -/
theorem back_most {f0 : Int → Int → Int} {s t n : Int} {σ τ μ ν : RS} (h0 : GInv f0 4398046511104) (hs : inP s) (ht : inP t) (hst : s ≠ t) (hR : IsRoute f0 4398046511104 s t n σ) (hB : IsRoute σ.f 4398046511104 t s n τ) (hl : σ.left = 0) (hl2 : τ.left = 0)
    (hM : IsRoute f0 4398046511104 s t mostW μ) (hN : IsRoute τ.f 4398046511104 s t mostW ν) : mostW - ν.left = mostW - μ.left := by
  have key : ∀ S : Int → Bool, outS τ.f S = outS f0 S := fun S => by
    rw [hB.cutS ht hs S, hR.cutS hs ht S, hl, hl2]
    omega
  obtain ⟨S, h1, h2, h3⟩ := most_cut hM h0 hs ht hst
  obtain ⟨T, g1, g2, g3⟩ := most_cut hN hB.g hs ht hst
  have a1 := hM.le_cut g1 g2
  have a2 := hN.le_cut h1 h2
  rw [key] at g3 a2
  omega
theorem sumTo_nn {g : Nat → Int} : ∀ k : Nat, (∀ i, i < k → 0 ≤ g i) → 0 ≤ sumTo g k := by
  intro k
  induction k with
  | zero => intro _; exact Int.le_refl _
  | succ k ih =>
    intro h
    have h1 := ih (fun i hi => h i (by omega))
    have h2 := h k (by omega)
    show 0 ≤ sumTo g k + g k
    omega
theorem sumTo_zero {g : Nat → Int} : ∀ k : Nat, (∀ i, i < k → 0 ≤ g i) → sumTo g k = 0 → ∀ i, i < k → g i = 0 := by
  intro k
  induction k with
  | zero => intro _ _ i hi; omega
  | succ k ih =>
    intro h e i hi
    have e : sumTo g k + g k = 0 := e
    have h1 := h k (by omega)
    have h2 := sumTo_nn k (fun i hi => h i (by omega))
    by_cases hk : i = k
    · subst hk; omega
    · exact ih (fun j hj => h j (by omega)) (by omega) i (by omega)
/-- Parties that let nothing out reach nobody else. -/
theorem out_zero {f : Int → Int → Int} {B : Int} (h : GInv f B) {S : Int → Bool} (h0 : outS f S = 0) {s t : Int} (hs : S s = true) (ht : S t = false) : reachS f s t = false := by
  have hc : ∀ a b, S a = true → 0 < f a b → S b = true := by
    intro a b ha hab
    cases hb : S b with
    | true => rfl
    | false =>
      obtain ⟨p1, p2, _⟩ := h.ends hab
      obtain ⟨i, hi, e1, e2⟩ := pair_pUV p1 p2
      have := sumTo_zero (g := fun i => if S (pU i) && !S (pV i) then f (pU i) (pV i) else 0) 256 (fun i _ => by split; exact h.nn _ _; exact Int.le_refl _) h0 i hi
      simp only [e1, e2, ha, hb, Bool.not_false, Bool.and_self, if_true] at this
      omega
  have hw : ∀ (n : Nat) (p q : Int), S p = true → wk f n p q → S q = true := by
    intro n
    induction n with
    | zero => intro p q hp hw; have : p = q := hw; rw [← this]; exact hp
    | succ n ih => intro p q hp hw; obtain ⟨r, h1, h2⟩ := hw; exact ih r q (hc p r hp h1) h2
  cases hr : reachS f s t with
  | false => rfl
  | true =>
    obtain ⟨k, _, k2⟩ := (inS_iff h s 16 t).1 hr
    rw [hw k s t hs k2] at ht
    cases ht
/-- Behind a route of as much as goes: nobody is reached beyond, and who is reached let out just so much. -/
theorem most_done {f0 : Int → Int → Int} {s t m : Int} {μ σ : RS} (h0 : GInv f0 4398046511104) (hs : inP s) (ht : inP t) (hst : s ≠ t) (hM : IsRoute f0 4398046511104 s t mostW μ) (hm : mostW - μ.left = m) (hR : IsRoute f0 4398046511104 s t m σ) (hl : m - σ.left = m) :
    reachS σ.f s t = false ∧ outS f0 (reachS σ.f s) ≤ m := by
  obtain ⟨S, h1, h2, h3⟩ := most_cut hM h0 hs ht hst
  have h4 := hR.cut S h1 h2
  have h5 := out_zero hR.g (by omega) h1 h2
  refine ⟨h5, ?_⟩
  have h6 := hR.cut _ (reachS_self σ.f s) h5
  rw [out_reached hR.g (reachS_closed hR.g s)] at h6
  omega

end Go.Proofs.Ytajmladlmkkimaa
