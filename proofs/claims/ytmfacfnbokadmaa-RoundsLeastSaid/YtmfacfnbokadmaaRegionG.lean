/-
  A region whose order is open and that makes memory itself: the table of its operations' values may hang on a number (where a block was laid) which is chosen when that operation comes up.
-/
import Derived.Test.YtmfacfnbokadmaaRegion
namespace Go.Proofs.Ytmfacfnbokadmaa
open Go.RowKit
set_option linter.unusedSimpArgs false
set_option linter.unusedVariables false

theorem frOf_vals (ops : Array Oper) (val val' : Nat → Value) (D : Nat → Bool) (a : Act) (h : ∀ i, i < ops.size → D i = true → val i = val' i) : frOf ops val D a = frOf ops val' D a := by
  simp only [frOf]
  congr 2
  funext s
  split
  · rename_i i hi
    by_cases hD : D i = true
    · rw [if_pos hD, if_pos hD, h i (writerOf_some hi).1 hD]
    · rw [if_neg hD, if_neg hD]
  · rfl

section
variable {P : Program} {ops : Array Oper} {Q : Exit → Act → World → Prop} {a : Act}

theorem region_anyG {G : Type} {val : G → Nat → Value} {I : G → (Nat → Bool) → World → Prop} (hok : regionOk ops = true)
    (hop : ∀ (i : Nat) (o : Oper), ops[i]? = some o → ∀ g D w, D i = false → Waited D o → Closed ops D → I g D w →
      ∃ g', (∀ j, j < ops.size → D j = true → val g j = val g' j) ∧ OpTo P ops (frOf ops (val g') (fun _ => true) a) o w (I g' (ins i D)))
    (hend : ∀ g D w, (∀ i, i < ops.size → D i = true) → I g D w → Q .normal (frOf ops (val g) (fun _ => true) a) w) :
    ∀ (fuel : Nat) (listed : Array Bool) (g : G) (w : World), listed.size = ops.size → fuel = (listed.toList.filter (! ·)).length → Closed ops (fun i => listed.getD i false) → I g (fun i => listed.getD i false) w →
      wpAny P .any ops Q fuel listed (frOf ops (val g) (fun i => listed.getD i false) a) w := by
  have fin : ∀ (listed : Array Bool) (g : G) (w : World), listed.size = ops.size → I g (fun i => listed.getD i false) w → Region.ready .any ops listed = [] →
      Q .normal (frOf ops (val g) (fun i => listed.getD i false) a) w := by
    intro listed g w hsz hI hr
    have hall := ready_all hok hsz hr
    have hall' : ∀ i, i < ops.size → listed.getD i false = true := fun i hi => by
      have := hall i hi
      have h4 : i < listed.size := by omega
      simpa [Array.getD_eq_getD_getElem?, Array.getElem?_eq_getElem h4] using this
    rw [frOf_congr ops (val g) _ (fun _ => true) a (fun i hi => hall' i hi)]
    exact hend g _ w hall' hI
  intro fuel
  induction fuel with
  | zero =>
    intro listed g w hsz hf hc hI
    have hz : ∀ i, i < ops.size → listed.getD i true = true := by
      intro i hi
      have h4 : i < listed.size := by omega
      have h5 : listed[i] ∈ listed.toList := by simp
      have h6 := List.filter_eq_nil_iff.1 (List.length_eq_zero_iff.1 hf.symm) _ h5
      simp only [Array.getD_eq_getD_getElem?, Array.getElem?_eq_getElem h4, Option.getD_some]
      simpa using h6
    have hr : Region.ready .any ops listed = [] := by
      unfold Region.ready
      refine List.filter_eq_nil_iff.2 fun i hi => ?_
      have hi' : i < ops.size := by simpa using hi
      simp [hz i hi']
    exact ⟨hr, fin listed g w hsz hI hr⟩
  | succ fuel ih =>
    intro listed g w hsz hf hc hI
    refine ⟨fin listed g w hsz hI, fun i hi => ?_⟩
    obtain ⟨hun, o, ho, hall⟩ := mem_ready.1 hi
    have hisz : i < listed.size := by
      rcases Nat.lt_or_ge i listed.size with h' | h'
      · exact h'
      · simp [Array.getElem?_eq_none h'] at hun
    have hun' : listed.getD i false = false := by simpa [Array.getD_eq_getD_getElem?, Array.getElem?_eq_getElem hisz] using hun
    have hwt : Waited (fun i => listed.getD i false) o := fun e he hb => hall e he hb
    obtain ⟨g', hag, hop'⟩ := hop i o ho g _ w hun' hwt hc hI
    rw [frOf_vals ops (val g) (val g') _ a hag]
    refine OpTo.wpOp ho (regionOk_at hok ho) hwt hop' fun w' hw' => ?_
    have heq : (ins i fun i => listed.getD i false) = fun j => (listed.setIfInBounds i true).getD j false := by
      funext j
      simp only [ins, Array.getD_eq_getD_getElem?]
      by_cases hji : j = i
      · subst hji; simp [Array.getElem?_setIfInBounds_self_of_lt hisz]
      · rw [Array.getElem?_setIfInBounds_ne (Ne.symm hji)]; simp [hji]
    rw [heq] at hw' ⊢
    refine ih _ g' w' (by simpa using hsz) ?_ ?_ hw'
    · have hlen : ((listed.setIfInBounds i true).toList.filter (! ·)).length + 1 = (listed.toList.filter (! ·)).length := by
        simp only [Array.toList_setIfInBounds]
        have hfa : listed.toList[i]? = some false := by
          simp only [Array.getD_eq_getD_getElem?, Array.getElem?_eq_getElem hisz, Option.getD_some] at hun
          simp [hisz, hun]
        exact filter_set _ _ hfa
      omega
    · intro j oj hoj hj e he hb
      rw [← heq] at hj ⊢
      simp only [ins, Bool.or_eq_true, beq_iff_eq] at hj ⊢
      rcases hj with rfl | hj
      · rw [ho] at hoj; cases hoj
        exact .inr (hwt e he hb)
      · exact .inr (hc j oj hoj hj e he hb)

/-- What each operation, from number k on, owes. AF g: the frame that holds the whole table, by g. -/
def EachG {G : Type} (P : Program) (ops : Array Oper) (vals : G → List Value) (AF : G → Act) (I : G → (Nat → Bool) → World → Prop) : Nat → List Oper → Prop
  | _, [] => True
  | k, o :: r => (∀ g D w', D k = false → Waited D o → Closed ops D → I g D w' →
      ∃ g', (∀ j, j < ops.size → D j = true → (vals g).getD j undef = (vals g').getD j undef) ∧ OpTo P ops (AF g') o w' (I g' (ins k D))) ∧ EachG P ops vals AF I (k + 1) r
theorem EachG.at {G : Type} {vals : G → List Value} {AF : G → Act} {I : G → (Nat → Bool) → World → Prop} : ∀ {l : List Oper} {k : Nat}, EachG P ops vals AF I k l → ∀ {i : Nat} {o : Oper}, l[i]? = some o → ∀ g D w', D (k + i) = false → Waited D o → Closed ops D → I g D w' →
      ∃ g', (∀ j, j < ops.size → D j = true → (vals g).getD j undef = (vals g').getD j undef) ∧ OpTo P ops (AF g') o w' (I g' (ins (k + i) D))
  | [], _, _, i, o, h => by simp at h
  | o :: r, k, h, 0, o', ho => by simp at ho; subst ho; exact h.1
  | o :: r, k, h, i + 1, o', ho => by
    have := EachG.at h.2 (i := i) (by simpa using ho)
    rwa [show k + (i + 1) = k + 1 + i by omega]

/-- A region whose order is open, by a table that hangs on a number, and an invariant on what is done. -/
theorem region_ghost {id : Nat} {w : World} (hm : P.follows .mixedOrders = true) {G : Type} (vals : G → List Value) (I : G → (Nat → Bool) → World → Prop) (hok : regionOk ops = true) (g0 : G) (h0 : I g0 (fun _ => false) w.drew)
    (h : ∀ AF : G → Act, (∀ g, puts (fun i => (vals g).getD i undef) 0 ops.toList a = AF g) →
      EachG P ops vals AF I 0 ops.toList ∧ ∀ g D w', (∀ i, i < ops.size → D i = true) → I g D w' → Q .normal (AF g) w') :
    (Code.region id ops true).wp P Q a w := by
  obtain ⟨h1, h2⟩ := h _ (fun _ => rfl)
  refine wp_region_any hm ?_
  have haf' : ∀ g, frOf ops (fun i => (vals g).getD i undef) (fun _ => true) a = puts (fun i => (vals g).getD i undef) 0 ops.toList a := fun g => frOf_puts hok
  have hz : (fun i => (Array.replicate ops.size false).getD i false) = fun _ => false := by
    funext i; simp [Array.getD_eq_getD_getElem?, Array.getElem?_replicate]; split <;> rfl
  have key := region_anyG (P := P) (Q := Q) (val := fun g i => (vals g).getD i undef) (a := a) (I := I) hok
    (fun i o ho g D w' hDi hw hc hI => by
      have := h1.at (i := i) (o := o) (by simpa using ho) g D w' (by simpa using hDi) hw hc hI
      obtain ⟨g', hag, hop⟩ := this
      refine ⟨g', hag, ?_⟩
      rw [haf' g']
      simpa using hop)
    (fun g D w' hall hI => by rw [haf' g]; exact h2 g D w' hall hI)
    ops.size (Array.replicate ops.size false) g0 w.drew (by simp) (by simp) (fun j o ho hj => by
      simp [Array.getD_eq_getD_getElem?, Array.getElem?_replicate] at hj
      split at hj <;> simp at hj) (by rw [hz]; exact h0)
  have hfr := frOf_none ops (fun i => (vals g0).getD i undef) a
  simp only [hz] at key
  rw [hfr] at key
  exact key

end

theorem OpTo.wanted {P : Program} {ops : Array Oper} {af : Act} {o : Oper} {w : World} {R : World → Prop} (hw : Region.wanted o (yielded ops af.tmps) = true) (h : o.wp P af w (fun a' w' => a' = af ∧ R w') (fun _ _ _ => False)) : OpTo P ops af o w R := by
  unfold OpTo
  rw [if_pos hw]
  exact h
theorem OpTo.passed {P : Program} {ops : Array Oper} {af : Act} {o : Oper} {w : World} {R : World → Prop} (hw : Region.wanted o (yielded ops af.tmps) = false) (h : af.put o.dst undef = af) (hR : R w) : OpTo P ops af o w R := by
  unfold OpTo
  rw [if_neg (by rw [hw]; exact Bool.false_ne_true)]
  exact ⟨h, hR⟩

/-- What is held while one operation (number p) lays a block, another one (number q) fills it, and the others only make memory behind what was there. -/
def Laid (W : World) (p q : Nat) (zero full : Array Value) (t : TypeId) (g : Nat) (D : Nat → Bool) (w : World) : Prop :=
  Below W.heap.size W w ∧ (D p = true → D q = false → W.heap.size ≤ g ∧ Blk w g zero t) ∧ (D q = true → W.heap.size ≤ g ∧ Blk w g full t)
theorem Laid.step {W w w' : World} {p q k : Nat} {zero full : Array Value} {t : TypeId} {g : Nat} {D : Nat → Bool} (h : Laid W p q zero full t g D w) (hb : Below w.heap.size w w') (hp : k ≠ p) (hq : k ≠ q) : Laid W p q zero full t g (ins k D) w' := by
  obtain ⟨h1, h2, h3⟩ := h
  have hp' : ¬ p = k := fun e => hp e.symm
  have hq' : ¬ q = k := fun e => hq e.symm
  refine ⟨h1.trans (hb.mono h1.size), ?_, ?_⟩
  · intro a b
    simp [ins, hp'] at a; simp [ins, hq'] at b
    obtain ⟨c, d⟩ := h2 a b
    exact ⟨c, d.below hb d.lt⟩
  · intro a
    simp [ins, hq'] at a
    obtain ⟨c, d⟩ := h3 a
    exact ⟨c, d.below hb d.lt⟩
theorem Laid.lay {W w : World} {p q : Nat} {zero full : Array Value} {t : TypeId} {g : Nat} {D : Nat → Bool} (h : Laid W p q zero full t g D w) (hq : D q = false) (hpq : p ≠ q) : Laid W p q zero full t w.heap.size (ins p D) (w.alloc (.cells zero t)) := by
  obtain ⟨h1, h2, h3⟩ := h
  have hq' : ¬ q = p := fun e => hpq e.symm
  refine ⟨h1.alloc h1.size _, fun _ _ => ⟨h1.size, Blk.new _ _ _⟩, ?_⟩
  intro a
  simp [ins, hq', hq] at a
theorem Laid.fill {W w w' : World} {p q : Nat} {zero full : Array Value} {t : TypeId} {g : Nat} {D : Nat → Bool} (h : Laid W p q zero full t g D w) (hb : Below W.heap.size W w') (hg : W.heap.size ≤ g) (hk : Blk w' g full t) : Laid W p q zero full t g (ins q D) w' := by
  refine ⟨hb, ?_, fun _ => ⟨hg, hk⟩⟩
  intro _ a
  simp [ins] at a

end Go.Proofs.Ytmfacfnbokadmaa
