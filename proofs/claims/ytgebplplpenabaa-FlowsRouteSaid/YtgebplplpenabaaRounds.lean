/-
  A range over a function, where the rounds change what the function reads: a law with a state of one's own between the rounds. And: a region that draws its order, within a round.
-/
import Derived.Test.YtgebplplpenabaaOnce
import Derived.Test.YtgebplplpenabaaHeap
import Derived.RangeFuncNested
import Derived.RangeFuncCalls
import Derived.RangeFuncLeaves
import Derived.OrdersIn
namespace Go.Proofs.Ytgebplplpenabaa
open Go.RowKit
set_option linter.unusedSimpArgs false
set_option linter.unusedVariables false

/-! ### A region that draws its order, within a round -/

def noDefer : Op → Bool
  | .defer _ => false
  | _ => true
theorem semAt_round {l : Nat} {ρ : Operand → Value} {o : Oper} (h : noDefer o.op = true) : o.semAt (some l) ρ = execOp ρ o :=
  Oper.semAt_some l ρ o (fun c hc => by rw [hc] at h; cases h)
theorem rows_wide {n : Nat} {P : Program} {row : String} {args : Array Value} {w : World} {R : Value → World → Prop} (h : Rows P row args w R) : RowsIn Fence.wide n P row args w R :=
  fun c cs _ => let ⟨v, w', r, s⟩ := h c cs; ⟨v, w', r, stepsIn_wide.2 s⟩
theorem rows_round {n l : Nat} {P : Program} {row : String} {args : Array Value} {w : World} {R : Value → World → Prop} (h : RowsIn Fence.wide n P row args w R) : RowsIn (Fence.wide.inRound l) n P row args w R := h

/-- What may follow, if all goes well. -/
def normQ (Q : Exit → Act → World → Prop) : Exit → Act → World → Prop
  | .normal, a, w => Q .normal a w
  | _, _, _ => False
theorem normQ_out {Q : Exit → Act → World → Prop} : ¬ LetsOut (normQ Q) := fun ⟨_, _, h⟩ => h

section
variable {P : Program} {ops : Array Oper} {Q : Exit → Act → World → Prop} {n l : Nat}

theorem oper_in {o : Oper} {a : Act} {w : World} {K K' : Act → World → Prop} (hd : noDefer o.op = true) (hK : ∀ a w, K a w → K' a w) (h : o.wp P a w K (normQ Q)) : o.wpIn (Fence.wide.inRound l) n P a w K' Q := by
  unfold Oper.wp at h
  refine ⟨fun _ _ => trivial, ?_⟩
  rw [show (Fence.wide.inRound l).round = some l from rfl, semAt_round hd]
  generalize (execOp a.eval o).run P w = r at h
  cases r with
  | ok x w' =>
    cases x <;> simp only [Oper.upon, Oper.uponIn] at h ⊢
    case value v => exact hK _ _ h
    case skip => exact hK _ _ h
    case defer d => exact hK _ _ h
    case enter f args =>
      refine ⟨fun hh => (by cases hh), CallsIn.inRound l (callsIn_wide.2 (h.mono fun e w'' he => ?_))⟩
      cases e with
      | returned v => exact hK _ _ he
      | panicked c => exact he.elim
      | outgrown => exact (normQ_out he).elim
    case row row args => exact ⟨fun hh => (by cases hh), rows_round (rows_wide (h.mono fun v w'' he => hK _ _ he))⟩
  | halt x w' =>
    cases x <;> simp only [Oper.upon, Oper.uponIn] at h ⊢
    case panic v => exact h.elim

theorem op_in {i : Nat} {a : Act} {w : World} {K K' : Act → World → Prop} (hd : ∀ (i : Nat) (o : Oper), ops[i]? = some o → noDefer o.op = true) (hK : ∀ a w, K a w → K' a w) (h : wpOp P ops (normQ Q) i K a w) : wpOpIn (Fence.wide.inRound l) n P ops Q i K' a w := by
  unfold wpOp at h
  unfold wpOpIn
  cases ho : ops[i]? with
  | none =>
    rw [ho] at h
    exact hK _ _ h
  | some o =>
    rw [ho] at h
    simp only at h ⊢
    split
    · rename_i hw
      rw [if_pos hw] at h
      rcases h with h | h
      · exact oper_in (hd i o ho) hK h
      · exact absurd h.2 normQ_out
    · rename_i hw
      rw [if_neg hw] at h
      exact ⟨fun _ _ => trivial, hK _ _ h⟩

theorem any_in (hd : ∀ (i : Nat) (o : Oper), ops[i]? = some o → noDefer o.op = true) : ∀ (fuel : Nat) (listed : Array Bool) (a : Act) (w : World), wpAny P .any ops (normQ Q) fuel listed a w → wpAnyIn (Fence.wide.inRound l) n P .any ops Q fuel listed a w
  | 0, _, _, _, h => h
  | fuel + 1, _, _, _, h => ⟨h.1, fun i hi => op_in hd (fun a w => any_in hd fuel _ a w) (h.2 i hi)⟩

theorem noDefer_at (h : ops.toList.all (fun o => noDefer o.op) = true) (i : Nat) (o : Oper) (ho : ops[i]? = some o) : noDefer o.op = true :=
  List.all_eq_true.1 h o (List.mem_of_getElem? (by simpa using ho))

/-- Within a round: a region whose order is open, by a table that hangs on a ghost, and an invariant on what is done. -/
theorem region_ghostR {id : Nat} {a : Act} {w : World} (hm : P.follows .mixedOrders = true) (hd : ops.toList.all (fun o => noDefer o.op) = true) {G : Type} (vals : G → List Value) (I : G → (Nat → Bool) → World → Prop) (hok : regionOk ops = true) (g0 : G) (h0 : I g0 (fun _ => false) w.drew)
    (h : ∀ AF : G → Act, (∀ g, puts (fun i => (vals g).getD i undef) 0 ops.toList a = AF g) →
      EachG P ops vals AF I 0 ops.toList ∧ ∀ g D w', (∀ i, i < ops.size → D i = true) → I g D w' → Q .normal (AF g) w') :
    (Code.region id ops true).wpIn (Fence.wide.inRound l) n P Q a w := by
  obtain ⟨h1, h2⟩ := h _ (fun _ => rfl)
  refine wpIn_region_any hm (any_in (noDefer_at hd) _ _ _ _ ?_)
  have haf' : ∀ g, frOf ops (fun i => (vals g).getD i undef) (fun _ => true) a = puts (fun i => (vals g).getD i undef) 0 ops.toList a := fun g => frOf_puts hok
  have hz : (fun i => (Array.replicate ops.size false).getD i false) = fun _ => false := by
    funext i; simp [Array.getD_eq_getD_getElem?, Array.getElem?_replicate]; split <;> rfl
  have key := region_anyG (P := P) (Q := normQ Q) (val := fun g i => (vals g).getD i undef) (a := a) (I := I) hok
    (fun i o ho g D w' hDi hw hc hI => by
      have := h1.at (i := i) (o := o) (by simpa using ho) g D w' (by simpa using hDi) hw hc hI
      obtain ⟨g', hag, hop⟩ := this
      refine ⟨g', hag, ?_⟩
      rw [haf' g']
      simpa using hop)
    (fun g D w' hall hI => by rw [haf' g]; exact h2 g D w' hall hI)
    ops.size (Array.replicate ops.size false) g0 w.drew (by simp) (by simp) (fun j o ho hj => by
      simp [Array.getD_eq_getD_getElem?, Array.getElem?_replicate] at hj
      split at hj <;> simp at hj) (by rw [hz]; exact h0)
  have hfr := frOf_none ops (fun i => (vals g0).getD i undef) a
  simp only [hz] at key
  rw [hfr] at key
  exact key

/-- Within a round: a region whose operations keep S, all but the last one (number k), which waits for all others, if only over others. -/
theorem region_endR {id : Nat} {a : Act} {w : World} (hm : P.follows .mixedOrders = true) (hd : ops.toList.all (fun o => noDefer o.op) = true) (k : Nat) (vals : List Value) (S : World → Prop) (hok : regionOk ops = true) (hsz : ops.size = k + 1)
    (hlast : (List.range k).all (fun j => (need ops k).testBit j) = true) (h0 : S w.drew)
    (h : ∀ af, puts (fun i => vals.getD i undef) 0 ops.toList a = af → EachTo P ops af S (ops.toList.take k) ∧ ∀ w', S w' → OpTo P ops af (ops.toList.getD k default) w' (fun w'' => Q .normal af w'')) :
    (Code.region id ops true).wpIn (Fence.wide.inRound l) n P Q a w := by
  obtain ⟨h1, h2⟩ := h _ rfl
  refine wpIn_region_any hm (any_in (noDefer_at hd) _ _ _ _ ?_)
  have haf' : frOf ops (fun i => vals.getD i undef) (fun _ => true) a = puts (fun i => vals.getD i undef) 0 ops.toList a := frOf_puts hok
  have hfr := frOf_none ops (fun i => vals.getD i undef) a
  have hz : (fun i => (Array.replicate ops.size false).getD i false) = fun _ => false := by
    funext i; simp [Array.getD_eq_getD_getElem?, Array.getElem?_replicate]; split <;> rfl
  have key := region_any (P := P) (Q := normQ Q) (val := fun i => vals.getD i undef) (a := a) (I := fun D w' => if D k = true then Q .normal (puts (fun i => vals.getD i undef) 0 ops.toList a) w' else S w') hm hok
    (fun i o ho D w' hDi hw hc hI => by
      rw [haf']
      have hi : i < ops.size := by
        rcases Nat.lt_or_ge i ops.size with h' | h'
        · exact h'
        · simp [Array.getElem?_eq_none h'] at ho
      by_cases hin : i = k
      · subst hin
        rw [hDi] at hI
        simp only [ins, beq_self_eq_true, Bool.true_or, if_true]
        have h3 := h2 w' hI
        rwa [List.getD_eq_getElem?_getD, Array.getElem?_toList, ho] at h3
      · have hDn : D k = false := need_not hc hDi k (List.all_eq_true.1 hlast i (by simp; omega))
        rw [hDn] at hI
        have : (ins i D) k = false := by simp [ins, hDn]; omega
        simp only [this]
        exact h1.at (i := i) (by rw [List.getElem?_take]; simp [show i < k by omega, ho]) w' hI)
    (fun D w' hall hI => by
      rw [haf']
      rwa [if_pos (hall k (by omega))] at hI)
    ops.size (Array.replicate ops.size false) w.drew (by simp) (by simp) (fun j o ho hj => by
      simp [Array.getD_eq_getD_getElem?, Array.getElem?_replicate] at hj
      split at hj <;> simp at hj) (by
      have : (Array.replicate ops.size false).getD k false = false := by simp [Array.getD_eq_getD_getElem?, Array.getElem?_replicate]; split <;> rfl
      show if (Array.replicate ops.size false).getD k false = true then _ else S w.drew
      rw [this]
      exact h0)
  rw [hz, hfr] at key
  exact key
end

/-! ### The range over a function -/

/-- What new memory leaves as it is, and the turn of a block beyond B that holds no cells. -/
structure Fits (B : Nat) (I : World → Prop) : Prop where
  grow : ∀ W W', I W → Below W.heap.size W W' → I W'
  turn : ∀ W l o o', I W → B ≤ l → W.heap[l]? = some o → o.isCells = false → I (W.putObj l o')

/-- A function that calls yield with values of Y, state by state, till S: whatever else J says that new memory leaves as it is. -/
def SeqJ (P : Program) (gf : FuncId) (lb : Array Value) {St : Type} (S : St → Prop) (Y : St → Array Value → World → Prop) (next : St → St → Prop) (I : St → World → Prop) : Prop :=
  ∀ (n l : Nat) (J : St → World → Prop) (Jx : World → Prop), (∀ s W W', J s W → Below W.heap.size W W' → J s W') → (∀ s W, J s W → I s W) →
    (∀ m s vs W, J s W → Y s vs W → YieldAt Fence.wide m P l vs W fun e W' => (e = .returned (.bool true) ∧ ∃ s', next s s' ∧ J s' W') ∨ (e = .returned (.bool false) ∧ Jx W')) →
    ∀ s W, J s W → CallsIn Fence.wide n P gf (#[.func (.yield l) #[] #[]] ++ lb) W fun e W' => (∃ v, e = .returned v) ∧ ((∃ s, S s ∧ J s W') ∨ Jx W')

/-- How a round's body may be left. -/
def roundEnd {St : Type} (B : Nat) (I : St → World → Prop) (Ix : Code → World → Prop) (next : St → St → Prop) (s : St) (W : World) : Exit → Act → World → Prop
  | .normal, _, W' => KeepsFrom B W W' ∧ ∃ s', next s s' ∧ I s' W'
  | .ret, _, W' => KeepsFrom B W W' ∧ Ix .ret W'
  | .exit id, _, W' => KeepsFrom B W W' ∧ Ix (.exit id) W'
  | .goto t, _, W' => KeepsFrom B W W' ∧ Ix (.goto t) W'
  | .panic _, _, _ => False
  | .outgrown, _, _ => False

theorem wp_rounds {P : Program} {g : Operand} {ps : Array Tmp} {assign body : Code} {Q : Exit → Act → World → Prop} {a : Act} {w : World} {St : Type} {gf : FuncId} {lb : Array Value}
    (hg : a.eval g = .func (.func gf) #[] lb) (eg : ∀ args w, (callFunc gf args).run P w = .ok (.enter gf args) w)
    (I : St → World → Prop) (Y : St → Array Value → World → Prop) (Ix : Code → World → Prop) (S : St → Prop) (next : St → St → Prop)
    (hI : ∀ s, Fits w.heap.size (I s)) (hIx : ∀ c, Fits w.heap.size (Ix c)) (hY : ∀ s vs, Fits w.heap.size (Y s vs)) (hps : ∀ s vs W, Y s vs W → vs.size = ps.size)
    (hseq : SeqJ P gf lb S Y next I) (s0 : St) (h0 : I s0 w) (a₁ : Array Value → Act)
    (hassign : ∀ (m l : Nat) (s : St) (vs : Array Value) (W : World) (K : Act → World → Prop), I s W → Y s vs W → K (a₁ vs) W →
      assign.wpIn (Fence.wide.inRound l) m P (Exit.then K fun _ _ _ => False) { tmps := (ps.zip vs).foldl (fun t (p, v) => t.setIfInBounds p v) a.tmps, defers := [] } W)
    (hbody : ∀ (m l : Nat) (s : St) (vs : Array Value) (W : World), I s W → Y s vs W → body.wpIn (Fence.wide.inRound l) m P (roundEnd w.heap.size I Ix next s W) (a₁ vs) W)
    (hdone : ∀ (D : Nat) (s : St) (W : World), w.heap.size ≤ D → S s → I s W → W.heap[D]? = some (.deferred (some [])) → Q .normal { a with defers := { target := .collected D, args := #[] } :: a.defers } W)
    (hstop : ∀ (D : Nat) (c : Code) (W : World), w.heap.size ≤ D → Ix c W → W.heap[D]? = some (.deferred (some [])) → c.wp P Q { a with defers := { target := .collected D, args := #[] } :: a.defers } W) :
    (Code.rangeFunc g ps assign body).wp P Q a w := by
  refine (wpIn_wide (n := 0)).1 (wpIn_rangeFunc fun fn hfn => ?_)
  obtain ⟨rec, hrec⟩ : ∃ rec : LoopState → Option Code → Loop, rec = fun st pe => { state := st, pending := pe, fn, tmps := a.tmps, params := ps, assign, body, defers := w.heap.size } := ⟨_, rfl⟩
  obtain ⟨W1, hW1⟩ : ∃ W1, (w.alloc (.deferred (some []))).alloc (.loop (rec .ready none)) = W1 := ⟨_, rfl⟩
  have hl1 : W1.heap[w.heap.size + 1]? = some (.loop (rec .ready none)) := by
    have e := World.alloc_heap_new (w.alloc (.deferred (some []))) (.loop (rec .ready none))
    rw [World.size_alloc, hW1] at e
    exact e
  have hd1 : W1.heap[w.heap.size]? = some (.deferred (some [])) := by
    rw [← hW1]
    exact (Below.heap_alloc _ _ _ (by simp)).trans (World.alloc_heap_new w _)
  have hb1 : Below w.heap.size w W1 := by
    rw [← hW1]
    exact ((Below.refl _ w).alloc (Nat.le_refl _) _).alloc (by simp) _
  have hI1 : I s0 W1 := (hI s0).grow _ _ h0 hb1
  refine ⟨w.heap.size + 1, [{ target := .collected w.heap.size, args := #[] }], W1, { target := .fn (.func gf) lb, args := #[.func (.yield (w.heap.size + 1)) #[] #[]] }, W1, gf,
    #[.func (.yield (w.heap.size + 1)) #[] #[]] ++ lb, W1, ?_, ?_, fun _ _ => trivial, ?_, fun hh => (by cases hh), ?_⟩
  · rw [← hW1, hrec]
    exact run_enterLoop_outer _ _ _ _ _
  · simp only [resolve, hg]
    simp [go_sem]
  · simp [invoke, go_sem, eg]
  refine (hseq (0 - 1) (w.heap.size + 1) (fun s W => I s W ∧ W.heap[w.heap.size + 1]? = some (.loop (rec .ready none)) ∧ W.heap[w.heap.size]? = some (.deferred (some [])))
    (fun W => ∃ c, Ix c W ∧ W.heap[w.heap.size + 1]? = some (.loop (rec .done (some c))) ∧ W.heap[w.heap.size]? = some (.deferred (some [])))
    (fun s W W' h hb => ⟨(hI s).grow _ _ h.1 hb, (hb.block _ (Array.getElem?_eq_some_iff.1 h.2.1).1).trans h.2.1, (hb.block _ (Array.getElem?_eq_some_iff.1 h.2.2).1).trans h.2.2⟩)
    (fun s W h => h.1) ?_ s0 W1 ⟨hI1, hl1, hd1⟩).mono ?_
  · rintro m s vs W ⟨hi, hl, hk⟩ hy
    have hlt := (Array.getElem?_eq_some_iff.1 hl).1
    have hry := run_yield (P := P) (args := vs) hl (by rw [hrec]; exact hps s vs W hy)
    rw [hrec] at hry
    refine ⟨fn, _, assign, body, hry, roundIn_of_wpIn hfn (hassign m _ s vs W _ hi hy ?_)⟩
    clear hry
    refine ⟨_, run_beginRound hl (by rw [hrec]), ?_⟩
    have hl2 : (W.putObj (w.heap.size + 1) (.loop { rec .ready none with state := .busy })).heap[w.heap.size + 1]? = some (.loop { rec .ready none with state := .busy }) := World.putObj_heap_same hlt
    have hk2 : (W.putObj (w.heap.size + 1) (.loop { rec .ready none with state := .busy })).heap[w.heap.size]? = some (.deferred (some [])) := (World.putObj_heap_other (by omega)).trans hk
    refine wpIn_mono (hbody m _ s vs _ ((hI s).turn _ _ _ _ hi (by omega) hl rfl) ((hY s vs).turn _ _ _ _ hy (by omega) hl rfl)) ?_
    have fin : ∀ (jump : Option Code) (W3 : World), KeepsFrom w.heap.size (W.putObj (w.heap.size + 1) (.loop { rec .ready none with state := .busy })) W3 →
        (Instr.endRound (w.heap.size + 1) jump).run P W3 = .ok (.bool jump.isNone) (W3.putObj (w.heap.size + 1) (.loop (rec (if jump.isNone then .ready else .done) jump))) ∧
        W3.heap[w.heap.size + 1]? = some (.loop { rec .ready none with state := .busy }) ∧
        (W3.putObj (w.heap.size + 1) (.loop (rec (if jump.isNone then .ready else .done) jump))).heap[w.heap.size + 1]? = some (.loop (rec (if jump.isNone then .ready else .done) jump)) ∧
        (W3.putObj (w.heap.size + 1) (.loop (rec (if jump.isNone then .ready else .done) jump))).heap[w.heap.size]? = some (.deferred (some [])) := fun jump W3 hk3 => by
      have hl3 := hk3.same _ _ (by omega) hl2 rfl
      have he := run_endRound (P := P) jump hl3
      rw [hrec] at he ⊢
      exact ⟨he, by rw [hrec] at hl3; exact hl3, World.putObj_heap_same (Array.getElem?_eq_some_iff.1 hl3).1, (World.putObj_heap_other (by omega)).trans (hk3.same _ _ (Nat.le_refl _) hk2 rfl)⟩
    rintro e a3 W3 hp
    cases e with
    | normal =>
      obtain ⟨hk3, s', hn, hi3⟩ := hp
      obtain ⟨hr, hl3, hl4, hk4⟩ := fin none W3 hk3
      exact ⟨_, _, hr, .inl ⟨rfl, s', hn, (hI s').turn _ _ _ _ hi3 (by omega) hl3 rfl, hl4, hk4⟩⟩
    | ret =>
      obtain ⟨hk3, hi3⟩ := hp
      obtain ⟨hr, hl3, hl4, hk4⟩ := fin (some .ret) W3 hk3
      exact ⟨_, _, hr, .inr ⟨rfl, .ret, (hIx _).turn _ _ _ _ hi3 (by omega) hl3 rfl, hl4, hk4⟩⟩
    | exit id =>
      obtain ⟨hk3, hi3⟩ := hp
      obtain ⟨hr, hl3, hl4, hk4⟩ := fin (some (.exit id)) W3 hk3
      exact ⟨_, _, hr, .inr ⟨rfl, .exit id, (hIx _).turn _ _ _ _ hi3 (by omega) hl3 rfl, hl4, hk4⟩⟩
    | goto t =>
      obtain ⟨hk3, hi3⟩ := hp
      obtain ⟨hr, hl3, hl4, hk4⟩ := fin (some (.goto t)) W3 hk3
      exact ⟨_, _, hr, .inr ⟨rfl, .goto t, (hIx _).turn _ _ _ _ hi3 (by omega) hl3 rfl, hl4, hk4⟩⟩
    | panic ch => exact hp.elim
    | outgrown => exact hp.elim
  · rintro e W2 ⟨⟨v, rfl⟩, (⟨s, hS, hi, hl, hk⟩ | ⟨c, hi, hl, hk⟩)⟩
    · have he := run_endLoop (P := P) hl (by rw [hrec]; simp)
      rw [hrec] at he
      exact ⟨none, _, he, hdone _ s _ (Nat.le_refl _) hS ((hI s).turn _ _ _ _ hi (by omega) hl rfl) ((World.putObj_heap_other (by omega)).trans hk)⟩
    · have he := run_endLoop (P := P) hl (by rw [hrec]; simp)
      rw [hrec] at he
      exact ⟨some c, _, he, wpIn_wide.2 (hstop _ c _ (Nat.le_refl _) ((hIx c).turn _ _ _ _ hi (by omega) hl rfl) ((World.putObj_heap_other (by omega)).trans hk))⟩

end Go.Proofs.Ytgebplplpenabaa
