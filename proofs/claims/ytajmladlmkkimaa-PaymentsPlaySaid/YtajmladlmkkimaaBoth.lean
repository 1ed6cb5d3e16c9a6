/-
  A region that does the same act on the program's ledger and on the document's, in whichever order.
-/
import Derived.Test.YtajmladlmkkimaaPLed
import Derived.Test.YtajmladlmkkimaaRef03i
import Derived.Test.YtajmladlmkkimaaOnce
import Derived.Test.YtajmladlmkkimaaActs
namespace Go.Proofs.Ytajmladlmkkimaa
open Go.RowKit
set_option linter.unusedSimpArgs false
set_option linter.unusedVariables false

theorem blk_ne {w : World} {g h : Nat} {cs ds : Array Value} {t u : TypeId} (a : Blk w g cs t) (b : Blk w h ds u) (hn : t ≠ u) : g ≠ h := by
  rintro rfl
  have e := a.out
  rw [b.out] at e
  simp only [Option.some.injEq, Obj.cells.injEq] at e
  exact hn e.2.1.symm
/-- The document's ledger lies apart from the program's. -/
theorem RefL.apart {w : World} {base r G M : Nat} {ps ps' : List Int} {ls ls' : List Ln} {vp vl : Value} (hL : LedM w G M ps ls) (hR : RefL w base r ps' ls' vp vl) :
    (r ≠ G ∧ r ≠ M) ∧ (∀ b, vp.ownBlock = some b → b ≠ G ∧ b ≠ M ∧ b ≠ r) ∧ (∀ b, vl.ownBlock = some b → b ≠ G ∧ b ≠ M ∧ b ≠ r) := by
  refine ⟨⟨blk_ne hR.blk hL.blk (by decide), fun e => hL.map.ne_blk hR.blk e.symm⟩, fun b hb => ?_, fun b hb => ?_⟩
  · obtain ⟨_, _, cur, hc⟩ := owns_type hR.p hb
    have hbk : Blk w b cur 42 := hc
    exact ⟨blk_ne hbk hL.blk (by decide), fun e => hL.map.ne_blk hbk e.symm, blk_ne hbk hR.blk (by decide)⟩
  · obtain ⟨_, _, cur, hc⟩ := owns_type hR.l hb
    have hbk : Blk w b cur 121 := hc
    exact ⟨blk_ne hbk hL.blk (by decide), fun e => hL.map.ne_blk hbk e.symm, blk_ne hbk hR.blk (by decide)⟩
/-- Blocks of both ledgers that an act may change. -/
def Trio (G M r : Nat) (b : Nat) : Prop := b = G ∨ b = M ∨ b = r
structure Both (W : World) (G M base r X : Nat) (xs : Array Value) (ps P : List Int) (ls L : List Ln) (c1 c2 : Nat) (D : Nat → Bool) (w : World) : Prop where
  keep : Keep (Trio G M r) W w
  x : Blk w X xs 45
  led : LedM w G M (cond (D c1) P ps) (cond (D c1) L ls)
  ref : ∃ vp vl, RefL w base r (cond (D c2) P ps) (cond (D c2) L ls) vp vl
def BothT (W : World) (G M base r : Nat) (P : List Int) (L : List Ln) (w : World) : Prop := Keep (Trio G M r) W w ∧ LedM w G M P L ∧ ∃ vp vl, RefL w base r P L vp vl
theorem Both.start {W : World} {G M base r X : Nat} {xs : Array Value} {ps P : List Int} {ls L : List Ln} {c1 c2 : Nat} {vp vl : Value} (hL : LedM W G M ps ls) (hR : RefL W base r ps ls vp vl) (hX : Blk W X xs 45) :
    Both W G M base r X xs ps P ls L c1 c2 (fun _ => false) W.drew := by
  have bb : Below W.heap.size W W.drew := (Below.refl _ _).drew
  exact ⟨Keep.of_below bb, hX.below bb hX.lt, hL.below bb, vp, vl, hR.below bb⟩
theorem Both.step {W w : World} {G M base r X : Nat} {xs : Array Value} {ps P : List Int} {ls L : List Ln} {c1 c2 : Nat} {D : Nat → Bool} (h : Both W G M base r X xs ps P ls L c1 c2 D w) {k : Nat} (h1 : k ≠ c1) (h2 : k ≠ c2) : Both W G M base r X xs ps P ls L c1 c2 (ins k D) w := by
  have e1 : ins k D c1 = D c1 := by simp [ins, Ne.symm h1]
  have e2 : ins k D c2 = D c2 := by simp [ins, Ne.symm h2]
  exact ⟨h.keep, h.x, by rw [e1]; exact h.led, by rw [e2]; exact h.ref⟩
theorem Both.one {W w w' : World} {G M base r X : Nat} {xs : Array Value} {ps P : List Int} {ls L : List Ln} {c1 c2 : Nat} {D : Nat → Bool} (h : Both W G M base r X xs ps P ls L c1 c2 D w) (hc : c1 ≠ c2) (hl : LedM w' G M P L) (hk : Keep (fun b => b = G ∨ b = M) w w') : Both W G M base r X xs ps P ls L c1 c2 (ins c1 D) w' := by
  obtain ⟨vp, vl, hr⟩ := h.ref
  obtain ⟨⟨a1, a2⟩, a3, a4⟩ := RefL.apart h.led hr
  have e1 : ins c1 D c1 = true := by simp [ins]
  have e2 : ins c1 D c2 = D c2 := by simp [ins, Ne.symm hc]
  refine ⟨h.keep.trans (hk.mono fun b _ hb => ?_), h.x.keep hk ?_, by rw [e1]; exact hl, vp, vl, ?_⟩
  · rcases hb with hb | hb
    · exact .inl hb
    · exact .inr (.inl hb)
  · rintro (e | e)
    · exact blk_ne h.x h.led.blk (by decide) e
    · exact h.led.map.ne_blk h.x e.symm
  · rw [e2]
    refine hr.keep hk ?_ (fun b hb e => ?_) (fun b hb e => ?_)
    · rintro (e | e)
      · exact a1 e
      · exact a2 e
    · rcases e with e | e
      · exact (a3 b hb).1 e
      · exact (a3 b hb).2.1 e
    · rcases e with e | e
      · exact (a4 b hb).1 e
      · exact (a4 b hb).2.1 e
theorem Both.two {W w w' : World} {G M base r X : Nat} {xs : Array Value} {ps P : List Int} {ls L : List Ln} {c1 c2 : Nat} {D : Nat → Bool} (h : Both W G M base r X xs ps P ls L c1 c2 D w) (hc : c1 ≠ c2) (hl : ∃ vp vl, RefL w' base r P L vp vl) (hk : Keep (· = r) w w') : Both W G M base r X xs ps P ls L c1 c2 (ins c2 D) w' := by
  obtain ⟨vp, vl, hr⟩ := h.ref
  obtain ⟨⟨a1, a2⟩, a3, a4⟩ := RefL.apart h.led hr
  have e1 : ins c2 D c1 = D c1 := by simp [ins, hc]
  have e2 : ins c2 D c2 = true := by simp [ins]
  refine ⟨h.keep.trans (hk.mono fun b _ hb => .inr (.inr hb)), h.x.keep hk (fun e => blk_ne h.x hr.blk (by decide) e), ?_, by rw [e2]; exact hl⟩
  rw [e1]
  exact h.led.keep hk (fun e => a1 e.symm) (fun e => a2 e.symm)
theorem Both.led0 {W w : World} {G M base r X : Nat} {xs : Array Value} {ps P : List Int} {ls L : List Ln} {c1 c2 : Nat} {D : Nat → Bool} (h : Both W G M base r X xs ps P ls L c1 c2 D w) (hD : D c1 = false) : LedM w G M ps ls := by
  have := h.led; rw [hD] at this; exact this
theorem Both.ref0 {W w : World} {G M base r X : Nat} {xs : Array Value} {ps P : List Int} {ls L : List Ln} {c1 c2 : Nat} {D : Nat → Bool} (h : Both W G M base r X xs ps P ls L c1 c2 D w) (hD : D c2 = false) : ∃ vp vl, RefL w base r ps ls vp vl := by
  have := h.ref; rw [hD] at this; exact this
theorem Both.done {W w : World} {G M base r X : Nat} {xs : Array Value} {ps P : List Int} {ls L : List Ln} {c1 c2 : Nat} {D : Nat → Bool} (h : Both W G M base r X xs ps P ls L c1 c2 D w) (h1 : D c1 = true) (h2 : D c2 = true) : BothT W G M base r P L w := by
  have a := h.led; rw [h1] at a
  have b := h.ref; rw [h2] at b
  exact ⟨h.keep, a, b⟩

end Go.Proofs.Ytajmladlmkkimaa
