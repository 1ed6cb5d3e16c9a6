/-
  GraphsPair: the walk, for every acts, currency and flow (written by gen_gpair.py).
-/
import Derived.Test.YtajmladlmkkimaaLives05
import Derived.Test.YtajmladlmkkimaaPGrE
import Derived.Test.YtajmladlmkkimaaActs
import Derived.Test.YtajmladlmkkimaaFlwIn
import Derived.Test.YtajmladlmkkimaaLedMath3
namespace Go.Proofs.Ytajmladlmkkimaa
open Go.RowKit
set_option linter.unusedSimpArgs false
set_option linter.unusedVariables false

/-- The rooms of a ledger in one currency are capacities. -/
def roomF (ps : List Int) (ls : List Ln) (c a b : Int) : Int := roomL ps ls a b c
theorem roomF_inv {ps : List Int} {ls : List Ln} (h : LInv ps ls) (c : Int) : GInv (roomF ps ls c) 4398046511104 := by
  refine ⟨fun p q => (roomL_bd h.inv.good p q c).1, fun p q => ?_, fun p q hi => ?_, fun p => ?_⟩
  · have h1 := (roomL_bd (ps := ps) h.inv.good p q c).2
    have h2 := (roomL_bd (ps := ps) h.inv.good q p c).2
    unfold roomF
    omega
  · unfold roomF roomL
    rw [if_pos]
    by_cases h1 : p ∈ ps
    · by_cases h2 : q ∈ ps
      · exact absurd ⟨h.bd p h1, h.bd q h2⟩ hi
      · exact .inr (.inr h2)
    · exact .inr (.inl h1)
  · unfold roomF roomL
    rw [if_pos (.inl rfl)]
/-- Of a ledger that is there. -/
theorem gof_led {w : World} {G M : Nat} {ps : List Int} {ls : List Ln} (h : LedM w G M ps ls) (hI : LInv ps ls) {c : Int} (hc : In8 c) :
    Calls Try.prog 32 #[.pointer (some ⟨G, 0, none⟩), .int .u8 c] w fun e w' => e = .returned (.pointer (some ⟨w.heap.size, 0, none⟩)) ∧ Blk w' w.heap.size (graC (roomF ps ls c) true) 132 ∧ Below w.heap.size w w' :=
  gof_any fun w' k p q hp hq => room_any (h.below k) hI hp hq hc
theorem gcap_b {w : World} {g : Nat} {f : Int → Int → Int} {b : Bool} (h : Blk w g (graC f b) 132) (ho : outF f) (p q : Int) :
    Calls Try.prog 74 #[.pointer (some ⟨g, 0, none⟩), .int .u8 p, .int .u8 q] w fun e w' => e = .returned (.int .i64 (f p q)) ∧ Below w.heap.size w w' :=
  (gcap_any h ho p q).mono fun e w' ⟨h1, h2⟩ => ⟨h1, h2 ▸ Below.refl _ _⟩

end Go.Proofs.Ytajmladlmkkimaa

/-
  What a push in a ledger does to its rooms: what a push does to capacities.
-/
namespace Go.Proofs.Ytajmladlmkkimaa
set_option linter.unusedSimpArgs false
set_option linter.unusedVariables false

theorem room_other {ps : List Int} {ls : List Ln} (h : Inv ls) {a b c n : Int} (h1 : 1 ≤ n) (hr : n ≤ roomL ps ls a b c) {p q d : Int}
    (k1 : ¬ (a = p ∧ b = q ∧ c = d)) (k2 : ¬ (a = q ∧ b = p ∧ c = d)) : roomL ps (pushTo ls a b c n) p q d = roomL ps ls p q d := by
  have hz : ¬ (a = b ∨ a ∉ ps ∨ b ∉ ps) := by
    intro hz
    unfold roomL at hr
    rw [if_pos hz] at hr
    omega
  have hr2 := hr
  unfold roomL at hr2
  rw [if_neg hz] at hr2
  obtain ⟨_, _, h3, _⟩ := push_done h (fun e => hz (.inl e)) h1 hr2
  have e1 : lnAt (pushTo ls a b c n) p q d = lnAt ls p q d := by
    unfold lnAt
    rw [h3 p q d, if_neg k1, if_neg (fun e => k2 ⟨e.2.1, e.1, e.2.2⟩)]
  have e2 : lnAt (pushTo ls a b c n) q p d = lnAt ls q p d := by
    unfold lnAt
    rw [h3 q p d, if_neg k2, if_neg (fun e => k1 ⟨e.2.1, e.1, e.2.2⟩)]
  unfold roomL
  rw [e1, e2]
theorem room_push {ps : List Int} {ls : List Ln} (h : LInv ps ls) (a b c n : Int) : roomF ps (pushL ps ls a b c n) c = gPushF (roomF ps ls c) a b n := by
  funext p q
  unfold gPushF
  by_cases hc : 1 ≤ n ∧ n ≤ roomF ps ls c a b
  · rw [if_pos hc]
    obtain ⟨h1, h2⟩ := hc
    have h2' : n ≤ roomL ps ls a b c := h2
    have he : pushE ps ls a b c n = 0 := by unfold pushE; rw [if_neg (by omega), if_neg (by omega)]
    have hl : pushL ps ls a b c n = pushTo ls a b c n := by unfold pushL; rw [if_pos he]
    rw [hl]
    obtain ⟨r1, r2⟩ := push_room (ps := ps) h.inv h1 h2'
    unfold pushF roomF
    by_cases c1 : p = b ∧ q = a
    · rw [if_pos c1, c1.1, c1.2]; exact r2
    · rw [if_neg c1]
      by_cases c2 : p = a ∧ q = b
      · rw [if_pos c2, c2.1, c2.2]; exact r1
      · rw [if_neg c2]
        exact room_other h.inv h1 h2' (fun e => c2 ⟨e.1.symm, e.2.1.symm⟩) (fun e => c1 ⟨e.2.1.symm, e.1.symm⟩)
  · rw [if_neg hc]
    have he : pushE ps ls a b c n ≠ 0 := by
      unfold pushE
      have hc' : ¬ (1 ≤ n ∧ n ≤ roomL ps ls a b c) := hc
      split
      · decide
      · split
        · decide
        · exact absurd ⟨by omega, by omega⟩ hc'
    unfold pushL
    rw [if_neg he]
theorem room_else {ps : List Int} {ls : List Ln} (h : LInv ps ls) (a b n : Int) {c d : Int} (hd : c ≠ d) : roomF ps (pushL ps ls a b c n) d = roomF ps ls d := by
  funext p q
  unfold pushL
  by_cases he : pushE ps ls a b c n = 0
  · rw [if_pos he]
    have h1 : 1 ≤ n ∧ n ≤ roomL ps ls a b c := by unfold pushE at he; (repeat' split at he) <;> omega
    exact room_other h.inv h1.1 h1.2 (fun e => hd e.2.2) (fun e => hd e.2.2)
  · rw [if_neg he]
theorem pushE_room (ps : List Int) (ls : List Ln) (a b c n : Int) : pushE ps ls a b c n = gPushE (roomF ps ls c) a b n := rfl

end Go.Proofs.Ytajmladlmkkimaa
