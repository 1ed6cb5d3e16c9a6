/-
  What the program's routes tell: contracts that the walks of layer 7 take as given; that there is a route.
-/
import Derived.Test.YtajmladlmkkimaaRef07
import Derived.Test.YtajmladlmkkimaaRowed
import Derived.Test.YtajmladlmkkimaaPGrE
import Derived.Test.YtajmladlmkkimaaFlwIn
namespace Go.Proofs.Ytajmladlmkkimaa
open Go.RowKit Go.ChangeShapes Go.WideShapes
set_option linter.unusedSimpArgs false
set_option linter.unusedVariables false

/-- There is a route. -/
theorem route_ends {f0 : Int → Int → Int} {B : Int} (h : GInv f0 B) (s t want : Int) : ∃ σ, IsRoute f0 B s t want σ := by
  have key : ∀ n : Nat, (∃ σ, IsRoute f0 B s t want σ) ∨ (∃ σ, RInv f0 B s t want n σ ∧ ¬ doneR s t σ) := by
    intro n
    induction n with
    | zero =>
      by_cases hd : doneR s t ⟨f0, want, []⟩
      · exact .inl ⟨_, 0, RInv.start h s t want, hd⟩
      · exact .inr ⟨_, RInv.start h s t want, hd⟩
    | succ n ih =>
      rcases ih with h1 | ⟨σ, h1, h2⟩
      · exact .inl h1
      · have h3 := h1.step h2
        by_cases hd : doneR s t (wayR s t σ)
        · exact .inl ⟨_, n + 1, h3, hd⟩
        · exact .inr ⟨_, h3, hd⟩
  rcases key 4114 with h1 | ⟨σ, h1, _⟩
  · exact h1
  · have := h1.k5
    omega
theorem IsRoute.len {f0 : Int → Int → Int} {B s t want : Int} {σ : RS} (h : IsRoute f0 B s t want σ) : σ.out.length ≤ 70000 := by
  obtain ⟨k, h, _⟩ := h
  have h1 := h.len
  have h2 := h.k5
  omega
theorem IsRoute.left64 {f0 : Int → Int → Int} {B s t want : Int} {σ : RS} (h : IsRoute f0 B s t want σ) : (0 ≤ σ.left ∨ σ.left = want) ∧ σ.left ≤ want := by
  obtain ⟨k, h, _⟩ := h
  exact ⟨h.lo, h.hi⟩
theorem zero_short (a b : Int) : shortW zeroF a b = [] := by
  unfold shortW
  rw [if_neg]
  rintro ⟨_, _, hne, hr⟩
  obtain ⟨m, _, hw⟩ := (inS_iff (GInv.zero (B := 0) (Int.le_refl _)) a 16 b).1 hr
  match m, hw with
  | 0, hw => exact hne hw
  | m + 1, ⟨r, h1, _⟩ => unfold zeroF at h1; omega
/-- Without edges nothing goes. -/
theorem route_zero {B s t want : Int} {σ : RS} (hB : 0 ≤ B) (h : IsRoute zeroF B s t want σ) : σ = ⟨zeroF, want, []⟩ := h.eq ⟨0, RInv.start (GInv.zero hB) s t want, .inr (zero_short s t)⟩
/-- Between ends that are no two parties nothing goes. -/
theorem route_out {f : Int → Int → Int} {B s t want : Int} {σ : RS} (h0 : GInv f B) (hn : ¬ (inP s ∧ inP t ∧ s ≠ t)) (h : IsRoute f B s t want σ) : σ = ⟨f, want, []⟩ := by
  refine h.eq ⟨0, RInv.start h0 s t want, .inr ?_⟩
  show shortW f s t = []
  unfold shortW
  rw [if_neg (fun h => hn ⟨h.1, h.2.1, h.2.2.1⟩)]
def RoutePostA (f : Int → Int → Int) (s t want : Int) (e : TypeId) (w : World) (en : Ending) (w' : World) : Prop :=
  ∃ (σ : RS) (v : Value), en = .returned (.tuple #[v, .int .i64 (want - σ.left)]) ∧ IsRoute f 4398046511104 s t want σ ∧ RowA w' w.heap.size e 3 v σ.out.length (fwCells σ.out) ∧ Below w.heap.size w w'
theorem gcapW {w : World} {v : Value} {f : Int → Int → Int} (h : IsG w v f) (ho : outF f) (p q : Int) :
    Calls Try.prog 74 #[v, .int .u8 p, .int .u8 q] w fun e w' => e = .returned (.int .i64 (f p q)) ∧ w = w' := by
  rcases h with ⟨rfl, rfl⟩ | ⟨g, b, rfl, h2⟩
  · exact gcap_nil p q w
  · exact gcap_any h2 ho p q
/-- A graph that a call made, or none: its capacities. -/
def IsM (w : World) (v : Value) (f : Int → Int → Int) : Prop := (v = .pointer none ∧ f = zeroF) ∨ ∃ g, v = .pointer (some ⟨g, 0, none⟩) ∧ Blk w g (graC f true) 132
theorem IsM.isG {w : World} {v : Value} {f : Int → Int → Int} (h : IsM w v f) : IsG w v f := by
  rcases h with h | ⟨g, h1, h2⟩
  · exact .inl h
  · exact .inr ⟨g, true, h1, h2⟩
theorem IsM.below {w w' : World} {v : Value} {f : Int → Int → Int} (h : IsM w v f) (hb : Below w.heap.size w w') : IsM w' v f := by
  rcases h with h | ⟨g, h1, h2⟩
  · exact .inl h
  · exact .inr ⟨g, h1, h2.below hb h2.lt⟩
theorem IsM.of {w : World} {g : Nat} {f : Int → Int → Int} (h : Blk w g (graC f true) 132) : IsM w (.pointer (some ⟨g, 0, none⟩)) f := .inr ⟨g, rfl, h⟩
theorem IsM.nil (w : World) : IsM w (.pointer none) zeroF := .inl ⟨rfl, rfl⟩
/-- What the program's Route tells. -/
def RouteProg : Prop := ∀ (w : World) (v : Value) (f : Int → Int → Int) (s t want : Int), IsM w v f → GInv f 4398046511104 → In8 s → In8 t → In64 want →
  Calls Try.prog 59 #[v, .int .u8 s, .int .u8 t, .int .i64 want] w (RoutePostA f s t want 75 w)
/-- What the program's Most tells. -/
def MostProg : Prop := ∀ (w : World) (v : Value) (f : Int → Int → Int) (s t : Int), IsM w v f → GInv f 4398046511104 → In8 s → In8 t →
  Calls Try.prog 56 #[v, .int .u8 s, .int .u8 t] w (MostPost f s t w)
theorem MostProg.at_ (h : MostProg) {w : World} {v : Value} {f : Int → Int → Int} {s t : Int} {μ : RS} (hv : IsM w v f) (h0 : GInv f 4398046511104) (hs : In8 s) (ht : In8 t) (hμ : IsRoute f 4398046511104 s t mostW μ) :
    Calls Try.prog 56 #[v, .int .u8 s, .int .u8 t] w fun e w' => e = .returned (.int .i64 (mostW - μ.left)) ∧ Below w.heap.size w w' := by
  refine (h w v f s t hv h0 hs ht).mono ?_
  rintro e w' ⟨ν, rfl, hν, hb⟩
  rw [hν.eq hμ]
  exact ⟨rfl, hb⟩
theorem RouteProg.at_ (h : RouteProg) {w : World} {v : Value} {f : Int → Int → Int} {s t want : Int} {σ : RS} (hv : IsM w v f) (h0 : GInv f 4398046511104) (hs : In8 s) (ht : In8 t) (hw : In64 want) (hσ : IsRoute f 4398046511104 s t want σ) :
    Calls Try.prog 59 #[v, .int .u8 s, .int .u8 t, .int .i64 want] w fun e w' => ∃ v', e = .returned (.tuple #[v', .int .i64 (want - σ.left)]) ∧ RowA w' w.heap.size 75 3 v' σ.out.length (fwCells σ.out) ∧ Below w.heap.size w w' := by
  refine (h w v f s t want hv h0 hs ht hw).mono ?_
  rintro e w' ⟨ν, v', rfl, hν, hr, hb⟩
  rw [hν.eq hσ] at hr ⊢
  exact ⟨v', rfl, hr, hb⟩
theorem rmost_at {w : World} {base g : Nat} {f : Int → Int → Int} {vl : Value} {s t : Int} {μ : RS} (h : RefG w base g (allE f) vl) (hI : GInv f 4398046511104) (hs : In8 s) (ht : In8 t) (hμ : IsRoute f 4398046511104 s t mostW μ) :
    Calls Try.prog 57 #[.pointer (some ⟨g, 0, none⟩), .int .u8 s, .int .u8 t] w fun e w' => e = .returned (.int .i64 (mostW - μ.left)) ∧ Below w.heap.size w w' := by
  refine (rmost_any h hI hs ht).mono ?_
  rintro e w' ⟨ν, rfl, hν, hb⟩
  rw [hν.eq hμ]
  exact ⟨rfl, hb⟩
theorem rroute_at {w : World} {base g : Nat} {f : Int → Int → Int} {vl : Value} {s t want : Int} {σ : RS} (h : RefG w base g (allE f) vl) (hI : GInv f 4398046511104) (hs : In8 s) (ht : In8 t) (hw : In64 want) (hσ : IsRoute f 4398046511104 s t want σ) :
    Calls Try.prog 62 #[.pointer (some ⟨g, 0, none⟩), .int .u8 s, .int .u8 t, .int .i64 want] w fun e w' => ∃ v', e = .returned (.tuple #[v', .int .i64 (want - σ.left)]) ∧ w'.ownsRow w.heap.size 75 3 v' σ.out.length (fwCells σ.out) ∧ Below w.heap.size w w' := by
  refine (rroute_any h hI hs ht hw).mono ?_
  rintro e w' ⟨ν, v', rfl, hν, hr, hb⟩
  rw [hν.eq hσ] at hr ⊢
  exact ⟨v', rfl, hr, hb⟩

end Go.Proofs.Ytajmladlmkkimaa
