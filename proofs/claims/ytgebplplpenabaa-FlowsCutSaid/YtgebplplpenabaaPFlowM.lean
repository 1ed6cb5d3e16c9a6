/-
  Package flows: what memory holds while a route is looked for.
-/
import Derived.Test.YtgebplplpenabaaPWays
namespace Go.Proofs.Ytgebplplpenabaa
open Go.RowKit
set_option linter.unusedSimpArgs false
set_option linter.unusedVariables false
attribute [local go_sem] Oper.semAt_some

theorem gcopyM {w : World} {p : Option Addr} {f : Int → Int → Int} (h : IsM w (.pointer p) f) :
    Calls Try.prog 17 #[.pointer p] w fun e w' => ∃ q, e = .returned (.pointer q) ∧ IsM w' (.pointer q) f ∧ (∀ a, q = some a → w.heap.size ≤ a.block) ∧ Below w.heap.size w w' := by
  rcases h with ⟨h1, rfl⟩ | ⟨g, h1, h2⟩
  · cases h1
    refine (gcopy_nil w).mono ?_
    rintro e w' ⟨rfl, rfl⟩
    exact ⟨none, rfl, IsM.nil _, (fun a h => (by cases h)), Below.refl _ _⟩
  · cases h1
    refine (gcopy_any h2).mono ?_
    rintro e w' ⟨rfl, hk, hb⟩
    exact ⟨_, rfl, IsM.of hk, (fun a h => (by cases h; exact Nat.le_refl _)), hb⟩

theorem below_turn {n₀ l : Nat} (W : World) (o' : Obj) (h : n₀ ≤ l) : Below n₀ W (W.putObj l o') :=
  ⟨rfl, rfl, rfl, by simp, fun k hk => World.putObj_heap_other (by omega)⟩
theorem keep_turn {l : Nat} (W : World) (o' : Obj) : Keep (fun k => k = l) W (W.putObj l o') :=
  ⟨rfl, rfl, rfl, by simp, fun k hk hn => World.putObj_heap_other hn⟩
theorem Blk.turn {W : World} {g l : Nat} {cs : Array Value} {t : TypeId} {o : Obj} (h : Blk W g cs t) (hl : W.heap[l]? = some o) (ho : o.isCells = false) (o' : Obj) : Blk (W.putObj l o') g cs t := by
  refine (World.putObj_heap_other (o := o') ?_).trans h
  rintro rfl
  have e := h.out
  rw [hl] at e
  cases e
  cases ho
theorem IsM.turn {W : World} {v : Value} {f : Int → Int → Int} {l : Nat} {o : Obj} (h : IsM W v f) (hl : W.heap[l]? = some o) (ho : o.isCells = false) (o' : Obj) : IsM (W.putObj l o') v f := by
  rcases h with h | ⟨g, h1, h2⟩
  · exact .inl h
  · exact .inr ⟨g, h1, h2.turn hl ho o'⟩
theorem owns_turn {W : World} {base l n size : Nat} {e : TypeId} {v : Value} {xs : List Value} {o : Obj} (h : W.ownsRow base e size v n xs) (hl : W.heap[l]? = some o) (ho : o.isCells = false) (o' : Obj) : (W.putObj l o').ownsRow base e size v n xs := by
  refine owns_keep h (keep_turn W o') fun b hb hbl => ?_
  subst hbl
  obtain ⟨_, _, cur, hc⟩ := owns_type h hb
  rw [hl] at hc
  cases hc
  cases ho
/-- What memory holds while a route is looked for: w: at the call; p: the graph that is pushed in; b0: the first of what Route makes. -/
structure RtM (w : World) (p : Option Addr) (want s t : Int) (b : Nat) (f : Int → Int → Int) (got : Int) (out : List Fw) (W : World) : Prop where
  below : Below w.heap.size w W
  gr : IsM W (.pointer p) f
  fresh : ∀ a, p = some a → w.heap.size ≤ a.block
  row : ∃ v, Blk W (w.heap.size + 1) #[v] 22 ∧ W.ownsRow w.heap.size 52 3 v out.length (fwCells out)
  want : Blk W w.heap.size #[.int .i64 want] 2
  got : Blk W (w.heap.size + 1 + 1) #[.int .i64 got] 2
  left : Blk W b #[.pointer p] 27
  c3 : Blk W (b + 1) #[.pointer p] 27
  c4 : Blk W (b + 1 + 1) #[.int .u8 s] 23
  c5 : Blk W (b + 1 + 1 + 1) #[.int .u8 t] 23
theorem keepsFrom_of_keep {S : Nat → Prop} {B : Nat} {W W' : World} (k : Keep S W W') (hs : ∀ i, S i → i < W.heap.size → ∃ cs t, Blk W i cs t) : KeepsFrom B W W' :=
  ⟨k.size, fun i o _ hi ho => by
    have hl := (Array.getElem?_eq_some_iff.1 hi).1
    refine (k.block i hl fun hS => ?_).trans hi
    obtain ⟨cs, t, hb⟩ := hs i hS hl
    have e := hb.out
    rw [hi] at e
    cases e
    cases ho⟩
theorem keepsFrom_below {B : Nat} {W W' : World} (k : Below W.heap.size W W') : KeepsFrom B W W' :=
  keepsFrom_of_keep (Keep.of_below (S := fun _ => False) k) (fun i h => h.elim)
section
variable {w : World} {p : Option Addr} {want s t : Int} {b : Nat} {f : Int → Int → Int} {got : Int} {out : List Fw} {W W' : World}
theorem RtM.push {g : Nat} {f' : Int → Int → Int} (h : RtM w (some ⟨g, 0, none⟩) want s t b f got out W) (hg : Blk W g (graC f true) 60) (hk : Blk W' g (graC f' true) 60) (kp : Keep (fun k => k = g) W W') :
    RtM w (some ⟨g, 0, none⟩) want s t b f' got out W' ∧ KeepsFrom 0 W W' := by
  obtain ⟨v, h1, h2⟩ := h.row
  have hf := h.fresh _ rfl
  refine ⟨⟨h.below.trans (kp.below h.below.size (fun k hk e => by simp at hf; omega)), IsM.of hk, h.fresh, ⟨v, h1.keep kp (blkNe7 h1 hg (by decide)), owns_keep h2 kp (owns_ne h2 hg (by decide))⟩, h.want.keep kp (blkNe7 h.want hg (by decide)),
    h.got.keep kp (blkNe7 h.got hg (by decide)), h.left.keep kp (blkNe7 h.left hg (by decide)), h.c3.keep kp (blkNe7 h.c3 hg (by decide)), h.c4.keep kp (blkNe7 h.c4 hg (by decide)), h.c5.keep kp (blkNe7 h.c5 hg (by decide))⟩, keepsFrom_of_keep kp (fun i hi _ => ⟨_, _, hi ▸ hg⟩)⟩
theorem RtM.app {v v' : Value} {y : Fw} (h : RtM w p want s t b f got out W) (hv : Blk W (w.heap.size + 1) #[v] 22) (ho : W.ownsRow w.heap.size 52 3 v out.length (fwCells out))
    (hr : W'.ownsRow w.heap.size 52 3 v' (out ++ [y]).length (fwCells (out ++ [y]))) (hgr : W.grownBy W' v.ownBlock) :
    RtM w p want s t b f got (out ++ [y]) (W'.setCell ⟨w.heap.size + 1, 0, none⟩ v') ∧ Keep (fun k => v.ownBlock = some k ∨ k = w.heap.size + 1) W (W'.setCell ⟨w.heap.size + 1, 0, none⟩ v') ∧ KeepsFrom 0 W (W'.setCell ⟨w.heap.size + 1, 0, none⟩ v') := by
  have kp : Keep (fun k => v.ownBlock = some k ∨ k = w.heap.size + 1) W (W'.setCell ⟨w.heap.size + 1, 0, none⟩ v') :=
    ((Keep.refl _ W).grown hgr (fun k hk => .inl (.inl hk))).setCell (p := ⟨w.heap.size + 1, 0, none⟩) (.inl (.inr rfl)) v'
  have key : ∀ {g : Nat} {cs : Array Value} {u : TypeId}, Blk W g cs u → 52 ≠ u → g ≠ w.heap.size + 1 → Blk (W'.setCell ⟨w.heap.size + 1, 0, none⟩ v') g cs u := fun hg hu hn =>
    hg.keep kp (by rintro (e | e); exact owns_ne ho hg hu _ e rfl; exact hn e)
  have hv' : Blk W' (w.heap.size + 1) #[v] 22 := hv.grown hgr (fun e => owns_ne ho hv (by decide) _ e rfl)
  refine ⟨⟨h.below.trans (kp.below h.below.size ?_), ?_, h.fresh, ⟨v', hv'.set 0 v', ?_⟩, key h.want (by decide) (by omega), key h.got (by decide) (by omega), key h.left (by decide) (blkNe7 h.left hv (by decide)), key h.c3 (by decide) (blkNe7 h.c3 hv (by decide)), key h.c4 (by decide) (blkNe7 h.c4 hv (by decide)), key h.c5 (by decide) (blkNe7 h.c5 hv (by decide))⟩, kp, keepsFrom_of_keep kp ?_⟩
  · rintro k hk (e | e)
    · have := (owns_type ho e).1
      omega
    · omega
  · rcases h.gr with h1 | ⟨g, h1, h2⟩
    · exact .inl h1
    · exact .inr ⟨g, h1, key h2 (by decide) (blkNe7 h2 hv (by decide))⟩
  · exact owns_keep hr ((Keep.refl (fun k => k = w.heap.size + 1) W').setCell (p := ⟨w.heap.size + 1, 0, none⟩) (.inl rfl) v') (owns_ne hr hv' (by decide))
  · rintro i (e | e) _
    · obtain ⟨_, _, cur, hc⟩ := owns_type ho e
      exact ⟨_, _, hc⟩
    · exact ⟨_, _, e ▸ hv⟩
theorem RtM.setGot (h : RtM w p want s t b f got out W) (n : Int) : RtM w p want s t b f n out (W.setCell ⟨w.heap.size + 1 + 1, 0, none⟩ (.int .i64 n)) ∧ KeepsFrom 0 W (W.setCell ⟨w.heap.size + 1 + 1, 0, none⟩ (.int .i64 n)) := by
  have kp : Keep (fun k => k = w.heap.size + 1 + 1) W (W.setCell ⟨w.heap.size + 1 + 1, 0, none⟩ (.int .i64 n)) := (Keep.refl (fun k => k = w.heap.size + 1 + 1) W).setCell (p := ⟨w.heap.size + 1 + 1, 0, none⟩) (.inl rfl) _
  obtain ⟨v, h1, h2⟩ := h.row
  refine ⟨⟨h.below.trans (kp.below h.below.size (fun k hk e => by omega)), ?_, h.fresh, ⟨v, h1.keep kp (by omega), owns_keep h2 kp (owns_ne h2 h.got (by decide))⟩, h.want.keep kp (by omega), h.got.set 0 _, h.left.keep kp (blkNe7 h.left h.got (by decide)), h.c3.keep kp (blkNe7 h.c3 h.got (by decide)), h.c4.keep kp (blkNe7 h.c4 h.got (by decide)), h.c5.keep kp (blkNe7 h.c5 h.got (by decide))⟩, keepsFrom_of_keep kp (fun i hi _ => ⟨_, _, hi ▸ h.got⟩)⟩
  rcases h.gr with h3 | ⟨g, h3, h4⟩
  · exact .inl h3
  · exact .inr ⟨g, h3, h4.keep kp (blkNe7 h4 h.got (by decide))⟩
end
theorem KeepsFrom.up {B B' : Nat} {W W' : World} (h : KeepsFrom B W W') (hB : B ≤ B') : KeepsFrom B' W W' := ⟨h.size, fun k o hk hi ho => h.same k o (Nat.le_trans hB hk) hi ho⟩
theorem rt_end {w : World} {p : Option Addr} {want s t : Int} {b : Nat} {f : Int → Int → Int} {got : Int} {out : List Fw} {W : World} {D : Nat} {v' : Value} (M : RtM w p want s t b f got out W) (hD : W.heap[D]? = some (.deferred (some []))) (hDw : w.heap.size ≤ D)
    (hro : Rowed W w.heap.size 52 3 v' out.length (fwCells out)) {W9 : World} (h9 : W9 = ((W.setCell ⟨w.heap.size + 1, 0, none⟩ v').setCell ⟨w.heap.size + 1 + 1, 0, none⟩ (.int .i64 got)).drew) :
    W9.heap[D]? = some (.deferred (some [])) ∧ (W9.putObj D (.deferred none)).cell? ⟨w.heap.size + 1, 0, none⟩ = some v' ∧ (W9.putObj D (.deferred none)).cell? ⟨w.heap.size + 1 + 1, 0, none⟩ = some (.int .i64 got) ∧
      RowA (W9.putObj D (.deferred none)) w.heap.size 52 3 v' out.length (fwCells out) ∧ Below w.heap.size w (W9.putObj D (.deferred none)) := by
  subst h9
  obtain ⟨v, k8, ow⟩ := M.row
  have kp : Keep (fun k => k = w.heap.size + 1 ∨ k = w.heap.size + 1 + 1) W ((W.setCell ⟨w.heap.size + 1, 0, none⟩ v').setCell ⟨w.heap.size + 1 + 1, 0, none⟩ (.int .i64 got)).drew :=
    (((Keep.refl _ W).setCell (p := ⟨w.heap.size + 1, 0, none⟩) (.inl (.inl rfl)) v').setCell (p := ⟨w.heap.size + 1 + 1, 0, none⟩) (.inl (.inr rfl)) _).drew
  have ne1 : ¬ D = w.heap.size + 1 := by
    rintro rfl
    have := k8.out
    rw [hD] at this
    cases this
  have ne2 : ¬ D = w.heap.size + 1 + 1 := by
    rintro rfl
    have := M.got.out
    rw [hD] at this
    cases this
  have hlt := (Array.getElem?_eq_some_iff.1 hD).1
  have hD9 := (kp.block D hlt (by rintro (h | h); exact ne1 h; exact ne2 h)).trans hD
  have a8 := ((k8.set 0 v').setOther (a := ⟨w.heap.size + 1 + 1, 0, none⟩) (by simp) (.int .i64 got)).drew.turn hD9 rfl (.deferred none)
  have a9 := (M.got.setOther (a := ⟨w.heap.size + 1, 0, none⟩) (by simp) v').set 0 (.int .i64 got)
  have a9' := a9.drew.turn hD9 rfl (.deferred none)
  refine ⟨hD9, by rw [a8.cell]; rfl, by rw [a9'.cell]; rfl, ?_, ?_⟩
  · have r1 := RowA.of_rowed hro
    refine (r1.keep kp fun b hb => ?_).keep (keep_turn _ (.deferred none)) fun b hb => ?_
    · obtain ⟨_, _, cur, hc⟩ := r1.type hb
      rintro (rfl | rfl)
      · have := k8.out
        rw [hc] at this
        simp at this
      · have := M.got.out
        rw [hc] at this
        simp at this
    · rintro rfl
      obtain ⟨_, _, cur, hc⟩ := r1.type hb
      rw [hD] at hc
      cases hc
  · exact (M.below.trans (kp.below M.below.size (fun k hk => by omega))).trans (below_turn _ _ hDw)
def RtI (w : World) (p : Option Addr) (f0 : Int → Int → Int) (want s t : Int) (b : Nat) (x : Nat × RS) (W : World) : Prop :=
  RInv f0 4398046511104 s t want x.1 x.2 ∧ RtM w p want s t b x.2.f (want - x.2.left) x.2.out W
def RtX (w : World) (p : Option Addr) (f0 : Int → Int → Int) (want s t : Int) (b : Nat) (c : Code) (W : World) : Prop :=
  c = .exit 0 ∧ ∃ x, RtI w p f0 want s t b x W ∧ doneR s t x.2

section
variable {w : World} {p : Option Addr} {want s t : Int} {b : Nat} {f : Int → Int → Int} {got : Int} {out : List Fw} {W W' : World}
theorem RtM.grow (h : RtM w p want s t b f got out W) (k : Below W.heap.size W W') : RtM w p want s t b f got out W' := by
  obtain ⟨v, h1, h2⟩ := h.row
  exact ⟨h.below.trans (k.mono h.below.size), h.gr.below k, h.fresh, ⟨v, h1.below k h1.lt, owns_below h2 k⟩, h.want.below k h.want.lt, h.got.below k h.got.lt, h.left.below k h.left.lt, h.c3.below k h.c3.lt, h.c4.below k h.c4.lt, h.c5.below k h.c5.lt⟩
theorem RtM.turn (h : RtM w p want s t b f got out W) {l : Nat} {o : Obj} (hw : w.heap.size ≤ l) (hl : W.heap[l]? = some o) (ho : o.isCells = false) (o' : Obj) : RtM w p want s t b f got out (W.putObj l o') := by
  obtain ⟨v, h1, h2⟩ := h.row
  exact ⟨h.below.trans (below_turn W o' hw), h.gr.turn hl ho o', h.fresh, ⟨v, h1.turn hl ho o', owns_turn h2 hl ho o'⟩, h.want.turn hl ho o', h.got.turn hl ho o', h.left.turn hl ho o', h.c3.turn hl ho o', h.c4.turn hl ho o', h.c5.turn hl ho o'⟩
end
theorem fits_I {w : World} {p : Option Addr} {f0 : Int → Int → Int} {want s t : Int} {b B : Nat} (hB : w.heap.size ≤ B) (x : Nat × RS) : Fits B (RtI w p f0 want s t b x) :=
  ⟨fun W W' h k => ⟨h.1, h.2.grow k⟩, fun W l o o' h hl hg ho => ⟨h.1, h.2.turn (Nat.le_trans hB hl) hg ho o'⟩⟩
theorem fits_X {w : World} {p : Option Addr} {f0 : Int → Int → Int} {want s t : Int} {b B : Nat} (hB : w.heap.size ≤ B) (c : Code) : Fits B (RtX w p f0 want s t b c) :=
  ⟨fun W W' ⟨h1, x, h2, h3⟩ k => ⟨h1, x, (fits_I (Nat.le_refl _) x).grow _ _ h2 k, h3⟩, fun W l o o' ⟨h1, x, h2, h3⟩ hl hg ho => ⟨h1, x, (fits_I hB x).turn _ _ _ _ h2 hl hg ho, h3⟩⟩
theorem fits_Y {s t : Int} {B : Nat} (x : Nat × RS) (vs : Array Value) : Fits B (WayY s t x vs) :=
  ⟨fun W W' ⟨bl, cs, m, h1, h2, h3, h4⟩ k => ⟨bl, cs, m, h1, h2.below k h2.lt, h3, h4⟩, fun W l o o' ⟨bl, cs, m, h1, h2, h3, h4⟩ hl hg ho => ⟨bl, cs, m, h1, h2.turn hg ho o', h3, h4⟩⟩
/-- The body of the first range over a function. -/
def roundBody : Code → Option Code
  | .rangeFunc _ _ _ b => some b
  | .seq a b => match roundBody a with
    | some c => some c
    | none => roundBody b
  | .cond _ a b => match roundBody a with
    | some c => some c
    | none => roundBody b
  | .block _ c => roundBody c
  | .scope c => roundBody c
  | .loop c => roundBody c
  | _ => none

end Go.Proofs.Ytgebplplpenabaa
