/-
  The program's map of lines: what is found, set, taken out, counted and gone through, in terms of the list of lines.
-/
import Derived.Test.YtdpkcamhafkkbaaEnds
namespace Go.Proofs.Ytdpkcamhafkkbaa
open Go.RowKit
set_option linter.unusedSimpArgs false
set_option linter.unusedVariables false

theorem In8.u8 {n : Int} (h : In8 n) : U8 n := h
def lnKV (x : Ln) : Value × Value := (endsV x.cr x.de x.cu, amtV x.li x.db)
/-- Block m is a map of just these lines. -/
def MapIs (w : World) (m : Nat) (ls : List Ln) : Prop := ∃ ms : List Ln, MapHas w m (ms.map lnKV) ∧ ms.Perm ls
theorem MapIs.lt {w : World} {m : Nat} {ls : List Ln} (h : MapIs w m ls) : m < w.heap.size := by obtain ⟨ms, h1, _⟩ := h; exact h1.lt
theorem MapIs.keep {S : Nat → Prop} {w w' : World} {m : Nat} {ls : List Ln} (h : MapIs w m ls) (k : Keep S w w') (hs : ¬ S m) : MapIs w' m ls := by obtain ⟨ms, h1, h2⟩ := h; exact ⟨ms, h1.keep k hs, h2⟩
theorem MapIs.below {w w' : World} {B m : Nat} {ls : List Ln} (h : MapIs w m ls) (k : Below B w w') (hm : m < B) : MapIs w' m ls := by obtain ⟨ms, h1, h2⟩ := h; exact ⟨ms, h1.below k hm, h2⟩
theorem MapIs.ne_blk {w : World} {m g : Nat} {ls : List Ln} {cs : Array Value} {t : TypeId} (h : MapIs w m ls) (b : Blk w g cs t) : m ≠ g := by obtain ⟨ms, h1, _⟩ := h; exact h1.ne_blk b
theorem MapIs.made (w : World) : MapIs (w.alloc (.map #[] 0)) w.heap.size [] := ⟨[], MapHas.made w, List.Perm.refl _⟩

section
variable {w : World} {m : Nat} {ls : List Ln}
theorem kvs_ends {ms : List Ln} (hp : ms.Perm ls) (hI : Inv ls) : ∀ p ∈ ms.map lnKV, IsEnds p.1 := by
  intro p hp'
  obtain ⟨x, hx, rfl⟩ := List.mem_map.1 hp'
  have hf := (hI.good x (hp.mem_iff.1 hx)).fits
  exact ⟨_, _, _, rfl, hf.cr, hf.de, hf.cu⟩
theorem kvs_no {ms : List Ln} (hp : ms.Perm ls) {a b c : Int} (hl : lineL ls a b c = none) : ∀ p ∈ ms.map lnKV, p.1 ≠ endsV a b c := by
  intro p hp' he
  obtain ⟨x, hx, rfl⟩ := List.mem_map.1 hp'
  obtain ⟨e1, e2, e3⟩ := endsV_inj he
  exact (line_none a b c).1 hl x (hp.mem_iff.1 hx) ⟨e1, e2, e3⟩
/-- What is asked for. -/
theorem MapIs.look (h : MapIs w m ls) (hI : Inv ls) {a b c : Int} (ha : U8 a) (hb : U8 b) (hc : U8 c) :
    (Instr.lookup 83 (.map (some m)) (endsV a b c) true).run Try.prog w = .ok (.tuple #[amtV (lnAt ls a b c).li (lnAt ls a b c).db, .bool (lineL ls a b c).isSome]) w ∧
    (Instr.lookup 83 (.map (some m)) (endsV a b c) false).run Try.prog w = .ok (amtV (lnAt ls a b c).li (lnAt ls a b c).db) w := by
  obtain ⟨ms, h1, hp⟩ := h
  have hk : IsEnds (endsV a b c) := ⟨a, b, c, rfl, ha, hb, hc⟩
  cases hl : lineL ls a b c with
  | none =>
    rw [lnAt_none hl]
    have q := fun o => h1.look_none endsOk (kvs_ends hp hI) Try.underlying83 (zeroAmt w) hk (kvs_no hp hl) o
    exact ⟨q true, q false⟩
  | some x =>
    rw [lnAt_some hl]
    obtain ⟨hm, e1, e2, e3⟩ := lineL_mem hl
    have hin : (endsV a b c, amtV x.li x.db) ∈ ms.map lnKV := List.mem_map.2 ⟨x, hp.mem_iff.2 hm, by unfold lnKV; rw [e1, e2, e3]⟩
    have q := fun o => h1.look_some endsOk (kvs_ends hp hI) Try.underlying83 hk hin o
    exact ⟨q true, q false⟩
theorem MapIs.len (h : MapIs w m ls) (ty : TypeId) : (Builtin.len_ #[83] ty #[.map (some m)]).run Try.prog w = .ok (.int .i64 ls.length) w := by
  obtain ⟨ms, h1, hp⟩ := h
  have := h1.len (P := Try.prog) Try.underlying83 ty
  rwa [List.length_map, hp.length_eq] at this

theorem eqL_some (hI : Inv ls) {x : Ln} (hx : x ∈ ls) : eqL x.rank ls = [x] := by
  have hmem : x ∈ eqL x.rank ls := by unfold eqL; exact List.mem_filter.2 ⟨hx, by simp⟩
  have hp : (eqL x.rank ls).Pairwise fun x y => x.rank < y.rank := by unfold eqL; exact List.Pairwise.filter _ hI.sorted
  have hall : ∀ z ∈ eqL x.rank ls, z.rank = x.rank := fun z hz => by unfold eqL at hz; simpa using (List.mem_filter.1 hz).2
  generalize eqL x.rank ls = B at *
  match B, hmem, hp, hall with
  | [z], hmem, _, _ => rw [List.mem_singleton] at hmem; subst hmem; rfl
  | z :: u :: r, _, hp, hall =>
    have a1 := hall z (by simp)
    have a2 := hall u (by simp)
    have a3 := (List.pairwise_cons.1 hp).1 u (by simp)
    omega
theorem eqL_none (hI : Inv ls) {x : Ln} (hf : x.Fits) (hl : lineL ls x.cr x.de x.cu = none) : eqL x.rank ls = [] := by
  unfold eqL
  rw [List.filter_eq_nil_iff]
  intro y hy
  have h1 := (line_none (ls := ls) x.cr x.de x.cu).1 hl y hy
  intro hr
  exact h1 (rank_inj (hI.good y hy).fits hf (by simpa using hr))
/-- A line is set. -/
theorem MapIs.store (h : MapIs w m ls) (hI : Inv ls) {x : Ln} (hf : x.Fits) (h0 : x.li ≠ 0) :
    ∃ w', (Instr.mapUpdate 83 (.map (some m)) (endsV x.cr x.de x.cu) (amtV x.li x.db)).run Try.prog w = .ok () w' ∧ MapIs w' m (setL ls x) ∧ Turned m w w' := by
  obtain ⟨ms, h1, hp⟩ := h
  have hk : IsEnds (endsV x.cr x.de x.cu) := ⟨_, _, _, rfl, hf.cr, hf.de, hf.cu⟩
  have hset := setL_eq hI.sorted x
  have hsp := split_sorted x.rank ls hI.sorted
  rw [if_neg h0] at hset
  cases hl : lineL ls x.cr x.de x.cu with
  | none =>
    rw [eqL_none hI hf hl, List.nil_append] at hsp
    obtain ⟨w', hr, hm, ht⟩ := h1.store_new (v := amtV x.li x.db) endsOk (kvs_ends hp hI) Try.underlying83 hk (kvs_no hp hl)
    refine ⟨w', hr, ⟨ms ++ [x], by rw [List.map_append]; exact hm, ?_⟩, ht⟩
    rw [hset]
    refine (List.perm_append_singleton x ms).trans ((hp.cons x).trans ?_)
    conv => lhs; rw [hsp]
    exact List.perm_middle.symm
  | some y =>
    obtain ⟨hm, e1, e2, e3⟩ := lineL_mem hl
    have hr0 : y.rank = x.rank := rank_of e1 e2 e3
    have heq := eqL_some hI hm
    rw [hr0] at heq
    rw [heq] at hsp
    obtain ⟨A, B, hAB⟩ := List.append_of_mem (hp.mem_iff.2 hm)
    subst hAB
    obtain ⟨w', hr, hmm, ht⟩ := h1.store_old (A := A.map lnKV) (B := B.map lnKV) (u := amtV y.li y.db) (v := amtV x.li x.db) endsOk (kvs_ends hp hI) Try.underlying83 hk (by rw [List.map_append, List.map_cons, show lnKV y = (endsV x.cr x.de x.cu, amtV y.li y.db) by unfold lnKV; rw [e1, e2, e3]])
    refine ⟨w', hr, ⟨A ++ x :: B, by rw [List.map_append, List.map_cons]; exact hmm, ?_⟩, ht⟩
    rw [hset]
    have hp2 : (y :: (A ++ B)).Perm (y :: (loL x.rank ls ++ hiL x.rank ls)) := by
      refine List.perm_middle.symm.trans (hp.trans ?_)
      conv => lhs; rw [hsp]
      exact List.perm_middle
    exact List.perm_middle.trans ((hp2.cons_inv.cons x).trans List.perm_middle.symm)
/-- A line goes out, if it is there. -/
theorem MapIs.drop (h : MapIs w m ls) (hI : Inv ls) (ty : TypeId) {x : Ln} (hf : x.Fits) (h0 : x.li = 0) :
    ∃ w', (Builtin.delete_ #[83, 86] ty #[.map (some m), endsV x.cr x.de x.cu]).run Try.prog w = .ok (.tuple #[]) w' ∧ MapIs w' m (setL ls x) ∧ Turned m w w' := by
  obtain ⟨ms, h1, hp⟩ := h
  have hk : IsEnds (endsV x.cr x.de x.cu) := ⟨_, _, _, rfl, hf.cr, hf.de, hf.cu⟩
  have hset := setL_eq hI.sorted x
  have hsp := split_sorted x.rank ls hI.sorted
  rw [if_pos h0, List.nil_append] at hset
  cases hl : lineL ls x.cr x.de x.cu with
  | none =>
    rw [eqL_none hI hf hl, List.nil_append] at hsp
    obtain ⟨w', hr, hm, ht⟩ := h1.drop_none endsOk (kvs_ends hp hI) Try.underlying83 ty hk (kvs_no hp hl)
    exact ⟨w', hr, ⟨ms, hm, by rw [hset, ← hsp]; exact hp⟩, ht⟩
  | some y =>
    obtain ⟨hm, e1, e2, e3⟩ := lineL_mem hl
    have hr0 : y.rank = x.rank := rank_of e1 e2 e3
    have heq := eqL_some hI hm
    rw [hr0] at heq
    rw [heq] at hsp
    obtain ⟨A, B, hAB⟩ := List.append_of_mem (hp.mem_iff.2 hm)
    subst hAB
    obtain ⟨w', hr, hmm, ht⟩ := h1.drop (A := A.map lnKV) (B := B.map lnKV) (u := amtV y.li y.db) endsOk (kvs_ends hp hI) Try.underlying83 ty hk (by rw [List.map_append, List.map_cons, show lnKV y = (endsV x.cr x.de x.cu, amtV y.li y.db) by unfold lnKV; rw [e1, e2, e3]])
    refine ⟨w', hr, ⟨A ++ B, by rw [List.map_append]; exact hmm, ?_⟩, ht⟩
    rw [hset]
    have hp2 : (y :: (A ++ B)).Perm (y :: (loL x.rank ls ++ hiL x.rank ls)) := by
      refine List.perm_middle.symm.trans (hp.trans ?_)
      conv => lhs; rw [hsp]
      exact List.perm_middle
    exact hp2.cons_inv

/-- The map is gone through: iterator r; these lines have come. -/
def RangeIs (w : World) (m r : Nat) (ls done : List Ln) : Prop :=
  ∃ ms left : List Ln, Ranging w m r (ms.map lnKV) (left.map lnKV) ∧ ms.Perm ls ∧ (done ++ left).Perm ls
theorem RangeIs.map {r : Nat} {done : List Ln} (h : RangeIs w m r ls done) : MapIs w m ls := by obtain ⟨ms, left, h1, h2, _⟩ := h; exact ⟨ms, h1.map, h2⟩
theorem RangeIs.lt {r : Nat} {done : List Ln} (h : RangeIs w m r ls done) : r < w.heap.size := by obtain ⟨ms, left, h1, _⟩ := h; exact h1.lt
theorem RangeIs.len {r : Nat} {done : List Ln} (h : RangeIs w m r ls done) : done.length ≤ ls.length := by
  obtain ⟨ms, left, _, _, h3⟩ := h
  have := h3.length_eq
  rw [List.length_append] at this
  omega
theorem RangeIs.sub {r : Nat} {done : List Ln} (h : RangeIs w m r ls done) : ∀ x ∈ done, x ∈ ls := by
  obtain ⟨ms, left, _, _, h3⟩ := h
  exact fun x hx => h3.mem_iff.1 (List.mem_append_left _ hx)
theorem RangeIs.below {w' : World} {r : Nat} {done : List Ln} (h : RangeIs w m r ls done) (q : Below w.heap.size w w') : RangeIs w' m r ls done := by
  obtain ⟨ms, left, h1, h2⟩ := h
  exact ⟨ms, left, h1.below q, h2⟩
theorem RangeIs.keep {Z : Nat → Prop} {w' : World} {r : Nat} {done : List Ln} (h : RangeIs w m r ls done) (q : Keep Z w w') (hm : ¬ Z m) (hr : ¬ Z r) : RangeIs w' m r ls done := by
  obtain ⟨ms, left, h1, h2⟩ := h
  exact ⟨ms, left, h1.keep q hm hr, h2⟩
theorem MapIs.range (h : MapIs w m ls) : ∃ w', (Instr.range 83 (.map (some m))).run Try.prog w = .ok (.pointer (some ⟨w.heap.size, 0, none⟩)) w' ∧ RangeIs w' m w.heap.size ls [] ∧ Below w.heap.size w w' := by
  obtain ⟨ms, h1, hp⟩ := h
  obtain ⟨w', a, b, c⟩ := h1.range (P := Try.prog) Try.underlying83
  exact ⟨w', a, ⟨ms, ms, b, hp, hp⟩, c⟩
theorem RangeIs.next {r : Nat} {done : List Ln} (h : RangeIs w m r ls done) (ty : TypeId) :
    (done.Perm ls ∧ (Instr.next (.pointer (some ⟨r, 0, none⟩)) false ty).run Try.prog w = .ok (.tuple #[.bool false]) w) ∨
    ∃ x w', x ∈ ls ∧ (Instr.next (.pointer (some ⟨r, 0, none⟩)) false ty).run Try.prog w = .ok (.tuple #[.bool true, endsV x.cr x.de x.cu, amtV x.li x.db]) w' ∧ RangeIs w' m r ls (done ++ [x]) ∧ Turned r w w' ∧
      (Instr.entry (.pointer (some ⟨r, 0, none⟩))).run Try.prog w' = .ok (.tuple #[endsV x.cr x.de x.cu, amtV x.li x.db]) w' := by
  obtain ⟨ms, left, h1, hp, hd⟩ := h
  rcases h1.next (P := Try.prog) ty with ⟨h0, hr⟩ | ⟨A, q, B, w', hl, hr, hrg, ht, hen⟩
  · refine .inl ⟨?_, hr⟩
    have : left = [] := by simpa using h0
    rw [this, List.append_nil] at hd
    exact hd
  · obtain ⟨A', l2, rfl, rfl, h2⟩ := List.map_eq_append_iff.1 hl
    obtain ⟨x, B', rfl, rfl, rfl⟩ := List.map_eq_cons_iff.1 h2
    refine .inr ⟨x, w', hd.mem_iff.1 (by simp), hr, ⟨ms, A' ++ B', by rw [List.map_append]; exact hrg, hp, ?_⟩, ht, hen⟩
    refine List.Perm.trans ?_ hd
    rw [List.append_assoc]
    exact List.Perm.append_left done (List.perm_middle (a := x) (l₁ := A') (l₂ := B')).symm
end

end Go.Proofs.Ytdpkcamhafkkbaa
