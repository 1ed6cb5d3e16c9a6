/-
  The statements' own book of pages: pages of either kind, written over, and whether they stand.
-/
import Derived.Test.YtlcilpeljnoclaaBookL
import Derived.LoopN
namespace Go.Proofs.Ytlcilpeljnoclaa
open Go.RowKit
set_option linter.unusedSimpArgs false
set_option linter.unusedVariables false

set_option maxHeartbeats 2000000 in
theorem writeP_nil (m q : Int) (w : World) :
    Calls Try.prog 111 #[.agg #[.slice none 0 0, .int .u8 m, .int .u8 q]] w fun e w' => e = .returned (.tuple #[]) ∧ Below w.heap.size w w' := by
  have B0 := Lib.hid ((Below.refl w.heap.size w).alloc (Nat.le_refl _) (.cells #[.slice none 0 0, .int .u8 m, .int .u8 q] 87))
  go_enter Try.func111, Try.ntmps111
  go_wp2
  refine wp_loop_rounds 1 ?_
  rw [rounds_succ]; go_wp2
  go_end0
  exact ⟨rfl, B0.out⟩
set_option maxHeartbeats 2000000 in
theorem behindP_nil (m q : Int) (w : World) :
    Calls Try.prog 112 #[.agg #[.slice none 0 0, .int .u8 m, .int .u8 q]] w fun e w' => e = .returned (.tuple #[]) ∧ Below w.heap.size w w' := by
  have B0 := Lib.hid ((Below.refl w.heap.size w).alloc (Nat.le_refl _) (.cells #[.slice none 0 0, .int .u8 m, .int .u8 q] 87))
  go_enter Try.func112, Try.ntmps112
  go_wp2
  refine wp_loop_rounds 1 ?_
  rw [rounds_succ]; go_wp2
  go_end0
  exact ⟨rfl, B0.out⟩
set_option maxHeartbeats 2000000 in
theorem standsP_nil (m q : Int) (w : World) :
    Calls Try.prog 110 #[.agg #[.slice none 0 0, .int .u8 m, .int .u8 q]] w fun e w' => e = .returned (.bool true) ∧ Below w.heap.size w w' := by
  have B0 := Lib.hid ((Below.refl w.heap.size w).alloc (Nat.le_refl _) (.cells #[.slice none 0 0, .int .u8 m, .int .u8 q] 87))
  go_enter Try.func110, Try.ntmps110
  go_wp2
  refine wp_loop_rounds 1 ?_
  rw [rounds_succ]; go_wp2
  go_ret
  exact ⟨rfl, B0.out⟩
set_option maxHeartbeats 2000000 in
theorem writeL_nil (m q : Ln) (w : World) :
    Calls Try.prog 114 #[.agg #[.slice none 0 0, .int .u8 m.cr, .int .u8 m.de, .int .u8 m.cu, .int .i64 m.li, .int .i64 m.db, .int .u8 q.cr, .int .u8 q.de, .int .u8 q.cu, .int .i64 q.li, .int .i64 q.db]] w fun e w' => e = .returned (.tuple #[]) ∧ Below w.heap.size w w' := by
  have B0 := Lib.hid ((Below.refl w.heap.size w).alloc (Nat.le_refl _) (.cells #[.slice none 0 0, .int .u8 m.cr, .int .u8 m.de, .int .u8 m.cu, .int .i64 m.li, .int .i64 m.db, .int .u8 q.cr, .int .u8 q.de, .int .u8 q.cu, .int .i64 q.li, .int .i64 q.db] 89))
  go_enter Try.func114, Try.ntmps114
  go_wp2
  refine wp_loop_rounds 1 ?_
  rw [rounds_succ]; go_wp2
  go_end0
  exact ⟨rfl, B0.out⟩
set_option maxHeartbeats 2000000 in
theorem behindL_nil (m q : Ln) (w : World) :
    Calls Try.prog 115 #[.agg #[.slice none 0 0, .int .u8 m.cr, .int .u8 m.de, .int .u8 m.cu, .int .i64 m.li, .int .i64 m.db, .int .u8 q.cr, .int .u8 q.de, .int .u8 q.cu, .int .i64 q.li, .int .i64 q.db]] w fun e w' => e = .returned (.tuple #[]) ∧ Below w.heap.size w w' := by
  have B0 := Lib.hid ((Below.refl w.heap.size w).alloc (Nat.le_refl _) (.cells #[.slice none 0 0, .int .u8 m.cr, .int .u8 m.de, .int .u8 m.cu, .int .i64 m.li, .int .i64 m.db, .int .u8 q.cr, .int .u8 q.de, .int .u8 q.cu, .int .i64 q.li, .int .i64 q.db] 89))
  go_enter Try.func115, Try.ntmps115
  go_wp2
  refine wp_loop_rounds 1 ?_
  rw [rounds_succ]; go_wp2
  go_end0
  exact ⟨rfl, B0.out⟩
set_option maxHeartbeats 2000000 in
theorem standsL_nil (m q : Ln) (w : World) :
    Calls Try.prog 113 #[.agg #[.slice none 0 0, .int .u8 m.cr, .int .u8 m.de, .int .u8 m.cu, .int .i64 m.li, .int .i64 m.db, .int .u8 q.cr, .int .u8 q.de, .int .u8 q.cu, .int .i64 q.li, .int .i64 q.db]] w fun e w' => e = .returned (.bool true) ∧ Below w.heap.size w w' := by
  have B0 := Lib.hid ((Below.refl w.heap.size w).alloc (Nat.le_refl _) (.cells #[.slice none 0 0, .int .u8 m.cr, .int .u8 m.de, .int .u8 m.cu, .int .i64 m.li, .int .i64 m.db, .int .u8 q.cr, .int .u8 q.de, .int .u8 q.cu, .int .i64 q.li, .int .i64 q.db] 89))
  go_enter Try.func113, Try.ntmps113
  go_wp2
  refine wp_loop_rounds 1 ?_
  rw [rounds_succ]; go_wp2
  go_ret
  exact ⟨rfl, B0.out⟩
/-- A page: a slice of parties or of lines, of n elements and room for c, its mark, and the mark of its room. -/
inductive Pg where
  | party (v : Value) (n c : Nat) (m q : Int)
  | line (v : Value) (n c : Nat) (m q : Ln)
def Pg.slice : Pg → Value
  | .party v .. => v
  | .line v .. => v
def Pg.agg : Pg → Value
  | .party v n c m q => .agg #[v, .int .u8 m, .int .u8 q]
  | .line v n c m q => .agg #[v, .int .u8 m.cr, .int .u8 m.de, .int .u8 m.cu, .int .i64 m.li, .int .i64 m.db, .int .u8 q.cr, .int .u8 q.de, .int .u8 q.cu, .int .i64 q.li, .int .i64 q.db]
def Pg.kind : Pg → TypeId
  | .party .. => 87
  | .line .. => 89
def Pg.elem : Pg → TypeId
  | .party .. => 28
  | .line .. => 35
def Pg.n : Pg → Nat
  | .party _ n .. => n
  | .line _ n .. => n
def Pg.c : Pg → Nat
  | .party _ _ c .. => c
  | .line _ _ c .. => c
def Pg.size : Pg → Nat
  | .party .. => 1
  | .line .. => 5
def Pg.mark : Pg → Nat → Value
  | .party _ _ _ m _ => fun _ => .int .u8 m
  | .line _ _ _ m _ => lnMk m
def Pg.behind : Pg → Nat → Value
  | .party _ _ _ _ q => fun _ => .int .u8 q
  | .line _ _ _ _ q => lnMk q
/-- The page's memory: none, or a block with the cells cs. -/
def Pg.Mem (w : World) (p : Pg) (cs : Array Value) : Prop :=
  p.n ≤ p.c ∧ p.c ≤ maxLen ∧ p.c * p.size ≤ cs.size ∧ ((p.slice = .slice none 0 0 ∧ p.n = 0 ∧ p.c = 0) ∨ ∃ b, p.slice = .slice (some ⟨b, 0, none⟩) p.n p.c ∧ Blk w b cs p.elem)
def Pg.Front (p : Pg) (cs : Array Value) : Prop := ∀ j, j < p.n * p.size → cs[j]? = some (p.mark (j % p.size))
def Pg.Back (p : Pg) (cs : Array Value) : Prop := ∀ j, p.n * p.size ≤ j → j < p.c * p.size → cs[j]? = some (p.behind (j % p.size))
def Pg.own (p : Pg) (b : Nat) : Prop := p.slice.ownBlock = some b
theorem Pg.Mem.keep {S : Nat → Prop} {w w' : World} {p : Pg} {cs : Array Value} (h : p.Mem w cs) (k : Keep S w w') (hs : ∀ b, p.own b → ¬ S b) : p.Mem w' cs := by
  obtain ⟨h1, h2, h3, h4⟩ := h
  refine ⟨h1, h2, h3, ?_⟩
  rcases h4 with h4 | ⟨b, hv, hb⟩
  · exact .inl h4
  · exact .inr ⟨b, hv, hb.keep k (hs b (by unfold Pg.own; rw [hv]; rfl))⟩
theorem Pg.Mem.own {w : World} {p : Pg} {cs : Array Value} (h : p.Mem w cs) {b : Nat} (hb : p.own b) : b < w.heap.size ∧ ∃ cur, w.heap[b]? = some (.cells cur p.elem (0, 0)) := by
  obtain ⟨_, _, _, h4⟩ := h
  rcases h4 with ⟨hv, _⟩ | ⟨b', hv, hb'⟩
  · unfold Pg.own at hb; rw [hv] at hb; cases hb
  · unfold Pg.own at hb; rw [hv] at hb; cases hb; exact ⟨hb'.lt, cs, hb'.out⟩
theorem fill_front (s : Nat) (hs : 0 < s) (mk : Nat → Value) (cs : Array Value) (n j : Nat) (h : n * s ≤ cs.size) (hj : j < n * s) : (fill s mk cs 0 n)[j]? = some (mk (j % s)) := by
  rw [fill_get _ _ _ _ _ _ (by omega), if_pos (by omega)]
theorem fill_back (s : Nat) (mk : Nat → Value) (cs : Array Value) (n c j : Nat) (h : c * s ≤ cs.size) (h1 : n * s ≤ j) (h2 : j < c * s) : (fill s mk cs n c)[j]? = some (mk (j % s)) := by
  rw [fill_get _ _ _ _ _ _ (by omega), if_pos ⟨h1, h2⟩]
theorem fill_keep (s : Nat) (mk : Nat → Value) (cs : Array Value) (n c j : Nat) (h1 : j < n * s) : (fill s mk cs n c)[j]? = cs[j]? := by
  by_cases h : j < cs.size
  · rw [fill_get _ _ _ _ _ _ h, if_neg (by omega), Array.getElem?_eq_getElem h]
  · rw [Array.getElem?_eq_none (by rw [fill_size]; omega), Array.getElem?_eq_none (by omega)]

def Pg.writeF : Pg → FuncId
  | .party .. => 111
  | .line .. => 114
def Pg.behindF : Pg → FuncId
  | .party .. => 112
  | .line .. => 115
def Pg.standsF : Pg → FuncId
  | .party .. => 110
  | .line .. => 113
/-- What each method does to a page. -/
def Wrote (w : World) (p : Pg) (e : Ending) (w' : World) : Prop := e = .returned (.tuple #[]) ∧ ∃ cs', p.Mem w' cs' ∧ p.Front cs' ∧ Keep p.own w w'
def WroteBehind (w : World) (p : Pg) (e : Ending) (w' : World) : Prop := e = .returned (.tuple #[]) ∧ ∃ cs', p.Mem w' cs' ∧ p.Front cs' ∧ p.Back cs' ∧ Keep p.own w w'
theorem own_is {v : Value} {b n c : Nat} (h : v = .slice (some ⟨b, 0, none⟩) n c) : ∀ k, (fun x => x = b) k → v.ownBlock = some k := by rintro k rfl; rw [h]; rfl
theorem write_pg {w : World} {p : Pg} {cs : Array Value} (h : p.Mem w cs) : Calls Try.prog p.writeF #[p.agg] w (Wrote w p) := by
  obtain ⟨h1, h2, h3, h4⟩ := h
  cases p with
  | party v n c m q =>
    rcases h4 with ⟨hv, hn, hc⟩ | ⟨b, hv, hb⟩
    · simp only [Pg.slice, Pg.n, Pg.c] at hv hn hc; subst hv hn hc
      refine (writeP_nil m q w).mono fun e w' ⟨he, hw⟩ => ⟨he, cs, ⟨h1, h2, h3, .inl ⟨rfl, rfl, rfl⟩⟩, ?_, Keep.of_below hw⟩
      intro j hj; simp [Pg.n] at hj
    · simp only [Pg.slice, Pg.n, Pg.c, Pg.size, Nat.mul_one] at hv h1 h2 h3; subst hv
      refine (writeP_any m q hb h1 h3 h2).mono fun e w' ⟨he, hb', hk⟩ => ⟨he, _, ⟨h1, h2, by rw [fill_size]; simpa [Pg.size, Pg.c] using h3, .inr ⟨b, rfl, hb'⟩⟩, ?_, hk.mono fun k _ hk => own_is rfl k hk⟩
      intro j hj
      simp only [Pg.n, Pg.size] at hj
      exact fill_front 1 (by decide) _ cs n j (by omega) hj
  | line v n c m q =>
    rcases h4 with ⟨hv, hn, hc⟩ | ⟨b, hv, hb⟩
    · simp only [Pg.slice, Pg.n, Pg.c] at hv hn hc; subst hv hn hc
      refine (writeL_nil m q w).mono fun e w' ⟨he, hw⟩ => ⟨he, cs, ⟨h1, h2, h3, .inl ⟨rfl, rfl, rfl⟩⟩, ?_, Keep.of_below hw⟩
      intro j hj; simp [Pg.n] at hj
    · simp only [Pg.slice, Pg.n, Pg.c, Pg.size] at hv h1 h2 h3; subst hv
      refine (writeL_any m q hb h1 h3 h2).mono fun e w' ⟨he, hb', hk⟩ => ⟨he, _, ⟨h1, h2, by rw [fill_size]; exact h3, .inr ⟨b, rfl, hb'⟩⟩, ?_, hk.mono fun k _ hk => own_is rfl k hk⟩
      intro j hj
      simp only [Pg.n, Pg.size] at hj
      exact fill_front 5 (by decide) _ cs n j (by omega) hj
theorem behind_pg {w : World} {p : Pg} {cs : Array Value} (h : p.Mem w cs) (hf : p.Front cs) : Calls Try.prog p.behindF #[p.agg] w (WroteBehind w p) := by
  obtain ⟨h1, h2, h3, h4⟩ := h
  cases p with
  | party v n c m q =>
    rcases h4 with ⟨hv, hn, hc⟩ | ⟨b, hv, hb⟩
    · simp only [Pg.slice, Pg.n, Pg.c] at hv hn hc; subst hv hn hc
      refine (behindP_nil m q w).mono fun e w' ⟨he, hw⟩ => ⟨he, cs, ⟨h1, h2, h3, .inl ⟨rfl, rfl, rfl⟩⟩, hf, ?_, Keep.of_below hw⟩
      intro j _ hj; simp [Pg.c] at hj
    · simp only [Pg.slice, Pg.n, Pg.c, Pg.size, Nat.mul_one] at hv h1 h2 h3; subst hv
      refine (behindP_any m q hb h1 h3 h2).mono fun e w' ⟨he, hb', hk⟩ => ⟨he, _, ⟨h1, h2, by rw [fill_size]; simpa [Pg.size, Pg.c] using h3, .inr ⟨b, rfl, hb'⟩⟩, ?_, ?_, hk.mono fun k _ hk => own_is rfl k hk⟩
      · intro j hj
        rw [fill_keep 1 _ cs n _ j hj]
        exact hf j hj
      · intro j hj hj2
        exact fill_back 1 _ cs n _ j (by omega) hj hj2
  | line v n c m q =>
    rcases h4 with ⟨hv, hn, hc⟩ | ⟨b, hv, hb⟩
    · simp only [Pg.slice, Pg.n, Pg.c] at hv hn hc; subst hv hn hc
      refine (behindL_nil m q w).mono fun e w' ⟨he, hw⟩ => ⟨he, cs, ⟨h1, h2, h3, .inl ⟨rfl, rfl, rfl⟩⟩, hf, ?_, Keep.of_below hw⟩
      intro j _ hj; simp [Pg.c] at hj
    · simp only [Pg.slice, Pg.n, Pg.c, Pg.size] at hv h1 h2 h3; subst hv
      refine (behindL_any m q hb h1 h3 h2).mono fun e w' ⟨he, hb', hk⟩ => ⟨he, _, ⟨h1, h2, by rw [fill_size]; exact h3, .inr ⟨b, rfl, hb'⟩⟩, ?_, ?_, hk.mono fun k _ hk => own_is rfl k hk⟩
      · intro j hj
        rw [fill_keep 5 _ cs n _ j hj]
        exact hf j hj
      · intro j hj hj2
        exact fill_back 5 _ cs n _ j h3 hj hj2
theorem stands_pg {w : World} {p : Pg} {cs : Array Value} (h : p.Mem w cs) (hf : p.Front cs) (hk : p.Back cs) : Calls Try.prog p.standsF #[p.agg] w fun e w' => e = .returned (.bool true) ∧ Below w.heap.size w w' := by
  obtain ⟨h1, h2, h3, h4⟩ := h
  cases p with
  | party v n c m q =>
    rcases h4 with ⟨hv, hn, hc⟩ | ⟨b, hv, hb⟩
    · simp only [Pg.slice, Pg.n, Pg.c] at hv hn hc; subst hv hn hc
      exact standsP_nil m q w
    · simp only [Pg.slice, Pg.n, Pg.c, Pg.size, Nat.mul_one] at hv h1 h2 h3; subst hv
      exact standsP_any m q hb h1 h3 h2 (fun j hj => hf j (by simp only [Pg.n, Pg.size]; omega)) (fun j hj hj2 => hk j (by simp only [Pg.n, Pg.size]; omega) (by simp only [Pg.c, Pg.size]; omega))
  | line v n c m q =>
    rcases h4 with ⟨hv, hn, hc⟩ | ⟨b, hv, hb⟩
    · simp only [Pg.slice, Pg.n, Pg.c] at hv hn hc; subst hv hn hc
      exact standsL_nil m q w
    · simp only [Pg.slice, Pg.n, Pg.c, Pg.size] at hv h1 h2 h3; subst hv
      refine standsL_any m q hb h1 h3 h2 (fun j hj i hi => ?_) (fun j hj hj2 i hi => ?_)
      · have := hf (j * 5 + i) (by simp only [Pg.n, Pg.size]; omega)
        simp only [Pg.mark, Pg.size] at this
        rwa [show (j * 5 + i) % 5 = i by omega] at this
      · have := hk (j * 5 + i) (by simp only [Pg.n, Pg.size]; omega) (by simp only [Pg.c, Pg.size]; omega)
        simp only [Pg.behind, Pg.size] at this
        rwa [show (j * 5 + i) % 5 = i by omega] at this

end Go.Proofs.Ytlcilpeljnoclaa
