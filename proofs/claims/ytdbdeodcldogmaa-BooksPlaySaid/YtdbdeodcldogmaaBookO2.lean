/-
  The statements' own book: pages of offers, a page more, and whether its pages stand apart (written by gen_booko.py).
-/
import Derived.Test.YtdbdeodcldogmaaBookO
import Derived.LoopN
namespace Go.Proofs.Ytdbdeodcldogmaa
open Go.RowKit
set_option linter.unusedSimpArgs false
set_option linter.unusedVariables false

set_option maxHeartbeats 2000000 in
theorem writeO_nil (m q : Of) (w : World) :
    Calls Try.prog 109 #[.agg #[.slice none 0 0, .int .u64 m.se, .int .u8 m.ow, .int .u8 m.sl, .int .u8 m.bu, .int .i64 m.lf, .int .i64 m.nu, .int .i64 m.de, .int .u64 q.se, .int .u8 q.ow, .int .u8 q.sl, .int .u8 q.bu, .int .i64 q.lf, .int .i64 q.nu, .int .i64 q.de]] w fun e w' => e = .returned (.tuple #[]) ∧ Below w.heap.size w w' := by
  have B0 := Lib.hid ((Below.refl w.heap.size w).alloc (Nat.le_refl _) (.cells #[.slice none 0 0, .int .u64 m.se, .int .u8 m.ow, .int .u8 m.sl, .int .u8 m.bu, .int .i64 m.lf, .int .i64 m.nu, .int .i64 m.de, .int .u64 q.se, .int .u8 q.ow, .int .u8 q.sl, .int .u8 q.bu, .int .i64 q.lf, .int .i64 q.nu, .int .i64 q.de] 92))
  go_enter Try.func109, Try.ntmps109
  go_wp2
  refine wp_loop_rounds 1 ?_
  rw [rounds_succ]; go_wp2
  go_end0
  exact ⟨rfl, B0.out⟩
set_option maxHeartbeats 2000000 in
theorem behindO_nil (m q : Of) (w : World) :
    Calls Try.prog 110 #[.agg #[.slice none 0 0, .int .u64 m.se, .int .u8 m.ow, .int .u8 m.sl, .int .u8 m.bu, .int .i64 m.lf, .int .i64 m.nu, .int .i64 m.de, .int .u64 q.se, .int .u8 q.ow, .int .u8 q.sl, .int .u8 q.bu, .int .i64 q.lf, .int .i64 q.nu, .int .i64 q.de]] w fun e w' => e = .returned (.tuple #[]) ∧ Below w.heap.size w w' := by
  have B0 := Lib.hid ((Below.refl w.heap.size w).alloc (Nat.le_refl _) (.cells #[.slice none 0 0, .int .u64 m.se, .int .u8 m.ow, .int .u8 m.sl, .int .u8 m.bu, .int .i64 m.lf, .int .i64 m.nu, .int .i64 m.de, .int .u64 q.se, .int .u8 q.ow, .int .u8 q.sl, .int .u8 q.bu, .int .i64 q.lf, .int .i64 q.nu, .int .i64 q.de] 92))
  go_enter Try.func110, Try.ntmps110
  go_wp2
  refine wp_loop_rounds 1 ?_
  rw [rounds_succ]; go_wp2
  go_end0
  exact ⟨rfl, B0.out⟩
set_option maxHeartbeats 2000000 in
theorem standsO_nil (m q : Of) (w : World) :
    Calls Try.prog 108 #[.agg #[.slice none 0 0, .int .u64 m.se, .int .u8 m.ow, .int .u8 m.sl, .int .u8 m.bu, .int .i64 m.lf, .int .i64 m.nu, .int .i64 m.de, .int .u64 q.se, .int .u8 q.ow, .int .u8 q.sl, .int .u8 q.bu, .int .i64 q.lf, .int .i64 q.nu, .int .i64 q.de]] w fun e w' => e = .returned (.bool true) ∧ Below w.heap.size w w' := by
  have B0 := Lib.hid ((Below.refl w.heap.size w).alloc (Nat.le_refl _) (.cells #[.slice none 0 0, .int .u64 m.se, .int .u8 m.ow, .int .u8 m.sl, .int .u8 m.bu, .int .i64 m.lf, .int .i64 m.nu, .int .i64 m.de, .int .u64 q.se, .int .u8 q.ow, .int .u8 q.sl, .int .u8 q.bu, .int .i64 q.lf, .int .i64 q.nu, .int .i64 q.de] 92))
  go_enter Try.func108, Try.ntmps108
  go_wp2
  refine wp_loop_rounds 1 ?_
  rw [rounds_succ]; go_wp2
  go_ret
  exact ⟨rfl, B0.out⟩
/-- A page: a slice of offers, of n elements and room for c, its mark, and the mark of its room. -/
inductive Pg where
  | offer (v : Value) (n c : Nat) (m q : Of)
def Pg.slice : Pg → Value
  | .offer v .. => v
def Pg.agg : Pg → Value
  | .offer v n c m q => .agg #[v, .int .u64 m.se, .int .u8 m.ow, .int .u8 m.sl, .int .u8 m.bu, .int .i64 m.lf, .int .i64 m.nu, .int .i64 m.de, .int .u64 q.se, .int .u8 q.ow, .int .u8 q.sl, .int .u8 q.bu, .int .i64 q.lf, .int .i64 q.nu, .int .i64 q.de]
def Pg.kind : Pg → TypeId
  | .offer .. => 92
def Pg.elem : Pg → TypeId
  | .offer .. => 39
def Pg.n : Pg → Nat
  | .offer _ n .. => n
def Pg.c : Pg → Nat
  | .offer _ _ c .. => c
def Pg.size : Pg → Nat
  | .offer .. => 7
def Pg.mark : Pg → Nat → Value
  | .offer _ _ _ m _ => ofMk m
def Pg.behind : Pg → Nat → Value
  | .offer _ _ _ _ q => ofMk q
/-- The page's memory: none, or a block with the cells cs. -/
def Pg.Mem (w : World) (p : Pg) (cs : Array Value) : Prop :=
  p.n ≤ p.c ∧ p.c ≤ maxLen ∧ p.c * p.size ≤ cs.size ∧ ((p.slice = .slice none 0 0 ∧ p.n = 0 ∧ p.c = 0) ∨ ∃ b, p.slice = .slice (some ⟨b, 0, none⟩) p.n p.c ∧ Blk w b cs p.elem)
def Pg.Front (p : Pg) (cs : Array Value) : Prop := ∀ j, j < p.n * p.size → cs[j]? = some (p.mark (j % p.size))
def Pg.Back (p : Pg) (cs : Array Value) : Prop := ∀ j, p.n * p.size ≤ j → j < p.c * p.size → cs[j]? = some (p.behind (j % p.size))
def Pg.own (p : Pg) (b : Nat) : Prop := p.slice.ownBlock = some b
theorem Pg.Mem.keep {S : Nat → Prop} {w w' : World} {p : Pg} {cs : Array Value} (h : p.Mem w cs) (k : Keep S w w') (hs : ∀ b, p.own b → ¬ S b) : p.Mem w' cs := by
  obtain ⟨h1, h2, h3, h4⟩ := h
  refine ⟨h1, h2, h3, ?_⟩
  rcases h4 with h4 | ⟨b, hv, hb⟩
  · exact .inl h4
  · exact .inr ⟨b, hv, hb.keep k (hs b (by unfold Pg.own; rw [hv]; rfl))⟩
theorem Pg.Mem.own {w : World} {p : Pg} {cs : Array Value} (h : p.Mem w cs) {b : Nat} (hb : p.own b) : b < w.heap.size ∧ ∃ cur, w.heap[b]? = some (.cells cur p.elem (0, 0)) := by
  obtain ⟨_, _, _, h4⟩ := h
  rcases h4 with ⟨hv, _⟩ | ⟨b', hv, hb'⟩
  · unfold Pg.own at hb; rw [hv] at hb; cases hb
  · unfold Pg.own at hb; rw [hv] at hb; cases hb; exact ⟨hb'.lt, cs, hb'.out⟩
theorem fill_front (s : Nat) (hs : 0 < s) (mk : Nat → Value) (cs : Array Value) (n j : Nat) (h : n * s ≤ cs.size) (hj : j < n * s) : (fill s mk cs 0 n)[j]? = some (mk (j % s)) := by
  rw [fill_get _ _ _ _ _ _ (by omega), if_pos (by omega)]
theorem fill_back (s : Nat) (mk : Nat → Value) (cs : Array Value) (n c j : Nat) (h : c * s ≤ cs.size) (h1 : n * s ≤ j) (h2 : j < c * s) : (fill s mk cs n c)[j]? = some (mk (j % s)) := by
  rw [fill_get _ _ _ _ _ _ (by omega), if_pos ⟨h1, h2⟩]
theorem fill_keep (s : Nat) (mk : Nat → Value) (cs : Array Value) (n c j : Nat) (h1 : j < n * s) : (fill s mk cs n c)[j]? = cs[j]? := by
  by_cases h : j < cs.size
  · rw [fill_get _ _ _ _ _ _ h, if_neg (by omega), Array.getElem?_eq_getElem h]
  · rw [Array.getElem?_eq_none (by rw [fill_size]; omega), Array.getElem?_eq_none (by omega)]

def Pg.writeF : Pg → FuncId
  | .offer .. => 109
def Pg.behindF : Pg → FuncId
  | .offer .. => 110
def Pg.standsF : Pg → FuncId
  | .offer .. => 108
/-- What each method does to a page. -/
def Wrote (w : World) (p : Pg) (e : Ending) (w' : World) : Prop := e = .returned (.tuple #[]) ∧ ∃ cs', p.Mem w' cs' ∧ p.Front cs' ∧ Keep p.own w w'
def WroteBehind (w : World) (p : Pg) (e : Ending) (w' : World) : Prop := e = .returned (.tuple #[]) ∧ ∃ cs', p.Mem w' cs' ∧ p.Front cs' ∧ p.Back cs' ∧ Keep p.own w w'
theorem own_is {v : Value} {b n c : Nat} (h : v = .slice (some ⟨b, 0, none⟩) n c) : ∀ k, (fun x => x = b) k → v.ownBlock = some k := by rintro k rfl; rw [h]; rfl
theorem write_pg {w : World} {p : Pg} {cs : Array Value} (h : p.Mem w cs) : Calls Try.prog p.writeF #[p.agg] w (Wrote w p) := by
  obtain ⟨h1, h2, h3, h4⟩ := h
  cases p with
  | offer v n c m q =>
    rcases h4 with ⟨hv, hn, hc⟩ | ⟨b, hv, hb⟩
    · simp only [Pg.slice, Pg.n, Pg.c] at hv hn hc; subst hv hn hc
      refine (writeO_nil m q w).mono fun e w' ⟨he, hw⟩ => ⟨he, cs, ⟨h1, h2, h3, .inl ⟨rfl, rfl, rfl⟩⟩, ?_, Keep.of_below hw⟩
      intro j hj; simp [Pg.n] at hj
    · simp only [Pg.slice, Pg.n, Pg.c, Pg.size] at hv h1 h2 h3; subst hv
      refine (writeO_any m q hb h1 h3 h2).mono fun e w' ⟨he, hb', hk⟩ => ⟨he, _, ⟨h1, h2, by rw [fill_size]; exact h3, .inr ⟨b, rfl, hb'⟩⟩, ?_, hk.mono fun k _ hk => own_is rfl k hk⟩
      intro j hj
      simp only [Pg.n, Pg.size] at hj
      exact fill_front 7 (by decide) _ cs n j (by omega) hj
theorem behind_pg {w : World} {p : Pg} {cs : Array Value} (h : p.Mem w cs) (hf : p.Front cs) : Calls Try.prog p.behindF #[p.agg] w (WroteBehind w p) := by
  obtain ⟨h1, h2, h3, h4⟩ := h
  cases p with
  | offer v n c m q =>
    rcases h4 with ⟨hv, hn, hc⟩ | ⟨b, hv, hb⟩
    · simp only [Pg.slice, Pg.n, Pg.c] at hv hn hc; subst hv hn hc
      refine (behindO_nil m q w).mono fun e w' ⟨he, hw⟩ => ⟨he, cs, ⟨h1, h2, h3, .inl ⟨rfl, rfl, rfl⟩⟩, hf, ?_, Keep.of_below hw⟩
      intro j _ hj; simp [Pg.c] at hj
    · simp only [Pg.slice, Pg.n, Pg.c, Pg.size] at hv h1 h2 h3; subst hv
      refine (behindO_any m q hb h1 h3 h2).mono fun e w' ⟨he, hb', hk⟩ => ⟨he, _, ⟨h1, h2, by rw [fill_size]; exact h3, .inr ⟨b, rfl, hb'⟩⟩, ?_, ?_, hk.mono fun k _ hk => own_is rfl k hk⟩
      · intro j hj
        rw [fill_keep 7 _ cs n _ j hj]
        exact hf j hj
      · intro j hj hj2
        exact fill_back 7 _ cs n _ j h3 hj hj2
theorem stands_pg {w : World} {p : Pg} {cs : Array Value} (h : p.Mem w cs) (hf : p.Front cs) (hk : p.Back cs) : Calls Try.prog p.standsF #[p.agg] w fun e w' => e = .returned (.bool true) ∧ Below w.heap.size w w' := by
  obtain ⟨h1, h2, h3, h4⟩ := h
  cases p with
  | offer v n c m q =>
    rcases h4 with ⟨hv, hn, hc⟩ | ⟨b, hv, hb⟩
    · simp only [Pg.slice, Pg.n, Pg.c] at hv hn hc; subst hv hn hc
      exact standsO_nil m q w
    · simp only [Pg.slice, Pg.n, Pg.c, Pg.size] at hv h1 h2 h3; subst hv
      refine standsO_any m q hb h1 h3 h2 (fun j hj i hi => ?_) (fun j hj hj2 i hi => ?_)
      · have := hf (j * 7 + i) (by simp only [Pg.n, Pg.size]; omega)
        simp only [Pg.mark, Pg.size] at this
        rwa [show (j * 7 + i) % 7 = i by omega] at this
      · have := hk (j * 7 + i) (by simp only [Pg.n, Pg.size]; omega) (by simp only [Pg.c, Pg.size]; omega)
        simp only [Pg.behind, Pg.size] at this
        rwa [show (j * 7 + i) % 7 = i by omega] at this
def Pg.iface (p : Pg) : Value := .iface p.kind p.agg
/-- A book at block g, with these pages. -/
structure BookIs (w : World) (base g : Nat) (vp : Value) (ps : List Pg) : Prop where
  blk : Blk w g #[vp] 55
  ge : base ≤ g
  row : w.ownsRow base 94 1 vp ps.length (ps.map Pg.iface)
theorem number_any {w : World} {base g : Nat} {vp : Value} {ps : List Pg} (h : BookIs w base g vp ps) (hl : ps.length ≤ 1000) :
    Calls Try.prog 52 #[.pointer (some ⟨g, 0, none⟩)] w fun e w' => e = .returned (.int .i64 (ps.length + 1)) ∧ w' = w := by
  have d0 := h.blk.cell 0
  simp at d0
  obtain ⟨ao, cap, rfl, _⟩ := owns_open h.row
  have hlt := h.blk.lt
  clear h
  go_enter Try.func52, Try.ntmps52
  go_wp2
  go_ret
  exact ⟨rfl, rfl⟩
theorem info_page : (Try.prog.info? 94).map (fun i => (i.zero, i.size, i.bytes)) = some (some .nilIface, 1, 16) := by kernel_rfl
/-- A page more. -/
def Paged (base g : Nat) (vp : Value) (ps : List Pg) (p : Pg) (w : World) (e : Ending) (w' : World) : Prop :=
  e = .returned (.tuple #[]) ∧ ∃ vp', BookIs w' base g vp' (ps ++ [p]) ∧ Keep (fun k => k = g ∨ vp.ownBlock = some k) w w'
theorem paged_done {w w1 : World} {base g : Nat} {vp v : Value} {ps : List Pg} {p : Pg} (h : BookIs w base g vp ps) (hg : g < w.heap.size)
    (ho : w1.ownsRow base 94 1 v (ps ++ [p]).length ((ps ++ [p]).map Pg.iface)) (hgr : (w.alloc (.cells #[p.iface] 94)).grownBy w1 vp.ownBlock) :
    ∃ vp', BookIs (w1.setCell ⟨g, 0, none⟩ v) base g vp' (ps ++ [p]) ∧ Keep (fun k => k = g ∨ vp.ownBlock = some k) w (w1.setCell ⟨g, 0, none⟩ v) := by
  have hne := owns_ne h.row h.blk (by decide)
  have hb1 : Blk w1 g #[vp] 55 := (h.blk.alloc _).grown hgr (fun e => hne g e rfl)
  refine ⟨v, ⟨?_, h.ge, ?_⟩, ?_⟩
  · have := hb1.set 0 v
    simpa using this
  · exact owns_keep ho (Keep.setCell (S := (· = g)) (Keep.refl _ _) (p := ⟨g, 0, none⟩) (.inl rfl) v) (owns_ne ho hb1 (by decide))
  · refine Keep.setCell (p := ⟨g, 0, none⟩) ?_ (.inl (.inl rfl)) v
    exact Keep.grown (Keep.alloc (Keep.refl _ w) _) hgr (fun k hk => .inl (.inr hk))
set_option maxHeartbeats 4000000 in
theorem offers_any {w : World} {base g : Nat} {vp : Value} {ps : List Pg} (h : BookIs w base g vp ps) (hl : ps.length ≤ 100) (ao : Option Addr) (n c : Nat) :
    Calls Try.prog 28 #[.pointer (some ⟨g, 0, none⟩), .slice ao n c] w (Paged base g vp ps (Pg.offer (.slice ao n c) n c ⟨0, 0, 0, 0, (ps.length : Int) + 1, 0, 0⟩ ⟨0, 0, 0, 0, -((ps.length : Int) + 1), 0, 0⟩) w) := by
  have d0 := h.blk.cell 0
  simp at d0
  have H := Lib.hid h
  have cn := Lib.hid (number_any h (by omega))
  obtain ⟨ap, cap, hvp, _⟩ := owns_open h.row
  subst hvp
  have hlt := h.blk.lt
  have hne := Lib.hid (owns_ne h.row h.blk (by decide))
  clear h
  obtain ⟨i0, hi, hz0, hz1, hz2⟩ := info_parts info_page
  go_enter Try.func28, Try.ntmps28
  go_wp2_with fail
  refine cn.out.mono ?_
  rintro e w ⟨rfl, rfl⟩
  go_wp2_with (at_builtin; refine wpList_append_own _ rfl (.tmp 11) (.tmp 20) 53 rfl base 94 i0 .nilIface 1 16 Try.underlying53 hi hz0 hz1 hz2 rfl (by decide) _ _ _ rfl (H.out.row.alloc _) ⟨w.heap.size, 0, none⟩ 1 1 [(Pg.offer (.slice ao n c) n c ⟨0, 0, 0, 0, (ps.length : Int) + 1, 0, 0⟩ ⟨0, 0, 0, 0, -((ps.length : Int) + 1), 0, 0⟩).iface] rfl rfl ?_ ?_ (by unfold maxLen; omega) (by omega) (by have := H.out.ge; simp; omega) ?_)
  · intro j u hj
    rw [Go.WideShapes.add_plain]
    match j, hj with
    | 0, hj =>
      simp at hj; subst hj
      rw [Nat.zero_add]
      exact (Blk.new w #[(Pg.offer (.slice ao n c) n c ⟨0, 0, 0, 0, (ps.length : Int) + 1, 0, 0⟩ ⟨0, 0, 0, 0, -((ps.length : Int) + 1), 0, 0⟩).iface] 94).cell 0
    | j + 1, hj => simp at hj
  · intro u hu
    simp at hu
    subst hu; rfl
  · intro v' w1 hown hgr _
    have HO : Hid (w1.ownsRow base 94 1 v' (ps ++ [Pg.offer (.slice ao n c) n c ⟨0, 0, 0, 0, (ps.length : Int) + 1, 0, 0⟩ ⟨0, 0, 0, 0, -((ps.length : Int) + 1), 0, 0⟩]).length ((ps ++ [Pg.offer (.slice ao n c) n c ⟨0, 0, 0, 0, (ps.length : Int) + 1, 0, 0⟩ ⟨0, 0, 0, 0, -((ps.length : Int) + 1), 0, 0⟩]).map Pg.iface)) := Lib.hid (by simpa using hown)
    have HGR : Hid ((w.alloc (.cells #[(Pg.offer (.slice ao n c) n c ⟨0, 0, 0, 0, (ps.length : Int) + 1, 0, 0⟩ ⟨0, 0, 0, 0, -((ps.length : Int) + 1), 0, 0⟩).iface] 94)).grownBy w1 (Value.slice ap ps.length cap).ownBlock) := hgr
    have hb1 := (H.out.blk.alloc (.cells #[(Pg.offer (.slice ao n c) n c ⟨0, 0, 0, 0, (ps.length : Int) + 1, 0, 0⟩ ⟨0, 0, 0, 0, -((ps.length : Int) + 1), 0, 0⟩).iface] 94)).grown hgr (fun e => hne.out g e rfl)
    have d1 := hb1.cell 0
    simp at d1
    have hf1 := hb1.frozen
    have hlt1 := hb1.lt
    clear hown hgr hb1 d0
    obtain ⟨a3, c3, hv3, _⟩ := owns_open HO.out
    subst hv3
    go_wp2_with fail
    go_end0
    have fin := paged_done H.out hlt HO.out HGR.out
    simp only [List.length_append, List.length_singleton] at fin
    exact ⟨rfl, fin⟩
/-- No two pages share a block. -/
def Apartly (ps : List Pg) : Prop := ∀ (i j : Nat) (p q : Pg) (b : Nat), ps[i]? = some p → ps[j]? = some q → p.own b → q.own b → i = j
def Pg.any (ps : List Pg) (b : Nat) : Prop := ∃ p ∈ ps, p.own b
/-- A book whose first f pages are written, and behind the first b of them too. -/
structure Pages (w : World) (base g : Nat) (vp : Value) (ps : List Pg) (f b : Nat) (wr : World) : Prop where
  book : BookIs wr base g vp ps
  keep : Keep (Pg.any ps) w wr
  page : ∀ j p, ps[j]? = some p → ∃ cs, p.Mem wr cs ∧ (j < f → p.Front cs) ∧ (j < b → p.Back cs)
theorem Pg.elem_ne (p : Pg) : p.elem ≠ 94 ∧ p.elem ≠ 55 := by
  cases p
  · exact ⟨show 39 ≠ 94 by decide, show 39 ≠ 55 by decide⟩
theorem BookIs.keep {w1 w2 : World} {base g : Nat} {vp : Value} {ps : List Pg} {p : Pg} {cs : Array Value} (h : BookIs w1 base g vp ps) (hm : p.Mem w1 cs) (hk : Keep p.own w1 w2) : BookIs w2 base g vp ps := by
  refine ⟨h.blk.keep hk fun hg => ?_, h.ge, owns_keep h.row hk fun b hv hb => ?_⟩
  · obtain ⟨_, cur, hc⟩ := hm.own hg
    have := h.blk.out
    rw [hc] at this
    simp at this
    exact p.elem_ne.2 this.2
  · obtain ⟨_, cur, hc⟩ := hm.own hb
    obtain ⟨_, _, cur', hc'⟩ := owns_type h.row hv
    rw [hc] at hc'
    simp at hc'
    exact p.elem_ne.1 hc'.2
theorem Pages.step {w w1 w2 : World} {base g : Nat} {vp : Value} {ps : List Pg} {f b f' b' k : Nat} {p : Pg} (h : Pages w base g vp ps f b w1) (ha : Apartly ps) (hp : ps[k]? = some p) (hk : Keep p.own w1 w2)
    (hm : ∃ cs', p.Mem w2 cs' ∧ (k < f' → p.Front cs') ∧ (k < b' → p.Back cs')) (hf : ∀ j, j ≠ k → j < f' → j < f) (hb : ∀ j, j ≠ k → j < b' → j < b) : Pages w base g vp ps f' b' w2 := by
  obtain ⟨cs, m0, _, _⟩ := h.page k p hp
  refine ⟨h.book.keep m0 hk, h.keep.trans (hk.mono fun x _ hx => ⟨p, List.mem_of_getElem? hp, hx⟩), fun j q hq => ?_⟩
  · by_cases hj : j = k
    · subst hj
      rw [hp] at hq; cases hq
      exact hm
    · obtain ⟨cs, m, f1, b1⟩ := h.page j q hq
      exact ⟨cs, m.keep hk (fun x hx hpx => hj (ha j k q p x hq hp hx hpx)), fun h1 => f1 (hf j hj h1), fun h1 => b1 (hb j hj h1)⟩
theorem Pages.wrote {w w1 w2 : World} {base g : Nat} {vp : Value} {ps : List Pg} {k : Nat} {p : Pg} {e : Ending} (h : Pages w base g vp ps k 0 w1) (ha : Apartly ps) (hp : ps[k]? = some p) (hw : Wrote w1 p e w2) : Pages w base g vp ps (k + 1) 0 w2 := by
  obtain ⟨_, cs', m, f, kp⟩ := hw
  exact h.step ha hp kp ⟨cs', m, fun _ => f, fun h => absurd h (by omega)⟩ (fun j h1 h2 => by omega) (fun j h1 h2 => by omega)
theorem Pages.wroteBehind {w w1 w2 : World} {base g : Nat} {vp : Value} {ps : List Pg} {k : Nat} {p : Pg} {e : Ending} (h : Pages w base g vp ps ps.length k w1) (ha : Apartly ps) (hp : ps[k]? = some p) (hw : WroteBehind w1 p e w2) : Pages w base g vp ps ps.length (k + 1) w2 := by
  obtain ⟨_, cs', m, f, b, kp⟩ := hw
  exact h.step ha hp kp ⟨cs', m, fun _ => f, fun _ => b⟩ (fun j h1 h2 => h2) (fun j h1 h2 => by omega)
theorem Pages.below {w w1 w2 : World} {base g : Nat} {vp : Value} {ps : List Pg} {f b : Nat} (h : Pages w base g vp ps f b w1) (hk : Below w1.heap.size w1 w2) : Pages w base g vp ps f b w2 := by
  have kk : Keep (fun _ => False) w1 w2 := Keep.of_below hk
  refine ⟨⟨h.book.blk.keep kk id, h.book.ge, owns_below h.book.row hk⟩, h.keep.trans (Keep.of_below hk), fun j p hp => ?_⟩
  obtain ⟨cs, m, f1, b1⟩ := h.page j p hp
  exact ⟨cs, m.keep kk (fun _ _ => id), f1, b1⟩
theorem Pages.read {w wr : World} {base g f b cap : Nat} {ao : Option Addr} {ps : List Pg} (h : Pages w base g (.slice ao ps.length cap) ps f b wr) {k : Nat} (hk : k < ps.length) :
    ∃ z p, ps[k]? = some p ∧ ao = some ⟨z, 0, none⟩ ∧ wr.cell? ⟨z, k, none⟩ = some (.iface p.kind p.agg) ∧ wr.frozen? ⟨z, k, none⟩ = false ∧ z < wr.heap.size := by
  obtain ⟨ao', cap', hv, _, _, _, hr⟩ := owns_open h.book.row
  cases hv
  obtain ⟨z, hz, _, hlt, hc, hfr⟩ := hr (by omega)
  refine ⟨z, ps[k], List.getElem?_eq_getElem hk, hz, ?_, hfr k, hlt⟩
  rw [hc k (by omega), List.getElem?_map, List.getElem?_eq_getElem hk]
  rfl
theorem method_write (p : Pg) (n : Nat) (w : World) : (method (n + 1) p.kind p.agg "countinghouse/countinghouselaw01.write").run Try.prog w = .ok (p.writeF, p.agg) w := by
  cases p <;> kernel_rfl
theorem method_behind (p : Pg) (n : Nat) (w : World) : (method (n + 1) p.kind p.agg "countinghouse/countinghouselaw01.writeBehind").run Try.prog w = .ok (p.behindF, p.agg) w := by
  cases p <;> kernel_rfl
theorem method_stands (p : Pg) (n : Nat) (w : World) : (method (n + 1) p.kind p.agg "countinghouse/countinghouselaw01.stands").run Try.prog w = .ok (p.standsF, p.agg) w := by
  cases p <;> kernel_rfl
theorem enter_write (p : Pg) (w : World) : (callFunc p.writeF #[p.agg]).run Try.prog w = .ok (.enter p.writeF #[p.agg]) w := by
  cases p <;> kernel_rfl
theorem enter_behind (p : Pg) (w : World) : (callFunc p.behindF #[p.agg]).run Try.prog w = .ok (.enter p.behindF #[p.agg]) w := by
  cases p <;> kernel_rfl
theorem enter_stands (p : Pg) (w : World) : (callFunc p.standsF #[p.agg]).run Try.prog w = .ok (.enter p.standsF #[p.agg]) w := by
  cases p <;> kernel_rfl
/-- At the head of a loop over the pages. -/
def PagesAt (w : World) (base g : Nat) (vp : Value) (ps : List Pg) (f b : Nat → Nat) (i : Value) (wr : World) : Prop :=
  ∃ k : Nat, k ≤ ps.length ∧ i = .int .i64 k ∧ Pages w base g vp ps (f k) (b k) wr
set_option maxHeartbeats 4000000 in
theorem apart_any {w : World} {base g : Nat} {vp : Value} {ps : List Pg} (h : BookIs w base g vp ps) (hl : ps.length ≤ 120) (hm : ∀ p ∈ ps, ∃ cs, p.Mem w cs) (ha : Apartly ps) :
    Calls Try.prog 30 #[.pointer (some ⟨g, 0, none⟩)] w fun e w' => e = .returned (.bool true) ∧ Keep (Pg.any ps) w w' := by
  obtain ⟨ao, cap, rfl, hcap, hmax, _, _⟩ := owns_open h.row
  have d0 := h.blk.cell 0
  simp at d0
  have hg := h.blk.lt
  have P0 : Hid (Pages w base g (.slice ao ps.length cap) ps 0 0 w) := Lib.hid ⟨h, Keep.refl _ w, fun j p hp => by
    obtain ⟨cs, m⟩ := hm p (List.mem_of_getElem? hp)
    exact ⟨cs, m, fun h => absurd h (by omega), fun h => absurd h (by omega)⟩⟩
  have HA := Lib.hid ha
  have MW := method_write
  have MB := method_behind
  have MS := method_stands
  have EW := enter_write
  have EB := enter_behind
  have ES := enter_stands
  clear h hm ha
  unfold maxLen at hmax
  go_enter Try.func30, Try.ntmps30
  go_wp2
  go_loopw [3] (PagesAt w base g (.slice ao ps.length cap) ps (fun k => k) (fun _ => 0)) (fun i _ => ps.length - (intOf i).toNat)
  case atStart => exact ⟨0, Nat.zero_le _, rfl, P0.out⟩
  case round =>
    obtain ⟨k, hk, rfl, hP⟩ := hrel
    have HP := Lib.hid hP
    have d0 := hP.book.blk.cell 0
    simp at d0
    by_cases hkl : k < ps.length
    · obtain ⟨z, p, hp, rfl, hcell, hf, hz⟩ := hP.read hkl
      obtain ⟨cs, m, _, _⟩ := hP.page k p hp
      have cw := Lib.hid (write_pg m)
      clear hP m
      go_wp2_with fail
      refine cw.out.mono ?_
      intro e w2 hw
      have N2 := Lib.hid (HP.out.wrote HA.out hp hw)
      obtain ⟨rfl, _⟩ := hw
      go_wp2
      go_roundw
      case rel => exact ⟨k + 1, by omega, by go_num, N2.out⟩
      case measure => simp [intOf]; omega
    · obtain rfl : k = ps.length := by omega
      clear hP
      go_wp2
      go_loopw [4] (PagesAt w base g (.slice ao ps.length cap) ps (fun _ => ps.length) (fun k => k)) (fun i _ => ps.length - (intOf i).toNat)
      case atStart => exact ⟨0, Nat.zero_le _, rfl, HP.out⟩
      case round =>
        obtain ⟨k, hk, rfl, hP⟩ := hrel
        have HP := Lib.hid hP
        have d0 := hP.book.blk.cell 0
        simp at d0
        by_cases hkl : k < ps.length
        · obtain ⟨z, p, hp, rfl, hcell, hf, hz⟩ := hP.read hkl
          obtain ⟨cs, m, f1, _⟩ := hP.page k p hp
          have cw := Lib.hid (behind_pg m (f1 hkl))
          clear hP m
          go_wp2_with fail
          refine cw.out.mono ?_
          intro e w2 hw
          have N2 := Lib.hid (HP.out.wroteBehind HA.out hp hw)
          obtain ⟨rfl, _⟩ := hw
          go_wp2
          go_roundw
          case rel => exact ⟨k + 1, by omega, by go_num, N2.out⟩
          case measure => simp [intOf]; omega
        · obtain rfl : k = ps.length := by omega
          clear hP
          go_wp2
          go_loopw [5] (PagesAt w base g (.slice ao ps.length cap) ps (fun _ => ps.length) (fun _ => ps.length)) (fun i _ => ps.length - (intOf i).toNat)
          case atStart => exact ⟨0, Nat.zero_le _, rfl, HP.out⟩
          case round =>
            obtain ⟨k, hk, rfl, hP⟩ := hrel
            have HP := Lib.hid hP
            have d0 := hP.book.blk.cell 0
            simp at d0
            by_cases hkl : k < ps.length
            · obtain ⟨z, p, hp, rfl, hcell, hf, hz⟩ := hP.read hkl
              obtain ⟨cs, m, f1, b1⟩ := hP.page k p hp
              have cw := Lib.hid (stands_pg m (f1 hkl) (b1 hkl))
              clear hP m
              go_wp2_with fail
              refine cw.out.mono ?_
              rintro e w2 ⟨rfl, hb⟩
              have N2 := Lib.hid (HP.out.below hb)
              clear hb
              go_wp2
              go_roundw
              case rel => exact ⟨k + 1, by omega, by go_num, N2.out⟩
              case measure => simp [intOf]; omega
            · obtain rfl : k = ps.length := by omega
              clear hP
              go_wp2
              go_ret
              exact ⟨rfl, HP.out.keep⟩

end Go.Proofs.Ytdbdeodcldogmaa
