/-
  The statements' own book: pages of any kind that the seat has, a page more, whether its pages stand apart; a book filled while the rest stays (written by gen_pages.py).
-/
import Derived.Test.YtmfacfnbokadmaaBookO
import Derived.Test.YtmfacfnbokadmaaBookF
import Derived.LoopN
namespace Go.Proofs.Ytmfacfnbokadmaa
open Go.RowKit
set_option linter.unusedSimpArgs false
set_option linter.unusedVariables false

set_option maxHeartbeats 2000000 in
theorem writeF_nil (m q : Fw) (w : World) :
    Calls Try.prog 61 #[.agg #[.slice none 0 0, .int .u8 m.fr, .int .u8 m.tt, .int .i64 m.am, .int .u8 q.fr, .int .u8 q.tt, .int .i64 q.am]] w fun e w' => e = .returned (.tuple #[]) ∧ Below w.heap.size w w' := by
  have B0 := Lib.hid ((Below.refl w.heap.size w).alloc (Nat.le_refl _) (.cells #[.slice none 0 0, .int .u8 m.fr, .int .u8 m.tt, .int .i64 m.am, .int .u8 q.fr, .int .u8 q.tt, .int .i64 q.am] 58))
  go_enter Try.func61, Try.ntmps61
  go_wp2
  refine wp_loop_rounds 1 ?_
  rw [rounds_succ]; go_wp2
  go_end0
  exact ⟨rfl, B0.out⟩
set_option maxHeartbeats 2000000 in
theorem behindF_nil (m q : Fw) (w : World) :
    Calls Try.prog 62 #[.agg #[.slice none 0 0, .int .u8 m.fr, .int .u8 m.tt, .int .i64 m.am, .int .u8 q.fr, .int .u8 q.tt, .int .i64 q.am]] w fun e w' => e = .returned (.tuple #[]) ∧ Below w.heap.size w w' := by
  have B0 := Lib.hid ((Below.refl w.heap.size w).alloc (Nat.le_refl _) (.cells #[.slice none 0 0, .int .u8 m.fr, .int .u8 m.tt, .int .i64 m.am, .int .u8 q.fr, .int .u8 q.tt, .int .i64 q.am] 58))
  go_enter Try.func62, Try.ntmps62
  go_wp2
  refine wp_loop_rounds 1 ?_
  rw [rounds_succ]; go_wp2
  go_end0
  exact ⟨rfl, B0.out⟩
set_option maxHeartbeats 2000000 in
theorem standsF_nil (m q : Fw) (w : World) :
    Calls Try.prog 60 #[.agg #[.slice none 0 0, .int .u8 m.fr, .int .u8 m.tt, .int .i64 m.am, .int .u8 q.fr, .int .u8 q.tt, .int .i64 q.am]] w fun e w' => e = .returned (.bool true) ∧ Below w.heap.size w w' := by
  have B0 := Lib.hid ((Below.refl w.heap.size w).alloc (Nat.le_refl _) (.cells #[.slice none 0 0, .int .u8 m.fr, .int .u8 m.tt, .int .i64 m.am, .int .u8 q.fr, .int .u8 q.tt, .int .i64 q.am] 58))
  go_enter Try.func60, Try.ntmps60
  go_wp2
  refine wp_loop_rounds 1 ?_
  rw [rounds_succ]; go_wp2
  go_ret
  exact ⟨rfl, B0.out⟩
/-- A page: a slice of one of the kinds below, of n elements and room for c, its mark, and the mark of its room. -/
inductive Pg where
  | flow (v : Value) (n c : Nat) (m q : Fw)
def Pg.slice : Pg → Value
  | .flow v .. => v
def Pg.agg : Pg → Value
  | .flow v n c m q => .agg #[v, .int .u8 m.fr, .int .u8 m.tt, .int .i64 m.am, .int .u8 q.fr, .int .u8 q.tt, .int .i64 q.am]
def Pg.kind : Pg → TypeId
  | .flow .. => 58
def Pg.elem : Pg → TypeId
  | .flow .. => 37
def Pg.n : Pg → Nat
  | .flow _ n .. => n
def Pg.c : Pg → Nat
  | .flow _ _ c .. => c
def Pg.size : Pg → Nat
  | .flow .. => 3
def Pg.mark : Pg → Nat → Value
  | .flow _ _ _ m _ => fwMk m
def Pg.behind : Pg → Nat → Value
  | .flow _ _ _ _ q => fwMk q
/-- The page's memory: none, or a block with the cells cs. -/
def Pg.Mem (w : World) (p : Pg) (cs : Array Value) : Prop :=
  p.n ≤ p.c ∧ p.c ≤ maxLen ∧ p.c * p.size ≤ cs.size ∧ ((p.slice = .slice none 0 0 ∧ p.n = 0 ∧ p.c = 0) ∨ ∃ b, p.slice = .slice (some ⟨b, 0, none⟩) p.n p.c ∧ Blk w b cs p.elem)
def Pg.Front (p : Pg) (cs : Array Value) : Prop := ∀ j, j < p.n * p.size → cs[j]? = some (p.mark (j % p.size))
def Pg.Back (p : Pg) (cs : Array Value) : Prop := ∀ j, p.n * p.size ≤ j → j < p.c * p.size → cs[j]? = some (p.behind (j % p.size))
def Pg.own (p : Pg) (b : Nat) : Prop := p.slice.ownBlock = some b
theorem Pg.Mem.keep {S : Nat → Prop} {w w' : World} {p : Pg} {cs : Array Value} (h : p.Mem w cs) (k : Keep S w w') (hs : ∀ b, p.own b → ¬ S b) : p.Mem w' cs := by
  obtain ⟨h1, h2, h3, h4⟩ := h
  refine ⟨h1, h2, h3, ?_⟩
  rcases h4 with h4 | ⟨b, hv, hb⟩
  · exact .inl h4
  · exact .inr ⟨b, hv, hb.keep k (hs b (by unfold Pg.own; rw [hv]; rfl))⟩
theorem Pg.Mem.own {w : World} {p : Pg} {cs : Array Value} (h : p.Mem w cs) {b : Nat} (hb : p.own b) : b < w.heap.size ∧ ∃ cur, w.heap[b]? = some (.cells cur p.elem (0, 0)) := by
  obtain ⟨_, _, _, h4⟩ := h
  rcases h4 with ⟨hv, _⟩ | ⟨b', hv, hb'⟩
  · unfold Pg.own at hb; rw [hv] at hb; cases hb
  · unfold Pg.own at hb; rw [hv] at hb; cases hb; exact ⟨hb'.lt, cs, hb'.out⟩
theorem fill_front (s : Nat) (hs : 0 < s) (mk : Nat → Value) (cs : Array Value) (n j : Nat) (h : n * s ≤ cs.size) (hj : j < n * s) : (fill s mk cs 0 n)[j]? = some (mk (j % s)) := by
  rw [fill_get _ _ _ _ _ _ (by omega), if_pos (by omega)]
theorem fill_back (s : Nat) (mk : Nat → Value) (cs : Array Value) (n c j : Nat) (h : c * s ≤ cs.size) (h1 : n * s ≤ j) (h2 : j < c * s) : (fill s mk cs n c)[j]? = some (mk (j % s)) := by
  rw [fill_get _ _ _ _ _ _ (by omega), if_pos ⟨h1, h2⟩]
theorem fill_keep (s : Nat) (mk : Nat → Value) (cs : Array Value) (n c j : Nat) (h1 : j < n * s) : (fill s mk cs n c)[j]? = cs[j]? := by
  by_cases h : j < cs.size
  · rw [fill_get _ _ _ _ _ _ h, if_neg (by omega), Array.getElem?_eq_getElem h]
  · rw [Array.getElem?_eq_none (by rw [fill_size]; omega), Array.getElem?_eq_none (by omega)]

def Pg.writeF : Pg → FuncId
  | .flow .. => 61
def Pg.behindF : Pg → FuncId
  | .flow .. => 62
def Pg.standsF : Pg → FuncId
  | .flow .. => 60
/-- What each method does to a page. -/
def Wrote (w : World) (p : Pg) (e : Ending) (w' : World) : Prop := e = .returned (.tuple #[]) ∧ ∃ cs', p.Mem w' cs' ∧ p.Front cs' ∧ Keep p.own w w'
def WroteBehind (w : World) (p : Pg) (e : Ending) (w' : World) : Prop := e = .returned (.tuple #[]) ∧ ∃ cs', p.Mem w' cs' ∧ p.Front cs' ∧ p.Back cs' ∧ Keep p.own w w'
theorem own_is {v : Value} {b n c : Nat} (h : v = .slice (some ⟨b, 0, none⟩) n c) : ∀ k, (fun x => x = b) k → v.ownBlock = some k := by rintro k rfl; rw [h]; rfl
theorem write_pg {w : World} {p : Pg} {cs : Array Value} (h : p.Mem w cs) : Calls Try.prog p.writeF #[p.agg] w (Wrote w p) := by
  obtain ⟨h1, h2, h3, h4⟩ := h
  cases p with
  | flow v n c m q =>
    rcases h4 with ⟨hv, hn, hc⟩ | ⟨b, hv, hb⟩
    · simp only [Pg.slice, Pg.n, Pg.c] at hv hn hc; subst hv hn hc
      refine (writeF_nil m q w).mono fun e w' ⟨he, hw⟩ => ⟨he, cs, ⟨h1, h2, h3, .inl ⟨rfl, rfl, rfl⟩⟩, ?_, Keep.of_below hw⟩
      intro j hj; simp [Pg.n] at hj
    · simp only [Pg.slice, Pg.n, Pg.c, Pg.size] at hv h1 h2 h3; subst hv
      refine (writeF_any m q hb h1 h3 h2).mono fun e w' ⟨he, hb', hk⟩ => ⟨he, _, ⟨h1, h2, by rw [fill_size]; exact h3, .inr ⟨b, rfl, hb'⟩⟩, ?_, hk.mono fun k _ hk => own_is rfl k hk⟩
      intro j hj
      simp only [Pg.n, Pg.size] at hj
      exact fill_front 3 (by decide) _ cs n j (by omega) hj
theorem behind_pg {w : World} {p : Pg} {cs : Array Value} (h : p.Mem w cs) (hf : p.Front cs) : Calls Try.prog p.behindF #[p.agg] w (WroteBehind w p) := by
  obtain ⟨h1, h2, h3, h4⟩ := h
  cases p with
  | flow v n c m q =>
    rcases h4 with ⟨hv, hn, hc⟩ | ⟨b, hv, hb⟩
    · simp only [Pg.slice, Pg.n, Pg.c] at hv hn hc; subst hv hn hc
      refine (behindF_nil m q w).mono fun e w' ⟨he, hw⟩ => ⟨he, cs, ⟨h1, h2, h3, .inl ⟨rfl, rfl, rfl⟩⟩, hf, ?_, Keep.of_below hw⟩
      intro j _ hj; simp [Pg.c] at hj
    · simp only [Pg.slice, Pg.n, Pg.c, Pg.size] at hv h1 h2 h3; subst hv
      refine (behindF_any m q hb h1 h3 h2).mono fun e w' ⟨he, hb', hk⟩ => ⟨he, _, ⟨h1, h2, by rw [fill_size]; exact h3, .inr ⟨b, rfl, hb'⟩⟩, ?_, ?_, hk.mono fun k _ hk => own_is rfl k hk⟩
      · intro j hj
        rw [fill_keep 3 _ cs n _ j hj]
        exact hf j hj
      · intro j hj hj2
        exact fill_back 3 _ cs n _ j h3 hj hj2
theorem stands_pg {w : World} {p : Pg} {cs : Array Value} (h : p.Mem w cs) (hf : p.Front cs) (hk : p.Back cs) : Calls Try.prog p.standsF #[p.agg] w fun e w' => e = .returned (.bool true) ∧ Below w.heap.size w w' := by
  obtain ⟨h1, h2, h3, h4⟩ := h
  cases p with
  | flow v n c m q =>
    rcases h4 with ⟨hv, hn, hc⟩ | ⟨b, hv, hb⟩
    · simp only [Pg.slice, Pg.n, Pg.c] at hv hn hc; subst hv hn hc
      exact standsF_nil m q w
    · simp only [Pg.slice, Pg.n, Pg.c, Pg.size] at hv h1 h2 h3; subst hv
      refine standsF_any m q hb h1 h3 h2 (fun j hj i hi => ?_) (fun j hj hj2 i hi => ?_)
      · have := hf (j * 3 + i) (by simp only [Pg.n, Pg.size]; omega)
        simp only [Pg.mark, Pg.size] at this
        rwa [show (j * 3 + i) % 3 = i by omega] at this
      · have := hk (j * 3 + i) (by simp only [Pg.n, Pg.size]; omega) (by simp only [Pg.c, Pg.size]; omega)
        simp only [Pg.behind, Pg.size] at this
        rwa [show (j * 3 + i) % 3 = i by omega] at this
def Pg.iface (p : Pg) : Value := .iface p.kind p.agg
/-- A book at block g, with these pages. -/
structure BookIs (w : World) (base g : Nat) (vp : Value) (ps : List Pg) : Prop where
  blk : Blk w g #[vp] 32
  ge : base ≤ g
  row : w.ownsRow base 60 1 vp ps.length (ps.map Pg.iface)
theorem number_any {w : World} {base g : Nat} {vp : Value} {ps : List Pg} (h : BookIs w base g vp ps) (hl : ps.length ≤ 1000) :
    Calls Try.prog 23 #[.pointer (some ⟨g, 0, none⟩)] w fun e w' => e = .returned (.int .i64 (ps.length + 1)) ∧ w' = w := by
  have d0 := h.blk.cell 0
  simp at d0
  obtain ⟨ao, cap, rfl, _⟩ := owns_open h.row
  have hlt := h.blk.lt
  clear h
  go_enter Try.func23, Try.ntmps23
  go_wp2
  go_ret
  exact ⟨rfl, rfl⟩
theorem info_page : (Try.prog.info? 60).map (fun i => (i.zero, i.size, i.bytes)) = some (some .nilIface, 1, 16) := by kernel_rfl
/-- A page more. -/
def Paged (base g : Nat) (vp : Value) (ps : List Pg) (p : Pg) (w : World) (e : Ending) (w' : World) : Prop :=
  e = .returned (.tuple #[]) ∧ ∃ vp', BookIs w' base g vp' (ps ++ [p]) ∧ Keep (fun k => k = g ∨ vp.ownBlock = some k) w w'
theorem paged_done {w w1 : World} {base g : Nat} {vp v : Value} {ps : List Pg} {p : Pg} (h : BookIs w base g vp ps) (hg : g < w.heap.size)
    (ho : w1.ownsRow base 60 1 v (ps ++ [p]).length ((ps ++ [p]).map Pg.iface)) (hgr : (w.alloc (.cells #[p.iface] 60)).grownBy w1 vp.ownBlock) :
    ∃ vp', BookIs (w1.setCell ⟨g, 0, none⟩ v) base g vp' (ps ++ [p]) ∧ Keep (fun k => k = g ∨ vp.ownBlock = some k) w (w1.setCell ⟨g, 0, none⟩ v) := by
  have hne := owns_ne h.row h.blk (by decide)
  have hb1 : Blk w1 g #[vp] 32 := (h.blk.alloc _).grown hgr (fun e => hne g e rfl)
  refine ⟨v, ⟨?_, h.ge, ?_⟩, ?_⟩
  · have := hb1.set 0 v
    simpa using this
  · exact owns_keep ho (Keep.setCell (S := (· = g)) (Keep.refl _ _) (p := ⟨g, 0, none⟩) (.inl rfl) v) (owns_ne ho hb1 (by decide))
  · refine Keep.setCell (p := ⟨g, 0, none⟩) ?_ (.inl (.inl rfl)) v
    exact Keep.grown (Keep.alloc (Keep.refl _ w) _) hgr (fun k hk => .inl (.inr hk))
set_option maxHeartbeats 4000000 in
theorem flows_any {w : World} {base g : Nat} {vp : Value} {ps : List Pg} (h : BookIs w base g vp ps) (hl : ps.length ≤ 100) (ao : Option Addr) (n c : Nat) :
    Calls Try.prog 11 #[.pointer (some ⟨g, 0, none⟩), .slice ao n c] w (Paged base g vp ps (Pg.flow (.slice ao n c) n c ⟨0, 0, (ps.length : Int) + 1⟩ ⟨0, 0, -((ps.length : Int) + 1)⟩) w) := by
  have d0 := h.blk.cell 0
  simp at d0
  have H := Lib.hid h
  have cn := Lib.hid (number_any h (by omega))
  obtain ⟨ap, cap, hvp, _⟩ := owns_open h.row
  subst hvp
  have hlt := h.blk.lt
  have hne := Lib.hid (owns_ne h.row h.blk (by decide))
  clear h
  obtain ⟨i0, hi, hz0, hz1, hz2⟩ := info_parts info_page
  go_enter Try.func11, Try.ntmps11
  go_wp2_with fail
  refine cn.out.mono ?_
  rintro e w ⟨rfl, rfl⟩
  go_wp2_with (at_builtin; refine wpList_append_own _ rfl (.tmp 11) (.tmp 20) 30 rfl base 60 i0 .nilIface 1 16 Try.underlying30 hi hz0 hz1 hz2 rfl (by decide) _ _ _ rfl (H.out.row.alloc _) ⟨w.heap.size, 0, none⟩ 1 1 [(Pg.flow (.slice ao n c) n c ⟨0, 0, (ps.length : Int) + 1⟩ ⟨0, 0, -((ps.length : Int) + 1)⟩).iface] rfl rfl ?_ ?_ (by unfold maxLen; omega) (by omega) (by have := H.out.ge; simp; omega) ?_)
  · intro j u hj
    rw [Go.WideShapes.add_plain]
    match j, hj with
    | 0, hj =>
      simp at hj; subst hj
      rw [Nat.zero_add]
      exact (Blk.new w #[(Pg.flow (.slice ao n c) n c ⟨0, 0, (ps.length : Int) + 1⟩ ⟨0, 0, -((ps.length : Int) + 1)⟩).iface] 60).cell 0
    | j + 1, hj => simp at hj
  · intro u hu
    simp at hu
    subst hu; rfl
  · intro v' w1 hown hgr _
    have HO : Hid (w1.ownsRow base 60 1 v' (ps ++ [Pg.flow (.slice ao n c) n c ⟨0, 0, (ps.length : Int) + 1⟩ ⟨0, 0, -((ps.length : Int) + 1)⟩]).length ((ps ++ [Pg.flow (.slice ao n c) n c ⟨0, 0, (ps.length : Int) + 1⟩ ⟨0, 0, -((ps.length : Int) + 1)⟩]).map Pg.iface)) := Lib.hid (by simpa using hown)
    have HGR : Hid ((w.alloc (.cells #[(Pg.flow (.slice ao n c) n c ⟨0, 0, (ps.length : Int) + 1⟩ ⟨0, 0, -((ps.length : Int) + 1)⟩).iface] 60)).grownBy w1 (Value.slice ap ps.length cap).ownBlock) := hgr
    have hb1 := (H.out.blk.alloc (.cells #[(Pg.flow (.slice ao n c) n c ⟨0, 0, (ps.length : Int) + 1⟩ ⟨0, 0, -((ps.length : Int) + 1)⟩).iface] 60)).grown hgr (fun e => hne.out g e rfl)
    have d1 := hb1.cell 0
    simp at d1
    have hf1 := hb1.frozen
    have hlt1 := hb1.lt
    clear hown hgr hb1 d0
    obtain ⟨a3, c3, hv3, _⟩ := owns_open HO.out
    subst hv3
    go_wp2_with fail
    go_end0
    have fin := paged_done H.out hlt HO.out HGR.out
    simp only [List.length_append, List.length_singleton] at fin
    exact ⟨rfl, fin⟩
/-- No two pages share a block. -/
def Apartly (ps : List Pg) : Prop := ∀ (i j : Nat) (p q : Pg) (b : Nat), ps[i]? = some p → ps[j]? = some q → p.own b → q.own b → i = j
def Pg.any (ps : List Pg) (b : Nat) : Prop := ∃ p ∈ ps, p.own b
/-- A book whose first f pages are written, and behind the first b of them too. -/
structure Pages (w : World) (base g : Nat) (vp : Value) (ps : List Pg) (f b : Nat) (wr : World) : Prop where
  book : BookIs wr base g vp ps
  keep : Keep (Pg.any ps) w wr
  page : ∀ j p, ps[j]? = some p → ∃ cs, p.Mem wr cs ∧ (j < f → p.Front cs) ∧ (j < b → p.Back cs)
theorem Pg.elem_ne (p : Pg) : p.elem ≠ 60 ∧ p.elem ≠ 32 := by
  cases p
  · exact ⟨show 37 ≠ 60 by decide, show 37 ≠ 32 by decide⟩
theorem BookIs.keep {w1 w2 : World} {base g : Nat} {vp : Value} {ps : List Pg} {p : Pg} {cs : Array Value} (h : BookIs w1 base g vp ps) (hm : p.Mem w1 cs) (hk : Keep p.own w1 w2) : BookIs w2 base g vp ps := by
  refine ⟨h.blk.keep hk fun hg => ?_, h.ge, owns_keep h.row hk fun b hv hb => ?_⟩
  · obtain ⟨_, cur, hc⟩ := hm.own hg
    have := h.blk.out
    rw [hc] at this
    simp at this
    exact p.elem_ne.2 this.2
  · obtain ⟨_, cur, hc⟩ := hm.own hb
    obtain ⟨_, _, cur', hc'⟩ := owns_type h.row hv
    rw [hc] at hc'
    simp at hc'
    exact p.elem_ne.1 hc'.2
theorem Pages.step {w w1 w2 : World} {base g : Nat} {vp : Value} {ps : List Pg} {f b f' b' k : Nat} {p : Pg} (h : Pages w base g vp ps f b w1) (ha : Apartly ps) (hp : ps[k]? = some p) (hk : Keep p.own w1 w2)
    (hm : ∃ cs', p.Mem w2 cs' ∧ (k < f' → p.Front cs') ∧ (k < b' → p.Back cs')) (hf : ∀ j, j ≠ k → j < f' → j < f) (hb : ∀ j, j ≠ k → j < b' → j < b) : Pages w base g vp ps f' b' w2 := by
  obtain ⟨cs, m0, _, _⟩ := h.page k p hp
  refine ⟨h.book.keep m0 hk, h.keep.trans (hk.mono fun x _ hx => ⟨p, List.mem_of_getElem? hp, hx⟩), fun j q hq => ?_⟩
  · by_cases hj : j = k
    · subst hj
      rw [hp] at hq; cases hq
      exact hm
    · obtain ⟨cs, m, f1, b1⟩ := h.page j q hq
      exact ⟨cs, m.keep hk (fun x hx hpx => hj (ha j k q p x hq hp hx hpx)), fun h1 => f1 (hf j hj h1), fun h1 => b1 (hb j hj h1)⟩
theorem Pages.wrote {w w1 w2 : World} {base g : Nat} {vp : Value} {ps : List Pg} {k : Nat} {p : Pg} {e : Ending} (h : Pages w base g vp ps k 0 w1) (ha : Apartly ps) (hp : ps[k]? = some p) (hw : Wrote w1 p e w2) : Pages w base g vp ps (k + 1) 0 w2 := by
  obtain ⟨_, cs', m, f, kp⟩ := hw
  exact h.step ha hp kp ⟨cs', m, fun _ => f, fun h => absurd h (by omega)⟩ (fun j h1 h2 => by omega) (fun j h1 h2 => by omega)
theorem Pages.wroteBehind {w w1 w2 : World} {base g : Nat} {vp : Value} {ps : List Pg} {k : Nat} {p : Pg} {e : Ending} (h : Pages w base g vp ps ps.length k w1) (ha : Apartly ps) (hp : ps[k]? = some p) (hw : WroteBehind w1 p e w2) : Pages w base g vp ps ps.length (k + 1) w2 := by
  obtain ⟨_, cs', m, f, b, kp⟩ := hw
  exact h.step ha hp kp ⟨cs', m, fun _ => f, fun _ => b⟩ (fun j h1 h2 => h2) (fun j h1 h2 => by omega)
theorem Pages.below {w w1 w2 : World} {base g : Nat} {vp : Value} {ps : List Pg} {f b : Nat} (h : Pages w base g vp ps f b w1) (hk : Below w1.heap.size w1 w2) : Pages w base g vp ps f b w2 := by
  have kk : Keep (fun _ => False) w1 w2 := Keep.of_below hk
  refine ⟨⟨h.book.blk.keep kk id, h.book.ge, owns_below h.book.row hk⟩, h.keep.trans (Keep.of_below hk), fun j p hp => ?_⟩
  obtain ⟨cs, m, f1, b1⟩ := h.page j p hp
  exact ⟨cs, m.keep kk (fun _ _ => id), f1, b1⟩
theorem Pages.read {w wr : World} {base g f b cap : Nat} {ao : Option Addr} {ps : List Pg} (h : Pages w base g (.slice ao ps.length cap) ps f b wr) {k : Nat} (hk : k < ps.length) :
    ∃ z p, ps[k]? = some p ∧ ao = some ⟨z, 0, none⟩ ∧ wr.cell? ⟨z, k, none⟩ = some (.iface p.kind p.agg) ∧ wr.frozen? ⟨z, k, none⟩ = false ∧ z < wr.heap.size := by
  obtain ⟨ao', cap', hv, _, _, _, hr⟩ := owns_open h.book.row
  cases hv
  obtain ⟨z, hz, _, hlt, hc, hfr⟩ := hr (by omega)
  refine ⟨z, ps[k], List.getElem?_eq_getElem hk, hz, ?_, hfr k, hlt⟩
  rw [hc k (by omega), List.getElem?_map, List.getElem?_eq_getElem hk]
  rfl
theorem method_write (p : Pg) (n : Nat) (w : World) : (method (n + 1) p.kind p.agg "countinghouse/countinghouselaw01.write").run Try.prog w = .ok (p.writeF, p.agg) w := by
  cases p <;> kernel_rfl
theorem method_behind (p : Pg) (n : Nat) (w : World) : (method (n + 1) p.kind p.agg "countinghouse/countinghouselaw01.writeBehind").run Try.prog w = .ok (p.behindF, p.agg) w := by
  cases p <;> kernel_rfl
theorem method_stands (p : Pg) (n : Nat) (w : World) : (method (n + 1) p.kind p.agg "countinghouse/countinghouselaw01.stands").run Try.prog w = .ok (p.standsF, p.agg) w := by
  cases p <;> kernel_rfl
theorem enter_write (p : Pg) (w : World) : (callFunc p.writeF #[p.agg]).run Try.prog w = .ok (.enter p.writeF #[p.agg]) w := by
  cases p <;> kernel_rfl
theorem enter_behind (p : Pg) (w : World) : (callFunc p.behindF #[p.agg]).run Try.prog w = .ok (.enter p.behindF #[p.agg]) w := by
  cases p <;> kernel_rfl
theorem enter_stands (p : Pg) (w : World) : (callFunc p.standsF #[p.agg]).run Try.prog w = .ok (.enter p.standsF #[p.agg]) w := by
  cases p <;> kernel_rfl
/-- At the head of a loop over the pages. -/
def PagesAt (w : World) (base g : Nat) (vp : Value) (ps : List Pg) (f b : Nat → Nat) (i : Value) (wr : World) : Prop :=
  ∃ k : Nat, k ≤ ps.length ∧ i = .int .i64 k ∧ Pages w base g vp ps (f k) (b k) wr
set_option maxHeartbeats 4000000 in
theorem apart_any {w : World} {base g : Nat} {vp : Value} {ps : List Pg} (h : BookIs w base g vp ps) (hl : ps.length ≤ 120) (hm : ∀ p ∈ ps, ∃ cs, p.Mem w cs) (ha : Apartly ps) :
    Calls Try.prog 12 #[.pointer (some ⟨g, 0, none⟩)] w fun e w' => e = .returned (.bool true) ∧ Keep (Pg.any ps) w w' := by
  obtain ⟨ao, cap, rfl, hcap, hmax, _, _⟩ := owns_open h.row
  have d0 := h.blk.cell 0
  simp at d0
  have hg := h.blk.lt
  have P0 : Hid (Pages w base g (.slice ao ps.length cap) ps 0 0 w) := Lib.hid ⟨h, Keep.refl _ w, fun j p hp => by
    obtain ⟨cs, m⟩ := hm p (List.mem_of_getElem? hp)
    exact ⟨cs, m, fun h => absurd h (by omega), fun h => absurd h (by omega)⟩⟩
  have HA := Lib.hid ha
  have MW := method_write
  have MB := method_behind
  have MS := method_stands
  have EW := enter_write
  have EB := enter_behind
  have ES := enter_stands
  clear h hm ha
  unfold maxLen at hmax
  go_enter Try.func12, Try.ntmps12
  go_wp2
  go_loopw [3] (PagesAt w base g (.slice ao ps.length cap) ps (fun k => k) (fun _ => 0)) (fun i _ => ps.length - (intOf i).toNat)
  case atStart => exact ⟨0, Nat.zero_le _, rfl, P0.out⟩
  case round =>
    obtain ⟨k, hk, rfl, hP⟩ := hrel
    have HP := Lib.hid hP
    have d0 := hP.book.blk.cell 0
    simp at d0
    by_cases hkl : k < ps.length
    · obtain ⟨z, p, hp, rfl, hcell, hf, hz⟩ := hP.read hkl
      obtain ⟨cs, m, _, _⟩ := hP.page k p hp
      have cw := Lib.hid (write_pg m)
      clear hP m
      go_wp2_with fail
      refine cw.out.mono ?_
      intro e w2 hw
      have N2 := Lib.hid (HP.out.wrote HA.out hp hw)
      obtain ⟨rfl, _⟩ := hw
      go_wp2
      go_roundw
      case rel => exact ⟨k + 1, by omega, by go_num, N2.out⟩
      case measure => simp [intOf]; omega
    · obtain rfl : k = ps.length := by omega
      clear hP
      go_wp2
      go_loopw [4] (PagesAt w base g (.slice ao ps.length cap) ps (fun _ => ps.length) (fun k => k)) (fun i _ => ps.length - (intOf i).toNat)
      case atStart => exact ⟨0, Nat.zero_le _, rfl, HP.out⟩
      case round =>
        obtain ⟨k, hk, rfl, hP⟩ := hrel
        have HP := Lib.hid hP
        have d0 := hP.book.blk.cell 0
        simp at d0
        by_cases hkl : k < ps.length
        · obtain ⟨z, p, hp, rfl, hcell, hf, hz⟩ := hP.read hkl
          obtain ⟨cs, m, f1, _⟩ := hP.page k p hp
          have cw := Lib.hid (behind_pg m (f1 hkl))
          clear hP m
          go_wp2_with fail
          refine cw.out.mono ?_
          intro e w2 hw
          have N2 := Lib.hid (HP.out.wroteBehind HA.out hp hw)
          obtain ⟨rfl, _⟩ := hw
          go_wp2
          go_roundw
          case rel => exact ⟨k + 1, by omega, by go_num, N2.out⟩
          case measure => simp [intOf]; omega
        · obtain rfl : k = ps.length := by omega
          clear hP
          go_wp2
          go_loopw [5] (PagesAt w base g (.slice ao ps.length cap) ps (fun _ => ps.length) (fun _ => ps.length)) (fun i _ => ps.length - (intOf i).toNat)
          case atStart => exact ⟨0, Nat.zero_le _, rfl, HP.out⟩
          case round =>
            obtain ⟨k, hk, rfl, hP⟩ := hrel
            have HP := Lib.hid hP
            have d0 := hP.book.blk.cell 0
            simp at d0
            by_cases hkl : k < ps.length
            · obtain ⟨z, p, hp, rfl, hcell, hf, hz⟩ := hP.read hkl
              obtain ⟨cs, m, f1, b1⟩ := hP.page k p hp
              have cw := Lib.hid (stands_pg m (f1 hkl) (b1 hkl))
              clear hP m
              go_wp2_with fail
              refine cw.out.mono ?_
              rintro e w2 ⟨rfl, hb⟩
              have N2 := Lib.hid (HP.out.below hb)
              clear hb
              go_wp2
              go_roundw
              case rel => exact ⟨k + 1, by omega, by go_num, N2.out⟩
              case measure => simp [intOf]; omega
            · obtain rfl : k = ps.length := by omega
              clear hP
              go_wp2
              go_ret
              exact ⟨rfl, HP.out.keep⟩
theorem rowed_flow {w : World} {base n : Nat} {v : Value} {xs : List Value} (h : Rowed w base 37 3 v n xs) : ∃ (ao : Option Addr) (c : Nat), v = .slice ao n c ∧ ∀ m q, (∃ cs, (Pg.flow (.slice ao n c) n c m q).Mem w cs) ∧ ∀ b, (Pg.flow (.slice ao n c) n c m q).own b → base ≤ b ∧ b < w.heap.size := by
  obtain ⟨_, ⟨rfl, rfl⟩ | ⟨g, cur, rfl, hb, hg, hm, hc, _⟩⟩ := h
  · exact ⟨none, 0, rfl, fun m q => ⟨⟨#[], by simp [Pg.n, Pg.c], by simp [Pg.c], by simp [Pg.c], .inl ⟨rfl, rfl, rfl⟩⟩, fun b h => by cases h⟩⟩
  · exact ⟨_, n, rfl, fun m q => ⟨⟨cur, Nat.le_refl _, hm, hc, .inr ⟨g, rfl, hg⟩⟩, fun b h => by cases h; exact ⟨hb, lt_of_block hg⟩⟩⟩
/-- While the book of pages is filled: its pages, and the rest (R), all of which lies below base. -/
structure TailO (R : World → Prop) (base g : Nat) (bv : Value) (pgs : List Pg) (w : World) : Prop where
  book : BookIs w base g bv pgs
  mem : ∀ p ∈ pgs, ∃ cs, p.Mem w cs
  apart : Apartly pgs
  low : ∀ p ∈ pgs, ∀ b, p.own b → base ≤ b
  rest : R w
def FarR (base : Nat) (R : World → Prop) : Prop := ∀ (w w' : World) (S : Nat → Prop), R w → Keep S w w' → (∀ b, S b → base ≤ b) → R w'
theorem FarR.below {base : Nat} {R : World → Prop} (f : FarR base R) {w w' : World} (h : R w) (k : Below w.heap.size w w') : R w' := f w w' (fun _ => False) h (Keep.of_below k) (fun _ h => h.elim)
theorem TailO.below {R : World → Prop} {base g : Nat} {bv : Value} {pgs : List Pg} {w w' : World} (f : FarR base R) (h : TailO R base g bv pgs w) (k : Below w.heap.size w w') : TailO R base g bv pgs w' := by
  have kk : Keep (fun _ => False) w w' := Keep.of_below k
  refine ⟨⟨h.book.blk.below k h.book.blk.lt, h.book.ge, owns_below h.book.row k⟩, fun p hp => ?_, h.apart, h.low, f.below h.rest k⟩
  obtain ⟨cs, m⟩ := h.mem p hp
  exact ⟨cs, m.keep kk (fun _ _ => id)⟩
theorem Pg.Mem.off {p : Pg} {w w2 : World} {base g : Nat} {bv : Value} {pgs : List Pg} {cs : Array Value} (m : p.Mem w cs) (hb : BookIs w base g bv pgs) (hk : Keep (fun k => k = g ∨ bv.ownBlock = some k) w w2) : p.Mem w2 cs := by
  refine m.keep hk ?_
  rintro b ho (e | e)
  · obtain ⟨_, cur, hc⟩ := m.own ho
    rw [e] at hc
    have := hb.blk.out
    rw [hc] at this
    simp only [Option.some.injEq, Obj.cells.injEq] at this
    exact (Pg.elem_ne p).2 this.2.1
  · obtain ⟨_, cur, hc⟩ := m.own ho
    obtain ⟨_, _, cur2, hc2⟩ := owns_type hb.row e
    rw [hc2] at hc
    simp only [Option.some.injEq, Obj.cells.injEq] at hc
    exact (Pg.elem_ne p).1 hc.2.1.symm
theorem TailO.add {R : World → Prop} {base g : Nat} {bv : Value} {pgs : List Pg} {p : Pg} {w1 w2 : World} {e : Ending} (f : FarR base R) (h : TailO R base g bv pgs w1) (hm : ∃ cs, p.Mem w1 cs) (hb : ∀ b, p.own b → base ≤ b ∧ ∀ q ∈ pgs, ¬ q.own b) (hp : Paged base g bv pgs p w1 e w2) :
    ∃ bv', TailO R base g bv' (pgs ++ [p]) w2 := by
  obtain ⟨_, bv', hbk, hk⟩ := hp
  refine ⟨bv', hbk, ?_, ?_, ?_, f _ _ _ h.rest hk ?_⟩
  · intro q hq
    rcases List.mem_append.1 hq with hq | hq
    · obtain ⟨cs, m⟩ := h.mem q hq
      exact ⟨cs, m.off h.book hk⟩
    · rw [List.mem_singleton] at hq; subst hq
      obtain ⟨cs, m⟩ := hm
      exact ⟨cs, m.off h.book hk⟩
  · intro i j q q' b hi hj ho ho'
    have key : ∀ (i : Nat) (q : Pg), (pgs ++ [p])[i]? = some q → (i < pgs.length ∧ pgs[i]? = some q) ∨ (i = pgs.length ∧ q = p) := by
      intro i q hi
      by_cases hl : i < pgs.length
      · rw [List.getElem?_append_left hl] at hi; exact .inl ⟨hl, hi⟩
      · rw [List.getElem?_append_right (by omega)] at hi
        have h0 : i - pgs.length = 0 := by
          have := (List.getElem?_eq_some_iff.1 hi).1
          simpa using this
        rw [h0] at hi
        simp at hi
        exact .inr ⟨by omega, hi.symm⟩
    rcases key i q hi with ⟨_, hi'⟩ | ⟨hi', rfl⟩
    · rcases key j q' hj with ⟨_, hj'⟩ | ⟨hj', rfl⟩
      · exact h.apart i j q q' b hi' hj' ho ho'
      · exact absurd ho ((hb b ho').2 q (List.mem_of_getElem? hi'))
    · rcases key j q' hj with ⟨_, hj'⟩ | ⟨hj', rfl⟩
      · exact absurd ho' ((hb b ho).2 q' (List.mem_of_getElem? hj'))
      · omega
  · intro q hq b hb'
    rcases List.mem_append.1 hq with hq | hq
    · exact h.low q hq b hb'
    · rw [List.mem_singleton] at hq; subst hq; exact (hb b hb').1
  · rintro b (e | e)
    · rw [e]; exact h.book.ge
    · exact (owns_type h.book.row e).1
/-- A row that was made behind all that stands is a page of its own. -/
theorem TailO.fresh {R : World → Prop} {base g : Nat} {bv : Value} {pgs : List Pg} {w : World} (h : TailO R base g bv pgs w) {b : Nat} (hb : w.heap.size ≤ b) : base ≤ b ∧ ∀ q ∈ pgs, ¬ q.own b := by
  refine ⟨by have := h.book.ge; have := h.book.blk.lt; omega, fun q hq ho => ?_⟩
  obtain ⟨cs, m⟩ := h.mem q hq
  have := (m.own ho).1
  omega
theorem TailO.start {R : World → Prop} {base : Nat} {w : World} (f : FarR base R) (h : R w) (hb : base ≤ w.heap.size) : TailO R base w.heap.size (.slice none 0 0) [] (w.alloc (.cells #[.slice none 0 0] 32)) := by
  have bw := (Below.refl w.heap.size w).alloc (Nat.le_refl _) (.cells #[.slice none 0 0] 32)
  exact ⟨⟨Blk.new _ _ _, hb, World.ownsRow_nil _ _ _ _⟩, by simp, fun i j p q b h => by simp at h, by simp, f.below h bw⟩
theorem TailO.done {R : World → Prop} {base g : Nat} {bv : Value} {pgs : List Pg} {w w' : World} (f : FarR base R) (h : TailO R base g bv pgs w) (k : Keep (Pg.any pgs) w w') : R w' := f _ _ _ h.rest k (by rintro b ⟨q, hq, ho⟩; exact h.low q hq b ho)


end Go.Proofs.Ytmfacfnbokadmaa
