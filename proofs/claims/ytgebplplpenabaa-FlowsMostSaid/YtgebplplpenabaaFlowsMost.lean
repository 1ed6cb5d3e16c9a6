/-
  FlowsMost: the walk, for every edges and ask, over what the program's Route and Most tell (written by gen_fmost.py).
-/
import Derived.Test.YtgebplplpenabaaCutR
import Derived.Test.YtgebplplpenabaaOnce
import Derived.StillTailTactics
namespace Go.Proofs.Ytgebplplpenabaa
open Go.RowKit
set_option linter.unusedSimpArgs false
set_option linter.unusedVariables false

/-- A route that gets nothing, where nothing is asked or can go. -/
theorem route_none {f : Int → Int → Int} {s t want : Int} {σ : RS} (h0 : GInv f 4398046511104) (h : IsRoute f 4398046511104 s t want σ) (hn : ¬ (1 ≤ want ∧ inP s ∧ inP t ∧ s ≠ t)) : σ = ⟨f, want, []⟩ := by
  by_cases hw : 1 ≤ want
  · exact route_out h0 (fun hp => hn ⟨hw, hp⟩) h
  · exact h.void h0 (by omega)
/-- Seventeen numbers, as cells. -/
def celA (h : Int → Int) : Array Value := ((List.range 17).map (fun p : Nat => Value.int .i64 (h p))).toArray
theorem celA_get (h : Int → Int) {p : Nat} (hp : p < 17) : (celA h)[p]? = some (.int .i64 (h p)) := by
  unfold celA
  rw [List.getElem?_toArray, List.getElem?_map, List.getElem?_range hp]
  rfl
theorem celA_ext {h k : Int → Int} (e : ∀ p : Int, 0 ≤ p → p < 17 → h p = k p) : celA h = celA k := by
  unfold celA
  congr 1
  apply List.map_congr_left
  intro p hp
  rw [e p (by omega) (by have := List.mem_range.1 hp; omega)]
def updN (h : Int → Int) (p v q : Int) : Int := if q = p then v else h q
theorem celA_set (h : Int → Int) {p : Nat} (hp : p < 17) (v : Int) : (celA h).setIfInBounds p (.int .i64 v) = celA (updN h p v) := by
  have hs : ∀ k, (celA k).size = 17 := fun k => by simp [celA]
  apply Array.ext_getElem?
  intro i
  by_cases hi : i < 17
  · rw [celA_get (updN h p v) hi, Array.getElem?_setIfInBounds, hs]
    by_cases hpi : p = i
    · subst hpi
      rw [if_pos rfl, if_pos hp]
      unfold updN
      rw [if_pos rfl]
    · rw [if_neg hpi, celA_get h hi]
      unfold updN
      rw [if_neg (by omega)]
  · rw [Array.getElem?_eq_none (by simp [hs]; omega), Array.getElem?_eq_none (by rw [hs]; omega)]
theorem Blk.celAt {w : World} {g : Nat} {h : Int → Int} {t : TypeId} (k : Blk w g (celA h) t) {p : Int} (h0 : 0 ≤ p) (h1 : p < 17) : w.cell? ⟨g, p.toNat, none⟩ = some (.int .i64 (h p)) := by
  rw [k.cell, celA_get h (by omega), Int.toNat_of_nonneg h0]
theorem Blk.celSet {w : World} {g : Nat} {h : Int → Int} {t : TypeId} (k : Blk w g (celA h) t) {p : Int} (h0 : 0 ≤ p) (h1 : p < 17) (n : Int) : Blk (w.setCell ⟨g, p.toNat, none⟩ (.int .i64 n)) g (celA (updN h p n)) t := by
  have := k.set p.toNat (.int .i64 n)
  rw [celA_set h (by omega), Int.toNat_of_nonneg h0] at this
  exact this
theorem netL_bd {B : Int} (p : Int) : ∀ l : List Fw, (∀ e ∈ l, 1 ≤ e.am ∧ e.am ≤ B) → -(B * l.length) ≤ netL l p ∧ netL l p ≤ B * l.length
  | [], _ => by simp [netL]
  | x :: r, h => by
    have ih := netL_bd p r (fun e he => h e (List.mem_cons_of_mem _ he))
    have hx := h x List.mem_cons_self
    have e : B * (((x :: r).length : Nat) : Int) = B * (r.length : Int) + B := by rw [List.length_cons, Int.natCast_add, Int.mul_add, show B * ((1 : Nat) : Int) = B by simp]
    rw [e]
    show -(B * (r.length : Int) + B) ≤ (if x.tt = p then x.am else 0) - (if x.fr = p then x.am else 0) + netL r p ∧ (if x.tt = p then x.am else 0) - (if x.fr = p then x.am else 0) + netL r p ≤ _
    split <;> split <;> omega
theorem netL_one (l : List Fw) (x : Fw) (hne : x.fr ≠ x.tt) (p : Int) : netL (l ++ [x]) p = updN (updN (netL l) x.fr (netL l x.fr - x.am)) x.tt (netL l x.tt + x.am) p := by
  rw [netL_append]
  show netL l p + ((if x.tt = p then x.am else 0) - (if x.fr = p then x.am else 0) + 0) = _
  unfold updN
  by_cases h1 : p = x.tt
  · have h2 : ¬ x.fr = p := fun e => hne (e.trans h1)
    rw [if_pos h1, if_pos h1.symm, if_neg h2, ← h1]
    omega
  · rw [if_neg h1, if_neg (fun e => h1 e.symm)]
    by_cases h2 : p = x.fr
    · rw [if_pos h2, if_pos h2.symm, ← h2]
      omega
    · rw [if_neg h2, if_neg (fun e => h2 e.symm)]
      omega
theorem rowA_at {w : World} {base : Nat} {e : TypeId} {ao : Option Addr} {ca : Nat} {L : List Fw} (h : RowA w base e 3 (.slice ao L.length ca) L.length (fwCells L)) {k : Nat} (hk : k < L.length) {x : Fw} (hx : L[k] = x) :
    ∃ bl, ao = some ⟨bl, 0, none⟩ ∧ bl < w.heap.size ∧ w.cell? ⟨bl, k * 3, none⟩ = some (.int .u8 x.fr) ∧ w.cell? ⟨bl, k * 3 + 1, none⟩ = some (.int .u8 x.tt) ∧ w.cell? ⟨bl, k * 3 + 2, none⟩ = some (.int .i64 x.am) := by
  obtain ⟨ao1, ca1, hv, _, _, _, hlk⟩ := h.look (by decide)
  simp only [Value.slice.injEq] at hv
  obtain ⟨rfl, _, rfl⟩ := hv
  obtain ⟨bl, rfl, _, hbl, hc, _⟩ := hlk (by omega)
  subst hx
  exact ⟨bl, rfl, hbl, (hc (k * 3 + 0) (by omega)).trans (fwCells_get L k 0 (by omega) hk), (hc (k * 3 + 1) (by omega)).trans (fwCells_get L k 1 (by omega) hk), (hc (k * 3 + 2) (by omega)).trans (fwCells_get L k 2 (by omega) hk)⟩
theorem RowA.apart {w : World} {base size : Nat} {e t : TypeId} {v : Value} {n g : Nat} {xs : List Value} {cs : Array Value} (h : RowA w base e size v n xs) (k : Blk w g cs t) (hn : e ≠ t) : ∀ b, v.ownBlock = some b → b ≠ g := fun b hb q => by
  obtain ⟨_, _, cur, q3⟩ := RowA.type h hb
  rw [q, k.out] at q3
  simp only [Option.some.injEq, Obj.cells.injEq] at q3
  exact hn q3.2.1.symm
theorem blkNeM {w : World} {g h : Nat} {cs ds : Array Value} {t u : TypeId} (a : Blk w g cs t) (b : Blk w h ds u) (hn : t ≠ u) : g ≠ h := by
  rintro rfl
  have e := a.out
  rw [b.out] at e
  simp only [Option.some.injEq, Obj.cells.injEq] at e
  exact hn e.2.1.symm
/-- The memory between rounds: the graph, the copy with its first so many pushes, what is got, the ask, the route. -/
structure MoM (w0 : World) (base g c R X : Nat) (f f1 : Int → Int → Int) (n : Int → Int) (L : List Fw) (va : Value) (sx tx wx : Int) (wr : World) : Prop where
  kg : Blk wr g (graC f true) 60
  kc : Blk wr c (graC f1 true) 60
  kr : Blk wr R (celA n) 49
  kx : Blk wr X #[.int .u8 sx, .int .u8 tx, .int .i64 wx] 25
  ro : RowA wr base 52 3 va L.length (fwCells L)
  b : Below w0.heap.size w0 wr
  gc : g ≠ c
  c0 : w0.heap.size ≤ c
  r0 : w0.heap.size ≤ R
theorem MoM.below {w0 : World} {base g c R X : Nat} {f f1 : Int → Int → Int} {n : Int → Int} {L : List Fw} {va : Value} {sx tx wx : Int} {wr w' : World} (m : MoM w0 base g c R X f f1 n L va sx tx wx wr) (hb : Below wr.heap.size wr w') : MoM w0 base g c R X f f1 n L va sx tx wx w' :=
  ⟨m.kg.below hb m.kg.lt, m.kc.below hb m.kc.lt, m.kr.below hb m.kr.lt, m.kx.below hb m.kx.lt, m.ro.below hb, m.b.trans (hb.mono m.b.size), m.gc, m.c0, m.r0⟩
theorem MoM.push {w0 : World} {base g c R X : Nat} {f f1 f2 : Int → Int → Int} {n : Int → Int} {L : List Fw} {va : Value} {sx tx wx : Int} {wr w' : World} (m : MoM w0 base g c R X f f1 n L va sx tx wx wr) (hk : Keep (· = c) wr w') (hc : Blk w' c (graC f2 true) 60) : MoM w0 base g c R X f f2 n L va sx tx wx w' :=
  ⟨m.kg.keep hk m.gc, hc, m.kr.keep hk (blkNeM m.kr m.kc (by decide)), m.kx.keep hk (blkNeM m.kx m.kc (by decide)), m.ro.keep hk (m.ro.apart m.kc (by decide)), m.b.trans (hk.below m.b.size (fun q hq e => by have := m.c0; omega)), m.gc, m.c0, m.r0⟩
theorem MoM.put {w0 : World} {base g c R X : Nat} {f f1 : Int → Int → Int} {n : Int → Int} {L : List Fw} {va : Value} {sx tx wx : Int} {wr : World} (m : MoM w0 base g c R X f f1 n L va sx tx wx wr) {p : Int} (h0 : 0 ≤ p) (h1 : p < 17) (v : Int) : MoM w0 base g c R X f f1 (updN n p v) L va sx tx wx (wr.setCell ⟨R, p.toNat, none⟩ (.int .i64 v)) := by
  have hk : Keep (· = R) wr (wr.setCell ⟨R, p.toNat, none⟩ (.int .i64 v)) := (Keep.refl (· = R) wr).setCell (p := ⟨R, p.toNat, none⟩) (.inl rfl) _
  exact ⟨m.kg.keep hk (blkNeM m.kg m.kr (by decide)), m.kc.keep hk (blkNeM m.kc m.kr (by decide)), m.kr.celSet h0 h1 v, m.kx.keep hk (blkNeM m.kx m.kr (by decide)), m.ro.keep hk (m.ro.apart m.kr (by decide)), m.b.trans (hk.below m.b.size (fun q hq e => by have := m.r0; omega)), m.gc, m.c0, m.r0⟩
theorem MoM.num {w0 : World} {base g c R X : Nat} {f f1 : Int → Int → Int} {n n' : Int → Int} {L : List Fw} {va : Value} {sx tx wx : Int} {wr : World} (m : MoM w0 base g c R X f f1 n L va sx tx wx wr) (e : celA n = celA n') : MoM w0 base g c R X f f1 n' L va sx tx wx wr :=
  ⟨m.kg, m.kc, by rw [← e]; exact m.kr, m.kx, m.ro, m.b, m.gc, m.c0, m.r0⟩
def MoAt (w0 : World) (base g c R X : Nat) (f : Int → Int → Int) (L : List Fw) (va : Value) (sx tx wx : Int) (i : Value) (wr : World) : Prop :=
  ∃ k : Nat, k ≤ L.length ∧ i = .int .i64 k ∧ MoM w0 base g c R X f (foldF f (L.take k)) (netL (L.take k)) L va sx tx wx wr
def MpAt (W : World) (i wv : Value) (wr : World) : Prop := ∃ p : Int, 0 ≤ p ∧ p ≤ 17 ∧ i = .int .u8 p ∧ wr = W
theorem ask_cases {wx sx tx : Int} (hgood : ¬ (1 ≤ wx ∧ inP sx ∧ inP tx ∧ sx ≠ tx)) : wx < 1 ∨ (1 ≤ wx ∧ (sx == tx) = true) ∨ (1 ≤ wx ∧ (sx == tx) = false ∧ sx < 1) ∨ (1 ≤ wx ∧ (sx == tx) = false ∧ 1 ≤ sx ∧ 16 < sx) ∨ (1 ≤ wx ∧ (sx == tx) = false ∧ 1 ≤ sx ∧ sx ≤ 16 ∧ tx < 1) ∨ (1 ≤ wx ∧ (sx == tx) = false ∧ 1 ≤ sx ∧ sx ≤ 16 ∧ 1 ≤ tx ∧ 16 < tx) := by
  unfold inP at hgood
  by_cases h0 : wx < 1
  · exact .inl h0
  · right
    have h1 : 1 ≤ wx := by omega
    by_cases e : sx = tx
    · left; exact ⟨h1, by simp [e]⟩
    · right
      have e2 : (sx == tx) = false := by simpa using e
      simp only [e2, h1, true_and]
      omega
set_option maxHeartbeats 32000000 in
set_option maxRecDepth 100000 in
theorem fmost_walk (HR : RouteProg) (HM : MostProg) (HL : Lives07) (a : Option Addr) (len cap : Nat) (zs : List Fw) (ax : Fw) (w : World) (h0 : SlIn Fw.vals 3 Fw.Fits w a len cap zs) (hx : ax.Fits) :
    Calls Try.prog 4 #[.slice a len cap, .agg #[.int .u8 ax.fr, .int .u8 ax.tt, .int .i64 ax.am]] w fun e w' => e = .returned (.bool true) ∧ Below w.heap.size w w' := by
  obtain ⟨sx, tx, wx⟩ := ax
  obtain ⟨hx1, hx2, hx3⟩ := hx
  dsimp only at hx1 hx2 hx3 ⊢
  have HZ := Lib.hid h0
  have HS8 := Lib.hid hx1
  have HT8 := Lib.hid hx2
  have HW64 := Lib.hid hx3
  have hcap := h0.2.2.2.1
  have hmax := h0.2.2.2.2.1
  have hzl := h0.2.1
  unfold maxLen at hmax
  clear h0 hx1 hx2
  obtain ⟨w0, w9⟩ := hx3
  subst hzl
  have HRo := Lib.hid HR
  have HMo := Lib.hid HM
  have HLi := Lib.hid HL
  clear HR HM HL
  have B0 := Lib.hid ((Below.refl w.heap.size w).alloc (Nat.le_refl _) (.cells #[.int .u8 sx, .int .u8 tx, .int .i64 wx] 25))
  have KX0 := Lib.hid (Blk.new w #[.int .u8 sx, .int .u8 tx, .int .i64 wx] 25)
  by_cases hle : ¬ zs.length ≤ 300
  · go_enter Try.func4, Try.ntmps4
    go_wp2_with fail
    refine (HLi.out _).mono ?_
    rintro e w1 ⟨rfl, b1⟩
    have B1 := Lib.hid (B0.out.trans (b1.mono B0.out.size))
    clear b1
    go_wp2_with fail
    go_ret
    exact ⟨rfl, B1.out⟩
  have hle := Decidable.not_not.1 hle
  have l1 : decide ((300 : Int) < (zs.length : Int)) = false := by simp; omega
  have CN := Lib.hid (gnew_any ((HZ.out.below B0.out).flows (by omega)) (by omega))
  go_enter Try.func4, Try.ntmps4
  go_wp2_with fail
  refine CN.out.mono ?_
  rintro e w2 ⟨b2, hg⟩
  have B2 := Lib.hid (B0.out.trans (b2.mono B0.out.size))
  have KX2 := Lib.hid (KX0.out.below b2 KX0.out.lt)
  have HG := Lib.hid hg
  obtain ⟨X, hX⟩ : ∃ X, X = w.heap.size := ⟨_, rfl⟩
  rw [← hX] at KX2 ⊢
  have HXX := Lib.hid hX
  clear b2 hg CN HZ KX0 B0 hX
  by_cases hok : okG zs
  · obtain ⟨_, g, rfl, hgge, hgb⟩ := HG.out.resolve_right (fun h => h.1 hok)
    have KG2 := Lib.hid hgb
    have I0 := Lib.hid (newF_inv hok.1)
    have hgl := hgb.lt
    clear hgb HG
    generalize newF zs = f at *
    obtain ⟨σ, hσ⟩ := route_ends I0.out sx tx wx
    have HSi := Lib.hid hσ
    have hlen := hσ.len
    obtain ⟨nr, hnr⟩ : ∃ nr, wx - σ.left = nr := ⟨_, rfl⟩
    have NR := Lib.hid hnr
    have hn0 := hσ.n0
    rw [hnr] at hn0
    obtain ⟨L, EL⟩ : ∃ L, Hid (σ.out = L) := ⟨_, Lib.hid rfl⟩
    have CA := Lib.hid (HRo.out.at_ (IsM.of KG2.out) I0.out HS8.out HT8.out HW64.out hσ)
    rw [hnr, EL.out] at CA
    rw [EL.out] at hlen
    clear hσ hnr
    have kx := KX2.out
    have hxl := kx.lt
    have e0 := kx.cell 0
    have e1 := kx.cell 1
    have e2 := kx.cell 2
    simp at e0 e1 e2
    clear kx
    go_wp2_with fail
    refine CA.out.mono ?_
    rintro e w3 ⟨va, rfl, hrow, b3⟩
    obtain ⟨ao, ca, rfl, hca, hcm, _⟩ := hrow.look (by decide)
    have OA3 := Lib.hid hrow
    have KG3 := Lib.hid (KG2.out.below b3 KG2.out.lt)
    have KX3 := Lib.hid (KX2.out.below b3 KX2.out.lt)
    have B3 := Lib.hid (B2.out.trans (b3.mono B2.out.size))
    have hw23 := b3.size
    have hw2 := B2.out.size
    clear hrow b3 CA e0 e1 e2 hxl KG2 KX2 B2
    unfold maxLen at hcm
    have kx := KX3.out
    have hxl := kx.lt
    have e0 := kx.cell 0
    have e1 := kx.cell 1
    have e2 := kx.cell 2
    simp at e0 e1 e2
    clear kx
    by_cases hgood : 1 ≤ wx ∧ inP sx ∧ inP tx ∧ sx ≠ tx
    · obtain ⟨hw1, ⟨s1, s2⟩, ⟨t1, t2⟩, hst⟩ := hgood
      have c3 : (sx == tx) = false := by simpa using hst
      have q0 : decide (wx < 1) = false := by simp; omega
      have q1 : decide (sx < 1) = false := by simp; omega
      have q2 : decide (16 < sx) = false := by simp; omega
      have q3 : decide (tx < 1) = false := by simp; omega
      have q4 : decide (16 < tx) = false := by simp; omega
      have CG := Lib.hid (gcopy_any KG3.out)
      go_wp2_with fail
      refine CG.out.mono ?_
      rintro e w4 ⟨rfl, hc, b4⟩
      have hcg : g ≠ w3.heap.size := Nat.ne_of_lt KG3.out.lt
      have hc0 : w.heap.size ≤ w3.heap.size := B3.out.size
      have hr0 : w.heap.size ≤ w4.heap.size := Nat.le_trans hc0 b4.size
      generalize hcc : w3.heap.size = c at *
      have M0 := Lib.hid (show MoM w w.heap.size g c w4.heap.size X f (foldF f (L.take 0)) (netL (L.take 0)) L (.slice ao L.length ca) sx tx wx (w4.alloc (.cells (celA fun _ => 0) 49)) from
        ⟨(KG3.out.below (hcc ▸ b4) KG3.out.lt).alloc _, hc.alloc _, Blk.new w4 _ _, (KX3.out.below (hcc ▸ b4) KX3.out.lt).alloc _, ((OA3.out.below (hcc ▸ b4)).rebase hw2).alloc _, (B3.out.trans (b4.mono hc0)).alloc hr0 _, hcg, hc0, hr0⟩)
      obtain ⟨KK, hgood, hfold, hnet, hels⟩ : Hid (foldF f L = σ.f) ∧ goodL f L ∧ True ∧ (∀ p, netL L p = (if tx = p then nr else 0) - (if sx = p then nr else 0)) ∧ (∀ e ∈ L, inP e.fr ∧ inP e.tt ∧ e.fr ≠ e.tt ∧ 1 ≤ e.am ∧ e.am ≤ 4398046511104) := by
        obtain ⟨kk, hR, _⟩ := HSi.out
        rw [← EL.out, ← NR.out]
        exact ⟨Lib.hid hR.fold, hR.good, trivial, hR.net, hR.els⟩
      have GL := Lib.hid hgood
      have NET := Lib.hid hnet
      have ELS := Lib.hid hels
      have hcz : celA (fun _ => 0) = #[.int .i64 0, .int .i64 0, .int .i64 0, .int .i64 0, .int .i64 0, .int .i64 0, .int .i64 0, .int .i64 0, .int .i64 0, .int .i64 0, .int .i64 0, .int .i64 0, .int .i64 0, .int .i64 0, .int .i64 0, .int .i64 0, .int .i64 0] := by rfl
      rw [hcz] at M0
      clear hcz hgood hfold hnet hels KG3 KX3 OA3 B3 hc b4 e0 e1 e2 hxl
      go_wp2_with fail
      generalize w4.alloc (.cells #[.int .i64 0, .int .i64 0, .int .i64 0, .int .i64 0, .int .i64 0, .int .i64 0, .int .i64 0, .int .i64 0, .int .i64 0, .int .i64 0, .int .i64 0, .int .i64 0, .int .i64 0, .int .i64 0, .int .i64 0, .int .i64 0, .int .i64 0] 49) = W0 at *
      generalize w4.heap.size = R at *
      go_loopw [11] (MoAt w w.heap.size g c R X f L (.slice ao L.length ca) sx tx wx) (fun i _ => L.length - (intOf i).toNat)
      case atStart => exact ⟨0, Nat.zero_le _, rfl, M0.out⟩
      case round =>
        clear M0
        obtain ⟨k, hk, rfl, hm⟩ := hrel
        have MM := Lib.hid hm
        by_cases hkl : k < L.length
        · have hki : (k : Int) < (L.length : Int) := by omega
          have hk0 : (0 : Int) ≤ (k : Int) := by omega
          obtain ⟨x, hx⟩ : ∃ x, L[k] = x := ⟨_, rfl⟩
          have HX := Lib.hid hx
          obtain ⟨bl, rfl, hbl, e0, e1, e2⟩ := rowA_at hm.ro hkl hx
          have G1 := goodL_at L f I0.out GL.out k hkl
          have X1 := ELS.out L[k] (List.getElem_mem hkl)
          rw [hx] at G1 X1
          have B1 := netL_bd x.fr (L.take k) (fun e he => (ELS.out e (List.mem_of_mem_take he)).2.2.2)
          have B2 := netL_bd x.tt (L.take k) (fun e he => (ELS.out e (List.mem_of_mem_take he)).2.2.2)
          have hlt : (L.take k).length ≤ 70000 := by rw [List.length_take]; omega
          have NX := netL_one (L.take k) x X1.2.2.1
          have ET : L.take (k + 1) = L.take k ++ [x] := by rw [List.take_succ_eq_append_getElem hkl, hx]
          clear hx
          obtain ⟨fr, tt, am⟩ := x
          dsimp only at G1 X1 B1 B2 NX e0 e1 e2
          obtain ⟨g1, g2, g3, g4⟩ := G1
          obtain ⟨⟨x1, x2⟩, ⟨x3, x4⟩, x5, x6, x7⟩ := X1
          have E0 := Lib.hid e0
          have E1 := Lib.hid e1
          have E2 := Lib.hid e2
          have GI := Lib.hid g4
          have EE : Hid (gPushE (foldF f (L.take k)) fr tt am = 0) := Lib.hid (by unfold gPushE; rw [if_neg (by omega), if_neg (by omega)])
          have EF : Hid (gPushF (foldF f (L.take k)) fr tt am = foldF f (L.take (k + 1))) := Lib.hid (by unfold gPushF; rw [if_pos ⟨g1, g2⟩, g3])
          have HN : Hid (In64 am) := Lib.hid (by constructor <;> omega)
          obtain ⟨v1, hv1⟩ : ∃ v, netL (L.take k) fr = v := ⟨_, rfl⟩
          obtain ⟨v2, hv2⟩ : ∃ v, netL (L.take k) tt = v := ⟨_, rfl⟩
          rw [hv1] at B1
          rw [hv2] at B2
          rw [hv1, hv2] at NX
          have HV1 := Lib.hid hv1
          have HV2 : Hid (updN (netL (L.take k)) fr (v1 - am) tt = v2) := Lib.hid (by unfold updN; rw [if_neg (Ne.symm x5), hv2])
          have EC : Hid (celA (updN (updN (netL (L.take k)) fr (v1 - am)) tt (v2 + am)) = celA (netL (L.take (k + 1)))) := Lib.hid (by
            rw [ET]
            exact celA_ext fun p _ _ => (NX p).symm)
          obtain ⟨b1, b2⟩ : -(308000000000000000 : Int) ≤ v1 ∧ v1 ≤ 308000000000000000 := by omega
          obtain ⟨b3, b4⟩ : -(308000000000000000 : Int) ≤ v2 ∧ v2 ≤ 308000000000000000 := by omega
          have y1 : IntKind.i64.wrap (v1 - am) = v1 - am := by unfold IntKind.wrap; simp [IntKind.bits, IntKind.signed]; omega
          have y2 : IntKind.i64.wrap (v2 + am) = v2 + am := by unfold IntKind.wrap; simp [IntKind.bits, IntKind.signed]; omega
          have y3 : decide (16 < fr) = false := by simp; omega
          have y4 : decide (16 < tt) = false := by simp; omega
          clear g2 g3 g4 hm hv1 hv2 NX ET e0 e1 e2 B1 B2 hlt x6
          have hblc : bl ≠ c := MM.out.ro.apart MM.out.kc (by decide) bl rfl
          have KC := Lib.hid MM.out.kc
          generalize foldF f (L.take k) = f1 at *
          obtain ⟨f2, hf2⟩ : ∃ f2, foldF f (L.take (k + 1)) = f2 := ⟨_, rfl⟩
          rw [hf2] at EF
          have HF2 := Lib.hid hf2
          clear hf2
          go_wp2_with fail
          refine region_inv (by kernel_rfl) [(.pointer (some ⟨c, 0, none⟩)), (.slice (some ⟨bl, 0, none⟩) L.length ca), (.int .i64 k), (.pointer (some ⟨bl, k * 3, none⟩)), (.pointer (some ⟨bl, k * 3, none⟩)), (.int .u8 fr), (.slice (some ⟨bl, 0, none⟩) L.length ca), (.int .i64 k), (.pointer (some ⟨bl, k * 3, none⟩)), (.pointer (some ⟨bl, k * 3 + 1, none⟩)), (.int .u8 tt), (.slice (some ⟨bl, 0, none⟩) L.length ca), (.int .i64 k), (.pointer (some ⟨bl, k * 3, none⟩)), (.pointer (some ⟨bl, k * 3 + 2, none⟩)), (.int .i64 am), (.int .i64 0), (.bool false), (.bool false), (.slice (some ⟨bl, 0, none⟩) L.length ca), (.int .i64 k), (.pointer (some ⟨bl, k * 3, none⟩)), (.pointer (some ⟨bl, k * 3, none⟩)), (.int .u8 fr), (.bool false), (.bool false), (.bool false), (.slice (some ⟨bl, 0, none⟩) L.length ca), (.int .i64 k), (.pointer (some ⟨bl, k * 3, none⟩)), (.pointer (some ⟨bl, k * 3 + 1, none⟩)), (.int .u8 tt), (.bool false), (.bool false)]
            (Once 16 (fun w' => Below wr.heap.size wr w') (fun w' => Keep (· = c) wr w' ∧ Blk w' c (graC f2 true) 60)) (by kernel_rfl) (Once.start (Below.refl _ _).drew) ?_
          intro af haf
          simp only [List.toList_toArray, List.append_eq, List.cons_append, List.nil_append, puts, Act.put, List.getD_cons_zero, List.getD_cons_succ, List.setIfInBounds_toArray, List.set_cons_succ, List.set_cons_zero] at haf
          subst haf
          refine ⟨?_, ?_⟩
          · simp only [List.toList_toArray, List.append_eq, List.cons_append, List.nil_append, EachIn]
            refine ⟨?_, ?_, ?_, ?_, ?_, ?_, ?_, ?_, ?_, ?_, ?_, ?_, ?_, ?_, ?_, ?_, ?_, ?_, ?_, ?_, ?_, ?_, ?_, ?_, ?_, ?_, ?_, ?_, ?_, ?_, ?_, ?_, ?_, ?_, trivial⟩
            · intro D w' hD hW hC hI
              have hN : D 16 = false := need_not hC hD 16 (by kernel_rfl)
              have hS := hI.pre hN
              refine OpTo.plain ?_ ?_
              exact rfl
              have HS := Lib.hid (Once.keepS (c := 16) (S := (fun w' => Below wr.heap.size wr w')) (T := (fun w' => Keep (· = c) wr w' ∧ Blk w' c (graC f2 true) 60)) (k := 0) (D := D) (by decide) hN hS)
              clear hI hS hN hC hW hD
              go_wp2_with fail
              all_goals first | exact HS.out | exact ⟨rfl, HS.out⟩ | rfl
            · intro D w' hD hW hC hI
              have hN : D 16 = false := need_not hC hD 16 (by kernel_rfl)
              have hS := hI.pre hN
              refine OpTo.plain ?_ ?_
              exact rfl
              have HS := Lib.hid (Once.keepS (c := 16) (S := (fun w' => Below wr.heap.size wr w')) (T := (fun w' => Keep (· = c) wr w' ∧ Blk w' c (graC f2 true) 60)) (k := 1) (D := D) (by decide) hN hS)
              clear hI hS hN hC hW hD
              go_wp2_with fail
              all_goals first | exact HS.out | exact ⟨rfl, HS.out⟩ | rfl
            · intro D w' hD hW hC hI
              have hN : D 16 = false := need_not hC hD 16 (by kernel_rfl)
              have hS := hI.pre hN
              refine OpTo.plain ?_ ?_
              exact rfl
              have HS := Lib.hid (Once.keepS (c := 16) (S := (fun w' => Below wr.heap.size wr w')) (T := (fun w' => Keep (· = c) wr w' ∧ Blk w' c (graC f2 true) 60)) (k := 2) (D := D) (by decide) hN hS)
              clear hI hS hN hC hW hD
              go_wp2_with fail
              all_goals first | exact HS.out | exact ⟨rfl, HS.out⟩ | rfl
            · intro D w' hD hW hC hI
              have hN : D 16 = false := need_not hC hD 16 (by kernel_rfl)
              have hS := hI.pre hN
              refine OpTo.plain ?_ ?_
              exact rfl
              have e := (hS.cell (p := ⟨bl, k * 3, none⟩) hbl).trans E0.out
              have hbb := Nat.lt_of_lt_of_le hbl hS.size
              have HS := Lib.hid (Once.keepS (c := 16) (S := (fun w' => Below wr.heap.size wr w')) (T := (fun w' => Keep (· = c) wr w' ∧ Blk w' c (graC f2 true) 60)) (k := 3) (D := D) (by decide) hN hS)
              clear hI hS hN hC hW hD
              go_wp2_with fail
              all_goals first | exact HS.out | exact ⟨rfl, HS.out⟩ | rfl
            · intro D w' hD hW hC hI
              have hN : D 16 = false := need_not hC hD 16 (by kernel_rfl)
              have hS := hI.pre hN
              refine OpTo.plain ?_ ?_
              exact rfl
              have e := (hS.cell (p := ⟨bl, k * 3, none⟩) hbl).trans E0.out
              have hbb := Nat.lt_of_lt_of_le hbl hS.size
              have HS := Lib.hid (Once.keepS (c := 16) (S := (fun w' => Below wr.heap.size wr w')) (T := (fun w' => Keep (· = c) wr w' ∧ Blk w' c (graC f2 true) 60)) (k := 4) (D := D) (by decide) hN hS)
              clear hI hS hN hC hW hD
              go_wp2_with fail
              all_goals first | exact HS.out | exact ⟨rfl, HS.out⟩ | rfl
            · intro D w' hD hW hC hI
              have hN : D 16 = false := need_not hC hD 16 (by kernel_rfl)
              have hS := hI.pre hN
              refine OpTo.plain ?_ ?_
              exact rfl
              have e := (hS.cell (p := ⟨bl, k * 3, none⟩) hbl).trans E0.out
              have hbb := Nat.lt_of_lt_of_le hbl hS.size
              have HS := Lib.hid (Once.keepS (c := 16) (S := (fun w' => Below wr.heap.size wr w')) (T := (fun w' => Keep (· = c) wr w' ∧ Blk w' c (graC f2 true) 60)) (k := 5) (D := D) (by decide) hN hS)
              clear hI hS hN hC hW hD
              go_wp2_with fail
              all_goals first | exact HS.out | exact ⟨rfl, HS.out⟩ | rfl
            · intro D w' hD hW hC hI
              have hN : D 16 = false := need_not hC hD 16 (by kernel_rfl)
              have hS := hI.pre hN
              refine OpTo.plain ?_ ?_
              exact rfl
              have HS := Lib.hid (Once.keepS (c := 16) (S := (fun w' => Below wr.heap.size wr w')) (T := (fun w' => Keep (· = c) wr w' ∧ Blk w' c (graC f2 true) 60)) (k := 6) (D := D) (by decide) hN hS)
              clear hI hS hN hC hW hD
              go_wp2_with fail
              all_goals first | exact HS.out | exact ⟨rfl, HS.out⟩ | rfl
            · intro D w' hD hW hC hI
              have hN : D 16 = false := need_not hC hD 16 (by kernel_rfl)
              have hS := hI.pre hN
              refine OpTo.plain ?_ ?_
              exact rfl
              have HS := Lib.hid (Once.keepS (c := 16) (S := (fun w' => Below wr.heap.size wr w')) (T := (fun w' => Keep (· = c) wr w' ∧ Blk w' c (graC f2 true) 60)) (k := 7) (D := D) (by decide) hN hS)
              clear hI hS hN hC hW hD
              go_wp2_with fail
              all_goals first | exact HS.out | exact ⟨rfl, HS.out⟩ | rfl
            · intro D w' hD hW hC hI
              have hN : D 16 = false := need_not hC hD 16 (by kernel_rfl)
              have hS := hI.pre hN
              refine OpTo.plain ?_ ?_
              exact rfl
              have e := (hS.cell (p := ⟨bl, k * 3 + 1, none⟩) hbl).trans E1.out
              have hbb := Nat.lt_of_lt_of_le hbl hS.size
              have HS := Lib.hid (Once.keepS (c := 16) (S := (fun w' => Below wr.heap.size wr w')) (T := (fun w' => Keep (· = c) wr w' ∧ Blk w' c (graC f2 true) 60)) (k := 8) (D := D) (by decide) hN hS)
              clear hI hS hN hC hW hD
              go_wp2_with fail
              all_goals first | exact HS.out | exact ⟨rfl, HS.out⟩ | rfl
            · intro D w' hD hW hC hI
              have hN : D 16 = false := need_not hC hD 16 (by kernel_rfl)
              have hS := hI.pre hN
              refine OpTo.plain ?_ ?_
              exact rfl
              have e := (hS.cell (p := ⟨bl, k * 3 + 1, none⟩) hbl).trans E1.out
              have hbb := Nat.lt_of_lt_of_le hbl hS.size
              have HS := Lib.hid (Once.keepS (c := 16) (S := (fun w' => Below wr.heap.size wr w')) (T := (fun w' => Keep (· = c) wr w' ∧ Blk w' c (graC f2 true) 60)) (k := 9) (D := D) (by decide) hN hS)
              clear hI hS hN hC hW hD
              go_wp2_with fail
              all_goals first | exact HS.out | exact ⟨rfl, HS.out⟩ | rfl
            · intro D w' hD hW hC hI
              have hN : D 16 = false := need_not hC hD 16 (by kernel_rfl)
              have hS := hI.pre hN
              refine OpTo.plain ?_ ?_
              exact rfl
              have e := (hS.cell (p := ⟨bl, k * 3 + 1, none⟩) hbl).trans E1.out
              have hbb := Nat.lt_of_lt_of_le hbl hS.size
              have HS := Lib.hid (Once.keepS (c := 16) (S := (fun w' => Below wr.heap.size wr w')) (T := (fun w' => Keep (· = c) wr w' ∧ Blk w' c (graC f2 true) 60)) (k := 10) (D := D) (by decide) hN hS)
              clear hI hS hN hC hW hD
              go_wp2_with fail
              all_goals first | exact HS.out | exact ⟨rfl, HS.out⟩ | rfl
            · intro D w' hD hW hC hI
              have hN : D 16 = false := need_not hC hD 16 (by kernel_rfl)
              have hS := hI.pre hN
              refine OpTo.plain ?_ ?_
              exact rfl
              have HS := Lib.hid (Once.keepS (c := 16) (S := (fun w' => Below wr.heap.size wr w')) (T := (fun w' => Keep (· = c) wr w' ∧ Blk w' c (graC f2 true) 60)) (k := 11) (D := D) (by decide) hN hS)
              clear hI hS hN hC hW hD
              go_wp2_with fail
              all_goals first | exact HS.out | exact ⟨rfl, HS.out⟩ | rfl
            · intro D w' hD hW hC hI
              have hN : D 16 = false := need_not hC hD 16 (by kernel_rfl)
              have hS := hI.pre hN
              refine OpTo.plain ?_ ?_
              exact rfl
              have HS := Lib.hid (Once.keepS (c := 16) (S := (fun w' => Below wr.heap.size wr w')) (T := (fun w' => Keep (· = c) wr w' ∧ Blk w' c (graC f2 true) 60)) (k := 12) (D := D) (by decide) hN hS)
              clear hI hS hN hC hW hD
              go_wp2_with fail
              all_goals first | exact HS.out | exact ⟨rfl, HS.out⟩ | rfl
            · intro D w' hD hW hC hI
              have hN : D 16 = false := need_not hC hD 16 (by kernel_rfl)
              have hS := hI.pre hN
              refine OpTo.plain ?_ ?_
              exact rfl
              have e := (hS.cell (p := ⟨bl, k * 3 + 2, none⟩) hbl).trans E2.out
              have hbb := Nat.lt_of_lt_of_le hbl hS.size
              have HS := Lib.hid (Once.keepS (c := 16) (S := (fun w' => Below wr.heap.size wr w')) (T := (fun w' => Keep (· = c) wr w' ∧ Blk w' c (graC f2 true) 60)) (k := 13) (D := D) (by decide) hN hS)
              clear hI hS hN hC hW hD
              go_wp2_with fail
              all_goals first | exact HS.out | exact ⟨rfl, HS.out⟩ | rfl
            · intro D w' hD hW hC hI
              have hN : D 16 = false := need_not hC hD 16 (by kernel_rfl)
              have hS := hI.pre hN
              refine OpTo.plain ?_ ?_
              exact rfl
              have e := (hS.cell (p := ⟨bl, k * 3 + 2, none⟩) hbl).trans E2.out
              have hbb := Nat.lt_of_lt_of_le hbl hS.size
              have HS := Lib.hid (Once.keepS (c := 16) (S := (fun w' => Below wr.heap.size wr w')) (T := (fun w' => Keep (· = c) wr w' ∧ Blk w' c (graC f2 true) 60)) (k := 14) (D := D) (by decide) hN hS)
              clear hI hS hN hC hW hD
              go_wp2_with fail
              all_goals first | exact HS.out | exact ⟨rfl, HS.out⟩ | rfl
            · intro D w' hD hW hC hI
              have hN : D 16 = false := need_not hC hD 16 (by kernel_rfl)
              have hS := hI.pre hN
              refine OpTo.plain ?_ ?_
              exact rfl
              have e := (hS.cell (p := ⟨bl, k * 3 + 2, none⟩) hbl).trans E2.out
              have hbb := Nat.lt_of_lt_of_le hbl hS.size
              have HS := Lib.hid (Once.keepS (c := 16) (S := (fun w' => Below wr.heap.size wr w')) (T := (fun w' => Keep (· = c) wr w' ∧ Blk w' c (graC f2 true) 60)) (k := 15) (D := D) (by decide) hN hS)
              clear hI hS hN hC hW hD
              go_wp2_with fail
              all_goals first | exact HS.out | exact ⟨rfl, HS.out⟩ | rfl
            · intro D w' hD hW hC hI
              have hN : D 16 = false := hD
              have hS := hI.pre hN
              refine OpTo.plain ?_ ?_
              exact rfl
              have HC := Lib.hid ((by have q := gpush_any (KC.out.below hS KC.out.lt) GI.out (by decide) (a := fr) (b := tt) HN.out; rw [EE.out, EF.out] at q; exact q.mono (fun e w'' h => ⟨h.1, (Keep.of_below hS).trans (h.2.2.mono (fun _ _ e => e)), h.2.1⟩) : Calls Try.prog 18 #[(.pointer (some ⟨c, 0, none⟩)), (.int .u8 fr), (.int .u8 tt), (.int .i64 am)] w' fun e w'' => e = .returned (.int .i64 0) ∧ (Keep (· = c) wr w'' ∧ Blk w'' c (graC f2 true) 60)))
              clear hI hS hN hC hW hD
              go_wp2_with fail
              refine HC.out.mono ?_
              rintro e w'' ⟨rfl, hT⟩
              exact ⟨rfl, Once.done hT⟩
            · intro D w' hD hW hC hI
              have hP : D 16 = true := need_waited hC hW (by kernel_rfl)
              have hT := hI.post hP
              refine OpTo.plain ?_ ?_
              exact rfl
              have HS := Lib.hid (Once.keepT (c := 16) (S := (fun w' => Below wr.heap.size wr w')) (T := (fun w' => Keep (· = c) wr w' ∧ Blk w' c (graC f2 true) 60)) (k := 17) (D := D) (by decide) hP hT)
              clear hI hT hP hC hW hD
              go_wp2_with fail
              all_goals first | exact HS.out | exact ⟨rfl, HS.out⟩ | rfl
            · intro D w' hD hW hC hI
              have hP : D 16 = true := need_waited hC hW (by kernel_rfl)
              have hT := hI.post hP
              refine OpTo.plain ?_ ?_
              exact rfl
              have HS := Lib.hid (Once.keepT (c := 16) (S := (fun w' => Below wr.heap.size wr w')) (T := (fun w' => Keep (· = c) wr w' ∧ Blk w' c (graC f2 true) 60)) (k := 18) (D := D) (by decide) hP hT)
              clear hI hT hP hC hW hD
              go_wp2_with fail
              all_goals first | exact HS.out | exact ⟨rfl, HS.out⟩ | rfl
            · intro D w' hD hW hC hI
              have hP : D 16 = true := need_waited hC hW (by kernel_rfl)
              have hT := hI.post hP
              refine OpTo.wanted ?_ ?_
              kernel_rfl
              have HS := Lib.hid (Once.keepT (c := 16) (S := (fun w' => Below wr.heap.size wr w')) (T := (fun w' => Keep (· = c) wr w' ∧ Blk w' c (graC f2 true) 60)) (k := 19) (D := D) (by decide) hP hT)
              clear hI hT hP hC hW hD
              go_wp2_with fail
              all_goals first | exact HS.out | exact ⟨rfl, HS.out⟩ | rfl
            · intro D w' hD hW hC hI
              have hP : D 16 = true := need_waited hC hW (by kernel_rfl)
              have hT := hI.post hP
              refine OpTo.wanted ?_ ?_
              kernel_rfl
              have HS := Lib.hid (Once.keepT (c := 16) (S := (fun w' => Below wr.heap.size wr w')) (T := (fun w' => Keep (· = c) wr w' ∧ Blk w' c (graC f2 true) 60)) (k := 20) (D := D) (by decide) hP hT)
              clear hI hT hP hC hW hD
              go_wp2_with fail
              all_goals first | exact HS.out | exact ⟨rfl, HS.out⟩ | rfl
            · intro D w' hD hW hC hI
              have hP : D 16 = true := need_waited hC hW (by kernel_rfl)
              have hT := hI.post hP
              refine OpTo.wanted ?_ ?_
              kernel_rfl
              have e := (hT.1.cell (p := ⟨bl, k * 3, none⟩) hbl hblc).trans E0.out
              have hbb := Nat.lt_of_lt_of_le hbl hT.1.size
              have HS := Lib.hid (Once.keepT (c := 16) (S := (fun w' => Below wr.heap.size wr w')) (T := (fun w' => Keep (· = c) wr w' ∧ Blk w' c (graC f2 true) 60)) (k := 21) (D := D) (by decide) hP hT)
              clear hI hT hP hC hW hD
              go_wp2_with fail
              all_goals first | exact HS.out | exact ⟨rfl, HS.out⟩ | rfl
            · intro D w' hD hW hC hI
              have hP : D 16 = true := need_waited hC hW (by kernel_rfl)
              have hT := hI.post hP
              refine OpTo.wanted ?_ ?_
              kernel_rfl
              have e := (hT.1.cell (p := ⟨bl, k * 3, none⟩) hbl hblc).trans E0.out
              have hbb := Nat.lt_of_lt_of_le hbl hT.1.size
              have HS := Lib.hid (Once.keepT (c := 16) (S := (fun w' => Below wr.heap.size wr w')) (T := (fun w' => Keep (· = c) wr w' ∧ Blk w' c (graC f2 true) 60)) (k := 22) (D := D) (by decide) hP hT)
              clear hI hT hP hC hW hD
              go_wp2_with fail
              all_goals first | exact HS.out | exact ⟨rfl, HS.out⟩ | rfl
            · intro D w' hD hW hC hI
              have hP : D 16 = true := need_waited hC hW (by kernel_rfl)
              have hT := hI.post hP
              refine OpTo.wanted ?_ ?_
              kernel_rfl
              have e := (hT.1.cell (p := ⟨bl, k * 3, none⟩) hbl hblc).trans E0.out
              have hbb := Nat.lt_of_lt_of_le hbl hT.1.size
              have HS := Lib.hid (Once.keepT (c := 16) (S := (fun w' => Below wr.heap.size wr w')) (T := (fun w' => Keep (· = c) wr w' ∧ Blk w' c (graC f2 true) 60)) (k := 23) (D := D) (by decide) hP hT)
              clear hI hT hP hC hW hD
              go_wp2_with fail
              all_goals first | exact HS.out | exact ⟨rfl, HS.out⟩ | rfl
            · intro D w' hD hW hC hI
              have hP : D 16 = true := need_waited hC hW (by kernel_rfl)
              have hT := hI.post hP
              refine OpTo.wanted ?_ ?_
              kernel_rfl
              have HS := Lib.hid (Once.keepT (c := 16) (S := (fun w' => Below wr.heap.size wr w')) (T := (fun w' => Keep (· = c) wr w' ∧ Blk w' c (graC f2 true) 60)) (k := 24) (D := D) (by decide) hP hT)
              clear hI hT hP hC hW hD
              go_wp2_with fail
              all_goals first | exact HS.out | exact ⟨rfl, HS.out⟩ | rfl
            · intro D w' hD hW hC hI
              have hP : D 16 = true := need_waited hC hW (by kernel_rfl)
              have hT := hI.post hP
              refine OpTo.plain ?_ ?_
              exact rfl
              have HS := Lib.hid (Once.keepT (c := 16) (S := (fun w' => Below wr.heap.size wr w')) (T := (fun w' => Keep (· = c) wr w' ∧ Blk w' c (graC f2 true) 60)) (k := 25) (D := D) (by decide) hP hT)
              clear hI hT hP hC hW hD
              go_wp2_with fail
              all_goals first | exact HS.out | exact ⟨rfl, HS.out⟩ | rfl
            · intro D w' hD hW hC hI
              have hP : D 16 = true := need_waited hC hW (by kernel_rfl)
              have hT := hI.post hP
              refine OpTo.plain ?_ ?_
              exact rfl
              have HS := Lib.hid (Once.keepT (c := 16) (S := (fun w' => Below wr.heap.size wr w')) (T := (fun w' => Keep (· = c) wr w' ∧ Blk w' c (graC f2 true) 60)) (k := 26) (D := D) (by decide) hP hT)
              clear hI hT hP hC hW hD
              go_wp2_with fail
              all_goals first | exact HS.out | exact ⟨rfl, HS.out⟩ | rfl
            · intro D w' hD hW hC hI
              have hP : D 16 = true := need_waited hC hW (by kernel_rfl)
              have hT := hI.post hP
              refine OpTo.wanted ?_ ?_
              kernel_rfl
              have HS := Lib.hid (Once.keepT (c := 16) (S := (fun w' => Below wr.heap.size wr w')) (T := (fun w' => Keep (· = c) wr w' ∧ Blk w' c (graC f2 true) 60)) (k := 27) (D := D) (by decide) hP hT)
              clear hI hT hP hC hW hD
              go_wp2_with fail
              all_goals first | exact HS.out | exact ⟨rfl, HS.out⟩ | rfl
            · intro D w' hD hW hC hI
              have hP : D 16 = true := need_waited hC hW (by kernel_rfl)
              have hT := hI.post hP
              refine OpTo.wanted ?_ ?_
              kernel_rfl
              have HS := Lib.hid (Once.keepT (c := 16) (S := (fun w' => Below wr.heap.size wr w')) (T := (fun w' => Keep (· = c) wr w' ∧ Blk w' c (graC f2 true) 60)) (k := 28) (D := D) (by decide) hP hT)
              clear hI hT hP hC hW hD
              go_wp2_with fail
              all_goals first | exact HS.out | exact ⟨rfl, HS.out⟩ | rfl
            · intro D w' hD hW hC hI
              have hP : D 16 = true := need_waited hC hW (by kernel_rfl)
              have hT := hI.post hP
              refine OpTo.wanted ?_ ?_
              kernel_rfl
              have e := (hT.1.cell (p := ⟨bl, k * 3 + 1, none⟩) hbl hblc).trans E1.out
              have hbb := Nat.lt_of_lt_of_le hbl hT.1.size
              have HS := Lib.hid (Once.keepT (c := 16) (S := (fun w' => Below wr.heap.size wr w')) (T := (fun w' => Keep (· = c) wr w' ∧ Blk w' c (graC f2 true) 60)) (k := 29) (D := D) (by decide) hP hT)
              clear hI hT hP hC hW hD
              go_wp2_with fail
              all_goals first | exact HS.out | exact ⟨rfl, HS.out⟩ | rfl
            · intro D w' hD hW hC hI
              have hP : D 16 = true := need_waited hC hW (by kernel_rfl)
              have hT := hI.post hP
              refine OpTo.wanted ?_ ?_
              kernel_rfl
              have e := (hT.1.cell (p := ⟨bl, k * 3 + 1, none⟩) hbl hblc).trans E1.out
              have hbb := Nat.lt_of_lt_of_le hbl hT.1.size
              have HS := Lib.hid (Once.keepT (c := 16) (S := (fun w' => Below wr.heap.size wr w')) (T := (fun w' => Keep (· = c) wr w' ∧ Blk w' c (graC f2 true) 60)) (k := 30) (D := D) (by decide) hP hT)
              clear hI hT hP hC hW hD
              go_wp2_with fail
              all_goals first | exact HS.out | exact ⟨rfl, HS.out⟩ | rfl
            · intro D w' hD hW hC hI
              have hP : D 16 = true := need_waited hC hW (by kernel_rfl)
              have hT := hI.post hP
              refine OpTo.wanted ?_ ?_
              kernel_rfl
              have e := (hT.1.cell (p := ⟨bl, k * 3 + 1, none⟩) hbl hblc).trans E1.out
              have hbb := Nat.lt_of_lt_of_le hbl hT.1.size
              have HS := Lib.hid (Once.keepT (c := 16) (S := (fun w' => Below wr.heap.size wr w')) (T := (fun w' => Keep (· = c) wr w' ∧ Blk w' c (graC f2 true) 60)) (k := 31) (D := D) (by decide) hP hT)
              clear hI hT hP hC hW hD
              go_wp2_with fail
              all_goals first | exact HS.out | exact ⟨rfl, HS.out⟩ | rfl
            · intro D w' hD hW hC hI
              have hP : D 16 = true := need_waited hC hW (by kernel_rfl)
              have hT := hI.post hP
              refine OpTo.wanted ?_ ?_
              kernel_rfl
              have HS := Lib.hid (Once.keepT (c := 16) (S := (fun w' => Below wr.heap.size wr w')) (T := (fun w' => Keep (· = c) wr w' ∧ Blk w' c (graC f2 true) 60)) (k := 32) (D := D) (by decide) hP hT)
              clear hI hT hP hC hW hD
              go_wp2_with fail
              all_goals first | exact HS.out | exact ⟨rfl, HS.out⟩ | rfl
            · intro D w' hD hW hC hI
              have hP : D 16 = true := need_waited hC hW (by kernel_rfl)
              have hT := hI.post hP
              refine OpTo.plain ?_ ?_
              exact rfl
              have HS := Lib.hid (Once.keepT (c := 16) (S := (fun w' => Below wr.heap.size wr w')) (T := (fun w' => Keep (· = c) wr w' ∧ Blk w' c (graC f2 true) 60)) (k := 33) (D := D) (by decide) hP hT)
              clear hI hT hP hC hW hD
              go_wp2_with fail
              all_goals first | exact HS.out | exact ⟨rfl, HS.out⟩ | rfl
          intro D W2 hall hI
          obtain ⟨hk12, hc12⟩ := hI.post (hall 16 (by decide))
          have M2 := Lib.hid (MM.out.push hk12 hc12)
          clear hall hI hk12 hc12 MM KC E0 E1 E2 hbl EE EF GI HN hblc
          obtain ⟨bl2, he2, hbl, e0, e1, e2⟩ := rowA_at M2.out.ro hkl HX.out
          simp only [Option.some.injEq, Addr.mk.injEq, and_true] at he2
          subst he2
          have E0 := Lib.hid e0
          have E1 := Lib.hid e1
          have E2 := Lib.hid e2
          have KR := Lib.hid M2.out.kr
          clear e0 e1 e2
          go_wp2_with fail
          refine region_end (by kernel_rfl) 19 16 [(.slice (some ⟨bl, 0, none⟩) L.length ca), (.int .i64 k), (.pointer (some ⟨bl, k * 3, none⟩)), (.pointer (some ⟨bl, k * 3, none⟩)), (.int .u8 fr), (.slice (some ⟨bl, 0, none⟩) L.length ca), (.int .i64 k), (.pointer (some ⟨bl, k * 3, none⟩)), (.pointer (some ⟨bl, k * 3, none⟩)), (.int .u8 fr), (.pointer (some ⟨R, fr.toNat, none⟩)), (.int .i64 v1), (.slice (some ⟨bl, 0, none⟩) L.length ca), (.int .i64 k), (.pointer (some ⟨bl, k * 3, none⟩)), (.pointer (some ⟨bl, k * 3 + 2, none⟩)), (.int .i64 am), (.int .i64 (v1 - am)), (.pointer (some ⟨R, fr.toNat, none⟩))]
            (fun w' => Below W2.heap.size W2 w') (by kernel_rfl) rfl (by kernel_rfl) (Below.refl _ _).drew ?_
          intro af haf
          simp only [List.toList_toArray, List.append_eq, List.cons_append, List.nil_append, puts, Act.put, List.getD_cons_zero, List.getD_cons_succ, List.setIfInBounds_toArray, List.set_cons_succ, List.set_cons_zero] at haf
          subst haf
          refine ⟨?_, ?_⟩
          · simp only [List.toList_toArray, List.take_succ_cons, List.take_zero, EachTo]
            refine ⟨?_, ?_, ?_, ?_, ?_, ?_, ?_, ?_, ?_, ?_, ?_, ?_, ?_, ?_, ?_, ?_, ?_, ?_, ?_, trivial⟩
            · intro w' hS
              refine OpTo.plain ?_ ?_
              exact rfl
              have HS := Lib.hid hS
              clear hS
              go_wp2_with fail
              all_goals first | exact HS.out | exact ⟨rfl, HS.out⟩ | rfl | exact ⟨by omega, HS.out⟩
            · intro w' hS
              refine OpTo.plain ?_ ?_
              exact rfl
              have HS := Lib.hid hS
              clear hS
              go_wp2_with fail
              all_goals first | exact HS.out | exact ⟨rfl, HS.out⟩ | rfl | exact ⟨by omega, HS.out⟩
            · intro w' hS
              refine OpTo.plain ?_ ?_
              exact rfl
              have e := (hS.cell (p := ⟨bl, k * 3, none⟩) hbl).trans E0.out
              have hbb := Nat.lt_of_lt_of_le hbl hS.size
              have HS := Lib.hid hS
              clear hS
              go_wp2_with fail
              all_goals first | exact HS.out | exact ⟨rfl, HS.out⟩ | rfl | exact ⟨by omega, HS.out⟩
            · intro w' hS
              refine OpTo.plain ?_ ?_
              exact rfl
              have e := (hS.cell (p := ⟨bl, k * 3, none⟩) hbl).trans E0.out
              have hbb := Nat.lt_of_lt_of_le hbl hS.size
              have HS := Lib.hid hS
              clear hS
              go_wp2_with fail
              all_goals first | exact HS.out | exact ⟨rfl, HS.out⟩ | rfl | exact ⟨by omega, HS.out⟩
            · intro w' hS
              refine OpTo.plain ?_ ?_
              exact rfl
              have e := (hS.cell (p := ⟨bl, k * 3, none⟩) hbl).trans E0.out
              have hbb := Nat.lt_of_lt_of_le hbl hS.size
              have HS := Lib.hid hS
              clear hS
              go_wp2_with fail
              all_goals first | exact HS.out | exact ⟨rfl, HS.out⟩ | rfl | exact ⟨by omega, HS.out⟩
            · intro w' hS
              refine OpTo.plain ?_ ?_
              exact rfl
              have HS := Lib.hid hS
              clear hS
              go_wp2_with fail
              all_goals first | exact HS.out | exact ⟨rfl, HS.out⟩ | rfl | exact ⟨by omega, HS.out⟩
            · intro w' hS
              refine OpTo.plain ?_ ?_
              exact rfl
              have HS := Lib.hid hS
              clear hS
              go_wp2_with fail
              all_goals first | exact HS.out | exact ⟨rfl, HS.out⟩ | rfl | exact ⟨by omega, HS.out⟩
            · intro w' hS
              refine OpTo.plain ?_ ?_
              exact rfl
              have e := (hS.cell (p := ⟨bl, k * 3, none⟩) hbl).trans E0.out
              have hbb := Nat.lt_of_lt_of_le hbl hS.size
              have HS := Lib.hid hS
              clear hS
              go_wp2_with fail
              all_goals first | exact HS.out | exact ⟨rfl, HS.out⟩ | rfl | exact ⟨by omega, HS.out⟩
            · intro w' hS
              refine OpTo.plain ?_ ?_
              exact rfl
              have e := (hS.cell (p := ⟨bl, k * 3, none⟩) hbl).trans E0.out
              have hbb := Nat.lt_of_lt_of_le hbl hS.size
              have HS := Lib.hid hS
              clear hS
              go_wp2_with fail
              all_goals first | exact HS.out | exact ⟨rfl, HS.out⟩ | rfl | exact ⟨by omega, HS.out⟩
            · intro w' hS
              refine OpTo.plain ?_ ?_
              exact rfl
              have e := (hS.cell (p := ⟨bl, k * 3, none⟩) hbl).trans E0.out
              have hbb := Nat.lt_of_lt_of_le hbl hS.size
              have HS := Lib.hid hS
              clear hS
              go_wp2_with fail
              all_goals first | exact HS.out | exact ⟨rfl, HS.out⟩ | rfl | exact ⟨by omega, HS.out⟩
            · intro w' hS
              refine OpTo.plain ?_ ?_
              exact rfl
              have kr := KR.out.below hS KR.out.lt
              have hrl := kr.lt
              have HS := Lib.hid hS
              clear hS
              go_wp2_with fail
              all_goals first | exact HS.out | exact ⟨rfl, HS.out⟩ | rfl | exact ⟨by omega, HS.out⟩
            · intro w' hS
              refine OpTo.plain ?_ ?_
              exact rfl
              have kr := KR.out.below hS KR.out.lt
              have hrl := kr.lt
              have d := kr.celAt (p := fr) (by omega) (by omega)
              rw [HV1.out] at d
              have HS := Lib.hid hS
              clear hS
              go_wp2_with fail
              all_goals first | exact HS.out | exact ⟨rfl, HS.out⟩ | rfl | exact ⟨by omega, HS.out⟩
            · intro w' hS
              refine OpTo.plain ?_ ?_
              exact rfl
              have HS := Lib.hid hS
              clear hS
              go_wp2_with fail
              all_goals first | exact HS.out | exact ⟨rfl, HS.out⟩ | rfl | exact ⟨by omega, HS.out⟩
            · intro w' hS
              refine OpTo.plain ?_ ?_
              exact rfl
              have HS := Lib.hid hS
              clear hS
              go_wp2_with fail
              all_goals first | exact HS.out | exact ⟨rfl, HS.out⟩ | rfl | exact ⟨by omega, HS.out⟩
            · intro w' hS
              refine OpTo.plain ?_ ?_
              exact rfl
              have e := (hS.cell (p := ⟨bl, k * 3 + 2, none⟩) hbl).trans E2.out
              have hbb := Nat.lt_of_lt_of_le hbl hS.size
              have HS := Lib.hid hS
              clear hS
              go_wp2_with fail
              all_goals first | exact HS.out | exact ⟨rfl, HS.out⟩ | rfl | exact ⟨by omega, HS.out⟩
            · intro w' hS
              refine OpTo.plain ?_ ?_
              exact rfl
              have e := (hS.cell (p := ⟨bl, k * 3 + 2, none⟩) hbl).trans E2.out
              have hbb := Nat.lt_of_lt_of_le hbl hS.size
              have HS := Lib.hid hS
              clear hS
              go_wp2_with fail
              all_goals first | exact HS.out | exact ⟨rfl, HS.out⟩ | rfl | exact ⟨by omega, HS.out⟩
            · intro w' hS
              refine OpTo.plain ?_ ?_
              exact rfl
              have e := (hS.cell (p := ⟨bl, k * 3 + 2, none⟩) hbl).trans E2.out
              have hbb := Nat.lt_of_lt_of_le hbl hS.size
              have HS := Lib.hid hS
              clear hS
              go_wp2_with fail
              all_goals first | exact HS.out | exact ⟨rfl, HS.out⟩ | rfl | exact ⟨by omega, HS.out⟩
            · intro w' hS
              refine OpTo.plain ?_ ?_
              exact rfl
              have HS := Lib.hid hS
              clear hS
              go_wp2_with fail
              all_goals first | exact HS.out | exact ⟨rfl, HS.out⟩ | rfl | exact ⟨by omega, HS.out⟩
            · intro w' hS
              refine OpTo.plain ?_ ?_
              exact rfl
              have kr := KR.out.below hS KR.out.lt
              have hrl := kr.lt
              have HS := Lib.hid hS
              clear hS
              go_wp2_with fail
              all_goals first | exact HS.out | exact ⟨rfl, HS.out⟩ | rfl | exact ⟨by omega, HS.out⟩
          simp only [List.getD_cons_succ, List.getD_cons_zero, List.toList_toArray]
          intro w' hS
          refine OpTo.plain ?_ ?_
          exact rfl
          have kr := KR.out.below hS KR.out.lt
          have hrl := kr.lt
          have fz := kr.frozen fr.toNat
          have dm := kr.celAt (p := fr) (by omega) (by omega)
          have M3 := Lib.hid ((M2.out.below hS).put (p := fr) (by omega) (by omega) (v1 - am))
          clear hS kr M2 KR E0 E1 E2 hbl
          go_wp2_with fail
          generalize w'.setCell ⟨R, fr.toNat, none⟩ (.int .i64 (v1 - am)) = W3 at *
          clear hrl fz dm
          obtain ⟨bl2, he2, hbl, e0, e1, e2⟩ := rowA_at M3.out.ro hkl HX.out
          simp only [Option.some.injEq, Addr.mk.injEq, and_true] at he2
          subst he2
          have E0 := Lib.hid e0
          have E1 := Lib.hid e1
          have E2 := Lib.hid e2
          have KR3 := Lib.hid M3.out.kr
          clear e0 e1 e2
          refine region_end (by kernel_rfl) 19 16 [(.slice (some ⟨bl, 0, none⟩) L.length ca), (.int .i64 k), (.pointer (some ⟨bl, k * 3, none⟩)), (.pointer (some ⟨bl, k * 3 + 1, none⟩)), (.int .u8 tt), (.slice (some ⟨bl, 0, none⟩) L.length ca), (.int .i64 k), (.pointer (some ⟨bl, k * 3, none⟩)), (.pointer (some ⟨bl, k * 3 + 1, none⟩)), (.int .u8 tt), (.pointer (some ⟨R, tt.toNat, none⟩)), (.int .i64 v2), (.slice (some ⟨bl, 0, none⟩) L.length ca), (.int .i64 k), (.pointer (some ⟨bl, k * 3, none⟩)), (.pointer (some ⟨bl, k * 3 + 2, none⟩)), (.int .i64 am), (.int .i64 (v2 + am)), (.pointer (some ⟨R, tt.toNat, none⟩))]
            (fun w' => Below W3.heap.size W3 w') (by kernel_rfl) rfl (by kernel_rfl) (Below.refl _ _).drew ?_
          intro af haf
          simp only [List.toList_toArray, List.append_eq, List.cons_append, List.nil_append, puts, Act.put, List.getD_cons_zero, List.getD_cons_succ, List.setIfInBounds_toArray, List.set_cons_succ, List.set_cons_zero] at haf
          subst haf
          refine ⟨?_, ?_⟩
          · simp only [List.toList_toArray, List.take_succ_cons, List.take_zero, EachTo]
            refine ⟨?_, ?_, ?_, ?_, ?_, ?_, ?_, ?_, ?_, ?_, ?_, ?_, ?_, ?_, ?_, ?_, ?_, ?_, ?_, trivial⟩
            · intro w' hS
              refine OpTo.plain ?_ ?_
              exact rfl
              have HS := Lib.hid hS
              clear hS
              go_wp2_with fail
              all_goals first | exact HS.out | exact ⟨rfl, HS.out⟩ | rfl | exact ⟨by omega, HS.out⟩
            · intro w' hS
              refine OpTo.plain ?_ ?_
              exact rfl
              have HS := Lib.hid hS
              clear hS
              go_wp2_with fail
              all_goals first | exact HS.out | exact ⟨rfl, HS.out⟩ | rfl | exact ⟨by omega, HS.out⟩
            · intro w' hS
              refine OpTo.plain ?_ ?_
              exact rfl
              have e := (hS.cell (p := ⟨bl, k * 3 + 1, none⟩) hbl).trans E1.out
              have hbb := Nat.lt_of_lt_of_le hbl hS.size
              have HS := Lib.hid hS
              clear hS
              go_wp2_with fail
              all_goals first | exact HS.out | exact ⟨rfl, HS.out⟩ | rfl | exact ⟨by omega, HS.out⟩
            · intro w' hS
              refine OpTo.plain ?_ ?_
              exact rfl
              have e := (hS.cell (p := ⟨bl, k * 3 + 1, none⟩) hbl).trans E1.out
              have hbb := Nat.lt_of_lt_of_le hbl hS.size
              have HS := Lib.hid hS
              clear hS
              go_wp2_with fail
              all_goals first | exact HS.out | exact ⟨rfl, HS.out⟩ | rfl | exact ⟨by omega, HS.out⟩
            · intro w' hS
              refine OpTo.plain ?_ ?_
              exact rfl
              have e := (hS.cell (p := ⟨bl, k * 3 + 1, none⟩) hbl).trans E1.out
              have hbb := Nat.lt_of_lt_of_le hbl hS.size
              have HS := Lib.hid hS
              clear hS
              go_wp2_with fail
              all_goals first | exact HS.out | exact ⟨rfl, HS.out⟩ | rfl | exact ⟨by omega, HS.out⟩
            · intro w' hS
              refine OpTo.plain ?_ ?_
              exact rfl
              have HS := Lib.hid hS
              clear hS
              go_wp2_with fail
              all_goals first | exact HS.out | exact ⟨rfl, HS.out⟩ | rfl | exact ⟨by omega, HS.out⟩
            · intro w' hS
              refine OpTo.plain ?_ ?_
              exact rfl
              have HS := Lib.hid hS
              clear hS
              go_wp2_with fail
              all_goals first | exact HS.out | exact ⟨rfl, HS.out⟩ | rfl | exact ⟨by omega, HS.out⟩
            · intro w' hS
              refine OpTo.plain ?_ ?_
              exact rfl
              have e := (hS.cell (p := ⟨bl, k * 3 + 1, none⟩) hbl).trans E1.out
              have hbb := Nat.lt_of_lt_of_le hbl hS.size
              have HS := Lib.hid hS
              clear hS
              go_wp2_with fail
              all_goals first | exact HS.out | exact ⟨rfl, HS.out⟩ | rfl | exact ⟨by omega, HS.out⟩
            · intro w' hS
              refine OpTo.plain ?_ ?_
              exact rfl
              have e := (hS.cell (p := ⟨bl, k * 3 + 1, none⟩) hbl).trans E1.out
              have hbb := Nat.lt_of_lt_of_le hbl hS.size
              have HS := Lib.hid hS
              clear hS
              go_wp2_with fail
              all_goals first | exact HS.out | exact ⟨rfl, HS.out⟩ | rfl | exact ⟨by omega, HS.out⟩
            · intro w' hS
              refine OpTo.plain ?_ ?_
              exact rfl
              have e := (hS.cell (p := ⟨bl, k * 3 + 1, none⟩) hbl).trans E1.out
              have hbb := Nat.lt_of_lt_of_le hbl hS.size
              have HS := Lib.hid hS
              clear hS
              go_wp2_with fail
              all_goals first | exact HS.out | exact ⟨rfl, HS.out⟩ | rfl | exact ⟨by omega, HS.out⟩
            · intro w' hS
              refine OpTo.plain ?_ ?_
              exact rfl
              have kr := KR3.out.below hS KR3.out.lt
              have hrl := kr.lt
              have HS := Lib.hid hS
              clear hS
              go_wp2_with fail
              all_goals first | exact HS.out | exact ⟨rfl, HS.out⟩ | rfl | exact ⟨by omega, HS.out⟩
            · intro w' hS
              refine OpTo.plain ?_ ?_
              exact rfl
              have kr := KR3.out.below hS KR3.out.lt
              have hrl := kr.lt
              have d := kr.celAt (p := tt) (by omega) (by omega)
              rw [HV2.out] at d
              have HS := Lib.hid hS
              clear hS
              go_wp2_with fail
              all_goals first | exact HS.out | exact ⟨rfl, HS.out⟩ | rfl | exact ⟨by omega, HS.out⟩
            · intro w' hS
              refine OpTo.plain ?_ ?_
              exact rfl
              have HS := Lib.hid hS
              clear hS
              go_wp2_with fail
              all_goals first | exact HS.out | exact ⟨rfl, HS.out⟩ | rfl | exact ⟨by omega, HS.out⟩
            · intro w' hS
              refine OpTo.plain ?_ ?_
              exact rfl
              have HS := Lib.hid hS
              clear hS
              go_wp2_with fail
              all_goals first | exact HS.out | exact ⟨rfl, HS.out⟩ | rfl | exact ⟨by omega, HS.out⟩
            · intro w' hS
              refine OpTo.plain ?_ ?_
              exact rfl
              have e := (hS.cell (p := ⟨bl, k * 3 + 2, none⟩) hbl).trans E2.out
              have hbb := Nat.lt_of_lt_of_le hbl hS.size
              have HS := Lib.hid hS
              clear hS
              go_wp2_with fail
              all_goals first | exact HS.out | exact ⟨rfl, HS.out⟩ | rfl | exact ⟨by omega, HS.out⟩
            · intro w' hS
              refine OpTo.plain ?_ ?_
              exact rfl
              have e := (hS.cell (p := ⟨bl, k * 3 + 2, none⟩) hbl).trans E2.out
              have hbb := Nat.lt_of_lt_of_le hbl hS.size
              have HS := Lib.hid hS
              clear hS
              go_wp2_with fail
              all_goals first | exact HS.out | exact ⟨rfl, HS.out⟩ | rfl | exact ⟨by omega, HS.out⟩
            · intro w' hS
              refine OpTo.plain ?_ ?_
              exact rfl
              have e := (hS.cell (p := ⟨bl, k * 3 + 2, none⟩) hbl).trans E2.out
              have hbb := Nat.lt_of_lt_of_le hbl hS.size
              have HS := Lib.hid hS
              clear hS
              go_wp2_with fail
              all_goals first | exact HS.out | exact ⟨rfl, HS.out⟩ | rfl | exact ⟨by omega, HS.out⟩
            · intro w' hS
              refine OpTo.plain ?_ ?_
              exact rfl
              have HS := Lib.hid hS
              clear hS
              go_wp2_with fail
              all_goals first | exact HS.out | exact ⟨rfl, HS.out⟩ | rfl | exact ⟨by omega, HS.out⟩
            · intro w' hS
              refine OpTo.plain ?_ ?_
              exact rfl
              have kr := KR3.out.below hS KR3.out.lt
              have hrl := kr.lt
              have HS := Lib.hid hS
              clear hS
              go_wp2_with fail
              all_goals first | exact HS.out | exact ⟨rfl, HS.out⟩ | rfl | exact ⟨by omega, HS.out⟩
          simp only [List.getD_cons_succ, List.getD_cons_zero, List.toList_toArray]
          intro w' hS
          refine OpTo.plain ?_ ?_
          exact rfl
          have kr := KR3.out.below hS KR3.out.lt
          have hrl := kr.lt
          have fz := kr.frozen tt.toNat
          have dm := kr.celAt (p := tt) (by omega) (by omega)
          have M4 := Lib.hid ((M3.out.below hS).put (p := tt) (by omega) (by omega) (v2 + am))
          clear hS kr M3 KR3 E0 E1 E2 hbl
          go_wp2_with fail
          go_roundw
          case rel => exact ⟨k + 1, by omega, by go_num, by rw [HF2.out]; exact M4.out.num EC.out⟩
          case measure => simp [intOf]; omega
        · have hkL : k = L.length := by omega
          subst hkL
          have M1 := MM.out
          rw [List.take_length, KK.out] at M1
          have M1 := Lib.hid M1
          clear MM
          have hnw := HSi.out.nw hw1
          rw [NR.out] at hnw
          have wrn : IntKind.i64.wrap (-nr) = -nr := by unfold IntKind.wrap; simp [IntKind.bits, IntKind.signed]; omega
          go_wp2_with fail
          go_loopw [12, 13] (MpAt wr) (fun i _ _ => 17 - (intOf i).toNat)
          case atStart => exact ⟨0, by omega, by omega, rfl, rfl⟩
          case round =>
            obtain ⟨p, p0, p1, rfl, rfl⟩ := hrel
            have kr := M1.out.kr
            have hrl := kr.lt
            have kx := M1.out.kx
            have hxl := kx.lt
            have e0 := kx.cell 0
            have e1 := kx.cell 1
            have e2 := kx.cell 2
            simp at e0 e1 e2
            clear kx
            by_cases hp : p < 17
            · have dm := kr.celAt (p := p) p0 hp
              rw [NET.out p] at dm
              clear kr
              by_cases h1 : p = sx
              · have u1 : (p == sx) = true := by simpa using h1
                have u2 : (p == tx) = false := by simp; omega
                rw [if_neg (by omega), if_pos h1.symm, Int.zero_sub] at dm
                clear h1
                go_wp2_with fail
                go_roundw
                case rel => exact ⟨p + 1, by omega, by omega, by go_num, rfl⟩
                case measure => simp [intOf]; omega
              · have u1 : (p == sx) = false := by simpa using h1
                by_cases h2 : p = tx
                · have u2 : (p == tx) = true := by simpa using h2
                  rw [if_pos h2.symm, if_neg (by omega), Int.sub_zero] at dm
                  clear h1 h2
                  go_wp2_with fail
                  go_roundw
                  case rel => exact ⟨p + 1, by omega, by omega, by go_num, rfl⟩
                  case measure => simp [intOf]; omega
                · have u2 : (p == tx) = false := by simpa using h2
                  rw [if_neg (by omega), if_neg (by omega), Int.sub_zero] at dm
                  clear h1 h2
                  go_wp2_with fail
                  go_roundw
                  case rel => exact ⟨p + 1, by omega, by omega, by go_num, rfl⟩
                  case measure => simp [intOf]; omega
            · have hp17 : p = 17 := by omega
              subst hp17
              obtain ⟨μ, hμ⟩ := route_ends I0.out sx tx mostW
              obtain ⟨nm, hnm⟩ : ∃ nm, mostW - μ.left = nm := ⟨_, rfl⟩
              have RM := route_min HSi.out hμ I0.out ⟨s1, s2⟩ ⟨t1, t2⟩ hst hw1
              rw [hnm, NR.out] at RM
              have RMH := Lib.hid RM
              clear RM
              have hMb := most_bd hμ I0.out hst
              rw [hnm] at hMb
              obtain ⟨m0, m9⟩ := hMb
              have CM := Lib.hid (HMo.out.at_ (IsM.of M1.out.kg) I0.out HS8.out HT8.out hμ)
              rw [hnm] at CM
              clear hμ hnm kr hrl
              go_wp2_with fail
              refine CM.out.mono ?_
              rintro e w6 ⟨rfl, b6⟩
              have M6 := Lib.hid (M1.out.below b6)
              clear b6 CM e0 e1 e2 hxl M1
              have kx := M6.out.kx
              have hxl := kx.lt
              have e0 := kx.cell 0
              have e1 := kx.cell 1
              have e2 := kx.cell 2
              simp at e0 e1 e2
              clear kx
              have z0 : decide (nr < 0) = false := by simp; omega
              have z1 : decide (wx < nr) = false := by simp; omega
              rcases Int.lt_or_le nm wx with hc | hc
              · have RM := RMH.out
                clear RMH
                rw [Int.min_eq_right (by omega)] at RM
                subst RM
                have z2 : (nr == wx) = false := by simp; omega
                have hc' : wx - σ.left < wx := by rw [NR.out]; exact hc
                have hls := HSi.out.less ⟨s1, s2⟩ ⟨t1, t2⟩ hst hc'
                rw [NR.out] at hls
                have LS := Lib.hid hls
                clear hls
                have CR := Lib.hid (reached_any (IsG.of M6.out.kc) HSi.out.g ⟨s1, s2⟩)
                clear hc'
                go_wp2_with fail
                refine CR.out.mono ?_
                rintro e wq ⟨Z, rfl, hZ, hZs, rfl⟩
                have bt := bit_at hZ tx
                rw [hZs tx (by omega), LS.out.1, if_neg (by decide)] at bt
                have CC := Lib.hid (cut_any (most := nr) (IsG.of M6.out.kg) I0.out hZ)
                rw [outS_congr f (S := bitS Z) (T := reachS σ.f sx) hZs, LS.out.2, decide_eq_true (Int.le_refl _)] at CC
                clear CR hZs
                have hz0 : (0 : Int) ≤ (Z : Int) := by omega
                have hz1 : (Z : Int) < 4294967296 := by omega
                clear hZ
                have CL := Lib.hid (HLi.out wq)
                go_wp2_with fail
                refine CC.out.mono ?_
                rintro e wz ⟨rfl, rfl⟩
                go_wp2_with fail
                refine CL.out.mono ?_
                rintro e w7 ⟨rfl, b7⟩
                have B7 := Lib.hid (M6.out.b.trans (b7.mono M6.out.b.size))
                clear b7 CL CC
                go_wp2_with fail
                go_ret
                exact ⟨rfl, B7.out⟩
              · have RM := RMH.out
                clear RMH
                rw [Int.min_eq_left hc] at RM
                subst RM
                have CL := Lib.hid (HLi.out w6)
                go_wp2_with fail
                refine CL.out.mono ?_
                rintro e w7 ⟨rfl, b7⟩
                have B7 := Lib.hid (M6.out.b.trans (b7.mono M6.out.b.size))
                clear b7 CL
                go_wp2_with fail
                go_ret
                exact ⟨rfl, B7.out⟩
    · have hs0 := route_none I0.out HSi.out hgood
      have HL0 : L = [] := by rw [← EL.out, hs0]
      have HN0 : nr = 0 := by rw [← NR.out, hs0]; exact Int.sub_self wx
      subst HL0
      subst HN0
      have CL := Lib.hid (HLi.out w3)
      have hs := ask_cases hgood
      clear hs0 hgood KG3 OA3 HSi EL NR
      rcases hs with h1 | ⟨h1, h2⟩ | ⟨h1, h2, h3⟩ | ⟨h1, h2, h3, h4⟩ | ⟨h1, h2, h3, h4, h5⟩ | ⟨h1, h2, h3, h4, h5, h6⟩
      all_goals
        go_wp2_with fail
        refine CL.out.mono ?_
        rintro e w5 ⟨rfl, b5⟩
        have B5 := Lib.hid (B3.out.trans (b5.mono B3.out.size))
        clear b5 CL
        go_wp2_with fail
        go_ret
        exact ⟨rfl, B5.out⟩
  · obtain ⟨_, rfl⟩ := HG.out.resolve_left (fun h => hok h.1)
    clear HG
    have I0 := Lib.hid (GInv.zero (B := 4398046511104) (by decide))
    obtain ⟨σ, hσ⟩ := route_ends I0.out sx tx wx
    have hz1 := route_zero (by decide) hσ
    have CA := Lib.hid (HRo.out.at_ (IsM.nil w2) I0.out HS8.out HT8.out HW64.out hσ)
    rw [hz1] at CA
    have E0 : Hid (wx - (⟨zeroF, wx, []⟩ : RS).left = 0) := Lib.hid (Int.sub_self wx)
    rw [E0.out] at CA
    clear hσ hz1
    have kx := KX2.out
    have hxl := kx.lt
    have e0 := kx.cell 0
    have e1 := kx.cell 1
    have e2 := kx.cell 2
    simp at e0 e1 e2
    clear kx
    go_wp2_with fail
    refine CA.out.mono ?_
    rintro e w3 ⟨va, rfl, hrow, b3⟩
    obtain ⟨ao, ca, rfl, hca, hcm, _⟩ := hrow.look (by decide)
    have B3 := Lib.hid (B2.out.trans (b3.mono B2.out.size))
    have CL := Lib.hid (HLi.out w3)
    clear hrow b3 CA e0 e1 e2 hxl
    unfold maxLen at hcm
    go_wp2_with fail
    refine CL.out.mono ?_
    rintro e w4 ⟨rfl, b4⟩
    have B4 := Lib.hid (B3.out.trans (b4.mono B3.out.size))
    clear b4 CL
    go_wp2_with fail
    go_ret
    exact ⟨rfl, B4.out⟩

end Go.Proofs.Ytgebplplpenabaa
