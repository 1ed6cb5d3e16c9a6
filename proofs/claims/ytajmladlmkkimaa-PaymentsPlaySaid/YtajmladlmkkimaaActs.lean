/-
  What came in: structs of numbers, by value and in slices; acts on a ledger.
-/
import Derived.Test.YtajmladlmkkimaaHeap
import Derived.Deep.Slices
import Derived.Deep.Fields
import Derived.ChangeSame
import Derived.OpenShut
import Derived.Lib.SmallJoins
import Derived.Test.YtajmladlmkkimaaPLed
namespace Go.Proofs.Ytajmladlmkkimaa
open Go.RowKit Go.ChangeShapes Go.WideShapes Go.Deep
set_option linter.unusedSimpArgs false
set_option linter.unusedVariables false

section
variable {H : Type} {enc : TypeId × Value → H} {P : Program} {w : World} {base : Nat} {spare : Nat → Bool} {held : Bool}
/-- The cells of a struct of numbers: as many as there are kinds, each a number of its kind. -/
theorem nums_read {t : TypeId} {fs : Array Field} {ks : List IntKind} (hu : P.underlying t = some (.struct fs)) (hone : oneCellFields P fs = true) (hC : P.cellsOf t = ks.length)
    (hk : ∀ (j : Nat) (k : IntKind), ks[j]? = some k → ∃ f, fs[j]? = some f ∧ P.underlying f.type = some (.int k)) {fuel : Nat} {cs : List Value} {x : DataW H × List MemPlace} (h : DataW.trod enc P w base spare held fuel t cs = some x) :
    cs.length = ks.length ∧ ∀ (j : Nat) (k : IntKind), ks[j]? = some k → ∃ n, cs[j]? = some (.int k n) ∧ (Lit.int k n).wf = true := by
  obtain ⟨xs, n, _, _, hlen, hxl, hf⟩ := DataW.trod_struct hu h
  rw [hC] at hlen
  refine ⟨hlen, fun j k hj => ?_⟩
  have hjl : j < ks.length := (List.getElem?_eq_some_iff.1 hj).1
  obtain ⟨f, hfj, hfk⟩ := hk j k hj
  obtain ⟨ho, hc⟩ := hone_of hone j f hfj
  have h1 := hf j f hfj
  have hone' : (cs.drop j).take 1 = [cs[j]'(by omega)] := by
    rw [List.drop_eq_getElem_cons (by omega)]
    rfl
  rw [ho, hc, hone'] at h1
  have hjf : j < fs.size := (Array.getElem?_eq_some_iff.1 hfj).1
  have h2 : xs[j]? = some (xs[j]'(by omega)) := List.getElem?_eq_getElem (by omega)
  rw [h2] at h1
  obtain ⟨m, hm, _, hw⟩ := DataW.trod_int hfk h1
  refine ⟨m, ?_, hw⟩
  rw [List.getElem?_eq_getElem (by omega)]
  simpa using hm
end

/-- An act on a ledger: its kind, two parties, a currency, a number. -/
structure Ac where
  k : Int
  a : Int
  b : Int
  c : Int
  n : Int
def Ac.vals (x : Ac) : List Value := [.int .u8 x.k, .int .u8 x.a, .int .u8 x.b, .int .u8 x.c, .int .i64 x.n]
structure Ac.Ok (x : Ac) : Prop where
  k : In8 x.k
  a : In8 x.a
  b : In8 x.b
  c : In8 x.c
  n : In64 x.n
theorem In8.of_wf {n : Int} (h : (Lit.int .u8 n).wf = true) : In8 n := by
  simp [Lit.wf, IntKind.min, IntKind.max, IntKind.signed, IntKind.bits] at h
  exact ⟨by omega, by omega⟩
theorem ac_of {cs : List Value} (h1 : cs.length = 5) (h : ∀ (j : Nat) (k : IntKind), ([.u8, .u8, .u8, .u8, .i64] : List IntKind)[j]? = some k → ∃ n, cs[j]? = some (.int k n) ∧ (Lit.int k n).wf = true) : ∃ x : Ac, x.Ok ∧ cs = x.vals := by
  obtain ⟨n0, e0, w0⟩ := h 0 _ rfl
  obtain ⟨n1, e1, w1⟩ := h 1 _ rfl
  obtain ⟨n2, e2, w2⟩ := h 2 _ rfl
  obtain ⟨n3, e3, w3⟩ := h 3 _ rfl
  obtain ⟨n4, e4, w4⟩ := h 4 _ rfl
  match cs, h1 with
  | [c0, c1, c2, c3, c4], _ =>
    simp at e0 e1 e2 e3 e4
    subst e0 e1 e2 e3 e4
    exact ⟨⟨n0, n1, n2, n3, n4⟩, ⟨In8.of_wf w0, In8.of_wf w1, In8.of_wf w2, In8.of_wf w3, In64.of_wf w4⟩, rfl⟩

theorem act_kinds : ∃ fs, Try.prog.underlying 45 = some (.struct fs) ∧ oneCellFields Try.prog fs = true ∧ ∀ (j : Nat) (k : IntKind), ([.u8, .u8, .u8, .u8, .i64] : List IntKind)[j]? = some k → ∃ f, fs[j]? = some f ∧ Try.prog.underlying f.type = some (.int k) := by
  refine ⟨_, Try.underlying45, by kernel_rfl, ?_⟩
  intro j k hj
  match j, hj with
  | 0, hj => cases hj; exact ⟨_, rfl, Try.underlying5⟩
  | 1, hj => cases hj; exact ⟨_, rfl, Try.underlying42⟩
  | 2, hj => cases hj; exact ⟨_, rfl, Try.underlying42⟩
  | 3, hj => cases hj; exact ⟨_, rfl, Try.underlying43⟩
  | 4, hj => cases hj; exact ⟨_, rfl, Try.underlying2⟩
  | j + 5, hj => simp at hj
section
variable {H : Type} {enc : TypeId × Value → H} {w : World} {base : Nat} {spare : Nat → Bool} {held : Bool}
theorem act_read {fuel : Nat} {cs : List Value} {x : DataW H × List MemPlace} (h : DataW.trod enc Try.prog w base spare held fuel 45 cs = some x) : ∃ x : Ac, x.Ok ∧ cs = x.vals := by
  obtain ⟨fs, hu, ho, hk⟩ := act_kinds
  have hC : Try.prog.cellsOf 45 = 5 := by kernel_rfl
  generalize Try.prog = P at *
  obtain ⟨h1, h2⟩ := nums_read (ks := [.u8, .u8, .u8, .u8, .i64]) hu ho hC hk h
  exact ac_of h1 h2
set_option maxRecDepth 100000 in
/-- An act by value. -/
theorem act_open {r : Reach} {b0 : Nat} {v : Value} {d : DataW H} {p : List MemPlace} (hv : Value.okWide Try.prog w r b0 45 v) (h : DataW.Trod enc Try.prog w base spare held 45 v d p) :
    ∃ x : Ac, v = .agg #[.int .u8 x.k, .int .u8 x.a, .int .u8 x.b, .int .u8 x.c, .int .i64 x.n] ∧ x.Ok := by
  obtain ⟨cs, rfl, _⟩ := okWide_struct Try.underlying45 hv
  obtain ⟨fuel, hf⟩ := h
  obtain ⟨x, hx, hc⟩ := act_read hf
  refine ⟨x, ?_, hx⟩
  have : cs.toList = x.vals := by simpa [Value.cells] using hc
  rw [show cs = x.vals.toArray by rw [← this]]
  rfl
/-- Acts in a slice that came in. -/
def ActsIn (w : World) (a : Option Addr) (len cap : Nat) (xs : List Ac) : Prop :=
  xs.length = len ∧ (∀ x ∈ xs, x.Ok) ∧ len ≤ cap ∧ cap ≤ maxLen ∧ (0 < len → ∃ b off, a = some ⟨b, off, none⟩ ∧ b < w.heap.size ∧ ∀ i (h : i < xs.length) (j : Nat) (v : Value), xs[i].vals[j]? = some v → w.cell? ⟨b, off + i * 5 + j, none⟩ = some v)
set_option maxRecDepth 100000 in
theorem acts_open {a : Option Addr} {len cap : Nat} {d : DataW H} {p : List MemPlace} (h : DataW.Trod enc Try.prog w base spare held 35 (.slice a len cap) d p) : ∃ xs, ActsIn w a len cap xs := by
  obtain ⟨fuel, hf⟩ := h
  rcases open_slice Try.underlying35 hf with ⟨h0, _⟩ | ⟨ad, l, c, m, n, D, Pl, hcs, hb, hl, hm, hmm, hx, hi⟩
  · simp [Value.cells] at h0
    obtain ⟨rfl, rfl, rfl⟩ := h0
    exact ⟨[], rfl, by simp, Nat.le_refl _, by unfold maxLen; omega, fun h => by omega⟩
  · simp [Value.cells] at hcs
    obtain ⟨rfl, rfl, rfl⟩ := hcs
    have hC : Try.prog.cellsOf 45 = 5 := by kernel_rfl
    have hlm : len ≤ m := by rw [hmm]; split <;> omega
    have key : ∀ i, i < len → ∃ x : Ac, x.Ok ∧ ∀ (j : Nat) (v : Value), x.vals[j]? = some v → w.cell? ((ad.add (i * 5)).add j) = some v := by
      intro i hil
      obtain ⟨cs', hc, ht⟩ := hi i (by omega)
      rw [hC] at hc
      obtain ⟨x, hx, rfl⟩ := act_read ht
      obtain ⟨_, _, hat⟩ := World.cells?_some hc
      refine ⟨x, hx, fun j v hj => ?_⟩
      have hj5 : j < 5 := by
        have := (List.getElem?_eq_some_iff.1 hj).1
        exact this
      rw [hat j hj5, hj]
    have hex : ∀ k, k ≤ len → ∃ xs : List Ac, xs.length = k ∧ (∀ x ∈ xs, x.Ok) ∧ ∀ i (h : i < xs.length) (j : Nat) (v : Value), xs[i].vals[j]? = some v → w.cell? ((ad.add (i * 5)).add j) = some v := by
      intro k
      induction k with
      | zero => intro _; exact ⟨[], rfl, by simp, fun i h => by simp at h⟩
      | succ k ih =>
        intro hk
        obtain ⟨xs, h1, h2, h3⟩ := ih (by omega)
        obtain ⟨x, hx, hxc⟩ := key k (by omega)
        refine ⟨xs ++ [x], by simp [h1], ?_, ?_⟩
        · intro y hy
          rcases List.mem_append.1 hy with hy | hy
          · exact h2 y hy
          · rw [List.mem_singleton] at hy; rw [hy]; exact hx
        · intro i hi j v hv
          by_cases hik : i < xs.length
          · rw [List.getElem_append_left hik] at hv
            exact h3 i hik j v hv
          · have : i = k := by rw [List.length_append, List.length_singleton] at hi; omega
            subst this
            rw [List.getElem_append_right (by omega)] at hv
            simp [h1] at hv
            exact hxc j v hv
    obtain ⟨xs, h1, h2, h3⟩ := hex len (Nat.le_refl _)
    refine ⟨xs, h1, h2, hl, hm, fun hp => ?_⟩
    have h00 := h3 0 (by omega) 0 _ rfl
    have hsp : ad.spot = none := by
      rcases hs : ad.spot with _ | s
      · rfl
      · exfalso
        rw [Go.Deep.add_add] at h00
        have e : (ad.add (0 * 5 + 0)).spot = ad.spot := by cases ad; simp [Addr.add]
        unfold World.cell? at h00
        rw [e, hs] at h00
        split at h00
        · simp at h00
        · cases h00
    obtain ⟨b, off, sp⟩ := ad
    simp only at hsp
    subst hsp
    have hcell : ∀ i (h : i < xs.length) (j : Nat) (v : Value), xs[i].vals[j]? = some v → w.cell? ⟨b, off + i * 5 + j, none⟩ = some v := by
      intro i hi j v hv
      have := h3 i hi j v hv
      rw [Go.Deep.add_add, Go.WideShapes.add_plain] at this
      rw [Nat.add_assoc]
      exact this
    exact ⟨b, off, rfl, World.block_lt_of_cell? _ _ (hcell 0 (by omega) 0 _ rfl), hcell⟩
end
theorem ActsIn.below {w w' : World} {a : Option Addr} {len cap : Nat} {xs : List Ac} (h : ActsIn w a len cap xs) (k : Below w.heap.size w w') : ActsIn w' a len cap xs := by
  obtain ⟨h1, h2, h3, h4, h5⟩ := h
  refine ⟨h1, h2, h3, h4, fun hp => ?_⟩
  obtain ⟨b, off, rfl, hlt, hc⟩ := h5 hp
  exact ⟨b, off, rfl, Nat.lt_of_lt_of_le hlt k.size, fun i hi j v hv => by rw [k.cell (p := ⟨b, off + i * 5 + j, none⟩) hlt]; exact hc i hi j v hv⟩
theorem ActsIn.at {w : World} {a : Option Addr} {len cap : Nat} {xs : List Ac} (h : ActsIn w a len cap xs) {i : Nat} (hi : i < xs.length) : ∃ b off, a = some ⟨b, off, none⟩ ∧ b < w.heap.size ∧
    w.cell? ⟨b, off + i * 5, none⟩ = some (.int .u8 xs[i].k) ∧ w.cell? ⟨b, off + i * 5 + 1, none⟩ = some (.int .u8 xs[i].a) ∧ w.cell? ⟨b, off + i * 5 + 2, none⟩ = some (.int .u8 xs[i].b) ∧ w.cell? ⟨b, off + i * 5 + 3, none⟩ = some (.int .u8 xs[i].c) ∧ w.cell? ⟨b, off + i * 5 + 4, none⟩ = some (.int .i64 xs[i].n) := by
  obtain ⟨h1, h2, h3, h4, h5⟩ := h
  obtain ⟨b, off, rfl, hlt, hc⟩ := h5 (by omega)
  exact ⟨b, off, rfl, hlt, by have := hc i hi 0 _ rfl; simpa using this, hc i hi 1 _ rfl, hc i hi 2 _ rfl, hc i hi 3 _ rfl, hc i hi 4 _ rfl⟩

end Go.Proofs.Ytajmladlmkkimaa

/-
  A ledger of whatever acts.
-/
namespace Go.Proofs.Ytajmladlmkkimaa
open Go.RowKit
set_option linter.unusedSimpArgs false
set_option linter.unusedVariables false

def MadePost (w : World) (e : Ending) (w' : World) : Prop :=
  ∃ G M ps ls, e = .returned (.pointer (some ⟨G, 0, none⟩)) ∧ LedM w' G M ps ls ∧ LInv ps ls ∧ w.heap.size ≤ G ∧ w.heap.size ≤ M ∧ Below w.heap.size w w'
def MadeAt (w : World) (G M len : Nat) (i : Value) (wr : World) : Prop :=
  ∃ k : Nat, k ≤ len ∧ i = .int .i64 k ∧ ∃ ps ls, LedM wr G M ps ls ∧ LInv ps ls ∧ Below w.heap.size w wr
set_option maxHeartbeats 8000000 in
set_option maxRecDepth 100000 in
theorem made_acts {w : World} {a : Option Addr} {len cap : Nat} {xs : List Ac} (h : ActsIn w a len cap xs) (hl : len ≤ 120) :
    Calls Try.prog 26 #[.slice a len cap] w (MadePost w) := by
  have HA := Lib.hid h
  have hxl : xs.length = len := h.1
  have hcap := h.2.2.1
  have hmax := h.2.2.2.1
  unfold maxLen at hmax
  clear h
  go_enter Try.func26, Try.ntmps26
  go_wp2_with fail
  refine (new_any w).mono ?_
  rintro e w0 ⟨G, M, rfl, h0, hG, hM, hb0⟩
  have H0 := Lib.hid h0
  have B0 := Lib.hid hb0
  clear h0 hb0
  go_wp2_with fail
  go_loopw [4] (MadeAt w G M len) (fun i _ => len - (intOf i).toNat)
  case atStart => exact ⟨0, Nat.zero_le _, rfl, [], [], H0.out, LInv.nil, B0.out⟩
  case round =>
    obtain ⟨k, hk, rfl, ps, ls, hL, hI, hB⟩ := hrel
    have HL := Lib.hid hL
    have HI := Lib.hid hI
    have HB := Lib.hid hB
    clear hL hI hB
    by_cases hkl : k < len
    · obtain ⟨b, off, rfl, hb, d0, d1, d2, d3, d4⟩ := (HA.out.below HB.out).at (i := k) (by omega)
      have hx := HA.out.2.1 xs[k] (List.getElem_mem _)
      generalize hxe : xs[k] = x at *
      clear hxe
      obtain ⟨k1, k2⟩ := hx.k
      have bw := (Below.refl wr.heap.size wr).alloc (Nat.le_refl _) (.cells #[.int .u8 x.k, .int .u8 x.a, .int .u8 x.b, .int .u8 x.c, .int .i64 x.n] 45)
      have HW := Lib.hid (HL.out.below bw)
      have BW := Lib.hid (HB.out.trans (bw.mono HB.out.size))
      clear bw
      have hs : x.k % 8 = 0 ∨ x.k % 8 = 1 ∨ x.k % 8 = 2 ∨ x.k % 8 = 3 ∨ x.k % 8 = 4 ∨ x.k % 8 = 5 ∨ x.k % 8 = 6 ∨ x.k % 8 = 7 := by omega
      rcases hs with hj | hj | hj | hj | hj | hj | hj | hj
      · have q1 : x.k % 8 = 0 := hj
        have q2 : x.k.tmod 8 = 0 := by rw [Int.tmod_eq_emod_of_nonneg hx.k.1]; exact hj
        clear hj
        have C := Lib.hid (open_any HW.out HI.out.bd x.a)
        have HI2 := Lib.hid (LInv.open HI.out x.a)
        clear hx
        go_wp2_with fail
        refine C.out.mono ?_
        rintro e w2 ⟨rfl, h2, k2⟩
        have H2 := Lib.hid h2
        have B2 := Lib.hid (BW.out.trans (k2.below BW.out.size (fun b hb e => by omega)))
        clear h2 k2 C
        go_wp2_with fail
        go_roundw
        case rel => exact ⟨k + 1, by omega, by go_num, _, _, H2.out, HI2.out, B2.out⟩
        case measure => simp [intOf]; omega
      · have q1 : x.k % 8 = 1 := hj
        have q2 : x.k.tmod 8 = 1 := by rw [Int.tmod_eq_emod_of_nonneg hx.k.1]; exact hj
        clear hj
        have C := Lib.hid (ptrust_any (a := x.a) (b := x.b) (c := x.c) (n := x.n) HW.out HI.out hx.a hx.b hx.c)
        have HI2 := Lib.hid (LInv.trust HI.out x.a x.b x.c x.n)
        clear hx
        go_wp2_with fail
        refine C.out.mono ?_
        rintro e w2 ⟨rfl, h2, k2⟩
        have H2 := Lib.hid h2
        have B2 := Lib.hid (BW.out.trans (k2.below BW.out.size (fun b hb e => by omega)))
        clear h2 k2 C
        go_wp2_with fail
        go_roundw
        case rel => exact ⟨k + 1, by omega, by go_num, _, _, H2.out, HI2.out, B2.out⟩
        case measure => simp [intOf]; omega
      · have q1 : x.k % 8 = 2 := hj
        have q2 : x.k.tmod 8 = 2 := by rw [Int.tmod_eq_emod_of_nonneg hx.k.1]; exact hj
        clear hj
        have C := Lib.hid (ptrust_any (a := x.a) (b := x.b) (c := x.c) (n := x.n) HW.out HI.out hx.a hx.b hx.c)
        have HI2 := Lib.hid (LInv.trust HI.out x.a x.b x.c x.n)
        clear hx
        go_wp2_with fail
        refine C.out.mono ?_
        rintro e w2 ⟨rfl, h2, k2⟩
        have H2 := Lib.hid h2
        have B2 := Lib.hid (BW.out.trans (k2.below BW.out.size (fun b hb e => by omega)))
        clear h2 k2 C
        go_wp2_with fail
        go_roundw
        case rel => exact ⟨k + 1, by omega, by go_num, _, _, H2.out, HI2.out, B2.out⟩
        case measure => simp [intOf]; omega
      · have q1 : x.k % 8 = 3 := hj
        have q2 : x.k.tmod 8 = 3 := by rw [Int.tmod_eq_emod_of_nonneg hx.k.1]; exact hj
        clear hj
        have C := Lib.hid (ppush_any (a := x.a) (b := x.b) (c := x.c) (n := x.n) HW.out HI.out hx.a hx.b hx.c hx.n)
        have HI2 := Lib.hid (LInv.push HI.out x.a x.b x.c x.n)
        clear hx
        go_wp2_with fail
        refine C.out.mono ?_
        rintro e w2 ⟨rfl, h2, k2⟩
        have H2 := Lib.hid h2
        have B2 := Lib.hid (BW.out.trans (k2.below BW.out.size (fun b hb e => by omega)))
        clear h2 k2 C
        go_wp2_with fail
        go_roundw
        case rel => exact ⟨k + 1, by omega, by go_num, _, _, H2.out, HI2.out, B2.out⟩
        case measure => simp [intOf]; omega
      · have q1 : x.k % 8 = 4 := hj
        have q2 : x.k.tmod 8 = 4 := by rw [Int.tmod_eq_emod_of_nonneg hx.k.1]; exact hj
        clear hj
        have C := Lib.hid (ppush_any (a := x.a) (b := x.b) (c := x.c) (n := x.n) HW.out HI.out hx.a hx.b hx.c hx.n)
        have HI2 := Lib.hid (LInv.push HI.out x.a x.b x.c x.n)
        clear hx
        go_wp2_with fail
        refine C.out.mono ?_
        rintro e w2 ⟨rfl, h2, k2⟩
        have H2 := Lib.hid h2
        have B2 := Lib.hid (BW.out.trans (k2.below BW.out.size (fun b hb e => by omega)))
        clear h2 k2 C
        go_wp2_with fail
        go_roundw
        case rel => exact ⟨k + 1, by omega, by go_num, _, _, H2.out, HI2.out, B2.out⟩
        case measure => simp [intOf]; omega
      · have q1 : x.k % 8 = 5 := hj
        have q2 : x.k.tmod 8 = 5 := by rw [Int.tmod_eq_emod_of_nonneg hx.k.1]; exact hj
        clear hj
        have C := Lib.hid (ppush_any (a := x.a) (b := x.b) (c := x.c) (n := x.n) HW.out HI.out hx.a hx.b hx.c hx.n)
        have HI2 := Lib.hid (LInv.push HI.out x.a x.b x.c x.n)
        clear hx
        go_wp2_with fail
        refine C.out.mono ?_
        rintro e w2 ⟨rfl, h2, k2⟩
        have H2 := Lib.hid h2
        have B2 := Lib.hid (BW.out.trans (k2.below BW.out.size (fun b hb e => by omega)))
        clear h2 k2 C
        go_wp2_with fail
        go_roundw
        case rel => exact ⟨k + 1, by omega, by go_num, _, _, H2.out, HI2.out, B2.out⟩
        case measure => simp [intOf]; omega
      · have q1 : x.k % 8 = 6 := hj
        have q2 : x.k.tmod 8 = 6 := by rw [Int.tmod_eq_emod_of_nonneg hx.k.1]; exact hj
        clear hj
        have C := Lib.hid (forgive_any (a := x.a) (b := x.b) (c := x.c) (n := x.n) HW.out HI.out.inv hx.a hx.b hx.c hx.n)
        have HI2 := Lib.hid (LInv.forgive HI.out x.a x.b x.c x.n)
        clear hx
        go_wp2_with fail
        refine C.out.mono ?_
        rintro e w2 ⟨rfl, h2, k2⟩
        have H2 := Lib.hid h2
        have B2 := Lib.hid (BW.out.trans (k2.below BW.out.size (fun b hb e => by omega)))
        clear h2 k2 C
        go_wp2_with fail
        go_roundw
        case rel => exact ⟨k + 1, by omega, by go_num, _, _, H2.out, HI2.out, B2.out⟩
        case measure => simp [intOf]; omega
      · have q1 : x.k % 8 = 7 := hj
        have q2 : x.k.tmod 8 = 7 := by rw [Int.tmod_eq_emod_of_nonneg hx.k.1]; exact hj
        clear hj
        clear hx
        go_wp2_with fail
        go_roundw
        case rel => exact ⟨k + 1, by omega, by go_num, ps, ls, HW.out, HI.out, BW.out⟩
        case measure => simp [intOf]; omega
    · go_wp2_with fail
      refine bodyPost_ret (v := .pointer (some ⟨G, 0, none⟩)) (by simp [results, Try.results26, go_sem]) rfl ?_
      exact ⟨G, M, ps, ls, rfl, HL.out, HI.out, hG, hM, HB.out⟩

end Go.Proofs.Ytajmladlmkkimaa
