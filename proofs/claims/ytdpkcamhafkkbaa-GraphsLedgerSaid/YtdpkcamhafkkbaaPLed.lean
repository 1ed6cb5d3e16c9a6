/-
  The program's ledgers: one in memory; all, made, partyMay, Has, may, line, Open, New.
-/
import Derived.Test.YtdpkcamhafkkbaaEnds2
import Derived.Test.YtdpkcamhafkkbaaLays
namespace Go.Proofs.Ytdpkcamhafkkbaa
open Go.RowKit
set_option linter.unusedSimpArgs false
set_option linter.unusedVariables false

/-- A ledger's eighteen cells: which parties there are, and its map. -/
def ledC (ps : List Int) (v : Value) : Array Value := Array.ofFn (n := 18) fun i => if i.val = 17 then v else .bool (decide ((i.val : Int) ∈ ps))
theorem ledC_size (ps : List Int) (v : Value) : (ledC ps v).size = 18 := by simp [ledC]
theorem ledC_map (ps : List Int) (v : Value) : (ledC ps v)[17]? = some v := by simp [ledC]
theorem ledC_has (ps : List Int) (v : Value) (i : Nat) (h : i < 17) : (ledC ps v)[i]? = some (.bool (decide ((i : Int) ∈ ps))) := by
  have h1 : i < 18 := by omega
  have h2 : i ≠ 17 := by omega
  simp [ledC, h1, h2]
attribute [irreducible] ledC

/-- The program's ledger at block g: these parties, and its map at block m with these lines. -/
structure LedM (w : World) (g m : Nat) (ps : List Int) (ls : List Ln) : Prop where
  blk : Blk w g (ledC ps (.map (some m))) 88
  map : MapIs w m ls
theorem LedM.keep {S : Nat → Prop} {w w' : World} {g m : Nat} {ps : List Int} {ls : List Ln} (h : LedM w g m ps ls) (k : Keep S w w') (hg : ¬ S g) (hm : ¬ S m) : LedM w' g m ps ls := ⟨h.blk.keep k hg, h.map.keep k hm⟩
theorem LedM.below {w w' : World} {g m : Nat} {ps : List Int} {ls : List Ln} (h : LedM w g m ps ls) (k : Below w.heap.size w w') : LedM w' g m ps ls := ⟨h.blk.below k h.blk.lt, h.map.below k h.map.lt⟩
theorem LedM.ne {w : World} {g m : Nat} {ps : List Int} {ls : List Ln} (h : LedM w g m ps ls) : m ≠ g := h.map.ne_blk h.blk
theorem Blk.ledMap {w : World} {g : Nat} {ps : List Int} {v : Value} {t : TypeId} (h : Blk w g (ledC ps v) t) : w.cell? ⟨g, 17, none⟩ = some v := by rw [h.cell 17, ledC_map]
theorem Blk.ledHas {w : World} {g : Nat} {ps : List Int} {v : Value} {t : TypeId} (h : Blk w g (ledC ps v) t) {p : Int} (h0 : 0 ≤ p) (h1 : p < 17) : w.cell? ⟨g, p.toNat, none⟩ = some (.bool (decide (p ∈ ps))) := by
  rw [h.cell p.toNat, ledC_has ps v p.toNat (by omega), Int.toNat_of_nonneg h0]

theorem all_any {w : World} {g : Nat} {ps : List Int} {v : Value} (h : Blk w g (ledC ps v) 88) :
    Calls Try.prog 40 #[.pointer (some ⟨g, 0, none⟩)] w fun e w' => e = .returned v ∧ w = w' := by
  have d := h.ledMap
  have hlt := h.lt
  clear h
  go_enter Try.func40, Try.ntmps40
  go_wp2
  go_ret
  exact ⟨rfl, rfl⟩
theorem all_nil (w : World) : Calls Try.prog 40 #[.pointer none] w fun e w' => e = .returned (.map none) ∧ w = w' := by
  go_enter Try.func40, Try.ntmps40
  go_wp2
  go_ret
  exact ⟨rfl, rfl⟩

theorem run_neq_map {P : Program} (w : World) (t k e : TypeId) (p : Option Nat) (h : P.underlying t = some (.map k e)) :
    (binOp .neq t (.map p) (.map none)).run P w = .ok (.bool p.isSome) w := by
  have h1 : ∀ d, (Op.equalIn (d + 1) t (.map p) (.map none)).run P w = .ok p.isNone w := fun d => by cases p <;> simp [Op.equalIn, run_underlying h]
  have h2 := h1 9999
  simp only [binOp]
  rw [show Op.equal t (.map p) (.map none) = Op.equalIn (9999 + 1) t (.map p) (.map none) from rfl]
  generalize Op.equalIn (9999 + 1) t (.map p) (.map none) = X at *
  cases p <;> simp [h2]
theorem made_of {w : World} {pv : Value} {o : Option Nat} (c : Calls Try.prog 40 #[pv] w fun e w' => e = .returned (.map o) ∧ w = w') :
    Calls Try.prog 41 #[pv] w fun e w' => e = .returned (.bool o.isSome) ∧ w = w' := by
  have C := Lib.hid c
  have q := run_neq_map w _ _ _ o Try.underlying83
  clear c
  go_enter Try.func41, Try.ntmps41
  go_wp2_with fail
  refine C.out.mono ?_
  rintro e w ⟨rfl, rfl⟩
  go_wp2_with fail
  go_ret
  exact ⟨rfl, rfl⟩
theorem made_any {w : World} {g m : Nat} {ps : List Int} (h : Blk w g (ledC ps (.map (some m))) 88) :
    Calls Try.prog 41 #[.pointer (some ⟨g, 0, none⟩)] w fun e w' => e = .returned (.bool true) ∧ w = w' := made_of (all_any h)

def mayP (p : Int) : Bool := decide (1 ≤ p ∧ p ≤ 16)
theorem partyMay_any (p : Int) (w : World) : Calls Try.prog 43 #[.int .u8 p] w fun e w' => e = .returned (.bool (mayP p)) ∧ w = w' := by
  have hs : (¬ 1 ≤ p ∧ mayP p = false) ∨ (1 ≤ p ∧ p ≤ 16 ∧ mayP p = true) ∨ (1 ≤ p ∧ ¬ p ≤ 16 ∧ mayP p = false) := by unfold mayP; simp; omega
  rcases hs with ⟨h1, h2⟩ | ⟨h1, h3, h2⟩ | ⟨h1, h3, h2⟩
  all_goals
    rw [h2]
    clear h2
    go_enter Try.func43, Try.ntmps43
    go_wp2
    go_ret
    exact ⟨rfl, rfl⟩

set_option maxHeartbeats 1000000 in
theorem has_any {w : World} {g m : Nat} {ps : List Int} (h : Blk w g (ledC ps (.map (some m))) 88) (hb : ∀ p ∈ ps, 1 ≤ p ∧ p ≤ 16) (p : Int) :
    Calls Try.prog 45 #[.pointer (some ⟨g, 0, none⟩), .int .u8 p] w fun e w' => e = .returned (.bool (decide (p ∈ ps))) ∧ w = w' := by
  have C1 := Lib.hid (made_any h)
  have C2 := Lib.hid (partyMay_any p w)
  have hlt := h.lt
  by_cases hp : 1 ≤ p ∧ p ≤ 16
  · obtain ⟨p1, p2⟩ := hp
    have d := h.ledHas (p := p) (by omega) (by omega)
    rw [show mayP p = true by unfold mayP; simp; omega] at C2
    have p3 : 0 ≤ p := by omega
    have p4 : p < 17 := by omega
    clear h hb
    generalize decide (p ∈ ps) = b at *
    go_enter Try.func45, Try.ntmps45
    go_wp2_with fail
    refine C1.out.mono ?_
    rintro e w ⟨rfl, rfl⟩
    go_wp2_with fail
    refine C2.out.mono ?_
    rintro e w ⟨rfl, rfl⟩
    go_wp2_with fail
    go_ret
    exact ⟨rfl, rfl⟩
  · have hf : decide (p ∈ ps) = false := by
      rw [decide_eq_false_iff_not]
      exact fun hm => hp (hb p hm)
    rw [hf]
    rw [show mayP p = false by unfold mayP; simp; omega] at C2
    clear h hb hp hf
    go_enter Try.func45, Try.ntmps45
    go_wp2_with fail
    refine C1.out.mono ?_
    rintro e w ⟨rfl, rfl⟩
    go_wp2_with fail
    refine C2.out.mono ?_
    rintro e w ⟨rfl, rfl⟩
    go_wp2_with fail
    go_ret
    exact ⟨rfl, rfl⟩

def mayE (a b c : Int) : Bool := decide ((1 ≤ a ∧ a ≤ 16) ∧ (1 ≤ b ∧ b ≤ 16) ∧ a ≠ b ∧ 1 ≤ c ∧ c ≤ 8)
set_option maxHeartbeats 2000000 in
theorem may_any (a b c : Int) (w : World) : Calls Try.prog 44 #[.agg #[.int .u8 a, .int .u8 b, .int .u8 c]] w fun e w' => e = .returned (.bool (mayE a b c)) ∧ Below w.heap.size w w' := by
  have B := Lib.hid ((Below.refl w.heap.size w).alloc (Nat.le_refl _) (.cells #[.int .u8 a, .int .u8 b, .int .u8 c] 86))
  have C1 := Lib.hid (partyMay_any a)
  have C2 := Lib.hid (partyMay_any b)
  have hs : (mayP a = false ∧ mayE a b c = false) ∨ (mayP a = true ∧ mayP b = false ∧ mayE a b c = false) ∨ (mayP a = true ∧ mayP b = true ∧ (a == b) = true ∧ mayE a b c = false) ∨
      (mayP a = true ∧ mayP b = true ∧ (a == b) = false ∧ ¬ 1 ≤ c ∧ mayE a b c = false) ∨ (mayP a = true ∧ mayP b = true ∧ (a == b) = false ∧ 1 ≤ c ∧ decide (c ≤ 8) = false ∧ mayE a b c = false) ∨ (mayP a = true ∧ mayP b = true ∧ (a == b) = false ∧ 1 ≤ c ∧ c ≤ 8 ∧ mayE a b c = true) := by
    unfold mayP mayE
    by_cases e : a = b
    · have : (a == b) = true := by simp [e]
      rw [this]; simp; omega
    · have : (a == b) = false := by simp [e]
      rw [this]; simp; omega
  have hneq : (a != b) = !(a == b) := rfl
  rcases hs with ⟨h1, h2⟩ | ⟨h1, h3, h2⟩ | ⟨h1, h3, h4, h2⟩ | ⟨h1, h3, h4, h5, h2⟩ | ⟨h1, h3, h4, h5, h6, h2⟩ | ⟨h1, h3, h4, h5, h6, h2⟩
  · rw [h1] at C1
    rw [h2]
    clear h1 h2
    go_enter Try.func44, Try.ntmps44
    go_wp2_with fail
    refine (C1.out _).mono ?_
    rintro e w1 ⟨rfl, rfl⟩
    go_wp2_with fail
    go_ret
    exact ⟨rfl, B.out⟩
  all_goals
    rw [h1] at C1
    rw [h3] at C2
    rw [h2]
    clear h1 h3 h2
    go_enter Try.func44, Try.ntmps44
    go_wp2_with fail
    refine (C1.out _).mono ?_
    rintro e w1 ⟨rfl, rfl⟩
    go_wp2_with fail
    refine (C2.out _).mono ?_
    rintro e w1 ⟨rfl, rfl⟩
    go_wp2_with fail
    go_ret
    exact ⟨rfl, B.out⟩


theorem ledC_nil (m : Nat) : ledC [] (.map (some m)) = #[.bool false, .bool false, .bool false, .bool false, .bool false, .bool false, .bool false, .bool false, .bool false, .bool false, .bool false, .bool false, .bool false, .bool false, .bool false, .bool false, .bool false, .map (some m)] := by
  unfold ledC
  rfl
def NewPost (w : World) (e : Ending) (w' : World) : Prop := ∃ g m, e = .returned (.pointer (some ⟨g, 0, none⟩)) ∧ LedM w' g m [] [] ∧ w.heap.size ≤ g ∧ w.heap.size ≤ m ∧ Below w.heap.size w w'
set_option maxHeartbeats 1000000 in
theorem new_any (w : World) : Calls Try.prog 36 #[] w (NewPost w) := by
  have hmm := @run_makeMap Try.prog
  go_enter Try.func36, Try.ntmps36
  go_wp2
  refine bodyPost_ret (v := .pointer (some ⟨w.heap.size + 1, 0, none⟩)) (by simp [results, Try.results36, go_sem]) rfl ?_
  refine ⟨w.heap.size + 1, w.heap.size, rfl, ⟨?_, ?_⟩, by omega, Nat.le_refl _, ((Below.refl _ _).alloc (Nat.le_refl _) _).alloc (by simp) _⟩
  · rw [ledC_nil]
    exact Blk.newAt _ _ _ (by simp)
  · exact (MapIs.made w).below ((Below.refl _ _).alloc (Nat.le_refl _) _) (by simp)

theorem ledC_set (ps : List Int) (v : Value) {p : Int} (hp : 1 ≤ p ∧ p ≤ 16) (qs : List Int) (hq : ∀ q, q ∈ qs ↔ (q = p ∨ q ∈ ps)) : (ledC ps v).setIfInBounds p.toNat (.bool true) = ledC qs v := by
  apply Array.ext_getElem?
  intro j
  by_cases h18 : j < 18
  · by_cases hj : j = p.toNat
    · subst hj
      rw [Array.getElem?_setIfInBounds_self_of_lt (by rw [ledC_size]; exact h18), ledC_has qs v _ (by omega), Int.toNat_of_nonneg (by omega)]
      simp [(hq p).2 (.inl rfl)]
    · rw [Array.getElem?_setIfInBounds_ne (Ne.symm hj)]
      by_cases h17 : j = 17
      · subst h17; rw [ledC_map, ledC_map]
      · rw [ledC_has _ _ _ (by omega), ledC_has _ _ _ (by omega)]
        have : ((j : Int) ∈ ps) ↔ ((j : Int) ∈ qs) := by
          rw [hq]
          constructor
          · exact .inr
          · rintro (e | e)
            · omega
            · exact e
        simp [this]
  · rw [Array.getElem?_eq_none (by simp [ledC_size]; omega), Array.getElem?_eq_none (by rw [ledC_size]; omega)]
set_option maxHeartbeats 2000000 in
theorem open_any {w : World} {g m : Nat} {ps : List Int} {ls : List Ln} (h : LedM w g m ps ls) (hb : ∀ p ∈ ps, 1 ≤ p ∧ p ≤ 16) (p : Int) :
    Calls Try.prog 37 #[.pointer (some ⟨g, 0, none⟩), .int .u8 p] w fun e w' => e = .returned (.int .i64 (openE ps p)) ∧ LedM w' g m (openP ps p) ls ∧ Keep (· = g) w w' := by
  have C1 := Lib.hid (made_any h.blk)
  have C2 := Lib.hid (partyMay_any p w)
  have hlt := h.blk.lt
  have hne := h.ne
  by_cases hp : 1 ≤ p ∧ p ≤ 16
  · obtain ⟨p1, p2⟩ := hp
    have d := h.blk.ledHas (p := p) (by omega) (by omega)
    have f := h.blk.frozen p.toNat
    rw [show mayP p = true by unfold mayP; simp; omega] at C2
    have p3 : 0 ≤ p := by omega
    have p4 : p < 17 := by omega
    by_cases hm : p ∈ ps
    · have E : openE ps p = 8 ∧ openP ps p = ps := by unfold openE openP; rw [if_neg (by omega), if_pos hm, if_neg (by omega), if_pos hm]; exact ⟨rfl, rfl⟩
      rw [E.1, E.2]
      have H := Lib.hid h
      rw [decide_eq_true hm] at d
      clear h hb hm E
      go_enter Try.func37, Try.ntmps37
      go_wp2_with fail
      refine C1.out.mono ?_
      rintro e w ⟨rfl, rfl⟩
      go_wp2_with fail
      refine C2.out.mono ?_
      rintro e w ⟨rfl, rfl⟩
      go_wp2_with fail
      go_ret
      exact ⟨rfl, H.out, Keep.refl _ _⟩
    · have E : openE ps p = 0 ∧ openP ps p = openTo ps p 17 := by unfold openE openP; rw [if_neg (by omega), if_neg hm, if_neg (by omega), if_neg hm]; exact ⟨rfl, rfl⟩
      rw [E.1, E.2]
      have H : Hid (LedM (w.setCell ⟨g, p.toNat, none⟩ (.bool true)) g m (openTo ps p 17) ls ∧ Keep (· = g) w (w.setCell ⟨g, p.toNat, none⟩ (.bool true))) := Lib.hid (by
        have k := (Keep.refl (· = g) w).setCell (p := ⟨g, p.toNat, none⟩) (.inl rfl) (.bool true)
        refine ⟨⟨?_, h.map.keep k hne⟩, k⟩
        have := h.blk.set p.toNat (.bool true)
        rwa [ledC_set ps _ ⟨p1, p2⟩ (openTo ps p 17) (fun q => by
          rw [openTo_mem]
          constructor
          · exact fun k => k.2
          · rintro (rfl | k)
            · exact ⟨⟨p1, p2⟩, .inl rfl⟩
            · exact ⟨hb q k, .inr k⟩)] at this)
      rw [decide_eq_false hm] at d
      clear h hb hm E
      go_enter Try.func37, Try.ntmps37
      go_wp2_with fail
      refine C1.out.mono ?_
      rintro e w ⟨rfl, rfl⟩
      go_wp2_with fail
      refine C2.out.mono ?_
      rintro e w ⟨rfl, rfl⟩
      go_wp2_with fail
      go_ret
      exact ⟨rfl, H.out.1, H.out.2⟩
  · have E : openE ps p = 1 ∧ openP ps p = ps := by unfold openE openP; rw [if_pos (by omega), if_pos (by omega)]; exact ⟨rfl, rfl⟩
    rw [E.1, E.2]
    have H := Lib.hid h
    rw [show mayP p = false by unfold mayP; simp; omega] at C2
    clear h hb hp E
    go_enter Try.func37, Try.ntmps37
    go_wp2_with fail
    refine C1.out.mono ?_
    rintro e w ⟨rfl, rfl⟩
    go_wp2_with fail
    refine C2.out.mono ?_
    rintro e w ⟨rfl, rfl⟩
    go_wp2_with fail
    go_ret
    exact ⟨rfl, H.out, Keep.refl _ _⟩

end Go.Proofs.Ytdpkcamhafkkbaa
