/-
  Parties in a row of one's own: slices.Reverse, slices.Min, slices.Clip; package paths: partyMay.
-/
import Derived.Test.YtmfacfnbokadmaaPGr
import Derived.Test.YtmfacfnbokadmaaRowed
import Derived.Test.YtmfacfnbokadmaaRef03d
namespace Go.Proofs.Ytmfacfnbokadmaa
open Go.RowKit
set_option linter.unusedSimpArgs false
set_option linter.unusedVariables false

theorem clipY_any {w : World} {base : Nat} {v : Value} {n : Nat} {xs : List Value} (h : w.ownsRow base 35 1 v n xs) :
    Calls Try.prog 41 #[v] w (ClipPost w base 35 1 n v xs) := by
  rcases h.2 with ⟨rfl, h0⟩ | ⟨g, cap, cur, rfl, hbase, hb, h1, h2, h3, h4⟩
  · subst h0
    have hr := run_slice_clip_none (P := Try.prog) w 42 35 1 Try.underlying42 (Try.sizeOf35 w)
    have hx := h.1
    have hx2 := Lib.hid hx
    clear h hx
    go_enter Try.func41, Try.ntmps41
    go_wp2
    refine bodyPost_ret (v := .slice none 0 0) (by simp [results, Try.results41, go_sem]) rfl ?_
    exact ⟨_, rfl, ⟨hx2.out, .inl ⟨rfl, rfl⟩⟩, rfl, rfl⟩
  · have hr := run_slice_clip (P := Try.prog) w 42 35 1 Try.underlying42 (Try.sizeOf35 w) g n cap h1
    have HR := Lib.hid (show Rowed w base 35 1 (.slice (some ⟨g, 0, none⟩) n n) n xs from ⟨h.1, .inr ⟨g, cur, rfl, hbase, hb, by omega, by omega, h4⟩⟩)
    clear h hb h4 h3
    unfold maxLen at h2
    go_enter Try.func41, Try.ntmps41
    go_wp2
    refine bodyPost_ret (v := .slice (some ⟨g, 0, none⟩) n n) (by simp [results, Try.results41, go_sem]) rfl ?_
    exact ⟨_, rfl, HR.out, rfl, rfl⟩

/-- A block that holds n parties, and has c cells. -/
def RowF (w : World) (g : Nat) (e : TypeId) (c n : Nat) (F : Nat → Int) : Prop := ∃ cur, Blk w g cur e ∧ cur.size = c ∧ n ≤ c ∧ ∀ p, p < n → cur[p]? = some (.int .u8 (F p))
theorem RowF.lt {w : World} {g : Nat} {e : TypeId} {c n : Nat} {F : Nat → Int} (h : RowF w g e c n F) : g < w.heap.size := by
  obtain ⟨cur, h1, _⟩ := h
  exact h1.lt
theorem RowF.cell {w : World} {g : Nat} {e : TypeId} {c n : Nat} {F : Nat → Int} (h : RowF w g e c n F) {p : Nat} (hp : p < n) : w.cell? ⟨g, p, none⟩ = some (.int .u8 (F p)) := by
  obtain ⟨cur, h1, _, _, h4⟩ := h
  rw [h1.cell]; exact h4 p hp
theorem RowF.frozen {w : World} {g : Nat} {e : TypeId} {c n : Nat} {F : Nat → Int} (h : RowF w g e c n F) (p : Nat) : w.frozen? ⟨g, p, none⟩ = false := by
  obtain ⟨cur, h1, _⟩ := h
  exact h1.frozen p
theorem RowF.set {w : World} {g : Nat} {e : TypeId} {c n : Nat} {F : Nat → Int} (h : RowF w g e c n F) {p : Nat} (hp : p < n) (u : Int) : RowF (w.setCell ⟨g, p, none⟩ (.int .u8 u)) g e c n (fun q => if q = p then u else F q) := by
  obtain ⟨cur, h1, h2, h3, h4⟩ := h
  refine ⟨_, h1.set p (.int .u8 u), by simpa using h2, h3, fun q hq => ?_⟩
  by_cases e : q = p
  · subst e
    rw [Array.getElem?_setIfInBounds_self_of_lt (by omega)]
    simp
  · rw [Array.getElem?_setIfInBounds_ne (fun h => e h.symm), h4 q hq]
    simp [e]
theorem RowF.congr {w : World} {g : Nat} {e : TypeId} {c n : Nat} {F G : Nat → Int} (h : RowF w g e c n F) (hf : ∀ p, p < n → F p = G p) : RowF w g e c n G := by
  obtain ⟨cur, h1, h2, h3, h4⟩ := h
  exact ⟨cur, h1, h2, h3, fun p hp => by rw [← hf p hp]; exact h4 p hp⟩
theorem RowF.drew {w : World} {g : Nat} {e : TypeId} {c n : Nat} {F : Nat → Int} (h : RowF w g e c n F) : RowF w.drew g e c n F := h
theorem RowF.owns {w : World} {g : Nat} {e : TypeId} {c n base : Nat} {F : Nat → Int} (h : RowF w g e c n F) (hb : base ≤ g) (hc : c ≤ maxLen) {L : List Int} (hl : L.length = n) (hL : ∀ p (hp : p < L.length), L[p] = F p) :
    w.ownsRow base e 1 (.slice (some ⟨g, 0, none⟩) n c) n (L.map (.int .u8)) := by
  obtain ⟨cur, h1, h2, h3, h4⟩ := h
  refine ⟨by simp [hl], .inr ⟨g, c, cur, rfl, hb, h1, h3, hc, by omega, ?_⟩⟩
  apply List.ext_getElem?
  intro p
  by_cases hp : p < n
  · rw [List.getElem?_take_of_lt (by omega), Array.getElem?_toList, h4 p hp, List.getElem?_map, List.getElem?_eq_getElem (by omega), hL p (by omega)]
    rfl
  · rw [List.getElem?_eq_none (by simp; omega), List.getElem?_eq_none (by simp; omega)]
theorem RowF.of {w : World} {base : Nat} {e : TypeId} {v : Value} {L : List Int} (h : w.ownsRow base e 1 v L.length (L.map (.int .u8))) (h0 : 0 < L.length) :
    ∃ g c, v = .slice (some ⟨g, 0, none⟩) L.length c ∧ base ≤ g ∧ c ≤ maxLen ∧ L.length ≤ c ∧ RowF w g e c L.length (fun p => L.getD p 0) := by
  obtain ⟨_, ⟨_, h2⟩ | ⟨g, cap, cur, rfl, hb, hg, h1, h2, h3, h4⟩⟩ := h
  · omega
  · refine ⟨g, cap, rfl, hb, h2, h1, cur, hg, by omega, h1, fun p hp => ?_⟩
    have : (cur.toList.take (L.length * 1))[p]? = (L.map (Value.int .u8))[p]? := by rw [h4]
    rw [List.getElem?_take_of_lt (by omega), Array.getElem?_toList, List.getElem?_map] at this
    rw [this, List.getElem?_eq_getElem hp]
    simp [List.getElem?_eq_getElem hp]

def RevAt (w : World) (g : Nat) (e : TypeId) (c n : Nat) (F : Nat → Int) (iv jv : Value) (wr : World) : Prop :=
  ∃ (i : Nat) (j : Int), i ≤ n ∧ j = (n : Int) - 1 - i ∧ iv = .int .i64 i ∧ jv = .int .i64 j ∧ RowF wr g e c n (fun p => if p < i ∨ n ≤ p + i then F (n - 1 - p) else F p) ∧ Below g w wr
set_option maxHeartbeats 4000000 in
theorem revF_any {w : World} {g c n : Nat} {F : Nat → Int} (h : RowF w g 35 c n F) (hn : n ≤ 100000) :
    Calls Try.prog 40 #[.slice (some ⟨g, 0, none⟩) n c] w fun e w' => e = .returned (.tuple #[]) ∧ RowF w' g 35 c n (fun p => F (n - 1 - p)) ∧ Below g w w' := by
  have H := Lib.hid h
  clear h
  go_enter Try.func40, Try.ntmps40
  go_wp2
  go_loopw [2, 3] (RevAt w g 35 c n F) (fun i _ _ => n - (intOf i).toNat)
  case atStart => exact ⟨0, (n : Int) - 1, by omega, by omega, rfl, rfl, H.out.congr (fun p hp => by rw [if_neg (by omega)]), Below.refl _ _⟩
  case round =>
    obtain ⟨i, j, hi, hj, rfl, rfl, hrow, hb⟩ := hrel
    have R := Lib.hid hrow
    have B := Lib.hid hb
    clear hrow hb H
    by_cases hlt : (i : Int) < j
    · obtain ⟨k, rfl⟩ : ∃ k : Nat, j = k := ⟨j.toNat, by omega⟩
      have hik : i < k := by omega
      have hkn : k + i + 1 = n := by omega
      have HK := Lib.hid hkn
      clear hj
      have ci := R.out.cell (p := i) (by omega)
      have ck := R.out.cell (p := k) (by omega)
      have fi := R.out.frozen i
      have fk := R.out.frozen k
      have hgl := R.out.lt
      try dsimp only at ci ck
      rw [if_neg (by omega)] at ci ck
      clear hkn
      have hkn := HK.out
      have RA := Lib.hid ((R.out.drew.set (p := i) (by omega) (F k)).set (p := k) (by omega) (F i))
      have RB := Lib.hid ((R.out.drew.set (p := k) (by omega) (F i)).set (p := i) (by omega) (F k))
      have BA := Lib.hid ((((B.out.trans (Below.refl g wr).drew).setCell (p := ⟨g, i, none⟩) (Nat.le_refl _) (.int .u8 (F k)))).setCell (p := ⟨g, k, none⟩) (Nat.le_refl _) (.int .u8 (F i)))
      have BB := Lib.hid ((((B.out.trans (Below.refl g wr).drew).setCell (p := ⟨g, k, none⟩) (Nat.le_refl _) (.int .u8 (F i)))).setCell (p := ⟨g, i, none⟩) (Nat.le_refl _) (.int .u8 (F k)))
      have FE : Hid (∀ p, p < n → (if p = k then F i else if p = i then F k else if p < i ∨ n ≤ p + i then F (n - 1 - p) else F p) = if p < i + 1 ∨ n ≤ p + (i + 1) then F (n - 1 - p) else F p) := Lib.hid (fun p hp => by
        by_cases e1 : p = k
        · subst e1; rw [if_pos rfl, if_pos (by omega)]; congr 1; omega
        · rw [if_neg e1]
          by_cases e2 : p = i
          · subst e2; rw [if_pos rfl, if_pos (by omega)]; congr 1; omega
          · rw [if_neg e2]
            by_cases e3 : p < i ∨ n ≤ p + i
            · rw [if_pos e3, if_pos (by omega)]
            · rw [if_neg e3, if_neg (by omega)])
      have FE2 : Hid (∀ p, p < n → (if p = i then F k else if p = k then F i else if p < i ∨ n ≤ p + i then F (n - 1 - p) else F p) = if p < i + 1 ∨ n ≤ p + (i + 1) then F (n - 1 - p) else F p) := Lib.hid (fun p hp => by
        rw [← FE.out p hp]
        by_cases e1 : p = k
        · rw [if_neg (by omega), if_pos e1, if_pos e1]
        · by_cases e2 : p = i
          · rw [if_pos e2, if_neg e1, if_pos e2]
          · rw [if_neg e2, if_neg e1, if_neg e1, if_neg e2])
      have R1 := Lib.hid (RA.out.congr FE.out)
      have R2 := Lib.hid (RB.out.congr FE2.out)
      clear RA RB FE FE2 R
      go_wp2_with fail
      go_region
      all_goals
        go_wp2
        go_roundw
        case rel => exact ⟨i + 1, (k : Int) - 1, by omega, by omega, by go_num, by go_num, by first | exact R1.out | exact R2.out, by first | exact BA.out | exact BB.out⟩
        case measure => simp [intOf]; omega
    · go_wp2
      go_end0
      refine ⟨rfl, R.out.congr (fun p hp => ?_), B.out⟩
      by_cases e : p < i ∨ n ≤ p + i
      · rw [if_pos e]
      · rw [if_neg e]; congr 1; omega
/-- A row of one's own, turned about. -/
theorem rev_any {w : World} {base : Nat} {v : Value} {L : List Int} (h : w.ownsRow base 35 1 v L.length (L.map (.int .u8))) (h0 : 0 < L.length) (hl : L.length ≤ 100000) :
    Calls Try.prog 40 #[v] w fun e w' => e = .returned (.tuple #[]) ∧ w'.ownsRow base 35 1 v L.length (L.reverse.map (.int .u8)) ∧ Below base w w' := by
  obtain ⟨g, c, rfl, hb, hc, hlc, hr⟩ := RowF.of h h0
  refine (revF_any hr hl).mono ?_
  rintro e w' ⟨rfl, h1, h2⟩
  refine ⟨rfl, h1.owns hb hc (by simp) (fun p hp => ?_), h2.mono hb⟩
  have hp' : p < L.length := by simpa using hp
  rw [List.getElem_reverse, List.getD_eq_getElem?_getD, List.getElem?_eq_getElem (by omega)]
  rfl

def MinAt (w : World) (L : List Int) (mv iv : Value) (wr : World) : Prop :=
  ∃ (i : Nat) (m : Int), 1 ≤ i ∧ i ≤ L.length ∧ mv = .int .u8 m ∧ iv = .int .i64 i ∧ m ∈ L ∧ (∀ k (hk : k < L.length), k < i → m ≤ L[k]) ∧ wr = w
set_option maxHeartbeats 2000000 in
theorem minP_any {w : World} {v : Value} {L : List Int} (h : Reads w v 1 L.length (L.map (.int .u8))) (h0 : 0 < L.length) :
    Calls Try.prog 35 #[v] w fun e w' => ∃ m, e = .returned (.int .u8 m) ∧ m ∈ L ∧ (∀ x ∈ L, m ≤ x) ∧ w' = w := by
  obtain ⟨ao, cap, rfl, hn, _, hc⟩ := h
  obtain ⟨b, off, rfl, hbl, hcell⟩ := hc h0
  have C := Lib.hid (fun k (hk : k < L.length) => show w.cell? ⟨b, off + k, none⟩ = some (.int .u8 L[k]) by rw [hcell k (by omega), List.getElem?_map, List.getElem?_eq_getElem hk]; rfl)
  have c0 := C.out 0 h0
  rw [Nat.add_zero] at c0
  have M0 := Lib.hid (List.getElem_mem h0)
  have E0 := Lib.hid (show ∀ k (hk : k < L.length), k < 1 → L[0] ≤ L[k] from fun k hk h => by
    have : k = 0 := by omega
    subst this; exact Int.le_refl _)
  generalize L[0] = m0 at *
  clear hcell hc
  go_enter Try.func35, Try.ntmps35
  go_wp2
  go_loopw [3, 4] (MinAt w L) (fun _ i _ => L.length - (intOf i).toNat)
  case atStart => exact ⟨1, m0, by omega, by omega, rfl, rfl, M0.out, E0.out, rfl⟩
  case round =>
    obtain ⟨i, m, i1, i2, rfl, rfl, hm, hle, rfl⟩ := hrel
    have HM := Lib.hid hm
    have HL := Lib.hid hle
    clear hm hle M0 E0 c0
    by_cases hi : i < L.length
    · have ci := C.out i hi
      have MI := Lib.hid (List.getElem_mem hi)
      have EI := Lib.hid (show ∀ k (hk : k < L.length), k < i + 1 → k < i ∨ L[k] = L[i] from fun k hk h => by
        by_cases e : k < i
        · exact .inl e
        · right
          have : k = i := by omega
          subst this; rfl)
      generalize L[i] = x at *
      have MN : Hid (∀ y, (y = m ∧ m ≤ x) ∨ (y = x ∧ x ≤ m) → y ∈ L ∧ ∀ k (hk : k < L.length), k < i + 1 → y ≤ L[k]) := Lib.hid (fun y hy => by
        refine ⟨by rcases hy with ⟨rfl, _⟩ | ⟨rfl, _⟩; exact HM.out; exact MI.out, fun k hk h => ?_⟩
        rcases EI.out k hk h with q | q
        · have := HL.out k hk q
          omega
        · rw [q]; omega)
      rcases Int.lt_or_le x m with q | q
      · obtain ⟨N1, N2⟩ := MN.out x (.inr ⟨rfl, by omega⟩)
        have N1 := Lib.hid N1
        have N2 := Lib.hid N2
        go_wp2
        go_roundw
        case rel => exact ⟨i + 1, x, by omega, by omega, by first | rfl | (simp; omega), by go_num, N1.out, N2.out, rfl⟩
        case measure => simp [intOf]; omega
      · obtain ⟨N1, N2⟩ := MN.out m (.inl ⟨rfl, by omega⟩)
        have N1 := Lib.hid N1
        have N2 := Lib.hid N2
        go_wp2
        go_roundw
        case rel => exact ⟨i + 1, m, by omega, by omega, by first | rfl | (simp; omega), by go_num, N1.out, N2.out, rfl⟩
        case measure => simp [intOf]; omega
    · have hil : i = L.length := by omega
      go_wp2
      refine bodyPost_ret (v := .int .u8 m) (by simp [results, Try.results35, go_sem]) rfl ?_
      refine ⟨m, rfl, HM.out, fun x hx => ?_, rfl⟩
      obtain ⟨k, hk, rfl⟩ := List.getElem_of_mem hx
      exact HL.out k hk (by omega)

theorem pmayP_any (p : Int) (w : World) : Calls Try.prog 39 #[.int .u8 p] w fun e w' => e = .returned (.bool (mayG p)) ∧ w = w' := by
  have hs : (¬ 1 ≤ p ∧ mayG p = false) ∨ (1 ≤ p ∧ p ≤ 16 ∧ mayG p = true) ∨ (1 ≤ p ∧ ¬ p ≤ 16 ∧ mayG p = false) := by unfold mayG; simp; omega
  rcases hs with ⟨h1, h2⟩ | ⟨h1, h3, h2⟩ | ⟨h1, h3, h2⟩
  all_goals
    rw [h2]
    clear h2
    go_enter Try.func39, Try.ntmps39
    go_wp2
    go_ret
    exact ⟨rfl, rfl⟩

end Go.Proofs.Ytmfacfnbokadmaa
