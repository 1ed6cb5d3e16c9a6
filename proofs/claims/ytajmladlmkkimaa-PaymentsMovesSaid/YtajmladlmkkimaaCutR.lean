/-
  countinghouselaw07: Cut, Reached.
-/
import Derived.Test.YtajmladlmkkimaaFlowProg
import Derived.Laws.BitsLemmas
import Derived.Laws.BitsAllLaws
namespace Go.Proofs.Ytajmladlmkkimaa
open Go.RowKit
set_option linter.unusedSimpArgs false
set_option linter.unusedVariables false

/-- Parties, as bits. -/
def bitS (Z : Nat) (p : Int) : Bool := Z.testBit p.toNat
theorem w32 (n : Int) (h0 : 0 ≤ n) (h1 : n < 2 ^ 32) : IntKind.u32.wrap n = n := by
  simp [IntKind.wrap, IntKind.signed, IntKind.bits]
  omega
theorem bit_at {Z : Nat} (hZ : Z < 4294967296) (p : Int) : bits .and .u32 ((Z : Int) / 2 ^ p.toNat) 1 = if bitS Z p = true then 1 else 0 := by
  have h1 : ((Z : Int) / 2 ^ p.toNat) = ((Z / 2 ^ p.toNat : Nat) : Int) := by rw [Int.natCast_ediv, Int.natCast_pow]; rfl
  have h2 : Z / 2 ^ p.toNat < 2 ^ 32 := Nat.lt_of_le_of_lt (Nat.div_le_self _ _) (by omega)
  rw [h1]
  have h3 := (bits_nat .u32 32 (by decide) w32 (Z / 2 ^ p.toNat) 1 h2 (by decide)).1
  rw [show ((1 : Nat) : Int) = 1 from rfl] at h3
  rw [h3, Nat.and_one_is_mod]
  unfold bitS
  rw [Nat.testBit_eq_decide_div_mod_eq]
  have h4 : Z / 2 ^ p.toNat % 2 = 0 ∨ Z / 2 ^ p.toNat % 2 = 1 := by omega
  rcases h4 with h4 | h4 <;> rw [h4] <;> rfl
/-- One party more. -/
theorem bit_or {Z : Nat} (hZ : Z < 4294967296) {q : Int} (q1 : 0 ≤ q) (q2 : q < 32) : bits .or .u32 (Z : Int) (2 ^ q.toNat) = ((Z ||| 2 ^ q.toNat : Nat) : Int) ∧ (Z ||| 2 ^ q.toNat) < 4294967296 ∧ ∀ p, 0 ≤ p → bitS (Z ||| 2 ^ q.toNat) p = (bitS Z p || p == q) := by
  have h2 : 2 ^ q.toNat < 2 ^ 32 := Nat.pow_lt_pow_right (by decide) (by omega)
  have hZ' : Z < 2 ^ 32 := by omega
  have h3 := (bits_nat .u32 32 (by decide) w32 Z (2 ^ q.toNat) hZ' h2).2
  refine ⟨?_, by have := Nat.or_lt_two_pow hZ' h2; omega, fun p hp => ?_⟩
  · rw [← h3, Int.natCast_pow]; rfl
  · unfold bitS
    rw [Nat.testBit_or, Nat.testBit_two_pow]
    congr 1
    by_cases e : p = q
    · subst e; simp
    · have h4 : ¬ q.toNat = p.toNat := by omega
      simp [h4, e]
theorem outK_next {f : Int → Int → Int} {S : Int → Bool} {p q : Int} (hp : inP p) (hq : inP q) : outK f S ((p.toNat - 1) * 16 + (q.toNat - 1) + 1) = outK f S ((p.toNat - 1) * 16 + (q.toNat - 1)) + (if S p && !S q then f p q else 0) := by
  unfold inP at hp hq
  show sumTo _ _ + _ = _
  have h1 : pU ((p.toNat - 1) * 16 + (q.toNat - 1)) = p := by unfold pU; omega
  have h2 : pV ((p.toNat - 1) * 16 + (q.toNat - 1)) = q := by unfold pV; omega
  show outK f S _ + (if S (pU _) && !S (pV _) then f (pU _) (pV _) else 0) = _
  rw [h1, h2]
def CutO (w : World) (f : Int → Int → Int) (S : Int → Bool) (n i : Value) (wr : World) : Prop :=
  ∃ p : Int, 1 ≤ p ∧ p ≤ 17 ∧ i = .int .u8 p ∧ n = .int .i64 (outK f S ((p.toNat - 1) * 16)) ∧ wr = w
def CutI (w : World) (f : Int → Int → Int) (S : Int → Bool) (p : Int) (n i : Value) (wr : World) : Prop :=
  ∃ q : Int, 1 ≤ q ∧ q ≤ 17 ∧ i = .int .u8 q ∧ n = .int .i64 (outK f S ((p.toNat - 1) * 16 + (q.toNat - 1))) ∧ wr = w
set_option maxHeartbeats 4000000 in
theorem cut_any {w : World} {v : Value} {f : Int → Int → Int} {Z : Nat} {most : Int} (h : IsG w v f) (hI : GInv f 4398046511104) (hZ : Z < 4294967296) :
    Calls Try.prog 33 #[v, .int .u32 (Z : Int), .int .i64 most] w fun e w' => e = .returned (.bool (decide (outS f (bitS Z) ≤ most))) ∧ w' = w := by
  have H := Lib.hid h
  have HI := Lib.hid hI
  have BT := Lib.hid (fun p => bit_at hZ p)
  have CP := Lib.hid (fun p q => gcapW h hI.outF p q)
  have BD := Lib.hid (outK_bd hI (bitS Z))
  have hz0 : (0 : Int) ≤ (Z : Int) := by omega
  have hz1 : (Z : Int) < 4294967296 := by omega
  clear h hI hZ
  go_enter Try.func33, Try.ntmps33
  go_wp2_with fail
  go_loopw [7, 8] (CutO w f (bitS Z)) (fun _ i _ => 17 - (intOf i).toNat)
  case atStart => exact ⟨1, by omega, by omega, rfl, rfl, rfl⟩
  case round =>
    obtain ⟨p, p1, p2, rfl, rfl, rfl⟩ := hrel
    by_cases hp : p < 17
    · go_wp2_with fail
      go_loopw [7, 9] (CutI wr f (bitS Z) p) (fun _ i _ => 17 - (intOf i).toNat)
      case atStart => exact ⟨1, by omega, by omega, rfl, rfl, rfl⟩
      case round =>
        obtain ⟨q, q1, q2, rfl, rfl, rfl⟩ := hrel
        by_cases hq : q < 17
        · have NX := Lib.hid (outK_next (f := f) (S := bitS Z) (p := p) (q := q) ⟨p1, by omega⟩ ⟨q1, by omega⟩)
          have EI : Hid ((q + 1).toNat - 1 = (q.toNat - 1) + 1) := Lib.hid (by omega)
          have hb := BD.out ((p.toNat - 1) * 16 + (q.toNat - 1))
          have hb1 := hb.1
          have hb2 : outK f (bitS Z) ((p.toNat - 1) * 16 + (q.toNat - 1)) ≤ 1125899906842624 := by
            have := hb.2
            have : (((p.toNat - 1) * 16 + (q.toNat - 1) : Nat) : Int) ≤ 256 := by omega
            omega
          have hn := HI.out.nn p q
          have hl := HI.out.le p q
          have tp := BT.out p
          have tq := BT.out q
          have CC := Lib.hid (CP.out p q)
          clear hb
          generalize outK f (bitS Z) ((p.toNat - 1) * 16 + (q.toNat - 1)) = m at *
          obtain ⟨y, hy⟩ : ∃ y, f p q = y := ⟨_, rfl⟩
          rw [hy] at hn hl CC NX
          clear hy
          cases hbp : bitS Z p with
          | true =>
            rw [hbp, if_pos rfl] at tp
            cases hbq : bitS Z q with
            | true =>
              rw [hbq, if_pos rfl] at tq
              rw [hbp, hbq] at NX
              have N2 : Hid (outK f (bitS Z) ((p.toNat - 1) * 16 + (q.toNat - 1) + 1) = m) := Lib.hid (by rw [NX.out]; simp)
              clear hbp hbq NX
              go_wp2_with fail
              go_roundw
              case rel => exact ⟨q + 1, by omega, by omega, by go_num, by rw [EI.out, ← Nat.add_assoc, N2.out], rfl⟩
              case measure => simp [intOf]; omega
            | false =>
              rw [hbq, if_neg (by decide)] at tq
              rw [hbp, hbq] at NX
              have N2 : Hid (outK f (bitS Z) ((p.toNat - 1) * 16 + (q.toNat - 1) + 1) = m + y) := Lib.hid (by rw [NX.out]; simp)
              clear hbp hbq NX
              go_wp2_with fail
              refine CC.out.mono ?_
              rintro e w1 ⟨rfl, rfl⟩
              go_wp2_with fail
              go_roundw
              case rel => exact ⟨q + 1, by omega, by omega, by go_num, by rw [EI.out, ← Nat.add_assoc, N2.out], rfl⟩
              case measure => simp [intOf]; omega
          | false =>
            rw [hbp, if_neg (by decide)] at tp
            rw [hbp] at NX
            have N2 : Hid (outK f (bitS Z) ((p.toNat - 1) * 16 + (q.toNat - 1) + 1) = m) := Lib.hid (by rw [NX.out]; simp)
            clear hbp NX
            go_wp2_with fail
            go_roundw
            case rel => exact ⟨q + 1, by omega, by omega, by go_num, by rw [EI.out, ← Nat.add_assoc, N2.out], rfl⟩
            case measure => simp [intOf]; omega
        · have hq17 : q = 17 := by omega
          subst hq17
          go_wp2_with fail
          go_roundw
          case rel => exact ⟨p + 1, by omega, by omega, by go_num, by rw [show ((p + 1).toNat - 1) * 16 = (p.toNat - 1) * 16 + ((17 : Int).toNat - 1) by omega], rfl⟩
          case measure => simp [intOf]; omega
    · have hp17 : p = 17 := by omega
      subst hp17
      obtain ⟨m, hm⟩ : ∃ m, outK f (bitS Z) (((17 : Int).toNat - 1) * 16) = m := ⟨_, rfl⟩
      have E : Hid (outS f (bitS Z) = m) := Lib.hid (by rw [← hm]; unfold outS; rw [show ((17 : Int).toNat - 1) * 16 = 256 by decide])
      rw [hm]
      clear hm
      go_wp2_with fail
      go_ret
      exact ⟨by rw [E.out]; rfl, rfl⟩
/-- While parties are reached, pass by pass: done are the pairs that came in this one. -/
structure ReachI (f : Int → Int → Int) (s : Int) (n : Nat) (done : Int → Int → Prop) (Z : Nat) : Prop where
  lt : Z < 4294967296
  sound : ∀ p, 0 ≤ p → bitS Z p = true → ∃ k, wk f k s p
  low : ∀ p, inS f s n p = true → bitS Z p = true
  cur : ∀ a b, done a b → inS f s n a = true → 0 < f a b → bitS Z b = true
theorem ReachI.start (f : Int → Int → Int) {s : Int} (hs : inP s) : ReachI f s 0 (fun _ _ => False) (2 ^ s.toNat) := by
  unfold inP at hs
  have h2 : 2 ^ s.toNat < 2 ^ 32 := Nat.pow_lt_pow_right (by decide) (by omega)
  refine ⟨by omega, fun p hp h => ⟨0, ?_⟩, fun p h => ?_, fun a b h => h.elim⟩
  · unfold bitS at h
    rw [Nat.testBit_two_pow, decide_eq_true_eq] at h
    show s = p
    omega
  · have : (p == s) = true := h
    rw [beq_iff_eq] at this
    subst this
    unfold bitS
    rw [Nat.testBit_two_pow]
    simp
theorem ReachI.add {f : Int → Int → Int} {s : Int} {n : Nat} {done done' : Int → Int → Prop} {Z : Nat} (h : ReachI f s n done Z) {a b : Int} (hd : ∀ p q, done' p q → done p q ∨ (p = a ∧ q = b)) (ha : 0 ≤ a) (hb : inP b) (h1 : bitS Z a = true) (h2 : 0 < f a b) : ReachI f s n done' (Z ||| 2 ^ b.toNat) := by
  unfold inP at hb
  obtain ⟨_, b2, b3⟩ := bit_or h.lt (q := b) (by omega) (by omega)
  have key : ∀ p, bitS Z p = true → bitS (Z ||| 2 ^ b.toNat) p = true := fun p hp => by
    unfold bitS at hp ⊢
    rw [Nat.testBit_or, hp]; rfl
  refine ⟨b2, fun p hp hh => ?_, fun p hp => key p (h.low p hp), fun p q hpq h3 h4 => ?_⟩
  · rw [b3 p hp, Bool.or_eq_true, beq_iff_eq] at hh
    rcases hh with hh | hh
    · exact h.sound p hp hh
    · obtain ⟨k, hk⟩ := h.sound a ha h1
      rw [hh]
      exact ⟨k + 1, wk_add hk (wk_one h2)⟩
  · rcases hd p q hpq with hh | ⟨_, rfl⟩
    · exact key q (h.cur p q hh h3 h4)
    · rw [b3 q (by omega)]; simp
theorem ReachI.skip {f : Int → Int → Int} {s : Int} {n : Nat} {done done' : Int → Int → Prop} {Z : Nat} (h : ReachI f s n done Z) {a b : Int} (hd : ∀ p q, done' p q → done p q ∨ (p = a ∧ q = b)) (h1 : bitS Z a = false ∨ ¬ 0 < f a b) : ReachI f s n done' Z := by
  refine ⟨h.lt, h.sound, h.low, fun p q hpq h3 h4 => ?_⟩
  rcases hd p q hpq with hh | ⟨rfl, rfl⟩
  · exact h.cur p q hh h3 h4
  · rcases h1 with h1 | h1
    · rw [h.low p h3] at h1; cases h1
    · exact absurd h4 h1
theorem ReachI.weak {f : Int → Int → Int} {s : Int} {n : Nat} {done done' : Int → Int → Prop} {Z : Nat} (h : ReachI f s n done Z) (hd : ∀ p q, done' p q → 0 < f p q → done p q) : ReachI f s n done' Z :=
  ⟨h.lt, h.sound, h.low, fun p q hpq h3 h4 => h.cur p q (hd p q hpq h4) h3 h4⟩
theorem ReachI.pass {f : Int → Int → Int} {B : Int} (hI : GInv f B) {s : Int} {n : Nat} {done : Int → Int → Prop} {Z : Nat} (h : ReachI f s n done Z) (hd : ∀ p q, inP p → inP q → done p q) : ReachI f s (n + 1) (fun _ _ => False) Z := by
  refine ⟨h.lt, h.sound, fun p hp => ?_, fun a b h => h.elim⟩
  have hp : (inS f s n p || parts.any fun r => inS f s n r && decide (0 < f r p)) = true := hp
  rw [Bool.or_eq_true, List.any_eq_true] at hp
  rcases hp with hp | ⟨r, _, hr⟩
  · exact h.low p hp
  · rw [Bool.and_eq_true, decide_eq_true_eq] at hr
    obtain ⟨e1, e2, _⟩ := hI.ends hr.2
    exact h.cur r p (hd r p e1 e2) hr.1 hr.2
theorem ReachI.all {f : Int → Int → Int} {B : Int} (hI : GInv f B) {s : Int} {Z : Nat} (h : ReachI f s 16 (fun _ _ => False) Z) {p : Int} (hp : 0 ≤ p) : bitS Z p = reachS f s p := by
  apply Bool.eq_iff_iff.2
  constructor
  · intro hh
    obtain ⟨k, hk⟩ := h.sound p hp hh
    exact inS_mono (by omega) (inS_all hI hk)
  · exact h.low p
theorem outS_congr (f : Int → Int → Int) {S T : Int → Bool} (h : ∀ p, 0 ≤ p → S p = T p) : outS f S = outS f T := by
  refine sumTo_congr 256 fun i _ => ?_
  rw [h (pU i) (by unfold pU; omega), h (pV i) (by unfold pV; omega)]
theorem pow_w {q : Int} (q1 : 0 ≤ q) (q2 : q < 32) : (2 : Int) ^ q.toNat % 4294967296 = 2 ^ q.toNat := by
  have h2 : 2 ^ q.toNat < 2 ^ 32 := Nat.pow_lt_pow_right (by decide) (by omega)
  have h3 : ((2 ^ q.toNat : Nat) : Int) < 4294967296 := by omega
  rw [Int.natCast_pow] at h3
  have h4 : (0 : Int) ≤ 2 ^ q.toNat := by
    have : (0 : Int) ≤ ((2 ^ q.toNat : Nat) : Int) := Int.natCast_nonneg _
    rwa [Int.natCast_pow] at this
  exact Int.emod_eq_of_lt h4 h3
def ReaN (w : World) (f : Int → Int → Int) (s : Int) (z i : Value) (wr : World) : Prop :=
  ∃ (n Z : Nat), n ≤ 16 ∧ i = .int .i64 n ∧ z = .int .u32 (Z : Int) ∧ ReachI f s n (fun _ _ => False) Z ∧ wr = w
def ReaA (w : World) (f : Int → Int → Int) (s : Int) (n : Nat) (z i : Value) (wr : World) : Prop :=
  ∃ (p : Int) (Z : Nat), 1 ≤ p ∧ p ≤ 17 ∧ i = .int .u8 p ∧ z = .int .u32 (Z : Int) ∧ ReachI f s n (fun a b => inP a ∧ inP b ∧ a < p) Z ∧ wr = w
def ReaB (w : World) (f : Int → Int → Int) (s : Int) (n : Nat) (p : Int) (z i : Value) (wr : World) : Prop :=
  ∃ (q : Int) (Z : Nat), 1 ≤ q ∧ q ≤ 17 ∧ i = .int .u8 q ∧ z = .int .u32 (Z : Int) ∧ ReachI f s n (fun a b => inP a ∧ inP b ∧ (a < p ∨ (a = p ∧ b < q))) Z ∧ wr = w
set_option maxHeartbeats 4000000 in
theorem reached_any {w : World} {v : Value} {f : Int → Int → Int} {s : Int} (h : IsG w v f) (hI : GInv f 4398046511104) (hs : inP s) :
    Calls Try.prog 31 #[v, .int .u8 s] w fun e w' => ∃ Z : Nat, e = .returned (.int .u32 (Z : Int)) ∧ Z < 4294967296 ∧ (∀ p, 0 ≤ p → bitS Z p = reachS f s p) ∧ w' = w := by
  have HI := Lib.hid hI
  have CP := Lib.hid (fun p q => gcapW h hI.outF p q)
  have S0 := Lib.hid (ReachI.start f hs)
  obtain ⟨s1, s2⟩ := hs
  have hm : s % 32 = s := by omega
  clear h hI
  go_enter Try.func31, Try.ntmps31
  go_wp2_with fail
  rw [pow_w (q := s) (by omega) (by omega)]
  rw [hm]
  clear hm
  go_loopw [5, 6] (ReaN w f s) (fun _ i _ => 16 - (intOf i).toNat)
  case atStart => exact ⟨0, 2 ^ s.toNat, by omega, rfl, by rw [Int.natCast_pow]; rfl, S0.out, rfl⟩
  case round =>
    clear S0
    obtain ⟨n, Z, hn, rfl, rfl, hR, rfl⟩ := hrel
    by_cases hn16 : n < 16
    · have hni : (n : Int) < 16 := by omega
      have RI := Lib.hid (hR.weak (done' := fun a b => inP a ∧ inP b ∧ a < 1) (fun a b h1 _ => by have := h1.1.1; omega))
      clear hR
      go_wp2_with fail
      go_loopw [5, 7] (ReaA wr f s n) (fun _ i _ => 17 - (intOf i).toNat)
      case atStart => exact ⟨1, Z, by omega, by omega, rfl, rfl, RI.out, rfl⟩
      case round =>
        clear RI
        obtain ⟨p, Z, p1, p2, rfl, rfl, hR, rfl⟩ := hrel
        by_cases hp : p < 17
        · have RI := Lib.hid (hR.weak (done' := fun a b => inP a ∧ inP b ∧ (a < p ∨ (a = p ∧ b < 1))) (fun a b h1 _ => by have := h1.2.1.1; exact ⟨h1.1, h1.2.1, by omega⟩))
          clear hR
          go_wp2_with fail
          go_loopw [5, 8] (ReaB wr f s n p) (fun _ i _ => 17 - (intOf i).toNat)
          case atStart => exact ⟨1, Z, by omega, by omega, rfl, rfl, RI.out, rfl⟩
          case round =>
            clear RI
            obtain ⟨q, Z, q1, q2, rfl, rfl, hR, rfl⟩ := hrel
            have RI := Lib.hid hR
            have hZ := hR.lt
            clear hR
            by_cases hq : q < 17
            · have DN : Hid (∀ a b, (inP a ∧ inP b ∧ (a < p ∨ (a = p ∧ b < q + 1))) → (inP a ∧ inP b ∧ (a < p ∨ (a = p ∧ b < q))) ∨ (a = p ∧ b = q)) := Lib.hid (fun a b h => by
                obtain ⟨h1, h2, h3⟩ := h
                by_cases e : a = p ∧ b = q
                · exact .inr e
                · exact .inl ⟨h1, h2, by omega⟩)
              have tp := bit_at hZ p
              have CC := Lib.hid (CP.out p q)
              have hz0 : (0 : Int) ≤ (Z : Int) := by omega
              have hz1 : (Z : Int) < 4294967296 := by omega
              cases hbp : bitS Z p with
              | true =>
                rw [hbp, if_pos rfl] at tp
                by_cases hf : 0 < f p q
                · have RN := Lib.hid (RI.out.add DN.out (by omega) ⟨q1, by omega⟩ hbp hf)
                  obtain ⟨o1, _, _⟩ := bit_or hZ (q := q) (by omega) (by omega)
                  have pw := pow_w (q := q) (by omega) (by omega)
                  generalize f p q = y at *
                  clear hbp
                  go_wp2_with fail
                  refine CC.out.mono ?_
                  rintro e w1 ⟨rfl, rfl⟩
                  go_wp2_with fail
                  go_roundw
                  case rel => exact ⟨q + 1, _, by omega, by omega, by go_num, rfl, RN.out, rfl⟩
                  case measure => simp [intOf]; omega
                · have RN := Lib.hid (RI.out.skip DN.out (.inr hf))
                  generalize f p q = y at *
                  have hf2 : decide (0 < y) = false := by simpa using hf
                  clear hbp hf
                  go_wp2_with fail
                  refine CC.out.mono ?_
                  rintro e w1 ⟨rfl, rfl⟩
                  go_wp2_with fail
                  go_roundw
                  case rel => exact ⟨q + 1, _, by omega, by omega, by go_num, rfl, RN.out, rfl⟩
                  case measure => simp [intOf]; omega
              | false =>
                rw [hbp, if_neg (by decide)] at tp
                have RN := Lib.hid (RI.out.skip DN.out (.inl hbp))
                clear hbp
                go_wp2_with fail
                go_roundw
                case rel => exact ⟨q + 1, _, by omega, by omega, by go_num, rfl, RN.out, rfl⟩
                case measure => simp [intOf]; omega
            · have RN := Lib.hid (RI.out.weak (done' := fun a b => inP a ∧ inP b ∧ a < p + 1) (fun a b h1 _ => ⟨h1.1, h1.2.1, by have := h1.2.1.2; omega⟩))
              go_wp2_with fail
              go_roundw
              case rel => exact ⟨p + 1, Z, by omega, by omega, by go_num, rfl, RN.out, rfl⟩
              case measure => simp [intOf]; omega
        · have RN := Lib.hid (hR.pass HI.out (fun a b ha hb => ⟨ha, hb, by have := ha.2; omega⟩))
          clear hR
          go_wp2_with fail
          go_roundw
          case rel => exact ⟨n + 1, Z, by omega, by go_num, rfl, RN.out, rfl⟩
          case measure => simp [intOf]; omega
    · have hn2 : n = 16 := by omega
      subst hn2
      have RN := Lib.hid hR
      clear hR
      rw [show ((16 : Nat) : Int) = 16 from rfl]
      go_wp2_with fail
      refine bodyPost_ret (v := .int .u32 (Z : Int)) (by simp [results, Try.results31, go_sem]) rfl ?_
      exact ⟨Z, rfl, RN.out.lt, fun p hp => RN.out.all HI.out hp, rfl⟩
/-- One party less, another one more. -/
theorem bits_ask {z s t : Int} (hz0 : 0 ≤ z) (hz1 : z < 4294967296) (hs : inP s) (ht : inP t) (hst : s ≠ t) :
    ∃ Z : Nat, bits .or .u32 (bits .andNot .u32 z (2 ^ t.toNat)) (2 ^ s.toNat) = (Z : Int) ∧ Z < 4294967296 ∧ bitS Z s = true ∧ bitS Z t = false := by
  obtain ⟨Y, rfl⟩ := Int.eq_ofNat_of_zero_le hz0
  unfold inP at hs ht
  have hY : Y < 4294967296 := by omega
  have h2 : 2 ^ t.toNat < 2 ^ 32 := Nat.pow_lt_pow_right (by decide) (by omega)
  have e1 : bits .andNot .u32 (Y : Int) (2 ^ t.toNat) = ((Y &&& (4294967295 - 2 ^ t.toNat) : Nat) : Int) := by
    have := u32_andNot_nat Y (2 ^ t.toNat) hY (by omega)
    rw [Int.natCast_pow] at this
    exact this
  have hA : Y &&& (4294967295 - 2 ^ t.toNat) < 4294967296 := Nat.lt_of_le_of_lt Nat.and_le_left hY
  obtain ⟨o1, o2, o3⟩ := bit_or hA (q := s) (by omega) (by omega)
  rw [e1]
  refine ⟨_, o1, o2, ?_, ?_⟩
  · rw [o3 s (by omega)]; simp
  · rw [o3 t (by omega)]
    have h3 : bitS (Y &&& (4294967295 - 2 ^ t.toNat)) t = false := by
      unfold bitS
      rw [Nat.testBit_and, show 4294967295 - 2 ^ t.toNat = 2 ^ 32 - (2 ^ t.toNat + 1) by omega, Nat.testBit_two_pow_sub_succ h2, Nat.testBit_two_pow]
      simp
    rw [h3]
    have : ¬ t = s := fun e => hst e.symm
    simp [this]
theorem U32.of_wf {n : Int} (h : (Lit.int .u32 n).wf = true) : 0 ≤ n ∧ n < 4294967296 := by
  simp [Lit.wf, IntKind.min, IntKind.max, IntKind.signed, IntKind.bits] at h
  omega
/-- A push of a good list. -/
theorem goodL_at {B : Int} : ∀ (l : List Fw) (f : Int → Int → Int), GInv f B → goodL f l → ∀ i (hi : i < l.length), 1 ≤ l[i].am ∧ l[i].am ≤ foldF f (l.take i) l[i].fr l[i].tt ∧ foldF f (l.take (i + 1)) = pushF (foldF f (l.take i)) l[i].fr l[i].tt l[i].am ∧ GInv (foldF f (l.take i)) B
  | x :: l, f, hI, ⟨h1, h2, h3⟩, 0, _ => ⟨h1, h2, rfl, hI⟩
  | x :: l, f, hI, ⟨h1, h2, h3⟩, i + 1, hi => by
    have ih := goodL_at l (pushF f x.fr x.tt x.am) (hI.push h1 h2) h3 i (by simpa using hi)
    exact ih

end Go.Proofs.Ytajmladlmkkimaa
