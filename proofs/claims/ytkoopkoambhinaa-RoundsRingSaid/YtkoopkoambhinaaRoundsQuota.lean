/-
  RoundsQuota: the walk, for every debts.
-/
import Derived.Test.YtkoopkoambhinaaLives08
import Derived.Test.YtkoopkoambhinaaEdg
import Derived.StillTailTactics
namespace Go.Proofs.Ytkoopkoambhinaa
open Go.RowKit
set_option linter.unusedSimpArgs false
set_option linter.unusedVariables false

theorem SlIn.debts {w : World} {a : Option Addr} {len cap : Nat} {xs : List Fw} (h : SlIn Fw.vals 3 Fw.Fits w a len cap xs) : DebtsIn w a xs := by
  obtain ⟨_, hl, _, _, _, h3⟩ := h
  intro h0
  obtain ⟨b, off, ha, hb, hc⟩ := h3 (by omega)
  refine ⟨b, off, ha, hb, fun m hm => ?_⟩
  rw [dbt_get hm]
  exact ⟨hc m hm 0 _ rfl, hc m hm 1 _ rfl, hc m hm 2 _ rfl⟩
/-- An edge for each debt. -/
def negE (l : List Fw) : Nat → List Ed
  | 0 => []
  | k + 1 => negE l k ++ [⟨(dbt l k).fr, (dbt l k).tt, -1⟩]
theorem negE_next (l : List Fw) (k : Nat) : negE l (k + 1) = negE l k ++ [⟨(dbt l k).fr, (dbt l k).tt, -1⟩] := rfl
theorem negE_len (l : List Fw) : ∀ n, (negE l n).length = n
  | 0 => rfl
  | n + 1 => by rw [negE_next, List.length_append, negE_len l n]; rfl
theorem rdE_am {l : List Fw} (h : MayD l) : ∀ n, n ≤ l.length → rdE l (amD l) n = negE l n
  | 0, _ => rfl
  | n + 1, hn => by
    have h1 := (h.ok n (by omega)).2.2.2.1
    show rdE l (amD l) n ++ ((if 0 < (dbt l n).am then _ else _) ++ (if (dbt l n).am < (dbt l n).am then _ else _)) = _
    rw [rdE_am h n (by omega), if_pos (by omega), if_neg (by omega), List.append_nil]
    rfl
theorem leftN_am {l : List Fw} (h : MayD l) : ∀ n, n ≤ l.length → leftN l (amD l) n = l.take n
  | 0, _ => by simp [leftN]
  | n + 1, hn => by
    have h1 := (h.ok n (by omega)).2.2.2.1
    show leftN l (amD l) n ++ (if 0 < (dbt l n).am then [⟨(dbt l n).fr, (dbt l n).tt, (dbt l n).am⟩] else []) = _
    rw [leftN_am h n (by omega), if_pos (by omega), List.take_succ_eq_append_getElem (by omega), ← dbt_get (by omega)]
theorem leftL_am {l : List Fw} (h : MayD l) : leftL l (amD l) = l := by
  unfold leftL
  rw [leftN_am h _ (Nat.le_refl _), List.take_length]
theorem IsLeast.zero {l : List Fw} {L : Nat → Int} (h : IsLeast l L 0) : L = amD l := h.inv.at_
theorem IsLeast.k_bd {l : List Fw} {L : Nat → Int} {k : Nat} (hM : MayD l) (hl : l.length ≤ 240) (h : IsLeast l L k) : (k : Int) ≤ 263882790666240 := by
  have h1 := h.inv.k_le
  have h2 := (am_bd hM).2
  omega
def QuoAt (w : World) (l : List Fw) (c i : Value) (wr : World) : Prop :=
  ∃ k : Nat, k ≤ l.length ∧ i = .int .i64 k ∧ wr.ownsRow w.heap.size 42 3 c (negE l k).length (edCells (negE l k)) ∧ Below w.heap.size w wr
set_option maxHeartbeats 16000000 in
set_option maxRecDepth 100000 in
theorem quota_walk (a : Option Addr) (len cap : Nat) (xs : List Fw) (w : World) (h0 : SlIn Fw.vals 3 Fw.Fits w a len cap xs) :
    Calls Try.prog 5 #[.slice a len cap] w fun e w' => e = .returned (.bool true) ∧ Below w.heap.size w w' := by
  have hzl := h0.2.1
  have HD := Lib.hid h0.debts
  have HF := Lib.hid (fit_debts h0.2.2.1)
  have HR := Lib.hid (fun h => h0.flows h)
  have LV := Lib.hid lives08_any
  clear h0
  subst hzl
  have CG := Lib.hid (great_any (cap := cap) HD.out)
  go_enter Try.func5, Try.ntmps5
  go_wp2_with fail
  refine CG.out.mono ?_
  rintro e w1 ⟨⟨b, rfl, hb⟩, rfl⟩
  clear CG
  cases b with
  | true =>
    clear hb
    go_wp2_with fail
    refine (LV.out _).mono ?_
    rintro e w2 ⟨rfl, b2⟩
    have B2 := Lib.hid b2
    clear b2
    go_wp2_with fail
    go_ret
    exact ⟨rfl, B2.out⟩
  | false =>
    have hle := hb rfl
    have HLE := Lib.hid hle
    have HRD := Lib.hid (HR.out (by omega))
    clear hb HR
    by_cases hM : MayD xs
    case neg =>
      have C1 := Lib.hid (least_bad (cap := cap) (q := 1152921504606846976) HD.out HF.out hle (fun h => hM h.1))
      clear hM
      go_wp2_with fail
      refine C1.out.mono ?_
      rintro e w2 ⟨rfl, b2⟩
      have B2 := Lib.hid b2
      clear b2 C1
      go_wp2_with fail
      refine (LV.out _).mono ?_
      rintro e w3 ⟨rfl, b3⟩
      have B3 := Lib.hid (andB B2.out b3)
      clear b3
      go_wp2_with fail
      go_ret
      exact ⟨rfl, B3.out⟩
    obtain ⟨L, k, hL⟩ := least_ends hM
    have hkb := hL.k_bd hM hle
    have HM := Lib.hid hM
    have HL := Lib.hid hL
    have C1 := Lib.hid (least_done (cap := cap) (q := 1152921504606846976) HD.out HF.out hle hM (by omega) hL (by omega))
    have hk0 : (0 : Int) ≤ (k : Int) := by omega
    clear hM hL
    go_wp2_with fail
    refine C1.out.mono ?_
    rintro e w2 ⟨v2, rfl, hv2, b2⟩
    have B2 := Lib.hid b2
    have V2 := Lib.hid hv2
    obtain ⟨ao2, cap2, rfl, _⟩ := hv2.look
    have C2 := Lib.hid (least_done (cap := cap) (q := (k : Int)) (HD.out.below b2) HF.out hle HM.out (by omega) HL.out (by omega))
    clear hv2 b2 C1
    go_wp2_with fail
    refine C2.out.mono ?_
    rintro e w3 ⟨v3, rfl, hv3, b3⟩
    have B3 := Lib.hid (andB B2.out b3)
    have V3 := Lib.hid (V2.out.below b3)
    obtain ⟨ao3, cap3, rfl, _⟩ := hv3.look
    have hll := leftN_len xs L xs.length
    have C3 := Lib.hid (SameFlows_any (la := leftL xs L) (lb := leftL xs L) (hv3.reads (by unfold leftL; omega)) (V3.out.reads (by unfold leftL; omega)))
    rw [decide_eq_true rfl] at C3
    clear hv3 b3 C2 V2 B2
    have HLL := Lib.hid hll
    clear hll
    go_wp2_with fail
    refine C3.out.mono ?_
    rintro e w4 ⟨rfl, b4⟩
    have B4 := Lib.hid (andB B3.out b4)
    have V4 := Lib.hid (V3.out.below b4)
    clear b4 C3 V3 B3
    by_cases hk : 0 < k
    · have qk : decide ((0 : Int) < (k : Int)) = true := by simpa using hk
      have C5 := Lib.hid (least_out (cap := cap) (q := (k : Int) - 1) (HD.out.below B4.out) HF.out hle HM.out (by omega) HL.out (by omega))
      have hk1 : (0 : Int) ≤ (k : Int) - 1 := by omega
      clear hk
      go_wp2_with fail
      refine C5.out.mono ?_
      rintro e w5 ⟨rfl, b5⟩
      have B5 := Lib.hid (andB B4.out b5)
      clear b5 C5
      go_wp2_with fail
      refine (LV.out _).mono ?_
      rintro e w6 ⟨rfl, b6⟩
      have B6 := Lib.hid (andB B5.out b6)
      clear b6
      go_wp2_with fail
      go_ret
      exact ⟨rfl, B6.out⟩
    · have hkz : k = 0 := by omega
      subst hkz
      have hLa := HL.out.zero
      subst hLa
      have qk : decide ((0 : Int) < ((0 : Nat) : Int)) = false := by simp
      go_wp2_with fail
      obtain ⟨W, hW⟩ : ∃ W, W = w4 := ⟨_, rfl⟩
      subst hW
      go_loopw [12, 13] (QuoAt W xs) (fun _ i _ => xs.length - (intOf i).toNat)
      case atStart => exact ⟨0, by omega, rfl, World.ownsRow_nil _ _ _ _, Below.refl _ _⟩
      case round =>
        obtain ⟨k, hk, rfl, hE, hB⟩ := hrel
        have BB := Lib.hid hB
        have OE := Lib.hid hE
        obtain ⟨aoc, capc, rfl, _⟩ := owns_open hE
        have hel := negE_len xs k
        clear hB hE
        by_cases hkl : k < xs.length
        · have qk2 : decide ((k : Int) < (xs.length : Int)) = true := by simpa using hkl
          have k0 : (0 : Int) ≤ (k : Int) := by omega
          have k1 : (k : Int) < (xs.length : Int) := by omega
          obtain ⟨b, off, rfl, hbw, hcell⟩ := ((HD.out.below B4.out).below BB.out) (by omega)
          obtain ⟨e0, e1, e2⟩ := hcell k hkl
          have NX := Lib.hid (negE_next xs k)
          generalize dbt xs k = x at *
          generalize negE xs k = es at *
          have HLT := Lib.hid hkl
          have hel2 : es.length ≤ 240 := by omega
          have HEL := Lib.hid hel2
          clear hcell e2 hel hel2
          go_wp2_with fail
          go_region_law (refine step_append_re rfl (.tmp 76) (.tmp 88) 36 rfl W.heap.size 42 Try.underlying36 rfl info_pe (.slice aoc es.length capc) es rfl (owns_below OE.out ((Below.refl _ _).drew.alloc (Nat.le_refl _) _)) wr.heap.size 1 ⟨x.fr, x.tt, -1⟩ rfl (Blk.new wr.drew _ _) (by have := HEL.out; omega) (by have := BB.out.size; simp; omega) ?_; intro v' w' ho hgr; have HO := Lib.hid ho; have HGR := Lib.hid hgr; clear ho hgr)
          all_goals
            have O2 := Lib.hid (show World.ownsRow _ W.heap.size 42 3 _ (es ++ [(⟨x.fr, x.tt, -1⟩ : Ed)]).length (edCells (es ++ [(⟨x.fr, x.tt, -1⟩ : Ed)])) by simpa using HO.out)
            have B2 := Lib.hid (((BB.out.trans ((Below.refl wr.heap.size wr).drew.mono BB.out.size)).alloc (by have := BB.out.size; simpa using this) _).grown HGR.out (by have := BB.out.size; simp; omega) (fun k hk => (owns_type OE.out hk).1))
            clear HO HGR
            go_wp2_with fail
            exact ⟨⟨k + 1, by have := HLT.out; omega, by go_num, by rw [NX.out]; exact O2.out, B2.out⟩, by simp [intOf]; have := HLT.out; omega⟩
        · have hkn : k = xs.length := by omega
          subst hkn
          have qk2 : decide (((xs.length : Nat) : Int) < (xs.length : Int)) = false := by simp
          have hes : negE xs xs.length = rdE xs (amD xs) xs.length := (rdE_am HM.out _ (Nat.le_refl _)).symm
          rw [hes] at OE ⊢
          have B5 := Lib.hid (andB B4.out BB.out)
          have CR := Lib.hid (pround_any (Reads.of_owns OE.out (by have := rdE_len xs (amD xs) xs.length; omega)) (rdE_fits (amD xs) HF.out) (by have := rdE_len xs (amD xs) xs.length; omega))
          rw [show roundW (rdE xs (amD xs) xs.length) = [] from HL.out.done] at CR
          have V5 := Lib.hid (V4.out.below BB.out)
          clear hes
          go_wp2_with fail
          refine CR.out.mono ?_
          rintro e w6 ⟨v6, rfl, hv6, b6⟩
          have B6 := Lib.hid (andB B5.out b6)
          have V6 := Lib.hid (V5.out.below b6)
          obtain ⟨ao6, cap6, rfl, _⟩ := hv6.look
          clear hv6 b6 CR
          have C7 := Lib.hid (SameFlows_any (la := leftL xs (amD xs)) (lb := xs) (V6.out.reads (by have := HLL.out; unfold leftL; omega)) (HRD.out.below B6.out))
          rw [decide_eq_true (leftL_am HM.out)] at C7
          simp only [List.length_nil]
          go_wp2_with fail
          refine C7.out.mono ?_
          rintro e w7 ⟨rfl, b7⟩
          have B7 := Lib.hid (andB B6.out b7)
          clear b7 C7
          go_wp2_with fail
          refine (LV.out _).mono ?_
          rintro e w8 ⟨rfl, b8⟩
          have B8 := Lib.hid (andB B7.out b8)
          clear b8
          go_wp2_with fail
          go_ret
          exact ⟨rfl, B8.out⟩

end Go.Proofs.Ytkoopkoambhinaa
