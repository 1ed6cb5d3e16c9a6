/-
  RoundsQuota: the walk, for every debts.
-/
import Derived.Test.YtmfacfnbokadmaaLives08
import Derived.Test.YtmfacfnbokadmaaEdg
import Derived.StillTailTactics
namespace Go.Proofs.Ytmfacfnbokadmaa
open Go.RowKit
set_option linter.unusedSimpArgs false
set_option linter.unusedVariables false

theorem SlIn.debts {w : World} {a : Option Addr} {len cap : Nat} {xs : List Fw} (h : SlIn Fw.vals 3 Fw.Fits w a len cap xs) : DebtsIn w a xs := by
  obtain ⟨_, hl, _, _, _, h3⟩ := h
  intro h0
  obtain ⟨b, off, ha, hb, hc⟩ := h3 (by omega)
  refine ⟨b, off, ha, hb, fun m hm => ?_⟩
  rw [dbt_get hm]
  exact ⟨hc m hm 0 _ rfl, hc m hm 1 _ rfl, hc m hm 2 _ rfl⟩
/-- An edge for each debt. -/
def negE (l : List Fw) : Nat → List Ed
  | 0 => []
  | k + 1 => negE l k ++ [⟨(dbt l k).fr, (dbt l k).tt, -1⟩]
theorem negE_next (l : List Fw) (k : Nat) : negE l (k + 1) = negE l k ++ [⟨(dbt l k).fr, (dbt l k).tt, -1⟩] := rfl
theorem negE_len (l : List Fw) : ∀ n, (negE l n).length = n
  | 0 => rfl
  | n + 1 => by rw [negE_next, List.length_append, negE_len l n]; rfl
theorem rdE_am {l : List Fw} (h : MayD l) : ∀ n, n ≤ l.length → rdE l (amD l) n = negE l n
  | 0, _ => rfl
  | n + 1, hn => by
    have h1 := (h.ok n (by omega)).2.2.2.1
    show rdE l (amD l) n ++ ((if 0 < (dbt l n).am then _ else _) ++ (if (dbt l n).am < (dbt l n).am then _ else _)) = _
    rw [rdE_am h n (by omega), if_pos (by omega), if_neg (by omega), List.append_nil]
    rfl
theorem leftN_am {l : List Fw} (h : MayD l) : ∀ n, n ≤ l.length → leftN l (amD l) n = l.take n
  | 0, _ => by simp [leftN]
  | n + 1, hn => by
    have h1 := (h.ok n (by omega)).2.2.2.1
    show leftN l (amD l) n ++ (if 0 < (dbt l n).am then [⟨(dbt l n).fr, (dbt l n).tt, (dbt l n).am⟩] else []) = _
    rw [leftN_am h n (by omega), if_pos (by omega), List.take_succ_eq_append_getElem (by omega), ← dbt_get (by omega)]
theorem leftL_am {l : List Fw} (h : MayD l) : leftL l (amD l) = l := by
  unfold leftL
  rw [leftN_am h _ (Nat.le_refl _), List.take_length]
theorem IsLeast.zero {l : List Fw} {L : Nat → Int} (h : IsLeast l L 0) : L = amD l := h.inv.at_
theorem IsLeast.k_bd {l : List Fw} {L : Nat → Int} {k : Nat} (hM : MayD l) (hl : l.length ≤ 240) (h : IsLeast l L k) : (k : Int) ≤ 263882790666240 := by
  have h1 := h.inv.k_le
  have h2 := (am_bd hM).2
  omega

end Go.Proofs.Ytmfacfnbokadmaa
