/-
  countinghouseref03: Position, Total.
-/
import Derived.Test.YtlcilpeljnoclaaRef03e
namespace Go.Proofs.Ytlcilpeljnoclaa
open Go.RowKit
set_option linter.unusedSimpArgs false
set_option linter.unusedVariables false

set_option maxHeartbeats 4000000 in
set_option maxRecDepth 100000 in
theorem rposition_any {w : World} {base g : Nat} {ps : List Int} {ls : List Ln} {vp vl : Value} (h : RefL w base g ps ls vp vl) (hgood : ∀ y ∈ ls, y.Good) (hlen : ls.length ≤ 100) (p c : Int) :
    Calls Try.prog 21 #[.pointer (some ⟨g, 0, none⟩), .int .u8 p, .int .u8 c] w fun e w' => e = .returned (.int .i64 (posL ls p c)) ∧ w' = w := by
  have d0 := h.blk.cell 1
  simp at d0
  obtain ⟨ao, cap, rfl, hc1, hc2, hc3, hc4⟩ := owns_open h.l
  have HC := Lib.hid hc4
  have HG := Lib.hid hgood
  have hlt := h.blk.lt
  unfold maxLen at hc2
  clear hc3 hc4 h hgood
  go_enter Try.func21, Try.ntmps21
  go_wp2
  go_loop [7, 8] (fun v i => ∃ k : Nat, k ≤ ls.length ∧ i = .int .i64 k ∧ v = .int .i64 ((ls.take k).map (posOf p c)).sum) (fun _ i => ls.length - (intOf i).toNat)
  case atStart => exact ⟨0, Nat.zero_le _, rfl, rfl⟩
  case round =>
    obtain ⟨k, hk, rfl, rfl⟩ := hrel
    have hbd := sum_le (posOf p c) 1099511627776 (ls.take k) (fun x hx => posOf_bd (HG.out x (List.mem_of_mem_take hx)) p c)
    have hlk : (ls.take k).length ≤ 100 := Nat.le_trans (List.length_take_le _ _) (by omega)
    have hb1 : -109951162777600 ≤ ((ls.take k).map (posOf p c)).sum := by omega
    have hb2 : ((ls.take k).map (posOf p c)).sum ≤ 109951162777600 := by omega
    clear hbd hlk
    by_cases hkl : k < ls.length
    · have HN := Lib.hid (sum_next (posOf p c) ls k hkl)
      obtain ⟨b, rfl, _, hb3, hcell, _⟩ := HC.out (by omega)
      obtain ⟨e0, e1, e2, e3, e4⟩ := ln_cells hcell hkl
      have hgd := HG.out ls[k] (List.getElem_mem hkl)
      have hdb := hgd.db; have hli := hgd.li
      clear hcell hgd
      generalize ls[k] = y at *
      generalize ((ls.take k).map (posOf p c)).sum = s at *
      have hs : ((y.cu == c) = false ∧ posOf p c y = 0) ∨ ((y.cu == c) = true ∧ (y.cr == p) = true ∧ (y.de == p) = true ∧ posOf p c y = y.db - y.db) ∨ ((y.cu == c) = true ∧ (y.cr == p) = true ∧ (y.de == p) = false ∧ posOf p c y = y.db) ∨ ((y.cu == c) = true ∧ (y.cr == p) = false ∧ (y.de == p) = true ∧ posOf p c y = - y.db) ∨ ((y.cu == c) = true ∧ (y.cr == p) = false ∧ (y.de == p) = false ∧ posOf p c y = 0) := by
        unfold posOf
        by_cases h1 : y.cu = c <;> by_cases h2 : y.cr = p <;> by_cases h3 : y.de = p <;> simp [h1, h2, h3]
      rcases hs with ⟨h1, hv⟩ | ⟨h1, h2, h3, hv⟩ | ⟨h1, h2, h3, hv⟩ | ⟨h1, h2, h3, hv⟩ | ⟨h1, h2, h3, hv⟩
      · have V := Lib.hid hv
        clear hv
        go_wp2
        go_round
        case rel => exact ⟨k + 1, by omega, by go_num, by rw [HN.out, V.out] <;> first | done | go_num | (congr 1; omega)⟩
        case measure => simp [intOf]; omega
      · have V := Lib.hid hv
        clear hv
        go_wp2
        go_round
        case rel => exact ⟨k + 1, by omega, by go_num, by rw [HN.out, V.out] <;> first | done | go_num | (congr 1; omega)⟩
        case measure => simp [intOf]; omega
      · have V := Lib.hid hv
        clear hv
        go_wp2
        go_round
        case rel => exact ⟨k + 1, by omega, by go_num, by rw [HN.out, V.out] <;> first | done | go_num | (congr 1; omega)⟩
        case measure => simp [intOf]; omega
      · have V := Lib.hid hv
        clear hv
        go_wp2
        go_round
        case rel => exact ⟨k + 1, by omega, by go_num, by rw [HN.out, V.out] <;> first | done | go_num | (congr 1; omega)⟩
        case measure => simp [intOf]; omega
      · have V := Lib.hid hv
        clear hv
        go_wp2
        go_round
        case rel => exact ⟨k + 1, by omega, by go_num, by rw [HN.out, V.out] <;> first | done | go_num | (congr 1; omega)⟩
        case measure => simp [intOf]; omega
    · have hke : ls.take k = ls := List.take_of_length_le (by omega)
      rw [hke]
      clear hke hb1 hb2
      go_wp2
      go_ret
      exact ⟨rfl, rfl⟩

set_option maxHeartbeats 4000000 in
set_option maxRecDepth 100000 in
theorem rtotal_any {w : World} {base g : Nat} {ps : List Int} {ls : List Ln} {vp vl : Value} (h : RefL w base g ps ls vp vl) (hgood : ∀ y ∈ ls, y.Good) (hlen : ls.length ≤ 100) (c : Int) :
    Calls Try.prog 23 #[.pointer (some ⟨g, 0, none⟩), .int .u8 c] w fun e w' => e = .returned (.int .i64 (totL ls c)) ∧ w' = w := by
  have d0 := h.blk.cell 1
  simp at d0
  obtain ⟨ao, cap, rfl, hc1, hc2, hc3, hc4⟩ := owns_open h.l
  have HC := Lib.hid hc4
  have HG := Lib.hid hgood
  have hlt := h.blk.lt
  unfold maxLen at hc2
  clear hc3 hc4 h hgood
  go_enter Try.func23, Try.ntmps23
  go_wp2
  go_loop [5, 6] (fun v i => ∃ k : Nat, k ≤ ls.length ∧ i = .int .i64 k ∧ v = .int .i64 ((ls.take k).map (totOf c)).sum) (fun _ i => ls.length - (intOf i).toNat)
  case atStart => exact ⟨0, Nat.zero_le _, rfl, rfl⟩
  case round =>
    obtain ⟨k, hk, rfl, rfl⟩ := hrel
    have hbd := sum_le (totOf c) 1099511627776 (ls.take k) (fun x hx => totOf_bd (HG.out x (List.mem_of_mem_take hx)) c)
    have hlk : (ls.take k).length ≤ 100 := Nat.le_trans (List.length_take_le _ _) (by omega)
    have hb1 : -109951162777600 ≤ ((ls.take k).map (totOf c)).sum := by omega
    have hb2 : ((ls.take k).map (totOf c)).sum ≤ 109951162777600 := by omega
    clear hbd hlk
    by_cases hkl : k < ls.length
    · have HN := Lib.hid (sum_next (totOf c) ls k hkl)
      obtain ⟨b, rfl, _, hb3, hcell, _⟩ := HC.out (by omega)
      obtain ⟨e0, e1, e2, e3, e4⟩ := ln_cells hcell hkl
      have hgd := HG.out ls[k] (List.getElem_mem hkl)
      have hdb := hgd.db; have hli := hgd.li
      clear hcell hgd
      generalize ls[k] = y at *
      generalize ((ls.take k).map (totOf c)).sum = s at *
      have hs : ((y.cu == c) = false ∧ totOf c y = 0) ∨ ((y.cu == c) = true ∧ totOf c y = y.db) := by
        unfold totOf
        by_cases h1 : y.cu = c <;> simp [h1]
      rcases hs with ⟨h1, hv⟩ | ⟨h1, hv⟩
      · have V := Lib.hid hv
        clear hv
        go_wp2
        go_round
        case rel => exact ⟨k + 1, by omega, by go_num, by rw [HN.out, V.out] <;> first | done | go_num | (congr 1; omega)⟩
        case measure => simp [intOf]; omega
      · have V := Lib.hid hv
        clear hv
        go_wp2
        go_round
        case rel => exact ⟨k + 1, by omega, by go_num, by rw [HN.out, V.out] <;> first | done | go_num | (congr 1; omega)⟩
        case measure => simp [intOf]; omega
    · have hke : ls.take k = ls := List.take_of_length_le (by omega)
      rw [hke]
      clear hke hb1 hb2
      go_wp2
      go_ret
      exact ⟨rfl, rfl⟩

end Go.Proofs.Ytlcilpeljnoclaa
