/-
  Package paths: turned.
-/
import Derived.Test.YtmfacfnbokadmaaPRow
import Derived.Test.YtmfacfnbokadmaaBfs
import Derived.Test.YtmfacfnbokadmaaRef06r
import Derived.Test.YtmfacfnbokadmaaBitArr
namespace Go.Proofs.Ytmfacfnbokadmaa
open Go.RowKit
set_option linter.unusedSimpArgs false
set_option linter.unusedVariables false

/-- Who came behind i steps; nobody (0) counts as one that came. -/
def cameF (ah : Int → Int) (p : Int) (i : Nat) (c : Int) : Bool := c == 0 || (List.range i).any fun j => itr ah j p == c
theorem cameF_iff {ah : Int → Int} {p : Int} {i : Nat} {c : Int} : cameF ah p i c = true ↔ c = 0 ∨ ∃ j, j < i ∧ itr ah j p = c := by
  unfold cameF
  simp
theorem cameF_next (ah : Int → Int) (p : Int) (i : Nat) : (fun q => if q = itr ah i p then true else cameF ah p i q) = cameF ah p (i + 1) := by
  funext q
  by_cases h : q = itr ah i p
  · rw [if_pos h]
    exact (cameF_iff.2 (.inr ⟨i, by omega, h.symm⟩)).symm
  · rw [if_neg h]
    apply Bool.eq_iff_iff.2
    rw [cameF_iff, cameF_iff]
    constructor
    · rintro (h1 | ⟨j, h1, h2⟩)
      · exact .inl h1
      · exact .inr ⟨j, by omega, h2⟩
    · rintro (h1 | ⟨j, h1, h2⟩)
      · exact .inl h1
      · by_cases e : j = i
        · subst e; exact absurd h2.symm h
        · exact .inr ⟨j, by omega, h2⟩
theorem inA_form (b : Int → Bool) : inA b = #[.bool (b 0), .bool (b 1), .bool (b 2), .bool (b 3), .bool (b 4), .bool (b 5), .bool (b 6), .bool (b 7), .bool (b 8), .bool (b 9), .bool (b 10), .bool (b 11), .bool (b 12), .bool (b 13), .bool (b 14), .bool (b 15), .bool (b 16)] := by
  apply Array.ext (by rw [inA_size]; rfl)
  intro i h1 h2
  have h17 : i < 17 := by rw [inA_size] at h1; exact h1
  have := inA_get b h17
  rw [Array.getElem?_eq_getElem h1] at this
  simp only [Option.some.injEq] at this
  rw [this]
  have hi : i = 0 ∨ i = 1 ∨ i = 2 ∨ i = 3 ∨ i = 4 ∨ i = 5 ∨ i = 6 ∨ i = 7 ∨ i = 8 ∨ i = 9 ∨ i = 10 ∨ i = 11 ∨ i = 12 ∨ i = 13 ∨ i = 14 ∨ i = 15 ∨ i = 16 := by omega
  rcases hi with rfl | rfl | rfl | rfl | rfl | rfl | rfl | rfl | rfl | rfl | rfl | rfl | rfl | rfl | rfl | rfl | rfl <;> rfl
theorem build_came (ah : Int → Int) (p : Int) (w : World) : (Instr.build 89 #[(0, .bool true)]).run Try.prog w = .ok (.agg (inA (cameF ah p 0))) w := by
  rw [inA_form]
  show _ = Result.ok (Value.agg #[.bool true, .bool false, .bool false, .bool false, .bool false, .bool false, .bool false, .bool false, .bool false, .bool false, .bool false, .bool false, .bool false, .bool false, .bool false, .bool false, .bool false]) w
  kernel_rfl
theorem zero_inP : (∀ w, (zeroValue 89).run Try.prog w = .ok (.agg (inA fun _ => false)) w) ∧ (Try.prog.info? 89).map (·.size) = some 17 := by
  rw [inA_form]
  exact zero_of_info (by kernel_rfl)
theorem info_inP (b : Int → Bool) : (Try.prog.info? 89).map (·.size) = some (inA b).size := by rw [inA_size]; exact zero_inP.2
/-- How many there are. -/
def sLen : Value → Nat
  | .slice _ k _ => k
  | _ => 0
theorem sLen_slice (a : Option Addr) (n c : Nat) : sLen (.slice a n c) = n := rfl
def TurnAt (w : World) (ah : Int → Int) (p : Int) (n : Nat) (pv lv : Value) (wr : World) : Prop :=
  ∃ i : Nat, i ≤ n ∧ pv = .int .u8 (itr ah i p) ∧ wr.ownsRow w.heap.size 35 1 lv ((List.range i).map fun j => itr ah j p).length (((List.range i).map fun j => itr ah j p).map (.int .u8)) ∧ Blk wr w.heap.size (inA (cameF ah p i)) 89 ∧ Below w.heap.size w wr
set_option maxHeartbeats 8000000 in
set_option maxRecDepth 100000 in
theorem turned_any {w : World} {g off : Nat} {ah : Int → Int} {p : Int} {n : Nat} (hg : g < w.heap.size) (hcell : ∀ c : Nat, c < 17 → w.cell? ⟨g, off + c, none⟩ = some (.int .u8 (ah c)))
    (hn : ∀ i, i < n → inP (itr ah i p)) (hd : ∀ i j, i < j → j < n → itr ah i p ≠ itr ah j p) (he : itr ah n p = 0 ∨ ∃ i, i < n ∧ itr ah i p = itr ah n p) (h1 : 1 ≤ n) (h16 : n ≤ 16) :
    Calls Try.prog 36 #[.pointer (some ⟨g, off, none⟩), .int .u8 p] w (RowPost 35 (chainL ah p n) w) := by
  have HC := Lib.hid hcell
  have HN := Lib.hid hn
  have HD := Lib.hid hd
  have HE := Lib.hid (cameF_iff.2 (he.imp id (fun ⟨i, h1, h2⟩ => ⟨i, h1, h2⟩)))
  have hz := zero_inP.1
  have Z := Lib.hid (Blk.new w (inA fun _ => false) 89)
  have E1 := World.setRow_alloc_new w (inA fun _ => false) (inA (cameF ah p 0)) 89
  have B1 := Lib.hid ((Below.refl w.heap.size w).alloc (Nat.le_refl _) (.cells (inA (cameF ah p 0)) 89))
  have K1 := Lib.hid (Blk.new w (inA (cameF ah p 0)) 89)
  clear hcell hn hd he
  go_enter Try.func36, Try.ntmps36
  go_wp2_with first
    | (refine wpList_build_of ?_ 89 #[(0, .const (.bool true))] ?_ #[(0, .bool true)] ?_ (inA (cameF ah p 0)) (build_came ah p _) ?_; exact rfl; exact rfl; simp [Act.eval])
    | ((with_reducible refine wpList_store_row ?_ 89 (.tmp 6) (.tmp 7) ?_ w.heap.size (inA (cameF ah p 0)) ?_ ?_ 89 _ Z.out.out (info_inP _) (by simp only [inA_size]) (inA_one _) ?_); exact rfl; exact rfl; exact rfl; exact rfl; rw [E1])
  generalize hW : w.alloc (.cells (inA (cameF ah p 0)) 89) = W1 at *
  clear hW hz E1 Z
  simp only [Act.put]
  go_loopw [1, 5] (TurnAt w ah p n) (fun _ l _ => n - sLen l)
  case atStart => exact ⟨0, by omega, rfl, World.ownsRow_nil _ _ _ _, K1.out, B1.out⟩
  case round =>
    clear K1 B1
    obtain ⟨i, hi, rfl, hown, hK, hB⟩ := hrel
    have O1 := Lib.hid hown
    have K1 := Lib.hid hK
    have B1 := Lib.hid hB
    clear hown hK hB
    have hgr := Nat.lt_of_lt_of_le hg B1.out.size
    have hkl := K1.out.lt
    by_cases hin : i < n
    · have hx := HN.out i hin
      have NX := Lib.hid (cameF_next ah p i)
      have IS := Lib.hid (itr_succ ah i p)
      have LS : Hid (((List.range (i + 1)).map fun j => itr ah j p) = ((List.range i).map fun j => itr ah j p) ++ [itr ah i p]) := Lib.hid (by rw [List.range_succ, List.map_append]; rfl)
      have hc0 : cameF ah p i (itr ah i p) = false := by
        cases hc : cameF ah p i (itr ah i p) with
        | false => rfl
        | true =>
          rcases cameF_iff.1 hc with q | ⟨j, q1, q2⟩
          · unfold inP at hx; omega
          · exact absurd q2 (HD.out j i q1 hin)
      have LL : Hid (((List.range i).map fun j => itr ah j p).length = i) := Lib.hid (by simp)
      generalize ((List.range i).map fun j => itr ah j p) = L at *
      generalize itr ah i p = x at *
      obtain ⟨x1, x2⟩ := hx
      have dk := K1.out.inAt (p := x) (by omega) (by omega)
      have fk := K1.out.frozen x.toNat
      rw [hc0] at dk
      have K2 := Lib.hid (K1.out.inSet (p := x) (by omega) (by omega) true)
      rw [NX.out] at K2
      have B2 := Lib.hid (B1.out.setCell (p := ⟨w.heap.size, x.toNat, none⟩) (Nat.le_refl _) (.bool true))
      have O2 := Lib.hid (owns_keep (S := fun b => b = w.heap.size) O1.out ((Keep.refl (fun b => b = w.heap.size) wr).setCell (p := ⟨w.heap.size, x.toNat, none⟩) (.inl rfl) (.bool true)) (owns_ne O1.out K1.out (by decide)))
      have O1' := Lib.hid O1.out
      clear hc0 O1
      have hll : L.length ≤ 16 := by rw [LL.out]; omega
      go_wp2_with (at_builtin; refine wpList_append_party _ rfl (.tmp 19) (.tmp 21) rfl w.heap.size _ L rfl (O2.out.alloc _) _ _ x rfl (Blk.newAt _ _ _ (by simp)) (by omega) (by simp; have := B2.out.size; simp at this; omega) ?_)
      intro v3 w3 hown3 hgr3
      have R2 : ∀ k, Value.ownBlock _ = some k → w.heap.size ≤ k := fun k hk => (owns_type O2.out hk).1
      have B3 := Lib.hid ((B2.out.alloc B2.out.size _).grown hgr3 (by simp; have := B2.out.size; simp at this; omega) (fun k hk => R2 k hk))
      have K3 : Hid (Blk w3 w.heap.size (inA (cameF ah p (i + 1))) 89) := Lib.hid ((hgr3.block w.heap.size (by simp; omega) (fun e => owns_ne O2.out K2.out (by decide) _ e.symm rfl)).trans (K2.out.alloc _).out)
      have O3 := Lib.hid (show w3.ownsRow w.heap.size 35 1 v3 (L ++ [x]).length ((L ++ [x]).map (.int .u8)) by simpa using hown3)
      have dl : w3.cell? ⟨g, off + x.toNat, none⟩ = some (.int .u8 (ah x)) := by
        rw [B3.out.cell (p := ⟨g, off + x.toNat, none⟩) hg, HC.out x.toNat (by omega), Int.toNat_of_nonneg (by omega)]
      have hg3 := Nat.lt_of_lt_of_le hg B3.out.size
      clear R2 hown3 hgr3 K2 B2 O2 K1 B1 dk fk
      obtain ⟨ao3, c3, hv3, _⟩ := owns_open O3.out
      subst hv3
      go_wp2_with fail
      go_roundw
      case rel => exact ⟨i + 1, by omega, by rw [IS.out], by rw [LS.out]; exact O3.out, K3.out, B3.out⟩
      case measure =>
        obtain ⟨ao, cc, rfl, _⟩ := owns_open O1'.out
        have hLL := LL.out
        simp [sLen_slice, List.length_append]
        omega
    · obtain rfl : i = n := by omega
      have hxr : 0 ≤ itr ah i p ∧ itr ah i p < 17 := by
        rcases cameF_iff.1 HE.out with q | ⟨j, q1, q2⟩
        · omega
        · have := HN.out j q1
          unfold inP at this
          omega
      have CL : Hid ((((List.range i).map fun j => itr ah j p)).reverse = chainL ah p i) := Lib.hid rfl
      have LL : Hid (((List.range i).map fun j => itr ah j p).length = i) := Lib.hid (by simp)
      have CR := Lib.hid (rev_any O1.out (by rw [LL.out]; omega) (by rw [LL.out]; omega))
      rw [CL.out] at CR
      have HEi := HE.out
      generalize ((List.range i).map fun j => itr ah j p) = L at *
      generalize itr ah i p = x at *
      have dk := K1.out.inAt (p := x) (by omega) (by omega)
      rw [HEi] at dk
      obtain ⟨x1, x2⟩ := hxr
      obtain ⟨ao3, c3, hv3, _⟩ := owns_open O1.out
      subst hv3
      clear HEi
      go_wp2_with fail
      refine CR.out.mono ?_
      rintro e w4 ⟨rfl, hown, hb⟩
      have B4 := Lib.hid (B1.out.trans hb)
      have e6 : (chainL ah p i).length = L.length := by rw [chainL_len, LL.out]
      have O4 := Lib.hid (show w4.ownsRow w.heap.size 35 1 (.slice ao3 L.length c3) (chainL ah p i).length ((chainL ah p i).map (.int .u8)) by rw [e6]; exact hown)
      have CC := Lib.hid (clipY_any O4.out)
      rw [e6] at CC
      have E6 := Lib.hid e6
      clear hown hb CR e6
      go_wp2_with fail
      refine CC.out.mono ?_
      rintro e w5 ⟨v', rfl, hrow, _, rfl⟩
      have HRow := Lib.hid hrow
      clear hrow CC
      go_wp2_with fail
      refine bodyPost_ret (v := v') (by simp [results, Try.results36, go_sem]) rfl ?_
      exact ⟨v', rfl, by rw [E6.out]; exact HRow.out, B4.out⟩

end Go.Proofs.Ytmfacfnbokadmaa
