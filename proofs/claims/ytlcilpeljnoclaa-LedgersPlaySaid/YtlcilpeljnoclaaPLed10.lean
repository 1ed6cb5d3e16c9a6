/-
  The program's ledgers: Parties.
-/
import Derived.Test.YtlcilpeljnoclaaPLed9
namespace Go.Proofs.Ytlcilpeljnoclaa
open Go.RowKit
set_option linter.unusedSimpArgs false
set_option linter.unusedVariables false

theorem open_all {ps : List Int} (hb : ∀ p ∈ ps, 1 ≤ p ∧ p ≤ 16) (hr : ps.Pairwise (· < ·)) : openTo ps 0 17 = ps := by
  refine rise_ext _ _ (openTo_rise ps 0 17) hr fun x => ?_
  rw [openTo_mem]
  constructor
  · rintro ⟨h1, h2 | h2⟩
    · omega
    · exact h2
  · intro h
    exact ⟨hb x h, .inr h⟩

def PartiesAt (ps : List Int) (w : World) (v q : Value) (wr : World) : Prop :=
  ∃ k : Nat, 1 ≤ k ∧ k ≤ 17 ∧ q = .int .u8 k ∧ wr.ownsRow w.heap.size 28 1 v (openTo ps 0 k).length ((openTo ps 0 k).map (.int .u8)) ∧ Below w.heap.size w wr
set_option maxHeartbeats 4000000 in
set_option maxRecDepth 100000 in
theorem pparties_any {w : World} {G M : Nat} {ps : List Int} {ls : List Ln} (h : LedM w G M ps ls) (hI : LInv ps ls) :
    Calls Try.prog 27 #[.pointer (some ⟨G, 0, none⟩)] w (ListPost w 28 1 ps.length (ps.map (.int .u8))) := by
  have H := Lib.hid h
  have HI := Lib.hid hI
  have c := Lib.hid (fun (w' : World) (k : Below w.heap.size w w') (q : Int) => has_any (h.below k).blk hI.bd q)
  have HE := Lib.hid (open_all hI.bd hI.rise)
  clear h hI
  go_enter Try.func27, Try.ntmps27
  go_wp2_with fail
  go_loopw [3, 4] (PartiesAt ps w) (fun _ q _ => 17 - (intOf q).toNat)
  case atStart => exact ⟨1, by omega, by omega, rfl, World.ownsRow_nil _ _ _ _, Below.refl _ _⟩
  case round =>
    obtain ⟨k, hk0, hk, rfl, hown, hb⟩ := hrel
    have hl := openTo_len ps 0 k
    have O0 := Lib.hid hown; have B0 := Lib.hid hb
    have hz := hb.size
    clear hown hb
    by_cases hkl : k ≤ 16
    · have N := Lib.hid (openTo_next ps 0 k hk0)
      have cq := Lib.hid (c.out _ B0.out (k : Int))
      have hk1 : (k : Int) ≤ 16 := by omega
      have s1 : ((k : Int) == 0) = false := by simp; omega
      by_cases s2 : (k : Int) ∈ ps
      · have N2 : Hid (openTo ps 0 (k + 1) = openTo ps 0 k ++ [(k : Int)]) := Lib.hid (by rw [N.out, s1, decide_eq_true s2]; rfl)
        rw [decide_eq_true s2] at cq
        clear N s2 s1
        generalize openTo ps 0 k = out at *
        have hl2 : out.length ≤ 100000 := by omega
        go_wp2_with fail
        refine cq.out.mono ?_
        rintro e wr ⟨rfl, rfl⟩
        go_wp2_with (at_builtin; refine wpList_append_party _ rfl (.tmp 12) (.tmp 14) rfl w.heap.size _ out rfl (O0.out.alloc _) _ _ (k : Int) rfl (Blk.new _ _ _) hl2 (by simp; omega) ?_)
        intro v3 w3 hown3 hgr3
        have R2 : ∀ k, Value.ownBlock _ = some k → w.heap.size ≤ k := fun k hk => (owns_type O0.out hk).1
        have B3 := Lib.hid ((B0.out.alloc B0.out.size (.cells #[.int .u8 (k : Int)] 28)).grown hgr3 (by simp; omega) (fun k hk => R2 k hk))
        have O3 := Lib.hid (show w3.ownsRow w.heap.size 28 1 v3 (out ++ [(k : Int)]).length ((out ++ [(k : Int)]).map (.int .u8)) by simpa using hown3)
        clear R2 hown3 hgr3
        go_wp2_with fail
        go_roundw
        case rel => exact ⟨k + 1, by omega, by omega, by go_num, by rw [N2.out]; exact O3.out, B3.out⟩
        case measure => simp [intOf]; omega
      · have N2 : Hid (openTo ps 0 (k + 1) = openTo ps 0 k) := Lib.hid (by rw [N.out, s1, decide_eq_false s2]; simp)
        rw [decide_eq_false s2] at cq
        clear N s2 s1
        go_wp2_with fail
        refine cq.out.mono ?_
        rintro e wr ⟨rfl, rfl⟩
        go_wp2_with fail
        go_roundw
        case rel => exact ⟨k + 1, by omega, by omega, by go_num, by rw [N2.out]; exact O0.out, B0.out⟩
        case measure => simp [intOf]; omega
    · obtain rfl : k = 17 := by omega
      rw [HE.out] at O0
      have CC := Lib.hid (clipP_any O0.out)
      clear hl hk0 hk hkl
      go_wp2_with fail
      refine CC.out.mono ?_
      rintro e w3 ⟨v', rfl, hrow, _, rfl⟩
      have HRow := Lib.hid hrow
      clear hrow CC
      go_wp2_with fail
      refine bodyPost_ret (v := v') (by simp [results, Try.results27, go_sem]) rfl ?_
      exact ⟨v', rfl, HRow.out, B0.out⟩

end Go.Proofs.Ytlcilpeljnoclaa
