/-
  The program's ledgers: Copy.
-/
import Derived.Test.YtlcilpeljnoclaaPLed10
import Derived.Test.YtlcilpeljnoclaaBitArr
import Derived.Shelf.SlMaps.Clone
import Derived.Deep.MidRow
namespace Go.Proofs.Ytlcilpeljnoclaa
open Go.RowKit
set_option linter.unusedSimpArgs false
set_option linter.unusedVariables false

set_option maxHeartbeats 2000000 in
set_option maxRecDepth 100000 in
theorem clone_any {w : World} {b : Nat} {es : Array MapEntry} {clock : Nat} (hb : w.heap[b]? = some (.map es clock)) :
    Calls Try.prog 45 #[.map (some b)] w fun e w' => e = .returned (.map (some w.heap.size)) ∧ w' = w.alloc (.map es clock) := by
  have hq := fun w => Go.Proofs.run_eql_map_nil_sl (P := Try.prog) w 63 _ _ (some b) Try.underlying63
  go_enter Try.func45, Try.ntmps45
  go_wp2
  rw [run_callFunc_extern Try.func70 (by kernel_rfl) (by kernel_rfl) (by kernel_rfl) (e := Extern.MapsClone.clone) (by kernel_rfl), Go.Proofs.run_maps_clone_sl w 63 hb]
  simp only [Result.andThen]
  rw [Oper.upon_value]
  go_wp2
  rw [Go.Proofs.run_typeAssert_map_sl _ 63 20 _ _ _ Try.underlying63]
  simp only [Result.andThen]
  rw [Oper.upon_value]
  go_wp2
  go_ret
  exact ⟨rfl, rfl⟩

/-- The seventeen answers of a ledger's array, as one value. -/
def parC (ps : List Int) : List Value := ((ledC ps (.map none)).toList.take 17)
theorem parC_len (ps : List Int) : (parC ps).length = 17 := by simp [parC, ledC_size]
theorem parC_get (ps : List Int) {j : Nat} (h : j < 17) : (parC ps)[j]? = some (.bool (decide ((j : Int) ∈ ps))) := by
  unfold parC
  rw [List.getElem?_take_of_lt h, Array.getElem?_toList, ledC_has _ _ _ h]
theorem ledC_par (ps : List Int) (v : Value) : (parC ps ++ [v]).toArray = ledC ps v := by
  apply Array.ext_getElem?
  intro j
  rw [List.getElem?_toArray]
  by_cases h : j < 17
  · rw [List.getElem?_append_left (by rw [parC_len]; exact h), parC_get _ h, ledC_has _ _ _ h]
  · by_cases h2 : j = 17
    · subst h2
      rw [ledC_map, List.getElem?_append_right (by rw [parC_len]; omega), parC_len]
      rfl
    · rw [Array.getElem?_eq_none (by rw [ledC_size]; omega), List.getElem?_eq_none (by simp [parC_len]; omega)]
theorem par_range {w : World} {g : Nat} {ps : List Int} {v : Value} {t : TypeId} (h : Blk w g (ledC ps v) t) : w.rangeAt g 0 (parC ps) := by
  intro j u hu
  have hj : j < 17 := by
    rcases Nat.lt_or_ge j 17 with h' | h'
    · exact h'
    · rw [List.getElem?_eq_none (by rw [parC_len]; exact h')] at hu; cases hu
  rw [Nat.zero_add, h.cell j, ledC_has _ _ _ hj, ← parC_get ps hj]
  exact hu
theorem par_form (ps : List Int) : ∃ b0 b1 b2 b3 b4 b5 b6 b7 b8 b9 b10 b11 b12 b13 b14 b15 b16 : Bool, parC ps = [Value.bool b0, Value.bool b1, Value.bool b2, Value.bool b3, Value.bool b4, Value.bool b5, Value.bool b6, Value.bool b7, Value.bool b8, Value.bool b9, Value.bool b10, Value.bool b11, Value.bool b12, Value.bool b13, Value.bool b14, Value.bool b15, Value.bool b16] := by
  have h := parC_len ps
  refine ⟨decide ((0 : Int) ∈ ps), decide ((1 : Int) ∈ ps), decide ((2 : Int) ∈ ps), decide ((3 : Int) ∈ ps), decide ((4 : Int) ∈ ps), decide ((5 : Int) ∈ ps), decide ((6 : Int) ∈ ps), decide ((7 : Int) ∈ ps), decide ((8 : Int) ∈ ps), decide ((9 : Int) ∈ ps), decide ((10 : Int) ∈ ps), decide ((11 : Int) ∈ ps), decide ((12 : Int) ∈ ps), decide ((13 : Int) ∈ ps), decide ((14 : Int) ∈ ps), decide ((15 : Int) ∈ ps), decide ((16 : Int) ∈ ps), ?_⟩
  apply List.ext_getElem?
  intro j
  by_cases hj : j < 17
  · rw [parC_get ps hj]
    match j, hj with
    | 0, _ => rfl
    | 1, _ => rfl
    | 2, _ => rfl
    | 3, _ => rfl
    | 4, _ => rfl
    | 5, _ => rfl
    | 6, _ => rfl
    | 7, _ => rfl
    | 8, _ => rfl
    | 9, _ => rfl
    | 10, _ => rfl
    | 11, _ => rfl
    | 12, _ => rfl
    | 13, _ => rfl
    | 14, _ => rfl
    | 15, _ => rfl
    | 16, _ => rfl
    | n + 17, h => omega
  · rw [List.getElem?_eq_none (by omega), List.getElem?_eq_none (by simp; omega)]
theorem build_led (ps : List Int) (m : Nat) (w : World) : (Instr.build 65 #[(0, .agg (parC ps).toArray), (1, .map (some m))]).run Try.prog w = .ok (.agg (ledC ps (.map (some m)))) w := by
  rw [← ledC_par]
  obtain ⟨b0, b1, b2, b3, b4, b5, b6, b7, b8, b9, b10, b11, b12, b13, b14, b15, b16, hb⟩ := par_form ps
  rw [hb]
  have h : (Instr.build 65 #[(0, .agg [Value.bool b0, Value.bool b1, Value.bool b2, Value.bool b3, Value.bool b4, Value.bool b5, Value.bool b6, Value.bool b7, Value.bool b8, Value.bool b9, Value.bool b10, Value.bool b11, Value.bool b12, Value.bool b13, Value.bool b14, Value.bool b15, Value.bool b16].toArray), (1, .map (some m))]).run Try.prog = fun w => .ok (.agg ([Value.bool b0, Value.bool b1, Value.bool b2, Value.bool b3, Value.bool b4, Value.bool b5, Value.bool b6, Value.bool b7, Value.bool b8, Value.bool b9, Value.bool b10, Value.bool b11, Value.bool b12, Value.bool b13, Value.bool b14, Value.bool b15, Value.bool b16] ++ [Value.map (some m)]).toArray) w := by
    kernel_rfl
  rw [h]
def CopyAt (W : World) (o : Obj) (C : Array Value) (T : TypeId) (D : Nat → Bool) (w : World) : Prop :=
  Below W.heap.size W w ∧ w.heap.size = W.heap.size + ((if D 8 = true then 1 else 0) + (if D 10 = true then 1 else 0)) ∧ (D 8 = true → w.heap[W.heap.size]? = some o) ∧ (D 10 = true → w.heap[W.heap.size + 1]? = some (.cells C T))
theorem CopyAt.step {W w : World} {o : Obj} {C : Array Value} {T : TypeId} {D : Nat → Bool} {k : Nat} (h : CopyAt W o C T D w) (h8 : k ≠ 8) (h10 : k ≠ 10) : CopyAt W o C T (ins k D) w := by
  unfold CopyAt
  rw [ins_ne D (Ne.symm h8), ins_ne D (Ne.symm h10)]
  exact h
def CopyMPost (w : World) (ps : List Int) (ls : List Ln) (e : Ending) (w' : World) : Prop :=
  ∃ g' m', e = .returned (.pointer (some ⟨g', 0, none⟩)) ∧ LedM w' g' m' ps ls ∧ w.heap.size ≤ g' ∧ w.heap.size ≤ m' ∧ Below w.heap.size w w'
set_option maxHeartbeats 4000000 in
set_option maxRecDepth 100000 in
theorem pcopy_any {w : World} {G M : Nat} {ps : List Int} {ls : List Ln} (h : LedM w G M ps ls) :
    Calls Try.prog 12 #[.pointer (some ⟨G, 0, none⟩)] w (CopyMPost w ps ls) := by
  have C1 := Lib.hid (made_any h.blk)
  have HBk := Lib.hid h.blk
  obtain ⟨ms, ⟨es, clock, hes, hst, hkv⟩, hperm⟩ := h.map
  have HM := Lib.hid hes
  have HN : Hid (∀ w', w'.heap[w.heap.size]? = some (.map es clock) → MapIs w' w.heap.size ls) := Lib.hid fun w' hw => ⟨ms, ⟨es, clock, hw, hst, hkv⟩, hperm⟩
  have hMlt : M < w.heap.size := h.map.lt
  clear h hes hst hkv hperm
  go_enter Try.func12, Try.ntmps12
  go_wp2_with fail
  refine C1.out.mono ?_
  rintro e w ⟨rfl, rfl⟩
  go_wp2_with fail
  refine region_inv (by kernel_rfl) [(.pointer (some ⟨G, 0, none⟩)), (.pointer (some ⟨G, 0, none⟩)), (.pointer (some ⟨G, 0, none⟩)), (.agg (parC ps).toArray), (.pointer (some ⟨G, 0, none⟩)), (.pointer (some ⟨G, 0, none⟩)), (.pointer (some ⟨G, 17, none⟩)), (.map (some M)), (.map (some w.heap.size)), (.agg (ledC ps (.map (some w.heap.size)))), (.pointer (some ⟨w.heap.size + 1, 0, none⟩)), (.pointer (some ⟨w.heap.size + 1, 0, none⟩))]
    (CopyAt w (.map es clock) (ledC ps (.map (some w.heap.size))) 65) (by kernel_rfl) ⟨(Below.refl _ _).drew, by simp, by simp, by simp⟩ ?_
  intro af haf
  simp only [puts, Act.put, List.getD_cons_zero, List.getD_cons_succ, List.setIfInBounds_toArray, List.set_cons_succ, List.set_cons_zero] at haf
  subst haf
  refine ⟨?_, ?_⟩
  · simp only [EachIn]
    refine ⟨?_, ?_, ?_, ?_, ?_, ?_, ?_, ?_, ?_, ?_, ?_, ?_, trivial⟩
    · intro D w' hD hWt hC hI
      have hS := hI.1
      have HI := Lib.hid (hI.step (k := 0) (by decide) (by decide))
      have kb := HBk.out.below hS HBk.out.lt
      have hl := kb.lt
      have d := kb.ledMap
      clear hS hI hC hWt hD kb
      refine OpTo.plain ?_ ?_
      exact rfl
      go_wp2_with fail
      all_goals first | exact HI.out | exact ⟨rfl, HI.out⟩ | rfl
    · intro D w' hD hWt hC hI
      have hS := hI.1
      have HI := Lib.hid (hI.step (k := 1) (by decide) (by decide))
      have kb := HBk.out.below hS HBk.out.lt
      have hl := kb.lt
      have d := kb.ledMap
      clear hS hI hC hWt hD kb
      refine OpTo.plain ?_ ?_
      exact rfl
      go_wp2_with fail
      all_goals first | exact HI.out | exact ⟨rfl, HI.out⟩ | rfl
    · intro D w' hD hWt hC hI
      have hS := hI.1
      have HI := Lib.hid (hI.step (k := 2) (by decide) (by decide))
      have kb := HBk.out.below hS HBk.out.lt
      have hl := kb.lt
      have d := kb.ledMap
      clear hS hI hC hWt hD kb
      refine OpTo.plain ?_ ?_
      exact rfl
      go_wp2_with fail
      all_goals first | exact HI.out | exact ⟨rfl, HI.out⟩ | rfl
    · intro D w' hD hWt hC hI
      have hS := hI.1
      have HI := Lib.hid (hI.step (k := 3) (by decide) (by decide))
      have kb := HBk.out.below hS HBk.out.lt
      have hl := kb.lt
      have d := kb.ledMap
      refine OpTo.plain ?_ ?_
      exact rfl
      refine wp_load_mid 62 (.tmp 8) rfl G 0 rfl (parC ps) _ (par_range kb) Try.underlying62 rfl (by rw [parC_len]; kernel_rfl) ?_
      exact ⟨rfl, HI.out⟩
    · intro D w' hD hWt hC hI
      have hS := hI.1
      have HI := Lib.hid (hI.step (k := 4) (by decide) (by decide))
      have kb := HBk.out.below hS HBk.out.lt
      have hl := kb.lt
      have d := kb.ledMap
      clear hS hI hC hWt hD kb
      refine OpTo.plain ?_ ?_
      exact rfl
      go_wp2_with fail
      all_goals first | exact HI.out | exact ⟨rfl, HI.out⟩ | rfl
    · intro D w' hD hWt hC hI
      have hS := hI.1
      have HI := Lib.hid (hI.step (k := 5) (by decide) (by decide))
      have kb := HBk.out.below hS HBk.out.lt
      have hl := kb.lt
      have d := kb.ledMap
      clear hS hI hC hWt hD kb
      refine OpTo.plain ?_ ?_
      exact rfl
      go_wp2_with fail
      all_goals first | exact HI.out | exact ⟨rfl, HI.out⟩ | rfl
    · intro D w' hD hWt hC hI
      have hS := hI.1
      have HI := Lib.hid (hI.step (k := 6) (by decide) (by decide))
      have kb := HBk.out.below hS HBk.out.lt
      have hl := kb.lt
      have d := kb.ledMap
      clear hS hI hC hWt hD kb
      refine OpTo.plain ?_ ?_
      exact rfl
      go_wp2_with fail
      all_goals first | exact HI.out | exact ⟨rfl, HI.out⟩ | rfl
    · intro D w' hD hWt hC hI
      have hS := hI.1
      have HI := Lib.hid (hI.step (k := 7) (by decide) (by decide))
      have kb := HBk.out.below hS HBk.out.lt
      have hl := kb.lt
      have d := kb.ledMap
      clear hS hI hC hWt hD kb
      refine OpTo.plain ?_ ?_
      exact rfl
      go_wp2_with fail
      all_goals first | exact HI.out | exact ⟨rfl, HI.out⟩ | rfl
    · intro D w' hD hWt hC hI
      have h10 : D 10 = false := waits_not hC hD 12 10 (by kernel_rfl)
      obtain ⟨q1, q2, q3, q4⟩ := hI
      rw [hD, h10] at q2
      have hz : w'.heap.size = w.heap.size := by simpa using q2
      have hc := clone_any (w := w') (b := M) (es := es) (clock := clock) (by rw [q1.block M hMlt]; exact HM.out)
      rw [hz] at hc
      have HI : Hid (CopyAt w (.map es clock) (ledC ps (.map (some w.heap.size))) 65 (ins 8 D) (w'.alloc (.map es clock))) := Lib.hid (by
        refine ⟨q1.alloc q1.size _, ?_, fun _ => ?_, fun d => ?_⟩
        · rw [ins_same, ins_ne D (by decide), h10]; simp [hz]
        · rw [← hz]; exact heap_alloc_new _ _
        · rw [ins_ne D (by decide), h10] at d; cases d)
      have HC := Lib.hid hc
      clear q1 q2 q3 q4 hc hC hWt hD h10
      refine OpTo.plain ?_ ?_
      exact rfl
      go_wp2_with fail
      refine HC.out.mono ?_
      rintro e w'' ⟨rfl, rfl⟩
      exact ⟨rfl, HI.out⟩
    · intro D w' hD hWt hC hI
      have hS := hI.1
      have HI := Lib.hid (hI.step (k := 9) (by decide) (by decide))
      have kb := HBk.out.below hS HBk.out.lt
      have hl := kb.lt
      have d := kb.ledMap
      refine OpTo.plain ?_ ?_
      exact rfl
      refine wp_build_of 65 #[(0, .tmp 9), (1, .tmp 14)] rfl #[(0, (.agg (parC ps).toArray)), (1, (.map (some w.heap.size)))] (by simp [Act.eval]) _ (build_led ps w.heap.size w') ?_
      exact ⟨rfl, HI.out⟩
    · intro D w' hD hWt hC hI
      have h8 : D 8 = true := waited_done hC hWt (d := 12) (by kernel_rfl)
      obtain ⟨q1, q2, q3, q4⟩ := hI
      rw [hD, h8] at q2
      have hz : w'.heap.size = w.heap.size + 1 := by simpa using q2
      have HI : Hid (CopyAt w (.map es clock) (ledC ps (.map (some w.heap.size))) 65 (ins 10 D) (w'.alloc (.cells (ledC ps (.map (some w.heap.size))) 65))) := Lib.hid (by
        refine ⟨q1.alloc q1.size _, ?_, fun d => ?_, fun _ => ?_⟩
        · rw [ins_same, ins_ne D (by decide), h8]; simp [hz]
        · rw [heap_alloc_old _ _ (by omega)]; exact q3 h8
        · rw [← hz]; exact heap_alloc_new _ _)
      clear q1 q2 q3 q4 hC hWt hD h8
      refine OpTo.plain ?_ ?_
      exact rfl
      go_wp2_with fail
      all_goals first | exact HI.out | exact ⟨rfl, HI.out⟩ | exact ⟨by rw [hz], HI.out⟩
    · intro D w' hD hWt hC hI
      have hS := hI.1
      have HI := Lib.hid (hI.step (k := 11) (by decide) (by decide))
      have kb := HBk.out.below hS HBk.out.lt
      have hl := kb.lt
      have d := kb.ledMap
      clear hS hI hC hWt hD kb
      refine OpTo.plain ?_ ?_
      exact rfl
      go_wp2_with fail
      all_goals first | exact HI.out | exact ⟨rfl, HI.out⟩ | rfl
  intro D w2 hall hI
  obtain ⟨q1, q2, q3, q4⟩ := hI
  have q3 := q3 (hall 8 (by decide))
  have q4 := q4 (hall 10 (by decide))
  have HE := Lib.hid (show LedM w2 (w.heap.size + 1) w.heap.size ps ls from ⟨q4, HN.out w2 q3⟩)
  have HB := Lib.hid q1
  clear q1 q2 q3 q4 hall
  go_wp2_with fail
  refine bodyPost_ret (v := .pointer (some ⟨w.heap.size + 1, 0, none⟩)) (by simp [results, Try.results12, go_sem]) rfl ?_
  exact ⟨w.heap.size + 1, w.heap.size, rfl, HE.out, by omega, Nat.le_refl _, HB.out⟩

end Go.Proofs.Ytlcilpeljnoclaa
