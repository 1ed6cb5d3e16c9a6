/-
  The program's order of offers; slices.SortFunc on rows of offers.
-/
import Derived.Test.YtdbdeodcldogmaaSortO
import Derived.Test.YtdbdeodcldogmaaRatsD
import Derived.Test.YtdbdeodcldogmaaBestW
import Derived.Test.YtdbdeodcldogmaaPB4
import Derived.Test.YtdbdeodcldogmaaOnce
import Derived.Test.YtdbdeodcldogmaaRegionG
namespace Go.Proofs.Ytdbdeodcldogmaa
open Go.RowKit Go.Shelf Go.Sort Go.Lib
set_option linter.unusedSimpArgs false
set_option linter.unusedVariables false

/-- What is held while two offers are set side by side. -/
def OrdI (W : World) (p q : Int) (g : Nat) (D : Nat → Bool) (w : World) : Prop := BelowD W.heap.size W w ∧ (D 10 = true → W.heap.size ≤ g ∧ Blk w g #[.int .i64 p, .int .i64 q] 3)
theorem OrdI.step {W w w' : World} {p q : Int} {g : Nat} {D : Nat → Bool} {k : Nat} (h : OrdI W p q g D w) (hb : BelowD w.heap.size w w') (hk : k ≠ 10) : OrdI W p q g (ins k D) w' := by
  have e : ¬ 10 = k := fun e => hk e.symm
  refine ⟨h.1.trans (hb.mono h.1.size), fun d => ?_⟩
  simp [ins, e] at d
  exact ⟨(h.2 d).1, (h.2 d).2.below hb.toBelow (h.2 d).2.lt⟩
set_option maxHeartbeats 4000000 in
set_option maxRecDepth 100000 in
theorem porder_any (x y : Of) (w : World) (hx : x.Fits) (hy : y.Fits) : Calls Try.prog 48 #[.agg #[.int .u64 x.se, .int .u8 x.ow, .int .u8 x.sl, .int .u8 x.bu, .int .i64 x.lf, .int .i64 x.nu, .int .i64 x.de], .agg #[.int .u64 y.se, .int .u8 y.ow, .int .u8 y.sl, .int .u8 y.bu, .int .i64 y.lf, .int .i64 y.nu, .int .i64 y.de]] w fun e w' => e = .returned (.int .i64 (ordO x y)) ∧ BelowD w.heap.size w w' := by
  unfold ordO
  have c1 := Lib.hid (fun w => compare_any_d x.nu x.de y.nu y.de w hx.nu hx.de hy.nu hy.de)
  have c2 := Lib.hid (fun w => compare_u64 x.se y.se w)
  clear hx hy
  generalize cmpR x.nu x.de y.nu y.de = p at *
  generalize cmpI x.se y.se = q at *
  go_enter Try.func48, Try.ntmps48
  go_wp2_with fail
  have KX := Lib.hid ((Blk.new w #[.int .u64 x.se, .int .u8 x.ow, .int .u8 x.sl, .int .u8 x.bu, .int .i64 x.lf, .int .i64 x.nu, .int .i64 x.de] 75).alloc (.cells #[.int .u64 y.se, .int .u8 y.ow, .int .u8 y.sl, .int .u8 y.bu, .int .i64 y.lf, .int .i64 y.nu, .int .i64 y.de] 75))
  have KY := Lib.hid (Blk.newAt (w.alloc (.cells #[.int .u64 x.se, .int .u8 x.ow, .int .u8 x.sl, .int .u8 x.bu, .int .i64 x.lf, .int .i64 x.nu, .int .i64 x.de] 75)) #[.int .u64 y.se, .int .u8 y.ow, .int .u8 y.sl, .int .u8 y.bu, .int .i64 y.lf, .int .i64 y.nu, .int .i64 y.de] 75 (g := w.heap.size + 1) (by simp))
  have B0 := Lib.hid (((BelowD.refl w.heap.size w).alloc (Nat.le_refl _) (.cells #[.int .u64 x.se, .int .u8 x.ow, .int .u8 x.sl, .int .u8 x.bu, .int .i64 x.lf, .int .i64 x.nu, .int .i64 x.de] 75)).alloc (by simp) (.cells #[.int .u64 y.se, .int .u8 y.ow, .int .u8 y.sl, .int .u8 y.bu, .int .i64 y.lf, .int .i64 y.nu, .int .i64 y.de] 75))
  generalize ((w.alloc (.cells #[.int .u64 x.se, .int .u8 x.ow, .int .u8 x.sl, .int .u8 x.bu, .int .i64 x.lf, .int .i64 x.nu, .int .i64 x.de] 75)).alloc (.cells #[.int .u64 y.se, .int .u8 y.ow, .int .u8 y.sl, .int .u8 y.bu, .int .i64 y.lf, .int .i64 y.nu, .int .i64 y.de] 75)) = W at KX KY B0 ⊢
  refine region_ghost (by kernel_rfl) (fun g : Nat => [(.pointer (some ⟨w.heap.size, 5, none⟩)), (.agg #[.int .i64 x.nu, .int .i64 x.de]), (.pointer (some ⟨w.heap.size + 1, 5, none⟩)), (.agg #[.int .i64 y.nu, .int .i64 y.de]), (.int .i64 p), (.pointer (some ⟨w.heap.size, 0, none⟩)), (.int .u64 x.se), (.pointer (some ⟨w.heap.size + 1, 0, none⟩)), (.int .u64 y.se), (.int .i64 q), (.slice (some ⟨g, 0, none⟩) 2 2), (.int .i64 (orI p q)), (.int .i64 (orI p q))])
    (OrdI W p q) (by kernel_rfl) 0 ⟨(BelowD.refl _ _).drew, by simp⟩ ?_
  intro AF hAF
  simp only [List.toList_toArray, puts, Act.put, List.getD_cons_zero, List.getD_cons_succ, List.setIfInBounds_toArray, List.set_cons_succ, List.set_cons_zero] at hAF
  have hAF2 : _ = AF := funext hAF
  subst hAF2
  clear hAF
  refine ⟨?_, ?_⟩
  · simp only [List.toList_toArray, EachG]
    refine ⟨?_, ?_, ?_, ?_, ?_, ?_, ?_, ?_, ?_, ?_, ?_, ?_, ?_, trivial⟩
    · intro g D w' hD hW hC hI
      refine ⟨g, fun _ _ _ => rfl, ?_⟩
      with_reducible refine OpTo.plain ?_ ?_
      exact rfl
      have HS := Lib.hid (hI.step (BelowD.refl _ _) (k := 0) (by decide))
      have hB := hI.1.toBelow
      clear hI hC hW hD hB
      go_wp2_with fail
      all_goals first | exact HS.out | exact ⟨rfl, HS.out⟩ | rfl
    · intro g D w' hD hW hC hI
      refine ⟨g, fun _ _ _ => rfl, ?_⟩
      with_reducible refine OpTo.plain ?_ ?_
      exact rfl
      have HS := Lib.hid (hI.step (BelowD.refl _ _) (k := 1) (by decide))
      have hB := hI.1.toBelow
      have kk := KX.out.below hB KX.out.lt
      have hl := kk.lt
      have d0 := kk.cell 0; have d5 := kk.cell 5; have d6 := kk.cell 6
      simp at d0 d5 d6
      clear kk
      clear hI hC hW hD hB
      go_wp2_with fail
      all_goals first | exact HS.out | exact ⟨rfl, HS.out⟩ | rfl
    · intro g D w' hD hW hC hI
      refine ⟨g, fun _ _ _ => rfl, ?_⟩
      with_reducible refine OpTo.plain ?_ ?_
      exact rfl
      have HS := Lib.hid (hI.step (BelowD.refl _ _) (k := 2) (by decide))
      have hB := hI.1.toBelow
      clear hI hC hW hD hB
      go_wp2_with fail
      all_goals first | exact HS.out | exact ⟨rfl, HS.out⟩ | rfl
    · intro g D w' hD hW hC hI
      refine ⟨g, fun _ _ _ => rfl, ?_⟩
      with_reducible refine OpTo.plain ?_ ?_
      exact rfl
      have HS := Lib.hid (hI.step (BelowD.refl _ _) (k := 3) (by decide))
      have hB := hI.1.toBelow
      have kk := KY.out.below hB KY.out.lt
      have hl := kk.lt
      have d0 := kk.cell 0; have d5 := kk.cell 5; have d6 := kk.cell 6
      simp at d0 d5 d6
      clear kk
      clear hI hC hW hD hB
      go_wp2_with fail
      all_goals first | exact HS.out | exact ⟨rfl, HS.out⟩ | rfl
    · intro g D w' hD hW hC hI
      refine ⟨g, fun _ _ _ => rfl, ?_⟩
      with_reducible refine OpTo.plain ?_ ?_
      exact rfl
      have HI := Lib.hid hI
      clear hI hC hW hD
      go_wp2_with fail
      refine (c1.out w').mono ?_
      rintro e w'' ⟨rfl, hb⟩
      exact ⟨rfl, HI.out.step hb (by decide)⟩
    · intro g D w' hD hW hC hI
      refine ⟨g, fun _ _ _ => rfl, ?_⟩
      with_reducible refine OpTo.plain ?_ ?_
      exact rfl
      have HS := Lib.hid (hI.step (BelowD.refl _ _) (k := 5) (by decide))
      have hB := hI.1.toBelow
      clear hI hC hW hD hB
      go_wp2_with fail
      all_goals first | exact HS.out | exact ⟨rfl, HS.out⟩ | rfl
    · intro g D w' hD hW hC hI
      refine ⟨g, fun _ _ _ => rfl, ?_⟩
      with_reducible refine OpTo.plain ?_ ?_
      exact rfl
      have HS := Lib.hid (hI.step (BelowD.refl _ _) (k := 6) (by decide))
      have hB := hI.1.toBelow
      have kk := KX.out.below hB KX.out.lt
      have hl := kk.lt
      have d0 := kk.cell 0; have d5 := kk.cell 5; have d6 := kk.cell 6
      simp at d0 d5 d6
      clear kk
      clear hI hC hW hD hB
      go_wp2_with fail
      all_goals first | exact HS.out | exact ⟨rfl, HS.out⟩ | rfl
    · intro g D w' hD hW hC hI
      refine ⟨g, fun _ _ _ => rfl, ?_⟩
      with_reducible refine OpTo.plain ?_ ?_
      exact rfl
      have HS := Lib.hid (hI.step (BelowD.refl _ _) (k := 7) (by decide))
      have hB := hI.1.toBelow
      clear hI hC hW hD hB
      go_wp2_with fail
      all_goals first | exact HS.out | exact ⟨rfl, HS.out⟩ | rfl
    · intro g D w' hD hW hC hI
      refine ⟨g, fun _ _ _ => rfl, ?_⟩
      with_reducible refine OpTo.plain ?_ ?_
      exact rfl
      have HS := Lib.hid (hI.step (BelowD.refl _ _) (k := 8) (by decide))
      have hB := hI.1.toBelow
      have kk := KY.out.below hB KY.out.lt
      have hl := kk.lt
      have d0 := kk.cell 0; have d5 := kk.cell 5; have d6 := kk.cell 6
      simp at d0 d5 d6
      clear kk
      clear hI hC hW hD hB
      go_wp2_with fail
      all_goals first | exact HS.out | exact ⟨rfl, HS.out⟩ | rfl
    · intro g D w' hD hW hC hI
      refine ⟨g, fun _ _ _ => rfl, ?_⟩
      with_reducible refine OpTo.plain ?_ ?_
      exact rfl
      have HI := Lib.hid hI
      clear hI hC hW hD
      go_wp2_with fail
      refine (c2.out w').mono ?_
      rintro e w'' ⟨rfl, rfl⟩
      exact ⟨rfl, HI.out.step (BelowD.refl _ _) (by decide)⟩
    · intro g D w' hD hW hC hI
      have hN : D 11 = false := need_not hC hD 11 (by kernel_rfl)
      have hN2 : D 12 = false := need_not hC hD 12 (by kernel_rfl)
      refine ⟨w'.heap.size, ?_, ?_⟩
      · intro j hj hDj
        match j, hj, hDj with
        | 0, _, _ => rfl
        | 1, _, _ => rfl
        | 2, _, _ => rfl
        | 3, _, _ => rfl
        | 4, _, _ => rfl
        | 5, _, _ => rfl
        | 6, _, _ => rfl
        | 7, _, _ => rfl
        | 8, _, _ => rfl
        | 9, _, _ => rfl
        | 10, _, h => simp_all
        | 11, _, h => simp_all
        | 12, _, h => simp_all
        | j + 13, _, _ => rfl
      with_reducible refine OpTo.plain ?_ ?_
      exact rfl
      have HS : Hid (OrdI W p q w'.heap.size (ins 10 D) (w'.alloc (.cells #[.int .i64 p, .int .i64 q] 3))) := Lib.hid ⟨hI.1.alloc hI.1.size _, fun _ => ⟨hI.1.size, Blk.new _ _ _⟩⟩
      clear hI hC hW hD hN hN2
      go_wp2_with fail
      all_goals first | exact HS.out | exact ⟨rfl, HS.out⟩ | rfl
    · intro g D w' hD hW hC hI
      refine ⟨g, fun _ _ _ => rfl, ?_⟩
      with_reducible refine OpTo.plain ?_ ?_
      exact rfl
      have hP : D 10 = true := need_waited hC hW (by kernel_rfl)
      have KB := (hI.2 hP).2
      have HO := Lib.hid (or_two g 2 p q w' KB.lt (KB.cell 0) (KB.cell 1))
      have HI := Lib.hid hI
      clear hI hC hW hD KB hP
      go_wp2_with fail
      refine HO.out.mono ?_
      rintro e w'' ⟨rfl, rfl⟩
      exact ⟨rfl, HI.out.step (BelowD.refl _ _) (by decide)⟩
    · intro g D w' hD hW hC hI
      refine ⟨g, fun _ _ _ => rfl, ?_⟩
      with_reducible refine OpTo.plain ?_ ?_
      exact rfl
      have HS := Lib.hid (hI.step (BelowD.refl _ _) (k := 12) (by decide))
      have hB := hI.1.toBelow
      clear hI hC hW hD hB
      go_wp2_with fail
      all_goals first | exact HS.out | exact ⟨rfl, HS.out⟩ | rfl
  intro g D w2 hall hI
  have HE := Lib.hid (B0.out.trans (hI.1.mono B0.out.size))
  clear hI hall
  dsimp only
  go_wp2_with fail
  go_ret
  exact ⟨rfl, HE.out⟩
/-- Offers that may be, their numbers too. -/
def GoodO := { x : Of // x.may ∧ 0 ≤ x.se ∧ x.se ≤ 18446744073709551615 }
instance : Inhabited GoodO := ⟨⟨⟨1, 1, 1, 2, 1, 1, 1⟩, by decide⟩⟩
def GoodO.enc (x : GoodO) : List Value := x.1.vals
def ordG (x y : GoodO) : Int := ordO x.1 y.1
theorem ordG_lt (x y : GoodO) : ltOf ordG x y = true ↔ ltO x.1 y.1 := by unfold ltOf ordG; rw [decide_eq_true_eq]; exact ordO_lt x.2.1 y.2.1
theorem ordG_nlt (x y : GoodO) : ltOf ordG x y = false ↔ ¬ ltO x.1 y.1 := by rw [← ordG_lt]; simp
theorem swoO : SWO (ltOf ordG) where
  irrefl x := by rw [ordG_nlt]; exact ltO_irrefl x.1
  trans x y z h1 h2 := by rw [ordG_lt] at *; exact ltO_trans x.2.1 y.2.1 z.2.1 h1 h2
  ntrans x y z h1 h2 := by rw [ordG_nlt] at *; exact ltO_ntrans x.2.1 y.2.1 z.2.1 h1 h2
theorem flat_offs (ls : List GoodO) {j : Nat} (h : j < ls.length * 7) : (flatK GoodO.enc 7 ls.toArray)[j]! = (ofCells (ls.map (·.1)))[j]'(by rw [ofCells_len, List.length_map]; exact h) := by
  rw [get_flatK _ _ _ j (by simpa using h)]
  have h1 : j / 7 < ls.length := by omega
  have h2 : j % 7 < 7 := Nat.mod_lt _ (by omega)
  have h3 := ofCells_get (ls.map (·.1)) (j / 7) (j % 7) h2 (by simpa using h1)
  rw [show j / 7 * 7 + j % 7 = j by omega] at h3
  rw [List.getElem?_eq_getElem (by rw [ofCells_len, List.length_map]; exact h)] at h3
  have h4 : (ls.toArray)[j / 7]! = ls[j / 7] := by simp [h1]
  rw [h4, List.getElem!_eq_getElem?_getD]
  unfold GoodO.enc
  rw [List.getElem_map] at h3
  rw [← h3]
  rfl
theorem holds_offs {w : World} {g : Nat} {cur : Array Value} {e : TypeId} {ls : List GoodO} (hb : w.heap[g]? = some (.cells cur e (0, 0))) (ht : cur.toList.take (ls.length * 7) = ofCells (ls.map (·.1))) : HoldsK GoodO.enc 7 w g 0 ls.toArray := by
  intro j hj
  have hj' : j < ls.length * 7 := by simpa using hj
  refine ⟨?_, by simp [World.frozen?, hb]⟩
  rw [flat_offs ls hj']
  have h1 : (cur.toList.take (ls.length * 7))[j]? = (ofCells (ls.map (·.1)))[j]? := by rw [ht]
  rw [List.getElem?_take_of_lt hj'] at h1
  simp only [World.cell?, hb, Nat.zero_add]
  simp only [Option.isSome_none, Bool.false_eq_true, if_false]
  rw [← Array.getElem?_toList, h1, List.getElem?_eq_getElem (by rw [ofCells_len, List.length_map]; exact hj')]
  rfl
theorem heap_offs {w : World} {g n : Nat} {os : Array Obj} {cur : Array Value} {e : TypeId} (d : Array GoodO) (hb : w.heap[g]? = some (.cells cur e (0, 0))) :
    (sortWorldK GoodO.enc 7 w g 0 n d os).heap[g]? = some (.cells (putCells id 0 (flatK GoodO.enc 7 d) cur) e (0, 0)) := by
  have hg : g < w.heap.size := (Array.getElem?_eq_some_iff.1 hb).1
  unfold sortWorldK putRowK
  rw [heap_grow_old _ _ (by simpa using hg)]
  simp [putRow, mapBlock, Go.Sort.ahead, Array.getElem?_modify, hb, onCells]
theorem keep_offs {w : World} {g n : Nat} {os : Array Obj} (d : Array GoodO) : Keep (· = g) w (sortWorldK GoodO.enc 7 w g 0 n d os) := by
  refine ⟨rfl, rfl, rfl, by simp [sortWorldK, putRowK], fun k hk hne => ?_⟩
  unfold sortWorldK putRowK
  rw [heap_grow_old _ _ (by simpa using hk)]
  have : g ≠ k := fun e => hne e.symm
  simp [putRow, mapBlock, Go.Sort.ahead, Array.getElem?_modify, this]
theorem take_offs (cur : Array Value) (ls : List GoodO) (h : ls.length * 7 ≤ cur.size) : (putCells id 0 (flatK GoodO.enc 7 ls.toArray) cur).toList.take (ls.length * 7) = ofCells (ls.map (·.1)) := by
  apply List.ext_getElem?
  intro j
  by_cases hj : j < ls.length * 7
  · have hf := flat_offs ls hj
    rw [List.getElem?_take_of_lt hj, Array.getElem?_toList, List.getElem?_eq_getElem (by rw [ofCells_len, List.length_map]; exact hj), ← hf]
    simp [putCells, hj, show j < cur.size by omega]
  · rw [List.getElem?_take_eq_none (by omega), List.getElem?_eq_none (by rw [ofCells_len, List.length_map]; omega)]
theorem sorted_offs {f m : List Of} {d : Array GoodO} {ls : List GoodO} (hf : ls.map (·.1) = f) (hm : m.Perm f) (hms : m.Pairwise ltO) (hne : f.Pairwise fun x y => x.se ≠ y.se)
    (h1 : PermIn 0 ls.toArray.size ls.toArray d) (h2 : SortedIn (ltOf ordG) 0 ls.toArray.size d) : d.toList.map (·.1) = m ∧ d.size = ls.length := by
  obtain ⟨hs, _, hperm⟩ := h1
  have hpd : d.toList.Perm ls := by
    have e1 : d.extract 0 ls.toArray.size = d := by rw [← hs, Array.extract_size]
    rw [e1, Array.extract_size] at hperm
    simpa using hperm
  have hpm : (d.toList.map (·.1)).Perm f := by rw [← hf]; exact hpd.map _
  have hse : (d.toList.map (·.1)).Pairwise fun x y => x.se ≠ y.se := (hpm.symm.pairwise_iff (fun {a b} (h : a.se ≠ b.se) => h.symm)).1 hne
  have hso : (d.toList.map (·.1)).Pairwise ltO := by
    rw [List.pairwise_iff_getElem] at hse ⊢
    intro i j hi hj hij
    have hi' : i < d.size := by simpa using hi
    have hj' : j < d.size := by simpa using hj
    have h3 := h2 i j (Nat.zero_le _) hij (by rw [← hs]; exact hj')
    rw [getElem!_pos d i hi', getElem!_pos d j hj', ordG_nlt] at h3
    have h4 := hse i j hi hj hij
    simp only [List.getElem_map, Array.getElem_toList] at h4 ⊢
    exact ltO_total (fun e => h4 e.symm) h3
  refine ⟨List.Perm.eq_of_pairwise (fun a b _ _ h1 h2 => (ltO_asymm h1 h2).elim) hso hms (hpm.trans hm.symm), by simpa using hs⟩
theorem good_list : ∀ {f : List Of}, (∀ x ∈ f, x.may ∧ 0 ≤ x.se ∧ x.se ≤ 18446744073709551615) → ∃ ls : List GoodO, ls.map (·.1) = f
  | [], _ => ⟨[], rfl⟩
  | x :: r, h => by
    obtain ⟨ls, hl⟩ := good_list (f := r) (fun y hy => h y (by simp [hy]))
    exact ⟨⟨x, h x (by simp)⟩ :: ls, congrArg (List.cons x) hl⟩
/-- slices.SortFunc by 'order', on a row of one's own. -/
theorem sortO_any {w : World} {base : Nat} {v : Value} {f m : List Of} (hg : ∀ x ∈ f, x.may ∧ 0 ≤ x.se ∧ x.se ≤ 18446744073709551615) (hm : m.Perm f) (hms : m.Pairwise ltO) (hne : f.Pairwise fun x y => x.se ≠ y.se) (hl : f.length ≤ 1000) (h : w.ownsRow base 75 7 v f.length (ofCells f)) :
    Calls Try.prog 47 #[v, .func (.func 48) #[] #[]] w fun e w' => e = .returned (.tuple #[]) ∧ w'.ownsRow base 75 7 v m.length (ofCells m) ∧ Keep (fun b => v.ownBlock = some b) w w' := by
  have hlen := hm.length_eq
  rcases h.2 with ⟨rfl, h0⟩ | ⟨g, cap, cur, rfl, hbase, hb, h1, h2, h3, h4⟩
  · rw [h0] at hlen
    have : m = [] := List.eq_nil_of_length_eq_zero hlen
    subst this
    refine (AnyF.slices_SortFunc_none { sortO with } none 0 (.func (.func 48) #[] #[]) w).mono ?_
    rintro e w' ⟨rfl, rfl⟩
    exact ⟨rfl, World.ownsRow_nil _ _ _ _, Keep.refl _ _⟩
  · have hgl : g < w.heap.size := (Array.getElem?_eq_some_iff.1 hb).1
    obtain ⟨ls, hls⟩ := good_list hg
    have hll : ls.length = f.length := by rw [← hls, List.length_map]
    have eg : ∀ args w, (callFunc 48 args).run Try.prog w = .ok (.enter 48 args) w := enters_of Try.func48 (by kernel_rfl) rfl
    have hcmp : CmpLays Try.prog 48 #[] GoodO.enc 7 ordG g 0 ls.toArray.size w := fun m os dk _ x y => (porder_any x.1 y.1 _ (x.2.1.fits x.2.2) (y.2.1.fits y.2.2)).mono fun e w' ⟨he, hb⟩ => ⟨he, hb.grown⟩
    have hc := AnyQ.slices_SortFunc (P := Try.prog) sortO 7 Try.isAgg75 Try.sizeOf75 GoodO.enc (fun _ => rfl) (fun x u hu => by simp [GoodO.enc, Of.vals] at hu; rcases hu with rfl | rfl | rfl | rfl | rfl | rfl | rfl <;> rfl) ordG swoO 48 #[] g 0 cap ls.toArray w eg hcmp (holds_offs hb (by rw [hll, hls]; exact h4)) hgl (by simp; omega)
    have hsz : ls.toArray.size = f.length := by simp [hll]
    rw [hsz] at hc
    refine Calls.mono hc ?_
    rintro e w' ⟨rfl, d, n, os, hp1, hs1, rfl⟩
    obtain ⟨hd, hds⟩ := sorted_offs hls hm hms hne (by rw [hsz]; exact hp1) (by rw [hsz]; exact hs1)
    have hcells : (putCells id 0 (flatK GoodO.enc 7 d) cur).toList.take (f.length * 7) = ofCells m := by
      have := take_offs cur d.toList (by rw [Array.length_toList, hds, hll, h3]; omega)
      rw [hd] at this
      simpa [hds, hll] using this
    refine ⟨rfl, ⟨ofCells_len m, .inr ⟨g, cap, _, by rw [hlen], hbase, heap_offs _ hb, by omega, h2, by simp [putCells, h3], by rw [hlen]; exact hcells⟩⟩, (keep_offs _).mono fun k _ hk => by rw [hk]; rfl⟩

end Go.Proofs.Ytdbdeodcldogmaa
