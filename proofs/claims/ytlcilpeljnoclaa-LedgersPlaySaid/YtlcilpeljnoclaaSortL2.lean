/-
  Rows of lines, sorted by the library: in the order of currency, creditor, debtor.
-/
import Derived.Test.YtlcilpeljnoclaaSortL
import Derived.Test.YtlcilpeljnoclaaPLed8
namespace Go.Proofs.Ytlcilpeljnoclaa
open Go.RowKit Go.Shelf Go.Sort Go.Lib
set_option linter.unusedSimpArgs false
set_option linter.unusedVariables false

instance : Inhabited Ln := ⟨noLn⟩
def cmp3 (x y : Int) : Int := if x < y then -1 else if y < x then 1 else 0
def or3 (p q r : Int) : Int := if p = 0 then (if q = 0 then r else q) else p
/-- The program's own order of lines. -/
def ordL (x y : Ln) : Int := or3 (cmp3 x.cu y.cu) (cmp3 x.cr y.cr) (cmp3 x.de y.de)
theorem ordL_lt (x y : Ln) : ordL x y < 0 ↔ (x.cu < y.cu ∨ (x.cu = y.cu ∧ (x.cr < y.cr ∨ (x.cr = y.cr ∧ x.de < y.de)))) := by
  unfold ordL or3 cmp3
  (repeat' split) <;> omega
theorem ordL_rank {x y : Ln} (hx : x.Fits) (hy : y.Fits) : ordL x y < 0 ↔ x.rank < y.rank := by
  rw [ordL_lt]
  obtain ⟨⟨a1, a2⟩, ⟨b1, b2⟩, ⟨c1, c2⟩, _, _⟩ := hx
  obtain ⟨⟨d1, d2⟩, ⟨e1, e2⟩, ⟨f1, f2⟩, _, _⟩ := hy
  unfold Ln.rank
  omega
theorem swoL : SWO (ltOf ordL) where
  irrefl x := by unfold ltOf; rw [decide_eq_false_iff_not, ordL_lt]; omega
  trans x y z h1 h2 := by
    unfold ltOf at *
    rw [decide_eq_true_eq, ordL_lt] at *
    omega
  ntrans x y z h1 h2 := by
    unfold ltOf at *
    rw [decide_eq_false_iff_not, ordL_lt] at *
    omega

/-! ### the row -/
theorem flat_lines (ls : List Ln) {j : Nat} (h : j < ls.length * 5) : (flatK Ln.vals 5 ls.toArray)[j]! = (lnCells ls)[j]'(by rw [lnCells_len]; exact h) := by
  rw [get_flatK _ _ _ j (by simpa using h)]
  have h1 : j / 5 < ls.length := by omega
  have h2 : j % 5 < 5 := Nat.mod_lt _ (by omega)
  have h3 := lnCells_get ls (j / 5) (j % 5) h2 h1
  rw [show j / 5 * 5 + j % 5 = j by omega] at h3
  rw [List.getElem?_eq_getElem (by rw [lnCells_len]; exact h)] at h3
  have h4 : (ls.toArray)[j / 5]! = ls[j / 5] := by simp [h1]
  rw [h4, List.getElem!_eq_getElem?_getD, ← h3]
  rfl
theorem holds_lines {w : World} {g : Nat} {cur : Array Value} {e : TypeId} {ls : List Ln} (hb : w.heap[g]? = some (.cells cur e (0, 0))) (ht : cur.toList.take (ls.length * 5) = lnCells ls) : HoldsK Ln.vals 5 w g 0 ls.toArray := by
  intro j hj
  have hj' : j < ls.length * 5 := by simpa using hj
  refine ⟨?_, by simp [World.frozen?, hb]⟩
  rw [flat_lines ls hj']
  have h1 : (cur.toList.take (ls.length * 5))[j]? = (lnCells ls)[j]? := by rw [ht]
  rw [List.getElem?_take_of_lt hj'] at h1
  simp only [World.cell?, hb, Nat.zero_add]
  simp only [Option.isSome_none, Bool.false_eq_true, if_false]
  rw [← Array.getElem?_toList, h1, List.getElem?_eq_getElem (by rw [lnCells_len]; exact hj')]
  rfl
theorem heap_lines {w : World} {g n : Nat} {os : Array Obj} {cur : Array Value} {e : TypeId} (d : Array Ln) (hb : w.heap[g]? = some (.cells cur e (0, 0))) :
    (sortWorldK Ln.vals 5 w g 0 n d os).heap[g]? = some (.cells (putCells id 0 (flatK Ln.vals 5 d) cur) e (0, 0)) := by
  have hg : g < w.heap.size := (Array.getElem?_eq_some_iff.1 hb).1
  unfold sortWorldK putRowK
  rw [heap_grow_old _ _ (by simpa using hg)]
  simp [putRow, mapBlock, Go.Sort.ahead, Array.getElem?_modify, hb, onCells]
theorem keep_lines {w : World} {g n : Nat} {os : Array Obj} (d : Array Ln) : Keep (· = g) w (sortWorldK Ln.vals 5 w g 0 n d os) := by
  refine ⟨rfl, rfl, rfl, by simp [sortWorldK, putRowK], fun k hk hne => ?_⟩
  unfold sortWorldK putRowK
  rw [heap_grow_old _ _ (by simpa using hk)]
  have : g ≠ k := fun e => hne e.symm
  simp [putRow, mapBlock, Go.Sort.ahead, Array.getElem?_modify, this]
theorem take_lines (cur : Array Value) (ls : List Ln) (h : ls.length * 5 ≤ cur.size) : (putCells id 0 (flatK Ln.vals 5 ls.toArray) cur).toList.take (ls.length * 5) = lnCells ls := by
  apply List.ext_getElem?
  intro j
  by_cases hj : j < ls.length * 5
  · have hf := flat_lines ls hj
    rw [List.getElem?_take_of_lt hj, Array.getElem?_toList, List.getElem?_eq_getElem (by rw [lnCells_len]; exact hj), ← hf]
    simp [putCells, hj, show j < cur.size by omega]
  · rw [List.getElem?_take_eq_none (by omega), List.getElem?_eq_none (by rw [lnCells_len]; omega)]
/-- A row whose lines are sorted is the list in order. -/
theorem sorted_is {done ls : List Ln} (hI : Inv ls) (hp : done.Perm ls) (d : Array Ln) (h1 : PermIn 0 done.toArray.size done.toArray d) (h2 : SortedIn (ltOf ordL) 0 done.toArray.size d) : d.toList = ls := by
  obtain ⟨hs, _, hperm⟩ := h1
  have hpd : d.toList.Perm done := by
    have e1 : d.extract 0 done.toArray.size = d := by rw [← hs, Array.extract_size]
    rw [e1, Array.extract_size] at hperm
    simpa using hperm
  have hpl := hpd.trans hp
  have hne : d.toList.Pairwise fun x y => x.rank ≠ y.rank := (hpl.symm.pairwise_iff (fun {a b} (h : a.rank ≠ b.rank) => h.symm)).1 (hI.sorted.imp fun h => by omega)
  refine sorted_ext _ _ ?_ hI.sorted fun x => hpl.mem_iff
  rw [List.pairwise_iff_getElem] at hne ⊢
  intro i j hi hj hij
  have hn := hne i j hi hj hij
  have hi' : i < d.size := by simpa using hi
  have hj' : j < d.size := by simpa using hj
  have hso := h2 i j (Nat.zero_le _) hij (by rw [← hs]; exact hj')
  rw [getElem!_pos d i hi', getElem!_pos d j hj'] at hso
  unfold ltOf at hso
  rw [decide_eq_false_iff_not, ordL_rank (hI.good _ (hpl.mem_iff.1 (by simp))).fits (hI.good _ (hpl.mem_iff.1 (by simp))).fits] at hso
  simp only [Array.getElem_toList] at hn ⊢
  omega

theorem isnan_p (x : Int) (w : World) :
    Calls Try.prog 87 #[.int .u8 x] w fun e w' => e = .returned (.bool false) ∧ w' = w := by
  have hx : (x == x) = true := by simp
  go_enter Try.func87, Try.ntmps87
  go_wp2
  go_ret
  exact ⟨rfl, rfl⟩
theorem isnan_c (x : Int) (w : World) :
    Calls Try.prog 86 #[.int .u8 x] w fun e w' => e = .returned (.bool false) ∧ w' = w := by
  have hx : (x == x) = true := by simp
  go_enter Try.func86, Try.ntmps86
  go_wp2
  go_ret
  exact ⟨rfl, rfl⟩
theorem compare_p (x y : Int) (w : World) :
    Calls Try.prog 75 #[.int .u8 x, .int .u8 y] w fun e w' => e = .returned (.int .i64 (cmp3 x y)) ∧ w' = w := by
  have c1 := Lib.hid (fun w => isnan_p x w)
  have c2 := Lib.hid (fun w => isnan_p y w)
  rcases Int.lt_trichotomy x y with h | h | h
  · rw [show cmp3 x y = -1 by unfold cmp3; rw [if_pos h]]
    go_enter Try.func75, Try.ntmps75
    go_wp2_with fail
    refine (c1.out _).mono ?_
    rintro e w1 ⟨rfl, rfl⟩
    go_wp2_with fail
    refine (c2.out _).mono ?_
    rintro e w1 ⟨rfl, rfl⟩
    go_wp2_with fail
    go_ret
    exact ⟨rfl, rfl⟩
  · rw [show cmp3 x y = 0 by unfold cmp3; rw [if_neg (by omega), if_neg (by omega)]]
    subst h
    go_enter Try.func75, Try.ntmps75
    go_wp2_with fail
    refine (c1.out _).mono ?_
    rintro e w1 ⟨rfl, rfl⟩
    go_wp2_with fail
    refine (c2.out _).mono ?_
    rintro e w1 ⟨rfl, rfl⟩
    go_wp2_with fail
    go_ret
    exact ⟨rfl, rfl⟩
  · rw [show cmp3 x y = 1 by unfold cmp3; rw [if_neg (by omega), if_pos h]]
    have h2 : ¬ x < y := by omega
    go_enter Try.func75, Try.ntmps75
    go_wp2_with fail
    refine (c1.out _).mono ?_
    rintro e w1 ⟨rfl, rfl⟩
    go_wp2_with fail
    refine (c2.out _).mono ?_
    rintro e w1 ⟨rfl, rfl⟩
    go_wp2_with fail
    go_ret
    exact ⟨rfl, rfl⟩
theorem compare_c (x y : Int) (w : World) :
    Calls Try.prog 74 #[.int .u8 x, .int .u8 y] w fun e w' => e = .returned (.int .i64 (cmp3 x y)) ∧ w' = w := by
  have c1 := Lib.hid (fun w => isnan_c x w)
  have c2 := Lib.hid (fun w => isnan_c y w)
  rcases Int.lt_trichotomy x y with h | h | h
  · rw [show cmp3 x y = -1 by unfold cmp3; rw [if_pos h]]
    go_enter Try.func74, Try.ntmps74
    go_wp2_with fail
    refine (c1.out _).mono ?_
    rintro e w1 ⟨rfl, rfl⟩
    go_wp2_with fail
    refine (c2.out _).mono ?_
    rintro e w1 ⟨rfl, rfl⟩
    go_wp2_with fail
    go_ret
    exact ⟨rfl, rfl⟩
  · rw [show cmp3 x y = 0 by unfold cmp3; rw [if_neg (by omega), if_neg (by omega)]]
    subst h
    go_enter Try.func74, Try.ntmps74
    go_wp2_with fail
    refine (c1.out _).mono ?_
    rintro e w1 ⟨rfl, rfl⟩
    go_wp2_with fail
    refine (c2.out _).mono ?_
    rintro e w1 ⟨rfl, rfl⟩
    go_wp2_with fail
    go_ret
    exact ⟨rfl, rfl⟩
  · rw [show cmp3 x y = 1 by unfold cmp3; rw [if_neg (by omega), if_pos h]]
    have h2 : ¬ x < y := by omega
    go_enter Try.func74, Try.ntmps74
    go_wp2_with fail
    refine (c1.out _).mono ?_
    rintro e w1 ⟨rfl, rfl⟩
    go_wp2_with fail
    refine (c2.out _).mono ?_
    rintro e w1 ⟨rfl, rfl⟩
    go_wp2_with fail
    go_ret
    exact ⟨rfl, rfl⟩

theorem or_three (b cap : Nat) (p q r : Int) (w : World) (hlt : b < w.heap.size) (h0 : w.cell? ⟨b, 0, none⟩ = some (.int .i64 p)) (h1 : w.cell? ⟨b, 1, none⟩ = some (.int .i64 q)) (h2 : w.cell? ⟨b, 2, none⟩ = some (.int .i64 r)) :
    Calls Try.prog 73 #[.slice (some ⟨b, 0, none⟩) 3 cap] w fun e w' => e = .returned (.int .i64 (or3 p q r)) ∧ w' = w := by
  unfold or3
  by_cases hp : p = 0
  · rw [if_pos hp]
    subst hp
    by_cases hq : q = 0
    · rw [if_pos hq]
      subst hq
      by_cases hr : r = 0
      · subst hr
        go_enter Try.func73, Try.ntmps73
        go_wp2
        refine wp_loop_rounds 4 ?_
        rw [rounds_succ]; go_wp2
        rw [rounds_succ]; go_wp2
        rw [rounds_succ]; go_wp2
        rw [rounds_succ]; go_wp2
        go_ret
        exact ⟨rfl, rfl⟩
      · have hb : (r == 0) = false := by simp [hr]
        go_enter Try.func73, Try.ntmps73
        go_wp2
        refine wp_loop_rounds 3 ?_
        rw [rounds_succ]; go_wp2
        rw [rounds_succ]; go_wp2
        rw [rounds_succ]; go_wp2
        go_ret
        exact ⟨rfl, rfl⟩
    · rw [if_neg hq]
      have hb : (q == 0) = false := by simp [hq]
      go_enter Try.func73, Try.ntmps73
      go_wp2
      refine wp_loop_rounds 2 ?_
      rw [rounds_succ]; go_wp2
      rw [rounds_succ]; go_wp2
      go_ret
      exact ⟨rfl, rfl⟩
  · rw [if_neg hp]
    have hb : (p == 0) = false := by simp [hp]
    go_enter Try.func73, Try.ntmps73
    go_wp2
    refine wp_loop_rounds 1 ?_
    rw [rounds_succ]; go_wp2
    go_ret
    exact ⟨rfl, rfl⟩

end Go.Proofs.Ytlcilpeljnoclaa
