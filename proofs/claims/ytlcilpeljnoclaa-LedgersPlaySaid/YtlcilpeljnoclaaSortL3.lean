/-
  The program's order of lines; slices.SortFunc by it.
-/
import Derived.Test.YtlcilpeljnoclaaSortL2
namespace Go.Proofs.Ytlcilpeljnoclaa
open Go.RowKit
open Go.Shelf Go.Lib
open Go.Sort (grow flatK putCells HoldsK PermIn SortedIn SWO)
set_option linter.unusedSimpArgs false
set_option linter.unusedVariables false

/-- What is held while 'order' reckons: draws alone, till the three answers are laid. -/
def OrdAt (W : World) (o : Obj) (D : Nat → Bool) (w : World) : Prop := ∃ q, w = if D 15 then (W.drewN q).alloc o else W.drewN q
theorem OrdAt.step {W w : World} {o : Obj} {D : Nat → Bool} {k : Nat} (h : OrdAt W o D w) (hk : k ≠ 15) : OrdAt W o (ins k D) w := by
  obtain ⟨q, hq⟩ := h
  refine ⟨q, ?_⟩
  rw [ins_ne D (Ne.symm hk)]
  exact hq
theorem OrdAt.below {W w : World} {o : Obj} {D : Nat → Bool} (h : OrdAt W o D w) : Below W.heap.size W w := by
  obtain ⟨q, hq⟩ := h
  subst hq
  split
  · exact (⟨rfl, rfl, rfl, Nat.le_refl _, fun _ _ => rfl⟩ : Below W.heap.size W (W.drewN q)).alloc (Nat.le_refl _) _
  · exact ⟨rfl, rfl, rfl, Nat.le_refl _, fun _ _ => rfl⟩
theorem grow_three (w : World) (a b c : Obj) (q : Nat) : ∃ q' os', (((w.alloc a).alloc b).drewN q).alloc c = grow (w.drewN q') os' := by
  refine ⟨q, #[a, b, c], ?_⟩
  unfold grow World.alloc World.drewN
  simp only [World.mk.injEq, and_true]
  apply Array.ext'
  simp
set_option maxHeartbeats 4000000 in
set_option maxRecDepth 100000 in
theorem order_any (x y : Ln) (w : World) : Calls Try.prog 57 #[.agg #[.int .u8 x.cr, .int .u8 x.de, .int .u8 x.cu, .int .i64 x.li, .int .i64 x.db], .agg #[.int .u8 y.cr, .int .u8 y.de, .int .u8 y.cu, .int .i64 y.li, .int .i64 y.db]] w fun e w' => e = .returned (.int .i64 (ordL x y)) ∧ ∃ q os', w' = grow (w.drewN q) os' := by
  unfold ordL
  have c1 := Lib.hid (fun w => compare_c x.cu y.cu w)
  have c2 := Lib.hid (fun w => compare_p x.cr y.cr w)
  have c3 := Lib.hid (fun w => compare_p x.de y.de w)
  generalize cmp3 x.cu y.cu = p at *
  generalize cmp3 x.cr y.cr = q at *
  generalize cmp3 x.de y.de = r at *
  go_enter Try.func57, Try.ntmps57
  go_wp2_with fail
  have hW : ((w.alloc (.cells #[.int .u8 x.cr, .int .u8 x.de, .int .u8 x.cu, .int .i64 x.li, .int .i64 x.db] 35)).alloc (.cells #[.int .u8 y.cr, .int .u8 y.de, .int .u8 y.cu, .int .i64 y.li, .int .i64 y.db] 35)).heap.size = w.heap.size + 2 := by simp
  have KX := Lib.hid ((Blk.new w #[.int .u8 x.cr, .int .u8 x.de, .int .u8 x.cu, .int .i64 x.li, .int .i64 x.db] 35).alloc (.cells #[.int .u8 y.cr, .int .u8 y.de, .int .u8 y.cu, .int .i64 y.li, .int .i64 y.db] 35))
  have KY := Lib.hid (Blk.newAt (w.alloc (.cells #[.int .u8 x.cr, .int .u8 x.de, .int .u8 x.cu, .int .i64 x.li, .int .i64 x.db] 35)) #[.int .u8 y.cr, .int .u8 y.de, .int .u8 y.cu, .int .i64 y.li, .int .i64 y.db] 35 (g := w.heap.size + 1) (by simp))
  have HW := Lib.hid hW
  have HG := Lib.hid (fun c q => grow_three w (.cells #[.int .u8 x.cr, .int .u8 x.de, .int .u8 x.cu, .int .i64 x.li, .int .i64 x.db] 35) (.cells #[.int .u8 y.cr, .int .u8 y.de, .int .u8 y.cu, .int .i64 y.li, .int .i64 y.db] 35) c q)
  generalize ((w.alloc (.cells #[.int .u8 x.cr, .int .u8 x.de, .int .u8 x.cu, .int .i64 x.li, .int .i64 x.db] 35)).alloc (.cells #[.int .u8 y.cr, .int .u8 y.de, .int .u8 y.cu, .int .i64 y.li, .int .i64 y.db] 35)) = W at KX KY HW HG ⊢
  clear hW
  refine region_inv (by kernel_rfl) [(.pointer (some ⟨w.heap.size, 2, none⟩)), (.int .u8 x.cu), (.pointer (some ⟨w.heap.size + 1, 2, none⟩)), (.int .u8 y.cu), (.int .i64 p), (.pointer (some ⟨w.heap.size, 0, none⟩)), (.int .u8 x.cr), (.pointer (some ⟨w.heap.size + 1, 0, none⟩)), (.int .u8 y.cr), (.int .i64 q), (.pointer (some ⟨w.heap.size, 1, none⟩)), (.int .u8 x.de), (.pointer (some ⟨w.heap.size + 1, 1, none⟩)), (.int .u8 y.de), (.int .i64 r), (.slice (some ⟨w.heap.size + 2, 0, none⟩) 3 3), (.int .i64 (or3 p q r)), (.int .i64 (or3 p q r))]
    (OrdAt W (.cells #[.int .i64 p, .int .i64 q, .int .i64 r] 3)) (by kernel_rfl) ⟨1, rfl⟩ ?_
  intro af haf
  simp only [puts, Act.put, List.getD_cons_zero, List.getD_cons_succ, List.setIfInBounds_toArray, List.set_cons_succ, List.set_cons_zero] at haf
  subst haf
  refine ⟨?_, ?_⟩
  · simp only [EachIn]
    refine ⟨?_, ?_, ?_, ?_, ?_, ?_, ?_, ?_, ?_, ?_, ?_, ?_, ?_, ?_, ?_, ?_, ?_, ?_, trivial⟩
    · intro D w' hD hWt hC hI
      have hS := hI.below
      have HI := Lib.hid (hI.step (k := 0) (by decide))
      clear hS hI hC hWt hD
      refine OpTo.plain ?_ ?_
      exact rfl
      go_wp2_with fail
      all_goals first | exact HI.out | exact ⟨rfl, HI.out⟩ | rfl
    · intro D w' hD hWt hC hI
      have hS := hI.below
      have HI := Lib.hid (hI.step (k := 1) (by decide))
      have hl := Nat.lt_of_lt_of_le KX.out.lt hS.size
      have kk := KX.out.below hS KX.out.lt
      have d0 := kk.cell 0; have d1 := kk.cell 1; have d2 := kk.cell 2
      simp at d0 d1 d2
      clear kk
      clear hS hI hC hWt hD
      refine OpTo.plain ?_ ?_
      exact rfl
      go_wp2_with fail
      all_goals first | exact HI.out | exact ⟨rfl, HI.out⟩ | rfl
    · intro D w' hD hWt hC hI
      have hS := hI.below
      have HI := Lib.hid (hI.step (k := 2) (by decide))
      clear hS hI hC hWt hD
      refine OpTo.plain ?_ ?_
      exact rfl
      go_wp2_with fail
      all_goals first | exact HI.out | exact ⟨rfl, HI.out⟩ | rfl
    · intro D w' hD hWt hC hI
      have hS := hI.below
      have HI := Lib.hid (hI.step (k := 3) (by decide))
      have hl := Nat.lt_of_lt_of_le KY.out.lt hS.size
      have kk := KY.out.below hS KY.out.lt
      have d0 := kk.cell 0; have d1 := kk.cell 1; have d2 := kk.cell 2
      simp at d0 d1 d2
      clear kk
      clear hS hI hC hWt hD
      refine OpTo.plain ?_ ?_
      exact rfl
      go_wp2_with fail
      all_goals first | exact HI.out | exact ⟨rfl, HI.out⟩ | rfl
    · intro D w' hD hWt hC hI
      have hS := hI.below
      have HI := Lib.hid (hI.step (k := 4) (by decide))
      clear hS hI hC hWt hD
      refine OpTo.plain ?_ ?_
      exact rfl
      go_wp2_with fail
      refine (c1.out w').mono ?_
      rintro e w'' ⟨rfl, rfl⟩
      exact ⟨rfl, HI.out⟩
    · intro D w' hD hWt hC hI
      have hS := hI.below
      have HI := Lib.hid (hI.step (k := 5) (by decide))
      clear hS hI hC hWt hD
      refine OpTo.plain ?_ ?_
      exact rfl
      go_wp2_with fail
      all_goals first | exact HI.out | exact ⟨rfl, HI.out⟩ | rfl
    · intro D w' hD hWt hC hI
      have hS := hI.below
      have HI := Lib.hid (hI.step (k := 6) (by decide))
      have hl := Nat.lt_of_lt_of_le KX.out.lt hS.size
      have kk := KX.out.below hS KX.out.lt
      have d0 := kk.cell 0; have d1 := kk.cell 1; have d2 := kk.cell 2
      simp at d0 d1 d2
      clear kk
      clear hS hI hC hWt hD
      refine OpTo.plain ?_ ?_
      exact rfl
      go_wp2_with fail
      all_goals first | exact HI.out | exact ⟨rfl, HI.out⟩ | rfl
    · intro D w' hD hWt hC hI
      have hS := hI.below
      have HI := Lib.hid (hI.step (k := 7) (by decide))
      clear hS hI hC hWt hD
      refine OpTo.plain ?_ ?_
      exact rfl
      go_wp2_with fail
      all_goals first | exact HI.out | exact ⟨rfl, HI.out⟩ | rfl
    · intro D w' hD hWt hC hI
      have hS := hI.below
      have HI := Lib.hid (hI.step (k := 8) (by decide))
      have hl := Nat.lt_of_lt_of_le KY.out.lt hS.size
      have kk := KY.out.below hS KY.out.lt
      have d0 := kk.cell 0; have d1 := kk.cell 1; have d2 := kk.cell 2
      simp at d0 d1 d2
      clear kk
      clear hS hI hC hWt hD
      refine OpTo.plain ?_ ?_
      exact rfl
      go_wp2_with fail
      all_goals first | exact HI.out | exact ⟨rfl, HI.out⟩ | rfl
    · intro D w' hD hWt hC hI
      have hS := hI.below
      have HI := Lib.hid (hI.step (k := 9) (by decide))
      clear hS hI hC hWt hD
      refine OpTo.plain ?_ ?_
      exact rfl
      go_wp2_with fail
      refine (c2.out w').mono ?_
      rintro e w'' ⟨rfl, rfl⟩
      exact ⟨rfl, HI.out⟩
    · intro D w' hD hWt hC hI
      have hS := hI.below
      have HI := Lib.hid (hI.step (k := 10) (by decide))
      clear hS hI hC hWt hD
      refine OpTo.plain ?_ ?_
      exact rfl
      go_wp2_with fail
      all_goals first | exact HI.out | exact ⟨rfl, HI.out⟩ | rfl
    · intro D w' hD hWt hC hI
      have hS := hI.below
      have HI := Lib.hid (hI.step (k := 11) (by decide))
      have hl := Nat.lt_of_lt_of_le KX.out.lt hS.size
      have kk := KX.out.below hS KX.out.lt
      have d0 := kk.cell 0; have d1 := kk.cell 1; have d2 := kk.cell 2
      simp at d0 d1 d2
      clear kk
      clear hS hI hC hWt hD
      refine OpTo.plain ?_ ?_
      exact rfl
      go_wp2_with fail
      all_goals first | exact HI.out | exact ⟨rfl, HI.out⟩ | rfl
    · intro D w' hD hWt hC hI
      have hS := hI.below
      have HI := Lib.hid (hI.step (k := 12) (by decide))
      clear hS hI hC hWt hD
      refine OpTo.plain ?_ ?_
      exact rfl
      go_wp2_with fail
      all_goals first | exact HI.out | exact ⟨rfl, HI.out⟩ | rfl
    · intro D w' hD hWt hC hI
      have hS := hI.below
      have HI := Lib.hid (hI.step (k := 13) (by decide))
      have hl := Nat.lt_of_lt_of_le KY.out.lt hS.size
      have kk := KY.out.below hS KY.out.lt
      have d0 := kk.cell 0; have d1 := kk.cell 1; have d2 := kk.cell 2
      simp at d0 d1 d2
      clear kk
      clear hS hI hC hWt hD
      refine OpTo.plain ?_ ?_
      exact rfl
      go_wp2_with fail
      all_goals first | exact HI.out | exact ⟨rfl, HI.out⟩ | rfl
    · intro D w' hD hWt hC hI
      have hS := hI.below
      have HI := Lib.hid (hI.step (k := 14) (by decide))
      clear hS hI hC hWt hD
      refine OpTo.plain ?_ ?_
      exact rfl
      go_wp2_with fail
      refine (c3.out w').mono ?_
      rintro e w'' ⟨rfl, rfl⟩
      exact ⟨rfl, HI.out⟩
    · intro D w' hD hWt hC hI
      obtain ⟨t, ht⟩ := hI
      rw [hD] at ht
      have hz : w'.heap.size = w.heap.size + 2 := by rw [ht, ← HW.out]; rfl
      have HI := Lib.hid (show OrdAt W (.cells #[.int .i64 p, .int .i64 q, .int .i64 r] 3) (ins 15 D) (w'.alloc (.cells #[.int .i64 p, .int .i64 q, .int .i64 r] 3)) from ⟨t, by rw [ins_same, if_pos rfl, ht]; rfl⟩)
      clear ht hC hWt hD
      refine OpTo.plain ?_ ?_
      exact rfl
      go_wp2_with fail
      all_goals first | exact HI.out | exact ⟨rfl, HI.out⟩ | exact ⟨by rw [hz], HI.out⟩
    · intro D w' hD hWt hC hI
      have h15 : D 15 = true := waited_done hC hWt (d := 12) (by kernel_rfl)
      obtain ⟨t, ht⟩ := hI
      have KB : Blk w' (w.heap.size + 2) #[.int .i64 p, .int .i64 q, .int .i64 r] 3 := by rw [ht, h15, if_pos rfl]; exact Blk.newAt _ _ _ (by show _ = W.heap.size; rw [HW.out])
      have HI := Lib.hid (OrdAt.step (k := 16) (show OrdAt W (.cells #[.int .i64 p, .int .i64 q, .int .i64 r] 3) D w' from ⟨t, ht⟩) (by decide))
      have HO := Lib.hid (or_three (w.heap.size + 2) 3 p q r w' KB.lt (KB.cell 0) (KB.cell 1) (KB.cell 2))
      clear ht KB hC hWt hD h15
      refine OpTo.plain ?_ ?_
      exact rfl
      go_wp2_with fail
      refine HO.out.mono ?_
      rintro e w'' ⟨rfl, rfl⟩
      exact ⟨rfl, HI.out⟩
    · intro D w' hD hWt hC hI
      have hS := hI.below
      have HI := Lib.hid (hI.step (k := 17) (by decide))
      clear hS hI hC hWt hD
      refine OpTo.plain ?_ ?_
      exact rfl
      go_wp2_with fail
      all_goals first | exact HI.out | exact ⟨rfl, HI.out⟩ | rfl
  intro D w2 hall hI
  obtain ⟨t, ht⟩ := hI
  rw [hall 15 (by decide), if_pos rfl] at ht
  have HE := Lib.hid (show ∃ q os', w2 = grow (w.drewN q) os' from by rw [ht]; exact HG.out _ t)
  clear ht hall
  go_wp2_with fail
  go_ret
  exact ⟨rfl, HE.out⟩
/-- slices.SortFunc by 'order', on a row of one's own. -/
theorem sortL_any {w : World} {base : Nat} {v : Value} {done ls : List Ln} (hI : Inv ls) (hp : done.Perm ls) (hl : ls.length ≤ 64) (h : w.ownsRow base 35 5 v done.length (lnCells done)) :
    Calls Try.prog 56 #[v, .func (.func 57) #[] #[]] w fun e w' => e = .returned (.tuple #[]) ∧ w'.ownsRow base 35 5 v ls.length (lnCells ls) ∧ Keep (fun b => v.ownBlock = some b) w w' := by
  have hlen := hp.length_eq
  rcases h.2 with ⟨rfl, h0⟩ | ⟨g, cap, cur, rfl, hbase, hb, h1, h2, h3, h4⟩
  · rw [h0] at hlen
    have : ls = [] := List.eq_nil_of_length_eq_zero hlen.symm
    subst this
    refine (AnyF.slices_SortFunc_none { sortL with } none 0 (.func (.func 57) #[] #[]) w).mono ?_
    rintro e w' ⟨rfl, rfl⟩
    exact ⟨rfl, World.ownsRow_nil _ _ _ _, Keep.refl _ _⟩
  · have hg : g < w.heap.size := (Array.getElem?_eq_some_iff.1 hb).1
    have eg : ∀ args w, (callFunc 57 args).run Try.prog w = .ok (.enter 57 args) w := enters_of Try.func57 (by kernel_rfl) rfl
    have hcmp : CmpLays Try.prog 57 #[] Ln.vals 5 ordL g 0 done.toArray.size w := fun m os dk _ x y => order_any x y _
    have hc := AnyQ.slices_SortFunc (P := Try.prog) sortL 5 Try.isAgg35 Try.sizeOf35 Ln.vals (fun _ => rfl) (fun x u hu => by simp [Ln.vals] at hu; rcases hu with rfl | rfl | rfl | rfl | rfl <;> rfl) ordL swoL 57 #[] g 0 cap done.toArray w eg hcmp (holds_lines hb h4) hg (by simp; omega)
    have hsz : done.toArray.size = done.length := by simp
    rw [hsz] at hc
    refine Calls.mono hc ?_
    rintro e w' ⟨rfl, d, n, os, hp1, hs1, rfl⟩
    have hd := sorted_is hI hp d (by rw [hsz]; exact hp1) (by rw [hsz]; exact hs1)
    have hda : d = ls.toArray := by rw [← hd]
    subst hda
    refine ⟨rfl, ⟨lnCells_len ls, .inr ⟨g, cap, _, by rw [hlen], hbase, heap_lines _ hb, by omega, h2, by simp [putCells, h3], take_lines cur ls (by omega)⟩⟩, (keep_lines _).mono fun k _ hk => by rw [hk]; rfl⟩

end Go.Proofs.Ytlcilpeljnoclaa
