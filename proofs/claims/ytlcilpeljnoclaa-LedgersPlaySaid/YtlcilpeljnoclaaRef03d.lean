/-
  countinghouseref03: New, Open.
-/
import Derived.Test.YtlcilpeljnoclaaRef03c
namespace Go.Proofs.Ytlcilpeljnoclaa
open Go.RowKit
set_option linter.unusedSimpArgs false
set_option linter.unusedVariables false

theorem RefL.keep {S : Nat → Prop} {w w' : World} {base g : Nat} {ps : List Int} {ls : List Ln} {vp vl : Value} (h : RefL w base g ps ls vp vl) (k : Keep S w w') (h1 : ¬ S g) (h2 : ∀ b, vp.ownBlock = some b → ¬ S b) (h3 : ∀ b, vl.ownBlock = some b → ¬ S b) : RefL w' base g ps ls vp vl :=
  ⟨h.blk.keep k h1, h.ge, owns_keep h.p k h2, owns_keep h.l k h3⟩
theorem RefL.below {w w' : World} {base g : Nat} {ps : List Int} {ls : List Ln} {vp vl : Value} (h : RefL w base g ps ls vp vl) (k : Below w.heap.size w w') : RefL w' base g ps ls vp vl :=
  h.keep (Keep.of_below (S := fun _ => False) k) id (fun _ _ => id) (fun _ _ => id)

theorem rnew_any (w : World) (base : Nat) (hb : base ≤ w.heap.size) :
    Calls Try.prog 11 #[] w fun e w' => e = .returned (.pointer (some ⟨w.heap.size, 0, none⟩)) ∧ RefL w' base w.heap.size [] [] (.slice none 0 0) (.slice none 0 0) ∧ Below w.heap.size w w' := by
  have K := Lib.hid (Blk.new w #[.slice none 0 0, .slice none 0 0] 74)
  go_enter Try.func11, Try.ntmps11
  go_wp2
  go_ret
  exact ⟨rfl, ⟨K.out, hb, World.ownsRow_nil _ _ _ _, World.ownsRow_nil _ _ _ _⟩, (Below.refl _ _).alloc (Nat.le_refl _) _⟩

/-- The parties behind Open, those below number k. -/
def openTo (ps : List Int) (p : Int) (k : Nat) : List Int := ((List.range (k - 1)).map fun i : Nat => (i : Int) + 1).filter fun q => q == p || decide (q ∈ ps)
theorem openTo_next (ps : List Int) (p : Int) (k : Nat) (h : 1 ≤ k) : openTo ps p (k + 1) = openTo ps p k ++ (if ((k : Int) == p || decide ((k : Int) ∈ ps)) = true then [(k : Int)] else []) := by
  unfold openTo
  rw [show k + 1 - 1 = (k - 1) + 1 by omega, List.range_succ, List.map_append, List.filter_append]
  congr 1
  rw [List.map_singleton, show ((k - 1 : Nat) : Int) + 1 = (k : Int) by omega]
  simp only [List.filter_cons, List.filter_nil]
theorem openTo_len (ps : List Int) (p : Int) (k : Nat) : (openTo ps p k).length ≤ k := by
  unfold openTo
  refine Nat.le_trans (List.length_filter_le _ _) ?_
  simp
def openE (ps : List Int) (p : Int) : Int := if p < 1 ∨ 16 < p then 1 else if p ∈ ps then 8 else 0
def openP (ps : List Int) (p : Int) : List Int := if p < 1 ∨ 16 < p then ps else if p ∈ ps then ps else openTo ps p 17

theorem info_party : (Try.prog.info? 28).map (fun i => (i.zero, i.size, i.bytes)) = some (some (.int .u8 0), 1, 1) := by kernel_rfl
/-- 'append(out, q)', of one party. -/
theorem wpList_append_party (w : World) {ops : Array Oper} {rest : List Oper} {o : Oper} {a : Act} {Q : Exit → Act → World → Prop} (hgd : o.guard = none) (s x : Operand)
    (ho : o.op = .call { callee := .builtin .append, args := #[s, x], argTypes := #[46, 46] }) (base : Nat) (v : Value) (ps : List Int) (hs : a.eval s = v)
    (hown : w.ownsRow base 28 1 v ps.length (ps.map (.int .u8))) (g c : Nat) (y : Int) (hx : a.eval x = .slice (some ⟨g, 0, none⟩) 1 c) (hy : Blk w g #[.int .u8 y] 28) (hlen : ps.length ≤ 100000) (hbase : base ≤ w.heap.size)
    (h : ∀ v' w', w'.ownsRow base 28 1 v' (ps ++ [y]).length ((ps ++ [y]).map (.int .u8)) → w.grownBy w' v.ownBlock → wpList Try.prog ops Q rest (a.put o.dst v') w') : wpList Try.prog ops Q (o :: rest) a w := by
  obtain ⟨i0, hi, hz0, hz1, hz2⟩ := info_parts info_party
  refine wpList_append_own w hgd s x 46 ho base 28 i0 (.int .u8 0) 1 1 Try.underlying46 hi hz0 hz1 hz2 rfl (by decide) v ps.length (ps.map (.int .u8)) hs hown ⟨g, 0, none⟩ 1 c [.int .u8 y] hx rfl ?_ ?_ (by unfold maxLen; omega) (by omega) hbase ?_
  · intro j u hj
    have := hy.cell j
    rw [Go.WideShapes.add_plain]
    match j, hj with
    | 0, hj => simp at hj; subst hj; simpa using this
    | j + 1, hj => simp at hj
  · intro u hu
    simp at hu
    subst hu; rfl
  · intro v' w' h1 h2 _
    refine h v' w' ?_ h2
    rw [List.map_append, List.length_append]
    exact h1
/-- At the head of Open's loop. -/
def OpenAt (ps : List Int) (p : Int) (w : World) (v q : Value) (wr : World) : Prop :=
  ∃ k : Nat, 1 ≤ k ∧ k ≤ 17 ∧ q = .int .u8 k ∧ wr.ownsRow w.heap.size 28 1 v (openTo ps p k).length ((openTo ps p k).map (.int .u8)) ∧ Below w.heap.size w wr
set_option maxHeartbeats 4000000 in
theorem ropen_any {w : World} {base g : Nat} {ps : List Int} {ls : List Ln} {vp vl : Value} (h : RefL w base g ps ls vp vl) (p : Int) :
    Calls Try.prog 46 #[.pointer (some ⟨g, 0, none⟩), .int .u8 p] w fun e w' => e = .returned (.int .i64 (openE ps p)) ∧ ∃ vp', RefL w' base g (openP ps p) ls vp' vl ∧ Keep (· = g) w w' := by
  have H := Lib.hid h
  have c := Lib.hid (fun (w' : World) (k : Below w.heap.size w w') (q : Int) => rhas_any (h.below k) q)
  have hg := h.blk.lt
  clear h
  have hs : p < 1 ∨ (1 ≤ p ∧ 16 < p) ∨ (1 ≤ p ∧ p ≤ 16) := by omega
  rcases hs with h1 | ⟨h1, h2⟩ | ⟨h1, h2⟩
  · have E := Lib.hid (show openE ps p = 1 ∧ openP ps p = ps by unfold openE openP; rw [if_pos (.inl h1), if_pos (.inl h1)]; exact ⟨rfl, rfl⟩)
    go_enter Try.func46, Try.ntmps46
    go_wp2_with fail
    go_ret
    exact ⟨by rw [E.out.1]; rfl, _, by rw [E.out.2]; exact H.out, Keep.refl _ _⟩
  · have E := Lib.hid (show openE ps p = 1 ∧ openP ps p = ps by unfold openE openP; rw [if_pos (.inr h2), if_pos (.inr h2)]; exact ⟨rfl, rfl⟩)
    go_enter Try.func46, Try.ntmps46
    go_wp2_with fail
    go_ret
    exact ⟨by rw [E.out.1]; rfl, _, by rw [E.out.2]; exact H.out, Keep.refl _ _⟩
  · by_cases hp : p ∈ ps
    · have E := Lib.hid (show openE ps p = 8 ∧ openP ps p = ps from ⟨by unfold openE; rw [if_neg (by omega), if_pos hp], by unfold openP; rw [if_neg (by omega), if_pos hp]⟩)
      have c0 := Lib.hid (rhas_any H.out p)
      rw [decide_eq_true hp] at c0
      clear hp c
      go_enter Try.func46, Try.ntmps46
      go_wp2_with fail
      refine c0.out.mono ?_
      rintro e w1 ⟨rfl, rfl⟩
      go_wp2_with fail
      go_ret
      exact ⟨by rw [E.out.1]; rfl, _, by rw [E.out.2]; exact H.out, Keep.refl _ _⟩
    · have E := Lib.hid (show openE ps p = 0 ∧ openP ps p = openTo ps p 17 from ⟨by unfold openE; rw [if_neg (by omega), if_neg hp], by unfold openP; rw [if_neg (by omega), if_neg hp]⟩)
      have c0 := Lib.hid (rhas_any H.out p)
      rw [decide_eq_false hp] at c0
      clear hp
      go_enter Try.func46, Try.ntmps46
      go_wp2_with fail
      refine c0.out.mono ?_
      rintro e w ⟨rfl, rfl⟩
      go_wp2_with fail
      go_loopw [5, 6] (OpenAt ps p w) (fun _ q _ => 17 - (intOf q).toNat)
      case atStart => exact ⟨1, by omega, by omega, rfl, World.ownsRow_nil _ _ _ _, Below.refl _ _⟩
      case round =>
        obtain ⟨k, hk0, hk, rfl, hown, hb⟩ := hrel
        have hl := openTo_len ps p k
        have O0 := Lib.hid hown; have B0 := Lib.hid hb
        have hz := hb.size
        clear hown hb
        by_cases hkl : k ≤ 16
        · have N := Lib.hid (openTo_next ps p k hk0)
          have cq := Lib.hid (c.out _ B0.out (k : Int))
          have hs : (((k : Int) == p) = true) ∨ (((k : Int) == p) = false ∧ (k : Int) ∈ ps) ∨ (((k : Int) == p) = false ∧ ¬ (k : Int) ∈ ps) := by
            cases ((k : Int) == p) <;> simp <;> exact Classical.em _
          rcases hs with s1 | ⟨s1, s2⟩ | ⟨s1, s2⟩
          · have N2 : Hid (openTo ps p (k + 1) = openTo ps p k ++ [(k : Int)]) := Lib.hid (by rw [N.out, s1]; rfl)
            clear N
            generalize openTo ps p k = out at *
            have hl2 : out.length ≤ 100000 := by omega
            go_wp2_with (at_builtin; refine wpList_append_party _ rfl (.tmp 28) (.tmp 30) rfl w.heap.size _ out rfl (O0.out.alloc _) _ _ (k : Int) rfl (Blk.new _ _ _) hl2 (by simp; omega) ?_)
            intro v3 w3 hown3 hgr3
            have R2 : ∀ k, Value.ownBlock _ = some k → w.heap.size ≤ k := fun k hk => (owns_type O0.out hk).1
            have B3 := Lib.hid ((B0.out.alloc B0.out.size (.cells #[.int .u8 (k : Int)] 28)).grown hgr3 (by simp; omega) (fun k hk => R2 k hk))
            have O3 := Lib.hid (show w3.ownsRow w.heap.size 28 1 v3 (out ++ [(k : Int)]).length ((out ++ [(k : Int)]).map (.int .u8)) by simpa using hown3)
            clear R2 hown3 hgr3
            go_wp2_with fail
            go_roundw
            case rel => exact ⟨k + 1, by omega, by omega, by go_num, by rw [N2.out]; exact O3.out, B3.out⟩
            case measure => simp [intOf]; omega
          · have N2 : Hid (openTo ps p (k + 1) = openTo ps p k ++ [(k : Int)]) := Lib.hid (by rw [N.out, s1, decide_eq_true s2]; rfl)
            rw [decide_eq_true s2] at cq
            clear N s2
            generalize openTo ps p k = out at *
            have hl2 : out.length ≤ 100000 := by omega
            go_wp2_with fail
            refine cq.out.mono ?_
            rintro e wr ⟨rfl, rfl⟩
            go_wp2_with (at_builtin; refine wpList_append_party _ rfl (.tmp 28) (.tmp 30) rfl w.heap.size _ out rfl (O0.out.alloc _) _ _ (k : Int) rfl (Blk.new _ _ _) hl2 (by simp; omega) ?_)
            intro v3 w3 hown3 hgr3
            have R2 : ∀ k, Value.ownBlock _ = some k → w.heap.size ≤ k := fun k hk => (owns_type O0.out hk).1
            have B3 := Lib.hid ((B0.out.alloc B0.out.size (.cells #[.int .u8 (k : Int)] 28)).grown hgr3 (by simp; omega) (fun k hk => R2 k hk))
            have O3 := Lib.hid (show w3.ownsRow w.heap.size 28 1 v3 (out ++ [(k : Int)]).length ((out ++ [(k : Int)]).map (.int .u8)) by simpa using hown3)
            clear R2 hown3 hgr3
            go_wp2_with fail
            go_roundw
            case rel => exact ⟨k + 1, by omega, by omega, by go_num, by rw [N2.out]; exact O3.out, B3.out⟩
            case measure => simp [intOf]; omega
          · have N2 : Hid (openTo ps p (k + 1) = openTo ps p k) := Lib.hid (by rw [N.out, s1, decide_eq_false s2]; simp)
            rw [decide_eq_false s2] at cq
            clear N s2
            go_wp2_with fail
            refine cq.out.mono ?_
            rintro e wr ⟨rfl, rfl⟩
            go_wp2_with fail
            go_roundw
            case rel => exact ⟨k + 1, by omega, by omega, by go_num, by rw [N2.out]; exact O0.out, B0.out⟩
            case measure => simp [intOf]; omega
        · obtain rfl : k = 17 := by omega
          have d0 := (H.out.blk.below B0.out hg).cell 0
          simp at d0
          have hf := (H.out.blk.below B0.out hg).frozen
          have hg3 := (H.out.blk.below B0.out hg).lt
          obtain ⟨ao3, cap3, hv3, _⟩ := owns_open O0.out
          subst hv3
          go_wp2
          go_ret
          refine ⟨by rw [E.out.1]; rfl, .slice ao3 (openTo ps p 17).length cap3, ⟨?_, H.out.ge, ?_, ?_⟩, Keep.setCell (S := (· = g)) (Keep.of_below B0.out) (p := ⟨g, 0, none⟩) (.inl rfl) _⟩
          · have := (H.out.blk.below B0.out hg).set 0 (.slice ao3 (openTo ps p 17).length cap3)
            simpa using this
          · rw [E.out.2]
            exact owns_keep (owns_base O0.out (by have := H.out.ge; omega)) (Keep.setCell (S := (· = g)) (Keep.refl _ _) (p := ⟨g, 0, none⟩) (.inl rfl) _) (owns_ne O0.out (H.out.blk.below B0.out hg) (by decide))
          · exact owns_keep (owns_below H.out.l B0.out) (Keep.setCell (S := (· = g)) (Keep.refl _ _) (p := ⟨g, 0, none⟩) (.inl rfl) _) (owns_ne (owns_below H.out.l B0.out) (H.out.blk.below B0.out hg) (by decide))

end Go.Proofs.Ytlcilpeljnoclaa
