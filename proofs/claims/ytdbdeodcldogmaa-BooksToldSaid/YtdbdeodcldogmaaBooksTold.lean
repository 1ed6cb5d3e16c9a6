/-
  BooksTold: the walk.
-/
import Derived.Test.YtdbdeodcldogmaaLives04
import Derived.Test.YtdbdeodcldogmaaMade04
import Derived.Test.YtdbdeodcldogmaaPB10
import Derived.Test.YtdbdeodcldogmaaAppends
namespace Go.Proofs.Ytdbdeodcldogmaa
open Go.RowKit
set_option linter.unusedSimpArgs false
set_option linter.unusedVariables false

theorem ofCells_takeB (ls : List Of) {i j : Nat} (hi : i ≤ ls.length) (hj : j < i * 7) : (ofCells (ls.take i))[j]? = (ofCells ls)[j]? := by
  have h := ofCells_append (ls.take i) (ls.drop i)
  rw [List.take_append_drop] at h
  rw [h, List.getElem?_append_left (by rw [ofCells_len, List.length_take]; omega)]
theorem ofCells_dropB (ls : List Of) {i j : Nat} (hi : i ≤ ls.length) : (ofCells (ls.drop i))[j]? = (ofCells ls)[i * 7 + j]? := by
  have h := ofCells_append (ls.take i) (ls.drop i)
  rw [List.take_append_drop] at h
  have hl : (ofCells (ls.take i)).length = i * 7 := by rw [ofCells_len, List.length_take]; congr 1; omega
  rw [h, List.getElem?_append_right (by omega), hl, Nat.add_sub_cancel_left]
/-- 'append(v, lines...)', where v is a row of one's own. -/
theorem run_append_offs {w : World} {base : Nat} {v : Value} {n : Nat} {xs : List Value} (hown : w.ownsRow base 39 7 v n xs) (hn : n ≤ 1000) (g o m c : Nat) (hm : m ≤ 1000) (ys : List Of) (hy : ys.length = m)
    (hc : ∀ j, j < m * 7 → w.cell? ⟨g, o + j, none⟩ = (ofCells ys)[j]?) (ty : TypeId) (hb : base ≤ w.heap.size) :
    ∃ v' w', (Builtin.append_ #[50, 50] ty #[v, .slice (some ⟨g, o, none⟩) m c]).run Try.prog w = .ok v' w' ∧ w'.ownsRow base 39 7 v' (n + m) (xs ++ ofCells ys) ∧ w.grownBy w' v.ownBlock := by
  obtain ⟨i0, hi, hz0, hz1, hz2⟩ := info_parts info_of
  obtain ⟨v', w', hr, h2, h3, _⟩ := run_append_own (P := Try.prog) (w := w) base 50 ty 39 i0 noOf.val 7 40 Try.underlying50 hi hz0 hz1 hz2 rfl (by decide) v n xs hown ⟨g, o, none⟩ m c (ofCells ys) (by rw [ofCells_len, hy]) (fun j u hj => by
      have hjl : j < (ofCells ys).length := (List.getElem?_eq_some_iff.1 hj).1
      rw [ofCells_len, hy] at hjl
      rw [Go.WideShapes.add_plain]
      exact (hc j hjl).trans hj) (ofCells_oneCell ys) (by unfold maxLen; omega) (by omega) hb
  exact ⟨v', w', hr, h2, h3⟩
theorem wp_append_two {P : Program} {w w' : World} {o : Oper} {a : Act} {K : Act → World → Prop} {Q : Exit → Act → World → Prop} (y x : Operand) (t : TypeId) {u v v' : Value}
    (ho : o.op = .call { callee := .builtin .append, args := #[y, x], argTypes := #[t, t] }) (hy : a.eval y = u) (hx : a.eval x = v)
    (hr : (Builtin.append_ #[t, t] o.type #[u, v]).run P w = .ok v' w') (h : K (a.put o.dst v') w') : o.wp P a w K Q := by
  unfold Oper.wp execOp
  simp only [ho, resolve, invoke, builtin, Sem.run_bind, Sem.run_pure, Result.andThen_ok, List.map_toArray, List.map_cons, List.map_nil, hy, hx, hr]
  exact h
/-- What is laid while the doubled row is made. -/
def TwiceO (W : World) (ls : List Of) (i : Nat) (s : Value × Value) (D : Nat → Bool) (w' : World) : Prop :=
  Below W.heap.size W w' ∧ (D 4 = true → D 8 = false → w'.ownsRow W.heap.size 39 7 s.1 (i + 1) (ofCells (ls.take (i + 1)))) ∧
    (D 8 = true → w'.ownsRow W.heap.size 39 7 s.2 (ls.length + 1) (ofCells (ls.take (i + 1) ++ ls.drop i)))
theorem TwiceO.step {W : World} {ls : List Of} {i : Nat} {s : Value × Value} {D : Nat → Bool} {w' : World} (h : TwiceO W ls i s D w') {k : Nat} (h4 : k ≠ 4) (h8 : k ≠ 8) : TwiceO W ls i s (ins k D) w' := by
  obtain ⟨q1, q2, q3⟩ := h
  refine ⟨q1, fun d e => q2 ?_ ?_, fun d => q3 ?_⟩
  · simpa [ins, h4.symm] using d
  · simpa [ins, h8.symm] using e
  · simpa [ins, h8.symm] using d

theorem twiceO_len {l : List Of} {i : Nat} (h : i < l.length) : (l.take (i + 1) ++ l.drop i).length = l.length + 1 := by
  rw [List.length_append, List.length_take, List.length_drop]; omega
theorem twiceO_fits {l : List Of} {N : Int} (h : BInv l N) {i : Nat} : ∀ x ∈ l.take (i + 1) ++ l.drop i, x.Fits := by
  intro x hx
  rcases List.mem_append.1 hx with hx | hx
  · exact h.fits (List.mem_of_mem_take hx)
  · exact h.fits (List.mem_of_mem_drop hx)
theorem twiceO_bad {l : List Of} {N : Int} {i : Nat} (h : i < l.length) (hk : okO N (l.take (i + 1) ++ l.drop i)) : False := by
  have h1 := (List.pairwise_append.1 hk.1).2.2 l[i] (by rw [List.mem_take_iff_getElem]; exact ⟨i, by omega, rfl⟩) l[i] (by rw [List.mem_drop_iff_getElem]; exact ⟨0, by omega, by simp⟩)
  omega
theorem rowed_cap {w : World} {base : Nat} {e : TypeId} {l : List Of} {v : Value} {ao : Option Addr} {c : Nat} (h : Rowed w base e 7 v l.length (ofCells l)) (hv : v = .slice ao l.length c) : c ≤ maxLen := by
  obtain ⟨_, h2⟩ := h
  rcases h2 with ⟨h2, _⟩ | ⟨g, cur, h2, _, _, hm, _⟩
  · rw [hv] at h2; injection h2 with _ _ e3; subst e3; unfold maxLen; omega
  · rw [hv] at h2; injection h2 with _ _ e3; subst e3; exact hm
theorem pof_good {w : World} {v : Value} {l : List Of} {N : Int} (hI : BInv l N) (hp : Reads w v 7 l.length (ofCells l)) :
    Calls Try.prog 12 #[v, .int .u64 N] w fun e w' => ∃ g vl, e = .returned (.tuple #[.pointer (some ⟨g, 0, none⟩), .int .i64 0]) ∧ PB w' w.heap.size g l N vl ∧ Below w.heap.size w w' := by
  have h1 := hI.n1
  refine (pofB_any hp (fun x hx => hI.fits hx) (by omega) hI.n2).mono ?_
  have hok : okO N l ∧ N ≠ 0 := ⟨⟨hI.rise, fun x hx => ⟨hI.may x hx, by have := hI.bd x hx; omega, (hI.bd x hx).2⟩⟩, by omega⟩
  rintro e w' ⟨hb, ⟨_, _, _, g, vl, he, hp⟩ | ⟨_, h⟩ | ⟨_, _, h⟩⟩
  · exact ⟨g, vl, he, hp, hb⟩
  · have := hI.len; omega
  · exact absurd hok h
theorem pof_bad {w : World} {v : Value} {l : List Of} {nx : Int} (hp : Reads w v 7 l.length (ofCells l)) (hf : ∀ x ∈ l, x.Fits) (h0 : 0 ≤ nx) (h1 : nx ≤ 18446744073709551615) (hb : ¬ (okO nx l ∧ nx ≠ 0)) :
    Calls Try.prog 12 #[v, .int .u64 nx] w fun e w' => ∃ er : Int, e = .returned (.tuple #[.pointer none, .int .i64 er]) ∧ (er = 1 ∨ (er = 9 ∧ 32 < l.length)) ∧ Below w.heap.size w w' := by
  refine (pofB_any hp hf h0 h1).mono ?_
  rintro e w' ⟨hw, ⟨_, h2, h3, _⟩ | ⟨he, h⟩ | ⟨he, _, _⟩⟩
  · exact absurd ⟨h2, h3⟩ hb
  · exact ⟨9, he, .inr ⟨rfl, h⟩, hw⟩
  · exact ⟨1, he, .inl rfl, hw⟩
set_option maxHeartbeats 8000000 in
set_option maxRecDepth 100000 in
theorem btold_walk (a : Option Addr) (len cap : Nat) (xs : List Ab) (at_ : Int) (w : World) (h : SlIn Ab.vals 9 Ab.Ok w a len cap xs) (hat0 : (Lit.int .u8 at_).wf = true) :
    Calls Try.prog 8 #[.slice a len cap, .int .u8 at_] w fun e w' => e = .returned (.bool true) ∧ Below w.heap.size w w' := by
  have hat := In8.of_wf hat0
  clear hat0
  have hcap := h.2.2.2.1
  have hmax := h.2.2.2.2.1
  unfold maxLen at hmax
  by_cases h120 : 120 < len
  · have q0 : decide (120 < (len : Int)) = true := by simp; omega
    have L := Lib.hid (lives04_any w)
    clear h h120 hat
    go_enter Try.func8, Try.ntmps8
    go_wp2_with fail
    refine L.out.mono ?_
    rintro e w1 ⟨rfl, b1⟩
    have B1 := Lib.hid b1
    clear b1 L
    go_wp2_with fail
    go_ret
    exact ⟨rfl, B1.out⟩
  · have q0 : decide (120 < (len : Int)) = false := by simp; omega
    have CM := Lib.hid (made4_any h (by omega))
    clear h h120
    go_enter Try.func8, Try.ntmps8
    go_wp2_with fail
    refine CM.out.mono ?_
    rintro e w1 ⟨g, l, N, vl, rfl, hP, hI, _, hB⟩
    have P1 := Lib.hid hP
    have I1 := Lib.hid hI
    have B1 := Lib.hid hB
    have hl32 := hI.len
    clear CM hP hI hB
    have C := Lib.hid (pall_any P1.out (by omega))
    go_wp2_with fail
    refine C.out.mono ?_
    rintro e w2 ⟨vRA, rfl, r2, b2⟩
    have B2 := Lib.hid (B1.out.trans (b2.mono B1.out.size))
    have P2 := Lib.hid (P1.out.below b2)
    have RA := Lib.hid (r2.base (Nat.zero_le _))
    clear r2 b2 C
    have C := Lib.hid (pnext_any P2.out.blk)
    go_wp2_with fail
    refine C.out.mono ?_
    rintro e w2' ⟨rfl, hs⟩
    subst hs
    clear C
    have C := Lib.hid (pof_good I1.out (RA.out.reads (by omega)))
    go_wp2_with fail
    refine C.out.mono ?_
    rintro e w3 ⟨g2, vl2, rfl, p2, b3⟩
    have B3 := Lib.hid (B2.out.trans (b3.mono B2.out.size))
    have P3 := Lib.hid (P2.out.below b3)
    have RA3 := Lib.hid (RA.out.below b3)
    have Q := Lib.hid p2
    clear p2 b3 C
    have C := Lib.hid (pall_any Q.out (by omega))
    go_wp2_with fail
    refine C.out.mono ?_
    rintro e w4 ⟨vRC, rfl, r4, b4⟩
    have B4 := Lib.hid (B3.out.trans (b4.mono B3.out.size))
    have P4 := Lib.hid (P3.out.below b4)
    have RA4 := Lib.hid (RA3.out.below b4)
    have Q4 := Lib.hid (Q.out.below b4)
    have RC := Lib.hid (r4.base (Nat.zero_le _))
    clear r4 b4 C
    have C := Lib.hid (SameOffers_any (RC.out.reads (by omega)) (RA4.out.reads (by omega)))
    rw [decide_eq_true rfl] at C
    go_wp2_with fail
    refine (C.out).mono ?_
    rintro e w5 ⟨rfl, b5⟩
    have B5 := Lib.hid (B4.out.trans (b5.mono B4.out.size))
    have P5 := Lib.hid (P4.out.below b5)
    have RA5 := Lib.hid (RA4.out.below b5)
    have Q5 := Lib.hid (Q4.out.below b5)
    have RC5 := Lib.hid (RC.out.below b5)
    clear b5 C
    have C := Lib.hid (pnext_any Q5.out.blk)
    go_wp2_with fail
    refine C.out.mono ?_
    rintro e w5' ⟨rfl, hs⟩
    subst hs
    clear C
    have C := Lib.hid (pnext_any P5.out.blk)
    go_wp2_with fail
    refine C.out.mono ?_
    rintro e w5' ⟨rfl, hs⟩
    subst hs
    clear C
    obtain ⟨aa, ca, hva, hca, hra⟩ := rowed_open RA5.out
    have hcm : ca ≤ maxLen := rowed_cap RA5.out hva
    unfold maxLen at hcm
    have RD := Lib.hid (RA5.out.reads (by omega))
    subst hva
    by_cases h0 : l.length = 0
    · have s0 : ((l.length : Int) == 0) = true := by simp [h0]
      have C := Lib.hid (pof_bad (l := []) (nx := 0) (w := w5) (v := .slice none 0 0) ⟨none, 0, rfl, by simp, rfl, fun h => by simp at h⟩ (by simp) (by omega) (by omega) (fun h => h.2 rfl))
      clear hra
      go_wp2_with fail
      refine C.out.mono ?_
      rintro e w6 ⟨er, rfl, her, b6⟩
      have her1 : er = 1 := by rcases her with h | ⟨_, h⟩; exact h; simp at h
      subst her1
      clear her
      have B6 := Lib.hid (B5.out.trans (b6.mono B5.out.size))
      have P6 := Lib.hid (P5.out.below b6)
      have RD6 := Lib.hid (RD.out.below b6)
      clear b6 C
      have L := Lib.hid (lives04_any w6)
      go_wp2_with fail
      refine L.out.mono ?_
      rintro e w7 ⟨rfl, b7⟩
      have BE := Lib.hid (B6.out.trans (b7.mono B6.out.size))
      clear b7 L
      go_wp2_with fail
      go_ret
      exact ⟨rfl, BE.out⟩
    have s0 : ((l.length : Int) == 0) = false := by simp [h0]
    have hpos : 0 < l.length := by omega
    obtain ⟨gb, hgb, _, hgl, hcl⟩ := hra (by omega)
    subst hgb
    have HCL := Lib.hid hcl
    have hlast := (of_cells hcl (k := l.length - 1) (by omega)).1
    have hi1 : (1 : Int) ≤ (l.length : Int) := by omega
    have hlb := I1.out.bd _ (List.getElem_mem (show l.length - 1 < l.length by omega))
    have C := Lib.hid (pof_bad (nx := (l[l.length - 1]'(by omega)).se) RD.out (fun x hx => I1.out.fits hx) (by omega) (by have := I1.out.n2; omega) (fun h => by have := (h.1.2 _ (List.getElem_mem (show l.length - 1 < l.length by omega))).2.2; omega))
    generalize (l[l.length - 1]'(by omega)).se = nx at *
    clear hra hcl hlb
    go_wp2_with fail
    refine C.out.mono ?_
    rintro e w6 ⟨er, rfl, her, b6⟩
    have her1 : er = 1 := by rcases her with h | ⟨_, h⟩; exact h; omega
    subst her1
    clear her
    have HL := Lib.hid (fun j (hj : j < l.length * 7) => (b6.cell (p := ⟨gb, j, none⟩) hgl).trans (HCL.out j hj))
    have hgl2 := Nat.lt_of_lt_of_le hgl b6.size
    have B6 := Lib.hid (B5.out.trans (b6.mono B5.out.size))
    have P6 := Lib.hid (P5.out.below b6)
    have RD6 := Lib.hid (RD.out.below b6)
    clear b6 C hgl hlast HCL
    go_wp2_with fail
    obtain ⟨i, hin, hie⟩ : ∃ i : Nat, i < l.length ∧ (wrap64 at_).tmod (l.length : Int) = i := by
      obtain ⟨a1, a2⟩ := hat
      have hw : wrap64 at_ = at_ := wrap64_of _ (by unfold In64; omega)
      rw [hw, Int.tmod_eq_emod_of_nonneg a1]
      have h1 := Int.emod_nonneg at_ (b := (l.length : Int)) (by omega)
      have h2 := Int.emod_lt_of_pos at_ (b := (l.length : Int)) (by omega)
      exact ⟨(at_ % (l.length : Int)).toNat, by omega, by omega⟩
    rw [hie]
    clear hie hat
    have hgl := hgl2
    have HLc := Lib.hid HL.out
    clear HL hgl2
    refine region_ghost (by kernel_rfl) (fun s : Value × Value => [(.slice (some ⟨gb, 0, none⟩) l.length ca), (.int .i64 i), (.int .i64 ((i : Int) + 1)), (.slice (some ⟨gb, 0, none⟩) (i + 1) ca), s.1, (.slice (some ⟨gb, 0, none⟩) l.length ca), (.int .i64 i), (.slice (some ⟨gb, i * 7, none⟩) (l.length - i) (ca - i)), s.2, s.2])
      (TwiceO w6 l i) (by kernel_rfl) (undef, undef) ⟨(Below.refl _ _).drew, fun d => (Bool.false_ne_true d).elim, fun d => (Bool.false_ne_true d).elim⟩ ?_
    intro AF hAF
    simp only [List.toList_toArray, puts, Act.put, List.getD_cons_zero, List.getD_cons_succ, List.setIfInBounds_toArray, List.set_cons_succ, List.set_cons_zero] at hAF
    have hAF2 : _ = AF := funext hAF
    subst hAF2
    clear hAF
    refine ⟨?_, ?_⟩
    · simp only [List.toList_toArray, EachG]
      refine ⟨?_, ?_, ?_, ?_, ?_, ?_, ?_, ?_, ?_, ?_, trivial⟩
      · intro s D w' hD hW hC hI
        refine ⟨s, fun _ _ _ => rfl, ?_⟩
        with_reducible refine OpTo.plain ?_ ?_
        exact rfl
        have HS := Lib.hid (hI.step (k := 0) (by decide) (by decide))
        clear hI hC hW hD
        go_wp2_with fail
        all_goals first | exact HS.out | exact ⟨rfl, HS.out⟩ | rfl
      · intro s D w' hD hW hC hI
        refine ⟨s, fun _ _ _ => rfl, ?_⟩
        with_reducible refine OpTo.plain ?_ ?_
        exact rfl
        have HS := Lib.hid (hI.step (k := 1) (by decide) (by decide))
        clear hI hC hW hD
        go_wp2_with fail
        all_goals first | exact HS.out | exact ⟨rfl, HS.out⟩ | rfl
      · intro s D w' hD hW hC hI
        refine ⟨s, fun _ _ _ => rfl, ?_⟩
        with_reducible refine OpTo.plain ?_ ?_
        exact rfl
        have HS := Lib.hid (hI.step (k := 2) (by decide) (by decide))
        clear hI hC hW hD
        go_wp2_with fail
        all_goals first | exact HS.out | exact ⟨rfl, HS.out⟩ | rfl
      · intro s D w' hD hW hC hI
        refine ⟨s, fun _ _ _ => rfl, ?_⟩
        with_reducible refine OpTo.plain ?_ ?_
        exact rfl
        have HS := Lib.hid (hI.step (k := 3) (by decide) (by decide))
        clear hI hC hW hD
        go_wp2_with fail
        all_goals first | exact HS.out | exact ⟨rfl, HS.out⟩ | rfl
      · intro s D w' hD hW hC hI
        have hN : D 8 = false := not_done hC hD rfl ⟨⟨4, .data⟩, by simp, rfl, rfl⟩
        obtain ⟨q1, q2, q3⟩ := hI
        have hl1 : (l.take (i + 1)).length = i + 1 := by rw [List.length_take]; omega
        obtain ⟨v', w2, hrun, how, hgr⟩ := run_append_offs (w := w') (base := w6.heap.size) (v := .slice none 0 0) (n := 0) (xs := []) (World.ownsRow_nil _ _ _ _) (by omega) gb 0 (i + 1) ca (by omega) (l.take (i + 1)) hl1 (fun j hj => by
          rw [Nat.zero_add, ofCells_takeB l (by omega) hj]
          exact (q1.cell (p := ⟨gb, j, none⟩) hgl).trans (HLc.out j (by omega))) 50 q1.size
        rw [Nat.zero_add, List.nil_append] at how
        refine ⟨(v', s.2), ?_, ?_⟩
        · intro j hj hDj
          match j, hj, hDj with
          | 0, _, _ => rfl
          | 1, _, _ => rfl
          | 2, _, _ => rfl
          | 3, _, _ => rfl
          | 4, _, h => simp_all
          | 5, _, _ => rfl
          | 6, _, _ => rfl
          | 7, _, _ => rfl
          | 8, _, _ => rfl
          | 9, _, _ => rfl
          | j + 10, _, _ => rfl
        with_reducible refine OpTo.plain ?_ ?_
        exact rfl
        refine wp_append_two (.const (.slice none 0 0)) (.tmp 80) 50 rfl rfl rfl hrun ⟨rfl, ?_⟩
        refine ⟨q1.grown hgr q1.size (fun k hk => by cases hk), fun _ _ => how, fun d => ?_⟩
        simp [ins, hN] at d
      · intro s D w' hD hW hC hI
        refine ⟨s, fun _ _ _ => rfl, ?_⟩
        with_reducible refine OpTo.plain ?_ ?_
        exact rfl
        have HS := Lib.hid (hI.step (k := 5) (by decide) (by decide))
        clear hI hC hW hD
        go_wp2_with fail
        all_goals first | exact HS.out | exact ⟨rfl, HS.out⟩ | rfl
      · intro s D w' hD hW hC hI
        refine ⟨s, fun _ _ _ => rfl, ?_⟩
        with_reducible refine OpTo.plain ?_ ?_
        exact rfl
        have HS := Lib.hid (hI.step (k := 6) (by decide) (by decide))
        clear hI hC hW hD
        go_wp2_with fail
        all_goals first | exact HS.out | exact ⟨rfl, HS.out⟩ | rfl
      · intro s D w' hD hW hC hI
        refine ⟨s, fun _ _ _ => rfl, ?_⟩
        with_reducible refine OpTo.plain ?_ ?_
        exact rfl
        have HS := Lib.hid (hI.step (k := 7) (by decide) (by decide))
        clear hI hC hW hD
        go_wp2_with fail
        all_goals first | exact HS.out | exact ⟨rfl, HS.out⟩ | rfl
      · intro s D w' hD hW hC hI
        have hP : D 4 = true := waited_done hC hW (d := 12) (by kernel_rfl)
        obtain ⟨q1, q2, q3⟩ := hI
        have hown := q2 hP hD
        have hl1 : (l.drop i).length = l.length - i := by rw [List.length_drop]
        obtain ⟨v', w2, hrun, how, hgr⟩ := run_append_offs (w := w') hown (by omega) gb (i * 7) (l.length - i) (ca - i) (by omega) (l.drop i) hl1 (fun j hj => by
          rw [ofCells_dropB l (by omega)]
          exact (q1.cell (p := ⟨gb, i * 7 + j, none⟩) hgl).trans (HLc.out (i * 7 + j) (by omega))) 50 q1.size
        rw [← ofCells_append, show i + 1 + (l.length - i) = l.length + 1 by omega] at how
        refine ⟨(s.1, v'), ?_, ?_⟩
        · intro j hj hDj
          match j, hj, hDj with
          | 0, _, _ => rfl
          | 1, _, _ => rfl
          | 2, _, _ => rfl
          | 3, _, _ => rfl
          | 4, _, _ => rfl
          | 5, _, _ => rfl
          | 6, _, _ => rfl
          | 7, _, _ => rfl
          | 8, _, h => simp_all
          | 9, _, h => exact absurd h (by rw [not_done hC hD (k := 9) rfl ⟨⟨8, .data⟩, by simp, rfl, rfl⟩]; simp)
          | j + 10, _, _ => rfl
        with_reducible refine OpTo.plain ?_ ?_
        exact rfl
        refine wp_append_two (.tmp 81) (.tmp 84) 50 rfl rfl rfl hrun ⟨rfl, ?_⟩
        refine ⟨q1.grown hgr q1.size (fun k hk => (owns_type hown hk).1), fun _ e => ?_, fun _ => how⟩
        simp [ins] at e
      · intro s D w' hD hW hC hI
        refine ⟨s, fun _ _ _ => rfl, ?_⟩
        with_reducible refine OpTo.plain ?_ ?_
        exact rfl
        have HS := Lib.hid (hI.step (k := 9) (by decide) (by decide))
        clear hI hC hW hD
        go_wp2_with fail
        all_goals first | exact HS.out | exact ⟨rfl, HS.out⟩ | rfl
    intro s9 D w7 hall hI9
    obtain ⟨q1, _, q3⟩ := hI9
    have O9 := Lib.hid (q3 (hall 8 (by decide)))
    clear q3 hall
    obtain ⟨ta, tc, htv, _⟩ := owns_open O9.out
    obtain ⟨u9, tv⟩ := s9
    dsimp only at htv O9 ⊢
    subst htv
    have B7 := Lib.hid (B6.out.trans (q1.mono B6.out.size))
    have P7 := Lib.hid (P6.out.below q1)
    clear q1
    have T9 := Lib.hid (show Reads w7 (.slice ta (l.length + 1) tc) 7 (l.take (i + 1) ++ l.drop i).length (ofCells (l.take (i + 1) ++ l.drop i)) from by rw [twiceO_len hin]; exact Reads.of_owns O9.out (by omega))
    clear O9
    have CN := Lib.hid (pnext_any P7.out.blk)
    have C := Lib.hid (pof_bad (nx := N) T9.out (twiceO_fits I1.out) (by have := I1.out.n1; omega) I1.out.n2 (fun h => twiceO_bad hin h.1))
    rw [twiceO_len hin] at C
    clear T9
    go_wp2_with fail
    refine CN.out.mono ?_
    rintro e w7' ⟨rfl, hs⟩
    subst hs
    clear CN
    go_wp2_with fail
    refine C.out.mono ?_
    rintro e w8 ⟨er, rfl, her, b8⟩
    have B8 := Lib.hid (B7.out.trans (b8.mono B7.out.size))
    have P8 := Lib.hid (P7.out.below b8)
    clear b8 C
    have L := Lib.hid (lives04_any w8)
    rcases her with rfl | ⟨rfl, h33⟩
    all_goals
      go_wp2_with fail
      refine L.out.mono ?_
      rintro e wz ⟨rfl, bz⟩
      have BE := Lib.hid (B8.out.trans (bz.mono B8.out.size))
      clear bz L
      go_wp2_with fail
      go_ret
      exact ⟨rfl, BE.out⟩

end Go.Proofs.Ytdbdeodcldogmaa
