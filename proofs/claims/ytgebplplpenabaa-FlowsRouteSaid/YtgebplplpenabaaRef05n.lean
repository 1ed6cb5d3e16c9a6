/-
  countinghouseref05: New (written by gen_ref05.py).
-/
import Derived.Test.YtgebplplpenabaaRef05
namespace Go.Proofs.Ytgebplplpenabaa
open Go.RowKit
set_option linter.unusedSimpArgs false
set_option linter.unusedVariables false

/-- An edge that may be. -/
def okX (x : Fw) : Prop := (1 ≤ x.fr ∧ x.fr ≤ 16) ∧ (1 ≤ x.tt ∧ x.tt ≤ 16) ∧ x.fr ≠ x.tt ∧ 0 ≤ x.am ∧ x.am ≤ 2199023255552
def okG (es : List Fw) : Prop := (∀ x ∈ es, okX x) ∧ es.Pairwise fun x y => ¬ (x.fr = y.fr ∧ x.tt = y.tt)
theorem okG.nil : okG [] := ⟨by simp, List.Pairwise.nil⟩
theorem okG.next {es : List Fw} {k : Nat} (hk : k < es.length) (h : okG (es.take k)) (hx : okX es[k]) (hn : ∀ y ∈ es.take k, ¬ (y.fr = es[k].fr ∧ y.tt = es[k].tt)) : okG (es.take (k + 1)) := by
  rw [List.take_succ_eq_append_getElem hk]
  refine ⟨fun x h1 => ?_, List.pairwise_append.2 ⟨h.2, by simp, fun a ha b hb => ?_⟩⟩
  · rcases List.mem_append.1 h1 with h2 | h2
    · exact h.1 x h2
    · rw [List.mem_singleton] at h2; rw [h2]; exact hx
  · rw [List.mem_singleton] at hb; rw [hb]; exact hn a ha
/-- The edges of a graph that is made of these. -/
def newL (es : List Fw) : List Fw := es.foldl (fun E x => setE E x.fr x.tt x.am) []
theorem newL_next {es : List Fw} {k : Nat} (hk : k < es.length) : newL (es.take (k + 1)) = setE (newL (es.take k)) es[k].fr es[k].tt es[k].am := by
  unfold newL
  rw [List.take_succ_eq_append_getElem hk, List.foldl_append]
  rfl
def NewGPost (es : List Fw) (w : World) (e : Ending) (w' : World) : Prop :=
  Below w.heap.size w w' ∧ ((okG es ∧ ∃ g vl, e = .returned (.tuple #[.pointer (some ⟨g, 0, none⟩), .int .i64 0]) ∧ RefG w' w.heap.size g (newL es) vl) ∨ (¬ okG es ∧ e = .returned (.tuple #[.pointer none, .int .i64 1])))
def NewGAt (w : World) (es : List Fw) (i : Value) (wr : World) : Prop :=
  ∃ (k : Nat) (vl : Value), k ≤ es.length ∧ i = .int .i64 k ∧ Hid (okG (es.take k)) ∧ RefG wr w.heap.size w.heap.size (newL (es.take k)) vl ∧ Below w.heap.size w wr
def NewGIn (W : World) (es : List Fw) (x : Fw) (k : Nat) (i : Value) (wr : World) : Prop :=
  ∃ m : Nat, m ≤ k ∧ i = .int .i64 m ∧ Hid (∀ y ∈ es.take m, ¬ (y.fr = x.fr ∧ y.tt = x.tt)) ∧ Below W.heap.size W wr
set_option maxHeartbeats 16000000 in
set_option maxRecDepth 100000 in
theorem rnewG_any {w : World} {ao : Option Addr} {cap : Nat} {es : List Fw} (hr : Reads w (.slice ao es.length cap) 3 es.length (fwCells es)) (hln : es.length ≤ 100000) :
    Calls Try.prog 8 #[.slice ao es.length cap] w (NewGPost es w) := by
  obtain ⟨ao', cap', hv, _, _, hcell⟩ := hr
  cases hv
  have HC : Hid (0 < es.length → ∃ b off, ao = some ⟨b, off, none⟩ ∧ b < w.heap.size ∧ ∀ m, (hm : m < es.length) → ∀ j, j < 3 → w.cell? ⟨b, off + m * 3 + j, none⟩ = es[m].vals[j]?) := Lib.hid fun h0 => by
    obtain ⟨b, off, h1, h2, h3⟩ := hcell h0
    refine ⟨b, off, h1, h2, fun m hm j hj => ?_⟩
    have := h3 (m * 3 + j) (by omega)
    rw [fwCells_get es m j hj hm] at this
    rw [← this, Nat.add_assoc]
  clear hcell
  have bw := (Below.refl w.heap.size w).alloc (Nat.le_refl _) (.cells #[.slice none 0 0] 42)
  have R0 : Hid (RefG (w.alloc (.cells #[.slice none 0 0] 42)) w.heap.size w.heap.size [] (.slice none 0 0)) := Lib.hid ⟨Blk.new _ _ _, Nat.le_refl _, World.ownsRow_nil _ _ _ _⟩
  have B0 := Lib.hid bw
  clear bw
  go_enter Try.func8, Try.ntmps8
  go_wp2_with fail
  go_loopw [5] (NewGAt w es) (fun i _ => es.length - (intOf i).toNat)
  case atStart => exact ⟨0, _, Nat.zero_le _, rfl, Lib.hid okG.nil, R0.out, B0.out⟩
  case round =>
    clear R0 B0
    obtain ⟨k, vl, hk, rfl, hok, hR, hB⟩ := hrel
    have R1 := Lib.hid hR
    have B1 := Lib.hid hB
    clear hR hB
    by_cases hkl : k < es.length
    · obtain ⟨b, off, rfl, hbw, hcell⟩ := HC.out (by omega)
      have CC := Lib.hid (fun m (hm : m < es.length) j (hj : j < 3) => (B1.out.cell (p := ⟨b, off + m * 3 + j, none⟩) hbw).trans (hcell m hm j hj))
      have hbr : b < wr.heap.size := Nat.lt_of_lt_of_le hbw B1.out.size
      have d0 := CC.out k hkl 0 (by omega)
      have d1 := CC.out k hkl 1 (by omega)
      have d2 := CC.out k hkl 2 (by omega)
      simp only [Fw.vals, List.getElem?_cons_zero, List.getElem?_cons_succ, Nat.add_zero] at d0 d1 d2
      have NB : Hid (okG es → okX es[k]) := Lib.hid fun h => h.1 _ (List.getElem_mem _)
      have KN := Lib.hid (fun h1 h2 => okG.next hkl hok.out h1 h2)
      have NL := Lib.hid (newL_next hkl)
      obtain ⟨x, hxe⟩ : ∃ x, Hid (es[k] = x) := ⟨_, Lib.hid rfl⟩
      rw [hxe.out] at d0 d1 d2 NB KN NL
      have bx := (Below.refl wr.heap.size wr).alloc (Nat.le_refl _) (.cells #[.int .u8 x.fr, .int .u8 x.tt, .int .i64 x.am] 52)
      have RW := Lib.hid (R1.out.below bx)
      have BW := Lib.hid (B1.out.trans (bx.mono B1.out.size))
      have KW := Lib.hid (Blk.new wr #[.int .u8 x.fr, .int .u8 x.tt, .int .i64 x.am] 52)
      have CW := Lib.hid (fun m (hm : m < es.length) j (hj : j < 3) => (bx.cell (p := ⟨b, off + m * 3 + j, none⟩) hbr).trans (CC.out m hm j hj))
      have hbW0 : b < (wr.alloc (.cells #[.int .u8 x.fr, .int .u8 x.tt, .int .i64 x.am] 52)).heap.size := Nat.lt_of_lt_of_le hbr bx.size
      clear bx hcell hok CC
      by_cases c0 : x.fr < 1
      · have q0 : decide (x.fr < 1) = true := by simp; omega
        go_wp2_with fail
        refine bodyPost_ret (v := .tuple #[.pointer none, .int .i64 1]) (by simp [results, Try.results8, go_sem]) rfl ?_
        exact ⟨BW.out, .inr ⟨fun h => by have := NB.out h; unfold okX at this; omega, rfl⟩⟩
      · have q0 : decide (x.fr < 1) = false := by simp; omega
        by_cases c1 : 16 < x.fr
        · have q1 : decide (16 < x.fr) = true := by simp; omega
          go_wp2_with fail
          refine bodyPost_ret (v := .tuple #[.pointer none, .int .i64 1]) (by simp [results, Try.results8, go_sem]) rfl ?_
          exact ⟨BW.out, .inr ⟨fun h => by have := NB.out h; unfold okX at this; omega, rfl⟩⟩
        · have q1 : decide (16 < x.fr) = false := by simp; omega
          by_cases c2 : x.tt < 1
          · have q2 : decide (x.tt < 1) = true := by simp; omega
            go_wp2_with fail
            refine bodyPost_ret (v := .tuple #[.pointer none, .int .i64 1]) (by simp [results, Try.results8, go_sem]) rfl ?_
            exact ⟨BW.out, .inr ⟨fun h => by have := NB.out h; unfold okX at this; omega, rfl⟩⟩
          · have q2 : decide (x.tt < 1) = false := by simp; omega
            by_cases c3 : 16 < x.tt
            · have q3 : decide (16 < x.tt) = true := by simp; omega
              go_wp2_with fail
              refine bodyPost_ret (v := .tuple #[.pointer none, .int .i64 1]) (by simp [results, Try.results8, go_sem]) rfl ?_
              exact ⟨BW.out, .inr ⟨fun h => by have := NB.out h; unfold okX at this; omega, rfl⟩⟩
            · have q3 : decide (16 < x.tt) = false := by simp; omega
              by_cases c4 : x.fr = x.tt
              · have q4 : (x.fr == x.tt) = true := by simpa using c4
                rw [c4] at BW
                go_wp2_with fail
                refine bodyPost_ret (v := .tuple #[.pointer none, .int .i64 1]) (by simp [results, Try.results8, go_sem]) rfl ?_
                exact ⟨BW.out, .inr ⟨fun h => by have := NB.out h; unfold okX at this; omega, rfl⟩⟩
              · have q4 : (x.fr == x.tt) = false := by simpa using c4
                by_cases c5 : x.am < 0
                · have q5 : decide (x.am < 0) = true := by simp; omega
                  go_wp2_with fail
                  refine bodyPost_ret (v := .tuple #[.pointer none, .int .i64 1]) (by simp [results, Try.results8, go_sem]) rfl ?_
                  exact ⟨BW.out, .inr ⟨fun h => by have := NB.out h; unfold okX at this; omega, rfl⟩⟩
                · have q5 : decide (x.am < 0) = false := by simp; omega
                  by_cases c6 : 2199023255552 < x.am
                  · have q6 : decide (2199023255552 < x.am) = true := by simp; omega
                    go_wp2_with fail
                    refine bodyPost_ret (v := .tuple #[.pointer none, .int .i64 1]) (by simp [results, Try.results8, go_sem]) rfl ?_
                    exact ⟨BW.out, .inr ⟨fun h => by have := NB.out h; unfold okX at this; omega, rfl⟩⟩
                  · have q6 : decide (2199023255552 < x.am) = false := by simp; omega
                    have OKX : Hid (okX x) := Lib.hid (by unfold okX; omega)
                    clear NB c0 c1 c2 c3 c4 c5 c6
                    go_wp2_with fail
                    generalize hW : wr.alloc (.cells #[.int .u8 x.fr, .int .u8 x.tt, .int .i64 x.am] 52) = W at *
                    clear hW d0 d1 d2
                    generalize wr.heap.size = X at *
                    go_loopw [7] (NewGIn W es x k) (fun i _ => k - (intOf i).toNat)
                    case atStart => exact ⟨0, Nat.zero_le _, rfl, Lib.hid (by simp), Below.refl _ _⟩
                    case round =>
                      obtain ⟨m, hm, rfl, hn, hbs⟩ := hrel
                      have BS := Lib.hid hbs
                      have KX := Lib.hid (KW.out.below BS.out KW.out.lt)
                      clear hbs
                      by_cases hmk : m < k
                      · have hml : m < es.length := by omega
                        have hbW : b < wr.heap.size := Nat.lt_of_lt_of_le hbW0 BS.out.size
                        have Z0 := Lib.hid ((BS.out.cell (p := ⟨b, off + m * 3, none⟩) hbW0).trans (CW.out m hml 0 (by omega)))
                        have Z1 := Lib.hid ((BS.out.cell (p := ⟨b, off + m * 3 + 1, none⟩) hbW0).trans (CW.out m hml 1 (by omega)))
                        simp only [Fw.vals, List.getElem?_cons_zero, List.getElem?_cons_succ, Nat.add_zero] at Z0 Z1
                        have TN := Lib.hid (fun hx => take_all_nextF (q := fun y => ¬ (y.fr = x.fr ∧ y.tt = x.tt)) hml hn.out hx)
                        have ND : Hid (okG es → ¬ (es[m].fr = x.fr ∧ es[m].tt = x.tt)) := Lib.hid fun h => by
                          have := List.pairwise_iff_getElem.1 h.2 m k hml hkl hmk
                          rw [hxe.out] at this
                          exact this
                        generalize es[m] = z at *
                        by_cases h1 : z.fr = x.fr
                        · have q1 : (z.fr == x.fr) = true := by simpa using h1
                          by_cases h2 : z.tt = x.tt
                          · have q2 : (z.tt == x.tt) = true := by simpa using h2
                            clear h1 h2 hn
                            go_wp2_with fail
                            refine region_still (by kernel_rfl) [(.slice (some ⟨b, off, none⟩) es.length cap), (.int .i64 m), (.pointer (some ⟨b, off + m * 3, none⟩)), (.pointer (some ⟨b, off + m * 3, none⟩)), (.int .u8 z.fr), (.pointer (some ⟨X, 0, none⟩)), (.int .u8 x.fr), (.bool true), (.bool true), (.slice (some ⟨b, off, none⟩) es.length cap), (.int .i64 m), (.pointer (some ⟨b, off + m * 3, none⟩)), (.pointer (some ⟨b, off + m * 3 + 1, none⟩)), (.int .u8 z.tt), (.pointer (some ⟨X, 1, none⟩)), (.int .u8 x.tt), (.bool true), (.bool true)]
                              (fun w' => Below wr.heap.size wr w') (by kernel_rfl) (Below.refl _ _).drew ?_
                            intro af haf
                            simp only [List.toList_toArray, List.append_eq, List.cons_append, List.nil_append, puts, Act.put, List.getD_cons_zero, List.getD_cons_succ, List.setIfInBounds_toArray, List.set_cons_succ, List.set_cons_zero] at haf
                            subst haf
                            refine ⟨?_, ?_⟩
                            · simp only [List.toList_toArray, List.append_eq, List.cons_append, List.nil_append, EachTo]
                              refine ⟨?_, ?_, ?_, ?_, ?_, ?_, ?_, ?_, ?_, ?_, ?_, ?_, ?_, ?_, ?_, ?_, ?_, ?_, trivial⟩
                              · intro w' hS
                                refine OpTo.plain ?_ ?_
                                exact rfl
                                have HS := Lib.hid hS
                                clear hS
                                go_wp2_with fail
                                all_goals first | exact HS.out | exact ⟨rfl, HS.out⟩ | rfl | exact ⟨by omega, HS.out⟩
                              · intro w' hS
                                refine OpTo.plain ?_ ?_
                                exact rfl
                                have HS := Lib.hid hS
                                clear hS
                                go_wp2_with fail
                                all_goals first | exact HS.out | exact ⟨rfl, HS.out⟩ | rfl | exact ⟨by omega, HS.out⟩
                              · intro w' hS
                                refine OpTo.plain ?_ ?_
                                exact rfl
                                have HS := Lib.hid hS
                                clear hS
                                go_wp2_with fail
                                all_goals first | exact HS.out | exact ⟨rfl, HS.out⟩ | rfl | exact ⟨by omega, HS.out⟩
                              · intro w' hS
                                refine OpTo.plain ?_ ?_
                                exact rfl
                                have HS := Lib.hid hS
                                clear hS
                                go_wp2_with fail
                                all_goals first | exact HS.out | exact ⟨rfl, HS.out⟩ | rfl | exact ⟨by omega, HS.out⟩
                              · intro w' hS
                                refine OpTo.plain ?_ ?_
                                exact rfl
                                have hbl := Nat.lt_of_lt_of_le hbW hS.size
                                have f0 := (hS.cell (p := ⟨b, off + m * 3, none⟩) hbW).trans Z0.out
                                have f1 := (hS.cell (p := ⟨b, off + m * 3 + 1, none⟩) hbW).trans Z1.out
                                have HS := Lib.hid hS
                                clear hS
                                go_wp2_with fail
                                all_goals first | exact HS.out | exact ⟨rfl, HS.out⟩ | rfl | exact ⟨by omega, HS.out⟩
                              · intro w' hS
                                refine OpTo.plain ?_ ?_
                                exact rfl
                                have HS := Lib.hid hS
                                clear hS
                                go_wp2_with fail
                                all_goals first | exact HS.out | exact ⟨rfl, HS.out⟩ | rfl | exact ⟨by omega, HS.out⟩
                              · intro w' hS
                                refine OpTo.plain ?_ ?_
                                exact rfl
                                have d0_0 := (KX.out.below hS KX.out.lt).cell 0
                                have d0_1 := (KX.out.below hS KX.out.lt).cell 1
                                have d0_2 := (KX.out.below hS KX.out.lt).cell 2
                                simp at d0_0 d0_1 d0_2
                                have HS := Lib.hid hS
                                clear hS
                                go_wp2_with fail
                                all_goals first | exact HS.out | exact ⟨rfl, HS.out⟩ | rfl | exact ⟨by omega, HS.out⟩
                              · intro w' hS
                                refine OpTo.plain ?_ ?_
                                exact rfl
                                have HS := Lib.hid hS
                                clear hS
                                go_wp2_with fail
                                all_goals first | exact HS.out | exact ⟨rfl, HS.out⟩ | rfl | exact ⟨by omega, HS.out⟩
                              · intro w' hS
                                refine OpTo.plain ?_ ?_
                                exact rfl
                                have HS := Lib.hid hS
                                clear hS
                                go_wp2_with fail
                                all_goals first | exact HS.out | exact ⟨rfl, HS.out⟩ | rfl | exact ⟨by omega, HS.out⟩
                              · intro w' hS
                                refine OpTo.wanted ?_ ?_
                                kernel_rfl
                                have HS := Lib.hid hS
                                clear hS
                                go_wp2_with fail
                                all_goals first | exact HS.out | exact ⟨rfl, HS.out⟩ | rfl | exact ⟨by omega, HS.out⟩
                              · intro w' hS
                                refine OpTo.wanted ?_ ?_
                                kernel_rfl
                                have HS := Lib.hid hS
                                clear hS
                                go_wp2_with fail
                                all_goals first | exact HS.out | exact ⟨rfl, HS.out⟩ | rfl | exact ⟨by omega, HS.out⟩
                              · intro w' hS
                                refine OpTo.wanted ?_ ?_
                                kernel_rfl
                                have HS := Lib.hid hS
                                clear hS
                                go_wp2_with fail
                                all_goals first | exact HS.out | exact ⟨rfl, HS.out⟩ | rfl | exact ⟨by omega, HS.out⟩
                              · intro w' hS
                                refine OpTo.wanted ?_ ?_
                                kernel_rfl
                                have HS := Lib.hid hS
                                clear hS
                                go_wp2_with fail
                                all_goals first | exact HS.out | exact ⟨rfl, HS.out⟩ | rfl | exact ⟨by omega, HS.out⟩
                              · intro w' hS
                                refine OpTo.wanted ?_ ?_
                                kernel_rfl
                                have hbl := Nat.lt_of_lt_of_le hbW hS.size
                                have f0 := (hS.cell (p := ⟨b, off + m * 3, none⟩) hbW).trans Z0.out
                                have f1 := (hS.cell (p := ⟨b, off + m * 3 + 1, none⟩) hbW).trans Z1.out
                                have HS := Lib.hid hS
                                clear hS
                                go_wp2_with fail
                                all_goals first | exact HS.out | exact ⟨rfl, HS.out⟩ | rfl | exact ⟨by omega, HS.out⟩
                              · intro w' hS
                                refine OpTo.wanted ?_ ?_
                                kernel_rfl
                                have HS := Lib.hid hS
                                clear hS
                                go_wp2_with fail
                                all_goals first | exact HS.out | exact ⟨rfl, HS.out⟩ | rfl | exact ⟨by omega, HS.out⟩
                              · intro w' hS
                                refine OpTo.wanted ?_ ?_
                                kernel_rfl
                                have d0_0 := (KX.out.below hS KX.out.lt).cell 0
                                have d0_1 := (KX.out.below hS KX.out.lt).cell 1
                                have d0_2 := (KX.out.below hS KX.out.lt).cell 2
                                simp at d0_0 d0_1 d0_2
                                have HS := Lib.hid hS
                                clear hS
                                go_wp2_with fail
                                all_goals first | exact HS.out | exact ⟨rfl, HS.out⟩ | rfl | exact ⟨by omega, HS.out⟩
                              · intro w' hS
                                refine OpTo.wanted ?_ ?_
                                kernel_rfl
                                have HS := Lib.hid hS
                                clear hS
                                go_wp2_with fail
                                all_goals first | exact HS.out | exact ⟨rfl, HS.out⟩ | rfl | exact ⟨by omega, HS.out⟩
                              · intro w' hS
                                refine OpTo.plain ?_ ?_
                                exact rfl
                                have HS := Lib.hid hS
                                clear hS
                                go_wp2_with fail
                                all_goals first | exact HS.out | exact ⟨rfl, HS.out⟩ | rfl | exact ⟨by omega, HS.out⟩
                            intro w8 b8
                            have B8 := Lib.hid (BS.out.trans (b8.mono BS.out.size))
                            clear b8
                            go_wp2_with fail
                            refine bodyPost_ret (v := .tuple #[.pointer none, .int .i64 1]) (by simp [results, Try.results8, go_sem]) rfl ?_
                            exact ⟨BW.out.trans (B8.out.mono BW.out.size), .inr ⟨fun h => ND.out h ⟨by simpa using q1, by simpa using q2⟩, rfl⟩⟩
                          · have q2 : (z.tt == x.tt) = false := by simpa using h2
                            clear h1 h2 hn
                            go_wp2_with fail
                            refine region_still (by kernel_rfl) [(.slice (some ⟨b, off, none⟩) es.length cap), (.int .i64 m), (.pointer (some ⟨b, off + m * 3, none⟩)), (.pointer (some ⟨b, off + m * 3, none⟩)), (.int .u8 z.fr), (.pointer (some ⟨X, 0, none⟩)), (.int .u8 x.fr), (.bool true), (.bool true), (.slice (some ⟨b, off, none⟩) es.length cap), (.int .i64 m), (.pointer (some ⟨b, off + m * 3, none⟩)), (.pointer (some ⟨b, off + m * 3 + 1, none⟩)), (.int .u8 z.tt), (.pointer (some ⟨X, 1, none⟩)), (.int .u8 x.tt), (.bool false), (.bool false)]
                              (fun w' => Below wr.heap.size wr w') (by kernel_rfl) (Below.refl _ _).drew ?_
                            intro af haf
                            simp only [List.toList_toArray, List.append_eq, List.cons_append, List.nil_append, puts, Act.put, List.getD_cons_zero, List.getD_cons_succ, List.setIfInBounds_toArray, List.set_cons_succ, List.set_cons_zero] at haf
                            subst haf
                            refine ⟨?_, ?_⟩
                            · simp only [List.toList_toArray, List.append_eq, List.cons_append, List.nil_append, EachTo]
                              refine ⟨?_, ?_, ?_, ?_, ?_, ?_, ?_, ?_, ?_, ?_, ?_, ?_, ?_, ?_, ?_, ?_, ?_, ?_, trivial⟩
                              · intro w' hS
                                refine OpTo.plain ?_ ?_
                                exact rfl
                                have HS := Lib.hid hS
                                clear hS
                                go_wp2_with fail
                                all_goals first | exact HS.out | exact ⟨rfl, HS.out⟩ | rfl | exact ⟨by omega, HS.out⟩
                              · intro w' hS
                                refine OpTo.plain ?_ ?_
                                exact rfl
                                have HS := Lib.hid hS
                                clear hS
                                go_wp2_with fail
                                all_goals first | exact HS.out | exact ⟨rfl, HS.out⟩ | rfl | exact ⟨by omega, HS.out⟩
                              · intro w' hS
                                refine OpTo.plain ?_ ?_
                                exact rfl
                                have HS := Lib.hid hS
                                clear hS
                                go_wp2_with fail
                                all_goals first | exact HS.out | exact ⟨rfl, HS.out⟩ | rfl | exact ⟨by omega, HS.out⟩
                              · intro w' hS
                                refine OpTo.plain ?_ ?_
                                exact rfl
                                have HS := Lib.hid hS
                                clear hS
                                go_wp2_with fail
                                all_goals first | exact HS.out | exact ⟨rfl, HS.out⟩ | rfl | exact ⟨by omega, HS.out⟩
                              · intro w' hS
                                refine OpTo.plain ?_ ?_
                                exact rfl
                                have hbl := Nat.lt_of_lt_of_le hbW hS.size
                                have f0 := (hS.cell (p := ⟨b, off + m * 3, none⟩) hbW).trans Z0.out
                                have f1 := (hS.cell (p := ⟨b, off + m * 3 + 1, none⟩) hbW).trans Z1.out
                                have HS := Lib.hid hS
                                clear hS
                                go_wp2_with fail
                                all_goals first | exact HS.out | exact ⟨rfl, HS.out⟩ | rfl | exact ⟨by omega, HS.out⟩
                              · intro w' hS
                                refine OpTo.plain ?_ ?_
                                exact rfl
                                have HS := Lib.hid hS
                                clear hS
                                go_wp2_with fail
                                all_goals first | exact HS.out | exact ⟨rfl, HS.out⟩ | rfl | exact ⟨by omega, HS.out⟩
                              · intro w' hS
                                refine OpTo.plain ?_ ?_
                                exact rfl
                                have d0_0 := (KX.out.below hS KX.out.lt).cell 0
                                have d0_1 := (KX.out.below hS KX.out.lt).cell 1
                                have d0_2 := (KX.out.below hS KX.out.lt).cell 2
                                simp at d0_0 d0_1 d0_2
                                have HS := Lib.hid hS
                                clear hS
                                go_wp2_with fail
                                all_goals first | exact HS.out | exact ⟨rfl, HS.out⟩ | rfl | exact ⟨by omega, HS.out⟩
                              · intro w' hS
                                refine OpTo.plain ?_ ?_
                                exact rfl
                                have HS := Lib.hid hS
                                clear hS
                                go_wp2_with fail
                                all_goals first | exact HS.out | exact ⟨rfl, HS.out⟩ | rfl | exact ⟨by omega, HS.out⟩
                              · intro w' hS
                                refine OpTo.plain ?_ ?_
                                exact rfl
                                have HS := Lib.hid hS
                                clear hS
                                go_wp2_with fail
                                all_goals first | exact HS.out | exact ⟨rfl, HS.out⟩ | rfl | exact ⟨by omega, HS.out⟩
                              · intro w' hS
                                refine OpTo.wanted ?_ ?_
                                kernel_rfl
                                have HS := Lib.hid hS
                                clear hS
                                go_wp2_with fail
                                all_goals first | exact HS.out | exact ⟨rfl, HS.out⟩ | rfl | exact ⟨by omega, HS.out⟩
                              · intro w' hS
                                refine OpTo.wanted ?_ ?_
                                kernel_rfl
                                have HS := Lib.hid hS
                                clear hS
                                go_wp2_with fail
                                all_goals first | exact HS.out | exact ⟨rfl, HS.out⟩ | rfl | exact ⟨by omega, HS.out⟩
                              · intro w' hS
                                refine OpTo.wanted ?_ ?_
                                kernel_rfl
                                have HS := Lib.hid hS
                                clear hS
                                go_wp2_with fail
                                all_goals first | exact HS.out | exact ⟨rfl, HS.out⟩ | rfl | exact ⟨by omega, HS.out⟩
                              · intro w' hS
                                refine OpTo.wanted ?_ ?_
                                kernel_rfl
                                have HS := Lib.hid hS
                                clear hS
                                go_wp2_with fail
                                all_goals first | exact HS.out | exact ⟨rfl, HS.out⟩ | rfl | exact ⟨by omega, HS.out⟩
                              · intro w' hS
                                refine OpTo.wanted ?_ ?_
                                kernel_rfl
                                have hbl := Nat.lt_of_lt_of_le hbW hS.size
                                have f0 := (hS.cell (p := ⟨b, off + m * 3, none⟩) hbW).trans Z0.out
                                have f1 := (hS.cell (p := ⟨b, off + m * 3 + 1, none⟩) hbW).trans Z1.out
                                have HS := Lib.hid hS
                                clear hS
                                go_wp2_with fail
                                all_goals first | exact HS.out | exact ⟨rfl, HS.out⟩ | rfl | exact ⟨by omega, HS.out⟩
                              · intro w' hS
                                refine OpTo.wanted ?_ ?_
                                kernel_rfl
                                have HS := Lib.hid hS
                                clear hS
                                go_wp2_with fail
                                all_goals first | exact HS.out | exact ⟨rfl, HS.out⟩ | rfl | exact ⟨by omega, HS.out⟩
                              · intro w' hS
                                refine OpTo.wanted ?_ ?_
                                kernel_rfl
                                have d0_0 := (KX.out.below hS KX.out.lt).cell 0
                                have d0_1 := (KX.out.below hS KX.out.lt).cell 1
                                have d0_2 := (KX.out.below hS KX.out.lt).cell 2
                                simp at d0_0 d0_1 d0_2
                                have HS := Lib.hid hS
                                clear hS
                                go_wp2_with fail
                                all_goals first | exact HS.out | exact ⟨rfl, HS.out⟩ | rfl | exact ⟨by omega, HS.out⟩
                              · intro w' hS
                                refine OpTo.wanted ?_ ?_
                                kernel_rfl
                                have HS := Lib.hid hS
                                clear hS
                                go_wp2_with fail
                                all_goals first | exact HS.out | exact ⟨rfl, HS.out⟩ | rfl | exact ⟨by omega, HS.out⟩
                              · intro w' hS
                                refine OpTo.plain ?_ ?_
                                exact rfl
                                have HS := Lib.hid hS
                                clear hS
                                go_wp2_with fail
                                all_goals first | exact HS.out | exact ⟨rfl, HS.out⟩ | rfl | exact ⟨by omega, HS.out⟩
                            intro w8 b8
                            have B8 := Lib.hid (BS.out.trans (b8.mono BS.out.size))
                            clear b8
                            have TN2 := Lib.hid (TN.out (fun h => by simp [h] at q2))
                            go_wp2_with fail
                            go_roundw
                            case rel => exact ⟨m + 1, by omega, by go_num, TN2, B8.out⟩
                            case measure => simp [intOf]; omega
                        · have q1 : (z.fr == x.fr) = false := by simpa using h1
                          clear h1 hn
                          go_wp2_with fail
                          refine region_still (by kernel_rfl) [(.slice (some ⟨b, off, none⟩) es.length cap), (.int .i64 m), (.pointer (some ⟨b, off + m * 3, none⟩)), (.pointer (some ⟨b, off + m * 3, none⟩)), (.int .u8 z.fr), (.pointer (some ⟨X, 0, none⟩)), (.int .u8 x.fr), (.bool false), (.bool false), undef, undef, undef, undef, undef, undef, undef, undef, (.bool false)]
                            (fun w' => Below wr.heap.size wr w') (by kernel_rfl) (Below.refl _ _).drew ?_
                          intro af haf
                          simp only [List.toList_toArray, List.append_eq, List.cons_append, List.nil_append, puts, Act.put, List.getD_cons_zero, List.getD_cons_succ, List.setIfInBounds_toArray, List.set_cons_succ, List.set_cons_zero] at haf
                          subst haf
                          refine ⟨?_, ?_⟩
                          · simp only [List.toList_toArray, List.append_eq, List.cons_append, List.nil_append, EachTo]
                            refine ⟨?_, ?_, ?_, ?_, ?_, ?_, ?_, ?_, ?_, ?_, ?_, ?_, ?_, ?_, ?_, ?_, ?_, ?_, trivial⟩
                            · intro w' hS
                              refine OpTo.plain ?_ ?_
                              exact rfl
                              have HS := Lib.hid hS
                              clear hS
                              go_wp2_with fail
                              all_goals first | exact HS.out | exact ⟨rfl, HS.out⟩ | rfl | exact ⟨by omega, HS.out⟩
                            · intro w' hS
                              refine OpTo.plain ?_ ?_
                              exact rfl
                              have HS := Lib.hid hS
                              clear hS
                              go_wp2_with fail
                              all_goals first | exact HS.out | exact ⟨rfl, HS.out⟩ | rfl | exact ⟨by omega, HS.out⟩
                            · intro w' hS
                              refine OpTo.plain ?_ ?_
                              exact rfl
                              have HS := Lib.hid hS
                              clear hS
                              go_wp2_with fail
                              all_goals first | exact HS.out | exact ⟨rfl, HS.out⟩ | rfl | exact ⟨by omega, HS.out⟩
                            · intro w' hS
                              refine OpTo.plain ?_ ?_
                              exact rfl
                              have HS := Lib.hid hS
                              clear hS
                              go_wp2_with fail
                              all_goals first | exact HS.out | exact ⟨rfl, HS.out⟩ | rfl | exact ⟨by omega, HS.out⟩
                            · intro w' hS
                              refine OpTo.plain ?_ ?_
                              exact rfl
                              have hbl := Nat.lt_of_lt_of_le hbW hS.size
                              have f0 := (hS.cell (p := ⟨b, off + m * 3, none⟩) hbW).trans Z0.out
                              have f1 := (hS.cell (p := ⟨b, off + m * 3 + 1, none⟩) hbW).trans Z1.out
                              have HS := Lib.hid hS
                              clear hS
                              go_wp2_with fail
                              all_goals first | exact HS.out | exact ⟨rfl, HS.out⟩ | rfl | exact ⟨by omega, HS.out⟩
                            · intro w' hS
                              refine OpTo.plain ?_ ?_
                              exact rfl
                              have HS := Lib.hid hS
                              clear hS
                              go_wp2_with fail
                              all_goals first | exact HS.out | exact ⟨rfl, HS.out⟩ | rfl | exact ⟨by omega, HS.out⟩
                            · intro w' hS
                              refine OpTo.plain ?_ ?_
                              exact rfl
                              have d0_0 := (KX.out.below hS KX.out.lt).cell 0
                              have d0_1 := (KX.out.below hS KX.out.lt).cell 1
                              have d0_2 := (KX.out.below hS KX.out.lt).cell 2
                              simp at d0_0 d0_1 d0_2
                              have HS := Lib.hid hS
                              clear hS
                              go_wp2_with fail
                              all_goals first | exact HS.out | exact ⟨rfl, HS.out⟩ | rfl | exact ⟨by omega, HS.out⟩
                            · intro w' hS
                              refine OpTo.plain ?_ ?_
                              exact rfl
                              have HS := Lib.hid hS
                              clear hS
                              go_wp2_with fail
                              all_goals first | exact HS.out | exact ⟨rfl, HS.out⟩ | rfl | exact ⟨by omega, HS.out⟩
                            · intro w' hS
                              refine OpTo.plain ?_ ?_
                              exact rfl
                              have HS := Lib.hid hS
                              clear hS
                              go_wp2_with fail
                              all_goals first | exact HS.out | exact ⟨rfl, HS.out⟩ | rfl | exact ⟨by omega, HS.out⟩
                            · intro w' hS
                              refine OpTo.passed (by kernel_rfl) rfl hS
                            · intro w' hS
                              refine OpTo.passed (by kernel_rfl) rfl hS
                            · intro w' hS
                              refine OpTo.passed (by kernel_rfl) rfl hS
                            · intro w' hS
                              refine OpTo.passed (by kernel_rfl) rfl hS
                            · intro w' hS
                              refine OpTo.passed (by kernel_rfl) rfl hS
                            · intro w' hS
                              refine OpTo.passed (by kernel_rfl) rfl hS
                            · intro w' hS
                              refine OpTo.passed (by kernel_rfl) rfl hS
                            · intro w' hS
                              refine OpTo.passed (by kernel_rfl) rfl hS
                            · intro w' hS
                              refine OpTo.plain ?_ ?_
                              exact rfl
                              have HS := Lib.hid hS
                              clear hS
                              go_wp2_with fail
                              all_goals first | exact HS.out | exact ⟨rfl, HS.out⟩ | rfl | exact ⟨by omega, HS.out⟩
                          intro w8 b8
                          have B8 := Lib.hid (BS.out.trans (b8.mono BS.out.size))
                          clear b8
                          have TN2 := Lib.hid (TN.out (fun h => by simp [h] at q1))
                          go_wp2_with fail
                          go_roundw
                          case rel => exact ⟨m + 1, by omega, by go_num, TN2, B8.out⟩
                          case measure => simp [intOf]; omega
                      · obtain rfl : m = k := by omega
                        have NK := Lib.hid (KN.out OKX.out hn.out)
                        have RS := Lib.hid (RW.out.below BS.out)
                        clear hn
                        have C := Lib.hid (rset_any RS.out x.fr x.tt x.am)
                        have kl := KX.out.lt
                        have y0 := KX.out.cell 0; have y1 := KX.out.cell 1; have y2 := KX.out.cell 2
                        simp at y0 y1 y2
                        go_wp2_with fail
                        clear kl y0 y1 y2
                        refine C.out.mono ?_
                        rintro e w9 ⟨rfl, vl9, hr9, k9⟩
                        have R9 := Lib.hid hr9
                        have B9 := Lib.hid ((BW.out.trans (BS.out.mono BW.out.size)).trans (k9.below (BW.out.trans (BS.out.mono BW.out.size)).size (fun j hj e => by omega)))
                        clear hr9 k9 C
                        go_wp2_with fail
                        go_roundw
                        case rel => exact ⟨m + 1, vl9, by omega, by go_num, NK, by rw [NL.out]; exact R9.out, B9.out⟩
                        case measure => simp [intOf]; omega
    · obtain rfl : k = es.length := by omega
      have E : Hid (es.take es.length = es) := Lib.hid (List.take_of_length_le (Nat.le_refl _))
      rw [E.out] at hok R1
      go_wp2_with fail
      refine bodyPost_ret (v := .tuple #[.pointer (some ⟨w.heap.size, 0, none⟩), .int .i64 0]) (by simp [results, Try.results8, go_sem]) rfl ?_
      exact ⟨B1.out, .inl ⟨hok.out, w.heap.size, vl, rfl, R1.out⟩⟩

end Go.Proofs.Ytgebplplpenabaa
