/-
  The program's graphs: New (written by gen_pgrn.py).
-/
import Derived.Test.YtgebplplpenabaaPGr
import Derived.Test.YtgebplplpenabaaSame
namespace Go.Proofs.Ytgebplplpenabaa
open Go.RowKit
set_option linter.unusedSimpArgs false
set_option linter.unusedVariables false

theorem Blk.gridAt {w : World} {g : Nat} {v : Int → Int → Value} {t : TypeId} (h : Blk w g (gridA v) t) {p q : Int} (h0 : 0 ≤ p) (h1 : p < 17) (h2 : 0 ≤ q) (h3 : q < 17) : w.cell? ⟨g, p.toNat * 17 + q.toNat, none⟩ = some (v p q) := by
  rw [h.cell, gridA_at v (by omega) (by omega), Int.toNat_of_nonneg h0, Int.toNat_of_nonneg h2]
theorem Blk.gridSet {w : World} {g : Nat} {v : Int → Int → Value} {t : TypeId} (h : Blk w g (gridA v) t) {p q : Int} (h0 : 0 ≤ p) (h1 : p < 17) (h2 : 0 ≤ q) (h3 : q < 17) (u : Value) :
    Blk (w.setCell ⟨g, p.toNat * 17 + q.toNat, none⟩ u) g (gridA fun a b => if a = p ∧ b = q then u else v a b) t := by
  have := h.set (p.toNat * 17 + q.toNat) u
  rw [gridA_set v (by omega) (by omega), Int.toNat_of_nonneg h0, Int.toNat_of_nonneg h2] at this
  exact this
theorem zero_came : (∀ w, (zeroValue 62).run Try.prog w = .ok (.agg (gridA fun _ _ => .bool false)) w) ∧ (Try.prog.info? 62).map (·.size) = some 289 :=
  zero_of_info (by kernel_rfl)
/-- Which edges came. -/
def camV (es : List Fw) (a b : Int) : Value := .bool (es.any (hitE a b))
theorem camV_next {es : List Fw} {k : Nat} (hk : k < es.length) : camV (es.take (k + 1)) = fun a b => if a = es[k].fr ∧ b = es[k].tt then .bool true else camV (es.take k) a b := by
  funext a b
  unfold camV
  rw [List.take_succ_eq_append_getElem hk, List.any_append]
  by_cases h : a = es[k].fr ∧ b = es[k].tt
  · rw [if_pos h]
    obtain ⟨rfl, rfl⟩ := h
    simp [hitE]
  · rw [if_neg h]
    have : hitE a b es[k] = false := by
      cases hh : hitE a b es[k] with
      | false => rfl
      | true => exact absurd ((hitE_iff.1 hh).imp Eq.symm Eq.symm) h
    simp [this]
theorem newF_next {es : List Fw} {k : Nat} (hk : k < es.length) : newF (es.take (k + 1)) = updE (newF (es.take k)) es[k].fr es[k].tt es[k].am := by
  unfold newF
  rw [List.take_succ_eq_append_getElem hk, List.foldl_append]
  rfl
def GNewPost (es : List Fw) (w : World) (e : Ending) (w' : World) : Prop :=
  Below w.heap.size w w' ∧ ((okG es ∧ ∃ g, e = .returned (.tuple #[.pointer (some ⟨g, 0, none⟩), .int .i64 0]) ∧ w.heap.size ≤ g ∧ Blk w' g (graC (newF es) true) 60) ∨ (¬ okG es ∧ e = .returned (.tuple #[.pointer none, .int .i64 1])))
def GNewAt (w : World) (es : List Fw) (i : Value) (wr : World) : Prop :=
  ∃ k : Nat, k ≤ es.length ∧ i = .int .i64 k ∧ Hid (okG (es.take k)) ∧ Blk wr w.heap.size (graC (newF (es.take k)) true) 60 ∧ Blk wr (w.heap.size + 1) (gridA (camV (es.take k))) 62 ∧ Below w.heap.size w wr
set_option maxHeartbeats 16000000 in
set_option maxRecDepth 100000 in
theorem gnew_any {w : World} {ao : Option Addr} {cap : Nat} {es : List Fw} (hr : Reads w (.slice ao es.length cap) 3 es.length (fwCells es)) (hln : es.length ≤ 100000) :
    Calls Try.prog 7 #[.slice ao es.length cap] w (GNewPost es w) := by
  obtain ⟨ao', cap', hv, _, _, hcell⟩ := hr
  cases hv
  have HC : Hid (0 < es.length → ∃ b off, ao = some ⟨b, off, none⟩ ∧ b < w.heap.size ∧ ∀ m, (hm : m < es.length) → ∀ j, j < 3 → w.cell? ⟨b, off + m * 3 + j, none⟩ = es[m].vals[j]?) := Lib.hid fun h0 => by
    obtain ⟨b, off, h1, h2, h3⟩ := hcell h0
    refine ⟨b, off, h1, h2, fun m hm j hj => ?_⟩
    have := h3 (m * 3 + j) (by omega)
    rw [fwCells_get es m j hj hm] at this
    rw [← this, Nat.add_assoc]
  clear hcell
  have hz := zero_came.1
  have B0 := Lib.hid (((Below.refl w.heap.size w).alloc (Nat.le_refl _) (.cells (graC zeroF true) 60)).alloc (by simp) (.cells (gridA fun _ _ => .bool false) 62))
  have K0 := Lib.hid ((Blk.new w (graC zeroF true) 60).alloc (.cells (gridA fun _ _ => .bool false) 62))
  have M0 := Lib.hid (Blk.newAt (w.alloc (.cells (graC zeroF true) 60)) (gridA fun _ _ => .bool false) 62 (g := w.heap.size + 1) (by simp))
  go_enter Try.func7, Try.ntmps7
  go_wp2_with ((with_reducible refine wpList_build_of ?_ 60 #[(1, .const (.bool true))] ?_ #[(1, .bool true)] ?_ (graC zeroF true) (build_gra0 _) ?_); exact rfl; exact rfl; simp [Act.eval, Act.put])
  go_loopw [12] (GNewAt w es) (fun i _ => es.length - (intOf i).toNat)
  case atStart => exact ⟨0, Nat.zero_le _, rfl, Lib.hid okG.nil, K0.out, M0.out, B0.out⟩
  case round =>
    clear K0 B0 M0 hz
    obtain ⟨k, hk, rfl, hok, hG, hM, hB⟩ := hrel
    have G1 := Lib.hid hG
    have M1 := Lib.hid hM
    have B1 := Lib.hid hB
    clear hG hM hB
    by_cases hkl : k < es.length
    · obtain ⟨b, off, rfl, hbw, hcell⟩ := HC.out (by omega)
      have CC := Lib.hid (fun m (hm : m < es.length) j (hj : j < 3) => (B1.out.cell (p := ⟨b, off + m * 3 + j, none⟩) hbw).trans (hcell m hm j hj))
      have hbr : b < wr.heap.size := Nat.lt_of_lt_of_le hbw B1.out.size
      have d0 := CC.out k hkl 0 (by omega)
      have d1 := CC.out k hkl 1 (by omega)
      have d2 := CC.out k hkl 2 (by omega)
      simp only [Fw.vals, List.getElem?_cons_zero, List.getElem?_cons_succ, Nat.add_zero] at d0 d1 d2
      have NB : Hid (okG es → okX es[k]) := Lib.hid fun h => h.1 _ (List.getElem_mem _)
      have ND : Hid ((es.take k).any (hitE es[k].fr es[k].tt) = true → ¬ okG es) := Lib.hid fun h h2 => by
        obtain ⟨y, hy, hh⟩ := List.any_eq_true.1 h
        obtain ⟨m, hm, rfl⟩ := List.mem_take_iff_getElem.1 hy
        exact List.pairwise_iff_getElem.1 h2.2 m k (by omega) hkl (by omega) (hitE_iff.1 hh)
      have KN := Lib.hid (fun h1 (h2 : (es.take k).any (hitE es[k].fr es[k].tt) = false) => okG.next hkl hok.out h1 (fun y hy he => by
        rw [List.any_eq_false] at h2
        exact h2 y hy (hitE_iff.2 he)))
      have NL := Lib.hid (newF_next hkl)
      have NM := Lib.hid (camV_next hkl)
      obtain ⟨x, hxe⟩ : ∃ x, Hid (es[k] = x) := ⟨_, Lib.hid rfl⟩
      rw [hxe.out] at d0 d1 d2 NB KN NL NM ND
      have bx := (Below.refl wr.heap.size wr).alloc (Nat.le_refl _) (.cells #[.int .u8 x.fr, .int .u8 x.tt, .int .i64 x.am] 52)
      have BW := Lib.hid (B1.out.trans (bx.mono B1.out.size))
      have KW := Lib.hid (Blk.new wr #[.int .u8 x.fr, .int .u8 x.tt, .int .i64 x.am] 52)
      have GW := Lib.hid (G1.out.alloc (.cells #[.int .u8 x.fr, .int .u8 x.tt, .int .i64 x.am] 52))
      have MW := Lib.hid (M1.out.alloc (.cells #[.int .u8 x.fr, .int .u8 x.tt, .int .i64 x.am] 52))
      have hgX : w.heap.size < wr.heap.size := G1.out.lt
      have hmX : w.heap.size + 1 < wr.heap.size := M1.out.lt
      have EM := Lib.hid (edgeMay_any x)
      obtain ⟨c, hc⟩ : ∃ c, Hid ((es.take k).any (hitE x.fr x.tt) = c) := ⟨_, Lib.hid rfl⟩
      have CV : Hid (camV (es.take k) x.fr x.tt = .bool c) := Lib.hid (by unfold camV; rw [hc.out])
      rw [hc.out] at ND KN
      clear bx hcell hok CC
      go_wp2_with fail
      generalize hW : wr.alloc (.cells #[.int .u8 x.fr, .int .u8 x.tt, .int .i64 x.am] 52) = W at *
      clear hW d0 d1 d2
      generalize wr.heap.size = X at *
      have hXW := KW.out.lt
      by_cases hx : okX x
      · rw [decide_eq_true hx] at EM
        have OKX := Lib.hid hx
        obtain ⟨⟨a1, a2⟩, ⟨t1, t2⟩, _⟩ := hx
        cases c with
        | true =>
          refine region_still (by kernel_rfl) [(.agg #[.int .u8 x.fr, .int .u8 x.tt, .int .i64 x.am]), (.bool true), (.bool false), (.bool false), (.pointer (some ⟨X, 0, none⟩)), (.int .u8 x.fr), (.pointer (some ⟨X, 1, none⟩)), (.int .u8 x.tt), (.pointer (some ⟨w.heap.size + 1, x.fr.toNat * 17, none⟩)), (.pointer (some ⟨w.heap.size + 1, x.fr.toNat * 17 + x.tt.toNat, none⟩)), (.bool true), (.bool true)]
            (fun w' => Below W.heap.size W w') (by kernel_rfl) (Below.refl _ _).drew ?_
          intro af haf
          simp only [List.toList_toArray, List.append_eq, List.cons_append, List.nil_append, puts, Act.put, List.getD_cons_zero, List.getD_cons_succ, List.setIfInBounds_toArray, List.set_cons_succ, List.set_cons_zero] at haf
          subst haf
          refine ⟨?_, ?_⟩
          · simp only [List.toList_toArray, List.append_eq, List.cons_append, List.nil_append, EachTo]
            refine ⟨?_, ?_, ?_, ?_, ?_, ?_, ?_, ?_, ?_, ?_, ?_, ?_, trivial⟩
            · intro w' hS
              refine OpTo.plain ?_ ?_
              exact rfl
              have kx := KW.out.below hS KW.out.lt
              have hl := kx.lt
              have e0 := kx.cell 0
              have e1 := kx.cell 1
              have e2 := kx.cell 2
              simp at e0 e1 e2
              have HS := Lib.hid hS
              clear hS
              go_wp2_with fail
              all_goals first | exact HS.out | exact ⟨rfl, HS.out⟩ | rfl | exact ⟨by omega, HS.out⟩
            · intro w' hS
              refine OpTo.plain ?_ ?_
              exact rfl
              have HS := Lib.hid hS
              clear hS
              go_wp2_with fail
              refine (EM.out w').mono ?_
              rintro e w'' ⟨rfl, hb2⟩
              exact ⟨rfl, andB HS.out hb2⟩
            · intro w' hS
              refine OpTo.plain ?_ ?_
              exact rfl
              have HS := Lib.hid hS
              clear hS
              go_wp2_with fail
              all_goals first | exact HS.out | exact ⟨rfl, HS.out⟩ | rfl | exact ⟨by omega, HS.out⟩
            · intro w' hS
              refine OpTo.plain ?_ ?_
              exact rfl
              have HS := Lib.hid hS
              clear hS
              go_wp2_with fail
              all_goals first | exact HS.out | exact ⟨rfl, HS.out⟩ | rfl | exact ⟨by omega, HS.out⟩
            · intro w' hS
              refine OpTo.wanted ?_ ?_
              kernel_rfl
              have kx := KW.out.below hS KW.out.lt
              have hl := kx.lt
              have e0 := kx.cell 0
              have e1 := kx.cell 1
              have e2 := kx.cell 2
              simp at e0 e1 e2
              have HS := Lib.hid hS
              clear hS
              go_wp2_with fail
              all_goals first | exact HS.out | exact ⟨rfl, HS.out⟩ | rfl | exact ⟨by omega, HS.out⟩
            · intro w' hS
              refine OpTo.wanted ?_ ?_
              kernel_rfl
              have kx := KW.out.below hS KW.out.lt
              have hl := kx.lt
              have e0 := kx.cell 0
              have e1 := kx.cell 1
              have e2 := kx.cell 2
              simp at e0 e1 e2
              have HS := Lib.hid hS
              clear hS
              go_wp2_with fail
              all_goals first | exact HS.out | exact ⟨rfl, HS.out⟩ | rfl | exact ⟨by omega, HS.out⟩
            · intro w' hS
              refine OpTo.wanted ?_ ?_
              kernel_rfl
              have kx := KW.out.below hS KW.out.lt
              have hl := kx.lt
              have e0 := kx.cell 0
              have e1 := kx.cell 1
              have e2 := kx.cell 2
              simp at e0 e1 e2
              have HS := Lib.hid hS
              clear hS
              go_wp2_with fail
              all_goals first | exact HS.out | exact ⟨rfl, HS.out⟩ | rfl | exact ⟨by omega, HS.out⟩
            · intro w' hS
              refine OpTo.wanted ?_ ?_
              kernel_rfl
              have kx := KW.out.below hS KW.out.lt
              have hl := kx.lt
              have e0 := kx.cell 0
              have e1 := kx.cell 1
              have e2 := kx.cell 2
              simp at e0 e1 e2
              have HS := Lib.hid hS
              clear hS
              go_wp2_with fail
              all_goals first | exact HS.out | exact ⟨rfl, HS.out⟩ | rfl | exact ⟨by omega, HS.out⟩
            · intro w' hS
              refine OpTo.wanted ?_ ?_
              kernel_rfl
              have km := MW.out.below hS MW.out.lt
              have hm := km.lt
              have HS := Lib.hid hS
              clear hS
              go_wp2_with fail
              all_goals first | exact HS.out | exact ⟨rfl, HS.out⟩ | rfl | exact ⟨by omega, HS.out⟩
            · intro w' hS
              refine OpTo.wanted ?_ ?_
              kernel_rfl
              have km := MW.out.below hS MW.out.lt
              have hm := km.lt
              have HS := Lib.hid hS
              clear hS
              go_wp2_with fail
              all_goals first | exact HS.out | exact ⟨rfl, HS.out⟩ | rfl | exact ⟨by omega, HS.out⟩
            · intro w' hS
              refine OpTo.wanted ?_ ?_
              kernel_rfl
              have km := MW.out.below hS MW.out.lt
              have hm := km.lt
              have d := km.gridAt (p := x.fr) (q := x.tt) (by omega) (by omega) (by omega) (by omega)
              rw [CV.out] at d
              have HS := Lib.hid hS
              clear hS
              go_wp2_with fail
              all_goals first | exact HS.out | exact ⟨rfl, HS.out⟩ | rfl | exact ⟨by omega, HS.out⟩
            · intro w' hS
              refine OpTo.plain ?_ ?_
              exact rfl
              have HS := Lib.hid hS
              clear hS
              go_wp2_with fail
              all_goals first | exact HS.out | exact ⟨rfl, HS.out⟩ | rfl | exact ⟨by omega, HS.out⟩
          intro w2 hS
          have HS2 := Lib.hid hS
          clear hS
          go_wp2_with fail
          refine bodyPost_ret (v := .tuple #[.pointer none, .int .i64 1]) (by simp [results, Try.results7, go_sem]) rfl ?_
          exact ⟨BW.out.trans (HS2.out.mono BW.out.size), .inr ⟨ND.out (by first | trivial | rfl), rfl⟩⟩
        | false =>
          refine region_still (by kernel_rfl) [(.agg #[.int .u8 x.fr, .int .u8 x.tt, .int .i64 x.am]), (.bool true), (.bool false), (.bool false), (.pointer (some ⟨X, 0, none⟩)), (.int .u8 x.fr), (.pointer (some ⟨X, 1, none⟩)), (.int .u8 x.tt), (.pointer (some ⟨w.heap.size + 1, x.fr.toNat * 17, none⟩)), (.pointer (some ⟨w.heap.size + 1, x.fr.toNat * 17 + x.tt.toNat, none⟩)), (.bool false), (.bool false)]
            (fun w' => Below W.heap.size W w') (by kernel_rfl) (Below.refl _ _).drew ?_
          intro af haf
          simp only [List.toList_toArray, List.append_eq, List.cons_append, List.nil_append, puts, Act.put, List.getD_cons_zero, List.getD_cons_succ, List.setIfInBounds_toArray, List.set_cons_succ, List.set_cons_zero] at haf
          subst haf
          refine ⟨?_, ?_⟩
          · simp only [List.toList_toArray, List.append_eq, List.cons_append, List.nil_append, EachTo]
            refine ⟨?_, ?_, ?_, ?_, ?_, ?_, ?_, ?_, ?_, ?_, ?_, ?_, trivial⟩
            · intro w' hS
              refine OpTo.plain ?_ ?_
              exact rfl
              have kx := KW.out.below hS KW.out.lt
              have hl := kx.lt
              have e0 := kx.cell 0
              have e1 := kx.cell 1
              have e2 := kx.cell 2
              simp at e0 e1 e2
              have HS := Lib.hid hS
              clear hS
              go_wp2_with fail
              all_goals first | exact HS.out | exact ⟨rfl, HS.out⟩ | rfl | exact ⟨by omega, HS.out⟩
            · intro w' hS
              refine OpTo.plain ?_ ?_
              exact rfl
              have HS := Lib.hid hS
              clear hS
              go_wp2_with fail
              refine (EM.out w').mono ?_
              rintro e w'' ⟨rfl, hb2⟩
              exact ⟨rfl, andB HS.out hb2⟩
            · intro w' hS
              refine OpTo.plain ?_ ?_
              exact rfl
              have HS := Lib.hid hS
              clear hS
              go_wp2_with fail
              all_goals first | exact HS.out | exact ⟨rfl, HS.out⟩ | rfl | exact ⟨by omega, HS.out⟩
            · intro w' hS
              refine OpTo.plain ?_ ?_
              exact rfl
              have HS := Lib.hid hS
              clear hS
              go_wp2_with fail
              all_goals first | exact HS.out | exact ⟨rfl, HS.out⟩ | rfl | exact ⟨by omega, HS.out⟩
            · intro w' hS
              refine OpTo.wanted ?_ ?_
              kernel_rfl
              have kx := KW.out.below hS KW.out.lt
              have hl := kx.lt
              have e0 := kx.cell 0
              have e1 := kx.cell 1
              have e2 := kx.cell 2
              simp at e0 e1 e2
              have HS := Lib.hid hS
              clear hS
              go_wp2_with fail
              all_goals first | exact HS.out | exact ⟨rfl, HS.out⟩ | rfl | exact ⟨by omega, HS.out⟩
            · intro w' hS
              refine OpTo.wanted ?_ ?_
              kernel_rfl
              have kx := KW.out.below hS KW.out.lt
              have hl := kx.lt
              have e0 := kx.cell 0
              have e1 := kx.cell 1
              have e2 := kx.cell 2
              simp at e0 e1 e2
              have HS := Lib.hid hS
              clear hS
              go_wp2_with fail
              all_goals first | exact HS.out | exact ⟨rfl, HS.out⟩ | rfl | exact ⟨by omega, HS.out⟩
            · intro w' hS
              refine OpTo.wanted ?_ ?_
              kernel_rfl
              have kx := KW.out.below hS KW.out.lt
              have hl := kx.lt
              have e0 := kx.cell 0
              have e1 := kx.cell 1
              have e2 := kx.cell 2
              simp at e0 e1 e2
              have HS := Lib.hid hS
              clear hS
              go_wp2_with fail
              all_goals first | exact HS.out | exact ⟨rfl, HS.out⟩ | rfl | exact ⟨by omega, HS.out⟩
            · intro w' hS
              refine OpTo.wanted ?_ ?_
              kernel_rfl
              have kx := KW.out.below hS KW.out.lt
              have hl := kx.lt
              have e0 := kx.cell 0
              have e1 := kx.cell 1
              have e2 := kx.cell 2
              simp at e0 e1 e2
              have HS := Lib.hid hS
              clear hS
              go_wp2_with fail
              all_goals first | exact HS.out | exact ⟨rfl, HS.out⟩ | rfl | exact ⟨by omega, HS.out⟩
            · intro w' hS
              refine OpTo.wanted ?_ ?_
              kernel_rfl
              have km := MW.out.below hS MW.out.lt
              have hm := km.lt
              have HS := Lib.hid hS
              clear hS
              go_wp2_with fail
              all_goals first | exact HS.out | exact ⟨rfl, HS.out⟩ | rfl | exact ⟨by omega, HS.out⟩
            · intro w' hS
              refine OpTo.wanted ?_ ?_
              kernel_rfl
              have km := MW.out.below hS MW.out.lt
              have hm := km.lt
              have HS := Lib.hid hS
              clear hS
              go_wp2_with fail
              all_goals first | exact HS.out | exact ⟨rfl, HS.out⟩ | rfl | exact ⟨by omega, HS.out⟩
            · intro w' hS
              refine OpTo.wanted ?_ ?_
              kernel_rfl
              have km := MW.out.below hS MW.out.lt
              have hm := km.lt
              have d := km.gridAt (p := x.fr) (q := x.tt) (by omega) (by omega) (by omega) (by omega)
              rw [CV.out] at d
              have HS := Lib.hid hS
              clear hS
              go_wp2_with fail
              all_goals first | exact HS.out | exact ⟨rfl, HS.out⟩ | rfl | exact ⟨by omega, HS.out⟩
            · intro w' hS
              refine OpTo.plain ?_ ?_
              exact rfl
              have HS := Lib.hid hS
              clear hS
              go_wp2_with fail
              all_goals first | exact HS.out | exact ⟨rfl, HS.out⟩ | rfl | exact ⟨by omega, HS.out⟩
          intro w2 hS
          have HS2 := Lib.hid hS
          clear hS
          have KN2 := Lib.hid (KN.out OKX.out rfl)
          have G2 := Lib.hid (GW.out.below HS2.out GW.out.lt)
          have M2 := Lib.hid (MW.out.below HS2.out MW.out.lt)
          have K2 := Lib.hid (KW.out.below HS2.out KW.out.lt)
          have B2 := Lib.hid (BW.out.trans (HS2.out.mono BW.out.size))
          clear GW MW KW BW HS2 EM
          go_wp2_with fail
          refine region_end (by kernel_rfl) 6 16 [(.pointer (some ⟨X, 0, none⟩)), (.int .u8 x.fr), (.pointer (some ⟨X, 1, none⟩)), (.int .u8 x.tt), (.pointer (some ⟨w.heap.size + 1, x.fr.toNat * 17, none⟩)), (.pointer (some ⟨w.heap.size + 1, x.fr.toNat * 17 + x.tt.toNat, none⟩))]
            (fun w' => Below w2.heap.size w2 w') (by kernel_rfl) rfl (by kernel_rfl) (Below.refl _ _).drew ?_
          intro af haf
          simp only [List.toList_toArray, List.append_eq, List.cons_append, List.nil_append, puts, Act.put, List.getD_cons_zero, List.getD_cons_succ, List.setIfInBounds_toArray, List.set_cons_succ, List.set_cons_zero] at haf
          subst haf
          refine ⟨?_, ?_⟩
          · simp only [List.toList_toArray, List.take_succ_cons, List.take_zero, EachTo]
            refine ⟨?_, ?_, ?_, ?_, ?_, ?_, trivial⟩
            · intro w' hS
              refine OpTo.plain ?_ ?_
              exact rfl
              have kx := K2.out.below hS K2.out.lt
              have hl := kx.lt
              have e0 := kx.cell 0
              have e1 := kx.cell 1
              have e2 := kx.cell 2
              simp at e0 e1 e2
              have HS := Lib.hid hS
              clear hS
              go_wp2_with fail
              all_goals first | exact HS.out | exact ⟨rfl, HS.out⟩ | rfl | exact ⟨by omega, HS.out⟩
            · intro w' hS
              refine OpTo.plain ?_ ?_
              exact rfl
              have kx := K2.out.below hS K2.out.lt
              have hl := kx.lt
              have e0 := kx.cell 0
              have e1 := kx.cell 1
              have e2 := kx.cell 2
              simp at e0 e1 e2
              have HS := Lib.hid hS
              clear hS
              go_wp2_with fail
              all_goals first | exact HS.out | exact ⟨rfl, HS.out⟩ | rfl | exact ⟨by omega, HS.out⟩
            · intro w' hS
              refine OpTo.plain ?_ ?_
              exact rfl
              have kx := K2.out.below hS K2.out.lt
              have hl := kx.lt
              have e0 := kx.cell 0
              have e1 := kx.cell 1
              have e2 := kx.cell 2
              simp at e0 e1 e2
              have HS := Lib.hid hS
              clear hS
              go_wp2_with fail
              all_goals first | exact HS.out | exact ⟨rfl, HS.out⟩ | rfl | exact ⟨by omega, HS.out⟩
            · intro w' hS
              refine OpTo.plain ?_ ?_
              exact rfl
              have kx := K2.out.below hS K2.out.lt
              have hl := kx.lt
              have e0 := kx.cell 0
              have e1 := kx.cell 1
              have e2 := kx.cell 2
              simp at e0 e1 e2
              have HS := Lib.hid hS
              clear hS
              go_wp2_with fail
              all_goals first | exact HS.out | exact ⟨rfl, HS.out⟩ | rfl | exact ⟨by omega, HS.out⟩
            · intro w' hS
              refine OpTo.plain ?_ ?_
              exact rfl
              have km := M2.out.below hS M2.out.lt
              have hm := km.lt
              have HS := Lib.hid hS
              clear hS
              go_wp2_with fail
              all_goals first | exact HS.out | exact ⟨rfl, HS.out⟩ | rfl | exact ⟨by omega, HS.out⟩
            · intro w' hS
              refine OpTo.plain ?_ ?_
              exact rfl
              have km := M2.out.below hS M2.out.lt
              have hm := km.lt
              have HS := Lib.hid hS
              clear hS
              go_wp2_with fail
              all_goals first | exact HS.out | exact ⟨rfl, HS.out⟩ | rfl | exact ⟨by omega, HS.out⟩
          simp only [List.getD_cons_succ, List.getD_cons_zero, List.toList_toArray]
          intro w' hS
          refine OpTo.plain ?_ ?_
          exact rfl
          have kb := Lib.hid ((M2.out.below hS M2.out.lt).gridSet (p := x.fr) (q := x.tt) (by omega) (by omega) (by omega) (by omega) (.bool true))
          have dm := (M2.out.below hS M2.out.lt).gridAt (p := x.fr) (q := x.tt) (by omega) (by omega) (by omega) (by omega)
          rw [CV.out] at dm
          have fr := (M2.out.below hS M2.out.lt).frozen (x.fr.toNat * 17 + x.tt.toNat)
          have kk := Lib.hid (((B2.out.trans (hS.mono B2.out.size)).setCell (p := ⟨w.heap.size + 1, x.fr.toNat * 17 + x.tt.toNat, none⟩) (by simp) (.bool true)))
          have G3 := Lib.hid ((G2.out.below hS G2.out.lt).setOther (a := ⟨w.heap.size + 1, x.fr.toNat * 17 + x.tt.toNat, none⟩) (by simp) (.bool true))
          have K3 := Lib.hid ((K2.out.below hS K2.out.lt).setOther (a := ⟨w.heap.size + 1, x.fr.toNat * 17 + x.tt.toNat, none⟩) (by simp; omega) (.bool true))
          clear hS
          go_wp2_with fail
          generalize w'.setCell ⟨w.heap.size + 1, x.fr.toNat * 17 + x.tt.toNat, none⟩ (.bool true) = w3 at *
          clear dm fr G2 K2 M2 B2
          refine region_end (by kernel_rfl) 11 16 [(.pointer (some ⟨w.heap.size, 0, none⟩)), (.pointer (some ⟨X, 0, none⟩)), (.int .u8 x.fr), (.pointer (some ⟨X, 1, none⟩)), (.int .u8 x.tt), (.pointer (some ⟨X, 2, none⟩)), (.int .i64 x.am), (.pointer (some ⟨w.heap.size, 0, none⟩)), (.pointer (some ⟨w.heap.size, 0, none⟩)), (.pointer (some ⟨w.heap.size, x.fr.toNat * 17, none⟩)), (.pointer (some ⟨w.heap.size, x.fr.toNat * 17 + x.tt.toNat, none⟩))]
            (fun w' => Below w3.heap.size w3 w') (by kernel_rfl) rfl (by kernel_rfl) (Below.refl _ _).drew ?_
          intro af haf
          simp only [List.toList_toArray, List.append_eq, List.cons_append, List.nil_append, puts, Act.put, List.getD_cons_zero, List.getD_cons_succ, List.setIfInBounds_toArray, List.set_cons_succ, List.set_cons_zero] at haf
          subst haf
          refine ⟨?_, ?_⟩
          · simp only [List.toList_toArray, List.take_succ_cons, List.take_zero, EachTo]
            refine ⟨?_, ?_, ?_, ?_, ?_, ?_, ?_, ?_, ?_, ?_, ?_, trivial⟩
            · intro w' hS
              refine OpTo.plain ?_ ?_
              exact rfl
              have HS := Lib.hid hS
              clear hS
              go_wp2_with fail
              all_goals first | exact HS.out | exact ⟨rfl, HS.out⟩ | rfl | exact ⟨by omega, HS.out⟩
            · intro w' hS
              refine OpTo.plain ?_ ?_
              exact rfl
              have kx := K3.out.below hS K3.out.lt
              have hl := kx.lt
              have e0 := kx.cell 0
              have e1 := kx.cell 1
              have e2 := kx.cell 2
              simp at e0 e1 e2
              have HS := Lib.hid hS
              clear hS
              go_wp2_with fail
              all_goals first | exact HS.out | exact ⟨rfl, HS.out⟩ | rfl | exact ⟨by omega, HS.out⟩
            · intro w' hS
              refine OpTo.plain ?_ ?_
              exact rfl
              have kx := K3.out.below hS K3.out.lt
              have hl := kx.lt
              have e0 := kx.cell 0
              have e1 := kx.cell 1
              have e2 := kx.cell 2
              simp at e0 e1 e2
              have HS := Lib.hid hS
              clear hS
              go_wp2_with fail
              all_goals first | exact HS.out | exact ⟨rfl, HS.out⟩ | rfl | exact ⟨by omega, HS.out⟩
            · intro w' hS
              refine OpTo.plain ?_ ?_
              exact rfl
              have kx := K3.out.below hS K3.out.lt
              have hl := kx.lt
              have e0 := kx.cell 0
              have e1 := kx.cell 1
              have e2 := kx.cell 2
              simp at e0 e1 e2
              have HS := Lib.hid hS
              clear hS
              go_wp2_with fail
              all_goals first | exact HS.out | exact ⟨rfl, HS.out⟩ | rfl | exact ⟨by omega, HS.out⟩
            · intro w' hS
              refine OpTo.plain ?_ ?_
              exact rfl
              have kx := K3.out.below hS K3.out.lt
              have hl := kx.lt
              have e0 := kx.cell 0
              have e1 := kx.cell 1
              have e2 := kx.cell 2
              simp at e0 e1 e2
              have HS := Lib.hid hS
              clear hS
              go_wp2_with fail
              all_goals first | exact HS.out | exact ⟨rfl, HS.out⟩ | rfl | exact ⟨by omega, HS.out⟩
            · intro w' hS
              refine OpTo.plain ?_ ?_
              exact rfl
              have kx := K3.out.below hS K3.out.lt
              have hl := kx.lt
              have e0 := kx.cell 0
              have e1 := kx.cell 1
              have e2 := kx.cell 2
              simp at e0 e1 e2
              have HS := Lib.hid hS
              clear hS
              go_wp2_with fail
              all_goals first | exact HS.out | exact ⟨rfl, HS.out⟩ | rfl | exact ⟨by omega, HS.out⟩
            · intro w' hS
              refine OpTo.plain ?_ ?_
              exact rfl
              have kx := K3.out.below hS K3.out.lt
              have hl := kx.lt
              have e0 := kx.cell 0
              have e1 := kx.cell 1
              have e2 := kx.cell 2
              simp at e0 e1 e2
              have HS := Lib.hid hS
              clear hS
              go_wp2_with fail
              all_goals first | exact HS.out | exact ⟨rfl, HS.out⟩ | rfl | exact ⟨by omega, HS.out⟩
            · intro w' hS
              refine OpTo.plain ?_ ?_
              exact rfl
              have kg := G3.out.below hS G3.out.lt
              have hl := kg.lt
              have HS := Lib.hid hS
              clear hS
              go_wp2_with fail
              all_goals first | exact HS.out | exact ⟨rfl, HS.out⟩ | rfl | exact ⟨by omega, HS.out⟩
            · intro w' hS
              refine OpTo.plain ?_ ?_
              exact rfl
              have kg := G3.out.below hS G3.out.lt
              have hl := kg.lt
              have HS := Lib.hid hS
              clear hS
              go_wp2_with fail
              all_goals first | exact HS.out | exact ⟨rfl, HS.out⟩ | rfl | exact ⟨by omega, HS.out⟩
            · intro w' hS
              refine OpTo.plain ?_ ?_
              exact rfl
              have kg := G3.out.below hS G3.out.lt
              have hl := kg.lt
              have HS := Lib.hid hS
              clear hS
              go_wp2_with fail
              all_goals first | exact HS.out | exact ⟨rfl, HS.out⟩ | rfl | exact ⟨by omega, HS.out⟩
            · intro w' hS
              refine OpTo.plain ?_ ?_
              exact rfl
              have kg := G3.out.below hS G3.out.lt
              have hl := kg.lt
              have HS := Lib.hid hS
              clear hS
              go_wp2_with fail
              all_goals first | exact HS.out | exact ⟨rfl, HS.out⟩ | rfl | exact ⟨by omega, HS.out⟩
          simp only [List.getD_cons_succ, List.getD_cons_zero, List.toList_toArray]
          intro w' hS
          refine OpTo.plain ?_ ?_
          exact rfl
          have kc := Lib.hid ((G3.out.below hS G3.out.lt).capSet (p := x.fr) (q := x.tt) (by omega) (by omega) (by omega) (by omega) x.am)
          have dm := (G3.out.below hS G3.out.lt).cap (p := x.fr) (q := x.tt) (by omega) (by omega) (by omega) (by omega)
          have fr := (G3.out.below hS G3.out.lt).frozen (x.fr.toNat * 17 + x.tt.toNat)
          have k4 := Lib.hid (((kk.out.trans (hS.mono kk.out.size)).setCell (p := ⟨w.heap.size, x.fr.toNat * 17 + x.tt.toNat, none⟩) (by simp) (.int .i64 x.am)))
          have M4 := Lib.hid ((kb.out.below hS kb.out.lt).setOther (a := ⟨w.heap.size, x.fr.toNat * 17 + x.tt.toNat, none⟩) (by simp) (.int .i64 x.am))
          clear hS
          go_wp2_with fail
          generalize w'.setCell ⟨w.heap.size, x.fr.toNat * 17 + x.tt.toNat, none⟩ (.int .i64 x.am) = w4 at *
          clear dm fr kb kk G3 K3
          go_roundw
          case rel => exact ⟨k + 1, by omega, by go_num, KN2, by rw [NL.out]; exact kc.out, by rw [NM.out]; exact M4.out, k4.out⟩
          case measure => simp [intOf]; omega
      · rw [decide_eq_false hx] at EM
        have NO : Hid (¬ okG es) := Lib.hid fun h => hx (NB.out h)
        clear hx
        refine region_still (by kernel_rfl) [(.agg #[.int .u8 x.fr, .int .u8 x.tt, .int .i64 x.am]), (.bool false), (.bool true), (.bool true), undef, undef, undef, undef, undef, undef, undef, (.bool true)]
          (fun w' => Below W.heap.size W w') (by kernel_rfl) (Below.refl _ _).drew ?_
        intro af haf
        simp only [List.toList_toArray, List.append_eq, List.cons_append, List.nil_append, puts, Act.put, List.getD_cons_zero, List.getD_cons_succ, List.setIfInBounds_toArray, List.set_cons_succ, List.set_cons_zero] at haf
        subst haf
        refine ⟨?_, ?_⟩
        · simp only [List.toList_toArray, List.append_eq, List.cons_append, List.nil_append, EachTo]
          refine ⟨?_, ?_, ?_, ?_, ?_, ?_, ?_, ?_, ?_, ?_, ?_, ?_, trivial⟩
          · intro w' hS
            refine OpTo.plain ?_ ?_
            exact rfl
            have kx := KW.out.below hS KW.out.lt
            have hl := kx.lt
            have e0 := kx.cell 0
            have e1 := kx.cell 1
            have e2 := kx.cell 2
            simp at e0 e1 e2
            have HS := Lib.hid hS
            clear hS
            go_wp2_with fail
            all_goals first | exact HS.out | exact ⟨rfl, HS.out⟩ | rfl | exact ⟨by omega, HS.out⟩
          · intro w' hS
            refine OpTo.plain ?_ ?_
            exact rfl
            have HS := Lib.hid hS
            clear hS
            go_wp2_with fail
            refine (EM.out w').mono ?_
            rintro e w'' ⟨rfl, hb2⟩
            exact ⟨rfl, andB HS.out hb2⟩
          · intro w' hS
            refine OpTo.plain ?_ ?_
            exact rfl
            have HS := Lib.hid hS
            clear hS
            go_wp2_with fail
            all_goals first | exact HS.out | exact ⟨rfl, HS.out⟩ | rfl | exact ⟨by omega, HS.out⟩
          · intro w' hS
            refine OpTo.plain ?_ ?_
            exact rfl
            have HS := Lib.hid hS
            clear hS
            go_wp2_with fail
            all_goals first | exact HS.out | exact ⟨rfl, HS.out⟩ | rfl | exact ⟨by omega, HS.out⟩
          · intro w' hS
            refine OpTo.passed (by kernel_rfl) rfl hS
          · intro w' hS
            refine OpTo.passed (by kernel_rfl) rfl hS
          · intro w' hS
            refine OpTo.passed (by kernel_rfl) rfl hS
          · intro w' hS
            refine OpTo.passed (by kernel_rfl) rfl hS
          · intro w' hS
            refine OpTo.passed (by kernel_rfl) rfl hS
          · intro w' hS
            refine OpTo.passed (by kernel_rfl) rfl hS
          · intro w' hS
            refine OpTo.passed (by kernel_rfl) rfl hS
          · intro w' hS
            refine OpTo.plain ?_ ?_
            exact rfl
            have HS := Lib.hid hS
            clear hS
            go_wp2_with fail
            all_goals first | exact HS.out | exact ⟨rfl, HS.out⟩ | rfl | exact ⟨by omega, HS.out⟩
        intro w2 hS
        have HS2 := Lib.hid hS
        clear hS
        go_wp2_with fail
        refine bodyPost_ret (v := .tuple #[.pointer none, .int .i64 1]) (by simp [results, Try.results7, go_sem]) rfl ?_
        exact ⟨BW.out.trans (HS2.out.mono BW.out.size), .inr ⟨NO.out, rfl⟩⟩
    · have hkk : es.take k = es := List.take_of_length_le (by omega)
      rw [hkk] at hok
      rw [hkk] at G1
      go_wp2_with fail
      refine bodyPost_ret (v := .tuple #[.pointer (some ⟨w.heap.size, 0, none⟩), .int .i64 0]) (by simp [results, Try.results7, go_sem]) rfl ?_
      exact ⟨B1.out, .inl ⟨hok.out, w.heap.size, rfl, Nat.le_refl _, G1.out⟩⟩

end Go.Proofs.Ytgebplplpenabaa
