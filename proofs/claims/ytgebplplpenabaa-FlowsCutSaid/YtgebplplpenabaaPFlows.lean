/-
  Package flows: Route, Most.
-/
import Derived.Test.YtgebplplpenabaaPFlowB
namespace Go.Proofs.Ytgebplplpenabaa
open Go.RowKit
set_option linter.unusedSimpArgs false
set_option linter.unusedVariables false
attribute [local go_sem] Oper.semAt_some

set_option maxHeartbeats 8000000 in
set_option maxRecDepth 100000 in
theorem proute_walk {w : World} {p : Option Addr} {f : Int → Int → Int} {s t want : Int} (hv : IsM w (.pointer p) f) (hI : GInv f 4398046511104) (hs : In8 s) (ht : In8 t) (hw : In64 want) :
    Calls Try.prog 9 #[.pointer p, .int .u8 s, .int .u8 t, .int .i64 want] w (RoutePostA f s t want 52 w) := by
  have HI := Lib.hid hI
  have HS := Lib.hid hs
  have HT := Lib.hid ht
  have HW := Lib.hid hw
  have B0 := Lib.hid ((((Below.refl w.heap.size w).alloc (Nat.le_refl _) (.cells #[.int .i64 want] 2)).alloc (by simp) (.cells #[.slice none 0 0] 22)).alloc (by simp; omega) (.cells #[.int .i64 0] 2))
  have CC := Lib.hid (gcopyM (hv.below B0.out))
  clear hv hI hs ht hw
  refine (callsIn_wide (n := 0)).1 ?_
  refine callsIn_of_wp_marks Try.func9 rfl trivial ?_ rfl
  refine wpIn_wide.2 ?_
  simp only [Try.ntmps9, List.size_toArray, List.length_cons, List.length_nil, Nat.reduceAdd, Nat.reduceSub, Array.replicate_succ, Array.replicate_zero, List.push_toArray, List.append_toArray, List.nil_append, List.cons_append]
  go_wp2_with fail
  refine CC.out.mono ?_
  rintro e w1 ⟨q, rfl, hq, hf, hb⟩
  go_wp2_with fail
  refine (ways_any _ _ _ _).mono ?_
  rintro e w4 ⟨rfl, rfl⟩
  have F1 := Lib.hid hf
  have SG := Lib.hid (RInv.start HI.out s t want)
  have B1 := Lib.hid (B0.out.trans (hb.mono B0.out.size))
  have hsz : w.heap.size + 1 + 1 + 1 ≤ w1.heap.size := by
    have := hb.size
    simpa using this
  have K0 := Lib.hid (((Blk.new w #[.int .i64 want] 2).alloc (.cells #[.slice none 0 0] 22)).alloc (.cells #[.int .i64 0] 2))
  have K1 := Lib.hid ((Blk.new (w.alloc (.cells #[.int .i64 want] 2)) #[.slice none 0 0] 22).alloc (.cells #[.int .i64 0] 2))
  have K2 := Lib.hid (Blk.new ((w.alloc (.cells #[.int .i64 want] 2)).alloc (.cells #[.slice none 0 0] 22)) #[.int .i64 0] 2)
  simp only [World.size_alloc] at K1 K2
  have M4 : RtI w q f want s t w1.heap.size (0, ⟨f, want, []⟩) ((((w1.alloc (.cells #[.pointer q] 27)).alloc (.cells #[.pointer q] 27)).alloc (.cells #[.int .u8 s] 23)).alloc (.cells #[.int .u8 t] 23)) := by
    have q1 := (Blk.new w1 #[.pointer q] 27)
    have b4 : Below w1.heap.size w1 ((((w1.alloc (.cells #[.pointer q] 27)).alloc (.cells #[.pointer q] 27)).alloc (.cells #[.int .u8 s] 23)).alloc (.cells #[.int .u8 t] 23)) :=
      ((((Below.refl _ w1).alloc (Nat.le_refl _) _).alloc (by simp) _).alloc (by simp; omega) _).alloc (by simp; omega) _
    refine ⟨SG.out, B1.out.trans (b4.mono (by omega)), hq.below b4, fun a ha => by have := F1.out a ha; simp at this; omega, ⟨.slice none 0 0, ?_, World.ownsRow_nil _ _ _ _⟩, ?_, ?_, ?_, ?_, ?_, ?_⟩
    · exact (K1.out.below hb K1.out.lt).below b4 (by omega)
    · exact (K0.out.below hb K0.out.lt).below b4 (by omega)
    · rw [show want - (⟨f, want, []⟩ : RS).left = 0 from Int.sub_self want]
      exact (K2.out.below hb K2.out.lt).below b4 (by omega)
    · exact ((q1.alloc _).alloc _).alloc _
    · have := ((Blk.new (w1.alloc (.cells #[.pointer q] 27)) #[.pointer q] 27).alloc (.cells #[.int .u8 s] 23)).alloc (.cells #[.int .u8 t] 23)
      simpa only [World.size_alloc] using this
    · have := (Blk.new ((w1.alloc (.cells #[.pointer q] 27)).alloc (.cells #[.pointer q] 27)) #[.int .u8 s] 23).alloc (.cells #[.int .u8 t] 23)
      simpa only [World.size_alloc] using this
    · have := Blk.new (((w1.alloc (.cells #[.pointer q] 27)).alloc (.cells #[.pointer q] 27)).alloc (.cells #[.int .u8 s] 23)) #[.int .u8 t] 23
      simpa only [World.size_alloc] using this
  have M := Lib.hid M4
  clear CC hq hf hb M4
  go_wp2_with fail
  generalize hX : (((w1.alloc (Obj.cells #[.pointer q] 27)).alloc (Obj.cells #[.pointer q] 27)).alloc (Obj.cells #[.int .u8 s] 23)).alloc (Obj.cells #[.int .u8 t] 23) = X at *
  refine wp_rounds (gf := 35) (lb := #[.pointer (some ⟨w1.heap.size + 1, 0, none⟩), .pointer (some ⟨w1.heap.size + 1 + 1, 0, none⟩), .pointer (some ⟨w1.heap.size + 1 + 1 + 1, 0, none⟩)]) rfl (enters_of Try.func35 (by kernel_rfl) rfl)
    (RtI w q f want s t w1.heap.size) (WayY s t) (RtX w q f want s t w1.heap.size) (fun x => shortW x.2.f s t = []) (fun x x' => x'.1 = x.1 + 1)
    (fun x => fits_I M.out.2.below.size x) (fun c => fits_X M.out.2.below.size c) (fun x vs => fits_Y x vs) (fun x vs W ⟨_, _, _, h, _⟩ => by rw [h]; rfl)
    (ways_seq HS.out HT.out (fun x W h => ⟨h.2.gr, h.1, h.2.c3, h.2.c4, h.2.c5⟩)) (0, ⟨f, want, []⟩) M.out
    (fun vs => { tmps := #[Value.pointer p, Value.int IntKind.u8 s, Value.int IntKind.u8 t, Value.int IntKind.i64 want, undef, undef,
          undef, Value.pointer (some { block := w.heap.size, off := 0 }),
          Value.pointer (some { block := w.heap.size + 1, off := 0 }),
          Value.pointer (some { block := w.heap.size + 1 + 1, off := 0 }),
          Value.pointer (some { block := w1.heap.size, off := 0 }), vs.getD 0 undef, undef, undef, undef, Value.pointer p,
          Value.pointer q, Value.pointer q, Value.int IntKind.u8 s, Value.int IntKind.u8 t,
          Value.func (Fn.func 35) #[]
            #[Value.pointer (some { block := w1.heap.size + 1, off := 0 }),
              Value.pointer (some { block := w1.heap.size + 1 + 1, off := 0 }),
              Value.pointer (some { block := w1.heap.size + 1 + 1 + 1, off := 0 })],
          vs.getD 0 undef, undef, undef, undef, undef, undef, undef, undef, undef, undef, undef, undef, undef, undef, undef,
          undef, undef, undef, undef, undef, undef, undef, undef, undef, undef, undef, undef, undef, undef, undef, undef, undef, undef, undef, undef, undef, undef, undef, undef, undef, undef, undef, undef, undef], defers := [] }) ?assign ?body ?done ?stop
  case assign =>
    rintro m l x vs W K _ ⟨bl, cs, n, rfl, _⟩ hK
    gi_wp2_with fail
    exact hK
  case body =>
    rintro m0 l ⟨k, σ⟩ vs W hM ⟨bl, cs, m, rfl, hbl, hcs, hlen⟩
    exact rt_body HW.out hM hbl hcs hlen rfl
  case done =>
    intro D x W hD hS hM hK
    have SR := Lib.hid (show IsRoute f 4398046511104 s t want x.2 from ⟨x.1, hM.1, .inr hS⟩)
    obtain ⟨v, k8, ow⟩ := hM.2.row
    obtain ⟨ao, cap, rfl, _⟩ := owns_open ow
    have CC := Lib.hid (clipF_any (owns_below ow (Below.refl _ _).drew))
    have d8 := k8.cell 0
    have f8 := k8.frozen 0
    have d9 := hM.2.got.cell 0
    have f9 := hM.2.got.frozen 0
    simp at d8 d9
    have hDw := Nat.le_trans M.out.2.below.size hD
    have MM := Lib.hid hM
    have K8 := Lib.hid k8
    have DK := Lib.hid hK
    clear hM k8 ow hK hS
    go_wp2_with fail
    go_region_with ((refine CC.out.mono ?_; rintro e w5 ⟨v', rfl, hro, hob, rfl⟩; obtain ⟨ao', cap', rfl, _⟩ := hro.look; have HRO := Lib.hid hro; clear hro hob))
    all_goals
      obtain ⟨W9, h9⟩ : ∃ W9, W9 = ((W.setCell ⟨w.heap.size + 1, 0, none⟩ (.slice ao' x.2.out.length cap')).setCell ⟨w.heap.size + 1 + 1, 0, none⟩ (.int .i64 (want - x.2.left))).drew := ⟨_, rfl⟩
      rw [← h9]
      obtain ⟨e1, e2, e3, e4, e5⟩ := rt_end MM.out.2 DK.out hDw HRO.out h9
      have R4 := Lib.hid e4
      have R5 := Lib.hid e5
      clear e4 e5 h9
      go_wp2_with fail
      refine ⟨by simp, .inl ⟨_, _, rfl, run_takeDeferred e1, ?_⟩⟩
      exact ⟨_, by simp [results, Try.f9, go_sem, e2, e3], x.2, _, rfl, SR.out, R4.out, R5.out⟩
  case stop =>
    rintro D c W hD ⟨rfl, x, hM, hd⟩ hK
    have SR := Lib.hid (show IsRoute f 4398046511104 s t want x.2 from ⟨x.1, hM.1, hd⟩)
    obtain ⟨v, k8, ow⟩ := hM.2.row
    obtain ⟨ao, cap, rfl, _⟩ := owns_open ow
    have CC := Lib.hid (clipF_any (owns_below ow (Below.refl _ _).drew))
    have d8 := k8.cell 0
    have f8 := k8.frozen 0
    have d9 := hM.2.got.cell 0
    have f9 := hM.2.got.frozen 0
    simp at d8 d9
    have hDw := Nat.le_trans M.out.2.below.size hD
    have MM := Lib.hid hM
    have K8 := Lib.hid k8
    have DK := Lib.hid hK
    clear hM k8 ow hK hd
    go_wp2_with fail
    go_region_with ((refine CC.out.mono ?_; rintro e w5 ⟨v', rfl, hro, hob, rfl⟩; obtain ⟨ao', cap', rfl, _⟩ := hro.look; have HRO := Lib.hid hro; clear hro hob))
    all_goals
      obtain ⟨W9, h9⟩ : ∃ W9, W9 = ((W.setCell ⟨w.heap.size + 1, 0, none⟩ (.slice ao' x.2.out.length cap')).setCell ⟨w.heap.size + 1 + 1, 0, none⟩ (.int .i64 (want - x.2.left))).drew := ⟨_, rfl⟩
      rw [← h9]
      obtain ⟨e1, e2, e3, e4, e5⟩ := rt_end MM.out.2 DK.out hDw HRO.out h9
      have R4 := Lib.hid e4
      have R5 := Lib.hid e5
      clear e4 e5 h9
      go_wp2_with fail
      refine ⟨by simp, .inl ⟨_, _, rfl, run_takeDeferred e1, ?_⟩⟩
      exact ⟨_, by simp [results, Try.f9, go_sem, e2, e3], x.2, _, rfl, SR.out, R4.out, R5.out⟩
theorem routeProg : RouteProg := by
  intro w v f s t want hv hI hs ht hw
  rcases hv with ⟨rfl, rfl⟩ | ⟨g, rfl, hk⟩
  · exact proute_walk (IsM.nil _) hI hs ht hw
  · exact proute_walk (IsM.of hk) hI hs ht hw
theorem most_max {f : Int → Int → Int} {s t : Int} {σ μ : RS} (h0 : GInv f 4398046511104) (hR : IsRoute f 4398046511104 s t 9223372036854775807 σ) (hM : IsRoute f 4398046511104 s t mostW μ) : 9223372036854775807 - σ.left = mostW - μ.left := by
  by_cases h : inP s ∧ inP t ∧ s ≠ t
  · have h1 := route_min hR hM h0 h.1 h.2.1 h.2.2 (by decide)
    have h2 := most_bd hM h0 h.2.2
    omega
  · rw [route_out h0 h hR, route_out h0 h hM]
    show (9223372036854775807 : Int) - 9223372036854775807 = mostW - mostW
    omega
set_option maxHeartbeats 4000000 in
set_option maxRecDepth 100000 in
theorem mostProg : MostProg := by
  intro w v f s t hv hI hs ht
  obtain ⟨μ, hμ⟩ := route_ends hI s t mostW
  have CR := Lib.hid (routeProg w v f s t 9223372036854775807 hv hI hs ht (by unfold In64; decide))
  have HM := Lib.hid hμ
  have HI := Lib.hid hI
  clear hμ hI hv hs ht
  go_enter Try.func10, Try.ntmps10
  go_wp2_with fail
  refine CR.out.mono ?_
  rintro e w1 ⟨σ, v', rfl, hσ, _, hb⟩
  have EQ := Lib.hid (most_max HI.out hσ HM.out)
  have B := Lib.hid hb
  generalize (9223372036854775807 : Int) - σ.left = y at *
  clear hσ hb
  go_wp2_with fail
  go_ret
  exact ⟨μ, by rw [← EQ.out]; rfl, HM.out, B.out⟩

end Go.Proofs.Ytgebplplpenabaa
