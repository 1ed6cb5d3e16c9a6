/-
  Pieces of one proof, without what is not wanted: Ref04e.
-/
import Derived.Test.YtbieomgpfhloeaaGreatP27
set_option linter.unusedSimpArgs false
set_option linter.unusedVariables false
namespace Go.Proofs.YtbieomgpfhloeaaGreat
open Go.RowKit
theorem wp_append_pair {P : Program} {w w' : World} {o : Oper} {a : Act} {K : Act → World → Prop} {Q : Exit → Act → World → Prop} (y x : Operand) (t : TypeId) {u v v' : Value}
  (ho : o.op = .call { callee := .builtin .append, args := #[y, x], argTypes := #[t, t] }) (hy : a.eval y = u) (hx : a.eval x = v)
  (hr : (Builtin.append_ #[t, t] o.type #[u, v]).run P w = .ok v' w') (h : K (a.put o.dst v') w') : o.wp P a w K Q := by
 unfold Oper.wp execOp
 simp only [ho, resolve, invoke, builtin, Sem.run_bind, Sem.run_pure, Result.andThen_ok, List.map_toArray, List.map_cons, List.map_nil, hy, hx, hr]
 exact h
def PlaceI (W : World) (gb base : Nat) (l : List Of) (x : Of) (s : Value × Nat × Value) (D : Nat → Bool) (w : World) : Prop :=
 (D 11 = false → Below W.heap.size W w ∧ (D 5 = true → D 8 = false → w.ownsRow W.heap.size 60 7 s.1 l.length (ofCells l)) ∧ (D 7 = true → D 8 = false → W.heap.size ≤ s.2.1 ∧ Blk w s.2.1 #[.int .u64 x.se, .int .u8 x.ow, .int .u8 x.sl, .int .u8 x.bu, .int .i64 x.lf, .int .i64 x.nu, .int .i64 x.de] 60) ∧ (D 8 = true → w.ownsRow W.heap.size 60 7 s.2.2 (l.length + 1) (ofCells (l ++ [x])))) ∧
 (D 11 = true → w.ownsRow W.heap.size 60 7 s.2.2 (l.length + 1) (ofCells (l ++ [x])) ∧ Blk w gb #[s.2.2, .int .u64 x.se] 133 ∧ Keep (· = gb) W w)
theorem PlaceI.step {W : World} {gb base : Nat} {l : List Of} {x : Of} {s : Value × Nat × Value} {D : Nat → Bool} {w : World} (h : PlaceI W gb base l x s D w) (hN : D 11 = false) {k : Nat} (h5 : k ≠ 5) (h7 : k ≠ 7) (h8 : k ≠ 8) (h11 : k ≠ 11) : PlaceI W gb base l x s (ins k D) w := by
 have e5 : ins k D 5 = D 5 := by simp [ins, Ne.symm h5]
 have e7 : ins k D 7 = D 7 := by simp [ins, Ne.symm h7]
 have e8 : ins k D 8 = D 8 := by simp [ins, Ne.symm h8]
 have e11 : ins k D 11 = D 11 := by simp [ins, Ne.symm h11]
 unfold PlaceI
 rw [e5, e7, e8, e11]
 exact h
set_option maxHeartbeats 4000000 in
set_option maxRecDepth 100000 in
theorem place_r1 {W : World} {gb R : Nat} {x : Of} {vl : Value} (HG : Hid (Blk W gb #[vl, .int .u64 x.se] 133)) (KR : Hid (Blk W R #[.int .i64 x.nu, .int .i64 x.de] 58)) {Q : Exit → Act → World → Prop} {c5 c6 c7 c8 c9 c10 c12 c13 c14 c15 c16 c17 c18 c19 c20 c21 c22 c23 c24 c25 c26 c27 c28 c29 c30 c31 c32 c33 c34 c35 c36 c37 c38 c39 c40 c41 c42 c43 c44 c45 c46 c47 c48 c49 c50 c51 c52 c53 c54 c55 c56 c57 c58 c59 c60 : Value}
  (hq : ∀ a w6, W.heap.size ≤ a → Blk w6 a #[.int .u64 x.se, .int .u8 x.ow, .int .u8 x.sl, .int .u8 x.bu, .int .i64 x.lf, .int .i64 x.nu, .int .i64 x.de] 60 → Below W.heap.size W w6 → Q .normal ⟨#[(.pointer (some ⟨gb, 0, none⟩)), (.int .u8 x.ow), (.int .u8 x.sl), (.int .u8 x.bu), (.int .i64 x.lf), c5, c6, c7, c8, c9, c10, (.pointer (some ⟨R, 0, none⟩)), c12, c13, (.pointer (some ⟨a, 0, none⟩)), (.pointer (some ⟨gb, 0, none⟩)), (.pointer (some ⟨gb, 0, none⟩)), (.pointer (some ⟨gb, 1, none⟩)), (.int .u64 x.se), (.int .u8 x.ow), (.int .u8 x.sl), (.int .u8 x.bu), (.int .i64 x.lf), (.agg #[.int .i64 x.nu, .int .i64 x.de]), (.agg #[.int .u64 x.se, .int .u8 x.ow, .int .u8 x.sl, .int .u8 x.bu, .int .i64 x.lf, .int .i64 x.nu, .int .i64 x.de]), c25, c26, c27, c28, c29, c30, c31, c32, c33, c34, c35, c36, c37, c38, c39, c40, c41, c42, c43, c44, c45, c46, c47, c48, c49, c50, c51, c52, c53, c54, c55, c56, c57, c58, c59, c60], []⟩ w6) :
  Code.wp Tryz.prog (((Tryz.f34.body).bind (regionNo 1)).getD .skip) Q ⟨#[(.pointer (some ⟨gb, 0, none⟩)), (.int .u8 x.ow), (.int .u8 x.sl), (.int .u8 x.bu), (.int .i64 x.lf), c5, c6, c7, c8, c9, c10, (.pointer (some ⟨R, 0, none⟩)), c12, c13, c14, c15, c16, c17, c18, c19, c20, c21, c22, c23, c24, c25, c26, c27, c28, c29, c30, c31, c32, c33, c34, c35, c36, c37, c38, c39, c40, c41, c42, c43, c44, c45, c46, c47, c48, c49, c50, c51, c52, c53, c54, c55, c56, c57, c58, c59, c60], []⟩ W := by
 conv => arg 2; whnf
 have HQ := Lib.hid hq
 clear hq
 refine region_ghost (by kernel_rfl) (fun g : Nat → Nat => [(.pointer (some ⟨gb, 0, none⟩)), (.pointer (some ⟨gb, 0, none⟩)), (.pointer (some ⟨gb, 1, none⟩)), (.int .u64 x.se), (.int .u8 x.ow), (.int .u8 x.sl), (.int .u8 x.bu), (.int .i64 x.lf), (.agg #[.int .i64 x.nu, .int .i64 x.de]), (.agg #[.int .u64 x.se, .int .u8 x.ow, .int .u8 x.sl, .int .u8 x.bu, .int .i64 x.lf, .int .i64 x.nu, .int .i64 x.de]), (.pointer (some ⟨g 10, 0, none⟩)), undef])
  (Lays W [(⟨10, 11, (.cells #[.int .u64 0, .int .u8 0, .int .u8 0, .int .u8 0, .int .i64 0, .int .i64 0, .int .i64 0] 60), (.cells #[.int .u64 x.se, .int .u8 x.ow, .int .u8 x.sl, .int .u8 x.bu, .int .i64 x.lf, .int .i64 x.nu, .int .i64 x.de] 60)⟩ : Spec)]) (by kernel_rfl) (fun _ => 0) (Lays.start _ _ _) ?_
 intro AF hAF
 simp only [List.toList_toArray, puts, Act.put, List.getD_cons_zero, List.getD_cons_succ, List.setIfInBounds_toArray, List.set_cons_succ, List.set_cons_zero] at hAF
 have hAF2 : _ = AF := funext hAF
 subst hAF2
 clear hAF
 refine ⟨?_, ?_⟩
 ·simp only [List.toList_toArray, EachG]
  refine ⟨?_, ?_, ?_, ?_, ?_, ?_, ?_, ?_, ?_, ?_, ?_, ?_, trivial⟩
  ·intro g D w' hD hW hC hI
   refine ⟨g, fun _ _ _ => rfl, ?_⟩
   with_reducible refine OpTo.plain ?_ ?_
   exact rfl
   have hS := hI.below
   have HS := Lib.hid (hI.step (Below.refl _ _) (k := 0) (by rfl))
   clear hI hS hC hW hD
   go_wp2_with fail
   all_goals first | exact HS.out | exact ⟨rfl, HS.out⟩ | rfl
  ·intro g D w' hD hW hC hI
   refine ⟨g, fun _ _ _ => rfl, ?_⟩
   with_reducible refine OpTo.plain ?_ ?_
   exact rfl
   have hS := hI.below
   have hl0 := Nat.lt_of_lt_of_le HG.out.lt hS.size
   have HS := Lib.hid (hI.step (Below.refl _ _) (k := 1) (by rfl))
   clear hI hS hC hW hD
   go_wp2_with fail
   all_goals first | exact HS.out | exact ⟨rfl, HS.out⟩ | rfl
  ·intro g D w' hD hW hC hI
   refine ⟨g, fun _ _ _ => rfl, ?_⟩
   with_reducible refine OpTo.plain ?_ ?_
   exact rfl
   have hS := hI.below
   have hl0 := Nat.lt_of_lt_of_le HG.out.lt hS.size
   have HS := Lib.hid (hI.step (Below.refl _ _) (k := 2) (by rfl))
   clear hI hS hC hW hD
   go_wp2_with fail
   all_goals first | exact HS.out | exact ⟨rfl, HS.out⟩ | rfl
  ·intro g D w' hD hW hC hI
   refine ⟨g, fun _ _ _ => rfl, ?_⟩
   with_reducible refine OpTo.plain ?_ ?_
   exact rfl
   have hS := hI.below
   have hl0 := Nat.lt_of_lt_of_le HG.out.lt hS.size
   have d0_0 := (HG.out.below hS HG.out.lt).cell 0
   have d0_1 := (HG.out.below hS HG.out.lt).cell 1
   simp at d0_0 d0_1
   have HS := Lib.hid (hI.step (Below.refl _ _) (k := 3) (by rfl))
   clear hI hS hC hW hD
   go_wp2_with fail
   all_goals first | exact HS.out | exact ⟨rfl, HS.out⟩ | rfl
  ·intro g D w' hD hW hC hI
   refine ⟨g, fun _ _ _ => rfl, ?_⟩
   with_reducible refine OpTo.plain ?_ ?_
   exact rfl
   have hS := hI.below
   have HS := Lib.hid (hI.step (Below.refl _ _) (k := 4) (by rfl))
   clear hI hS hC hW hD
   go_wp2_with fail
   all_goals first | exact HS.out | exact ⟨rfl, HS.out⟩ | rfl
  ·intro g D w' hD hW hC hI
   refine ⟨g, fun _ _ _ => rfl, ?_⟩
   with_reducible refine OpTo.plain ?_ ?_
   exact rfl
   have hS := hI.below
   have HS := Lib.hid (hI.step (Below.refl _ _) (k := 5) (by rfl))
   clear hI hS hC hW hD
   go_wp2_with fail
   all_goals first | exact HS.out | exact ⟨rfl, HS.out⟩ | rfl
  ·intro g D w' hD hW hC hI
   refine ⟨g, fun _ _ _ => rfl, ?_⟩
   with_reducible refine OpTo.plain ?_ ?_
   exact rfl
   have hS := hI.below
   have HS := Lib.hid (hI.step (Below.refl _ _) (k := 6) (by rfl))
   clear hI hS hC hW hD
   go_wp2_with fail
   all_goals first | exact HS.out | exact ⟨rfl, HS.out⟩ | rfl
  ·intro g D w' hD hW hC hI
   refine ⟨g, fun _ _ _ => rfl, ?_⟩
   with_reducible refine OpTo.plain ?_ ?_
   exact rfl
   have hS := hI.below
   have HS := Lib.hid (hI.step (Below.refl _ _) (k := 7) (by rfl))
   clear hI hS hC hW hD
   go_wp2_with fail
   all_goals first | exact HS.out | exact ⟨rfl, HS.out⟩ | rfl
  ·intro g D w' hD hW hC hI
   refine ⟨g, fun _ _ _ => rfl, ?_⟩
   with_reducible refine OpTo.plain ?_ ?_
   exact rfl
   have hS := hI.below
   have hl0 := Nat.lt_of_lt_of_le KR.out.lt hS.size
   have d0_0 := (KR.out.below hS KR.out.lt).cell 0
   have d0_1 := (KR.out.below hS KR.out.lt).cell 1
   simp at d0_0 d0_1
   have HS := Lib.hid (hI.step (Below.refl _ _) (k := 8) (by rfl))
   clear hI hS hC hW hD
   go_wp2_with fail
   all_goals first | exact HS.out | exact ⟨rfl, HS.out⟩ | rfl
  ·intro g D w' hD hW hC hI
   refine ⟨g, fun _ _ _ => rfl, ?_⟩
   with_reducible refine OpTo.plain ?_ ?_
   exact rfl
   have hS := hI.below
   have HS := Lib.hid (hI.step (Below.refl _ _) (k := 9) (by rfl))
   clear hI hS hC hW hD
   go_wp2_with fail
   all_goals first | exact HS.out | exact ⟨rfl, HS.out⟩ | rfl
  ·intro g D w' hD hW hC hI
   have hN : D 11 = false := waits_not hC hD 12 11 (by kernel_rfl)
   refine ⟨upd g 10 w'.heap.size, vals_upd _ (fun g : Nat → Nat => [(.pointer (some ⟨gb, 0, none⟩)), (.pointer (some ⟨gb, 0, none⟩)), (.pointer (some ⟨gb, 1, none⟩)), (.int .u64 x.se), (.int .u8 x.ow), (.int .u8 x.sl), (.int .u8 x.bu), (.int .i64 x.lf), (.agg #[.int .i64 x.nu, .int .i64 x.de]), (.agg #[.int .u64 x.se, .int .u8 x.ow, .int .u8 x.sl, .int .u8 x.bu, .int .i64 x.lf, .int .i64 x.nu, .int .i64 x.de]), (.pointer (some ⟨g 10, 0, none⟩)), undef]) g 10 _ 12 hC hD ?_, ?_⟩
   ·intro j hj
    match j, hj with
    | 0, _ => exact .inr rfl
    | 1, _ => exact .inr rfl
    | 2, _ => exact .inr rfl
    | 3, _ => exact .inr rfl
    | 4, _ => exact .inr rfl
    | 5, _ => exact .inr rfl
    | 6, _ => exact .inr rfl
    | 7, _ => exact .inr rfl
    | 8, _ => exact .inr rfl
    | 9, _ => exact .inr rfl
    | 10, _ => exact .inl (.inl rfl)
    | 11, _ => exact .inr rfl
    | j + 12, _ => exact .inr rfl
   with_reducible refine OpTo.plain ?_ ?_
   exact rfl
   have HS := Lib.hid (hI.lay (⟨10, 11, (.cells #[.int .u64 0, .int .u8 0, .int .u8 0, .int .u8 0, .int .i64 0, .int .i64 0, .int .i64 0] 60), (.cells #[.int .u64 x.se, .int .u8 x.ow, .int .u8 x.sl, .int .u8 x.bu, .int .i64 x.lf, .int .i64 x.nu, .int .i64 x.de] 60)⟩ : Spec) (by simp) (by rfl) (.inr hN) (by rfl) (fun s' hs' _ => List.mem_singleton.1 hs') (.cells #[.int .u64 0, .int .u8 0, .int .u8 0, .int .u8 0, .int .i64 0, .int .i64 0, .int .i64 0] 60) rfl)
   clear hI hC hW hD hN
   go_wp2_with fail
   all_goals first | exact HS.out | exact ⟨rfl, HS.out⟩ | rfl
  ·intro g D w' hD hW hC hI
   have hP : D 10 = true := waited_done hC hW (d := 12) (by kernel_rfl)
   obtain ⟨hg, hk⟩ := hI.zeroed (⟨10, 11, (.cells #[.int .u64 0, .int .u8 0, .int .u8 0, .int .u8 0, .int .i64 0, .int .i64 0, .int .i64 0] 60), (.cells #[.int .u64 x.se, .int .u8 x.ow, .int .u8 x.sl, .int .u8 x.bu, .int .i64 x.lf, .int .i64 x.nu, .int .i64 x.de] 60)⟩ : Spec) (by simp) hP hD
   refine ⟨g, fun _ _ _ => rfl, ?_⟩
   with_reducible refine OpTo.plain ?_ ?_
   exact rfl
   refine wp_store_row 60 (.tmp 14) (.tmp 24) rfl (g 10) #[.int .u64 x.se, .int .u8 x.ow, .int .u8 x.sl, .int .u8 x.bu, .int .i64 x.lf, .int .i64 x.nu, .int .i64 x.de] rfl rfl 60 _ hk (by kernel_rfl) rfl (by simp [Value.oneCell']) ⟨rfl, ?_⟩
   exact hI.fill (⟨10, 11, (.cells #[.int .u64 0, .int .u8 0, .int .u8 0, .int .u8 0, .int .i64 0, .int .i64 0, .int .i64 0] 60), (.cells #[.int .u64 x.se, .int .u8 x.ow, .int .u8 x.sl, .int .u8 x.bu, .int .i64 x.lf, .int .i64 x.nu, .int .i64 x.de] 60)⟩ : Spec) (by simp) (by rfl) (show (11 : Nat) ≠ 10 by decide) (fun s' hs' _ => List.mem_singleton.1 hs') hP (below_keepRow _ _) (setRow_heap w' (g 10) _ _ 60 (0, 0) hk)
 intro g D w6 hall hI
 obtain ⟨h1, h2⟩ := hI.full (⟨10, 11, (.cells #[.int .u64 0, .int .u8 0, .int .u8 0, .int .u8 0, .int .i64 0, .int .i64 0, .int .i64 0] 60), (.cells #[.int .u64 x.se, .int .u8 x.ow, .int .u8 x.sl, .int .u8 x.bu, .int .i64 x.lf, .int .i64 x.nu, .int .i64 x.de] 60)⟩ : Spec) (by simp) (hall 10 (by decide)) (hall 11 (by decide))
 exact HQ.out (g 10) w6 h1 h2 hI.below
set_option maxHeartbeats 4000000 in
set_option maxRecDepth 100000 in
theorem place_r6 {W : World} {gb a base : Nat} {x : Of} {l : List Of} {vl : Value} (HG : Hid (RefB W base gb l x.se vl)) (HA : Hid (Blk W a #[.int .u64 x.se, .int .u8 x.ow, .int .u8 x.sl, .int .u8 x.bu, .int .i64 x.lf, .int .i64 x.nu, .int .i64 x.de] 60)) (hl : l.length ≤ 1000) {Q : Exit → Act → World → Prop} {c1 c2 c3 c4 c5 c6 c7 c8 c9 c10 c11 c12 c13 c15 c16 c17 c18 c19 c20 c21 c22 c23 c24 c25 c26 c27 c28 c29 c30 c31 c32 c33 c34 c35 c36 c37 c38 c39 c40 c41 c42 c43 c44 c45 c46 c47 c48 c49 c50 c51 c52 c53 c54 c55 c56 c57 c58 c59 c60 : Value}
  (hq : ∀ s1 s2 s3 w6, w6.ownsRow W.heap.size 60 7 s3 (l.length + 1) (ofCells (l ++ [x])) → Blk w6 gb #[s3, .int .u64 x.se] 133 → Keep (· = gb) W w6 → Q .normal ⟨#[(.pointer (some ⟨gb, 0, none⟩)), c1, c2, c3, c4, c5, c6, c7, c8, c9, c10, c11, c12, c13, (.pointer (some ⟨a, 0, none⟩)), c15, c16, c17, c18, c19, c20, c21, c22, c23, c24, c25, c26, c27, c28, c29, c30, c31, c32, c33, c34, c35, c36, c37, c38, c39, c40, (.pointer (some ⟨gb, 0, none⟩)), (.pointer (some ⟨gb, 0, none⟩)), (.pointer (some ⟨gb, 0, none⟩)), (.pointer (some ⟨gb, 0, none⟩)), vl, s1, (.agg #[.int .u64 x.se, .int .u8 x.ow, .int .u8 x.sl, .int .u8 x.bu, .int .i64 x.lf, .int .i64 x.nu, .int .i64 x.de]), (.slice (some ⟨s2, 0, none⟩) 1 1), s3, (.pointer (some ⟨gb, 0, none⟩)), (.pointer (some ⟨gb, 0, none⟩)), c52, c53, c54, c55, c56, c57, c58, c59, c60], []⟩ w6) :
  Code.wp Tryz.prog (((Tryz.f34.body).bind (regionNo 6)).getD .skip) Q ⟨#[(.pointer (some ⟨gb, 0, none⟩)), c1, c2, c3, c4, c5, c6, c7, c8, c9, c10, c11, c12, c13, (.pointer (some ⟨a, 0, none⟩)), c15, c16, c17, c18, c19, c20, c21, c22, c23, c24, c25, c26, c27, c28, c29, c30, c31, c32, c33, c34, c35, c36, c37, c38, c39, c40, c41, c42, c43, c44, c45, c46, c47, c48, c49, c50, c51, c52, c53, c54, c55, c56, c57, c58, c59, c60], []⟩ W := by
 conv => arg 2; whnf
 have HQ := Lib.hid hq
 clear hq
 refine region_ghost (by kernel_rfl) (fun s : Value × Nat × Value => [(.pointer (some ⟨gb, 0, none⟩)), (.pointer (some ⟨gb, 0, none⟩)), (.pointer (some ⟨gb, 0, none⟩)), (.pointer (some ⟨gb, 0, none⟩)), vl, s.1, (.agg #[.int .u64 x.se, .int .u8 x.ow, .int .u8 x.sl, .int .u8 x.bu, .int .i64 x.lf, .int .i64 x.nu, .int .i64 x.de]), (.slice (some ⟨s.2.1, 0, none⟩) 1 1), s.2.2, (.pointer (some ⟨gb, 0, none⟩)), (.pointer (some ⟨gb, 0, none⟩)), undef])
  (PlaceI W gb base l x) (by kernel_rfl) (undef, 0, undef) ⟨fun _ => ⟨(Below.refl _ _).drew, by simp, by simp, by simp⟩, by simp⟩ ?_
 intro AF hAF
 simp only [List.toList_toArray, puts, Act.put, List.getD_cons_zero, List.getD_cons_succ, List.setIfInBounds_toArray, List.set_cons_succ, List.set_cons_zero] at hAF
 have hAF2 : _ = AF := funext hAF
 subst hAF2
 clear hAF
 refine ⟨?_, ?_⟩
 ·simp only [List.toList_toArray, EachG]
  refine ⟨?_, ?_, ?_, ?_, ?_, ?_, ?_, ?_, ?_, ?_, ?_, ?_, trivial⟩
  ·intro s D w' hD hW hC hI
   have hN : D 11 = false := need_not hC hD 11 (by kernel_rfl)
   refine ⟨s, fun _ _ _ => rfl, ?_⟩
   with_reducible refine OpTo.plain ?_ ?_
   exact rfl
   have HS := Lib.hid (hI.step hN (k := 0) (by decide) (by decide) (by decide) (by decide))
   have hB := (hI.1 hN).1
   have hl0 := Nat.lt_of_lt_of_le HG.out.blk.lt hB.size
   clear hI hC hW hD hN hB
   go_wp2_with fail
   all_goals first | exact HS.out | exact ⟨rfl, HS.out⟩ | rfl
  ·intro s D w' hD hW hC hI
   have hN : D 11 = false := need_not hC hD 11 (by kernel_rfl)
   refine ⟨s, fun _ _ _ => rfl, ?_⟩
   with_reducible refine OpTo.plain ?_ ?_
   exact rfl
   have HS := Lib.hid (hI.step hN (k := 1) (by decide) (by decide) (by decide) (by decide))
   have hB := (hI.1 hN).1
   have hl0 := Nat.lt_of_lt_of_le HG.out.blk.lt hB.size
   clear hI hC hW hD hN hB
   go_wp2_with fail
   all_goals first | exact HS.out | exact ⟨rfl, HS.out⟩ | rfl
  ·intro s D w' hD hW hC hI
   have hN : D 11 = false := need_not hC hD 11 (by kernel_rfl)
   refine ⟨s, fun _ _ _ => rfl, ?_⟩
   with_reducible refine OpTo.plain ?_ ?_
   exact rfl
   have HS := Lib.hid (hI.step hN (k := 2) (by decide) (by decide) (by decide) (by decide))
   have hB := (hI.1 hN).1
   have hl0 := Nat.lt_of_lt_of_le HG.out.blk.lt hB.size
   clear hI hC hW hD hN hB
   go_wp2_with fail
   all_goals first | exact HS.out | exact ⟨rfl, HS.out⟩ | rfl
  ·intro s D w' hD hW hC hI
   have hN : D 11 = false := need_not hC hD 11 (by kernel_rfl)
   refine ⟨s, fun _ _ _ => rfl, ?_⟩
   with_reducible refine OpTo.plain ?_ ?_
   exact rfl
   have HS := Lib.hid (hI.step hN (k := 3) (by decide) (by decide) (by decide) (by decide))
   have hB := (hI.1 hN).1
   have hl0 := Nat.lt_of_lt_of_le HG.out.blk.lt hB.size
   clear hI hC hW hD hN hB
   go_wp2_with fail
   all_goals first | exact HS.out | exact ⟨rfl, HS.out⟩ | rfl
  ·intro s D w' hD hW hC hI
   have hN : D 11 = false := need_not hC hD 11 (by kernel_rfl)
   refine ⟨s, fun _ _ _ => rfl, ?_⟩
   with_reducible refine OpTo.plain ?_ ?_
   exact rfl
   have HS := Lib.hid (hI.step hN (k := 4) (by decide) (by decide) (by decide) (by decide))
   have hB := (hI.1 hN).1
   have hl0 := Nat.lt_of_lt_of_le HG.out.blk.lt hB.size
   have d0 := (HG.out.blk.below hB HG.out.blk.lt).cell 0
   simp at d0
   clear hI hC hW hD hN hB
   go_wp2_with fail
   all_goals first | exact HS.out | exact ⟨rfl, HS.out⟩ | rfl
  ·intro s D w' hD hW hC hI
   have hN : D 11 = false := need_not hC hD 11 (by kernel_rfl)
   have hN8 : D 8 = false := need_not hC hD 8 (by kernel_rfl)
   obtain ⟨q1, q2, q3, q4⟩ := hI.1 hN
   obtain ⟨v', w2, hrun, how, hbel⟩ := run_append_copy (P := Tryz.prog) (w := w') 23 23 60 info_of Tryz.underlying23 rfl (by decide) (by decide) base _ _ _ (owns_below HG.out.row q1) (ofCells_oneCell l) (by omega)
   refine ⟨(v', s.2.1, s.2.2), ?_, ?_⟩
   ·intro j hj hDj
    match j, hj, hDj with
    | 0, _, _ => rfl
    | 1, _, _ => rfl
    | 2, _, _ => rfl
    | 3, _, _ => rfl
    | 4, _, _ => rfl
    | 5, _, h => simp_all
    | 6, _, _ => rfl
    | 7, _, _ => rfl
    | 8, _, _ => rfl
    | 9, _, _ => rfl
    | 10, _, _ => rfl
    | 11, _, _ => rfl
    | j + 12, _, _ => rfl
   with_reducible refine OpTo.plain ?_ ?_
   exact rfl
   refine wp_append_of (.tmp 45) 23 rfl rfl hrun ⟨rfl, ?_⟩
   refine ⟨fun _ => ⟨q1.trans (hbel.mono q1.size), fun _ _ => owns_base how q1.size, fun d e => ?_, fun d => ?_⟩, fun d => ?_⟩
   ·have := q3 (by simpa [ins] using d) (by simpa [ins] using e); exact ⟨this.1, this.2.below hbel this.2.lt⟩
   ·simp [ins, hN8] at d
   ·simp [ins, hN] at d
  ·intro s D w' hD hW hC hI
   have hN : D 11 = false := need_not hC hD 11 (by kernel_rfl)
   refine ⟨s, fun _ _ _ => rfl, ?_⟩
   with_reducible refine OpTo.plain ?_ ?_
   exact rfl
   have HS := Lib.hid (hI.step hN (k := 6) (by decide) (by decide) (by decide) (by decide))
   have hB := (hI.1 hN).1
   have hl0 := Nat.lt_of_lt_of_le HG.out.blk.lt hB.size
   have hl1 := Nat.lt_of_lt_of_le HA.out.lt hB.size
   have a0 := (HA.out.below hB HA.out.lt).cell 0
   have a1 := (HA.out.below hB HA.out.lt).cell 1
   have a2 := (HA.out.below hB HA.out.lt).cell 2
   have a3 := (HA.out.below hB HA.out.lt).cell 3
   have a4 := (HA.out.below hB HA.out.lt).cell 4
   have a5 := (HA.out.below hB HA.out.lt).cell 5
   have a6 := (HA.out.below hB HA.out.lt).cell 6
   simp at a0 a1 a2 a3 a4 a5 a6
   clear hI hC hW hD hN hB
   go_wp2_with fail
   all_goals first | exact HS.out | exact ⟨rfl, HS.out⟩ | rfl
  ·intro s D w' hD hW hC hI
   have hN : D 11 = false := need_not hC hD 11 (by kernel_rfl)
   have hN8 : D 8 = false := need_not hC hD 8 (by kernel_rfl)
   obtain ⟨q1, q2, q3, q4⟩ := hI.1 hN
   have bx := (Below.refl w'.heap.size w').alloc (Nat.le_refl _) (.cells #[.int .u64 x.se, .int .u8 x.ow, .int .u8 x.sl, .int .u8 x.bu, .int .i64 x.lf, .int .i64 x.nu, .int .i64 x.de] 60)
   refine ⟨(s.1, w'.heap.size, s.2.2), ?_, ?_⟩
   ·intro j hj hDj
    match j, hj, hDj with
    | 0, _, _ => rfl
    | 1, _, _ => rfl
    | 2, _, _ => rfl
    | 3, _, _ => rfl
    | 4, _, _ => rfl
    | 5, _, _ => rfl
    | 6, _, _ => rfl
    | 7, _, h => simp_all
    | 8, _, _ => rfl
    | 9, _, _ => rfl
    | 10, _, _ => rfl
    | 11, _, _ => rfl
    | j + 12, _, _ => rfl
   with_reducible refine OpTo.plain ?_ ?_
   exact rfl
   have HS : Hid (PlaceI W gb base l x (s.1, w'.heap.size, s.2.2) (ins 7 D) (w'.alloc (.cells #[.int .u64 x.se, .int .u8 x.ow, .int .u8 x.sl, .int .u8 x.bu, .int .i64 x.lf, .int .i64 x.nu, .int .i64 x.de] 60))) := Lib.hid ⟨fun _ => ⟨q1.trans (bx.mono q1.size), fun d e => owns_below (q2 (by simpa [ins] using d) (by simpa [ins] using e)) bx, fun _ _ => ⟨q1.size, Blk.new _ _ _⟩, fun d => by simp [ins, hN8] at d⟩, fun d => by simp [ins, hN] at d⟩
   clear hI hC hW hD hN hN8 q1 q2 q3 q4 bx
   go_wp2_with fail
   all_goals first | exact HS.out | exact ⟨rfl, HS.out⟩ | rfl
  ·intro s D w' hD hW hC hI
   have hN : D 11 = false := need_not hC hD 11 (by kernel_rfl)
   have hP5 : D 5 = true := need_waited hC hW (by kernel_rfl)
   have hP7 : D 7 = true := need_waited hC hW (by kernel_rfl)
   obtain ⟨q1, q2, q3, q4⟩ := hI.1 hN
   have hr := q2 hP5 hD
   obtain ⟨hge, hblk⟩ := q3 hP7 hD
   obtain ⟨i0, hi, hz0, hz1, hz2⟩ := info_parts info_of
   obtain ⟨v', w2, hrun, how, hgr, _⟩ := run_append_own (P := Tryz.prog) (w := w') W.heap.size 23 23 60 i0 noOf.val 7 40 Tryz.underlying23 hi hz0 hz1 hz2 rfl (by decide) s.1 l.length (ofCells l) hr ⟨s.2.1, 0, none⟩ 1 1 x.vals rfl (fun j u hj => by
    have := hblk.cell j
    rw [Go.WideShapes.add_plain, Nat.zero_add, this]
    match j, hj with
    | 0, hj => simpa [Of.vals] using hj
    | 1, hj => simpa [Of.vals] using hj
    | 2, hj => simpa [Of.vals] using hj
    | 3, hj => simpa [Of.vals] using hj
    | 4, hj => simpa [Of.vals] using hj
    | 5, hj => simpa [Of.vals] using hj
    | 6, hj => simpa [Of.vals] using hj
    | j + 7, hj => simp [Of.vals] at hj) (by intro u hu; simp [Of.vals] at hu; rcases hu with rfl | rfl | rfl | rfl | rfl | rfl | rfl <;> rfl) (by unfold maxLen; omega) (by omega) q1.size
   rw [← ofCells_one, ← ofCells_append] at how
   refine ⟨(s.1, s.2.1, v'), ?_, ?_⟩
   ·intro j hj hDj
    match j, hj, hDj with
    | 0, _, _ => rfl
    | 1, _, _ => rfl
    | 2, _, _ => rfl
    | 3, _, _ => rfl
    | 4, _, _ => rfl
    | 5, _, _ => rfl
    | 6, _, _ => rfl
    | 7, _, _ => rfl
    | 8, _, h => simp_all
    | 9, _, _ => rfl
    | 10, _, _ => rfl
    | 11, _, _ => rfl
    | j + 12, _, _ => rfl
   with_reducible refine OpTo.plain ?_ ?_
   exact rfl
   refine wp_append_pair (.tmp 46) (.tmp 48) 23 rfl rfl rfl hrun ⟨rfl, ?_⟩
   have hbl : Below W.heap.size W w2 := q1.grown hgr q1.size (fun k hk => (owns_type hr hk).1)
   refine ⟨fun _ => ⟨hbl, fun _ e => by simp [ins] at e, fun _ e => by simp [ins] at e, fun _ => how⟩, fun d => by simp [ins, hN] at d⟩
  ·intro s D w' hD hW hC hI
   have hN : D 11 = false := need_not hC hD 11 (by kernel_rfl)
   refine ⟨s, fun _ _ _ => rfl, ?_⟩
   with_reducible refine OpTo.plain ?_ ?_
   exact rfl
   have HS := Lib.hid (hI.step hN (k := 9) (by decide) (by decide) (by decide) (by decide))
   have hB := (hI.1 hN).1
   have hl0 := Nat.lt_of_lt_of_le HG.out.blk.lt hB.size
   clear hI hC hW hD hN hB
   go_wp2_with fail
   all_goals first | exact HS.out | exact ⟨rfl, HS.out⟩ | rfl
  ·intro s D w' hD hW hC hI
   have hN : D 11 = false := need_not hC hD 11 (by kernel_rfl)
   refine ⟨s, fun _ _ _ => rfl, ?_⟩
   with_reducible refine OpTo.plain ?_ ?_
   exact rfl
   have HS := Lib.hid (hI.step hN (k := 10) (by decide) (by decide) (by decide) (by decide))
   have hB := (hI.1 hN).1
   have hl0 := Nat.lt_of_lt_of_le HG.out.blk.lt hB.size
   clear hI hC hW hD hN hB
   go_wp2_with fail
   all_goals first | exact HS.out | exact ⟨rfl, HS.out⟩ | rfl
  ·intro s D w' hD hW hC hI
   have hP8 : D 8 = true := need_waited hC hW (by kernel_rfl)
   obtain ⟨q1, q2, q3, q4⟩ := hI.1 hD
   have how := q4 hP8
   obtain ⟨ao, cap, hv, _⟩ := owns_open how
   refine ⟨s, fun _ _ _ => rfl, ?_⟩
   with_reducible refine OpTo.plain ?_ ?_
   exact rfl
   have hG := HG.out.blk.below q1 HG.out.blk.lt
   have kk : Keep (· = gb) w' (w'.setCell ⟨gb, 0, none⟩ s.2.2) := Keep.setCell (S := (· = gb)) (Keep.refl _ _) (p := ⟨gb, 0, none⟩) (.inl rfl) _
   have HS : Hid (PlaceI W gb base l x s (ins 11 D) (w'.setCell ⟨gb, 0, none⟩ s.2.2)) := Lib.hid ⟨fun d => by simp [ins] at d, fun _ => ⟨owns_keep how kk (fun b hb e => by have := (owns_type how hb).1; have := HG.out.blk.lt; omega), by simpa using hG.set 0 s.2.2, (Keep.of_below q1).trans kk⟩⟩
   have hl0 := hG.lt
   have hf := hG.frozen
   have d0 := hG.cell 0
   simp at d0
   clear hI hC hW hD q1 q2 q3 q4 how kk hG hP8
   obtain ⟨s1, s2, s3⟩ := s
   dsimp only at hv HS ⊢
   subst hv
   go_wp2_with fail
   all_goals first | exact HS.out | exact ⟨rfl, HS.out⟩ | rfl
 intro s D w6 hall hI
 obtain ⟨h1, h2, h3⟩ := hI.2 (hall 11 (by decide))
 exact HQ.out s.1 s.2.1 s.2.2 w6 h1 h2 h3
def placeE (l : List Of) (x : Of) : Int := if ¬ x.may then 1 else if l.length = 32 ∨ x.se = 18446744073709551615 then 9 else 0
def placeS (l : List Of) (x : Of) : Int := if placeE l x = 0 then x.se else 0
def placeL (l : List Of) (x : Of) : List Of := if placeE l x = 0 then l ++ [x] else l
def placeN (l : List Of) (x : Of) : Int := if placeE l x = 0 then x.se + 1 else x.se
set_option maxHeartbeats 8000000 in
set_option maxRecDepth 100000 in
theorem bplace_any {w : World} {base gb : Nat} {l : List Of} {x : Of} {vl : Value} (h : RefB w base gb l x.se vl) (hlen : l.length ≤ 32) (h0 : 0 ≤ x.se) (h1 : x.se ≤ 18446744073709551615) :
  Calls Tryz.prog 34 #[.pointer (some ⟨gb, 0, none⟩), .int .u8 x.ow, .int .u8 x.sl, .int .u8 x.bu, .int .i64 x.lf, .agg #[.int .i64 x.nu, .int .i64 x.de]] w fun e w' => e = .returned (.tuple #[.int .u64 (placeS l x), .int .i64 (placeE l x)]) ∧ ∃ vl', RefB w' base gb (placeL l x) (placeN l x) vl' ∧ Keep (· = gb) w w' := by
 have bw := (Below.refl w.heap.size w).alloc (Nat.le_refl _) (.cells #[.int .i64 x.nu, .int .i64 x.de] 58)
 have H1 := Lib.hid (h.below bw)
 have KR := Lib.hid (Blk.new w #[.int .i64 x.nu, .int .i64 x.de] 58)
 have B1 := Lib.hid bw
 have HG := Lib.hid (h.below bw).blk
 have hgw := h.blk.lt
 clear bw h
 go_enter Tryz.func34, Tryz.ntmps34
 go_wp2_with fail
 generalize w.alloc (.cells #[.int .i64 x.nu, .int .i64 x.de] 58) = W at *
 refine place_r1 HG KR ?_
 intro a w2 ha hA b2
 have H2 := Lib.hid (H1.out.below b2)
 have B2 := Lib.hid (B1.out.trans (b2.mono B1.out.size))
 have HA := Lib.hid hA
 have HGa : Hid (gb < a) := Lib.hid (by have := HG.out.lt; omega)
 have CM := Lib.hid (omay_any x w2)
 have kl := hA.lt
 have a0 := hA.cell 0; have a1 := hA.cell 1; have a2 := hA.cell 2; have a3 := hA.cell 3; have a4 := hA.cell 4; have a5 := hA.cell 5; have a6 := hA.cell 6
 simp at a0 a1 a2 a3 a4 a5 a6
 clear ha hA b2 H1 B1 HG KR
 by_cases hm : ¬ x.may
 ·have e1 : placeE l x = 1 := by unfold placeE; rw [if_pos hm]
  have e2 : placeS l x = 0 := by unfold placeS; rw [e1]; rfl
  have e3 : placeL l x = l := by unfold placeL; rw [e1]; rfl
  have e4 : placeN l x = x.se := by unfold placeN; rw [e1]; rfl
  have E := Lib.hid (And.intro e1 (And.intro e2 (And.intro e3 e4)))
  rw [decide_eq_false hm] at CM
  clear e1 e2 e3 e4 hm
  go_wp2_with fail
  refine CM.out.mono ?_
  rintro e w3 ⟨rfl, b3⟩
  have H3 := Lib.hid (H2.out.below b3)
  have B3 := Lib.hid (B2.out.trans (b3.mono B2.out.size))
  clear b3 H2 B2 CM a0 a1 a2 a3 a4 a5 a6 kl
  go_wp2_with fail
  refine bodyPost_ret (v := .tuple #[.int .u64 0, .int .i64 1]) (by simp [results, Tryz.results34, go_sem]) rfl ?_
  rw [E.out.1, E.out.2.1, E.out.2.2.1, E.out.2.2.2]
  exact ⟨rfl, vl, H3.out, Keep.of_below B3.out⟩
 have hm := Decidable.not_not.1 hm
 rw [decide_eq_true hm] at CM
 go_wp2_with fail
 refine CM.out.mono ?_
 rintro e w3 ⟨rfl, b3⟩
 have H3 := Lib.hid (H2.out.below b3)
 have B3 := Lib.hid (B2.out.trans (b3.mono B2.out.size))
 have HA3 := Lib.hid (HA.out.below b3 HA.out.lt)
 clear b3 H2 B2 CM a0 a1 a2 a3 a4 a5 a6 kl HA
 have g0 := H3.out.blk.cell 0; have g1 := H3.out.blk.cell 1
 have gl := H3.out.blk.lt
 simp at g0 g1
 obtain ⟨ao, cap, hv, _⟩ := owns_open H3.out.row
 subst hv
 by_cases hf : l.length = 32 ∨ x.se = 18446744073709551615
 ·have e1 : placeE l x = 9 := by unfold placeE; rw [if_neg (fun k => k hm), if_pos hf]
  have e2 : placeS l x = 0 := by unfold placeS; rw [e1]; rfl
  have e3 : placeL l x = l := by unfold placeL; rw [e1]; rfl
  have e4 : placeN l x = x.se := by unfold placeN; rw [e1]; rfl
  have E := Lib.hid (And.intro e1 (And.intro e2 (And.intro e3 e4)))
  clear e1 e2 e3 e4
  by_cases hl : l.length = 32
  ·have c1 : ((l.length : Int) == 32) = true := by simp; omega
   clear hf hl
   go_wp2_with fail
   refine bodyPost_ret (v := .tuple #[.int .u64 0, .int .i64 9]) (by simp [results, Tryz.results34, go_sem]) rfl ?_
   rw [E.out.1, E.out.2.1, E.out.2.2.1, E.out.2.2.2]
   exact ⟨rfl, _, H3.out, Keep.of_below B3.out⟩
  ·have hx : x.se = 18446744073709551615 := by
                         rcases hf with hf | hf; · exact absurd hf hl
                         ·exact hf
   have c1 : ((l.length : Int) == 32) = false := by simp; omega
   have c2 : (x.se == 18446744073709551615) = true := by simpa using hx
   clear hf hl hx h0 h1
   go_wp2_with fail
   refine bodyPost_ret (v := .tuple #[.int .u64 0, .int .i64 9]) (by simp [results, Tryz.results34, go_sem]) rfl ?_
   rw [E.out.1, E.out.2.1, E.out.2.2.1, E.out.2.2.2]
   exact ⟨rfl, _, H3.out, Keep.of_below B3.out⟩
 have e1 : placeE l x = 0 := by unfold placeE; rw [if_neg (fun k => k hm), if_neg hf]
 have e2 : placeS l x = x.se := by unfold placeS; rw [if_pos e1]
 have e3 : placeL l x = l ++ [x] := by unfold placeL; rw [if_pos e1]
 have e4 : placeN l x = x.se + 1 := by unfold placeN; rw [if_pos e1]
 have E := Lib.hid (And.intro e1 (And.intro e2 (And.intro e3 e4)))
 have c1 : ((l.length : Int) == 32) = false := by simp; omega
 have c2 : (x.se == 18446744073709551615) = false := by simp; omega
 have h2 : x.se ≤ 18446744073709551614 := by omega
 clear e1 e2 e3 e4 hf hm
 go_wp2_with fail
 refine place_r6 H3 HA3 (by omega) ?_
 intro s1 s2 s3 w4 hrow hblk hk
 have R4 := Lib.hid hrow
 have K4 := Lib.hid hk
 have G4 := Lib.hid hblk
 have B3' := Lib.hid B3.out.size
 have HA4 := Lib.hid (HA3.out.keep hk (fun e => by have := HGa.out; omega))
 have hgs := H3.out.ge
 clear hrow hblk hk g0 g1 gl
 have f0 := G4.out.cell 0; have f1 := G4.out.cell 1
 have fl := G4.out.lt
 have ff := G4.out.frozen
 simp at f0 f1
 have kk : Keep (· = gb) w4 (w4.setCell ⟨gb, 1, none⟩ (.int .u64 (x.se + 1))) := Keep.setCell (S := (· = gb)) (Keep.refl _ _) (p := ⟨gb, 1, none⟩) (.inl rfl) _
 have HA5 := Lib.hid (HA4.out.keep kk (fun e => by have := HGa.out; omega))
 have al := HA5.out.lt
 have a0 := HA5.out.cell 0
 simp at a0
 have G5 := Lib.hid (G4.out.set 1 (.int .u64 (x.se + 1)))
 have KE := Lib.hid (((Keep.of_below (S := (· = gb)) B3.out).trans K4.out).trans kk)
 have RE := Lib.hid (owns_keep R4.out kk (fun b hb e => by have := (owns_type R4.out hb).1; have := H3.out.blk.lt; omega))
 clear kk
 go_wp2_with fail
 refine bodyPost_ret (v := .tuple #[.int .u64 x.se, .int .i64 0]) (by simp [results, Tryz.results34, go_sem]) rfl ?_
 rw [E.out.1, E.out.2.1, E.out.2.2.1, E.out.2.2.2]
 refine ⟨rfl, s3, ⟨?_, hgs, ?_⟩, KE.out⟩
 ·simpa using G5.out
 ·have := RE.out
  rw [List.length_append]
  exact owns_base this (by have := H3.out.blk.lt; omega)
end Go.Proofs.YtbieomgpfhloeaaGreat
