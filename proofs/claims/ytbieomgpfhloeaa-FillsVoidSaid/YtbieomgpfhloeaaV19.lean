/-
  Pieces of one proof, without what is not wanted: PB8, Lives10.
-/
import Derived.Test.YtbieomgpfhloeaaV15
import Derived.Test.YtbieomgpfhloeaaV16
import Derived.Test.YtbieomgpfhloeaaV17
import Derived.Test.YtbieomgpfhloeaaV18
import Derived.Maps.AppendAt
import Derived.Deep.RegionLaw
set_option linter.unusedSimpArgs false
set_option linter.unusedVariables false
namespace Go.Proofs.Ytbieomgpfhloeaa
open Go.RowKit
theorem step_append_off {P : Program} {ops : Array Oper} {o : Oper} {a : Act} {w : World} {K : Act → World → Prop} {Q : Exit → Act → World → Prop} {E : Prop}
  (hg : o.guard = none) (s x : Operand) (t : TypeId) (hop : o.op = Op.call { callee := Callee.builtin Builtin.append, args := #[s, x], argTypes := #[t, t] })
  (base : Nat) (e : TypeId) {z : Value} (ht : P.underlying t = some (.slice e)) (hz0 : z.cells.size = 7) (hi : (P.info? e).map (fun i => (i.zero, i.size, i.bytes)) = some (some z, 7, 40)) (v : Value) (l : List Of) (hs : a.eval s = v) (hown : w.ownsRow base e 7 v l.length (ofCells l))
  (g c : Nat) (y : Of) (hx : a.eval x = .slice (some ⟨g, 0, none⟩) 1 c) (hy : Blk w g #[.int .u64 y.se, .int .u8 y.ow, .int .u8 y.sl, .int .u8 y.bu, .int .i64 y.lf, .int .i64 y.nu, .int .i64 y.de] e) (hlen : l.length ≤ 100000) (hbase : base ≤ w.heap.size)
  (hK : ∀ v' w', w'.ownsRow base e 7 v' (l ++ [y]).length (ofCells (l ++ [y])) → w.grownBy w' v.ownBlock → (v'.ownBlock = v.ownBlock ∨ v'.ownBlock = some w.heap.size) → K (a.put o.dst v') w') :
  if Region.wanted o (yielded ops a.tmps) = true then Oper.wp P o a w K Q else E := by
 have hw : Region.wanted o (yielded ops a.tmps) = true := by simp [Region.wanted, hg]
 rw [if_pos hw]
 obtain ⟨i0, hi1, hi2, hi3, hi4⟩ := info_parts hi
 obtain ⟨v', w', hr, h2, h3, _, h5⟩ := run_append_own_at (P := P) w base t o.type e i0 z 7 40 ht hi1 hi2 hi3 hi4 hz0 (by decide) v l.length (ofCells l) hown ⟨g, 0, none⟩ 1 c y.vals rfl (fun j u hj => by
   have := hy.cell j
   rw [Go.WideShapes.add_plain, Nat.zero_add, this]
   match j, hj with
   | 0, hj => simpa [Of.vals] using hj
   | 1, hj => simpa [Of.vals] using hj
   | 2, hj => simpa [Of.vals] using hj
   | 3, hj => simpa [Of.vals] using hj
   | 4, hj => simpa [Of.vals] using hj
   | 5, hj => simpa [Of.vals] using hj
   | 6, hj => simpa [Of.vals] using hj
   | j + 7, hj => simp [Of.vals] at hj) (by intro u hu; simp [Of.vals] at hu; rcases hu with rfl | rfl | rfl | rfl | rfl | rfl | rfl <;> rfl) (by unfold maxLen; omega) (by omega) hbase
 rw [← ofCells_one, ← ofCells_append] at h2
 refine wp_append_pair s x t hop hs hx hr ?_
 exact hK v' w' (by rw [List.length_append]; exact h2) h3 h5
theorem BInv.place {l : List Of} {x : Of} (h : BInv l x.se) : BInv (placeL l x) (placeN l x) := by
 unfold placeL placeN
 by_cases e : placeE l x = 0
 ·rw [if_pos e, if_pos e]
  unfold placeE at e
  split at e
  ·simp at e
  ·rename_i hm
   have hm := Decidable.not_not.1 hm
   split at e
   ·simp at e
   ·rename_i h2
    have := h.len; have := h.n1; have := h.n2
    have hl : l.length ≠ 32 := fun k => h2 (.inl k)
    have hs : x.se ≠ 18446744073709551615 := fun k => h2 (.inr k)
    refine ⟨fun y hy => ?_, ?_, fun y hy => ?_, by rw [List.length_append, List.length_singleton]; omega, by omega, by omega⟩
    ·rcases List.mem_append.1 hy with hy | hy
     ·exact h.may y hy
     ·rw [List.mem_singleton] at hy; rw [hy]; exact hm
    ·rw [List.pairwise_append]
     refine ⟨h.rise, by simp, fun a ha b hb => ?_⟩
     rw [List.mem_singleton] at hb
     rw [hb]
     exact (h.bd a ha).2
    ·rcases List.mem_append.1 hy with hy | hy
     ·have := h.bd y hy; omega
     ·rw [List.mem_singleton] at hy; rw [hy]; omega
 ·rw [if_neg e, if_neg e]; exact h
theorem PB.setN {w : World} {base g : Nat} {l : List Of} {N : Int} {vl : Value} (h : PB w base g l N vl) (M : Int) : PB (w.setCell ⟨g, 1, none⟩ (.int .u64 M)) base g l M vl := by
 have k2 : Keep (· = g) w (w.setCell ⟨g, 1, none⟩ (.int .u64 M)) := Keep.setCell (S := (· = g)) (Keep.refl _ _) (p := ⟨g, 1, none⟩) (.inl rfl) _
 exact ⟨by simpa using h.blk.set 1 (.int .u64 M), h.ge, owns_keep h.row k2 (fun b hb e => h.apart b hb e)⟩
theorem appended {W w' : World} {base g cap : Nat} {ao : Option Addr} {l : List Of} {x : Of} {N : Int} {c : Obj} {v' : Value} (h : PB W base g l N (.slice ao l.length cap)) (ho : w'.ownsRow base 81 7 v' (l ++ [x]).length (ofCells (l ++ [x])))
  (hgr : (W.drew.alloc c).grownBy w' (Value.ownBlock (.slice ao l.length cap))) (hat : v'.ownBlock = Value.ownBlock (.slice ao l.length cap) ∨ v'.ownBlock = some (W.drew.alloc c).heap.size) :
  Blk w' g #[.slice ao l.length cap, .int .u64 N] 38 ∧ (PB (w'.setCell ⟨g, 0, none⟩ v') base g (l ++ [x]) N v' ∧ (Keep (Foot g (.slice ao l.length cap)) W (w'.setCell ⟨g, 0, none⟩ v') ∧ Moved W (.slice ao l.length cap) v') ∧
   ∀ {a : Nat} {cs : Array Value} {t : TypeId}, Blk W a cs t → (¬ Foot g (.slice ao l.length cap) a) → Blk (w'.setCell ⟨g, 0, none⟩ v') a cs t) := by
 have hB : Blk w' g #[.slice ao l.length cap, .int .u64 N] 38 := Blk.grown ((h.blk.drew).alloc _) hgr (fun e => (h.apart _ e) rfl)
 have k2 : Keep (· = g) w' (w'.setCell ⟨g, 0, none⟩ v') := Keep.setCell (S := (· = g)) (Keep.refl _ _) (p := ⟨g, 0, none⟩) (.inl rfl) _
 have k1 : Keep (Foot g (.slice ao l.length cap)) W w' := ((Keep.refl _ W).drew.alloc _).grown hgr (fun k hk => .inl (.inr hk))
 have hgl := h.blk.lt
 have k3 := k1.trans (k2.mono fun k _ hk => .inl hk)
 refine ⟨hB, ⟨by simpa using hB.set 0 v', h.ge, owns_keep ho k2 ?_⟩, ⟨k3, ?_⟩, fun ha hf => ha.keep k3 hf⟩
 ·intro b hb e
  rcases hat with q | q
  ·rw [hb] at q; exact h.apart b q.symm e
  ·rw [hb] at q; cases q; rw [← e] at hgl; simp at hgl; omega
 ·intro b hb
  rcases hat with q | q
  ·exact .inl (by rw [← q]; exact hb)
  ·rw [hb] at q; cases q; exact .inr (by simp)
set_option maxHeartbeats 4000000 in
set_option maxRecDepth 100000 in
theorem pplace_r1 {W : World} {R : Nat} {x : Of} {pv : Value} (HN : Hid (∀ w', Below W.heap.size W w' → Calls Try.prog 35 #[pv] w' fun e w'' => e = .returned (.int .u64 x.se) ∧ w' = w'')) (KR : Hid (Blk W R #[.int .i64 x.nu, .int .i64 x.de] 56)) {Q : Exit → Act → World → Prop} {c5 c6 c7 c8 c9 c10 c12 c13 c14 c15 c16 c17 c18 c19 c20 c21 c22 c23 c24 c25 c26 c27 c28 c29 c30 c31 c32 c33 c34 c35 c36 c37 c38 c39 c40 c41 c42 c43 c44 c45 c46 c47 c48 c49 c50 c51 c52 c53 c54 c55 c56 c57 c58 c59 c60 c61 : Value}
  (hq : ∀ a w6, W.heap.size ≤ a → Blk w6 a #[.int .u64 x.se, .int .u8 x.ow, .int .u8 x.sl, .int .u8 x.bu, .int .i64 x.lf, .int .i64 x.nu, .int .i64 x.de] 81 → Below W.heap.size W w6 → Q .normal ⟨#[pv, (.int .u8 x.ow), (.int .u8 x.sl), (.int .u8 x.bu), (.int .i64 x.lf), c5, c6, c7, c8, c9, c10, (.pointer (some ⟨R, 0, none⟩)), c12, c13, (.pointer (some ⟨a, 0, none⟩)), pv, (.int .u64 x.se), (.int .u8 x.ow), (.int .u8 x.sl), (.int .u8 x.bu), (.int .i64 x.lf), (.agg #[.int .i64 x.nu, .int .i64 x.de]), (.agg #[.int .u64 x.se, .int .u8 x.ow, .int .u8 x.sl, .int .u8 x.bu, .int .i64 x.lf, .int .i64 x.nu, .int .i64 x.de]), c23, c24, c25, c26, c27, c28, c29, c30, c31, c32, c33, c34, c35, c36, c37, c38, c39, c40, c41, c42, c43, c44, c45, c46, c47, c48, c49, c50, c51, c52, c53, c54, c55, c56, c57, c58, c59, c60, c61], []⟩ w6) :
  Code.wp Try.prog (((Try.f28.body).bind (regionNo 1)).getD .skip) Q ⟨#[pv, (.int .u8 x.ow), (.int .u8 x.sl), (.int .u8 x.bu), (.int .i64 x.lf), c5, c6, c7, c8, c9, c10, (.pointer (some ⟨R, 0, none⟩)), c12, c13, c14, c15, c16, c17, c18, c19, c20, c21, c22, c23, c24, c25, c26, c27, c28, c29, c30, c31, c32, c33, c34, c35, c36, c37, c38, c39, c40, c41, c42, c43, c44, c45, c46, c47, c48, c49, c50, c51, c52, c53, c54, c55, c56, c57, c58, c59, c60, c61], []⟩ W := by
 conv => arg 2; whnf
 have HQ := Lib.hid hq
 clear hq
 refine region_ghost (by kernel_rfl) (fun g : Nat → Nat => [pv, (.int .u64 x.se), (.int .u8 x.ow), (.int .u8 x.sl), (.int .u8 x.bu), (.int .i64 x.lf), (.agg #[.int .i64 x.nu, .int .i64 x.de]), (.agg #[.int .u64 x.se, .int .u8 x.ow, .int .u8 x.sl, .int .u8 x.bu, .int .i64 x.lf, .int .i64 x.nu, .int .i64 x.de]), (.pointer (some ⟨g 8, 0, none⟩)), undef])
  (Lays W [(⟨8, 9, (.cells #[.int .u64 0, .int .u8 0, .int .u8 0, .int .u8 0, .int .i64 0, .int .i64 0, .int .i64 0] 81), (.cells #[.int .u64 x.se, .int .u8 x.ow, .int .u8 x.sl, .int .u8 x.bu, .int .i64 x.lf, .int .i64 x.nu, .int .i64 x.de] 81)⟩ : Spec)]) (by kernel_rfl) (fun _ => 0) (Lays.start _ _ _) ?_
 intro AF hAF
 simp only [List.toList_toArray, puts, Act.put, List.getD_cons_zero, List.getD_cons_succ, List.setIfInBounds_toArray, List.set_cons_succ, List.set_cons_zero] at hAF
 have hAF2 : _ = AF := funext hAF
 subst hAF2
 clear hAF
 refine ⟨?_, ?_⟩
 ·simp only [List.toList_toArray, EachG]
  refine ⟨?_, ?_, ?_, ?_, ?_, ?_, ?_, ?_, ?_, ?_, trivial⟩
  ·intro g D w' hD hW hC hI
   refine ⟨g, fun _ _ _ => rfl, ?_⟩
   with_reducible refine OpTo.plain ?_ ?_
   exact rfl
   have hS := hI.below
   have HS := Lib.hid (hI.step (Below.refl _ _) (k := 0) (by rfl))
   clear hI hS hC hW hD
   go_wp2_with fail
   all_goals first | exact HS.out | exact ⟨rfl, HS.out⟩ | rfl
  ·intro g D w' hD hW hC hI
   refine ⟨g, fun _ _ _ => rfl, ?_⟩
   with_reducible refine OpTo.plain ?_ ?_
   exact rfl
   have hS := hI.below
   have HI := Lib.hid hI
   have HC := Lib.hid (HN.out w' hS)
   clear hI hS hC hW hD
   go_wp2_with fail
   refine HC.out.mono ?_
   rintro e w'' ⟨rfl, rfl⟩
   exact ⟨rfl, HI.out.step (Below.refl _ _) (by rfl)⟩
  ·intro g D w' hD hW hC hI
   refine ⟨g, fun _ _ _ => rfl, ?_⟩
   with_reducible refine OpTo.plain ?_ ?_
   exact rfl
   have hS := hI.below
   have HS := Lib.hid (hI.step (Below.refl _ _) (k := 2) (by rfl))
   clear hI hS hC hW hD
   go_wp2_with fail
   all_goals first | exact HS.out | exact ⟨rfl, HS.out⟩ | rfl
  ·intro g D w' hD hW hC hI
   refine ⟨g, fun _ _ _ => rfl, ?_⟩
   with_reducible refine OpTo.plain ?_ ?_
   exact rfl
   have hS := hI.below
   have HS := Lib.hid (hI.step (Below.refl _ _) (k := 3) (by rfl))
   clear hI hS hC hW hD
   go_wp2_with fail
   all_goals first | exact HS.out | exact ⟨rfl, HS.out⟩ | rfl
  ·intro g D w' hD hW hC hI
   refine ⟨g, fun _ _ _ => rfl, ?_⟩
   with_reducible refine OpTo.plain ?_ ?_
   exact rfl
   have hS := hI.below
   have HS := Lib.hid (hI.step (Below.refl _ _) (k := 4) (by rfl))
   clear hI hS hC hW hD
   go_wp2_with fail
   all_goals first | exact HS.out | exact ⟨rfl, HS.out⟩ | rfl
  ·intro g D w' hD hW hC hI
   refine ⟨g, fun _ _ _ => rfl, ?_⟩
   with_reducible refine OpTo.plain ?_ ?_
   exact rfl
   have hS := hI.below
   have HS := Lib.hid (hI.step (Below.refl _ _) (k := 5) (by rfl))
   clear hI hS hC hW hD
   go_wp2_with fail
   all_goals first | exact HS.out | exact ⟨rfl, HS.out⟩ | rfl
  ·intro g D w' hD hW hC hI
   refine ⟨g, fun _ _ _ => rfl, ?_⟩
   with_reducible refine OpTo.plain ?_ ?_
   exact rfl
   have hS := hI.below
   have hl0 := Nat.lt_of_lt_of_le KR.out.lt hS.size
   have d0_0 := (KR.out.below hS KR.out.lt).cell 0
   have d0_1 := (KR.out.below hS KR.out.lt).cell 1
   simp at d0_0 d0_1
   have HS := Lib.hid (hI.step (Below.refl _ _) (k := 6) (by rfl))
   clear hI hS hC hW hD
   go_wp2_with fail
   all_goals first | exact HS.out | exact ⟨rfl, HS.out⟩ | rfl
  ·intro g D w' hD hW hC hI
   refine ⟨g, fun _ _ _ => rfl, ?_⟩
   with_reducible refine OpTo.plain ?_ ?_
   exact rfl
   have hS := hI.below
   have HS := Lib.hid (hI.step (Below.refl _ _) (k := 7) (by rfl))
   clear hI hS hC hW hD
   go_wp2_with fail
   all_goals first | exact HS.out | exact ⟨rfl, HS.out⟩ | rfl
  ·intro g D w' hD hW hC hI
   have hN : D 9 = false := waits_not hC hD 12 9 (by kernel_rfl)
   refine ⟨upd g 8 w'.heap.size, vals_upd _ (fun g : Nat → Nat => [pv, (.int .u64 x.se), (.int .u8 x.ow), (.int .u8 x.sl), (.int .u8 x.bu), (.int .i64 x.lf), (.agg #[.int .i64 x.nu, .int .i64 x.de]), (.agg #[.int .u64 x.se, .int .u8 x.ow, .int .u8 x.sl, .int .u8 x.bu, .int .i64 x.lf, .int .i64 x.nu, .int .i64 x.de]), (.pointer (some ⟨g 8, 0, none⟩)), undef]) g 8 _ 12 hC hD ?_, ?_⟩
   ·intro j hj
    match j, hj with
    | 0, _ => exact .inr rfl
    | 1, _ => exact .inr rfl
    | 2, _ => exact .inr rfl
    | 3, _ => exact .inr rfl
    | 4, _ => exact .inr rfl
    | 5, _ => exact .inr rfl
    | 6, _ => exact .inr rfl
    | 7, _ => exact .inr rfl
    | 8, _ => exact .inl (.inl rfl)
    | 9, _ => exact .inr rfl
    | j + 10, _ => exact .inr rfl
   with_reducible refine OpTo.plain ?_ ?_
   exact rfl
   have HS := Lib.hid (hI.lay (⟨8, 9, (.cells #[.int .u64 0, .int .u8 0, .int .u8 0, .int .u8 0, .int .i64 0, .int .i64 0, .int .i64 0] 81), (.cells #[.int .u64 x.se, .int .u8 x.ow, .int .u8 x.sl, .int .u8 x.bu, .int .i64 x.lf, .int .i64 x.nu, .int .i64 x.de] 81)⟩ : Spec) (by simp) (by rfl) (.inr hN) (by rfl) (fun s' hs' _ => List.mem_singleton.1 hs') (.cells #[.int .u64 0, .int .u8 0, .int .u8 0, .int .u8 0, .int .i64 0, .int .i64 0, .int .i64 0] 81) rfl)
   clear hI hC hW hD hN
   go_wp2_with fail
   all_goals first | exact HS.out | exact ⟨rfl, HS.out⟩ | rfl
  ·intro g D w' hD hW hC hI
   have hP : D 8 = true := waited_done hC hW (d := 12) (by kernel_rfl)
   obtain ⟨hg, hk⟩ := hI.zeroed (⟨8, 9, (.cells #[.int .u64 0, .int .u8 0, .int .u8 0, .int .u8 0, .int .i64 0, .int .i64 0, .int .i64 0] 81), (.cells #[.int .u64 x.se, .int .u8 x.ow, .int .u8 x.sl, .int .u8 x.bu, .int .i64 x.lf, .int .i64 x.nu, .int .i64 x.de] 81)⟩ : Spec) (by simp) hP hD
   refine ⟨g, fun _ _ _ => rfl, ?_⟩
   with_reducible refine OpTo.plain ?_ ?_
   exact rfl
   refine wp_store_row 81 (.tmp 14) (.tmp 22) rfl (g 8) #[.int .u64 x.se, .int .u8 x.ow, .int .u8 x.sl, .int .u8 x.bu, .int .i64 x.lf, .int .i64 x.nu, .int .i64 x.de] rfl rfl 81 _ hk (by kernel_rfl) rfl (by simp [Value.oneCell']) ⟨rfl, ?_⟩
   exact hI.fill (⟨8, 9, (.cells #[.int .u64 0, .int .u8 0, .int .u8 0, .int .u8 0, .int .i64 0, .int .i64 0, .int .i64 0] 81), (.cells #[.int .u64 x.se, .int .u8 x.ow, .int .u8 x.sl, .int .u8 x.bu, .int .i64 x.lf, .int .i64 x.nu, .int .i64 x.de] 81)⟩ : Spec) (by simp) (by rfl) (show (9 : Nat) ≠ 8 by decide) (fun s' hs' _ => List.mem_singleton.1 hs') hP (below_keepRow _ _) (setRow_heap w' (g 8) _ _ 81 (0, 0) hk)
 intro g D w6 hall hI
 obtain ⟨h1, h2⟩ := hI.full (⟨8, 9, (.cells #[.int .u64 0, .int .u8 0, .int .u8 0, .int .u8 0, .int .i64 0, .int .i64 0, .int .i64 0] 81), (.cells #[.int .u64 x.se, .int .u8 x.ow, .int .u8 x.sl, .int .u8 x.bu, .int .i64 x.lf, .int .i64 x.nu, .int .i64 x.de] 81)⟩ : Spec) (by simp) (hall 8 (by decide)) (hall 9 (by decide))
 exact HQ.out (g 8) w6 h1 h2 hI.below
set_option maxHeartbeats 8000000 in
set_option maxRecDepth 100000 in
theorem pplace_any {w : World} {base g : Nat} {l : List Of} {x : Of} {vl : Value} (h : PB w base g l x.se vl) (hI : BInv l x.se) (hx : x.Fits) :
  Calls Try.prog 28 #[.pointer (some ⟨g, 0, none⟩), .int .u8 x.ow, .int .u8 x.sl, .int .u8 x.bu, .int .i64 x.lf, .agg #[.int .i64 x.nu, .int .i64 x.de]] w fun e w' => e = .returned (.tuple #[.int .u64 (placeS l x), .int .i64 (placeE l x)]) ∧ ∃ vl', PB w' base g (placeL l x) (placeN l x) vl' ∧ Keep (Foot g vl) w w' ∧ Moved w vl vl' := by
 have bw := (Below.refl w.heap.size w).alloc (Nat.le_refl _) (.cells #[.int .i64 x.nu, .int .i64 x.de] 56)
 have H1 := Lib.hid (h.below bw)
 have KR := Lib.hid (Blk.new w #[.int .i64 x.nu, .int .i64 x.de] 56)
 have B1 := Lib.hid bw
 have HI := Lib.hid hI
 have HX := Lib.hid hx
 have HG := Lib.hid (h.below bw).blk
 have HL := Lib.hid (fun b (hb : Foot g vl b) => (h.lt hb).2)
 clear bw h hI hx
 go_enter Try.func28, Try.ntmps28
 go_wp2_with fail
 generalize hWW : w.alloc (.cells #[.int .i64 x.nu, .int .i64 x.de] 56) = W at *
 clear hWW
 refine pplace_r1 (Lib.hid (fun w' k => pnext_any (HG.out.below k HG.out.lt))) KR ?_
 intro a w2 ha hA b2
 have H2 := Lib.hid (H1.out.below b2)
 have B2 := Lib.hid (B1.out.trans (b2.mono B1.out.size))
 have HA := Lib.hid hA
 have HAF := Lib.hid (show ¬ Foot g vl a from fun hf => by have := HL.out a hf; have := B1.out.size; omega)
 have CM := Lib.hid (pmade_any H2.out.blk HI.out.n1)
 have CY := Lib.hid (pmay_any x w2 HX.out)
 have kl := hA.lt
 have a0 := hA.cell 0; have a1 := hA.cell 1; have a2 := hA.cell 2; have a3 := hA.cell 3; have a4 := hA.cell 4; have a5 := hA.cell 5; have a6 := hA.cell 6
 simp at a0 a1 a2 a3 a4 a5 a6
 have hlen := HI.out.len
 clear ha hA b2 H1 B1 HG KR HL
 by_cases hm : ¬ x.may
 ·have e1 : placeE l x = 1 := by unfold placeE; rw [if_pos hm]
  have E := Lib.hid (show placeE l x = 1 ∧ placeS l x = 0 ∧ placeL l x = l ∧ placeN l x = x.se from ⟨e1, by unfold placeS; rw [e1]; rfl, by unfold placeL; rw [e1]; rfl, by unfold placeN; rw [e1]; rfl⟩)
  rw [decide_eq_false hm] at CY
  clear e1 hm
  go_wp2_with fail
  refine CM.out.mono ?_
  rintro e w2 ⟨rfl, rfl⟩
  go_wp2_with fail
  refine CY.out.mono ?_
  rintro e w3 ⟨rfl, b3⟩
  have H3 := Lib.hid (H2.out.below b3)
  have B3 := Lib.hid (B2.out.trans (b3.mono B2.out.size))
  clear b3 H2 B2 CM CY a0 a1 a2 a3 a4 a5 a6 kl
  go_wp2_with fail
  refine bodyPost_ret (v := .tuple #[.int .u64 0, .int .i64 1]) (by simp [results, Try.results28, go_sem]) rfl ?_
  rw [E.out.1, E.out.2.1, E.out.2.2.1, E.out.2.2.2]
  exact ⟨rfl, vl, H3.out, Keep.of_below B3.out, Moved.refl _ _⟩
 have hm := Decidable.not_not.1 hm
 rw [decide_eq_true hm] at CY
 obtain ⟨ao, cap, hvl, hc1, hc2, _⟩ := owns_open H2.out.row
 subst hvl
 unfold maxLen at hc2
 go_wp2_with fail
 refine CM.out.mono ?_
 rintro e w2 ⟨rfl, rfl⟩
 go_wp2_with fail
 refine CY.out.mono ?_
 rintro e w3 ⟨rfl, b3⟩
 have HG4 := Lib.hid (H2.out.below b3)
 have HA4 := Lib.hid (HA.out.below b3 HA.out.lt)
 have HA4b := HAF
 have B3 := Lib.hid (B2.out.trans (b3.mono B2.out.size))
 clear b3 H2 B2 CM CY a0 a1 a2 a3 a4 a5 a6 kl HA HAF
 have hgl := HG4.out.blk.lt
 have d0 := HG4.out.blk.cell 0
 have a0 := HA4.out.cell 0
 have hal := HA4.out.lt
 simp at d0 a0
 by_cases hf : l.length = 32 ∨ x.se = 18446744073709551615
 ·have e1 : placeE l x = 9 := by unfold placeE; rw [if_neg (by simpa using hm), if_pos hf]
  have E := Lib.hid (show placeE l x = 9 ∧ placeS l x = 0 ∧ placeL l x = l ∧ placeN l x = x.se from ⟨e1, by unfold placeS; rw [e1]; rfl, by unfold placeL; rw [e1]; rfl, by unfold placeN; rw [e1]; rfl⟩)
  clear e1
  by_cases h32 : l.length = 32
  ·have q1 : ((l.length : Int) == 32) = true := by rw [h32]; rfl
   clear hf h32
   go_wp2_with fail
   refine bodyPost_ret (v := .tuple #[.int .u64 0, .int .i64 9]) (by simp [results, Try.results28, go_sem]) rfl ?_
   rw [E.out.1, E.out.2.1, E.out.2.2.1, E.out.2.2.2]
   exact ⟨rfl, _, HG4.out, Keep.of_below B3.out, Moved.refl _ _⟩
  ·have q1 : ((l.length : Int) == 32) = false := by simp; omega
   have hse : x.se = 18446744073709551615 := by rcases hf with h | h; exact absurd h h32; exact h
   have q2 : (x.se == 18446744073709551615) = true := by simpa using hse
   have HSE := Lib.hid hse
   clear hf h32 hse
   go_wp2_with fail
   refine bodyPost_ret (v := .tuple #[.int .u64 0, .int .i64 9]) (by simp [results, Try.results28, go_sem]) rfl ?_
   rw [E.out.1, E.out.2.1, E.out.2.2.1, E.out.2.2.2]
   exact ⟨rfl, _, HG4.out, Keep.of_below B3.out, Moved.refl _ _⟩
 have e1 : placeE l x = 0 := by unfold placeE; rw [if_neg (by simpa using hm), if_neg hf]
 have E := Lib.hid (show placeE l x = 0 ∧ placeS l x = x.se ∧ placeL l x = l ++ [x] ∧ placeN l x = x.se + 1 from ⟨e1, by unfold placeS; rw [if_pos e1], by unfold placeL; rw [if_pos e1], by unfold placeN; rw [if_pos e1]⟩)
 have q1 : ((l.length : Int) == 32) = false := by simp; omega
 have q2 : (x.se == 18446744073709551615) = false := by simp; omega
 have hn := HI.out.n2
 have hn1 := HI.out.n1
 have hse0 : 0 ≤ x.se + 1 := by omega
 have hse1 : x.se + 1 ≤ 18446744073709551615 := by omega
 clear e1 hf
 go_wp2_with fail
 clear d0 a0 hgl hal
 generalize w3 = W at *
 have hgl := HG4.out.blk.lt
 have d0 := HG4.out.blk.cell 0
 simp at d0
 have hal := HA4.out.lt
 have a0 := HA4.out.cell 0; have a1 := HA4.out.cell 1; have a2 := HA4.out.cell 2; have a3 := HA4.out.cell 3; have a4 := HA4.out.cell 4; have a5 := HA4.out.cell 5; have a6 := HA4.out.cell 6
 simp at a0 a1 a2 a3 a4 a5 a6
 have hbs := Nat.le_trans HG4.out.ge (Nat.le_of_lt hgl)
 go_region_law (refine step_append_off rfl (.tmp 47) (.tmp 49) 36 rfl base 81 Try.underlying36 rfl info_poff (.slice ao l.length cap) l rfl (owns_below HG4.out.row ((Below.refl _ _).drew.alloc (Nat.le_refl _) _)) W.heap.size 1 x rfl (Blk.new W.drew _ _) (by omega) (by simp; omega) ?_; intro v' w' ho hgr hat; have HAP := Lib.hid (appended HG4.out ho hgr hat); have hB := HAP.out.1; have d1 := hB.cell 0; have f1 := hB.frozen 0; have l1 := hB.lt; simp at d1; obtain ⟨ao', cap', hv', _⟩ := owns_open ho; obtain ⟨ln, hln⟩ : ∃ ln, (l ++ [x]).length = ln := ⟨_, rfl⟩; rw [hln] at hv'; subst hv'; clear hln; clear ho hgr hat hB d0)
 all_goals
  have HE := Lib.hid HAP.out.2
  clear HAP d1 f1 l1
  have e0 := HE.out.1.blk.cell 1
  have e1 := HE.out.1.blk.lt
  have e2 := HE.out.1.blk.frozen 1
  have e3 := HE.out.2.2 HA4.out HA4b.out
  have e4 := e3.cell 0
  have e5 := e3.lt
  simp at e0 e4
  clear e3
  go_wp2
  refine bodyPost_ret (v := .tuple #[.int .u64 x.se, .int .i64 0]) (by simp [results, Try.results28, go_sem]) rfl ?_
  have k3 : Keep (· = g) (w'.setCell ⟨g, 0, none⟩ (.slice ao' ln cap')) ((w'.setCell ⟨g, 0, none⟩ (.slice ao' ln cap')).setCell ⟨g, 1, none⟩ (.int .u64 (x.se + 1))) := Keep.setCell (S := (· = g)) (Keep.refl _ _) (p := ⟨g, 1, none⟩) (.inl rfl) _
  rw [E.out.1, E.out.2.1, E.out.2.2.1, E.out.2.2.2]
  exact ⟨rfl, _, HE.out.1.setN _, (Keep.of_below B3.out).trans (HE.out.2.1.1.trans (k3.mono fun k _ hk => .inl hk)), HE.out.2.1.2.of_le B3.out.size⟩
end Go.Proofs.Ytbieomgpfhloeaa
namespace Go.Proofs.Ytbieomgpfhloeaa
open Go.RowKit
def wayX10 (s t : Int) (σ : RS) : Nat → RS
 | 0 => σ
 | k + 1 => wayR s t (wayX10 s t σ k)
theorem route10_by {f0 : Int → Int → Int} {B s t want : Int} (h : GInv f0 B) : ∀ k, (∀ j, j < k → ¬ doneR s t (wayX10 s t ⟨f0, want, []⟩ j)) → RInv f0 B s t want k (wayX10 s t ⟨f0, want, []⟩ k)
 | 0, _ => RInv.start h s t want
 | k + 1, hj => (route10_by h k (fun j hk => hj j (by omega))).step (hj k (by omega))
theorem route10_is {f0 : Int → Int → Int} {B s t want : Int} (h : GInv f0 B) (k : Nat) (hj : ∀ j, j < k → ¬ doneR s t (wayX10 s t ⟨f0, want, []⟩ j)) (hd : doneR s t (wayX10 s t ⟨f0, want, []⟩ k)) : IsRoute f0 B s t want (wayX10 s t ⟨f0, want, []⟩ k) :=
 ⟨k, route10_by h k hj, hd⟩
def p10 : List Int := [1, 2, 3]
def l10 : List Ln := [⟨3, 2, 1, 9, 0⟩, ⟨2, 1, 2, 7, 0⟩]
def o10 : List Of := [⟨1, 2, 1, 2, 5, 3, 2⟩]
theorem lv10_s : (∀ j, j < 1 → ¬ doneR 2 3 (wayX10 2 3 ⟨roomF p10 l10 1, mostW, []⟩ j)) ∧ doneR 2 3 (wayX10 2 3 ⟨roomF p10 l10 1, mostW, []⟩ 1) ∧ mostW - (wayX10 2 3 ⟨roomF p10 l10 1, mostW, []⟩ 1).left = 9 := by
 unfold doneR
 decide +kernel
theorem lv10_b : (∀ j, j < 1 → ¬ doneR 1 2 (wayX10 1 2 ⟨roomF p10 l10 2, mostW, []⟩ j)) ∧ doneR 1 2 (wayX10 1 2 ⟨roomF p10 l10 2, mostW, []⟩ 1) ∧ mostW - (wayX10 1 2 ⟨roomF p10 l10 2, mostW, []⟩ 1).left = 7 := by
 unfold doneR
 decide +kernel
theorem goes10 (hI : LInv p10 l10) : Goes p10 l10 ⟨1, 2, 1, 2, 5, 3, 2⟩ 1 3 9 7 :=
 ⟨⟨_, route10_is (roomF_inv hI 1) 1 lv10_s.1 lv10_s.2.1, lv10_s.2.2⟩, _, route10_is (roomF_inv hI 2) 1 lv10_b.1 lv10_b.2.1, lv10_b.2.2⟩
theorem may10_1 : mayV o10 p10 1 1 3 9 100 9 7 = 4 := by decide +kernel
theorem may10_2 : mayV o10 p10 1 1 3 9 5 9 7 = 3 := by decide +kernel
theorem may10_3 (m1 m2 : Int) : mayV o10 p10 1 2 3 9 9 m1 m2 = 0 := by
 show mayO ⟨1, 2, 1, 2, 5, 3, 2⟩ p10 2 3 9 9 m1 m2 = 0
 unfold mayO
 rw [if_pos (.inl rfl)]
theorem may10_4 (m1 m2 : Int) : mayV o10 p10 7 1 3 9 9 m1 m2 = 0 := rfl
theorem do10_5 : ¬ doOk o10 p10 1 1 3 5 9 7 := by unfold doOk; decide +kernel
theorem do10_3 : doOk o10 p10 1 1 3 3 9 7 := by unfold doOk; decide +kernel
set_option maxHeartbeats 16000000 in
set_option maxRecDepth 100000 in
theorem lives10_any (HMy : FMayProg) (HD : FDoProg) : Lives10 := fun w => by
 go_enter Try.func9, Try.ntmps9
 go_wp2_with fail
 refine (new_any w).mono ?_
 rintro e w0 ⟨G, M, rfl, h0, hG, hM, hb0⟩
 have H0 := Lib.hid h0
 have B0 := Lib.hid hb0
 have I0 := Lib.hid LInv.nil
 clear h0 hb0
 have c1 := Lib.hid (open_any H0.out I0.out.bd 1)
 rw [show openE [] 1 = 0 by decide, show openP [] 1 = [1] by decide] at c1
 have I1 : Hid (LInv [1] []) := Lib.hid (by have := LInv.open I0.out 1; rwa [show openP [] 1 = [1] by decide] at this)
 go_wp2_with fail
 refine c1.out.mono ?_
 rintro e w1 ⟨rfl, h1, k1⟩
 have H1 := Lib.hid h1
 have B1 := Lib.hid (B0.out.trans (k1.below B0.out.size (fun b hb e => by omega)))
 clear h1 k1 c1 H0 B0 I0
 have c2 := Lib.hid (open_any H1.out I1.out.bd 2)
 rw [show openE [1] 2 = 0 by decide, show openP [1] 2 = [1, 2] by decide] at c2
 have I2 : Hid (LInv [1, 2] []) := Lib.hid (by have := LInv.open I1.out 2; rwa [show openP [1] 2 = [1, 2] by decide] at this)
 go_wp2_with fail
 refine c2.out.mono ?_
 rintro e w2 ⟨rfl, h2, k2⟩
 have H2 := Lib.hid h2
 have B2 := Lib.hid (B1.out.trans (k2.below B1.out.size (fun b hb e => by omega)))
 clear h2 k2 c2 H1 B1 I1
 have c3 := Lib.hid (open_any H2.out I2.out.bd 3)
 rw [show openE [1, 2] 3 = 0 by decide, show openP [1, 2] 3 = [1, 2, 3] by decide] at c3
 have I3 : Hid (LInv [1, 2, 3] []) := Lib.hid (by have := LInv.open I2.out 3; rwa [show openP [1, 2] 3 = [1, 2, 3] by decide] at this)
 go_wp2_with fail
 refine c3.out.mono ?_
 rintro e w3 ⟨rfl, h3, k3⟩
 have H3 := Lib.hid h3
 have B3 := Lib.hid (B2.out.trans (k3.below B2.out.size (fun b hb e => by omega)))
 clear h3 k3 c3 H2 B2 I2
 have c4 := Lib.hid (ptrust_any (a := 3) (b := 2) (c := 1) (n := 9) H3.out I3.out (by unfold In8; decide) (by unfold In8; decide) (by unfold In8; decide))
 rw [show trustE [1, 2, 3] [] 3 2 1 9 = 0 by decide, show trustL [1, 2, 3] [] 3 2 1 9 = [⟨3, 2, 1, 9, 0⟩] by decide] at c4
 have I4 : Hid (LInv [1, 2, 3] [⟨3, 2, 1, 9, 0⟩]) := Lib.hid (by have := LInv.trust I3.out 3 2 1 9; rwa [show trustL [1, 2, 3] [] 3 2 1 9 = [⟨3, 2, 1, 9, 0⟩] by decide] at this)
 go_wp2_with fail
 refine c4.out.mono ?_
 rintro e w4 ⟨rfl, h4, k4⟩
 have H4 := Lib.hid h4
 have B4 := Lib.hid (B3.out.trans (k4.below B3.out.size (fun b hb e => by omega)))
 clear h4 k4 c4 H3 B3 I3
 have c5 := Lib.hid (ptrust_any (a := 2) (b := 1) (c := 2) (n := 7) H4.out I4.out (by unfold In8; decide) (by unfold In8; decide) (by unfold In8; decide))
 rw [show trustE [1, 2, 3] [⟨3, 2, 1, 9, 0⟩] 2 1 2 7 = 0 by decide, show trustL [1, 2, 3] [⟨3, 2, 1, 9, 0⟩] 2 1 2 7 = [⟨3, 2, 1, 9, 0⟩, ⟨2, 1, 2, 7, 0⟩] by decide] at c5
 have I5 : Hid (LInv [1, 2, 3] [⟨3, 2, 1, 9, 0⟩, ⟨2, 1, 2, 7, 0⟩]) := Lib.hid (by have := LInv.trust I4.out 2 1 2 7; rwa [show trustL [1, 2, 3] [⟨3, 2, 1, 9, 0⟩] 2 1 2 7 = [⟨3, 2, 1, 9, 0⟩, ⟨2, 1, 2, 7, 0⟩] by decide] at this)
 go_wp2_with fail
 refine c5.out.mono ?_
 rintro e w5 ⟨rfl, h5, k5⟩
 have H5 := Lib.hid h5
 have B5 := Lib.hid (B4.out.trans (k5.below B4.out.size (fun b hb e => by omega)))
 clear h5 k5 c5 H4 B4 I4
 have II : Hid (LInv p10 l10) := Lib.hid I5.out
 have L5 : Hid (LedM w5 G M p10 l10) := Lib.hid H5.out
 clear H5 I5
 go_wp2_with fail
 refine (pnew_any w5 w.heap.size B5.out.size).mono ?_
 rintro e w6 ⟨rfl, h6, b6⟩
 have L6 := Lib.hid (L5.out.below b6)
 have P6 := Lib.hid h6
 have B6 := Lib.hid (B5.out.trans (b6.mono B5.out.size))
 clear h6 b6 L5 B5
 have C7 := Lib.hid (pplace_any (x := ⟨1, 2, 1, 2, 5, 3, 2⟩) P6.out (BInv.nil (N := 1) (by omega) (by omega)) ⟨by decide, by unfold In8; decide, by unfold In8; decide, by unfold In8; decide, by unfold In64; decide, by unfold In64; decide, by unfold In64; decide⟩)
 have J7 : Hid (BInv o10 2) := Lib.hid (by have := BInv.place (x := ⟨1, 2, 1, 2, 5, 3, 2⟩) (BInv.nil (N := 1) (by omega) (by omega)); rwa [show placeL [] ⟨1, 2, 1, 2, 5, 3, 2⟩ = o10 by decide +kernel, show placeN [] ⟨1, 2, 1, 2, 5, 3, 2⟩ = 2 by decide +kernel] at this)
 rw [show placeS [] ⟨1, 2, 1, 2, 5, 3, 2⟩ = 1 by decide +kernel, show placeE [] ⟨1, 2, 1, 2, 5, 3, 2⟩ = 0 by decide +kernel, show placeL [] ⟨1, 2, 1, 2, 5, 3, 2⟩ = o10 by decide +kernel, show placeN [] ⟨1, 2, 1, 2, 5, 3, 2⟩ = 2 by decide +kernel] at C7
 dsimp only at C7
 obtain ⟨gb, hgb⟩ : ∃ gb, w5.heap.size = gb := ⟨_, rfl⟩
 rw [hgb] at P6 C7 ⊢
 have HGB := Lib.hid hgb
 clear hgb
 go_wp2_with fail
 refine C7.out.mono ?_
 rintro e w7 ⟨rfl, vb, h7, k7, _⟩
 have AP := (P6.out.ne_map L6.out).2
 have L7 := Lib.hid (L6.out.keep k7 AP.1 AP.2)
 have P7 := Lib.hid h7
 have B7 := Lib.hid (B6.out.trans (k7.below B6.out.size (fun b hb e => by have := (P6.out.lt e).1; omega)))
 clear h7 k7 AP L6 P6 B6 C7
 have bh := (Below.refl w7.heap.size w7).alloc (Nat.le_refl _) (.cells #[.pointer (some ⟨G, 0, none⟩), .pointer (some ⟨gb, 0, none⟩)] 29)
 have KH := Lib.hid (Blk.new w7 #[.pointer (some ⟨G, 0, none⟩), .pointer (some ⟨gb, 0, none⟩)] 29)
 have L8 := Lib.hid (L7.out.below bh)
 have P8 := Lib.hid (P7.out.below bh)
 have B8 := Lib.hid (B7.out.trans (bh.mono B7.out.size))
 clear bh L7 P7 B7
 have G1 : ∀ o, findO o10 1 = some o → Goes p10 l10 o 1 3 9 7 := fun o ho => by cases ho; exact goes10 II.out
 obtain ⟨x1, x2, G2, _, _⟩ := goes_some II.out o10 1 2 3
 have G3 : ∀ o, findO o10 7 = some o → Goes p10 l10 o 1 3 9 7 := fun o ho => by cases ho
 have i8 : ∀ n : Int, 0 ≤ n → n ≤ 255 → In8 n := fun n a b => ⟨a, b⟩
 have i64 : ∀ n : Int, 0 ≤ n → n ≤ 255 → In64 n := fun n a b => ⟨by omega, by omega⟩
 have Y0 := Lib.hid (fun u (h : LedM u G M p10 l10) (k : PB u w.heap.size gb o10 2 vb) => HMy h II.out k J7.out 1 1 3 9 100 9 7 (by omega) (i8 _ (by decide) (by decide)) (i8 _ (by decide) (by decide)) (i64 _ (by decide) (by decide)) (i64 _ (by decide) (by decide)) G1)
 rw [may10_1] at Y0
 have Y1 := Lib.hid (fun u (h : LedM u G M p10 l10) (k : PB u w.heap.size gb o10 2 vb) => HMy h II.out k J7.out 1 1 3 9 5 9 7 (by omega) (i8 _ (by decide) (by decide)) (i8 _ (by decide) (by decide)) (i64 _ (by decide) (by decide)) (i64 _ (by decide) (by decide)) G1)
 rw [may10_2] at Y1
 have Y2 := Lib.hid (fun u (h : LedM u G M p10 l10) (k : PB u w.heap.size gb o10 2 vb) => HMy h II.out k J7.out 1 2 3 9 9 x1 x2 (by omega) (i8 _ (by decide) (by decide)) (i8 _ (by decide) (by decide)) (i64 _ (by decide) (by decide)) (i64 _ (by decide) (by decide)) G2)
 rw [may10_3 x1 x2] at Y2
 have Y3 := Lib.hid (fun u (h : LedM u G M p10 l10) (k : PB u w.heap.size gb o10 2 vb) => HMy h II.out k J7.out 7 1 3 9 9 9 7 (by omega) (i8 _ (by decide) (by decide)) (i8 _ (by decide) (by decide)) (i64 _ (by decide) (by decide)) (i64 _ (by decide) (by decide)) G3)
 rw [may10_4 9 7] at Y3
 have D0 := Lib.hid (fun u (h : LedM u G M p10 l10) (k : PB u w.heap.size gb o10 2 vb) => HD h II.out k J7.out 1 1 3 5 9 7 (by omega) (i8 _ (by decide) (by decide)) (i8 _ (by decide) (by decide)) (i64 _ (by decide) (by decide)) G1)
 have D1 := Lib.hid (fun u (h : LedM u G M p10 l10) (k : PB u w.heap.size gb o10 2 vb) => HD h II.out k J7.out 1 1 3 3 9 7 (by omega) (i8 _ (by decide) (by decide)) (i8 _ (by decide) (by decide)) (i64 _ (by decide) (by decide)) G1)
 clear G1 G2 G3 i8 i64
 obtain ⟨h, hh⟩ : ∃ h, w7.heap.size = h := ⟨_, rfl⟩
 have KH8 := KH
 clear KH hh
 have e0 := KH8.out.cell 0; have e1 := KH8.out.cell 1
 have kh := KH8.out.lt
 simp at e0 e1
 go_wp2_with fail
 generalize w7.alloc (.cells #[.pointer (some ⟨G, 0, none⟩), .pointer (some ⟨gb, 0, none⟩)] 29) = w8 at *
 refine (Y0.out _ L8.out P8.out).mono ?_
 rintro e w9 ⟨rfl, b9⟩
 have L9 := Lib.hid (L8.out.below b9)
 have P9 := Lib.hid (P8.out.below b9)
 have KH9 := Lib.hid (KH8.out.below b9 KH8.out.lt)
 have B9 := Lib.hid (B8.out.trans (b9.mono B8.out.size))
 clear b9 L8 P8 KH8 B8 Y0 e0 e1 kh
 have e0 := KH9.out.cell 0; have e1 := KH9.out.cell 1
 have kh := KH9.out.lt
 simp at e0 e1
 go_wp2_with fail
 refine (Y1.out _ L9.out P9.out).mono ?_
 rintro e w10 ⟨rfl, b10⟩
 have L10 := Lib.hid (L9.out.below b10)
 have P10 := Lib.hid (P9.out.below b10)
 have KH10 := Lib.hid (KH9.out.below b10 KH9.out.lt)
 have B10 := Lib.hid (B9.out.trans (b10.mono B9.out.size))
 clear b10 L9 P9 KH9 B9 Y1 e0 e1 kh
 have e0 := KH10.out.cell 0; have e1 := KH10.out.cell 1
 have kh := KH10.out.lt
 simp at e0 e1
 go_wp2_with fail
 refine (Y2.out _ L10.out P10.out).mono ?_
 rintro e w11 ⟨rfl, b11⟩
 have L11 := Lib.hid (L10.out.below b11)
 have P11 := Lib.hid (P10.out.below b11)
 have KH11 := Lib.hid (KH10.out.below b11 KH10.out.lt)
 have B11 := Lib.hid (B10.out.trans (b11.mono B10.out.size))
 clear b11 L10 P10 KH10 B10 Y2 e0 e1 kh
 have e0 := KH11.out.cell 0; have e1 := KH11.out.cell 1
 have kh := KH11.out.lt
 simp at e0 e1
 go_wp2_with fail
 refine (Y3.out _ L11.out P11.out).mono ?_
 rintro e w12 ⟨rfl, b12⟩
 have L12 := Lib.hid (L11.out.below b12)
 have P12 := Lib.hid (P11.out.below b12)
 have KH12 := Lib.hid (KH11.out.below b12 KH11.out.lt)
 have B12 := Lib.hid (B11.out.trans (b12.mono B11.out.size))
 clear b12 L11 P11 KH11 B11 Y3 e0 e1 kh
 have e0 := KH12.out.cell 0; have e1 := KH12.out.cell 1
 have kh := KH12.out.lt
 simp at e0 e1
 go_wp2_with fail
 refine (D0.out _ L12.out P12.out).mono ?_
 rintro e w13 hd
 rcases hd with ⟨_, rfl, b13⟩ | ⟨hno, _⟩
 case inr => exact absurd hno do10_5
 have bf := (Below.refl w13.heap.size w13).alloc (Nat.le_refl _) (.cells #[.int .u64 0, .int .u8 0, .int .u8 0, .int .i64 0, .int .i64 0] 41)
 have bb := b13.trans (bf.mono b13.size)
 have L13 := Lib.hid (L12.out.below bb)
 have P13 := Lib.hid (P12.out.below bb)
 have KH13 := Lib.hid (KH12.out.below bb KH12.out.lt)
 have B13 := Lib.hid (B12.out.trans (bb.mono B12.out.size))
 clear b13 bf bb L12 P12 KH12 B12 D0 e0 e1 kh
 unfold noFill
 have e0 := KH13.out.cell 0; have e1 := KH13.out.cell 1
 have kh := KH13.out.lt
 simp at e0 e1
 go_wp2_with fail
 generalize w13.alloc (.cells #[.int .u64 0, .int .u8 0, .int .u8 0, .int .i64 0, .int .i64 0] 41) = W13 at *
 refine (D1.out _ L13.out P13.out).mono ?_
 rintro e w14 hd
 rcases hd with ⟨hno, _⟩ | ⟨_, ox, x, ls', vb', hox, hx, _, rfl, _, _, k14, _⟩
 case inl => exact absurd do10_3 hno
 cases hox
 have hx5 : x = 5 := by rw [hx]; decide +kernel
 subst hx5
 have bb := k14.below (B := w.heap.size) B13.out.size (fun b hb e => by
  rcases e with e | e | e
  ·omega
  ·omega
  ·have := (P13.out.lt e).1; omega)
 have bf := (Below.refl w14.heap.size w14).alloc (Nat.le_refl _) (.cells #[.int .u64 1, .int .u8 1, .int .u8 3, .int .i64 3, .int .i64 5] 41)
 have KF := Lib.hid (Blk.new w14 #[.int .u64 1, .int .u8 1, .int .u8 3, .int .i64 3, .int .i64 5] 41)
 have B14 := Lib.hid ((B13.out.trans bb).trans (bf.mono (B13.out.trans bb).size))
 clear bb bf hx L13 P13 KH13 B13 D1 e0 e1 kh k14
 have f0 := KF.out.cell 0; have f1 := KF.out.cell 1; have f2 := KF.out.cell 2; have f3 := KF.out.cell 3; have f4 := KF.out.cell 4
 have kf := KF.out.lt
 simp at f0 f1 f2 f3 f4
 go_wp2_with fail
 go_ret
 exact ⟨rfl, B14.out⟩
end Go.Proofs.Ytbieomgpfhloeaa
