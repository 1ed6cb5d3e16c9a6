/-
  The program's books: Best, Copy; a book that is not there.
-/
import Derived.Test.YtdbdeodcldogmaaPB6
import Derived.Test.YtdbdeodcldogmaaSortO2
namespace Go.Proofs.Ytdbdeodcldogmaa
open Go.RowKit
set_option linter.unusedSimpArgs false
set_option linter.unusedVariables false

set_option maxHeartbeats 4000000 in
theorem pbest_of {w : World} {base : Nat} {pv v : Value} {l : List Of} {N : Int} {s b : Int} (hc : ∀ w', Below w.heap.size w w' → Calls Try.prog 45 #[pv] w' fun e w'' => e = .returned v ∧ w' = w'') (h : w.ownsRow base 75 7 v l.length (ofCells l)) (hI : BInv l N) :
    Calls Try.prog 25 #[pv, .int .u8 s, .int .u8 b] w (ListPost w 39 7 (bestO l s b).length (ofCells (bestO l s b))) := by
  have hlen := hI.len
  have hbw := ((Below.refl w.heap.size w).alloc (Nat.le_refl _) (.cells #[.int .u8 s] 35)).alloc (by simp) (.cells #[.int .u8 b] 35)
  have HB := Lib.hid hbw
  have K1 := Lib.hid ((Blk.new w #[.int .u8 s] 35).alloc (.cells #[.int .u8 b] 35))
  have K2 := Lib.hid (Blk.newAt (w.alloc (.cells #[.int .u8 s] 35)) #[.int .u8 b] 35 (g := w.heap.size + 1) (by simp))
  have C1 := Lib.hid (hc _ hbw)
  have C2 := Lib.hid (cloneO_any (owns_below h hbw) (by omega))
  obtain ⟨bp, bs⟩ := bestO_is hI.may hI.rise s b
  have hgood : ∀ x ∈ l.filter (ofPair s b), x.may ∧ 0 ≤ x.se ∧ x.se ≤ 18446744073709551615 := fun x hx => by
    have hx := (List.mem_filter.1 hx).1
    have := hI.bd x hx
    have := hI.n2
    exact ⟨hI.may x hx, by omega, by omega⟩
  have hne : (l.filter (ofPair s b)).Pairwise fun x y => x.se ≠ y.se := (hI.rise.filter _).imp fun h => by omega
  have hfl : (l.filter (ofPair s b)).length ≤ 1000 := Nat.le_trans (List.length_filter_le _ _) (by omega)
  have HS := Lib.hid (fun (w : World) (base : Nat) (v : Value) (h : w.ownsRow base 75 7 v (l.filter (ofPair s b)).length (ofCells (l.filter (ofPair s b)))) => sortO_any hgood bp bs hne hfl h)
  have HM := Lib.hid (show (bestO l s b).length ≤ 1000 by rw [bp.length_eq]; exact hfl)
  clear hbw hc h hI bp bs hgood hne hfl
  go_enter Try.func25, Try.ntmps25
  go_wp2_with fail
  generalize hWW : (w.alloc (.cells #[.int .u8 s] 35)).alloc (.cells #[.int .u8 b] 35) = W at *
  have HWs := Lib.hid (show W.heap.size = w.heap.size + 2 by rw [← hWW]; simp)
  clear hWW
  refine C1.out.mono ?_
  rintro e W ⟨rfl, rfl⟩
  go_wp2_with fail
  refine C2.out.mono ?_
  rintro e w1 ⟨v1, rfl, o1, b1⟩
  have CD := Lib.hid (pdelf_any o1 (by omega) (K1.out.below b1 K1.out.lt) (K2.out.below b1 K2.out.lt))
  have HB1 := Lib.hid (HB.out.trans (b1.mono HB.out.size))
  have HO1 := Lib.hid o1
  have HW1 := Lib.hid b1.size
  clear o1 b1 C2 C1
  go_wp2_with fail
  refine CD.out.mono ?_
  rintro e w2 ⟨v2, rfl, o2, k2, e2⟩
  have HK2 := Lib.hid k2
  have CS := Lib.hid (HS.out _ _ _ o2)
  have HE := Lib.hid e2
  have hv2 : ∃ ao c, v2 = .slice ao (l.filter (ofPair s b)).length c := by obtain ⟨ao, c, hv, _⟩ := owns_open o2; exact ⟨ao, c, hv⟩
  have HB2 := Lib.hid (HB1.out.trans (k2.below HB1.out.size (fun k hk e => by have := (owns_type HO1.out e).1; have := HWs.out; omega)))
  have HO2 := Lib.hid o2
  clear o2 k2 e2 CD
  obtain ⟨ao, c, rfl⟩ := hv2
  go_wp2_with fail
  refine CS.out.mono ?_
  rintro e w3 ⟨rfl, o3, k3⟩
  have CT := Lib.hid (told_any o3 HM.out)
  have HB3 := Lib.hid (HB2.out.trans (k3.below HB2.out.size (fun k hk e => by have := (owns_type HO2.out e).1; have := HWs.out; omega)))
  clear o3 k3 CS
  go_wp2_with fail
  refine CT.out.mono ?_
  rintro e w4 ⟨v', rfl, h1, b4⟩
  have H1 := Lib.hid h1
  have HB4 := Lib.hid (HB3.out.trans (b4.mono HB3.out.size))
  clear h1 b4 CT
  go_wp2_with fail
  refine bodyPost_ret (v := v') (by simp [results, Try.results25, go_sem]) rfl ?_
  exact ⟨v', rfl, H1.out.base HB3.out.size, HB4.out⟩
theorem pbest_any {w : World} {base g : Nat} {l : List Of} {N : Int} {vl : Value} (h : PB w base g l N vl) (hI : BInv l N) (s b : Int) :
    Calls Try.prog 25 #[.pointer (some ⟨g, 0, none⟩), .int .u8 s, .int .u8 b] w (ListPost w 39 7 (bestO l s b).length (ofCells (bestO l s b))) := by
  obtain ⟨ao, cap, rfl, _⟩ := owns_open h.row
  exact pbest_of (fun w' k => ball_any (h.below k).blk) h.row hI
theorem pbest_nil (w : World) (s b : Int) : Calls Try.prog 25 #[.pointer none, .int .u8 s, .int .u8 b] w (ListPost w 39 7 0 []) :=
  pbest_of (l := []) (N := 1) (fun w' _ => ball_nil w') (World.ownsRow_nil w 0 _ _) (BInv.nil (by omega) (by omega))
/-- A book that is not there, or that no call made. -/
structure VoidB (w : World) (pv : Value) : Prop where
  made : ∀ w', Below w.heap.size w w' → Calls Try.prog 39 #[pv] w' fun e w'' => e = .returned (.bool false) ∧ w' = w''
  all : ∀ w', Below w.heap.size w w' → Calls Try.prog 45 #[pv] w' fun e w'' => e = .returned (.slice none 0 0) ∧ w' = w''
  next : ∀ w', Below w.heap.size w w' → Calls Try.prog 33 #[pv] w' fun e w'' => e = .returned (.int .u64 0) ∧ w' = w''
theorem VoidB.below {w w' : World} {pv : Value} (h : VoidB w pv) (k : Below w.heap.size w w') : VoidB w' pv := ⟨fun w'' q => h.made w'' (andB k q), fun w'' q => h.all w'' (andB k q), fun w'' q => h.next w'' (andB k q)⟩
theorem voidB_nil (w : World) : VoidB w (.pointer none) := ⟨fun w' _ => pmade_nil w', fun w' _ => ball_nil w', fun w' _ => pnext_nil w'⟩
theorem voidB_zero {w : World} {g : Nat} (h : Blk w g #[.slice none 0 0, .int .u64 0] 63) : VoidB w (.pointer (some ⟨g, 0, none⟩)) := ⟨fun w' k => pmade_zero (h.below k h.lt), fun w' k => ball_any (h.below k h.lt), fun w' k => pnext_any (h.below k h.lt)⟩
theorem voidB_all {w : World} {pv : Value} (h : VoidB w pv) : Calls Try.prog 29 #[pv] w (ListPost w 39 7 0 []) := pall_of (l := []) (h.all w (Below.refl _ _)) (World.ownsRow_nil w 0 _ _) (by simp)
theorem voidB_best {w : World} {pv : Value} (h : VoidB w pv) (s b : Int) : Calls Try.prog 25 #[pv, .int .u8 s, .int .u8 b] w (ListPost w 39 7 0 []) := pbest_of (l := []) (N := 1) h.all (World.ownsRow_nil w 0 _ _) (BInv.nil (by omega) (by omega))
theorem voidB_cancel {w : World} {pv : Value} (h : VoidB w pv) (ow s : Int) : Calls Try.prog 18 #[pv, .int .u8 ow, .int .u64 s] w fun e w' => e = .returned (.tuple #[.int .i64 0, .int .i64 2]) ∧ Below w.heap.size w w' := by
  have C := Lib.hid (pstand_void (s := s) h.made)
  clear h
  go_enter Try.func18, Try.ntmps18
  go_wp2_with fail
  refine C.out.mono ?_
  rintro e w1 ⟨rfl, b1⟩
  have HB1 := Lib.hid b1
  clear b1 C
  go_wp2_with fail
  refine bodyPost_ret (v := .tuple #[.int .i64 0, .int .i64 2]) (by simp [results, Try.results18, go_sem]) rfl ?_
  exact ⟨rfl, HB1.out⟩
theorem voidB_take {w : World} {pv : Value} (h : VoidB w pv) (s n : Int) : Calls Try.prog 20 #[pv, .int .u64 s, .int .i64 n] w fun e w' => e = .returned (.int .i64 2) ∧ Below w.heap.size w w' := by
  have C := Lib.hid (pstand_void (s := s) h.made)
  clear h
  go_enter Try.func20, Try.ntmps20
  go_wp2_with fail
  refine C.out.mono ?_
  rintro e w1 ⟨rfl, b1⟩
  have HB1 := Lib.hid b1
  clear b1 C
  go_wp2_with fail
  go_ret
  exact ⟨rfl, HB1.out⟩
set_option maxHeartbeats 2000000 in
theorem voidB_find {w : World} {pv : Value} (h : VoidB w pv) (s : Int) : Calls Try.prog 23 #[pv, .int .u64 s] w fun e w' => e = .returned (.tuple #[noOf.val, .bool false]) ∧ Below w.heap.size w w' := by
  have bw := (Below.refl w.heap.size w).alloc (Nat.le_refl _) (.cells #[.int .u64 0, .int .u8 0, .int .u8 0, .int .u8 0, .int .i64 0, .int .i64 0, .int .i64 0] 39)
  have B := Lib.hid bw
  have C := Lib.hid (pstand_void (s := s) (h.below bw).made)
  have KR := Lib.hid (Blk.new w #[.int .u64 0, .int .u8 0, .int .u8 0, .int .u8 0, .int .i64 0, .int .i64 0, .int .i64 0] 39)
  clear h bw
  go_enter Try.func23, Try.ntmps23
  go_wp2_with fail
  refine C.out.mono ?_
  rintro e w1 ⟨rfl, b1⟩
  have KR1 := Lib.hid (KR.out.below b1 KR.out.lt)
  have B1 := Lib.hid (B.out.trans (b1.mono B.out.size))
  clear b1 C KR
  go_wp2_with (refine wpList_store_whole rfl 39 (.tmp 4) (.tmp 16) rfl w.heap.size #[.int .u64 0, .int .u8 0, .int .u8 0, .int .u8 0, .int .i64 0, .int .i64 0, .int .i64 0] rfl rfl 39 _ KR1.out.out (by kernel_rfl) rfl (by simp [Value.oneCell']) ?_)
  refine bodyPost_ret (v := .tuple #[noOf.val, .bool false]) (results_cell_and rfl _ _ w.heap.size 39 #[.int .u64 0, .int .u8 0, .int .u8 0, .int .u8 0, .int .i64 0, .int .i64 0, .int .i64 0] _ _ rfl (setRow_heap _ w.heap.size _ _ _ (0, 0) KR1.out.out) Try.underlying39 rfl (by kernel_rfl) rfl) rfl ⟨rfl, below_setRow B1.out (Nat.le_refl _) _⟩
theorem voidB_copy {w : World} {pv : Value} (h : VoidB w pv) : Calls Try.prog 14 #[pv] w fun e w' => e = .returned (.pointer none) ∧ w = w' := by
  have C := Lib.hid (h.made w (Below.refl _ _))
  clear h
  go_enter Try.func14, Try.ntmps14
  go_wp2_with fail
  refine C.out.mono ?_
  rintro e w ⟨rfl, rfl⟩
  go_wp2_with fail
  go_ret
  exact ⟨rfl, rfl⟩

end Go.Proofs.Ytdbdeodcldogmaa
