/-
  Pieces of one proof, without what is not wanted: FillsVoid, Ref04e.
-/
import Derived.Test.YtbieomgpfhloeaaV02
import Derived.Test.YtbieomgpfhloeaaV14
import Derived.Test.YtbieomgpfhloeaaV16
import Derived.Test.YtbieomgpfhloeaaV17
set_option linter.unusedSimpArgs false
set_option linter.unusedVariables false
namespace Go.Proofs.Ytbieomgpfhloeaa
open Go.RowKit
theorem answers_void10 {w : World} {lp : Option Addr} (h : Void w (.pointer lp)) : Answers w lp 2 (fun _ => false) :=
 ⟨fun w' k => void_open (h.below k) 0, fun w' k p => void_has (h.below k) p⟩
set_option maxHeartbeats 2000000 in
theorem vfind10 {w : World} {pv : Value} (hm : ∀ w', Below w.heap.size w w' → Calls Try.prog 47 #[pv] w' fun e w'' => e = .returned (.bool false) ∧ w' = w'') (s : Int) :
  Calls Try.prog 12 #[pv, .int .u64 s] w fun e w' => e = .returned (.tuple #[noOf.val, .bool false]) ∧ Below w.heap.size w w' := by
 have bw := (Below.refl w.heap.size w).alloc (Nat.le_refl _) (.cells #[.int .u64 0, .int .u8 0, .int .u8 0, .int .u8 0, .int .i64 0, .int .i64 0, .int .i64 0] 58)
 have B := Lib.hid bw
 have C := Lib.hid (pstand_void (s := s) (fun w' k => hm w' (andB bw k)))
 have KR := Lib.hid (Blk.new w #[.int .u64 0, .int .u8 0, .int .u8 0, .int .u8 0, .int .i64 0, .int .i64 0, .int .i64 0] 58)
 clear hm bw
 go_enter Try.func12, Try.ntmps12
 go_wp2_with fail
 refine C.out.mono ?_
 rintro e w1 ⟨rfl, b1⟩
 have KR1 := Lib.hid (KR.out.below b1 KR.out.lt)
 have B1 := Lib.hid (B.out.trans (b1.mono B.out.size))
 clear b1 C KR
 go_wp2_with (refine wpList_store_whole rfl 58 (.tmp 4) (.tmp 16) rfl w.heap.size #[.int .u64 0, .int .u8 0, .int .u8 0, .int .u8 0, .int .i64 0, .int .i64 0, .int .i64 0] rfl rfl 58 _ KR1.out.out (by kernel_rfl) rfl (by simp [Value.oneCell']) ?_)
 refine bodyPost_ret (v := .tuple #[noOf.val, .bool false]) (results_cell_and rfl _ _ w.heap.size 58 #[.int .u64 0, .int .u8 0, .int .u8 0, .int .u8 0, .int .i64 0, .int .i64 0, .int .i64 0] _ _ rfl (setRow_heap _ w.heap.size _ _ _ (0, 0) KR1.out.out) Try.underlying58 rfl (by kernel_rfl) rfl) rfl ⟨rfl, below_setRow B1.out (Nat.le_refl _) _⟩
theorem ledC_void10 : ledC [] (.map none) = #[.bool false, .bool false, .bool false, .bool false, .bool false, .bool false, .bool false, .bool false, .bool false, .bool false, .bool false, .bool false, .bool false, .bool false, .bool false, .bool false, .bool false, .map none] := by
 unfold ledC
 rfl
def VoidAt10 (W : World) (i : Value) (wr : World) : Prop := ∃ k : Nat, k ≤ 4 ∧ i = .int .i64 k ∧ Below W.heap.size W wr
structure Bare (w : World) (lp bp : Option Addr) (x : Af) : Prop where
 do_ : ∀ w', Below w.heap.size w w' → Calls Try.prog 7 #[.agg #[.pointer lp, .pointer bp], .int .u64 x.se, .int .u8 x.tk, .int .u8 x.pt, .int .i64 x.n] w' fun e w'' => e = .returned (.tuple #[noFill, .int .i64 2]) ∧ Below w'.heap.size w' w''
 may : ∀ w', Below w.heap.size w w' → Calls Try.prog 8 #[.agg #[.pointer lp, .pointer bp], .int .u64 x.se, .int .u8 x.tk, .int .u8 x.pt, .int .i64 x.n, .int .i64 x.mo] w' fun e w'' => e = .returned (.int .i64 0) ∧ Below w'.heap.size w' w''
theorem bare_of {w : World} {lp bp : Option Addr} {e0 N : Int} {has : Int → Bool} (x : Af) (h : Answers w lp e0 has) (hn : ∀ w', Below w.heap.size w w' → Calls Try.prog 35 #[.pointer bp] w' fun e w'' => e = .returned (.int .u64 N) ∧ w' = w'') (he : e0 = 2 ∨ N = 0)
  (hf : ∀ w', Below w.heap.size w w' → Calls Try.prog 12 #[.pointer bp, .int .u64 x.se] w' fun e w'' => e = .returned (.tuple #[noOf.val, .bool false]) ∧ Below w'.heap.size w' w'') : Bare w lp bp x :=
 ⟨fun w' k => hdo_void (h.below k) (fun w2 q => hn w2 (andB k q)) he x.se x.tk x.pt x.n, fun w' k => hmay_none (fun w2 q => hf w2 (andB k q)) x.tk x.pt x.n x.mo⟩
set_option maxHeartbeats 16000000 in
set_option maxRecDepth 100000 in
theorem fvoid10_walk (HL : Lives10) (x : Af) (w : World) (hx : x.Fits) :
  Calls Try.prog 3 #[.agg #[.int .u64 x.se, .int .u8 x.tk, .int .u8 x.pt, .int .i64 x.n, .int .i64 x.mo, .bool x.fu]] w fun e w' => e = .returned (.bool true) ∧ Below w.heap.size w w' := by
 clear hx
 have HLo := Lib.hid HL
 have b0 := (Below.refl w.heap.size w).alloc (Nat.le_refl _) (.cells #[.int .u64 x.se, .int .u8 x.tk, .int .u8 x.pt, .int .i64 x.n, .int .i64 x.mo, .bool x.fu] 25)
 have KA := Lib.hid (Blk.new w #[.int .u64 x.se, .int .u8 x.tk, .int .u8 x.pt, .int .i64 x.n, .int .i64 x.mo, .bool x.fu] 25)
 have B0 := Lib.hid b0
 clear b0 HL
 go_enter Try.func3, Try.ntmps3
 go_wp2_with fail
 generalize w.alloc (.cells #[.int .u64 x.se, .int .u8 x.tk, .int .u8 x.pt, .int .i64 x.n, .int .i64 x.mo, .bool x.fu] 25) = W0 at *
 refine (new_any W0).mono ?_
 rintro e w1 ⟨G, M, rfl, hL, _, _, b1⟩
 have L1 := Lib.hid hL
 have KA1 := Lib.hid (KA.out.below b1 KA.out.lt)
 have B1 := Lib.hid (B0.out.trans (b1.mono B0.out.size))
 clear hL b1 KA B0
 go_wp2_with fail
 refine (pnew_any w1 0 (by omega)).mono ?_
 rintro e w2 ⟨rfl, hP, b2⟩
 obtain ⟨gb, hgb⟩ : ∃ gb, w1.heap.size = gb := ⟨_, rfl⟩
 rw [hgb] at hP ⊢
 clear hgb
 have c1 := (Below.refl w2.heap.size w2).alloc (Nat.le_refl _) (.cells #[.bool false, .bool false, .bool false, .bool false, .bool false, .bool false, .bool false, .bool false, .bool false, .bool false, .bool false, .bool false, .bool false, .bool false, .bool false, .bool false, .bool false, .map none] 35)
 have c2 := c1.alloc c1.size (.cells #[.slice none 0 0, .int .u64 0] 38)
 have c3 := c2.alloc c2.size (.cells #[.pointer none, .pointer none, .pointer (some ⟨G, 0, none⟩), .pointer none, .pointer none, .pointer (some ⟨gb, 0, none⟩), .pointer (some ⟨w2.heap.size, 0, none⟩), .pointer (some ⟨w2.heap.size + 1, 0, none⟩)] 29)
 have b3 := b2.trans (c3.mono b2.size)
 have L3 := Lib.hid (L1.out.below b3)
 have P3 := Lib.hid (hP.below c3)
 have KA3 := Lib.hid (KA1.out.below b3 KA1.out.lt)
 have B3 := Lib.hid (B1.out.trans (b3.mono B1.out.size))
 have KL := Lib.hid (((Blk.new w2 #[.bool false, .bool false, .bool false, .bool false, .bool false, .bool false, .bool false, .bool false, .bool false, .bool false, .bool false, .bool false, .bool false, .bool false, .bool false, .bool false, .bool false, .map none] 35).alloc (.cells #[.slice none 0 0, .int .u64 0] 38)).alloc (.cells #[.pointer none, .pointer none, .pointer (some ⟨G, 0, none⟩), .pointer none, .pointer none, .pointer (some ⟨gb, 0, none⟩), .pointer (some ⟨w2.heap.size, 0, none⟩), .pointer (some ⟨w2.heap.size + 1, 0, none⟩)] 29))
 have KB := Lib.hid ((Blk.newAt (w2.alloc (.cells #[.bool false, .bool false, .bool false, .bool false, .bool false, .bool false, .bool false, .bool false, .bool false, .bool false, .bool false, .bool false, .bool false, .bool false, .bool false, .bool false, .bool false, .map none] 35)) #[.slice none 0 0, .int .u64 0] 38 (g := w2.heap.size + 1) (by simp)).alloc (.cells #[.pointer none, .pointer none, .pointer (some ⟨G, 0, none⟩), .pointer none, .pointer none, .pointer (some ⟨gb, 0, none⟩), .pointer (some ⟨w2.heap.size, 0, none⟩), .pointer (some ⟨w2.heap.size + 1, 0, none⟩)] 29))
 have KS := Lib.hid (Blk.newAt ((w2.alloc (.cells #[.bool false, .bool false, .bool false, .bool false, .bool false, .bool false, .bool false, .bool false, .bool false, .bool false, .bool false, .bool false, .bool false, .bool false, .bool false, .bool false, .bool false, .map none] 35)).alloc (.cells #[.slice none 0 0, .int .u64 0] 38)) #[.pointer none, .pointer none, .pointer (some ⟨G, 0, none⟩), .pointer none, .pointer none, .pointer (some ⟨gb, 0, none⟩), .pointer (some ⟨w2.heap.size, 0, none⟩), .pointer (some ⟨w2.heap.size + 1, 0, none⟩)] 29 (g := w2.heap.size + 2) (by simp))
 clear hP b2 b3 c1 c2 c3 KA1 B1 L1
 go_wp2_with fail
 generalize ((w2.alloc (.cells #[.bool false, .bool false, .bool false, .bool false, .bool false, .bool false, .bool false, .bool false, .bool false, .bool false, .bool false, .bool false, .bool false, .bool false, .bool false, .bool false, .bool false, .map none] 35)).alloc (.cells #[.slice none 0 0, .int .u64 0] 38)).alloc (.cells #[.pointer none, .pointer none, .pointer (some ⟨G, 0, none⟩), .pointer none, .pointer none, .pointer (some ⟨gb, 0, none⟩), .pointer (some ⟨w2.heap.size, 0, none⟩), .pointer (some ⟨w2.heap.size + 1, 0, none⟩)] 29) = W at *
 rw [← ledC_void10] at KL
 obtain ⟨S, hS⟩ : ∃ S, w2.heap.size + 2 = S := ⟨_, rfl⟩
 rw [show w2.heap.size + 1 + 1 = S from hS]
 rw [hS] at KS
 have HSS := Lib.hid hS
 clear hS
 obtain ⟨A1, hA1⟩ : ∃ A1, w2.heap.size = A1 := ⟨_, rfl⟩
 obtain ⟨A2, hA2⟩ : ∃ A2, w2.heap.size + 1 = A2 := ⟨_, rfl⟩
 rw [hA2] at KS KB
 rw [hA1] at KS KL
 clear hA1 hA2
 go_loopw [4, 5, 6] (fun i _ _ wr => VoidAt10 W i wr) (fun i _ _ _ => 4 - (intOf i).toNat)
 case atStart => exact ⟨0, by omega, rfl, Below.refl _ _⟩
 case round =>
  obtain ⟨k, hk, rfl, hbr⟩ := hrel
  by_cases hk4 : k < 4
  ·obtain ⟨lp, bp, HB, HS0⟩ : ∃ lp bp, Hid (Bare wr lp bp x) ∧ Hid (∀ w', Below wr.heap.size wr w' → S < w'.heap.size ∧ w'.cell? ⟨S, k * 2, none⟩ = some (.pointer lp) ∧ w'.cell? ⟨S, k * 2 + 1, none⟩ = some (.pointer bp)) := by
    have ks := KS.out.below hbr KS.out.lt
    have kl := KL.out.below hbr KL.out.lt
    have kb := KB.out.below hbr KB.out.lt
    have ll := L3.out.below hbr
    have pp := P3.out.below hbr
    rcases (by omega : k = 0 ∨ k = 1 ∨ k = 2 ∨ k = 3) with rfl | rfl | rfl | rfl
    ·exact ⟨none, none, Lib.hid (bare_of x (answers_void10 (void_nil wr)) (fun w' _ => pnext_nil w') (.inl rfl) (fun w' _ => vfind10 (fun w2 _ => pmade_nil w2) x.se)), Lib.hid fun w' h => ⟨(ks.below h ks.lt).lt, (by simpa using (ks.below h ks.lt).cell 0), (by simpa using (ks.below h ks.lt).cell 1)⟩⟩
    ·exact ⟨_, none, Lib.hid (bare_of x (answers_led ll LInv.nil) (fun w' _ => pnext_nil w') (.inr rfl) (fun w' _ => vfind10 (fun w2 _ => pmade_nil w2) x.se)), Lib.hid fun w' h => ⟨(ks.below h ks.lt).lt, (by simpa using (ks.below h ks.lt).cell 2), (by simpa using (ks.below h ks.lt).cell 3)⟩⟩
    ·exact ⟨none, _, Lib.hid (bare_of x (answers_void10 (void_nil wr)) (fun w' q => pnext_any (pp.below q).blk) (.inl rfl) (fun w' q => pfind_any (pp.below q) (by omega) x.se)), Lib.hid fun w' h => ⟨(ks.below h ks.lt).lt, (by simpa using (ks.below h ks.lt).cell 4), (by simpa using (ks.below h ks.lt).cell 5)⟩⟩
    ·exact ⟨_, _, Lib.hid (bare_of x (answers_void10 (void_zero kl)) (fun w' q => pnext_any (kb.below q kb.lt)) (.inl rfl) (fun w' q => vfind10 (fun w2 q2 => pmade_zero (kb.below (andB q q2) kb.lt)) x.se)), Lib.hid fun w' h => ⟨(ks.below h ks.lt).lt, (by simpa using (ks.below h ks.lt).cell 6), (by simpa using (ks.below h ks.lt).cell 7)⟩⟩
   have KAr := Lib.hid (KA3.out.below hbr KA3.out.lt)
   have BR := Lib.hid hbr
   have CD := Lib.hid HB.out.do_
   have HK := Lib.hid hk4
   have hki : (k : Int) < 4 := by omega
   have hk0 : (0 : Int) ≤ (k : Int) := by omega
   have hk3 : (k : Int) + 1 ≤ 9 := by omega
   clear hbr
   go_wp2_with fail
   refine region_ghost (by kernel_rfl) (fun g : Nat → Nat => [(.slice (some ⟨S, 0, none⟩) 4 4), (.int .i64 k), (.pointer (some ⟨S, k * 2, none⟩)), (.agg #[.pointer lp, .pointer bp]), (.pointer (some ⟨w.heap.size, 0, none⟩)), (.int .u64 x.se), (.pointer (some ⟨w.heap.size, 1, none⟩)), (.int .u8 x.tk), (.pointer (some ⟨w.heap.size, 2, none⟩)), (.int .u8 x.pt), (.pointer (some ⟨w.heap.size, 3, none⟩)), (.int .i64 x.n), (.tuple #[noFill, .int .i64 2]), (.tuple #[noFill, .int .i64 2]), noFill, (.int .i64 2), (.pointer (some ⟨g 16, 0, none⟩)), undef, (.int .i64 2)])
    (Lays wr [(⟨16, 17, (.cells #[.int .u64 0, .int .u8 0, .int .u8 0, .int .i64 0, .int .i64 0] 41), (.cells #[.int .u64 0, .int .u8 0, .int .u8 0, .int .i64 0, .int .i64 0] 41)⟩ : Spec)]) (by kernel_rfl) (fun _ => 0) (Lays.start _ _ _) ?_
   intro AF hAF
   simp only [List.toList_toArray, puts, Act.put, List.getD_cons_zero, List.getD_cons_succ, List.setIfInBounds_toArray, List.set_cons_succ, List.set_cons_zero] at hAF
   have hAF2 : _ = AF := funext hAF
   subst hAF2
   clear hAF
   refine ⟨?_, ?_⟩
   ·simp only [List.toList_toArray, EachG]
    refine ⟨?_, ?_, ?_, ?_, ?_, ?_, ?_, ?_, ?_, ?_, ?_, ?_, ?_, ?_, ?_, ?_, ?_, ?_, ?_, trivial⟩
    ·intro g D w' hD hW hC hI
     refine ⟨g, fun _ _ _ => rfl, ?_⟩
     with_reducible refine OpTo.plain ?_ ?_
     exact rfl
     have hS := hI.below
     have HS := Lib.hid (hI.step (Below.refl _ _) (k := 0) (by rfl))
     clear hI hS hC hW hD
     go_wp2_with fail
     all_goals first | exact HS.out | exact ⟨rfl, HS.out⟩ | rfl
    ·intro g D w' hD hW hC hI
     refine ⟨g, fun _ _ _ => rfl, ?_⟩
     with_reducible refine OpTo.plain ?_ ?_
     exact rfl
     have hS := hI.below
     have HS := Lib.hid (hI.step (Below.refl _ _) (k := 1) (by rfl))
     clear hI hS hC hW hD
     go_wp2_with fail
     all_goals first | exact HS.out | exact ⟨rfl, HS.out⟩ | rfl
    ·intro g D w' hD hW hC hI
     refine ⟨g, fun _ _ _ => rfl, ?_⟩
     with_reducible refine OpTo.plain ?_ ?_
     exact rfl
     have hS := hI.below
     obtain ⟨hsl, hc0, hc1⟩ := HS0.out w' hS
     have HS := Lib.hid (hI.step (Below.refl _ _) (k := 2) (by rfl))
     clear hI hS hC hW hD
     go_wp2_with fail
     all_goals first | exact HS.out | exact ⟨rfl, HS.out⟩ | rfl
    ·intro g D w' hD hW hC hI
     refine ⟨g, fun _ _ _ => rfl, ?_⟩
     with_reducible refine OpTo.plain ?_ ?_
     exact rfl
     have hS := hI.below
     obtain ⟨hsl, hc0, hc1⟩ := HS0.out w' hS
     have HS := Lib.hid (hI.step (Below.refl _ _) (k := 3) (by rfl))
     clear hI hS hC hW hD
     go_wp2_with fail
     all_goals first | exact HS.out | exact ⟨rfl, HS.out⟩ | rfl
    ·intro g D w' hD hW hC hI
     refine ⟨g, fun _ _ _ => rfl, ?_⟩
     with_reducible refine OpTo.plain ?_ ?_
     exact rfl
     have hS := hI.below
     have kx := KAr.out.below hS KAr.out.lt
     have hl := kx.lt
     have e0 := kx.cell 0; have e1 := kx.cell 1; have e2 := kx.cell 2; have e3 := kx.cell 3; have e4 := kx.cell 4
     simp at e0 e1 e2 e3 e4
     clear kx
     have HS := Lib.hid (hI.step (Below.refl _ _) (k := 4) (by rfl))
     clear hI hS hC hW hD
     go_wp2_with fail
     all_goals first | exact HS.out | exact ⟨rfl, HS.out⟩ | rfl
    ·intro g D w' hD hW hC hI
     refine ⟨g, fun _ _ _ => rfl, ?_⟩
     with_reducible refine OpTo.plain ?_ ?_
     exact rfl
     have hS := hI.below
     have kx := KAr.out.below hS KAr.out.lt
     have hl := kx.lt
     have e0 := kx.cell 0; have e1 := kx.cell 1; have e2 := kx.cell 2; have e3 := kx.cell 3; have e4 := kx.cell 4
     simp at e0 e1 e2 e3 e4
     clear kx
     have HS := Lib.hid (hI.step (Below.refl _ _) (k := 5) (by rfl))
     clear hI hS hC hW hD
     go_wp2_with fail
     all_goals first | exact HS.out | exact ⟨rfl, HS.out⟩ | rfl
    ·intro g D w' hD hW hC hI
     refine ⟨g, fun _ _ _ => rfl, ?_⟩
     with_reducible refine OpTo.plain ?_ ?_
     exact rfl
     have hS := hI.below
     have kx := KAr.out.below hS KAr.out.lt
     have hl := kx.lt
     have e0 := kx.cell 0; have e1 := kx.cell 1; have e2 := kx.cell 2; have e3 := kx.cell 3; have e4 := kx.cell 4
     simp at e0 e1 e2 e3 e4
     clear kx
     have HS := Lib.hid (hI.step (Below.refl _ _) (k := 6) (by rfl))
     clear hI hS hC hW hD
     go_wp2_with fail
     all_goals first | exact HS.out | exact ⟨rfl, HS.out⟩ | rfl
    ·intro g D w' hD hW hC hI
     refine ⟨g, fun _ _ _ => rfl, ?_⟩
     with_reducible refine OpTo.plain ?_ ?_
     exact rfl
     have hS := hI.below
     have kx := KAr.out.below hS KAr.out.lt
     have hl := kx.lt
     have e0 := kx.cell 0; have e1 := kx.cell 1; have e2 := kx.cell 2; have e3 := kx.cell 3; have e4 := kx.cell 4
     simp at e0 e1 e2 e3 e4
     clear kx
     have HS := Lib.hid (hI.step (Below.refl _ _) (k := 7) (by rfl))
     clear hI hS hC hW hD
     go_wp2_with fail
     all_goals first | exact HS.out | exact ⟨rfl, HS.out⟩ | rfl
    ·intro g D w' hD hW hC hI
     refine ⟨g, fun _ _ _ => rfl, ?_⟩
     with_reducible refine OpTo.plain ?_ ?_
     exact rfl
     have hS := hI.below
     have kx := KAr.out.below hS KAr.out.lt
     have hl := kx.lt
     have e0 := kx.cell 0; have e1 := kx.cell 1; have e2 := kx.cell 2; have e3 := kx.cell 3; have e4 := kx.cell 4
     simp at e0 e1 e2 e3 e4
     clear kx
     have HS := Lib.hid (hI.step (Below.refl _ _) (k := 8) (by rfl))
     clear hI hS hC hW hD
     go_wp2_with fail
     all_goals first | exact HS.out | exact ⟨rfl, HS.out⟩ | rfl
    ·intro g D w' hD hW hC hI
     refine ⟨g, fun _ _ _ => rfl, ?_⟩
     with_reducible refine OpTo.plain ?_ ?_
     exact rfl
     have hS := hI.below
     have kx := KAr.out.below hS KAr.out.lt
     have hl := kx.lt
     have e0 := kx.cell 0; have e1 := kx.cell 1; have e2 := kx.cell 2; have e3 := kx.cell 3; have e4 := kx.cell 4
     simp at e0 e1 e2 e3 e4
     clear kx
     have HS := Lib.hid (hI.step (Below.refl _ _) (k := 9) (by rfl))
     clear hI hS hC hW hD
     go_wp2_with fail
     all_goals first | exact HS.out | exact ⟨rfl, HS.out⟩ | rfl
    ·intro g D w' hD hW hC hI
     refine ⟨g, fun _ _ _ => rfl, ?_⟩
     with_reducible refine OpTo.plain ?_ ?_
     exact rfl
     have hS := hI.below
     have kx := KAr.out.below hS KAr.out.lt
     have hl := kx.lt
     have e0 := kx.cell 0; have e1 := kx.cell 1; have e2 := kx.cell 2; have e3 := kx.cell 3; have e4 := kx.cell 4
     simp at e0 e1 e2 e3 e4
     clear kx
     have HS := Lib.hid (hI.step (Below.refl _ _) (k := 10) (by rfl))
     clear hI hS hC hW hD
     go_wp2_with fail
     all_goals first | exact HS.out | exact ⟨rfl, HS.out⟩ | rfl
    ·intro g D w' hD hW hC hI
     refine ⟨g, fun _ _ _ => rfl, ?_⟩
     with_reducible refine OpTo.plain ?_ ?_
     exact rfl
     have hS := hI.below
     have kx := KAr.out.below hS KAr.out.lt
     have hl := kx.lt
     have e0 := kx.cell 0; have e1 := kx.cell 1; have e2 := kx.cell 2; have e3 := kx.cell 3; have e4 := kx.cell 4
     simp at e0 e1 e2 e3 e4
     clear kx
     have HS := Lib.hid (hI.step (Below.refl _ _) (k := 11) (by rfl))
     clear hI hS hC hW hD
     go_wp2_with fail
     all_goals first | exact HS.out | exact ⟨rfl, HS.out⟩ | rfl
    ·intro g D w' hD hW hC hI
     refine ⟨g, fun _ _ _ => rfl, ?_⟩
     with_reducible refine OpTo.plain ?_ ?_
     exact rfl
     have hS := hI.below
     have HI := Lib.hid hI
     have HC := Lib.hid (CD.out w' hS)
     clear hI hS hC hW hD
     go_wp2_with fail
     refine HC.out.mono ?_
     rintro e w'' ⟨rfl, hb2⟩
     exact ⟨rfl, HI.out.step hb2 (by rfl)⟩
    ·intro g D w' hD hW hC hI
     refine ⟨g, fun _ _ _ => rfl, ?_⟩
     with_reducible refine OpTo.plain ?_ ?_
     exact rfl
     have hS := hI.below
     have HS := Lib.hid (hI.step (Below.refl _ _) (k := 13) (by rfl))
     clear hI hS hC hW hD
     go_wp2_with fail
     all_goals first | exact HS.out | exact ⟨rfl, HS.out⟩ | rfl
    ·intro g D w' hD hW hC hI
     refine ⟨g, fun _ _ _ => rfl, ?_⟩
     with_reducible refine OpTo.plain ?_ ?_
     exact rfl
     have hS := hI.below
     have HS := Lib.hid (hI.step (Below.refl _ _) (k := 14) (by rfl))
     clear hI hS hC hW hD
     go_wp2_with fail
     all_goals first | exact HS.out | exact ⟨rfl, HS.out⟩ | rfl
    ·intro g D w' hD hW hC hI
     refine ⟨g, fun _ _ _ => rfl, ?_⟩
     with_reducible refine OpTo.plain ?_ ?_
     exact rfl
     have hS := hI.below
     have HS := Lib.hid (hI.step (Below.refl _ _) (k := 15) (by rfl))
     clear hI hS hC hW hD
     go_wp2_with fail
     all_goals first | exact HS.out | exact ⟨rfl, HS.out⟩ | rfl
    ·intro g D w' hD hW hC hI
     have hN : D 17 = false := waits_not hC hD 20 17 (by kernel_rfl)
     refine ⟨upd g 16 w'.heap.size, vals_upd _ (fun g : Nat → Nat => [(.slice (some ⟨S, 0, none⟩) 4 4), (.int .i64 k), (.pointer (some ⟨S, k * 2, none⟩)), (.agg #[.pointer lp, .pointer bp]), (.pointer (some ⟨w.heap.size, 0, none⟩)), (.int .u64 x.se), (.pointer (some ⟨w.heap.size, 1, none⟩)), (.int .u8 x.tk), (.pointer (some ⟨w.heap.size, 2, none⟩)), (.int .u8 x.pt), (.pointer (some ⟨w.heap.size, 3, none⟩)), (.int .i64 x.n), (.tuple #[noFill, .int .i64 2]), (.tuple #[noFill, .int .i64 2]), noFill, (.int .i64 2), (.pointer (some ⟨g 16, 0, none⟩)), undef, (.int .i64 2)]) g 16 _ 20 hC hD ?_, ?_⟩
     ·intro j hj
      match j, hj with
      | 0, _ => exact .inr rfl
      | 1, _ => exact .inr rfl
      | 2, _ => exact .inr rfl
      | 3, _ => exact .inr rfl
      | 4, _ => exact .inr rfl
      | 5, _ => exact .inr rfl
      | 6, _ => exact .inr rfl
      | 7, _ => exact .inr rfl
      | 8, _ => exact .inr rfl
      | 9, _ => exact .inr rfl
      | 10, _ => exact .inr rfl
      | 11, _ => exact .inr rfl
      | 12, _ => exact .inr rfl
      | 13, _ => exact .inr rfl
      | 14, _ => exact .inr rfl
      | 15, _ => exact .inr rfl
      | 16, _ => exact .inl (.inl rfl)
      | 17, _ => exact .inr rfl
      | 18, _ => exact .inr rfl
      | j + 19, _ => exact .inr rfl
     with_reducible refine OpTo.plain ?_ ?_
     exact rfl
     have HS := Lib.hid (hI.lay (⟨16, 17, (.cells #[.int .u64 0, .int .u8 0, .int .u8 0, .int .i64 0, .int .i64 0] 41), (.cells #[.int .u64 0, .int .u8 0, .int .u8 0, .int .i64 0, .int .i64 0] 41)⟩ : Spec) (by simp) (by rfl) (.inr hN) (by rfl) (fun s' hs' _ => List.mem_singleton.1 hs') (.cells #[.int .u64 0, .int .u8 0, .int .u8 0, .int .i64 0, .int .i64 0] 41) rfl)
     clear hI hC hW hD hN
     go_wp2_with fail
     all_goals first | exact HS.out | exact ⟨rfl, HS.out⟩ | rfl
    ·intro g D w' hD hW hC hI
     have hP : D 16 = true := waited_done hC hW (d := 20) (by kernel_rfl)
     obtain ⟨hg, hk⟩ := hI.zeroed (⟨16, 17, (.cells #[.int .u64 0, .int .u8 0, .int .u8 0, .int .i64 0, .int .i64 0] 41), (.cells #[.int .u64 0, .int .u8 0, .int .u8 0, .int .i64 0, .int .i64 0] 41)⟩ : Spec) (by simp) hP hD
     refine ⟨g, fun _ _ _ => rfl, ?_⟩
     with_reducible refine OpTo.plain ?_ ?_
     exact rfl
     refine wp_store_row 41 (.tmp 5) (.tmp 38) rfl (g 16) #[.int .u64 0, .int .u8 0, .int .u8 0, .int .i64 0, .int .i64 0] rfl rfl 41 _ hk (by kernel_rfl) rfl (by simp [Value.oneCell']) ⟨rfl, ?_⟩
     exact hI.fill (⟨16, 17, (.cells #[.int .u64 0, .int .u8 0, .int .u8 0, .int .i64 0, .int .i64 0] 41), (.cells #[.int .u64 0, .int .u8 0, .int .u8 0, .int .i64 0, .int .i64 0] 41)⟩ : Spec) (by simp) (by rfl) (show (17 : Nat) ≠ 16 by decide) (fun s' hs' _ => List.mem_singleton.1 hs') hP (below_keepRow _ _) (setRow_heap w' (g 16) _ _ 41 (0, 0) hk)
    ·intro g D w' hD hW hC hI
     refine ⟨g, fun _ _ _ => rfl, ?_⟩
     with_reducible refine OpTo.plain ?_ ?_
     exact rfl
     have hS := hI.below
     have HS := Lib.hid (hI.step (Below.refl _ _) (k := 18) (by rfl))
     clear hI hS hC hW hD
     go_wp2_with fail
     all_goals first | exact HS.out | exact ⟨rfl, HS.out⟩ | rfl
   intro g D W5 hall hI
   have KFr := Lib.hid (show Blk W5 (g 16) #[.int .u64 0, .int .u8 0, .int .u8 0, .int .i64 0, .int .i64 0] 41 from (hI.full (⟨16, 17, (.cells #[.int .u64 0, .int .u8 0, .int .u8 0, .int .i64 0, .int .i64 0] 41), (.cells #[.int .u64 0, .int .u8 0, .int .u8 0, .int .i64 0, .int .i64 0] 41)⟩ : Spec) (by simp) (hall 16 (by decide)) (hall 17 (by decide))).2)
   have b5 := hI.below
   have KA5 := Lib.hid (KAr.out.below b5 KAr.out.lt)
   have HS5 := Lib.hid (fun w' (h : Below W5.heap.size W5 w') => HS0.out w' (andB b5 h))
   have CMy := Lib.hid (fun w' (h : Below W5.heap.size W5 w') => HB.out.may w' (andB b5 h))
   have B5 := Lib.hid (BR.out.trans (b5.mono BR.out.size))
   clear b5 hall hI CD BR HS0 KAr
   have KAr := Lib.hid KA5.out
   have HS0 := Lib.hid HS5.out
   clear KA5 HS5
   go_wp2_with fail
   refine region_still (by kernel_rfl) [(.int .i64 2), (.bool false), (.bool false), (.agg #[.int .u64 0, .int .u8 0, .int .u8 0, .int .i64 0, .int .i64 0]), (.agg #[.int .u64 0, .int .u8 0, .int .u8 0, .int .i64 0, .int .i64 0]), (.bool false), (.bool false), (.bool false), (.slice (some ⟨S, 0, none⟩) 4 4), (.int .i64 k), (.pointer (some ⟨S, k * 2, none⟩)), (.agg #[.pointer lp, .pointer bp]), (.pointer (some ⟨w.heap.size, 0, none⟩)), (.int .u64 x.se), (.pointer (some ⟨w.heap.size, 1, none⟩)), (.int .u8 x.tk), (.pointer (some ⟨w.heap.size, 2, none⟩)), (.int .u8 x.pt), (.pointer (some ⟨w.heap.size, 3, none⟩)), (.int .i64 x.n), (.pointer (some ⟨w.heap.size, 4, none⟩)), (.int .i64 x.mo), (.int .i64 0), (.bool false), (.bool false)]
    (fun w' => Below W5.heap.size W5 w') (by kernel_rfl) (Below.refl _ _).drew ?_
   intro af haf
   simp only [List.toList_toArray, List.append_eq, List.cons_append, List.nil_append, puts, Act.put, List.getD_cons_zero, List.getD_cons_succ, List.setIfInBounds_toArray, List.set_cons_succ, List.set_cons_zero] at haf
   subst haf
   refine ⟨?_, ?_⟩
   ·simp only [List.toList_toArray, List.append_eq, List.cons_append, List.nil_append, EachTo]
    refine ⟨?_, ?_, ?_, ?_, ?_, ?_, ?_, ?_, ?_, ?_, ?_, ?_, ?_, ?_, ?_, ?_, ?_, ?_, ?_, ?_, ?_, ?_, ?_, ?_, ?_, trivial⟩
    ·intro w' hS
     refine OpTo.plain ?_ ?_
     exact rfl
     have HS := Lib.hid hS
     clear hS
     go_wp2_with fail
     all_goals first | exact HS.out | exact ⟨rfl, HS.out⟩ | rfl | exact ⟨by omega, HS.out⟩
    ·intro w' hS
     refine OpTo.plain ?_ ?_
     exact rfl
     have HS := Lib.hid hS
     clear hS
     go_wp2_with fail
     all_goals first | exact HS.out | exact ⟨rfl, HS.out⟩ | rfl | exact ⟨by omega, HS.out⟩
    ·intro w' hS
     refine OpTo.plain ?_ ?_
     exact rfl
     have HS := Lib.hid hS
     clear hS
     go_wp2_with fail
     all_goals first | exact HS.out | exact ⟨rfl, HS.out⟩ | rfl | exact ⟨by omega, HS.out⟩
    ·intro w' hS
     refine OpTo.wanted ?_ ?_
     kernel_rfl
     have kf := KFr.out.below hS KFr.out.lt
     have hl := kf.lt
     have f0 := kf.cell 0; have f1 := kf.cell 1; have f2 := kf.cell 2; have f3 := kf.cell 3; have f4 := kf.cell 4
     simp at f0 f1 f2 f3 f4
     clear kf
     have HS := Lib.hid hS
     clear hS
     go_wp2_with fail
     all_goals first | exact HS.out | exact ⟨rfl, HS.out⟩ | rfl | exact ⟨by omega, HS.out⟩
    ·intro w' hS
     refine OpTo.wanted ?_ ?_
     kernel_rfl
     have HS := Lib.hid hS
     clear hS
     go_wp2_with fail
     all_goals first | exact HS.out | exact ⟨rfl, HS.out⟩ | rfl | exact ⟨by omega, HS.out⟩
    ·intro w' hS
     refine OpTo.wanted ?_ ?_
     kernel_rfl
     have HS := Lib.hid hS
     clear hS
     go_wp2_with fail
     all_goals first | exact HS.out | exact ⟨rfl, HS.out⟩ | rfl | exact ⟨by omega, HS.out⟩
    ·intro w' hS
     refine OpTo.plain ?_ ?_
     exact rfl
     have HS := Lib.hid hS
     clear hS
     go_wp2_with fail
     all_goals first | exact HS.out | exact ⟨rfl, HS.out⟩ | rfl | exact ⟨by omega, HS.out⟩
    ·intro w' hS
     refine OpTo.plain ?_ ?_
     exact rfl
     have HS := Lib.hid hS
     clear hS
     go_wp2_with fail
     all_goals first | exact HS.out | exact ⟨rfl, HS.out⟩ | rfl | exact ⟨by omega, HS.out⟩
    ·intro w' hS
     refine OpTo.wanted ?_ ?_
     kernel_rfl
     have HS := Lib.hid hS
     clear hS
     go_wp2_with fail
     all_goals first | exact HS.out | exact ⟨rfl, HS.out⟩ | rfl | exact ⟨by omega, HS.out⟩
    ·intro w' hS
     refine OpTo.wanted ?_ ?_
     kernel_rfl
     have HS := Lib.hid hS
     clear hS
     go_wp2_with fail
     all_goals first | exact HS.out | exact ⟨rfl, HS.out⟩ | rfl | exact ⟨by omega, HS.out⟩
    ·intro w' hS
     refine OpTo.wanted ?_ ?_
     kernel_rfl
     obtain ⟨hsl, hc0, hc1⟩ := HS0.out w' hS
     have HS := Lib.hid hS
     clear hS
     go_wp2_with fail
     all_goals first | exact HS.out | exact ⟨rfl, HS.out⟩ | rfl | exact ⟨by omega, HS.out⟩
    ·intro w' hS
     refine OpTo.wanted ?_ ?_
     kernel_rfl
     obtain ⟨hsl, hc0, hc1⟩ := HS0.out w' hS
     have HS := Lib.hid hS
     clear hS
     go_wp2_with fail
     all_goals first | exact HS.out | exact ⟨rfl, HS.out⟩ | rfl | exact ⟨by omega, HS.out⟩
    ·intro w' hS
     refine OpTo.wanted ?_ ?_
     kernel_rfl
     have kx := KAr.out.below hS KAr.out.lt
     have hl := kx.lt
     have e0 := kx.cell 0; have e1 := kx.cell 1; have e2 := kx.cell 2; have e3 := kx.cell 3; have e4 := kx.cell 4
     simp at e0 e1 e2 e3 e4
     clear kx
     have HS := Lib.hid hS
     clear hS
     go_wp2_with fail
     all_goals first | exact HS.out | exact ⟨rfl, HS.out⟩ | rfl | exact ⟨by omega, HS.out⟩
    ·intro w' hS
     refine OpTo.wanted ?_ ?_
     kernel_rfl
     have kx := KAr.out.below hS KAr.out.lt
     have hl := kx.lt
     have e0 := kx.cell 0; have e1 := kx.cell 1; have e2 := kx.cell 2; have e3 := kx.cell 3; have e4 := kx.cell 4
     simp at e0 e1 e2 e3 e4
     clear kx
     have HS := Lib.hid hS
     clear hS
     go_wp2_with fail
     all_goals first | exact HS.out | exact ⟨rfl, HS.out⟩ | rfl | exact ⟨by omega, HS.out⟩
    ·intro w' hS
     refine OpTo.wanted ?_ ?_
     kernel_rfl
     have kx := KAr.out.below hS KAr.out.lt
     have hl := kx.lt
     have e0 := kx.cell 0; have e1 := kx.cell 1; have e2 := kx.cell 2; have e3 := kx.cell 3; have e4 := kx.cell 4
     simp at e0 e1 e2 e3 e4
     clear kx
     have HS := Lib.hid hS
     clear hS
     go_wp2_with fail
     all_goals first | exact HS.out | exact ⟨rfl, HS.out⟩ | rfl | exact ⟨by omega, HS.out⟩
    ·intro w' hS
     refine OpTo.wanted ?_ ?_
     kernel_rfl
     have kx := KAr.out.below hS KAr.out.lt
     have hl := kx.lt
     have e0 := kx.cell 0; have e1 := kx.cell 1; have e2 := kx.cell 2; have e3 := kx.cell 3; have e4 := kx.cell 4
     simp at e0 e1 e2 e3 e4
     clear kx
     have HS := Lib.hid hS
     clear hS
     go_wp2_with fail
     all_goals first | exact HS.out | exact ⟨rfl, HS.out⟩ | rfl | exact ⟨by omega, HS.out⟩
    ·intro w' hS
     refine OpTo.wanted ?_ ?_
     kernel_rfl
     have kx := KAr.out.below hS KAr.out.lt
     have hl := kx.lt
     have e0 := kx.cell 0; have e1 := kx.cell 1; have e2 := kx.cell 2; have e3 := kx.cell 3; have e4 := kx.cell 4
     simp at e0 e1 e2 e3 e4
     clear kx
     have HS := Lib.hid hS
     clear hS
     go_wp2_with fail
     all_goals first | exact HS.out | exact ⟨rfl, HS.out⟩ | rfl | exact ⟨by omega, HS.out⟩
    ·intro w' hS
     refine OpTo.wanted ?_ ?_
     kernel_rfl
     have kx := KAr.out.below hS KAr.out.lt
     have hl := kx.lt
     have e0 := kx.cell 0; have e1 := kx.cell 1; have e2 := kx.cell 2; have e3 := kx.cell 3; have e4 := kx.cell 4
     simp at e0 e1 e2 e3 e4
     clear kx
     have HS := Lib.hid hS
     clear hS
     go_wp2_with fail
     all_goals first | exact HS.out | exact ⟨rfl, HS.out⟩ | rfl | exact ⟨by omega, HS.out⟩
    ·intro w' hS
     refine OpTo.wanted ?_ ?_
     kernel_rfl
     have kx := KAr.out.below hS KAr.out.lt
     have hl := kx.lt
     have e0 := kx.cell 0; have e1 := kx.cell 1; have e2 := kx.cell 2; have e3 := kx.cell 3; have e4 := kx.cell 4
     simp at e0 e1 e2 e3 e4
     clear kx
     have HS := Lib.hid hS
     clear hS
     go_wp2_with fail
     all_goals first | exact HS.out | exact ⟨rfl, HS.out⟩ | rfl | exact ⟨by omega, HS.out⟩
    ·intro w' hS
     refine OpTo.wanted ?_ ?_
     kernel_rfl
     have kx := KAr.out.below hS KAr.out.lt
     have hl := kx.lt
     have e0 := kx.cell 0; have e1 := kx.cell 1; have e2 := kx.cell 2; have e3 := kx.cell 3; have e4 := kx.cell 4
     simp at e0 e1 e2 e3 e4
     clear kx
     have HS := Lib.hid hS
     clear hS
     go_wp2_with fail
     all_goals first | exact HS.out | exact ⟨rfl, HS.out⟩ | rfl | exact ⟨by omega, HS.out⟩
    ·intro w' hS
     refine OpTo.wanted ?_ ?_
     kernel_rfl
     have kx := KAr.out.below hS KAr.out.lt
     have hl := kx.lt
     have e0 := kx.cell 0; have e1 := kx.cell 1; have e2 := kx.cell 2; have e3 := kx.cell 3; have e4 := kx.cell 4
     simp at e0 e1 e2 e3 e4
     clear kx
     have HS := Lib.hid hS
     clear hS
     go_wp2_with fail
     all_goals first | exact HS.out | exact ⟨rfl, HS.out⟩ | rfl | exact ⟨by omega, HS.out⟩
    ·intro w' hS
     refine OpTo.wanted ?_ ?_
     kernel_rfl
     have kx := KAr.out.below hS KAr.out.lt
     have hl := kx.lt
     have e0 := kx.cell 0; have e1 := kx.cell 1; have e2 := kx.cell 2; have e3 := kx.cell 3; have e4 := kx.cell 4
     simp at e0 e1 e2 e3 e4
     clear kx
     have HS := Lib.hid hS
     clear hS
     go_wp2_with fail
     all_goals first | exact HS.out | exact ⟨rfl, HS.out⟩ | rfl | exact ⟨by omega, HS.out⟩
    ·intro w' hS
     refine OpTo.wanted ?_ ?_
     kernel_rfl
     have HS := Lib.hid hS
     clear hS
     go_wp2_with fail
     refine (CMy.out w' HS.out).mono ?_
     rintro e w'' ⟨rfl, hb2⟩
     exact ⟨rfl, andB HS.out hb2⟩
    ·intro w' hS
     refine OpTo.wanted ?_ ?_
     kernel_rfl
     have HS := Lib.hid hS
     clear hS
     go_wp2_with fail
     all_goals first | exact HS.out | exact ⟨rfl, HS.out⟩ | rfl | exact ⟨by omega, HS.out⟩
    ·intro w' hS
     refine OpTo.plain ?_ ?_
     exact rfl
     have HS := Lib.hid hS
     clear hS
     go_wp2_with fail
     all_goals first | exact HS.out | exact ⟨rfl, HS.out⟩ | rfl | exact ⟨by omega, HS.out⟩
   intro w' hS
   have B6 := Lib.hid (B5.out.trans (hS.mono B5.out.size))
   clear hS
   go_wp2_with fail
   exact ⟨⟨k + 1, by have := HK.out; omega, by go_num, B6.out⟩, by simp [intOf]; have := HK.out; omega⟩
  ·have hk44 : k = 4 := by omega
   subst hk44
   have BR := Lib.hid hbr
   clear hbr
   go_wp2_with fail
   refine (HLo.out _).mono ?_
   rintro e w9 ⟨rfl, b9⟩
   have B9 := Lib.hid (B3.out.trans ((BR.out.trans (b9.mono BR.out.size)).mono B3.out.size))
   clear b9
   go_wp2_with fail
   go_ret
   exact ⟨rfl, B9.out⟩
end Go.Proofs.Ytbieomgpfhloeaa
namespace Go.Proofs.Ytbieomgpfhloeaa
open Go.RowKit
theorem wp_append_pair {P : Program} {w w' : World} {o : Oper} {a : Act} {K : Act → World → Prop} {Q : Exit → Act → World → Prop} (y x : Operand) (t : TypeId) {u v v' : Value}
  (ho : o.op = .call { callee := .builtin .append, args := #[y, x], argTypes := #[t, t] }) (hy : a.eval y = u) (hx : a.eval x = v)
  (hr : (Builtin.append_ #[t, t] o.type #[u, v]).run P w = .ok v' w') (h : K (a.put o.dst v') w') : o.wp P a w K Q := by
 unfold Oper.wp execOp
 simp only [ho, resolve, invoke, builtin, Sem.run_bind, Sem.run_pure, Result.andThen_ok, List.map_toArray, List.map_cons, List.map_nil, hy, hx, hr]
 exact h
def placeE (l : List Of) (x : Of) : Int := if ¬ x.may then 1 else if l.length = 32 ∨ x.se = 18446744073709551615 then 9 else 0
def placeS (l : List Of) (x : Of) : Int := if placeE l x = 0 then x.se else 0
def placeL (l : List Of) (x : Of) : List Of := if placeE l x = 0 then l ++ [x] else l
def placeN (l : List Of) (x : Of) : Int := if placeE l x = 0 then x.se + 1 else x.se
end Go.Proofs.Ytbieomgpfhloeaa
