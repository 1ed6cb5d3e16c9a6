/-
  Pieces of one proof, without what is not wanted: PFills4, PVoid, Ask10.
-/
import Derived.Test.YtbieomgpfhloeaaV06
import Derived.Test.YtbieomgpfhloeaaV11
import Derived.Test.YtbieomgpfhloeaaV16
import Derived.ChangeArms
import Derived.Lib.SmallJoins
set_option linter.unusedSimpArgs false
set_option linter.unusedVariables false
namespace Go.Proofs.Ytbieomgpfhloeaa
open Go.RowKit
theorem PB.ne_map {w : World} {base g G M : Nat} {ps : List Int} {ls : List Ln} {l : List Of} {N : Int} {vl : Value} (h : PB w base g l N vl) (k : LedM w G M ps ls) : (¬ g = M ∧ ∀ b, vl.ownBlock = some b → ¬ b = M) ∧ ¬ Foot g vl G ∧ ¬ Foot g vl M := by
 have h1 : ¬ g = M := fun e => k.map.ne_blk h.blk e.symm
 have h2 : ∀ b, vl.ownBlock = some b → ¬ b = M := fun b hb e => by
  obtain ⟨_, _, cur, hc⟩ := owns_type h.row hb
  have hB : Blk w b cur _ := hc
  exact k.map.ne_blk hB e.symm
 have h3 : ¬ G = g := fun e => by have := blk_ne k.blk h.blk (by decide); exact this e
 have h4 : ¬ vl.ownBlock = some G := fun e => owns_ne h.row k.blk (by decide) G e rfl
 exact ⟨⟨h1, h2⟩, fun e => e.elim h3 h4, fun e => e.elim (fun q => h1 q.symm) (fun q => h2 M q rfl)⟩
theorem Keep.freshRow {S : Nat → Prop} {a w : World} (h : Keep S a w) {g : Nat} (hg : a.heap.size ≤ g) (cs : Array Value) : Keep S a (w.setRow g cs) :=
 have k := below_keepRow (w := w) g cs
 ⟨k.os.trans h.os, k.tape.trans h.tape, k.output.trans h.output, Nat.le_trans h.size k.size, fun i hi hs => (k.block i (Nat.lt_of_lt_of_le hi h.size) (by omega)).trans (h.block i hi hs)⟩
set_option maxHeartbeats 8000000 in
set_option maxRecDepth 100000 in
theorem hdo_void {w : World} {lp bp : Option Addr} {e0 N : Int} {has : Int → Bool} (h : Answers w lp e0 has) (hn : ∀ w', Below w.heap.size w w' → Calls Try.prog 35 #[.pointer bp] w' fun e w'' => e = .returned (.int .u64 N) ∧ w' = w'') (he : e0 = 2 ∨ N = 0) (s tk pt n : Int) :
  Calls Try.prog 7 #[.agg #[.pointer lp, .pointer bp], .int .u64 s, .int .u8 tk, .int .u8 pt, .int .i64 n] w fun e w' => e = .returned (.tuple #[noFill, .int .i64 2]) ∧ Below w.heap.size w w' := by
 have b1 := (Below.refl w.heap.size w).alloc (Nat.le_refl _) (.cells #[.pointer lp, .pointer bp] 29)
 have k1 := Blk.new w #[.pointer lp, .pointer bp] 29
 generalize hW1 : w.alloc (.cells #[.pointer lp, .pointer bp] 29) = W1 at *
 have b2 := (Below.refl W1.heap.size W1).alloc (Nat.le_refl _) (.cells #[.int .u64 0, .int .u8 0, .int .u8 0, .int .i64 0, .int .i64 0] 41)
 have k2 := Blk.new W1 #[.int .u64 0, .int .u8 0, .int .u8 0, .int .i64 0, .int .i64 0] 41
 generalize hW2 : W1.alloc (.cells #[.int .u64 0, .int .u8 0, .int .u8 0, .int .i64 0, .int .i64 0] 41) = W2 at *
 have HW1 := Lib.hid hW1
 have HW2 := Lib.hid hW2
 have hg1 : W1.heap.size = w.heap.size + 1 := by rw [← hW1]; simp
 rw [hg1] at k2
 have KX := Lib.hid (k1.below b2 k1.lt)
 have KF := Lib.hid k2
 have B2 := Lib.hid (b1.trans (b2.mono b1.size))
 have CM := Lib.hid (hmade_any (h.below B2.out) (fun w' k => hn w' (andB B2.out k)))
 rw [show (!(e0 == 2) && !(N == 0)) = false by rcases he with rfl | rfl <;> simp] at CM
 clear h hn he b1 k1 b2 k2 hW1 hW2 hg1
 go_enter Try.func7, Try.ntmps7
 go_upto_region 1 with fail
 rw [HW1.out, HW2.out]
 have e0 := KX.out.cell 0; have e1 := KX.out.cell 1
 have kx := KX.out.lt
 simp at e0 e1
 go_wp2_with fail
 refine CM.out.mono ?_
 rintro e w1 ⟨rfl, b1⟩
 have KF1 := Lib.hid (KF.out.below b1 KF.out.lt)
 have B1 := Lib.hid (B2.out.trans (b1.mono B2.out.size))
 clear b1 e0 e1 kx KX KF B2 CM
 go_wp2_with (refine wpList_store_whole rfl 41 (.tmp 10) (.tmp 20) rfl (w.heap.size + 1) #[.int .u64 0, .int .u8 0, .int .u8 0, .int .i64 0, .int .i64 0] rfl rfl 41 _ KF1.out.out (by kernel_rfl) rfl (by simp [Value.oneCell']) ?_)
 refine bodyPost_ret (v := .tuple #[noFill, .int .i64 2]) (results_cell_and rfl _ _ (w.heap.size + 1) 41 #[.int .u64 0, .int .u8 0, .int .u8 0, .int .i64 0, .int .i64 0] _ _ rfl (setRow_heap _ (w.heap.size + 1) _ _ _ (0, 0) KF1.out.out) Try.underlying41 rfl (by kernel_rfl) rfl) rfl ⟨rfl, below_setRow B1.out (by omega) _⟩
set_option maxHeartbeats 32000000 in
set_option maxRecDepth 100000 in
theorem hdo_any (HR : RouteProg) (HMP : MostProg) : FDoProg := by
 intro w base G M gb ps ls l N vb hL hI hP hJ s tk pt n m1 m2 hs ht hto hn hG
 have b1 := (Below.refl w.heap.size w).alloc (Nat.le_refl _) (.cells #[.pointer (some ⟨G, 0, none⟩), .pointer (some ⟨gb, 0, none⟩)] 29)
 have k1 := Blk.new w #[.pointer (some ⟨G, 0, none⟩), .pointer (some ⟨gb, 0, none⟩)] 29
 generalize hW1 : w.alloc (.cells #[.pointer (some ⟨G, 0, none⟩), .pointer (some ⟨gb, 0, none⟩)] 29) = W1 at *
 have b2 := (Below.refl W1.heap.size W1).alloc (Nat.le_refl _) (.cells #[.int .u64 0, .int .u8 0, .int .u8 0, .int .i64 0, .int .i64 0] 41)
 have k2 := Blk.new W1 #[.int .u64 0, .int .u8 0, .int .u8 0, .int .i64 0, .int .i64 0] 41
 generalize hW2 : W1.alloc (.cells #[.int .u64 0, .int .u8 0, .int .u8 0, .int .i64 0, .int .i64 0] 41) = W2 at *
 have HW1 := Lib.hid hW1
 have HW2 := Lib.hid hW2
 have hg1 : W1.heap.size = w.heap.size + 1 := by rw [← hW1]; simp
 rw [hg1] at k2
 have KX := Lib.hid (k1.below b2 k1.lt)
 have KF := Lib.hid k2
 have B2 := Lib.hid (b1.trans (b2.mono b1.size))
 have L0 := Lib.hid ((hL.below b1).below b2)
 have P0 := Lib.hid ((hP.below b1).below b2)
 have HGT := Lib.hid hg1
 have II := Lib.hid hI
 have JJ := Lib.hid hJ
 have HT := Lib.hid ht
 have HTo := Lib.hid hto
 have HN := Lib.hid hn
 have HGo := Lib.hid hG
 have HRo := Lib.hid HR
 have hG1 := hL.blk.lt
 have hM1 := hL.map.lt
 have hb1 := hP.blk.lt
 have HGL := Lib.hid hG1
 have HML := Lib.hid hM1
 have HBL := Lib.hid hb1
 have HFO : Hid (∀ b, Foot gb vb b → b < w.heap.size) := Lib.hid (fun b hb => (hP.lt hb).2)
 have CMd := Lib.hid (hmade_any (N := N) (answers_led L0.out II.out) (fun w' k => pnext_any (P0.out.below k).blk))
 rw [show (!((1 : Int) == 2) && !(N == 0)) = true by have := hJ.n1; simp; omega] at CMd
 have CM := Lib.hid (fun w' (k : Below W2.heap.size W2 w') => hmay_any HMP (L0.out.below k) hI (P0.out.below k) hJ s tk pt n 1099511627776 m1 m2 hs ht hto hn ⟨by omega, by omega⟩ hG)
 clear b1 k1 b2 k2 hW1 hW2 hL hI hP hJ hs ht hto hn hG hg1 hG1 hM1 hb1 HR HMP
 go_enter Try.func7, Try.ntmps7
 go_upto_region 1 with fail
 rw [HW1.out, HW2.out]
 have e0 := KX.out.cell 0; have e1 := KX.out.cell 1
 have kx := KX.out.lt
 simp at e0 e1
 go_wp2_with fail
 refine CMd.out.mono ?_
 rintro e w0 ⟨rfl, b0⟩
 have CM0 := Lib.hid (CM.out w0 b0)
 have KX0 := Lib.hid (KX.out.below b0 KX.out.lt)
 have KF0 := Lib.hid (KF.out.below b0 KF.out.lt)
 have L1 := Lib.hid (L0.out.below b0)
 have P1 := Lib.hid (P0.out.below b0)
 have B0 := Lib.hid (B2.out.trans (b0.mono B2.out.size))
 clear b0 e0 e1 kx KX KF B2 CMd CM L0 P0
 have e0 := KX0.out.cell 0; have e1 := KX0.out.cell 1
 have kx := KX0.out.lt
 simp at e0 e1
 by_cases h1 : n < 1
 ·have q1 : decide (n < 1) = true := by simpa using h1
  have NO : Hid (¬ doOk l ps s tk pt n m1 m2) := Lib.hid (fun h => by have := h.1; omega)
  clear h1
  go_wp2_with (refine wpList_store_whole rfl 41 (.tmp 10) (.tmp 34) rfl (w.heap.size + 1) #[.int .u64 0, .int .u8 0, .int .u8 0, .int .i64 0, .int .i64 0] rfl rfl 41 _ KF0.out.out (by kernel_rfl) rfl (by simp [Value.oneCell']) ?_)
  refine bodyPost_ret (v := .tuple #[noFill, .int .i64 1]) (results_cell_and rfl _ _ (w.heap.size + 1) 41 #[.int .u64 0, .int .u8 0, .int .u8 0, .int .i64 0, .int .i64 0] _ _ rfl (setRow_heap _ (w.heap.size + 1) _ _ _ (0, 0) KF0.out.out) Try.underlying41 rfl (by kernel_rfl) rfl) rfl (.inl ⟨NO.out, rfl, below_setRow B0.out (by omega) _⟩)
 ·have q1 : decide (n < 1) = false := by simpa using h1
  go_wp2_with fail
  refine CM0.out.mono ?_
  rintro e w1 ⟨rfl, b1⟩
  have KX1 := Lib.hid (KX0.out.below b1 KX0.out.lt)
  have KF1 := Lib.hid (KF0.out.below b1 KF0.out.lt)
  have L2 := Lib.hid (L1.out.below b1)
  have P2 := Lib.hid (P1.out.below b1)
  have B1 := Lib.hid (B0.out.trans (b1.mono B0.out.size))
  clear b1 e0 e1 kx KX0 KF0 L1 P1 B0 CM0
  have e0 := KX1.out.cell 0; have e1 := KX1.out.cell 1
  have kx := KX1.out.lt
  simp at e0 e1
  by_cases h2 : n ≤ mayV l ps s tk pt n 1099511627776 m1 m2
  ·have q2 : decide (mayV l ps s tk pt n 1099511627776 m1 m2 < n) = false := by simpa using h2
   have hOK : doOk l ps s tk pt n m1 m2 := ⟨by omega, h2⟩
   obtain ⟨o, hf, ⟨c1, c2, c3, c4⟩, h3, h4, h5⟩ := hOK.facts
   have hGo := (HGo.out o hf).bd II.out
   have hmem := (findO_mem hf).1
   have hmay := JJ.out.may o hmem
   have FT := Lib.hid (JJ.out.fits hmem)
   obtain ⟨_, _, _, _, _, hmy⟩ := hmay
   obtain ⟨x, hx⟩ : ∃ x, upN (n * o.nu) o.de = x := ⟨_, rfl⟩
   obtain ⟨u1, u2, u3⟩ := up_fits hmy (g := min 1099511627776 m2) (by omega) (by omega) (by omega) h5
   rw [hx] at u1 u2 u3
   have CU := Lib.hid (fun w => rup_rat n o.nu o.de w HN.out FT.out.nu FT.out.de)
   rw [u1] at CU
   have HX := Lib.hid hx
   have HOK := Lib.hid hOK
   have HF := Lib.hid hf
   have CF := Lib.hid (pfind_any P2.out JJ.out.n1 s)
   rw [hf] at CF
   dsimp only [foundV, Of.val] at CF
   have hx64 : Hid (In64 x) := Lib.hid ⟨by omega, by omega⟩
   clear hOK hGo hmem hmy u1 u2 u3 hx hf h5 h4 h3 c1 c2 c3 c4
   generalize mayV l ps s tk pt n 1099511627776 m1 m2 = mm at *
   clear h2
   go_wp2_with fail
   refine CF.out.mono ?_
   rintro e w2 ⟨rfl, b2⟩
   have bo := (Below.refl w2.heap.size w2).alloc (Nat.le_refl _) (.cells #[.int .u64 o.se, .int .u8 o.ow, .int .u8 o.sl, .int .u8 o.bu, .int .i64 o.lf, .int .i64 o.nu, .int .i64 o.de] 58)
   have KO := Lib.hid (Blk.new w2 #[.int .u64 o.se, .int .u8 o.ow, .int .u8 o.sl, .int .u8 o.bu, .int .i64 o.lf, .int .i64 o.nu, .int .i64 o.de] 58)
   have b3 := b2.trans (bo.mono b2.size)
   have KX2 := Lib.hid (KX1.out.below b3 KX1.out.lt)
   have KF2 := Lib.hid (KF1.out.below b3 KF1.out.lt)
   have L3 := Lib.hid (L2.out.below b3)
   have P3 := Lib.hid (P2.out.below b3)
   have B3 := Lib.hid (B1.out.trans (b3.mono B1.out.size))
   have HSZ : Hid (w.heap.size ≤ w2.heap.size) := Lib.hid (B1.out.trans (b2.mono B1.out.size)).size
   clear b2 b3 bo e0 e1 kx KX1 KF1 L2 P2 B1 CF
   have e0 := KX2.out.cell 0; have e1 := KX2.out.cell 1
   have kx := KX2.out.lt
   simp at e0 e1
   have d0 := KO.out.cell 0; have d1 := KO.out.cell 1; have d2 := KO.out.cell 2; have d3 := KO.out.cell 3; have d4 := KO.out.cell 4; have d5 := KO.out.cell 5; have d6 := KO.out.cell 6
   have kol := KO.out.lt
   simp at d0 d1 d2 d3 d4 d5 d6
   go_wp2_with fail
   refine (CU.out _).mono ?_
   rintro e w3 ⟨rfl, b3⟩
   have KX3 := Lib.hid (KX2.out.below b3 KX2.out.lt)
   have KO3 := Lib.hid (KO.out.below b3 KO.out.lt)
   have KF3 := Lib.hid (KF2.out.below b3 KF2.out.lt)
   have L4 := Lib.hid (L3.out.below b3)
   have P4 := Lib.hid (P3.out.below b3)
   have B4 := Lib.hid (B3.out.trans (b3.mono B3.out.size))
   clear b3 CU KX2 KO KF2 L3 P3 B3
   clear e0 e1 kx d0 d1 d2 d3 d4 d5 d6 kol
   have e0 := KX3.out.cell 0; have e1 := KX3.out.cell 1
   have kx := KX3.out.lt
   simp at e0 e1
   have d0 := KO3.out.cell 0; have d1 := KO3.out.cell 1; have d2 := KO3.out.cell 2; have d3 := KO3.out.cell 3; have d4 := KO3.out.cell 4; have d5 := KO3.out.cell 5; have d6 := KO3.out.cell 6
   have kol := KO3.out.lt
   simp at d0 d1 d2 d3 d4 d5 d6
   by_cases hp : pt = o.ow
   ·have q3 : (pt != o.ow) = false := by simpa using hp
    have HP := Lib.hid hp
    clear hp
    have BK : Hid (Keep (fun k => k = G ∨ k = M ∨ Foot gb vb k) w w3) := Lib.hid (Keep.of_below B4.out)
    clear B4
    have KXA := KX3
    have KFA := KF3
    have KOA := KO3
    have LA := L4
    have PA := P4
    clear KX3 KF3 KO3 L4 P4
    obtain ⟨τ, hτ⟩ := route_ends (roomF_inv II.out o.bu) tk o.ow x
    have HTAU := Lib.hid hτ
    have CP := Lib.hid (ppay_any HRo.out LA.out II.out HT.out FT.out.ow FT.out.bu hx64.out hτ)
    clear hτ
    go_wp2_with fail
    refine CP.out.mono ?_
    rintro e w6 ⟨rfl, r6, k6⟩
    have AP := (PA.out.ne_map LA.out).1
    have KX6 := Lib.hid (KXA.out.keep k6 (by have := HML.out; omega))
    have KF6 := Lib.hid (KFA.out.keep k6 (by have := HML.out; omega))
    have P6 := Lib.hid (PA.out.keep k6 AP.1 AP.2)
    have B6 := Lib.hid (BK.out.trans (k6.mono (fun k _ h => Or.inr (Or.inl h))))
    have L6 := Lib.hid r6
    clear CP r6 k6 AP KXA KFA PA LA BK KOA
    clear e0 e1 kx d0 d1 d2 d3 d4 d5 d6 kol
    have e0 := KX6.out.cell 0; have e1 := KX6.out.cell 1
    have kx := KX6.out.lt
    simp at e0 e1
    have CK := Lib.hid (ptake_any P6.out JJ.out s n)
    go_wp2_with fail
    refine CK.out.mono ?_
    rintro e w7 ⟨rfl, vb7, r7, k7, mv7⟩
    have AP := (P6.out.ne_map L6.out).2
    have hgz : ¬ Foot gb vb (w.heap.size + 1) := fun h => by have := HFO.out _ h; omega
    have KF7 := Lib.hid (KF6.out.keep k7 hgz)
    have L7 := Lib.hid (L6.out.keep k7 AP.1 AP.2)
    have B7 := Lib.hid (B6.out.trans (k7.mono (fun k _ h => Or.inr (Or.inr h))))
    have P7 := Lib.hid r7
    have MV := Lib.hid (mv7.of_le B6.out.size)
    clear CK r7 k7 mv7 AP hgz KX6 KF6 P6 L6 B6
    clear e0 e1 kx
    go_wp2_with (refine wpList_store_whole rfl 41 (.tmp 10) (.tmp 81) rfl (w.heap.size + 1) #[.int .u64 s, .int .u8 tk, .int .u8 pt, .int .i64 n, .int .i64 x] rfl rfl 41 _ KF7.out.out (by kernel_rfl) rfl (by simp [Value.oneCell']) ?_)
    refine bodyPost_ret (v := .tuple #[.agg #[.int .u64 s, .int .u8 tk, .int .u8 pt, .int .i64 n, .int .i64 x], .int .i64 0]) (results_cell_and rfl _ _ (w.heap.size + 1) 41 #[.int .u64 s, .int .u8 tk, .int .u8 pt, .int .i64 n, .int .i64 x] _ _ rfl (setRow_heap _ (w.heap.size + 1) _ _ _ (0, 0) KF7.out.out) Try.underlying41 rfl (by kernel_rfl) rfl) rfl (.inr ⟨HOK.out, o, x, _, vb7, HF.out, HX.out.symm, ⟨ls, τ, (.inl ⟨HP.out, rfl⟩), HTAU.out, rfl⟩, rfl, ?_, ?_, B7.out.freshRow (by omega) _, MV.out⟩)
    ·exact L7.out.keep (below_keepRow _ _) (by have := HGL.out; omega) (by have := HML.out; omega)
    ·refine P7.out.keep (below_keepRow _ _) (by have := HBL.out; omega) (fun b hb h => ?_)
     subst h
     exact owns_ne P7.out.row KF7.out (by decide) _ hb rfl
   ·have q3 : (pt != o.ow) = true := by simpa using hp
    have HP := Lib.hid hp
    clear hp
    obtain ⟨σ, hσ⟩ := route_ends (roomF_inv II.out o.sl) o.ow pt n
    have HSG := Lib.hid hσ
    have CP := Lib.hid (ppay_any HRo.out L4.out II.out FT.out.ow HTo.out FT.out.sl HN.out hσ)
    clear hσ
    go_wp2_with fail
    refine CP.out.mono ?_
    rintro e w5 ⟨rfl, r5, k5⟩
    have AP := (P4.out.ne_map L4.out).1
    have KXA := Lib.hid (KX3.out.keep k5 (by have := HML.out; omega))
    have KFA := Lib.hid (KF3.out.keep k5 (by have := HML.out; omega))
    have KOA := Lib.hid (KO3.out.keep k5 (by have := HML.out; have := HSZ.out; omega))
    have PA := Lib.hid (P4.out.keep k5 AP.1 AP.2)
    have BK : Hid (Keep (fun k => k = G ∨ k = M ∨ Foot gb vb k) w w5) := Lib.hid ((Keep.of_below B4.out).trans (k5.mono (fun k _ h => Or.inr (Or.inl h))))
    have LA := Lib.hid r5
    have IA := Lib.hid (payL_inv II.out o.ow pt o.sl n σ)
    clear CP r5 k5 AP KX3 KF3 KO3 P4 L4 B4
    clear e0 e1 kx d0 d1 d2 d3 d4 d5 d6 kol
    have RT : Hid (∃ a, IsRoute (roomF ps ls o.sl) 4398046511104 o.ow pt n a ∧ payL ps ls o.ow pt o.sl n σ = payL ps ls o.ow pt o.sl n a) := Lib.hid ⟨σ, HSG.out, rfl⟩
    clear HSG
    generalize payL ps ls o.ow pt o.sl n σ = ls4 at *
    have e0 := KXA.out.cell 0; have e1 := KXA.out.cell 1
    have kx := KXA.out.lt
    simp at e0 e1
    have d0 := KOA.out.cell 0; have d1 := KOA.out.cell 1; have d2 := KOA.out.cell 2; have d3 := KOA.out.cell 3; have d4 := KOA.out.cell 4; have d5 := KOA.out.cell 5; have d6 := KOA.out.cell 6
    have kol := KOA.out.lt
    simp at d0 d1 d2 d3 d4 d5 d6
    obtain ⟨τ, hτ⟩ := route_ends (roomF_inv IA.out o.bu) tk o.ow x
    have HTAU := Lib.hid hτ
    have CP := Lib.hid (ppay_any HRo.out LA.out IA.out HT.out FT.out.ow FT.out.bu hx64.out hτ)
    clear hτ
    go_wp2_with fail
    refine CP.out.mono ?_
    rintro e w6 ⟨rfl, r6, k6⟩
    have AP := (PA.out.ne_map LA.out).1
    have KX6 := Lib.hid (KXA.out.keep k6 (by have := HML.out; omega))
    have KF6 := Lib.hid (KFA.out.keep k6 (by have := HML.out; omega))
    have P6 := Lib.hid (PA.out.keep k6 AP.1 AP.2)
    have B6 := Lib.hid (BK.out.trans (k6.mono (fun k _ h => Or.inr (Or.inl h))))
    have L6 := Lib.hid r6
    clear CP r6 k6 AP KXA KFA PA LA BK KOA
    clear e0 e1 kx d0 d1 d2 d3 d4 d5 d6 kol
    have e0 := KX6.out.cell 0; have e1 := KX6.out.cell 1
    have kx := KX6.out.lt
    simp at e0 e1
    have CK := Lib.hid (ptake_any P6.out JJ.out s n)
    go_wp2_with fail
    refine CK.out.mono ?_
    rintro e w7 ⟨rfl, vb7, r7, k7, mv7⟩
    have AP := (P6.out.ne_map L6.out).2
    have hgz : ¬ Foot gb vb (w.heap.size + 1) := fun h => by have := HFO.out _ h; omega
    have KF7 := Lib.hid (KF6.out.keep k7 hgz)
    have L7 := Lib.hid (L6.out.keep k7 AP.1 AP.2)
    have B7 := Lib.hid (B6.out.trans (k7.mono (fun k _ h => Or.inr (Or.inr h))))
    have P7 := Lib.hid r7
    have MV := Lib.hid (mv7.of_le B6.out.size)
    clear CK r7 k7 mv7 AP hgz KX6 KF6 P6 L6 B6
    clear e0 e1 kx
    go_wp2_with (refine wpList_store_whole rfl 41 (.tmp 10) (.tmp 81) rfl (w.heap.size + 1) #[.int .u64 s, .int .u8 tk, .int .u8 pt, .int .i64 n, .int .i64 x] rfl rfl 41 _ KF7.out.out (by kernel_rfl) rfl (by simp [Value.oneCell']) ?_)
    refine bodyPost_ret (v := .tuple #[.agg #[.int .u64 s, .int .u8 tk, .int .u8 pt, .int .i64 n, .int .i64 x], .int .i64 0]) (results_cell_and rfl _ _ (w.heap.size + 1) 41 #[.int .u64 s, .int .u8 tk, .int .u8 pt, .int .i64 n, .int .i64 x] _ _ rfl (setRow_heap _ (w.heap.size + 1) _ _ _ (0, 0) KF7.out.out) Try.underlying41 rfl (by kernel_rfl) rfl) rfl (.inr ⟨HOK.out, o, x, _, vb7, HF.out, HX.out.symm, ⟨ls4, τ, (.inr ⟨HP.out, RT.out⟩), HTAU.out, rfl⟩, rfl, ?_, ?_, B7.out.freshRow (by omega) _, MV.out⟩)
    ·exact L7.out.keep (below_keepRow _ _) (by have := HGL.out; omega) (by have := HML.out; omega)
    ·refine P7.out.keep (below_keepRow _ _) (by have := HBL.out; omega) (fun b hb h => ?_)
     subst h
     exact owns_ne P7.out.row KF7.out (by decide) _ hb rfl
  ·have q2 : decide (mayV l ps s tk pt n 1099511627776 m1 m2 < n) = true := by simpa using h2
   have NO : Hid (¬ doOk l ps s tk pt n m1 m2) := Lib.hid (fun h => h2 h.2)
   clear h2
   generalize mayV l ps s tk pt n 1099511627776 m1 m2 = mm at *
   go_wp2_with (refine wpList_store_whole rfl 41 (.tmp 10) (.tmp 34) rfl (w.heap.size + 1) #[.int .u64 0, .int .u8 0, .int .u8 0, .int .i64 0, .int .i64 0] rfl rfl 41 _ KF1.out.out (by kernel_rfl) rfl (by simp [Value.oneCell']) ?_)
   refine bodyPost_ret (v := .tuple #[noFill, .int .i64 1]) (results_cell_and rfl _ _ (w.heap.size + 1) 41 #[.int .u64 0, .int .u8 0, .int .u8 0, .int .i64 0, .int .i64 0] _ _ rfl (setRow_heap _ (w.heap.size + 1) _ _ _ (0, 0) KF1.out.out) Try.underlying41 rfl (by kernel_rfl) rfl) rfl (.inl ⟨NO.out, rfl, below_setRow B1.out (by omega) _⟩)
end Go.Proofs.Ytbieomgpfhloeaa
namespace Go.Proofs.Ytbieomgpfhloeaa
open Go.RowKit
def Void (w : World) (pv : Value) : Prop := ∀ w', Below w.heap.size w w' → Calls Try.prog 45 #[pv] w' fun e w'' => e = .returned (.map none) ∧ w' = w''
theorem Void.below {w w' : World} {pv : Value} (h : Void w pv) (k : Below w.heap.size w w') : Void w' pv := fun w'' q => h w'' (andB k q)
theorem void_nil (w : World) : Void w (.pointer none) := fun w' _ => all_nil w'
theorem void_zero {w : World} {g : Nat} {ps : List Int} (h : Blk w g (ledC ps (.map none)) 35) : Void w (.pointer (some ⟨g, 0, none⟩)) := fun w' k => all_any (h.below k h.lt)
theorem void_made {w : World} {pv : Value} (h : Void w pv) : ∀ w', Below w.heap.size w w' → Calls Try.prog 31 #[pv] w' fun e w'' => e = .returned (.bool false) ∧ w' = w'' := fun w' k => made_of (h w' k)
set_option maxHeartbeats 2000000 in
theorem void_open {w : World} {pv : Value} (h : Void w pv) (p : Int) : Calls Try.prog 26 #[pv, .int .u8 p] w fun e w' => e = .returned (.int .i64 2) ∧ w = w' := by
 have C1 := Lib.hid (void_made h w (Below.refl _ _))
 clear h
 go_enter Try.func26, Try.ntmps26
 go_wp2_with fail
 refine C1.out.mono ?_
 rintro e w ⟨rfl, rfl⟩
 go_wp2_with fail
 go_ret
 exact ⟨rfl, rfl⟩
set_option maxHeartbeats 2000000 in
theorem void_has {w : World} {pv : Value} (h : Void w pv) (p : Int) : Calls Try.prog 13 #[pv, .int .u8 p] w fun e w' => e = .returned (.bool false) ∧ w = w' := by
 have C1 := Lib.hid (void_made h w (Below.refl _ _))
 clear h
 go_enter Try.func13, Try.ntmps13
 go_wp2_with fail
 refine C1.out.mono ?_
 rintro e w ⟨rfl, rfl⟩
 go_wp2_with fail
 go_ret
 exact ⟨rfl, rfl⟩
end Go.Proofs.Ytbieomgpfhloeaa
namespace Go.Proofs.Ytbieomgpfhloeaa
open Go.RowKit Go.ChangeShapes Go.WideShapes Go.Deep Go.Joins
structure Af where
 se : Int
 tk : Int
 pt : Int
 n : Int
 mo : Int
 fu : Bool
def Af.vals (x : Af) : List Value := [.int .u64 x.se, .int .u8 x.tk, .int .u8 x.pt, .int .i64 x.n, .int .i64 x.mo, .bool x.fu]
structure Af.Fits (x : Af) : Prop where
 se : 0 ≤ x.se ∧ x.se ≤ 18446744073709551615
 tk : In8 x.tk
 pt : In8 x.pt
 n : In64 x.n
 mo : In64 x.mo
section
variable {H : Type} {enc : TypeId × Value → H} {P : Program} {w : World} {base : Nat} {spare : Nat → Bool} {held : Bool}
theorem bool_of {fs : Array Field} {xs : List (DataW H × List MemPlace)} {n : Nat} {cs : List Value} (hxl : xs.length = fs.size) (hf : ∀ (j : Nat) (f : Field), fs[j]? = some f → DataW.trod enc P w base spare held n f.type ((cs.drop f.offset).take (P.cellsOf f.type)) = xs[j]?) {j o : Nat} {f : Field} (hj : fs[j]? = some f) (ho : f.offset = o) (hc : P.cellsOf f.type = 1) (hk : P.underlying f.type = some .bool) (hl : o < cs.length) :
  ∃ b, cs[o]? = some (.bool b) := by
 have h1 := hf j f hj
 rw [ho, hc, List.drop_eq_getElem_cons hl] at h1
 have hjf : j < fs.size := (Array.getElem?_eq_some_iff.1 hj).1
 rw [List.getElem?_eq_getElem (by omega : j < xs.length)] at h1
 obtain ⟨b, hb, _⟩ := DataW.trod_bool hk h1
 refine ⟨b, ?_⟩
 rw [List.getElem?_eq_getElem hl]
 have hb' : [cs[o]] = [Value.bool b] := hb
 exact congrArg some (List.cons.inj hb').1
theorem ask10_of {t : TypeId} {f0 f1 f2 f3 f4 f5 : Field} (hu : P.underlying t = some (.struct #[f0, f1, f2, f3, f4, f5])) (hC : P.cellsOf t = 6)
  (o : f0.offset = 0 ∧ f1.offset = 1 ∧ f2.offset = 2 ∧ f3.offset = 3 ∧ f4.offset = 4 ∧ f5.offset = 5) (c : P.cellsOf f0.type = 1 ∧ P.cellsOf f1.type = 1 ∧ P.cellsOf f2.type = 1 ∧ P.cellsOf f3.type = 1 ∧ P.cellsOf f4.type = 1 ∧ P.cellsOf f5.type = 1)
  (k : P.underlying f0.type = some (.int .u64) ∧ P.underlying f1.type = some (.int .u8) ∧ P.underlying f2.type = some (.int .u8) ∧ P.underlying f3.type = some (.int .i64) ∧ P.underlying f4.type = some (.int .i64) ∧ P.underlying f5.type = some .bool)
  {fuel : Nat} {cs : List Value} {x : DataW H × List MemPlace} (h : DataW.trod enc P w base spare held fuel t cs = some x) : ∃ x : Af, x.Fits ∧ cs = x.vals := by
 obtain ⟨xs, n, _, _, hlen, hxl, hf⟩ := DataW.trod_struct hu h
 rw [hC] at hlen
 obtain ⟨m0, e0, w0⟩ := num_of hxl hf (j := 0) rfl o.1 c.1 k.1 (by omega)
 obtain ⟨m1, e1, w1⟩ := num_of hxl hf (j := 1) rfl o.2.1 c.2.1 k.2.1 (by omega)
 obtain ⟨m2, e2, w2⟩ := num_of hxl hf (j := 2) rfl o.2.2.1 c.2.2.1 k.2.2.1 (by omega)
 obtain ⟨m3, e3, w3⟩ := num_of hxl hf (j := 3) rfl o.2.2.2.1 c.2.2.2.1 k.2.2.2.1 (by omega)
 obtain ⟨m4, e4, w4⟩ := num_of hxl hf (j := 4) rfl o.2.2.2.2.1 c.2.2.2.2.1 k.2.2.2.2.1 (by omega)
 obtain ⟨m5, e5⟩ := bool_of hxl hf (j := 5) rfl o.2.2.2.2.2 c.2.2.2.2.2 k.2.2.2.2.2 (by omega)
 match cs, hlen with
 | [a0, a1, a2, a3, a4, a5], _ =>
  simp at e0 e1 e2 e3 e4 e5
  subst e0 e1 e2 e3 e4 e5
  exact ⟨⟨m0, m1, m2, m3, m4, m5⟩, ⟨InU64.of_wf w0, In8.of_wf w1, In8.of_wf w2, In64.of_wf w3, In64.of_wf w4⟩, rfl⟩
end
section
variable {H : Type} {enc : TypeId × Value → H} {w : World} {base : Nat} {spare : Nat → Bool} {held : Bool}
theorem ask10_read {fuel : Nat} {cs : List Value} {x : DataW H × List MemPlace} (h : DataW.trod enc Try.prog w base spare held fuel 25 cs = some x) : ∃ x : Af, x.Fits ∧ cs = x.vals :=
 ask10_of Try.underlying25 (by kernel_rfl) ⟨rfl, rfl, rfl, rfl, rfl, rfl⟩ ⟨by kernel_rfl, by kernel_rfl, by kernel_rfl, by kernel_rfl, by kernel_rfl, by kernel_rfl⟩
  ⟨Try.underlying22, Try.underlying23, Try.underlying23, Try.underlying2, Try.underlying2, Try.underlying4⟩ h
set_option maxRecDepth 100000 in
theorem ask10_open {r : Reach} {b0 : Nat} {v : Value} {d : DataW H} {p : List MemPlace} (hv : Value.okWide Try.prog w r b0 25 v) (h : DataW.Trod enc Try.prog w base spare held 25 v d p) :
  ∃ x : Af, v = .agg #[.int .u64 x.se, .int .u8 x.tk, .int .u8 x.pt, .int .i64 x.n, .int .i64 x.mo, .bool x.fu] ∧ x.Fits := by
 obtain ⟨cs, rfl, _⟩ := okWide_struct Try.underlying25 hv
 obtain ⟨fuel, hf⟩ := h
 obtain ⟨x, hx, hc⟩ := ask10_read hf
 refine ⟨x, ?_, hx⟩
 have : cs.toList = x.vals := by simpa [Value.cells] using hc
 rw [show cs = x.vals.toArray by rw [← this]]
 rfl
end
section
variable {H : Type} {enc : TypeId × Value → H} {w : World} {base : Nat} {spare : Nat → Bool} {held : Bool}
end
end Go.Proofs.Ytbieomgpfhloeaa
