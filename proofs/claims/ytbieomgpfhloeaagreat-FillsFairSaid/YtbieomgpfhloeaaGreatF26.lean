/-
  Pieces of one proof, without what is not wanted: PFills4, Lives10, PB9, PFills5.
-/
import Derived.Test.YtbieomgpfhloeaaGreatF18
import Derived.Test.YtbieomgpfhloeaaGreatF19
import Derived.Test.YtbieomgpfhloeaaGreatF20
import Derived.Test.YtbieomgpfhloeaaGreatF23
import Derived.Test.YtbieomgpfhloeaaGreatF25
set_option linter.unusedSimpArgs false
set_option linter.unusedVariables false
namespace Go.Proofs.YtbieomgpfhloeaaGreat
open Go.RowKit
theorem PB.ne_map {w : World} {base g G M : Nat} {ps : List Int} {ls : List Ln} {l : List Of} {N : Int} {vl : Value} (h : PB w base g l N vl) (k : LedM w G M ps ls) : (¬ g = M ∧ ∀ b, vl.ownBlock = some b → ¬ b = M) ∧ ¬ Foot g vl G ∧ ¬ Foot g vl M := by
 have h1 : ¬ g = M := fun e => k.map.ne_blk h.blk e.symm
 have h2 : ∀ b, vl.ownBlock = some b → ¬ b = M := fun b hb e => by
  obtain ⟨_, _, cur, hc⟩ := owns_type h.row hb
  have hB : Blk w b cur _ := hc
  exact k.map.ne_blk hB e.symm
 have h3 : ¬ G = g := fun e => by have := blk_ne k.blk h.blk (by decide); exact this e
 have h4 : ¬ vl.ownBlock = some G := fun e => owns_ne h.row k.blk (by decide) G e rfl
 exact ⟨⟨h1, h2⟩, fun e => e.elim h3 h4, fun e => e.elim (fun q => h1 q.symm) (fun q => h2 M q rfl)⟩
theorem Keep.freshRow {S : Nat → Prop} {a w : World} (h : Keep S a w) {g : Nat} (hg : a.heap.size ≤ g) (cs : Array Value) : Keep S a (w.setRow g cs) :=
 have k := below_keepRow (w := w) g cs
 ⟨k.os.trans h.os, k.tape.trans h.tape, k.output.trans h.output, Nat.le_trans h.size k.size, fun i hi hs => (k.block i (Nat.lt_of_lt_of_le hi h.size) (by omega)).trans (h.block i hi hs)⟩
set_option maxHeartbeats 8000000 in
set_option maxRecDepth 100000 in
theorem hdo_void {w : World} {lp bp : Option Addr} {e0 N : Int} {has : Int → Bool} (h : Answers w lp e0 has) (hn : ∀ w', Below w.heap.size w w' → Calls Tryz.prog 75 #[.pointer bp] w' fun e w'' => e = .returned (.int .u64 N) ∧ w' = w'') (he : e0 = 2 ∨ N = 0) (s tk pt n : Int) :
  Calls Tryz.prog 14 #[.agg #[.pointer lp, .pointer bp], .int .u64 s, .int .u8 tk, .int .u8 pt, .int .i64 n] w fun e w' => e = .returned (.tuple #[noFill, .int .i64 2]) ∧ Below w.heap.size w w' := by
 have b1 := (Below.refl w.heap.size w).alloc (Nat.le_refl _) (.cells #[.pointer lp, .pointer bp] 32)
 have k1 := Blk.new w #[.pointer lp, .pointer bp] 32
 generalize hW1 : w.alloc (.cells #[.pointer lp, .pointer bp] 32) = W1 at *
 have b2 := (Below.refl W1.heap.size W1).alloc (Nat.le_refl _) (.cells #[.int .u64 0, .int .u8 0, .int .u8 0, .int .i64 0, .int .i64 0] 48)
 have k2 := Blk.new W1 #[.int .u64 0, .int .u8 0, .int .u8 0, .int .i64 0, .int .i64 0] 48
 generalize hW2 : W1.alloc (.cells #[.int .u64 0, .int .u8 0, .int .u8 0, .int .i64 0, .int .i64 0] 48) = W2 at *
 have HW1 := Lib.hid hW1
 have HW2 := Lib.hid hW2
 have hg1 : W1.heap.size = w.heap.size + 1 := by rw [← hW1]; simp
 rw [hg1] at k2
 have KX := Lib.hid (k1.below b2 k1.lt)
 have KF := Lib.hid k2
 have B2 := Lib.hid (b1.trans (b2.mono b1.size))
 have CM := Lib.hid (hmade_any (h.below B2.out) (fun w' k => hn w' (andB B2.out k)))
 rw [show (!(e0 == 2) && !(N == 0)) = false by rcases he with rfl | rfl <;> simp] at CM
 clear h hn he b1 k1 b2 k2 hW1 hW2 hg1
 go_enter Tryz.func14, Tryz.ntmps14
 go_upto_region 1 with fail
 rw [HW1.out, HW2.out]
 have e0 := KX.out.cell 0; have e1 := KX.out.cell 1
 have kx := KX.out.lt
 simp at e0 e1
 go_wp2_with fail
 refine CM.out.mono ?_
 rintro e w1 ⟨rfl, b1⟩
 have KF1 := Lib.hid (KF.out.below b1 KF.out.lt)
 have B1 := Lib.hid (B2.out.trans (b1.mono B2.out.size))
 clear b1 e0 e1 kx KX KF B2 CM
 go_wp2_with (refine wpList_store_whole rfl 48 (.tmp 10) (.tmp 20) rfl (w.heap.size + 1) #[.int .u64 0, .int .u8 0, .int .u8 0, .int .i64 0, .int .i64 0] rfl rfl 48 _ KF1.out.out (by kernel_rfl) rfl (by simp [Value.oneCell']) ?_)
 refine bodyPost_ret (v := .tuple #[noFill, .int .i64 2]) (results_cell_and rfl _ _ (w.heap.size + 1) 48 #[.int .u64 0, .int .u8 0, .int .u8 0, .int .i64 0, .int .i64 0] _ _ rfl (setRow_heap _ (w.heap.size + 1) _ _ _ (0, 0) KF1.out.out) Tryz.underlying48 rfl (by kernel_rfl) rfl) rfl ⟨rfl, below_setRow B1.out (by omega) _⟩
set_option maxHeartbeats 32000000 in
set_option maxRecDepth 100000 in
theorem hdo_any (HR : RouteProg) (HMP : MostProg) : FDoProg := by
 intro w base G M gb ps ls l N vb hL hI hP hJ s tk pt n m1 m2 hs ht hto hn hG
 have b1 := (Below.refl w.heap.size w).alloc (Nat.le_refl _) (.cells #[.pointer (some ⟨G, 0, none⟩), .pointer (some ⟨gb, 0, none⟩)] 32)
 have k1 := Blk.new w #[.pointer (some ⟨G, 0, none⟩), .pointer (some ⟨gb, 0, none⟩)] 32
 generalize hW1 : w.alloc (.cells #[.pointer (some ⟨G, 0, none⟩), .pointer (some ⟨gb, 0, none⟩)] 32) = W1 at *
 have b2 := (Below.refl W1.heap.size W1).alloc (Nat.le_refl _) (.cells #[.int .u64 0, .int .u8 0, .int .u8 0, .int .i64 0, .int .i64 0] 48)
 have k2 := Blk.new W1 #[.int .u64 0, .int .u8 0, .int .u8 0, .int .i64 0, .int .i64 0] 48
 generalize hW2 : W1.alloc (.cells #[.int .u64 0, .int .u8 0, .int .u8 0, .int .i64 0, .int .i64 0] 48) = W2 at *
 have HW1 := Lib.hid hW1
 have HW2 := Lib.hid hW2
 have hg1 : W1.heap.size = w.heap.size + 1 := by rw [← hW1]; simp
 rw [hg1] at k2
 have KX := Lib.hid (k1.below b2 k1.lt)
 have KF := Lib.hid k2
 have B2 := Lib.hid (b1.trans (b2.mono b1.size))
 have L0 := Lib.hid ((hL.below b1).below b2)
 have P0 := Lib.hid ((hP.below b1).below b2)
 have HGT := Lib.hid hg1
 have II := Lib.hid hI
 have JJ := Lib.hid hJ
 have HT := Lib.hid ht
 have HTo := Lib.hid hto
 have HN := Lib.hid hn
 have HGo := Lib.hid hG
 have HRo := Lib.hid HR
 have hG1 := hL.blk.lt
 have hM1 := hL.map.lt
 have hb1 := hP.blk.lt
 have HGL := Lib.hid hG1
 have HML := Lib.hid hM1
 have HBL := Lib.hid hb1
 have HFO : Hid (∀ b, Foot gb vb b → b < w.heap.size) := Lib.hid (fun b hb => (hP.lt hb).2)
 have CMd := Lib.hid (hmade_any (N := N) (answers_led L0.out II.out) (fun w' k => pnext_any (P0.out.below k).blk))
 rw [show (!((1 : Int) == 2) && !(N == 0)) = true by have := hJ.n1; simp; omega] at CMd
 have CM := Lib.hid (fun w' (k : Below W2.heap.size W2 w') => hmay_any HMP (L0.out.below k) hI (P0.out.below k) hJ s tk pt n 1099511627776 m1 m2 hs ht hto hn ⟨by omega, by omega⟩ hG)
 clear b1 k1 b2 k2 hW1 hW2 hL hI hP hJ hs ht hto hn hG hg1 hG1 hM1 hb1 HR HMP
 go_enter Tryz.func14, Tryz.ntmps14
 go_upto_region 1 with fail
 rw [HW1.out, HW2.out]
 have e0 := KX.out.cell 0; have e1 := KX.out.cell 1
 have kx := KX.out.lt
 simp at e0 e1
 go_wp2_with fail
 refine CMd.out.mono ?_
 rintro e w0 ⟨rfl, b0⟩
 have CM0 := Lib.hid (CM.out w0 b0)
 have KX0 := Lib.hid (KX.out.below b0 KX.out.lt)
 have KF0 := Lib.hid (KF.out.below b0 KF.out.lt)
 have L1 := Lib.hid (L0.out.below b0)
 have P1 := Lib.hid (P0.out.below b0)
 have B0 := Lib.hid (B2.out.trans (b0.mono B2.out.size))
 clear b0 e0 e1 kx KX KF B2 CMd CM L0 P0
 have e0 := KX0.out.cell 0; have e1 := KX0.out.cell 1
 have kx := KX0.out.lt
 simp at e0 e1
 by_cases h1 : n < 1
 ·have q1 : decide (n < 1) = true := by simpa using h1
  have NO : Hid (¬ doOk l ps s tk pt n m1 m2) := Lib.hid (fun h => by have := h.1; omega)
  clear h1
  go_wp2_with (refine wpList_store_whole rfl 48 (.tmp 10) (.tmp 34) rfl (w.heap.size + 1) #[.int .u64 0, .int .u8 0, .int .u8 0, .int .i64 0, .int .i64 0] rfl rfl 48 _ KF0.out.out (by kernel_rfl) rfl (by simp [Value.oneCell']) ?_)
  refine bodyPost_ret (v := .tuple #[noFill, .int .i64 1]) (results_cell_and rfl _ _ (w.heap.size + 1) 48 #[.int .u64 0, .int .u8 0, .int .u8 0, .int .i64 0, .int .i64 0] _ _ rfl (setRow_heap _ (w.heap.size + 1) _ _ _ (0, 0) KF0.out.out) Tryz.underlying48 rfl (by kernel_rfl) rfl) rfl (.inl ⟨NO.out, rfl, below_setRow B0.out (by omega) _⟩)
 ·have q1 : decide (n < 1) = false := by simpa using h1
  go_wp2_with fail
  refine CM0.out.mono ?_
  rintro e w1 ⟨rfl, b1⟩
  have KX1 := Lib.hid (KX0.out.below b1 KX0.out.lt)
  have KF1 := Lib.hid (KF0.out.below b1 KF0.out.lt)
  have L2 := Lib.hid (L1.out.below b1)
  have P2 := Lib.hid (P1.out.below b1)
  have B1 := Lib.hid (B0.out.trans (b1.mono B0.out.size))
  clear b1 e0 e1 kx KX0 KF0 L1 P1 B0 CM0
  have e0 := KX1.out.cell 0; have e1 := KX1.out.cell 1
  have kx := KX1.out.lt
  simp at e0 e1
  by_cases h2 : n ≤ mayV l ps s tk pt n 1099511627776 m1 m2
  ·have q2 : decide (mayV l ps s tk pt n 1099511627776 m1 m2 < n) = false := by simpa using h2
   have hOK : doOk l ps s tk pt n m1 m2 := ⟨by omega, h2⟩
   obtain ⟨o, hf, ⟨c1, c2, c3, c4⟩, h3, h4, h5⟩ := hOK.facts
   have hGo := (HGo.out o hf).bd II.out
   have hmem := (findO_mem hf).1
   have hmay := JJ.out.may o hmem
   have FT := Lib.hid (JJ.out.fits hmem)
   obtain ⟨_, _, _, _, _, hmy⟩ := hmay
   obtain ⟨x, hx⟩ : ∃ x, upN (n * o.nu) o.de = x := ⟨_, rfl⟩
   obtain ⟨u1, u2, u3⟩ := up_fits hmy (g := min 1099511627776 m2) (by omega) (by omega) (by omega) h5
   rw [hx] at u1 u2 u3
   have CU := Lib.hid (fun w => rup_rat n o.nu o.de w HN.out FT.out.nu FT.out.de)
   rw [u1] at CU
   have HX := Lib.hid hx
   have HOK := Lib.hid hOK
   have HF := Lib.hid hf
   have CF := Lib.hid (pfind_any P2.out JJ.out.n1 s)
   rw [hf] at CF
   dsimp only [foundV, Of.val] at CF
   have hx64 : Hid (In64 x) := Lib.hid ⟨by omega, by omega⟩
   clear hOK hGo hmem hmy u1 u2 u3 hx hf h5 h4 h3 c1 c2 c3 c4
   generalize mayV l ps s tk pt n 1099511627776 m1 m2 = mm at *
   clear h2
   go_wp2_with fail
   refine CF.out.mono ?_
   rintro e w2 ⟨rfl, b2⟩
   have bo := (Below.refl w2.heap.size w2).alloc (Nat.le_refl _) (.cells #[.int .u64 o.se, .int .u8 o.ow, .int .u8 o.sl, .int .u8 o.bu, .int .i64 o.lf, .int .i64 o.nu, .int .i64 o.de] 60)
   have KO := Lib.hid (Blk.new w2 #[.int .u64 o.se, .int .u8 o.ow, .int .u8 o.sl, .int .u8 o.bu, .int .i64 o.lf, .int .i64 o.nu, .int .i64 o.de] 60)
   have b3 := b2.trans (bo.mono b2.size)
   have KX2 := Lib.hid (KX1.out.below b3 KX1.out.lt)
   have KF2 := Lib.hid (KF1.out.below b3 KF1.out.lt)
   have L3 := Lib.hid (L2.out.below b3)
   have P3 := Lib.hid (P2.out.below b3)
   have B3 := Lib.hid (B1.out.trans (b3.mono B1.out.size))
   have HSZ : Hid (w.heap.size ≤ w2.heap.size) := Lib.hid (B1.out.trans (b2.mono B1.out.size)).size
   clear b2 b3 bo e0 e1 kx KX1 KF1 L2 P2 B1 CF
   have e0 := KX2.out.cell 0; have e1 := KX2.out.cell 1
   have kx := KX2.out.lt
   simp at e0 e1
   have d0 := KO.out.cell 0; have d1 := KO.out.cell 1; have d2 := KO.out.cell 2; have d3 := KO.out.cell 3; have d4 := KO.out.cell 4; have d5 := KO.out.cell 5; have d6 := KO.out.cell 6
   have kol := KO.out.lt
   simp at d0 d1 d2 d3 d4 d5 d6
   go_wp2_with fail
   refine (CU.out _).mono ?_
   rintro e w3 ⟨rfl, b3⟩
   have KX3 := Lib.hid (KX2.out.below b3 KX2.out.lt)
   have KO3 := Lib.hid (KO.out.below b3 KO.out.lt)
   have KF3 := Lib.hid (KF2.out.below b3 KF2.out.lt)
   have L4 := Lib.hid (L3.out.below b3)
   have P4 := Lib.hid (P3.out.below b3)
   have B4 := Lib.hid (B3.out.trans (b3.mono B3.out.size))
   clear b3 CU KX2 KO KF2 L3 P3 B3
   clear e0 e1 kx d0 d1 d2 d3 d4 d5 d6 kol
   have e0 := KX3.out.cell 0; have e1 := KX3.out.cell 1
   have kx := KX3.out.lt
   simp at e0 e1
   have d0 := KO3.out.cell 0; have d1 := KO3.out.cell 1; have d2 := KO3.out.cell 2; have d3 := KO3.out.cell 3; have d4 := KO3.out.cell 4; have d5 := KO3.out.cell 5; have d6 := KO3.out.cell 6
   have kol := KO3.out.lt
   simp at d0 d1 d2 d3 d4 d5 d6
   by_cases hp : pt = o.ow
   ·have q3 : (pt != o.ow) = false := by simpa using hp
    have HP := Lib.hid hp
    clear hp
    have BK : Hid (Keep (fun k => k = G ∨ k = M ∨ Foot gb vb k) w w3) := Lib.hid (Keep.of_below B4.out)
    clear B4
    have KXA := KX3
    have KFA := KF3
    have KOA := KO3
    have LA := L4
    have PA := P4
    clear KX3 KF3 KO3 L4 P4
    obtain ⟨τ, hτ⟩ := route_ends (roomF_inv II.out o.bu) tk o.ow x
    have HTAU := Lib.hid hτ
    have CP := Lib.hid (ppay_any HRo.out LA.out II.out HT.out FT.out.ow FT.out.bu hx64.out hτ)
    clear hτ
    go_wp2_with fail
    refine CP.out.mono ?_
    rintro e w6 ⟨rfl, r6, k6⟩
    have AP := (PA.out.ne_map LA.out).1
    have KX6 := Lib.hid (KXA.out.keep k6 (by have := HML.out; omega))
    have KF6 := Lib.hid (KFA.out.keep k6 (by have := HML.out; omega))
    have P6 := Lib.hid (PA.out.keep k6 AP.1 AP.2)
    have B6 := Lib.hid (BK.out.trans (k6.mono (fun k _ h => Or.inr (Or.inl h))))
    have L6 := Lib.hid r6
    clear CP r6 k6 AP KXA KFA PA LA BK KOA
    clear e0 e1 kx d0 d1 d2 d3 d4 d5 d6 kol
    have e0 := KX6.out.cell 0; have e1 := KX6.out.cell 1
    have kx := KX6.out.lt
    simp at e0 e1
    have CK := Lib.hid (ptake_any P6.out JJ.out s n)
    go_wp2_with fail
    refine CK.out.mono ?_
    rintro e w7 ⟨rfl, vb7, r7, k7, mv7⟩
    have AP := (P6.out.ne_map L6.out).2
    have hgz : ¬ Foot gb vb (w.heap.size + 1) := fun h => by have := HFO.out _ h; omega
    have KF7 := Lib.hid (KF6.out.keep k7 hgz)
    have L7 := Lib.hid (L6.out.keep k7 AP.1 AP.2)
    have B7 := Lib.hid (B6.out.trans (k7.mono (fun k _ h => Or.inr (Or.inr h))))
    have P7 := Lib.hid r7
    have MV := Lib.hid (mv7.of_le B6.out.size)
    clear CK r7 k7 mv7 AP hgz KX6 KF6 P6 L6 B6
    clear e0 e1 kx
    go_wp2_with (refine wpList_store_whole rfl 48 (.tmp 10) (.tmp 81) rfl (w.heap.size + 1) #[.int .u64 s, .int .u8 tk, .int .u8 pt, .int .i64 n, .int .i64 x] rfl rfl 48 _ KF7.out.out (by kernel_rfl) rfl (by simp [Value.oneCell']) ?_)
    refine bodyPost_ret (v := .tuple #[.agg #[.int .u64 s, .int .u8 tk, .int .u8 pt, .int .i64 n, .int .i64 x], .int .i64 0]) (results_cell_and rfl _ _ (w.heap.size + 1) 48 #[.int .u64 s, .int .u8 tk, .int .u8 pt, .int .i64 n, .int .i64 x] _ _ rfl (setRow_heap _ (w.heap.size + 1) _ _ _ (0, 0) KF7.out.out) Tryz.underlying48 rfl (by kernel_rfl) rfl) rfl (.inr ⟨HOK.out, o, x, _, vb7, HF.out, HX.out.symm, ⟨ls, τ, (.inl ⟨HP.out, rfl⟩), HTAU.out, rfl⟩, rfl, ?_, ?_, B7.out.freshRow (by omega) _, MV.out⟩)
    ·exact L7.out.keep (below_keepRow _ _) (by have := HGL.out; omega) (by have := HML.out; omega)
    ·refine P7.out.keep (below_keepRow _ _) (by have := HBL.out; omega) (fun b hb h => ?_)
     subst h
     exact owns_ne P7.out.row KF7.out (by decide) _ hb rfl
   ·have q3 : (pt != o.ow) = true := by simpa using hp
    have HP := Lib.hid hp
    clear hp
    obtain ⟨σ, hσ⟩ := route_ends (roomF_inv II.out o.sl) o.ow pt n
    have HSG := Lib.hid hσ
    have CP := Lib.hid (ppay_any HRo.out L4.out II.out FT.out.ow HTo.out FT.out.sl HN.out hσ)
    clear hσ
    go_wp2_with fail
    refine CP.out.mono ?_
    rintro e w5 ⟨rfl, r5, k5⟩
    have AP := (P4.out.ne_map L4.out).1
    have KXA := Lib.hid (KX3.out.keep k5 (by have := HML.out; omega))
    have KFA := Lib.hid (KF3.out.keep k5 (by have := HML.out; omega))
    have KOA := Lib.hid (KO3.out.keep k5 (by have := HML.out; have := HSZ.out; omega))
    have PA := Lib.hid (P4.out.keep k5 AP.1 AP.2)
    have BK : Hid (Keep (fun k => k = G ∨ k = M ∨ Foot gb vb k) w w5) := Lib.hid ((Keep.of_below B4.out).trans (k5.mono (fun k _ h => Or.inr (Or.inl h))))
    have LA := Lib.hid r5
    have IA := Lib.hid (payL_inv II.out o.ow pt o.sl n σ)
    clear CP r5 k5 AP KX3 KF3 KO3 P4 L4 B4
    clear e0 e1 kx d0 d1 d2 d3 d4 d5 d6 kol
    have RT : Hid (∃ a, IsRoute (roomF ps ls o.sl) 4398046511104 o.ow pt n a ∧ payL ps ls o.ow pt o.sl n σ = payL ps ls o.ow pt o.sl n a) := Lib.hid ⟨σ, HSG.out, rfl⟩
    clear HSG
    generalize payL ps ls o.ow pt o.sl n σ = ls4 at *
    have e0 := KXA.out.cell 0; have e1 := KXA.out.cell 1
    have kx := KXA.out.lt
    simp at e0 e1
    have d0 := KOA.out.cell 0; have d1 := KOA.out.cell 1; have d2 := KOA.out.cell 2; have d3 := KOA.out.cell 3; have d4 := KOA.out.cell 4; have d5 := KOA.out.cell 5; have d6 := KOA.out.cell 6
    have kol := KOA.out.lt
    simp at d0 d1 d2 d3 d4 d5 d6
    obtain ⟨τ, hτ⟩ := route_ends (roomF_inv IA.out o.bu) tk o.ow x
    have HTAU := Lib.hid hτ
    have CP := Lib.hid (ppay_any HRo.out LA.out IA.out HT.out FT.out.ow FT.out.bu hx64.out hτ)
    clear hτ
    go_wp2_with fail
    refine CP.out.mono ?_
    rintro e w6 ⟨rfl, r6, k6⟩
    have AP := (PA.out.ne_map LA.out).1
    have KX6 := Lib.hid (KXA.out.keep k6 (by have := HML.out; omega))
    have KF6 := Lib.hid (KFA.out.keep k6 (by have := HML.out; omega))
    have P6 := Lib.hid (PA.out.keep k6 AP.1 AP.2)
    have B6 := Lib.hid (BK.out.trans (k6.mono (fun k _ h => Or.inr (Or.inl h))))
    have L6 := Lib.hid r6
    clear CP r6 k6 AP KXA KFA PA LA BK KOA
    clear e0 e1 kx d0 d1 d2 d3 d4 d5 d6 kol
    have e0 := KX6.out.cell 0; have e1 := KX6.out.cell 1
    have kx := KX6.out.lt
    simp at e0 e1
    have CK := Lib.hid (ptake_any P6.out JJ.out s n)
    go_wp2_with fail
    refine CK.out.mono ?_
    rintro e w7 ⟨rfl, vb7, r7, k7, mv7⟩
    have AP := (P6.out.ne_map L6.out).2
    have hgz : ¬ Foot gb vb (w.heap.size + 1) := fun h => by have := HFO.out _ h; omega
    have KF7 := Lib.hid (KF6.out.keep k7 hgz)
    have L7 := Lib.hid (L6.out.keep k7 AP.1 AP.2)
    have B7 := Lib.hid (B6.out.trans (k7.mono (fun k _ h => Or.inr (Or.inr h))))
    have P7 := Lib.hid r7
    have MV := Lib.hid (mv7.of_le B6.out.size)
    clear CK r7 k7 mv7 AP hgz KX6 KF6 P6 L6 B6
    clear e0 e1 kx
    go_wp2_with (refine wpList_store_whole rfl 48 (.tmp 10) (.tmp 81) rfl (w.heap.size + 1) #[.int .u64 s, .int .u8 tk, .int .u8 pt, .int .i64 n, .int .i64 x] rfl rfl 48 _ KF7.out.out (by kernel_rfl) rfl (by simp [Value.oneCell']) ?_)
    refine bodyPost_ret (v := .tuple #[.agg #[.int .u64 s, .int .u8 tk, .int .u8 pt, .int .i64 n, .int .i64 x], .int .i64 0]) (results_cell_and rfl _ _ (w.heap.size + 1) 48 #[.int .u64 s, .int .u8 tk, .int .u8 pt, .int .i64 n, .int .i64 x] _ _ rfl (setRow_heap _ (w.heap.size + 1) _ _ _ (0, 0) KF7.out.out) Tryz.underlying48 rfl (by kernel_rfl) rfl) rfl (.inr ⟨HOK.out, o, x, _, vb7, HF.out, HX.out.symm, ⟨ls4, τ, (.inr ⟨HP.out, RT.out⟩), HTAU.out, rfl⟩, rfl, ?_, ?_, B7.out.freshRow (by omega) _, MV.out⟩)
    ·exact L7.out.keep (below_keepRow _ _) (by have := HGL.out; omega) (by have := HML.out; omega)
    ·refine P7.out.keep (below_keepRow _ _) (by have := HBL.out; omega) (fun b hb h => ?_)
     subst h
     exact owns_ne P7.out.row KF7.out (by decide) _ hb rfl
  ·have q2 : decide (mayV l ps s tk pt n 1099511627776 m1 m2 < n) = true := by simpa using h2
   have NO : Hid (¬ doOk l ps s tk pt n m1 m2) := Lib.hid (fun h => h2 h.2)
   clear h2
   generalize mayV l ps s tk pt n 1099511627776 m1 m2 = mm at *
   go_wp2_with (refine wpList_store_whole rfl 48 (.tmp 10) (.tmp 34) rfl (w.heap.size + 1) #[.int .u64 0, .int .u8 0, .int .u8 0, .int .i64 0, .int .i64 0] rfl rfl 48 _ KF1.out.out (by kernel_rfl) rfl (by simp [Value.oneCell']) ?_)
   refine bodyPost_ret (v := .tuple #[noFill, .int .i64 1]) (results_cell_and rfl _ _ (w.heap.size + 1) 48 #[.int .u64 0, .int .u8 0, .int .u8 0, .int .i64 0, .int .i64 0] _ _ rfl (setRow_heap _ (w.heap.size + 1) _ _ _ (0, 0) KF1.out.out) Tryz.underlying48 rfl (by kernel_rfl) rfl) rfl (.inl ⟨NO.out, rfl, below_setRow B1.out (by omega) _⟩)
end Go.Proofs.YtbieomgpfhloeaaGreat
namespace Go.Proofs.YtbieomgpfhloeaaGreat
open Go.RowKit
def wayX10 (s t : Int) (σ : RS) : Nat → RS
 | 0 => σ
 | k + 1 => wayR s t (wayX10 s t σ k)
theorem route10_by {f0 : Int → Int → Int} {B s t want : Int} (h : GInv f0 B) : ∀ k, (∀ j, j < k → ¬ doneR s t (wayX10 s t ⟨f0, want, []⟩ j)) → RInv f0 B s t want k (wayX10 s t ⟨f0, want, []⟩ k)
 | 0, _ => RInv.start h s t want
 | k + 1, hj => (route10_by h k (fun j hk => hj j (by omega))).step (hj k (by omega))
theorem route10_is {f0 : Int → Int → Int} {B s t want : Int} (h : GInv f0 B) (k : Nat) (hj : ∀ j, j < k → ¬ doneR s t (wayX10 s t ⟨f0, want, []⟩ j)) (hd : doneR s t (wayX10 s t ⟨f0, want, []⟩ k)) : IsRoute f0 B s t want (wayX10 s t ⟨f0, want, []⟩ k) :=
 ⟨k, route10_by h k hj, hd⟩
def p10 : List Int := [1, 2, 3]
def l10 : List Ln := [⟨3, 2, 1, 9, 0⟩, ⟨2, 1, 2, 7, 0⟩]
def o10 : List Of := [⟨1, 2, 1, 2, 5, 3, 2⟩]
theorem lv10_s : (∀ j, j < 1 → ¬ doneR 2 3 (wayX10 2 3 ⟨roomF p10 l10 1, mostW, []⟩ j)) ∧ doneR 2 3 (wayX10 2 3 ⟨roomF p10 l10 1, mostW, []⟩ 1) ∧ mostW - (wayX10 2 3 ⟨roomF p10 l10 1, mostW, []⟩ 1).left = 9 := by
 unfold doneR
 decide +kernel
theorem lv10_b : (∀ j, j < 1 → ¬ doneR 1 2 (wayX10 1 2 ⟨roomF p10 l10 2, mostW, []⟩ j)) ∧ doneR 1 2 (wayX10 1 2 ⟨roomF p10 l10 2, mostW, []⟩ 1) ∧ mostW - (wayX10 1 2 ⟨roomF p10 l10 2, mostW, []⟩ 1).left = 7 := by
 unfold doneR
 decide +kernel
theorem goes10 (hI : LInv p10 l10) : Goes p10 l10 ⟨1, 2, 1, 2, 5, 3, 2⟩ 1 3 9 7 :=
 ⟨⟨_, route10_is (roomF_inv hI 1) 1 lv10_s.1 lv10_s.2.1, lv10_s.2.2⟩, _, route10_is (roomF_inv hI 2) 1 lv10_b.1 lv10_b.2.1, lv10_b.2.2⟩
theorem may10_1 : mayV o10 p10 1 1 3 9 100 9 7 = 4 := by decide +kernel
theorem may10_2 : mayV o10 p10 1 1 3 9 5 9 7 = 3 := by decide +kernel
theorem may10_3 (m1 m2 : Int) : mayV o10 p10 1 2 3 9 9 m1 m2 = 0 := by
 show mayO ⟨1, 2, 1, 2, 5, 3, 2⟩ p10 2 3 9 9 m1 m2 = 0
 unfold mayO
 rw [if_pos (.inl rfl)]
theorem may10_4 (m1 m2 : Int) : mayV o10 p10 7 1 3 9 9 m1 m2 = 0 := rfl
theorem do10_5 : ¬ doOk o10 p10 1 1 3 5 9 7 := by unfold doOk; decide +kernel
theorem do10_3 : doOk o10 p10 1 1 3 3 9 7 := by unfold doOk; decide +kernel
set_option maxHeartbeats 16000000 in
set_option maxRecDepth 100000 in
theorem lives10_any (HMy : FMayProg) (HD : FDoProg) : Lives10 := fun w => by
 go_enter Tryz.func6, Tryz.ntmps6
 go_wp2_with fail
 refine (new_any w).mono ?_
 rintro e w0 ⟨G, M, rfl, h0, hG, hM, hb0⟩
 have H0 := Lib.hid h0
 have B0 := Lib.hid hb0
 have I0 := Lib.hid LInv.nil
 clear h0 hb0
 have c1 := Lib.hid (open_any H0.out I0.out.bd 1)
 rw [show openE [] 1 = 0 by decide, show openP [] 1 = [1] by decide] at c1
 have I1 : Hid (LInv [1] []) := Lib.hid (by have := LInv.open I0.out 1; rwa [show openP [] 1 = [1] by decide] at this)
 go_wp2_with fail
 refine c1.out.mono ?_
 rintro e w1 ⟨rfl, h1, k1⟩
 have H1 := Lib.hid h1
 have B1 := Lib.hid (B0.out.trans (k1.below B0.out.size (fun b hb e => by omega)))
 clear h1 k1 c1 H0 B0 I0
 have c2 := Lib.hid (open_any H1.out I1.out.bd 2)
 rw [show openE [1] 2 = 0 by decide, show openP [1] 2 = [1, 2] by decide] at c2
 have I2 : Hid (LInv [1, 2] []) := Lib.hid (by have := LInv.open I1.out 2; rwa [show openP [1] 2 = [1, 2] by decide] at this)
 go_wp2_with fail
 refine c2.out.mono ?_
 rintro e w2 ⟨rfl, h2, k2⟩
 have H2 := Lib.hid h2
 have B2 := Lib.hid (B1.out.trans (k2.below B1.out.size (fun b hb e => by omega)))
 clear h2 k2 c2 H1 B1 I1
 have c3 := Lib.hid (open_any H2.out I2.out.bd 3)
 rw [show openE [1, 2] 3 = 0 by decide, show openP [1, 2] 3 = [1, 2, 3] by decide] at c3
 have I3 : Hid (LInv [1, 2, 3] []) := Lib.hid (by have := LInv.open I2.out 3; rwa [show openP [1, 2] 3 = [1, 2, 3] by decide] at this)
 go_wp2_with fail
 refine c3.out.mono ?_
 rintro e w3 ⟨rfl, h3, k3⟩
 have H3 := Lib.hid h3
 have B3 := Lib.hid (B2.out.trans (k3.below B2.out.size (fun b hb e => by omega)))
 clear h3 k3 c3 H2 B2 I2
 have c4 := Lib.hid (ptrust_any (a := 3) (b := 2) (c := 1) (n := 9) H3.out I3.out (by unfold In8; decide) (by unfold In8; decide) (by unfold In8; decide))
 rw [show trustE [1, 2, 3] [] 3 2 1 9 = 0 by decide, show trustL [1, 2, 3] [] 3 2 1 9 = [⟨3, 2, 1, 9, 0⟩] by decide] at c4
 have I4 : Hid (LInv [1, 2, 3] [⟨3, 2, 1, 9, 0⟩]) := Lib.hid (by have := LInv.trust I3.out 3 2 1 9; rwa [show trustL [1, 2, 3] [] 3 2 1 9 = [⟨3, 2, 1, 9, 0⟩] by decide] at this)
 go_wp2_with fail
 refine c4.out.mono ?_
 rintro e w4 ⟨rfl, h4, k4⟩
 have H4 := Lib.hid h4
 have B4 := Lib.hid (B3.out.trans (k4.below B3.out.size (fun b hb e => by omega)))
 clear h4 k4 c4 H3 B3 I3
 have c5 := Lib.hid (ptrust_any (a := 2) (b := 1) (c := 2) (n := 7) H4.out I4.out (by unfold In8; decide) (by unfold In8; decide) (by unfold In8; decide))
 rw [show trustE [1, 2, 3] [⟨3, 2, 1, 9, 0⟩] 2 1 2 7 = 0 by decide, show trustL [1, 2, 3] [⟨3, 2, 1, 9, 0⟩] 2 1 2 7 = [⟨3, 2, 1, 9, 0⟩, ⟨2, 1, 2, 7, 0⟩] by decide] at c5
 have I5 : Hid (LInv [1, 2, 3] [⟨3, 2, 1, 9, 0⟩, ⟨2, 1, 2, 7, 0⟩]) := Lib.hid (by have := LInv.trust I4.out 2 1 2 7; rwa [show trustL [1, 2, 3] [⟨3, 2, 1, 9, 0⟩] 2 1 2 7 = [⟨3, 2, 1, 9, 0⟩, ⟨2, 1, 2, 7, 0⟩] by decide] at this)
 go_wp2_with fail
 refine c5.out.mono ?_
 rintro e w5 ⟨rfl, h5, k5⟩
 have H5 := Lib.hid h5
 have B5 := Lib.hid (B4.out.trans (k5.below B4.out.size (fun b hb e => by omega)))
 clear h5 k5 c5 H4 B4 I4
 have II : Hid (LInv p10 l10) := Lib.hid I5.out
 have L5 : Hid (LedM w5 G M p10 l10) := Lib.hid H5.out
 clear H5 I5
 go_wp2_with fail
 refine (pnew_any w5 w.heap.size B5.out.size).mono ?_
 rintro e w6 ⟨rfl, h6, b6⟩
 have L6 := Lib.hid (L5.out.below b6)
 have P6 := Lib.hid h6
 have B6 := Lib.hid (B5.out.trans (b6.mono B5.out.size))
 clear h6 b6 L5 B5
 have C7 := Lib.hid (pplace_any (x := ⟨1, 2, 1, 2, 5, 3, 2⟩) P6.out (BInv.nil (N := 1) (by omega) (by omega)) ⟨by decide, by unfold In8; decide, by unfold In8; decide, by unfold In8; decide, by unfold In64; decide, by unfold In64; decide, by unfold In64; decide⟩)
 have J7 : Hid (BInv o10 2) := Lib.hid (by have := BInv.place (x := ⟨1, 2, 1, 2, 5, 3, 2⟩) (BInv.nil (N := 1) (by omega) (by omega)); rwa [show placeL [] ⟨1, 2, 1, 2, 5, 3, 2⟩ = o10 by decide +kernel, show placeN [] ⟨1, 2, 1, 2, 5, 3, 2⟩ = 2 by decide +kernel] at this)
 rw [show placeS [] ⟨1, 2, 1, 2, 5, 3, 2⟩ = 1 by decide +kernel, show placeE [] ⟨1, 2, 1, 2, 5, 3, 2⟩ = 0 by decide +kernel, show placeL [] ⟨1, 2, 1, 2, 5, 3, 2⟩ = o10 by decide +kernel, show placeN [] ⟨1, 2, 1, 2, 5, 3, 2⟩ = 2 by decide +kernel] at C7
 dsimp only at C7
 obtain ⟨gb, hgb⟩ : ∃ gb, w5.heap.size = gb := ⟨_, rfl⟩
 rw [hgb] at P6 C7 ⊢
 have HGB := Lib.hid hgb
 clear hgb
 go_wp2_with fail
 refine C7.out.mono ?_
 rintro e w7 ⟨rfl, vb, h7, k7, _⟩
 have AP := (P6.out.ne_map L6.out).2
 have L7 := Lib.hid (L6.out.keep k7 AP.1 AP.2)
 have P7 := Lib.hid h7
 have B7 := Lib.hid (B6.out.trans (k7.below B6.out.size (fun b hb e => by have := (P6.out.lt e).1; omega)))
 clear h7 k7 AP L6 P6 B6 C7
 have bh := (Below.refl w7.heap.size w7).alloc (Nat.le_refl _) (.cells #[.pointer (some ⟨G, 0, none⟩), .pointer (some ⟨gb, 0, none⟩)] 32)
 have KH := Lib.hid (Blk.new w7 #[.pointer (some ⟨G, 0, none⟩), .pointer (some ⟨gb, 0, none⟩)] 32)
 have L8 := Lib.hid (L7.out.below bh)
 have P8 := Lib.hid (P7.out.below bh)
 have B8 := Lib.hid (B7.out.trans (bh.mono B7.out.size))
 clear bh L7 P7 B7
 have G1 : ∀ o, findO o10 1 = some o → Goes p10 l10 o 1 3 9 7 := fun o ho => by cases ho; exact goes10 II.out
 obtain ⟨x1, x2, G2, _, _⟩ := goes_some II.out o10 1 2 3
 have G3 : ∀ o, findO o10 7 = some o → Goes p10 l10 o 1 3 9 7 := fun o ho => by cases ho
 have i8 : ∀ n : Int, 0 ≤ n → n ≤ 255 → In8 n := fun n a b => ⟨a, b⟩
 have i64 : ∀ n : Int, 0 ≤ n → n ≤ 255 → In64 n := fun n a b => ⟨by omega, by omega⟩
 have Y0 := Lib.hid (fun u (h : LedM u G M p10 l10) (k : PB u w.heap.size gb o10 2 vb) => HMy h II.out k J7.out 1 1 3 9 100 9 7 (by omega) (i8 _ (by decide) (by decide)) (i8 _ (by decide) (by decide)) (i64 _ (by decide) (by decide)) (i64 _ (by decide) (by decide)) G1)
 rw [may10_1] at Y0
 have Y1 := Lib.hid (fun u (h : LedM u G M p10 l10) (k : PB u w.heap.size gb o10 2 vb) => HMy h II.out k J7.out 1 1 3 9 5 9 7 (by omega) (i8 _ (by decide) (by decide)) (i8 _ (by decide) (by decide)) (i64 _ (by decide) (by decide)) (i64 _ (by decide) (by decide)) G1)
 rw [may10_2] at Y1
 have Y2 := Lib.hid (fun u (h : LedM u G M p10 l10) (k : PB u w.heap.size gb o10 2 vb) => HMy h II.out k J7.out 1 2 3 9 9 x1 x2 (by omega) (i8 _ (by decide) (by decide)) (i8 _ (by decide) (by decide)) (i64 _ (by decide) (by decide)) (i64 _ (by decide) (by decide)) G2)
 rw [may10_3 x1 x2] at Y2
 have Y3 := Lib.hid (fun u (h : LedM u G M p10 l10) (k : PB u w.heap.size gb o10 2 vb) => HMy h II.out k J7.out 7 1 3 9 9 9 7 (by omega) (i8 _ (by decide) (by decide)) (i8 _ (by decide) (by decide)) (i64 _ (by decide) (by decide)) (i64 _ (by decide) (by decide)) G3)
 rw [may10_4 9 7] at Y3
 have D0 := Lib.hid (fun u (h : LedM u G M p10 l10) (k : PB u w.heap.size gb o10 2 vb) => HD h II.out k J7.out 1 1 3 5 9 7 (by omega) (i8 _ (by decide) (by decide)) (i8 _ (by decide) (by decide)) (i64 _ (by decide) (by decide)) G1)
 have D1 := Lib.hid (fun u (h : LedM u G M p10 l10) (k : PB u w.heap.size gb o10 2 vb) => HD h II.out k J7.out 1 1 3 3 9 7 (by omega) (i8 _ (by decide) (by decide)) (i8 _ (by decide) (by decide)) (i64 _ (by decide) (by decide)) G1)
 clear G1 G2 G3 i8 i64
 obtain ⟨h, hh⟩ : ∃ h, w7.heap.size = h := ⟨_, rfl⟩
 have KH8 := KH
 clear KH hh
 have e0 := KH8.out.cell 0; have e1 := KH8.out.cell 1
 have kh := KH8.out.lt
 simp at e0 e1
 go_wp2_with fail
 generalize w7.alloc (.cells #[.pointer (some ⟨G, 0, none⟩), .pointer (some ⟨gb, 0, none⟩)] 32) = w8 at *
 refine (Y0.out _ L8.out P8.out).mono ?_
 rintro e w9 ⟨rfl, b9⟩
 have L9 := Lib.hid (L8.out.below b9)
 have P9 := Lib.hid (P8.out.below b9)
 have KH9 := Lib.hid (KH8.out.below b9 KH8.out.lt)
 have B9 := Lib.hid (B8.out.trans (b9.mono B8.out.size))
 clear b9 L8 P8 KH8 B8 Y0 e0 e1 kh
 have e0 := KH9.out.cell 0; have e1 := KH9.out.cell 1
 have kh := KH9.out.lt
 simp at e0 e1
 go_wp2_with fail
 refine (Y1.out _ L9.out P9.out).mono ?_
 rintro e w10 ⟨rfl, b10⟩
 have L10 := Lib.hid (L9.out.below b10)
 have P10 := Lib.hid (P9.out.below b10)
 have KH10 := Lib.hid (KH9.out.below b10 KH9.out.lt)
 have B10 := Lib.hid (B9.out.trans (b10.mono B9.out.size))
 clear b10 L9 P9 KH9 B9 Y1 e0 e1 kh
 have e0 := KH10.out.cell 0; have e1 := KH10.out.cell 1
 have kh := KH10.out.lt
 simp at e0 e1
 go_wp2_with fail
 refine (Y2.out _ L10.out P10.out).mono ?_
 rintro e w11 ⟨rfl, b11⟩
 have L11 := Lib.hid (L10.out.below b11)
 have P11 := Lib.hid (P10.out.below b11)
 have KH11 := Lib.hid (KH10.out.below b11 KH10.out.lt)
 have B11 := Lib.hid (B10.out.trans (b11.mono B10.out.size))
 clear b11 L10 P10 KH10 B10 Y2 e0 e1 kh
 have e0 := KH11.out.cell 0; have e1 := KH11.out.cell 1
 have kh := KH11.out.lt
 simp at e0 e1
 go_wp2_with fail
 refine (Y3.out _ L11.out P11.out).mono ?_
 rintro e w12 ⟨rfl, b12⟩
 have L12 := Lib.hid (L11.out.below b12)
 have P12 := Lib.hid (P11.out.below b12)
 have KH12 := Lib.hid (KH11.out.below b12 KH11.out.lt)
 have B12 := Lib.hid (B11.out.trans (b12.mono B11.out.size))
 clear b12 L11 P11 KH11 B11 Y3 e0 e1 kh
 have e0 := KH12.out.cell 0; have e1 := KH12.out.cell 1
 have kh := KH12.out.lt
 simp at e0 e1
 go_wp2_with fail
 refine (D0.out _ L12.out P12.out).mono ?_
 rintro e w13 hd
 rcases hd with ⟨_, rfl, b13⟩ | ⟨hno, _⟩
 case inr => exact absurd hno do10_5
 have bf := (Below.refl w13.heap.size w13).alloc (Nat.le_refl _) (.cells #[.int .u64 0, .int .u8 0, .int .u8 0, .int .i64 0, .int .i64 0] 48)
 have bb := b13.trans (bf.mono b13.size)
 have L13 := Lib.hid (L12.out.below bb)
 have P13 := Lib.hid (P12.out.below bb)
 have KH13 := Lib.hid (KH12.out.below bb KH12.out.lt)
 have B13 := Lib.hid (B12.out.trans (bb.mono B12.out.size))
 clear b13 bf bb L12 P12 KH12 B12 D0 e0 e1 kh
 unfold noFill
 have e0 := KH13.out.cell 0; have e1 := KH13.out.cell 1
 have kh := KH13.out.lt
 simp at e0 e1
 go_wp2_with fail
 generalize w13.alloc (.cells #[.int .u64 0, .int .u8 0, .int .u8 0, .int .i64 0, .int .i64 0] 48) = W13 at *
 refine (D1.out _ L13.out P13.out).mono ?_
 rintro e w14 hd
 rcases hd with ⟨hno, _⟩ | ⟨_, ox, x, ls', vb', hox, hx, _, rfl, _, _, k14, _⟩
 case inl => exact absurd do10_3 hno
 cases hox
 have hx5 : x = 5 := by rw [hx]; decide +kernel
 subst hx5
 have bb := k14.below (B := w.heap.size) B13.out.size (fun b hb e => by
  rcases e with e | e | e
  ·omega
  ·omega
  ·have := (P13.out.lt e).1; omega)
 have bf := (Below.refl w14.heap.size w14).alloc (Nat.le_refl _) (.cells #[.int .u64 1, .int .u8 1, .int .u8 3, .int .i64 3, .int .i64 5] 48)
 have KF := Lib.hid (Blk.new w14 #[.int .u64 1, .int .u8 1, .int .u8 3, .int .i64 3, .int .i64 5] 48)
 have B14 := Lib.hid ((B13.out.trans bb).trans (bf.mono (B13.out.trans bb).size))
 clear bb bf hx L13 P13 KH13 B13 D1 e0 e1 kh k14
 have f0 := KF.out.cell 0; have f1 := KF.out.cell 1; have f2 := KF.out.cell 2; have f3 := KF.out.cell 3; have f4 := KF.out.cell 4
 have kf := KF.out.lt
 simp at f0 f1 f2 f3 f4
 go_wp2_with fail
 go_ret
 exact ⟨rfl, B14.out⟩
end Go.Proofs.YtbieomgpfhloeaaGreat
namespace Go.Proofs.YtbieomgpfhloeaaGreat
open Go.RowKit
def BCopyPost (base : Nat) (l : List Of) (N : Int) (w : World) (e : Ending) (w' : World) : Prop :=
 ∃ g' vl', e = .returned (.pointer (some ⟨g', 0, none⟩)) ∧ PB w' base g' l N vl' ∧ w.heap.size ≤ g' ∧ (∀ b, vl'.ownBlock = some b → w.heap.size ≤ b) ∧ Below w.heap.size w w'
set_option maxHeartbeats 4000000 in
set_option maxRecDepth 100000 in
theorem pcopyB_any {w : World} {base g : Nat} {l : List Of} {N : Int} {vl : Value} (h : PB w base g l N vl) (h1 : 1 ≤ N) (hl : l.length ≤ 1000) :
  Calls Tryz.prog 36 #[.pointer (some ⟨g, 0, none⟩)] w (BCopyPost base l N w) := by
 have CM := Lib.hid (pmade_any h.blk h1)
 have H := Lib.hid h
 obtain ⟨ao, cap, rfl, _⟩ := owns_open h.row
 have hgl := h.blk.lt
 have d0 := h.blk.cell 0
 have d1 := h.blk.cell 1
 simp at d0 d1
 have CC := Lib.hid (cloneO_any (w := w.drew) (owns_below h.row (Below.refl _ _).drew) hl)
 have hbs := Nat.le_trans h.ge (Nat.le_of_lt hgl)
 clear h h1
 go_enter Tryz.func36, Tryz.ntmps36
 go_wp2_with fail
 refine CM.out.mono ?_
 rintro e w ⟨rfl, rfl⟩
 go_wp2_with fail
 go_region_with ((refine CC.out.mono ?_; rintro e w1 ⟨v', rfl, o1, b1⟩; have HO := Lib.hid o1; have HB := Lib.hid b1; have k1 := (H.out.blk.drew).below b1 hgl; have c1 := k1.cell 1; have l1 := k1.lt; simp at c1; obtain ⟨ao', cap', hv', _⟩ := owns_open o1; subst hv'; clear o1 b1 k1))
 all_goals
  go_wp2
  refine bodyPost_ret (v := .pointer (some ⟨w1.heap.size, 0, none⟩)) (by simp [results, Tryz.results36, go_sem]) rfl ?_
  have bw := (Below.refl w1.heap.size w1).alloc (Nat.le_refl _) (.cells #[.slice ao' l.length cap', .int .u64 N] 100)
  exact ⟨_, _, rfl, ⟨Blk.new _ _ _, Nat.le_trans hbs HB.out.size, owns_base (owns_below HO.out bw) hbs⟩, HB.out.size, fun b hb => (owns_type HO.out hb).1, (Below.undrew HB.out).trans (bw.mono HB.out.size)⟩
end Go.Proofs.YtbieomgpfhloeaaGreat
namespace Go.Proofs.YtbieomgpfhloeaaGreat
open Go.RowKit
theorem owns_rebase {w : World} {base base' : Nat} {e : TypeId} {size : Nat} {v : Value} {n : Nat} {xs : List Value} (h : w.ownsRow base e size v n xs) (hb : ∀ b, v.ownBlock = some b → base' ≤ b) : w.ownsRow base' e size v n xs := by
 obtain ⟨h1, h2⟩ := h
 refine ⟨h1, ?_⟩
 rcases h2 with h2 | ⟨g, cap, cur, rfl, hge, hr⟩
 ·exact .inl h2
 ·exact .inr ⟨g, cap, cur, rfl, hb g rfl, hr⟩
set_option maxHeartbeats 16000000 in
set_option maxRecDepth 100000 in
theorem hcopy_any : FCopyProg := by
 intro w base G M gb ps ls l N vb hL hI hP hJ
 have hg1 : (w.alloc (.cells #[.pointer (some ⟨G, 0, none⟩), .pointer (some ⟨gb, 0, none⟩)] 32)).heap.size = w.heap.size + 1 := by simp
 have b1 := (Below.refl w.heap.size w).alloc (Nat.le_refl _) (.cells #[.pointer (some ⟨G, 0, none⟩), .pointer (some ⟨gb, 0, none⟩)] 32)
 have k1 := Blk.new w #[.pointer (some ⟨G, 0, none⟩), .pointer (some ⟨gb, 0, none⟩)] 32
 generalize hW1 : w.alloc (.cells #[.pointer (some ⟨G, 0, none⟩), .pointer (some ⟨gb, 0, none⟩)] 32) = W1 at *
 have b2 := (Below.refl W1.heap.size W1).alloc (Nat.le_refl _) (.cells #[.pointer none, .pointer none] 32)
 have k2 := Blk.new W1 #[.pointer none, .pointer none] 32
 rw [hg1] at k2
 generalize hW2 : W1.alloc (.cells #[.pointer none, .pointer none] 32) = W2 at *
 have HW1 := Lib.hid hW1
 have HW2 := Lib.hid hW2
 have KX := Lib.hid (k1.below b2 k1.lt)
 have KF := Lib.hid k2
 have CL := Lib.hid (pcopy_any (((hL.below b1).below b2).below (Below.refl _ W2).drew))
 have HB := Lib.hid (((hP.below b1).below b2).below (Below.refl _ W2).drew)
 have B1 := Lib.hid (b1.trans (b2.mono b1.size))
 have JJ := Lib.hid hJ
 clear hL hI hP hJ b1 b2 k1 k2 hW1 hW2 hg1
 go_enter Tryz.func9, Tryz.ntmps9
 go_upto_region 1 with fail
 rw [HW1.out, HW2.out]
 have e0 := KX.out.cell 0; have e1 := KX.out.cell 1
 have kx := KX.out.lt
 have kf := KF.out.lt
 have f0 := KF.out.cell 0; have f1 := KF.out.cell 1
 simp at e0 e1 f0 f1
 go_region_with (first | (go_at_call 35; refine CL.out.mono ?_; rintro e w1 ⟨g1, m1, rfl, r1, n1, n2, b1⟩; have KX1 := Lib.hid (KX.out.drew.below b1 kx); have KF1 := Lib.hid (KF.out.drew.below b1 kf); have R1 := Lib.hid r1; have BB := Lib.hid b1; have NN := Lib.hid (And.intro n1 n2); have CB := Lib.hid (pcopyB_any (HB.out.below b1) JJ.out.n1 (by have := JJ.out.len; omega)); clear r1 b1 n1 n2; have c0 := KX1.out.cell 0; have c1 := KX1.out.cell 1; have cx := KX1.out.lt; simp at c0 c1) | (go_at_call 36; refine CB.out.mono ?_; rintro e w2 ⟨g2, vb2, rfl, r2, n1, n2, b2⟩; have KF2 := Lib.hid (KF1.out.below b2 KF1.out.lt); have R2 := Lib.hid r2; have B2 := Lib.hid b2; have NM := Lib.hid (And.intro n1 n2); clear r2 b2 n1 n2; have z0 := KF2.out.cell 0; have z1 := KF2.out.cell 1; have zx := KF2.out.lt; have zf := KF2.out.frozen; simp at z0 z1))
 all_goals
  go_wp2
  refine bodyPost_ret (v := .agg #[.pointer (some ⟨g1, 0, none⟩), .pointer (some ⟨g2, 0, none⟩)]) (results_cell_row rfl _ _ (w.heap.size + 1) 32 #[.pointer (some ⟨g1, 0, none⟩), .pointer (some ⟨g2, 0, none⟩)] (0, 0) _ rfl ((KF2.out.set 0 _).set 1 _).out Tryz.underlying32 rfl (by kernel_rfl)) rfl ?_
  have kk : Keep (· = w.heap.size + 1) w2 ((w2.setCell ⟨w.heap.size + 1, 0, none⟩ (.pointer (some ⟨g1, 0, none⟩))).setCell ⟨w.heap.size + 1, 1, none⟩ (.pointer (some ⟨g2, 0, none⟩))) := by
   refine Keep.setCell (S := (· = w.heap.size + 1)) ?_ (p := ⟨w.heap.size + 1, 1, none⟩) (.inl rfl) _
   exact Keep.setCell (S := (· = w.heap.size + 1)) (Keep.refl _ _) (p := ⟨w.heap.size + 1, 0, none⟩) (.inl rfl) _
  have s1 := B1.out.size
  have s2 := BB.out.size
  obtain ⟨n1, n2⟩ := NN.out
  obtain ⟨m1, m2⟩ := NM.out
  have hd : W2.drew.heap.size = W2.heap.size := rfl
  rw [hd] at s2 n1 n2
  have R3 := R2.out.keep kk (by omega) (fun b h => by have := m2 b h; omega)
  exact ⟨_, _, _, _, rfl, (R1.out.below B2.out).keep kk (by omega) (by omega), ⟨R3.blk, by omega, owns_rebase R3.row (fun b hb => by have := m2 b hb; omega)⟩, by omega, by omega,
   (B1.out.trans (((Below.undrew BB.out).trans (B2.out.mono s2)).mono s1)).trans (kk.below (by omega) (fun k hk h => by omega))⟩
end Go.Proofs.YtbieomgpfhloeaaGreat
