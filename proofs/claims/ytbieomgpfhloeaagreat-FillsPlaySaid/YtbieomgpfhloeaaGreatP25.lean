/-
  Pieces of one proof, without what is not wanted: Ref10d.
-/
import Derived.Test.YtbieomgpfhloeaaGreatP24
import Derived.Deep.RegionWith
set_option linter.unusedSimpArgs false
set_option linter.unusedVariables false
namespace Go.Proofs.YtbieomgpfhloeaaGreat
open Go.RowKit
set_option maxHeartbeats 4000000 in
theorem rnew10_any (w : World) (bl bb : Nat) (h1 : bl ≤ w.heap.size) (h2 : bb ≤ w.heap.size) :
  Calls Tryz.prog 29 #[] w fun e w' => ∃ rl rb, e = .returned (.agg #[.pointer (some ⟨rl, 0, none⟩), .pointer (some ⟨rb, 0, none⟩)]) ∧ w.heap.size ≤ rl ∧ w.heap.size ≤ rb ∧ RefL w' bl rl [] [] (.slice none 0 0) (.slice none 0 0) ∧ RefB w' bb rb [] 1 (.slice none 0 0) ∧ Below w.heap.size w w' := by
 have b0 := (Below.refl w.heap.size w).alloc (Nat.le_refl _) (.cells #[.pointer none, .pointer none] 37)
 have KX := Lib.hid (Blk.new w #[.pointer none, .pointer none] 37)
 have CL := Lib.hid (rnew_any (w.alloc (.cells #[.pointer none, .pointer none] 37)) bl (Nat.le_trans h1 b0.size))
 have H2 := Lib.hid (Nat.le_trans h2 b0.size)
 have B0 := Lib.hid b0
 clear h1 h2 b0
 go_enter Tryz.func29, Tryz.ntmps29
 go_wp2_with fail
 generalize w.alloc (.cells #[.pointer none, .pointer none] 37) = W at *
 refine CL.out.mono ?_
 rintro e w1 ⟨rfl, r1, b1⟩
 have KX1 := Lib.hid (KX.out.below b1 KX.out.lt)
 have CB := Lib.hid (bnew_any w1 bb (Nat.le_trans H2.out b1.size))
 have R1 := Lib.hid r1
 have B1 := Lib.hid b1
 clear r1 b1 CL
 go_wp2_with fail
 refine CB.out.mono ?_
 rintro e w2 ⟨rfl, r2, b2⟩
 have KX2 := Lib.hid (KX1.out.below b2 KX1.out.lt)
 have R2 := Lib.hid r2
 have B2 := Lib.hid b2
 clear r2 b2 CB
 have s0 := B0.out.size
 have s1 := B1.out.size
 have hx := KX.out.lt
 go_wp2_with (refine wpList_store_whole rfl 37 (.tmp 0) (.tmp 3) rfl w.heap.size #[.pointer (some ⟨W.heap.size, 0, none⟩), .pointer (some ⟨w1.heap.size, 0, none⟩)] rfl rfl 37 _ KX2.out.out (by kernel_rfl) rfl (by simp [Value.oneCell']) ?_)
 refine bodyPost_ret (v := .agg #[.pointer (some ⟨W.heap.size, 0, none⟩), .pointer (some ⟨w1.heap.size, 0, none⟩)]) (results_cell_row rfl _ _ w.heap.size 37 #[.pointer (some ⟨W.heap.size, 0, none⟩), .pointer (some ⟨w1.heap.size, 0, none⟩)] (0, 0) _ rfl (setRow_heap _ w.heap.size _ _ _ (0, 0) KX2.out.out) Tryz.underlying37 rfl (by kernel_rfl)) rfl ?_
 exact ⟨_, _, rfl, s0, Nat.le_trans s0 s1, (R1.out.below B2.out).keep (below_keepRow _ _) (by omega) (fun b h => by simp [Value.ownBlock] at h) (fun b h => by simp [Value.ownBlock] at h), R2.out.keep (below_keepRow _ _) (by omega) (fun b h => by simp [Value.ownBlock] at h), below_setRow (B0.out.trans ((B1.out.trans (B2.out.mono s1)).mono s0)) (Nat.le_refl _) _⟩
def RCopyPost10 (w : World) (bl bb : Nat) (ps : List Int) (ls : List Ln) (l : List Of) (N : Int) (e : Ending) (w' : World) : Prop :=
 ∃ rl rb vp vl vb, e = .returned (.agg #[.pointer (some ⟨rl, 0, none⟩), .pointer (some ⟨rb, 0, none⟩)]) ∧ RefL w' bl rl ps ls vp vl ∧ RefB w' bb rb l N vb ∧
  w.heap.size ≤ rl ∧ w.heap.size ≤ rb ∧ (∀ b, vp.ownBlock = some b → w.heap.size ≤ b) ∧ (∀ b, vl.ownBlock = some b → w.heap.size ≤ b) ∧ (∀ b, vb.ownBlock = some b → w.heap.size ≤ b) ∧ Below w.heap.size w w'
set_option maxHeartbeats 16000000 in
theorem rcopy10_any {w : World} {bl bb rl rb : Nat} {ps : List Int} {ls : List Ln} {l : List Of} {N : Int} {vp vl vb : Value} (hR : RefL w bl rl ps ls vp vl) (hB : RefB w bb rb l N vb) (h1 : ps.length ≤ 1000) (h2 : ls.length ≤ 1000) (h3 : l.length ≤ 1000) :
  Calls Tryz.prog 10 #[.agg #[.pointer (some ⟨rl, 0, none⟩), .pointer (some ⟨rb, 0, none⟩)]] w (RCopyPost10 w bl bb ps ls l N) := by
 have hg1 : (w.alloc (.cells #[.pointer (some ⟨rl, 0, none⟩), .pointer (some ⟨rb, 0, none⟩)] 37)).heap.size = w.heap.size + 1 := by simp
 have b1 := (Below.refl w.heap.size w).alloc (Nat.le_refl _) (.cells #[.pointer (some ⟨rl, 0, none⟩), .pointer (some ⟨rb, 0, none⟩)] 37)
 have k1 := Blk.new w #[.pointer (some ⟨rl, 0, none⟩), .pointer (some ⟨rb, 0, none⟩)] 37
 generalize hW1 : w.alloc (.cells #[.pointer (some ⟨rl, 0, none⟩), .pointer (some ⟨rb, 0, none⟩)] 37) = W1 at *
 have b2 := (Below.refl W1.heap.size W1).alloc (Nat.le_refl _) (.cells #[.pointer none, .pointer none] 37)
 have k2 := Blk.new W1 #[.pointer none, .pointer none] 37
 rw [hg1] at k2
 generalize hW2 : W1.alloc (.cells #[.pointer none, .pointer none] 37) = W2 at *
 have HW1 := Lib.hid hW1
 have HW2 := Lib.hid hW2
 have KX := Lib.hid (k1.below b2 k1.lt)
 have KF := Lib.hid k2
 have CL := Lib.hid (rcopy_any (((hR.below b1).below b2).below (Below.refl _ W2).drew) h1 h2)
 have HB := Lib.hid (((hB.below b1).below b2).below (Below.refl _ W2).drew)
 have B1 := Lib.hid (b1.trans (b2.mono b1.size))
 have H3 := Lib.hid h3
 clear hR hB h1 h2 h3 b1 b2 k1 k2 hW1 hW2 hg1
 go_enter Tryz.func10, Tryz.ntmps10
 go_upto_region 1 with fail
 rw [HW1.out, HW2.out]
 have e0 := KX.out.cell 0; have e1 := KX.out.cell 1
 have kx := KX.out.lt
 have kf := KF.out.lt
 have f0 := KF.out.cell 0; have f1 := KF.out.cell 1
 simp at e0 e1 f0 f1
 go_region_with (first | (go_at_call 37; refine CL.out.mono ?_; rintro e w1 ⟨g1, vp1, vl1, rfl, r1, n1, n2, n3, b1⟩; have KX1 := Lib.hid (KX.out.drew.below b1 kx); have KF1 := Lib.hid (KF.out.drew.below b1 kf); have R1 := Lib.hid r1; have BB := Lib.hid b1; have NN := Lib.hid (And.intro n1 (And.intro n2 n3)); have CB := Lib.hid (bcopy_any (HB.out.below b1) H3.out); clear r1 b1 n1 n2 n3; have c0 := KX1.out.cell 0; have c1 := KX1.out.cell 1; have cx := KX1.out.lt; simp at c0 c1) | (go_at_call 38; refine CB.out.mono ?_; rintro e w2 ⟨g2, vb2, rfl, r2, n1, n2, b2⟩; have KF2 := Lib.hid (KF1.out.below b2 KF1.out.lt); have R2 := Lib.hid r2; have B2 := Lib.hid b2; have NM := Lib.hid (And.intro n1 n2); clear r2 b2 n1 n2; have z0 := KF2.out.cell 0; have z1 := KF2.out.cell 1; have zx := KF2.out.lt; have zf := KF2.out.frozen; simp at z0 z1))
 all_goals
  go_wp2
  refine bodyPost_ret (v := .agg #[.pointer (some ⟨g1, 0, none⟩), .pointer (some ⟨g2, 0, none⟩)]) (results_cell_row rfl _ _ (w.heap.size + 1) 37 #[.pointer (some ⟨g1, 0, none⟩), .pointer (some ⟨g2, 0, none⟩)] (0, 0) _ rfl ((KF2.out.set 0 _).set 1 _).out Tryz.underlying37 rfl (by kernel_rfl)) rfl ?_
  have kk : Keep (· = w.heap.size + 1) w2 ((w2.setCell ⟨w.heap.size + 1, 0, none⟩ (.pointer (some ⟨g1, 0, none⟩))).setCell ⟨w.heap.size + 1, 1, none⟩ (.pointer (some ⟨g2, 0, none⟩))) := by
   refine Keep.setCell (S := (· = w.heap.size + 1)) ?_ (p := ⟨w.heap.size + 1, 1, none⟩) (.inl rfl) _
   exact Keep.setCell (S := (· = w.heap.size + 1)) (Keep.refl _ _) (p := ⟨w.heap.size + 1, 0, none⟩) (.inl rfl) _
  have s1 := B1.out.size
  have s2 := BB.out.size
  obtain ⟨n1, n2, n3⟩ := NN.out
  obtain ⟨m1, m2⟩ := NM.out
  have hd : W2.drew.heap.size = W2.heap.size := rfl
  rw [hd] at s2 n1 n2 n3
  exact ⟨_, _, _, _, _, rfl, (R1.out.below B2.out).keep kk (by omega) (fun b h => by have := n2 b h; omega) (fun b h => by have := n3 b h; omega), R2.out.keep kk (by omega) (fun b h => by have := m2 b h; omega), by omega, by omega, fun b h => by have := n2 b h; omega, fun b h => by have := n3 b h; omega, fun b h => by have := m2 b h; omega,
   (B1.out.trans (((Below.undrew BB.out).trans (B2.out.mono s2)).mono s1)).trans (kk.below (by omega) (fun k hk h => by omega))⟩
theorem Keep.newRow {S : Nat → Prop} {a w : World} (h : Keep S a w) {g : Nat} (hg : a.heap.size ≤ g) (cs : Array Value) : Keep S a (w.setRow g cs) :=
 have k := below_keepRow (w := w) g cs
 ⟨k.os.trans h.os, k.tape.trans h.tape, k.output.trans h.output, Nat.le_trans h.size k.size, fun i hi hs => (k.block i (Nat.lt_of_lt_of_le hi h.size) (by omega)).trans (h.block i hi hs)⟩
def RDoPost (w : World) (bl bb rl rb : Nat) (ps : List Int) (ls : List Ln) (l : List Of) (N : Int) (vp : Value) (s tk pt n m1 m2 : Int) (e : Ending) (w' : World) : Prop :=
 (¬ doOk l ps s tk pt n m1 m2 ∧ e = .returned (.tuple #[noFill, .int .i64 1]) ∧ Below w.heap.size w w') ∨
 (doOk l ps s tk pt n m1 m2 ∧ ∃ o x ls' vl' vb', findO l s = some o ∧ x = upN (n * o.nu) o.de ∧ Filled ps ls o tk pt n x ls' ∧ e = .returned (.tuple #[.agg #[.int .u64 s, .int .u8 tk, .int .u8 pt, .int .i64 n, .int .i64 x], .int .i64 0]) ∧
  RefL w' bl rl ps ls' vp vl' ∧ RefB w' bb rb (takeL l s n) N vb' ∧ Keep (fun k => k = rl ∨ k = rb) w w')
set_option maxHeartbeats 32000000 in
set_option maxRecDepth 100000 in
theorem rdo10_any {w : World} {bl bb rl rb : Nat} {ps : List Int} {ls : List Ln} {l : List Of} {N : Int} {vp vl vb : Value} (hR : RefL w bl rl ps ls vp vl) (hI : LInv ps ls) (hB : RefB w bb rb l N vb) (hJ : BInv l N)
  (s tk pt n m1 m2 : Int) (ht : In8 tk) (hto : In8 pt) (hn : In64 n) (hG : ∀ o, findO l s = some o → Goes ps ls o tk pt m1 m2) :
  Calls Tryz.prog 15 #[.agg #[.pointer (some ⟨rl, 0, none⟩), .pointer (some ⟨rb, 0, none⟩)], .int .u64 s, .int .u8 tk, .int .u8 pt, .int .i64 n] w (RDoPost w bl bb rl rb ps ls l N vp s tk pt n m1 m2) := by
 have b1 := (Below.refl w.heap.size w).alloc (Nat.le_refl _) (.cells #[.pointer (some ⟨rl, 0, none⟩), .pointer (some ⟨rb, 0, none⟩)] 37)
 have k1 := Blk.new w #[.pointer (some ⟨rl, 0, none⟩), .pointer (some ⟨rb, 0, none⟩)] 37
 generalize hW1 : w.alloc (.cells #[.pointer (some ⟨rl, 0, none⟩), .pointer (some ⟨rb, 0, none⟩)] 37) = W1 at *
 have b2 := (Below.refl W1.heap.size W1).alloc (Nat.le_refl _) (.cells #[.int .u64 0, .int .u8 0, .int .u8 0, .int .i64 0, .int .i64 0] 52)
 have k2 := Blk.new W1 #[.int .u64 0, .int .u8 0, .int .u8 0, .int .i64 0, .int .i64 0] 52
 generalize hW2 : W1.alloc (.cells #[.int .u64 0, .int .u8 0, .int .u8 0, .int .i64 0, .int .i64 0] 52) = W2 at *
 have HW1 := Lib.hid hW1
 have HW2 := Lib.hid hW2
 have hg1 : W1.heap.size = w.heap.size + 1 := by rw [← hW1]; simp
 rw [hg1] at k2
 have HR := Lib.hid ((hR.below b1).below b2)
 have HB := Lib.hid ((hB.below b1).below b2)
 have KX := Lib.hid (k1.below b2 k1.lt)
 have KF := Lib.hid k2
 have B2 := Lib.hid (b1.trans (b2.mono b1.size))
 have HGT := Lib.hid hg1
 have II := Lib.hid hI
 have JJ := Lib.hid hJ
 have HT := Lib.hid ht
 have HTo := Lib.hid hto
 have HN := Lib.hid hn
 have HG := Lib.hid hG
 have CM := Lib.hid (rmay10_any HR.out hI HB.out hJ s tk pt n 1099511627776 m1 m2 ht hto hn ⟨by omega, by omega⟩ hG)
 have hrl := hR.blk.lt
 have hrb := hB.blk.lt
 have HRL := Lib.hid hrl
 have HRB := Lib.hid hrb
 have hnb : ¬ (rl = rb) := fun h => by subst h; exact absurd (hR.blk.out.symm.trans hB.blk.out) (by simp)
 have NB := Lib.hid hnb
 clear hnb
 clear b1 k1 b2 k2 hW1 hW2 hR hB hI hJ ht hto hn hG hg1 hrl hrb
 go_enter Tryz.func15, Tryz.ntmps15
 go_upto_region 1 with fail
 rw [HW1.out, HW2.out]
 have e0 := KX.out.cell 0; have e1 := KX.out.cell 1
 have kx := KX.out.lt
 simp at e0 e1
 by_cases h1 : n < 1
 ·have q1 : decide (n < 1) = true := by simpa using h1
  have hno : ¬ doOk l ps s tk pt n m1 m2 := fun h => by have := h.1; omega
  have NO := Lib.hid hno
  clear hno h1
  go_wp2_with (refine wpList_store_whole rfl 52 (.tmp 10) (.tmp 28) rfl (w.heap.size + 1) #[.int .u64 0, .int .u8 0, .int .u8 0, .int .i64 0, .int .i64 0] rfl rfl 52 _ KF.out.out (by kernel_rfl) rfl (by simp [Value.oneCell']) ?_)
  refine bodyPost_ret (v := .tuple #[noFill, .int .i64 1]) (results_cell_and rfl _ _ (w.heap.size + 1) 52 #[.int .u64 0, .int .u8 0, .int .u8 0, .int .i64 0, .int .i64 0] _ _ rfl (setRow_heap _ (w.heap.size + 1) _ _ _ (0, 0) KF.out.out) Tryz.underlying52 rfl (by kernel_rfl) rfl) rfl (.inl ⟨NO.out, rfl, below_setRow B2.out (by omega) _⟩)
 ·have q1 : decide (n < 1) = false := by simpa using h1
  go_wp2_with fail
  refine CM.out.mono ?_
  rintro e w1 ⟨rfl, b1⟩
  have KX1 := Lib.hid (KX.out.below b1 KX.out.lt)
  have KF1 := Lib.hid (KF.out.below b1 KF.out.lt)
  have HR1 := Lib.hid (HR.out.below b1)
  have HB1 := Lib.hid (HB.out.below b1)
  have B1 := Lib.hid (B2.out.trans (b1.mono B2.out.size))
  clear b1 e0 e1 kx KX KF HR HB B2 CM
  have e0 := KX1.out.cell 0; have e1 := KX1.out.cell 1
  have kx := KX1.out.lt
  simp at e0 e1
  by_cases h2 : n ≤ mayV l ps s tk pt n 1099511627776 m1 m2
  ·have q2 : decide (mayV l ps s tk pt n 1099511627776 m1 m2 < n) = false := by simpa using h2
   obtain ⟨o, hf, ⟨c1, c2, c3, c4⟩, h3, h4, h5⟩ := doOk.facts (l := l) (ps := ps) (s := s) (tk := tk) (pt := pt) (n := n) (m1 := m1) (m2 := m2) ⟨by omega, h2⟩
   have hOK : doOk l ps s tk pt n m1 m2 := ⟨by omega, h2⟩
   have hGo := (HG.out o hf).bd II.out
   have hmem := (findO_mem hf).1
   have hmay := JJ.out.may o hmem
   have FT := Lib.hid (JJ.out.fits hmem)
   obtain ⟨_, _, _, _, _, hmy⟩ := hmay
   obtain ⟨x, hx⟩ : ∃ x, upN (n * o.nu) o.de = x := ⟨_, rfl⟩
   obtain ⟨u1, u2, u3⟩ := up_fits hmy (g := min 1099511627776 m2) (by omega) (by omega) (by omega) h5
   rw [hx] at u1 u2 u3
   have CU := Lib.hid (fun w => r2up_any n o.nu o.de w HN.out FT.out.nu FT.out.de)
   rw [u1] at CU
   have HX := Lib.hid hx
   have HOK := Lib.hid hOK
   have HF := Lib.hid hf
   have CF := Lib.hid (bfind_any HB1.out s)
   rw [hf] at CF
   dsimp only [foundV, Of.val] at CF
   have hx64 : Hid (In64 x) := Lib.hid ⟨by omega, by omega⟩
   clear hOK hGo hmem hmy u1 u2 u3 hx hf h5 h4 h3 c1 c2 c3 c4
   generalize mayV l ps s tk pt n 1099511627776 m1 m2 = mm at *
   clear h2
   go_wp2_with fail
   refine CF.out.mono ?_
   rintro e w2 ⟨rfl, b2⟩
   have bo := (Below.refl w2.heap.size w2).alloc (Nat.le_refl _) (.cells #[.int .u64 o.se, .int .u8 o.ow, .int .u8 o.sl, .int .u8 o.bu, .int .i64 o.lf, .int .i64 o.nu, .int .i64 o.de] 60)
   have KO := Lib.hid (Blk.new w2 #[.int .u64 o.se, .int .u8 o.ow, .int .u8 o.sl, .int .u8 o.bu, .int .i64 o.lf, .int .i64 o.nu, .int .i64 o.de] 60)
   have b3 := b2.trans (bo.mono b2.size)
   have KX2 := Lib.hid (KX1.out.below b3 KX1.out.lt)
   have KF2 := Lib.hid (KF1.out.below b3 KF1.out.lt)
   have HR2 := Lib.hid (HR1.out.below b3)
   have HB2 := Lib.hid (HB1.out.below b3)
   have B3 := Lib.hid (B1.out.trans (b3.mono B1.out.size))
   have hsz := B3.out.size
   have hsz0 : w.heap.size ≤ w2.heap.size := (B1.out.trans (b2.mono B1.out.size)).size
   have HSZ := Lib.hid hsz0
   clear hsz hsz0
   clear b2 b3 bo e0 e1 kx KX1 KF1 HR1 HB1 B1 CF
   have e0 := KX2.out.cell 0; have e1 := KX2.out.cell 1
   have kx := KX2.out.lt
   simp at e0 e1
   have d0 := KO.out.cell 0; have d1 := KO.out.cell 1; have d2 := KO.out.cell 2; have d3 := KO.out.cell 3; have d4 := KO.out.cell 4; have d5 := KO.out.cell 5; have d6 := KO.out.cell 6
   have kol := KO.out.lt
   simp at d0 d1 d2 d3 d4 d5 d6
   go_wp2_with fail
   refine (CU.out _).mono ?_
   rintro e w3 ⟨rfl, b3⟩
   have b4 := b3
   have KX3 := Lib.hid ((KX2.out).below b3 KX2.out.lt)
   have KO3 := Lib.hid ((KO.out).below b3 KO.out.lt)
   have KF3 := Lib.hid ((KF2.out).below b3 KF2.out.lt)
   have HR3 := Lib.hid (HR2.out.below b3)
   have HB3 := Lib.hid (HB2.out.below b3)
   have B4 := Lib.hid (B3.out.trans (b3.mono B3.out.size))
   clear b3 b4 CU KX2 KO KF2 HR2 HB2 B3
   clear e0 e1 kx d0 d1 d2 d3 d4 d5 d6 kol
   have e0 := KX3.out.cell 0; have e1 := KX3.out.cell 1
   have kx := KX3.out.lt
   simp at e0 e1
   have d0 := KO3.out.cell 0; have d1 := KO3.out.cell 1; have d2 := KO3.out.cell 2; have d3 := KO3.out.cell 3; have d4 := KO3.out.cell 4; have d5 := KO3.out.cell 5; have d6 := KO3.out.cell 6
   have kol := KO3.out.lt
   simp at d0 d1 d2 d3 d4 d5 d6
   by_cases hp : pt = o.ow
   ·have q3 : (pt != o.ow) = false := by simpa using hp
    have HP := Lib.hid hp
    clear hp
    go_upto_region 7 with fail
    clear e0 e1 kx d0 d1 d2 d3 d4 d5 d6 kol
    have HR4 := HR3
    have HB4 := HB3
    have KX4 := KX3
    have KO4 := KO3
    have KF4 := KF3
    have B4 : Hid (Keep (fun k => k = rl ∨ k = rb) w w3) := Lib.hid (Keep.of_below B4.out)
    clear HR3 HB3 KX3 KO3 KF3
    obtain ⟨τ, hτ⟩ := route_ends (roomF_inv II.out o.bu) tk o.ow x
    have HTAU := Lib.hid hτ
    have CP := Lib.hid (rpay9_any HR4.out II.out HT.out FT.out.ow FT.out.bu hx64.out hτ)
    clear hτ
    have e0 := KX4.out.cell 0; have e1 := KX4.out.cell 1
    have kx := KX4.out.lt
    simp at e0 e1
    have d0 := KO4.out.cell 0; have d1 := KO4.out.cell 1; have d2 := KO4.out.cell 2; have d3 := KO4.out.cell 3; have d4 := KO4.out.cell 4; have d5 := KO4.out.cell 5; have d6 := KO4.out.cell 6
    have kol := KO4.out.lt
    simp at d0 d1 d2 d3 d4 d5 d6
    go_wp2_with fail
    refine CP.out.mono ?_
    rintro e w5 ⟨rfl, ⟨vl5, r5⟩, k5⟩
    have nx : ¬ (w.heap.size = rl) := by have := HRL.out; omega
    have nf : ¬ (w.heap.size + 1 = rl) := by have := HRL.out; omega
    have KX5 := Lib.hid (KX4.out.keep k5 nx)
    have KF5 := Lib.hid (KF4.out.keep k5 nf)
    have HB5 := Lib.hid (HB4.out.keep k5 (fun h => NB.out h.symm) (fun b hb h => by subst h; exact owns_ne HB4.out.row HR4.out.blk (by decide) b hb rfl))
    have B5 := Lib.hid (B4.out.trans (k5.mono (fun k _ h => Or.inl h)))
    have HR5 := Lib.hid r5
    clear CP r5 k5 nx nf KX4 KF4 HB4 HR4 B4 KO4
    clear e0 e1 kx d0 d1 d2 d3 d4 d5 d6 kol
    have e0 := KX5.out.cell 0; have e1 := KX5.out.cell 1
    have kx := KX5.out.lt
    simp at e0 e1
    have CK := Lib.hid (btake_any HB5.out s n (by have := JJ.out.len; omega) (fun y hy => by have := (JJ.out.fits hy).lf; exact this.2))
    go_wp2_with fail
    refine CK.out.mono ?_
    rintro e w6 ⟨rfl, vb6, r6, k6⟩
    have nx : ¬ (w.heap.size = rb) := by have := HRB.out; omega
    have nf : ¬ (w.heap.size + 1 = rb) := by have := HRB.out; omega
    have KF6 := Lib.hid (KF5.out.keep k6 nf)
    have HR6 := Lib.hid (HR5.out.keep k6 NB.out (fun b hb h => by subst h; exact owns_ne HR5.out.p HB5.out.blk (by decide) b hb rfl) (fun b hb h => by subst h; exact owns_ne HR5.out.l HB5.out.blk (by decide) b hb rfl))
    have B6 := Lib.hid (B5.out.trans (k6.mono (fun k _ h => Or.inr h)))
    have HB6 := Lib.hid r6
    clear CK r6 k6 nx nf KX5 KF5 HB5 HR5 B5
    clear e0 e1 kx
    go_wp2_with (refine wpList_store_whole rfl 52 (.tmp 10) (.tmp 75) rfl (w.heap.size + 1) #[.int .u64 s, .int .u8 tk, .int .u8 pt, .int .i64 n, .int .i64 x] rfl rfl 52 _ KF6.out.out (by kernel_rfl) rfl (by simp [Value.oneCell']) ?_)
    refine bodyPost_ret (v := .tuple #[.agg #[.int .u64 s, .int .u8 tk, .int .u8 pt, .int .i64 n, .int .i64 x], .int .i64 0]) (results_cell_and rfl _ _ (w.heap.size + 1) 52 #[.int .u64 s, .int .u8 tk, .int .u8 pt, .int .i64 n, .int .i64 x] _ _ rfl (setRow_heap _ (w.heap.size + 1) _ _ _ (0, 0) KF6.out.out) Tryz.underlying52 rfl (by kernel_rfl) rfl) rfl (.inr ⟨HOK.out, o, x, _, vl5, vb6, HF.out, HX.out.symm, ⟨ls, τ, (.inl ⟨HP.out, rfl⟩), HTAU.out, rfl⟩, rfl, HR6.out.keep (below_keepRow _ _) (by have := HRL.out; omega) (fun b hb h => by subst h; exact owns_ne HR6.out.p KF6.out (by decide) _ hb rfl) (fun b hb h => by subst h; exact owns_ne HR6.out.l KF6.out (by decide) _ hb rfl), HB6.out.keep (below_keepRow _ _) (by have := HRB.out; omega) (fun b hb h => by subst h; exact owns_ne HB6.out.row KF6.out (by decide) _ hb rfl), B6.out.newRow (by omega) _⟩)
   ·have q3 : (pt != o.ow) = true := by simpa using hp
    have HP := Lib.hid hp
    clear hp
    obtain ⟨σ, hσ⟩ := route_ends (roomF_inv II.out o.sl) o.ow pt n
    have HSG := Lib.hid hσ
    have CP := Lib.hid (rpay9_any HR3.out II.out FT.out.ow HTo.out FT.out.sl HN.out hσ)
    clear hσ
    go_wp2_with fail
    refine CP.out.mono ?_
    rintro e w4 ⟨rfl, ⟨vl4, r4⟩, k4⟩
    have nx : ¬ (w.heap.size = rl) := by have := HRL.out; omega
    have nf : ¬ (w.heap.size + 1 = rl) := by have := HRL.out; omega
    have no : ¬ (w2.heap.size = rl) := by have := HRL.out; have := HSZ.out; omega
    have KX4 := Lib.hid (KX3.out.keep k4 nx)
    have KF4 := Lib.hid (KF3.out.keep k4 nf)
    have KO4 := Lib.hid (KO3.out.keep k4 no)
    have HB4 := Lib.hid (HB3.out.keep k4 (fun h => NB.out h.symm) (fun b hb h => by subst h; exact owns_ne HB3.out.row HR3.out.blk (by decide) b hb rfl))
    have B4 : Hid (Keep (fun k => k = rl ∨ k = rb) w w4) := Lib.hid ((Keep.of_below B4.out).trans (k4.mono (fun k _ h => Or.inl h)))
    have HR4 := Lib.hid r4
    have I4 := Lib.hid (payL_inv II.out o.ow pt o.sl n σ)
    clear CP r4 k4 nx nf no HR3 HB3 KX3 KO3 KF3
    clear e0 e1 kx d0 d1 d2 d3 d4 d5 d6 kol
    have RT : Hid (∃ a, IsRoute (roomF ps ls o.sl) 4398046511104 o.ow pt n a ∧ payL ps ls o.ow pt o.sl n σ = payL ps ls o.ow pt o.sl n a) := Lib.hid ⟨σ, HSG.out, rfl⟩
    clear HSG
    generalize payL ps ls o.ow pt o.sl n σ = ls4 at *
    obtain ⟨τ, hτ⟩ := route_ends (roomF_inv I4.out o.bu) tk o.ow x
    have HTAU := Lib.hid hτ
    have CP := Lib.hid (rpay9_any HR4.out I4.out HT.out FT.out.ow FT.out.bu hx64.out hτ)
    clear hτ
    have e0 := KX4.out.cell 0; have e1 := KX4.out.cell 1
    have kx := KX4.out.lt
    simp at e0 e1
    have d0 := KO4.out.cell 0; have d1 := KO4.out.cell 1; have d2 := KO4.out.cell 2; have d3 := KO4.out.cell 3; have d4 := KO4.out.cell 4; have d5 := KO4.out.cell 5; have d6 := KO4.out.cell 6
    have kol := KO4.out.lt
    simp at d0 d1 d2 d3 d4 d5 d6
    go_wp2_with fail
    refine CP.out.mono ?_
    rintro e w5 ⟨rfl, ⟨vl5, r5⟩, k5⟩
    have nx : ¬ (w.heap.size = rl) := by have := HRL.out; omega
    have nf : ¬ (w.heap.size + 1 = rl) := by have := HRL.out; omega
    have KX5 := Lib.hid (KX4.out.keep k5 nx)
    have KF5 := Lib.hid (KF4.out.keep k5 nf)
    have HB5 := Lib.hid (HB4.out.keep k5 (fun h => NB.out h.symm) (fun b hb h => by subst h; exact owns_ne HB4.out.row HR4.out.blk (by decide) b hb rfl))
    have B5 := Lib.hid (B4.out.trans (k5.mono (fun k _ h => Or.inl h)))
    have HR5 := Lib.hid r5
    clear CP r5 k5 nx nf KX4 KF4 HB4 HR4 B4 KO4
    clear e0 e1 kx d0 d1 d2 d3 d4 d5 d6 kol
    have e0 := KX5.out.cell 0; have e1 := KX5.out.cell 1
    have kx := KX5.out.lt
    simp at e0 e1
    have CK := Lib.hid (btake_any HB5.out s n (by have := JJ.out.len; omega) (fun y hy => by have := (JJ.out.fits hy).lf; exact this.2))
    go_wp2_with fail
    refine CK.out.mono ?_
    rintro e w6 ⟨rfl, vb6, r6, k6⟩
    have nx : ¬ (w.heap.size = rb) := by have := HRB.out; omega
    have nf : ¬ (w.heap.size + 1 = rb) := by have := HRB.out; omega
    have KF6 := Lib.hid (KF5.out.keep k6 nf)
    have HR6 := Lib.hid (HR5.out.keep k6 NB.out (fun b hb h => by subst h; exact owns_ne HR5.out.p HB5.out.blk (by decide) b hb rfl) (fun b hb h => by subst h; exact owns_ne HR5.out.l HB5.out.blk (by decide) b hb rfl))
    have B6 := Lib.hid (B5.out.trans (k6.mono (fun k _ h => Or.inr h)))
    have HB6 := Lib.hid r6
    clear CK r6 k6 nx nf KX5 KF5 HB5 HR5 B5
    clear e0 e1 kx
    go_wp2_with (refine wpList_store_whole rfl 52 (.tmp 10) (.tmp 75) rfl (w.heap.size + 1) #[.int .u64 s, .int .u8 tk, .int .u8 pt, .int .i64 n, .int .i64 x] rfl rfl 52 _ KF6.out.out (by kernel_rfl) rfl (by simp [Value.oneCell']) ?_)
    refine bodyPost_ret (v := .tuple #[.agg #[.int .u64 s, .int .u8 tk, .int .u8 pt, .int .i64 n, .int .i64 x], .int .i64 0]) (results_cell_and rfl _ _ (w.heap.size + 1) 52 #[.int .u64 s, .int .u8 tk, .int .u8 pt, .int .i64 n, .int .i64 x] _ _ rfl (setRow_heap _ (w.heap.size + 1) _ _ _ (0, 0) KF6.out.out) Tryz.underlying52 rfl (by kernel_rfl) rfl) rfl (.inr ⟨HOK.out, o, x, _, vl5, vb6, HF.out, HX.out.symm, ⟨ls4, τ, (.inr ⟨HP.out, RT.out⟩), HTAU.out, rfl⟩, rfl, HR6.out.keep (below_keepRow _ _) (by have := HRL.out; omega) (fun b hb h => by subst h; exact owns_ne HR6.out.p KF6.out (by decide) _ hb rfl) (fun b hb h => by subst h; exact owns_ne HR6.out.l KF6.out (by decide) _ hb rfl), HB6.out.keep (below_keepRow _ _) (by have := HRB.out; omega) (fun b hb h => by subst h; exact owns_ne HB6.out.row KF6.out (by decide) _ hb rfl), B6.out.newRow (by omega) _⟩)
  ·have q2 : decide (mayV l ps s tk pt n 1099511627776 m1 m2 < n) = true := by simpa using h2
   have hno : ¬ doOk l ps s tk pt n m1 m2 := fun h => h2 h.2
   have NO := Lib.hid hno
   clear hno h2
   generalize mayV l ps s tk pt n 1099511627776 m1 m2 = mm at *
   go_wp2_with (refine wpList_store_whole rfl 52 (.tmp 10) (.tmp 28) rfl (w.heap.size + 1) #[.int .u64 0, .int .u8 0, .int .u8 0, .int .i64 0, .int .i64 0] rfl rfl 52 _ KF1.out.out (by kernel_rfl) rfl (by simp [Value.oneCell']) ?_)
   refine bodyPost_ret (v := .tuple #[noFill, .int .i64 1]) (results_cell_and rfl _ _ (w.heap.size + 1) 52 #[.int .u64 0, .int .u8 0, .int .u8 0, .int .i64 0, .int .i64 0] _ _ rfl (setRow_heap _ (w.heap.size + 1) _ _ _ (0, 0) KF1.out.out) Tryz.underlying52 rfl (by kernel_rfl) rfl) rfl (.inl ⟨NO.out, rfl, below_setRow B1.out (by omega) _⟩)
end Go.Proofs.YtbieomgpfhloeaaGreat
