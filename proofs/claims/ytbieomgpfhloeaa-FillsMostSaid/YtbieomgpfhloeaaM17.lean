/-
  Pieces of one proof, without what is not wanted: Made10, Ask10, GraphsPair, PayMath.
-/
import Derived.Test.YtbieomgpfhloeaaM05
import Derived.Test.YtbieomgpfhloeaaM06
import Derived.Test.YtbieomgpfhloeaaM10
import Derived.Test.YtbieomgpfhloeaaM13
import Derived.Test.YtbieomgpfhloeaaM16
import Derived.ChangeArms
import Derived.Lib.SmallJoins
set_option linter.unusedSimpArgs false
set_option linter.unusedVariables false
namespace Go.Proofs.Ytbieomgpfhloeaa
open Go.RowKit
def putB (x : Of) (σ : List Of × Int) : List Of × Int := (placeL σ.1 ⟨σ.2, x.ow, x.sl, x.bu, x.lf, x.nu, x.de⟩, placeN σ.1 ⟨σ.2, x.ow, x.sl, x.bu, x.lf, x.nu, x.de⟩)
def offsB (xs : List Of) : List Of × Int := xs.foldl (fun σ x => putB x σ) ([], 1)
theorem offsB_next {xs : List Of} {k : Nat} (h : k < xs.length) {l : List Of} {N : Int} (e : offsB (xs.take k) = (l, N)) : offsB (xs.take (k + 1)) = putB xs[k] (l, N) := by
 unfold offsB at *
 rw [List.take_succ_eq_append_getElem h, List.foldl_append, e]
 rfl
theorem SlIn.off {w : World} {a : Option Addr} {len cap : Nat} {xs : List Of} (h : SlIn Of.vals 7 Of.Fits w a len cap xs) {i : Nat} (hi : i < xs.length) :
  ∃ b off, a = some ⟨b, off, none⟩ ∧ b < w.heap.size ∧ w.cell? ⟨b, off + i * 7, none⟩ = some (.int .u64 xs[i].se) ∧ w.cell? ⟨b, off + i * 7 + 1, none⟩ = some (.int .u8 xs[i].ow) ∧ w.cell? ⟨b, off + i * 7 + 2, none⟩ = some (.int .u8 xs[i].sl) ∧ w.cell? ⟨b, off + i * 7 + 3, none⟩ = some (.int .u8 xs[i].bu) ∧
   w.cell? ⟨b, off + i * 7 + 4, none⟩ = some (.int .i64 xs[i].lf) ∧ w.cell? ⟨b, off + i * 7 + 5, none⟩ = some (.int .i64 xs[i].nu) ∧ w.cell? ⟨b, off + i * 7 + 6, none⟩ = some (.int .i64 xs[i].de) := by
 obtain ⟨h0, h1, h2, h3, h4, h5⟩ := h
 obtain ⟨b, off, rfl, hlt, hc⟩ := h5 (by omega)
 exact ⟨b, off, rfl, hlt, hc i hi 0 _ rfl, hc i hi 1 _ rfl, hc i hi 2 _ rfl, hc i hi 3 _ rfl, hc i hi 4 _ rfl, hc i hi 5 _ rfl, hc i hi 6 _ rfl⟩
def MadePost10 (w : World) (xs : List Ac) (os : List Of) (e : Ending) (w' : World) : Prop :=
 ∃ G M gb ps ls l N vl, e = .returned (.agg #[.pointer (some ⟨G, 0, none⟩), .pointer (some ⟨gb, 0, none⟩)]) ∧ LedM w' G M ps ls ∧ LInv ps ls ∧ w.heap.size ≤ G ∧ w.heap.size ≤ M ∧ PB w' w.heap.size gb l N vl ∧ BInv l N ∧ N ≤ (os.length : Int) + 1 ∧
  gb < G ∧ gb < M ∧ (∀ b, vl.ownBlock = some b → b < G ∧ b < M) ∧ Below w.heap.size w w' ∧ actsL xs = (ps, ls) ∧ offsB os = (l, N)
def MadeAt10 (W : World) (gb len : Nat) (os : List Of) (i : Value) (wr : World) : Prop :=
 ∃ k : Nat, k ≤ len ∧ i = .int .i64 k ∧ ∃ l N vl, PB wr W.heap.size gb l N vl ∧ BInv l N ∧ N ≤ (k : Int) + 1 ∧ Below W.heap.size W wr ∧ Hid (offsB (os.take k) = (l, N))
set_option maxHeartbeats 8000000 in
set_option maxRecDepth 100000 in
theorem made10_any {w : World} {a1 a2 : Option Addr} {n1 n2 c1 c2 : Nat} {xs : List Ac} {os : List Of} (h1 : ActsIn w a1 n1 c1 xs) (h2 : SlIn Of.vals 7 Of.Fits w a2 n2 c2 os) (hl1 : n1 ≤ 120) (hl2 : n2 ≤ 40) :
  Calls Try.prog 11 #[.agg #[.slice a1 n1 c1, .slice a2 n2 c2]] w (MadePost10 w xs os) := by
 have hg1 : (w.alloc (.cells #[.slice a1 n1 c1, .slice a2 n2 c2] 51)).heap.size = w.heap.size + 1 := by simp
 have b1 := (Below.refl w.heap.size w).alloc (Nat.le_refl _) (.cells #[.slice a1 n1 c1, .slice a2 n2 c2] 51)
 have k1 := Blk.new w #[.slice a1 n1 c1, .slice a2 n2 c2] 51
 generalize hW1 : w.alloc (.cells #[.slice a1 n1 c1, .slice a2 n2 c2] 51) = W1 at *
 have b2 := (Below.refl W1.heap.size W1).alloc (Nat.le_refl _) (.cells #[.pointer none, .pointer none] 29)
 have k2 := Blk.new W1 #[.pointer none, .pointer none] 29
 rw [hg1] at k2
 generalize hW2 : W1.alloc (.cells #[.pointer none, .pointer none] 29) = W2 at *
 have HW1 := Lib.hid hW1
 have HW2 := Lib.hid hW2
 have KX := Lib.hid (k1.below b2 k1.lt)
 have KF := Lib.hid k2
 have HA := Lib.hid ((h1.below b1).below b2)
 have HO := Lib.hid ((h2.below b1).below b2)
 have B1 := Lib.hid (b1.trans (b2.mono b1.size))
 have hol : os.length = n2 := h2.2.1
 have hcap := h2.2.2.2.1
 have hmax := h2.2.2.2.2.1
 unfold maxLen at hmax
 clear h1 h2 b1 b2 k1 k2 hW1 hW2 hg1
 go_enter Try.func11, Try.ntmps11
 go_upto_region 1 with fail
 rw [HW1.out, HW2.out]
 go_wp2_with fail
 refine (pnew_any W2 W2.heap.size (Nat.le_refl _)).mono ?_
 rintro e w0 ⟨rfl, h0, hb0⟩
 have H0 := Lib.hid h0
 have B0 := Lib.hid hb0
 clear h0 hb0
 go_wp2_with fail
 go_loopw [4] (MadeAt10 W2 W2.heap.size n2 os) (fun i _ => n2 - (intOf i).toNat)
 case atStart => exact ⟨0, Nat.zero_le _, rfl, [], 1, _, H0.out, BInv.nil (by omega) (by omega), by omega, B0.out, Lib.hid rfl⟩
 case round =>
  obtain ⟨k, hk, rfl, l, N, vl, hP, hI, hN, hB, hAct⟩ := hrel
  have HP := Lib.hid hP
  have HI := Lib.hid hI
  have HB := Lib.hid hB
  have KX1 := Lib.hid (KX.out.below hB KX.out.lt)
  have e0 := KX1.out.cell 0; have e1 := KX1.out.cell 1
  have kx := KX1.out.lt
  simp at e0 e1
  clear hP hI hB
  by_cases hkl : k < n2
  ·obtain ⟨b, off, rfl, hb, d0, d1, d2, d3, d4, d5, d6⟩ := (HO.out.below HB.out).off (i := k) (by omega)
   have hx := HO.out.2.2.1 os[k] (List.getElem_mem _)
   have AT := Lib.hid (offsB_next (by omega) hAct.out)
   generalize hxe : os[k] = x at *
   clear hxe
   have bw := (Below.refl wr.heap.size wr).alloc (Nat.le_refl _) (.cells #[.int .u64 x.se, .int .u8 x.ow, .int .u8 x.sl, .int .u8 x.bu, .int .i64 x.lf, .int .i64 x.nu, .int .i64 x.de] 58)
   have HW := Lib.hid (HP.out.below bw)
   have BW := Lib.hid (HB.out.trans (bw.mono HB.out.size))
   have KX2 := Lib.hid (KX1.out.below bw KX1.out.lt)
   clear bw
   have C := Lib.hid (pplace_any (x := ⟨N, x.ow, x.sl, x.bu, x.lf, x.nu, x.de⟩) HW.out HI.out ⟨⟨by have := HI.out.n1; show 0 ≤ N; omega, HI.out.n2⟩, hx.ow, hx.sl, hx.bu, hx.lf, hx.nu, hx.de⟩)
   have HI2 := Lib.hid (BInv.place (x := ⟨N, x.ow, x.sl, x.bu, x.lf, x.nu, x.de⟩) HI.out)
   have HN := Lib.hid (show (placeN l ⟨N, x.ow, x.sl, x.bu, x.lf, x.nu, x.de⟩ : Int) ≤ (k : Int) + 1 + 1 from by have e : placeN l ⟨N, x.ow, x.sl, x.bu, x.lf, x.nu, x.de⟩ ≤ N + 1 := (by unfold placeN; split <;> (dsimp only; omega)); omega)
   clear hx
   go_wp2_with fail
   refine C.out.mono ?_
   rintro e w2 ⟨rfl, vl2, h2, k2, m2⟩
   have H2 := Lib.hid h2
   have B2 := Lib.hid (BW.out.trans (k2.below BW.out.size (fun j hj hf => by have := (HW.out.lt hf).1; omega)))
   clear h2 k2 m2 C
   go_wp2_with fail
   go_roundw
   case rel => exact ⟨k + 1, by omega, by go_num, _, _, _, H2.out, HI2.out, by have := HN.out; omega, B2.out, AT⟩
   case measure => simp [intOf]; omega
  ·have CM := Lib.hid (made_actsF (HA.out.below HB.out) hl1)
   have KF1 := Lib.hid (KF.out.below HB.out KF.out.lt)
   have f0 := KF1.out.cell 0; have f1 := KF1.out.cell 1
   have kf := KF1.out.lt
   simp at f0 f1
   go_wp2_with fail
   refine CM.out.mono ?_
   rintro e w3 ⟨G, M, ps, ls, rfl, h4, h5, h6, h7, b3, h8⟩
   have KF3 := Lib.hid (KF1.out.below b3 KF1.out.lt)
   have HL3 := Lib.hid h4
   have II := Lib.hid h5
   have HG := Lib.hid (And.intro h6 h7)
   have HP3 := Lib.hid (HP.out.below b3)
   have BB := Lib.hid b3
   have AC := Lib.hid h8
   clear h4 h5 h6 h7 b3 h8 e0 e1 kx f0 f1 kf CM
   have f0 := KF3.out.cell 0; have f1 := KF3.out.cell 1
   have kf := KF3.out.lt
   simp at f0 f1
   go_wp2_with (refine wpList_store_whole rfl 29 (.tmp 2) (.tmp 35) rfl (w.heap.size + 1) #[.pointer (some ⟨G, 0, none⟩), .pointer (some ⟨W2.heap.size, 0, none⟩)] rfl rfl 29 _ KF3.out.out (by kernel_rfl) rfl (by simp [Value.oneCell']) ?_)
   refine bodyPost_ret (v := .agg #[.pointer (some ⟨G, 0, none⟩), .pointer (some ⟨W2.heap.size, 0, none⟩)]) (results_cell_row rfl _ _ (w.heap.size + 1) 29 #[.pointer (some ⟨G, 0, none⟩), .pointer (some ⟨W2.heap.size, 0, none⟩)] (0, 0) _ rfl (setRow_heap _ (w.heap.size + 1) _ _ _ (0, 0) KF3.out.out) Try.underlying29 rfl (by kernel_rfl)) rfl ?_
   have kk := below_keepRow (w := w3) (w.heap.size + 1) #[.pointer (some ⟨G, 0, none⟩), .pointer (some ⟨W2.heap.size, 0, none⟩)]
   have s1 := B1.out.size
   have s2 := HB.out.size
   have s3 := KF.out.lt
   obtain ⟨h6, h7⟩ := HG.out
   have hfoot := fun b hb => (HP.out.lt (b := b) (.inr hb))
   have hgb := HP.out.blk.lt
   have hAll := hAct.out
   rw [List.take_of_length_le (by omega)] at hAll
   have hPB := HP3.out.keep kk (by omega) (fun b hb => by have := hfoot b hb; omega)
   exact ⟨G, M, W2.heap.size, ps, ls, l, N, vl, rfl, HL3.out.keep kk (by omega) (by omega), II.out, by omega, by omega, ⟨hPB.blk, by omega, owns_base hPB.row (by omega)⟩, HI.out, by omega, by omega, by omega,
    fun b hb => by have := hfoot b hb; omega, (B1.out.trans ((HB.out.trans (BB.out.mono s2)).mono s1)).trans (kk.below (by have := BB.out.size; omega) (fun k hk h => by omega)), AC.out, hAll⟩
end Go.Proofs.Ytbieomgpfhloeaa
namespace Go.Proofs.Ytbieomgpfhloeaa
open Go.RowKit Go.ChangeShapes Go.WideShapes Go.Deep Go.Joins
structure Wd where
 a1 : Option Addr
 n1 : Nat
 c1 : Nat
 xs : List Ac
 a2 : Option Addr
 n2 : Nat
 c2 : Nat
 os : List Of
structure Wd.In (x : Wd) (w : World) : Prop where
 acts : ActsIn w x.a1 x.n1 x.c1 x.xs
 offs : SlIn Of.vals 7 Of.Fits w x.a2 x.n2 x.c2 x.os
structure Af where
 se : Int
 tk : Int
 pt : Int
 n : Int
 mo : Int
 fu : Bool
def Af.vals (x : Af) : List Value := [.int .u64 x.se, .int .u8 x.tk, .int .u8 x.pt, .int .i64 x.n, .int .i64 x.mo, .bool x.fu]
structure Af.Fits (x : Af) : Prop where
 se : 0 ≤ x.se ∧ x.se ≤ 18446744073709551615
 tk : In8 x.tk
 pt : In8 x.pt
 n : In64 x.n
 mo : In64 x.mo
section
variable {H : Type} {enc : TypeId × Value → H} {P : Program} {w : World} {base : Nat} {spare : Nat → Bool} {held : Bool}
theorem bool_of {fs : Array Field} {xs : List (DataW H × List MemPlace)} {n : Nat} {cs : List Value} (hxl : xs.length = fs.size) (hf : ∀ (j : Nat) (f : Field), fs[j]? = some f → DataW.trod enc P w base spare held n f.type ((cs.drop f.offset).take (P.cellsOf f.type)) = xs[j]?) {j o : Nat} {f : Field} (hj : fs[j]? = some f) (ho : f.offset = o) (hc : P.cellsOf f.type = 1) (hk : P.underlying f.type = some .bool) (hl : o < cs.length) :
  ∃ b, cs[o]? = some (.bool b) := by
 have h1 := hf j f hj
 rw [ho, hc, List.drop_eq_getElem_cons hl] at h1
 have hjf : j < fs.size := (Array.getElem?_eq_some_iff.1 hj).1
 rw [List.getElem?_eq_getElem (by omega : j < xs.length)] at h1
 obtain ⟨b, hb, _⟩ := DataW.trod_bool hk h1
 refine ⟨b, ?_⟩
 rw [List.getElem?_eq_getElem hl]
 have hb' : [cs[o]] = [Value.bool b] := hb
 exact congrArg some (List.cons.inj hb').1
theorem ask10_of {t : TypeId} {f0 f1 f2 f3 f4 f5 : Field} (hu : P.underlying t = some (.struct #[f0, f1, f2, f3, f4, f5])) (hC : P.cellsOf t = 6)
  (o : f0.offset = 0 ∧ f1.offset = 1 ∧ f2.offset = 2 ∧ f3.offset = 3 ∧ f4.offset = 4 ∧ f5.offset = 5) (c : P.cellsOf f0.type = 1 ∧ P.cellsOf f1.type = 1 ∧ P.cellsOf f2.type = 1 ∧ P.cellsOf f3.type = 1 ∧ P.cellsOf f4.type = 1 ∧ P.cellsOf f5.type = 1)
  (k : P.underlying f0.type = some (.int .u64) ∧ P.underlying f1.type = some (.int .u8) ∧ P.underlying f2.type = some (.int .u8) ∧ P.underlying f3.type = some (.int .i64) ∧ P.underlying f4.type = some (.int .i64) ∧ P.underlying f5.type = some .bool)
  {fuel : Nat} {cs : List Value} {x : DataW H × List MemPlace} (h : DataW.trod enc P w base spare held fuel t cs = some x) : ∃ x : Af, x.Fits ∧ cs = x.vals := by
 obtain ⟨xs, n, _, _, hlen, hxl, hf⟩ := DataW.trod_struct hu h
 rw [hC] at hlen
 obtain ⟨m0, e0, w0⟩ := num_of hxl hf (j := 0) rfl o.1 c.1 k.1 (by omega)
 obtain ⟨m1, e1, w1⟩ := num_of hxl hf (j := 1) rfl o.2.1 c.2.1 k.2.1 (by omega)
 obtain ⟨m2, e2, w2⟩ := num_of hxl hf (j := 2) rfl o.2.2.1 c.2.2.1 k.2.2.1 (by omega)
 obtain ⟨m3, e3, w3⟩ := num_of hxl hf (j := 3) rfl o.2.2.2.1 c.2.2.2.1 k.2.2.2.1 (by omega)
 obtain ⟨m4, e4, w4⟩ := num_of hxl hf (j := 4) rfl o.2.2.2.2.1 c.2.2.2.2.1 k.2.2.2.2.1 (by omega)
 obtain ⟨m5, e5⟩ := bool_of hxl hf (j := 5) rfl o.2.2.2.2.2 c.2.2.2.2.2 k.2.2.2.2.2 (by omega)
 match cs, hlen with
 | [a0, a1, a2, a3, a4, a5], _ =>
  simp at e0 e1 e2 e3 e4 e5
  subst e0 e1 e2 e3 e4 e5
  exact ⟨⟨m0, m1, m2, m3, m4, m5⟩, ⟨InU64.of_wf w0, In8.of_wf w1, In8.of_wf w2, In64.of_wf w3, In64.of_wf w4⟩, rfl⟩
end
section
variable {H : Type} {enc : TypeId × Value → H} {w : World} {base : Nat} {spare : Nat → Bool} {held : Bool}
theorem ask10_read {fuel : Nat} {cs : List Value} {x : DataW H × List MemPlace} (h : DataW.trod enc Try.prog w base spare held fuel 25 cs = some x) : ∃ x : Af, x.Fits ∧ cs = x.vals :=
 ask10_of Try.underlying25 (by kernel_rfl) ⟨rfl, rfl, rfl, rfl, rfl, rfl⟩ ⟨by kernel_rfl, by kernel_rfl, by kernel_rfl, by kernel_rfl, by kernel_rfl, by kernel_rfl⟩
  ⟨Try.underlying22, Try.underlying23, Try.underlying23, Try.underlying2, Try.underlying2, Try.underlying4⟩ h
set_option maxRecDepth 100000 in
theorem ask10_open {r : Reach} {b0 : Nat} {v : Value} {d : DataW H} {p : List MemPlace} (hv : Value.okWide Try.prog w r b0 25 v) (h : DataW.Trod enc Try.prog w base spare held 25 v d p) :
  ∃ x : Af, v = .agg #[.int .u64 x.se, .int .u8 x.tk, .int .u8 x.pt, .int .i64 x.n, .int .i64 x.mo, .bool x.fu] ∧ x.Fits := by
 obtain ⟨cs, rfl, _⟩ := okWide_struct Try.underlying25 hv
 obtain ⟨fuel, hf⟩ := h
 obtain ⟨x, hx, hc⟩ := ask10_read hf
 refine ⟨x, ?_, hx⟩
 have : cs.toList = x.vals := by simpa [Value.cells] using hc
 rw [show cs = x.vals.toArray by rw [← this]]
 rfl
end
section
variable {H : Type} {enc : TypeId × Value → H} {w : World} {base : Nat} {spare : Nat → Bool} {held : Bool}
theorem slice1_of {P : Program} {t e : TypeId} {n : Nat} {v : Value} {y : DataW H × List MemPlace} (ht : P.underlying t = some (.slice e)) (h : DataW.trod enc P w base spare held n t [v] = some y) : ∃ a len cap, v = .slice a len cap := by
 rcases open_slice ht h with ⟨h0, _⟩ | ⟨ad, l, c, m, n, D, Pl, hcs, _⟩
 ·exact ⟨_, _, _, (List.cons.inj h0).1⟩
 ·exact ⟨_, _, _, (List.cons.inj hcs).1⟩
set_option maxRecDepth 100000 in
theorem world_open {r : Reach} {b0 : Nat} {v : Value} {d : DataW H} {p : List MemPlace} (hv : Value.okWide Try.prog w r b0 51 v) (h : DataW.Trod enc Try.prog w base spare held 51 v d p) :
  ∃ x : Wd, v = .agg #[.slice x.a1 x.n1 x.c1, .slice x.a2 x.n2 x.c2] ∧ x.In w := by
 obtain ⟨v0, v1, y0, y1, n, rfl, rfl, rfl, h0, h1⟩ := open_agg2 Try.underlying51 (by kernel_rfl) (by kernel_rfl) hv h
 obtain ⟨a1, n1, c1, rfl⟩ := slice1_of Try.underlying48 h0
 obtain ⟨a2, n2, c2, rfl⟩ := slice1_of Try.underlying49 h1
 obtain ⟨xs, hx⟩ := acts_open (a := a1) (len := n1) (cap := c1) ⟨n, h0⟩
 obtain ⟨os, ho⟩ := offers_open (a := a2) (len := n2) (cap := c2) ⟨n, h1⟩
 exact ⟨⟨a1, n1, c1, xs, a2, n2, c2, os⟩, rfl, hx, ho⟩
end
end Go.Proofs.Ytbieomgpfhloeaa
namespace Go.Proofs.Ytbieomgpfhloeaa
open Go.RowKit
def roomF (ps : List Int) (ls : List Ln) (c a b : Int) : Int := roomL ps ls a b c
theorem roomF_inv {ps : List Int} {ls : List Ln} (h : LInv ps ls) (c : Int) : GInv (roomF ps ls c) 4398046511104 := by
 refine ⟨fun p q => (roomL_bd h.inv.good p q c).1, fun p q => ?_, fun p q hi => ?_, fun p => ?_⟩
 ·have h1 := (roomL_bd (ps := ps) h.inv.good p q c).2
  have h2 := (roomL_bd (ps := ps) h.inv.good q p c).2
  unfold roomF
  omega
 ·unfold roomF roomL
  rw [if_pos]
  by_cases h1 : p ∈ ps
  ·by_cases h2 : q ∈ ps
   ·exact absurd ⟨h.bd p h1, h.bd q h2⟩ hi
   ·exact .inr (.inr h2)
  ·exact .inr (.inl h1)
 ·unfold roomF roomL
  rw [if_pos (.inl rfl)]
theorem gof_led {w : World} {G M : Nat} {ps : List Int} {ls : List Ln} (h : LedM w G M ps ls) (hI : LInv ps ls) {c : Int} (hc : In8 c) :
  Calls Try.prog 34 #[.pointer (some ⟨G, 0, none⟩), .int .u8 c] w fun e w' => e = .returned (.pointer (some ⟨w.heap.size, 0, none⟩)) ∧ Blk w' w.heap.size (graC (roomF ps ls c) true) 114 ∧ Below w.heap.size w w' :=
 gof_any fun w' k p q hp hq => room_any (h.below k) hI hp hq hc
end Go.Proofs.Ytbieomgpfhloeaa
namespace Go.Proofs.Ytbieomgpfhloeaa
end Go.Proofs.Ytbieomgpfhloeaa
namespace Go.Proofs.Ytbieomgpfhloeaa
def pushAll (ps : List Int) (c : Int) (ls : List Ln) (l : List Fw) : List Ln := l.foldl (fun ls x => pushL ps ls x.fr x.tt c x.am) ls
theorem pushAll_take {ps : List Int} {c : Int} {ls : List Ln} {l : List Fw} {k : Nat} (h : k < l.length) : pushAll ps c ls (l.take (k + 1)) = pushL ps (pushAll ps c ls (l.take k)) l[k].fr l[k].tt c l[k].am := by
 unfold pushAll
 rw [List.take_succ_eq_append_getElem h, List.foldl_append]
 rfl
theorem pushAll_inv {ps : List Int} {c : Int} : ∀ (l : List Fw) {ls : List Ln}, LInv ps ls → LInv ps (pushAll ps c ls l)
 | [], _, h => h
 | x :: l, _, h => pushAll_inv l (h.push x.fr x.tt c x.am)
theorem IsRoute.els {f0 : Int → Int → Int} {B s t want : Int} {σ : RS} (h : IsRoute f0 B s t want σ) : ∀ e ∈ σ.out, inP e.fr ∧ inP e.tt ∧ e.fr ≠ e.tt ∧ 1 ≤ e.am ∧ e.am ≤ B := by
 obtain ⟨k, h, _⟩ := h
 exact h.els
end Go.Proofs.Ytbieomgpfhloeaa
