/-
  Pieces of one proof, without what is not wanted: SameL, Sound, Stands10, Fair10.
-/
import Derived.Test.YtbieomgpfhloeaaGreatF03
import Derived.Test.YtbieomgpfhloeaaGreatF13
import Derived.Test.YtbieomgpfhloeaaGreatF14
import Derived.Test.YtbieomgpfhloeaaGreatF15
import Derived.Test.YtbieomgpfhloeaaGreatF19
import Derived.Test.YtbieomgpfhloeaaGreatF20
set_option linter.unusedSimpArgs false
set_option linter.unusedVariables false
namespace Go.Proofs.YtbieomgpfhloeaaGreat
open Go.RowKit
theorem SameLines_any {w : World} {va vb : Value} {la lb : List Ln} (ha : Reads w va 5 la.length (lnCells la)) (hb : Reads w vb 5 lb.length (lnCells lb)) :
  Calls Tryz.prog 17 #[va, vb] w fun e w' => e = .returned (.bool (decide (la = lb))) ∧ Below w.heap.size w w' := by
 have C := Lib.hid (sameLine_any ha hb)
 clear ha hb
 generalize decide (la = lb) = r at *
 go_enter Tryz.func17, Tryz.ntmps17
 go_wp2_with fail
 refine C.out.mono ?_
 rintro e w1 ⟨rfl, b1⟩
 go_wp2_with fail
 go_ret
 exact ⟨rfl, b1⟩
end Go.Proofs.YtbieomgpfhloeaaGreat
namespace Go.Proofs.YtbieomgpfhloeaaGreat
open Go.RowKit
theorem posL_bd9 {ps : List Int} {ls : List Ln} (h : LInv ps ls) (p c : Int) : -70368744177664 ≤ posL ls p c ∧ posL ls p c ≤ 70368744177664 :=
 sum_part (fun x hx => posOf_bd (h.inv.good x hx) p c) (fun x hx => hx) h.len
set_option maxHeartbeats 4000000 in
theorem moved_any {w : World} {G M G2 M2 : Nat} {ps ps2 : List Int} {ls ls2 : List Ln} (hL : LedM w G M ps ls) (hI : LInv ps ls) (hC : LedM w G2 M2 ps2 ls2) (hJ : LInv ps2 ls2) (p c : Int) {n : Int} (n1 : -1099511627776 ≤ n) (n2 : n ≤ 1099511627776) :
  Calls Tryz.prog 69 #[.pointer (some ⟨G, 0, none⟩), .pointer (some ⟨G2, 0, none⟩), .int .u8 p, .int .u8 c, .int .i64 n] w fun e w' => e = .returned (.bool (decide (posL ls p c = posL ls2 p c + n))) ∧ Below w.heap.size w w' := by
 have C1 := Lib.hid (ppos_any hL hI p c)
 have C2 := Lib.hid (fun w' (k : Below w.heap.size w w') => ppos_any (hC.below k) hJ p c)
 have h1 := posL_bd9 hI p c
 have h2 := posL_bd9 hJ p c
 generalize posL ls p c = x at *
 generalize posL ls2 p c = y at *
 obtain ⟨x0, x1⟩ := h1
 obtain ⟨y0, y1⟩ := h2
 obtain ⟨r, hr⟩ : ∃ r, decide (x = y + n) = r := ⟨_, rfl⟩
 have hr2 : (x == y + n) = r := by rw [← hr]; by_cases h : x = y + n <;> simp [h]
 rw [hr]
 clear hL hI hC hJ hr
 go_enter Tryz.func69, Tryz.ntmps69
 go_wp2_with fail
 refine C1.out.mono ?_
 rintro e w1 ⟨rfl, b1⟩
 have B1 := Lib.hid b1
 clear b1
 go_wp2_with fail
 refine (C2.out w1 B1.out).mono ?_
 rintro e w2 ⟨rfl, b2⟩
 have B2 := Lib.hid (B1.out.trans (b2.mono B1.out.size))
 clear b2
 go_wp2_with fail
 go_ret
 exact ⟨rfl, B2.out⟩
def halfL (ls : List Ln) (k : Nat) : List Ln := (ls.take k).map (fun x => x.owe 0) ++ ls.drop k
theorem halfL_len (ls : List Ln) (k : Nat) : (halfL ls k).length = ls.length := by unfold halfL; simp; omega
theorem halfL_zero (ls : List Ln) : halfL ls 0 = ls := by unfold halfL; simp
theorem halfL_get {ls : List Ln} {k : Nat} (h : k < ls.length) : (halfL ls k)[k]'(by rw [halfL_len]; exact h) = ls[k] := by
 unfold halfL
 rw [List.getElem_append_right (by simp; omega)]
 simp [Nat.min_eq_left (Nat.le_of_lt h)]
theorem halfL_next {ls : List Ln} {k : Nat} (h : k < ls.length) : halfL ls (k + 1) = (halfL ls k).set k (ls[k].owe 0) := by
 unfold halfL
 rw [List.take_succ_eq_append_getElem h, List.map_append, List.append_assoc, List.set_append_right _ _ (by simp; omega)]
 congr 1
 rw [show ls.drop k = ls[k] :: ls.drop (k + 1) from List.drop_eq_getElem_cons h]
 simp only [List.length_map, List.length_take, Nat.min_eq_left (Nat.le_of_lt h), Nat.sub_self, List.set_cons_zero, List.map_cons, List.map_nil, List.singleton_append]
theorem half_cell {ls : List Ln} {k j : Nat} (hk : k < ls.length) (hj : j < 5) : (lnCells (halfL ls k))[k * 5 + j]? = ls[k].vals[j]? := by
 rw [lnCells_get _ _ _ hj (by rw [halfL_len]; exact hk), halfL_get hk]
theorem half_set {ls : List Ln} {k : Nat} (hk : k < ls.length) : lnCells (halfL ls (k + 1)) = (lnCells (halfL ls k)).set (k * 5 + 4) (.int .i64 0) := by
 rw [halfL_next hk]
 refine lnCells_set _ (by rw [halfL_len]; exact hk) (by decide) ?_
 rw [halfL_get hk]
 rfl
theorem halfL_got {ls : List Ln} {k : Nat} (h : k < ls.length) : (halfL ls (k + 1))[k]'(by rw [halfL_len]; exact h) = ls[k].owe 0 := by
 simp only [halfL_next h, List.getElem_set_self]
theorem half_got {ls : List Ln} {k j : Nat} (hk : k < ls.length) (hj : j < 5) : (lnCells (halfL ls (k + 1)))[k * 5 + j]? = (ls[k].owe 0).vals[j]? := by
 rw [lnCells_get _ _ _ hj (by rw [halfL_len]; exact hk), halfL_got hk]
theorem Rowed.frozen {w : World} {base : Nat} {e : TypeId} {size : Nat} {g n cap : Nat} {xs : List Value} (h : Rowed w base e size (.slice (some ⟨g, 0, none⟩) n cap) n xs) (j : Nat) : w.frozen? ⟨g, j, none⟩ = false := by
 obtain ⟨_, h2⟩ := h
 rcases h2 with ⟨h2, _⟩ | ⟨g', cur, hv, hb, hg, hm, hc, ht⟩
 ·cases h2
 ·cases hv
  have hB : Blk w g cur e := hg
  exact hB.frozen j
def SoundAt (w : World) (b1 b2 : Nat) (va vb : Value) (ls ls2 : List Ln) (i : Value) (wr : World) : Prop :=
 ∃ k : Nat, k ≤ ls.length ∧ i = .int .i64 k ∧ Rowed wr b1 102 5 va ls.length (lnCells (halfL ls k)) ∧ Rowed wr b2 102 5 vb ls.length (lnCells (halfL ls2 k)) ∧ Below w.heap.size w wr
set_option maxHeartbeats 16000000 in
set_option maxRecDepth 100000 in
theorem sound_any {w : World} {G M G2 M2 : Nat} {ps ps2 : List Int} {ls ls2 : List Ln} (hL : LedM w G M ps ls) (hI : LInv ps ls) (hC : LedM w G2 M2 ps2 ls2) (hJ : LInv ps2 ls2) (he : limL ls = limL ls2) :
  Calls Tryz.prog 70 #[.pointer (some ⟨G, 0, none⟩), .pointer (some ⟨G2, 0, none⟩)] w fun e w' => e = .returned (.bool true) ∧ Below w.heap.size w w' := by
 have C1 := Lib.hid (plines_any hL hI)
 have C2 := Lib.hid (fun w' (k : Below w.heap.size w w') => plines_any (hC.below k) hJ)
 have hlen : ls2.length = ls.length := by have := congrArg List.length he; unfold limL at this; simpa using this.symm
 have HG := Lib.hid hI.inv.good
 have HX : Hid (∀ k (h : k < ls.length), ∃ db, ls2[k]'(by omega) = ls[k].owe db) := Lib.hid (fun k h => by
  have h1 : (limL ls)[k]? = (limL ls2)[k]? := by rw [he]
  unfold limL at h1
  rw [List.getElem?_map, List.getElem?_map, List.getElem?_eq_getElem h, List.getElem?_eq_getElem (by omega)] at h1
  simp only [Option.map_some, Option.some.injEq] at h1
  refine ⟨(ls2[k]'(by omega)).db, ?_⟩
  have a := congrArg Ln.cr h1; have b := congrArg Ln.de h1; have c := congrArg Ln.cu h1; have d := congrArg Ln.li h1
  simp only [Ln.owe] at a b c d ⊢
  rw [a, b, c, d])
 have hl64 := hI.len
 clear hL hI hC hJ he
 go_enter Tryz.func70, Tryz.ntmps70
 go_wp2_with fail
 refine C1.out.mono ?_
 rintro e w1 ⟨va, rfl, ra, b1⟩
 obtain ⟨aa, rfl, ha⟩ := rowed_shape ra
 have HA : Hid (0 < ls.length → ∃ g, aa = some ⟨g, 0, none⟩ ∧ g < w1.heap.size ∧ w.heap.size ≤ g) := Lib.hid (fun h => by
  obtain ⟨g, h1, h3, h2, _⟩ := ha h
  exact ⟨g, h1, h2, h3⟩)
 have RA := Lib.hid ra
 have B1 := Lib.hid b1
 clear ra ha b1 C1
 go_wp2_with fail
 refine (C2.out w1 B1.out).mono ?_
 rintro e w2 ⟨vb, rfl, rb, b2⟩
 rw [hlen] at rb
 obtain ⟨ab, rfl, hb⟩ := rowed_shape rb
 have HB : Hid (0 < ls.length → ∃ g, ab = some ⟨g, 0, none⟩ ∧ w1.heap.size ≤ g) := Lib.hid (fun h => by
  obtain ⟨g, h1, h2, _⟩ := hb h
  exact ⟨g, h1, h2⟩)
 have RA2 := Lib.hid (RA.out.below b2)
 have RB2 := Lib.hid rb
 have B2 := Lib.hid (B1.out.trans (b2.mono B1.out.size))
 have hw12 := b2.size
 have hww1 := B1.out.size
 clear rb hb b2 C2 RA B1
 go_wp2_with fail
 go_loopw [7] (SoundAt w w.heap.size w1.heap.size (.slice aa ls.length ls.length) (.slice ab ls.length ls.length) ls ls2) (fun i _ => ls.length - (intOf i).toNat)
 case atStart => exact ⟨0, by omega, rfl, by rw [halfL_zero]; exact RA2.out, by rw [halfL_zero]; exact RB2.out, B2.out⟩
 case round =>
  clear RA2 RB2 B2
  obtain ⟨k, hk, rfl, hRA, hRB, hB⟩ := hrel
  have BB := Lib.hid hB
  clear hB
  by_cases hkl : k < ls.length
  ·have hki : (k : Int) < (ls.length : Int) := by omega
   have hk0 : (0 : Int) ≤ (k : Int) := by omega
   have q0 : decide ((k : Int) < (ls.length : Int)) = true := by simpa using hkl
   obtain ⟨ga, rfl, hga, hgaw⟩ := HA.out (by omega)
   obtain ⟨gb, rfl, hgb⟩ := HB.out (by omega)
   obtain ⟨aa', hva, hra⟩ := rowed_shape hRA
   obtain ⟨ab', hvb, hrb⟩ := rowed_shape hRB
   simp only [Value.slice.injEq, and_true] at hva hvb
   subst hva
   subst hvb
   obtain ⟨_, e1, _, hal, hac⟩ := hra (by omega)
   cases e1
   obtain ⟨_, e1, _, hbl, hbc⟩ := hrb (by omega)
   cases e1
   have hl2 : k < ls2.length := by omega
   have a0 := (hac (k * 5 + 0) (by omega)).trans (half_cell hkl (j := 0) (by omega))
   have a1 := (hac (k * 5 + 1) (by omega)).trans (half_cell hkl (j := 1) (by omega))
   have a2 := (hac (k * 5 + 2) (by omega)).trans (half_cell hkl (j := 2) (by omega))
   have a3 := (hac (k * 5 + 3) (by omega)).trans (half_cell hkl (j := 3) (by omega))
   have a4 := (hac (k * 5 + 4) (by omega)).trans (half_cell hkl (j := 4) (by omega))
   have c0 := (hbc (k * 5 + 0) (by omega)).trans (half_cell hl2 (j := 0) (by omega))
   have c1 := (hbc (k * 5 + 1) (by omega)).trans (half_cell hl2 (j := 1) (by omega))
   have c2 := (hbc (k * 5 + 2) (by omega)).trans (half_cell hl2 (j := 2) (by omega))
   have c3 := (hbc (k * 5 + 3) (by omega)).trans (half_cell hl2 (j := 3) (by omega))
   have c4 := (hbc (k * 5 + 4) (by omega)).trans (half_cell hl2 (j := 4) (by omega))
   have SA := Lib.hid (half_set hkl)
   have SB := Lib.hid (half_set hl2)
   have hg := HG.out ls[k] (List.getElem_mem _)
   obtain ⟨db2, hx2⟩ := HX.out k hkl
   rw [hx2] at c0 c1 c2 c3 c4
   have GA := Lib.hid (fun j (hj : j < 5) => half_got hkl hj)
   have GB := Lib.hid (fun j (hj : j < 5) => half_got hl2 hj)
   rw [hx2] at GB
   obtain ⟨x, hx⟩ : ∃ x, ls[k] = x := ⟨_, rfl⟩
   rw [hx] at a0 a1 a2 a3 a4 c0 c1 c2 c3 c4 hg GA GB
   clear hx hx2 hra hrb hac hbc
   obtain ⟨cr, de, cu, li, db⟩ := x
   have g1 := hg.db.1
   have g2 := hg.db.2
   dsimp only at g1 g2
   simp only [Ln.vals, Ln.owe, List.getElem?_cons_zero, List.getElem?_cons_succ, Nat.add_zero] at a0 a1 a2 a3 a4 c0 c1 c2 c3 c4
   have q1 : decide (db < 0) = false := by simp; omega
   have q2 : decide (li < db) = false := by simp; omega
   have HK := Lib.hid hkl
   have RA := Lib.hid hRA
   have RB := Lib.hid hRB
   clear hRA hRB hg g1 g2
   go_wp2_with fail
   go_quiet (fail)
   have RA1 := Lib.hid (show Rowed (wr.drewN nq) w.heap.size 102 5 _ ls.length _ from RA.out)
   have RB1 := Lib.hid (show Rowed (wr.drewN nq) w1.heap.size 102 5 _ ls.length _ from RB.out)
   have BB1 := Lib.hid (show Below w.heap.size w (wr.drewN nq) from ⟨BB.out.os, BB.out.tape, BB.out.output, BB.out.size, BB.out.block⟩)
   replace a4 : (wr.drewN nq).cell? ⟨ga, k * 5 + 4, none⟩ = _ := a4
   replace c4 : (wr.drewN nq).cell? ⟨gb, k * 5 + 4, none⟩ = _ := c4
   replace hal : ga < (wr.drewN nq).heap.size := hal
   replace hbl : gb < (wr.drewN nq).heap.size := hbl
   clear RA RB BB a0 a1 a2 a3 c0 c1 c2 c3
   generalize wr.drewN nq = W1 at *
   have fa := RA1.out.frozen (k * 5 + 4)
   have fb := RB1.out.frozen (k * 5 + 4)
   have hgn : ga ≠ gb := by omega
   have RA3 := Lib.hid ((RA1.out.set (j := k * 5 + 4) (by omega) (.int .i64 0)).keep ((Keep.refl (· = gb) _).setCell (p := ⟨gb, k * 5 + 4, none⟩) (.inl rfl) (.int .i64 0)) (fun b hb => by cases hb; exact hgn))
   have RB3 := Lib.hid ((RB1.out.keep ((Keep.refl (· = ga) W1).setCell (p := ⟨ga, k * 5 + 4, none⟩) (.inl rfl) (.int .i64 0)) (fun b hb => by cases hb; exact fun e => hgn e.symm)).set (j := k * 5 + 4) (by omega) (.int .i64 0))
   rw [← SA.out] at RA3
   rw [← SB.out] at RB3
   go_upto_region 12 with fail
   have BB3 := Lib.hid ((BB1.out.setCell (p := ⟨ga, k * 5 + 4, none⟩) hgaw (.int .i64 0)).setCell (p := ⟨gb, k * 5 + 4, none⟩) (by show w.heap.size ≤ gb; omega) (.int .i64 0))
   clear RA1 RB1 BB1 a4 c4 fa fb hal hbl
   generalize (W1.setCell ⟨ga, k * 5 + 4, none⟩ (.int .i64 0)).setCell ⟨gb, k * 5 + 4, none⟩ (.int .i64 0) = W3 at *
   obtain ⟨aa', hva, hra⟩ := rowed_shape RA3.out
   obtain ⟨ab', hvb, hrb⟩ := rowed_shape RB3.out
   simp only [Value.slice.injEq, and_true] at hva hvb
   subst hva
   subst hvb
   obtain ⟨_, e1, _, hal, hac⟩ := hra (by have := HK.out; omega)
   cases e1
   obtain ⟨_, e1, _, hbl, hbc⟩ := hrb (by have := HK.out; omega)
   cases e1
   have a0 := (hac (k * 5 + 0) (by omega)).trans (GA.out 0 (by omega))
   have a1 := (hac (k * 5 + 1) (by omega)).trans (GA.out 1 (by omega))
   have a2 := (hac (k * 5 + 2) (by omega)).trans (GA.out 2 (by omega))
   have a3 := (hac (k * 5 + 3) (by omega)).trans (GA.out 3 (by omega))
   have a4 := (hac (k * 5 + 4) (by omega)).trans (GA.out 4 (by omega))
   have c0 := (hbc (k * 5 + 0) (by omega)).trans (GB.out 0 (by omega))
   have c1 := (hbc (k * 5 + 1) (by omega)).trans (GB.out 1 (by omega))
   have c2 := (hbc (k * 5 + 2) (by omega)).trans (GB.out 2 (by omega))
   have c3 := (hbc (k * 5 + 3) (by omega)).trans (GB.out 3 (by omega))
   have c4 := (hbc (k * 5 + 4) (by omega)).trans (GB.out 4 (by omega))
   simp only [Ln.vals, Ln.owe, List.getElem?_cons_zero, List.getElem?_cons_succ, Nat.add_zero] at a0 a1 a2 a3 a4 c0 c1 c2 c3 c4
   clear hra hrb hac hbc GA GB
   go_wp2_with fail
   go_quiet (fail)
   have RA4 := Lib.hid (show Rowed (W3.drewN nq) w.heap.size 102 5 _ ls.length _ from RA3.out)
   have RB4 := Lib.hid (show Rowed (W3.drewN nq) w1.heap.size 102 5 _ ls.length _ from RB3.out)
   have BB4 := Lib.hid (show Below w.heap.size w (W3.drewN nq) from ⟨BB3.out.os, BB3.out.tape, BB3.out.output, BB3.out.size, BB3.out.block⟩)
   clear RA3 RB3 BB3 a0 a1 a2 a3 a4 c0 c1 c2 c3 c4 hal hbl
   generalize W3.drewN nq = W4 at *
   go_wp2_with fail
   exact ⟨⟨k + 1, by have := HK.out; omega, by go_num, RA4.out, RB4.out, BB4.out⟩, by simp [intOf]; have := HK.out; omega⟩
  ·have hkn : k = ls.length := by omega
   subst hkn
   have q0 : decide (((ls.length : Nat) : Int) < (ls.length : Int)) = false := by simp
   clear hRA hRB
   go_wp2_with fail
   go_ret
   exact ⟨rfl, BB.out⟩
end Go.Proofs.YtbieomgpfhloeaaGreat
namespace Go.Proofs.YtbieomgpfhloeaaGreat
open Go.RowKit
def StandC (W : World) (c : Value) (wr : World) : Prop := ∃ q : Int, 1 ≤ q ∧ q ≤ 9 ∧ c = .int .u8 q ∧ Below W.heap.size W wr
def StandP (W : World) (c : Value) (wr : World) : Prop := ∃ q : Int, 1 ≤ q ∧ q ≤ 17 ∧ c = .int .u8 q ∧ Below W.heap.size W wr
set_option maxHeartbeats 32000000 in
set_option maxRecDepth 100000 in
theorem stands10_any {w : World} {G M G2 M2 : Nat} {gb gb2 : Option Addr} {ps : List Int} {ls ls' : List Ln} {o : Of} {s tk pt n x : Int} (hL : LedM w G M ps ls') (hI : LInv ps ls') (hC : LedM w G2 M2 ps ls) (hJ : LInv ps ls) (hl : limL ls' = limL ls)
  (hp : ∀ p c, posL ls' p c = posL ls p c + fillBy o tk pt n x p c) (hsb : o.sl ≠ o.bu) (hot : o.ow ≠ tk) (hn : 1 ≤ n ∧ n ≤ 1099511627776) (hx : 1 ≤ x ∧ x ≤ 1099511627776) :
  Calls Tryz.prog 22 #[.agg #[.pointer (some ⟨G, 0, none⟩), .pointer gb], .agg #[.pointer (some ⟨G2, 0, none⟩), .pointer gb2], .agg #[.int .u64 o.se, .int .u8 o.ow, .int .u8 o.sl, .int .u8 o.bu, .int .i64 o.lf, .int .i64 o.nu, .int .i64 o.de], .agg #[.int .u64 s, .int .u8 tk, .int .u8 pt, .int .i64 n, .int .i64 x]] w fun e w' => e = .returned (.bool true) ∧ Below w.heap.size w w' := by
 have k0 := Blk.newAt w #[.pointer (some ⟨G, 0, none⟩), .pointer gb] 32 (g := w.heap.size) (by simp)
 have k1 := Blk.newAt (w.alloc (.cells #[.pointer (some ⟨G, 0, none⟩), .pointer gb] 32)) #[.pointer (some ⟨G2, 0, none⟩), .pointer gb2] 32 (g := w.heap.size + 1) (by simp)
 have k2 := Blk.newAt ((w.alloc (.cells #[.pointer (some ⟨G, 0, none⟩), .pointer gb] 32)).alloc (.cells #[.pointer (some ⟨G2, 0, none⟩), .pointer gb2] 32)) #[.int .u64 o.se, .int .u8 o.ow, .int .u8 o.sl, .int .u8 o.bu, .int .i64 o.lf, .int .i64 o.nu, .int .i64 o.de] 60 (g := w.heap.size + 2) (by simp)
 have k3 := Blk.newAt (((w.alloc (.cells #[.pointer (some ⟨G, 0, none⟩), .pointer gb] 32)).alloc (.cells #[.pointer (some ⟨G2, 0, none⟩), .pointer gb2] 32)).alloc (.cells #[.int .u64 o.se, .int .u8 o.ow, .int .u8 o.sl, .int .u8 o.bu, .int .i64 o.lf, .int .i64 o.nu, .int .i64 o.de] 60)) #[.int .u64 s, .int .u8 tk, .int .u8 pt, .int .i64 n, .int .i64 x] 48 (g := w.heap.size + 3) (by simp)
 have b0 := (Below.refl w.heap.size w).alloc (Nat.le_refl _) (.cells #[.pointer (some ⟨G, 0, none⟩), .pointer gb] 32)
 have b1 := b0.alloc b0.size (.cells #[.pointer (some ⟨G2, 0, none⟩), .pointer gb2] 32)
 have b2 := b1.alloc b1.size (.cells #[.int .u64 o.se, .int .u8 o.ow, .int .u8 o.sl, .int .u8 o.bu, .int .i64 o.lf, .int .i64 o.nu, .int .i64 o.de] 60)
 have b3 := b2.alloc b2.size (.cells #[.int .u64 s, .int .u8 tk, .int .u8 pt, .int .i64 n, .int .i64 x] 48)
 have K0 := Lib.hid ((((k0).alloc (.cells #[.pointer (some ⟨G2, 0, none⟩), .pointer gb2] 32)).alloc (.cells #[.int .u64 o.se, .int .u8 o.ow, .int .u8 o.sl, .int .u8 o.bu, .int .i64 o.lf, .int .i64 o.nu, .int .i64 o.de] 60)).alloc (.cells #[.int .u64 s, .int .u8 tk, .int .u8 pt, .int .i64 n, .int .i64 x] 48))
 have K1 := Lib.hid (((k1).alloc (.cells #[.int .u64 o.se, .int .u8 o.ow, .int .u8 o.sl, .int .u8 o.bu, .int .i64 o.lf, .int .i64 o.nu, .int .i64 o.de] 60)).alloc (.cells #[.int .u64 s, .int .u8 tk, .int .u8 pt, .int .i64 n, .int .i64 x] 48))
 have K2 := Lib.hid ((k2).alloc (.cells #[.int .u64 s, .int .u8 tk, .int .u8 pt, .int .i64 n, .int .i64 x] 48))
 have K3 := Lib.hid (k3)
 have L0 := Lib.hid (hL.below b3)
 have D0 := Lib.hid (hC.below b3)
 have II := Lib.hid hI
 have JJ := Lib.hid hJ
 have LI := Lib.hid hl
 have POS := Lib.hid hp
 have SB := Lib.hid hsb
 have OT := Lib.hid hot
 have HN := Lib.hid hn
 have HX := Lib.hid hx
 have B0 := Lib.hid b3
 clear b0 b1 b2 b3 k0 k1 k2 k3 hL hI hC hJ hl hp hsb hot hn hx
 go_enter Tryz.func22, Tryz.ntmps22
 go_wp2_with fail
 generalize ((((w.alloc (.cells #[.pointer (some ⟨G, 0, none⟩), .pointer gb] 32)).alloc (.cells #[.pointer (some ⟨G2, 0, none⟩), .pointer gb2] 32)).alloc (.cells #[.int .u64 o.se, .int .u8 o.ow, .int .u8 o.sl, .int .u8 o.bu, .int .i64 o.lf, .int .i64 o.nu, .int .i64 o.de] 60)).alloc (.cells #[.int .u64 s, .int .u8 tk, .int .u8 pt, .int .i64 n, .int .i64 x] 48)) = W at *
 go_loopw [9, 10, 11] (fun c _ _ wr => StandC W c wr) (fun c _ _ _ => 9 - (intOf c).toNat)
 case atStart => exact ⟨1, by omega, by omega, rfl, Below.refl _ _⟩
 case round =>
  obtain ⟨q, q1, q2, rfl, hB⟩ := hrel
  have BR := Lib.hid hB
  clear hB
  by_cases hq : q ≤ 8
  ·go_wp2_with fail
   go_loopw [10, 11] (fun p _ wr => StandP W p wr) (fun p _ _ => 17 - (intOf p).toNat)
   case atStart => exact ⟨1, by omega, by omega, rfl, BR.out⟩
   case round =>
    clear BR
    obtain ⟨p, p1, p2, rfl, hB⟩ := hrel
    have BR := Lib.hid hB
    clear hB
    by_cases hp : p ≤ 16
    ·have LR := Lib.hid (L0.out.below BR.out)
     have CR := Lib.hid (D0.out.below BR.out)
     have MV := Lib.hid (fun by' (n1 : -1099511627776 ≤ by') (n2 : by' ≤ 1099511627776) => moved_any LR.out II.out CR.out JJ.out p q n1 n2)
     have PS := Lib.hid (POS.out p q)
     have c0 := (K0.out.below BR.out K0.out.lt).cell 0
     have c1 := (K1.out.below BR.out K1.out.lt).cell 0
     have d1 := (K2.out.below BR.out K2.out.lt).cell 1; have d2 := (K2.out.below BR.out K2.out.lt).cell 2; have d3 := (K2.out.below BR.out K2.out.lt).cell 3
     have f1 := (K3.out.below BR.out K3.out.lt).cell 1; have f2 := (K3.out.below BR.out K3.out.lt).cell 2; have f3 := (K3.out.below BR.out K3.out.lt).cell 3; have f4 := (K3.out.below BR.out K3.out.lt).cell 4
     have l0 := (K0.out.below BR.out K0.out.lt).lt; have l1 := (K1.out.below BR.out K1.out.lt).lt; have l2 := (K2.out.below BR.out K2.out.lt).lt; have l3 := (K3.out.below BR.out K3.out.lt).lt
     simp at c0 c1 d1 d2 d3 f1 f2 f3 f4
     obtain ⟨n1, n2⟩ := HN.out
     obtain ⟨x1, x2⟩ := HX.out
     have hcase : (q = o.sl ∧ q ≠ o.bu ∧ p = o.ow ∧ p = pt) ∨ (q = o.sl ∧ q ≠ o.bu ∧ p = o.ow ∧ p ≠ pt) ∨ (q = o.sl ∧ q ≠ o.bu ∧ p ≠ o.ow ∧ p = pt) ∨ (q = o.sl ∧ q ≠ o.bu ∧ p ≠ o.ow ∧ p ≠ pt) ∨
       (q ≠ o.sl ∧ q = o.bu ∧ p = tk ∧ p ≠ o.ow) ∨ (q ≠ o.sl ∧ q = o.bu ∧ p ≠ tk ∧ p = o.ow) ∨ (q ≠ o.sl ∧ q = o.bu ∧ p ≠ tk ∧ p ≠ o.ow) ∨ (q ≠ o.sl ∧ q ≠ o.bu) := by have := SB.out; have := OT.out; omega
     rcases hcase with ⟨h1, h2, h3, h4⟩ | ⟨h1, h2, h3, h4⟩ | ⟨h1, h2, h3, h4⟩ | ⟨h1, h2, h3, h4⟩ | ⟨h1, h2, h3, h4⟩ | ⟨h1, h2, h3, h4⟩ | ⟨h1, h2, h3, h4⟩ | ⟨h1, h2⟩
     ·have PB : posL ls' p q = posL ls p q + (-n + n) := by
       rw [PS.out]
       unfold fillBy
       have := SB.out
       have := OT.out
       repeat' split
       all_goals omega
      have MM := Lib.hid (MV.out (-n + n) (by omega) (by omega))
      rw [decide_eq_true PB] at MM
      have s1 : (q == o.sl) = true := by simpa using h1
      have s2 : (q == o.bu) = false := by simpa using h2
      have s3 : (p == o.ow) = true := by simpa using h3
      have s4 : (p == pt) = true := by simpa using h4
      clear PB MV PS h1 h2 h3 h4
      go_wp2_with fail
      refine MM.out.mono ?_
      rintro e w9 ⟨rfl, b9⟩
      have B9 := Lib.hid (BR.out.trans (b9.mono BR.out.size))
      clear b9 MM
      go_wp2_with fail
      exact ⟨⟨p + 1, by omega, by omega, by go_num, B9.out⟩, by simp [intOf]; omega⟩
     ·have PB : posL ls' p q = posL ls p q + (-n) := by
       rw [PS.out]
       unfold fillBy
       have := SB.out
       have := OT.out
       repeat' split
       all_goals omega
      have MM := Lib.hid (MV.out (-n) (by omega) (by omega))
      rw [decide_eq_true PB] at MM
      have s1 : (q == o.sl) = true := by simpa using h1
      have s2 : (q == o.bu) = false := by simpa using h2
      have s3 : (p == o.ow) = true := by simpa using h3
      have s4 : (p == pt) = false := by simpa using h4
      clear PB MV PS h1 h2 h3 h4
      go_wp2_with fail
      refine MM.out.mono ?_
      rintro e w9 ⟨rfl, b9⟩
      have B9 := Lib.hid (BR.out.trans (b9.mono BR.out.size))
      clear b9 MM
      go_wp2_with fail
      exact ⟨⟨p + 1, by omega, by omega, by go_num, B9.out⟩, by simp [intOf]; omega⟩
     ·have PB : posL ls' p q = posL ls p q + (n) := by
       rw [PS.out]
       unfold fillBy
       have := SB.out
       have := OT.out
       repeat' split
       all_goals omega
      have MM := Lib.hid (MV.out (n) (by omega) (by omega))
      rw [decide_eq_true PB] at MM
      have s1 : (q == o.sl) = true := by simpa using h1
      have s2 : (q == o.bu) = false := by simpa using h2
      have s3 : (p == o.ow) = false := by simpa using h3
      have s4 : (p == pt) = true := by simpa using h4
      clear PB MV PS h1 h2 h3 h4
      go_wp2_with fail
      refine MM.out.mono ?_
      rintro e w9 ⟨rfl, b9⟩
      have B9 := Lib.hid (BR.out.trans (b9.mono BR.out.size))
      clear b9 MM
      go_wp2_with fail
      exact ⟨⟨p + 1, by omega, by omega, by go_num, B9.out⟩, by simp [intOf]; omega⟩
     ·have PB : posL ls' p q = posL ls p q + (0) := by
       rw [PS.out]
       unfold fillBy
       have := SB.out
       have := OT.out
       repeat' split
       all_goals omega
      have MM := Lib.hid (MV.out (0) (by omega) (by omega))
      rw [decide_eq_true PB] at MM
      have s1 : (q == o.sl) = true := by simpa using h1
      have s2 : (q == o.bu) = false := by simpa using h2
      have s3 : (p == o.ow) = false := by simpa using h3
      have s4 : (p == pt) = false := by simpa using h4
      clear PB MV PS h1 h2 h3 h4
      go_wp2_with fail
      refine MM.out.mono ?_
      rintro e w9 ⟨rfl, b9⟩
      have B9 := Lib.hid (BR.out.trans (b9.mono BR.out.size))
      clear b9 MM
      go_wp2_with fail
      exact ⟨⟨p + 1, by omega, by omega, by go_num, B9.out⟩, by simp [intOf]; omega⟩
     ·have PB : posL ls' p q = posL ls p q + (-x) := by
       rw [PS.out]
       unfold fillBy
       have := SB.out
       have := OT.out
       repeat' split
       all_goals omega
      have MM := Lib.hid (MV.out (-x) (by omega) (by omega))
      rw [decide_eq_true PB] at MM
      have s1 : (q == o.sl) = false := by simpa using h1
      have s2 : (q == o.bu) = true := by simpa using h2
      have s3 : (p == tk) = true := by simpa using h3
      have s4 : (p == o.ow) = false := by simpa using h4
      clear PB MV PS h1 h2 h3 h4
      go_wp2_with fail
      refine MM.out.mono ?_
      rintro e w9 ⟨rfl, b9⟩
      have B9 := Lib.hid (BR.out.trans (b9.mono BR.out.size))
      clear b9 MM
      go_wp2_with fail
      exact ⟨⟨p + 1, by omega, by omega, by go_num, B9.out⟩, by simp [intOf]; omega⟩
     ·have PB : posL ls' p q = posL ls p q + (x) := by
       rw [PS.out]
       unfold fillBy
       have := SB.out
       have := OT.out
       repeat' split
       all_goals omega
      have MM := Lib.hid (MV.out (x) (by omega) (by omega))
      rw [decide_eq_true PB] at MM
      have s1 : (q == o.sl) = false := by simpa using h1
      have s2 : (q == o.bu) = true := by simpa using h2
      have s3 : (p == tk) = false := by simpa using h3
      have s4 : (p == o.ow) = true := by simpa using h4
      clear PB MV PS h1 h2 h3 h4
      go_wp2_with fail
      refine MM.out.mono ?_
      rintro e w9 ⟨rfl, b9⟩
      have B9 := Lib.hid (BR.out.trans (b9.mono BR.out.size))
      clear b9 MM
      go_wp2_with fail
      exact ⟨⟨p + 1, by omega, by omega, by go_num, B9.out⟩, by simp [intOf]; omega⟩
     ·have PB : posL ls' p q = posL ls p q + (0) := by
       rw [PS.out]
       unfold fillBy
       have := SB.out
       have := OT.out
       repeat' split
       all_goals omega
      have MM := Lib.hid (MV.out (0) (by omega) (by omega))
      rw [decide_eq_true PB] at MM
      have s1 : (q == o.sl) = false := by simpa using h1
      have s2 : (q == o.bu) = true := by simpa using h2
      have s3 : (p == tk) = false := by simpa using h3
      have s4 : (p == o.ow) = false := by simpa using h4
      clear PB MV PS h1 h2 h3 h4
      go_wp2_with fail
      refine MM.out.mono ?_
      rintro e w9 ⟨rfl, b9⟩
      have B9 := Lib.hid (BR.out.trans (b9.mono BR.out.size))
      clear b9 MM
      go_wp2_with fail
      exact ⟨⟨p + 1, by omega, by omega, by go_num, B9.out⟩, by simp [intOf]; omega⟩
     ·have PB : posL ls' p q = posL ls p q + (0) := by
       rw [PS.out]
       unfold fillBy
       have := SB.out
       have := OT.out
       repeat' split
       all_goals omega
      have MM := Lib.hid (MV.out (0) (by omega) (by omega))
      rw [decide_eq_true PB] at MM
      have s1 : (q == o.sl) = false := by simpa using h1
      have s2 : (q == o.bu) = false := by simpa using h2
      clear PB MV PS h1 h2
      go_wp2_with fail
      refine MM.out.mono ?_
      rintro e w9 ⟨rfl, b9⟩
      have B9 := Lib.hid (BR.out.trans (b9.mono BR.out.size))
      clear b9 MM
      go_wp2_with fail
      exact ⟨⟨p + 1, by omega, by omega, by go_num, B9.out⟩, by simp [intOf]; omega⟩
    ·have hp17 : p = 17 := by omega
     subst hp17
     go_wp2_with fail
     exact ⟨⟨q + 1, by omega, by omega, by go_num, BR.out⟩, by simp [intOf]; omega⟩
  ·have hq9 : q = 9 := by omega
   subst hq9
   have c0 := (K0.out.below BR.out K0.out.lt).cell 0
   have c1 := (K1.out.below BR.out K1.out.lt).cell 0
   have l0 := (K0.out.below BR.out K0.out.lt).lt; have l1 := (K1.out.below BR.out K1.out.lt).lt
   simp at c0 c1
   have CS := Lib.hid (sound_any (L0.out.below BR.out) II.out (D0.out.below BR.out) JJ.out LI.out)
   go_wp2_with fail
   refine CS.out.mono ?_
   rintro e w9 ⟨rfl, b9⟩
   have B9 := Lib.hid (B0.out.trans ((BR.out.trans (b9.mono BR.out.size)).mono B0.out.size))
   clear b9 CS
   go_wp2_with fail
   go_ret
   exact ⟨rfl, B9.out⟩
end Go.Proofs.YtbieomgpfhloeaaGreat
namespace Go.Proofs.YtbieomgpfhloeaaGreat
open Go.RowKit
theorem fair_num {n nu de : Int} (hn : 1 ≤ n) (h1 : 1 ≤ nu) (h2 : 1 ≤ de) : 1 ≤ upN (n * nu) de ∧ n * nu ≤ upN (n * nu) de * de ∧ upN (n * nu) de * de - n * nu < de := by
 have hp : 1 ≤ n * nu := by have := Int.mul_le_mul hn h1 (by omega) (by omega); omega
 generalize n * nu = q at *
 have hm := Int.emod_nonneg q (show de ≠ 0 by omega)
 have hm2 := Int.emod_lt_of_pos q (show 0 < de by omega)
 have hd := Int.mul_ediv_add_emod q de
 have h0 : 0 ≤ q / de := Int.ediv_nonneg (by omega) (by omega)
 unfold upN
 split
 ·rename_i h
  rw [h] at hd
  have e : q / de * de = q := by rw [Int.mul_comm]; omega
  refine ⟨?_, by omega, by omega⟩
  rcases Int.lt_or_le (q / de) 1 with k | k
  ·have : q / de = 0 := by omega
   rw [this] at e; omega
  ·exact k
 ·rename_i h
  have e : (q / de + 1) * de = de * (q / de) + de := by rw [Int.add_mul, Int.mul_comm (q / de), Int.one_mul]
  exact ⟨by omega, by omega, by omega⟩
set_option maxHeartbeats 4000000 in
theorem fair10_any {n nu de x : Int} (w : World) (hm : mayB nu de = true) (hn : 1 ≤ n) (hn2 : n ≤ 9223372036854775807) (hx : x = upN (n * nu) de) (hx2 : x ≤ 9223372036854775807) :
  Calls Tryz.prog 21 #[.int .i64 n, .int .i64 x, .agg #[.int .i64 nu, .int .i64 de]] w fun e w' => e = .returned (.bool true) ∧ Below w.heap.size w w' := by
 obtain ⟨h1, h2, h3, h4, _⟩ := may_bd hm
 obtain ⟨f1, f2, f3⟩ := fair_num hn h1 h2
 rw [← hx] at f1 f2 f3
 have b1 := (Below.refl w.heap.size w).alloc (Nat.le_refl _) (.cells #[.int .i64 nu, .int .i64 de] 58)
 have KX := Lib.hid (Blk.new w #[.int .i64 nu, .int .i64 de] 58)
 have B1 := Lib.hid b1
 have q0 : 0 ≤ n * nu := Int.mul_nonneg (by omega) (by omega)
 have p0 : 0 ≤ x * de := Int.mul_nonneg (by omega) (by omega)
 have qb : n * nu ≤ 9223372036854775807 * 1099511627776 := Int.mul_le_mul hn2 h3 (by omega) (by omega)
 have pb : x * de ≤ 9223372036854775807 * 1099511627776 := Int.mul_le_mul hx2 h4 (by omega) (by omega)
 have C1 := Lib.hid (fun w => mul64_any x de w ⟨by omega, by omega⟩ ⟨by omega, by omega⟩)
 have C2 := Lib.hid (fun w => mul64_any n nu w ⟨by omega, by omega⟩ ⟨by omega, by omega⟩)
 have a1 := fun w => run_Sub64 (x * de % 18446744073709551616) (n * nu % 18446744073709551616) 0 ⟨by omega, by omega⟩ ⟨by omega, by omega⟩ (by omega) (by omega) w
 simp only [Int.add_zero, Int.sub_zero] at a1
 obtain ⟨ow, how⟩ : ∃ ow : Int, (if x * de % 18446744073709551616 < n * nu % 18446744073709551616 then 1 else 0) = ow := ⟨_, rfl⟩
 rw [how] at a1
 have how2 : 0 ≤ ow ∧ ow ≤ 1 := by rw [← how]; split <;> omega
 have a2 := fun w => run_Sub64 (x * de / 18446744073709551616) (n * nu / 18446744073709551616) ow ⟨by omega, by omega⟩ ⟨by omega, by omega⟩ how2.1 how2.2 w
 have hlow : (x * de % 18446744073709551616 - n * nu % 18446744073709551616) % 18446744073709551616 = x * de - n * nu := by omega
 have hhigh : (x * de / 18446744073709551616 - n * nu / 18446744073709551616 - ow) % 18446744073709551616 = 0 := by rw [← how]; split <;> omega
 have hless : (if x * de / 18446744073709551616 < n * nu / 18446744073709551616 + ow then 1 else 0 : Int) = 0 := by rw [← how]; split <;> split <;> omega
 rw [hlow] at a1
 rw [hhigh, hless] at a2
 have g1 : decide (n < 1) = false := by simp; omega
 have g2 : decide (x < 1) = false := by simp; omega
 have g3 : decide (nu < 1) = false := by simp; omega
 have g4 : decide (de < 1) = false := by simp; omega
 have g5 : decide (x * de - n * nu < de) = true := by simp; omega
 have wx : IntKind.u64.wrap x = x := by rw [wrap_u64]; omega
 have wn : IntKind.u64.wrap n = n := by rw [wrap_u64]; omega
 have wu : IntKind.u64.wrap nu = nu := by rw [wrap_u64]; omega
 have wd : IntKind.u64.wrap de = de := by rw [wrap_u64]; omega
 clear hlow hhigh hless how how2 b1 hx
 generalize x * de = P at *
 generalize n * nu = Q at *
 generalize P - Q = D at *
 generalize P / 18446744073709551616 = ph at *
 generalize P % 18446744073709551616 = pl at *
 generalize Q / 18446744073709551616 = qh at *
 generalize Q % 18446744073709551616 = ql at *
 clear f1 f2 f3 q0 p0 qb pb
 go_enter Tryz.func21, Tryz.ntmps21
 go_upto_region 1 with fail
 generalize w.alloc (.cells #[.int .i64 nu, .int .i64 de] 58) = W at *
 have e0 := KX.out.cell 0; have e1 := KX.out.cell 1
 have kx := KX.out.lt
 simp at e0 e1
 go_wp2_with fail
 refine (C1.out _).mono ?_
 rintro e w1 ⟨rfl, rfl⟩
 go_wp2_with fail
 refine (C2.out _).mono ?_
 rintro e w1 ⟨rfl, rfl⟩
 go_wp2_with fail
 go_ret
 exact ⟨rfl, B1.out⟩
end Go.Proofs.YtbieomgpfhloeaaGreat
