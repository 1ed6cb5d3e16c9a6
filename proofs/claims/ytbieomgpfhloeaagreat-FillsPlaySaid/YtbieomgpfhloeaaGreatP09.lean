/-
  Pieces of one proof, without what is not wanted: Ref07, Acts.
-/
import Derived.Test.YtbieomgpfhloeaaGreatP01
import Derived.Test.YtbieomgpfhloeaaGreatP05
import Derived.Test.YtbieomgpfhloeaaGreatP08
import Derived.Deep.RegionLaw
import Derived.Maps.AppendAt
import Derived.StillTailTactics
import Derived.Deep.Slices
import Derived.Deep.Fields
import Derived.ChangeSame
import Derived.OpenShut
import Derived.Lib.SmallJoins
set_option linter.unusedSimpArgs false
set_option linter.unusedVariables false
namespace Go.Proofs.YtbieomgpfhloeaaGreat
open Go.RowKit
theorem capX_stop (f : Int → Int → Int) (x : Nat → Int) (n : Int) (i : Nat) : capX f x n (i + 1) = min (capX f x n i) (f (x i) (x (i + 1))) := rfl
theorem RefG.drewN {w : World} {base g k : Nat} {es : List Fw} {vl : Value} (h : RefG w base g es vl) : RefG (w.drewN k) base g es vl := ⟨h.blk, h.ge, h.row⟩
def RoutePost (f : Int → Int → Int) (s t want : Int) (e : TypeId) (w : World) (en : Ending) (w' : World) : Prop :=
 ∃ (σ : RS) (v : Value), en = .returned (.tuple #[v, .int .i64 (want - σ.left)]) ∧ IsRoute f 4398046511104 s t want σ ∧ w'.ownsRow w.heap.size e 3 v σ.out.length (fwCells σ.out) ∧ Below w.heap.size w w'
theorem append_block {P : Program} {w w' : World} {base : Nat} {t ty e : TypeId} {i : TypeInfo} {z : Value} {size bytes : Nat} (ht : P.underlying t = some (.slice e)) (hi : P.info? e = some i) (hz : i.zero = some z) (hsize : i.size = size) (hby : i.bytes = bytes)
  {v v' : Value} {n : Nat} {xs : List Value} (hown : w.ownsRow base e size v n xs) {ad : Addr} {c : Nat} {news : List Value} (hl : news.length = 1 * size) (hnews : ∀ j u, news[j]? = some u → w.cell? (ad.add j) = some u) (h1 : ∀ u ∈ news, u.oneCell' = true)
  (hn : n ≤ 100000) (hb : bytes ≤ 1000) (hr : (Builtin.append_ #[t, t] ty #[v, .slice (some ad) 1 c]).run P w = .ok v' w') : v'.ownBlock = v.ownBlock ∨ v'.ownBlock = some w.heap.size := by
 subst hsize
 subst hby
 have hbb := Nat.mul_le_mul (show n + 1 ≤ 100001 by omega) hb
 rcases hown.2 with ⟨rfl, rfl⟩ | ⟨g, cap, cur, rfl, hbg, hg, hnc, hcm, hcs, htake⟩
 ·have h2 := run_append_nil (P := P) w t ty e i z ht hi hz ad 1 c news hl hnews (by omega) (by omega) (by omega)
  rw [h2] at hr
  simp only [Result.ok.injEq] at hr
  rw [← hr.1]
  exact .inr rfl
 ·by_cases hroom : n + 1 ≤ cap
  ·have hfit : n * i.size + news.length ≤ cur.size := by rw [hl, hcs, ← Nat.add_mul]; exact Nat.mul_le_mul_right _ hroom
   have h2 := run_append_room (P := P) w t ty e i ht hi g n cap cur hg ad 1 c news hl hnews h1 hroom hfit
   rw [h2] at hr
   simp only [Result.ok.injEq] at hr
   rw [← hr.1]
   exact .inl rfl
  ·have holds : ∀ j u, xs[j]? = some u → w.cell? ((⟨g, 0, none⟩ : Addr).add j) = some u := hown.cells (g := g) rfl
   have h2 := run_append_grow (P := P) w t ty e i z ht hi hz ⟨g, 0, none⟩ n cap xs hown.1 holds ad 1 c news hl hnews (by omega) (by omega) (growslice_fits (by omega) (by omega))
   rw [h2] at hr
   simp only [Result.ok.injEq] at hr
   rw [← hr.1]
   exact .inr rfl
theorem step_append_fw {P : Program} {ops : Array Oper} {o : Oper} {a : Act} {w : World} {K : Act → World → Prop} {Q : Exit → Act → World → Prop} {E : Prop}
  (hg : o.guard = none) (s x : Operand) (t : TypeId) (hop : o.op = Op.call { callee := Callee.builtin Builtin.append, args := #[s, x], argTypes := #[t, t] })
  (base : Nat) (e : TypeId) {z : Value} (ht : P.underlying t = some (.slice e)) (hz0 : z.cells.size = 3) (hi : (P.info? e).map (fun i => (i.zero, i.size, i.bytes)) = some (some z, 3, 16)) (v : Value) (l : List Fw) (hs : a.eval s = v) (hown : w.ownsRow base e 3 v l.length (fwCells l))
  (g c : Nat) (y : Fw) (hx : a.eval x = .slice (some ⟨g, 0, none⟩) 1 c) (hy : Blk w g #[.int .u8 y.fr, .int .u8 y.tt, .int .i64 y.am] e) (hlen : l.length ≤ 100000) (hbase : base ≤ w.heap.size)
  (hK : ∀ v' w', w'.ownsRow base e 3 v' (l ++ [y]).length (fwCells (l ++ [y])) → w.grownBy w' v.ownBlock → (v'.ownBlock = v.ownBlock ∨ v'.ownBlock = some w.heap.size) → K (a.put o.dst v') w') :
  if Region.wanted o (yielded ops a.tmps) = true then Oper.wp P o a w K Q else E := by
 have hw : Region.wanted o (yielded ops a.tmps) = true := by simp [Region.wanted, hg]
 rw [if_pos hw]
 obtain ⟨i0, hi1, hi2, hi3, hi4⟩ := info_parts hi
 have hnews : ∀ j u, y.vals[j]? = some u → w.cell? ((⟨g, 0, none⟩ : Addr).add j) = some u := fun j u hj => by
   have := hy.cell j
   rw [Go.WideShapes.add_plain, Nat.zero_add, this]
   match j, hj with
   | 0, hj => simpa [Fw.vals] using hj
   | 1, hj => simpa [Fw.vals] using hj
   | 2, hj => simpa [Fw.vals] using hj
   | j + 3, hj => simp [Fw.vals] at hj
 have hone : ∀ u ∈ y.vals, u.oneCell' = true := by
   intro u hu
   simp [Fw.vals] at hu
   rcases hu with rfl | rfl | rfl <;> rfl
 obtain ⟨v', w', hr, h2, h3, _⟩ := run_append_own_at (P := P) w base t o.type e i0 z 3 16 ht hi1 hi2 hi3 hi4 hz0 (by decide) v l.length (fwCells l) hown ⟨g, 0, none⟩ 1 c y.vals rfl hnews hone (by unfold maxLen; omega) (by omega) hbase
 have h4 := append_block ht hi1 hi2 hi3 hi4 hown (ad := ⟨g, 0, none⟩) (c := c) (news := y.vals) rfl hnews hone (by omega) (by omega) hr
 have h2' : w'.ownsRow base e 3 v' (l ++ [y]).length (fwCells (l ++ [y])) := by
  rw [List.length_append, show fwCells (l ++ [y]) = fwCells l ++ y.vals by simp [fwCells]]
  exact h2
 unfold Oper.wp execOp
 simp only [hop, resolve, invoke, builtin, Sem.run_bind, Sem.run_pure, Result.andThen_ok, List.map_toArray, List.map_cons, List.map_nil, hs, hx, hr]
 exact hK v' w' h2' h3 h4
theorem way_block {w : World} {base : Nat} {e : TypeId} {v : Value} {L : List Int} (h : w.ownsRow base e 1 v L.length (L.map (.int .u8))) (h0 : 0 < L.length) :
  ∃ bl cap cs, v = .slice (some ⟨bl, 0, none⟩) L.length cap ∧ base ≤ bl ∧ Blk w bl cs e ∧ L.length ≤ cap ∧ cap ≤ maxLen ∧ ∀ i, i < L.length → cs[i]? = some (.int .u8 (L.getD i 0)) := by
 obtain ⟨_, ⟨_, h2⟩ | ⟨g, cap, cur, rfl, hb, hg, h1, h2, h3, h4⟩⟩ := h
 ·omega
 ·refine ⟨g, cap, cur, rfl, hb, hg, h1, h2, fun p hp => ?_⟩
  have : (cur.toList.take (L.length * 1))[p]? = (L.map (Value.int .u8))[p]? := by rw [h4]
  rw [List.getElem?_take_of_lt (by omega), Array.getElem?_toList, List.getElem?_map] at this
  rw [this, List.getElem?_eq_getElem hp]
  simp [List.getElem?_eq_getElem hp]
theorem blkNe7 {w : World} {g h : Nat} {cs ds : Array Value} {t u : TypeId} (a : Blk w g cs t) (b : Blk w h ds u) (hn : t ≠ u) : g ≠ h := by
 rintro rfl
 have e := a.out
 rw [b.out] at e
 simp only [Option.some.injEq, Obj.cells.injEq] at e
 exact hn e.2.1.symm
def RtAt (w : World) (base g : Nat) (f : Int → Int → Int) (s t want : Int) (ov lv : Value) (wr : World) : Prop :=
 ∃ (k : Nat) (σ : RS) (vl : Value), RInv f 4398046511104 s t want k σ ∧ lv = .int .i64 σ.left ∧ wr.ownsRow w.heap.size 156 3 ov σ.out.length (fwCells σ.out) ∧ RefG wr base g (allE σ.f) vl ∧ (∀ b, vl.ownBlock = some b → ¬ ov.ownBlock = some b) ∧ Below w.heap.size w wr
def CapAt (W : World) (f : Int → Int → Int) (x : Nat → Int) (n : Int) (m : Nat) (nv i : Value) (wr : World) : Prop :=
 ∃ j : Nat, j ≤ m ∧ i = .int .i64 ((j : Int) + 1) ∧ nv = .int .i64 (capX f x n j) ∧ Below W.heap.size W wr
def PshAt (w : World) (base g : Nat) (f : Int → Int → Int) (x : Nat → Int) (n : Int) (m : Nat) (out : List Fw) (bl : Nat) (ov i : Value) (wr : World) : Prop :=
 ∃ (j : Nat) (vl : Value), j ≤ m ∧ i = .int .i64 ((j : Int) + 1) ∧ wr.ownsRow w.heap.size 156 3 ov (out ++ flX x n j).length (fwCells (out ++ flX x n j)) ∧ RefG wr base g (allE (pushX f x n j)) vl ∧ (∀ b, vl.ownBlock = some b → ¬ ov.ownBlock = some b) ∧
  bl < wr.heap.size ∧ (∃ cs, Blk wr bl cs 43 ∧ ∀ i, i ≤ m → cs[i]? = some (.int .u8 (x i))) ∧ Below w.heap.size w wr
set_option maxHeartbeats 16000000 in
set_option maxRecDepth 100000 in
theorem rroute_any {w : World} {base g : Nat} {f : Int → Int → Int} {vl : Value} {s t want : Int} (h : RefG w base g (allE f) vl) (hI : GInv f 4398046511104) (hs : In8 s) (ht : In8 t) (hw : In64 want) :
  Calls Tryz.prog 104 #[.pointer (some ⟨g, 0, none⟩), .int .u8 s, .int .u8 t, .int .i64 want] w (RoutePost f s t want 156 w) := by
 have CC := Lib.hid (rcopyG_any h (by have := prefE_len f 256; unfold allE; omega))
 have HI := Lib.hid hI
 have HS := Lib.hid hs
 have HT := Lib.hid ht
 obtain ⟨w0, w9⟩ := hw
 clear h hI hs ht
 go_enter Tryz.func104, Tryz.ntmps104
 go_wp2_with fail
 refine CC.out.mono ?_
 rintro e w1 ⟨c, vc, rfl, hr1, hc, hvc, b1⟩
 have R1 := Lib.hid hr1
 have B1 := Lib.hid b1
 have S1 := Lib.hid (RInv.start HI.out s t want)
 have hb1 := b1.size
 clear hr1 b1 CC hvc
 go_wp2_with fail
 go_loopw [11, 12] (RtAt w base c f s t want) (fun _ l _ => (intOf l).toNat)
 case atStart => exact ⟨0, _, vc, S1.out, rfl, World.ownsRow_nil _ _ _ _, R1.out, (fun b _ h => by cases h), B1.out⟩
 case round =>
  clear R1 B1 S1
  obtain ⟨k, σ, vl, hS, rfl, hown, hR, hsep, hB⟩ := hrel
  have SI := Lib.hid hS
  have OW := Lib.hid hown
  have RG := Lib.hid hR
  have SP := Lib.hid hsep
  have BB := Lib.hid hB
  have hlo := hS.lo
  have hhi := hS.hi
  have hcl := hR.blk.lt
  clear hS hown hR hsep hB
  by_cases hpos : 0 < σ.left
  ·have q0 : decide (0 < σ.left) = true := by simpa using hpos
   have CS := Lib.hid (rshort_any RG.out SI.out.g HS.out HT.out)
   by_cases hL : shortW σ.f s t = []
   ·rw [hL] at CS
    have DN := Lib.hid (⟨k, SI.out, .inr hL⟩ : IsRoute f 4398046511104 s t want σ)
    have hl0 : 0 ≤ σ.left := by omega
    clear hL
    obtain ⟨oo, oc, hov, _⟩ := owns_open OW.out
    subst hov
    go_wp2_with fail
    refine CS.out.mono ?_
    rintro e w2 ⟨wv, rfl, hwo, b2⟩
    obtain ⟨wa, wc, rfl, _⟩ := owns_open hwo
    have O2 := Lib.hid (owns_below OW.out b2)
    have B2 := Lib.hid (BB.out.trans (b2.mono BB.out.size))
    clear hwo b2 CS
    go_wp2_with fail
    refine bodyPost_ret (v := .tuple #[.slice oo σ.out.length oc, .int .i64 (want - σ.left)]) (by simp [results, Tryz.results104, go_sem]) rfl ?_
    exact ⟨σ, _, rfl, DN.out, O2.out, B2.out⟩
   ·have hnd : ¬ doneR s t σ := fun hd => by
     rcases hd with q | q
     ·omega
     ·exact hL q
    obtain ⟨m, n, hm, hw, hn, n1, n2, n3, he⟩ := SI.out.way hnd
    have hsn := SI.out.step hnd
    rw [he] at hsn
    have SN := Lib.hid hsn
    have WX := Lib.hid hw
    have NE := Lib.hid n3
    have HN := Lib.hid hn
    have hm15 := hw.m15
    have hm1 := hw.m1
    have hm0 := Lib.hid hm
    clear hL hnd hsn hw n3 he hm hn
    go_wp2_with fail
    refine CS.out.mono ?_
    rintro e W ⟨wv, rfl, hwo, b2⟩
    obtain ⟨bl, wc, cs, rfl, hbl, hcs, hwc1, hwc2, hxs⟩ := way_block hwo (by rw [hm0.out]; omega)
    have hbW := hcs.lt
    have KW := Lib.hid hcs
    have O2 := Lib.hid (owns_below OW.out b2)
    have RG2 := Lib.hid (RG.out.below b2)
    have B2 := Lib.hid (BB.out.trans (b2.mono BB.out.size))
    have hWs := Nat.le_trans BB.out.size b2.size
    rw [hm0.out] at hwc1 ⊢
    have XS := Lib.hid (show ∀ i, i ≤ m → cs[i]? = some (.int .u8 (wayX σ.f s t i)) from fun i hi => hxs i (by rw [hm0.out]; omega))
    have hclW := RG2.out.blk.lt
    clear hwo b2 CS hcs hxs OW RG BB hm0
    generalize hx : wayX σ.f s t = x at *
    clear hx
    obtain ⟨N, hN⟩ : ∃ N, N = m + 1 := ⟨_, rfl⟩
    rw [← hN] at hwc1 ⊢
    have HNN := Lib.hid hN
    have qN : ((N : Int) == 0) = false := by simp; omega
    clear hN
    go_wp2_with fail
    go_loopw [14, 15] (CapAt W σ.f x σ.left m) (fun _ i _ => m + 1 - (intOf i).toNat)
    case atStart => exact ⟨0, by omega, rfl, rfl, Below.refl _ _⟩
    case round =>
     obtain ⟨j, hj, rfl, rfl, hb⟩ := hrel
     have BW := Lib.hid hb
     have hbr := Nat.lt_of_lt_of_le hbW hb.size
     clear hb
     have hNm := HNN.out
     by_cases hjm : j < m
     ·have qj : decide ((j : Int) + 1 < (N : Int)) = true := by simp; omega
      have i0 : (0 : Int) ≤ (j : Int) := by omega
      have i1 : (j : Int) < (N : Int) := by omega
      have i2 : (j : Int) + 1 < (N : Int) := by omega
      have e0 := (BW.out.cell (p := ⟨bl, j, none⟩) hbW).trans ((KW.out.cell j).trans (XS.out j (by omega)))
      have e1 := (BW.out.cell (p := ⟨bl, j + 1, none⟩) hbW).trans ((KW.out.cell (j + 1)).trans (XS.out (j + 1) (by omega)))
      have RGr := Lib.hid (RG2.out.below BW.out)
      have CP := Lib.hid (fun k => rcap_any (RGr.out.drewN (k := k)) (x j) (x (j + 1)))
      rw [SI.out.g.cap] at CP
      have NX := Lib.hid (capX_stop σ.f x σ.left j)
      have hcb := SI.out.g.nn (x j) (x (j + 1))
      clear hNm
      generalize capX σ.f x σ.left j = y at *
      generalize hz : σ.f (x j) (x (j + 1)) = z at *
      generalize x j = u at *
      generalize x (j + 1) = v at *
      clear hz
      rcases Int.lt_or_le z y with hc | hc
      ·rw [Int.min_eq_right (by omega)] at NX
       go_wp2_with fail
       go_quiet (refine Calls.quiet_of_same (CP.out _))
       go_wp2
       go_roundw
       case rel => exact ⟨j + 1, by omega, by go_num, by rw [NX.out], ⟨BW.out.os, BW.out.tape, BW.out.output, BW.out.size, BW.out.block⟩⟩
       case measure => simp [intOf]; omega
      ·rw [Int.min_eq_left (by omega)] at NX
       go_wp2_with fail
       go_quiet (refine Calls.quiet_of_same (CP.out _))
       go_wp2
       go_roundw
       case rel => exact ⟨j + 1, by omega, by go_num, by rw [NX.out], ⟨BW.out.os, BW.out.tape, BW.out.output, BW.out.size, BW.out.block⟩⟩
       case measure => simp [intOf]; omega
     ·have hjm2 : j = m := by omega
      subst hjm2
      have qj : decide ((j : Int) + 1 < (N : Int)) = false := by simp; omega
      rw [← HN.out]
      have RG3 := Lib.hid (RG2.out.below BW.out)
      have O3 := Lib.hid (owns_below O2.out BW.out)
      have KW3 := Lib.hid (KW.out.below BW.out hbW)
      have B3 := Lib.hid (B2.out.trans (BW.out.mono B2.out.size))
      have hcl3 := RG3.out.blk.lt
      clear hNm BW RG2 O2 KW B2 HN
      go_wp2_with fail
      go_loopw [11, 16] (PshAt w base c σ.f x n j σ.out bl) (fun _ i _ => j + 1 - (intOf i).toNat)
      case atStart => exact ⟨0, vl, by omega, rfl, by rw [show flX x n 0 = [] from rfl, List.append_nil]; exact O3.out, RG3.out, SP.out, KW3.out.lt, ⟨cs, KW3.out, XS.out⟩, B3.out⟩
      case round =>
       clear RG3 O3 KW3 B3 hbr SP hcl3
       obtain ⟨i, vl, hi, rfl, hown, hR, hsep, hbr, ⟨cs', hk', hx'⟩, hB⟩ := hrel
       have OW := Lib.hid hown
       have RG := Lib.hid hR
       have SP := Lib.hid hsep
       have KW := Lib.hid hk'
       have XW := Lib.hid hx'
       have BB := Lib.hid hB
       have hcr := hR.blk.lt
       clear hown hR hsep hk' hx' hB
       have hNm := HNN.out
       by_cases him : i < j
       ·have qi : decide ((i : Int) + 1 < (N : Int)) = true := by simp; omega
        have i0 : (0 : Int) ≤ (i : Int) := by omega
        have i1 : (i : Int) < (N : Int) := by omega
        have i2 : (i : Int) + 1 < (N : Int) := by omega
        have GI := pushX_inv SI.out.g WX.out n1 NE.out i (by omega)
        have hah := pushX_ahead (n := n) WX.out i i (Nat.le_refl _) him
        have hne := NE.out i him
        have EE : Hid (pushEE (allE (pushX σ.f x n i)) (x i) (x (i + 1)) n = 0 ∧ pushEL (allE (pushX σ.f x n i)) (x i) (x (i + 1)) n = allE (pushX σ.f x n (i + 1))) := Lib.hid (by
         rw [pushEE_allE GI, pushEL_allE GI, hah, if_neg (by omega), if_neg (by omega), if_pos ⟨n1, hne⟩]
         exact ⟨rfl, rfl⟩)
        have FX : Hid (σ.out ++ flX x n (i + 1) = (σ.out ++ flX x n i) ++ [⟨x i, x (i + 1), n⟩]) := Lib.hid (by rw [show flX x n (i + 1) = flX x n i ++ [⟨x i, x (i + 1), n⟩] from rfl, List.append_assoc])
        have CP := Lib.hid (fun w' (hS : Below wr.heap.size wr w') => rpushG_fresh (RG.out.below hS) GI.capB (by decide) (by decide) (x i) (x (i + 1)) n)
        have EU := Lib.hid (XW.out i (by omega))
        have EV := Lib.hid (XW.out (i + 1) (by omega))
        have hlen : (σ.out ++ flX x n i).length ≤ 90000 := by
         rw [List.length_append, flX_len]
         have := SI.out.len
         have := SI.out.k5
         omega
        clear hNm hah hne GI
        generalize x i = u at *
        generalize x (i + 1) = v at *
        generalize σ.out ++ flX x n i = out at *
        go_wp2_with fail
        refine region_end (by kernel_rfl) 11 16 [(.pointer (some ⟨c, 0, none⟩)), (.slice (some ⟨bl, 0, none⟩) N wc), (.int .i64 ((i : Int) + 1)), (.int .i64 i), (.pointer (some ⟨bl, i, none⟩)), (.int .u8 u), (.slice (some ⟨bl, 0, none⟩) N wc), (.int .i64 ((i : Int) + 1)), (.pointer (some ⟨bl, i + 1, none⟩)), (.int .u8 v), (.int .i64 n), (.int .i64 0)]
         (fun w' => Below wr.heap.size wr w') (by kernel_rfl) rfl (by kernel_rfl) (Below.refl _ _).drew ?_
        intro af haf
        simp only [List.toList_toArray, List.append_eq, List.cons_append, List.nil_append, puts, Act.put, List.getD_cons_zero, List.getD_cons_succ, List.setIfInBounds_toArray, List.set_cons_succ, List.set_cons_zero] at haf
        subst haf
        refine ⟨?_, ?_⟩
        ·simp only [List.toList_toArray, List.take_succ_cons, List.take_zero, EachTo]
         refine ⟨?_, ?_, ?_, ?_, ?_, ?_, ?_, ?_, ?_, ?_, ?_, trivial⟩
         ·intro w' hS
          refine OpTo.plain ?_ ?_
          exact rfl
          have HS := Lib.hid hS
          clear hS
          go_wp2_with fail
          all_goals first | exact HS.out | exact ⟨rfl, HS.out⟩ | rfl | exact ⟨by omega, HS.out⟩
         ·intro w' hS
          refine OpTo.plain ?_ ?_
          exact rfl
          have HS := Lib.hid hS
          clear hS
          go_wp2_with fail
          all_goals first | exact HS.out | exact ⟨rfl, HS.out⟩ | rfl | exact ⟨by omega, HS.out⟩
         ·intro w' hS
          refine OpTo.plain ?_ ?_
          exact rfl
          have HS := Lib.hid hS
          clear hS
          go_wp2_with fail
          all_goals first | exact HS.out | exact ⟨rfl, HS.out⟩ | rfl | exact ⟨by omega, HS.out⟩
         ·intro w' hS
          refine OpTo.plain ?_ ?_
          exact rfl
          have HS := Lib.hid hS
          clear hS
          go_wp2_with fail
          all_goals first | exact HS.out | exact ⟨rfl, HS.out⟩ | rfl | exact ⟨by omega, HS.out⟩
         ·intro w' hS
          refine OpTo.plain ?_ ?_
          exact rfl
          have e := (hS.cell (p := ⟨bl, i, none⟩) hbr).trans ((KW.out.cell i).trans EU.out)
          have hbb := Nat.lt_of_lt_of_le hbr hS.size
          have HS := Lib.hid hS
          clear hS
          go_wp2_with fail
          all_goals first | exact HS.out | exact ⟨rfl, HS.out⟩ | rfl | exact ⟨by omega, HS.out⟩
         ·intro w' hS
          refine OpTo.plain ?_ ?_
          exact rfl
          have e := (hS.cell (p := ⟨bl, i, none⟩) hbr).trans ((KW.out.cell i).trans EU.out)
          have hbb := Nat.lt_of_lt_of_le hbr hS.size
          have HS := Lib.hid hS
          clear hS
          go_wp2_with fail
          all_goals first | exact HS.out | exact ⟨rfl, HS.out⟩ | rfl | exact ⟨by omega, HS.out⟩
         ·intro w' hS
          refine OpTo.plain ?_ ?_
          exact rfl
          have HS := Lib.hid hS
          clear hS
          go_wp2_with fail
          all_goals first | exact HS.out | exact ⟨rfl, HS.out⟩ | rfl | exact ⟨by omega, HS.out⟩
         ·intro w' hS
          refine OpTo.plain ?_ ?_
          exact rfl
          have HS := Lib.hid hS
          clear hS
          go_wp2_with fail
          all_goals first | exact HS.out | exact ⟨rfl, HS.out⟩ | rfl | exact ⟨by omega, HS.out⟩
         ·intro w' hS
          refine OpTo.plain ?_ ?_
          exact rfl
          have e := (hS.cell (p := ⟨bl, i + 1, none⟩) hbr).trans ((KW.out.cell (i + 1)).trans EV.out)
          have hbb := Nat.lt_of_lt_of_le hbr hS.size
          have HS := Lib.hid hS
          clear hS
          go_wp2_with fail
          all_goals first | exact HS.out | exact ⟨rfl, HS.out⟩ | rfl | exact ⟨by omega, HS.out⟩
         ·intro w' hS
          refine OpTo.plain ?_ ?_
          exact rfl
          have e := (hS.cell (p := ⟨bl, i + 1, none⟩) hbr).trans ((KW.out.cell (i + 1)).trans EV.out)
          have hbb := Nat.lt_of_lt_of_le hbr hS.size
          have HS := Lib.hid hS
          clear hS
          go_wp2_with fail
          all_goals first | exact HS.out | exact ⟨rfl, HS.out⟩ | rfl | exact ⟨by omega, HS.out⟩
         ·intro w' hS
          refine OpTo.plain ?_ ?_
          exact rfl
          have HS := Lib.hid hS
          clear hS
          go_wp2_with fail
          all_goals first | exact HS.out | exact ⟨rfl, HS.out⟩ | rfl | exact ⟨by omega, HS.out⟩
        simp only [List.getD_cons_succ, List.getD_cons_zero, List.toList_toArray]
        intro w' hS
        refine OpTo.plain ?_ ?_
        exact rfl
        have CQ := Lib.hid (CP.out w' hS)
        have HB := Lib.hid hS
        clear hS CP
        go_wp2_with fail
        refine CQ.out.mono ?_
        rintro e w5 ⟨he, vl5, hr5, k5, n5⟩
        rw [EE.out.1] at he
        subst he
        rw [EE.out.2] at hr5
        refine ⟨rfl, ?_⟩
        have O5 := Lib.hid (owns_keep (owns_below OW.out HB.out) k5 (owns_ne (owns_below OW.out HB.out) (RG.out.below HB.out).blk (by decide)))
        have hbc : bl ≠ c := blkNe7 KW.out RG.out.blk (by decide)
        have K5 := Lib.hid (show Blk w5 bl cs' 43 from (k5.block bl (Nat.lt_of_lt_of_le hbr HB.out.size) hbc).trans (KW.out.below HB.out hbr))
        have B5 := Lib.hid ((BB.out.trans (HB.out.mono BB.out.size)).trans (k5.below (Nat.le_trans BB.out.size HB.out.size) (fun q hq e => by omega)))
        have S5 := Lib.hid (show ∀ b, vl5.ownBlock = some b → ¬ u11.ownBlock = some b from fun b hb1 hb2 => by
         rcases n5 with q | q
         ·rw [q] at hb1
          exact SP.out b hb1 hb2
         ·have a1 := q b hb1
          have a2 := (owns_type OW.out hb2).2.1
          have a3 := HB.out.size
          omega)
        have R5 := Lib.hid hr5
        have E5 := Lib.hid (K5.out.cell i)
        have E6 := Lib.hid (K5.out.cell (i + 1))
        rw [EU.out] at E5
        rw [EV.out] at E6
        have hb5 := K5.out.lt
        have e5 := E5.out
        have e6 := E6.out
        clear hr5 k5 n5 CQ OW SP RG KW hbc HB
        go_wp2_with fail
        have i4 : (0 : Int) ≤ (i : Int) + 1 := by omega
        have hwi : IntKind.i64.wrap (i : Int) = (i : Int) := by simp [IntKind.wrap, IntKind.signed, IntKind.bits]; omega
        go_region_law (refine step_append_fw rfl (.tmp 67) (.tmp 79) 147 rfl w.heap.size 156 Tryz.underlying147 rfl info_fw u11 out rfl (owns_below O5.out ((Below.refl _ _).drew.alloc (Nat.le_refl _) _)) w5.heap.size 1 ⟨u, v, n⟩ rfl (Blk.new w5.drew _ _) (by omega) (by have := B5.out.size; simp; omega) ?_; intro v' w' ho hgr hvb; have HO := Lib.hid ho; have HGR := Lib.hid hgr; have HVB := Lib.hid hvb; clear ho hgr hvb)
        all_goals
         have R2 : ∀ k, Value.ownBlock u11 = some k → w.heap.size ≤ k := fun k hk => (owns_type O5.out hk).1
         have O6 := Lib.hid (show World.ownsRow _ w.heap.size 156 3 _ (out ++ [(⟨u, v, n⟩ : Fw)]).length (fwCells (out ++ [(⟨u, v, n⟩ : Fw)])) from HO.out)
         have B6 := Lib.hid (((B5.out.trans ((Below.refl w5.heap.size w5).drew.mono B5.out.size)).alloc (by have := B5.out.size; simpa using this) _).grown HGR.out (by have := B5.out.size; simp; omega) (fun k hk => R2 k hk))
         have hso := HGR.out.size
         have RG6 := Lib.hid (show RefG _ base c _ vl5 from
          ⟨(HGR.out.block c (by have := R5.out.blk.lt; simp; omega) (fun e => owns_ne O5.out R5.out.blk (by decide) _ e.symm rfl)).trans (R5.out.blk.drew.alloc _).out, R5.out.ge, owns_keep (S := fun b => u11.ownBlock = some b) (R5.out.below ((Below.refl w5.heap.size w5).drew.alloc (Nat.le_refl _) _)).row ⟨HGR.out.os, HGR.out.tape, HGR.out.output, HGR.out.size, fun k hk hn => HGR.out.block k hk (fun e => hn e.symm)⟩ (fun b hb => S5.out b hb)⟩)
         have KW6 := Lib.hid (show Blk _ bl cs' 43 from (HGR.out.block bl (by have := K5.out.lt; simp; omega) (fun e => owns_ne O5.out K5.out (by decide) _ e.symm rfl)).trans (K5.out.drew.alloc _).out)
         have S6 := Lib.hid (show ∀ b, vl5.ownBlock = some b → ¬ v'.ownBlock = some b from fun b hb1 hb2 => by
          have a0 := (owns_type R5.out.row hb1).2.1
          rcases HVB.out with q | q
          ·rw [q] at hb2; exact S5.out b hb1 hb2
          ·rw [q] at hb2
           simp at hb2
           omega)
         have hb6 := KW6.out.lt
         clear R2 HO HGR HVB hso R5 S5 K5 B5 O5 E5 E6 e5 e6
         go_wp2
         go_roundw
         case rel => exact ⟨i + 1, vl5, by omega, by go_num, by rw [FX.out]; exact O6.out, RG6.out, S6.out, hb6, ⟨cs', KW6.out, XW.out⟩, B6.out⟩
         case measure => simp [intOf]; omega
       ·have hij : i = j := by omega
        subst hij
        have qi : decide ((i : Int) + 1 < (N : Int)) = false := by simp; omega
        obtain ⟨oo, oc, hov, _⟩ := owns_open OW.out
        subst hov
        clear hNm
        go_wp2_with fail
        go_roundw
        case rel => exact ⟨k + 1, _, vl, SN.out, rfl, OW.out, RG.out, SP.out, BB.out⟩
        case measure => simp [intOf]; omega
  ·have hl0 : ¬ 0 < σ.left := hpos
   have DN := Lib.hid (⟨k, SI.out, .inl (by omega)⟩ : IsRoute f 4398046511104 s t want σ)
   obtain ⟨oo, oc, hov, _⟩ := owns_open OW.out
   subst hov
   rcases Int.lt_or_le 0 want with hwp | hwp
   ·have hlz : σ.left = 0 := by omega
    rw [hlz]
    clear hpos hlo hhi hl0
    go_wp2_with fail
    refine bodyPost_ret (v := .tuple #[.slice oo σ.out.length oc, .int .i64 (want - σ.left)]) (by rw [hlz]; simp [results, Tryz.results104, go_sem]) rfl ?_
    exact ⟨σ, _, rfl, DN.out, OW.out, BB.out⟩
   ·have hlz : σ.left = want := by omega
    have hw0 := Lib.hid (show want - σ.left = 0 by omega)
    rw [hlz]
    clear hpos hlo hhi hl0 hlz
    rcases Int.lt_or_le want 0 with hn | hn
    ·go_wp2_with fail
     refine bodyPost_ret (v := .tuple #[.slice oo σ.out.length oc, .int .i64 (want - σ.left)]) (by rw [hw0.out]; simp [results, Tryz.results104, go_sem]) rfl ?_
     exact ⟨σ, _, rfl, DN.out, OW.out, BB.out⟩
    ·have hz : want = 0 := by omega
     clear hwp hn w0 w9
     subst hz
     go_wp2_with fail
     refine bodyPost_ret (v := .tuple #[.slice oo σ.out.length oc, .int .i64 (0 - σ.left)]) (by rw [hw0.out]; simp [results, Tryz.results104, go_sem]) rfl ?_
     exact ⟨σ, _, rfl, DN.out, OW.out, BB.out⟩
def MostPost (f : Int → Int → Int) (s t : Int) (w : World) (en : Ending) (w' : World) : Prop :=
 ∃ μ : RS, en = .returned (.int .i64 (mostW - μ.left)) ∧ IsRoute f 4398046511104 s t mostW μ ∧ Below w.heap.size w w'
set_option maxHeartbeats 1000000 in
theorem rmost_any {w : World} {base g : Nat} {f : Int → Int → Int} {vl : Value} {s t : Int} (h : RefG w base g (allE f) vl) (hI : GInv f 4398046511104) (hs : In8 s) (ht : In8 t) :
  Calls Tryz.prog 90 #[.pointer (some ⟨g, 0, none⟩), .int .u8 s, .int .u8 t] w (MostPost f s t w) := by
 have C := Lib.hid (rroute_any h hI hs ht (want := 4611686018427387904) (by unfold In64; omega))
 clear h hI hs ht
 go_enter Tryz.func90, Tryz.ntmps90
 go_wp2_with fail
 refine C.out.mono ?_
 rintro e w1 ⟨σ, v, rfl, hR, hown, hb⟩
 have HR := Lib.hid (show IsRoute f 4398046511104 s t mostW σ from hR)
 have HB := Lib.hid hb
 obtain ⟨z, hz⟩ : ∃ z, (4611686018427387904 : Int) - σ.left = z := ⟨_, rfl⟩
 have HZ := Lib.hid (show z = mostW - σ.left from hz.symm)
 rw [hz]
 clear hz hR hb hown C
 go_wp2_with fail
 refine bodyPost_ret (v := .int .i64 z) (by simp [results, Tryz.results90, go_sem]) rfl ?_
 exact ⟨σ, by rw [HZ.out], HR.out, HB.out⟩
end Go.Proofs.YtbieomgpfhloeaaGreat
namespace Go.Proofs.YtbieomgpfhloeaaGreat
open Go.RowKit Go.ChangeShapes Go.WideShapes Go.Deep
section
variable {H : Type} {enc : TypeId × Value → H} {P : Program} {w : World} {base : Nat} {spare : Nat → Bool} {held : Bool}
theorem nums_read {t : TypeId} {fs : Array Field} {ks : List IntKind} (hu : P.underlying t = some (.struct fs)) (hone : oneCellFields P fs = true) (hC : P.cellsOf t = ks.length)
  (hk : ∀ (j : Nat) (k : IntKind), ks[j]? = some k → ∃ f, fs[j]? = some f ∧ P.underlying f.type = some (.int k)) {fuel : Nat} {cs : List Value} {x : DataW H × List MemPlace} (h : DataW.trod enc P w base spare held fuel t cs = some x) :
  cs.length = ks.length ∧ ∀ (j : Nat) (k : IntKind), ks[j]? = some k → ∃ n, cs[j]? = some (.int k n) ∧ (Lit.int k n).wf = true := by
 obtain ⟨xs, n, _, _, hlen, hxl, hf⟩ := DataW.trod_struct hu h
 rw [hC] at hlen
 refine ⟨hlen, fun j k hj => ?_⟩
 have hjl : j < ks.length := (List.getElem?_eq_some_iff.1 hj).1
 obtain ⟨f, hfj, hfk⟩ := hk j k hj
 obtain ⟨ho, hc⟩ := hone_of hone j f hfj
 have h1 := hf j f hfj
 have hone' : (cs.drop j).take 1 = [cs[j]'(by omega)] := by
  rw [List.drop_eq_getElem_cons (by omega)]
  rfl
 rw [ho, hc, hone'] at h1
 have hjf : j < fs.size := (Array.getElem?_eq_some_iff.1 hfj).1
 have h2 : xs[j]? = some (xs[j]'(by omega)) := List.getElem?_eq_getElem (by omega)
 rw [h2] at h1
 obtain ⟨m, hm, _, hw⟩ := DataW.trod_int hfk h1
 refine ⟨m, ?_, hw⟩
 rw [List.getElem?_eq_getElem (by omega)]
 simpa using hm
end
structure Ac where
 k : Int
 a : Int
 b : Int
 c : Int
 n : Int
def Ac.vals (x : Ac) : List Value := [.int .u8 x.k, .int .u8 x.a, .int .u8 x.b, .int .u8 x.c, .int .i64 x.n]
structure Ac.Ok (x : Ac) : Prop where
 k : In8 x.k
 a : In8 x.a
 b : In8 x.b
 c : In8 x.c
 n : In64 x.n
theorem In8.of_wf {n : Int} (h : (Lit.int .u8 n).wf = true) : In8 n := by
 simp [Lit.wf, IntKind.min, IntKind.max, IntKind.signed, IntKind.bits] at h
 exact ⟨by omega, by omega⟩
theorem ac_of {cs : List Value} (h1 : cs.length = 5) (h : ∀ (j : Nat) (k : IntKind), ([.u8, .u8, .u8, .u8, .i64] : List IntKind)[j]? = some k → ∃ n, cs[j]? = some (.int k n) ∧ (Lit.int k n).wf = true) : ∃ x : Ac, x.Ok ∧ cs = x.vals := by
 obtain ⟨n0, e0, w0⟩ := h 0 _ rfl
 obtain ⟨n1, e1, w1⟩ := h 1 _ rfl
 obtain ⟨n2, e2, w2⟩ := h 2 _ rfl
 obtain ⟨n3, e3, w3⟩ := h 3 _ rfl
 obtain ⟨n4, e4, w4⟩ := h 4 _ rfl
 match cs, h1 with
 | [c0, c1, c2, c3, c4], _ =>
  simp at e0 e1 e2 e3 e4
  subst e0 e1 e2 e3 e4
  exact ⟨⟨n0, n1, n2, n3, n4⟩, ⟨In8.of_wf w0, In8.of_wf w1, In8.of_wf w2, In8.of_wf w3, In64.of_wf w4⟩, rfl⟩
theorem act_kinds : ∃ fs, Tryz.prog.underlying 79 = some (.struct fs) ∧ oneCellFields Tryz.prog fs = true ∧ ∀ (j : Nat) (k : IntKind), ([.u8, .u8, .u8, .u8, .i64] : List IntKind)[j]? = some k → ∃ f, fs[j]? = some f ∧ Tryz.prog.underlying f.type = some (.int k) := by
 refine ⟨_, Tryz.underlying79, by kernel_rfl, ?_⟩
 intro j k hj
 match j, hj with
 | 0, hj => cases hj; exact ⟨_, rfl, Tryz.underlying5⟩
 | 1, hj => cases hj; exact ⟨_, rfl, Tryz.underlying43⟩
 | 2, hj => cases hj; exact ⟨_, rfl, Tryz.underlying43⟩
 | 3, hj => cases hj; exact ⟨_, rfl, Tryz.underlying56⟩
 | 4, hj => cases hj; exact ⟨_, rfl, Tryz.underlying2⟩
 | j + 5, hj => simp at hj
section
variable {H : Type} {enc : TypeId × Value → H} {w : World} {base : Nat} {spare : Nat → Bool} {held : Bool}
theorem act_read {fuel : Nat} {cs : List Value} {x : DataW H × List MemPlace} (h : DataW.trod enc Tryz.prog w base spare held fuel 79 cs = some x) : ∃ x : Ac, x.Ok ∧ cs = x.vals := by
 obtain ⟨fs, hu, ho, hk⟩ := act_kinds
 have hC : Tryz.prog.cellsOf 79 = 5 := by kernel_rfl
 generalize Tryz.prog = P at *
 obtain ⟨h1, h2⟩ := nums_read (ks := [.u8, .u8, .u8, .u8, .i64]) hu ho hC hk h
 exact ac_of h1 h2
def ActsIn (w : World) (a : Option Addr) (len cap : Nat) (xs : List Ac) : Prop :=
 xs.length = len ∧ (∀ x ∈ xs, x.Ok) ∧ len ≤ cap ∧ cap ≤ maxLen ∧ (0 < len → ∃ b off, a = some ⟨b, off, none⟩ ∧ b < w.heap.size ∧ ∀ i (h : i < xs.length) (j : Nat) (v : Value), xs[i].vals[j]? = some v → w.cell? ⟨b, off + i * 5 + j, none⟩ = some v)
set_option maxRecDepth 100000 in
theorem acts_open {a : Option Addr} {len cap : Nat} {d : DataW H} {p : List MemPlace} (h : DataW.Trod enc Tryz.prog w base spare held 22 (.slice a len cap) d p) : ∃ xs, ActsIn w a len cap xs := by
 obtain ⟨fuel, hf⟩ := h
 rcases open_slice Tryz.underlying22 hf with ⟨h0, _⟩ | ⟨ad, l, c, m, n, D, Pl, hcs, hb, hl, hm, hmm, hx, hi⟩
 ·simp [Value.cells] at h0
  obtain ⟨rfl, rfl, rfl⟩ := h0
  exact ⟨[], rfl, by simp, Nat.le_refl _, by unfold maxLen; omega, fun h => by omega⟩
 ·simp [Value.cells] at hcs
  obtain ⟨rfl, rfl, rfl⟩ := hcs
  have hC : Tryz.prog.cellsOf 79 = 5 := by kernel_rfl
  have hlm : len ≤ m := by rw [hmm]; split <;> omega
  have key : ∀ i, i < len → ∃ x : Ac, x.Ok ∧ ∀ (j : Nat) (v : Value), x.vals[j]? = some v → w.cell? ((ad.add (i * 5)).add j) = some v := by
   intro i hil
   obtain ⟨cs', hc, ht⟩ := hi i (by omega)
   rw [hC] at hc
   obtain ⟨x, hx, rfl⟩ := act_read ht
   obtain ⟨_, _, hat⟩ := World.cells?_some hc
   refine ⟨x, hx, fun j v hj => ?_⟩
   have hj5 : j < 5 := by
    have := (List.getElem?_eq_some_iff.1 hj).1
    exact this
   rw [hat j hj5, hj]
  have hex : ∀ k, k ≤ len → ∃ xs : List Ac, xs.length = k ∧ (∀ x ∈ xs, x.Ok) ∧ ∀ i (h : i < xs.length) (j : Nat) (v : Value), xs[i].vals[j]? = some v → w.cell? ((ad.add (i * 5)).add j) = some v := by
   intro k
   induction k with
   | zero => intro _; exact ⟨[], rfl, by simp, fun i h => by simp at h⟩
   | succ k ih =>
    intro hk
    obtain ⟨xs, h1, h2, h3⟩ := ih (by omega)
    obtain ⟨x, hx, hxc⟩ := key k (by omega)
    refine ⟨xs ++ [x], by simp [h1], ?_, ?_⟩
    ·intro y hy
     rcases List.mem_append.1 hy with hy | hy
     ·exact h2 y hy
     ·rw [List.mem_singleton] at hy; rw [hy]; exact hx
    ·intro i hi j v hv
     by_cases hik : i < xs.length
     ·rw [List.getElem_append_left hik] at hv
      exact h3 i hik j v hv
     ·have : i = k := by rw [List.length_append, List.length_singleton] at hi; omega
      subst this
      rw [List.getElem_append_right (by omega)] at hv
      simp [h1] at hv
      exact hxc j v hv
  obtain ⟨xs, h1, h2, h3⟩ := hex len (Nat.le_refl _)
  refine ⟨xs, h1, h2, hl, hm, fun hp => ?_⟩
  have h00 := h3 0 (by omega) 0 _ rfl
  have hsp : ad.spot = none := by
   rcases hs : ad.spot with _ | s
   ·rfl
   ·exfalso
    rw [Go.Deep.add_add] at h00
    have e : (ad.add (0 * 5 + 0)).spot = ad.spot := by cases ad; simp [Addr.add]
    unfold World.cell? at h00
    rw [e, hs] at h00
    split at h00
    ·simp at h00
    ·cases h00
  obtain ⟨b, off, sp⟩ := ad
  simp only at hsp
  subst hsp
  have hcell : ∀ i (h : i < xs.length) (j : Nat) (v : Value), xs[i].vals[j]? = some v → w.cell? ⟨b, off + i * 5 + j, none⟩ = some v := by
   intro i hi j v hv
   have := h3 i hi j v hv
   rw [Go.Deep.add_add, Go.WideShapes.add_plain] at this
   rw [Nat.add_assoc]
   exact this
  exact ⟨b, off, rfl, World.block_lt_of_cell? _ _ (hcell 0 (by omega) 0 _ rfl), hcell⟩
end
theorem ActsIn.below {w w' : World} {a : Option Addr} {len cap : Nat} {xs : List Ac} (h : ActsIn w a len cap xs) (k : Below w.heap.size w w') : ActsIn w' a len cap xs := by
 obtain ⟨h1, h2, h3, h4, h5⟩ := h
 refine ⟨h1, h2, h3, h4, fun hp => ?_⟩
 obtain ⟨b, off, rfl, hlt, hc⟩ := h5 hp
 exact ⟨b, off, rfl, Nat.lt_of_lt_of_le hlt k.size, fun i hi j v hv => by rw [k.cell (p := ⟨b, off + i * 5 + j, none⟩) hlt]; exact hc i hi j v hv⟩
theorem ActsIn.at {w : World} {a : Option Addr} {len cap : Nat} {xs : List Ac} (h : ActsIn w a len cap xs) {i : Nat} (hi : i < xs.length) : ∃ b off, a = some ⟨b, off, none⟩ ∧ b < w.heap.size ∧
  w.cell? ⟨b, off + i * 5, none⟩ = some (.int .u8 xs[i].k) ∧ w.cell? ⟨b, off + i * 5 + 1, none⟩ = some (.int .u8 xs[i].a) ∧ w.cell? ⟨b, off + i * 5 + 2, none⟩ = some (.int .u8 xs[i].b) ∧ w.cell? ⟨b, off + i * 5 + 3, none⟩ = some (.int .u8 xs[i].c) ∧ w.cell? ⟨b, off + i * 5 + 4, none⟩ = some (.int .i64 xs[i].n) := by
 obtain ⟨h1, h2, h3, h4, h5⟩ := h
 obtain ⟨b, off, rfl, hlt, hc⟩ := h5 (by omega)
 exact ⟨b, off, rfl, hlt, by have := hc i hi 0 _ rfl; simpa using this, hc i hi 1 _ rfl, hc i hi 2 _ rfl, hc i hi 3 _ rfl, hc i hi 4 _ rfl⟩
end Go.Proofs.YtbieomgpfhloeaaGreat
