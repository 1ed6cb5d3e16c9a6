/-
  Package flows: a round of Route: what is pushed along one way (written by gen_pflowb.py).
-/
import Derived.Test.YtgebplplpenabaaPFlowM
namespace Go.Proofs.Ytgebplplpenabaa
open Go.RowKit
set_option linter.unusedSimpArgs false
set_option linter.unusedVariables false
attribute [local go_sem] Oper.semAt_some

/-- What the append of a push to the row leaves. -/
def AppSt (w w5 : World) (v8 v' : Value) (o : List Fw) (wr : World) : Prop :=
  ∃ wa, Below w5.heap.size w5 wa ∧ wr.ownsRow w.heap.size 52 3 v' o.length (fwCells o) ∧ wa.grownBy wr v8.ownBlock
def AppI (w w5 : World) (v8 : Value) (o : List Fw) (y : Fw) (s : Nat × Value) (D : Nat → Bool) (wr : World) : Prop :=
  (D 9 = false → Below w5.heap.size w5 wr ∧ (D 8 = true → Blk wr s.1 #[.int .u8 y.fr, .int .u8 y.tt, .int .i64 y.am] 52)) ∧
    (D 9 = true → D 10 = false → AppSt w w5 v8 s.2 (o ++ [y]) wr) ∧ (D 10 = true → ∃ wb, AppSt w w5 v8 s.2 (o ++ [y]) wb ∧ wr = wb.setCell ⟨w.heap.size + 1, 0, none⟩ s.2)
section
variable {w w5 wr wr' : World} {v8 : Value} {o : List Fw} {y : Fw} {s : Nat × Value} {D : Nat → Bool}
theorem AppI.start (o : List Fw) (y : Fw) : AppI w w5 v8 o y s (fun _ => false) w5.drew :=
  ⟨fun _ => ⟨(Below.refl _ _).drew, fun h => (by cases h)⟩, fun h => (by cases h), fun h => (by cases h)⟩
theorem AppI.below (h : AppI w w5 v8 o y s D wr) (hN : D 9 = false) : Below w5.heap.size w5 wr := (h.1 hN).1
theorem AppI.keep {k : Nat} (h : AppI w w5 v8 o y s D wr) (hN : D 9 = false) (hk : k < 8) (hT : D 10 = false := by assumption) : AppI w w5 v8 o y s (ins k D) wr := by
  have e8 : ins k D 8 = D 8 := by simp [ins]; omega
  have e9 : ins k D 9 = D 9 := by simp [ins]; omega
  have e10 : ins k D 10 = D 10 := by simp [ins]; omega
  refine ⟨fun _ => ?_, fun h9 => ?_, fun h10 => ?_⟩
  · rw [e8]; exact h.1 hN
  · rw [e9, hN] at h9; cases h9
  · rw [e10, hT] at h10; cases h10
theorem AppI.lay (h : AppI w w5 v8 o y s D wr) (hN : D 9 = false) (hT : D 10 = false := by assumption) : AppI w w5 v8 o y (wr.heap.size, s.2) (ins 8 D) (wr.alloc (.cells #[.int .u8 y.fr, .int .u8 y.tt, .int .i64 y.am] 52)) := by
  have e9 : ins 8 D 9 = D 9 := by simp [ins]
  have e10 : ins 8 D 10 = D 10 := by simp [ins]
  refine ⟨fun _ => ⟨(h.1 hN).1.alloc (h.1 hN).1.size _, fun _ => Blk.new _ _ _⟩, fun h9 => ?_, fun h10 => ?_⟩
  · rw [e9, hN] at h9; cases h9
  · rw [e10, hT] at h10; cases h10
theorem AppI.app {s1 : Nat} {v' : Value} {wa : World} (ho : wr.ownsRow w.heap.size 52 3 v' (o ++ [y]).length (fwCells (o ++ [y]))) (hB : Below w5.heap.size w5 wa) (hg : wa.grownBy wr v8.ownBlock) (hT : D 10 = false) : AppI w w5 v8 o y (s1, v') (ins 9 D) wr := by
  have e9 : ins 9 D 9 = true := by simp [ins]
  have e10 : ins 9 D 10 = D 10 := by simp [ins]
  refine ⟨fun h9 => ?_, fun _ _ => ⟨wa, hB, ho, hg⟩, fun h10 => ?_⟩
  · rw [e9] at h9; cases h9
  · rw [e10, hT] at h10; cases h10
theorem AppI.fin {s1 : Nat} {v' : Value} (h : AppSt w w5 v8 v' (o ++ [y]) wr) (hP : D 9 = true) : AppI w w5 v8 o y (s1, v') (ins 10 D) (wr.setCell ⟨w.heap.size + 1, 0, none⟩ v') := by
  have e9 : ins 10 D 9 = D 9 := by simp [ins]
  have e10 : ins 10 D 10 = true := by simp [ins]
  refine ⟨fun h9 => ?_, fun _ h10 => ?_, fun _ => ⟨wr, h, rfl⟩⟩
  · rw [e9, hP] at h9; cases h9
  · rw [e10] at h10; cases h10
end
/-- The run of 'append(out, y)'. -/
theorem app_run {w : World} {base g c : Nat} {v : Value} {l : List Fw} {y : Fw} (hown : w.ownsRow base 52 3 v l.length (fwCells l)) (hy : Blk w g #[.int .u8 y.fr, .int .u8 y.tt, .int .i64 y.am] 52) (hlen : l.length ≤ 100000) (hbase : base ≤ w.heap.size) :
    ∃ v' w', (Builtin.append_ #[22, 22] 22 #[v, .slice (some ⟨g, 0, none⟩) 1 c]).run Try.prog w = .ok v' w' ∧ w'.ownsRow base 52 3 v' (l ++ [y]).length (fwCells (l ++ [y])) ∧ w.grownBy w' v.ownBlock := by
  obtain ⟨i0, hi1, hi2, hi3, hi4⟩ := info_parts info_fw
  have hnews : ∀ j u, y.vals[j]? = some u → w.cell? ((⟨g, 0, none⟩ : Addr).add j) = some u := fun j u hj => by
    have := hy.cell j
    rw [Go.WideShapes.add_plain, Nat.zero_add, this]
    match j, hj with
    | 0, hj => simpa [Fw.vals] using hj
    | 1, hj => simpa [Fw.vals] using hj
    | 2, hj => simpa [Fw.vals] using hj
    | j + 3, hj => simp [Fw.vals] at hj
  have hone : ∀ u ∈ y.vals, u.oneCell' = true := by
    intro u hu
    simp [Fw.vals] at hu
    rcases hu with rfl | rfl | rfl <;> rfl
  obtain ⟨v', w', hr, h2, h3, _⟩ := run_append_own_at (P := Try.prog) w base 22 22 52 i0 _ 3 16 Try.underlying22 hi1 hi2 hi3 hi4 rfl (by decide) v l.length (fwCells l) hown ⟨g, 0, none⟩ 1 c y.vals rfl hnews hone (by unfold maxLen; omega) (by omega) hbase
  refine ⟨v', w', hr, ?_, h3⟩
  rw [List.length_append, show fwCells (l ++ [y]) = fwCells l ++ y.vals by simp [fwCells]]
  exact h2
theorem OpTo.append {P : Program} {ops : Array Oper} {af : Act} {o : Oper} {w w' : World} {R : World → Prop} {s x : Operand} {t : TypeId} {v u v' : Value} (hg : o.guard = none) (hop : o.op = Op.call { callee := Callee.builtin Builtin.append, args := #[s, x], argTypes := #[t, t] })
    (hs : af.eval s = v) (hx : af.eval x = u) (hr : (Builtin.append_ #[t, t] o.type #[v, u]).run P w = .ok v' w') (hput : af.put o.dst v' = af) (hR : R w') : OpTo P ops af o w R := by
  refine OpTo.plain hg ?_
  unfold Oper.wp execOp
  simp only [hop, resolve, invoke, builtin, Sem.run_bind, Sem.run_pure, Result.andThen_ok, List.map_toArray, List.map_cons, List.map_nil, hs, hx, hr]
  exact ⟨hput, hR⟩
/-- While one way is pushed along. -/
def PushAt (w : World) (p : Option Addr) (want s t : Int) (b : Nat) (f : Int → Int → Int) (got : Int) (out : List Fw) (x : Nat → Int) (n : Int) (m bl : Nat) (cs : Array Value) (W : World) (i : Value) (wr : World) : Prop :=
  ∃ j : Nat, j ≤ m ∧ i = .int .i64 j ∧ RtM w p want s t b (pushX f x n j) got (out ++ flX x n j) wr ∧ Blk wr bl cs 23 ∧ KeepsFrom 0 W wr
set_option maxHeartbeats 16000000 in
set_option maxRecDepth 100000 in
theorem rt_body {w : World} {q : Option Addr} {f : Int → Int → Int} {s t want : Int} {b B m0 l k : Nat} {σ : RS} {W : World} {bl m : Nat} {cs : Array Value} {way c0 c1 c2 c3 c4 c5 c6 c12 c13 c14 c15 c16 c17 c18 c19 c20 c21 c22 c23 c24 c25 c26 c27 c28 c29 c30 c31 c32 c33 c34 c35 c36 c37 c38 c39 c40 c41 c42 c43 c44 c45 c46 c47 c48 c49 c50 c51 c52 c53 c54 c55 c56 c57 c58 c59 c60 c61 c62 c63 c64 : Value}
    (hw : In64 want) (hM : RtI w q f want s t b (k, σ) W) (hbl : Blk W bl cs 23) (hcs : ∀ i, i ≤ m → cs[i]? = some (.int .u8 (wayX σ.f s t i))) (hlen : (shortW σ.f s t).length = m + 1) (hway : way = .slice (some ⟨bl, 0, none⟩) (m + 1) (m + 1)) :
    Code.wpIn (Fence.wide.inRound l) m0 Try.prog (((Try.f9.body).bind roundBody).getD .skip) (roundEnd B (RtI w q f want s t b) (RtX w q f want s t b) (fun x x' => x'.1 = x.1 + 1) (k, σ) W) ⟨#[c0, c1, c2, c3, c4, c5, c6, (.pointer (some ⟨w.heap.size, 0, none⟩)), (.pointer (some ⟨w.heap.size + 1, 0, none⟩)), (.pointer (some ⟨w.heap.size + 1 + 1, 0, none⟩)), (.pointer (some ⟨b, 0, none⟩)), way, c12, c13, c14, c15, c16, c17, c18, c19, c20, c21, c22, c23, c24, c25, c26, c27, c28, c29, c30, c31, c32, c33, c34, c35, c36, c37, c38, c39, c40, c41, c42, c43, c44, c45, c46, c47, c48, c49, c50, c51, c52, c53, c54, c55, c56, c57, c58, c59, c60, c61, c62, c63, c64], []⟩ W := by
  conv => arg 4; whnf
  have hR : RInv f 4398046511104 s t want k σ := hM.1
  have hMm : RtM w q want s t b σ.f (want - σ.left) σ.out W := hM.2
  obtain ⟨w0, w9⟩ := hw
  have SI := Lib.hid hR
  have hlo := hR.lo
  have hhi := hR.hi
  obtain ⟨G, hG⟩ : ∃ G, want - σ.left = G := ⟨_, rfl⟩
  rw [hG] at hMm
  have MM := Lib.hid hMm
  have KA := Lib.hid hMm.want
  have KB := Lib.hid hMm.got
  have KL := Lib.hid hMm.left
  have GG := Lib.hid hG
  have d7 := hMm.want.cell 0
  have d9 := hMm.got.cell 0
  simp at d7 d9
  have hbW := hbl.lt
  have KW := Lib.hid hbl
  have XS := Lib.hid hcs
  have HL := Lib.hid hlen
  clear hR hM hMm hbl hcs hlen hG
  by_cases hpos : 0 < σ.left
  · have hGl := GG.out
    have q0 : decide (want ≤ G) = false := by simp; omega
    have hne : shortW σ.f s t ≠ [] := by
      intro e
      have := HL.out
      rw [e] at this
      simp at this
    have hnd : ¬ doneR s t σ := fun hd => by
      rcases hd with q | q
      · omega
      · exact hne q
    obtain ⟨m2, n, hm, hwx, hn, n1, n2, n3, he⟩ := SI.out.way hnd
    obtain rfl : m = m2 := by have := HL.out; omega
    have hsn := SI.out.step hnd
    rw [he] at hsn
    have SN := Lib.hid hsn
    have WX := Lib.hid hwx
    have NE := Lib.hid n3
    have hm15 := hwx.m15
    have hm1 := hwx.m1
    have hmin := capX_min σ.f (wayX σ.f s t) 9223372036854775807 σ.left m
    rw [Int.min_eq_right (by omega), ← hn] at hmin
    obtain ⟨g, hq, hk⟩ : ∃ g, q = some ⟨g, 0, none⟩ ∧ Blk W g (graC σ.f true) 60 := by
      rcases MM.out.gr with ⟨_, h0⟩ | ⟨g, h1, h2⟩
      · exact absurd (by rw [h0]; exact zero_short s t) hne
      · exact ⟨g, by cases h1; rfl, h2⟩
    subst hq
    have KG := Lib.hid hk
    have hleft : σ.left = want - G := by omega
    have NB := Lib.hid (show n ≤ 9223372036854775807 ∧ G + n = want - (σ.left - n) by omega)
    obtain ⟨N, hN⟩ : ∃ N, N = m + 1 := ⟨_, rfl⟩
    rw [← hN] at hway
    have CR := Lib.hid (fun w' (hS : Below W.heap.size W w') => room_any (MM.out.gr.below hS) SI.out.g (KW.out.below hS hbW) XS.out hm1 hm15 hN)
    obtain ⟨c, hc⟩ : ∃ c, capX σ.f (wayX σ.f s t) 9223372036854775807 m = c := ⟨_, rfl⟩
    rw [hc, hleft] at hmin
    rw [hc] at CR
    have HN := Lib.hid hmin
    have g0 : 0 < want - G := by omega
    have g1 : want - G ≤ 9223372036854775807 := by omega
    have n8 : n ≤ 9223372036854775807 := by omega
    have n9 : n ≤ want - G := by omega
    have HNN := Lib.hid hN
    generalize hx : wayX σ.f s t = x at *
    clear hmin hc hsn hwx n3 he hk hnd hne hN hm hn hx n2 hGl hleft HL
    subst hway
    gi_wp2_with fail
    refine region_endR (by kernel_rfl) (by kernel_rfl) 7 [(.pointer (some ⟨g, 0, none⟩)), (.slice (some ⟨bl, 0, none⟩) N N), (.int .i64 c), (.int .i64 want), (.int .i64 G), (.int .i64 (want - G)), (.int .i64 n), (.int .i64 n)]
      (fun w' => Below W.heap.size W w') (by kernel_rfl) rfl (by kernel_rfl) (Below.refl _ _).drew ?_
    intro af haf
    simp only [List.toList_toArray, List.append_eq, List.cons_append, List.nil_append, puts, Act.put, List.getD_cons_zero, List.getD_cons_succ, List.setIfInBounds_toArray, List.set_cons_succ, List.set_cons_zero] at haf
    subst haf
    refine ⟨?_, ?_⟩
    · simp only [List.toList_toArray, List.take_succ_cons, List.take_zero, EachTo]
      refine ⟨?_, ?_, ?_, ?_, ?_, ?_, ?_, trivial⟩
      · intro w' hS
        refine OpTo.plain ?_ ?_
        exact rfl
        have e := (KL.out.below hS KL.out.lt).cell 0
        simp at e
        have hl := Nat.lt_of_lt_of_le KL.out.lt hS.size
        have HS := Lib.hid hS
        clear hS
        go_wp2_with fail
        all_goals first | exact HS.out | exact ⟨rfl, HS.out⟩ | rfl | exact ⟨by omega, HS.out⟩
      · intro w' hS
        refine OpTo.plain ?_ ?_
        exact rfl
        have HS := Lib.hid hS
        clear hS
        go_wp2_with fail
        all_goals first | exact HS.out | exact ⟨rfl, HS.out⟩ | rfl | exact ⟨by omega, HS.out⟩
      · intro w' hS
        refine OpTo.plain ?_ ?_
        exact rfl
        have HS := Lib.hid hS
        have HC := Lib.hid (CR.out w' hS)
        clear hS
        go_wp2_with fail
        refine HC.out.mono ?_
        rintro e w'' ⟨rfl, rfl⟩
        exact ⟨rfl, HS.out⟩
      · intro w' hS
        refine OpTo.plain ?_ ?_
        exact rfl
        have e := (KA.out.below hS KA.out.lt).cell 0
        simp at e
        have hl := Nat.lt_of_lt_of_le KA.out.lt hS.size
        have HS := Lib.hid hS
        clear hS
        go_wp2_with fail
        all_goals first | exact HS.out | exact ⟨rfl, HS.out⟩ | rfl | exact ⟨by omega, HS.out⟩
      · intro w' hS
        refine OpTo.plain ?_ ?_
        exact rfl
        have e := (KB.out.below hS KB.out.lt).cell 0
        simp at e
        have hl := Nat.lt_of_lt_of_le KB.out.lt hS.size
        have HS := Lib.hid hS
        clear hS
        go_wp2_with fail
        all_goals first | exact HS.out | exact ⟨rfl, HS.out⟩ | rfl | exact ⟨by omega, HS.out⟩
      · intro w' hS
        refine OpTo.plain ?_ ?_
        exact rfl
        have HS := Lib.hid hS
        clear hS
        go_wp2_with fail
        all_goals first | exact HS.out | exact ⟨rfl, HS.out⟩ | rfl | exact ⟨by omega, HS.out⟩
      · intro w' hS
        refine OpTo.plain ?_ ?_
        exact rfl
        have HS := Lib.hid hS
        clear hS
        rcases Int.lt_or_le (want - G) c with hc | hc
        · have hn' : n = want - G := by rw [HN.out]; omega
          rw [hn']
          clear hn'
          go_wp2_with fail
          all_goals first | exact HS.out | exact ⟨rfl, HS.out⟩
        · have hn' : n = c := by rw [HN.out]; omega
          rw [hn']
          clear hn'
          go_wp2_with fail
          all_goals first | exact HS.out | exact ⟨rfl, HS.out⟩
    simp only [List.getD_cons_succ, List.getD_cons_zero, List.toList_toArray]
    intro w' hS
    refine OpTo.plain ?_ ?_
    exact rfl
    have M5 := Lib.hid (MM.out.grow hS)
    have K5 := Lib.hid (KW.out.below hS hbW)
    have F5 := Lib.hid (keepsFrom_below (B := 0) hS)
    have hNm := HNN.out
    have hr := run_next (P := Try.prog) w' 68 23 Try.underlying68 (Try.sizeOf23 w') bl 0 N N (by omega) (Nat.le_refl _)
    rw [show nextA bl 0 N = ⟨bl, 1, none⟩ by unfold nextA; rw [if_neg (by omega)], show N - 1 = m by omega] at hr
    clear hS CR hNm
    go_wp2_with fail
    gi_wp2_with fail
    gi_loopw [35] (PushAt w (some ⟨g, 0, none⟩) want s t b σ.f G σ.out x n m bl cs W) (fun i _ => m - (intOf i).toNat)
    case atStart => exact ⟨0, by omega, rfl, by rw [show flX x n 0 = [] from rfl, List.append_nil]; exact M5.out, K5.out, F5.out⟩
    case round =>
      clear M5 K5 F5 hr KG KL KA KB MM KW hbW
      obtain ⟨j, hj, rfl, hM, hk, hkf⟩ := hrel
      have MM := Lib.hid hM
      have KW := Lib.hid hk
      have KF := Lib.hid hkf
      have KL := Lib.hid hM.left
      have hbr := hk.lt
      obtain ⟨g', hq', hkg⟩ : ∃ g', some (⟨g, 0, none⟩ : Addr) = some ⟨g', 0, none⟩ ∧ Blk wr g' (graC (pushX σ.f x n j) true) 60 := by
        rcases hM.gr with ⟨h0, _⟩ | ⟨g', h1, h2⟩
        · cases h0
        · exact ⟨g', by cases h1; rfl, h2⟩
      obtain rfl : g = g' := by cases hq'; rfl
      have KG := Lib.hid hkg
      have hNm := HNN.out
      clear hM hk hkf hkg hq'
      by_cases hjm : j < m
      · have qj : decide ((j : Int) < (m : Int)) = true := by simp; omega
        have i0 : (0 : Int) ≤ (j : Int) := by omega
        have i1 : (j : Int) < (m : Int) := by omega
        have i2 : (j : Int) < (N : Int) := by omega
        have GI := Lib.hid (pushX_inv SI.out.g WX.out n1 NE.out j (by omega))
        have hah := pushX_ahead (n := n) WX.out j j (Nat.le_refl _) hjm
        have hne := NE.out j hjm
        have EE : Hid (gPushE (pushX σ.f x n j) (x j) (x (j + 1)) n = 0 ∧ gPushF (pushX σ.f x n j) (x j) (x (j + 1)) n = pushX σ.f x n (j + 1)) := Lib.hid (by
          unfold gPushE gPushF
          rw [hah, if_neg (by omega), if_neg (by omega), if_pos ⟨n1, hne⟩]
          exact ⟨rfl, rfl⟩)
        have FX : Hid (σ.out ++ flX x n (j + 1) = (σ.out ++ flX x n j) ++ [⟨x j, x (j + 1), n⟩]) := Lib.hid (by rw [show flX x n (j + 1) = flX x n j ++ [⟨x j, x (j + 1), n⟩] from rfl, List.append_assoc])
        have CP := Lib.hid (fun w' (hS : Below wr.heap.size wr w') => gpush_any (KG.out.below hS KG.out.lt) GI.out (by decide) (a := x j) (b := x (j + 1)) (n := n) ⟨by omega, by omega⟩)
        have EU := Lib.hid (XS.out j (by omega))
        have EV := Lib.hid (XS.out (1 + j) (by omega))
        rw [show x (1 + j) = x (j + 1) by rw [Nat.add_comm]] at EV
        have e1 := (KW.out.cell (1 + j)).trans EV.out
        have hlen : (σ.out ++ flX x n j).length ≤ 90000 := by
          rw [List.length_append, flX_len]
          have := SI.out.len
          have := SI.out.k5
          omega
        clear hNm hah hne GI
        generalize hf2 : pushX σ.f x n (j + 1) = f2 at *
        have HF2 := Lib.hid hf2
        clear hf2
        generalize x j = u at *
        generalize hv : x (j + 1) = v at *
        clear hv
        generalize hout : σ.out ++ flX x n j = out0 at *
        clear hout
        gi_wp2_with fail
        refine region_endR (by kernel_rfl) (by kernel_rfl) 7 [(.pointer (some ⟨g, 0, none⟩)), (.slice (some ⟨bl, 0, none⟩) N N), (.int .i64 j), (.pointer (some ⟨bl, j, none⟩)), (.int .u8 u), (.int .u8 v), (.int .i64 n), (.int .i64 0)]
          (fun w' => Below wr.heap.size wr w') (by kernel_rfl) rfl (by kernel_rfl) (Below.refl _ _).drew ?_
        intro af haf
        simp only [List.toList_toArray, List.append_eq, List.cons_append, List.nil_append, puts, Act.put, List.getD_cons_zero, List.getD_cons_succ, List.setIfInBounds_toArray, List.set_cons_succ, List.set_cons_zero] at haf
        subst haf
        refine ⟨?_, ?_⟩
        · simp only [List.toList_toArray, List.take_succ_cons, List.take_zero, EachTo]
          refine ⟨?_, ?_, ?_, ?_, ?_, ?_, ?_, trivial⟩
          · intro w' hS
            refine OpTo.plain ?_ ?_
            exact rfl
            have e := (KL.out.below hS KL.out.lt).cell 0
            simp at e
            have hl := Nat.lt_of_lt_of_le KL.out.lt hS.size
            have HS := Lib.hid hS
            clear hS
            go_wp2_with fail
            all_goals first | exact HS.out | exact ⟨rfl, HS.out⟩ | rfl | exact ⟨by omega, HS.out⟩
          · intro w' hS
            refine OpTo.plain ?_ ?_
            exact rfl
            have HS := Lib.hid hS
            clear hS
            go_wp2_with fail
            all_goals first | exact HS.out | exact ⟨rfl, HS.out⟩ | rfl | exact ⟨by omega, HS.out⟩
          · intro w' hS
            refine OpTo.plain ?_ ?_
            exact rfl
            have HS := Lib.hid hS
            clear hS
            go_wp2_with fail
            all_goals first | exact HS.out | exact ⟨rfl, HS.out⟩ | rfl | exact ⟨by omega, HS.out⟩
          · intro w' hS
            refine OpTo.plain ?_ ?_
            exact rfl
            have e := (KW.out.below hS KW.out.lt).cell j
            rw [EU.out] at e
            have hl := Nat.lt_of_lt_of_le KW.out.lt hS.size
            have HS := Lib.hid hS
            clear hS
            go_wp2_with fail
            all_goals first | exact HS.out | exact ⟨rfl, HS.out⟩ | rfl | exact ⟨by omega, HS.out⟩
          · intro w' hS
            refine OpTo.plain ?_ ?_
            exact rfl
            have e := (KW.out.below hS KW.out.lt).cell j
            rw [EU.out] at e
            have hl := Nat.lt_of_lt_of_le KW.out.lt hS.size
            have HS := Lib.hid hS
            clear hS
            go_wp2_with fail
            all_goals first | exact HS.out | exact ⟨rfl, HS.out⟩ | rfl | exact ⟨by omega, HS.out⟩
          · intro w' hS
            refine OpTo.plain ?_ ?_
            exact rfl
            have HS := Lib.hid hS
            clear hS
            go_wp2_with fail
            all_goals first | exact HS.out | exact ⟨rfl, HS.out⟩ | rfl | exact ⟨by omega, HS.out⟩
          · intro w' hS
            refine OpTo.plain ?_ ?_
            exact rfl
            have HS := Lib.hid hS
            clear hS
            go_wp2_with fail
            all_goals first | exact HS.out | exact ⟨rfl, HS.out⟩ | rfl | exact ⟨by omega, HS.out⟩
        simp only [List.getD_cons_succ, List.getD_cons_zero, List.toList_toArray]
        intro w' hS
        refine OpTo.plain ?_ ?_
        exact rfl
        have CQ := Lib.hid (CP.out w' hS)
        have MS := Lib.hid (MM.out.grow hS)
        have KS := Lib.hid (KW.out.below hS KW.out.lt)
        have FS := Lib.hid (KF.out.trans (keepsFrom_below (B := 0) hS))
        have GS := Lib.hid (KG.out.below hS KG.out.lt)
        clear hS CP
        go_wp2_with fail
        refine CQ.out.mono ?_
        rintro e w5 ⟨he, hk5, kp5⟩
        rw [EE.out.1] at he
        subst he
        rw [EE.out.2] at hk5
        obtain ⟨hM5, hF5⟩ := MS.out.push GS.out hk5 kp5
        have M5 := Lib.hid hM5
        have F5 := Lib.hid (FS.out.trans hF5)
        have K5 := Lib.hid (KS.out.keep kp5 (blkNe7 KS.out GS.out (by decide)))
        obtain ⟨v8, k8, ow⟩ := hM5.row
        obtain ⟨ao, cap, hv8, _⟩ := owns_open ow
        subst hv8
        have K8 := Lib.hid k8
        have OW := Lib.hid ow
        have hb5 := hM5.below.size
        clear hk5 kp5 hM5 hF5 CQ MS KS FS GS k8 ow MM KW KF KL KG EE
        go_wp2_with fail
        gi_wp2_with fail
        refine region_ghostR (by kernel_rfl) (by kernel_rfl) (fun s : Nat × Value => [(.slice ao out0.length cap), (.slice (some ⟨bl, 0, none⟩) N N), (.int .i64 j), (.pointer (some ⟨bl, j, none⟩)), (.int .u8 u), (.int .u8 v), (.int .i64 n), (.agg #[.int .u8 u, .int .u8 v, .int .i64 n]), (.slice (some ⟨s.1, 0, none⟩) 1 1), s.2, undef])
          (AppI w w5 (.slice ao out0.length cap) out0 ⟨u, v, n⟩) (by kernel_rfl) (0, undef) (AppI.start _ _) ?_
        intro AF hAF
        simp only [List.toList_toArray, List.append_eq, List.cons_append, List.nil_append, puts, Act.put, List.getD_cons_zero, List.getD_cons_succ, List.setIfInBounds_toArray, List.set_cons_succ, List.set_cons_zero] at hAF
        have hAF2 : _ = AF := funext hAF
        subst hAF2
        clear hAF
        refine ⟨?_, ?_⟩
        · simp only [List.toList_toArray, EachG]
          refine ⟨?_, ?_, ?_, ?_, ?_, ?_, ?_, ?_, ?_, ?_, ?_, trivial⟩
          · intro s D w' hD hW hC hI
            refine ⟨s, fun _ _ _ => rfl, ?_⟩
            have hN : D 9 = false := need_not hC hD 9 (by kernel_rfl)
            have hT : D 10 = false := need_not hC hN 10 (by kernel_rfl)
            have hS := hI.below hN
            refine OpTo.plain ?_ ?_
            exact rfl
            have e := (K8.out.below hS K8.out.lt).cell 0
            simp at e
            have hl := Nat.lt_of_lt_of_le K8.out.lt hS.size
            have HS := Lib.hid (hI.keep (k := 0) hN (by decide))
            clear hI hS hN hC hW hD
            go_wp2_with fail
            all_goals first | exact HS.out | exact ⟨rfl, HS.out⟩ | rfl
          · intro s D w' hD hW hC hI
            refine ⟨s, fun _ _ _ => rfl, ?_⟩
            have hN : D 9 = false := need_not hC hD 9 (by kernel_rfl)
            have hT : D 10 = false := need_not hC hN 10 (by kernel_rfl)
            have hS := hI.below hN
            refine OpTo.plain ?_ ?_
            exact rfl
            have HS := Lib.hid (hI.keep (k := 1) hN (by decide))
            clear hI hS hN hC hW hD
            go_wp2_with fail
            all_goals first | exact HS.out | exact ⟨rfl, HS.out⟩ | rfl
          · intro s D w' hD hW hC hI
            refine ⟨s, fun _ _ _ => rfl, ?_⟩
            have hN : D 9 = false := need_not hC hD 9 (by kernel_rfl)
            have hT : D 10 = false := need_not hC hN 10 (by kernel_rfl)
            have hS := hI.below hN
            refine OpTo.plain ?_ ?_
            exact rfl
            have HS := Lib.hid (hI.keep (k := 2) hN (by decide))
            clear hI hS hN hC hW hD
            go_wp2_with fail
            all_goals first | exact HS.out | exact ⟨rfl, HS.out⟩ | rfl
          · intro s D w' hD hW hC hI
            refine ⟨s, fun _ _ _ => rfl, ?_⟩
            have hN : D 9 = false := need_not hC hD 9 (by kernel_rfl)
            have hT : D 10 = false := need_not hC hN 10 (by kernel_rfl)
            have hS := hI.below hN
            refine OpTo.plain ?_ ?_
            exact rfl
            have e := (K5.out.below hS K5.out.lt).cell j
            rw [EU.out] at e
            have hl := Nat.lt_of_lt_of_le K5.out.lt hS.size
            have HS := Lib.hid (hI.keep (k := 3) hN (by decide))
            clear hI hS hN hC hW hD
            go_wp2_with fail
            all_goals first | exact HS.out | exact ⟨rfl, HS.out⟩ | rfl
          · intro s D w' hD hW hC hI
            refine ⟨s, fun _ _ _ => rfl, ?_⟩
            have hN : D 9 = false := need_not hC hD 9 (by kernel_rfl)
            have hT : D 10 = false := need_not hC hN 10 (by kernel_rfl)
            have hS := hI.below hN
            refine OpTo.plain ?_ ?_
            exact rfl
            have e := (K5.out.below hS K5.out.lt).cell j
            rw [EU.out] at e
            have hl := Nat.lt_of_lt_of_le K5.out.lt hS.size
            have HS := Lib.hid (hI.keep (k := 4) hN (by decide))
            clear hI hS hN hC hW hD
            go_wp2_with fail
            all_goals first | exact HS.out | exact ⟨rfl, HS.out⟩ | rfl
          · intro s D w' hD hW hC hI
            refine ⟨s, fun _ _ _ => rfl, ?_⟩
            have hN : D 9 = false := need_not hC hD 9 (by kernel_rfl)
            have hT : D 10 = false := need_not hC hN 10 (by kernel_rfl)
            have hS := hI.below hN
            refine OpTo.plain ?_ ?_
            exact rfl
            have HS := Lib.hid (hI.keep (k := 5) hN (by decide))
            clear hI hS hN hC hW hD
            go_wp2_with fail
            all_goals first | exact HS.out | exact ⟨rfl, HS.out⟩ | rfl
          · intro s D w' hD hW hC hI
            refine ⟨s, fun _ _ _ => rfl, ?_⟩
            have hN : D 9 = false := need_not hC hD 9 (by kernel_rfl)
            have hT : D 10 = false := need_not hC hN 10 (by kernel_rfl)
            have hS := hI.below hN
            refine OpTo.plain ?_ ?_
            exact rfl
            have HS := Lib.hid (hI.keep (k := 6) hN (by decide))
            clear hI hS hN hC hW hD
            go_wp2_with fail
            all_goals first | exact HS.out | exact ⟨rfl, HS.out⟩ | rfl
          · intro s D w' hD hW hC hI
            refine ⟨s, fun _ _ _ => rfl, ?_⟩
            have hN : D 9 = false := need_not hC hD 9 (by kernel_rfl)
            have hT : D 10 = false := need_not hC hN 10 (by kernel_rfl)
            have hS := hI.below hN
            refine OpTo.plain ?_ ?_
            exact rfl
            have HS := Lib.hid (hI.keep (k := 7) hN (by decide))
            clear hI hS hN hC hW hD
            go_wp2_with fail
            all_goals first | exact HS.out | exact ⟨rfl, HS.out⟩ | rfl
          · intro s D w' hD hW hC hI
            have hN : D 9 = false := need_not hC hD 9 (by kernel_rfl)
            refine ⟨(w'.heap.size, s.2), ?_, ?_⟩
            · intro j' hj hd
              have hne : j' ≠ 8 := by
                rintro rfl
                rw [hD] at hd
                cases hd
              match j', hne with
              | 0, _ => rfl
              | 1, _ => rfl
              | 2, _ => rfl
              | 3, _ => rfl
              | 4, _ => rfl
              | 5, _ => rfl
              | 6, _ => rfl
              | 7, _ => rfl
              | 8, h => exact absurd rfl h
              | 9, _ => rfl
              | 10, _ => rfl
              | j' + 11, _ => rfl
            refine OpTo.plain ?_ ?_
            exact rfl
            have hT : D 10 = false := need_not hC hN 10 (by kernel_rfl)
            have HS := Lib.hid (hI.lay hN)
            clear hI hN hC hW hD
            go_wp2_with fail
            all_goals first | exact HS.out | exact ⟨rfl, HS.out⟩ | rfl
          · intro s D w' hD hW hC hI
            have hP : D 8 = true := need_waited hC hW (by kernel_rfl)
            obtain ⟨hB, hA⟩ := hI.1 hD
            have hK := hA hP
            obtain ⟨v', w2, hr, ho, hgr⟩ := app_run (c := 1) (owns_below OW.out hB) hK (by omega) (Nat.le_trans hb5 hB.size)
            refine ⟨(s.1, v'), ?_, ?_⟩
            · intro j' hj hd
              have hne : j' ≠ 9 := by
                rintro rfl
                rw [hD] at hd
                cases hd
              match j', hne with
              | 0, _ => rfl
              | 1, _ => rfl
              | 2, _ => rfl
              | 3, _ => rfl
              | 4, _ => rfl
              | 5, _ => rfl
              | 6, _ => rfl
              | 7, _ => rfl
              | 8, _ => rfl
              | 9, h => exact absurd rfl h
              | 10, _ => rfl
              | j' + 11, _ => rfl
            exact OpTo.append rfl rfl rfl rfl hr rfl (AppI.app ho hB hgr (need_not hC hD 10 (by kernel_rfl)))
          · intro s D w' hD hW hC hI
            have hP : D 9 = true := need_waited hC hW (by kernel_rfl)
            obtain ⟨wa, hwa, ho, hgr⟩ := hI.2.1 hP hD
            refine ⟨s, fun _ _ _ => rfl, ?_⟩
            obtain ⟨s1, s2⟩ := s
            obtain ⟨ao2, cap2, hs2, _⟩ := owns_open ho
            simp only at hs2
            subst hs2
            have k8 := (K8.out.below hwa K8.out.lt).grown hgr (fun e => owns_ne (owns_below OW.out hwa) (K8.out.below hwa K8.out.lt) (by decide) _ e rfl)
            have d := k8.cell 0
            have fr := k8.frozen 0
            have hl := k8.lt
            simp at d
            have HS := Lib.hid (AppI.fin (s1 := s1) (D := D) ⟨wa, hwa, ho, hgr⟩ hP)
            refine OpTo.plain ?_ ?_
            exact rfl
            clear hI hP hC hW hD hwa ho hgr
            go_wp2_with fail
            have h9 := HS.out
            simp only [List.length_append, List.length_cons, List.length_nil, Nat.zero_add] at h9
            exact h9
        intro s D w9 hall hI9
        obtain ⟨s1, s2⟩ := s
        obtain ⟨wb, ⟨wa, hwa, ho, hgr⟩, hw9⟩ := hI9.2.2 (hall 10 (by decide))
        simp only at hw9 ho
        obtain ⟨m1, k1, f1⟩ := (M5.out.grow hwa).app (K8.out.below hwa K8.out.lt) (owns_below OW.out hwa) ho hgr
        rw [← hw9] at m1 k1 f1
        have M9 := Lib.hid m1
        have F9 := Lib.hid ((F5.out.trans (keepsFrom_below (B := 0) hwa)).trans f1)
        have K9 := Lib.hid ((K5.out.below hwa K5.out.lt).keep k1 (by
          rintro (e | e)
          · exact owns_ne (owns_below OW.out hwa) (K5.out.below hwa K5.out.lt) (by decide) _ e rfl
          · exact blkNe7 K5.out K8.out (by decide) e))
        clear hI9 hall hwa ho hgr hw9 m1 k1 f1 M5 F5 K5 K8 OW EU EV e1 i1 i2
        gi_wp2_with fail
        go_roundw
        case rel => exact ⟨j + 1, by omega, by go_num, by rw [HF2.out, FX.out]; exact M9.out, K9.out, F9.out⟩
        case measure => simp [intOf]; omega
      · obtain rfl : j = m := by omega
        have qj : decide ((j : Int) < (j : Int)) = false := by simp
        have KB := Lib.hid MM.out.got
        have d9 := KB.out.cell 0
        have f9 := KB.out.frozen 0
        simp at d9
        have hG0 : 0 ≤ G := by have := GG.out; omega
        have hGn : G + n ≤ 9223372036854775807 := by omega
        clear hNm
        gi_wp2_with fail
        obtain ⟨m1, k1⟩ := MM.out.setGot (G + n)
        exact ⟨KeepsFrom.up (KF.out.trans k1) (Nat.zero_le _), (k + 1, ⟨pushX σ.f x n j, σ.left - n, σ.out ++ flX x n j⟩), rfl, SN.out, by rw [← NB.out.2]; exact m1⟩
  · have hGl := GG.out
    have q0 : decide (want ≤ G) = true := by simp; omega
    subst hway
    gi_wp2_with fail
    exact ⟨KeepsFrom.refl _ _, rfl, (k, σ), ⟨SI.out, by rw [GG.out]; exact MM.out⟩, .inl (by show σ.left ≤ 0; omega)⟩

end Go.Proofs.Ytgebplplpenabaa
