/-
  Package rounds: cancel.
-/
import Derived.Test.YtmfacfnbokadmaaPOfD
import Derived.Test.YtmfacfnbokadmaaRdMath
namespace Go.Proofs.Ytmfacfnbokadmaa
open Go.RowKit
set_option linter.unusedSimpArgs false
set_option linter.unusedVariables false

/-- The steps of a cancelling, in memory. -/
def stVals (B : Nat) (l : List Fw) (L : Nat → Int) (v : Nat → Int) (k : Nat) : List Value := [.pointer (some ⟨B, ixS l L (v k) (v (k + 1)) * 4, none⟩), .int .i64 (sgS l L (v k) (v (k + 1)))]
def stCells (B : Nat) (l : List Fw) (L : Nat → Int) (v : Nat → Int) : Nat → List Value
  | 0 => []
  | k + 1 => stCells B l L v k ++ stVals B l L v k
theorem stCells_len (B : Nat) (l : List Fw) (L : Nat → Int) (v : Nat → Int) : ∀ n, (stCells B l L v n).length = n * 2
  | 0 => rfl
  | n + 1 => by
    show (stCells B l L v n ++ stVals B l L v n).length = _
    rw [List.length_append, stCells_len B l L v n]
    show n * 2 + 2 = _
    omega
theorem stCells_get (B : Nat) (l : List Fw) (L : Nat → Int) (v : Nat → Int) {i j : Nat} (hj : j < 2) : ∀ n, i < n → (stCells B l L v n)[i * 2 + j]? = (stVals B l L v i)[j]?
  | 0, h => by omega
  | n + 1, h => by
    show (stCells B l L v n ++ stVals B l L v n)[i * 2 + j]? = _
    by_cases hi : i = n
    · subst hi
      rw [List.getElem?_append_right (by rw [stCells_len]; omega), stCells_len]
      congr 1
      omega
    · rw [List.getElem?_append_left (by rw [stCells_len]; omega)]
      exact stCells_get B l L v hj n (by omega)
theorem info_st : (Try.prog.info? 71).map (fun i => (i.zero, i.size, i.bytes)) = some (some (.agg #[.pointer none, .int .i64 0]), 2, 16) := by kernel_rfl
def lstK (l : List Fw) (L : Nat → Int) (v : Nat → Int) (k : Nat) : Int := if k = 0 then 9223372036854775807 else minK l L v k
theorem lstK_next {l : List Fw} {L : Nat → Int} {v : Nat → Int} {k : Nat} (h : avS l L (v k) (v (k + 1)) ≤ 1099511627776) : min (lstK l L v k) (avS l L (v k) (v (k + 1))) = lstK l L v (k + 1) := by
  unfold lstK
  rw [if_neg (show ¬ k + 1 = 0 by omega)]
  by_cases hk : k = 0
  · subst hk
    rw [if_pos rfl]
    show _ = min (1099511627776 : Int) (avS l L (v 0) (v (0 + 1)))
    generalize avS l L (v 0) (v (0 + 1)) = x at *
    rw [Int.min_eq_right (by omega), Int.min_eq_right (by omega)]
  · rw [if_neg hk]
    rfl
def CanAt (w : World) (B : Nat) (l : List Fw) (L : Nat → Int) (v : Nat → Int) (K : Nat) (sv lv fv i : Value) (wr : World) : Prop :=
  ∃ k : Nat, k ≤ K ∧ i = .int .i64 k ∧ lv = .int .i64 (lstK l L v k) ∧ fv = .int .u8 (v k) ∧ wr.ownsRow w.heap.size 71 2 sv k (stCells B l L v k) ∧ Below w.heap.size w wr
def CanAt2 (w w1 : World) (base : Nat) (c : Value) (B : Nat) (l : List Fw) (L : Nat → Int) (v : Nat → Int) (n : Int) (K : Nat) (i : Value) (wr : World) : Prop :=
  ∃ k : Nat, k ≤ K ∧ i = .int .i64 k ∧ wr.ownsRow base 64 4 c l.length (dcCells l (tkK l L v n k) l.length) ∧ Keep (fun b => b = B) w wr ∧ Keep (fun b => b = B) w1 wr
set_option maxHeartbeats 16000000 in
set_option maxRecDepth 100000 in
theorem cancel_any {w : World} {base B cap : Nat} {l : List Fw} {L : Nat → Int} (hO : w.ownsRow base 64 4 (.slice (some ⟨B, 0, none⟩) l.length cap) l.length (dcCells l L l.length)) (hM : MayD l) (hln : l.length ≤ 300) (hL : RdOk l L) (hB : B < w.heap.size) {W : List Int} {c : Int → Int → Int} {n : Int} (hI : CanI l L c W n)
    {rv : Value} {rb : Nat} (hR : Rowed w rb 35 1 rv W.length (W.map (.int .u8))) :
    Calls Try.prog 17 #[.slice (some ⟨B, 0, none⟩) l.length cap, rv] w (MovePost 64 base (.slice (some ⟨B, 0, none⟩) l.length cap) l (nextD l L) B w) := by
  obtain ⟨ro, rcap, rfl, _, _, _, hrow⟩ := hR.look
  obtain ⟨g, rfl, _, hgw, hcell, _⟩ := hrow (by have := hI.k1; omega)
  have HC : Hid (∀ k, (hk : k < W.length) → w.cell? ⟨g, k, none⟩ = some (.int .u8 W[k])) := Lib.hid fun k hk => by
    rw [hcell k (by omega), List.getElem?_map, List.getElem?_eq_getElem hk]; rfl
  have HI := Lib.hid hI
  have HO := Lib.hid hO
  have HM := Lib.hid hM
  have HL := Lib.hid hL
  obtain ⟨K, hK⟩ : ∃ K, W.length = K := ⟨_, rfl⟩
  have HK := Lib.hid hK
  obtain ⟨v, hv⟩ : ∃ v, uR W = v := ⟨_, rfl⟩
  have HV := Lib.hid hv
  have k1 := hI.k1
  have k16 := hI.k16
  have e0 := HC.out (W.length - 1) (by omega)
  rw [hI.last (by omega), hv, hK] at e0
  rw [hK] at k1 k16 ⊢
  have CS : Hid (∀ k, k < K → ∀ w', Below w.heap.size w w' → Calls Try.prog 27 #[.slice (some ⟨B, 0, none⟩) l.length cap, .int .u8 (v k), .int .u8 (v (k + 1))] w' (StepPost l L B (v k) (v (k + 1)) w')) := Lib.hid fun k hk w' hb => by
    rw [← hv]
    have h1 := hI.ends k
    have h2 := hI.ends (k + 1)
    exact cstep_any (owns_below HO.out hb) HM.out hln HL.out ⟨by omega, by omega⟩ ⟨by omega, by omega⟩ (hI.st k (by rw [hK]; exact hk)) (Nat.lt_of_lt_of_le hB hb.size)
  have CH : Hid (∀ k, k < K → ∀ w', Below w.heap.size w w' → Calls Try.prog 28 #[.agg #[.pointer (some ⟨B, ixS l L (v k) (v (k + 1)) * 4, none⟩), .int .i64 (sgS l L (v k) (v (k + 1)))]] w' fun e w2 => e = .returned (.int .i64 (avS l L (v k) (v (k + 1)))) ∧ Below w'.heap.size w' w2) := Lib.hid fun k hk w' hb => by
    rw [← hv]
    exact chas_any (owns_below HO.out hb) (hI.st k (by rw [hK]; exact hk)).ix (Nat.lt_of_lt_of_le hB hb.size) (bkS l L (uR W k) (uR W (k + 1)))
  have AV : Hid (∀ k, k < K → 1 ≤ avS l L (v k) (v (k + 1)) ∧ avS l L (v k) (v (k + 1)) ≤ 1099511627776) := Lib.hid fun k hk => by
    rw [← hv]
    have hs := hI.st k (by rw [hK]; exact hk)
    refine ⟨hs.av, ?_⟩
    have h1 := hL.lo _ hs.ix
    have h2 := hL.hi _ hs.ix
    have h3 := (hM.ok _ hs.ix).2.2.2.2
    unfold avS
    split <;> omega
  have HLS : Hid (∀ k, k ≤ K → 0 ≤ lstK l L v k ∧ lstK l L v k ≤ 9223372036854775807) := Lib.hid fun k hk => by
    unfold lstK
    by_cases h0 : k = 0
    · rw [if_pos h0]; omega
    · rw [if_neg h0]
      have h1 := (minK_le l L v k).1
      have h2 := minK_pos l L v k (fun j hj => (AV.out j (by omega)).1)
      omega
  have ki0 : (0 : Int) ≤ (K : Int) - 1 := by omega
  have ki1 : (K : Int) - 1 < (K : Int) := by omega
  clear hR hrow hcell hI hO hM hL hK hv
  go_enter Try.func17, Try.ntmps17
  go_wp2_with fail
  go_loopw [4, 5, 6, 20] (CanAt w B l L v K) (fun _ _ _ i _ => K - (intOf i).toNat)
  case atStart => exact ⟨0, by omega, rfl, rfl, rfl, World.ownsRow_nil _ _ _ _, Below.refl _ _⟩
  case round =>
    clear e0
    obtain ⟨k, hk, rfl, rfl, rfl, hs, hb⟩ := hrel
    have BB := Lib.hid hb
    have OS := Lib.hid hs
    obtain ⟨aos, caps, rfl, _⟩ := owns_open hs
    clear hs hb
    by_cases hkK : k < K
    · have qk : decide ((k : Int) < (K : Int)) = true := by simpa using hkK
      have i0 : (0 : Int) ≤ (k : Int) := by omega
      have i1 : (k : Int) < (K : Int) := by omega
      have d0 := (BB.out.cell (p := ⟨g, k, none⟩) hgw).trans (HC.out k (by rw [HK.out]; exact hkK))
      rw [HI.out.at_ k (by rw [HK.out]; exact hkK), HV.out] at d0
      have hgr := Nat.lt_of_lt_of_le hgw BB.out.size
      have CS1 := Lib.hid (CS.out k hkK wr BB.out)
      have CH1 := Lib.hid (CH.out k hkK)
      have NX := Lib.hid (lstK_next (AV.out k hkK).2)
      obtain ⟨hl0, hl9⟩ := HLS.out k hk
      obtain ⟨ha0, ha9⟩ := AV.out k hkK
      have NC : Hid (stCells B l L v (k + 1) = stCells B l L v k ++ [.pointer (some ⟨B, ixS l L (v k) (v (k + 1)) * 4, none⟩), .int .i64 (sgS l L (v k) (v (k + 1)))]) := Lib.hid rfl
      unfold StepPost at CS1
      generalize ixS l L (v k) (v (k + 1)) * 4 = ix at CS1 CH1 NC
      generalize sgS l L (v k) (v (k + 1)) = sg at CS1 CH1 NC
      generalize avS l L (v k) (v (k + 1)) = av at *
      generalize lstK l L v k = lst at *
      go_wp2_with fail
      refine CS1.out.mono ?_
      rintro e w2 ⟨rfl, hb2⟩
      have B2 := Lib.hid (andB BB.out hb2)
      have O2 := Lib.hid (owns_below OS.out hb2)
      have B3 := Lib.hid (B2.out.alloc B2.out.size (.cells #[.pointer (some ⟨B, ix, none⟩), .int .i64 sg] 71))
      have O3 := Lib.hid (owns_below O2.out ((Below.refl w2.heap.size w2).alloc (Nat.le_refl _) (.cells #[.pointer (some ⟨B, ix, none⟩), .int .i64 sg] 71)))
      have K3 := Lib.hid (Blk.new w2 #[.pointer (some ⟨B, ix, none⟩), .int .i64 sg] 71)
      clear CS1 hb2 d0 hgr
      go_wp2_with (at_builtin; refine wpList_append_one _ rfl (.tmp 28) (.tmp 30) 68 71 rfl Try.underlying68 info_st rfl (by decide) (by decide) w.heap.size _ k _ rfl (O3.out.alloc _) (w2.heap.size + 1) 1 [.pointer (some ⟨B, ix, none⟩), .int .i64 sg] rfl (by simp [go_sem]) ?_ (by intro u hu; simp at hu; rcases hu with rfl | rfl <;> rfl) (by omega) (by have := B2.out.size; simp; omega) ?_)
      · exact Blk.newAt _ _ _ (by simp)
      intro v4 w4 hown hgr4
      have O4 := Lib.hid (show w4.ownsRow w.heap.size 71 2 v4 (k + 1) (stCells B l L v (k + 1)) from by rw [NC.out]; exact hown)
      have B4 := Lib.hid (below_ag B3.out B3.out.size hgr4 (fun k' h => (owns_type O3.out h).1))
      have K4 := Lib.hid ((K3.out.alloc (.cells #[.pointer (some ⟨B, ix, none⟩), .int .i64 sg] 71)).grown hgr4 (fun e => by have := (owns_type O2.out e).2.1; omega))
      have c0 := K4.out.cell 0
      have c1 := K4.out.cell 1
      have hlt4 := K4.out.lt
      simp at c0 c1
      clear hown hgr4
      go_wp2_with fail
      refine (CH1.out w4 B4.out).mono ?_
      rintro e w5 ⟨rfl, hb5⟩
      have B5 := Lib.hid (andB B4.out hb5)
      have O5 := Lib.hid (owns_below O4.out hb5)
      clear hb5 CH1 c0 c1 hlt4
      go_wp2_with fail
      have HKL := Lib.hid hkK
      refine ⟨⟨k + 1, by have := HKL.out; omega, by go_num, ?_, rfl, O5.out, B5.out⟩, by simp [intOf]; have := HKL.out; omega⟩
      rw [← NX.out]
      congr 1
      rw [Int.min_def]
      split <;> split <;> omega
    · have hkn : k = K := by omega
      subst hkn
      have q0 : decide (((k : Nat) : Int) < (k : Int)) = false := by simp
      have hls : lstK l L v k = n := by
        unfold lstK
        rw [if_neg (by omega), ← HV.out, ← HK.out]
        exact HI.out.least
      rw [hls]
      have n1 := HI.out.n1
      have n9 := HI.out.n9
      have OB := Lib.hid (owns_below HO.out BB.out)
      have OSZ := Lib.hid BB.out.size
      go_wp2_with fail
      obtain ⟨wf, rfl⟩ : ∃ x, x = wr := ⟨_, rfl⟩
      go_loopw [11, 40] (fun _ i wz => CanAt2 w wf base (.slice (some ⟨B, 0, none⟩) l.length cap) B l L v n k i wz) (fun _ i _ => k - (intOf i).toNat)
      case atStart => exact ⟨0, by omega, rfl, OB.out, Keep.of_below BB.out, Keep.refl _ _⟩
      case round =>
        clear q0
        obtain ⟨j, hj, rfl, hO2, hk1, hk2⟩ := hrel
        have OD := Lib.hid hO2
        have K1 := Lib.hid hk1
        have K2 := Lib.hid hk2
        clear hO2 hk1 hk2
        by_cases hjk : j < k
        · have qk : decide ((j : Int) < (k : Int)) = true := by simpa using hjk
          have i0 : (0 : Int) ≤ (j : Int) := by omega
          have i1 : (j : Int) < (k : Int) := by omega
          obtain ⟨ao, cp, hvv, _, _, _, hx⟩ := owns_open OS.out
          cases hvv
          obtain ⟨gs, rfl, hgs0, hgs1, hgs2, _⟩ := hx (by omega)
          have hne : gs ≠ B := fun e => by omega
          have d0 := (K2.out.cell (p := ⟨gs, j * 2, none⟩) hgs1 hne).trans ((hgs2 (j * 2 + 0) (by omega)).trans (stCells_get B l L v (by omega) k hjk))
          have d1 := (K2.out.cell (p := ⟨gs, j * 2 + 1, none⟩) hgs1 hne).trans ((hgs2 (j * 2 + 1) (by omega)).trans (stCells_get B l L v (by omega) k hjk))
          simp only [stVals, List.getElem?_cons_zero, List.getElem?_cons_succ] at d0 d1
          have hgz := Nat.lt_of_lt_of_le hgs1 K2.out.size
          have hst := HI.out.st j (by rw [HK.out]; exact hjk)
          rw [HV.out] at hst
          have hoff := (tk_gen (n := n) (s := v) (K := k) (fun a b h1 h2 => by rw [← HV.out]; exact HI.out.apart a b h1 (by rw [HK.out]; exact h2)) j (by omega)).1 _ (fun a ha => by rw [← HV.out]; exact HI.out.apart a j ha (by rw [HK.out]; exact hjk))
          rw [HV.out] at hoff
          have hlo := HL.out.lo _ hst.ix
          have hhi := HL.out.hi _ hst.ix
          have hmx := (HM.out.ok _ hst.ix).2.2.2.2
          have O3 := Lib.hid (owns_below OD.out ((Below.refl wr.heap.size wr).alloc (Nat.le_refl _) (.cells #[.pointer (some ⟨B, ixS l L (v j) (v (j + 1)) * 4, none⟩), .int .i64 (sgS l L (v j) (v (j + 1)))] 71)))
          have CM := Lib.hid (cmove_any O3.out hst.ix (by have := K1.out.size; simp; omega) (bkS l L (v j) (v (j + 1))) ⟨by omega, n9⟩ (by rw [hoff]; omega) (by rw [hoff]; omega))
          have K3 := Lib.hid (K1.out.alloc (.cells #[.pointer (some ⟨B, ixS l L (v j) (v (j + 1)) * 4, none⟩), .int .i64 (sgS l L (v j) (v (j + 1)))] 71))
          have K4 := Lib.hid (K2.out.alloc (.cells #[.pointer (some ⟨B, ixS l L (v j) (v (j + 1)) * 4, none⟩), .int .i64 (sgS l L (v j) (v (j + 1)))] 71))
          have NT : Hid (tkK l L v n (j + 1) = updL (tkK l L v n j) (ixS l L (v j) (v (j + 1))) (tkK l L v n j (ixS l L (v j) (v (j + 1))) + if bkS l L (v j) (v (j + 1)) then n else -n)) := Lib.hid rfl
          rw [show (if bkS l L (v j) (v (j + 1)) = true then (-1 : Int) else 1) = sgS l L (v j) (v (j + 1)) from rfl, ← NT.out] at CM
          unfold MovePost at CM
          clear NT hoff hlo hhi hmx hst hgs2 hx
          generalize ixS l L (v j) (v (j + 1)) * 4 = ix at d0 CM O3 K3 K4
          generalize sgS l L (v j) (v (j + 1)) = sg at d1 CM O3 K3 K4
          have HJK := Lib.hid hjk
          go_wp2_with fail
          refine CM.out.mono ?_
          rintro e w6 ⟨rfl, hO6, hk6⟩
          have O6 := Lib.hid hO6
          have K5 := Lib.hid (K3.out.trans hk6)
          have K6 := Lib.hid (K4.out.trans hk6)
          clear hO6 hk6 CM d0 d1
          go_wp2_with fail
          exact ⟨⟨j + 1, by have := HJK.out; omega, by go_num, O6.out, K5.out, K6.out⟩, by simp [intOf]; have := HJK.out; omega⟩
        · have hjn : j = k := by omega
          subst hjn
          have q0 : decide (((j : Nat) : Int) < (j : Int)) = false := by simp
          have hnx : tkK l L v n j = nextD l L := by
            rw [← HV.out, ← HI.out.next, HK.out]
          rw [hnx] at OD
          go_wp2_with fail
          go_end0
          exact ⟨rfl, OD.out, K1.out⟩

end Go.Proofs.Ytmfacfnbokadmaa

/-
  Package rounds: Least.
-/
namespace Go.Proofs.Ytmfacfnbokadmaa
open Go.RowKit
set_option linter.unusedSimpArgs false
set_option linter.unusedVariables false

theorem wayD_nil {l : List Fw} {L : Nat → Int} (h : l.length = 0) : wayD l L = [] := by
  unfold wayD
  rw [h]
  exact round_free (es := []) (fun e he => by cases he) (fun _ => 0) (fun e he => by cases he)
theorem roundW_16 (es : List Ed) (hco : ∀ e ∈ es, -128 ≤ e.co ∧ e.co ≤ 127) : (roundW es).length ≤ 16 := by
  by_cases h : roundW es = []
  · rw [h]; simp
  · obtain ⟨c, hC⟩ := cost_ex es
    obtain ⟨K, u, hu⟩ := round_cheap hC hco h
    rw [hu.len]
    exact hu.k16
theorem quota_out {l : List Fw} {L : Nat → Int} {k : Nat} (hM : MayD l) (h : RdInv l k L) (hn : wayD l L ≠ []) : ∃ M j, IsLeast l M j ∧ k < j := by
  obtain ⟨M, j, hj⟩ := least_ends hM
  refine ⟨M, j, hj, ?_⟩
  rcases Nat.lt_trichotomy k j with q | q | q
  · exact q
  · subst q
    rw [h.at_, ← hj.inv.at_] at hn
    exact absurd hj.done hn
  · have := h.go j q
    rw [← hj.inv.at_] at this
    exact absurd hj.done this
/-- What Least tells. -/
def LeastOut (t : TypeId) (l : List Fw) (q : Int) (base : Nat) (e : Ending) (w' : World) : Prop :=
  (¬ (MayD l ∧ 0 ≤ q) ∧ e = .returned (.tuple #[.slice none 0 0, .int .i64 0, .int .i64 1])) ∨
  (MayD l ∧ 0 ≤ q ∧ ∃ L k, IsLeast l L k ∧ (((k : Int) ≤ q ∧ ∃ v, e = .returned (.tuple #[v, .int .i64 k, .int .i64 0]) ∧ Rowed w' base t 3 v (leftL l L).length (fwCells (leftL l L))) ∨
    (q < (k : Int) ∧ e = .returned (.tuple #[.slice none 0 0, .int .i64 0, .int .i64 13]))))
def LeastPost (t : TypeId) (l : List Fw) (q : Int) (w : World) (e : Ending) (w' : World) : Prop := Below w.heap.size w w' ∧ LeastOut t l q w.heap.size e w'
def LstAt (w : World) (l : List Fw) (q : Int) (c : Value) (i rv : Value) (wr : World) : Prop :=
  ∃ (k : Nat) (L : Nat → Int), RdInv l k L ∧ (k : Int) ≤ q ∧ i = .int .i64 k ∧ wr.ownsRow w.heap.size 64 4 c l.length (dcCells l L l.length) ∧ Rowed wr w.heap.size 35 1 rv (wayD l L).length ((wayD l L).map (.int .u8)) ∧ Below w.heap.size w wr
set_option maxHeartbeats 16000000 in
set_option maxRecDepth 100000 in
theorem pleast_any {w : World} {ao : Option Addr} {cap : Nat} {l : List Fw} (hr : DebtsIn w ao l) (hfit : DebtsFit l) (hln : l.length ≤ 240) (q : Int) :
    Calls Try.prog 7 #[.slice ao l.length cap, .int .i64 q] w (LeastPost 37 l q w) := by
  have HC := Lib.hid hr
  have HF := Lib.hid hfit
  have CM := Lib.hid (debtsMay_any (cap := cap) hr hfit (by omega))
  clear hr hfit
  by_cases hm : mayN l l.length = true
  case neg =>
    have hm' : mayN l l.length = false := by simpa using hm
    have HN : Hid (¬ (MayD l ∧ 0 ≤ q)) := Lib.hid fun h => hm ((mayD_iff l).2 h.1)
    rw [hm'] at CM
    clear hm hm'
    go_enter Try.func7, Try.ntmps7
    go_wp2_with fail
    refine CM.out.mono ?_
    rintro e w1 ⟨rfl, b1⟩
    have B1 := Lib.hid b1
    clear b1 CM
    go_wp2_with fail
    go_ret3
    exact ⟨B1.out, .inl ⟨HN.out, rfl⟩⟩
  rw [hm] at CM
  have HM := Lib.hid ((mayD_iff l).1 hm)
  clear hm
  by_cases hq : q < 0
  case pos =>
    have hq' : decide (q < 0) = true := by simpa using hq
    have HN : Hid (¬ (MayD l ∧ 0 ≤ q)) := Lib.hid fun h => by omega
    clear hq
    go_enter Try.func7, Try.ntmps7
    go_wp2_with fail
    refine CM.out.mono ?_
    rintro e w1 ⟨rfl, b1⟩
    have B1 := Lib.hid b1
    clear b1 CM
    go_wp2_with fail
    go_ret3
    exact ⟨B1.out, .inl ⟨HN.out, rfl⟩⟩
  have hq' : decide (q < 0) = false := by simpa using hq
  have HQ : Hid (0 ≤ q) := Lib.hid (by omega)
  have CB := Lib.hid (fun w' (hb : Below w.heap.size w w') => begin_any (cap := cap) (HC.out.below hb) (by omega))
  clear hq
  go_enter Try.func7, Try.ntmps7
  go_wp2_with fail
  refine CM.out.mono ?_
  rintro e w1 ⟨rfl, b1⟩
  have B1 := Lib.hid b1
  have CB1 := Lib.hid (CB.out w1 b1)
  clear b1 CM CB
  go_wp2_with fail
  refine CB1.out.mono ?_
  rintro e w2 ⟨c, rfl, hO, hb⟩
  have B2 := Lib.hid (andB B1.out hb)
  have O2 := Lib.hid (owns_base hO B1.out.size)
  obtain ⟨aoc, capc, rfl, _⟩ := owns_open hO
  clear hO hb CB1
  have CR := Lib.hid (cround_any O2.out HF.out (by omega))
  go_wp2_with fail
  refine CR.out.mono ?_
  rintro e w3 ⟨rv, rfl, hrv, hb⟩
  have B3 := Lib.hid (andB B2.out hb)
  have O3 := Lib.hid (owns_below O2.out hb)
  have R3 := Lib.hid (show Rowed w3 w.heap.size 35 1 rv (wayD l (amD l)).length ((wayD l (amD l)).map (.int .u8)) from hrv.base B2.out.size)
  obtain ⟨aor, capr, rfl, _⟩ := hrv.look
  clear hrv hb CR
  have S0 := Lib.hid (am_bd HM.out)
  obtain ⟨S, hS⟩ : ∃ S, sumN (amD l) l.length = S := ⟨_, rfl⟩
  have HS := Lib.hid hS
  clear hS
  go_wp2_with fail
  go_loopw [5, 8] (LstAt w l q (.slice aoc l.length capc)) (fun i _ _ => (S + 1).toNat - (intOf i).toNat)
  case atStart => exact ⟨0, amD l, RdInv.start HM.out, HQ.out, rfl, O3.out, R3.out, B3.out⟩
  case round =>
    clear R3 O3 B3 O2 B2 B1
    obtain ⟨k, L, hI, hkq, rfl, hO, hR, hB⟩ := hrel
    have BB := Lib.hid hB
    have OO := Lib.hid hO
    have RR := Lib.hid hR
    have HI := Lib.hid hI
    have hkS := hI.k_le
    obtain ⟨s0, s9⟩ := S0.out
    rw [HS.out] at hkS s0 s9
    obtain ⟨aow, capw, rfl, _⟩ := hR.look
    have hW16 := roundW_16 (rdE l L l.length) (rdE_co l L l.length)
    have hk0 : (0 : Int) ≤ (k : Int) := by omega
    by_cases hd : wayD l L = []
    · have HD := Lib.hid hd
      have CL := Lib.hid (cleft_any OO.out (by omega))
      rw [hd]
      clear hd hI hO hR hB
      simp only [List.length_nil]
      go_wp2_with fail
      refine CL.out.mono ?_
      rintro e w4 ⟨v, rfl, hv, hb⟩
      have B4 := Lib.hid (andB BB.out hb)
      have V4 := Lib.hid (hv.base BB.out.size)
      obtain ⟨aov, capv, rfl, _⟩ := hv.look
      have HKQ := Lib.hid hkq
      clear hv hb CL
      go_wp2_with fail
      go_ret3
      exact ⟨B4.out, .inr ⟨HM.out, HQ.out, L, k, ⟨HI.out, HD.out⟩, .inl ⟨HKQ.out, _, rfl, V4.out⟩⟩⟩
    · have HD := Lib.hid hd
      have hlp : 0 < (wayD l L).length := List.length_pos_iff.2 hd
      have hlen16 : (wayD l L).length ≤ 16 := hW16
      have hln0 : 0 < l.length := by
        rcases Nat.eq_zero_or_pos l.length with h | h
        · exact absurd (wayD_nil h) hd
        · exact h
      obtain ⟨ao2, cp2, hvv, _, _, _, hx⟩ := owns_open hO
      cases hvv
      obtain ⟨B, rfl, hbb, hBw, _, _⟩ := hx hln0
      obtain ⟨c, hci⟩ := can_of HM.out hI.ok hd
      have CC := Lib.hid (cancel_any OO.out HM.out (by omega) hI.ok hBw hci RR.out)
      have qp : decide ((0 : Int) < ((wayD l L).length : Int)) = true := by simp; omega
      have HBB := Lib.hid hbb
      generalize hwl : (wayD l L).length = m at *
      have hm1 : (0 : Int) < (m : Int) := by omega
      by_cases hkq2 : (k : Int) = q
      · have qe : ((k : Int) == q) = true := by simpa using hkq2
        obtain ⟨M, j, hj, hkj⟩ := quota_out HM.out hI hd
        have HE : Hid (LeastPost 37 l q w (.returned (.tuple #[.slice none 0 0, .int .i64 0, .int .i64 13])) wr) := Lib.hid ⟨BB.out, .inr ⟨HM.out, HQ.out, M, j, hj, .inr ⟨by omega, rfl⟩⟩⟩
        clear hd hI hO hR hB hkq2 hj hkj hci CC hwl hx hlp hlen16 hW16
        go_wp2_with fail
        go_ret3
        exact HE.out
      · have qe : ((k : Int) == q) = false := by simpa using hkq2
        have hstep := hI.step HM.out hd
        have hk1 := hstep.k_le
        rw [HS.out] at hk1
        have HST := Lib.hid hstep
        have hkq3 : ((k + 1 : Nat) : Int) ≤ q := by omega
        have HK3 := Lib.hid hkq3
        have HK1 := Lib.hid hk1
        clear hd hI hO hR hB hkq2 hci hwl hx hlp hlen16 hW16 hstep hkq3 hk1
        unfold MovePost at CC
        go_wp2_with fail
        refine CC.out.mono ?_
        rintro e w4 ⟨rfl, hO4, hk4⟩
        have hb4 : Below w.heap.size w w4 := BB.out.trans (hk4.below BB.out.size (fun x hx e => by have := HBB.out; omega))
        have B4 := Lib.hid hb4
        have O4 := Lib.hid hO4
        have CR := Lib.hid (cround_any O4.out HF.out (by omega))
        clear hO4 hk4 hb4 CC
        go_wp2_with fail
        refine CR.out.mono ?_
        rintro e w5 ⟨rv, rfl, hrv, hb⟩
        have B5 := Lib.hid (andB B4.out hb)
        have O5 := Lib.hid (owns_below O4.out hb)
        have R5 := Lib.hid (show Rowed w5 w.heap.size 35 1 rv (wayD l (nextD l L)).length ((wayD l (nextD l L)).map (.int .u8)) from hrv.base B4.out.size)
        obtain ⟨aor, capr, rfl, _⟩ := hrv.look
        clear hrv hb CR
        go_wp2_with fail
        refine ⟨⟨k + 1, nextD l L, HST.out, HK3.out, by go_num, O5.out, R5.out, B5.out⟩, ?_⟩
        have := HK1.out
        simp [intOf]
        omega

end Go.Proofs.Ytmfacfnbokadmaa
