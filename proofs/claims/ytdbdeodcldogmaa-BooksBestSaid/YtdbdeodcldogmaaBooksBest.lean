/-
  BooksBest: the walk.
-/
import Derived.Test.YtdbdeodcldogmaaBooksBestR
import Derived.Test.YtdbdeodcldogmaaLives04
import Derived.Test.YtdbdeodcldogmaaMade04
namespace Go.Proofs.Ytdbdeodcldogmaa
open Go.RowKit
set_option linter.unusedSimpArgs false
set_option linter.unusedVariables false

theorem findO_self {l : List Of} {N : Int} (h : BInv l N) {x : Of} (hx : x ∈ l) : findO l x.se = some x := by
  obtain ⟨j, hj, rfl⟩ := List.mem_iff_getElem.1 hx
  refine findO_at hj (fun y hy => ?_) (by simp)
  obtain ⟨i, hi, rfl⟩ := List.mem_take_iff_getElem.1 hy
  have := List.pairwise_iff_getElem.1 h.rise i j (by omega) hj (by omega)
  simp; omega
theorem cmpR_of_lt {x y : Of} (hx : x.may) (hy : y.may) (h : ltO y x) : cmpR y.nu y.de x.nu x.de < 0 ∨ (cmpR y.nu y.de x.nu x.de = 0 ∧ y.se < x.se) := by
  rw [cmpR_may hy.2.2.2.2.2 hx.2.2.2.2.2]
  unfold ltO at h
  generalize x.nu * y.de = a at *
  generalize y.nu * x.de = b at *
  unfold cmpI
  rcases h with h | ⟨h, s⟩
  · left; rw [if_pos h]; decide
  · right; rw [if_neg (by omega), if_neg (by omega)]; exact ⟨rfl, s⟩
def BestAt1 (W : World) (l : List Of) (s b : Int) (many i : Value) (wr : World) : Prop :=
  ∃ k : Nat, k ≤ l.length ∧ i = .int .i64 k ∧ many = .int .i64 (keptN l s b k : Nat) ∧ Below W.heap.size W wr
def BestAt2 (W : World) (n : Nat) (i : Value) (wr : World) : Prop :=
  ∃ k : Nat, k ≤ n ∧ i = .int .i64 k ∧ Below W.heap.size W wr
set_option maxHeartbeats 8000000 in
set_option maxRecDepth 100000 in
theorem bbest_walk (a : Option Addr) (len cap : Nat) (xs : List Ab) (s b : Int) (w : World) (h : SlIn Ab.vals 9 Ab.Ok w a len cap xs) (hs : (Lit.int .u8 s).wf = true) (hb : (Lit.int .u8 b).wf = true) :
    Calls Try.prog 6 #[.slice a len cap, .int .u8 s, .int .u8 b] w fun e w' => e = .returned (.bool true) ∧ Below w.heap.size w w' := by
  clear hs hb
  have hcap := h.2.2.2.1
  have hmax := h.2.2.2.2.1
  unfold maxLen at hmax
  by_cases h120 : 120 < len
  · have q0 : decide (120 < (len : Int)) = true := by simp; omega
    have L := Lib.hid (lives04_any w)
    clear h h120
    go_enter Try.func6, Try.ntmps6
    go_wp2_with fail
    refine L.out.mono ?_
    rintro e w1 ⟨rfl, b1⟩
    have B1 := Lib.hid b1
    clear b1 L
    go_wp2_with fail
    go_ret
    exact ⟨rfl, B1.out⟩
  have q0 : decide (120 < (len : Int)) = false := by simp; omega
  have CM := Lib.hid (made4_any h (by omega))
  clear h h120
  go_enter Try.func6, Try.ntmps6
  go_wp2_with fail
  refine CM.out.mono ?_
  rintro e w1 ⟨g, l, N, vl, rfl, hP, hI, _, hB⟩
  have P1 := Lib.hid hP
  have HI := Lib.hid hI
  have B1 := Lib.hid hB
  have hl32 := hI.len
  have CA := Lib.hid (pall_any hP (by omega))
  clear CM hP hI hB
  go_wp2_with fail
  refine CA.out.mono ?_
  rintro e w2 ⟨va, rfl, ra, b2⟩
  have P2 := Lib.hid (P1.out.below b2)
  have B2 := Lib.hid (B1.out.trans (b2.mono B1.out.size))
  obtain ⟨aa, ca, hva, hca, hra⟩ := rowed_open ra
  subst hva
  have RA := Lib.hid hra
  have CB := Lib.hid (pbest_any P2.out HI.out s b)
  have HS2 := Lib.hid b2.size
  clear CA ra b2 P1 B1 hra
  go_wp2_with fail
  refine CB.out.mono ?_
  rintro e w3 ⟨vb, rfl, rb, b3⟩
  have P3 := Lib.hid (P2.out.below b3)
  have B3 := Lib.hid (B2.out.trans (b3.mono B2.out.size))
  have RA3 : Hid (0 < l.length → ∃ b, aa = some ⟨b, 0, none⟩ ∧ b < w3.heap.size ∧ ∀ j, j < l.length * 7 → w3.cell? ⟨b, j, none⟩ = (ofCells l)[j]?) := Lib.hid (fun hp => by
    obtain ⟨bb, e1, _, e3, e4⟩ := RA.out hp
    exact ⟨bb, e1, Nat.lt_of_lt_of_le e3 b3.size, fun j hj => by rw [b3.cell (p := ⟨bb, j, none⟩) e3]; exact e4 j hj⟩)
  obtain ⟨ab, cb, hvb, hcb, hrb⟩ := rowed_open rb
  subst hvb
  have RB3 : Hid (0 < (bestO l s b).length → ∃ bk, ab = some ⟨bk, 0, none⟩ ∧ bk < w3.heap.size ∧ ∀ j, j < (bestO l s b).length * 7 → w3.cell? ⟨bk, j, none⟩ = (ofCells (bestO l s b))[j]?) := Lib.hid (fun hp => by
    obtain ⟨bb, e1, _, e3, e4⟩ := hrb hp
    exact ⟨bb, e1, e3, e4⟩)
  obtain ⟨bp, bso⟩ := bestO_is HI.out.may HI.out.rise s b
  have BP := Lib.hid bp
  have BS := Lib.hid bso
  have hml : (bestO l s b).length ≤ 1000 := by rw [bp.length_eq]; exact Nat.le_trans (List.length_filter_le _ _) (by omega)
  have MK := Lib.hid (show (bestO l s b).length = keptN l s b l.length by rw [bp.length_eq]; unfold keptN; rw [List.take_of_length_le (Nat.le_refl _)])
  generalize hmo : bestO l s b = m at *
  have hmax2 : ca ≤ 9223372036854775807 ∨ True := .inr trivial
  clear CB rb b3 P2 B2 hrb RA bp bso hmo hmax2 HS2
  go_wp2_with fail
  go_loopw [10, 11] (BestAt1 w3 l s b) (fun _ i _ => l.length - (intOf i).toNat)
  case atStart => exact ⟨0, Nat.zero_le _, rfl, rfl, Below.refl _ _⟩
  case round =>
    obtain ⟨k, hk, rfl, rfl, hb⟩ := hrel
    by_cases hkl : k < l.length
    · obtain ⟨ba, haa, hbl, hcell⟩ := RA3.out (by omega)
      subst haa
      have hcr : ∀ j, j < l.length * 7 → wr.cell? ⟨ba, j, none⟩ = (ofCells l)[j]? := fun j hj => by rw [hb.cell (p := ⟨ba, j, none⟩) hbl]; exact hcell j hj
      obtain ⟨e0, e1, e2, e3, e4, e5, e6⟩ := of_cells hcr hkl
      have hbr : ba < wr.heap.size := Nat.lt_of_lt_of_le hbl hb.size
      have hgd := HI.out.may _ (List.getElem_mem hkl)
      have hbd := HI.out.bd _ (List.getElem_mem hkl)
      have hn2 := HI.out.n2
      have hfit := HI.out.fits (List.getElem_mem hkl)
      have KS := Lib.hid (keptN_succ l s b hkl)
      have hkn := keptN_le l s b k
      have PV := Lib.hid (fun hk0 : 0 < k => And.intro (of_cells hcr (k := k - 1) (by omega)).1 (List.pairwise_iff_getElem.1 HI.out.rise (k - 1) k (by omega) hkl (by omega)))
      have bw := (Below.refl wr.heap.size wr).alloc (Nat.le_refl _) (.cells #[.int .u64 l[k].se, .int .u8 l[k].ow, .int .u8 l[k].sl, .int .u8 l[k].bu, .int .i64 l[k].lf, .int .i64 l[k].nu, .int .i64 l[k].de] 39)
      have P4 := Lib.hid ((P3.out.below hb).below bw)
      have HB := Lib.hid (hb.trans (bw.mono hb.size))
      have KX := Lib.hid (Blk.new wr #[.int .u64 l[k].se, .int .u8 l[k].ow, .int .u8 l[k].sl, .int .u8 l[k].bu, .int .i64 l[k].lf, .int .i64 l[k].nu, .int .i64 l[k].de] 39)
      have HBW := Lib.hid bw
      have HPs : Hid (0 < k → ∃ y : Of, wr.cell? ⟨ba, (k - 1) * 7, none⟩ = some (.int .u64 y.se) ∧ y.se < l[k].se) := Lib.hid (fun h => ⟨l[k - 1], (PV.out h).1, (PV.out h).2⟩)
      clear hcell hcr hb bw PV
      generalize l[k] = x at *
      generalize keptN l s b k = kn at *
      obtain ⟨_, _, _, hne, ⟨hlf, _⟩, hmay⟩ := hgd
      have c2 : decide (N ≤ x.se) = false := by simp; omega
      have c3 : decide (x.lf < 1) = false := by simp; omega
      have c4 : (x.sl == x.bu) = false := by simpa using hne
      have HNX : Hid (∀ w', Below (wr.alloc (.cells #[.int .u64 x.se, .int .u8 x.ow, .int .u8 x.sl, .int .u8 x.bu, .int .i64 x.lf, .int .i64 x.nu, .int .i64 x.de] 39)).heap.size (wr.alloc (.cells #[.int .u64 x.se, .int .u8 x.ow, .int .u8 x.sl, .int .u8 x.bu, .int .i64 x.lf, .int .i64 x.nu, .int .i64 x.de] 39)) w' → Calls Try.prog 33 #[.pointer (some ⟨g, 0, none⟩)] w' fun e w'' => e = .returned (.int .u64 N) ∧ Below w'.heap.size w' w'') :=
        Lib.hid (fun w' k => (pnext_any (P4.out.below k).blk).mono fun e w'' ⟨h1, h2⟩ => ⟨h1, by rw [← h2]; exact Below.refl _ _⟩)
      have HMX : Hid (∀ w', Calls Try.prog 35 #[.agg #[.int .i64 x.nu, .int .i64 x.de]] w' fun e w'' => e = .returned (.bool true) ∧ Below w'.heap.size w' w'') := Lib.hid (fun w' => by have := may_any x.nu x.de w' hfit.nu hfit.de; rwa [hmay] at this)
      clear hne hlf hmay hbd hfit hn2
      have HX : Hid (∀ (c : Bool), c = ofPair s b x → True) := Lib.hid (fun _ _ => trivial)
      clear HX
      by_cases hk0 : 0 < k
      · obtain ⟨y, hy0, hys⟩ := HPs.out hk0
        have c0 : decide (0 < (k : Int)) = true := by simp; omega
        have c1 : decide (x.se ≤ y.se) = false := by simp; omega
        have Y0 : Hid ((wr.alloc (.cells #[.int .u64 x.se, .int .u8 x.ow, .int .u8 x.sl, .int .u8 x.bu, .int .i64 x.lf, .int .i64 x.nu, .int .i64 x.de] 39)).cell? ⟨ba, ((k : Int).toNat - 1) * 7, none⟩ = some (.int .u64 y.se)) := Lib.hid (by rw [HBW.out.cell (p := ⟨ba, ((k : Int).toNat - 1) * 7, none⟩) hbr]; simpa using hy0)
        have HBb : Hid (ba < (wr.alloc (.cells #[.int .u64 x.se, .int .u8 x.ow, .int .u8 x.sl, .int .u8 x.bu, .int .i64 x.lf, .int .i64 x.nu, .int .i64 x.de] 39)).heap.size) := Lib.hid (by simp; omega)
        clear hy0 hys HPs
        go_wp2_with fail
        refine bbest_11b (i := (k : Int)) (x := x) (y := y) (by omega) (by omega) (by omega) c0 HBb Y0 KX HNX HMX c1 c2 c3 c4 ?_
        intro w6 b6
        have HB6 := Lib.hid (HB.out.trans (b6.mono HB.out.size))
        have K6 := KX.out.below b6 KX.out.lt
        have d2 := K6.cell 2; have d3 := K6.cell 3
        have dl := K6.lt
        simp at d2 d3
        clear b6 K6 c0 c1 c2 c3 c4 e0 e1 e2 e3 e4 e5 e6
        by_cases q1 : x.sl = s
        · by_cases q2 : x.bu = b
          · have p1 : (x.sl == s) = true := by simpa using q1
            have p2 : (x.bu == b) = true := by simpa using q2
            have hpk : ofPair s b x = true := by unfold ofPair; simpa using And.intro q1 q2
            rw [hpk, if_pos rfl] at KS
            clear q1 q2 hpk
            go_wp2_with fail
            go_roundw
            case rel => exact ⟨k + 1, by omega, by go_num, by rw [KS.out]; go_num, HB6.out⟩
            case measure => simp [intOf]; omega
          · have p1 : (x.sl == s) = true := by simpa using q1
            have p2 : (x.bu == b) = false := by simpa using q2
            have hpk : ofPair s b x = false := by unfold ofPair; simp; intro _ h; exact q2 h
            rw [hpk, if_neg (by decide)] at KS
            clear q1 q2 hpk
            go_wp2_with fail
            go_roundw
            case rel => exact ⟨k + 1, by omega, by go_num, by rw [KS.out]; rfl, HB6.out⟩
            case measure => simp [intOf]; omega
        · have p1 : (x.sl == s) = false := by simpa using q1
          have hpk : ofPair s b x = false := by unfold ofPair; simp; intro h; exact absurd h q1
          rw [hpk, if_neg (by decide)] at KS
          clear q1 hpk
          go_wp2_with fail
          go_roundw
          case rel => exact ⟨k + 1, by omega, by go_num, by rw [KS.out]; rfl, HB6.out⟩
          case measure => simp [intOf]; omega
      · have c0 : decide (0 < (k : Int)) = false := by simp; omega
        clear HPs
        go_wp2_with fail
        refine bbest_11a (i := (k : Int)) (x := x) c0 KX HNX HMX c2 c3 c4 ?_
        intro w6 b6
        have HB6 := Lib.hid (HB.out.trans (b6.mono HB.out.size))
        have K6 := KX.out.below b6 KX.out.lt
        have d2 := K6.cell 2; have d3 := K6.cell 3
        have dl := K6.lt
        simp at d2 d3
        clear b6 K6 c0 c2 c3 c4 e0 e1 e2 e3 e4 e5 e6
        by_cases q1 : x.sl = s
        · by_cases q2 : x.bu = b
          · have p1 : (x.sl == s) = true := by simpa using q1
            have p2 : (x.bu == b) = true := by simpa using q2
            have hpk : ofPair s b x = true := by unfold ofPair; simpa using And.intro q1 q2
            rw [hpk, if_pos rfl] at KS
            clear q1 q2 hpk
            go_wp2_with fail
            go_roundw
            case rel => exact ⟨k + 1, by omega, by go_num, by rw [KS.out]; go_num, HB6.out⟩
            case measure => simp [intOf]; omega
          · have p1 : (x.sl == s) = true := by simpa using q1
            have p2 : (x.bu == b) = false := by simpa using q2
            have hpk : ofPair s b x = false := by unfold ofPair; simp; intro _ h; exact q2 h
            rw [hpk, if_neg (by decide)] at KS
            clear q1 q2 hpk
            go_wp2_with fail
            go_roundw
            case rel => exact ⟨k + 1, by omega, by go_num, by rw [KS.out]; rfl, HB6.out⟩
            case measure => simp [intOf]; omega
        · have p1 : (x.sl == s) = false := by simpa using q1
          have hpk : ofPair s b x = false := by unfold ofPair; simp; intro h; exact absurd h q1
          rw [hpk, if_neg (by decide)] at KS
          clear q1 hpk
          go_wp2_with fail
          go_roundw
          case rel => exact ⟨k + 1, by omega, by go_num, by rw [KS.out]; rfl, HB6.out⟩
          case measure => simp [intOf]; omega
    · have hke : k = l.length := by omega
      subst hke
      rw [← MK.out]
      have q1 : decide (32 < (l.length : Int)) = false := by simp; omega
      have q2 : ((m.length : Int) != (m.length : Int)) = false := by simp
      have q3 : ((m.length : Int) == (m.length : Int)) = true := by simp
      have HW := Lib.hid hb
      clear hb
      go_wp2_with fail
      go_loopw [13] (BestAt2 w3 m.length) (fun i _ => m.length - (intOf i).toNat)
      case atStart => exact ⟨0, Nat.zero_le _, rfl, HW.out⟩
      case round =>
        obtain ⟨j, hj, rfl, hb2⟩ := hrel
        by_cases hjl : j < m.length
        · obtain ⟨bk, hab, hbl, hcell⟩ := RB3.out (by omega)
          subst hab
          have hcr : ∀ q, q < m.length * 7 → wr.cell? ⟨bk, q, none⟩ = (ofCells m)[q]? := fun q hq => by rw [hb2.cell (p := ⟨bk, q, none⟩) hbl]; exact hcell q hq
          obtain ⟨e0, e1, e2, e3, e4, e5, e6⟩ := of_cells hcr hjl
          have hbr : bk < wr.heap.size := Nat.lt_of_lt_of_le hbl hb2.size
          obtain ⟨hxl, hxp⟩ := List.mem_filter.1 (BP.out.mem_iff.1 (List.getElem_mem hjl))
          have CF := Lib.hid (pfind_any (P3.out.below hb2) HI.out.n1 m[j].se)
          rw [findO_self HI.out hxl] at CF
          dsimp only [foundV, Of.val] at CF
          have hmay := HI.out.may _ hxl
          have hfit := HI.out.fits hxl
          have HPV : Hid (0 < j → ∃ y : Of, (wr.cell? ⟨bk, (j - 1) * 7, none⟩ = some (.int .u64 y.se) ∧ wr.cell? ⟨bk, (j - 1) * 7 + 5, none⟩ = some (.int .i64 y.nu) ∧ wr.cell? ⟨bk, (j - 1) * 7 + 6, none⟩ = some (.int .i64 y.de)) ∧ y.Fits ∧ (cmpR y.nu y.de m[j].nu m[j].de < 0 ∨ (cmpR y.nu y.de m[j].nu m[j].de = 0 ∧ y.se < m[j].se))) := Lib.hid (fun h => by
            obtain ⟨f0, _, _, _, _, f5, f6⟩ := of_cells hcr (k := j - 1) (by omega)
            have hyl := (List.mem_filter.1 (BP.out.mem_iff.1 (List.getElem_mem (show j - 1 < m.length by omega)))).1
            exact ⟨m[j - 1], ⟨f0, f5, f6⟩, HI.out.fits hyl, cmpR_of_lt hmay (HI.out.may _ hyl) (List.pairwise_iff_getElem.1 BS.out (j - 1) j (by omega) hjl (by omega))⟩)
          unfold ofPair at hxp
          rw [decide_eq_true_eq] at hxp
          have HB2 := Lib.hid hb2
          have HF := Lib.hid hfit
          clear hcell hcr hb2 hmay hxl hfit
          generalize m[j] = x at *
          have c1 : (x.sl == s) = true := by simpa using hxp.1
          have c2 : (x.sl != s) = false := by simpa using hxp.1
          have c3 : (x.bu == b) = true := by simpa using hxp.2
          have c4 : (x.bu != b) = false := by simpa using hxp.2
          clear hxp
          go_wp2_with fail
          refine CF.out.mono ?_
          rintro e w4 ⟨rfl, b4⟩
          have bz := b4.alloc b4.size (.cells #[.int .u64 x.se, .int .u8 x.ow, .int .u8 x.sl, .int .u8 x.bu, .int .i64 x.lf, .int .i64 x.nu, .int .i64 x.de] 39)
          have KX := Lib.hid (Blk.new w4 #[.int .u64 x.se, .int .u8 x.ow, .int .u8 x.sl, .int .u8 x.bu, .int .i64 x.lf, .int .i64 x.nu, .int .i64 x.de] 39)
          have BZ := Lib.hid bz
          have HBb : Hid (bk < (w4.alloc (.cells #[.int .u64 x.se, .int .u8 x.ow, .int .u8 x.sl, .int .u8 x.bu, .int .i64 x.lf, .int .i64 x.nu, .int .i64 x.de] 39)).heap.size) := Lib.hid (Nat.lt_of_lt_of_le hbr bz.size)
          have Y0 := Lib.hid ((bz.cell (p := ⟨bk, (j : Int).toNat * 7, none⟩) hbr).trans e0)
          have Y1 := Lib.hid ((bz.cell (p := ⟨bk, (j : Int).toNat * 7 + 1, none⟩) hbr).trans e1)
          have Y2 := Lib.hid ((bz.cell (p := ⟨bk, (j : Int).toNat * 7 + 2, none⟩) hbr).trans e2)
          have Y3 := Lib.hid ((bz.cell (p := ⟨bk, (j : Int).toNat * 7 + 3, none⟩) hbr).trans e3)
          have Y4 := Lib.hid ((bz.cell (p := ⟨bk, (j : Int).toNat * 7 + 4, none⟩) hbr).trans e4)
          have Y5 := Lib.hid ((bz.cell (p := ⟨bk, (j : Int).toNat * 7 + 5, none⟩) hbr).trans e5)
          have Y6 := Lib.hid ((bz.cell (p := ⟨bk, (j : Int).toNat * 7 + 6, none⟩) hbr).trans e6)
          clear b4 bz CF e0 e1 e2 e3 e4 e5 e6
          go_wp2_with fail
          refine bbest_21 (i := (j : Int)) (x := x) (by omega) (by omega) (by omega) HBb Y0 Y1 Y2 Y3 Y4 Y5 Y6 KX c1 c2 c3 c4 ?_
          intro w6 b6
          have B6 := Lib.hid (BZ.out.trans (b6.mono BZ.out.size))
          have KX6 := Lib.hid (KX.out.below b6 KX.out.lt)
          have HBb6 := Lib.hid (Nat.lt_of_lt_of_le HBb.out b6.size)
          clear b6 Y0 Y1 Y2 Y3 Y4 Y5 Y6 c1 c2 c3 c4 KX HBb
          by_cases hj0 : 0 < j
          · obtain ⟨y, ⟨f0, f5, f6⟩, hyf, hyc⟩ := HPV.out hj0
            have c0 : decide (0 < (j : Int)) = true := by simp; omega
            have Z0 := Lib.hid (show w6.cell? ⟨bk, ((j : Int).toNat - 1) * 7, none⟩ = some (.int .u64 y.se) by rw [B6.out.cell (p := ⟨bk, ((j : Int).toNat - 1) * 7, none⟩) hbr]; simpa using f0)
            have Z5 := Lib.hid (show w6.cell? ⟨bk, ((j : Int).toNat - 1) * 7 + 5, none⟩ = some (.int .i64 y.nu) by rw [B6.out.cell (p := ⟨bk, ((j : Int).toNat - 1) * 7 + 5, none⟩) hbr]; simpa using f5)
            have Z6 := Lib.hid (show w6.cell? ⟨bk, ((j : Int).toNat - 1) * 7 + 6, none⟩ = some (.int .i64 y.de) by rw [B6.out.cell (p := ⟨bk, ((j : Int).toNat - 1) * 7 + 6, none⟩) hbr]; simpa using f6)
            have HC := Lib.hid (fun w' => compare_any y.nu y.de x.nu x.de w' hyf.nu hyf.de HF.out.nu HF.out.de)
            clear f0 f5 f6 hyf HPV
            generalize cmpR y.nu y.de x.nu x.de = c at *
            go_wp2_with fail
            refine bbest_24 (i := (j : Int)) (x := x) (y := y) (c := c) (by omega) (by omega) (by omega) HBb6 Z5 Z6 KX6 HC ?_
            intro w7 b7
            have B7 := Lib.hid (B6.out.trans (b7.mono B6.out.size))
            have KX7 := Lib.hid (KX6.out.below b7 KX6.out.lt)
            have HBb7 := Lib.hid (Nat.lt_of_lt_of_le HBb6.out b7.size)
            have Z7 := Lib.hid ((b7.cell (p := ⟨bk, ((j : Int).toNat - 1) * 7, none⟩) HBb6.out).trans Z0.out)
            clear b7 Z0 Z5 Z6 KX6 HBb6 B6
            rcases hyc with hc | ⟨hc, hse⟩
            · have p1 : decide (0 < c) = false := by simp; omega
              have p2 : (c == 0) = false := by simp; omega
              clear hc
              go_wp2_with fail
              refine bbest_25n p1 p2 ?_
              intro w8 b8
              have B8 := Lib.hid (HB2.out.trans ((B7.out.trans (b8.mono B7.out.size)).mono HB2.out.size))
              clear b8 p1 p2
              go_wp2_with fail
              go_roundw
              case rel => exact ⟨j + 1, by omega, by go_num, B8.out⟩
              case measure => simp [intOf]; omega
            · subst hc
              have p3 : decide (x.se ≤ y.se) = false := by simp; omega
              clear hse
              go_wp2_with fail
              refine bbest_25z (i := (j : Int)) (x := x) (y := y) (c := 0) rfl rfl (by omega) (by omega) (by omega) HBb7 Z7 KX7 p3 ?_
              intro w8 b8
              have B8 := Lib.hid (HB2.out.trans ((B7.out.trans (b8.mono B7.out.size)).mono HB2.out.size))
              clear b8 p3
              go_wp2_with fail
              go_roundw
              case rel => exact ⟨j + 1, by omega, by go_num, B8.out⟩
              case measure => simp [intOf]; omega
          · have c0 : decide (0 < (j : Int)) = false := by simp; omega
            have B8 := Lib.hid (HB2.out.trans (B6.out.mono HB2.out.size))
            clear HPV
            go_wp2_with fail
            go_roundw
            case rel => exact ⟨j + 1, by omega, by go_num, B8.out⟩
            case measure => simp [intOf]; omega
        · have L := Lib.hid (lives04_any wr)
          have HB2 := Lib.hid hb2
          clear hb2
          go_wp2_with fail
          refine L.out.mono ?_
          rintro e w4 ⟨rfl, b4⟩
          have B4 := Lib.hid (B3.out.trans ((HB2.out.trans (b4.mono HB2.out.size)).mono B3.out.size))
          clear b4 L
          go_wp2_with fail
          go_ret
          exact ⟨rfl, B4.out⟩

end Go.Proofs.Ytdbdeodcldogmaa
