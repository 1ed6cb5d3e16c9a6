/-
  FlowsCut: the walk, for every edges, ask and parties, over what the program's Route and Most tell (written by gen_fcut.py).
-/
import Derived.Test.YtgebplplpenabaaCutR
import Derived.StillTailTactics
namespace Go.Proofs.Ytgebplplpenabaa
open Go.RowKit
set_option linter.unusedSimpArgs false
set_option linter.unusedVariables false

def CutAt (w0 : World) (base g : Nat) (f : Int → Int → Int) (out : List Fw) (va : Value) (X : Nat) (sx tx wx : Int) (i : Value) (wr : World) : Prop :=
  ∃ k : Nat, k ≤ out.length ∧ i = .int .i64 k ∧ Blk wr g (graC (foldF f (out.take k)) true) 60 ∧ Blk wr X #[.int .u8 sx, .int .u8 tx, .int .i64 wx] 25 ∧ RowA wr base 52 3 va out.length (fwCells out) ∧ Below w0.heap.size w0 wr
set_option maxHeartbeats 32000000 in
set_option maxRecDepth 100000 in
theorem fcut_walk (HR : RouteProg) (HM : MostProg) (HL : Lives07) (a : Option Addr) (len cap : Nat) (zs : List Fw) (ax : Fw) (z : Int) (w : World) (h0 : SlIn Fw.vals 3 Fw.Fits w a len cap zs) (hx : ax.Fits) (hzw : (Lit.int .u32 z).wf = true) :
    Calls Try.prog 5 #[.slice a len cap, .agg #[.int .u8 ax.fr, .int .u8 ax.tt, .int .i64 ax.am], .int .u32 z] w fun e w' => e = .returned (.bool true) ∧ Below w.heap.size w w' := by
  obtain ⟨sx, tx, wx⟩ := ax
  obtain ⟨hx1, hx2, hx3⟩ := hx
  dsimp only at hx1 hx2 hx3 ⊢
  have HZ := Lib.hid h0
  have HS8 := Lib.hid hx1
  have HT8 := Lib.hid hx2
  have HW64 := Lib.hid hx3
  have HZB := Lib.hid (U32.of_wf hzw)
  have hcap := h0.2.2.2.1
  have hmax := h0.2.2.2.2.1
  have hzl := h0.2.1
  unfold maxLen at hmax
  clear h0 hx1 hx2 hx3 hzw
  subst hzl
  have HRo := Lib.hid HR
  have HMo := Lib.hid HM
  have HLi := Lib.hid HL
  clear HR HM HL
  have B0 := Lib.hid ((Below.refl w.heap.size w).alloc (Nat.le_refl _) (.cells #[.int .u8 sx, .int .u8 tx, .int .i64 wx] 25))
  have KX0 := Lib.hid (Blk.new w #[.int .u8 sx, .int .u8 tx, .int .i64 wx] 25)
  by_cases hle : ¬ zs.length ≤ 300
  · go_enter Try.func5, Try.ntmps5
    go_wp2_with fail
    refine (HLi.out _).mono ?_
    rintro e w1 ⟨rfl, b1⟩
    have B1 := Lib.hid (B0.out.trans (b1.mono B0.out.size))
    clear b1
    go_wp2_with fail
    go_ret
    exact ⟨rfl, B1.out⟩
  have hle := Decidable.not_not.1 hle
  have l1 : decide ((300 : Int) < (zs.length : Int)) = false := by simp; omega
  by_cases hgood : inP sx ∧ inP tx ∧ sx ≠ tx
  · obtain ⟨⟨s1, s2⟩, ⟨t1, t2⟩, hst⟩ := hgood
    have c3 : (sx == tx) = false := by simpa using hst
    have q1 : decide (sx < 1) = false := by simp; omega
    have q2 : decide (16 < sx) = false := by simp; omega
    have q3 : decide (tx < 1) = false := by simp; omega
    have q4 : decide (16 < tx) = false := by simp; omega
    have HST := Lib.hid hst
    clear hst
    have CN := Lib.hid (gnew_any ((HZ.out.below B0.out).flows (by omega)) (by omega))
    go_enter Try.func5, Try.ntmps5
    go_wp2_with fail
    refine CN.out.mono ?_
    rintro e w2 ⟨b2, hg⟩
    have B2 := Lib.hid (B0.out.trans (b2.mono B0.out.size))
    have KX2 := Lib.hid (KX0.out.below b2 KX0.out.lt)
    have HG := Lib.hid hg
    obtain ⟨X, hX⟩ : ∃ X, X = w.heap.size := ⟨_, rfl⟩
    rw [← hX] at KX2 ⊢
    have HXX := Lib.hid hX
    clear b2 hg CN HZ KX0 B0 hX
    by_cases hok : okG zs
    · obtain ⟨_, g, rfl, hgge, hgb⟩ := HG.out.resolve_right (fun h => h.1 hok)
      have KG2 := Lib.hid hgb
      have I0 := Lib.hid (newF_inv hok.1)
      have hgl := hgb.lt
      clear hgb HG
      generalize newF zs = f at *
      obtain ⟨μ, hμ⟩ := route_ends I0.out sx tx mostW
      obtain ⟨σ, hσ⟩ := route_ends I0.out sx tx wx
      have HMu := Lib.hid hμ
      have HSi := Lib.hid hσ
      have hlen := hσ.len
      obtain ⟨Z, zb, hZ, zs1, zt1⟩ := bits_ask HZB.out.1 HZB.out.2 (s := sx) (t := tx) ⟨s1, s2⟩ ⟨t1, t2⟩ HST.out
      have pws := pow_w (q := sx) (by omega) (by omega)
      have pwt := pow_w (q := tx) (by omega) (by omega)
      have hMb := most_bd hμ I0.out HST.out
      have hMc := hμ.le_cut zs1 zt1
      obtain ⟨nm, hnm⟩ : ∃ nm, mostW - μ.left = nm := ⟨_, rfl⟩
      obtain ⟨nr, hnr⟩ : ∃ nr, wx - σ.left = nr := ⟨_, rfl⟩
      rw [hnm] at hMb hMc
      obtain ⟨m0, m9⟩ := hMb
      have NM := Lib.hid hnm
      have NR := Lib.hid hnr
      have hZ32 := Lib.hid hZ
      have hn0 := hσ.n0
      rw [hnr] at hn0
      clear hμ hσ hnm hnr
      have CM := Lib.hid (HMo.out.at_ (IsM.of KG2.out) I0.out HS8.out HT8.out HMu.out)
      rw [NM.out] at CM
      have kx := KX2.out
      have hxl := kx.lt
      have e0 := kx.cell 0
      have e1 := kx.cell 1
      have e2 := kx.cell 2
      simp at e0 e1 e2
      clear kx
      go_wp2_with fail
      refine CM.out.mono ?_
      rintro e w3 ⟨rfl, b3⟩
      have KG3 := Lib.hid (KG2.out.below b3 KG2.out.lt)
      have KX3 := Lib.hid (KX2.out.below b3 KX2.out.lt)
      have B3 := Lib.hid (B2.out.trans (b3.mono B2.out.size))
      have CC := Lib.hid (cut_any (most := nm - 1) (IsG.of KG3.out) I0.out hZ)
      rw [decide_eq_false (by omega)] at CC
      clear e0 e1 e2 hxl b3 CM KG2 KX2 B2 hMc
      have p1 : decide (nm < 0) = false := by simp; omega
      have wr1 : IntKind.i64.wrap (nm - 1) = nm - 1 := by unfold IntKind.wrap; simp [IntKind.bits, IntKind.signed]; omega
      obtain ⟨L, EL⟩ : ∃ L, Hid (σ.out = L) := ⟨_, Lib.hid rfl⟩
      have CA := Lib.hid (HRo.out.at_ (IsM.of KG3.out) I0.out HS8.out HT8.out HW64.out HSi.out)
      rw [NR.out, EL.out] at CA
      rw [EL.out] at hlen
      have kx := KX3.out
      have hxl := kx.lt
      have e0 := kx.cell 0
      have e1 := kx.cell 1
      have e2 := kx.cell 2
      simp at e0 e1 e2
      clear kx
      obtain ⟨ν, hν⟩ := route_ends HSi.out.g sx tx mostW
      have HNu := Lib.hid hν
      have MR := most_rest HSi.out HMu.out hν I0.out ⟨s1, s2⟩ ⟨t1, t2⟩ HST.out
      rw [NM.out, NR.out] at MR
      have MR := Lib.hid MR
      have hnu := most_bd hν HSi.out.g HST.out
      rw [MR.out] at hnu
      obtain ⟨n0, n9⟩ := hnu
      have wr2 : IntKind.i64.wrap (nm - nr) = nm - nr := by unfold IntKind.wrap; simp [IntKind.bits, IntKind.signed]; omega
      obtain ⟨FO, GL⟩ : Hid (foldF f L = σ.f) ∧ Hid (goodL f L) := by
        obtain ⟨kk, hR, _⟩ := HSi.out
        rw [← EL.out]
        exact ⟨Lib.hid hR.fold, Lib.hid hR.good⟩
      have hXg : X ≠ g := by have := hgge; simp at this; have := HXX.out; omega
      have hwg : w.heap.size ≤ g := by have := hgge; simp at this; omega
      have hw3 := B3.out.size
      clear hν hgl hgge
      by_cases hp : 0 < nm
      all_goals
        first
        | (have p2 : decide (0 < nm) = true := decide_eq_true hp
           go_wp2_with fail
           refine CC.out.mono ?_
           rintro e wq ⟨rfl, rfl⟩)
        | have p2 : decide (0 < nm) = false := decide_eq_false hp
        clear CC
        go_wp2_with fail
        refine CA.out.mono ?_
        rintro e w4 ⟨va, rfl, hrow, b4⟩
        obtain ⟨ao, ca, rfl, hca, hcm, _⟩ := hrow.look (by decide)
        have OA4 := Lib.hid (hrow.rebase hw3)
        have KG4 := Lib.hid (KG3.out.below b4 KG3.out.lt)
        have KX4 := Lib.hid (KX3.out.below b4 KX3.out.lt)
        have B4 := Lib.hid (B3.out.trans (b4.mono B3.out.size))
        have hw34 := b4.size
        clear hrow b4 CA KG3 KX3 B3 e0 e1 e2 hxl
        unfold maxLen at hcm
        go_wp2_with fail
        go_loopw [12] (CutAt w w.heap.size g f L (.slice ao L.length ca) X sx tx wx) (fun i _ => L.length - (intOf i).toNat)
        case atStart => exact ⟨0, Nat.zero_le _, rfl, KG4.out, KX4.out, OA4.out, B4.out⟩
        case round =>
          clear KG4 KX4 OA4 B4
          obtain ⟨k, hk, rfl, hG, hX, hO, hB⟩ := hrel
          have KG := Lib.hid hG
          have KX := Lib.hid hX
          have OA := Lib.hid hO
          have BB := Lib.hid hB
          clear hG hX hO hB
          have kx := KX.out
          have hxl := kx.lt
          by_cases hkl : k < L.length
          · have hki : (k : Int) < (L.length : Int) := by omega
            have hk0 : (0 : Int) ≤ (k : Int) := by omega
            obtain ⟨ao1, ca1, hv, _, _, _, hlk⟩ := OA.out.look (by decide)
            simp only [Value.slice.injEq] at hv
            obtain ⟨h1, _, h2⟩ := hv
            subst h1
            subst h2
            obtain ⟨bl, rfl, hblb, hbl, hc, _⟩ := hlk (by omega)
            clear hlk
            have G1 := goodL_at L f I0.out GL.out k hkl
            have E0 := Lib.hid ((hc (k * 3 + 0) (by omega)).trans (fwCells_get L k 0 (by omega) hkl))
            have E1 := Lib.hid ((hc (k * 3 + 1) (by omega)).trans (fwCells_get L k 1 (by omega) hkl))
            have E2 := Lib.hid ((hc (k * 3 + 2) (by omega)).trans (fwCells_get L k 2 (by omega) hkl))
            clear hc
            rw [Nat.add_zero] at E0
            obtain ⟨x, hx⟩ : ∃ x, L[k] = x := ⟨_, rfl⟩
            rw [hx] at G1 E0 E1 E2
            clear hx
            obtain ⟨fr, tt, am⟩ := x
            dsimp only at G1
            obtain ⟨g1, g2, g3, g4⟩ := G1
            have GI := Lib.hid g4
            have EE : Hid (gPushE (foldF f (L.take k)) fr tt am = 0) := Lib.hid (by unfold gPushE; rw [if_neg (by omega), if_neg (by omega)])
            have EF : Hid (gPushF (foldF f (L.take k)) fr tt am = foldF f (L.take (k + 1))) := Lib.hid (by unfold gPushF; rw [if_pos ⟨g1, g2⟩, g3])
            have HN : Hid (In64 am) := Lib.hid (by have := g4.le fr tt; constructor <;> omega)
            clear g2 g3 g4
            generalize foldF f (L.take k) = f1 at *
            go_wp2_with fail
            refine region_end (by kernel_rfl) 16 16 [(.pointer (some ⟨g, 0, none⟩)), (.slice (some ⟨bl, 0, none⟩) L.length ca), (.int .i64 k), (.pointer (some ⟨bl, k * 3, none⟩)), (.pointer (some ⟨bl, k * 3, none⟩)), (.int .u8 fr), (.slice (some ⟨bl, 0, none⟩) L.length ca), (.int .i64 k), (.pointer (some ⟨bl, k * 3, none⟩)), (.pointer (some ⟨bl, k * 3 + 1, none⟩)), (.int .u8 tt), (.slice (some ⟨bl, 0, none⟩) L.length ca), (.int .i64 k), (.pointer (some ⟨bl, k * 3, none⟩)), (.pointer (some ⟨bl, k * 3 + 2, none⟩)), (.int .i64 am), (.int .i64 0)]
              (fun w' => Below wr.heap.size wr w') (by kernel_rfl) rfl (by kernel_rfl) (Below.refl _ _).drew ?_
            intro af haf
            simp only [List.toList_toArray, List.append_eq, List.cons_append, List.nil_append, puts, Act.put, List.getD_cons_zero, List.getD_cons_succ, List.setIfInBounds_toArray, List.set_cons_succ, List.set_cons_zero] at haf
            subst haf
            refine ⟨?_, ?_⟩
            · simp only [List.toList_toArray, List.take_succ_cons, List.take_zero, EachTo]
              refine ⟨?_, ?_, ?_, ?_, ?_, ?_, ?_, ?_, ?_, ?_, ?_, ?_, ?_, ?_, ?_, ?_, trivial⟩
              · intro w' hS
                refine OpTo.plain ?_ ?_
                exact rfl
                have HS := Lib.hid hS
                clear hS
                go_wp2_with fail
                all_goals first | exact HS.out | exact ⟨rfl, HS.out⟩ | rfl | exact ⟨by omega, HS.out⟩
              · intro w' hS
                refine OpTo.plain ?_ ?_
                exact rfl
                have HS := Lib.hid hS
                clear hS
                go_wp2_with fail
                all_goals first | exact HS.out | exact ⟨rfl, HS.out⟩ | rfl | exact ⟨by omega, HS.out⟩
              · intro w' hS
                refine OpTo.plain ?_ ?_
                exact rfl
                have HS := Lib.hid hS
                clear hS
                go_wp2_with fail
                all_goals first | exact HS.out | exact ⟨rfl, HS.out⟩ | rfl | exact ⟨by omega, HS.out⟩
              · intro w' hS
                refine OpTo.plain ?_ ?_
                exact rfl
                have e := (hS.cell (p := ⟨bl, k * 3, none⟩) hbl).trans E0.out
                simp [Fw.vals] at e
                have hbb := Nat.lt_of_lt_of_le hbl hS.size
                have HS := Lib.hid hS
                clear hS
                go_wp2_with fail
                all_goals first | exact HS.out | exact ⟨rfl, HS.out⟩ | rfl | exact ⟨by omega, HS.out⟩
              · intro w' hS
                refine OpTo.plain ?_ ?_
                exact rfl
                have e := (hS.cell (p := ⟨bl, k * 3, none⟩) hbl).trans E0.out
                simp [Fw.vals] at e
                have hbb := Nat.lt_of_lt_of_le hbl hS.size
                have HS := Lib.hid hS
                clear hS
                go_wp2_with fail
                all_goals first | exact HS.out | exact ⟨rfl, HS.out⟩ | rfl | exact ⟨by omega, HS.out⟩
              · intro w' hS
                refine OpTo.plain ?_ ?_
                exact rfl
                have e := (hS.cell (p := ⟨bl, k * 3, none⟩) hbl).trans E0.out
                simp [Fw.vals] at e
                have hbb := Nat.lt_of_lt_of_le hbl hS.size
                have HS := Lib.hid hS
                clear hS
                go_wp2_with fail
                all_goals first | exact HS.out | exact ⟨rfl, HS.out⟩ | rfl | exact ⟨by omega, HS.out⟩
              · intro w' hS
                refine OpTo.plain ?_ ?_
                exact rfl
                have HS := Lib.hid hS
                clear hS
                go_wp2_with fail
                all_goals first | exact HS.out | exact ⟨rfl, HS.out⟩ | rfl | exact ⟨by omega, HS.out⟩
              · intro w' hS
                refine OpTo.plain ?_ ?_
                exact rfl
                have HS := Lib.hid hS
                clear hS
                go_wp2_with fail
                all_goals first | exact HS.out | exact ⟨rfl, HS.out⟩ | rfl | exact ⟨by omega, HS.out⟩
              · intro w' hS
                refine OpTo.plain ?_ ?_
                exact rfl
                have e := (hS.cell (p := ⟨bl, k * 3 + 1, none⟩) hbl).trans E1.out
                simp [Fw.vals] at e
                have hbb := Nat.lt_of_lt_of_le hbl hS.size
                have HS := Lib.hid hS
                clear hS
                go_wp2_with fail
                all_goals first | exact HS.out | exact ⟨rfl, HS.out⟩ | rfl | exact ⟨by omega, HS.out⟩
              · intro w' hS
                refine OpTo.plain ?_ ?_
                exact rfl
                have e := (hS.cell (p := ⟨bl, k * 3 + 1, none⟩) hbl).trans E1.out
                simp [Fw.vals] at e
                have hbb := Nat.lt_of_lt_of_le hbl hS.size
                have HS := Lib.hid hS
                clear hS
                go_wp2_with fail
                all_goals first | exact HS.out | exact ⟨rfl, HS.out⟩ | rfl | exact ⟨by omega, HS.out⟩
              · intro w' hS
                refine OpTo.plain ?_ ?_
                exact rfl
                have e := (hS.cell (p := ⟨bl, k * 3 + 1, none⟩) hbl).trans E1.out
                simp [Fw.vals] at e
                have hbb := Nat.lt_of_lt_of_le hbl hS.size
                have HS := Lib.hid hS
                clear hS
                go_wp2_with fail
                all_goals first | exact HS.out | exact ⟨rfl, HS.out⟩ | rfl | exact ⟨by omega, HS.out⟩
              · intro w' hS
                refine OpTo.plain ?_ ?_
                exact rfl
                have HS := Lib.hid hS
                clear hS
                go_wp2_with fail
                all_goals first | exact HS.out | exact ⟨rfl, HS.out⟩ | rfl | exact ⟨by omega, HS.out⟩
              · intro w' hS
                refine OpTo.plain ?_ ?_
                exact rfl
                have HS := Lib.hid hS
                clear hS
                go_wp2_with fail
                all_goals first | exact HS.out | exact ⟨rfl, HS.out⟩ | rfl | exact ⟨by omega, HS.out⟩
              · intro w' hS
                refine OpTo.plain ?_ ?_
                exact rfl
                have e := (hS.cell (p := ⟨bl, k * 3 + 2, none⟩) hbl).trans E2.out
                simp [Fw.vals] at e
                have hbb := Nat.lt_of_lt_of_le hbl hS.size
                have HS := Lib.hid hS
                clear hS
                go_wp2_with fail
                all_goals first | exact HS.out | exact ⟨rfl, HS.out⟩ | rfl | exact ⟨by omega, HS.out⟩
              · intro w' hS
                refine OpTo.plain ?_ ?_
                exact rfl
                have e := (hS.cell (p := ⟨bl, k * 3 + 2, none⟩) hbl).trans E2.out
                simp [Fw.vals] at e
                have hbb := Nat.lt_of_lt_of_le hbl hS.size
                have HS := Lib.hid hS
                clear hS
                go_wp2_with fail
                all_goals first | exact HS.out | exact ⟨rfl, HS.out⟩ | rfl | exact ⟨by omega, HS.out⟩
              · intro w' hS
                refine OpTo.plain ?_ ?_
                exact rfl
                have e := (hS.cell (p := ⟨bl, k * 3 + 2, none⟩) hbl).trans E2.out
                simp [Fw.vals] at e
                have hbb := Nat.lt_of_lt_of_le hbl hS.size
                have HS := Lib.hid hS
                clear hS
                go_wp2_with fail
                all_goals first | exact HS.out | exact ⟨rfl, HS.out⟩ | rfl | exact ⟨by omega, HS.out⟩
            simp only [List.getD_cons_succ, List.getD_cons_zero, List.toList_toArray]
            intro w' hS
            refine OpTo.plain ?_ ?_
            exact rfl
            have CQ := Lib.hid (gpush_any (KG.out.below hS KG.out.lt) GI.out (by decide) (a := fr) (b := tt) HN.out)
            rw [EE.out, EF.out] at CQ
            have HB := Lib.hid hS
            clear hS
            go_wp2_with fail
            refine CQ.out.mono ?_
            rintro e w5 ⟨rfl, hg5, k5⟩
            refine ⟨rfl, ?_⟩
            have KG5 := Lib.hid hg5
            have KX5 := Lib.hid ((KX.out.below HB.out KX.out.lt).keep k5 hXg)
            have OA5 := Lib.hid ((OA.out.below HB.out).keep k5 (fun b hb e => by
              obtain ⟨_, _, cur, q3⟩ := RowA.type (OA.out.below HB.out) hb
              rw [e] at q3
              have := (KG.out.below HB.out KG.out.lt).out
              rw [q3] at this
              simp only [Option.some.injEq, Obj.cells.injEq] at this
              exact absurd this.2.1 (by decide)))
            have B5 := Lib.hid ((BB.out.trans (HB.out.mono BB.out.size)).trans (k5.below (Nat.le_trans BB.out.size HB.out.size) (fun q hq e => by omega)))
            clear hg5 k5 CQ
            go_wp2_with fail
            go_roundw
            case rel => exact ⟨k + 1, by omega, by go_num, KG5.out, KX5.out, OA5.out, B5.out⟩
            case measure => simp [intOf]; omega
          · have hkL : k = L.length := by omega
            subst hkL
            rw [List.take_length, FO.out] at KG
            have CM := Lib.hid (HMo.out.at_ (IsM.of KG.out) HSi.out.g HS8.out HT8.out HNu.out)
            rw [MR.out] at CM
            have e0 := kx.cell 0
            have e1 := kx.cell 1
            have e2 := kx.cell 2
            simp at e0 e1 e2
            clear kx KG OA
            go_wp2_with fail
            refine CM.out.mono ?_
            rintro e w6 ⟨rfl, b6⟩
            have B6 := Lib.hid (BB.out.trans (b6.mono BB.out.size))
            have CL := Lib.hid (HLi.out w6)
            clear b6 CM
            go_wp2_with fail
            refine CL.out.mono ?_
            rintro e w7 ⟨rfl, b7⟩
            have B7 := Lib.hid (B6.out.trans (b7.mono B6.out.size))
            clear b7 CL
            go_wp2_with fail
            go_ret
            exact ⟨rfl, B7.out⟩
    · obtain ⟨_, rfl⟩ := HG.out.resolve_left (fun h => hok h.1)
      clear HG
      have CL := Lib.hid (HLi.out w2)
      go_wp2_with fail
      refine CL.out.mono ?_
      rintro e w3 ⟨rfl, b3⟩
      have B3 := Lib.hid (B2.out.trans (b3.mono B2.out.size))
      clear b3 CL
      go_wp2_with fail
      go_ret
      exact ⟨rfl, B3.out⟩
  · unfold inP at hgood
    have hs : (sx == tx) = true ∨ ((sx == tx) = false ∧ sx < 1) ∨ ((sx == tx) = false ∧ 1 ≤ sx ∧ 16 < sx) ∨ ((sx == tx) = false ∧ 1 ≤ sx ∧ sx ≤ 16 ∧ tx < 1) ∨ ((sx == tx) = false ∧ 1 ≤ sx ∧ sx ≤ 16 ∧ 1 ≤ tx ∧ 16 < tx) := by
      by_cases e : sx = tx
      · left; simp [e]
      · right
        have e2 : (sx == tx) = false := by simpa using e
        simp only [e2, true_and]
        omega
    have CL := Lib.hid (HLi.out (w.alloc (.cells #[.int .u8 sx, .int .u8 tx, .int .i64 wx] 25)))
    rcases hs with h1 | ⟨h1, h2⟩ | ⟨h1, h2, h3⟩ | ⟨h1, h2, h3, h4⟩ | ⟨h1, h2, h3, h4, h5⟩
    all_goals
      clear hgood
      go_enter Try.func5, Try.ntmps5
      go_wp2_with fail
      refine CL.out.mono ?_
      rintro e w1 ⟨rfl, b1⟩
      have B1 := Lib.hid (B0.out.trans (b1.mono B0.out.size))
      clear b1
      go_wp2_with fail
      go_ret
      exact ⟨rfl, B1.out⟩

end Go.Proofs.Ytgebplplpenabaa
