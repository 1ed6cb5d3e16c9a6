/-
  GraphsPlay: the walk, for every edges and pushes (written by gen_gplay.py).
-/
import Derived.Test.YtdpkcamhafkkbaaPlay05b
namespace Go.Proofs.Ytdpkcamhafkkbaa
open Go.RowKit
set_option linter.unusedSimpArgs false
set_option linter.unusedVariables false

theorem Twinned.blkF {w : World} {base g : Nat} {e : TypeId} {size n : Nat} {xs marks : List Value} (h : Twinned w base g e size n xs marks) : ∃ cs : Array Value, Blk w g cs e ∧ n * size ≤ cs.size := by
  obtain ⟨_, h2⟩ := h
  rcases h2 with ⟨hv, _⟩ | ⟨g', cap, cur, hv, _, hg, hc, _, hs, _⟩
  · cases hv
  · cases hv
    refine ⟨cur, hg, ?_⟩
    rw [hs]
    exact Nat.mul_le_mul_right _ (by omega)
/-- While the twin is written over. -/
def OverF (W : World) (tb n : Nat) (i : Value) (wr : World) : Prop := ∃ k : Nat, k ≤ n ∧ i = .int .i64 k ∧ Keep (· = tb) W wr ∧ ∃ cs, Blk wr tb cs 35 ∧ n * 3 ≤ cs.size
/-- Both graphs, and both copies. -/
structure PlayG (w0 w : World) (b0 b1 g m c d : Nat) (f f0 : Int → Int → Int) (vl vd : Value) : Prop where
  kg : Blk w g (graC f true) 52
  km : RefG w b0 m (allE f) vl
  kc : Blk w c (graC f0 true) 52
  kd : RefG w b1 d (allE f0) vd
  keep : Below w0.heap.size w0 w
theorem PlayG.below {w0 w w' : World} {b0 b1 g m c d : Nat} {f f0 : Int → Int → Int} {vl vd : Value} (h : PlayG w0 w b0 b1 g m c d f f0 vl vd) (k : Below w.heap.size w w') : PlayG w0 w' b0 b1 g m c d f f0 vl vd :=
  ⟨h.kg.below k h.kg.lt, h.km.below k, h.kc.below k h.kc.lt, h.kd.below k, h.keep.trans (k.mono h.keep.size)⟩
/-- What stands beside the book of pages. -/
structure RestG (w0 : World) (b0 g m : Nat) (f : Int → Int → Int) (vl : Value) (w : World) : Prop where
  kg : Blk w g (graC f true) 52
  km : RefG w b0 m (allE f) vl
  keep : Below w0.heap.size w0 w
theorem RestG.far {w0 : World} {b0 g m base : Nat} {f : Int → Int → Int} {vl : Value} (hg : g < base) (hm : m < base) (hv : ∀ b, vl.ownBlock = some b → b < base) (h0 : w0.heap.size ≤ base) : FarR base (RestG w0 b0 g m f vl) := fun w1 w2 S h k hS =>
  ⟨h.kg.keep k (fun s => by have := hS _ s; omega), h.km.keep k (fun s => by have := hS _ s; omega) (fun b hb s => by have := hS _ s; have := hv b hb; omega), h.keep.trans (k.below (B := w0.heap.size) h.keep.size (fun k hk s => by have := hS _ s; omega))⟩
def PlayGAt (w0 : World) (b0 b1 g m c d n : Nat) (f0 : Int → Int → Int) (vd : Value) (i : Value) (wr : World) : Prop :=
  ∃ (k : Nat) (f : Int → Int → Int) (vl : Value), k ≤ n ∧ i = .int .i64 k ∧ GInv f 4398046511104 ∧ PlayG w0 wr b0 b1 g m c d f f0 vl vd
set_option maxHeartbeats 32000000 in
set_option maxRecDepth 100000 in
theorem gplay_walk (a : Option Addr) (len cap : Nat) (zs : List Fw) (a2 : Option Addr) (len2 cap2 : Nat) (ys : List Fw) (w : World) (h0 : SlIn Fw.vals 3 Fw.Fits w a len cap zs) (h2 : SlIn Fw.vals 3 Fw.Fits w a2 len2 cap2 ys) :
    Calls Try.prog 3 #[.slice a len cap, .slice a2 len2 cap2] w fun e w' => e = .returned (.bool true) ∧ Below w.heap.size w w' := by
  have HZ := Lib.hid h0
  have HY := Lib.hid h2
  have hcap := h0.2.2.2.1
  have hmax := h0.2.2.2.2.1
  have hcap2 := h2.2.2.2.1
  have hmax2 := h2.2.2.2.2.1
  have hyl := h2.2.1
  have hzl := h0.2.1
  have hnone := Lib.hid h0.1
  unfold maxLen at hmax hmax2
  clear h0 h2
  subst hzl
  by_cases hle : ¬ zs.length ≤ 300
  · go_enter Try.func3, Try.ntmps3
    go_wp2_with fail
    refine (lives05_any _).mono ?_
    rintro e w1 ⟨rfl, b1⟩
    have B1 := Lib.hid b1
    clear b1
    go_wp2_with fail
    go_ret
    exact ⟨rfl, B1.out⟩
  have hle := Decidable.not_not.1 hle
  by_cases hle2 : ¬ len2 ≤ 60
  · go_enter Try.func3, Try.ntmps3
    go_wp2_with fail
    refine (lives05_any _).mono ?_
    rintro e w1 ⟨rfl, b1⟩
    have B1 := Lib.hid b1
    clear b1
    go_wp2_with fail
    go_ret
    exact ⟨rfl, B1.out⟩
  have hle2 := Decidable.not_not.1 hle2
  have l1 : decide ((300 : Int) < (zs.length : Int)) = false := by simp; omega
  have l2 : decide ((60 : Int) < (len2 : Int)) = false := by simp; omega
  have CT := Lib.hid (TwinFlows_any (HZ.out.flows (by omega)) hnone.out (by omega))
  clear hnone
  go_enter Try.func3, Try.ntmps3
  go_wp2_with fail
  refine CT.out.mono ?_
  rintro e w1 ⟨tb, rfl, htb, ht, b1⟩
  have TW1 := Lib.hid ht
  have B1 := Lib.hid b1
  have CN := Lib.hid (gnew_any (ht.reads (by omega) (fwCells_len zs)) (by omega))
  have htl := ht.cells.1
  clear ht b1 CT
  go_wp2_with fail
  refine CN.out.mono ?_
  rintro e w2 ⟨b2, hg⟩
  have TW2 := Lib.hid (TW1.out.below b2)
  have B2 := Lib.hid (B1.out.trans (b2.mono B1.out.size))
  have HG := Lib.hid hg
  have CR := Lib.hid (rnewG_any ((HZ.out.below B2.out).flows (by omega)) (by omega))
  have hs12 := b2.size
  clear b2 hg CN TW1
  by_cases hok : okG zs
  · obtain ⟨_, g, rfl, hgge, hgb⟩ := HG.out.resolve_right (fun h => h.1 hok)
    have KG2 := Lib.hid hgb
    have hgl := hgb.lt
    clear hgb HG
    go_wp2_with fail
    refine CR.out.mono ?_
    rintro e w3 ⟨b3, hr⟩
    obtain ⟨_, m, vl, rfl, hrm⟩ := hr.resolve_right (fun h => h.1 hok)
    have TW3 := Lib.hid (TW2.out.below b3)
    have B3 := Lib.hid (B2.out.trans (b3.mono B2.out.size))
    have KG3 := Lib.hid (KG2.out.below b3 KG2.out.lt)
    have KM3 := Lib.hid hrm
    have CL := Lib.hid (LeftFlows_any (by omega) TW3.out ((HZ.out.below B3.out).flows (by omega)))
    rw [decide_eq_true rfl] at CL
    have I0 := Lib.hid (newF_inv hok.1)
    rw [newL_newF] at KM3
    generalize newF zs = f0 at *
    have hs23 := b3.size
    clear b3 hr hrm CR TW2 B2 KG2
    go_wp2_with fail
    refine CL.out.mono ?_
    rintro e w4 ⟨rfl, b4⟩
    have TW4 := Lib.hid (TW3.out.below b4)
    have B4 := Lib.hid (B3.out.trans (b4.mono B3.out.size))
    have KG4 := Lib.hid (KG3.out.below b4 KG3.out.lt)
    have KM4 := Lib.hid (KM3.out.below b4)
    have hs34 := b4.size
    have hmge := KM3.out.ge
    clear b4 CL TW3 B3 KG3 KM3 HZ
    obtain ⟨cs0, hcs0, hcl0⟩ := TW4.out.blkF
    have TB4 := Lib.hid hcs0
    clear hcs0 TW4
    go_wp2_with fail
    go_loopw [10] (OverF w4 tb zs.length) (fun i _ => zs.length - (intOf i).toNat)
    case atStart => exact ⟨0, by omega, rfl, Keep.refl _ _, cs0, TB4.out, hcl0⟩
    case round =>
      obtain ⟨k, hk, rfl, hK, cs, hcs, hcl⟩ := hrel
      have KK := Lib.hid hK
      have TB := Lib.hid hcs
      have htb2 := hcs.lt
      clear hK hcs
      by_cases hkl : k < zs.length
      · have dm := TB.out.cell (k * 3 + 2)
        rw [Array.getElem?_eq_getElem (by omega)] at dm
        have fr := TB.out.frozen (k * 3 + 2)
        have kk := Lib.hid (KK.out.setCell (p := ⟨tb, k * 3 + 2, none⟩) (.inl rfl) (.int .i64 0))
        have ky := Lib.hid (TB.out.set (k * 3 + 2) (.int .i64 0))
        have hcl2 : zs.length * 3 ≤ (cs.setIfInBounds (k * 3 + 2) (.int .i64 0)).size := by simpa using hcl
        go_wp2_with fail
        go_roundw
        case rel => exact ⟨k + 1, by omega, by go_num, kk.out, _, ky.out, hcl2⟩
        case measure => simp [intOf]; omega
      · have hkl : k = zs.length := by omega
        have KG5 := Lib.hid (KG4.out.keep KK.out (by omega))
        have KM5 := Lib.hid (KM4.out.keep KK.out (by omega) (fun b hb e => by have := (owns_type KM4.out.row hb).1; omega))
        have B5 := Lib.hid (B4.out.trans (KK.out.below (B := w.heap.size) B4.out.size (fun k hk e => by omega)))
        have hs45 := KK.out.size
        have CP := Lib.hid (gcopy_any KG5.out)
        have hgl5 := KG5.out.lt
        have hml5 := KM5.out.blk.lt
        clear KG4 KM4 B4 KK TB TB4
        go_wp2_with fail
        refine CP.out.mono ?_
        rintro e w6 ⟨rfl, k6, b6⟩
        have KG6 := Lib.hid (KG5.out.below b6 KG5.out.lt)
        have KM6 := Lib.hid (KM5.out.below b6)
        have KC6 := Lib.hid k6
        have hcl6 := k6.lt
        have B6 := Lib.hid (B5.out.trans (b6.mono B5.out.size))
        have CD := Lib.hid (rcopyG_any KM6.out (by have := prefE_len f0 256; unfold allE; omega))
        have hs56 := b6.size
        clear k6 b6 CP KG5 KM5 B5
        generalize hcc : wr.heap.size = c at *
        go_wp2_with fail
        refine CD.out.mono ?_
        rintro e w7 ⟨d, vd, rfl, kd, hdge, hvd, b7⟩
        have PG := Lib.hid (show PlayG w w7 w2.heap.size w2.heap.size g m c d f0 f0 vl vd from ⟨KG6.out.below b7 KG6.out.lt, KM6.out.below b7, KC6.out.below b7 KC6.out.lt, kd, B6.out.trans (b7.mono B6.out.size)⟩)
        have HVD := Lib.hid hvd
        have hs67 := b7.size
        have hdl := kd.blk.lt
        clear kd hvd b7 CD KG6 KM6 KC6 B6
        go_wp2_with fail
        go_loopw [13] (PlayGAt w w2.heap.size w2.heap.size g m c d len2 f0 vd) (fun i _ => len2 - (intOf i).toNat)
        case atStart => exact ⟨0, f0, vl, Nat.zero_le _, rfl, I0.out, PG.out⟩
        case round =>
          clear PG
          obtain ⟨k, f, vl, hk, rfl, hI, hP⟩ := hrel
          have I1 := Lib.hid hI
          have P1 := Lib.hid hP
          have hwr := hP.kd.blk.lt
          clear hI hP
          by_cases hkl2 : k < len2
          · obtain ⟨b, off, rfl, hbw, z0, z1, z2⟩ := (HY.out.below P1.out.keep).flow (i := k) (by omega)
            have hx := HY.out.2.2.1 ys[k] (List.getElem_mem _)
            generalize hxe : ys[k] = x at *
            clear hxe
            obtain ⟨fr, tt, am⟩ := x
            dsimp only at z0 z1 z2
            have HX := Lib.hid hx
            have bx := (Below.refl wr.heap.size wr).alloc (Nat.le_refl _) (.cells #[.int .u8 fr, .int .u8 tt, .int .i64 am] 35)
            have KX := Lib.hid (Blk.new wr #[.int .u8 fr, .int .u8 tt, .int .i64 am] 35)
            have P2 := Lib.hid (P1.out.below bx)
            have hbw2 := P2.out.km.ge
            clear bx hx P1
            go_upto_region 20 with fail
            generalize hW0 : wr.alloc (.cells #[.int .u8 fr, .int .u8 tt, .int .i64 am] 35) = W at *
            generalize hX : wr.heap.size = X at *
            clear hW0 z0 z1 z2
            have hXl := KX.out.lt
            refine gplay_r20 (base := w2.heap.size) (g := g) (m := m) (X := X) (f := f) (f' := gPushF f fr tt am) (fr := fr) (tt := tt) (am := am) (er := gPushE f fr tt am) (u1 := gPushF f fr tt am fr tt) (u2 := gPushF f fr tt am tt fr) (by omega) (by omega) (by omega) (by omega)
              (Lib.hid P2.out.kg) (Lib.hid ⟨vl, P2.out.km⟩) I1 (Lib.hid (I1.out.gpush fr tt am)) (Lib.hid HX.out.am) KX (Lib.hid rfl) (Lib.hid rfl) (Lib.hid (pushEE_allE I1.out fr tt am)) (Lib.hid (by rw [pushEL_allE I1.out]; unfold gPushF; split <;> rfl)) (Lib.hid rfl) (Lib.hid rfl) (by omega) ?_
            rintro w8 v49 v53 ⟨hkeep, hg8, vl8, hm8⟩
            have P8 := Lib.hid (show PlayG w w8 w2.heap.size w2.heap.size g m c d (gPushF f fr tt am) f0 vl8 vd from ⟨hg8, hm8, P2.out.kc.keep hkeep (by omega), P2.out.kd.keep hkeep (by omega) (fun b hb e => by have := HVD.out b hb; omega), P2.out.keep.trans (hkeep.below (B := w.heap.size) P2.out.keep.size (fun k hk e => by omega))⟩)
            have I8 := Lib.hid (I1.out.gpush fr tt am)
            clear hkeep hg8 hm8 P2 I1 KX
            go_wp2_with fail
            go_roundw
            case rel => exact ⟨k + 1, gPushF f fr tt am, vl8, by omega, by go_num, I8.out, P8.out⟩
            case measure => simp [intOf]; omega
          · have HO := Lib.hid I1.out.outF
            clear HY
            go_upto_region 22 with fail
            refine gplay_r22 (b0 := w2.heap.size) (b1 := w2.heap.size) (g := g) (m := m) (c := c) (d := d) (f := f) (f0 := f0) (vl := vl) (vd := vd) (Lib.hid P1.out.kg) (Lib.hid P1.out.kc) (Lib.hid P1.out.km) (Lib.hid P1.out.kd) I1 I0 ?_
            intro w8 v16 v22 hb8
            have P2 := Lib.hid (P1.out.below hb8)
            have hg8 := P2.out.kg.lt
            have hm8 := P2.out.km.blk.lt
            have FR := Lib.hid (RestG.far (w0 := w) (b0 := w2.heap.size) (g := g) (m := m) (base := w8.heap.size) (f := f) (vl := vl) hg8 hm8 (fun b hb => (owns_type P2.out.km.row hb).2.1) P2.out.keep.size)
            have T0 := Lib.hid (TailO.start FR.out (show RestG w w2.heap.size g m f vl w8 from ⟨P2.out.kg, P2.out.km, P2.out.keep⟩) (Nat.le_refl _))
            clear hb8 P1 P2 I0 hg8 hm8
            have CP := Lib.hid (gedges_any (IsG.of T0.out.rest.kg) HO.out)
            go_wp2_with fail
            generalize w8.alloc (.cells #[.slice none 0 0] 46) = V at *
            generalize w8.heap.size = bk at *
            refine CP.out.mono ?_
            rintro e V1 ⟨v1, rfl, r1, b1⟩
            have FS := Lib.hid (fun b (hb : V.heap.size ≤ b) => T0.out.fresh hb)
            have T1 := Lib.hid (T0.out.below FR.out b1)
            obtain ⟨ao1, pc1, rfl, hm1⟩ := rowed_flow r1
            have HM := Lib.hid hm1
            clear r1 b1 hm1 CP T0
            have CF := Lib.hid (flows_any T1.out.book (by simp) ao1 (allE f).length pc1)
            go_wp2_with fail
            refine CF.out.mono ?_
            rintro e V2 hp
            have he := hp.1
            subst he
            obtain ⟨bv1, ht1⟩ := T1.out.add FR.out (HM.out _ _).1 (fun b hb => FS.out b ((HM.out _ _).2 b hb).1) hp
            have T2 := Lib.hid ht1
            clear hp ht1 CF T1 HM FS
            have CP := Lib.hid (gedges_any (IsG.of T2.out.rest.kg) HO.out)
            go_wp2_with fail
            refine CP.out.mono ?_
            rintro e V3 ⟨v2, rfl, r2, b2⟩
            have FS := Lib.hid (fun b (hb : V2.heap.size ≤ b) => T2.out.fresh hb)
            have T3 := Lib.hid (T2.out.below FR.out b2)
            obtain ⟨ao2, pc2, rfl, hm2⟩ := rowed_flow r2
            have HM := Lib.hid hm2
            clear r2 b2 hm2 CP T2
            have CF := Lib.hid (flows_any T3.out.book (by simp) ao2 (allE f).length pc2)
            go_wp2_with fail
            refine CF.out.mono ?_
            rintro e V4 hp
            have he := hp.1
            subst he
            obtain ⟨bv2, ht2⟩ := T3.out.add FR.out (HM.out _ _).1 (fun b hb => FS.out b ((HM.out _ _).2 b hb).1) hp
            have T4 := Lib.hid ht2
            clear hp ht2 CF T3 HM FS
            go_upto_region 27 with fail
            refine gplay_r27 (R := RestG w w2.heap.size g m f vl) (b0 := w2.heap.size) (g := g) (m := m) (f := f) (vl := vl) T4 FR (Lib.hid (by simp)) (Lib.hid fun w h => h.kg) (Lib.hid fun w h => h.km) I1 ?_
            intro w9 v3 hR
            have B9 := Lib.hid hR.keep
            clear hR T4 FR
            go_wp2_with fail
            go_ret
            exact ⟨rfl, B9.out⟩
  · obtain ⟨_, rfl⟩ := HG.out.resolve_left (fun h => hok h.1)
    clear HG
    go_wp2_with fail
    refine CR.out.mono ?_
    rintro e w3 ⟨b3, hr⟩
    obtain ⟨_, rfl⟩ := hr.resolve_left (fun h => hok h.1)
    have TW3 := Lib.hid (TW2.out.below b3)
    have B3 := Lib.hid (B2.out.trans (b3.mono B2.out.size))
    have CL := Lib.hid (LeftFlows_any (by omega) TW3.out ((HZ.out.below B3.out).flows (by omega)))
    rw [decide_eq_true rfl] at CL
    clear b3 hr CR TW2 B2
    go_wp2_with fail
    refine CL.out.mono ?_
    rintro e w4 ⟨rfl, b4⟩
    have B4 := Lib.hid (B3.out.trans (b4.mono B3.out.size))
    have CV := Lib.hid (lives05_any w4)
    clear b4 CL TW3 B3
    go_wp2_with fail
    refine CV.out.mono ?_
    rintro e w5 ⟨rfl, b5⟩
    have B5 := Lib.hid (B4.out.trans (b5.mono B4.out.size))
    clear b5 CV B4
    go_wp2_with fail
    go_ret
    exact ⟨rfl, B5.out⟩

end Go.Proofs.Ytdpkcamhafkkbaa
