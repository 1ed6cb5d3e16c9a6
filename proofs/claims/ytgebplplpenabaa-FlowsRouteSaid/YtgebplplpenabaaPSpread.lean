/-
  Package paths: spread.
-/
import Derived.Test.YtgebplplpenabaaPTurn
import Derived.Test.YtgebplplpenabaaPQue
import Derived.Deep.LoopGhost
namespace Go.Proofs.Ytgebplplpenabaa
open Go.RowKit
set_option linter.unusedSimpArgs false
set_option linter.unusedVariables false

theorem ahA_form (b : Int → Int) : ahA b = #[.int .u8 (b 0), .int .u8 (b 1), .int .u8 (b 2), .int .u8 (b 3), .int .u8 (b 4), .int .u8 (b 5), .int .u8 (b 6), .int .u8 (b 7), .int .u8 (b 8), .int .u8 (b 9), .int .u8 (b 10), .int .u8 (b 11), .int .u8 (b 12), .int .u8 (b 13), .int .u8 (b 14), .int .u8 (b 15), .int .u8 (b 16)] := by
  apply Array.ext (by rw [ahA_size]; rfl)
  intro i h1 h2
  have h17 : i < 17 := by rw [ahA_size] at h1; exact h1
  have := ahA_get b h17
  rw [Array.getElem?_eq_getElem h1] at this
  simp only [Option.some.injEq] at this
  rw [this]
  have hi : i = 0 ∨ i = 1 ∨ i = 2 ∨ i = 3 ∨ i = 4 ∨ i = 5 ∨ i = 6 ∨ i = 7 ∨ i = 8 ∨ i = 9 ∨ i = 10 ∨ i = 11 ∨ i = 12 ∨ i = 13 ∨ i = 14 ∨ i = 15 ∨ i = 16 := by omega
  rcases hi with rfl | rfl | rfl | rfl | rfl | rfl | rfl | rfl | rfl | rfl | rfl | rfl | rfl | rfl | rfl | rfl | rfl <;> rfl
theorem zero_links : (∀ w, (zeroValue 86).run Try.prog w = .ok (.agg (ahA fun _ => 0)) w) ∧ (Try.prog.info? 86).map (·.size) = some 17 := by
  rw [ahA_form]
  exact zero_of_info (by kernel_rfl)
theorem info_links (b : Int → Int) : (Try.prog.info? 86).map (·.size) = some (ahA b).size := by rw [ahA_size]; exact zero_links.2
theorem ahA_one (b : Int → Int) : (ahA b).all (·.oneCell') = true := by
  rw [Array.all_eq_true]
  intro i hi
  have h17 : i < 17 := by rw [ahA_size] at hi; exact hi
  have := ahA_get b h17
  rw [Array.getElem?_eq_getElem hi] at this
  simp only [Option.some.injEq] at this
  rw [this]
  rfl
theorem gcapI {w : World} {v : Value} {f : Int → Int → Int} (h : IsG w v f) (ho : outF f) (p q : Int) :
    Calls Try.prog 33 #[v, .int .u8 p, .int .u8 q] w fun e w' => e = .returned (.int .i64 (f p q)) ∧ w = w' := by
  rcases h with ⟨rfl, rfl⟩ | ⟨g, b, rfl, h2⟩
  · exact gcap_nil p q w
  · exact gcap_any h2 ho p q
/-- While parties wait: x, pa, n, b, ah as in the search; k were looked from. -/
def SprAt (w : World) (f : Int → Int → Int) (a : Int) (m : Nat) (v : Value) (wr : World) : Prop :=
  ∃ (x : Nat → Int) (pa : Nat → Nat) (n : Nat) (b : Int → Bool) (ah : Int → Int) (k : Nat), BfsI f a x pa n b ah k 1 ∧ k ≤ n ∧ k + m = 17 ∧ Que wr w.heap.size 23 v (qL x k n) ∧
    Blk wr w.heap.size (ahA fun _ => 0) 86 ∧ Blk wr (w.heap.size + 1) (ahA ah) 86 ∧ Blk wr (w.heap.size + 1 + 1) (inA b) 61 ∧ Below w.heap.size w wr
def SprIn (w : World) (f : Int → Int → Int) (a : Int) (k : Nat) (v i : Value) (wr : World) : Prop :=
  ∃ (x : Nat → Int) (pa : Nat → Nat) (n : Nat) (b : Int → Bool) (ah : Int → Int) (c : Int), BfsI f a x pa n b ah k c ∧ k < n ∧ 1 ≤ c ∧ c ≤ 17 ∧ i = .int .u8 c ∧ Que wr w.heap.size 23 v (qL x k n) ∧
    Blk wr w.heap.size (ahA fun _ => 0) 86 ∧ Blk wr (w.heap.size + 1) (ahA ah) 86 ∧ Blk wr (w.heap.size + 1 + 1) (inA b) 61 ∧ Below w.heap.size w wr
/-- What spread answers: who is ahead, of all that came. -/
def SpreadPost (f : Int → Int → Int) (a : Int) (w : World) (e : Ending) (w' : World) : Prop :=
  ∃ (b : Int → Bool) (pos : Int → Nat) (ah : Int → Int), e = .returned (.agg (ahA ah)) ∧ Spr f a (fun p => b p = true) pos ah ∧ ah a = 0 ∧ (∀ p, b p = false → ah p = 0) ∧ Below w.heap.size w w'
set_option maxHeartbeats 8000000 in
set_option maxRecDepth 100000 in
theorem spread_any {w : World} {v : Value} {f : Int → Int → Int} {a : Int} (h : IsG w v f) (hI : GInv f 4398046511104) (ha : inP a) :
    Calls Try.prog 39 #[v, .int .u8 a] w (SpreadPost f a w) := by
  have H := Lib.hid h
  have HI := Lib.hid hI
  have HA := Lib.hid ha
  have hz1 := zero_links.1
  have hz2 := zero_inP.1
  clear h hI
  obtain ⟨a1, a2⟩ := ha
  have hin0 : (inA fun _ => false).setIfInBounds a.toNat (.bool true) = inA (fun q => if q = a then true else false) := by rw [inA_set _ (by omega), Int.toNat_of_nonneg (by omega)]
  have k2 := Blk.newAt ((w.alloc (.cells (ahA fun _ => 0) 86)).alloc (.cells (ahA fun _ => 0) 86)) (inA fun _ => false) 61 (g := w.heap.size + 1 + 1) (by simp)
  have dk := k2.inAt (p := a) (by omega) (by omega)
  have fk := k2.frozen a.toNat
  obtain ⟨b0, hb0⟩ : ∃ b0 : Int → Bool, b0 = fun q => if q = a then true else false := ⟨_, rfl⟩
  rw [← hb0] at hin0
  have hs4 : (((w.alloc (.cells (ahA fun _ => 0) 86)).alloc (.cells (ahA fun _ => 0) 86)).alloc (.cells (inA b0) 61)).heap.size = w.heap.size + 1 + 1 + 1 := by simp
  have K0 := Lib.hid ((((Blk.new w (ahA fun _ => 0) 86).alloc (.cells (ahA fun _ => 0) 86)).alloc (.cells (inA b0) 61)).alloc (.cells #[.int .u8 a] 23))
  have K1 := Lib.hid (((Blk.newAt (w.alloc (.cells (ahA fun _ => 0) 86)) (ahA fun _ => 0) 86 (g := w.heap.size + 1) (by simp)).alloc (.cells (inA b0) 61)).alloc (.cells #[.int .u8 a] 23))
  have K2 := Lib.hid ((Blk.newAt ((w.alloc (.cells (ahA fun _ => 0) 86)).alloc (.cells (ahA fun _ => 0) 86)) (inA b0) 61 (g := w.heap.size + 1 + 1) (by simp)).alloc (.cells #[.int .u8 a] 23))
  have q0 := Que.one (w := (((w.alloc (.cells (ahA fun _ => 0) 86)).alloc (.cells (ahA fun _ => 0) 86)).alloc (.cells (inA b0) 61))) (base := w.heap.size) (e := 23) (x := a) (by rw [hs4]; omega)
  rw [hs4] at q0
  have Q0 := Lib.hid q0
  have B0 := Lib.hid (((((Below.refl w.heap.size w).alloc (Nat.le_refl _) (.cells (ahA fun _ => 0) 86)).alloc (by simp) (.cells (ahA fun _ => 0) 86)).alloc (by simp; omega) (.cells (inA b0) 61)).alloc (by rw [hs4]; omega) (.cells #[.int .u8 a] 23))
  have S0 := Lib.hid (hb0 ▸ BfsI.start f HA.out HI.out : BfsI f a (fun _ => a) (fun _ => 0) 1 b0 (fun _ => 0) 0 1)
  clear q0 hs4 hb0
  go_enter Try.func39, Try.ntmps39
  go_wp2_with fail
  try rw [hin0]
  generalize (((w.alloc (.cells (ahA fun _ => 0) 86)).alloc (.cells (ahA fun _ => 0) 86)).alloc (.cells (inA b0) 61)).alloc (.cells #[.int .u8 a] 23) = W at *
  clear dk fk k2 hin0 hz1 hz2
  go_loopg [7] 17 (fun m v wr => SprAt w f a m v wr)
  case atStart => exact ⟨fun _ => a, fun _ => 0, 1, b0, fun _ => 0, 0, S0.out, by omega, by omega, Q0.out, K0.out, K1.out, K2.out, B0.out⟩
  case round =>
    obtain ⟨x, pa, n, b, ah, k, hS, hkn, hkm, hq, h0, h1, h2, hb⟩ := hrel
    have S1 := Lib.hid hS
    have Q1 := Lib.hid hq
    have R0 := Lib.hid h0
    have R1 := Lib.hid h1
    have R2 := Lib.hid h2
    have B1 := Lib.hid hb
    clear hS hq h0 h1 h2 hb K0 K1 K2 Q0 B0 S0
    obtain ⟨g, off, cap, hv, c1, c2, c3, c4, c5⟩ := Q1.out.shape
    subst hv
    obtain ⟨N, hN⟩ : ∃ N, (qL x k n).length = N := ⟨_, rfl⟩
    have hNk := qL_len x k n
    rw [hN] at c1 hNk ⊢
    have HN := Lib.hid hN
    have hn16 := S1.out.len
    by_cases hlt : k < n
    · have hN0 : 0 < N := by omega
      clear c5 hN hNk
      go_wp2_with fail
      go_loopw [7, 8] (SprIn w f a k) (fun _ i _ => 17 - (intOf i).toNat)
      case atStart => exact ⟨x, pa, n, b, ah, 1, S1.out, hlt, by omega, by omega, rfl, HN.out ▸ Q1.out, R0.out, R1.out, R2.out, B1.out⟩
      case round =>
        clear R0 R1 R2 B1 S1 Q1 HN c1 c2 c3 c4 hlt hN0 hn16 hkn
        obtain ⟨x, pa, n, b, ah, c, hS, hkn, hc1, hc2, rfl, hq, h0, h1, h2, hb⟩ := hrel
        have S1 := Lib.hid hS
        have Q1 := Lib.hid hq
        have R0 := Lib.hid h0
        have R1 := Lib.hid h1
        have R2 := Lib.hid h2
        have B1 := Lib.hid hb
        clear hS hq h0 h1 h2 hb
        obtain ⟨g, off, cap, hv, c1, c2, c3, c4, c5⟩ := Q1.out.shape
        subst hv
        have hx0 : (qL x k n)[0]? = some (x k) := by rw [qL_head x hkn]; rfl
        obtain ⟨N, hN⟩ : ∃ N, (qL x k n).length = N := ⟨_, rfl⟩
        have hNk := qL_len x k n
        have hN0 : 0 < N := by omega
        have ch := c5 0 (by omega)
        rw [Nat.add_zero, show (qL x k n)[0] = x k by rw [List.getElem?_eq_getElem (by omega)] at hx0; simpa using hx0] at ch
        rw [hN] at c1 hNk ⊢
        have HN := Lib.hid hN
        have hn16 := S1.out.len
        have hNn := Lib.hid hNk
        unfold maxLen at c2
        have l1 := R1.out.lt
        have l2 := R2.out.lt
        clear c5 hN hx0 hNk
        by_cases hc : c ≤ 16
        · have dk := R2.out.inAt (p := c) (by omega) (by omega)
          have fk := R2.out.frozen c.toNat
          cases hbc : b c with
          | true =>
            rw [hbc] at dk
            have S2 := Lib.hid (S1.out.skip hkn (.inl hbc))
            clear hbc fk ch
            go_wp2_with fail
            go_roundw
            case rel => exact ⟨x, pa, n, b, ah, c + 1, S2.out, hkn, by omega, by omega, by go_num, HN.out ▸ Q1.out, R0.out, R1.out, R2.out, B1.out⟩
            case measure => simp [intOf]; omega
          | false =>
            rw [hbc] at dk
            have CC := Lib.hid (gcapI (H.out.below B1.out) HI.out.outF (x k) c)
            by_cases hpos : 0 < f (x k) c
            · have S2 := Lib.hid (S1.out.add hkn hbc hpos ⟨by omega, by omega⟩)
              have QA := Lib.hid (qL_add x (k := k) (n := n) (by omega) c)
              generalize f (x k) c = y at *
              have q1 : decide (0 < y) = true := by simpa using hpos
              generalize hxk : x k = xk at *
              have hg2 : ¬ g = w.heap.size + 1 + 1 := Q1.out.ne R2.out (by decide) g rfl
              have hg1 : ¬ g = w.heap.size + 1 := Q1.out.ne R1.out (by decide) g rfl
              have kp2 : Keep (fun i => i = w.heap.size + 1 + 1) wr (wr.setCell ⟨w.heap.size + 1 + 1, c.toNat, none⟩ (.bool true)) := (Keep.refl (fun i => i = w.heap.size + 1 + 1) wr).setCell (p := ⟨w.heap.size + 1 + 1, c.toNat, none⟩) (.inl rfl) (.bool true)
              have Q2 := Lib.hid (Q1.out.keep kp2 (fun i h e => by cases h; exact hg2 e))
              have P0 := Lib.hid (R0.out.setOther (a := ⟨w.heap.size + 1 + 1, c.toNat, none⟩) (by simp; omega) (.bool true))
              have P1 := Lib.hid (R1.out.setOther (a := ⟨w.heap.size + 1 + 1, c.toNat, none⟩) (by simp) (.bool true))
              have P2 := Lib.hid (R2.out.inSet (p := c) (by omega) (by omega) true)
              have PB := Lib.hid (B1.out.setCell (p := ⟨w.heap.size + 1 + 1, c.toNat, none⟩) (by simp; omega) (.bool true))
              have ch1 := kp2.cell (p := ⟨g, off, none⟩) c3 hg2
              rw [ch] at ch1
              have d1 := P1.out.ahAt (p := c) (by omega) (by omega)
              have f1 := P1.out.frozen c.toNat
              have kp1 : Keep (fun i => i = w.heap.size + 1) (wr.setCell ⟨w.heap.size + 1 + 1, c.toNat, none⟩ (.bool true)) ((wr.setCell ⟨w.heap.size + 1 + 1, c.toNat, none⟩ (.bool true)).setCell ⟨w.heap.size + 1, c.toNat, none⟩ (.int .u8 xk)) := (Keep.refl (fun i => i = w.heap.size + 1) _).setCell (p := ⟨w.heap.size + 1, c.toNat, none⟩) (.inl rfl) (.int .u8 xk)
              have q3 := Q2.out.keep kp1 (fun i h e => by cases h; exact hg1 e)
              rw [HN.out] at q3
              have Q3 := Lib.hid q3
              have T0 := Lib.hid (P0.out.setOther (a := ⟨w.heap.size + 1, c.toNat, none⟩) (by simp) (.int .u8 xk))
              have T1 := Lib.hid (P1.out.ahSet (p := c) (by omega) (by omega) xk)
              have T2 := Lib.hid (P2.out.setOther (a := ⟨w.heap.size + 1, c.toNat, none⟩) (by simp) (.int .u8 xk))
              have TB := Lib.hid (PB.out.setCell (p := ⟨w.heap.size + 1, c.toNat, none⟩) (by simp) (.int .u8 xk))
              have hsz := B1.out.size
              clear q3 P0 P1 P2 PB Q2 kp1 kp2 hpos hbc Q1 R0 R1 R2 B1 S1
              go_wp2_with fail
              refine CC.out.mono ?_
              rintro e w1 ⟨rfl, rfl⟩
              clear CC
              go_wp2_with (at_builtin; refine wpList_append_que _ rfl (.tmp 42) (.tmp 44) rfl w.heap.size _ (qL x k n) rfl (Q3.out.alloc _) _ _ c rfl (Blk.newAt _ _ _ (by simp)) (by have := hNn.out; have := HN.out; omega) (by simp; omega) ?_)
              intro v3 w3 q3 hgr3
              have hge : ∀ k, (Value.slice (some ⟨g, off, none⟩) N cap).ownBlock = some k → w.heap.size ≤ k := fun k e => by cases e; exact c4
              have U0 := Lib.hid (show Blk w3 w.heap.size (ahA fun _ => 0) 86 from (hgr3.block w.heap.size (by simp; omega) (fun e => by
                have q := Q3.out.ne T0.out (by decide)
                exact q _ e.symm rfl)).trans (T0.out.alloc _).out)
              have U1 := Lib.hid (show Blk w3 (w.heap.size + 1) (ahA (upI ah c xk)) 86 from (hgr3.block (w.heap.size + 1) (by simp; omega) (fun e => by
                have q := Q3.out.ne T1.out (by decide)
                exact q _ e.symm rfl)).trans (T1.out.alloc _).out)
              have U2 := Lib.hid (show Blk w3 (w.heap.size + 1 + 1) (inA fun q => if q = c then true else b q) 61 from (hgr3.block (w.heap.size + 1 + 1) (by simp; omega) (fun e => by
                have q := Q3.out.ne T2.out (by decide)
                exact q _ e.symm rfl)).trans (T2.out.alloc _).out)
              have UB := Lib.hid ((TB.out.alloc TB.out.size _).grown hgr3 (by simp; omega) hge)
              have UQ := Lib.hid q3
              clear q3 hgr3 hge T0 T1 T2 TB Q3 ch ch1 d1 f1 dk fk
              obtain ⟨g3, off3, cap3, hv3, _⟩ := UQ.out.shape
              go_wp2_with fail
              go_roundw
              case rel => exact ⟨_, _, n + 1, _, _, c + 1, S2.out, by omega, by omega, by omega, by go_num, by rw [QA.out]; exact UQ.out, U0.out, U1.out, U2.out, UB.out⟩
              case measure => simp [intOf]; omega
            · have S2 := Lib.hid (S1.out.skip hkn (.inr (by omega)))
              generalize f (x k) c = y at *
              have q1 : decide (0 < y) = false := by simpa using hpos
              clear hbc fk hpos
              go_wp2_with fail
              refine CC.out.mono ?_
              rintro e w1 ⟨rfl, rfl⟩
              clear CC
              go_wp2_with fail
              go_roundw
              case rel => exact ⟨x, pa, n, b, ah, c + 1, S2.out, hkn, by omega, by omega, by go_num, HN.out ▸ Q1.out, R0.out, R1.out, R2.out, B1.out⟩
              case measure => simp [intOf]; omega
        · have hc17 : c = 17 := by omega
          subst hc17
          have S2 := Lib.hid (S1.out.next HI.out)
          have hr := run_next (P := Try.prog) wr 68 23 Try.underlying68 (Try.sizeOf23 wr) g off N cap hN0 c1
          have Q2 : Hid (Que wr w.heap.size 23 (.slice (some (nextA g off cap)) (N - 1) (cap - 1)) (qL x (k + 1) n)) := Lib.hid (by
            have q := Q1.out
            rw [HN.out, qL_head x hkn] at q
            have hl : N = (qL x (k + 1) n).length + 1 := by rw [← HN.out, qL_head x hkn]; rfl
            rw [hl] at q ⊢
            exact q.next)
          clear Q1
          go_wp2_with fail
          go_roundg (17 - (k + 1))
          case rel => exact ⟨x, pa, n, b, ah, k + 1, S2.out, by omega, by omega, Q2.out, R0.out, R1.out, R2.out, B1.out⟩
          case measure => omega
    · have hkn' : k = n := by omega
      subst hkn'
      have hN0 : N = 0 := by omega
      subst hN0
      have D := Lib.hid (S1.out.done HI.out)
      clear hkm hNk hN c5 HN hlt hkn c1 hn16
      unfold maxLen at c2
      go_wp2_with first
        | ((with_reducible refine wpList_load_row ?_ 86 (.tmp 5) ?_ (w.heap.size + 1) ?_ 86 (ahA ah) (0, 0) _ R1.out.out Try.underlying86 ?_ (info_links _) ?_); exact rfl; exact rfl; exact rfl; exact rfl)
        | ((with_reducible refine wpList_store_row ?_ 86 (.tmp 4) (.tmp 46) ?_ w.heap.size (ahA ah) ?_ ?_ 86 _ R0.out.out (info_links _) (by simp only [ahA_size]) (ahA_one _) ?_); exact rfl; exact rfl; exact rfl; exact rfl)
      have K9 := R0.out.row (cs := ahA ah)
      have B9 := below_setRow B1.out (Nat.le_refl _) (ahA ah)
      refine bodyPost_ret (v := .agg (ahA ah)) (results_cell_row rfl _ _ w.heap.size 86 (ahA ah) (0, 0) _ rfl K9 Try.underlying86 rfl (info_links _)) rfl ?_
      exact ⟨b, _, ah, rfl, D.out, S1.out.aha, S1.out.ah0, B9⟩

end Go.Proofs.Ytgebplplpenabaa
