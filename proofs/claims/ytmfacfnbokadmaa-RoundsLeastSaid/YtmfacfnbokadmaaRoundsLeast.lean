/-
  RoundsLeast: the walk, for every debts and quota, over what the document's Least tells.
-/
import Derived.Test.YtmfacfnbokadmaaLives08
import Derived.Test.YtmfacfnbokadmaaRoundsQuota
import Derived.Test.YtmfacfnbokadmaaPages
import Derived.Test.YtmfacfnbokadmaaRowV
import Derived.StillTailTactics
namespace Go.Proofs.Ytmfacfnbokadmaa
open Go.RowKit
set_option linter.unusedSimpArgs false
set_option linter.unusedVariables false

theorem twin_flow {w : World} {base g n : Nat} {xs marks : List Value} (h : Twinned w base g 37 3 n xs marks) (m q : Fw) :
    (∃ cs, (Pg.flow (.slice (some ⟨g, 0, none⟩) n (n + 2)) n (n + 2) m q).Mem w cs) ∧ ∀ b, (Pg.flow (.slice (some ⟨g, 0, none⟩) n (n + 2)) n (n + 2) m q).own b → b = g ∧ base ≤ b := by
  obtain ⟨_, h2⟩ := h
  rcases h2 with ⟨h2, _⟩ | ⟨g', cap, cur, hv, hb, hg, h1, h2, h3, _⟩
  · cases h2
  · cases hv
    exact ⟨⟨cur, by simp [Pg.n, Pg.c], h2, by show (n + 2) * 3 ≤ _; omega, .inr ⟨g, rfl, hg⟩⟩, fun b h => by cases h; exact ⟨rfl, hb⟩⟩
/-- What both tell, the same. -/
theorem both_any (RP : ∀ {w : World} {ao : Option Addr} {cap : Nat} {l : List Fw}, DebtsIn w ao l → DebtsFit l → l.length ≤ 240 → ∀ q : Int, Calls Try.prog 8 #[.slice ao l.length cap, .int .i64 q] w (RLeastPost l q w))
    (l : List Fw) (q : Int) (hfit : DebtsFit l) (hln : l.length ≤ 240) : ∃ (LL : List Fw) (n e : Int), LL.length ≤ 240 ∧
      (∀ (w : World) (ao : Option Addr) (cap : Nat), DebtsIn w ao l → Calls Try.prog 7 #[.slice ao l.length cap, .int .i64 q] w fun en w' => ∃ v, en = .returned (.tuple #[v, .int .i64 n, .int .i64 e]) ∧ Rowed w' w.heap.size 37 3 v LL.length (fwCells LL) ∧ Below w.heap.size w w') ∧
      (∀ (w : World) (ao : Option Addr) (cap : Nat), DebtsIn w ao l → Calls Try.prog 8 #[.slice ao l.length cap, .int .i64 q] w fun en w' => ∃ v, en = .returned (.tuple #[v, .int .i64 n, .int .i64 e]) ∧ Reads w' v 3 LL.length (fwCells LL) ∧ Below w.heap.size w w') := by
  have nilR : ∀ (w : World) (base : Nat), Rowed w base 37 3 (.slice none 0 0) 0 [] := fun w base => ⟨rfl, .inl ⟨rfl, rfl⟩⟩
  by_cases hg : MayD l ∧ 0 ≤ q
  case neg =>
    refine ⟨[], 0, 1, by simp, fun w ao cap hd => ?_, fun w ao cap hd => ?_⟩
    · refine (least_bad hd hfit hln hg).mono ?_
      rintro en w' ⟨rfl, hb⟩
      exact ⟨_, rfl, nilR _ _, hb⟩
    · refine (RP hd hfit hln q).mono ?_
      rintro en w' ⟨hb, ⟨_, rfl⟩ | ⟨h1, h2, _⟩⟩
      · exact ⟨_, rfl, (nilR w' 0).reads (by simp), hb⟩
      · exact absurd ⟨h1, h2⟩ hg
  obtain ⟨hM, h0⟩ := hg
  obtain ⟨L, k, hL⟩ := least_ends hM
  by_cases hk : (k : Int) ≤ q
  · refine ⟨leftL l L, k, 0, Nat.le_trans (leftN_len l L l.length) hln, fun w ao cap hd => least_done hd hfit hln hM h0 hL hk, fun w ao cap hd => ?_⟩
    refine (RP hd hfit hln q).mono ?_
    rintro en w' ⟨hb, ⟨hn, _⟩ | ⟨_, _, M, j, hj, ⟨_, v, rfl, hv⟩ | ⟨hq, _⟩⟩⟩
    · exact absurd ⟨hM, h0⟩ hn
    · obtain ⟨rfl, rfl⟩ := hL.eq hj
      exact ⟨v, rfl, hv, hb⟩
    · obtain ⟨rfl, rfl⟩ := hL.eq hj
      omega
  · refine ⟨[], 0, 13, by simp, fun w ao cap hd => ?_, fun w ao cap hd => ?_⟩
    · refine (least_out hd hfit hln hM h0 hL (by omega)).mono ?_
      rintro en w' ⟨rfl, hb⟩
      exact ⟨_, rfl, nilR _ _, hb⟩
    · refine (RP hd hfit hln q).mono ?_
      rintro en w' ⟨hb, ⟨hn, _⟩ | ⟨_, _, M, j, hj, ⟨hq, _⟩ | ⟨hq, rfl⟩⟩⟩
      · exact absurd ⟨hM, h0⟩ hn
      · obtain ⟨rfl, rfl⟩ := hL.eq hj
        omega
      · exact ⟨_, rfl, (nilR w' 0).reads (by simp), hb⟩
set_option maxHeartbeats 16000000 in
set_option maxRecDepth 100000 in
theorem least_walk (RP : ∀ {w : World} {ao : Option Addr} {cap : Nat} {l : List Fw}, DebtsIn w ao l → DebtsFit l → l.length ≤ 240 → ∀ q : Int, Calls Try.prog 8 #[.slice ao l.length cap, .int .i64 q] w (RLeastPost l q w))
    (a : Option Addr) (len cap : Nat) (xs : List Fw) (q : Int) (w : World) (h0 : SlIn Fw.vals 3 Fw.Fits w a len cap xs) (hq : (Lit.int .i64 q).wf = true) :
    Calls Try.prog 3 #[.slice a len cap, .int .i64 q] w fun e w' => e = .returned (.bool true) ∧ Below w.heap.size w w' := by
  have hzl := h0.2.1
  have HD := Lib.hid h0.debts
  have HN := Lib.hid h0.1
  have hfit := fit_debts h0.2.2.1
  have HR := Lib.hid (fun h => h0.flows h)
  have LV := Lib.hid lives08_any
  clear h0 hq
  subst hzl
  have CG := Lib.hid (great_any (cap := cap) HD.out)
  by_cases hle0 : 240 < xs.length
  · clear hfit
    go_enter Try.func3, Try.ntmps3
    go_wp2_with fail
    refine CG.out.mono ?_
    rintro e w1 ⟨⟨b, rfl, hb⟩, rfl⟩
    clear CG
    cases b with
    | false => exact absurd (hb rfl) (by omega)
    | true =>
      clear hb
      go_wp2_with fail
      refine (LV.out _).mono ?_
      rintro e w2 ⟨rfl, b2⟩
      have B2 := Lib.hid b2
      clear b2
      go_wp2_with fail
      go_ret
      exact ⟨rfl, B2.out⟩
  have hle : xs.length ≤ 240 := by omega
  obtain ⟨LL, n, er, hLL, hP, hRf⟩ := both_any RP xs q hfit hle
  have CP := Lib.hid hP
  have CRF := Lib.hid hRf
  have HLL := Lib.hid hLL
  have HLE := Lib.hid hle
  have HRD := Lib.hid (HR.out (by omega))
  have CT := Lib.hid (TwinFlows_any HRD.out HN.out (by omega))
  clear hP hRf hfit hle0 HR
  go_enter Try.func3, Try.ntmps3
  go_wp2_with fail
  refine CG.out.mono ?_
  rintro e w1 ⟨⟨b, rfl, hb⟩, rfl⟩
  clear CG
  cases b with
  | true =>
    clear hb
    go_wp2_with fail
    refine (LV.out _).mono ?_
    rintro e w2 ⟨rfl, b2⟩
    have B2 := Lib.hid b2
    clear b2
    go_wp2_with fail
    go_ret
    exact ⟨rfl, B2.out⟩
  | false =>
    clear hb
    go_wp2_with fail
    refine CT.out.mono ?_
    rintro e w2 ⟨g, rfl, hgb, ht, b2⟩
    have B2 := Lib.hid b2
    have T2 := Lib.hid ht
    have HG := Lib.hid (And.intro hgb ht.cells.1)
    have C3 := Lib.hid (CP.out w2 _ (xs.length + 2) (reads_debts (ht.reads (by omega) (fwCells_len xs))))
    clear ht b2 CT hgb
    go_wp2_with fail
    refine C3.out.mono ?_
    rintro e w3 ⟨va, rfl, hva, b3⟩
    have B3 := Lib.hid (andB B2.out b3)
    have T3 := Lib.hid (T2.out.below b3)
    have A3 := Lib.hid hva
    obtain ⟨ao, ca, rfl, _⟩ := hva.look
    have C4 := Lib.hid (CRF.out w3 a cap (HD.out.below B3.out))
    have HS := Lib.hid b3.size
    clear hva b3 C3 T2
    go_wp2_with fail
    refine C4.out.mono ?_
    rintro e w4 ⟨vb, rfl, hvb, b4⟩
    have B4 := Lib.hid (andB B3.out b4)
    have T4 := Lib.hid (T3.out.below b4)
    have A4 := Lib.hid (A3.out.below b4)
    have C5 := Lib.hid (SameFlows_any (la := LL) (lb := LL) (A4.out.reads (by have := HLL.out; omega)) hvb)
    rw [decide_eq_true rfl] at C5
    obtain ⟨bo, cb, rfl, _⟩ := hvb
    clear b4 C4 T3 A3
    go_wp2_with fail
    refine C5.out.mono ?_
    rintro e w5 ⟨rfl, b5⟩
    have B5 := Lib.hid (andB B4.out b5)
    have T5 := Lib.hid (T4.out.below b5)
    have A5 := Lib.hid (A4.out.below b5)
    have C6 := Lib.hid (LeftFlows_any (l := xs) (m := xs) (by have := HLE.out; omega) T5.out (HRD.out.below B5.out))
    rw [decide_eq_true rfl] at C6
    clear b5 C5 T4 A4
    go_wp2_with fail
    refine C6.out.mono ?_
    rintro e w6 ⟨rfl, b6⟩
    have B6 := Lib.hid (andB B5.out b6)
    have T6 := Lib.hid (T5.out.below b6)
    have A6 := Lib.hid (A5.out.below b6)
    have T7 := Lib.hid ((T6.out.below ((Below.refl w6.heap.size w6).alloc (Nat.le_refl _) (.cells #[.slice none 0 0] 32))))
    have A7 := Lib.hid (A6.out.alloc (.cells #[.slice none 0 0] 32))
    have FR : Hid (FarR w1.heap.size (fun w' => Below w1.heap.size w1 w')) := Lib.hid fun wa wb S h k hS => h.trans (k.below (B := w1.heap.size) h.size (fun k hk s => by have := hS _ s; omega))
    have T0 := Lib.hid (TailO.start FR.out B6.out (by have := B6.out.size; omega))
    have CF := Lib.hid (flows_any T0.out.book (by simp) (some ⟨g, 0, none⟩) xs.length (xs.length + 2))
    have hszz := B6.out.size
    clear b6 C6 T5 A5 T6 A6
    go_wp2_with fail
    generalize w6.alloc (.cells #[.slice none 0 0] 32) = V at *
    generalize hbk : w6.heap.size = bk at *
    refine CF.out.mono ?_
    rintro e V2 hp
    have he := hp.1
    subst he
    have hm1 := fun m q => twin_flow T7.out m q
    obtain ⟨bv1, ht1⟩ := T0.out.add FR.out (hm1 _ _).1 (fun b hb => ⟨((hm1 _ _).2 b hb).2, by simp⟩) hp
    obtain ⟨_, _, hbkk, hkk⟩ := hp
    have T1 := Lib.hid ht1
    have A8 := Lib.hid (Rowed.keep A7.out hkk (fun b hb e => by
      obtain ⟨q1, q2, cur, q3⟩ := Rowed.type A7.out hb
      rcases e with e | e
      · rw [e] at q3
        have := T0.out.book.blk.out
        rw [q3] at this
        simp only [Option.some.injEq, Obj.cells.injEq] at this
        exact absurd this.2.1 (by decide)
      · cases e))
    clear ht1 hbkk hkk CF A7 T7 T0 hm1
    have CF := Lib.hid (flows_any T1.out.book (by simp) ao LL.length ca)
    go_wp2_with fail
    refine CF.out.mono ?_
    rintro e V3 hp
    have he := hp.1
    subst he
    obtain ⟨ao1, pc2, hv2, hm2⟩ := rowed_flow A8.out
    simp only [Value.slice.injEq] at hv2
    obtain ⟨rfl, _, rfl⟩ := hv2
    obtain ⟨bv2, ht2⟩ := T1.out.add FR.out (hm2 _ _).1 (fun b hb => ⟨by have := ((hm2 _ _).2 b hb).1; have := HG.out; omega, fun q hq hc => by
      simp only [List.nil_append, List.mem_singleton] at hq
      subst hq
      have h1 : b = g := by cases hc; rfl
      have h2 := ((hm2 _ _).2 b hb).1
      have h3 := HG.out
      omega⟩) hp
    have T2' := Lib.hid ht2
    clear hp ht2 CF A8 T1 hm2
    have CV := Lib.hid (apart_any T2'.out.book (by simp) T2'.out.mem T2'.out.apart)
    go_wp2_with fail
    refine CV.out.mono ?_
    rintro e V4 ⟨rfl, ky⟩
    have B11 := Lib.hid (T2'.out.done FR.out ky)
    clear ky CV T2' FR
    go_wp2_with fail
    refine (LV.out V4).mono ?_
    rintro e V5 ⟨rfl, b9⟩
    have B12 := Lib.hid (B11.out.trans (b9.mono B11.out.size))
    clear b9
    go_wp2_with fail
    go_ret
    exact ⟨rfl, B12.out⟩

end Go.Proofs.Ytmfacfnbokadmaa
