/-
  BooksOf: the walk.
-/
import Derived.Test.YtdbdeodcldogmaaSame04
import Derived.Test.YtdbdeodcldogmaaLives04
import Derived.Test.YtdbdeodcldogmaaPB10
import Derived.Test.YtdbdeodcldogmaaSlIn
namespace Go.Proofs.Ytdbdeodcldogmaa
open Go.RowKit
set_option linter.unusedSimpArgs false
set_option linter.unusedVariables false

theorem twinned_blk {w : World} {base g : Nat} {e : TypeId} {size n : Nat} {xs marks : List Value} (h : Twinned w base g e size n xs marks) : ∃ cs : Array Value, Blk w g cs e ∧ n * size ≤ cs.size := by
  obtain ⟨_, h2⟩ := h
  rcases h2 with ⟨hv, _⟩ | ⟨g', cap, cur, hv, _, hg, hc, _, hs, _⟩
  · cases hv
  · cases hv
    refine ⟨cur, hg, ?_⟩
    rw [hs]
    exact Nat.mul_le_mul_right _ (by omega)
/-- Both answers: a book each, or the same error. -/
theorem ofO_cases (l : List Of) (nx : Int) : (l.length ≤ 32 ∧ okO nx l ∧ nx ≠ 0) ∨ (∃ er : Int, (er = 1 ∨ er = 9) ∧ (∀ w e w', POfPost w l nx e w' → e = .returned (.tuple #[.pointer none, .int .i64 er]) ∧ Below w.heap.size w w') ∧
    (∀ w e w', BOfPost w l nx e w' → e = .returned (.tuple #[.pointer none, .int .i64 er]) ∧ Below w.heap.size w w')) := by
  by_cases h1 : l.length ≤ 32
  · by_cases h2 : okO nx l ∧ nx ≠ 0
    · exact .inl ⟨h1, h2.1, h2.2⟩
    · refine .inr ⟨1, .inl rfl, ?_, ?_⟩
      · rintro w e w' ⟨hb, ⟨_, a, b, _⟩ | ⟨_, h⟩ | ⟨he, _⟩⟩
        · exact absurd ⟨a, b⟩ h2
        · omega
        · exact ⟨he, hb⟩
      · rintro w e w' ⟨hb, ⟨_, a, b, _⟩ | ⟨_, h⟩ | ⟨he, _⟩⟩
        · exact absurd ⟨a, b⟩ h2
        · omega
        · exact ⟨he, hb⟩
  · refine .inr ⟨9, .inr rfl, ?_, ?_⟩
    · rintro w e w' ⟨hb, ⟨h, _⟩ | ⟨he, _⟩ | ⟨_, h, _⟩⟩
      · omega
      · exact ⟨he, hb⟩
      · omega
    · rintro w e w' ⟨hb, ⟨h, _⟩ | ⟨he, _⟩ | ⟨_, h, _⟩⟩
      · omega
      · exact ⟨he, hb⟩
      · omega
/-- While the twin is spoilt: the books stay. -/
def SpoilB (w : World) (n g1 g r base base2 : Nat) (l : List Of) (N : Int) (vl vm : Value) (i : Value) (wr : World) : Prop :=
  ∃ (k : Nat) (cs : Array Value), k ≤ n ∧ i = .int .i64 k ∧ Blk wr g1 cs 39 ∧ n * 7 ≤ cs.size ∧ PB wr base g l N vl ∧ RefB wr base2 r l N vm ∧ Below w.heap.size w wr
theorem SpoilB.set {w wr : World} {n g1 g r base base2 k : Nat} {l : List Of} {N : Int} {vl vm : Value} {cs : Array Value} (hk : k < n) (h1 : Blk wr g1 cs 39) (h2 : n * 7 ≤ cs.size) (h4 : PB wr base g l N vl) (h5 : RefB wr base2 r l N vm) (h6 : Below w.heap.size w wr)
    (hb : g1 < base) (hb2 : g1 < base2) (hw : w.heap.size ≤ g1) (o : Nat) (v : Value) {i : Value} (hi : i = .int .i64 ((k + 1 : Nat) : Int)) : SpoilB w n g1 g r base base2 l N vl vm i (wr.setCell ⟨g1, o, none⟩ v) := by
  have kk := (Keep.refl (· = g1) wr).setCell (p := ⟨g1, o, none⟩) (.inl rfl) v
  refine ⟨k + 1, cs.setIfInBounds o v, hk, hi, h1.set o v, by simpa using h2, h4.keep kk (fun e => by have := h4.ge; omega) (fun b hb' e => by have := (owns_type h4.row hb').1; omega), ?_, h6.trans (kk.below h6.size (fun b hb e => by omega))⟩
  exact h5.keep kk (fun e => by have := h5.ge; omega) (fun b hb' e => by have := (owns_type h5.row hb').1; omega)
set_option maxHeartbeats 8000000 in
set_option maxRecDepth 100000 in
theorem bof_walk (a : Option Addr) (len cap : Nat) (l : List Of) (nx : Int) (w : World) (h : SlIn Of.vals 7 Of.Fits w a len cap l) (hx : (Lit.int .u64 nx).wf = true) :
    Calls Try.prog 4 #[.slice a len cap, .int .u64 nx] w fun e w' => e = .returned (.bool true) ∧ Below w.heap.size w w' := by
  obtain ⟨hx0, hx1⟩ := InU64.of_wf hx
  clear hx
  by_cases h50 : 50 < len
  · have q0 : decide (50 < (len : Int)) = true := by simp; omega
    have L := Lib.hid (lives04_any w)
    clear h h50
    go_enter Try.func4, Try.ntmps4
    go_wp2_with fail
    refine L.out.mono ?_
    rintro e w1 ⟨rfl, b1⟩
    have B1 := Lib.hid b1
    clear b1 L
    go_wp2_with fail
    go_ret
    exact ⟨rfl, B1.out⟩
  have q0 : decide (50 < (len : Int)) = false := by simp; omega
  have hr0 := h.reads (by omega)
  have hn := h.1
  have hll := h.2.1
  have hf := h.2.2.1
  subst hll
  have Q0 := Lib.hid hr0
  have HF := Lib.hid hf
  have HN := Lib.hid hn
  have hl50 : l.length ≤ 50 := by omega
  have TW := Lib.hid (TwinOffers_any hr0 hn (by omega))
  clear h h50 hn hf hr0
  go_enter Try.func4, Try.ntmps4
  go_wp2_with fail
  refine TW.out.mono ?_
  rintro e w1 ⟨g1, rfl, hg1, ht1, b1⟩
  have B1 := Lib.hid b1
  have T1 := Lib.hid ht1
  have Q1 := Lib.hid (Q0.out.below b1)
  have hgl := T1.out.cells.1
  have OF := Lib.hid (pofB_any (ht1.reads (by omega) (ofCells_len l)) HF.out hx0 hx1)
  clear ht1 b1 TW Q0
  rcases ofO_cases l nx with ⟨h32, hok, hnz⟩ | ⟨er, her, hA, hB⟩
  · have HOK := Lib.hid (And.intro hok hnz)
    clear hok hnz
    go_wp2_with fail
    refine OF.out.mono ?_
    rintro e w2 ⟨b2, ⟨_, _, _, g, vl, rfl, hp2⟩ | ⟨_, hk⟩ | ⟨_, _, hk⟩⟩
    rotate_left
    · omega
    · exact absurd HOK.out hk
    have B2 := Lib.hid (B1.out.trans (b2.mono B1.out.size))
    have P2 := Lib.hid hp2
    have T2 := Lib.hid (T1.out.below b2)
    have Q2 := Lib.hid (Q1.out.below b2)
    have hgl2 : g1 < w2.heap.size := Nat.lt_of_lt_of_le hgl b2.size
    have RO := Lib.hid (bof_any (nx := nx) Q2.out HN.out (by omega))
    clear hp2 b2 OF Q1 T1
    go_wp2_with fail
    refine RO.out.mono ?_
    rintro e w3 ⟨b3, ⟨_, _, _, r, vm, rfl, hr3⟩ | ⟨_, hk⟩ | ⟨_, _, hk⟩⟩
    rotate_left
    · omega
    · exact absurd HOK.out hk
    have B3 := Lib.hid (B2.out.trans (b3.mono B2.out.size))
    have P3 := Lib.hid (P2.out.below b3)
    have R3 := Lib.hid hr3
    have T3 := Lib.hid (T2.out.below b3)
    have Q3 := Lib.hid (Q2.out.below b3)
    have LP := Lib.hid (LeftOffers_any (by omega) T3.out Q3.out)
    rw [decide_eq_true rfl] at LP
    clear hr3 b3 RO P2 Q2 T2
    go_wp2_with fail
    refine LP.out.mono ?_
    rintro e w4 ⟨rfl, b4⟩
    have B4 := Lib.hid (B3.out.trans (b4.mono B3.out.size))
    have P4 := Lib.hid (P3.out.below b4)
    have R4 := Lib.hid (R3.out.below b4)
    obtain ⟨cs0, hcs0, hcn⟩ := twinned_blk (T3.out.below b4)
    have K4 := Lib.hid hcs0
    clear b4 LP Q3 T3 P3 R3 hcs0
    go_wp2_with fail
    go_loopw [10] (SpoilB w l.length g1 g r w1.heap.size w2.heap.size l nx vl vm) (fun i _ => l.length - (intOf i).toNat)
    case atStart => exact ⟨0, cs0, Nat.zero_le _, rfl, K4.out, hcn, P4.out, R4.out, B4.out⟩
    case round =>
      clear K4 P4 R4 B4 hcn
      obtain ⟨k, cs, hk, rfl, hcs, hn, hpk, hrk, hbk⟩ := hrel
      have K1 := Lib.hid hcs
      have PK := Lib.hid hpk
      have RK := Lib.hid hrk
      have BK := Lib.hid hbk
      clear hcs hpk hrk hbk
      by_cases hkl : k < l.length
      · have ks := K1.out.lt
        have kf := K1.out.frozen (k * 7 + 4)
        have kc := K1.out.cell (k * 7 + 4)
        rw [Array.getElem?_eq_getElem (by omega)] at kc
        have ST := Lib.hid (fun o v i hi => SpoilB.set (w := w) (i := i) hkl K1.out hn PK.out RK.out BK.out hgl hgl2 hg1 o v hi)
        generalize cs[k * 7 + 4]'(by omega) = cv at *
        go_wp2_with fail
        go_roundw
        case rel => exact ST.out _ _ _ (by first | rfl | go_num)
        case measure => simp [intOf]; omega
      · have SA := Lib.hid (same4_any PK.out RK.out (by omega))
        go_wp2_with fail
        refine SA.out.mono ?_
        rintro e w8 ⟨rfl, b8⟩
        have B8 := Lib.hid (BK.out.trans (b8.mono BK.out.size))
        have L := Lib.hid (lives04_any w8)
        clear b8 SA
        go_wp2_with fail
        refine L.out.mono ?_
        rintro e w9 ⟨rfl, b9⟩
        have B9 := Lib.hid (B8.out.trans (b9.mono B8.out.size))
        clear b9 L
        go_wp2_with fail
        go_ret
        exact ⟨rfl, B9.out⟩
  · have her0 : (er == 0) = false := by rcases her with rfl | rfl <;> rfl
    have her1 : decide (er = 0) = false := by rcases her with rfl | rfl <;> rfl
    have her2 : (er != 0) = true := by rcases her with rfl | rfl <;> rfl
    clear her
    go_wp2_with fail
    refine (OF.out.mono (hA _)).mono ?_
    rintro e w2 ⟨rfl, b2⟩
    have B2 := Lib.hid (B1.out.trans (b2.mono B1.out.size))
    have T2 := Lib.hid (T1.out.below b2)
    have Q2 := Lib.hid (Q1.out.below b2)
    have RO := Lib.hid ((bof_any (nx := nx) Q2.out HN.out (by omega)).mono (hB _))
    clear b2 OF Q1 T1 hA hB
    go_wp2_with fail
    refine RO.out.mono ?_
    rintro e w3 ⟨rfl, b3⟩
    have B3 := Lib.hid (B2.out.trans (b3.mono B2.out.size))
    have T3 := Lib.hid (T2.out.below b3)
    have Q3 := Lib.hid (Q2.out.below b3)
    have LP := Lib.hid (LeftOffers_any (by omega) T3.out Q3.out)
    rw [decide_eq_true rfl] at LP
    clear b3 RO Q2 T2
    go_wp2_with fail
    refine LP.out.mono ?_
    rintro e w4 ⟨rfl, b4⟩
    have B4 := Lib.hid (B3.out.trans (b4.mono B3.out.size))
    have L := Lib.hid (lives04_any w4)
    clear b4 LP Q3 T3
    go_wp2_with fail
    refine L.out.mono ?_
    rintro e w5 ⟨rfl, b5⟩
    have B5 := Lib.hid (B4.out.trans (b5.mono B4.out.size))
    clear b5 L
    go_wp2_with fail
    go_ret
    exact ⟨rfl, B5.out⟩

end Go.Proofs.Ytdbdeodcldogmaa
