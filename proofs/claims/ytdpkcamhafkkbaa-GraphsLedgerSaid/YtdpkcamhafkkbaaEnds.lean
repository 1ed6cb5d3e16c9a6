/-
  The program's ledgers: a map by ends, as a list of lines.
-/
import Derived.Test.YtdpkcamhafkkbaaMaps
import Derived.Test.YtdpkcamhafkkbaaLedMath4
namespace Go.Proofs.Ytdpkcamhafkkbaa
open Go.RowKit
set_option linter.unusedSimpArgs false
set_option linter.unusedVariables false

theorem endsRow : (86 : TypeId) < Try.prog.types.size := of_decide_eq_true (by kernel_rfl)
theorem dumpLaid : laidOutB Try.prog = true := by kernel_rfl
theorem endsLaw : Go.WideMaps.KeyLaw Try.prog 86 := deep_law_laid dumpLaid (m := 2) (by omega) endsRow (by kernel_rfl) (by rw [Try.underlying86])

def endsV (a b c : Int) : Value := .agg #[.int .u8 a, .int .u8 b, .int .u8 c]
def amtV (l d : Int) : Value := .agg #[.int .i64 l, .int .i64 d]
/-- A party, a currency: numbers of eight bits. -/
def U8 (n : Int) : Prop := 0 ≤ n ∧ n ≤ 255
def IsEnds (v : Value) : Prop := ∃ a b c, v = endsV a b c ∧ U8 a ∧ U8 b ∧ U8 c
theorem endsV_inj {a b c a' b' c' : Int} (h : endsV a b c = endsV a' b' c') : a = a' ∧ b = b' ∧ c = c' := by
  unfold endsV at h
  simp at h
  exact h
theorem keyLits_u8 {P : Program} {t : TypeId} (ht : P.underlying t = some (.int .u8)) (n : Nat) (a : Int) (w : (Lit.int .u8 a).wf = true) : P.keyLits (n + 1) t [.int .u8 a] = some [.int .u8 a] := by
  unfold Program.keyLits
  rw [ht]
  simp [w]
theorem u8_wf {a : Int} (h : U8 a) : (Lit.int .u8 a).wf = true := by
  obtain ⟨a1, a2⟩ := h
  simp [Lit.wf, IntKind.min, IntKind.max, IntKind.signed, IntKind.bits]; omega
theorem keyLits_ends (n : Nat) (a b c : Int) (wa : (Lit.int .u8 a).wf = true) (wb : (Lit.int .u8 b).wf = true) (wc : (Lit.int .u8 c).wf = true) : Try.prog.keyLits (n + 1 + 1) 86 [.int .u8 a, .int .u8 b, .int .u8 c] = some [.int .u8 a, .int .u8 b, .int .u8 c] := by
  have hs : Try.prog.cellsOf 86 = 3 := by kernel_rfl
  have h1 : Try.prog.cellsOf 33 = 1 := by kernel_rfl
  have h2 : Try.prog.cellsOf 55 = 1 := by kernel_rfl
  have l1 := keyLits_u8 Try.underlying33 n a wa
  have l2 := keyLits_u8 Try.underlying33 n b wb
  have l3 := keyLits_u8 Try.underlying55 n c wc
  have hu := Try.underlying86
  rw [Program.keyLits.eq_def]
  dsimp only
  rw [hu]
  dsimp only
  generalize Try.prog = P at *
  simp [hs, h1, h2, l1, l2, l3]
theorem ends_keyOf (a b c : Int) (ha : U8 a) (hb : U8 b) (hc : U8 c) : ∃ l, keyOf Try.prog 86 (endsV a b c) = some l := by
  have hk : Try.prog.keyType 86 = true := by kernel_rfl
  have hs : Try.prog.cellsOf 86 = 3 := by kernel_rfl
  obtain ⟨n, hn⟩ : ∃ n, Try.prog.types.size + 1 = n + 1 + 1 := by
    have h0 : 0 < Try.prog.types.size := Nat.lt_of_le_of_lt (Nat.zero_le _) endsRow
    exact ⟨Try.prog.types.size - 1, by omega⟩
  have hl := keyLits_ends n a b c (u8_wf ha) (u8_wf hb) (u8_wf hc)
  have hu := Try.underlying86
  have hf : (endsV a b c).formed Try.prog 86 = true := by simp [Value.formed, endsV, hu, hs]
  refine ⟨.string (keyBytes [.int .u8 a, .int .u8 b, .int .u8 c]), ?_⟩
  unfold keyOf
  rw [hu]
  dsimp only
  rw [hk, hf, hn, show (endsV a b c).cells.toList = [.int .u8 a, .int .u8 b, .int .u8 c] from rfl, hl]
  rfl
theorem endsOk : KeyOk Try.prog 86 IsEnds := KeyOk.of_keyed (Go.Maps.Keyed.of_law endsLaw) fun v ⟨a, b, c, e, ha, hb, hc⟩ => by subst e; exact ends_keyOf a b c ha hb hc
theorem zeroAmt (w : World) : (zeroValue 82).run Try.prog w = .ok (amtV 0 0) w := by kernel_rfl

end Go.Proofs.Ytdpkcamhafkkbaa
