/-
  Pieces of one proof, without what is not wanted: FillMath, FillsSay, FillFacts, Ask10.
-/
import Derived.Test.YtbieomgpfhloeaaGreatF07
import Derived.Test.YtbieomgpfhloeaaGreatF15
import Derived.Test.YtbieomgpfhloeaaGreatF17
import Derived.Test.YtbieomgpfhloeaaGreatF18
import Derived.ChangeArms
import Derived.Lib.SmallJoins
set_option linter.unusedSimpArgs false
set_option linter.unusedVariables false
namespace Go.Proofs.YtbieomgpfhloeaaGreat
def noFill : Value := .agg #[.int .u64 0, .int .u8 0, .int .u8 0, .int .i64 0, .int .i64 0]
def mayO (o : Of) (ps : List Int) (tk pt want most m1 m2 : Int) : Int := if o.ow = tk ∨ o.ow ∉ ps ∨ tk ∉ ps ∨ pt ∉ ps ∨ want < 1 ∨ most < 1 then 0 else
 min (if pt = o.ow then min want o.lf else min (min want o.lf) m1) (fitN (min (min most 1099511627776) m2) o.nu o.de)
def mayV (l : List Of) (ps : List Int) (s tk pt want most m1 m2 : Int) : Int := match findO l s with
 | none => 0
 | some o => mayO o ps tk pt want most m1 m2
def Goes (ps : List Int) (ls : List Ln) (o : Of) (tk pt m1 m2 : Int) : Prop :=
 (∃ μ, IsRoute (roomF ps ls o.sl) 4398046511104 o.ow pt mostW μ ∧ mostW - μ.left = m1) ∧ ∃ μ, IsRoute (roomF ps ls o.bu) 4398046511104 tk o.ow mostW μ ∧ mostW - μ.left = m2
theorem goes_ends {ps : List Int} {ls : List Ln} (h : LInv ps ls) (o : Of) (tk pt : Int) : ∃ m1 m2, Goes ps ls o tk pt m1 m2 := by
 obtain ⟨μ, h1⟩ := route_ends (roomF_inv h o.sl) o.ow pt mostW
 obtain ⟨ν, h2⟩ := route_ends (roomF_inv h o.bu) tk o.ow mostW
 exact ⟨_, _, ⟨μ, h1, rfl⟩, ν, h2, rfl⟩
theorem most_any_bd {f : Int → Int → Int} (h0 : GInv f 4398046511104) {s t : Int} {μ : RS} (h : IsRoute f 4398046511104 s t mostW μ) : 0 ≤ mostW - μ.left ∧ mostW - μ.left ≤ 1125899906842624 := by
 by_cases hi : inP s ∧ inP t ∧ s ≠ t
 ·exact most_bd h h0 hi.2.2
 ·rw [route_out h0 hi h]
  show 0 ≤ mostW - mostW ∧ mostW - mostW ≤ 1125899906842624
  omega
theorem Goes.bd {ps : List Int} {ls : List Ln} (h : LInv ps ls) {o : Of} {tk pt m1 m2 : Int} (g : Goes ps ls o tk pt m1 m2) : (0 ≤ m1 ∧ m1 ≤ 1125899906842624) ∧ 0 ≤ m2 ∧ m2 ≤ 1125899906842624 := by
 obtain ⟨⟨μ, h1, rfl⟩, ν, h2, rfl⟩ := g
 exact ⟨most_any_bd (roomF_inv h _) h1, most_any_bd (roomF_inv h _) h2⟩
def doOk (l : List Of) (ps : List Int) (s tk pt n m1 m2 : Int) : Prop := 1 ≤ n ∧ n ≤ mayV l ps s tk pt n 1099511627776 m1 m2
theorem doOk.facts {l : List Of} {ps : List Int} {s tk pt n m1 m2 : Int} (h : doOk l ps s tk pt n m1 m2) :
  ∃ o, findO l s = some o ∧ (o.ow ≠ tk ∧ o.ow ∈ ps ∧ tk ∈ ps ∧ pt ∈ ps) ∧ n ≤ o.lf ∧ (pt = o.ow ∨ n ≤ m1) ∧ n ≤ fitN (min 1099511627776 m2) o.nu o.de := by
 obtain ⟨h1, h2⟩ := h
 unfold mayV at h2
 cases hf : findO l s with
 | none => rw [hf] at h2; simp at h2; omega
 | some o =>
  rw [hf] at h2
  simp only [mayO] at h2
  split at h2
  ·omega
  ·rename_i hb
   refine ⟨o, rfl, ⟨fun h => hb (.inl h), Classical.byContradiction fun h => hb (.inr (.inl h)), Classical.byContradiction fun h => hb (.inr (.inr (.inl h))), Classical.byContradiction fun h => hb (.inr (.inr (.inr (.inl h))))⟩, ?_, ?_, ?_⟩
   ·split at h2 <;> omega
   ·split at h2
    ·rename_i h; exact .inl h
    ·exact .inr (by omega)
   ·have e : min (min 1099511627776 1099511627776) m2 = min (1099511627776 : Int) m2 := by omega
    rw [e] at h2
    omega
theorem up_fits {n g nu de : Int} (hm : mayB nu de = true) (h0 : 0 ≤ g) (hg : g ≤ 1099511627776) (hn : 0 ≤ n) (h : n ≤ fitN g nu de) :
  upV2 n nu de = .tuple #[.int .i64 (upN (n * nu) de), .int .i64 0] ∧ 0 ≤ upN (n * nu) de ∧ upN (n * nu) de ≤ g := by
 unfold fitN at h
 rw [if_pos ⟨hm, h0⟩] at h
 obtain ⟨h1, h2, h3, h4, _⟩ := may_bd hm
 have hu := (up_le n nu g de hn h0 h1 h2 (by omega)).2 (by omega)
 have h5 : 0 ≤ upN (n * nu) de := by
  have := Int.ediv_nonneg (Int.mul_nonneg hn (show 0 ≤ nu by omega)) (show 0 ≤ de by omega)
  unfold upN; split <;> omega
 refine ⟨?_, h5, hu⟩
 have hi : In64 (upN (n * nu) de) := ⟨by omega, by omega⟩
 rw [upV2, hm, if_pos rfl, upV, if_neg (by omega), ans_of _ hi]
def Filled (ps : List Int) (ls : List Ln) (o : Of) (tk pt n x : Int) (ls' : List Ln) : Prop :=
 ∃ ls1 τ, ((pt = o.ow ∧ ls1 = ls) ∨ (pt ≠ o.ow ∧ ∃ σ, IsRoute (roomF ps ls o.sl) 4398046511104 o.ow pt n σ ∧ ls1 = payL ps ls o.ow pt o.sl n σ)) ∧ IsRoute (roomF ps ls1 o.bu) 4398046511104 tk o.ow x τ ∧ ls' = payL ps ls1 tk o.ow o.bu x τ
theorem Filled.inv {ps : List Int} {ls : List Ln} {o : Of} {tk pt n x : Int} {l1 : List Ln} (h : Filled ps ls o tk pt n x l1) (hI : LInv ps ls) : LInv ps l1 := by
 obtain ⟨a, σ, ha, hσ, rfl⟩ := h
 refine payL_inv ?_ _ _ _ _ _
 rcases ha with ⟨h1, rfl⟩ | ⟨h1, α, h2, rfl⟩
 ·exact hI
 ·exact payL_inv hI _ _ _ _ _
end Go.Proofs.YtbieomgpfhloeaaGreat
namespace Go.Proofs.YtbieomgpfhloeaaGreat
open Go.RowKit
def FMayProg : Prop := ∀ {w : World} {base G M gb : Nat} {ps : List Int} {ls : List Ln} {l : List Of} {N : Int} {vb : Value}, LedM w G M ps ls → LInv ps ls → PB w base gb l N vb → BInv l N →
 ∀ (s tk pt want most m1 m2 : Int), (0 ≤ s ∧ s ≤ 18446744073709551615) → In8 tk → In8 pt → In64 want → In64 most → (∀ o, findO l s = some o → Goes ps ls o tk pt m1 m2) →
 Calls Tryz.prog 13 #[.agg #[.pointer (some ⟨G, 0, none⟩), .pointer (some ⟨gb, 0, none⟩)], .int .u64 s, .int .u8 tk, .int .u8 pt, .int .i64 want, .int .i64 most] w fun e w' => e = .returned (.int .i64 (mayV l ps s tk pt want most m1 m2)) ∧ Below w.heap.size w w'
def FDoPost (w : World) (base G M gb : Nat) (ps : List Int) (ls : List Ln) (l : List Of) (N : Int) (vb : Value) (s tk pt n m1 m2 : Int) (e : Ending) (w' : World) : Prop :=
 (¬ doOk l ps s tk pt n m1 m2 ∧ e = .returned (.tuple #[noFill, .int .i64 1]) ∧ Below w.heap.size w w') ∨
 (doOk l ps s tk pt n m1 m2 ∧ ∃ o x ls' vb', findO l s = some o ∧ x = upN (n * o.nu) o.de ∧ Filled ps ls o tk pt n x ls' ∧ e = .returned (.tuple #[.agg #[.int .u64 s, .int .u8 tk, .int .u8 pt, .int .i64 n, .int .i64 x], .int .i64 0]) ∧
  LedM w' G M ps ls' ∧ PB w' base gb (takeL l s n) N vb' ∧ Keep (fun k => k = G ∨ k = M ∨ Foot gb vb k) w w' ∧ Moved w vb vb')
def FDoProg : Prop := ∀ {w : World} {base G M gb : Nat} {ps : List Int} {ls : List Ln} {l : List Of} {N : Int} {vb : Value}, LedM w G M ps ls → LInv ps ls → PB w base gb l N vb → BInv l N →
 ∀ (s tk pt n m1 m2 : Int), (0 ≤ s ∧ s ≤ 18446744073709551615) → In8 tk → In8 pt → In64 n → (∀ o, findO l s = some o → Goes ps ls o tk pt m1 m2) →
 Calls Tryz.prog 14 #[.agg #[.pointer (some ⟨G, 0, none⟩), .pointer (some ⟨gb, 0, none⟩)], .int .u64 s, .int .u8 tk, .int .u8 pt, .int .i64 n] w (FDoPost w base G M gb ps ls l N vb s tk pt n m1 m2)
def FCopyPost (w : World) (ps : List Int) (ls : List Ln) (l : List Of) (N : Int) (e : Ending) (w' : World) : Prop :=
 ∃ G M gb vb, e = .returned (.agg #[.pointer (some ⟨G, 0, none⟩), .pointer (some ⟨gb, 0, none⟩)]) ∧ LedM w' G M ps ls ∧ PB w' w.heap.size gb l N vb ∧ w.heap.size ≤ G ∧ w.heap.size ≤ M ∧ Below w.heap.size w w'
def FCopyProg : Prop := ∀ {w : World} {base G M gb : Nat} {ps : List Int} {ls : List Ln} {l : List Of} {N : Int} {vb : Value}, LedM w G M ps ls → LInv ps ls → PB w base gb l N vb → BInv l N →
 Calls Tryz.prog 9 #[.agg #[.pointer (some ⟨G, 0, none⟩), .pointer (some ⟨gb, 0, none⟩)]] w (FCopyPost w ps ls l N)
def Lives10 : Prop := ∀ w : World, Calls Tryz.prog 6 #[] w fun e w' => e = .returned (.bool true) ∧ Below w.heap.size w w'
end Go.Proofs.YtbieomgpfhloeaaGreat
namespace Go.Proofs.YtbieomgpfhloeaaGreat
theorem fitN_nn {g nu de : Int} : 0 ≤ fitN g nu de := by
 unfold fitN
 split
 ·rename_i h
  have := may_bd h.1
  have := Int.ediv_nonneg (Int.mul_nonneg h.2 (show 0 ≤ de by omega)) (show 0 ≤ nu by omega)
  omega
 ·omega
theorem fitN_mono {a b nu de : Int} (h0 : 0 ≤ a) (h : a ≤ b) : fitN a nu de ≤ fitN b nu de := by
 unfold fitN
 by_cases hm : mayB nu de = true
 ·rw [if_pos ⟨hm, h0⟩, if_pos ⟨hm, by omega⟩]
  have hb := may_bd hm
  have h1 : a * de ≤ b * de := Int.mul_le_mul_of_nonneg_right h (by omega)
  have := Int.ediv_le_ediv (show 0 < nu by omega) h1
  omega
 ·rw [if_neg (fun q => hm q.1), if_neg (fun q => hm q.1)]; omega
theorem may_do {l : List Of} {ps : List Int} {s tk pt want most m1 m2 n : Int} (h1 : 0 ≤ m1) (h2 : 0 ≤ m2) (hn : mayV l ps s tk pt want most m1 m2 = n) (h : 1 ≤ n) :
  doOk l ps s tk pt n m1 m2 ∧ n ≤ want ∧ 1 ≤ most ∧ ∃ o, findO l s = some o ∧ n ≤ fitN (min (min most 1099511627776) m2) o.nu o.de := by
 unfold mayV at hn
 cases hf : findO l s with
 | none => rw [hf] at hn; simp at hn; omega
 | some o =>
  rw [hf] at hn
  simp only [mayO] at hn
  by_cases hb : o.ow = tk ∨ o.ow ∉ ps ∨ tk ∉ ps ∨ pt ∉ ps ∨ want < 1 ∨ most < 1
  ·rw [if_pos hb] at hn; omega
  ·rw [if_neg hb] at hn
   have hb2 : ¬ (o.ow = tk ∨ o.ow ∉ ps ∨ tk ∉ ps ∨ pt ∉ ps ∨ n < 1 ∨ (1099511627776 : Int) < 1) := by
    intro q
    rcases q with q | q | q | q | q | q
    ·exact hb (.inl q)
    ·exact hb (.inr (.inl q))
    ·exact hb (.inr (.inr (.inl q)))
    ·exact hb (.inr (.inr (.inr (.inl q))))
    ·omega
    ·omega
   have hmo : ¬ most < 1 := fun q => hb (.inr (.inr (.inr (.inr (.inr q)))))
   have hmn := fitN_mono (nu := o.nu) (de := o.de) (a := min (min most 1099511627776) m2) (b := min (min 1099511627776 1099511627776) m2) (by omega) (by omega)
   have hle : n ≤ want ∧ n ≤ fitN (min (min most 1099511627776) m2) o.nu o.de := by split at hn <;> omega
   refine ⟨⟨h, ?_⟩, hle.1, by omega, o, rfl, hle.2⟩
   unfold mayV
   rw [hf]
   simp only [mayO]
   rw [if_neg hb2]
   split at hn
   ·rename_i hp; rw [if_pos hp]; omega
   ·rename_i hp; rw [if_neg hp]; omega
theorem take_facts {l : List Of} {N : Int} (h : BInv l N) {s n : Int} {o : Of} (hf : findO l s = some o) (h1 : 1 ≤ n) (h2 : n ≤ o.lf) :
  takeL l s n = setO l s (o.lf - n) := by
 unfold takeL takeE leftO
 rw [hf]
 simp only []
 rw [if_pos (show (if n < 1 ∨ o.lf < n then (1 : Int) else 0) = 0 from if_neg (by omega))]
theorem posO_of {l : List Of} {s : Int} {o : Of} (hf : findO l s = some o) : ∃ h : posO l s < l.length, l[posO l s] = o := by
 by_cases h : posO l s < l.length
 ·refine ⟨h, ?_⟩
  have := posO_found h
  rw [hf] at this
  exact (Option.some.inj this).symm
 ·rw [posO_missed h] at hf; cases hf
theorem take_find {l : List Of} {N : Int} (h : BInv l N) {s n : Int} {o : Of} (hf : findO l s = some o) (h1 : 1 ≤ n) (h2 : n ≤ o.lf) :
  findO (takeL l s n) s = (if n < o.lf then some { o with lf := o.lf - n } else none) ∧ (l.length : Int) ≤ (takeL l s n).length + 1 ∧ (takeL l s n).length ≤ l.length := by
 obtain ⟨hp, hq⟩ := posO_of hf
 rw [take_facts h hf h1 h2]
 obtain ⟨a1, a2, a3⟩ := h.others hp
 by_cases hlt : n < o.lf
 ·rw [if_pos hlt, setO_put h (by omega) hp, hq]
  refine ⟨?_, by simp; omega, by simp⟩
  refine findO_at (k := posO l s) (by simpa using hp) (fun x hx => ?_) ?_ |>.trans ?_
  ·rw [List.take_set_of_le (Nat.le_refl _)] at hx
   have := (a1 x hx).1
   simpa using this
  ·simp only [List.getElem_set_self]
   rw [hq] at a3
   simpa using a3
  ·simp only [List.getElem_set_self]
 ·have h0 : o.lf - n = 0 := by omega
  rw [if_neg hlt, h0, setO_erase h hp]
  refine ⟨?_, by rw [List.length_eraseIdx_of_lt hp]; omega, by rw [List.length_eraseIdx_of_lt hp]; omega⟩
  unfold findO
  rw [List.find?_eq_none]
  intro x hx
  rw [List.eraseIdx_eq_take_drop_succ] at hx
  rcases List.mem_append.1 hx with hx | hx
  ·simpa using (a1 x hx).1
  ·simpa using (a2 x hx).1
theorem pay_goes {ps : List Int} {ls : List Ln} (hI : LInv ps ls) {a b c n m : Int} {σ μ : RS} (ha : a ∈ ps) (hb : b ∈ ps) (hab : a ≠ b) (hc : 1 ≤ c ∧ c ≤ 8) (h1 : 1 ≤ n) (h2 : n ≤ 1099511627776)
  (hσ : IsRoute (roomF ps ls c) 4398046511104 a b n σ) (hμ : IsRoute (roomF ps ls c) 4398046511104 a b mostW μ) (hm : mostW - μ.left = m) (hnm : n ≤ m) :
  payE ps a b c n σ = 0 ∧ payL ps ls a b c n σ = pushAll ps c ls σ.out ∧ n - σ.left = n := by
 have pa := hI.bd a ha
 have pb := hI.bd b hb
 have MIN := route_min hσ hμ (roomF_inv hI c) pa pb hab h1
 rw [hm] at MIN
 have hg : n - σ.left = n := by rw [MIN]; omega
 have PE : payE ps a b c n σ = 0 := by
  unfold payE
  rcases wrong_cases (fun p => decide (p ∈ ps)) a b c n (n - σ.left) with ⟨_, q⟩ | ⟨_, _, q⟩ | ⟨_, _, _, _, q⟩ | ⟨q, _⟩
  ·exact absurd ⟨pa, pb, hab, hc.1, hc.2, h1, h2⟩ q
  ·rcases q with q | q
   ·exact absurd ha (by simpa using q)
   ·exact absurd hb (by simpa using q)
  ·omega
  ·exact q
 exact ⟨PE, by unfold payL; rw [if_pos PE], hg⟩
theorem pay_pos {ps : List Int} {ls : List Ln} (hI : LInv ps ls) {a b c n : Int} {σ : RS} (hσ : IsRoute (roomF ps ls c) 4398046511104 a b n σ) (hg : n - σ.left = n) (p d : Int) :
  posL (pushAll ps c ls σ.out) p d = posL ls p d + (if d = c then (if b = p then n else 0) - (if a = p then n else 0) else 0) := by
 rw [pushAll_pos p σ.out hI hσ.good.1 d, hσ.net p, hg]
def fillBy (o : Of) (tk pt n x p c : Int) : Int :=
 (((if c = o.sl ∧ p = o.ow then -n else 0) + (if c = o.sl ∧ p = pt then n else 0)) + (if c = o.bu ∧ p = tk then -x else 0)) + (if c = o.bu ∧ p = o.ow then x else 0)
theorem filled_facts {ps : List Int} {ls ls' : List Ln} (hI : LInv ps ls) {l : List Of} {N : Int} (hJ : BInv l N) {s tk pt n m1 m2 x : Int} {o : Of} (hf : findO l s = some o) (hG : Goes ps ls o tk pt m1 m2) (hd : doOk l ps s tk pt n m1 m2) (hx : x = upN (n * o.nu) o.de) (hF : Filled ps ls o tk pt n x ls') :
  limL ls = limL ls' ∧ (∀ p c, posL ls' p c = posL ls p c + fillBy o tk pt n x p c) ∧ 1 ≤ x ∧ x ≤ 1099511627776 ∧ x ≤ m2 := by
 obtain ⟨o', hf', ⟨k1, k2, k3, k4⟩, k5, k6, k7⟩ := hd.facts
 rw [hf] at hf'
 cases hf'
 have hB := hG.bd hI
 obtain ⟨⟨μ, hμ, em⟩, ν, hν, en⟩ := hG
 obtain ⟨_, ⟨s1, s2⟩, ⟨b1, b2⟩, hsb, ⟨l1, l2⟩, hm⟩ := hJ.may o (findO_mem hf).1
 have hn1 := hd.1
 have hb := may_bd hm
 obtain ⟨u1, u2, u3⟩ := up_fits hm (g := min 1099511627776 m2) (by omega) (by omega) (by omega) k7
 rw [← hx] at u2 u3
 have hx1 : 1 ≤ x := by
  have hp : 1 ≤ n * o.nu := by have := Int.mul_le_mul hn1 hb.1 (by omega) (by omega); omega
  rw [hx]
  unfold upN
  have h0 : 0 ≤ n * o.nu / o.de := Int.ediv_nonneg (by omega) (by omega)
  split
  ·rename_i h
   have hd2 := Int.mul_ediv_add_emod (n * o.nu) o.de
   rw [h] at hd2
   rcases Int.lt_or_le (n * o.nu / o.de) 1 with k | k
   ·have : n * o.nu / o.de = 0 := by omega
    rw [this] at hd2; omega
   ·exact k
  ·omega
 obtain ⟨ls1, τ, hA, hτ, rfl⟩ := hF
 have hroom : LInv ps ls1 ∧ roomF ps ls1 o.bu = roomF ps ls o.bu ∧ limL ls = limL ls1 ∧ ∀ p c, posL ls1 p c = posL ls p c + ((if c = o.sl ∧ p = o.ow then -n else 0) + (if c = o.sl ∧ p = pt then n else 0)) := by
  rcases hA with ⟨hp, rfl⟩ | ⟨hp, σ, hσ, rfl⟩
  ·refine ⟨hI, rfl, rfl, fun p c => ?_⟩
   subst hp
   by_cases h : c = o.sl ∧ p = o.ow
   ·rw [if_pos h, if_pos h]; omega
   ·rw [if_neg h, if_neg h]; omega
  ·have hn : n ≤ m1 := by rcases k6 with h | h; exact absurd h hp; exact h
   obtain ⟨e1, e2, e3⟩ := pay_goes hI k2 k4 (fun e => hp e.symm) ⟨s1, s2⟩ hn1 (by omega) hσ hμ em hn
   rw [e2]
   refine ⟨pushAll_inv _ hI, pushAll_else hsb _ hI, (pushAll_lims _ hI).symm, fun p c => ?_⟩
   rw [pay_pos hI hσ e3]
   clear hμ hν hσ hτ hm hx hb u1
   repeat' split
   all_goals omega
 obtain ⟨hI1, hr, hl, hpos⟩ := hroom
 rw [hr] at hτ
 rw [← hr] at hν hτ
 obtain ⟨e1, e2, e3⟩ := pay_goes hI1 k3 k2 (fun e => k1 e.symm) ⟨b1, b2⟩ hx1 (by omega) hτ hν en (by omega)
 rw [e2]
 refine ⟨hl.trans (pushAll_lims _ hI1).symm, fun p c => ?_, hx1, by omega, by omega⟩
 rw [pay_pos hI1 hτ e3, hpos]
 unfold fillBy
 generalize (if c = o.sl ∧ p = o.ow then -n else 0) + (if c = o.sl ∧ p = pt then n else 0) = S
 clear hμ hν hτ hm hx hb u1 hpos
 repeat' split
 all_goals omega
theorem mayV_bd {l : List Of} {ps : List Int} {N s tk pt want most m1 m2 : Int} (hJ : BInv l N) (h1 : 0 ≤ m1) (h2 : 0 ≤ m2) : In64 (mayV l ps s tk pt want most m1 m2) := by
 unfold mayV
 cases hf : findO l s with
 | none => exact ⟨by simp, by simp⟩
 | some o =>
  obtain ⟨_, _, _, _, ⟨l1, l2⟩, _⟩ := hJ.may o (findO_mem hf).1
  simp only [mayO]
  split
  ·exact ⟨by omega, by omega⟩
  ·rename_i hb
   have hf0 : 0 ≤ fitN (min (min most 1099511627776) m2) o.nu o.de := by
    unfold fitN
    split
    ·rename_i h
     have := may_bd h.1
     have := Int.ediv_nonneg (Int.mul_nonneg h.2 (show 0 ≤ o.de by omega)) (show 0 ≤ o.nu by omega)
     have := Int.ediv_nonneg (Int.mul_nonneg h.2 (show 0 ≤ o.nu by omega)) (show 0 ≤ o.de by omega)
     omega
    ·omega
   generalize fitN (min (min most 1099511627776) m2) o.nu o.de = q at *
   exact ⟨by split <;> omega, by split <;> omega⟩
theorem goes_some {ps : List Int} {ls : List Ln} (hI : LInv ps ls) (l : List Of) (s tk pt : Int) : ∃ m1 m2, (∀ o, findO l s = some o → Goes ps ls o tk pt m1 m2) ∧ 0 ≤ m1 ∧ 0 ≤ m2 := by
 cases hf : findO l s with
 | none => exact ⟨0, 0, (fun o h => by cases h), by omega, by omega⟩
 | some o =>
  obtain ⟨m1, m2, g⟩ := goes_ends hI o tk pt
  have := g.bd hI
  exact ⟨m1, m2, (fun o' h => by cases h; exact g), by omega, by omega⟩
end Go.Proofs.YtbieomgpfhloeaaGreat
namespace Go.Proofs.YtbieomgpfhloeaaGreat
open Go.RowKit Go.ChangeShapes Go.WideShapes Go.Deep Go.Joins
structure Wd where
 a1 : Option Addr
 n1 : Nat
 c1 : Nat
 xs : List Ac
 a2 : Option Addr
 n2 : Nat
 c2 : Nat
 os : List Of
structure Wd.In (x : Wd) (w : World) : Prop where
 acts : ActsIn w x.a1 x.n1 x.c1 x.xs
 offs : SlIn Of.vals 7 Of.Fits w x.a2 x.n2 x.c2 x.os
structure Af where
 se : Int
 tk : Int
 pt : Int
 n : Int
 mo : Int
 fu : Bool
def Af.vals (x : Af) : List Value := [.int .u64 x.se, .int .u8 x.tk, .int .u8 x.pt, .int .i64 x.n, .int .i64 x.mo, .bool x.fu]
structure Af.Fits (x : Af) : Prop where
 se : 0 ≤ x.se ∧ x.se ≤ 18446744073709551615
 tk : In8 x.tk
 pt : In8 x.pt
 n : In64 x.n
 mo : In64 x.mo
section
variable {H : Type} {enc : TypeId × Value → H} {P : Program} {w : World} {base : Nat} {spare : Nat → Bool} {held : Bool}
theorem bool_of {fs : Array Field} {xs : List (DataW H × List MemPlace)} {n : Nat} {cs : List Value} (hxl : xs.length = fs.size) (hf : ∀ (j : Nat) (f : Field), fs[j]? = some f → DataW.trod enc P w base spare held n f.type ((cs.drop f.offset).take (P.cellsOf f.type)) = xs[j]?) {j o : Nat} {f : Field} (hj : fs[j]? = some f) (ho : f.offset = o) (hc : P.cellsOf f.type = 1) (hk : P.underlying f.type = some .bool) (hl : o < cs.length) :
  ∃ b, cs[o]? = some (.bool b) := by
 have h1 := hf j f hj
 rw [ho, hc, List.drop_eq_getElem_cons hl] at h1
 have hjf : j < fs.size := (Array.getElem?_eq_some_iff.1 hj).1
 rw [List.getElem?_eq_getElem (by omega : j < xs.length)] at h1
 obtain ⟨b, hb, _⟩ := DataW.trod_bool hk h1
 refine ⟨b, ?_⟩
 rw [List.getElem?_eq_getElem hl]
 have hb' : [cs[o]] = [Value.bool b] := hb
 exact congrArg some (List.cons.inj hb').1
theorem ask10_of {t : TypeId} {f0 f1 f2 f3 f4 f5 : Field} (hu : P.underlying t = some (.struct #[f0, f1, f2, f3, f4, f5])) (hC : P.cellsOf t = 6)
  (o : f0.offset = 0 ∧ f1.offset = 1 ∧ f2.offset = 2 ∧ f3.offset = 3 ∧ f4.offset = 4 ∧ f5.offset = 5) (c : P.cellsOf f0.type = 1 ∧ P.cellsOf f1.type = 1 ∧ P.cellsOf f2.type = 1 ∧ P.cellsOf f3.type = 1 ∧ P.cellsOf f4.type = 1 ∧ P.cellsOf f5.type = 1)
  (k : P.underlying f0.type = some (.int .u64) ∧ P.underlying f1.type = some (.int .u8) ∧ P.underlying f2.type = some (.int .u8) ∧ P.underlying f3.type = some (.int .i64) ∧ P.underlying f4.type = some (.int .i64) ∧ P.underlying f5.type = some .bool)
  {fuel : Nat} {cs : List Value} {x : DataW H × List MemPlace} (h : DataW.trod enc P w base spare held fuel t cs = some x) : ∃ x : Af, x.Fits ∧ cs = x.vals := by
 obtain ⟨xs, n, _, _, hlen, hxl, hf⟩ := DataW.trod_struct hu h
 rw [hC] at hlen
 obtain ⟨m0, e0, w0⟩ := num_of hxl hf (j := 0) rfl o.1 c.1 k.1 (by omega)
 obtain ⟨m1, e1, w1⟩ := num_of hxl hf (j := 1) rfl o.2.1 c.2.1 k.2.1 (by omega)
 obtain ⟨m2, e2, w2⟩ := num_of hxl hf (j := 2) rfl o.2.2.1 c.2.2.1 k.2.2.1 (by omega)
 obtain ⟨m3, e3, w3⟩ := num_of hxl hf (j := 3) rfl o.2.2.2.1 c.2.2.2.1 k.2.2.2.1 (by omega)
 obtain ⟨m4, e4, w4⟩ := num_of hxl hf (j := 4) rfl o.2.2.2.2.1 c.2.2.2.2.1 k.2.2.2.2.1 (by omega)
 obtain ⟨m5, e5⟩ := bool_of hxl hf (j := 5) rfl o.2.2.2.2.2 c.2.2.2.2.2 k.2.2.2.2.2 (by omega)
 match cs, hlen with
 | [a0, a1, a2, a3, a4, a5], _ =>
  simp at e0 e1 e2 e3 e4 e5
  subst e0 e1 e2 e3 e4 e5
  exact ⟨⟨m0, m1, m2, m3, m4, m5⟩, ⟨InU64.of_wf w0, In8.of_wf w1, In8.of_wf w2, In64.of_wf w3, In64.of_wf w4⟩, rfl⟩
end
section
variable {H : Type} {enc : TypeId × Value → H} {w : World} {base : Nat} {spare : Nat → Bool} {held : Bool}
theorem ask10_read {fuel : Nat} {cs : List Value} {x : DataW H × List MemPlace} (h : DataW.trod enc Tryz.prog w base spare held fuel 45 cs = some x) : ∃ x : Af, x.Fits ∧ cs = x.vals :=
 ask10_of Tryz.underlying45 (by kernel_rfl) ⟨rfl, rfl, rfl, rfl, rfl, rfl⟩ ⟨by kernel_rfl, by kernel_rfl, by kernel_rfl, by kernel_rfl, by kernel_rfl, by kernel_rfl⟩
  ⟨Tryz.underlying42, Tryz.underlying43, Tryz.underlying43, Tryz.underlying2, Tryz.underlying2, Tryz.underlying4⟩ h
set_option maxRecDepth 100000 in
theorem ask10_open {r : Reach} {b0 : Nat} {v : Value} {d : DataW H} {p : List MemPlace} (hv : Value.okWide Tryz.prog w r b0 45 v) (h : DataW.Trod enc Tryz.prog w base spare held 45 v d p) :
  ∃ x : Af, v = .agg #[.int .u64 x.se, .int .u8 x.tk, .int .u8 x.pt, .int .i64 x.n, .int .i64 x.mo, .bool x.fu] ∧ x.Fits := by
 obtain ⟨cs, rfl, _⟩ := okWide_struct Tryz.underlying45 hv
 obtain ⟨fuel, hf⟩ := h
 obtain ⟨x, hx, hc⟩ := ask10_read hf
 refine ⟨x, ?_, hx⟩
 have : cs.toList = x.vals := by simpa [Value.cells] using hc
 rw [show cs = x.vals.toArray by rw [← this]]
 rfl
end
section
variable {H : Type} {enc : TypeId × Value → H} {w : World} {base : Nat} {spare : Nat → Bool} {held : Bool}
theorem slice1_of {P : Program} {t e : TypeId} {n : Nat} {v : Value} {y : DataW H × List MemPlace} (ht : P.underlying t = some (.slice e)) (h : DataW.trod enc P w base spare held n t [v] = some y) : ∃ a len cap, v = .slice a len cap := by
 rcases open_slice ht h with ⟨h0, _⟩ | ⟨ad, l, c, m, n, D, Pl, hcs, _⟩
 ·exact ⟨_, _, _, (List.cons.inj h0).1⟩
 ·exact ⟨_, _, _, (List.cons.inj hcs).1⟩
set_option maxRecDepth 100000 in
theorem world_open {r : Reach} {b0 : Nat} {v : Value} {d : DataW H} {p : List MemPlace} (hv : Value.okWide Tryz.prog w r b0 25 v) (h : DataW.Trod enc Tryz.prog w base spare held 25 v d p) :
  ∃ x : Wd, v = .agg #[.slice x.a1 x.n1 x.c1, .slice x.a2 x.n2 x.c2] ∧ x.In w := by
 obtain ⟨v0, v1, y0, y1, n, rfl, rfl, rfl, h0, h1⟩ := open_agg2 Tryz.underlying25 (by kernel_rfl) (by kernel_rfl) hv h
 obtain ⟨a1, n1, c1, rfl⟩ := slice1_of Tryz.underlying22 h0
 obtain ⟨a2, n2, c2, rfl⟩ := slice1_of Tryz.underlying23 h1
 obtain ⟨xs, hx⟩ := acts_open (a := a1) (len := n1) (cap := c1) ⟨n, h0⟩
 obtain ⟨os, ho⟩ := offers_open (a := a2) (len := n2) (cap := c2) ⟨n, h1⟩
 exact ⟨⟨a1, n1, c1, xs, a2, n2, c2, os⟩, rfl, hx, ho⟩
end
end Go.Proofs.YtbieomgpfhloeaaGreat
