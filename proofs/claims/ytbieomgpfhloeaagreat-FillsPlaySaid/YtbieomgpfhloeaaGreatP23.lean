/-
  Pieces of one proof, without what is not wanted: FillMath, Ref09.
-/
import Derived.Test.YtbieomgpfhloeaaGreatP13
import Derived.Test.YtbieomgpfhloeaaGreatP15
import Derived.Test.YtbieomgpfhloeaaGreatP19
import Derived.Test.YtbieomgpfhloeaaGreatP22
set_option linter.unusedSimpArgs false
set_option linter.unusedVariables false
namespace Go.Proofs.YtbieomgpfhloeaaGreat
def noFill : Value := .agg #[.int .u64 0, .int .u8 0, .int .u8 0, .int .i64 0, .int .i64 0]
def mayO (o : Of) (ps : List Int) (tk pt want most m1 m2 : Int) : Int := if o.ow = tk ∨ o.ow ∉ ps ∨ tk ∉ ps ∨ pt ∉ ps ∨ want < 1 ∨ most < 1 then 0 else
 min (if pt = o.ow then min want o.lf else min (min want o.lf) m1) (fitN (min (min most 1099511627776) m2) o.nu o.de)
def mayV (l : List Of) (ps : List Int) (s tk pt want most m1 m2 : Int) : Int := match findO l s with
 | none => 0
 | some o => mayO o ps tk pt want most m1 m2
def Goes (ps : List Int) (ls : List Ln) (o : Of) (tk pt m1 m2 : Int) : Prop :=
 (∃ μ, IsRoute (roomF ps ls o.sl) 4398046511104 o.ow pt mostW μ ∧ mostW - μ.left = m1) ∧ ∃ μ, IsRoute (roomF ps ls o.bu) 4398046511104 tk o.ow mostW μ ∧ mostW - μ.left = m2
theorem goes_ends {ps : List Int} {ls : List Ln} (h : LInv ps ls) (o : Of) (tk pt : Int) : ∃ m1 m2, Goes ps ls o tk pt m1 m2 := by
 obtain ⟨μ, h1⟩ := route_ends (roomF_inv h o.sl) o.ow pt mostW
 obtain ⟨ν, h2⟩ := route_ends (roomF_inv h o.bu) tk o.ow mostW
 exact ⟨_, _, ⟨μ, h1, rfl⟩, ν, h2, rfl⟩
theorem most_any_bd {f : Int → Int → Int} (h0 : GInv f 4398046511104) {s t : Int} {μ : RS} (h : IsRoute f 4398046511104 s t mostW μ) : 0 ≤ mostW - μ.left ∧ mostW - μ.left ≤ 1125899906842624 := by
 by_cases hi : inP s ∧ inP t ∧ s ≠ t
 ·exact most_bd h h0 hi.2.2
 ·rw [route_out h0 hi h]
  show 0 ≤ mostW - mostW ∧ mostW - mostW ≤ 1125899906842624
  omega
theorem Goes.bd {ps : List Int} {ls : List Ln} (h : LInv ps ls) {o : Of} {tk pt m1 m2 : Int} (g : Goes ps ls o tk pt m1 m2) : (0 ≤ m1 ∧ m1 ≤ 1125899906842624) ∧ 0 ≤ m2 ∧ m2 ≤ 1125899906842624 := by
 obtain ⟨⟨μ, h1, rfl⟩, ν, h2, rfl⟩ := g
 exact ⟨most_any_bd (roomF_inv h _) h1, most_any_bd (roomF_inv h _) h2⟩
theorem fit_half {nu de g n1 : Int} (hm : mayB nu de = true) (h0 : 0 ≤ g) (hn : n1 ≤ 1099511627776) : min n1 (fitN g nu de) = min n1 (g * de / nu) := by
 unfold fitN
 rw [if_pos ⟨hm, h0⟩]
 omega
def doOk (l : List Of) (ps : List Int) (s tk pt n m1 m2 : Int) : Prop := 1 ≤ n ∧ n ≤ mayV l ps s tk pt n 1099511627776 m1 m2
theorem doOk.facts {l : List Of} {ps : List Int} {s tk pt n m1 m2 : Int} (h : doOk l ps s tk pt n m1 m2) :
  ∃ o, findO l s = some o ∧ (o.ow ≠ tk ∧ o.ow ∈ ps ∧ tk ∈ ps ∧ pt ∈ ps) ∧ n ≤ o.lf ∧ (pt = o.ow ∨ n ≤ m1) ∧ n ≤ fitN (min 1099511627776 m2) o.nu o.de := by
 obtain ⟨h1, h2⟩ := h
 unfold mayV at h2
 cases hf : findO l s with
 | none => rw [hf] at h2; simp at h2; omega
 | some o =>
  rw [hf] at h2
  simp only [mayO] at h2
  split at h2
  ·omega
  ·rename_i hb
   refine ⟨o, rfl, ⟨fun h => hb (.inl h), Classical.byContradiction fun h => hb (.inr (.inl h)), Classical.byContradiction fun h => hb (.inr (.inr (.inl h))), Classical.byContradiction fun h => hb (.inr (.inr (.inr (.inl h))))⟩, ?_, ?_, ?_⟩
   ·split at h2 <;> omega
   ·split at h2
    ·rename_i h; exact .inl h
    ·exact .inr (by omega)
   ·have e : min (min 1099511627776 1099511627776) m2 = min (1099511627776 : Int) m2 := by omega
    rw [e] at h2
    omega
theorem up_fits {n g nu de : Int} (hm : mayB nu de = true) (h0 : 0 ≤ g) (hg : g ≤ 1099511627776) (hn : 0 ≤ n) (h : n ≤ fitN g nu de) :
  upV2 n nu de = .tuple #[.int .i64 (upN (n * nu) de), .int .i64 0] ∧ 0 ≤ upN (n * nu) de ∧ upN (n * nu) de ≤ g := by
 unfold fitN at h
 rw [if_pos ⟨hm, h0⟩] at h
 obtain ⟨h1, h2, h3, h4, _⟩ := may_bd hm
 have hu := (up_le n nu g de hn h0 h1 h2 (by omega)).2 (by omega)
 have h5 : 0 ≤ upN (n * nu) de := by
  have := Int.ediv_nonneg (Int.mul_nonneg hn (show 0 ≤ nu by omega)) (show 0 ≤ de by omega)
  unfold upN; split <;> omega
 refine ⟨?_, h5, hu⟩
 have hi : In64 (upN (n * nu) de) := ⟨by omega, by omega⟩
 rw [upV2, hm, if_pos rfl, upV, if_neg (by omega), ans_of _ hi]
def Filled (ps : List Int) (ls : List Ln) (o : Of) (tk pt n x : Int) (ls' : List Ln) : Prop :=
 ∃ ls1 τ, ((pt = o.ow ∧ ls1 = ls) ∨ (pt ≠ o.ow ∧ ∃ σ, IsRoute (roomF ps ls o.sl) 4398046511104 o.ow pt n σ ∧ ls1 = payL ps ls o.ow pt o.sl n σ)) ∧ IsRoute (roomF ps ls1 o.bu) 4398046511104 tk o.ow x τ ∧ ls' = payL ps ls1 tk o.ow o.bu x τ
theorem Filled.eq {ps : List Int} {ls : List Ln} {o : Of} {tk pt n x : Int} {l1 l2 : List Ln} (h : Filled ps ls o tk pt n x l1) (g : Filled ps ls o tk pt n x l2) : l1 = l2 := by
 obtain ⟨a, σ, ha, hσ, rfl⟩ := h
 obtain ⟨b, τ, hb, hτ, rfl⟩ := g
 have e : a = b := by
  rcases ha with ⟨h1, rfl⟩ | ⟨h1, α, h2, rfl⟩ <;> rcases hb with ⟨k1, rfl⟩ | ⟨k1, β, k2, rfl⟩
  ·rfl
  ·exact absurd h1 k1
  ·exact absurd k1 h1
  ·rw [h2.eq k2]
 subst e
 rw [hσ.eq hτ]
theorem Filled.inv {ps : List Int} {ls : List Ln} {o : Of} {tk pt n x : Int} {l1 : List Ln} (h : Filled ps ls o tk pt n x l1) (hI : LInv ps ls) : LInv ps l1 := by
 obtain ⟨a, σ, ha, hσ, rfl⟩ := h
 refine payL_inv ?_ _ _ _ _ _
 rcases ha with ⟨h1, rfl⟩ | ⟨h1, α, h2, rfl⟩
 ·exact hI
 ·exact payL_inv hI _ _ _ _ _
end Go.Proofs.YtbieomgpfhloeaaGreat
namespace Go.Proofs.YtbieomgpfhloeaaGreat
open Go.RowKit
def GOf5 (w : World) (f : Int → Int → Int) (m : Nat) (wr : World) : Prop := ∃ vl, RefG wr w.heap.size w.heap.size (prefE f m) vl ∧ Below w.heap.size w wr
def GOf5O (w : World) (f : Int → Int → Int) (i : Value) (wr : World) : Prop := ∃ (p : Nat) (P : Int), Hid (P = (p : Int) + 1) ∧ 1 ≤ P ∧ P ≤ 17 ∧ i = .int .u8 P ∧ GOf5 w f (p * 16) wr
def GOf5I (w : World) (f : Int → Int → Int) (p : Nat) (i : Value) (wr : World) : Prop := ∃ (q : Nat) (Q : Int), Hid (Q = (q : Int) + 1) ∧ 1 ≤ Q ∧ Q ≤ 17 ∧ i = .int .u8 Q ∧ GOf5 w f (p * 16 + q) wr
set_option maxHeartbeats 16000000 in
set_option maxRecDepth 100000 in
theorem rgof_any {w : World} {base g : Nat} {ps : List Int} {ls : List Ln} {vp vl : Value} (h : RefL w base g ps ls vp vl) (hI : LInv ps ls) (c : Int) :
  Calls Tryz.prog 91 #[.pointer (some ⟨g, 0, none⟩), .int .u8 c] w fun e w' => e = .returned (.pointer (some ⟨w.heap.size, 0, none⟩)) ∧ ∃ vl', RefG w' w.heap.size w.heap.size (allE (roomF ps ls c)) vl' ∧ Below w.heap.size w w' := by
 have CR : Hid (∀ w', Below w.heap.size w w' → ∀ p q : Int, Calls Tryz.prog 84 #[.pointer (some ⟨g, 0, none⟩), .int .u8 p, .int .u8 q, .int .u8 c] w' fun e w'' => e = .returned (.int .i64 (roomF ps ls c p q)) ∧ Below w'.heap.size w' w'') :=
  Lib.hid (fun w' k p q => rroom_any (h.below k) hI.inv.good p q c)
 have R0 : GOf5 w (roomF ps ls c) 0 (w.alloc (.cells #[.slice none 0 0] 177)) :=
  ⟨_, ⟨Blk.new w #[.slice none 0 0] 177, Nat.le_refl _, World.ownsRow_nil _ _ _ _⟩, (Below.refl _ _).alloc (Nat.le_refl _) _⟩
 have HR0 := Lib.hid R0
 have GI := Lib.hid (roomF_inv hI c)
 generalize roomF ps ls c = f at *
 clear h hI R0
 go_enter Tryz.func91, Tryz.ntmps91
 go_wp2_with fail
 go_loopw [6, 7, 8] (fun i _ _ wr => GOf5O w f i wr) (fun i _ _ _ => 17 - (intOf i).toNat)
 case atStart => exact ⟨0, 1, Lib.hid rfl, by omega, by omega, rfl, HR0.out⟩
 case round =>
  obtain ⟨p, P, hP, hP1, hP2, rfl, hRR⟩ := hrel
  have RR := Lib.hid hRR
  clear hRR
  by_cases hpl : P ≤ 16
  ·go_wp2_with fail
   go_loopw [7, 8] (fun i _ wr => GOf5I w f p i wr) (fun i _ _ => 17 - (intOf i).toNat)
   case atStart => exact ⟨0, 1, Lib.hid rfl, by omega, by omega, rfl, RR.out⟩
   case round =>
    clear RR
    obtain ⟨q, Q, hQ, hQ1, hQ2, rfl, hRR⟩ := hrel
    by_cases hql : Q ≤ 16
    ·have hq16 : q < 16 := by have := hQ.out; omega
     have hp16 : p < 16 := by have := hP.out; omega
     have NX := Lib.hid (prefE_succ f (p * 16 + q))
     rw [edge_at _ hq16, ← hP.out, ← hQ.out] at NX
     have hlo := prefE_len f (p * 16 + q)
     obtain ⟨vl, hG, hB⟩ := hRR
     have HG := Lib.hid hG
     have HB := Lib.hid hB
     have C := Lib.hid (CR.out wr hB P Q)
     have hl2 : (prefE f (p * 16 + q)).length ≤ 100000 := by omega
     generalize prefE f (p * 16 + q) = out at *
     obtain ⟨y, hy⟩ : ∃ y, f P Q = y := ⟨_, rfl⟩
     rw [hy] at C NX
     clear hG hB hy hlo
     go_wp2_with fail
     refine C.out.mono ?_
     rintro e w4 ⟨rfl, b4⟩
     have HG4 := Lib.hid (HG.out.below b4)
     have HB4 := Lib.hid (HB.out.trans (b4.mono HB.out.size))
     clear b4 HG HB C
     by_cases hp : 0 < y
     ·rw [if_pos hp] at NX
      have d0 := HG4.out.blk.cell 0
      have f0 := HG4.out.blk.frozen 0
      have gl := HG4.out.blk.lt
      simp at d0
      obtain ⟨ao, cap, hv, _⟩ := owns_open HG4.out.row
      subst hv
      have q3 : decide (0 < y) = true := by simpa using hp
      clear hp
      go_wp2_with (at_builtin; refine wpList_append_fw _ rfl (.tmp 30) (.tmp 35) rfl w.heap.size _ out rfl (HG4.out.row.alloc _) _ _ (⟨P, Q, y⟩ : Fw) rfl (Blk.new _ _ _) hl2 (by simp; omega) ?_)
      intro v3 w3 hown3 hgr3
      obtain ⟨ao3, cap3, hv3, _⟩ := owns_open hown3
      subst hv3
      have R2 : ∀ k, Value.ownBlock _ = some k → w.heap.size ≤ k := fun k hk => (owns_type HG4.out.row hk).1
      have K3 := Lib.hid (Blk.grown (HG4.out.blk.alloc _) hgr3 (fun e => owns_ne (HG4.out.row) HG4.out.blk (by decide) _ e rfl))
      have B3 := Lib.hid ((HB4.out.alloc HB4.out.size _).grown hgr3 (by simp; have := HB4.out.size; omega) (fun k hk => R2 k hk))
      have O3 := Lib.hid (show w3.ownsRow w.heap.size 156 3 (.slice ao3 (out.length + 1) cap3) (out ++ [(⟨P, Q, y⟩ : Fw)]).length (fwCells (out ++ [(⟨P, Q, y⟩ : Fw)])) by simpa using hown3)
      have d3 := K3.out.cell 0
      have f3 := K3.out.frozen 0
      have l3 := K3.out.lt
      simp at d3
      have KK := Lib.hid ((Keep.refl (· = w.heap.size) w3).setCell (p := ⟨w.heap.size, 0, none⟩) (.inl rfl) (.slice ao3 (out.length + 1) cap3))
      have G9 : Hid (GOf5 w f (p * 16 + (q + 1)) (w3.setCell ⟨w.heap.size, 0, none⟩ (.slice ao3 (out.length + 1) cap3))) := Lib.hid (by
       refine ⟨_, ⟨by simpa using K3.out.set 0 (.slice ao3 (out.length + 1) cap3), Nat.le_refl _, ?_⟩, B3.out.setCell (p := ⟨w.heap.size, 0, none⟩) (Nat.le_refl _) _⟩
       rw [show p * 16 + (q + 1) = p * 16 + q + 1 by omega, NX.out]
       exact owns_keep O3.out KK.out (fun b hb e => owns_ne O3.out K3.out (by decide) b hb e))
      clear R2 hown3 hgr3 K3 B3 O3 KK d0 f0 gl
      go_wp2_with fail
      exact ⟨⟨q + 1, Q + 1, Lib.hid (by have := hQ.out; omega), by omega, by omega, by go_num, G9.out⟩, by simp [intOf]; omega⟩
     ·rw [if_neg hp, List.append_nil] at NX
      have q3 : decide (0 < y) = false := by simpa using hp
      clear hp
      have G9 : Hid (GOf5 w f (p * 16 + (q + 1)) w4) := Lib.hid ⟨_, by rw [show p * 16 + (q + 1) = p * 16 + q + 1 by omega, NX.out]; exact HG4.out, HB4.out⟩
      go_wp2_with fail
      exact ⟨⟨q + 1, Q + 1, Lib.hid (by have := hQ.out; omega), by omega, by omega, by go_num, G9.out⟩, by simp [intOf]; omega⟩
    ·have hq17 : Q = 17 := by omega
     subst hq17
     have hq16 : q = 16 := by have := hQ.out; omega
     subst hq16
     have RR := Lib.hid hRR
     clear hRR
     go_wp2_with fail
     exact ⟨⟨p + 1, P + 1, Lib.hid (by have := hP.out; omega), by omega, by omega, by go_num, by rw [show (p + 1) * 16 = p * 16 + 16 by omega]; exact RR.out⟩, by simp [intOf]; omega⟩
  ·have hp17 : P = 17 := by omega
   subst hp17
   have hp16 : p = 16 := by have := hP.out; omega
   subst hp16
   obtain ⟨vl, hG, hB⟩ := RR.out
   have HG := Lib.hid hG
   have HB := Lib.hid hB
   clear hG hB RR
   go_wp2_with fail
   go_ret
   exact ⟨rfl, ⟨vl, HG.out⟩, HB.out⟩
set_option maxHeartbeats 4000000 in
theorem rmost9_any {w : World} {base g : Nat} {ps : List Int} {ls : List Ln} {vp vl : Value} {a b c : Int} {μ : RS} (h : RefL w base g ps ls vp vl) (hI : LInv ps ls) (ha : In8 a) (hb : In8 b) (hμ : IsRoute (roomF ps ls c) 4398046511104 a b mostW μ) :
  Calls Tryz.prog 43 #[.pointer (some ⟨g, 0, none⟩), .int .u8 a, .int .u8 b, .int .u8 c] w fun e w' => e = .returned (.int .i64 (mostW - μ.left)) ∧ Below w.heap.size w w' := by
 have C1 := Lib.hid (rgof_any h hI c)
 have HI := Lib.hid (roomF_inv hI c)
 have HR := Lib.hid hμ
 clear h hI hμ
 go_enter Tryz.func43, Tryz.ntmps43
 go_wp2_with fail
 refine C1.out.mono ?_
 rintro e w1 ⟨rfl, vl1, hk, hb1⟩
 have C2 := Lib.hid (rmost_at hk HI.out ha hb HR.out)
 have B1 := Lib.hid hb1
 obtain ⟨m, hm⟩ : ∃ m, mostW - μ.left = m := ⟨_, rfl⟩
 rw [hm] at C2
 have HE := Lib.hid hm
 clear hk hb1 hm
 go_wp2_with fail
 refine C2.out.mono ?_
 rintro e w2 ⟨rfl, hb2⟩
 have B2 := Lib.hid (B1.out.trans (hb2.mono B1.out.size))
 clear hb2
 go_wp2_with fail
 go_ret
 exact ⟨by rw [HE.out]; rfl, B2.out⟩
def RPayPost (w : World) (base g : Nat) (ps : List Int) (ls : List Ln) (vp : Value) (a b c n : Int) (σ : RS) (e : Ending) (w' : World) : Prop :=
 e = .returned (.tuple #[.int .i64 (payN ps a b c n σ), .int .i64 (payE ps a b c n σ)]) ∧ (∃ vl', RefL w' base g ps (payL ps ls a b c n σ) vp vl') ∧ Keep (· = g) w w'
def RPayAt (W : World) (base g : Nat) (ps : List Int) (ls : List Ln) (vp : Value) (c : Int) (l : List Fw) (i : Value) (wr : World) : Prop :=
 ∃ k : Nat, k ≤ l.length ∧ i = .int .i64 k ∧ (∃ vl', RefL wr base g ps (pushAll ps c ls (l.take k)) vp vl') ∧ Keep (· = g) W wr
theorem may_cases (a b c n : Int) (ha : In8 a) (hb : In8 b) (h : ¬ payMay a b c n) : (decide (a < 1) = true) ∨ (decide (a < 1) = false ∧ decide (16 < a) = true) ∨ (decide (a < 1) = false ∧ decide (16 < a) = false ∧ decide (b < 1) = true) ∨
  (decide (a < 1) = false ∧ decide (16 < a) = false ∧ decide (b < 1) = false ∧ decide (16 < b) = true) ∨
  (decide (a < 1) = false ∧ decide (16 < a) = false ∧ decide (b < 1) = false ∧ decide (16 < b) = false ∧ (a == b) = true) ∨
  (decide (a < 1) = false ∧ decide (16 < a) = false ∧ decide (b < 1) = false ∧ decide (16 < b) = false ∧ (a == b) = false ∧ decide (c < 1) = true) ∨
  (decide (a < 1) = false ∧ decide (16 < a) = false ∧ decide (b < 1) = false ∧ decide (16 < b) = false ∧ (a == b) = false ∧ decide (c < 1) = false ∧ decide (8 < c) = true) ∨
  (decide (a < 1) = false ∧ decide (16 < a) = false ∧ decide (b < 1) = false ∧ decide (16 < b) = false ∧ (a == b) = false ∧ decide (c < 1) = false ∧ decide (8 < c) = false ∧ decide (n < 1) = true) ∨
  (decide (a < 1) = false ∧ decide (16 < a) = false ∧ decide (b < 1) = false ∧ decide (16 < b) = false ∧ (a == b) = false ∧ decide (c < 1) = false ∧ decide (8 < c) = false ∧ decide (n < 1) = false ∧ decide (1099511627776 < n) = true) := by
 by_cases h0 : a < 1
 ·exact .inl (decide_eq_true h0)
 have e0 : decide (a < 1) = false := by simpa using h0
 by_cases h1 : 16 < a
 ·exact .inr (.inl (⟨e0, decide_eq_true h1⟩))
 have e1 : decide (16 < a) = false := by simpa using h1
 by_cases h2 : b < 1
 ·exact .inr (.inr (.inl (⟨e0, e1, decide_eq_true h2⟩)))
 have e2 : decide (b < 1) = false := by simpa using h2
 by_cases h3 : 16 < b
 ·exact .inr (.inr (.inr (.inl (⟨e0, e1, e2, decide_eq_true h3⟩))))
 have e3 : decide (16 < b) = false := by simpa using h3
 by_cases h4 : a = b
 ·exact .inr (.inr (.inr (.inr (.inl (⟨e0, e1, e2, e3, by simpa using h4⟩)))))
 have e4 : (a == b) = false := by simpa using h4
 by_cases h5 : c < 1
 ·exact .inr (.inr (.inr (.inr (.inr (.inl (⟨e0, e1, e2, e3, e4, decide_eq_true h5⟩))))))
 have e5 : decide (c < 1) = false := by simpa using h5
 by_cases h6 : 8 < c
 ·exact .inr (.inr (.inr (.inr (.inr (.inr (.inl (⟨e0, e1, e2, e3, e4, e5, decide_eq_true h6⟩)))))))
 have e6 : decide (8 < c) = false := by simpa using h6
 by_cases h7 : n < 1
 ·exact .inr (.inr (.inr (.inr (.inr (.inr (.inr (.inl (⟨e0, e1, e2, e3, e4, e5, e6, decide_eq_true h7⟩))))))))
 have e7 : decide (n < 1) = false := by simpa using h7
 by_cases h8 : 1099511627776 < n
 ·exact .inr (.inr (.inr (.inr (.inr (.inr (.inr (.inr (⟨e0, e1, e2, e3, e4, e5, e6, e7, decide_eq_true h8⟩))))))))
 have e8 : decide (1099511627776 < n) = false := by simpa using h8
 exact absurd ⟨⟨by omega, by omega⟩, ⟨by omega, by omega⟩, h4, by omega, by omega, by omega, by omega⟩ h
set_option maxHeartbeats 32000000 in
set_option maxRecDepth 100000 in
theorem rpay9_any {w : World} {base g : Nat} {ps : List Int} {ls : List Ln} {vp vl : Value} {a b c n : Int} {σ : RS} (h : RefL w base g ps ls vp vl) (hI : LInv ps ls) (ha : In8 a) (hb : In8 b) (hc : In8 c) (hn : In64 n) (hσ : IsRoute (roomF ps ls c) 4398046511104 a b n σ) :
  Calls Tryz.prog 55 #[.pointer (some ⟨g, 0, none⟩), .int .u8 a, .int .u8 b, .int .u8 c, .int .i64 n] w (RPayPost w base g ps ls vp a b c n σ) := by
 have H := Lib.hid h
 have II := Lib.hid hI
 have HA := Lib.hid ha
 have HB := Lib.hid hb
 have HC := Lib.hid hc
 have HN := Lib.hid hn
 have HS := Lib.hid hσ
 have hsl := hσ.len
 have hgl := h.blk.lt
 obtain ⟨got, hgot⟩ : ∃ got, n - σ.left = got := ⟨_, rfl⟩
 have HG := Lib.hid hgot
 have WC := wrong_cases (fun p => decide (p ∈ ps)) a b c n got
 have EE : payE ps a b c n σ = wrongE 1 (fun p => decide (p ∈ ps)) a b c n got := by unfold payE; rw [hgot]
 rw [← EE] at WC
 have CF := Lib.hid (rhas_any h a)
 have CT := Lib.hid (rhas_any h b)
 clear EE hgot h hI ha hb hc hn hσ
 have bad : ∀ er, payE ps a b c n σ = er → er ≠ 0 → ∀ w', Below w.heap.size w w' → RPayPost w base g ps ls vp a b c n σ (.returned (.tuple #[.int .i64 0, .int .i64 er])) w' := fun er h1 h2 w' hb => by
  refine ⟨?_, ?_, Keep.of_below hb⟩
  ·unfold payN; rw [h1, if_neg h2]
  ·unfold payL; rw [h1, if_neg h2]; exact ⟨_, H.out.below hb⟩
 have BAD := Lib.hid bad
 clear bad
 rcases WC with ⟨h1, h2⟩ | ⟨h1, h2, h3⟩ | ⟨h1, h2, h3, h4, h5⟩ | ⟨h1, h2, h3, h4, h5⟩
 ·have BB := Lib.hid (BAD.out 1 h1 (by decide))
  have hs := may_cases a b c n HA.out HB.out h2
  clear h1 h2 BAD CF CT
  rcases hs with h1 | ⟨h1, h2⟩ | ⟨h1, h2, h3⟩ | ⟨h1, h2, h3, h4⟩ | ⟨h1, h2, h3, h4, h5⟩ | ⟨h1, h2, h3, h4, h5, h6⟩ | ⟨h1, h2, h3, h4, h5, h6, h7⟩ | ⟨h1, h2, h3, h4, h5, h6, h7, h8⟩ | ⟨h1, h2, h3, h4, h5, h6, h7, h8, h9⟩
  all_goals
   go_enter Tryz.func55, Tryz.ntmps55
   go_wp2_with fail
   refine bodyPost_ret (v := .tuple #[.int .i64 0, .int .i64 1]) (by simp [results, Tryz.results55, go_sem]) rfl ?_
   exact BB.out _ (Below.refl _ _)
 all_goals
  obtain ⟨⟨p1, p2⟩, ⟨p3, p4⟩, p5, p6, p7, p8, p9⟩ := h2
  have g1 : decide (a < 1) = false := by simp; omega
  have g2 : decide (16 < a) = false := by simp; omega
  have g3 : decide (b < 1) = false := by simp; omega
  have g4 : decide (16 < b) = false := by simp; omega
  have g5 : (a == b) = false := by simpa using p5
  have g6 : decide (c < 1) = false := by simp; omega
  have g7 : decide (8 < c) = false := by simp; omega
  have g8 : decide (n < 1) = false := by simp; omega
  have g9 : decide (1099511627776 < n) = false := by simp; omega
  clear p1 p2 p3 p4 p5 p6 p7 p9
 ·have BB := Lib.hid (BAD.out 7 h1 (by decide))
  clear BAD
  by_cases hf : a ∈ ps
  ·have ht : b ∉ ps := by rcases h3 with h3 | h3; exact absurd hf (by simpa using h3); simpa using h3
   rw [decide_eq_true hf] at CF
   rw [decide_eq_false ht] at CT
   clear hf ht h3 h1
   go_enter Tryz.func55, Tryz.ntmps55
   go_wp2_with fail
   refine CF.out.mono ?_
   rintro e w1 ⟨rfl, rfl⟩
   go_wp2_with fail
   refine CT.out.mono ?_
   rintro e w1 ⟨rfl, rfl⟩
   go_wp2_with fail
   refine bodyPost_ret (v := .tuple #[.int .i64 0, .int .i64 7]) (by simp [results, Tryz.results55, go_sem]) rfl ?_
   exact BB.out _ (Below.refl _ _)
  ·rw [decide_eq_false hf] at CF
   clear hf h3 h1 CT
   go_enter Tryz.func55, Tryz.ntmps55
   go_wp2_with fail
   refine CF.out.mono ?_
   rintro e w1 ⟨rfl, rfl⟩
   go_wp2_with fail
   refine bodyPost_ret (v := .tuple #[.int .i64 0, .int .i64 7]) (by simp [results, Tryz.results55, go_sem]) rfl ?_
   exact BB.out _ (Below.refl _ _)
 all_goals
  rw [show decide (a ∈ ps) = true from h3] at CF
  rw [show decide (b ∈ ps) = true from h4] at CT
  have CO := Lib.hid (rgof_any H.out II.out c)
  have CRt := Lib.hid (fun w1 vl1 (hk : RefG w1 w.heap.size w.heap.size (allE (roomF ps ls c)) vl1) => rroute_at hk (roomF_inv II.out c) HA.out HB.out HN.out HS.out)
  rw [HG.out] at CRt
  clear h3 h4
 ·have BB := Lib.hid (BAD.out 11 h1 (by decide))
  have q1 : (got == n) = false := by simp; omega
  clear BAD h1 h5 p8
  go_enter Tryz.func55, Tryz.ntmps55
  go_wp2_with fail
  refine CF.out.mono ?_
  rintro e w1 ⟨rfl, rfl⟩
  go_wp2_with fail
  refine CT.out.mono ?_
  rintro e w1 ⟨rfl, rfl⟩
  go_wp2_with fail
  refine CO.out.mono ?_
  rintro e w1 ⟨rfl, vl1, hk, hb1⟩
  have CR1 := Lib.hid (CRt.out w1 vl1 hk)
  have B1 := Lib.hid hb1
  clear hk hb1 CO CRt CF CT
  go_wp2_with fail
  refine CR1.out.mono ?_
  rintro e w2 ⟨v', rfl, hr, hb2⟩
  have B2 := Lib.hid (B1.out.trans (hb2.mono B1.out.size))
  clear hr hb2 CR1
  go_wp2_with fail
  refine bodyPost_ret (v := .tuple #[.int .i64 0, .int .i64 11]) (by simp [results, Tryz.results55, go_sem]) rfl ?_
  exact BB.out _ B2.out
 ·have hgn : got = n := by have := HS.out.nw p8; have := HG.out; omega
  subst hgn
  have q1 : (got == got) = true := by simp
  have PN : Hid (payN ps a b c got σ = (σ.out.length : Int) ∧ payL ps ls a b c got σ = pushAll ps c ls σ.out) := Lib.hid (by unfold payN payL; rw [if_pos h1, if_pos h1]; exact ⟨rfl, rfl⟩)
  have EZ := Lib.hid h1
  clear BAD h1 h5 p8
  go_enter Tryz.func55, Tryz.ntmps55
  go_wp2_with fail
  refine CF.out.mono ?_
  rintro e w1 ⟨rfl, rfl⟩
  go_wp2_with fail
  refine CT.out.mono ?_
  rintro e w1 ⟨rfl, rfl⟩
  go_wp2_with fail
  refine CO.out.mono ?_
  rintro e w1 ⟨rfl, vl1, hk, hb1⟩
  have CR1 := Lib.hid (CRt.out w1 vl1 hk)
  have B1 := Lib.hid hb1
  clear hk hb1 CO CRt CF CT g1 g2 g3 g4 g5 g6 g7 g8 g9
  go_wp2_with fail
  refine CR1.out.mono ?_
  rintro e w2 ⟨v', rfl, hr, hb2⟩
  have B2 := Lib.hid (B1.out.trans (hb2.mono B1.out.size))
  have hww1 := B1.out.size
  have H2 := Lib.hid (H.out.below B2.out)
  have EL := Lib.hid (HS.out.els)
  obtain ⟨L, hL⟩ : ∃ L, σ.out = L := ⟨_, rfl⟩
  rw [hL] at hr PN EL hsl
  obtain ⟨ao, ca, hv, _⟩ := owns_open hr
  subst hv
  have R2 := Lib.hid hr
  clear hr hb2 CR1 B1 H
  go_wp2_with fail
  go_loopw [14] (RPayAt w2 base g ps ls vp c L) (fun i _ => L.length - (intOf i).toNat)
  case atStart => exact ⟨0, by omega, rfl, ⟨_, H2.out⟩, Keep.refl _ _⟩
  case round =>
   clear H2
   obtain ⟨k, hk, rfl, ⟨vl2, hRL⟩, hKK⟩ := hrel
   have LL := Lib.hid hRL
   have KK := Lib.hid hKK
   have hne : ∀ bb, Value.ownBlock (.slice ao L.length ca) = some bb → ¬ bb = g := fun bb hbb => by have := (owns_type R2.out hbb).1; omega
   have RR := Lib.hid (owns_keep R2.out hKK hne)
   clear hRL hKK
   by_cases hkl : k < L.length
   ·have hki : (k : Int) < (L.length : Int) := by omega
    have hk0 : (0 : Int) ≤ (k : Int) := by omega
    have q0 : decide ((k : Int) < (L.length : Int)) = true := by simpa using hkl
    obtain ⟨ao1, ca1, hv, _, _, _, hlk⟩ := owns_open RR.out
    simp only [Value.slice.injEq] at hv
    obtain ⟨h1, _, h2⟩ := hv
    subst h1
    subst h2
    obtain ⟨bl, rfl, hblb, hbl, hcc, _⟩ := hlk (by omega)
    clear hlk
    have E0 := Lib.hid ((hcc (k * 3 + 0) (by omega)).trans (fwCells_get L k 0 (by omega) hkl))
    have E1 := Lib.hid ((hcc (k * 3 + 1) (by omega)).trans (fwCells_get L k 1 (by omega) hkl))
    have E2 := Lib.hid ((hcc (k * 3 + 2) (by omega)).trans (fwCells_get L k 2 (by omega) hkl))
    rw [Nat.add_zero] at E0
    clear hcc
    have NX := Lib.hid (pushAll_take (ps := ps) (c := c) (ls := ls) hkl)
    have IK := Lib.hid (pushAll_inv (ps := ps) (c := c) (L.take k) II.out)
    generalize pushAll ps c ls (L.take k) = lk at *
    obtain ⟨x, hx⟩ : ∃ x, L[k] = x := ⟨_, rfl⟩
    rw [hx] at NX E0 E1 E2
    clear hx
    obtain ⟨fr, tt, am⟩ := x
    dsimp only at NX
    have HK := Lib.hid hkl
    have CP := Lib.hid (fun w' (hS : Below wr.heap.size wr w') => rpush_any (LL.out.below hS) IK.out.inv.good IK.out.len fr tt c am)
    obtain ⟨pe, hpe⟩ : ∃ pe, pushE ps lk fr tt c am = pe := ⟨_, rfl⟩
    rw [hpe] at CP
    clear hpe
    go_wp2_with fail
    refine region_end (by kernel_rfl) 17 16 [(.pointer (some ⟨g, 0, none⟩)), (.slice (some ⟨bl, 0, none⟩) L.length ca), (.int .i64 k), (.pointer (some ⟨bl, k * 3, none⟩)), (.pointer (some ⟨bl, k * 3, none⟩)), (.int .u8 fr), (.slice (some ⟨bl, 0, none⟩) L.length ca), (.int .i64 k), (.pointer (some ⟨bl, k * 3, none⟩)), (.pointer (some ⟨bl, k * 3 + 1, none⟩)), (.int .u8 tt), (.int .u8 c), (.slice (some ⟨bl, 0, none⟩) L.length ca), (.int .i64 k), (.pointer (some ⟨bl, k * 3, none⟩)), (.pointer (some ⟨bl, k * 3 + 2, none⟩)), (.int .i64 am), (.int .i64 pe)]
     (fun w' => Below wr.heap.size wr w') (by kernel_rfl) rfl (by kernel_rfl) (Below.refl _ _).drew ?_
    intro af haf
    simp only [List.toList_toArray, List.append_eq, List.cons_append, List.nil_append, puts, Act.put, List.getD_cons_zero, List.getD_cons_succ, List.setIfInBounds_toArray, List.set_cons_succ, List.set_cons_zero] at haf
    subst haf
    refine ⟨?_, ?_⟩
    ·simp only [List.toList_toArray, List.take_succ_cons, List.take_zero, EachTo]
     refine ⟨?_, ?_, ?_, ?_, ?_, ?_, ?_, ?_, ?_, ?_, ?_, ?_, ?_, ?_, ?_, ?_, ?_, trivial⟩
     ·intro w' hS
      refine OpTo.plain ?_ ?_
      exact rfl
      have HS := Lib.hid hS
      clear hS
      go_wp2_with fail
      all_goals first | exact HS.out | exact ⟨rfl, HS.out⟩ | rfl | exact ⟨by omega, HS.out⟩
     ·intro w' hS
      refine OpTo.plain ?_ ?_
      exact rfl
      have HS := Lib.hid hS
      clear hS
      go_wp2_with fail
      all_goals first | exact HS.out | exact ⟨rfl, HS.out⟩ | rfl | exact ⟨by omega, HS.out⟩
     ·intro w' hS
      refine OpTo.plain ?_ ?_
      exact rfl
      have HS := Lib.hid hS
      clear hS
      go_wp2_with fail
      all_goals first | exact HS.out | exact ⟨rfl, HS.out⟩ | rfl | exact ⟨by omega, HS.out⟩
     ·intro w' hS
      refine OpTo.plain ?_ ?_
      exact rfl
      have e := (hS.cell (p := ⟨bl, k * 3, none⟩) hbl).trans E0.out
      simp [Fw.vals] at e
      have hbb := Nat.lt_of_lt_of_le hbl hS.size
      have HS := Lib.hid hS
      clear hS
      go_wp2_with fail
      all_goals first | exact HS.out | exact ⟨rfl, HS.out⟩ | rfl | exact ⟨by omega, HS.out⟩
     ·intro w' hS
      refine OpTo.plain ?_ ?_
      exact rfl
      have e := (hS.cell (p := ⟨bl, k * 3, none⟩) hbl).trans E0.out
      simp [Fw.vals] at e
      have hbb := Nat.lt_of_lt_of_le hbl hS.size
      have HS := Lib.hid hS
      clear hS
      go_wp2_with fail
      all_goals first | exact HS.out | exact ⟨rfl, HS.out⟩ | rfl | exact ⟨by omega, HS.out⟩
     ·intro w' hS
      refine OpTo.plain ?_ ?_
      exact rfl
      have e := (hS.cell (p := ⟨bl, k * 3, none⟩) hbl).trans E0.out
      simp [Fw.vals] at e
      have hbb := Nat.lt_of_lt_of_le hbl hS.size
      have HS := Lib.hid hS
      clear hS
      go_wp2_with fail
      all_goals first | exact HS.out | exact ⟨rfl, HS.out⟩ | rfl | exact ⟨by omega, HS.out⟩
     ·intro w' hS
      refine OpTo.plain ?_ ?_
      exact rfl
      have HS := Lib.hid hS
      clear hS
      go_wp2_with fail
      all_goals first | exact HS.out | exact ⟨rfl, HS.out⟩ | rfl | exact ⟨by omega, HS.out⟩
     ·intro w' hS
      refine OpTo.plain ?_ ?_
      exact rfl
      have HS := Lib.hid hS
      clear hS
      go_wp2_with fail
      all_goals first | exact HS.out | exact ⟨rfl, HS.out⟩ | rfl | exact ⟨by omega, HS.out⟩
     ·intro w' hS
      refine OpTo.plain ?_ ?_
      exact rfl
      have e := (hS.cell (p := ⟨bl, k * 3 + 1, none⟩) hbl).trans E1.out
      simp [Fw.vals] at e
      have hbb := Nat.lt_of_lt_of_le hbl hS.size
      have HS := Lib.hid hS
      clear hS
      go_wp2_with fail
      all_goals first | exact HS.out | exact ⟨rfl, HS.out⟩ | rfl | exact ⟨by omega, HS.out⟩
     ·intro w' hS
      refine OpTo.plain ?_ ?_
      exact rfl
      have e := (hS.cell (p := ⟨bl, k * 3 + 1, none⟩) hbl).trans E1.out
      simp [Fw.vals] at e
      have hbb := Nat.lt_of_lt_of_le hbl hS.size
      have HS := Lib.hid hS
      clear hS
      go_wp2_with fail
      all_goals first | exact HS.out | exact ⟨rfl, HS.out⟩ | rfl | exact ⟨by omega, HS.out⟩
     ·intro w' hS
      refine OpTo.plain ?_ ?_
      exact rfl
      have e := (hS.cell (p := ⟨bl, k * 3 + 1, none⟩) hbl).trans E1.out
      simp [Fw.vals] at e
      have hbb := Nat.lt_of_lt_of_le hbl hS.size
      have HS := Lib.hid hS
      clear hS
      go_wp2_with fail
      all_goals first | exact HS.out | exact ⟨rfl, HS.out⟩ | rfl | exact ⟨by omega, HS.out⟩
     ·intro w' hS
      refine OpTo.plain ?_ ?_
      exact rfl
      have HS := Lib.hid hS
      clear hS
      go_wp2_with fail
      all_goals first | exact HS.out | exact ⟨rfl, HS.out⟩ | rfl | exact ⟨by omega, HS.out⟩
     ·intro w' hS
      refine OpTo.plain ?_ ?_
      exact rfl
      have HS := Lib.hid hS
      clear hS
      go_wp2_with fail
      all_goals first | exact HS.out | exact ⟨rfl, HS.out⟩ | rfl | exact ⟨by omega, HS.out⟩
     ·intro w' hS
      refine OpTo.plain ?_ ?_
      exact rfl
      have HS := Lib.hid hS
      clear hS
      go_wp2_with fail
      all_goals first | exact HS.out | exact ⟨rfl, HS.out⟩ | rfl | exact ⟨by omega, HS.out⟩
     ·intro w' hS
      refine OpTo.plain ?_ ?_
      exact rfl
      have e := (hS.cell (p := ⟨bl, k * 3 + 2, none⟩) hbl).trans E2.out
      simp [Fw.vals] at e
      have hbb := Nat.lt_of_lt_of_le hbl hS.size
      have HS := Lib.hid hS
      clear hS
      go_wp2_with fail
      all_goals first | exact HS.out | exact ⟨rfl, HS.out⟩ | rfl | exact ⟨by omega, HS.out⟩
     ·intro w' hS
      refine OpTo.plain ?_ ?_
      exact rfl
      have e := (hS.cell (p := ⟨bl, k * 3 + 2, none⟩) hbl).trans E2.out
      simp [Fw.vals] at e
      have hbb := Nat.lt_of_lt_of_le hbl hS.size
      have HS := Lib.hid hS
      clear hS
      go_wp2_with fail
      all_goals first | exact HS.out | exact ⟨rfl, HS.out⟩ | rfl | exact ⟨by omega, HS.out⟩
     ·intro w' hS
      refine OpTo.plain ?_ ?_
      exact rfl
      have e := (hS.cell (p := ⟨bl, k * 3 + 2, none⟩) hbl).trans E2.out
      simp [Fw.vals] at e
      have hbb := Nat.lt_of_lt_of_le hbl hS.size
      have HS := Lib.hid hS
      clear hS
      go_wp2_with fail
      all_goals first | exact HS.out | exact ⟨rfl, HS.out⟩ | rfl | exact ⟨by omega, HS.out⟩
    simp only [List.getD_cons_succ, List.getD_cons_zero, List.toList_toArray]
    intro w' hS
    refine OpTo.plain ?_ ?_
    exact rfl
    have CQ := Lib.hid (CP.out w' hS)
    have HSS := Lib.hid hS
    clear hS
    go_wp2_with fail
    refine CQ.out.mono ?_
    rintro e w6 ⟨rfl, vl6, hL6, k6⟩
    refine ⟨rfl, ?_⟩
    have L6 := Lib.hid hL6
    have K6 := Lib.hid (KK.out.trans ((Keep.of_below (S := (· = g)) HSS.out).trans k6))
    clear hL6 k6 CP CQ E0 E1 E2
    go_wp2_with fail
    exact ⟨⟨k + 1, by have := HK.out; omega, by go_num, ⟨vl6, by rw [NX.out]; exact L6.out⟩, K6.out⟩, by simp [intOf]; have := HK.out; omega⟩
   ·have hkn : k = L.length := by omega
    subst hkn
    have q0 : decide (((L.length : Nat) : Int) < (L.length : Int)) = false := by simp
    rw [List.take_length] at LL
    have BE := Lib.hid ((Keep.of_below (S := (· = g)) B2.out).trans KK.out)
    go_wp2_with fail
    refine bodyPost_ret (v := .tuple #[.int .i64 (L.length : Nat), .int .i64 0]) (by simp [results, Tryz.results55, go_sem]) rfl ?_
    refine ⟨?_, ?_, BE.out⟩
    ·rw [PN.out.1, EZ.out]
    ·rw [PN.out.2]; exact ⟨vl2, LL.out⟩
end Go.Proofs.YtbieomgpfhloeaaGreat
