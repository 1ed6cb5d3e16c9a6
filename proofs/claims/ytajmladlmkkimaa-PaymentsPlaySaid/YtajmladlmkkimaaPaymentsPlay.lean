/-
  PaymentsPlay: the walk, for every acts and every payments (written by gen_pplay9.py).
-/
import Derived.Test.YtajmladlmkkimaaLives09
import Derived.Test.YtajmladlmkkimaaRef09
import Derived.Test.YtajmladlmkkimaaDoesR
import Derived.Test.YtajmladlmkkimaaLawSame
import Derived.Test.YtajmladlmkkimaaSlIn
namespace Go.Proofs.Ytajmladlmkkimaa
open Go.RowKit Go.ChangeShapes Go.WideShapes Go.Deep
set_option linter.unusedSimpArgs false
set_option linter.unusedVariables false

/-- A payment that is asked for. -/
structure Ak where
  fr : Int
  tt : Int
  cu : Int
  n : Int
def Ak.vals (x : Ak) : List Value := [.int .u8 x.fr, .int .u8 x.tt, .int .u8 x.cu, .int .i64 x.n]
theorem Ak.vals_len (x : Ak) : x.vals.length = 4 := rfl
structure Ak.Fits (x : Ak) : Prop where
  fr : In8 x.fr
  tt : In8 x.tt
  cu : In8 x.cu
  n : In64 x.n
section
variable {H : Type} {enc : TypeId × Value → H} {P : Program} {w : World} {base : Nat} {spare : Nat → Bool} {held : Bool}
theorem ask9_of {t : TypeId} {f0 f1 f2 f3 : Field} (hu : P.underlying t = some (.struct #[f0, f1, f2, f3])) (hC : P.cellsOf t = 4)
    (o : f0.offset = 0 ∧ f1.offset = 1 ∧ f2.offset = 2 ∧ f3.offset = 3) (c : P.cellsOf f0.type = 1 ∧ P.cellsOf f1.type = 1 ∧ P.cellsOf f2.type = 1 ∧ P.cellsOf f3.type = 1)
    (k : P.underlying f0.type = some (.int .u8) ∧ P.underlying f1.type = some (.int .u8) ∧ P.underlying f2.type = some (.int .u8) ∧ P.underlying f3.type = some (.int .i64))
    {fuel : Nat} {cs : List Value} {x : DataW H × List MemPlace} (h : DataW.trod enc P w base spare held fuel t cs = some x) : ∃ x : Ak, x.Fits ∧ cs = x.vals := by
  obtain ⟨xs, n, _, _, hlen, hxl, hf⟩ := DataW.trod_struct hu h
  rw [hC] at hlen
  obtain ⟨m0, e0, w0⟩ := num_of hxl hf (j := 0) rfl o.1 c.1 k.1 (by omega)
  obtain ⟨m1, e1, w1⟩ := num_of hxl hf (j := 1) rfl o.2.1 c.2.1 k.2.1 (by omega)
  obtain ⟨m2, e2, w2⟩ := num_of hxl hf (j := 2) rfl o.2.2.1 c.2.2.1 k.2.2.1 (by omega)
  obtain ⟨m3, e3, w3⟩ := num_of hxl hf (j := 3) rfl o.2.2.2 c.2.2.2 k.2.2.2 (by omega)
  match cs, hlen with
  | [a0, a1, a2, a3], _ =>
    simp at e0 e1 e2 e3
    subst e0 e1 e2 e3
    exact ⟨⟨m0, m1, m2, m3⟩, ⟨In8.of_wf w0, In8.of_wf w1, In8.of_wf w2, In64.of_wf w3⟩, rfl⟩
end
theorem payL_inv {ps : List Int} {ls : List Ln} (h : LInv ps ls) (a b c n : Int) (σ : RS) : LInv ps (payL ps ls a b c n σ) := by
  unfold payL
  split
  · exact pushAll_inv _ h
  · exact h
theorem LInv.len9 {ps : List Int} {ls : List Ln} (h : LInv ps ls) : ps.length ≤ 17 := by
  have h1 := open_all h.bd h.rise
  have h2 := openTo_len ps 0 17
  rw [h1] at h2
  omega
theorem RefL.ne {w : World} {base g : Nat} {ps : List Int} {ls : List Ln} {vp vl : Value} (h : RefL w base g ps ls vp vl) {b : Nat} (hb : b < base) : ¬ g = b ∧ (∀ k, vp.ownBlock = some k → ¬ k = b) ∧ ∀ k, vl.ownBlock = some k → ¬ k = b :=
  ⟨by have := h.ge; omega, fun k hk => by have := (owns_type h.p hk).1; omega, fun k hk => by have := (owns_type h.l hk).1; omega⟩
section
variable {H : Type} {enc : TypeId × Value → H} {w : World} {base : Nat} {spare : Nat → Bool} {held : Bool}
theorem ask9_read {fuel : Nat} {cs : List Value} {x : DataW H × List MemPlace} (h : DataW.trod enc Try.prog w base spare held fuel 47 cs = some x) : ∃ x : Ak, x.Fits ∧ cs = x.vals :=
  ask9_of Try.underlying47 (by kernel_rfl) ⟨rfl, rfl, rfl, rfl⟩ ⟨by kernel_rfl, by kernel_rfl, by kernel_rfl, by kernel_rfl⟩ ⟨Try.underlying42, Try.underlying42, Try.underlying43, Try.underlying2⟩ h
set_option maxRecDepth 100000 in
theorem asks9_open {a : Option Addr} {len cap : Nat} {d : DataW H} {p : List MemPlace} (h : DataW.Trod enc Try.prog w base spare held 36 (.slice a len cap) d p) : ∃ xs : List Ak, SlIn Ak.vals 4 Ak.Fits w a len cap xs :=
  sl_open Try.underlying36 (by kernel_rfl) Ak.vals_len (by decide) (fun fuel cs x h => ask9_read h) h
end
def Play9 (w : World) (G M r len : Nat) (i : Value) (wr : World) : Prop :=
  ∃ (k : Nat) (ps : List Int) (ls : List Ln) (vp vl : Value), k ≤ len ∧ i = .int .i64 k ∧ LedM wr G M ps ls ∧ LInv ps ls ∧ RefL wr r r ps ls vp vl ∧ Below w.heap.size w wr
set_option maxHeartbeats 32000000 in
set_option maxRecDepth 100000 in
theorem pplay_walk (HR : RouteProg) (HM : MostProg) (HL : Lives09) (a : Option Addr) (len cap : Nat) (xs : List Ac) (a2 : Option Addr) (len2 cap2 : Nat) (zs : List Ak) (w : World) (h0 : ActsIn w a len cap xs) (h2 : SlIn Ak.vals 4 Ak.Fits w a2 len2 cap2 zs) :
    Calls Try.prog 4 #[.slice a len cap, .slice a2 len2 cap2] w fun e w' => e = .returned (.bool true) ∧ Below w.heap.size w w' := by
  have HA := Lib.hid h0
  have HZ := Lib.hid h2
  have hxl := h0.1
  have hcap := h0.2.2.1
  have hmax := h0.2.2.2.1
  have hcap2 := h2.2.2.2.1
  have hmax2 := h2.2.2.2.2.1
  have hzl := h2.2.1
  unfold maxLen at hmax hmax2
  have HRo := Lib.hid HR
  have HMo := Lib.hid HM
  have HLo := Lib.hid HL
  clear h0 h2 HR HM HL
  by_cases hle : ¬ (len ≤ 120 ∧ len2 ≤ 12)
  · rcases (by omega : 120 < len ∨ (len ≤ 120 ∧ 12 < len2)) with hq | ⟨hq1, hq2⟩
    · have l1 : decide ((120 : Int) < (len : Int)) = true := by simp; omega
      go_enter Try.func4, Try.ntmps4
      go_wp2_with fail
      refine (HLo.out _).mono ?_
      rintro e w1 ⟨rfl, b1⟩
      have B1 := Lib.hid b1
      clear b1
      go_wp2_with fail
      go_ret
      exact ⟨rfl, B1.out⟩
    · have l1 : decide ((120 : Int) < (len : Int)) = false := by simp; omega
      have l2 : decide ((12 : Int) < (len2 : Int)) = true := by simp; omega
      go_enter Try.func4, Try.ntmps4
      go_wp2_with fail
      refine (HLo.out _).mono ?_
      rintro e w1 ⟨rfl, b1⟩
      have B1 := Lib.hid b1
      clear b1
      go_wp2_with fail
      go_ret
      exact ⟨rfl, B1.out⟩
  obtain ⟨hle, hle2⟩ := Decidable.not_not.1 hle
  have l1 : decide ((120 : Int) < (len : Int)) = false := by simp; omega
  have l2 : decide ((12 : Int) < (len2 : Int)) = false := by simp; omega
  go_enter Try.func4, Try.ntmps4
  go_wp2_with fail
  refine (new_any w).mono ?_
  rintro e w1 ⟨G, M, rfl, hL1, hG, hM, b1⟩
  have hGl := hL1.blk.lt
  have hMl := hL1.map.lt
  have L1 := Lib.hid hL1
  have B1 := Lib.hid b1
  clear hL1 b1
  go_wp2_with fail
  refine (rnew_any w1 w1.heap.size (Nat.le_refl _)).mono ?_
  rintro e w2 ⟨rfl, hr2, b2⟩
  have L2 := Lib.hid (L1.out.below b2)
  have R2 := Lib.hid hr2
  have B2 := Lib.hid (B1.out.trans (b2.mono B1.out.size))
  have hwr : w.heap.size ≤ w1.heap.size := B1.out.size
  clear hr2 b2 L1 B1
  go_wp2_with fail
  generalize hr : w1.heap.size = r at *
  clear hr
  go_loopw [7] (Play9 w G M r len) (fun i _ => len - (intOf i).toNat)
  case atStart => exact ⟨0, [], [], .slice none 0 0, .slice none 0 0, Nat.zero_le _, rfl, L2.out, LInv.nil, R2.out, B2.out⟩
  case round =>
    clear L2 R2 B2
    obtain ⟨k, ps, ls, vp, vl, hk, rfl, hL, hI, hR, hB⟩ := hrel
    have L0 := Lib.hid hL
    have I0 := Lib.hid hI
    have R0 := Lib.hid hR
    have B0 := Lib.hid hB
    clear hL hI hR hB
    by_cases hkl : k < len
    · obtain ⟨b, off, rfl, hb, d0, d1, d2, d3, d4⟩ := (HA.out.below B0.out).at (i := k) (by omega)
      have hx := HA.out.2.1 xs[k] (List.getElem_mem _)
      generalize hxe : xs[k] = x at *
      clear hxe
      have CD := Lib.hid (does_any L0.out I0.out R0.out hx)
      have HK := Lib.hid hkl
      clear hx
      go_wp2_with fail
      refine CD.out.mono ?_
      rintro e w4 ⟨rfl, k4, ps', ls', vp', vl', hL', hI', hR'⟩
      have L4 := Lib.hid hL'
      have I4 := Lib.hid hI'
      have R4 := Lib.hid hR'
      have B4 := Lib.hid (B0.out.trans (k4.below B0.out.size (fun q hq e => by unfold Trio at e; omega)))
      clear hL' hI' hR' k4 CD d0 d1 d2 d3 d4
      go_wp2_with fail
      exact ⟨⟨k + 1, ps', ls', vp', vl', by have := HK.out; omega, by go_num, L4.out, I4.out, R4.out, B4.out⟩, by simp [intOf]; have := HK.out; omega⟩
    · have hkn : k = len := by omega
      subst hkn
      go_wp2_with fail
      go_loopw [8] (Play9 w G M r len2) (fun i _ => len2 - (intOf i).toNat)
      case atStart => exact ⟨0, ps, ls, vp, vl, Nat.zero_le _, rfl, L0.out, I0.out, R0.out, B0.out⟩
      case round =>
        clear L0 I0 R0 B0
        obtain ⟨k, ps, ls, vp, vl, hk, rfl, hL, hI, hR, hB⟩ := hrel
        have L0 := Lib.hid hL
        have I0 := Lib.hid hI
        have R0 := Lib.hid hR
        have B0 := Lib.hid hB
        have hrl := hR.blk.lt
        clear hL hI hR hB
        by_cases hkl : k < len2
        · obtain ⟨b, off, rfl, hb, hcc⟩ := (HZ.out.below B0.out).2.2.2.2.2 (by omega)
          have hkz : k < zs.length := by omega
          have d0 := hcc k hkz 0 _ rfl
          have d1 := hcc k hkz 1 _ rfl
          have d2 := hcc k hkz 2 _ rfl
          have d3 := hcc k hkz 3 _ rfl
          have hx := HZ.out.2.2.1 zs[k] (List.getElem_mem _)
          generalize hxe : zs[k] = x at *
          clear hxe hcc
          obtain ⟨fr, tt, cu, n⟩ := x
          obtain ⟨x0, x1, x2, x3⟩ := hx
          dsimp only at x0 x1 x2 x3 d0 d1 d2 d3
          rw [Nat.add_zero] at d0
          have HX := Lib.hid (And.intro x0 (And.intro x1 (And.intro x2 x3)))
          have HK := Lib.hid hkl
          have bx := (Below.refl wr.heap.size wr).alloc (Nat.le_refl _) (.cells #[.int .u8 fr, .int .u8 tt, .int .u8 cu, .int .i64 n] 47)
          have KX := Lib.hid (Blk.new wr #[.int .u8 fr, .int .u8 tt, .int .u8 cu, .int .i64 n] 47)
          have L1 := Lib.hid (L0.out.below bx)
          have R1 := Lib.hid (R0.out.below bx)
          have B1 := Lib.hid (B0.out.trans (bx.mono B0.out.size))
          obtain ⟨μ, hμ⟩ := route_ends (roomF_inv I0.out cu) fr tt mostW
          obtain ⟨σ, hσ⟩ := route_ends (roomF_inv I0.out cu) fr tt n
          obtain ⟨m, hm⟩ : ∃ m, mostW - μ.left = m := ⟨_, rfl⟩
          have CM1 := Lib.hid (fun w (h : LedM w G M ps ls) => pmost9_any HMo.out h I0.out x0 x1 x2 hμ)
          rw [hm] at CM1
          have CM2 := Lib.hid (fun w (h : RefL w r r ps ls vp vl) => rmost9_any h I0.out x0 x1 hμ)
          rw [hm] at CM2
          have CP1 := Lib.hid (fun w (h : LedM w G M ps ls) => ppay_any HRo.out h I0.out x0 x1 x2 x3 hσ)
          have CP2 := Lib.hid (fun w (h : RefL w r r ps ls vp vl) => rpay9_any h I0.out x0 x1 x2 x3 hσ)
          have IN := Lib.hid (payL_inv I0.out fr tt cu n σ)
          clear bx L0 R0 B0 hμ hσ hm x0 x1 x2 x3
          go_wp2_with fail
          generalize hX : wr.heap.size = X at *
          generalize wr.alloc (.cells #[.int .u8 fr, .int .u8 tt, .int .u8 cu, .int .i64 n] 47) = W at *
          clear d0 d1 d2 d3 hX
          refine region_still (by kernel_rfl) [(.pointer (some ⟨G, 0, none⟩)), (.pointer (some ⟨X, 0, none⟩)), (.int .u8 fr), (.pointer (some ⟨X, 1, none⟩)), (.int .u8 tt), (.pointer (some ⟨X, 2, none⟩)), (.int .u8 cu), (.int .i64 m), (.pointer (some ⟨r, 0, none⟩)), (.pointer (some ⟨X, 0, none⟩)), (.int .u8 fr), (.pointer (some ⟨X, 1, none⟩)), (.int .u8 tt), (.pointer (some ⟨X, 2, none⟩)), (.int .u8 cu), (.int .i64 m), (.bool false)]
            (fun w' => Below W.heap.size W w') (by kernel_rfl) (Below.refl _ _).drew ?_
          intro af haf
          simp only [List.toList_toArray, List.append_eq, List.cons_append, List.nil_append, puts, Act.put, List.getD_cons_zero, List.getD_cons_succ, List.setIfInBounds_toArray, List.set_cons_succ, List.set_cons_zero] at haf
          subst haf
          refine ⟨?_, ?_⟩
          · simp only [List.toList_toArray, List.append_eq, List.cons_append, List.nil_append, EachTo]
            refine ⟨?_, ?_, ?_, ?_, ?_, ?_, ?_, ?_, ?_, ?_, ?_, ?_, ?_, ?_, ?_, ?_, ?_, trivial⟩
            · intro w' hS
              refine OpTo.plain ?_ ?_
              exact rfl
              have HS := Lib.hid hS
              clear hS
              go_wp2_with fail
              all_goals first | exact HS.out | exact ⟨rfl, HS.out⟩ | rfl | exact ⟨by omega, HS.out⟩
            · intro w' hS
              refine OpTo.plain ?_ ?_
              exact rfl
              have kx := KX.out.below hS KX.out.lt
              have hl := kx.lt
              have e0 := kx.cell 0; have e1 := kx.cell 1; have e2 := kx.cell 2; have e3 := kx.cell 3
              simp at e0 e1 e2 e3
              clear kx
              have HS := Lib.hid hS
              clear hS
              go_wp2_with fail
              all_goals first | exact HS.out | exact ⟨rfl, HS.out⟩ | rfl | exact ⟨by omega, HS.out⟩
            · intro w' hS
              refine OpTo.plain ?_ ?_
              exact rfl
              have kx := KX.out.below hS KX.out.lt
              have hl := kx.lt
              have e0 := kx.cell 0; have e1 := kx.cell 1; have e2 := kx.cell 2; have e3 := kx.cell 3
              simp at e0 e1 e2 e3
              clear kx
              have HS := Lib.hid hS
              clear hS
              go_wp2_with fail
              all_goals first | exact HS.out | exact ⟨rfl, HS.out⟩ | rfl | exact ⟨by omega, HS.out⟩
            · intro w' hS
              refine OpTo.plain ?_ ?_
              exact rfl
              have kx := KX.out.below hS KX.out.lt
              have hl := kx.lt
              have e0 := kx.cell 0; have e1 := kx.cell 1; have e2 := kx.cell 2; have e3 := kx.cell 3
              simp at e0 e1 e2 e3
              clear kx
              have HS := Lib.hid hS
              clear hS
              go_wp2_with fail
              all_goals first | exact HS.out | exact ⟨rfl, HS.out⟩ | rfl | exact ⟨by omega, HS.out⟩
            · intro w' hS
              refine OpTo.plain ?_ ?_
              exact rfl
              have kx := KX.out.below hS KX.out.lt
              have hl := kx.lt
              have e0 := kx.cell 0; have e1 := kx.cell 1; have e2 := kx.cell 2; have e3 := kx.cell 3
              simp at e0 e1 e2 e3
              clear kx
              have HS := Lib.hid hS
              clear hS
              go_wp2_with fail
              all_goals first | exact HS.out | exact ⟨rfl, HS.out⟩ | rfl | exact ⟨by omega, HS.out⟩
            · intro w' hS
              refine OpTo.plain ?_ ?_
              exact rfl
              have kx := KX.out.below hS KX.out.lt
              have hl := kx.lt
              have e0 := kx.cell 0; have e1 := kx.cell 1; have e2 := kx.cell 2; have e3 := kx.cell 3
              simp at e0 e1 e2 e3
              clear kx
              have HS := Lib.hid hS
              clear hS
              go_wp2_with fail
              all_goals first | exact HS.out | exact ⟨rfl, HS.out⟩ | rfl | exact ⟨by omega, HS.out⟩
            · intro w' hS
              refine OpTo.plain ?_ ?_
              exact rfl
              have kx := KX.out.below hS KX.out.lt
              have hl := kx.lt
              have e0 := kx.cell 0; have e1 := kx.cell 1; have e2 := kx.cell 2; have e3 := kx.cell 3
              simp at e0 e1 e2 e3
              clear kx
              have HS := Lib.hid hS
              clear hS
              go_wp2_with fail
              all_goals first | exact HS.out | exact ⟨rfl, HS.out⟩ | rfl | exact ⟨by omega, HS.out⟩
            · intro w' hS
              refine OpTo.plain ?_ ?_
              exact rfl
              have HS := Lib.hid hS
              clear hS
              go_wp2_with fail
              refine (CM1.out w' (L1.out.below HS.out)).mono ?_
              rintro e w'' ⟨rfl, hb2⟩
              exact ⟨rfl, andB HS.out hb2⟩
            · intro w' hS
              refine OpTo.plain ?_ ?_
              exact rfl
              have HS := Lib.hid hS
              clear hS
              go_wp2_with fail
              all_goals first | exact HS.out | exact ⟨rfl, HS.out⟩ | rfl | exact ⟨by omega, HS.out⟩
            · intro w' hS
              refine OpTo.plain ?_ ?_
              exact rfl
              have kx := KX.out.below hS KX.out.lt
              have hl := kx.lt
              have e0 := kx.cell 0; have e1 := kx.cell 1; have e2 := kx.cell 2; have e3 := kx.cell 3
              simp at e0 e1 e2 e3
              clear kx
              have HS := Lib.hid hS
              clear hS
              go_wp2_with fail
              all_goals first | exact HS.out | exact ⟨rfl, HS.out⟩ | rfl | exact ⟨by omega, HS.out⟩
            · intro w' hS
              refine OpTo.plain ?_ ?_
              exact rfl
              have kx := KX.out.below hS KX.out.lt
              have hl := kx.lt
              have e0 := kx.cell 0; have e1 := kx.cell 1; have e2 := kx.cell 2; have e3 := kx.cell 3
              simp at e0 e1 e2 e3
              clear kx
              have HS := Lib.hid hS
              clear hS
              go_wp2_with fail
              all_goals first | exact HS.out | exact ⟨rfl, HS.out⟩ | rfl | exact ⟨by omega, HS.out⟩
            · intro w' hS
              refine OpTo.plain ?_ ?_
              exact rfl
              have kx := KX.out.below hS KX.out.lt
              have hl := kx.lt
              have e0 := kx.cell 0; have e1 := kx.cell 1; have e2 := kx.cell 2; have e3 := kx.cell 3
              simp at e0 e1 e2 e3
              clear kx
              have HS := Lib.hid hS
              clear hS
              go_wp2_with fail
              all_goals first | exact HS.out | exact ⟨rfl, HS.out⟩ | rfl | exact ⟨by omega, HS.out⟩
            · intro w' hS
              refine OpTo.plain ?_ ?_
              exact rfl
              have kx := KX.out.below hS KX.out.lt
              have hl := kx.lt
              have e0 := kx.cell 0; have e1 := kx.cell 1; have e2 := kx.cell 2; have e3 := kx.cell 3
              simp at e0 e1 e2 e3
              clear kx
              have HS := Lib.hid hS
              clear hS
              go_wp2_with fail
              all_goals first | exact HS.out | exact ⟨rfl, HS.out⟩ | rfl | exact ⟨by omega, HS.out⟩
            · intro w' hS
              refine OpTo.plain ?_ ?_
              exact rfl
              have kx := KX.out.below hS KX.out.lt
              have hl := kx.lt
              have e0 := kx.cell 0; have e1 := kx.cell 1; have e2 := kx.cell 2; have e3 := kx.cell 3
              simp at e0 e1 e2 e3
              clear kx
              have HS := Lib.hid hS
              clear hS
              go_wp2_with fail
              all_goals first | exact HS.out | exact ⟨rfl, HS.out⟩ | rfl | exact ⟨by omega, HS.out⟩
            · intro w' hS
              refine OpTo.plain ?_ ?_
              exact rfl
              have kx := KX.out.below hS KX.out.lt
              have hl := kx.lt
              have e0 := kx.cell 0; have e1 := kx.cell 1; have e2 := kx.cell 2; have e3 := kx.cell 3
              simp at e0 e1 e2 e3
              clear kx
              have HS := Lib.hid hS
              clear hS
              go_wp2_with fail
              all_goals first | exact HS.out | exact ⟨rfl, HS.out⟩ | rfl | exact ⟨by omega, HS.out⟩
            · intro w' hS
              refine OpTo.plain ?_ ?_
              exact rfl
              have HS := Lib.hid hS
              clear hS
              go_wp2_with fail
              refine (CM2.out w' (R1.out.below HS.out)).mono ?_
              rintro e w'' ⟨rfl, hb2⟩
              exact ⟨rfl, andB HS.out hb2⟩
            · intro w' hS
              refine OpTo.plain ?_ ?_
              exact rfl
              have HS := Lib.hid hS
              clear hS
              go_wp2_with fail
              all_goals first | exact HS.out | exact ⟨rfl, HS.out⟩ | rfl | exact ⟨by omega, HS.out⟩
          intro W1 hS
          have KX1 := Lib.hid (KX.out.below hS KX.out.lt)
          have L2 := Lib.hid (L1.out.below hS)
          have R2 := Lib.hid (R1.out.below hS)
          have B2 := Lib.hid (B1.out.trans (hS.mono B1.out.size))
          clear hS KX L1 R1 B1 CM1 CM2
          have kx := KX1.out.lt
          have e0 := KX1.out.cell 0; have e1 := KX1.out.cell 1; have e2 := KX1.out.cell 2; have e3 := KX1.out.cell 3
          simp at e0 e1 e2 e3
          go_wp2_with fail
          refine (CP1.out W1 L2.out).mono ?_
          rintro e w5 ⟨rfl, hL5, k5⟩
          have L5 := Lib.hid hL5
          have RN := R2.out.ne (show M < r by omega)
          have R5 := Lib.hid (R2.out.keep k5 RN.1 RN.2.1 RN.2.2)
          have KX5 := Lib.hid (KX1.out.keep k5 (by show ¬ X = M; omega))
          have B5 := Lib.hid (B2.out.trans (k5.below B2.out.size (fun q hq e => by omega)))
          clear hL5 k5 RN L2 R2 KX1 B2 CP1 kx e0 e1 e2 e3
          have kx := KX5.out.lt
          have e0 := KX5.out.cell 0; have e1 := KX5.out.cell 1; have e2 := KX5.out.cell 2; have e3 := KX5.out.cell 3
          simp at e0 e1 e2 e3
          go_wp2_with fail
          refine (CP2.out w5 R5.out).mono ?_
          rintro e w6 ⟨rfl, ⟨vl6, hR6⟩, k6⟩
          have R6 := Lib.hid hR6
          have L6 := Lib.hid (L5.out.keep k6 (by show ¬ G = r; omega) (by show ¬ M = r; omega))
          have B6 := Lib.hid (B5.out.trans (k6.below B5.out.size (fun q hq e => by omega)))
          clear hR6 k6 L5 R5 KX5 B5 CP2 kx e0 e1 e2 e3
          have SM := Lib.hid (lawSame_any L6.out IN.out R6.out (by have := IN.out.len9; omega))
          generalize payN ps fr tt cu n σ = np
          generalize payE ps fr tt cu n σ = er
          go_wp2_with fail
          refine SM.out.mono ?_
          rintro e w7 ⟨rfl, b7⟩
          have L7 := Lib.hid (L6.out.below b7)
          have R7 := Lib.hid (R6.out.below b7)
          have B7 := Lib.hid (B6.out.trans (b7.mono B6.out.size))
          clear b7 SM L6 R6 B6
          go_wp2_with fail
          exact ⟨⟨k + 1, ps, _, vp, vl6, by have := HK.out; omega, by go_num, L7.out, IN.out, R7.out, B7.out⟩, by simp [intOf]; have := HK.out; omega⟩
        · have hkn : k = len2 := by omega
          subst hkn
          clear L0 I0 R0
          go_wp2_with fail
          refine (HLo.out _).mono ?_
          rintro e w9 ⟨rfl, b9⟩
          have B9 := Lib.hid (B0.out.trans (b9.mono B0.out.size))
          clear b9
          go_wp2_with fail
          go_ret
          exact ⟨rfl, B9.out⟩

end Go.Proofs.Ytajmladlmkkimaa
