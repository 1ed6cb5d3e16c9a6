/-
  Layer 7's examples, over what the program's Route and Most tell.
-/
import Derived.Test.YtgebplplpenabaaFlowProg
import Derived.Test.YtgebplplpenabaaSameL
import Derived.Test.YtgebplplpenabaaPGrN
namespace Go.Proofs.Ytgebplplpenabaa
open Go.RowKit
set_option linter.unusedSimpArgs false
set_option linter.unusedVariables false

def wayN (s t : Int) (σ : RS) : Nat → RS
  | 0 => σ
  | k + 1 => wayR s t (wayN s t σ k)
theorem route_by {f0 : Int → Int → Int} {B s t want : Int} (h : GInv f0 B) : ∀ k, (∀ j, j < k → ¬ doneR s t (wayN s t ⟨f0, want, []⟩ j)) → RInv f0 B s t want k (wayN s t ⟨f0, want, []⟩ k)
  | 0, _ => RInv.start h s t want
  | k + 1, hj => (route_by h k (fun j hk => hj j (by omega))).step (hj k (by omega))
theorem route_is {f0 : Int → Int → Int} {B s t want : Int} (h : GInv f0 B) (k : Nat) (hj : ∀ j, j < k → ¬ doneR s t (wayN s t ⟨f0, want, []⟩ j)) (hd : doneR s t (wayN s t ⟨f0, want, []⟩ k)) : IsRoute f0 B s t want (wayN s t ⟨f0, want, []⟩ k) :=
  ⟨k, route_by h k hj, hd⟩
def lvF : List Fw := [⟨1, 2, 3⟩, ⟨2, 4, 2⟩, ⟨1, 3, 2⟩, ⟨3, 4, 9⟩, ⟨2, 3, 5⟩]
def lvWant : List Fw := [⟨1, 2, 2⟩, ⟨2, 4, 2⟩, ⟨1, 3, 2⟩, ⟨3, 4, 2⟩]
def lvMore : List Fw := lvWant ++ [⟨1, 2, 1⟩, ⟨2, 3, 1⟩, ⟨3, 4, 1⟩]
theorem lvF_ok : okG lvF := by
  refine ⟨fun x hx => ?_, ?_⟩
  · unfold lvF at hx
    simp at hx
    rcases hx with rfl | rfl | rfl | rfl | rfl <;> (unfold okX; simp)
  · unfold lvF
    simp
theorem lvF_a0 : (∀ j, j < 2 → ¬ doneR 1 4 (wayN 1 4 ⟨newF lvF, 4, []⟩ j)) ∧ doneR 1 4 (wayN 1 4 ⟨newF lvF, 4, []⟩ 2) ∧ (wayN 1 4 ⟨newF lvF, 4, []⟩ 2).out = lvWant ∧ 4 - (wayN 1 4 ⟨newF lvF, 4, []⟩ 2).left = 4 := by
  unfold doneR
  decide +kernel
theorem lvF_b0 : (∀ j, j < 3 → ¬ doneR 1 4 (wayN 1 4 ⟨newF lvF, 9, []⟩ j)) ∧ doneR 1 4 (wayN 1 4 ⟨newF lvF, 9, []⟩ 3) ∧ (wayN 1 4 ⟨newF lvF, 9, []⟩ 3).out = lvMore ∧ 9 - (wayN 1 4 ⟨newF lvF, 9, []⟩ 3).left = 5 := by
  unfold doneR
  decide +kernel
theorem lvF_c0 : (∀ j, j < 0 → ¬ doneR 4 1 (wayN 4 1 ⟨newF lvF, 1, []⟩ j)) ∧ doneR 4 1 (wayN 4 1 ⟨newF lvF, 1, []⟩ 0) ∧ (wayN 4 1 ⟨newF lvF, 1, []⟩ 0).out = [] ∧ 1 - (wayN 4 1 ⟨newF lvF, 1, []⟩ 0).left = 0 := by
  unfold doneR
  decide +kernel
theorem lvF_m0 : (∀ j, j < 3 → ¬ doneR 1 4 (wayN 1 4 ⟨newF lvF, mostW, []⟩ j)) ∧ doneR 1 4 (wayN 1 4 ⟨newF lvF, mostW, []⟩ 3) ∧ mostW - (wayN 1 4 ⟨newF lvF, mostW, []⟩ 3).left = 5 := by
  unfold doneR
  decide +kernel

theorem lvF_a (h : GInv (newF lvF) 4398046511104) : ∃ σ, IsRoute (newF lvF) 4398046511104 1 4 4 σ ∧ σ.out = lvWant ∧ 4 - σ.left = 4 := ⟨_, route_is h 2 lvF_a0.1 lvF_a0.2.1, lvF_a0.2.2⟩
theorem lvF_b (h : GInv (newF lvF) 4398046511104) : ∃ σ, IsRoute (newF lvF) 4398046511104 1 4 9 σ ∧ σ.out = lvMore ∧ 9 - σ.left = 5 := ⟨_, route_is h 3 lvF_b0.1 lvF_b0.2.1, lvF_b0.2.2⟩
theorem lvF_c (h : GInv (newF lvF) 4398046511104) : ∃ σ, IsRoute (newF lvF) 4398046511104 4 1 1 σ ∧ σ.out = [] ∧ 1 - σ.left = 0 := ⟨_, route_is h 0 lvF_c0.1 lvF_c0.2.1, lvF_c0.2.2⟩
theorem lvF_m (h : GInv (newF lvF) 4398046511104) : ∃ σ, IsRoute (newF lvF) 4398046511104 1 4 mostW σ ∧ mostW - σ.left = 5 := ⟨_, route_is h 3 lvF_m0.1 lvF_m0.2.1, lvF_m0.2.2⟩
/-- A row just laid, as a list. -/
theorem reads_new7 {w : World} {cs : Array Value} {t : TypeId} {n size : Nat} {xs : List Value} (hn : n ≤ 100) (hx : xs.length = n * size) (hc : cs.toList = xs) :
    Reads (w.alloc (.cells cs t)) (.slice (some ⟨w.heap.size, 0, none⟩) n n) size n xs :=
  ⟨some ⟨w.heap.size, 0, none⟩, n, rfl, by omega, hx, fun _ => ⟨w.heap.size, 0, rfl, by simp, fun j hj => by
    rw [Nat.zero_add, (Blk.new w cs t).cell j, ← Array.getElem?_toList, hc]⟩⟩
/-- 'append(out, ys...)', of ones that were just laid. -/
theorem wpList_append_fws (w : World) {ops : Array Oper} {rest : List Oper} {o : Oper} {a : Act} {Q : Exit → Act → World → Prop} (hgd : o.guard = none) (s x : Operand)
    (ho : o.op = .call { callee := .builtin .append, args := #[s, x], argTypes := #[22, 22] }) (base : Nat) (v : Value) (ls : List Fw) (hs : a.eval s = v)
    (hown : w.ownsRow base 52 3 v ls.length (fwCells ls)) (g c m : Nat) (ys : List Fw) (hm : ys.length = m) (hx : a.eval x = .slice (some ⟨g, 0, none⟩) m c) {cs : Array Value} (hy : Blk w g cs 52) (hcs : cs.toList = fwCells ys) (hlen : ls.length ≤ 100) (hlen2 : ys.length ≤ 100) (hbase : base ≤ w.heap.size)
    (h : ∀ v' w', w'.ownsRow base 52 3 v' (ls ++ ys).length (fwCells (ls ++ ys)) → w.grownBy w' v.ownBlock → wpList Try.prog ops Q rest (a.put o.dst v') w') : wpList Try.prog ops Q (o :: rest) a w := by
  obtain ⟨i0, hi, hz0, hz1, hz2⟩ := info_parts info_fw
  subst hm
  refine wpList_append_own w hgd s x 22 ho base 52 i0 (Fw.val ⟨0, 0, 0⟩) 3 16 Try.underlying22 hi hz0 hz1 hz2 rfl (by decide) v ls.length (fwCells ls) hs hown ⟨g, 0, none⟩ ys.length c (fwCells ys) hx (fwCells_len ys) ?_ (fwCells_oneCell ys) (by unfold maxLen; omega) (by omega) hbase ?_
  · intro j u hj
    rw [Go.WideShapes.add_plain, Nat.zero_add, hy.cell j, ← Array.getElem?_toList, hcs, hj]
  · intro v' w' h1 h2 _
    refine h v' w' ?_ h2
    rw [fwCells_append, List.length_append]
    exact h1
set_option maxHeartbeats 16000000 in
set_option maxRecDepth 100000 in
theorem lives07_any (HR : RouteProg) (HM : MostProg) : Lives07 := fun w => by
  have HRo := Lib.hid HR
  have HMo := Lib.hid HM
  clear HR HM
  have B0 := Lib.hid ((Below.refl w.heap.size w).alloc (Nat.le_refl _) (.cells #[.int .u8 1, .int .u8 2, .int .i64 3, .int .u8 2, .int .u8 4, .int .i64 2, .int .u8 1, .int .u8 3, .int .i64 2, .int .u8 3, .int .u8 4, .int .i64 9, .int .u8 2, .int .u8 3, .int .i64 5] 52))
  have C1 := Lib.hid (gnew_any (es := lvF) (reads_new7 (w := w) (t := 52) (cs := #[.int .u8 1, .int .u8 2, .int .i64 3, .int .u8 2, .int .u8 4, .int .i64 2, .int .u8 1, .int .u8 3, .int .i64 2, .int .u8 3, .int .u8 4, .int .i64 9, .int .u8 2, .int .u8 3, .int .i64 5]) (by decide) (by decide) rfl) (by decide))
  go_enter Try.func6, Try.ntmps6
  go_wp2_with fail
  refine C1.out.mono ?_
  rintro e w1 ⟨b1, h1⟩
  obtain ⟨_, g, rfl, hg, k1⟩ := h1.resolve_right (fun h => h.1 lvF_ok)
  have B1 := Lib.hid (B0.out.trans (b1.mono B0.out.size))
  have KG := Lib.hid k1
  have I0 := Lib.hid (newF_inv lvF_ok.1)
  obtain ⟨σa, ha, ea, na⟩ := lvF_a I0.out
  obtain ⟨σb, hb, eb, nb⟩ := lvF_b I0.out
  obtain ⟨σc, hc, ec, nc⟩ := lvF_c I0.out
  obtain ⟨σm, hm, nm⟩ := lvF_m I0.out
  have C2 := Lib.hid (HRo.out.at_ (IsM.of KG.out) I0.out (by unfold In8; decide) (by unfold In8; decide) (by unfold In64; decide) ha)
  rw [ea, na] at C2
  have HB2 := Lib.hid hb
  have HC2 := Lib.hid hc
  have HM2 := Lib.hid hm
  have EB := Lib.hid eb
  have EC := Lib.hid ec
  have NB := Lib.hid nb
  have NC := Lib.hid nc
  have NM := Lib.hid nm
  clear b1 k1 C1 B0 hg h1 ha ea na hb eb nb hc ec nc hm nm
  generalize newF lvF = f at *
  go_wp2_with fail
  refine C2.out.mono ?_
  rintro e w2 ⟨va, rfl, ra, b2⟩
  have RA := Lib.hid ra
  have B2 := Lib.hid (B1.out.trans (b2.mono B1.out.size))
  have KG2 := Lib.hid (KG.out.below b2 KG.out.lt)
  have C3 := Lib.hid (HRo.out.at_ (IsM.of KG2.out) I0.out (by unfold In8; decide) (by unfold In8; decide) (by unfold In64; decide) HB2.out)
  rw [EB.out, NB.out] at C3
  clear b2 ra C2 B1 KG
  go_wp2_with fail
  refine C3.out.mono ?_
  rintro e w3 ⟨vb, rfl, rb, b3⟩
  have RB := Lib.hid rb
  have RA3 := Lib.hid (RA.out.below b3)
  have B3 := Lib.hid (B2.out.trans (b3.mono B2.out.size))
  have KG3 := Lib.hid (KG2.out.below b3 KG2.out.lt)
  have C4 := Lib.hid (HRo.out.at_ (IsM.of KG3.out) I0.out (by unfold In8; decide) (by unfold In8; decide) (by unfold In64; decide) HC2.out)
  rw [EC.out, NC.out] at C4
  clear b3 rb C3 B2 KG2 RA
  go_wp2_with fail
  refine C4.out.mono ?_
  rintro e w4 ⟨vc, rfl, rc, b4⟩
  obtain ⟨co, cc, rfl, _⟩ := rc.look (by decide)
  have RA4 := Lib.hid (RA3.out.below b4)
  have RB4 := Lib.hid (RB.out.below b4)
  have B4 := Lib.hid (B3.out.trans (b4.mono B3.out.size))
  have KG4 := Lib.hid (KG3.out.below b4 KG3.out.lt)
  clear b4 rc C4 B3 KG3 RA3 RB
  have B5 := Lib.hid (B4.out.alloc B4.out.size (.cells #[.int .u8 1, .int .u8 2, .int .i64 2, .int .u8 2, .int .u8 4, .int .i64 2, .int .u8 1, .int .u8 3, .int .i64 2, .int .u8 3, .int .u8 4, .int .i64 2] 52))
  have RA5 := Lib.hid (RA4.out.alloc (.cells #[.int .u8 1, .int .u8 2, .int .i64 2, .int .u8 2, .int .u8 4, .int .i64 2, .int .u8 1, .int .u8 3, .int .i64 2, .int .u8 3, .int .u8 4, .int .i64 2] 52))
  have RB5 := Lib.hid (RB4.out.alloc (.cells #[.int .u8 1, .int .u8 2, .int .i64 2, .int .u8 2, .int .u8 4, .int .i64 2, .int .u8 1, .int .u8 3, .int .i64 2, .int .u8 3, .int .u8 4, .int .i64 2] 52))
  have KG5 := Lib.hid (KG4.out.alloc (.cells #[.int .u8 1, .int .u8 2, .int .i64 2, .int .u8 2, .int .u8 4, .int .i64 2, .int .u8 1, .int .u8 3, .int .i64 2, .int .u8 3, .int .u8 4, .int .i64 2] 52))
  have RW5 := Lib.hid (reads_new7 (w := w4) (t := 52) (cs := #[.int .u8 1, .int .u8 2, .int .i64 2, .int .u8 2, .int .u8 4, .int .i64 2, .int .u8 1, .int .u8 3, .int .i64 2, .int .u8 3, .int .u8 4, .int .i64 2]) (n := 4) (size := 3) (xs := fwCells lvWant) (by decide) (by decide) rfl)
  have X5 := Lib.hid (Below.refl (w4.alloc (.cells #[.int .u8 1, .int .u8 2, .int .i64 2, .int .u8 2, .int .u8 4, .int .i64 2, .int .u8 1, .int .u8 3, .int .i64 2, .int .u8 3, .int .u8 4, .int .i64 2] 52)).heap.size (w4.alloc (.cells #[.int .u8 1, .int .u8 2, .int .i64 2, .int .u8 2, .int .u8 4, .int .i64 2, .int .u8 1, .int .u8 3, .int .i64 2, .int .u8 3, .int .u8 4, .int .i64 2] 52)))
  have KW := Lib.hid (Blk.new w4 #[.int .u8 1, .int .u8 2, .int .i64 2, .int .u8 2, .int .u8 4, .int .i64 2, .int .u8 1, .int .u8 3, .int .i64 2, .int .u8 3, .int .u8 4, .int .i64 2] 52)
  clear B4 RA4 RB4 KG4
  go_wp2_with (at_builtin; refine wpList_append_fws _ rfl (.const (.slice none 0 0)) (.tmp 41) rfl (w4.heap.size + 1) _ [] rfl (World.ownsRow_nil _ _ _ _) _ _ _ lvWant rfl rfl KW.out rfl (by decide) (by decide) (by simp) ?_)
  intro v5 w5 O5 G5
  have XA := Lib.hid (X5.out.grown G5 (by simp) (fun k hk => by cases hk))
  have OW := Lib.hid O5
  clear O5 G5 X5 KW
  have hw5 := XA.out.size
  go_wp2_with (at_builtin; refine wpList_append_fws _ rfl (.tmp 42) (.tmp 46) rfl (w4.heap.size + 1) _ ([] ++ lvWant) rfl (OW.out.alloc _) _ _ _ [⟨1, 2, 1⟩, ⟨2, 3, 1⟩, ⟨3, 4, 1⟩] rfl rfl (Blk.new _ _ _) rfl (by decide) (by decide) (by simp at hw5 ⊢; omega) ?_)
  intro v6 w6 O6 G6
  have X6 := Lib.hid ((XA.out.alloc XA.out.size _).grown G6 (by simp at hw5 ⊢; omega) (fun k hk => by simpa using (owns_type OW.out hk).1))
  have B6 := Lib.hid (B5.out.trans (X6.out.mono B5.out.size))
  have RA6 := Lib.hid (RA5.out.below X6.out)
  have RB6 := Lib.hid (RB5.out.below X6.out)
  have KG6 := Lib.hid (KG5.out.below X6.out KG5.out.lt)
  have RW6 := Lib.hid (RW5.out.below X6.out)
  have OW6 := Lib.hid (show World.ownsRow w6 (w4.heap.size + 1) 52 3 v6 lvMore.length (fwCells lvMore) from O6)
  clear O6 G6 XA OW X6 B5 RA5 RB5 KG5 RW5 hw5
  have S1 := Lib.hid (SameFlows_any (la := lvWant) (lb := lvWant) (RowA.reads RA6.out (by decide)) RW6.out)
  rw [decide_eq_true rfl] at S1
  go_wp2_with fail
  refine S1.out.mono ?_
  rintro e w7 ⟨rfl, b7⟩
  have B7 := Lib.hid (B6.out.trans (b7.mono B6.out.size))
  have S2 := Lib.hid (SameFlows_any (la := lvMore) (lb := lvMore) (RowA.reads (RB6.out.below b7) (by decide)) (Reads.of_owns (owns_below OW6.out b7) (by decide)))
  rw [decide_eq_true rfl] at S2
  have KG7 := Lib.hid (KG6.out.below b7 KG6.out.lt)
  clear b7 S1 B6 RB6 RA6 KG6 RW6 OW6
  go_wp2_with fail
  refine S2.out.mono ?_
  rintro e w8 ⟨rfl, b8⟩
  have B8 := Lib.hid (B7.out.trans (b8.mono B7.out.size))
  have KG8 := Lib.hid (KG7.out.below b8 KG7.out.lt)
  have C8 := Lib.hid (HMo.out.at_ (IsM.of KG8.out) I0.out (by unfold In8; decide) (by unfold In8; decide) HM2.out)
  rw [NM.out] at C8
  clear b8 S2 B7 KG7
  go_wp2_with fail
  refine C8.out.mono ?_
  rintro e w9 ⟨rfl, b9⟩
  have B9 := Lib.hid (B8.out.trans (b9.mono B8.out.size))
  clear b9 C8 B8
  go_wp2_with fail
  go_ret
  exact ⟨rfl, B9.out⟩

end Go.Proofs.Ytgebplplpenabaa
