/-
  Pieces of one proof, without what is not wanted: LayC.
-/
import Derived.Test.YtngnfdnfpiiclaaGreatV02
set_option linter.unusedSimpArgs false
set_option linter.unusedVariables false
namespace Go.Proofs.YtngnfdnfpiiclaaGreat
open Go.RowKit
structure V5 where
 a:Value
 b:Value
 c:Value
 d:Value
 e:Value
structure GV where
 g:Nat
 v:V5
def noV:V5:=⟨undef,undef,undef,undef,undef⟩
def LayI (c d e:Nat) (W:World) (T:TypeId) (zs:Array Value) (cs:V5→Array Value) (R:V5→World→Prop) (s:GV) (D:Nat→Bool) (w:World):Prop :=
 Below W.heap.size W w∧(D c=true→R s.v w)∧(D d=true→W.heap.size≤s.g∧Blk w s.g (if D e=true then cs s.v else zs) T)
section
variable {c d e:Nat} {W w w':World} {T:TypeId} {zs:Array Value} {cs:V5→Array Value} {R:V5→World→Prop} {s:GV} {D:Nat→Bool}
theorem LayI.start:LayI c d e W T zs cs R s (fun _=>false) W.drew:=⟨(Below.refl _ _).drew,fun h=>(Bool.false_ne_true h).elim,fun h=>(Bool.false_ne_true h).elim⟩
theorem insC_ne {k j:Nat} (h:j≠k):ins k D j=D j:=by simp [ins,h]
theorem insC_eq (k:Nat):ins k D k=true:=by simp [ins]
theorem LayI.keep (h:LayI c d e W T zs cs R s D w) (k:Nat) (hk:c≠k∧d≠k∧e≠k):LayI c d e W T zs cs R s (ins k D) w:=by
 unfold LayI at h ⊢
 rw [insC_ne hk.1,insC_ne hk.2.1,insC_ne hk.2.2]
 exact h
theorem LayI.call (h:LayI c d e W T zs cs R s D w) (hk:d≠c∧e≠c) (he:D e=false) (x:V5) (hR:R x w') (hb:Below w.heap.size w w'):LayI c d e W T zs cs R ⟨s.g,x⟩ (ins c D) w':=by
 refine ⟨andB h.1 hb,fun _=>hR,fun q=>?_⟩
 rw [insC_ne hk.1] at q
 obtain ⟨h1,h2⟩:=h.2.2 q
 rw [he] at h2
 rw [insC_ne hk.2,he]
 exact ⟨h1,h2.below hb h2.lt⟩
theorem LayI.lay (h:LayI c d e W T zs cs R s D w) (hk:c≠d∧e≠d) (he:D e=false) (hl:∀ x w w',R x w→Below w.heap.size w w'→R x w'):LayI c d e W T zs cs R ⟨w.heap.size,s.v⟩ (ins d D) (w.alloc (.cells zs T)):=by
 have b:=(Below.refl w.heap.size w).alloc (Nat.le_refl _) (.cells zs T)
 refine ⟨andB h.1 b,fun q=>?_,fun _=>⟨h.1.size,?_⟩⟩
 ·rw [insC_ne hk.1] at q
  exact hl _ _ _ (h.2.1 q) b
 ·rw [insC_ne hk.2,he]
  exact Blk.new _ _ _
theorem LayI.fill (h:LayI c d e W T zs cs R s D w) (hk:c≠e∧d≠e) (hc:D c=true) (hd:D d=true) (he:D e=false) (hl:∀ x w g,R x w→Blk w g zs T→R x (w.setRow g (cs x))):LayI c d e W T zs cs R s (ins e D) (w.setRow s.g (cs s.v)):=by
 obtain ⟨h1,h2⟩:=h.2.2 hd
 rw [he] at h2
 refine ⟨below_setRow h.1 h1 _,fun _=>hl _ _ _ (h.2.1 hc) h2,fun _=>⟨h1,?_⟩⟩
 rw [if_pos (insC_eq e)]
 exact setRow_heap w s.g _ (cs s.v) T (0,0) h2
theorem LayI.res (h:LayI c d e W T zs cs R s D w) (hc:D c=true):R s.v w:=h.2.1 hc
theorem LayI.old (h:LayI c d e W T zs cs R s D w):Below W.heap.size W w:=h.1
theorem leftBy_of {af a':Act} {o:Oper} {Q:Value→World→Prop} {w:World} (v:Value) (hv:a'=af.put o.dst v) (h:Q v w):LeftBy af o Q a' w:=⟨v,hv,h⟩
theorem LayI.blk (h:LayI c d e W T zs cs R s D w) (hd:D d=true) (he:D e=false):Blk w s.g zs T:=by
 have h2:=(h.2.2 hd).2
 rwa [he] at h2
end
end Go.Proofs.YtngnfdnfpiiclaaGreat
