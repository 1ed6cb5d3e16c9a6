/-
  countinghouseref06: Short.
-/
import Derived.Test.YtmfacfnbokadmaaRef06
import Derived.Test.YtmfacfnbokadmaaRef03d
import Derived.Test.YtmfacfnbokadmaaPGrE
namespace Go.Proofs.Ytmfacfnbokadmaa
open Go.RowKit
set_option linter.unusedSimpArgs false
set_option linter.unusedVariables false

theorem goS_dst {f : Int → Int → Int} {B : Int} (h : GInv f B) {x b : Int} {n : Nat} (hd : dst f x b = n + 1) (hr : inS f x 16 b = true) :
    inP (nxt f b n x) ∧ 0 < f x (nxt f b n x) ∧ inS f (nxt f b n x) n b = true ∧ dst f (nxt f b n x) b = n ∧ inS f (nxt f b n x) 16 b = true ∧ (∀ y, inP y → y < nxt f b n x → ¬ (0 < f x y ∧ inS f y n b = true)) ∧ goS f b (dst f x b) x = x :: goS f b (dst f (nxt f b n x) b) (nxt f b n x) := by
  obtain ⟨d1, d2, d3⟩ := dst_spec hr
  rw [hd] at d1 d2 d3
  obtain ⟨n1, n2, n3, n4, n5⟩ := nxt_spec h d1 (d3 n (by omega)) (fun m hm => d3 m (by omega))
  have hdn := dst_eq (by omega) n3 n4
  refine ⟨n1, n2, n3, hdn, inS_mono (by omega) n3, n5, ?_⟩
  rw [hd, hdn]
  rfl
theorem dst_zero {f : Int → Int → Int} {x b : Int} (hr : inS f x 16 b = true) : dst f x b = 0 ↔ x = b := by
  obtain ⟨d1, d2, d3⟩ := dst_spec hr
  constructor
  · intro h
    rw [h] at d1
    have : (b == x) = true := d1
    exact (beq_iff_eq.1 this).symm
  · rintro rfl
    exact dst_eq (by omega) (by show (x == x) = true; simp) (fun m hm => by omega)
theorem shortW_len (f : Int → Int → Int) (a b : Int) : (shortW f a b).length ≤ 17 := by
  unfold shortW
  split
  · rename_i h
    rw [goS_len]
    have := (dst_spec h.2.2.2).2.1
    omega
  · simp
def ShortPost (L : List Int) (w : World) (e : Ending) (w' : World) : Prop :=
  ∃ v, e = .returned v ∧ w'.ownsRow w.heap.size 35 1 v L.length (L.map (.int .u8)) ∧ Below w.heap.size w w'

end Go.Proofs.Ytmfacfnbokadmaa
