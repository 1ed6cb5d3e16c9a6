/-
  The program's graphs: Edges.
-/
import Derived.Test.YtmfacfnbokadmaaPGr
import Derived.Test.YtmfacfnbokadmaaSame
namespace Go.Proofs.Ytmfacfnbokadmaa
open Go.RowKit
set_option linter.unusedSimpArgs false
set_option linter.unusedVariables false

theorem clipF_any {w : World} {base : Nat} {v : Value} {n : Nat} {xs : List Value} (h : w.ownsRow base 37 3 v n xs) :
    Calls Try.prog 30 #[v] w (ClipPost w base 37 3 n v xs) := by
  rcases h.2 with ⟨rfl, h0⟩ | ⟨g, cap, cur, rfl, hbase, hb, h1, h2, h3, h4⟩
  · subst h0
    have hr := run_slice_clip_none (P := Try.prog) w 22 37 3 Try.underlying22 (Try.sizeOf37 w)
    have hx := h.1
    have hx2 := Lib.hid hx
    clear h hx
    go_enter Try.func30, Try.ntmps30
    go_wp2
    refine bodyPost_ret (v := .slice none 0 0) (by simp [results, Try.results30, go_sem]) rfl ?_
    exact ⟨_, rfl, ⟨hx2.out, .inl ⟨rfl, rfl⟩⟩, rfl, rfl⟩
  · have hr := run_slice_clip (P := Try.prog) w 22 37 3 Try.underlying22 (Try.sizeOf37 w) g n cap h1
    have HR := Lib.hid (show Rowed w base 37 3 (.slice (some ⟨g, 0, none⟩) n n) n xs from ⟨h.1, .inr ⟨g, cur, rfl, hbase, hb, by omega, by omega, h4⟩⟩)
    clear h hb h4 h3
    unfold maxLen at h2
    go_enter Try.func30, Try.ntmps30
    go_wp2
    refine bodyPost_ret (v := .slice (some ⟨g, 0, none⟩) n n) (by simp [results, Try.results30, go_sem]) rfl ?_
    exact ⟨_, rfl, HR.out, rfl, rfl⟩


end Go.Proofs.Ytmfacfnbokadmaa
