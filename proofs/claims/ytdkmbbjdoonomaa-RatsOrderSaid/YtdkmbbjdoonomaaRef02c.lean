/-
  countinghouseref02's Of, for every two numbers.
-/
import Derived.Test.YtdkmbbjdoonomaaRef02b
namespace Go.Proofs.Ytdkmbbjdoonomaa
open Go.RowKit
set_option linter.unusedSimpArgs false
set_option linter.unusedVariables false

theorem results_cell_and {P : Program} {fn : Func} {p u : Tmp} {ty : TypeId} (h : fn.results = #[.cell p ty, .tmp u]) (tmps : Array Value) (w : World) (g : Nat) (t : TypeId) (cs : Array Value) (d : TypeDesc) (v : Value)
    (hp : tmps.getD p undef = .pointer (some ⟨g, 0, none⟩)) (hg : w.heap[g]? = some (.cells cs t (0, 0)))
    (hu : P.underlying ty = some d) (hd : (match d with | .struct _ | .array _ _ => true | _ => false) = true) (hi : (P.info? ty).map (·.size) = some cs.size) (hv : tmps.getD u undef = v) :
    (results fn tmps).run P w = .ok (.tuple #[.agg cs, v]) w := by
  have h1 := results_cell_row (P := P) (fn := { fn with results := #[.cell p ty] }) rfl tmps w g t cs (0, 0) d hp hg hu hd hi
  rw [results_cell_tmp h]
  have h2 : ((asAddr (tmps.getD p undef)).run P w).andThen (fun a w₁ => (loadVar ty a).run P w₁) = .ok (.agg cs) w := by
    simpa [results, Sem.run_bind, Result.andThen] using h1
  rw [hp] at h2 ⊢
  simp only [asAddr, Sem.run_pure, Result.andThen_ok] at h2 ⊢
  rw [h2]
  simp only [Result.andThen_ok, hv]

set_option maxHeartbeats 1000000 in
theorem rof2_good (n d g x y : Int) (w : World) (h1 : 1 ≤ n) (h2 : 1 ≤ d) (hn : In64 n) (hd : In64 d) (hg : (Int.gcd n d : Int) = g) (hx : n / g = x) (hy : d / g = y) (hxl : x ≤ 1099511627776) (hyl : y ≤ 1099511627776) (hx0 : 0 ≤ x) (hy0 : 0 ≤ y) (hg0 : 1 ≤ g) :
    Calls Try.prog 10 #[.int .i64 n, .int .i64 d] w fun e w' => e = .returned (.tuple #[.agg #[.int .i64 x, .int .i64 y], .int .i64 0]) ∧ Below w.heap.size w w' := by
  have c := Lib.hid (fun w => common_any n d w hn hd h1 h2)
  rw [hg] at c
  have e1 : Int.tdiv n g = x := by rw [← hx]; exact Int.tdiv_eq_ediv_of_nonneg (by omega)
  have e2 : Int.tdiv d g = y := by rw [← hy]; exact Int.tdiv_eq_ediv_of_nonneg (by omega)
  have ew1 : wrap64 x = x := wrap64_of x ⟨by omega, by omega⟩
  have ew2 : wrap64 y = y := wrap64_of y ⟨by omega, by omega⟩
  have q2 : Blk (w.alloc (.cells #[.int .i64 0, .int .i64 0] 23)) w.heap.size #[.int .i64 0, .int .i64 0] 23 := Blk.new _ _ _
  have b0 : Below w.heap.size w (w.alloc (.cells #[.int .i64 0, .int .i64 0] 23)) := (Below.refl _ _).alloc (Nat.le_refl _) _
  have hlt := q2.lt
  have Q2 := Lib.hid q2; have B0 := Lib.hid b0
  clear q2 b0
  go_enter Try.func10, Try.ntmps10
  go_wp2_with fail
  refine (c.out _).mono ?_
  rintro e w1 ⟨rfl, rfl⟩
  go_wp2
  go_region
  all_goals
    go_wp2
    refine bodyPost_ret (v := .tuple #[.agg #[.int .i64 x, .int .i64 y], .int .i64 0]) (results_cell_and rfl _ _ w.heap.size 23 #[.int .i64 x, .int .i64 y] _ _ rfl (Blk.drew (Blk.new w #[.int .i64 x, .int .i64 y] 23)).out Try.underlying23 rfl (by kernel_rfl) rfl) rfl ⟨rfl, ?_⟩
    exact ((Below.refl _ _).alloc (Nat.le_refl _) _).drew

end Go.Proofs.Ytdkmbbjdoonomaa
