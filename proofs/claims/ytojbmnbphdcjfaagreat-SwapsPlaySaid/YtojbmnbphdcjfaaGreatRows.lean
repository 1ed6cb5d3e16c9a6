/-
  No cell of these rows narrows 'for every input' (looked for: loops, veiled, ifaces, maps, wideKeys, modest, calm, conditions, laid).
  DERIVED. THE GIVEN ROWS OF THIS SEAT. 4 by the template 'for every input the law returns true; each argument reads behind the call as it read before'; 0 by the template 'total and deterministic' (their statements: YtojbmnbphdcjfaaGreatTotals.lean).
  GIVEN WITH THE SEED: the statements are not yours to turn. If you find one false, say at which input.
  Laid BY PROGRAM, IN A SANDBOX (cutbox-rows.mjs): the forced cells as the released guide's own fill.sh prints them over the translation 4010502ab250b954… (all of the seat's roots in one cut). By AI agents, Wed Nov 11 2026. No macro, syntax, notation, axiom, sorry.
-/
import Derived.Test.YtojbmnbphdcjfaaGreatChecked
import GoSem.Claim
import GoSem.ClaimJoined
import GoSem.ClaimMapViews
import Derived.JoinedTies
import Derived.KernelRfl
namespace Go.Proofs.YtojbmnbphdcjfaaGreat
/- THE CELL 'sum', in the pinned program and in every row, IS THE sha256 OF THE DUMP (.gsa) THAT YtojbmnbphdcjfaaGreatProg.lean LOADS. Nothing in Lean hashes anything: it is a label: what it is worth is what the hold of that sum in a sandbox is worth. -/
noncomputable def Tryz.pinned : Pinned := { name := "ytojbmnbphdcjfaagreat", sum := "4010502ab250b954c7e54d2c3b858526cdea107fc1adb3e8637e0e10de3daa34", checked := Tryz.checked }
namespace Rows
def none {H : Type} : Left H := { results := [], args := [] }

/-- 'countinghouselaw11.SwapsPlay': WHATEVER THE INPUT: true; the input reads as it did. -/
def swapsPlaySpec : ChangeSpec := { name := "swapsPlay", fn := fun _ => fun
  | [d1, d2] => { results := [.lit (.bool true)], args := [d1, d2] }
  | _ => none }
def swapsPlayRow : OpenClaim := { program := "ytojbmnbphdcjfaagreat", sum := "4010502ab250b954c7e54d2c3b858526cdea107fc1adb3e8637e0e10de3daa34", func := "countinghouse/countinghouselaw11.SwapsPlay", spec := "swapsPlay", inPlace := ["math/bits.Add64", "maps.clone"], unfollowed := true, recurses := true, named := ["math/bits.divideError", "math/bits.overflowError"], plainKeys := false, apart := false }
def SwapsPlaySaid : Prop := swapsPlayRow.holds Tryz.pinned (OpenSpec.ofChange swapsPlaySpec)

/-- ITS FALSE NEIGHBOUR: 'it returns false'. Refute it at one input. -/
def swapsPlayWrong : ChangeSpec := { name := "swapsPlay", fn := fun _ => fun
  | [d1, d2] => { results := [.lit (.bool false)], args := [d1, d2] }
  | _ => none }
def SwapsPlayWrongFalsely : Prop := swapsPlayRow.holds Tryz.pinned (OpenSpec.ofChange swapsPlayWrong)

/-- 'countinghouselaw11.SwapsVoid': WHATEVER THE INPUT: true; the input reads as it did. -/
def swapsVoidSpec : ChangeSpec := { name := "swapsVoid", fn := fun _ => fun
  | [d] => { results := [.lit (.bool true)], args := [d] }
  | _ => none }
def swapsVoidRow : OpenClaim := { program := "ytojbmnbphdcjfaagreat", sum := "4010502ab250b954c7e54d2c3b858526cdea107fc1adb3e8637e0e10de3daa34", func := "countinghouse/countinghouselaw11.SwapsVoid", spec := "swapsVoid", inPlace := ["math/bits.Add64", "maps.clone"], unfollowed := true, recurses := true, named := ["math/bits.divideError", "math/bits.overflowError"], plainKeys := false, apart := false }
def SwapsVoidSaid : Prop := swapsVoidRow.holds Tryz.pinned (OpenSpec.ofChange swapsVoidSpec)

/-- ITS FALSE NEIGHBOUR: 'it returns false'. Refute it at one input. -/
def swapsVoidWrong : ChangeSpec := { name := "swapsVoid", fn := fun _ => fun
  | [d] => { results := [.lit (.bool false)], args := [d] }
  | _ => none }
def SwapsVoidWrongFalsely : Prop := swapsVoidRow.holds Tryz.pinned (OpenSpec.ofChange swapsVoidWrong)

/-- 'countinghouselaw11.SwapsExact': WHATEVER THE INPUT: true; the input reads as it did. -/
def swapsExactSpec : ChangeSpec := { name := "swapsExact", fn := fun _ => fun
  | [d1, d2] => { results := [.lit (.bool true)], args := [d1, d2] }
  | _ => none }
def swapsExactRow : OpenClaim := { program := "ytojbmnbphdcjfaagreat", sum := "4010502ab250b954c7e54d2c3b858526cdea107fc1adb3e8637e0e10de3daa34", func := "countinghouse/countinghouselaw11.SwapsExact", spec := "swapsExact", inPlace := ["math/bits.Add64", "maps.clone"], unfollowed := true, recurses := true, named := ["math/bits.divideError", "math/bits.overflowError"], plainKeys := false, apart := false }
def SwapsExactSaid : Prop := swapsExactRow.holds Tryz.pinned (OpenSpec.ofChange swapsExactSpec)

/-- ITS FALSE NEIGHBOUR: 'it returns false'. Refute it at one input. -/
def swapsExactWrong : ChangeSpec := { name := "swapsExact", fn := fun _ => fun
  | [d1, d2] => { results := [.lit (.bool false)], args := [d1, d2] }
  | _ => none }
def SwapsExactWrongFalsely : Prop := swapsExactRow.holds Tryz.pinned (OpenSpec.ofChange swapsExactWrong)

/-- 'countinghouselaw11.SwapsBest': WHATEVER THE INPUT: true; the input reads as it did. -/
def swapsBestSpec : ChangeSpec := { name := "swapsBest", fn := fun _ => fun
  | [d1, d2] => { results := [.lit (.bool true)], args := [d1, d2] }
  | _ => none }
def swapsBestRow : OpenClaim := { program := "ytojbmnbphdcjfaagreat", sum := "4010502ab250b954c7e54d2c3b858526cdea107fc1adb3e8637e0e10de3daa34", func := "countinghouse/countinghouselaw11.SwapsBest", spec := "swapsBest", inPlace := ["math/bits.Add64", "maps.clone", "math/bits.Sub64"], unfollowed := true, recurses := true, named := ["math/bits.divideError", "math/bits.overflowError"], plainKeys := false, apart := false }
def SwapsBestSaid : Prop := swapsBestRow.holds Tryz.pinned (OpenSpec.ofChange swapsBestSpec)

/-- ITS FALSE NEIGHBOUR: 'it returns false'. Refute it at one input. -/
def swapsBestWrong : ChangeSpec := { name := "swapsBest", fn := fun _ => fun
  | [d1, d2] => { results := [.lit (.bool false)], args := [d1, d2] }
  | _ => none }
def SwapsBestWrongFalsely : Prop := swapsBestRow.holds Tryz.pinned (OpenSpec.ofChange swapsBestWrong)

/- THE SECOND FORM. 'bulk': how many values and letters a reading holds, each counted each time it is reached (what is shared counts as often as it is met; a slice's spare places count too). A statement '..UptoSaid' is the law's where the arguments, and the package variables that the reading takes, are together of bulk at most 1048576: NARROWER than '..Said'. Prove '..Said' where nothing that the law and all that it calls make is longer than what came in: it says more and counts as full. Else prove '..UptoSaid'. A law counts once. -/
mutual
def uptoBulk {H : Type} : DataW H → Nat
  | .lit (.string bytes) => bytes.length + 1
  | .lit _ => 1
  | .nil => 1
  | .ptr d => uptoBulk d + 1
  | .slice elems spare => uptoBulkAll elems + uptoBulkAll spare + 1
  | .agg parts => uptoBulkAll parts + 1
  | .iface _ d => uptoBulk d + 1
  | .map entries => uptoBulkEntries entries + 1
  | .held _ => 1
def uptoBulkAll {H : Type} : List (DataW H) → Nat
  | [] => 0
  | d :: r => uptoBulk d + uptoBulkAll r
def uptoBulkEntries {H : Type} : List (Lit × DataW H) → Nat
  | [] => 0
  | x :: r => uptoBulkEntry x + uptoBulkEntries r
def uptoBulkEntry {H : Type} : Lit × DataW H → Nat
  | (.string bytes, d) => bytes.length + uptoBulk d + 1
  | (_, d) => uptoBulk d + 1
 end
def uptoSmall : (H : Type) → List (DataW H) → Bool := fun _ ds => decide (uptoBulkAll ds ≤ 1048576)
def OpenSpec.upto (s : _root_.Go.ChangeSpec) : _root_.Go.OpenSpec := { _root_.Go.OpenSpec.ofChange s with cond := some uptoSmall }

/-- 'countinghouselaw11.SwapsPlay', WHERE WHAT IT READS IS OF BULK AT MOST 1048576: true; the input reads as it did. -/
def swapsPlayUptoRow : OpenClaim := { program := "ytojbmnbphdcjfaagreat", sum := "4010502ab250b954c7e54d2c3b858526cdea107fc1adb3e8637e0e10de3daa34", func := "countinghouse/countinghouselaw11.SwapsPlay", spec := "swapsPlay", inPlace := ["math/bits.Add64", "maps.clone"], unfollowed := true, recurses := true, named := ["math/bits.divideError", "math/bits.overflowError"], plainKeys := false, apart := false, narrowed := true }
def SwapsPlayUptoSaid : Prop := swapsPlayUptoRow.holds Tryz.pinned (OpenSpec.upto swapsPlaySpec)

/-- 'countinghouselaw11.SwapsVoid', WHERE WHAT IT READS IS OF BULK AT MOST 1048576: true; the input reads as it did. -/
def swapsVoidUptoRow : OpenClaim := { program := "ytojbmnbphdcjfaagreat", sum := "4010502ab250b954c7e54d2c3b858526cdea107fc1adb3e8637e0e10de3daa34", func := "countinghouse/countinghouselaw11.SwapsVoid", spec := "swapsVoid", inPlace := ["math/bits.Add64", "maps.clone"], unfollowed := true, recurses := true, named := ["math/bits.divideError", "math/bits.overflowError"], plainKeys := false, apart := false, narrowed := true }
def SwapsVoidUptoSaid : Prop := swapsVoidUptoRow.holds Tryz.pinned (OpenSpec.upto swapsVoidSpec)

/-- 'countinghouselaw11.SwapsExact', WHERE WHAT IT READS IS OF BULK AT MOST 1048576: true; the input reads as it did. -/
def swapsExactUptoRow : OpenClaim := { program := "ytojbmnbphdcjfaagreat", sum := "4010502ab250b954c7e54d2c3b858526cdea107fc1adb3e8637e0e10de3daa34", func := "countinghouse/countinghouselaw11.SwapsExact", spec := "swapsExact", inPlace := ["math/bits.Add64", "maps.clone"], unfollowed := true, recurses := true, named := ["math/bits.divideError", "math/bits.overflowError"], plainKeys := false, apart := false, narrowed := true }
def SwapsExactUptoSaid : Prop := swapsExactUptoRow.holds Tryz.pinned (OpenSpec.upto swapsExactSpec)

/-- 'countinghouselaw11.SwapsBest', WHERE WHAT IT READS IS OF BULK AT MOST 1048576: true; the input reads as it did. -/
def swapsBestUptoRow : OpenClaim := { program := "ytojbmnbphdcjfaagreat", sum := "4010502ab250b954c7e54d2c3b858526cdea107fc1adb3e8637e0e10de3daa34", func := "countinghouse/countinghouselaw11.SwapsBest", spec := "swapsBest", inPlace := ["math/bits.Add64", "maps.clone", "math/bits.Sub64"], unfollowed := true, recurses := true, named := ["math/bits.divideError", "math/bits.overflowError"], plainKeys := false, apart := false, narrowed := true }
def SwapsBestUptoSaid : Prop := swapsBestUptoRow.holds Tryz.pinned (OpenSpec.upto swapsBestSpec)

end Rows
end Go.Proofs.YtojbmnbphdcjfaaGreat
