/-
  No cell of these rows narrows 'for every input' (looked for: loops, veiled, ifaces, maps, wideKeys, modest, calm, conditions, laid).
  DERIVED. THE GIVEN ROWS OF THIS SEAT. 6 by the template 'for every input the law returns true; each argument reads behind the call as it read before'; 0 by the template 'total and deterministic' (their statements: YtdkmbbjdoonomaaTotals.lean).
  GIVEN WITH THE SEED: the statements are not yours to turn. If you find one false, say at which input.
  Laid BY PROGRAM, IN A SANDBOX (cutbox-rows.mjs): the forced cells as the released guide's own fill.sh prints them over the translation 8d35207c687fb321… (all of the seat's roots in one cut). By AI agents, Wed Nov 11 2026. No macro, syntax, notation, axiom, sorry.
-/
import Derived.Test.YtdkmbbjdoonomaaChecked
import GoSem.Claim
import GoSem.ClaimJoined
import GoSem.ClaimMapViews
import Derived.JoinedTies
import Derived.KernelRfl
namespace Go.Proofs.Ytdkmbbjdoonomaa
/- THE CELL 'sum', in the pinned program and in every row, IS THE sha256 OF THE DUMP (.gsa) THAT YtdkmbbjdoonomaaProg.lean LOADS. Nothing in Lean hashes anything: it is a label: what it is worth is what the hold of that sum in a sandbox is worth. -/
noncomputable def Try.pinned : Pinned := { name := "ytdkmbbjdoonomaa", sum := "8d35207c687fb32177711737757f1c7c421c367ca6704dcf558615cfb640a751", checked := Try.checked }
namespace Rows
def none {H : Type} : Left H := { results := [], args := [] }

/-- 'countinghouselaw02.RatsOf': WHATEVER THE INPUT: true; the input reads as it did. -/
def ratsOfSpec : ChangeSpec := { name := "ratsOf", fn := fun _ => fun
  | [d1, d2] => { results := [.lit (.bool true)], args := [d1, d2] }
  | _ => none }
def ratsOfRow : OpenClaim := { program := "ytdkmbbjdoonomaa", sum := "8d35207c687fb32177711737757f1c7c421c367ca6704dcf558615cfb640a751", func := "countinghouse/countinghouselaw02.RatsOf", spec := "ratsOf", inPlace := ["math/bits.Add64"], named := ["math/bits.divideError", "math/bits.overflowError"], apart := false }
def RatsOfSaid : Prop := ratsOfRow.holds Try.pinned (OpenSpec.ofChange ratsOfSpec)

/-- ITS FALSE NEIGHBOUR: 'it returns false'. Refute it at one input. -/
def ratsOfWrong : ChangeSpec := { name := "ratsOf", fn := fun _ => fun
  | [d1, d2] => { results := [.lit (.bool false)], args := [d1, d2] }
  | _ => none }
def RatsOfWrongFalsely : Prop := ratsOfRow.holds Try.pinned (OpenSpec.ofChange ratsOfWrong)

/-- 'countinghouselaw02.RatsCompare': WHATEVER THE INPUT: true; the input reads as it did. -/
def ratsCompareSpec : ChangeSpec := { name := "ratsCompare", fn := fun _ => fun
  | [d1, d2] => { results := [.lit (.bool true)], args := [d1, d2] }
  | _ => none }
def ratsCompareRow : OpenClaim := { program := "ytdkmbbjdoonomaa", sum := "8d35207c687fb32177711737757f1c7c421c367ca6704dcf558615cfb640a751", func := "countinghouse/countinghouselaw02.RatsCompare", spec := "ratsCompare", inPlace := ["math/bits.Add64"], named := ["math/bits.divideError", "math/bits.overflowError"], apart := false }
def RatsCompareSaid : Prop := ratsCompareRow.holds Try.pinned (OpenSpec.ofChange ratsCompareSpec)

/-- ITS FALSE NEIGHBOUR: 'it returns false'. Refute it at one input. -/
def ratsCompareWrong : ChangeSpec := { name := "ratsCompare", fn := fun _ => fun
  | [d1, d2] => { results := [.lit (.bool false)], args := [d1, d2] }
  | _ => none }
def RatsCompareWrongFalsely : Prop := ratsCompareRow.holds Try.pinned (OpenSpec.ofChange ratsCompareWrong)

/-- 'countinghouselaw02.RatsBy': WHATEVER THE INPUT: true; the input reads as it did. -/
def ratsBySpec : ChangeSpec := { name := "ratsBy", fn := fun _ => fun
  | [d1, d2] => { results := [.lit (.bool true)], args := [d1, d2] }
  | _ => none }
def ratsByRow : OpenClaim := { program := "ytdkmbbjdoonomaa", sum := "8d35207c687fb32177711737757f1c7c421c367ca6704dcf558615cfb640a751", func := "countinghouse/countinghouselaw02.RatsBy", spec := "ratsBy", inPlace := ["math/bits.Add64"], named := ["math/bits.divideError", "math/bits.overflowError"], apart := false }
def RatsBySaid : Prop := ratsByRow.holds Try.pinned (OpenSpec.ofChange ratsBySpec)

/-- ITS FALSE NEIGHBOUR: 'it returns false'. Refute it at one input. -/
def ratsByWrong : ChangeSpec := { name := "ratsBy", fn := fun _ => fun
  | [d1, d2] => { results := [.lit (.bool false)], args := [d1, d2] }
  | _ => none }
def RatsByWrongFalsely : Prop := ratsByRow.holds Try.pinned (OpenSpec.ofChange ratsByWrong)

/-- 'countinghouselaw02.RatsOrder': WHATEVER THE INPUT: true; the input reads as it did. -/
def ratsOrderSpec : ChangeSpec := { name := "ratsOrder", fn := fun _ => fun
  | [d1, d2, d3] => { results := [.lit (.bool true)], args := [d1, d2, d3] }
  | _ => none }
def ratsOrderRow : OpenClaim := { program := "ytdkmbbjdoonomaa", sum := "8d35207c687fb32177711737757f1c7c421c367ca6704dcf558615cfb640a751", func := "countinghouse/countinghouselaw02.RatsOrder", spec := "ratsOrder", inPlace := ["math/bits.Add64"], named := ["math/bits.divideError", "math/bits.overflowError"], apart := false }
def RatsOrderSaid : Prop := ratsOrderRow.holds Try.pinned (OpenSpec.ofChange ratsOrderSpec)

/-- ITS FALSE NEIGHBOUR: 'it returns false'. Refute it at one input. -/
def ratsOrderWrong : ChangeSpec := { name := "ratsOrder", fn := fun _ => fun
  | [d1, d2, d3] => { results := [.lit (.bool false)], args := [d1, d2, d3] }
  | _ => none }
def RatsOrderWrongFalsely : Prop := ratsOrderRow.holds Try.pinned (OpenSpec.ofChange ratsOrderWrong)

/-- 'countinghouselaw02.RatsFits': WHATEVER THE INPUT: true; the input reads as it did. -/
def ratsFitsSpec : ChangeSpec := { name := "ratsFits", fn := fun _ => fun
  | [d1, d2] => { results := [.lit (.bool true)], args := [d1, d2] }
  | _ => none }
def ratsFitsRow : OpenClaim := { program := "ytdkmbbjdoonomaa", sum := "8d35207c687fb32177711737757f1c7c421c367ca6704dcf558615cfb640a751", func := "countinghouse/countinghouselaw02.RatsFits", spec := "ratsFits", inPlace := ["math/bits.Add64"], named := ["math/bits.divideError", "math/bits.overflowError"], apart := false }
def RatsFitsSaid : Prop := ratsFitsRow.holds Try.pinned (OpenSpec.ofChange ratsFitsSpec)

/-- ITS FALSE NEIGHBOUR: 'it returns false'. Refute it at one input. -/
def ratsFitsWrong : ChangeSpec := { name := "ratsFits", fn := fun _ => fun
  | [d1, d2] => { results := [.lit (.bool false)], args := [d1, d2] }
  | _ => none }
def RatsFitsWrongFalsely : Prop := ratsFitsRow.holds Try.pinned (OpenSpec.ofChange ratsFitsWrong)

/-- 'countinghouselaw02.RatsScaled': WHATEVER THE INPUT: true; the input reads as it did. -/
def ratsScaledSpec : ChangeSpec := { name := "ratsScaled", fn := fun _ => fun
  | [d1, d2, d3] => { results := [.lit (.bool true)], args := [d1, d2, d3] }
  | _ => none }
def ratsScaledRow : OpenClaim := { program := "ytdkmbbjdoonomaa", sum := "8d35207c687fb32177711737757f1c7c421c367ca6704dcf558615cfb640a751", func := "countinghouse/countinghouselaw02.RatsScaled", spec := "ratsScaled", inPlace := ["math/bits.Add64"], named := ["math/bits.divideError", "math/bits.overflowError"], apart := false }
def RatsScaledSaid : Prop := ratsScaledRow.holds Try.pinned (OpenSpec.ofChange ratsScaledSpec)

/-- ITS FALSE NEIGHBOUR: 'it returns false'. Refute it at one input. -/
def ratsScaledWrong : ChangeSpec := { name := "ratsScaled", fn := fun _ => fun
  | [d1, d2, d3] => { results := [.lit (.bool false)], args := [d1, d2, d3] }
  | _ => none }
def RatsScaledWrongFalsely : Prop := ratsScaledRow.holds Try.pinned (OpenSpec.ofChange ratsScaledWrong)

/- THE SECOND FORM. 'bulk': how many values and letters a reading holds, each counted each time it is reached (what is shared counts as often as it is met; a slice's spare places count too). A statement '..UptoSaid' is the law's where the arguments, and the package variables that the reading takes, are together of bulk at most 1048576: NARROWER than '..Said'. Prove '..Said' where nothing that the law and all that it calls make is longer than what came in: it says more and counts as full. Else prove '..UptoSaid'. A law counts once. -/
mutual
def uptoBulk {H : Type} : DataW H → Nat
  | .lit (.string bytes) => bytes.length + 1
  | .lit _ => 1
  | .nil => 1
  | .ptr d => uptoBulk d + 1
  | .slice elems spare => uptoBulkAll elems + uptoBulkAll spare + 1
  | .agg parts => uptoBulkAll parts + 1
  | .iface _ d => uptoBulk d + 1
  | .map entries => uptoBulkEntries entries + 1
  | .held _ => 1
def uptoBulkAll {H : Type} : List (DataW H) → Nat
  | [] => 0
  | d :: r => uptoBulk d + uptoBulkAll r
def uptoBulkEntries {H : Type} : List (Lit × DataW H) → Nat
  | [] => 0
  | x :: r => uptoBulkEntry x + uptoBulkEntries r
def uptoBulkEntry {H : Type} : Lit × DataW H → Nat
  | (.string bytes, d) => bytes.length + uptoBulk d + 1
  | (_, d) => uptoBulk d + 1
 end
def uptoSmall : (H : Type) → List (DataW H) → Bool := fun _ ds => decide (uptoBulkAll ds ≤ 1048576)
def OpenSpec.upto (s : _root_.Go.ChangeSpec) : _root_.Go.OpenSpec := { _root_.Go.OpenSpec.ofChange s with cond := some uptoSmall }

/-- 'countinghouselaw02.RatsOf', WHERE WHAT IT READS IS OF BULK AT MOST 1048576: true; the input reads as it did. -/
def ratsOfUptoRow : OpenClaim := { program := "ytdkmbbjdoonomaa", sum := "8d35207c687fb32177711737757f1c7c421c367ca6704dcf558615cfb640a751", func := "countinghouse/countinghouselaw02.RatsOf", spec := "ratsOf", inPlace := ["math/bits.Add64"], named := ["math/bits.divideError", "math/bits.overflowError"], apart := false, narrowed := true }
def RatsOfUptoSaid : Prop := ratsOfUptoRow.holds Try.pinned (OpenSpec.upto ratsOfSpec)

/-- 'countinghouselaw02.RatsCompare', WHERE WHAT IT READS IS OF BULK AT MOST 1048576: true; the input reads as it did. -/
def ratsCompareUptoRow : OpenClaim := { program := "ytdkmbbjdoonomaa", sum := "8d35207c687fb32177711737757f1c7c421c367ca6704dcf558615cfb640a751", func := "countinghouse/countinghouselaw02.RatsCompare", spec := "ratsCompare", inPlace := ["math/bits.Add64"], named := ["math/bits.divideError", "math/bits.overflowError"], apart := false, narrowed := true }
def RatsCompareUptoSaid : Prop := ratsCompareUptoRow.holds Try.pinned (OpenSpec.upto ratsCompareSpec)

/-- 'countinghouselaw02.RatsBy', WHERE WHAT IT READS IS OF BULK AT MOST 1048576: true; the input reads as it did. -/
def ratsByUptoRow : OpenClaim := { program := "ytdkmbbjdoonomaa", sum := "8d35207c687fb32177711737757f1c7c421c367ca6704dcf558615cfb640a751", func := "countinghouse/countinghouselaw02.RatsBy", spec := "ratsBy", inPlace := ["math/bits.Add64"], named := ["math/bits.divideError", "math/bits.overflowError"], apart := false, narrowed := true }
def RatsByUptoSaid : Prop := ratsByUptoRow.holds Try.pinned (OpenSpec.upto ratsBySpec)

/-- 'countinghouselaw02.RatsOrder', WHERE WHAT IT READS IS OF BULK AT MOST 1048576: true; the input reads as it did. -/
def ratsOrderUptoRow : OpenClaim := { program := "ytdkmbbjdoonomaa", sum := "8d35207c687fb32177711737757f1c7c421c367ca6704dcf558615cfb640a751", func := "countinghouse/countinghouselaw02.RatsOrder", spec := "ratsOrder", inPlace := ["math/bits.Add64"], named := ["math/bits.divideError", "math/bits.overflowError"], apart := false, narrowed := true }
def RatsOrderUptoSaid : Prop := ratsOrderUptoRow.holds Try.pinned (OpenSpec.upto ratsOrderSpec)

/-- 'countinghouselaw02.RatsFits', WHERE WHAT IT READS IS OF BULK AT MOST 1048576: true; the input reads as it did. -/
def ratsFitsUptoRow : OpenClaim := { program := "ytdkmbbjdoonomaa", sum := "8d35207c687fb32177711737757f1c7c421c367ca6704dcf558615cfb640a751", func := "countinghouse/countinghouselaw02.RatsFits", spec := "ratsFits", inPlace := ["math/bits.Add64"], named := ["math/bits.divideError", "math/bits.overflowError"], apart := false, narrowed := true }
def RatsFitsUptoSaid : Prop := ratsFitsUptoRow.holds Try.pinned (OpenSpec.upto ratsFitsSpec)

/-- 'countinghouselaw02.RatsScaled', WHERE WHAT IT READS IS OF BULK AT MOST 1048576: true; the input reads as it did. -/
def ratsScaledUptoRow : OpenClaim := { program := "ytdkmbbjdoonomaa", sum := "8d35207c687fb32177711737757f1c7c421c367ca6704dcf558615cfb640a751", func := "countinghouse/countinghouselaw02.RatsScaled", spec := "ratsScaled", inPlace := ["math/bits.Add64"], named := ["math/bits.divideError", "math/bits.overflowError"], apart := false, narrowed := true }
def RatsScaledUptoSaid : Prop := ratsScaledUptoRow.holds Try.pinned (OpenSpec.upto ratsScaledSpec)

end Rows
end Go.Proofs.Ytdkmbbjdoonomaa
