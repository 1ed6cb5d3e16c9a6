/-
  No cell of these rows narrows 'for every input' (looked for: loops, veiled, ifaces, maps, wideKeys, modest, calm, conditions, laid).
  DERIVED. THE GIVEN ROWS OF THIS SEAT. 4 by the template 'for every input the law returns true; each argument reads behind the call as it read before'; 0 by the template 'total and deterministic' (their statements: YtaeocliklpcgmaaGreatTotals.lean).
  GIVEN WITH THE SEED: the statements are not yours to turn. If you find one false, say at which input.
  Laid BY PROGRAM, IN A SANDBOX (cutbox-rows.mjs): the forced cells as the released guide's own fill.sh prints them over the translation 1fe6562b61f370cd… (all of the seat's roots in one cut). By AI agents, Wed Nov 11 2026. No macro, syntax, notation, axiom, sorry.
-/
import Derived.Test.YtaeocliklpcgmaaGreatChecked
import GoSem.Claim
import GoSem.ClaimJoined
import GoSem.ClaimMapViews
import Derived.JoinedTies
import Derived.KernelRfl
namespace Go.Proofs.YtaeocliklpcgmaaGreat
/- THE CELL 'sum', in the pinned program and in every row, IS THE sha256 OF THE DUMP (.gsa) THAT YtaeocliklpcgmaaGreatProg.lean LOADS. Nothing in Lean hashes anything: it is a label: what it is worth is what the hold of that sum in a sandbox is worth. -/
noncomputable def Tryz.pinned : Pinned := { name := "ytaeocliklpcgmaagreat", sum := "1fe6562b61f370cd962584cee0f74fa06968a9ef244c27304c9d19c67f2e3922", checked := Tryz.checked }
namespace Rows
def none {H : Type} : Left H := { results := [], args := [] }

/-- 'countinghouselaw12.PlacesPlay': WHATEVER THE INPUT: true; the input reads as it did. -/
def placesPlaySpec : ChangeSpec := { name := "placesPlay", fn := fun _ => fun
  | [d1, d2] => { results := [.lit (.bool true)], args := [d1, d2] }
  | _ => none }
def placesPlayRow : OpenClaim := { program := "ytaeocliklpcgmaagreat", sum := "1fe6562b61f370cd962584cee0f74fa06968a9ef244c27304c9d19c67f2e3922", func := "countinghouse/countinghouselaw12.PlacesPlay", spec := "placesPlay", inPlace := ["math/bits.Add64", "maps.clone"], unfollowed := true, recurses := true, named := ["math/bits.divideError", "math/bits.overflowError"], plainKeys := false, apart := false }
def PlacesPlaySaid : Prop := placesPlayRow.holds Tryz.pinned (OpenSpec.ofChange placesPlaySpec)

/-- ITS FALSE NEIGHBOUR: 'it returns false'. Refute it at one input. -/
def placesPlayWrong : ChangeSpec := { name := "placesPlay", fn := fun _ => fun
  | [d1, d2] => { results := [.lit (.bool false)], args := [d1, d2] }
  | _ => none }
def PlacesPlayWrongFalsely : Prop := placesPlayRow.holds Tryz.pinned (OpenSpec.ofChange placesPlayWrong)

/-- 'countinghouselaw12.PlacesVoid': WHATEVER THE INPUT: true; the input reads as it did. -/
def placesVoidSpec : ChangeSpec := { name := "placesVoid", fn := fun _ => fun
  | [d] => { results := [.lit (.bool true)], args := [d] }
  | _ => none }
def placesVoidRow : OpenClaim := { program := "ytaeocliklpcgmaagreat", sum := "1fe6562b61f370cd962584cee0f74fa06968a9ef244c27304c9d19c67f2e3922", func := "countinghouse/countinghouselaw12.PlacesVoid", spec := "placesVoid", inPlace := ["math/bits.Add64", "maps.clone"], unfollowed := true, recurses := true, named := ["math/bits.divideError", "math/bits.overflowError"], plainKeys := false, apart := false }
def PlacesVoidSaid : Prop := placesVoidRow.holds Tryz.pinned (OpenSpec.ofChange placesVoidSpec)

/-- ITS FALSE NEIGHBOUR: 'it returns false'. Refute it at one input. -/
def placesVoidWrong : ChangeSpec := { name := "placesVoid", fn := fun _ => fun
  | [d] => { results := [.lit (.bool false)], args := [d] }
  | _ => none }
def PlacesVoidWrongFalsely : Prop := placesVoidRow.holds Tryz.pinned (OpenSpec.ofChange placesVoidWrong)

/-- 'countinghouselaw12.PlacesWhole': WHATEVER THE INPUT: true; the input reads as it did. -/
def placesWholeSpec : ChangeSpec := { name := "placesWhole", fn := fun _ => fun
  | [d1, d2] => { results := [.lit (.bool true)], args := [d1, d2] }
  | _ => none }
def placesWholeRow : OpenClaim := { program := "ytaeocliklpcgmaagreat", sum := "1fe6562b61f370cd962584cee0f74fa06968a9ef244c27304c9d19c67f2e3922", func := "countinghouse/countinghouselaw12.PlacesWhole", spec := "placesWhole", inPlace := ["math/bits.Add64", "maps.clone"], unfollowed := true, recurses := true, named := ["math/bits.divideError", "math/bits.overflowError"], plainKeys := false, apart := false }
def PlacesWholeSaid : Prop := placesWholeRow.holds Tryz.pinned (OpenSpec.ofChange placesWholeSpec)

/-- ITS FALSE NEIGHBOUR: 'it returns false'. Refute it at one input. -/
def placesWholeWrong : ChangeSpec := { name := "placesWhole", fn := fun _ => fun
  | [d1, d2] => { results := [.lit (.bool false)], args := [d1, d2] }
  | _ => none }
def PlacesWholeWrongFalsely : Prop := placesWholeRow.holds Tryz.pinned (OpenSpec.ofChange placesWholeWrong)

/-- 'countinghouselaw12.PlacesBest': WHATEVER THE INPUT: true; the input reads as it did. -/
def placesBestSpec : ChangeSpec := { name := "placesBest", fn := fun _ => fun
  | [d1, d2] => { results := [.lit (.bool true)], args := [d1, d2] }
  | _ => none }
def placesBestRow : OpenClaim := { program := "ytaeocliklpcgmaagreat", sum := "1fe6562b61f370cd962584cee0f74fa06968a9ef244c27304c9d19c67f2e3922", func := "countinghouse/countinghouselaw12.PlacesBest", spec := "placesBest", inPlace := ["math/bits.Add64", "maps.clone", "math/bits.Sub64"], unfollowed := true, recurses := true, named := ["math/bits.divideError", "math/bits.overflowError"], plainKeys := false, apart := false }
def PlacesBestSaid : Prop := placesBestRow.holds Tryz.pinned (OpenSpec.ofChange placesBestSpec)

/-- ITS FALSE NEIGHBOUR: 'it returns false'. Refute it at one input. -/
def placesBestWrong : ChangeSpec := { name := "placesBest", fn := fun _ => fun
  | [d1, d2] => { results := [.lit (.bool false)], args := [d1, d2] }
  | _ => none }
def PlacesBestWrongFalsely : Prop := placesBestRow.holds Tryz.pinned (OpenSpec.ofChange placesBestWrong)

/- THE SECOND FORM. 'bulk': how many values and letters a reading holds, each counted each time it is reached (what is shared counts as often as it is met; a slice's spare places count too). A statement '..UptoSaid' is the law's where the arguments, and the package variables that the reading takes, are together of bulk at most 1048576: NARROWER than '..Said'. Prove '..Said' where nothing that the law and all that it calls make is longer than what came in: it says more and counts as full. Else prove '..UptoSaid'. A law counts once. -/
mutual
def uptoBulk {H : Type} : DataW H → Nat
  | .lit (.string bytes) => bytes.length + 1
  | .lit _ => 1
  | .nil => 1
  | .ptr d => uptoBulk d + 1
  | .slice elems spare => uptoBulkAll elems + uptoBulkAll spare + 1
  | .agg parts => uptoBulkAll parts + 1
  | .iface _ d => uptoBulk d + 1
  | .map entries => uptoBulkEntries entries + 1
  | .held _ => 1
def uptoBulkAll {H : Type} : List (DataW H) → Nat
  | [] => 0
  | d :: r => uptoBulk d + uptoBulkAll r
def uptoBulkEntries {H : Type} : List (Lit × DataW H) → Nat
  | [] => 0
  | x :: r => uptoBulkEntry x + uptoBulkEntries r
def uptoBulkEntry {H : Type} : Lit × DataW H → Nat
  | (.string bytes, d) => bytes.length + uptoBulk d + 1
  | (_, d) => uptoBulk d + 1
 end
def uptoSmall : (H : Type) → List (DataW H) → Bool := fun _ ds => decide (uptoBulkAll ds ≤ 1048576)
def OpenSpec.upto (s : _root_.Go.ChangeSpec) : _root_.Go.OpenSpec := { _root_.Go.OpenSpec.ofChange s with cond := some uptoSmall }

/-- 'countinghouselaw12.PlacesPlay', WHERE WHAT IT READS IS OF BULK AT MOST 1048576: true; the input reads as it did. -/
def placesPlayUptoRow : OpenClaim := { program := "ytaeocliklpcgmaagreat", sum := "1fe6562b61f370cd962584cee0f74fa06968a9ef244c27304c9d19c67f2e3922", func := "countinghouse/countinghouselaw12.PlacesPlay", spec := "placesPlay", inPlace := ["math/bits.Add64", "maps.clone"], unfollowed := true, recurses := true, named := ["math/bits.divideError", "math/bits.overflowError"], plainKeys := false, apart := false, narrowed := true }
def PlacesPlayUptoSaid : Prop := placesPlayUptoRow.holds Tryz.pinned (OpenSpec.upto placesPlaySpec)

/-- 'countinghouselaw12.PlacesVoid', WHERE WHAT IT READS IS OF BULK AT MOST 1048576: true; the input reads as it did. -/
def placesVoidUptoRow : OpenClaim := { program := "ytaeocliklpcgmaagreat", sum := "1fe6562b61f370cd962584cee0f74fa06968a9ef244c27304c9d19c67f2e3922", func := "countinghouse/countinghouselaw12.PlacesVoid", spec := "placesVoid", inPlace := ["math/bits.Add64", "maps.clone"], unfollowed := true, recurses := true, named := ["math/bits.divideError", "math/bits.overflowError"], plainKeys := false, apart := false, narrowed := true }
def PlacesVoidUptoSaid : Prop := placesVoidUptoRow.holds Tryz.pinned (OpenSpec.upto placesVoidSpec)

/-- 'countinghouselaw12.PlacesWhole', WHERE WHAT IT READS IS OF BULK AT MOST 1048576: true; the input reads as it did. -/
def placesWholeUptoRow : OpenClaim := { program := "ytaeocliklpcgmaagreat", sum := "1fe6562b61f370cd962584cee0f74fa06968a9ef244c27304c9d19c67f2e3922", func := "countinghouse/countinghouselaw12.PlacesWhole", spec := "placesWhole", inPlace := ["math/bits.Add64", "maps.clone"], unfollowed := true, recurses := true, named := ["math/bits.divideError", "math/bits.overflowError"], plainKeys := false, apart := false, narrowed := true }
def PlacesWholeUptoSaid : Prop := placesWholeUptoRow.holds Tryz.pinned (OpenSpec.upto placesWholeSpec)

/-- 'countinghouselaw12.PlacesBest', WHERE WHAT IT READS IS OF BULK AT MOST 1048576: true; the input reads as it did. -/
def placesBestUptoRow : OpenClaim := { program := "ytaeocliklpcgmaagreat", sum := "1fe6562b61f370cd962584cee0f74fa06968a9ef244c27304c9d19c67f2e3922", func := "countinghouse/countinghouselaw12.PlacesBest", spec := "placesBest", inPlace := ["math/bits.Add64", "maps.clone", "math/bits.Sub64"], unfollowed := true, recurses := true, named := ["math/bits.divideError", "math/bits.overflowError"], plainKeys := false, apart := false, narrowed := true }
def PlacesBestUptoSaid : Prop := placesBestUptoRow.holds Tryz.pinned (OpenSpec.upto placesBestSpec)

end Rows
end Go.Proofs.YtaeocliklpcgmaaGreat
