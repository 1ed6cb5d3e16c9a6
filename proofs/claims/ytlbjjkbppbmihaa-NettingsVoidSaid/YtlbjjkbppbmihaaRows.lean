/-
  No cell of these rows narrows 'for every input' (looked for: loops, veiled, ifaces, maps, wideKeys, modest, calm, conditions, laid).
  DERIVED. THE GIVEN ROWS OF THIS SEAT. 2 by the template 'for every input the law returns true; each argument reads behind the call as it read before'; 0 by the template 'total and deterministic' (their statements: YtlbjjkbppbmihaaTotals.lean).
  GIVEN WITH THE SEED: the statements are not yours to turn. If you find one false, say at which input.
  Laid BY PROGRAM, IN A SANDBOX (cutbox-rows.mjs): the forced cells as the released guide's own fill.sh prints them over the translation 761c89affe9e3d62… (all of the seat's roots in one cut). By AI agents, Wed Nov 11 2026. No macro, syntax, notation, axiom, sorry.
-/
import Derived.Test.YtlbjjkbppbmihaaChecked
import GoSem.Claim
import GoSem.ClaimJoined
import GoSem.ClaimMapViews
import Derived.JoinedTies
import Derived.KernelRfl
namespace Go.Proofs.Ytlbjjkbppbmihaa
/- THE CELL 'sum', in the pinned program and in every row, IS THE sha256 OF THE DUMP (.gsa) THAT YtlbjjkbppbmihaaProg.lean LOADS. Nothing in Lean hashes anything: it is a label: what it is worth is what the hold of that sum in a sandbox is worth. -/
noncomputable def Try.pinned : Pinned := { name := "ytlbjjkbppbmihaa", sum := "761c89affe9e3d62a361a1fd82b22e40f6366278c7f77e0819172476535d5ccb", checked := Try.checked }
namespace Rows
def none {H : Type} : Left H := { results := [], args := [] }

/-- 'countinghouselaw13.NettingsVoid': WHATEVER THE INPUT: true; the input reads as it did. -/
def nettingsVoidSpec : ChangeSpec := { name := "nettingsVoid", fn := fun _ => fun
  | [d] => { results := [.lit (.bool true)], args := [d] }
  | _ => none }
def nettingsVoidRow : OpenClaim := { program := "ytlbjjkbppbmihaa", sum := "761c89affe9e3d62a361a1fd82b22e40f6366278c7f77e0819172476535d5ccb", func := "countinghouse/countinghouselaw13.NettingsVoid", spec := "nettingsVoid", unfollowed := true, recurses := true, plainKeys := false, apart := false }
def NettingsVoidSaid : Prop := nettingsVoidRow.holds Try.pinned (OpenSpec.ofChange nettingsVoidSpec)

/-- ITS FALSE NEIGHBOUR: 'it returns false'. Refute it at one input. -/
def nettingsVoidWrong : ChangeSpec := { name := "nettingsVoid", fn := fun _ => fun
  | [d] => { results := [.lit (.bool false)], args := [d] }
  | _ => none }
def NettingsVoidWrongFalsely : Prop := nettingsVoidRow.holds Try.pinned (OpenSpec.ofChange nettingsVoidWrong)

/-- 'countinghouselaw13.NettingsRing': WHATEVER THE INPUT: true; the input reads as it did. -/
def nettingsRingSpec : ChangeSpec := { name := "nettingsRing", fn := fun _ => fun
  | [d1, d2] => { results := [.lit (.bool true)], args := [d1, d2] }
  | _ => none }
def nettingsRingRow : OpenClaim := { program := "ytlbjjkbppbmihaa", sum := "761c89affe9e3d62a361a1fd82b22e40f6366278c7f77e0819172476535d5ccb", func := "countinghouse/countinghouselaw13.NettingsRing", spec := "nettingsRing", inPlace := ["maps.clone"], unfollowed := true, recurses := true, plainKeys := false, apart := false }
def NettingsRingSaid : Prop := nettingsRingRow.holds Try.pinned (OpenSpec.ofChange nettingsRingSpec)

/-- ITS FALSE NEIGHBOUR: 'it returns false'. Refute it at one input. -/
def nettingsRingWrong : ChangeSpec := { name := "nettingsRing", fn := fun _ => fun
  | [d1, d2] => { results := [.lit (.bool false)], args := [d1, d2] }
  | _ => none }
def NettingsRingWrongFalsely : Prop := nettingsRingRow.holds Try.pinned (OpenSpec.ofChange nettingsRingWrong)

/- THE SECOND FORM. 'bulk': how many values and letters a reading holds, each counted each time it is reached (what is shared counts as often as it is met; a slice's spare places count too). A statement '..UptoSaid' is the law's where the arguments, and the package variables that the reading takes, are together of bulk at most 1048576: NARROWER than '..Said'. Prove '..Said' where nothing that the law and all that it calls make is longer than what came in: it says more and counts as full. Else prove '..UptoSaid'. A law counts once. -/
mutual
def uptoBulk {H : Type} : DataW H → Nat
  | .lit (.string bytes) => bytes.length + 1
  | .lit _ => 1
  | .nil => 1
  | .ptr d => uptoBulk d + 1
  | .slice elems spare => uptoBulkAll elems + uptoBulkAll spare + 1
  | .agg parts => uptoBulkAll parts + 1
  | .iface _ d => uptoBulk d + 1
  | .map entries => uptoBulkEntries entries + 1
  | .held _ => 1
def uptoBulkAll {H : Type} : List (DataW H) → Nat
  | [] => 0
  | d :: r => uptoBulk d + uptoBulkAll r
def uptoBulkEntries {H : Type} : List (Lit × DataW H) → Nat
  | [] => 0
  | x :: r => uptoBulkEntry x + uptoBulkEntries r
def uptoBulkEntry {H : Type} : Lit × DataW H → Nat
  | (.string bytes, d) => bytes.length + uptoBulk d + 1
  | (_, d) => uptoBulk d + 1
 end
def uptoSmall : (H : Type) → List (DataW H) → Bool := fun _ ds => decide (uptoBulkAll ds ≤ 1048576)
def OpenSpec.upto (s : _root_.Go.ChangeSpec) : _root_.Go.OpenSpec := { _root_.Go.OpenSpec.ofChange s with cond := some uptoSmall }

/-- 'countinghouselaw13.NettingsVoid', WHERE WHAT IT READS IS OF BULK AT MOST 1048576: true; the input reads as it did. -/
def nettingsVoidUptoRow : OpenClaim := { program := "ytlbjjkbppbmihaa", sum := "761c89affe9e3d62a361a1fd82b22e40f6366278c7f77e0819172476535d5ccb", func := "countinghouse/countinghouselaw13.NettingsVoid", spec := "nettingsVoid", unfollowed := true, recurses := true, plainKeys := false, apart := false, narrowed := true }
def NettingsVoidUptoSaid : Prop := nettingsVoidUptoRow.holds Try.pinned (OpenSpec.upto nettingsVoidSpec)

/-- 'countinghouselaw13.NettingsRing', WHERE WHAT IT READS IS OF BULK AT MOST 1048576: true; the input reads as it did. -/
def nettingsRingUptoRow : OpenClaim := { program := "ytlbjjkbppbmihaa", sum := "761c89affe9e3d62a361a1fd82b22e40f6366278c7f77e0819172476535d5ccb", func := "countinghouse/countinghouselaw13.NettingsRing", spec := "nettingsRing", inPlace := ["maps.clone"], unfollowed := true, recurses := true, plainKeys := false, apart := false, narrowed := true }
def NettingsRingUptoSaid : Prop := nettingsRingUptoRow.holds Try.pinned (OpenSpec.upto nettingsRingSpec)

end Rows
end Go.Proofs.Ytlbjjkbppbmihaa
