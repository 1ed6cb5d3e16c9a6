/-
  No cell of these rows narrows 'for every input' (looked for: loops, veiled, ifaces, maps, wideKeys, modest, calm, conditions, laid).
  DERIVED. THE GIVEN ROWS OF THIS SEAT. 6 by the template 'for every input the law returns true; each argument reads behind the call as it read before'; 0 by the template 'total and deterministic' (their statements: YtngnfdnfpiiclaaGreatTotals.lean).
  GIVEN WITH THE SEED: the statements are not yours to turn. If you find one false, say at which input.
  Laid BY PROGRAM, IN A SANDBOX (cutbox-rows.mjs): the forced cells as the released guide's own fill.sh prints them over the translation 978b8d89d70ed73a… (all of the seat's roots in one cut). By AI agents, Wed Nov 11 2026. No macro, syntax, notation, axiom, sorry.
-/
import Derived.Test.YtngnfdnfpiiclaaGreatChecked
import GoSem.Claim
import GoSem.ClaimJoined
import GoSem.ClaimMapViews
import Derived.JoinedTies
import Derived.KernelRfl
namespace Go.Proofs.YtngnfdnfpiiclaaGreat
/- THE CELL 'sum', in the pinned program and in every row, IS THE sha256 OF THE DUMP (.gsa) THAT YtngnfdnfpiiclaaGreatProg.lean LOADS. Nothing in Lean hashes anything: it is a label: what it is worth is what the hold of that sum in a sandbox is worth. -/
noncomputable def Tryz.pinned : Pinned := { name := "ytngnfdnfpiiclaagreat", sum := "978b8d89d70ed73aeeaf06c5859820256a4602cd28c482cf9f68aba28848ff81", checked := Tryz.checked }
namespace Rows
def none {H : Type} : Left H := { results := [], args := [] }

/-- 'countinghouselaw14.MachinesPlay': WHATEVER THE INPUT: true; the input reads as it did. -/
def machinesPlaySpec : ChangeSpec := { name := "machinesPlay", fn := fun _ => fun
  | [d] => { results := [.lit (.bool true)], args := [d] }
  | _ => none }
def machinesPlayRow : OpenClaim := { program := "ytngnfdnfpiiclaagreat", sum := "978b8d89d70ed73aeeaf06c5859820256a4602cd28c482cf9f68aba28848ff81", func := "countinghouse/countinghouselaw14.MachinesPlay", spec := "machinesPlay", inPlace := ["maps.clone", "math/bits.Add64"], unfollowed := true, recurses := true, named := ["math/bits.divideError", "math/bits.overflowError"], plainKeys := false, apart := false }
def MachinesPlaySaid : Prop := machinesPlayRow.holds Tryz.pinned (OpenSpec.ofChange machinesPlaySpec)

/-- ITS FALSE NEIGHBOUR: 'it returns false'. Refute it at one input. -/
def machinesPlayWrong : ChangeSpec := { name := "machinesPlay", fn := fun _ => fun
  | [d] => { results := [.lit (.bool false)], args := [d] }
  | _ => none }
def MachinesPlayWrongFalsely : Prop := machinesPlayRow.holds Tryz.pinned (OpenSpec.ofChange machinesPlayWrong)

/-- 'countinghouselaw14.MachinesOf': WHATEVER THE INPUT: true; the input reads as it did. -/
def machinesOfSpec : ChangeSpec := { name := "machinesOf", fn := fun _ => fun
  | [d] => { results := [.lit (.bool true)], args := [d] }
  | _ => none }
def machinesOfRow : OpenClaim := { program := "ytngnfdnfpiiclaagreat", sum := "978b8d89d70ed73aeeaf06c5859820256a4602cd28c482cf9f68aba28848ff81", func := "countinghouse/countinghouselaw14.MachinesOf", spec := "machinesOf", inPlace := ["maps.clone", "math/bits.Add64"], unfollowed := true, recurses := true, named := ["math/bits.divideError", "math/bits.overflowError"], plainKeys := false, apart := false }
def MachinesOfSaid : Prop := machinesOfRow.holds Tryz.pinned (OpenSpec.ofChange machinesOfSpec)

/-- ITS FALSE NEIGHBOUR: 'it returns false'. Refute it at one input. -/
def machinesOfWrong : ChangeSpec := { name := "machinesOf", fn := fun _ => fun
  | [d] => { results := [.lit (.bool false)], args := [d] }
  | _ => none }
def MachinesOfWrongFalsely : Prop := machinesOfRow.holds Tryz.pinned (OpenSpec.ofChange machinesOfWrong)

/-- 'countinghouselaw14.MachinesVoid': WHATEVER THE INPUT: true; the input reads as it did. -/
def machinesVoidSpec : ChangeSpec := { name := "machinesVoid", fn := fun _ => fun
  | [d] => { results := [.lit (.bool true)], args := [d] }
  | _ => none }
def machinesVoidRow : OpenClaim := { program := "ytngnfdnfpiiclaagreat", sum := "978b8d89d70ed73aeeaf06c5859820256a4602cd28c482cf9f68aba28848ff81", func := "countinghouse/countinghouselaw14.MachinesVoid", spec := "machinesVoid", inPlace := ["maps.clone", "math/bits.Add64"], unfollowed := true, recurses := true, named := ["math/bits.divideError", "math/bits.overflowError"], plainKeys := false, apart := false }
def MachinesVoidSaid : Prop := machinesVoidRow.holds Tryz.pinned (OpenSpec.ofChange machinesVoidSpec)

/-- ITS FALSE NEIGHBOUR: 'it returns false'. Refute it at one input. -/
def machinesVoidWrong : ChangeSpec := { name := "machinesVoid", fn := fun _ => fun
  | [d] => { results := [.lit (.bool false)], args := [d] }
  | _ => none }
def MachinesVoidWrongFalsely : Prop := machinesVoidRow.holds Tryz.pinned (OpenSpec.ofChange machinesVoidWrong)

/-- 'countinghouselaw14.MachinesMoves': WHATEVER THE INPUT: true; the input reads as it did. -/
def machinesMovesSpec : ChangeSpec := { name := "machinesMoves", fn := fun _ => fun
  | [d1, d2] => { results := [.lit (.bool true)], args := [d1, d2] }
  | _ => none }
def machinesMovesRow : OpenClaim := { program := "ytngnfdnfpiiclaagreat", sum := "978b8d89d70ed73aeeaf06c5859820256a4602cd28c482cf9f68aba28848ff81", func := "countinghouse/countinghouselaw14.MachinesMoves", spec := "machinesMoves", inPlace := ["maps.clone", "math/bits.Add64"], unfollowed := true, recurses := true, named := ["math/bits.divideError", "math/bits.overflowError"], plainKeys := false, apart := false }
def MachinesMovesSaid : Prop := machinesMovesRow.holds Tryz.pinned (OpenSpec.ofChange machinesMovesSpec)

/-- ITS FALSE NEIGHBOUR: 'it returns false'. Refute it at one input. -/
def machinesMovesWrong : ChangeSpec := { name := "machinesMoves", fn := fun _ => fun
  | [d1, d2] => { results := [.lit (.bool false)], args := [d1, d2] }
  | _ => none }
def MachinesMovesWrongFalsely : Prop := machinesMovesRow.holds Tryz.pinned (OpenSpec.ofChange machinesMovesWrong)

/-- 'countinghouselaw14.MachinesBatch': WHATEVER THE INPUT: true; the input reads as it did. -/
def machinesBatchSpec : ChangeSpec := { name := "machinesBatch", fn := fun _ => fun
  | [d1, d2] => { results := [.lit (.bool true)], args := [d1, d2] }
  | _ => none }
def machinesBatchRow : OpenClaim := { program := "ytngnfdnfpiiclaagreat", sum := "978b8d89d70ed73aeeaf06c5859820256a4602cd28c482cf9f68aba28848ff81", func := "countinghouse/countinghouselaw14.MachinesBatch", spec := "machinesBatch", inPlace := ["maps.clone", "math/bits.Add64"], unfollowed := true, recurses := true, named := ["math/bits.divideError", "math/bits.overflowError"], plainKeys := false, apart := false }
def MachinesBatchSaid : Prop := machinesBatchRow.holds Tryz.pinned (OpenSpec.ofChange machinesBatchSpec)

/-- ITS FALSE NEIGHBOUR: 'it returns false'. Refute it at one input. -/
def machinesBatchWrong : ChangeSpec := { name := "machinesBatch", fn := fun _ => fun
  | [d1, d2] => { results := [.lit (.bool false)], args := [d1, d2] }
  | _ => none }
def MachinesBatchWrongFalsely : Prop := machinesBatchRow.holds Tryz.pinned (OpenSpec.ofChange machinesBatchWrong)

/-- 'countinghouselaw14.MachinesTold': WHATEVER THE INPUT: true; the input reads as it did. -/
def machinesToldSpec : ChangeSpec := { name := "machinesTold", fn := fun _ => fun
  | [d1, d2] => { results := [.lit (.bool true)], args := [d1, d2] }
  | _ => none }
def machinesToldRow : OpenClaim := { program := "ytngnfdnfpiiclaagreat", sum := "978b8d89d70ed73aeeaf06c5859820256a4602cd28c482cf9f68aba28848ff81", func := "countinghouse/countinghouselaw14.MachinesTold", spec := "machinesTold", inPlace := ["maps.clone", "math/bits.Add64"], unfollowed := true, recurses := true, named := ["math/bits.divideError", "math/bits.overflowError"], plainKeys := false, apart := false }
def MachinesToldSaid : Prop := machinesToldRow.holds Tryz.pinned (OpenSpec.ofChange machinesToldSpec)

/-- ITS FALSE NEIGHBOUR: 'it returns false'. Refute it at one input. -/
def machinesToldWrong : ChangeSpec := { name := "machinesTold", fn := fun _ => fun
  | [d1, d2] => { results := [.lit (.bool false)], args := [d1, d2] }
  | _ => none }
def MachinesToldWrongFalsely : Prop := machinesToldRow.holds Tryz.pinned (OpenSpec.ofChange machinesToldWrong)

/- THE SECOND FORM. 'bulk': how many values and letters a reading holds, each counted each time it is reached (what is shared counts as often as it is met; a slice's spare places count too). A statement '..UptoSaid' is the law's where the arguments, and the package variables that the reading takes, are together of bulk at most 1048576: NARROWER than '..Said'. Prove '..Said' where nothing that the law and all that it calls make is longer than what came in: it says more and counts as full. Else prove '..UptoSaid'. A law counts once. -/
mutual
def uptoBulk {H : Type} : DataW H → Nat
  | .lit (.string bytes) => bytes.length + 1
  | .lit _ => 1
  | .nil => 1
  | .ptr d => uptoBulk d + 1
  | .slice elems spare => uptoBulkAll elems + uptoBulkAll spare + 1
  | .agg parts => uptoBulkAll parts + 1
  | .iface _ d => uptoBulk d + 1
  | .map entries => uptoBulkEntries entries + 1
  | .held _ => 1
def uptoBulkAll {H : Type} : List (DataW H) → Nat
  | [] => 0
  | d :: r => uptoBulk d + uptoBulkAll r
def uptoBulkEntries {H : Type} : List (Lit × DataW H) → Nat
  | [] => 0
  | x :: r => uptoBulkEntry x + uptoBulkEntries r
def uptoBulkEntry {H : Type} : Lit × DataW H → Nat
  | (.string bytes, d) => bytes.length + uptoBulk d + 1
  | (_, d) => uptoBulk d + 1
 end
def uptoSmall : (H : Type) → List (DataW H) → Bool := fun _ ds => decide (uptoBulkAll ds ≤ 1048576)
def OpenSpec.upto (s : _root_.Go.ChangeSpec) : _root_.Go.OpenSpec := { _root_.Go.OpenSpec.ofChange s with cond := some uptoSmall }

/-- 'countinghouselaw14.MachinesPlay', WHERE WHAT IT READS IS OF BULK AT MOST 1048576: true; the input reads as it did. -/
def machinesPlayUptoRow : OpenClaim := { program := "ytngnfdnfpiiclaagreat", sum := "978b8d89d70ed73aeeaf06c5859820256a4602cd28c482cf9f68aba28848ff81", func := "countinghouse/countinghouselaw14.MachinesPlay", spec := "machinesPlay", inPlace := ["maps.clone", "math/bits.Add64"], unfollowed := true, recurses := true, named := ["math/bits.divideError", "math/bits.overflowError"], plainKeys := false, apart := false, narrowed := true }
def MachinesPlayUptoSaid : Prop := machinesPlayUptoRow.holds Tryz.pinned (OpenSpec.upto machinesPlaySpec)

/-- 'countinghouselaw14.MachinesOf', WHERE WHAT IT READS IS OF BULK AT MOST 1048576: true; the input reads as it did. -/
def machinesOfUptoRow : OpenClaim := { program := "ytngnfdnfpiiclaagreat", sum := "978b8d89d70ed73aeeaf06c5859820256a4602cd28c482cf9f68aba28848ff81", func := "countinghouse/countinghouselaw14.MachinesOf", spec := "machinesOf", inPlace := ["maps.clone", "math/bits.Add64"], unfollowed := true, recurses := true, named := ["math/bits.divideError", "math/bits.overflowError"], plainKeys := false, apart := false, narrowed := true }
def MachinesOfUptoSaid : Prop := machinesOfUptoRow.holds Tryz.pinned (OpenSpec.upto machinesOfSpec)

/-- 'countinghouselaw14.MachinesVoid', WHERE WHAT IT READS IS OF BULK AT MOST 1048576: true; the input reads as it did. -/
def machinesVoidUptoRow : OpenClaim := { program := "ytngnfdnfpiiclaagreat", sum := "978b8d89d70ed73aeeaf06c5859820256a4602cd28c482cf9f68aba28848ff81", func := "countinghouse/countinghouselaw14.MachinesVoid", spec := "machinesVoid", inPlace := ["maps.clone", "math/bits.Add64"], unfollowed := true, recurses := true, named := ["math/bits.divideError", "math/bits.overflowError"], plainKeys := false, apart := false, narrowed := true }
def MachinesVoidUptoSaid : Prop := machinesVoidUptoRow.holds Tryz.pinned (OpenSpec.upto machinesVoidSpec)

/-- 'countinghouselaw14.MachinesMoves', WHERE WHAT IT READS IS OF BULK AT MOST 1048576: true; the input reads as it did. -/
def machinesMovesUptoRow : OpenClaim := { program := "ytngnfdnfpiiclaagreat", sum := "978b8d89d70ed73aeeaf06c5859820256a4602cd28c482cf9f68aba28848ff81", func := "countinghouse/countinghouselaw14.MachinesMoves", spec := "machinesMoves", inPlace := ["maps.clone", "math/bits.Add64"], unfollowed := true, recurses := true, named := ["math/bits.divideError", "math/bits.overflowError"], plainKeys := false, apart := false, narrowed := true }
def MachinesMovesUptoSaid : Prop := machinesMovesUptoRow.holds Tryz.pinned (OpenSpec.upto machinesMovesSpec)

/-- 'countinghouselaw14.MachinesBatch', WHERE WHAT IT READS IS OF BULK AT MOST 1048576: true; the input reads as it did. -/
def machinesBatchUptoRow : OpenClaim := { program := "ytngnfdnfpiiclaagreat", sum := "978b8d89d70ed73aeeaf06c5859820256a4602cd28c482cf9f68aba28848ff81", func := "countinghouse/countinghouselaw14.MachinesBatch", spec := "machinesBatch", inPlace := ["maps.clone", "math/bits.Add64"], unfollowed := true, recurses := true, named := ["math/bits.divideError", "math/bits.overflowError"], plainKeys := false, apart := false, narrowed := true }
def MachinesBatchUptoSaid : Prop := machinesBatchUptoRow.holds Tryz.pinned (OpenSpec.upto machinesBatchSpec)

/-- 'countinghouselaw14.MachinesTold', WHERE WHAT IT READS IS OF BULK AT MOST 1048576: true; the input reads as it did. -/
def machinesToldUptoRow : OpenClaim := { program := "ytngnfdnfpiiclaagreat", sum := "978b8d89d70ed73aeeaf06c5859820256a4602cd28c482cf9f68aba28848ff81", func := "countinghouse/countinghouselaw14.MachinesTold", spec := "machinesTold", inPlace := ["maps.clone", "math/bits.Add64"], unfollowed := true, recurses := true, named := ["math/bits.divideError", "math/bits.overflowError"], plainKeys := false, apart := false, narrowed := true }
def MachinesToldUptoSaid : Prop := machinesToldUptoRow.holds Tryz.pinned (OpenSpec.upto machinesToldSpec)

end Rows
end Go.Proofs.YtngnfdnfpiiclaaGreat
