/-
  No cell of these rows narrows 'for every input' (looked for: loops, veiled, ifaces, maps, wideKeys, modest, calm, conditions, laid).
  DERIVED. THE GIVEN ROWS OF THIS SEAT. 6 by the template 'for every input the law returns true; each argument reads behind the call as it read before'; 0 by the template 'total and deterministic' (their statements: YtdbdeodcldogmaaTotals.lean).
  GIVEN WITH THE SEED: the statements are not yours to turn. If you find one false, say at which input.
  Laid BY PROGRAM, IN A SANDBOX (cutbox-rows.mjs): the forced cells as the released guide's own fill.sh prints them over the translation 29dd2228371a5cb3… (all of the seat's roots in one cut). By AI agents, Wed Nov 11 2026. No macro, syntax, notation, axiom, sorry.
-/
import Derived.Test.YtdbdeodcldogmaaChecked
import GoSem.Claim
import GoSem.ClaimJoined
import GoSem.ClaimMapViews
import Derived.JoinedTies
import Derived.KernelRfl
namespace Go.Proofs.Ytdbdeodcldogmaa
/- THE CELL 'sum', in the pinned program and in every row, IS THE sha256 OF THE DUMP (.gsa) THAT YtdbdeodcldogmaaProg.lean LOADS. Nothing in Lean hashes anything: it is a label: what it is worth is what the hold of that sum in a sandbox is worth. -/
noncomputable def Try.pinned : Pinned := { name := "ytdbdeodcldogmaa", sum := "29dd2228371a5cb32185fb07021028da6a18948689aa941626e11252ad394d29", checked := Try.checked }
namespace Rows
def none {H : Type} : Left H := { results := [], args := [] }

/-- 'countinghouselaw04.BooksPlay': WHATEVER THE INPUT: true; the input reads as it did. -/
def booksPlaySpec : ChangeSpec := { name := "booksPlay", fn := fun _ => fun
  | [d1, d2] => { results := [.lit (.bool true)], args := [d1, d2] }
  | _ => none }
def booksPlayRow : OpenClaim := { program := "ytdbdeodcldogmaa", sum := "29dd2228371a5cb32185fb07021028da6a18948689aa941626e11252ad394d29", func := "countinghouse/countinghouselaw04.BooksPlay", spec := "booksPlay", unfollowed := true, recurses := true, apart := false }
def BooksPlaySaid : Prop := booksPlayRow.holds Try.pinned (OpenSpec.ofChange booksPlaySpec)

/-- ITS FALSE NEIGHBOUR: 'it returns false'. Refute it at one input. -/
def booksPlayWrong : ChangeSpec := { name := "booksPlay", fn := fun _ => fun
  | [d1, d2] => { results := [.lit (.bool false)], args := [d1, d2] }
  | _ => none }
def BooksPlayWrongFalsely : Prop := booksPlayRow.holds Try.pinned (OpenSpec.ofChange booksPlayWrong)

/-- 'countinghouselaw04.BooksOf': WHATEVER THE INPUT: true; the input reads as it did. -/
def booksOfSpec : ChangeSpec := { name := "booksOf", fn := fun _ => fun
  | [d1, d2] => { results := [.lit (.bool true)], args := [d1, d2] }
  | _ => none }
def booksOfRow : OpenClaim := { program := "ytdbdeodcldogmaa", sum := "29dd2228371a5cb32185fb07021028da6a18948689aa941626e11252ad394d29", func := "countinghouse/countinghouselaw04.BooksOf", spec := "booksOf", unfollowed := true, recurses := true, apart := false }
def BooksOfSaid : Prop := booksOfRow.holds Try.pinned (OpenSpec.ofChange booksOfSpec)

/-- ITS FALSE NEIGHBOUR: 'it returns false'. Refute it at one input. -/
def booksOfWrong : ChangeSpec := { name := "booksOf", fn := fun _ => fun
  | [d1, d2] => { results := [.lit (.bool false)], args := [d1, d2] }
  | _ => none }
def BooksOfWrongFalsely : Prop := booksOfRow.holds Try.pinned (OpenSpec.ofChange booksOfWrong)

/-- 'countinghouselaw04.BooksVoid': WHATEVER THE INPUT: true; the input reads as it did. -/
def booksVoidSpec : ChangeSpec := { name := "booksVoid", fn := fun _ => fun
  | [d] => { results := [.lit (.bool true)], args := [d] }
  | _ => none }
def booksVoidRow : OpenClaim := { program := "ytdbdeodcldogmaa", sum := "29dd2228371a5cb32185fb07021028da6a18948689aa941626e11252ad394d29", func := "countinghouse/countinghouselaw04.BooksVoid", spec := "booksVoid", unfollowed := true, recurses := true, apart := false }
def BooksVoidSaid : Prop := booksVoidRow.holds Try.pinned (OpenSpec.ofChange booksVoidSpec)

/-- ITS FALSE NEIGHBOUR: 'it returns false'. Refute it at one input. -/
def booksVoidWrong : ChangeSpec := { name := "booksVoid", fn := fun _ => fun
  | [d] => { results := [.lit (.bool false)], args := [d] }
  | _ => none }
def BooksVoidWrongFalsely : Prop := booksVoidRow.holds Try.pinned (OpenSpec.ofChange booksVoidWrong)

/-- 'countinghouselaw04.BooksBest': WHATEVER THE INPUT: true; the input reads as it did. -/
def booksBestSpec : ChangeSpec := { name := "booksBest", fn := fun _ => fun
  | [d1, d2, d3] => { results := [.lit (.bool true)], args := [d1, d2, d3] }
  | _ => none }
def booksBestRow : OpenClaim := { program := "ytdbdeodcldogmaa", sum := "29dd2228371a5cb32185fb07021028da6a18948689aa941626e11252ad394d29", func := "countinghouse/countinghouselaw04.BooksBest", spec := "booksBest", unfollowed := true, recurses := true, apart := false }
def BooksBestSaid : Prop := booksBestRow.holds Try.pinned (OpenSpec.ofChange booksBestSpec)

/-- ITS FALSE NEIGHBOUR: 'it returns false'. Refute it at one input. -/
def booksBestWrong : ChangeSpec := { name := "booksBest", fn := fun _ => fun
  | [d1, d2, d3] => { results := [.lit (.bool false)], args := [d1, d2, d3] }
  | _ => none }
def BooksBestWrongFalsely : Prop := booksBestRow.holds Try.pinned (OpenSpec.ofChange booksBestWrong)

/-- 'countinghouselaw04.BooksOnce': WHATEVER THE INPUT: true; the input reads as it did. -/
def booksOnceSpec : ChangeSpec := { name := "booksOnce", fn := fun _ => fun
  | [d1, d2] => { results := [.lit (.bool true)], args := [d1, d2] }
  | _ => none }
def booksOnceRow : OpenClaim := { program := "ytdbdeodcldogmaa", sum := "29dd2228371a5cb32185fb07021028da6a18948689aa941626e11252ad394d29", func := "countinghouse/countinghouselaw04.BooksOnce", spec := "booksOnce", unfollowed := true, recurses := true, apart := false }
def BooksOnceSaid : Prop := booksOnceRow.holds Try.pinned (OpenSpec.ofChange booksOnceSpec)

/-- ITS FALSE NEIGHBOUR: 'it returns false'. Refute it at one input. -/
def booksOnceWrong : ChangeSpec := { name := "booksOnce", fn := fun _ => fun
  | [d1, d2] => { results := [.lit (.bool false)], args := [d1, d2] }
  | _ => none }
def BooksOnceWrongFalsely : Prop := booksOnceRow.holds Try.pinned (OpenSpec.ofChange booksOnceWrong)

/-- 'countinghouselaw04.BooksTold': WHATEVER THE INPUT: true; the input reads as it did. -/
def booksToldSpec : ChangeSpec := { name := "booksTold", fn := fun _ => fun
  | [d1, d2] => { results := [.lit (.bool true)], args := [d1, d2] }
  | _ => none }
def booksToldRow : OpenClaim := { program := "ytdbdeodcldogmaa", sum := "29dd2228371a5cb32185fb07021028da6a18948689aa941626e11252ad394d29", func := "countinghouse/countinghouselaw04.BooksTold", spec := "booksTold", unfollowed := true, recurses := true, apart := false }
def BooksToldSaid : Prop := booksToldRow.holds Try.pinned (OpenSpec.ofChange booksToldSpec)

/-- ITS FALSE NEIGHBOUR: 'it returns false'. Refute it at one input. -/
def booksToldWrong : ChangeSpec := { name := "booksTold", fn := fun _ => fun
  | [d1, d2] => { results := [.lit (.bool false)], args := [d1, d2] }
  | _ => none }
def BooksToldWrongFalsely : Prop := booksToldRow.holds Try.pinned (OpenSpec.ofChange booksToldWrong)

/- THE SECOND FORM. 'bulk': how many values and letters a reading holds, each counted each time it is reached (what is shared counts as often as it is met; a slice's spare places count too). A statement '..UptoSaid' is the law's where the arguments, and the package variables that the reading takes, are together of bulk at most 1048576: NARROWER than '..Said'. Prove '..Said' where nothing that the law and all that it calls make is longer than what came in: it says more and counts as full. Else prove '..UptoSaid'. A law counts once. -/
mutual
def uptoBulk {H : Type} : DataW H → Nat
  | .lit (.string bytes) => bytes.length + 1
  | .lit _ => 1
  | .nil => 1
  | .ptr d => uptoBulk d + 1
  | .slice elems spare => uptoBulkAll elems + uptoBulkAll spare + 1
  | .agg parts => uptoBulkAll parts + 1
  | .iface _ d => uptoBulk d + 1
  | .map entries => uptoBulkEntries entries + 1
  | .held _ => 1
def uptoBulkAll {H : Type} : List (DataW H) → Nat
  | [] => 0
  | d :: r => uptoBulk d + uptoBulkAll r
def uptoBulkEntries {H : Type} : List (Lit × DataW H) → Nat
  | [] => 0
  | x :: r => uptoBulkEntry x + uptoBulkEntries r
def uptoBulkEntry {H : Type} : Lit × DataW H → Nat
  | (.string bytes, d) => bytes.length + uptoBulk d + 1
  | (_, d) => uptoBulk d + 1
 end
def uptoSmall : (H : Type) → List (DataW H) → Bool := fun _ ds => decide (uptoBulkAll ds ≤ 1048576)
def OpenSpec.upto (s : _root_.Go.ChangeSpec) : _root_.Go.OpenSpec := { _root_.Go.OpenSpec.ofChange s with cond := some uptoSmall }

/-- 'countinghouselaw04.BooksPlay', WHERE WHAT IT READS IS OF BULK AT MOST 1048576: true; the input reads as it did. -/
def booksPlayUptoRow : OpenClaim := { program := "ytdbdeodcldogmaa", sum := "29dd2228371a5cb32185fb07021028da6a18948689aa941626e11252ad394d29", func := "countinghouse/countinghouselaw04.BooksPlay", spec := "booksPlay", unfollowed := true, recurses := true, apart := false, narrowed := true }
def BooksPlayUptoSaid : Prop := booksPlayUptoRow.holds Try.pinned (OpenSpec.upto booksPlaySpec)

/-- 'countinghouselaw04.BooksOf', WHERE WHAT IT READS IS OF BULK AT MOST 1048576: true; the input reads as it did. -/
def booksOfUptoRow : OpenClaim := { program := "ytdbdeodcldogmaa", sum := "29dd2228371a5cb32185fb07021028da6a18948689aa941626e11252ad394d29", func := "countinghouse/countinghouselaw04.BooksOf", spec := "booksOf", unfollowed := true, recurses := true, apart := false, narrowed := true }
def BooksOfUptoSaid : Prop := booksOfUptoRow.holds Try.pinned (OpenSpec.upto booksOfSpec)

/-- 'countinghouselaw04.BooksVoid', WHERE WHAT IT READS IS OF BULK AT MOST 1048576: true; the input reads as it did. -/
def booksVoidUptoRow : OpenClaim := { program := "ytdbdeodcldogmaa", sum := "29dd2228371a5cb32185fb07021028da6a18948689aa941626e11252ad394d29", func := "countinghouse/countinghouselaw04.BooksVoid", spec := "booksVoid", unfollowed := true, recurses := true, apart := false, narrowed := true }
def BooksVoidUptoSaid : Prop := booksVoidUptoRow.holds Try.pinned (OpenSpec.upto booksVoidSpec)

/-- 'countinghouselaw04.BooksBest', WHERE WHAT IT READS IS OF BULK AT MOST 1048576: true; the input reads as it did. -/
def booksBestUptoRow : OpenClaim := { program := "ytdbdeodcldogmaa", sum := "29dd2228371a5cb32185fb07021028da6a18948689aa941626e11252ad394d29", func := "countinghouse/countinghouselaw04.BooksBest", spec := "booksBest", unfollowed := true, recurses := true, apart := false, narrowed := true }
def BooksBestUptoSaid : Prop := booksBestUptoRow.holds Try.pinned (OpenSpec.upto booksBestSpec)

/-- 'countinghouselaw04.BooksOnce', WHERE WHAT IT READS IS OF BULK AT MOST 1048576: true; the input reads as it did. -/
def booksOnceUptoRow : OpenClaim := { program := "ytdbdeodcldogmaa", sum := "29dd2228371a5cb32185fb07021028da6a18948689aa941626e11252ad394d29", func := "countinghouse/countinghouselaw04.BooksOnce", spec := "booksOnce", unfollowed := true, recurses := true, apart := false, narrowed := true }
def BooksOnceUptoSaid : Prop := booksOnceUptoRow.holds Try.pinned (OpenSpec.upto booksOnceSpec)

/-- 'countinghouselaw04.BooksTold', WHERE WHAT IT READS IS OF BULK AT MOST 1048576: true; the input reads as it did. -/
def booksToldUptoRow : OpenClaim := { program := "ytdbdeodcldogmaa", sum := "29dd2228371a5cb32185fb07021028da6a18948689aa941626e11252ad394d29", func := "countinghouse/countinghouselaw04.BooksTold", spec := "booksTold", unfollowed := true, recurses := true, apart := false, narrowed := true }
def BooksToldUptoSaid : Prop := booksToldUptoRow.holds Try.pinned (OpenSpec.upto booksToldSpec)

end Rows
end Go.Proofs.Ytdbdeodcldogmaa
