/-
  No cell of these rows narrows 'for every input' (looked for: loops, veiled, ifaces, maps, wideKeys, modest, calm, conditions, laid).
  DERIVED. THE GIVEN ROWS OF THIS SEAT. 10 by the template 'for every input the law returns true; each argument reads behind the call as it read before'; 0 by the template 'total and deterministic' (their statements: YtpjememmogaeiaaTotals.lean).
  GIVEN WITH THE SEED: the statements are not yours to turn. If you find one false, say at which input.
  Laid BY PROGRAM, IN A SANDBOX (cutbox-rows.mjs): the forced cells as the released guide's own fill.sh prints them over the translation c28006dfe7ea7151… (all of the seat's roots in one cut). By AI agents, Wed Nov 11 2026. No macro, syntax, notation, axiom, sorry.
-/
import Derived.Test.YtpjememmogaeiaaChecked
import GoSem.Claim
import GoSem.ClaimJoined
import GoSem.ClaimMapViews
import Derived.JoinedTies
import Derived.KernelRfl
namespace Go.Proofs.Ytpjememmogaeiaa
/- THE CELL 'sum', in the pinned program and in every row, IS THE sha256 OF THE DUMP (.gsa) THAT YtpjememmogaeiaaProg.lean LOADS. Nothing in Lean hashes anything: it is a label: what it is worth is what the hold of that sum in a sandbox is worth. -/
noncomputable def Try.pinned : Pinned := { name := "ytpjememmogaeiaa", sum := "c28006dfe7ea715194cb7e59be8049a44845c796d98ab82fe6fe285c6e1ac176", checked := Try.checked }
namespace Rows
def none {H : Type} : Left H := { results := [], args := [] }

/-- 'laws.FnPrimeOk': WHATEVER THE INPUT: true; the input reads as it did. -/
def fnPrimeOkSpec : ChangeSpec := { name := "fnPrimeOk", fn := fun _ => fun
  | [d1, d2] => { results := [.lit (.bool true)], args := [d1, d2] }
  | _ => none }
def fnPrimeOkRow : OpenClaim := { program := "ytpjememmogaeiaa", sum := "c28006dfe7ea715194cb7e59be8049a44845c796d98ab82fe6fe285c6e1ac176", func := "loop.example/gaussnumbers/laws.FnPrimeOk", spec := "fnPrimeOk", unfollowed := true, recurses := true, apart := false }
def FnPrimeOkSaid : Prop := fnPrimeOkRow.holds Try.pinned (OpenSpec.ofChange fnPrimeOkSpec)

/-- ITS FALSE NEIGHBOUR: 'it returns false'. Refute it at one input. -/
def fnPrimeOkWrong : ChangeSpec := { name := "fnPrimeOk", fn := fun _ => fun
  | [d1, d2] => { results := [.lit (.bool false)], args := [d1, d2] }
  | _ => none }
def FnPrimeOkWrongFalsely : Prop := fnPrimeOkRow.holds Try.pinned (OpenSpec.ofChange fnPrimeOkWrong)

/-- 'laws.FnKindOf': WHATEVER THE INPUT: true; the input reads as it did. -/
def fnKindOfSpec : ChangeSpec := { name := "fnKindOf", fn := fun _ => fun
  | [d] => { results := [.lit (.bool true)], args := [d] }
  | _ => none }
def fnKindOfRow : OpenClaim := { program := "ytpjememmogaeiaa", sum := "c28006dfe7ea715194cb7e59be8049a44845c796d98ab82fe6fe285c6e1ac176", func := "loop.example/gaussnumbers/laws.FnKindOf", spec := "fnKindOf", unfollowed := true, recurses := true, apart := false }
def FnKindOfSaid : Prop := fnKindOfRow.holds Try.pinned (OpenSpec.ofChange fnKindOfSpec)

/-- ITS FALSE NEIGHBOUR: 'it returns false'. Refute it at one input. -/
def fnKindOfWrong : ChangeSpec := { name := "fnKindOf", fn := fun _ => fun
  | [d] => { results := [.lit (.bool false)], args := [d] }
  | _ => none }
def FnKindOfWrongFalsely : Prop := fnKindOfRow.holds Try.pinned (OpenSpec.ofChange fnKindOfWrong)

/-- 'laws.FnSplitOf': WHATEVER THE INPUT: true; the input reads as it did. -/
def fnSplitOfSpec : ChangeSpec := { name := "fnSplitOf", fn := fun _ => fun
  | [d] => { results := [.lit (.bool true)], args := [d] }
  | _ => none }
def fnSplitOfRow : OpenClaim := { program := "ytpjememmogaeiaa", sum := "c28006dfe7ea715194cb7e59be8049a44845c796d98ab82fe6fe285c6e1ac176", func := "loop.example/gaussnumbers/laws.FnSplitOf", spec := "fnSplitOf", unfollowed := true, recurses := true, apart := false }
def FnSplitOfSaid : Prop := fnSplitOfRow.holds Try.pinned (OpenSpec.ofChange fnSplitOfSpec)

/-- ITS FALSE NEIGHBOUR: 'it returns false'. Refute it at one input. -/
def fnSplitOfWrong : ChangeSpec := { name := "fnSplitOf", fn := fun _ => fun
  | [d] => { results := [.lit (.bool false)], args := [d] }
  | _ => none }
def FnSplitOfWrongFalsely : Prop := fnSplitOfRow.holds Try.pinned (OpenSpec.ofChange fnSplitOfWrong)

/-- 'laws.FnDivisorsOf': WHATEVER THE INPUT: true; the input reads as it did. -/
def fnDivisorsOfSpec : ChangeSpec := { name := "fnDivisorsOf", fn := fun _ => fun
  | [d] => { results := [.lit (.bool true)], args := [d] }
  | _ => none }
def fnDivisorsOfRow : OpenClaim := { program := "ytpjememmogaeiaa", sum := "c28006dfe7ea715194cb7e59be8049a44845c796d98ab82fe6fe285c6e1ac176", func := "loop.example/gaussnumbers/laws.FnDivisorsOf", spec := "fnDivisorsOf", unfollowed := true, recurses := true, apart := false }
def FnDivisorsOfSaid : Prop := fnDivisorsOfRow.holds Try.pinned (OpenSpec.ofChange fnDivisorsOfSpec)

/-- ITS FALSE NEIGHBOUR: 'it returns false'. Refute it at one input. -/
def fnDivisorsOfWrong : ChangeSpec := { name := "fnDivisorsOf", fn := fun _ => fun
  | [d] => { results := [.lit (.bool false)], args := [d] }
  | _ => none }
def FnDivisorsOfWrongFalsely : Prop := fnDivisorsOfRow.holds Try.pinned (OpenSpec.ofChange fnDivisorsOfWrong)

/-- 'laws.FnPrimesUpTo': WHATEVER THE INPUT: true; the input reads as it did. -/
def fnPrimesUpToSpec : ChangeSpec := { name := "fnPrimesUpTo", fn := fun _ => fun
  | [d] => { results := [.lit (.bool true)], args := [d] }
  | _ => none }
def fnPrimesUpToRow : OpenClaim := { program := "ytpjememmogaeiaa", sum := "c28006dfe7ea715194cb7e59be8049a44845c796d98ab82fe6fe285c6e1ac176", func := "loop.example/gaussnumbers/laws.FnPrimesUpTo", spec := "fnPrimesUpTo", unfollowed := true, recurses := true, apart := false }
def FnPrimesUpToSaid : Prop := fnPrimesUpToRow.holds Try.pinned (OpenSpec.ofChange fnPrimesUpToSpec)

/-- ITS FALSE NEIGHBOUR: 'it returns false'. Refute it at one input. -/
def fnPrimesUpToWrong : ChangeSpec := { name := "fnPrimesUpTo", fn := fun _ => fun
  | [d] => { results := [.lit (.bool false)], args := [d] }
  | _ => none }
def FnPrimesUpToWrongFalsely : Prop := fnPrimesUpToRow.holds Try.pinned (OpenSpec.ofChange fnPrimesUpToWrong)

/-- 'laws.FnExactPrimeOk': WHATEVER THE INPUT: true; the input reads as it did. -/
def fnExactPrimeOkSpec : ChangeSpec := { name := "fnExactPrimeOk", fn := fun _ => fun
  | [d] => { results := [.lit (.bool true)], args := [d] }
  | _ => none }
def fnExactPrimeOkRow : OpenClaim := { program := "ytpjememmogaeiaa", sum := "c28006dfe7ea715194cb7e59be8049a44845c796d98ab82fe6fe285c6e1ac176", func := "loop.example/gaussnumbers/laws.FnExactPrimeOk", spec := "fnExactPrimeOk", unfollowed := true, recurses := true, apart := false }
def FnExactPrimeOkSaid : Prop := fnExactPrimeOkRow.holds Try.pinned (OpenSpec.ofChange fnExactPrimeOkSpec)

/-- ITS FALSE NEIGHBOUR: 'it returns false'. Refute it at one input. -/
def fnExactPrimeOkWrong : ChangeSpec := { name := "fnExactPrimeOk", fn := fun _ => fun
  | [d] => { results := [.lit (.bool false)], args := [d] }
  | _ => none }
def FnExactPrimeOkWrongFalsely : Prop := fnExactPrimeOkRow.holds Try.pinned (OpenSpec.ofChange fnExactPrimeOkWrong)

/-- 'laws.FnExactKindOf': WHATEVER THE INPUT: true; the input reads as it did. -/
def fnExactKindOfSpec : ChangeSpec := { name := "fnExactKindOf", fn := fun _ => fun
  | [d] => { results := [.lit (.bool true)], args := [d] }
  | _ => none }
def fnExactKindOfRow : OpenClaim := { program := "ytpjememmogaeiaa", sum := "c28006dfe7ea715194cb7e59be8049a44845c796d98ab82fe6fe285c6e1ac176", func := "loop.example/gaussnumbers/laws.FnExactKindOf", spec := "fnExactKindOf", unfollowed := true, recurses := true, apart := false }
def FnExactKindOfSaid : Prop := fnExactKindOfRow.holds Try.pinned (OpenSpec.ofChange fnExactKindOfSpec)

/-- ITS FALSE NEIGHBOUR: 'it returns false'. Refute it at one input. -/
def fnExactKindOfWrong : ChangeSpec := { name := "fnExactKindOf", fn := fun _ => fun
  | [d] => { results := [.lit (.bool false)], args := [d] }
  | _ => none }
def FnExactKindOfWrongFalsely : Prop := fnExactKindOfRow.holds Try.pinned (OpenSpec.ofChange fnExactKindOfWrong)

/-- 'laws.FnExactSplitOf': WHATEVER THE INPUT: true; the input reads as it did. -/
def fnExactSplitOfSpec : ChangeSpec := { name := "fnExactSplitOf", fn := fun _ => fun
  | [d] => { results := [.lit (.bool true)], args := [d] }
  | _ => none }
def fnExactSplitOfRow : OpenClaim := { program := "ytpjememmogaeiaa", sum := "c28006dfe7ea715194cb7e59be8049a44845c796d98ab82fe6fe285c6e1ac176", func := "loop.example/gaussnumbers/laws.FnExactSplitOf", spec := "fnExactSplitOf", unfollowed := true, recurses := true, apart := false }
def FnExactSplitOfSaid : Prop := fnExactSplitOfRow.holds Try.pinned (OpenSpec.ofChange fnExactSplitOfSpec)

/-- ITS FALSE NEIGHBOUR: 'it returns false'. Refute it at one input. -/
def fnExactSplitOfWrong : ChangeSpec := { name := "fnExactSplitOf", fn := fun _ => fun
  | [d] => { results := [.lit (.bool false)], args := [d] }
  | _ => none }
def FnExactSplitOfWrongFalsely : Prop := fnExactSplitOfRow.holds Try.pinned (OpenSpec.ofChange fnExactSplitOfWrong)

/-- 'laws.FnExactDivisorsOf': WHATEVER THE INPUT: true; the input reads as it did. -/
def fnExactDivisorsOfSpec : ChangeSpec := { name := "fnExactDivisorsOf", fn := fun _ => fun
  | [d] => { results := [.lit (.bool true)], args := [d] }
  | _ => none }
def fnExactDivisorsOfRow : OpenClaim := { program := "ytpjememmogaeiaa", sum := "c28006dfe7ea715194cb7e59be8049a44845c796d98ab82fe6fe285c6e1ac176", func := "loop.example/gaussnumbers/laws.FnExactDivisorsOf", spec := "fnExactDivisorsOf", unfollowed := true, recurses := true, apart := false }
def FnExactDivisorsOfSaid : Prop := fnExactDivisorsOfRow.holds Try.pinned (OpenSpec.ofChange fnExactDivisorsOfSpec)

/-- ITS FALSE NEIGHBOUR: 'it returns false'. Refute it at one input. -/
def fnExactDivisorsOfWrong : ChangeSpec := { name := "fnExactDivisorsOf", fn := fun _ => fun
  | [d] => { results := [.lit (.bool false)], args := [d] }
  | _ => none }
def FnExactDivisorsOfWrongFalsely : Prop := fnExactDivisorsOfRow.holds Try.pinned (OpenSpec.ofChange fnExactDivisorsOfWrong)

/-- 'laws.FnExactPrimesUpTo': WHATEVER THE INPUT: true; the input reads as it did. -/
def fnExactPrimesUpToSpec : ChangeSpec := { name := "fnExactPrimesUpTo", fn := fun _ => fun
  | [d] => { results := [.lit (.bool true)], args := [d] }
  | _ => none }
def fnExactPrimesUpToRow : OpenClaim := { program := "ytpjememmogaeiaa", sum := "c28006dfe7ea715194cb7e59be8049a44845c796d98ab82fe6fe285c6e1ac176", func := "loop.example/gaussnumbers/laws.FnExactPrimesUpTo", spec := "fnExactPrimesUpTo", unfollowed := true, recurses := true, apart := false }
def FnExactPrimesUpToSaid : Prop := fnExactPrimesUpToRow.holds Try.pinned (OpenSpec.ofChange fnExactPrimesUpToSpec)

/-- ITS FALSE NEIGHBOUR: 'it returns false'. Refute it at one input. -/
def fnExactPrimesUpToWrong : ChangeSpec := { name := "fnExactPrimesUpTo", fn := fun _ => fun
  | [d] => { results := [.lit (.bool false)], args := [d] }
  | _ => none }
def FnExactPrimesUpToWrongFalsely : Prop := fnExactPrimesUpToRow.holds Try.pinned (OpenSpec.ofChange fnExactPrimesUpToWrong)

/- THE SECOND FORM. 'bulk': how many values and letters a reading holds, each counted each time it is reached (what is shared counts as often as it is met; a slice's spare places count too). A statement '..UptoSaid' is the law's where the arguments, and the package variables that the reading takes, are together of bulk at most 1048576: NARROWER than '..Said'. Prove '..Said' where nothing that the law and all that it calls make is longer than what came in: it says more and counts as full. Else prove '..UptoSaid'. A law counts once. -/
mutual
def uptoBulk {H : Type} : DataW H → Nat
  | .lit (.string bytes) => bytes.length + 1
  | .lit _ => 1
  | .nil => 1
  | .ptr d => uptoBulk d + 1
  | .slice elems spare => uptoBulkAll elems + uptoBulkAll spare + 1
  | .agg parts => uptoBulkAll parts + 1
  | .iface _ d => uptoBulk d + 1
  | .map entries => uptoBulkEntries entries + 1
  | .held _ => 1
def uptoBulkAll {H : Type} : List (DataW H) → Nat
  | [] => 0
  | d :: r => uptoBulk d + uptoBulkAll r
def uptoBulkEntries {H : Type} : List (Lit × DataW H) → Nat
  | [] => 0
  | x :: r => uptoBulkEntry x + uptoBulkEntries r
def uptoBulkEntry {H : Type} : Lit × DataW H → Nat
  | (.string bytes, d) => bytes.length + uptoBulk d + 1
  | (_, d) => uptoBulk d + 1
 end
def uptoSmall : (H : Type) → List (DataW H) → Bool := fun _ ds => decide (uptoBulkAll ds ≤ 1048576)
def OpenSpec.upto (s : _root_.Go.ChangeSpec) : _root_.Go.OpenSpec := { _root_.Go.OpenSpec.ofChange s with cond := some uptoSmall }

/-- 'laws.FnPrimeOk', WHERE WHAT IT READS IS OF BULK AT MOST 1048576: true; the input reads as it did. -/
def fnPrimeOkUptoRow : OpenClaim := { program := "ytpjememmogaeiaa", sum := "c28006dfe7ea715194cb7e59be8049a44845c796d98ab82fe6fe285c6e1ac176", func := "loop.example/gaussnumbers/laws.FnPrimeOk", spec := "fnPrimeOk", unfollowed := true, recurses := true, apart := false, narrowed := true }
def FnPrimeOkUptoSaid : Prop := fnPrimeOkUptoRow.holds Try.pinned (OpenSpec.upto fnPrimeOkSpec)

/-- 'laws.FnKindOf', WHERE WHAT IT READS IS OF BULK AT MOST 1048576: true; the input reads as it did. -/
def fnKindOfUptoRow : OpenClaim := { program := "ytpjememmogaeiaa", sum := "c28006dfe7ea715194cb7e59be8049a44845c796d98ab82fe6fe285c6e1ac176", func := "loop.example/gaussnumbers/laws.FnKindOf", spec := "fnKindOf", unfollowed := true, recurses := true, apart := false, narrowed := true }
def FnKindOfUptoSaid : Prop := fnKindOfUptoRow.holds Try.pinned (OpenSpec.upto fnKindOfSpec)

/-- 'laws.FnSplitOf', WHERE WHAT IT READS IS OF BULK AT MOST 1048576: true; the input reads as it did. -/
def fnSplitOfUptoRow : OpenClaim := { program := "ytpjememmogaeiaa", sum := "c28006dfe7ea715194cb7e59be8049a44845c796d98ab82fe6fe285c6e1ac176", func := "loop.example/gaussnumbers/laws.FnSplitOf", spec := "fnSplitOf", unfollowed := true, recurses := true, apart := false, narrowed := true }
def FnSplitOfUptoSaid : Prop := fnSplitOfUptoRow.holds Try.pinned (OpenSpec.upto fnSplitOfSpec)

/-- 'laws.FnDivisorsOf', WHERE WHAT IT READS IS OF BULK AT MOST 1048576: true; the input reads as it did. -/
def fnDivisorsOfUptoRow : OpenClaim := { program := "ytpjememmogaeiaa", sum := "c28006dfe7ea715194cb7e59be8049a44845c796d98ab82fe6fe285c6e1ac176", func := "loop.example/gaussnumbers/laws.FnDivisorsOf", spec := "fnDivisorsOf", unfollowed := true, recurses := true, apart := false, narrowed := true }
def FnDivisorsOfUptoSaid : Prop := fnDivisorsOfUptoRow.holds Try.pinned (OpenSpec.upto fnDivisorsOfSpec)

/-- 'laws.FnPrimesUpTo', WHERE WHAT IT READS IS OF BULK AT MOST 1048576: true; the input reads as it did. -/
def fnPrimesUpToUptoRow : OpenClaim := { program := "ytpjememmogaeiaa", sum := "c28006dfe7ea715194cb7e59be8049a44845c796d98ab82fe6fe285c6e1ac176", func := "loop.example/gaussnumbers/laws.FnPrimesUpTo", spec := "fnPrimesUpTo", unfollowed := true, recurses := true, apart := false, narrowed := true }
def FnPrimesUpToUptoSaid : Prop := fnPrimesUpToUptoRow.holds Try.pinned (OpenSpec.upto fnPrimesUpToSpec)

/-- 'laws.FnExactPrimeOk', WHERE WHAT IT READS IS OF BULK AT MOST 1048576: true; the input reads as it did. -/
def fnExactPrimeOkUptoRow : OpenClaim := { program := "ytpjememmogaeiaa", sum := "c28006dfe7ea715194cb7e59be8049a44845c796d98ab82fe6fe285c6e1ac176", func := "loop.example/gaussnumbers/laws.FnExactPrimeOk", spec := "fnExactPrimeOk", unfollowed := true, recurses := true, apart := false, narrowed := true }
def FnExactPrimeOkUptoSaid : Prop := fnExactPrimeOkUptoRow.holds Try.pinned (OpenSpec.upto fnExactPrimeOkSpec)

/-- 'laws.FnExactKindOf', WHERE WHAT IT READS IS OF BULK AT MOST 1048576: true; the input reads as it did. -/
def fnExactKindOfUptoRow : OpenClaim := { program := "ytpjememmogaeiaa", sum := "c28006dfe7ea715194cb7e59be8049a44845c796d98ab82fe6fe285c6e1ac176", func := "loop.example/gaussnumbers/laws.FnExactKindOf", spec := "fnExactKindOf", unfollowed := true, recurses := true, apart := false, narrowed := true }
def FnExactKindOfUptoSaid : Prop := fnExactKindOfUptoRow.holds Try.pinned (OpenSpec.upto fnExactKindOfSpec)

/-- 'laws.FnExactSplitOf', WHERE WHAT IT READS IS OF BULK AT MOST 1048576: true; the input reads as it did. -/
def fnExactSplitOfUptoRow : OpenClaim := { program := "ytpjememmogaeiaa", sum := "c28006dfe7ea715194cb7e59be8049a44845c796d98ab82fe6fe285c6e1ac176", func := "loop.example/gaussnumbers/laws.FnExactSplitOf", spec := "fnExactSplitOf", unfollowed := true, recurses := true, apart := false, narrowed := true }
def FnExactSplitOfUptoSaid : Prop := fnExactSplitOfUptoRow.holds Try.pinned (OpenSpec.upto fnExactSplitOfSpec)

/-- 'laws.FnExactDivisorsOf', WHERE WHAT IT READS IS OF BULK AT MOST 1048576: true; the input reads as it did. -/
def fnExactDivisorsOfUptoRow : OpenClaim := { program := "ytpjememmogaeiaa", sum := "c28006dfe7ea715194cb7e59be8049a44845c796d98ab82fe6fe285c6e1ac176", func := "loop.example/gaussnumbers/laws.FnExactDivisorsOf", spec := "fnExactDivisorsOf", unfollowed := true, recurses := true, apart := false, narrowed := true }
def FnExactDivisorsOfUptoSaid : Prop := fnExactDivisorsOfUptoRow.holds Try.pinned (OpenSpec.upto fnExactDivisorsOfSpec)

/-- 'laws.FnExactPrimesUpTo', WHERE WHAT IT READS IS OF BULK AT MOST 1048576: true; the input reads as it did. -/
def fnExactPrimesUpToUptoRow : OpenClaim := { program := "ytpjememmogaeiaa", sum := "c28006dfe7ea715194cb7e59be8049a44845c796d98ab82fe6fe285c6e1ac176", func := "loop.example/gaussnumbers/laws.FnExactPrimesUpTo", spec := "fnExactPrimesUpTo", unfollowed := true, recurses := true, apart := false, narrowed := true }
def FnExactPrimesUpToUptoSaid : Prop := fnExactPrimesUpToUptoRow.holds Try.pinned (OpenSpec.upto fnExactPrimesUpToSpec)

end Rows
end Go.Proofs.Ytpjememmogaeiaa
