/-
  No cell of these rows narrows 'for every input' (looked for: loops, veiled, ifaces, maps, wideKeys, modest, calm, conditions, laid).
  DERIVED. THE GIVEN ROWS OF THIS SEAT. 8 by the template 'for every input the law returns true; each argument reads behind the call as it read before'; 0 by the template 'total and deterministic' (their statements: YtokcijimlldabaaTotals.lean).
  GIVEN WITH THE SEED: the statements are not yours to turn. If you find one false, say at which input.
  Laid BY PROGRAM, IN A SANDBOX (cutbox-rows.mjs): the forced cells as the released guide's own fill.sh prints them over the translation 6ed4a4a156edd2e4… (all of the seat's roots in one cut). By AI agents, Wed Nov 11 2026. No macro, syntax, notation, axiom, sorry.
-/
import Derived.Test.YtokcijimlldabaaChecked
import GoSem.Claim
import GoSem.ClaimJoined
import GoSem.ClaimMapViews
import Derived.JoinedTies
import Derived.KernelRfl
namespace Go.Proofs.Ytokcijimlldabaa
/- THE CELL 'sum', in the pinned program and in every row, IS THE sha256 OF THE DUMP (.gsa) THAT YtokcijimlldabaaProg.lean LOADS. Nothing in Lean hashes anything: it is a label: what it is worth is what the hold of that sum in a sandbox is worth. -/
noncomputable def Try.pinned : Pinned := { name := "ytokcijimlldabaa", sum := "6ed4a4a156edd2e4b0d6a3f46777cf0833bfafd6299e3349302d6d891a0ac080", checked := Try.checked }
namespace Rows
def none {H : Type} : Left H := { results := [], args := [] }

/-- 'laws.FnDividedBy': WHATEVER THE INPUT: true; the input reads as it did. -/
def fnDividedBySpec : ChangeSpec := { name := "fnDividedBy", fn := fun _ => fun
  | [d] => { results := [.lit (.bool true)], args := [d] }
  | _ => none }
def fnDividedByRow : OpenClaim := { program := "ytokcijimlldabaa", sum := "6ed4a4a156edd2e4b0d6a3f46777cf0833bfafd6299e3349302d6d891a0ac080", func := "loop.example/gaussnumbers/laws.FnDividedBy", spec := "fnDividedBy", unfollowed := true, recurses := true, apart := false }
def FnDividedBySaid : Prop := fnDividedByRow.holds Try.pinned (OpenSpec.ofChange fnDividedBySpec)

/-- ITS FALSE NEIGHBOUR: 'it returns false'. Refute it at one input. -/
def fnDividedByWrong : ChangeSpec := { name := "fnDividedBy", fn := fun _ => fun
  | [d] => { results := [.lit (.bool false)], args := [d] }
  | _ => none }
def FnDividedByWrongFalsely : Prop := fnDividedByRow.holds Try.pinned (OpenSpec.ofChange fnDividedByWrong)

/-- 'laws.FnDividesOk': WHATEVER THE INPUT: true; the input reads as it did. -/
def fnDividesOkSpec : ChangeSpec := { name := "fnDividesOk", fn := fun _ => fun
  | [d1, d2] => { results := [.lit (.bool true)], args := [d1, d2] }
  | _ => none }
def fnDividesOkRow : OpenClaim := { program := "ytokcijimlldabaa", sum := "6ed4a4a156edd2e4b0d6a3f46777cf0833bfafd6299e3349302d6d891a0ac080", func := "loop.example/gaussnumbers/laws.FnDividesOk", spec := "fnDividesOk", unfollowed := true, recurses := true, apart := false }
def FnDividesOkSaid : Prop := fnDividesOkRow.holds Try.pinned (OpenSpec.ofChange fnDividesOkSpec)

/-- ITS FALSE NEIGHBOUR: 'it returns false'. Refute it at one input. -/
def fnDividesOkWrong : ChangeSpec := { name := "fnDividesOk", fn := fun _ => fun
  | [d1, d2] => { results := [.lit (.bool false)], args := [d1, d2] }
  | _ => none }
def FnDividesOkWrongFalsely : Prop := fnDividesOkRow.holds Try.pinned (OpenSpec.ofChange fnDividesOkWrong)

/-- 'laws.FnExactOf': WHATEVER THE INPUT: true; the input reads as it did. -/
def fnExactOfSpec : ChangeSpec := { name := "fnExactOf", fn := fun _ => fun
  | [d] => { results := [.lit (.bool true)], args := [d] }
  | _ => none }
def fnExactOfRow : OpenClaim := { program := "ytokcijimlldabaa", sum := "6ed4a4a156edd2e4b0d6a3f46777cf0833bfafd6299e3349302d6d891a0ac080", func := "loop.example/gaussnumbers/laws.FnExactOf", spec := "fnExactOf", unfollowed := true, recurses := true, apart := false }
def FnExactOfSaid : Prop := fnExactOfRow.holds Try.pinned (OpenSpec.ofChange fnExactOfSpec)

/-- ITS FALSE NEIGHBOUR: 'it returns false'. Refute it at one input. -/
def fnExactOfWrong : ChangeSpec := { name := "fnExactOf", fn := fun _ => fun
  | [d] => { results := [.lit (.bool false)], args := [d] }
  | _ => none }
def FnExactOfWrongFalsely : Prop := fnExactOfRow.holds Try.pinned (OpenSpec.ofChange fnExactOfWrong)

/-- 'laws.FnEvenOk': WHATEVER THE INPUT: true; the input reads as it did. -/
def fnEvenOkSpec : ChangeSpec := { name := "fnEvenOk", fn := fun _ => fun
  | [d] => { results := [.lit (.bool true)], args := [d] }
  | _ => none }
def fnEvenOkRow : OpenClaim := { program := "ytokcijimlldabaa", sum := "6ed4a4a156edd2e4b0d6a3f46777cf0833bfafd6299e3349302d6d891a0ac080", func := "loop.example/gaussnumbers/laws.FnEvenOk", spec := "fnEvenOk", apart := false }
def FnEvenOkSaid : Prop := fnEvenOkRow.holds Try.pinned (OpenSpec.ofChange fnEvenOkSpec)

/-- ITS FALSE NEIGHBOUR: 'it returns false'. Refute it at one input. -/
def fnEvenOkWrong : ChangeSpec := { name := "fnEvenOk", fn := fun _ => fun
  | [d] => { results := [.lit (.bool false)], args := [d] }
  | _ => none }
def FnEvenOkWrongFalsely : Prop := fnEvenOkRow.holds Try.pinned (OpenSpec.ofChange fnEvenOkWrong)

/-- 'laws.FnExactDividedBy': WHATEVER THE INPUT: true; the input reads as it did. -/
def fnExactDividedBySpec : ChangeSpec := { name := "fnExactDividedBy", fn := fun _ => fun
  | [d1, d2] => { results := [.lit (.bool true)], args := [d1, d2] }
  | _ => none }
def fnExactDividedByRow : OpenClaim := { program := "ytokcijimlldabaa", sum := "6ed4a4a156edd2e4b0d6a3f46777cf0833bfafd6299e3349302d6d891a0ac080", func := "loop.example/gaussnumbers/laws.FnExactDividedBy", spec := "fnExactDividedBy", apart := false }
def FnExactDividedBySaid : Prop := fnExactDividedByRow.holds Try.pinned (OpenSpec.ofChange fnExactDividedBySpec)

/-- ITS FALSE NEIGHBOUR: 'it returns false'. Refute it at one input. -/
def fnExactDividedByWrong : ChangeSpec := { name := "fnExactDividedBy", fn := fun _ => fun
  | [d1, d2] => { results := [.lit (.bool false)], args := [d1, d2] }
  | _ => none }
def FnExactDividedByWrongFalsely : Prop := fnExactDividedByRow.holds Try.pinned (OpenSpec.ofChange fnExactDividedByWrong)

/-- 'laws.FnExactDividesOk': WHATEVER THE INPUT: true; the input reads as it did. -/
def fnExactDividesOkSpec : ChangeSpec := { name := "fnExactDividesOk", fn := fun _ => fun
  | [d1, d2] => { results := [.lit (.bool true)], args := [d1, d2] }
  | _ => none }
def fnExactDividesOkRow : OpenClaim := { program := "ytokcijimlldabaa", sum := "6ed4a4a156edd2e4b0d6a3f46777cf0833bfafd6299e3349302d6d891a0ac080", func := "loop.example/gaussnumbers/laws.FnExactDividesOk", spec := "fnExactDividesOk", apart := false }
def FnExactDividesOkSaid : Prop := fnExactDividesOkRow.holds Try.pinned (OpenSpec.ofChange fnExactDividesOkSpec)

/-- ITS FALSE NEIGHBOUR: 'it returns false'. Refute it at one input. -/
def fnExactDividesOkWrong : ChangeSpec := { name := "fnExactDividesOk", fn := fun _ => fun
  | [d1, d2] => { results := [.lit (.bool false)], args := [d1, d2] }
  | _ => none }
def FnExactDividesOkWrongFalsely : Prop := fnExactDividesOkRow.holds Try.pinned (OpenSpec.ofChange fnExactDividesOkWrong)

/-- 'laws.FnExactExactOf': WHATEVER THE INPUT: true; the input reads as it did. -/
def fnExactExactOfSpec : ChangeSpec := { name := "fnExactExactOf", fn := fun _ => fun
  | [d1, d2] => { results := [.lit (.bool true)], args := [d1, d2] }
  | _ => none }
def fnExactExactOfRow : OpenClaim := { program := "ytokcijimlldabaa", sum := "6ed4a4a156edd2e4b0d6a3f46777cf0833bfafd6299e3349302d6d891a0ac080", func := "loop.example/gaussnumbers/laws.FnExactExactOf", spec := "fnExactExactOf", apart := false }
def FnExactExactOfSaid : Prop := fnExactExactOfRow.holds Try.pinned (OpenSpec.ofChange fnExactExactOfSpec)

/-- ITS FALSE NEIGHBOUR: 'it returns false'. Refute it at one input. -/
def fnExactExactOfWrong : ChangeSpec := { name := "fnExactExactOf", fn := fun _ => fun
  | [d1, d2] => { results := [.lit (.bool false)], args := [d1, d2] }
  | _ => none }
def FnExactExactOfWrongFalsely : Prop := fnExactExactOfRow.holds Try.pinned (OpenSpec.ofChange fnExactExactOfWrong)

/-- 'laws.FnExactEvenOk': WHATEVER THE INPUT: true; the input reads as it did. -/
def fnExactEvenOkSpec : ChangeSpec := { name := "fnExactEvenOk", fn := fun _ => fun
  | [d] => { results := [.lit (.bool true)], args := [d] }
  | _ => none }
def fnExactEvenOkRow : OpenClaim := { program := "ytokcijimlldabaa", sum := "6ed4a4a156edd2e4b0d6a3f46777cf0833bfafd6299e3349302d6d891a0ac080", func := "loop.example/gaussnumbers/laws.FnExactEvenOk", spec := "fnExactEvenOk", apart := false }
def FnExactEvenOkSaid : Prop := fnExactEvenOkRow.holds Try.pinned (OpenSpec.ofChange fnExactEvenOkSpec)

/-- ITS FALSE NEIGHBOUR: 'it returns false'. Refute it at one input. -/
def fnExactEvenOkWrong : ChangeSpec := { name := "fnExactEvenOk", fn := fun _ => fun
  | [d] => { results := [.lit (.bool false)], args := [d] }
  | _ => none }
def FnExactEvenOkWrongFalsely : Prop := fnExactEvenOkRow.holds Try.pinned (OpenSpec.ofChange fnExactEvenOkWrong)

/- THE SECOND FORM. 'bulk': how many values and letters a reading holds, each counted each time it is reached (what is shared counts as often as it is met; a slice's spare places count too). A statement '..UptoSaid' is the law's where the arguments, and the package variables that the reading takes, are together of bulk at most 1048576: NARROWER than '..Said'. Prove '..Said' where nothing that the law and all that it calls make is longer than what came in: it says more and counts as full. Else prove '..UptoSaid'. A law counts once. -/
mutual
def uptoBulk {H : Type} : DataW H → Nat
  | .lit (.string bytes) => bytes.length + 1
  | .lit _ => 1
  | .nil => 1
  | .ptr d => uptoBulk d + 1
  | .slice elems spare => uptoBulkAll elems + uptoBulkAll spare + 1
  | .agg parts => uptoBulkAll parts + 1
  | .iface _ d => uptoBulk d + 1
  | .map entries => uptoBulkEntries entries + 1
  | .held _ => 1
def uptoBulkAll {H : Type} : List (DataW H) → Nat
  | [] => 0
  | d :: r => uptoBulk d + uptoBulkAll r
def uptoBulkEntries {H : Type} : List (Lit × DataW H) → Nat
  | [] => 0
  | x :: r => uptoBulkEntry x + uptoBulkEntries r
def uptoBulkEntry {H : Type} : Lit × DataW H → Nat
  | (.string bytes, d) => bytes.length + uptoBulk d + 1
  | (_, d) => uptoBulk d + 1
 end
def uptoSmall : (H : Type) → List (DataW H) → Bool := fun _ ds => decide (uptoBulkAll ds ≤ 1048576)
def OpenSpec.upto (s : _root_.Go.ChangeSpec) : _root_.Go.OpenSpec := { _root_.Go.OpenSpec.ofChange s with cond := some uptoSmall }

/-- 'laws.FnDividedBy', WHERE WHAT IT READS IS OF BULK AT MOST 1048576: true; the input reads as it did. -/
def fnDividedByUptoRow : OpenClaim := { program := "ytokcijimlldabaa", sum := "6ed4a4a156edd2e4b0d6a3f46777cf0833bfafd6299e3349302d6d891a0ac080", func := "loop.example/gaussnumbers/laws.FnDividedBy", spec := "fnDividedBy", unfollowed := true, recurses := true, apart := false, narrowed := true }
def FnDividedByUptoSaid : Prop := fnDividedByUptoRow.holds Try.pinned (OpenSpec.upto fnDividedBySpec)

/-- 'laws.FnDividesOk', WHERE WHAT IT READS IS OF BULK AT MOST 1048576: true; the input reads as it did. -/
def fnDividesOkUptoRow : OpenClaim := { program := "ytokcijimlldabaa", sum := "6ed4a4a156edd2e4b0d6a3f46777cf0833bfafd6299e3349302d6d891a0ac080", func := "loop.example/gaussnumbers/laws.FnDividesOk", spec := "fnDividesOk", unfollowed := true, recurses := true, apart := false, narrowed := true }
def FnDividesOkUptoSaid : Prop := fnDividesOkUptoRow.holds Try.pinned (OpenSpec.upto fnDividesOkSpec)

/-- 'laws.FnExactOf', WHERE WHAT IT READS IS OF BULK AT MOST 1048576: true; the input reads as it did. -/
def fnExactOfUptoRow : OpenClaim := { program := "ytokcijimlldabaa", sum := "6ed4a4a156edd2e4b0d6a3f46777cf0833bfafd6299e3349302d6d891a0ac080", func := "loop.example/gaussnumbers/laws.FnExactOf", spec := "fnExactOf", unfollowed := true, recurses := true, apart := false, narrowed := true }
def FnExactOfUptoSaid : Prop := fnExactOfUptoRow.holds Try.pinned (OpenSpec.upto fnExactOfSpec)

/-- 'laws.FnEvenOk', WHERE WHAT IT READS IS OF BULK AT MOST 1048576: true; the input reads as it did. -/
def fnEvenOkUptoRow : OpenClaim := { program := "ytokcijimlldabaa", sum := "6ed4a4a156edd2e4b0d6a3f46777cf0833bfafd6299e3349302d6d891a0ac080", func := "loop.example/gaussnumbers/laws.FnEvenOk", spec := "fnEvenOk", apart := false, narrowed := true }
def FnEvenOkUptoSaid : Prop := fnEvenOkUptoRow.holds Try.pinned (OpenSpec.upto fnEvenOkSpec)

/-- 'laws.FnExactDividedBy', WHERE WHAT IT READS IS OF BULK AT MOST 1048576: true; the input reads as it did. -/
def fnExactDividedByUptoRow : OpenClaim := { program := "ytokcijimlldabaa", sum := "6ed4a4a156edd2e4b0d6a3f46777cf0833bfafd6299e3349302d6d891a0ac080", func := "loop.example/gaussnumbers/laws.FnExactDividedBy", spec := "fnExactDividedBy", apart := false, narrowed := true }
def FnExactDividedByUptoSaid : Prop := fnExactDividedByUptoRow.holds Try.pinned (OpenSpec.upto fnExactDividedBySpec)

/-- 'laws.FnExactDividesOk', WHERE WHAT IT READS IS OF BULK AT MOST 1048576: true; the input reads as it did. -/
def fnExactDividesOkUptoRow : OpenClaim := { program := "ytokcijimlldabaa", sum := "6ed4a4a156edd2e4b0d6a3f46777cf0833bfafd6299e3349302d6d891a0ac080", func := "loop.example/gaussnumbers/laws.FnExactDividesOk", spec := "fnExactDividesOk", apart := false, narrowed := true }
def FnExactDividesOkUptoSaid : Prop := fnExactDividesOkUptoRow.holds Try.pinned (OpenSpec.upto fnExactDividesOkSpec)

/-- 'laws.FnExactExactOf', WHERE WHAT IT READS IS OF BULK AT MOST 1048576: true; the input reads as it did. -/
def fnExactExactOfUptoRow : OpenClaim := { program := "ytokcijimlldabaa", sum := "6ed4a4a156edd2e4b0d6a3f46777cf0833bfafd6299e3349302d6d891a0ac080", func := "loop.example/gaussnumbers/laws.FnExactExactOf", spec := "fnExactExactOf", apart := false, narrowed := true }
def FnExactExactOfUptoSaid : Prop := fnExactExactOfUptoRow.holds Try.pinned (OpenSpec.upto fnExactExactOfSpec)

/-- 'laws.FnExactEvenOk', WHERE WHAT IT READS IS OF BULK AT MOST 1048576: true; the input reads as it did. -/
def fnExactEvenOkUptoRow : OpenClaim := { program := "ytokcijimlldabaa", sum := "6ed4a4a156edd2e4b0d6a3f46777cf0833bfafd6299e3349302d6d891a0ac080", func := "loop.example/gaussnumbers/laws.FnExactEvenOk", spec := "fnExactEvenOk", apart := false, narrowed := true }
def FnExactEvenOkUptoSaid : Prop := fnExactEvenOkUptoRow.holds Try.pinned (OpenSpec.upto fnExactEvenOkSpec)

end Rows
end Go.Proofs.Ytokcijimlldabaa
