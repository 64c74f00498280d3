/-
  No cell of these rows narrows 'for every input' (looked for: loops, veiled, ifaces, maps, wideKeys, modest, calm, conditions, laid).
  DERIVED. THE GIVEN ROWS OF THIS SEAT. 12 by the template 'for every input the law returns true; each argument reads behind the call as it read before'; 0 by the template 'total and deterministic' (their statements: YtpiifcgjdfkhaaaTotals.lean).
  GIVEN WITH THE SEED: the statements are not yours to turn. If you find one false, say at which input.
  Laid BY PROGRAM, IN A SANDBOX (cutbox-rows.mjs): the forced cells as the released guide's own fill.sh prints them over the translation 03cd5cff65573c42… (all of the seat's roots in one cut). By AI agents, Wed Nov 11 2026. No macro, syntax, notation, axiom, sorry.
-/
import Derived.Test.YtpiifcgjdfkhaaaChecked
import GoSem.Claim
import GoSem.ClaimJoined
import GoSem.ClaimMapViews
import Derived.JoinedTies
import Derived.KernelRfl
namespace Go.Proofs.Ytpiifcgjdfkhaaa
/- THE CELL 'sum', in the pinned program and in every row, IS THE sha256 OF THE DUMP (.gsa) THAT YtpiifcgjdfkhaaaProg.lean LOADS. Nothing in Lean hashes anything: it is a label: what it is worth is what the hold of that sum in a sandbox is worth. -/
noncomputable def Try.pinned : Pinned := { name := "ytpiifcgjdfkhaaa", sum := "03cd5cff65573c421281a02daf3868edfe0fa9efe55f47816ade5a259961d428", checked := Try.checked }
namespace Rows
def none {H : Type} : Left H := { results := [], args := [] }

/-- 'laws.FnGaussOk': WHATEVER THE INPUT: true; the input reads as it did. -/
def fnGaussOkSpec : ChangeSpec := { name := "fnGaussOk", fn := fun _ => fun
  | [d] => { results := [.lit (.bool true)], args := [d] }
  | _ => none }
def fnGaussOkRow : OpenClaim := { program := "ytpiifcgjdfkhaaa", sum := "03cd5cff65573c421281a02daf3868edfe0fa9efe55f47816ade5a259961d428", func := "loop.example/gaussnumbers/laws.FnGaussOk", spec := "fnGaussOk", apart := false }
def FnGaussOkSaid : Prop := fnGaussOkRow.holds Try.pinned (OpenSpec.ofChange fnGaussOkSpec)

/-- ITS FALSE NEIGHBOUR: 'it returns false'. Refute it at one input. -/
def fnGaussOkWrong : ChangeSpec := { name := "fnGaussOk", fn := fun _ => fun
  | [d] => { results := [.lit (.bool false)], args := [d] }
  | _ => none }
def FnGaussOkWrongFalsely : Prop := fnGaussOkRow.holds Try.pinned (OpenSpec.ofChange fnGaussOkWrong)

/-- 'laws.FnPlusOf': WHATEVER THE INPUT: true; the input reads as it did. -/
def fnPlusOfSpec : ChangeSpec := { name := "fnPlusOf", fn := fun _ => fun
  | [d1, d2] => { results := [.lit (.bool true)], args := [d1, d2] }
  | _ => none }
def fnPlusOfRow : OpenClaim := { program := "ytpiifcgjdfkhaaa", sum := "03cd5cff65573c421281a02daf3868edfe0fa9efe55f47816ade5a259961d428", func := "loop.example/gaussnumbers/laws.FnPlusOf", spec := "fnPlusOf", unfollowed := true, recurses := true, apart := false }
def FnPlusOfSaid : Prop := fnPlusOfRow.holds Try.pinned (OpenSpec.ofChange fnPlusOfSpec)

/-- ITS FALSE NEIGHBOUR: 'it returns false'. Refute it at one input. -/
def fnPlusOfWrong : ChangeSpec := { name := "fnPlusOf", fn := fun _ => fun
  | [d1, d2] => { results := [.lit (.bool false)], args := [d1, d2] }
  | _ => none }
def FnPlusOfWrongFalsely : Prop := fnPlusOfRow.holds Try.pinned (OpenSpec.ofChange fnPlusOfWrong)

/-- 'laws.FnTimesOf': WHATEVER THE INPUT: true; the input reads as it did. -/
def fnTimesOfSpec : ChangeSpec := { name := "fnTimesOf", fn := fun _ => fun
  | [d1, d2] => { results := [.lit (.bool true)], args := [d1, d2] }
  | _ => none }
def fnTimesOfRow : OpenClaim := { program := "ytpiifcgjdfkhaaa", sum := "03cd5cff65573c421281a02daf3868edfe0fa9efe55f47816ade5a259961d428", func := "loop.example/gaussnumbers/laws.FnTimesOf", spec := "fnTimesOf", unfollowed := true, recurses := true, apart := false }
def FnTimesOfSaid : Prop := fnTimesOfRow.holds Try.pinned (OpenSpec.ofChange fnTimesOfSpec)

/-- ITS FALSE NEIGHBOUR: 'it returns false'. Refute it at one input. -/
def fnTimesOfWrong : ChangeSpec := { name := "fnTimesOf", fn := fun _ => fun
  | [d1, d2] => { results := [.lit (.bool false)], args := [d1, d2] }
  | _ => none }
def FnTimesOfWrongFalsely : Prop := fnTimesOfRow.holds Try.pinned (OpenSpec.ofChange fnTimesOfWrong)

/-- 'laws.FnMinusOf': WHATEVER THE INPUT: true; the input reads as it did. -/
def fnMinusOfSpec : ChangeSpec := { name := "fnMinusOf", fn := fun _ => fun
  | [d] => { results := [.lit (.bool true)], args := [d] }
  | _ => none }
def fnMinusOfRow : OpenClaim := { program := "ytpiifcgjdfkhaaa", sum := "03cd5cff65573c421281a02daf3868edfe0fa9efe55f47816ade5a259961d428", func := "loop.example/gaussnumbers/laws.FnMinusOf", spec := "fnMinusOf", unfollowed := true, recurses := true, apart := false }
def FnMinusOfSaid : Prop := fnMinusOfRow.holds Try.pinned (OpenSpec.ofChange fnMinusOfSpec)

/-- ITS FALSE NEIGHBOUR: 'it returns false'. Refute it at one input. -/
def fnMinusOfWrong : ChangeSpec := { name := "fnMinusOf", fn := fun _ => fun
  | [d] => { results := [.lit (.bool false)], args := [d] }
  | _ => none }
def FnMinusOfWrongFalsely : Prop := fnMinusOfRow.holds Try.pinned (OpenSpec.ofChange fnMinusOfWrong)

/-- 'laws.FnOverOf': WHATEVER THE INPUT: true; the input reads as it did. -/
def fnOverOfSpec : ChangeSpec := { name := "fnOverOf", fn := fun _ => fun
  | [d1, d2] => { results := [.lit (.bool true)], args := [d1, d2] }
  | _ => none }
def fnOverOfRow : OpenClaim := { program := "ytpiifcgjdfkhaaa", sum := "03cd5cff65573c421281a02daf3868edfe0fa9efe55f47816ade5a259961d428", func := "loop.example/gaussnumbers/laws.FnOverOf", spec := "fnOverOf", unfollowed := true, recurses := true, apart := false }
def FnOverOfSaid : Prop := fnOverOfRow.holds Try.pinned (OpenSpec.ofChange fnOverOfSpec)

/-- ITS FALSE NEIGHBOUR: 'it returns false'. Refute it at one input. -/
def fnOverOfWrong : ChangeSpec := { name := "fnOverOf", fn := fun _ => fun
  | [d1, d2] => { results := [.lit (.bool false)], args := [d1, d2] }
  | _ => none }
def FnOverOfWrongFalsely : Prop := fnOverOfRow.holds Try.pinned (OpenSpec.ofChange fnOverOfWrong)

/-- 'laws.FnNormOf': WHATEVER THE INPUT: true; the input reads as it did. -/
def fnNormOfSpec : ChangeSpec := { name := "fnNormOf", fn := fun _ => fun
  | [d1, d2] => { results := [.lit (.bool true)], args := [d1, d2] }
  | _ => none }
def fnNormOfRow : OpenClaim := { program := "ytpiifcgjdfkhaaa", sum := "03cd5cff65573c421281a02daf3868edfe0fa9efe55f47816ade5a259961d428", func := "loop.example/gaussnumbers/laws.FnNormOf", spec := "fnNormOf", unfollowed := true, recurses := true, apart := false }
def FnNormOfSaid : Prop := fnNormOfRow.holds Try.pinned (OpenSpec.ofChange fnNormOfSpec)

/-- ITS FALSE NEIGHBOUR: 'it returns false'. Refute it at one input. -/
def fnNormOfWrong : ChangeSpec := { name := "fnNormOf", fn := fun _ => fun
  | [d1, d2] => { results := [.lit (.bool false)], args := [d1, d2] }
  | _ => none }
def FnNormOfWrongFalsely : Prop := fnNormOfRow.holds Try.pinned (OpenSpec.ofChange fnNormOfWrong)

/-- 'laws.FnExactGaussOk': WHATEVER THE INPUT: true; the input reads as it did. -/
def fnExactGaussOkSpec : ChangeSpec := { name := "fnExactGaussOk", fn := fun _ => fun
  | [d] => { results := [.lit (.bool true)], args := [d] }
  | _ => none }
def fnExactGaussOkRow : OpenClaim := { program := "ytpiifcgjdfkhaaa", sum := "03cd5cff65573c421281a02daf3868edfe0fa9efe55f47816ade5a259961d428", func := "loop.example/gaussnumbers/laws.FnExactGaussOk", spec := "fnExactGaussOk", apart := false }
def FnExactGaussOkSaid : Prop := fnExactGaussOkRow.holds Try.pinned (OpenSpec.ofChange fnExactGaussOkSpec)

/-- ITS FALSE NEIGHBOUR: 'it returns false'. Refute it at one input. -/
def fnExactGaussOkWrong : ChangeSpec := { name := "fnExactGaussOk", fn := fun _ => fun
  | [d] => { results := [.lit (.bool false)], args := [d] }
  | _ => none }
def FnExactGaussOkWrongFalsely : Prop := fnExactGaussOkRow.holds Try.pinned (OpenSpec.ofChange fnExactGaussOkWrong)

/-- 'laws.FnExactPlusOf': WHATEVER THE INPUT: true; the input reads as it did. -/
def fnExactPlusOfSpec : ChangeSpec := { name := "fnExactPlusOf", fn := fun _ => fun
  | [d1, d2] => { results := [.lit (.bool true)], args := [d1, d2] }
  | _ => none }
def fnExactPlusOfRow : OpenClaim := { program := "ytpiifcgjdfkhaaa", sum := "03cd5cff65573c421281a02daf3868edfe0fa9efe55f47816ade5a259961d428", func := "loop.example/gaussnumbers/laws.FnExactPlusOf", spec := "fnExactPlusOf", unfollowed := true, recurses := true, apart := false }
def FnExactPlusOfSaid : Prop := fnExactPlusOfRow.holds Try.pinned (OpenSpec.ofChange fnExactPlusOfSpec)

/-- ITS FALSE NEIGHBOUR: 'it returns false'. Refute it at one input. -/
def fnExactPlusOfWrong : ChangeSpec := { name := "fnExactPlusOf", fn := fun _ => fun
  | [d1, d2] => { results := [.lit (.bool false)], args := [d1, d2] }
  | _ => none }
def FnExactPlusOfWrongFalsely : Prop := fnExactPlusOfRow.holds Try.pinned (OpenSpec.ofChange fnExactPlusOfWrong)

/-- 'laws.FnExactTimesOf': WHATEVER THE INPUT: true; the input reads as it did. -/
def fnExactTimesOfSpec : ChangeSpec := { name := "fnExactTimesOf", fn := fun _ => fun
  | [d1, d2] => { results := [.lit (.bool true)], args := [d1, d2] }
  | _ => none }
def fnExactTimesOfRow : OpenClaim := { program := "ytpiifcgjdfkhaaa", sum := "03cd5cff65573c421281a02daf3868edfe0fa9efe55f47816ade5a259961d428", func := "loop.example/gaussnumbers/laws.FnExactTimesOf", spec := "fnExactTimesOf", unfollowed := true, recurses := true, apart := false }
def FnExactTimesOfSaid : Prop := fnExactTimesOfRow.holds Try.pinned (OpenSpec.ofChange fnExactTimesOfSpec)

/-- ITS FALSE NEIGHBOUR: 'it returns false'. Refute it at one input. -/
def fnExactTimesOfWrong : ChangeSpec := { name := "fnExactTimesOf", fn := fun _ => fun
  | [d1, d2] => { results := [.lit (.bool false)], args := [d1, d2] }
  | _ => none }
def FnExactTimesOfWrongFalsely : Prop := fnExactTimesOfRow.holds Try.pinned (OpenSpec.ofChange fnExactTimesOfWrong)

/-- 'laws.FnExactMinusOf': WHATEVER THE INPUT: true; the input reads as it did. -/
def fnExactMinusOfSpec : ChangeSpec := { name := "fnExactMinusOf", fn := fun _ => fun
  | [d] => { results := [.lit (.bool true)], args := [d] }
  | _ => none }
def fnExactMinusOfRow : OpenClaim := { program := "ytpiifcgjdfkhaaa", sum := "03cd5cff65573c421281a02daf3868edfe0fa9efe55f47816ade5a259961d428", func := "loop.example/gaussnumbers/laws.FnExactMinusOf", spec := "fnExactMinusOf", apart := false }
def FnExactMinusOfSaid : Prop := fnExactMinusOfRow.holds Try.pinned (OpenSpec.ofChange fnExactMinusOfSpec)

/-- ITS FALSE NEIGHBOUR: 'it returns false'. Refute it at one input. -/
def fnExactMinusOfWrong : ChangeSpec := { name := "fnExactMinusOf", fn := fun _ => fun
  | [d] => { results := [.lit (.bool false)], args := [d] }
  | _ => none }
def FnExactMinusOfWrongFalsely : Prop := fnExactMinusOfRow.holds Try.pinned (OpenSpec.ofChange fnExactMinusOfWrong)

/-- 'laws.FnExactOverOf': WHATEVER THE INPUT: true; the input reads as it did. -/
def fnExactOverOfSpec : ChangeSpec := { name := "fnExactOverOf", fn := fun _ => fun
  | [d] => { results := [.lit (.bool true)], args := [d] }
  | _ => none }
def fnExactOverOfRow : OpenClaim := { program := "ytpiifcgjdfkhaaa", sum := "03cd5cff65573c421281a02daf3868edfe0fa9efe55f47816ade5a259961d428", func := "loop.example/gaussnumbers/laws.FnExactOverOf", spec := "fnExactOverOf", apart := false }
def FnExactOverOfSaid : Prop := fnExactOverOfRow.holds Try.pinned (OpenSpec.ofChange fnExactOverOfSpec)

/-- ITS FALSE NEIGHBOUR: 'it returns false'. Refute it at one input. -/
def fnExactOverOfWrong : ChangeSpec := { name := "fnExactOverOf", fn := fun _ => fun
  | [d] => { results := [.lit (.bool false)], args := [d] }
  | _ => none }
def FnExactOverOfWrongFalsely : Prop := fnExactOverOfRow.holds Try.pinned (OpenSpec.ofChange fnExactOverOfWrong)

/-- 'laws.FnExactNormOf': WHATEVER THE INPUT: true; the input reads as it did. -/
def fnExactNormOfSpec : ChangeSpec := { name := "fnExactNormOf", fn := fun _ => fun
  | [d] => { results := [.lit (.bool true)], args := [d] }
  | _ => none }
def fnExactNormOfRow : OpenClaim := { program := "ytpiifcgjdfkhaaa", sum := "03cd5cff65573c421281a02daf3868edfe0fa9efe55f47816ade5a259961d428", func := "loop.example/gaussnumbers/laws.FnExactNormOf", spec := "fnExactNormOf", apart := false }
def FnExactNormOfSaid : Prop := fnExactNormOfRow.holds Try.pinned (OpenSpec.ofChange fnExactNormOfSpec)

/-- ITS FALSE NEIGHBOUR: 'it returns false'. Refute it at one input. -/
def fnExactNormOfWrong : ChangeSpec := { name := "fnExactNormOf", fn := fun _ => fun
  | [d] => { results := [.lit (.bool false)], args := [d] }
  | _ => none }
def FnExactNormOfWrongFalsely : Prop := fnExactNormOfRow.holds Try.pinned (OpenSpec.ofChange fnExactNormOfWrong)

/- THE SECOND FORM. 'bulk': how many values and letters a reading holds, each counted each time it is reached (what is shared counts as often as it is met; a slice's spare places count too). A statement '..UptoSaid' is the law's where the arguments, and the package variables that the reading takes, are together of bulk at most 1048576: NARROWER than '..Said'. Prove '..Said' where nothing that the law and all that it calls make is longer than what came in: it says more and counts as full. Else prove '..UptoSaid'. A law counts once. -/
mutual
def uptoBulk {H : Type} : DataW H → Nat
  | .lit (.string bytes) => bytes.length + 1
  | .lit _ => 1
  | .nil => 1
  | .ptr d => uptoBulk d + 1
  | .slice elems spare => uptoBulkAll elems + uptoBulkAll spare + 1
  | .agg parts => uptoBulkAll parts + 1
  | .iface _ d => uptoBulk d + 1
  | .map entries => uptoBulkEntries entries + 1
  | .held _ => 1
def uptoBulkAll {H : Type} : List (DataW H) → Nat
  | [] => 0
  | d :: r => uptoBulk d + uptoBulkAll r
def uptoBulkEntries {H : Type} : List (Lit × DataW H) → Nat
  | [] => 0
  | x :: r => uptoBulkEntry x + uptoBulkEntries r
def uptoBulkEntry {H : Type} : Lit × DataW H → Nat
  | (.string bytes, d) => bytes.length + uptoBulk d + 1
  | (_, d) => uptoBulk d + 1
 end
def uptoSmall : (H : Type) → List (DataW H) → Bool := fun _ ds => decide (uptoBulkAll ds ≤ 1048576)
def OpenSpec.upto (s : _root_.Go.ChangeSpec) : _root_.Go.OpenSpec := { _root_.Go.OpenSpec.ofChange s with cond := some uptoSmall }

/-- 'laws.FnGaussOk', WHERE WHAT IT READS IS OF BULK AT MOST 1048576: true; the input reads as it did. -/
def fnGaussOkUptoRow : OpenClaim := { program := "ytpiifcgjdfkhaaa", sum := "03cd5cff65573c421281a02daf3868edfe0fa9efe55f47816ade5a259961d428", func := "loop.example/gaussnumbers/laws.FnGaussOk", spec := "fnGaussOk", apart := false, narrowed := true }
def FnGaussOkUptoSaid : Prop := fnGaussOkUptoRow.holds Try.pinned (OpenSpec.upto fnGaussOkSpec)

/-- 'laws.FnPlusOf', WHERE WHAT IT READS IS OF BULK AT MOST 1048576: true; the input reads as it did. -/
def fnPlusOfUptoRow : OpenClaim := { program := "ytpiifcgjdfkhaaa", sum := "03cd5cff65573c421281a02daf3868edfe0fa9efe55f47816ade5a259961d428", func := "loop.example/gaussnumbers/laws.FnPlusOf", spec := "fnPlusOf", unfollowed := true, recurses := true, apart := false, narrowed := true }
def FnPlusOfUptoSaid : Prop := fnPlusOfUptoRow.holds Try.pinned (OpenSpec.upto fnPlusOfSpec)

/-- 'laws.FnTimesOf', WHERE WHAT IT READS IS OF BULK AT MOST 1048576: true; the input reads as it did. -/
def fnTimesOfUptoRow : OpenClaim := { program := "ytpiifcgjdfkhaaa", sum := "03cd5cff65573c421281a02daf3868edfe0fa9efe55f47816ade5a259961d428", func := "loop.example/gaussnumbers/laws.FnTimesOf", spec := "fnTimesOf", unfollowed := true, recurses := true, apart := false, narrowed := true }
def FnTimesOfUptoSaid : Prop := fnTimesOfUptoRow.holds Try.pinned (OpenSpec.upto fnTimesOfSpec)

/-- 'laws.FnMinusOf', WHERE WHAT IT READS IS OF BULK AT MOST 1048576: true; the input reads as it did. -/
def fnMinusOfUptoRow : OpenClaim := { program := "ytpiifcgjdfkhaaa", sum := "03cd5cff65573c421281a02daf3868edfe0fa9efe55f47816ade5a259961d428", func := "loop.example/gaussnumbers/laws.FnMinusOf", spec := "fnMinusOf", unfollowed := true, recurses := true, apart := false, narrowed := true }
def FnMinusOfUptoSaid : Prop := fnMinusOfUptoRow.holds Try.pinned (OpenSpec.upto fnMinusOfSpec)

/-- 'laws.FnOverOf', WHERE WHAT IT READS IS OF BULK AT MOST 1048576: true; the input reads as it did. -/
def fnOverOfUptoRow : OpenClaim := { program := "ytpiifcgjdfkhaaa", sum := "03cd5cff65573c421281a02daf3868edfe0fa9efe55f47816ade5a259961d428", func := "loop.example/gaussnumbers/laws.FnOverOf", spec := "fnOverOf", unfollowed := true, recurses := true, apart := false, narrowed := true }
def FnOverOfUptoSaid : Prop := fnOverOfUptoRow.holds Try.pinned (OpenSpec.upto fnOverOfSpec)

/-- 'laws.FnNormOf', WHERE WHAT IT READS IS OF BULK AT MOST 1048576: true; the input reads as it did. -/
def fnNormOfUptoRow : OpenClaim := { program := "ytpiifcgjdfkhaaa", sum := "03cd5cff65573c421281a02daf3868edfe0fa9efe55f47816ade5a259961d428", func := "loop.example/gaussnumbers/laws.FnNormOf", spec := "fnNormOf", unfollowed := true, recurses := true, apart := false, narrowed := true }
def FnNormOfUptoSaid : Prop := fnNormOfUptoRow.holds Try.pinned (OpenSpec.upto fnNormOfSpec)

/-- 'laws.FnExactGaussOk', WHERE WHAT IT READS IS OF BULK AT MOST 1048576: true; the input reads as it did. -/
def fnExactGaussOkUptoRow : OpenClaim := { program := "ytpiifcgjdfkhaaa", sum := "03cd5cff65573c421281a02daf3868edfe0fa9efe55f47816ade5a259961d428", func := "loop.example/gaussnumbers/laws.FnExactGaussOk", spec := "fnExactGaussOk", apart := false, narrowed := true }
def FnExactGaussOkUptoSaid : Prop := fnExactGaussOkUptoRow.holds Try.pinned (OpenSpec.upto fnExactGaussOkSpec)

/-- 'laws.FnExactPlusOf', WHERE WHAT IT READS IS OF BULK AT MOST 1048576: true; the input reads as it did. -/
def fnExactPlusOfUptoRow : OpenClaim := { program := "ytpiifcgjdfkhaaa", sum := "03cd5cff65573c421281a02daf3868edfe0fa9efe55f47816ade5a259961d428", func := "loop.example/gaussnumbers/laws.FnExactPlusOf", spec := "fnExactPlusOf", unfollowed := true, recurses := true, apart := false, narrowed := true }
def FnExactPlusOfUptoSaid : Prop := fnExactPlusOfUptoRow.holds Try.pinned (OpenSpec.upto fnExactPlusOfSpec)

/-- 'laws.FnExactTimesOf', WHERE WHAT IT READS IS OF BULK AT MOST 1048576: true; the input reads as it did. -/
def fnExactTimesOfUptoRow : OpenClaim := { program := "ytpiifcgjdfkhaaa", sum := "03cd5cff65573c421281a02daf3868edfe0fa9efe55f47816ade5a259961d428", func := "loop.example/gaussnumbers/laws.FnExactTimesOf", spec := "fnExactTimesOf", unfollowed := true, recurses := true, apart := false, narrowed := true }
def FnExactTimesOfUptoSaid : Prop := fnExactTimesOfUptoRow.holds Try.pinned (OpenSpec.upto fnExactTimesOfSpec)

/-- 'laws.FnExactMinusOf', WHERE WHAT IT READS IS OF BULK AT MOST 1048576: true; the input reads as it did. -/
def fnExactMinusOfUptoRow : OpenClaim := { program := "ytpiifcgjdfkhaaa", sum := "03cd5cff65573c421281a02daf3868edfe0fa9efe55f47816ade5a259961d428", func := "loop.example/gaussnumbers/laws.FnExactMinusOf", spec := "fnExactMinusOf", apart := false, narrowed := true }
def FnExactMinusOfUptoSaid : Prop := fnExactMinusOfUptoRow.holds Try.pinned (OpenSpec.upto fnExactMinusOfSpec)

/-- 'laws.FnExactOverOf', WHERE WHAT IT READS IS OF BULK AT MOST 1048576: true; the input reads as it did. -/
def fnExactOverOfUptoRow : OpenClaim := { program := "ytpiifcgjdfkhaaa", sum := "03cd5cff65573c421281a02daf3868edfe0fa9efe55f47816ade5a259961d428", func := "loop.example/gaussnumbers/laws.FnExactOverOf", spec := "fnExactOverOf", apart := false, narrowed := true }
def FnExactOverOfUptoSaid : Prop := fnExactOverOfUptoRow.holds Try.pinned (OpenSpec.upto fnExactOverOfSpec)

/-- 'laws.FnExactNormOf', WHERE WHAT IT READS IS OF BULK AT MOST 1048576: true; the input reads as it did. -/
def fnExactNormOfUptoRow : OpenClaim := { program := "ytpiifcgjdfkhaaa", sum := "03cd5cff65573c421281a02daf3868edfe0fa9efe55f47816ade5a259961d428", func := "loop.example/gaussnumbers/laws.FnExactNormOf", spec := "fnExactNormOf", apart := false, narrowed := true }
def FnExactNormOfUptoSaid : Prop := fnExactNormOfUptoRow.holds Try.pinned (OpenSpec.upto fnExactNormOfSpec)

end Rows
end Go.Proofs.Ytpiifcgjdfkhaaa
