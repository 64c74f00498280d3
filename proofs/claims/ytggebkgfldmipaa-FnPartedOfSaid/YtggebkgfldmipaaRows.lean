/-
  No cell of these rows narrows 'for every input' (looked for: loops, veiled, ifaces, maps, wideKeys, modest, calm, conditions, laid).
  DERIVED. THE GIVEN ROWS OF THIS SEAT. 8 by the template 'for every input the law returns true; each argument reads behind the call as it read before'; 0 by the template 'total and deterministic' (their statements: YtggebkgfldmipaaTotals.lean).
  GIVEN WITH THE SEED: the statements are not yours to turn. If you find one false, say at which input.
  Laid BY PROGRAM, IN A SANDBOX (cutbox-rows.mjs): the forced cells as the released guide's own fill.sh prints them over the translation 3112c07ba1b293b9… (all of the seat's roots in one cut). By AI agents, Wed Nov 11 2026. No macro, syntax, notation, axiom, sorry.
-/
import Derived.Test.YtggebkgfldmipaaChecked
import GoSem.Claim
import GoSem.ClaimJoined
import GoSem.ClaimMapViews
import Derived.JoinedTies
import Derived.KernelRfl
namespace Go.Proofs.Ytggebkgfldmipaa
/- THE CELL 'sum', in the pinned program and in every row, IS THE sha256 OF THE DUMP (.gsa) THAT YtggebkgfldmipaaProg.lean LOADS. Nothing in Lean hashes anything: it is a label: what it is worth is what the hold of that sum in a sandbox is worth. -/
noncomputable def Try.pinned : Pinned := { name := "ytggebkgfldmipaa", sum := "3112c07ba1b293b919519c46bc0ddf530d845b9cc539ca79ab920cc876ec56f1", checked := Try.checked }
namespace Rows
def none {H : Type} : Left H := { results := [], args := [] }

/-- 'laws.FnPairOk': WHATEVER THE INPUT: true; the input reads as it did. -/
def fnPairOkSpec : ChangeSpec := { name := "fnPairOk", fn := fun _ => fun
  | [d] => { results := [.lit (.bool true)], args := [d] }
  | _ => none }
def fnPairOkRow : OpenClaim := { program := "ytggebkgfldmipaa", sum := "3112c07ba1b293b919519c46bc0ddf530d845b9cc539ca79ab920cc876ec56f1", func := "loop.example/gaussnumbers/laws.FnPairOk", spec := "fnPairOk", unfollowed := true, recurses := true, apart := false }
def FnPairOkSaid : Prop := fnPairOkRow.holds Try.pinned (OpenSpec.ofChange fnPairOkSpec)

/-- ITS FALSE NEIGHBOUR: 'it returns false'. Refute it at one input. -/
def fnPairOkWrong : ChangeSpec := { name := "fnPairOk", fn := fun _ => fun
  | [d] => { results := [.lit (.bool false)], args := [d] }
  | _ => none }
def FnPairOkWrongFalsely : Prop := fnPairOkRow.holds Try.pinned (OpenSpec.ofChange fnPairOkWrong)

/-- 'laws.FnJoinedOf': WHATEVER THE INPUT: true; the input reads as it did. -/
def fnJoinedOfSpec : ChangeSpec := { name := "fnJoinedOf", fn := fun _ => fun
  | [d] => { results := [.lit (.bool true)], args := [d] }
  | _ => none }
def fnJoinedOfRow : OpenClaim := { program := "ytggebkgfldmipaa", sum := "3112c07ba1b293b919519c46bc0ddf530d845b9cc539ca79ab920cc876ec56f1", func := "loop.example/gaussnumbers/laws.FnJoinedOf", spec := "fnJoinedOf", unfollowed := true, recurses := true, apart := false }
def FnJoinedOfSaid : Prop := fnJoinedOfRow.holds Try.pinned (OpenSpec.ofChange fnJoinedOfSpec)

/-- ITS FALSE NEIGHBOUR: 'it returns false'. Refute it at one input. -/
def fnJoinedOfWrong : ChangeSpec := { name := "fnJoinedOf", fn := fun _ => fun
  | [d] => { results := [.lit (.bool false)], args := [d] }
  | _ => none }
def FnJoinedOfWrongFalsely : Prop := fnJoinedOfRow.holds Try.pinned (OpenSpec.ofChange fnJoinedOfWrong)

/-- 'laws.FnPartedOf': WHATEVER THE INPUT: true; the input reads as it did. -/
def fnPartedOfSpec : ChangeSpec := { name := "fnPartedOf", fn := fun _ => fun
  | [d1, d2] => { results := [.lit (.bool true)], args := [d1, d2] }
  | _ => none }
def fnPartedOfRow : OpenClaim := { program := "ytggebkgfldmipaa", sum := "3112c07ba1b293b919519c46bc0ddf530d845b9cc539ca79ab920cc876ec56f1", func := "loop.example/gaussnumbers/laws.FnPartedOf", spec := "fnPartedOf", unfollowed := true, recurses := true, apart := false }
def FnPartedOfSaid : Prop := fnPartedOfRow.holds Try.pinned (OpenSpec.ofChange fnPartedOfSpec)

/-- ITS FALSE NEIGHBOUR: 'it returns false'. Refute it at one input. -/
def fnPartedOfWrong : ChangeSpec := { name := "fnPartedOf", fn := fun _ => fun
  | [d1, d2] => { results := [.lit (.bool false)], args := [d1, d2] }
  | _ => none }
def FnPartedOfWrongFalsely : Prop := fnPartedOfRow.holds Try.pinned (OpenSpec.ofChange fnPartedOfWrong)

/-- 'laws.FnCarriersOf': WHATEVER THE INPUT: true; the input reads as it did. -/
def fnCarriersOfSpec : ChangeSpec := { name := "fnCarriersOf", fn := fun _ => fun
  | [d] => { results := [.lit (.bool true)], args := [d] }
  | _ => none }
def fnCarriersOfRow : OpenClaim := { program := "ytggebkgfldmipaa", sum := "3112c07ba1b293b919519c46bc0ddf530d845b9cc539ca79ab920cc876ec56f1", func := "loop.example/gaussnumbers/laws.FnCarriersOf", spec := "fnCarriersOf", unfollowed := true, recurses := true, apart := false }
def FnCarriersOfSaid : Prop := fnCarriersOfRow.holds Try.pinned (OpenSpec.ofChange fnCarriersOfSpec)

/-- ITS FALSE NEIGHBOUR: 'it returns false'. Refute it at one input. -/
def fnCarriersOfWrong : ChangeSpec := { name := "fnCarriersOf", fn := fun _ => fun
  | [d] => { results := [.lit (.bool false)], args := [d] }
  | _ => none }
def FnCarriersOfWrongFalsely : Prop := fnCarriersOfRow.holds Try.pinned (OpenSpec.ofChange fnCarriersOfWrong)

/-- 'laws.FnExactPairOk': WHATEVER THE INPUT: true; the input reads as it did. -/
def fnExactPairOkSpec : ChangeSpec := { name := "fnExactPairOk", fn := fun _ => fun
  | [d1, d2] => { results := [.lit (.bool true)], args := [d1, d2] }
  | _ => none }
def fnExactPairOkRow : OpenClaim := { program := "ytggebkgfldmipaa", sum := "3112c07ba1b293b919519c46bc0ddf530d845b9cc539ca79ab920cc876ec56f1", func := "loop.example/gaussnumbers/laws.FnExactPairOk", spec := "fnExactPairOk", unfollowed := true, recurses := true, apart := false }
def FnExactPairOkSaid : Prop := fnExactPairOkRow.holds Try.pinned (OpenSpec.ofChange fnExactPairOkSpec)

/-- ITS FALSE NEIGHBOUR: 'it returns false'. Refute it at one input. -/
def fnExactPairOkWrong : ChangeSpec := { name := "fnExactPairOk", fn := fun _ => fun
  | [d1, d2] => { results := [.lit (.bool false)], args := [d1, d2] }
  | _ => none }
def FnExactPairOkWrongFalsely : Prop := fnExactPairOkRow.holds Try.pinned (OpenSpec.ofChange fnExactPairOkWrong)

/-- 'laws.FnExactJoinedOf': WHATEVER THE INPUT: true; the input reads as it did. -/
def fnExactJoinedOfSpec : ChangeSpec := { name := "fnExactJoinedOf", fn := fun _ => fun
  | [d1, d2, d3, d4] => { results := [.lit (.bool true)], args := [d1, d2, d3, d4] }
  | _ => none }
def fnExactJoinedOfRow : OpenClaim := { program := "ytggebkgfldmipaa", sum := "3112c07ba1b293b919519c46bc0ddf530d845b9cc539ca79ab920cc876ec56f1", func := "loop.example/gaussnumbers/laws.FnExactJoinedOf", spec := "fnExactJoinedOf", unfollowed := true, recurses := true, apart := false }
def FnExactJoinedOfSaid : Prop := fnExactJoinedOfRow.holds Try.pinned (OpenSpec.ofChange fnExactJoinedOfSpec)

/-- ITS FALSE NEIGHBOUR: 'it returns false'. Refute it at one input. -/
def fnExactJoinedOfWrong : ChangeSpec := { name := "fnExactJoinedOf", fn := fun _ => fun
  | [d1, d2, d3, d4] => { results := [.lit (.bool false)], args := [d1, d2, d3, d4] }
  | _ => none }
def FnExactJoinedOfWrongFalsely : Prop := fnExactJoinedOfRow.holds Try.pinned (OpenSpec.ofChange fnExactJoinedOfWrong)

/-- 'laws.FnExactPartedOf': WHATEVER THE INPUT: true; the input reads as it did. -/
def fnExactPartedOfSpec : ChangeSpec := { name := "fnExactPartedOf", fn := fun _ => fun
  | [d1, d2, d3] => { results := [.lit (.bool true)], args := [d1, d2, d3] }
  | _ => none }
def fnExactPartedOfRow : OpenClaim := { program := "ytggebkgfldmipaa", sum := "3112c07ba1b293b919519c46bc0ddf530d845b9cc539ca79ab920cc876ec56f1", func := "loop.example/gaussnumbers/laws.FnExactPartedOf", spec := "fnExactPartedOf", unfollowed := true, recurses := true, apart := false }
def FnExactPartedOfSaid : Prop := fnExactPartedOfRow.holds Try.pinned (OpenSpec.ofChange fnExactPartedOfSpec)

/-- ITS FALSE NEIGHBOUR: 'it returns false'. Refute it at one input. -/
def fnExactPartedOfWrong : ChangeSpec := { name := "fnExactPartedOf", fn := fun _ => fun
  | [d1, d2, d3] => { results := [.lit (.bool false)], args := [d1, d2, d3] }
  | _ => none }
def FnExactPartedOfWrongFalsely : Prop := fnExactPartedOfRow.holds Try.pinned (OpenSpec.ofChange fnExactPartedOfWrong)

/-- 'laws.FnExactCarriersOf': WHATEVER THE INPUT: true; the input reads as it did. -/
def fnExactCarriersOfSpec : ChangeSpec := { name := "fnExactCarriersOf", fn := fun _ => fun
  | [d1, d2] => { results := [.lit (.bool true)], args := [d1, d2] }
  | _ => none }
def fnExactCarriersOfRow : OpenClaim := { program := "ytggebkgfldmipaa", sum := "3112c07ba1b293b919519c46bc0ddf530d845b9cc539ca79ab920cc876ec56f1", func := "loop.example/gaussnumbers/laws.FnExactCarriersOf", spec := "fnExactCarriersOf", unfollowed := true, recurses := true, apart := false }
def FnExactCarriersOfSaid : Prop := fnExactCarriersOfRow.holds Try.pinned (OpenSpec.ofChange fnExactCarriersOfSpec)

/-- ITS FALSE NEIGHBOUR: 'it returns false'. Refute it at one input. -/
def fnExactCarriersOfWrong : ChangeSpec := { name := "fnExactCarriersOf", fn := fun _ => fun
  | [d1, d2] => { results := [.lit (.bool false)], args := [d1, d2] }
  | _ => none }
def FnExactCarriersOfWrongFalsely : Prop := fnExactCarriersOfRow.holds Try.pinned (OpenSpec.ofChange fnExactCarriersOfWrong)

/- THE SECOND FORM. 'bulk': how many values and letters a reading holds, each counted each time it is reached (what is shared counts as often as it is met; a slice's spare places count too). A statement '..UptoSaid' is the law's where the arguments, and the package variables that the reading takes, are together of bulk at most 1048576: NARROWER than '..Said'. Prove '..Said' where nothing that the law and all that it calls make is longer than what came in: it says more and counts as full. Else prove '..UptoSaid'. A law counts once. -/
mutual
def uptoBulk {H : Type} : DataW H → Nat
  | .lit (.string bytes) => bytes.length + 1
  | .lit _ => 1
  | .nil => 1
  | .ptr d => uptoBulk d + 1
  | .slice elems spare => uptoBulkAll elems + uptoBulkAll spare + 1
  | .agg parts => uptoBulkAll parts + 1
  | .iface _ d => uptoBulk d + 1
  | .map entries => uptoBulkEntries entries + 1
  | .held _ => 1
def uptoBulkAll {H : Type} : List (DataW H) → Nat
  | [] => 0
  | d :: r => uptoBulk d + uptoBulkAll r
def uptoBulkEntries {H : Type} : List (Lit × DataW H) → Nat
  | [] => 0
  | x :: r => uptoBulkEntry x + uptoBulkEntries r
def uptoBulkEntry {H : Type} : Lit × DataW H → Nat
  | (.string bytes, d) => bytes.length + uptoBulk d + 1
  | (_, d) => uptoBulk d + 1
 end
def uptoSmall : (H : Type) → List (DataW H) → Bool := fun _ ds => decide (uptoBulkAll ds ≤ 1048576)
def OpenSpec.upto (s : _root_.Go.ChangeSpec) : _root_.Go.OpenSpec := { _root_.Go.OpenSpec.ofChange s with cond := some uptoSmall }

/-- 'laws.FnPairOk', WHERE WHAT IT READS IS OF BULK AT MOST 1048576: true; the input reads as it did. -/
def fnPairOkUptoRow : OpenClaim := { program := "ytggebkgfldmipaa", sum := "3112c07ba1b293b919519c46bc0ddf530d845b9cc539ca79ab920cc876ec56f1", func := "loop.example/gaussnumbers/laws.FnPairOk", spec := "fnPairOk", unfollowed := true, recurses := true, apart := false, narrowed := true }
def FnPairOkUptoSaid : Prop := fnPairOkUptoRow.holds Try.pinned (OpenSpec.upto fnPairOkSpec)

/-- 'laws.FnJoinedOf', WHERE WHAT IT READS IS OF BULK AT MOST 1048576: true; the input reads as it did. -/
def fnJoinedOfUptoRow : OpenClaim := { program := "ytggebkgfldmipaa", sum := "3112c07ba1b293b919519c46bc0ddf530d845b9cc539ca79ab920cc876ec56f1", func := "loop.example/gaussnumbers/laws.FnJoinedOf", spec := "fnJoinedOf", unfollowed := true, recurses := true, apart := false, narrowed := true }
def FnJoinedOfUptoSaid : Prop := fnJoinedOfUptoRow.holds Try.pinned (OpenSpec.upto fnJoinedOfSpec)

/-- 'laws.FnPartedOf', WHERE WHAT IT READS IS OF BULK AT MOST 1048576: true; the input reads as it did. -/
def fnPartedOfUptoRow : OpenClaim := { program := "ytggebkgfldmipaa", sum := "3112c07ba1b293b919519c46bc0ddf530d845b9cc539ca79ab920cc876ec56f1", func := "loop.example/gaussnumbers/laws.FnPartedOf", spec := "fnPartedOf", unfollowed := true, recurses := true, apart := false, narrowed := true }
def FnPartedOfUptoSaid : Prop := fnPartedOfUptoRow.holds Try.pinned (OpenSpec.upto fnPartedOfSpec)

/-- 'laws.FnCarriersOf', WHERE WHAT IT READS IS OF BULK AT MOST 1048576: true; the input reads as it did. -/
def fnCarriersOfUptoRow : OpenClaim := { program := "ytggebkgfldmipaa", sum := "3112c07ba1b293b919519c46bc0ddf530d845b9cc539ca79ab920cc876ec56f1", func := "loop.example/gaussnumbers/laws.FnCarriersOf", spec := "fnCarriersOf", unfollowed := true, recurses := true, apart := false, narrowed := true }
def FnCarriersOfUptoSaid : Prop := fnCarriersOfUptoRow.holds Try.pinned (OpenSpec.upto fnCarriersOfSpec)

/-- 'laws.FnExactPairOk', WHERE WHAT IT READS IS OF BULK AT MOST 1048576: true; the input reads as it did. -/
def fnExactPairOkUptoRow : OpenClaim := { program := "ytggebkgfldmipaa", sum := "3112c07ba1b293b919519c46bc0ddf530d845b9cc539ca79ab920cc876ec56f1", func := "loop.example/gaussnumbers/laws.FnExactPairOk", spec := "fnExactPairOk", unfollowed := true, recurses := true, apart := false, narrowed := true }
def FnExactPairOkUptoSaid : Prop := fnExactPairOkUptoRow.holds Try.pinned (OpenSpec.upto fnExactPairOkSpec)

/-- 'laws.FnExactJoinedOf', WHERE WHAT IT READS IS OF BULK AT MOST 1048576: true; the input reads as it did. -/
def fnExactJoinedOfUptoRow : OpenClaim := { program := "ytggebkgfldmipaa", sum := "3112c07ba1b293b919519c46bc0ddf530d845b9cc539ca79ab920cc876ec56f1", func := "loop.example/gaussnumbers/laws.FnExactJoinedOf", spec := "fnExactJoinedOf", unfollowed := true, recurses := true, apart := false, narrowed := true }
def FnExactJoinedOfUptoSaid : Prop := fnExactJoinedOfUptoRow.holds Try.pinned (OpenSpec.upto fnExactJoinedOfSpec)

/-- 'laws.FnExactPartedOf', WHERE WHAT IT READS IS OF BULK AT MOST 1048576: true; the input reads as it did. -/
def fnExactPartedOfUptoRow : OpenClaim := { program := "ytggebkgfldmipaa", sum := "3112c07ba1b293b919519c46bc0ddf530d845b9cc539ca79ab920cc876ec56f1", func := "loop.example/gaussnumbers/laws.FnExactPartedOf", spec := "fnExactPartedOf", unfollowed := true, recurses := true, apart := false, narrowed := true }
def FnExactPartedOfUptoSaid : Prop := fnExactPartedOfUptoRow.holds Try.pinned (OpenSpec.upto fnExactPartedOfSpec)

/-- 'laws.FnExactCarriersOf', WHERE WHAT IT READS IS OF BULK AT MOST 1048576: true; the input reads as it did. -/
def fnExactCarriersOfUptoRow : OpenClaim := { program := "ytggebkgfldmipaa", sum := "3112c07ba1b293b919519c46bc0ddf530d845b9cc539ca79ab920cc876ec56f1", func := "loop.example/gaussnumbers/laws.FnExactCarriersOf", spec := "fnExactCarriersOf", unfollowed := true, recurses := true, apart := false, narrowed := true }
def FnExactCarriersOfUptoSaid : Prop := fnExactCarriersOfUptoRow.holds Try.pinned (OpenSpec.upto fnExactCarriersOfSpec)

end Rows
end Go.Proofs.Ytggebkgfldmipaa
