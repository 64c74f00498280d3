/-
  No cell of these rows narrows 'for every input' (looked for: loops, veiled, ifaces, maps, wideKeys, modest, calm, conditions, laid).
  DERIVED. THE GIVEN ROWS OF THIS SEAT. 10 by the template 'for every input the law returns true; each argument reads behind the call as it read before'; 0 by the template 'total and deterministic' (their statements: YtgjognhncalhkaaTotals.lean).
  GIVEN WITH THE SEED: the statements are not yours to turn. If you find one false, say at which input.
  Laid BY PROGRAM, IN A SANDBOX (cutbox-rows.mjs): the forced cells as the released guide's own fill.sh prints them over the translation efc31ed6ccca76c4… (all of the seat's roots in one cut). By AI agents, Wed Nov 11 2026. No macro, syntax, notation, axiom, sorry.
-/
import Derived.Test.YtgjognhncalhkaaChecked
import GoSem.Claim
import GoSem.ClaimJoined
import GoSem.ClaimMapViews
import Derived.JoinedTies
import Derived.KernelRfl
namespace Go.Proofs.Ytgjognhncalhkaa
/- THE CELL 'sum', in the pinned program and in every row, IS THE sha256 OF THE DUMP (.gsa) THAT YtgjognhncalhkaaProg.lean LOADS. Nothing in Lean hashes anything: it is a label: what it is worth is what the hold of that sum in a sandbox is worth. -/
noncomputable def Try.pinned : Pinned := { name := "ytgjognhncalhkaa", sum := "efc31ed6ccca76c4617136b71a7dbd0824014dcc8a4e0403dac6fe2b2f81edb1", checked := Try.checked }
namespace Rows
def none {H : Type} : Left H := { results := [], args := [] }

/-- 'laws.FnUnitOf': WHATEVER THE INPUT: true; the input reads as it did. -/
def fnUnitOfSpec : ChangeSpec := { name := "fnUnitOf", fn := fun _ => fun
  | [d] => { results := [.lit (.bool true)], args := [d] }
  | _ => none }
def fnUnitOfRow : OpenClaim := { program := "ytgjognhncalhkaa", sum := "efc31ed6ccca76c4617136b71a7dbd0824014dcc8a4e0403dac6fe2b2f81edb1", func := "loop.example/gaussnumbers/laws.FnUnitOf", spec := "fnUnitOf", unfollowed := true, recurses := true, apart := false }
def FnUnitOfSaid : Prop := fnUnitOfRow.holds Try.pinned (OpenSpec.ofChange fnUnitOfSpec)

/-- ITS FALSE NEIGHBOUR: 'it returns false'. Refute it at one input. -/
def fnUnitOfWrong : ChangeSpec := { name := "fnUnitOf", fn := fun _ => fun
  | [d] => { results := [.lit (.bool false)], args := [d] }
  | _ => none }
def FnUnitOfWrongFalsely : Prop := fnUnitOfRow.holds Try.pinned (OpenSpec.ofChange fnUnitOfWrong)

/-- 'laws.FnTurnedBy': WHATEVER THE INPUT: true; the input reads as it did. -/
def fnTurnedBySpec : ChangeSpec := { name := "fnTurnedBy", fn := fun _ => fun
  | [d] => { results := [.lit (.bool true)], args := [d] }
  | _ => none }
def fnTurnedByRow : OpenClaim := { program := "ytgjognhncalhkaa", sum := "efc31ed6ccca76c4617136b71a7dbd0824014dcc8a4e0403dac6fe2b2f81edb1", func := "loop.example/gaussnumbers/laws.FnTurnedBy", spec := "fnTurnedBy", unfollowed := true, recurses := true, apart := false }
def FnTurnedBySaid : Prop := fnTurnedByRow.holds Try.pinned (OpenSpec.ofChange fnTurnedBySpec)

/-- ITS FALSE NEIGHBOUR: 'it returns false'. Refute it at one input. -/
def fnTurnedByWrong : ChangeSpec := { name := "fnTurnedBy", fn := fun _ => fun
  | [d] => { results := [.lit (.bool false)], args := [d] }
  | _ => none }
def FnTurnedByWrongFalsely : Prop := fnTurnedByRow.holds Try.pinned (OpenSpec.ofChange fnTurnedByWrong)

/-- 'laws.FnAssociateOk': WHATEVER THE INPUT: true; the input reads as it did. -/
def fnAssociateOkSpec : ChangeSpec := { name := "fnAssociateOk", fn := fun _ => fun
  | [d] => { results := [.lit (.bool true)], args := [d] }
  | _ => none }
def fnAssociateOkRow : OpenClaim := { program := "ytgjognhncalhkaa", sum := "efc31ed6ccca76c4617136b71a7dbd0824014dcc8a4e0403dac6fe2b2f81edb1", func := "loop.example/gaussnumbers/laws.FnAssociateOk", spec := "fnAssociateOk", unfollowed := true, recurses := true, apart := false }
def FnAssociateOkSaid : Prop := fnAssociateOkRow.holds Try.pinned (OpenSpec.ofChange fnAssociateOkSpec)

/-- ITS FALSE NEIGHBOUR: 'it returns false'. Refute it at one input. -/
def fnAssociateOkWrong : ChangeSpec := { name := "fnAssociateOk", fn := fun _ => fun
  | [d] => { results := [.lit (.bool false)], args := [d] }
  | _ => none }
def FnAssociateOkWrongFalsely : Prop := fnAssociateOkRow.holds Try.pinned (OpenSpec.ofChange fnAssociateOkWrong)

/-- 'laws.FnFirstOf': WHATEVER THE INPUT: true; the input reads as it did. -/
def fnFirstOfSpec : ChangeSpec := { name := "fnFirstOf", fn := fun _ => fun
  | [d] => { results := [.lit (.bool true)], args := [d] }
  | _ => none }
def fnFirstOfRow : OpenClaim := { program := "ytgjognhncalhkaa", sum := "efc31ed6ccca76c4617136b71a7dbd0824014dcc8a4e0403dac6fe2b2f81edb1", func := "loop.example/gaussnumbers/laws.FnFirstOf", spec := "fnFirstOf", unfollowed := true, recurses := true, apart := false }
def FnFirstOfSaid : Prop := fnFirstOfRow.holds Try.pinned (OpenSpec.ofChange fnFirstOfSpec)

/-- ITS FALSE NEIGHBOUR: 'it returns false'. Refute it at one input. -/
def fnFirstOfWrong : ChangeSpec := { name := "fnFirstOf", fn := fun _ => fun
  | [d] => { results := [.lit (.bool false)], args := [d] }
  | _ => none }
def FnFirstOfWrongFalsely : Prop := fnFirstOfRow.holds Try.pinned (OpenSpec.ofChange fnFirstOfWrong)

/-- 'laws.FnUnitOk': WHATEVER THE INPUT: true; the input reads as it did. -/
def fnUnitOkSpec : ChangeSpec := { name := "fnUnitOk", fn := fun _ => fun
  | [d] => { results := [.lit (.bool true)], args := [d] }
  | _ => none }
def fnUnitOkRow : OpenClaim := { program := "ytgjognhncalhkaa", sum := "efc31ed6ccca76c4617136b71a7dbd0824014dcc8a4e0403dac6fe2b2f81edb1", func := "loop.example/gaussnumbers/laws.FnUnitOk", spec := "fnUnitOk", unfollowed := true, recurses := true, apart := false }
def FnUnitOkSaid : Prop := fnUnitOkRow.holds Try.pinned (OpenSpec.ofChange fnUnitOkSpec)

/-- ITS FALSE NEIGHBOUR: 'it returns false'. Refute it at one input. -/
def fnUnitOkWrong : ChangeSpec := { name := "fnUnitOk", fn := fun _ => fun
  | [d] => { results := [.lit (.bool false)], args := [d] }
  | _ => none }
def FnUnitOkWrongFalsely : Prop := fnUnitOkRow.holds Try.pinned (OpenSpec.ofChange fnUnitOkWrong)

/-- 'laws.FnExactUnitOf': WHATEVER THE INPUT: true; the input reads as it did. -/
def fnExactUnitOfSpec : ChangeSpec := { name := "fnExactUnitOf", fn := fun _ => fun
  | [d] => { results := [.lit (.bool true)], args := [d] }
  | _ => none }
def fnExactUnitOfRow : OpenClaim := { program := "ytgjognhncalhkaa", sum := "efc31ed6ccca76c4617136b71a7dbd0824014dcc8a4e0403dac6fe2b2f81edb1", func := "loop.example/gaussnumbers/laws.FnExactUnitOf", spec := "fnExactUnitOf", unfollowed := true, recurses := true, apart := false }
def FnExactUnitOfSaid : Prop := fnExactUnitOfRow.holds Try.pinned (OpenSpec.ofChange fnExactUnitOfSpec)

/-- ITS FALSE NEIGHBOUR: 'it returns false'. Refute it at one input. -/
def fnExactUnitOfWrong : ChangeSpec := { name := "fnExactUnitOf", fn := fun _ => fun
  | [d] => { results := [.lit (.bool false)], args := [d] }
  | _ => none }
def FnExactUnitOfWrongFalsely : Prop := fnExactUnitOfRow.holds Try.pinned (OpenSpec.ofChange fnExactUnitOfWrong)

/-- 'laws.FnExactTurnedBy': WHATEVER THE INPUT: true; the input reads as it did. -/
def fnExactTurnedBySpec : ChangeSpec := { name := "fnExactTurnedBy", fn := fun _ => fun
  | [d1, d2] => { results := [.lit (.bool true)], args := [d1, d2] }
  | _ => none }
def fnExactTurnedByRow : OpenClaim := { program := "ytgjognhncalhkaa", sum := "efc31ed6ccca76c4617136b71a7dbd0824014dcc8a4e0403dac6fe2b2f81edb1", func := "loop.example/gaussnumbers/laws.FnExactTurnedBy", spec := "fnExactTurnedBy", unfollowed := true, recurses := true, apart := false }
def FnExactTurnedBySaid : Prop := fnExactTurnedByRow.holds Try.pinned (OpenSpec.ofChange fnExactTurnedBySpec)

/-- ITS FALSE NEIGHBOUR: 'it returns false'. Refute it at one input. -/
def fnExactTurnedByWrong : ChangeSpec := { name := "fnExactTurnedBy", fn := fun _ => fun
  | [d1, d2] => { results := [.lit (.bool false)], args := [d1, d2] }
  | _ => none }
def FnExactTurnedByWrongFalsely : Prop := fnExactTurnedByRow.holds Try.pinned (OpenSpec.ofChange fnExactTurnedByWrong)

/-- 'laws.FnExactAssociateOk': WHATEVER THE INPUT: true; the input reads as it did. -/
def fnExactAssociateOkSpec : ChangeSpec := { name := "fnExactAssociateOk", fn := fun _ => fun
  | [d1, d2] => { results := [.lit (.bool true)], args := [d1, d2] }
  | _ => none }
def fnExactAssociateOkRow : OpenClaim := { program := "ytgjognhncalhkaa", sum := "efc31ed6ccca76c4617136b71a7dbd0824014dcc8a4e0403dac6fe2b2f81edb1", func := "loop.example/gaussnumbers/laws.FnExactAssociateOk", spec := "fnExactAssociateOk", unfollowed := true, recurses := true, apart := false }
def FnExactAssociateOkSaid : Prop := fnExactAssociateOkRow.holds Try.pinned (OpenSpec.ofChange fnExactAssociateOkSpec)

/-- ITS FALSE NEIGHBOUR: 'it returns false'. Refute it at one input. -/
def fnExactAssociateOkWrong : ChangeSpec := { name := "fnExactAssociateOk", fn := fun _ => fun
  | [d1, d2] => { results := [.lit (.bool false)], args := [d1, d2] }
  | _ => none }
def FnExactAssociateOkWrongFalsely : Prop := fnExactAssociateOkRow.holds Try.pinned (OpenSpec.ofChange fnExactAssociateOkWrong)

/-- 'laws.FnExactFirstOf': WHATEVER THE INPUT: true; the input reads as it did. -/
def fnExactFirstOfSpec : ChangeSpec := { name := "fnExactFirstOf", fn := fun _ => fun
  | [d] => { results := [.lit (.bool true)], args := [d] }
  | _ => none }
def fnExactFirstOfRow : OpenClaim := { program := "ytgjognhncalhkaa", sum := "efc31ed6ccca76c4617136b71a7dbd0824014dcc8a4e0403dac6fe2b2f81edb1", func := "loop.example/gaussnumbers/laws.FnExactFirstOf", spec := "fnExactFirstOf", unfollowed := true, recurses := true, apart := false }
def FnExactFirstOfSaid : Prop := fnExactFirstOfRow.holds Try.pinned (OpenSpec.ofChange fnExactFirstOfSpec)

/-- ITS FALSE NEIGHBOUR: 'it returns false'. Refute it at one input. -/
def fnExactFirstOfWrong : ChangeSpec := { name := "fnExactFirstOf", fn := fun _ => fun
  | [d] => { results := [.lit (.bool false)], args := [d] }
  | _ => none }
def FnExactFirstOfWrongFalsely : Prop := fnExactFirstOfRow.holds Try.pinned (OpenSpec.ofChange fnExactFirstOfWrong)

/-- 'laws.FnExactUnitOk': WHATEVER THE INPUT: true; the input reads as it did. -/
def fnExactUnitOkSpec : ChangeSpec := { name := "fnExactUnitOk", fn := fun _ => fun
  | [d] => { results := [.lit (.bool true)], args := [d] }
  | _ => none }
def fnExactUnitOkRow : OpenClaim := { program := "ytgjognhncalhkaa", sum := "efc31ed6ccca76c4617136b71a7dbd0824014dcc8a4e0403dac6fe2b2f81edb1", func := "loop.example/gaussnumbers/laws.FnExactUnitOk", spec := "fnExactUnitOk", apart := false }
def FnExactUnitOkSaid : Prop := fnExactUnitOkRow.holds Try.pinned (OpenSpec.ofChange fnExactUnitOkSpec)

/-- ITS FALSE NEIGHBOUR: 'it returns false'. Refute it at one input. -/
def fnExactUnitOkWrong : ChangeSpec := { name := "fnExactUnitOk", fn := fun _ => fun
  | [d] => { results := [.lit (.bool false)], args := [d] }
  | _ => none }
def FnExactUnitOkWrongFalsely : Prop := fnExactUnitOkRow.holds Try.pinned (OpenSpec.ofChange fnExactUnitOkWrong)

/- THE SECOND FORM. 'bulk': how many values and letters a reading holds, each counted each time it is reached (what is shared counts as often as it is met; a slice's spare places count too). A statement '..UptoSaid' is the law's where the arguments, and the package variables that the reading takes, are together of bulk at most 1048576: NARROWER than '..Said'. Prove '..Said' where nothing that the law and all that it calls make is longer than what came in: it says more and counts as full. Else prove '..UptoSaid'. A law counts once. -/
mutual
def uptoBulk {H : Type} : DataW H → Nat
  | .lit (.string bytes) => bytes.length + 1
  | .lit _ => 1
  | .nil => 1
  | .ptr d => uptoBulk d + 1
  | .slice elems spare => uptoBulkAll elems + uptoBulkAll spare + 1
  | .agg parts => uptoBulkAll parts + 1
  | .iface _ d => uptoBulk d + 1
  | .map entries => uptoBulkEntries entries + 1
  | .held _ => 1
def uptoBulkAll {H : Type} : List (DataW H) → Nat
  | [] => 0
  | d :: r => uptoBulk d + uptoBulkAll r
def uptoBulkEntries {H : Type} : List (Lit × DataW H) → Nat
  | [] => 0
  | x :: r => uptoBulkEntry x + uptoBulkEntries r
def uptoBulkEntry {H : Type} : Lit × DataW H → Nat
  | (.string bytes, d) => bytes.length + uptoBulk d + 1
  | (_, d) => uptoBulk d + 1
 end
def uptoSmall : (H : Type) → List (DataW H) → Bool := fun _ ds => decide (uptoBulkAll ds ≤ 1048576)
def OpenSpec.upto (s : _root_.Go.ChangeSpec) : _root_.Go.OpenSpec := { _root_.Go.OpenSpec.ofChange s with cond := some uptoSmall }

/-- 'laws.FnUnitOf', WHERE WHAT IT READS IS OF BULK AT MOST 1048576: true; the input reads as it did. -/
def fnUnitOfUptoRow : OpenClaim := { program := "ytgjognhncalhkaa", sum := "efc31ed6ccca76c4617136b71a7dbd0824014dcc8a4e0403dac6fe2b2f81edb1", func := "loop.example/gaussnumbers/laws.FnUnitOf", spec := "fnUnitOf", unfollowed := true, recurses := true, apart := false, narrowed := true }
def FnUnitOfUptoSaid : Prop := fnUnitOfUptoRow.holds Try.pinned (OpenSpec.upto fnUnitOfSpec)

/-- 'laws.FnTurnedBy', WHERE WHAT IT READS IS OF BULK AT MOST 1048576: true; the input reads as it did. -/
def fnTurnedByUptoRow : OpenClaim := { program := "ytgjognhncalhkaa", sum := "efc31ed6ccca76c4617136b71a7dbd0824014dcc8a4e0403dac6fe2b2f81edb1", func := "loop.example/gaussnumbers/laws.FnTurnedBy", spec := "fnTurnedBy", unfollowed := true, recurses := true, apart := false, narrowed := true }
def FnTurnedByUptoSaid : Prop := fnTurnedByUptoRow.holds Try.pinned (OpenSpec.upto fnTurnedBySpec)

/-- 'laws.FnAssociateOk', WHERE WHAT IT READS IS OF BULK AT MOST 1048576: true; the input reads as it did. -/
def fnAssociateOkUptoRow : OpenClaim := { program := "ytgjognhncalhkaa", sum := "efc31ed6ccca76c4617136b71a7dbd0824014dcc8a4e0403dac6fe2b2f81edb1", func := "loop.example/gaussnumbers/laws.FnAssociateOk", spec := "fnAssociateOk", unfollowed := true, recurses := true, apart := false, narrowed := true }
def FnAssociateOkUptoSaid : Prop := fnAssociateOkUptoRow.holds Try.pinned (OpenSpec.upto fnAssociateOkSpec)

/-- 'laws.FnFirstOf', WHERE WHAT IT READS IS OF BULK AT MOST 1048576: true; the input reads as it did. -/
def fnFirstOfUptoRow : OpenClaim := { program := "ytgjognhncalhkaa", sum := "efc31ed6ccca76c4617136b71a7dbd0824014dcc8a4e0403dac6fe2b2f81edb1", func := "loop.example/gaussnumbers/laws.FnFirstOf", spec := "fnFirstOf", unfollowed := true, recurses := true, apart := false, narrowed := true }
def FnFirstOfUptoSaid : Prop := fnFirstOfUptoRow.holds Try.pinned (OpenSpec.upto fnFirstOfSpec)

/-- 'laws.FnUnitOk', WHERE WHAT IT READS IS OF BULK AT MOST 1048576: true; the input reads as it did. -/
def fnUnitOkUptoRow : OpenClaim := { program := "ytgjognhncalhkaa", sum := "efc31ed6ccca76c4617136b71a7dbd0824014dcc8a4e0403dac6fe2b2f81edb1", func := "loop.example/gaussnumbers/laws.FnUnitOk", spec := "fnUnitOk", unfollowed := true, recurses := true, apart := false, narrowed := true }
def FnUnitOkUptoSaid : Prop := fnUnitOkUptoRow.holds Try.pinned (OpenSpec.upto fnUnitOkSpec)

/-- 'laws.FnExactUnitOf', WHERE WHAT IT READS IS OF BULK AT MOST 1048576: true; the input reads as it did. -/
def fnExactUnitOfUptoRow : OpenClaim := { program := "ytgjognhncalhkaa", sum := "efc31ed6ccca76c4617136b71a7dbd0824014dcc8a4e0403dac6fe2b2f81edb1", func := "loop.example/gaussnumbers/laws.FnExactUnitOf", spec := "fnExactUnitOf", unfollowed := true, recurses := true, apart := false, narrowed := true }
def FnExactUnitOfUptoSaid : Prop := fnExactUnitOfUptoRow.holds Try.pinned (OpenSpec.upto fnExactUnitOfSpec)

/-- 'laws.FnExactTurnedBy', WHERE WHAT IT READS IS OF BULK AT MOST 1048576: true; the input reads as it did. -/
def fnExactTurnedByUptoRow : OpenClaim := { program := "ytgjognhncalhkaa", sum := "efc31ed6ccca76c4617136b71a7dbd0824014dcc8a4e0403dac6fe2b2f81edb1", func := "loop.example/gaussnumbers/laws.FnExactTurnedBy", spec := "fnExactTurnedBy", unfollowed := true, recurses := true, apart := false, narrowed := true }
def FnExactTurnedByUptoSaid : Prop := fnExactTurnedByUptoRow.holds Try.pinned (OpenSpec.upto fnExactTurnedBySpec)

/-- 'laws.FnExactAssociateOk', WHERE WHAT IT READS IS OF BULK AT MOST 1048576: true; the input reads as it did. -/
def fnExactAssociateOkUptoRow : OpenClaim := { program := "ytgjognhncalhkaa", sum := "efc31ed6ccca76c4617136b71a7dbd0824014dcc8a4e0403dac6fe2b2f81edb1", func := "loop.example/gaussnumbers/laws.FnExactAssociateOk", spec := "fnExactAssociateOk", unfollowed := true, recurses := true, apart := false, narrowed := true }
def FnExactAssociateOkUptoSaid : Prop := fnExactAssociateOkUptoRow.holds Try.pinned (OpenSpec.upto fnExactAssociateOkSpec)

/-- 'laws.FnExactFirstOf', WHERE WHAT IT READS IS OF BULK AT MOST 1048576: true; the input reads as it did. -/
def fnExactFirstOfUptoRow : OpenClaim := { program := "ytgjognhncalhkaa", sum := "efc31ed6ccca76c4617136b71a7dbd0824014dcc8a4e0403dac6fe2b2f81edb1", func := "loop.example/gaussnumbers/laws.FnExactFirstOf", spec := "fnExactFirstOf", unfollowed := true, recurses := true, apart := false, narrowed := true }
def FnExactFirstOfUptoSaid : Prop := fnExactFirstOfUptoRow.holds Try.pinned (OpenSpec.upto fnExactFirstOfSpec)

/-- 'laws.FnExactUnitOk', WHERE WHAT IT READS IS OF BULK AT MOST 1048576: true; the input reads as it did. -/
def fnExactUnitOkUptoRow : OpenClaim := { program := "ytgjognhncalhkaa", sum := "efc31ed6ccca76c4617136b71a7dbd0824014dcc8a4e0403dac6fe2b2f81edb1", func := "loop.example/gaussnumbers/laws.FnExactUnitOk", spec := "fnExactUnitOk", apart := false, narrowed := true }
def FnExactUnitOkUptoSaid : Prop := fnExactUnitOkUptoRow.holds Try.pinned (OpenSpec.upto fnExactUnitOkSpec)

end Rows
end Go.Proofs.Ytgjognhncalhkaa
