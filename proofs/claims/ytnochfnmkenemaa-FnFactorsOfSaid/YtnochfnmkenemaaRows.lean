/-
  No cell of these rows narrows 'for every input' (looked for: loops, veiled, ifaces, maps, wideKeys, modest, calm, conditions, laid).
  DERIVED. THE GIVEN ROWS OF THIS SEAT. 8 by the template 'for every input the law returns true; each argument reads behind the call as it read before'; 0 by the template 'total and deterministic' (their statements: YtnochfnmkenemaaTotals.lean).
  GIVEN WITH THE SEED: the statements are not yours to turn. If you find one false, say at which input.
  Laid BY PROGRAM, IN A SANDBOX (cutbox-rows.mjs): the forced cells as the released guide's own fill.sh prints them over the translation 42853d8da2a97752… (all of the seat's roots in one cut). By AI agents, Wed Nov 11 2026. No macro, syntax, notation, axiom, sorry.
-/
import Derived.Test.YtnochfnmkenemaaChecked
import GoSem.Claim
import GoSem.ClaimJoined
import GoSem.ClaimMapViews
import Derived.JoinedTies
import Derived.KernelRfl
namespace Go.Proofs.Ytnochfnmkenemaa
/- THE CELL 'sum', in the pinned program and in every row, IS THE sha256 OF THE DUMP (.gsa) THAT YtnochfnmkenemaaProg.lean LOADS. Nothing in Lean hashes anything: it is a label: what it is worth is what the hold of that sum in a sandbox is worth. -/
noncomputable def Try.pinned : Pinned := { name := "ytnochfnmkenemaa", sum := "42853d8da2a977524a5c8f69315d9c12018e707d432f4594f0d397eeb28ee8f3", checked := Try.checked }
namespace Rows
def none {H : Type} : Left H := { results := [], args := [] }

/-- 'laws.FnFactorsOf': WHATEVER THE INPUT: true; the input reads as it did. -/
def fnFactorsOfSpec : ChangeSpec := { name := "fnFactorsOf", fn := fun _ => fun
  | [d1, d2] => { results := [.lit (.bool true)], args := [d1, d2] }
  | _ => none }
def fnFactorsOfRow : OpenClaim := { program := "ytnochfnmkenemaa", sum := "42853d8da2a977524a5c8f69315d9c12018e707d432f4594f0d397eeb28ee8f3", func := "loop.example/gaussnumbers/laws.FnFactorsOf", spec := "fnFactorsOf", unfollowed := true, recurses := true, apart := false }
def FnFactorsOfSaid : Prop := fnFactorsOfRow.holds Try.pinned (OpenSpec.ofChange fnFactorsOfSpec)

/-- ITS FALSE NEIGHBOUR: 'it returns false'. Refute it at one input. -/
def fnFactorsOfWrong : ChangeSpec := { name := "fnFactorsOf", fn := fun _ => fun
  | [d1, d2] => { results := [.lit (.bool false)], args := [d1, d2] }
  | _ => none }
def FnFactorsOfWrongFalsely : Prop := fnFactorsOfRow.holds Try.pinned (OpenSpec.ofChange fnFactorsOfWrong)

/-- 'laws.FnProductOf': WHATEVER THE INPUT: true; the input reads as it did. -/
def fnProductOfSpec : ChangeSpec := { name := "fnProductOf", fn := fun _ => fun
  | [d] => { results := [.lit (.bool true)], args := [d] }
  | _ => none }
def fnProductOfRow : OpenClaim := { program := "ytnochfnmkenemaa", sum := "42853d8da2a977524a5c8f69315d9c12018e707d432f4594f0d397eeb28ee8f3", func := "loop.example/gaussnumbers/laws.FnProductOf", spec := "fnProductOf", unfollowed := true, recurses := true, apart := false }
def FnProductOfSaid : Prop := fnProductOfRow.holds Try.pinned (OpenSpec.ofChange fnProductOfSpec)

/-- ITS FALSE NEIGHBOUR: 'it returns false'. Refute it at one input. -/
def fnProductOfWrong : ChangeSpec := { name := "fnProductOf", fn := fun _ => fun
  | [d] => { results := [.lit (.bool false)], args := [d] }
  | _ => none }
def FnProductOfWrongFalsely : Prop := fnProductOfRow.holds Try.pinned (OpenSpec.ofChange fnProductOfWrong)

/-- 'laws.FnOftenOf': WHATEVER THE INPUT: true; the input reads as it did. -/
def fnOftenOfSpec : ChangeSpec := { name := "fnOftenOf", fn := fun _ => fun
  | [d1, d2] => { results := [.lit (.bool true)], args := [d1, d2] }
  | _ => none }
def fnOftenOfRow : OpenClaim := { program := "ytnochfnmkenemaa", sum := "42853d8da2a977524a5c8f69315d9c12018e707d432f4594f0d397eeb28ee8f3", func := "loop.example/gaussnumbers/laws.FnOftenOf", spec := "fnOftenOf", unfollowed := true, recurses := true, apart := false }
def FnOftenOfSaid : Prop := fnOftenOfRow.holds Try.pinned (OpenSpec.ofChange fnOftenOfSpec)

/-- ITS FALSE NEIGHBOUR: 'it returns false'. Refute it at one input. -/
def fnOftenOfWrong : ChangeSpec := { name := "fnOftenOf", fn := fun _ => fun
  | [d1, d2] => { results := [.lit (.bool false)], args := [d1, d2] }
  | _ => none }
def FnOftenOfWrongFalsely : Prop := fnOftenOfRow.holds Try.pinned (OpenSpec.ofChange fnOftenOfWrong)

/-- 'laws.FnSquareFreeOk': WHATEVER THE INPUT: true; the input reads as it did. -/
def fnSquareFreeOkSpec : ChangeSpec := { name := "fnSquareFreeOk", fn := fun _ => fun
  | [d] => { results := [.lit (.bool true)], args := [d] }
  | _ => none }
def fnSquareFreeOkRow : OpenClaim := { program := "ytnochfnmkenemaa", sum := "42853d8da2a977524a5c8f69315d9c12018e707d432f4594f0d397eeb28ee8f3", func := "loop.example/gaussnumbers/laws.FnSquareFreeOk", spec := "fnSquareFreeOk", unfollowed := true, recurses := true, apart := false }
def FnSquareFreeOkSaid : Prop := fnSquareFreeOkRow.holds Try.pinned (OpenSpec.ofChange fnSquareFreeOkSpec)

/-- ITS FALSE NEIGHBOUR: 'it returns false'. Refute it at one input. -/
def fnSquareFreeOkWrong : ChangeSpec := { name := "fnSquareFreeOk", fn := fun _ => fun
  | [d] => { results := [.lit (.bool false)], args := [d] }
  | _ => none }
def FnSquareFreeOkWrongFalsely : Prop := fnSquareFreeOkRow.holds Try.pinned (OpenSpec.ofChange fnSquareFreeOkWrong)

/-- 'laws.FnExactFactorsOf': WHATEVER THE INPUT: true; the input reads as it did. -/
def fnExactFactorsOfSpec : ChangeSpec := { name := "fnExactFactorsOf", fn := fun _ => fun
  | [d] => { results := [.lit (.bool true)], args := [d] }
  | _ => none }
def fnExactFactorsOfRow : OpenClaim := { program := "ytnochfnmkenemaa", sum := "42853d8da2a977524a5c8f69315d9c12018e707d432f4594f0d397eeb28ee8f3", func := "loop.example/gaussnumbers/laws.FnExactFactorsOf", spec := "fnExactFactorsOf", unfollowed := true, recurses := true, apart := false }
def FnExactFactorsOfSaid : Prop := fnExactFactorsOfRow.holds Try.pinned (OpenSpec.ofChange fnExactFactorsOfSpec)

/-- ITS FALSE NEIGHBOUR: 'it returns false'. Refute it at one input. -/
def fnExactFactorsOfWrong : ChangeSpec := { name := "fnExactFactorsOf", fn := fun _ => fun
  | [d] => { results := [.lit (.bool false)], args := [d] }
  | _ => none }
def FnExactFactorsOfWrongFalsely : Prop := fnExactFactorsOfRow.holds Try.pinned (OpenSpec.ofChange fnExactFactorsOfWrong)

/-- 'laws.FnExactProductOf': WHATEVER THE INPUT: true; the input reads as it did. -/
def fnExactProductOfSpec : ChangeSpec := { name := "fnExactProductOf", fn := fun _ => fun
  | [d1, d2] => { results := [.lit (.bool true)], args := [d1, d2] }
  | _ => none }
def fnExactProductOfRow : OpenClaim := { program := "ytnochfnmkenemaa", sum := "42853d8da2a977524a5c8f69315d9c12018e707d432f4594f0d397eeb28ee8f3", func := "loop.example/gaussnumbers/laws.FnExactProductOf", spec := "fnExactProductOf", unfollowed := true, recurses := true, apart := false }
def FnExactProductOfSaid : Prop := fnExactProductOfRow.holds Try.pinned (OpenSpec.ofChange fnExactProductOfSpec)

/-- ITS FALSE NEIGHBOUR: 'it returns false'. Refute it at one input. -/
def fnExactProductOfWrong : ChangeSpec := { name := "fnExactProductOf", fn := fun _ => fun
  | [d1, d2] => { results := [.lit (.bool false)], args := [d1, d2] }
  | _ => none }
def FnExactProductOfWrongFalsely : Prop := fnExactProductOfRow.holds Try.pinned (OpenSpec.ofChange fnExactProductOfWrong)

/-- 'laws.FnExactOftenOf': WHATEVER THE INPUT: true; the input reads as it did. -/
def fnExactOftenOfSpec : ChangeSpec := { name := "fnExactOftenOf", fn := fun _ => fun
  | [d1, d2] => { results := [.lit (.bool true)], args := [d1, d2] }
  | _ => none }
def fnExactOftenOfRow : OpenClaim := { program := "ytnochfnmkenemaa", sum := "42853d8da2a977524a5c8f69315d9c12018e707d432f4594f0d397eeb28ee8f3", func := "loop.example/gaussnumbers/laws.FnExactOftenOf", spec := "fnExactOftenOf", unfollowed := true, recurses := true, apart := false }
def FnExactOftenOfSaid : Prop := fnExactOftenOfRow.holds Try.pinned (OpenSpec.ofChange fnExactOftenOfSpec)

/-- ITS FALSE NEIGHBOUR: 'it returns false'. Refute it at one input. -/
def fnExactOftenOfWrong : ChangeSpec := { name := "fnExactOftenOf", fn := fun _ => fun
  | [d1, d2] => { results := [.lit (.bool false)], args := [d1, d2] }
  | _ => none }
def FnExactOftenOfWrongFalsely : Prop := fnExactOftenOfRow.holds Try.pinned (OpenSpec.ofChange fnExactOftenOfWrong)

/-- 'laws.FnExactSquareFreeOk': WHATEVER THE INPUT: true; the input reads as it did. -/
def fnExactSquareFreeOkSpec : ChangeSpec := { name := "fnExactSquareFreeOk", fn := fun _ => fun
  | [d] => { results := [.lit (.bool true)], args := [d] }
  | _ => none }
def fnExactSquareFreeOkRow : OpenClaim := { program := "ytnochfnmkenemaa", sum := "42853d8da2a977524a5c8f69315d9c12018e707d432f4594f0d397eeb28ee8f3", func := "loop.example/gaussnumbers/laws.FnExactSquareFreeOk", spec := "fnExactSquareFreeOk", unfollowed := true, recurses := true, apart := false }
def FnExactSquareFreeOkSaid : Prop := fnExactSquareFreeOkRow.holds Try.pinned (OpenSpec.ofChange fnExactSquareFreeOkSpec)

/-- ITS FALSE NEIGHBOUR: 'it returns false'. Refute it at one input. -/
def fnExactSquareFreeOkWrong : ChangeSpec := { name := "fnExactSquareFreeOk", fn := fun _ => fun
  | [d] => { results := [.lit (.bool false)], args := [d] }
  | _ => none }
def FnExactSquareFreeOkWrongFalsely : Prop := fnExactSquareFreeOkRow.holds Try.pinned (OpenSpec.ofChange fnExactSquareFreeOkWrong)

/- THE SECOND FORM. 'bulk': how many values and letters a reading holds, each counted each time it is reached (what is shared counts as often as it is met; a slice's spare places count too). A statement '..UptoSaid' is the law's where the arguments, and the package variables that the reading takes, are together of bulk at most 1048576: NARROWER than '..Said'. Prove '..Said' where nothing that the law and all that it calls make is longer than what came in: it says more and counts as full. Else prove '..UptoSaid'. A law counts once. -/
mutual
def uptoBulk {H : Type} : DataW H → Nat
  | .lit (.string bytes) => bytes.length + 1
  | .lit _ => 1
  | .nil => 1
  | .ptr d => uptoBulk d + 1
  | .slice elems spare => uptoBulkAll elems + uptoBulkAll spare + 1
  | .agg parts => uptoBulkAll parts + 1
  | .iface _ d => uptoBulk d + 1
  | .map entries => uptoBulkEntries entries + 1
  | .held _ => 1
def uptoBulkAll {H : Type} : List (DataW H) → Nat
  | [] => 0
  | d :: r => uptoBulk d + uptoBulkAll r
def uptoBulkEntries {H : Type} : List (Lit × DataW H) → Nat
  | [] => 0
  | x :: r => uptoBulkEntry x + uptoBulkEntries r
def uptoBulkEntry {H : Type} : Lit × DataW H → Nat
  | (.string bytes, d) => bytes.length + uptoBulk d + 1
  | (_, d) => uptoBulk d + 1
 end
def uptoSmall : (H : Type) → List (DataW H) → Bool := fun _ ds => decide (uptoBulkAll ds ≤ 1048576)
def OpenSpec.upto (s : _root_.Go.ChangeSpec) : _root_.Go.OpenSpec := { _root_.Go.OpenSpec.ofChange s with cond := some uptoSmall }

/-- 'laws.FnFactorsOf', WHERE WHAT IT READS IS OF BULK AT MOST 1048576: true; the input reads as it did. -/
def fnFactorsOfUptoRow : OpenClaim := { program := "ytnochfnmkenemaa", sum := "42853d8da2a977524a5c8f69315d9c12018e707d432f4594f0d397eeb28ee8f3", func := "loop.example/gaussnumbers/laws.FnFactorsOf", spec := "fnFactorsOf", unfollowed := true, recurses := true, apart := false, narrowed := true }
def FnFactorsOfUptoSaid : Prop := fnFactorsOfUptoRow.holds Try.pinned (OpenSpec.upto fnFactorsOfSpec)

/-- 'laws.FnProductOf', WHERE WHAT IT READS IS OF BULK AT MOST 1048576: true; the input reads as it did. -/
def fnProductOfUptoRow : OpenClaim := { program := "ytnochfnmkenemaa", sum := "42853d8da2a977524a5c8f69315d9c12018e707d432f4594f0d397eeb28ee8f3", func := "loop.example/gaussnumbers/laws.FnProductOf", spec := "fnProductOf", unfollowed := true, recurses := true, apart := false, narrowed := true }
def FnProductOfUptoSaid : Prop := fnProductOfUptoRow.holds Try.pinned (OpenSpec.upto fnProductOfSpec)

/-- 'laws.FnOftenOf', WHERE WHAT IT READS IS OF BULK AT MOST 1048576: true; the input reads as it did. -/
def fnOftenOfUptoRow : OpenClaim := { program := "ytnochfnmkenemaa", sum := "42853d8da2a977524a5c8f69315d9c12018e707d432f4594f0d397eeb28ee8f3", func := "loop.example/gaussnumbers/laws.FnOftenOf", spec := "fnOftenOf", unfollowed := true, recurses := true, apart := false, narrowed := true }
def FnOftenOfUptoSaid : Prop := fnOftenOfUptoRow.holds Try.pinned (OpenSpec.upto fnOftenOfSpec)

/-- 'laws.FnSquareFreeOk', WHERE WHAT IT READS IS OF BULK AT MOST 1048576: true; the input reads as it did. -/
def fnSquareFreeOkUptoRow : OpenClaim := { program := "ytnochfnmkenemaa", sum := "42853d8da2a977524a5c8f69315d9c12018e707d432f4594f0d397eeb28ee8f3", func := "loop.example/gaussnumbers/laws.FnSquareFreeOk", spec := "fnSquareFreeOk", unfollowed := true, recurses := true, apart := false, narrowed := true }
def FnSquareFreeOkUptoSaid : Prop := fnSquareFreeOkUptoRow.holds Try.pinned (OpenSpec.upto fnSquareFreeOkSpec)

/-- 'laws.FnExactFactorsOf', WHERE WHAT IT READS IS OF BULK AT MOST 1048576: true; the input reads as it did. -/
def fnExactFactorsOfUptoRow : OpenClaim := { program := "ytnochfnmkenemaa", sum := "42853d8da2a977524a5c8f69315d9c12018e707d432f4594f0d397eeb28ee8f3", func := "loop.example/gaussnumbers/laws.FnExactFactorsOf", spec := "fnExactFactorsOf", unfollowed := true, recurses := true, apart := false, narrowed := true }
def FnExactFactorsOfUptoSaid : Prop := fnExactFactorsOfUptoRow.holds Try.pinned (OpenSpec.upto fnExactFactorsOfSpec)

/-- 'laws.FnExactProductOf', WHERE WHAT IT READS IS OF BULK AT MOST 1048576: true; the input reads as it did. -/
def fnExactProductOfUptoRow : OpenClaim := { program := "ytnochfnmkenemaa", sum := "42853d8da2a977524a5c8f69315d9c12018e707d432f4594f0d397eeb28ee8f3", func := "loop.example/gaussnumbers/laws.FnExactProductOf", spec := "fnExactProductOf", unfollowed := true, recurses := true, apart := false, narrowed := true }
def FnExactProductOfUptoSaid : Prop := fnExactProductOfUptoRow.holds Try.pinned (OpenSpec.upto fnExactProductOfSpec)

/-- 'laws.FnExactOftenOf', WHERE WHAT IT READS IS OF BULK AT MOST 1048576: true; the input reads as it did. -/
def fnExactOftenOfUptoRow : OpenClaim := { program := "ytnochfnmkenemaa", sum := "42853d8da2a977524a5c8f69315d9c12018e707d432f4594f0d397eeb28ee8f3", func := "loop.example/gaussnumbers/laws.FnExactOftenOf", spec := "fnExactOftenOf", unfollowed := true, recurses := true, apart := false, narrowed := true }
def FnExactOftenOfUptoSaid : Prop := fnExactOftenOfUptoRow.holds Try.pinned (OpenSpec.upto fnExactOftenOfSpec)

/-- 'laws.FnExactSquareFreeOk', WHERE WHAT IT READS IS OF BULK AT MOST 1048576: true; the input reads as it did. -/
def fnExactSquareFreeOkUptoRow : OpenClaim := { program := "ytnochfnmkenemaa", sum := "42853d8da2a977524a5c8f69315d9c12018e707d432f4594f0d397eeb28ee8f3", func := "loop.example/gaussnumbers/laws.FnExactSquareFreeOk", spec := "fnExactSquareFreeOk", unfollowed := true, recurses := true, apart := false, narrowed := true }
def FnExactSquareFreeOkUptoSaid : Prop := fnExactSquareFreeOkUptoRow.holds Try.pinned (OpenSpec.upto fnExactSquareFreeOkSpec)

end Rows
end Go.Proofs.Ytnochfnmkenemaa
