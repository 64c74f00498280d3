/-
  No cell of these rows narrows 'for every input' (looked for: loops, veiled, ifaces, maps, wideKeys, modest, calm, conditions, laid).
  DERIVED. THE GIVEN ROWS OF THIS SEAT. 10 by the template 'for every input the law returns true; each argument reads behind the call as it read before'; 0 by the template 'total and deterministic' (their statements: YtefihkhhahhboaaTotals.lean).
  GIVEN WITH THE SEED: the statements are not yours to turn. If you find one false, say at which input.
  Laid BY PROGRAM, IN A SANDBOX (cutbox-rows.mjs): the forced cells as the released guide's own fill.sh prints them over the translation 8623764d7c1a1941… (all of the seat's roots in one cut). By AI agents, Wed Nov 11 2026. No macro, syntax, notation, axiom, sorry.
-/
import Derived.Test.YtefihkhhahhboaaChecked
import GoSem.Claim
import GoSem.ClaimJoined
import GoSem.ClaimMapViews
import Derived.JoinedTies
import Derived.KernelRfl
namespace Go.Proofs.Ytefihkhhahhboaa
/- THE CELL 'sum', in the pinned program and in every row, IS THE sha256 OF THE DUMP (.gsa) THAT YtefihkhhahhboaaProg.lean LOADS. Nothing in Lean hashes anything: it is a label: what it is worth is what the hold of that sum in a sandbox is worth. -/
noncomputable def Try.pinned : Pinned := { name := "ytefihkhhahhboaa", sum := "8623764d7c1a19412310c86a473113509c9b41f463e1b47bc0a8422720a11ce9", checked := Try.checked }
namespace Rows
def none {H : Type} : Left H := { results := [], args := [] }

/-- 'laws.FnCommonOf': WHATEVER THE INPUT: true; the input reads as it did. -/
def fnCommonOfSpec : ChangeSpec := { name := "fnCommonOf", fn := fun _ => fun
  | [d1, d2] => { results := [.lit (.bool true)], args := [d1, d2] }
  | _ => none }
def fnCommonOfRow : OpenClaim := { program := "ytefihkhhahhboaa", sum := "8623764d7c1a19412310c86a473113509c9b41f463e1b47bc0a8422720a11ce9", func := "loop.example/gaussnumbers/laws.FnCommonOf", spec := "fnCommonOf", unfollowed := true, recurses := true, apart := false }
def FnCommonOfSaid : Prop := fnCommonOfRow.holds Try.pinned (OpenSpec.ofChange fnCommonOfSpec)

/-- ITS FALSE NEIGHBOUR: 'it returns false'. Refute it at one input. -/
def fnCommonOfWrong : ChangeSpec := { name := "fnCommonOf", fn := fun _ => fun
  | [d1, d2] => { results := [.lit (.bool false)], args := [d1, d2] }
  | _ => none }
def FnCommonOfWrongFalsely : Prop := fnCommonOfRow.holds Try.pinned (OpenSpec.ofChange fnCommonOfWrong)

/-- 'laws.FnApartOk': WHATEVER THE INPUT: true; the input reads as it did. -/
def fnApartOkSpec : ChangeSpec := { name := "fnApartOk", fn := fun _ => fun
  | [d1, d2] => { results := [.lit (.bool true)], args := [d1, d2] }
  | _ => none }
def fnApartOkRow : OpenClaim := { program := "ytefihkhhahhboaa", sum := "8623764d7c1a19412310c86a473113509c9b41f463e1b47bc0a8422720a11ce9", func := "loop.example/gaussnumbers/laws.FnApartOk", spec := "fnApartOk", unfollowed := true, recurses := true, apart := false }
def FnApartOkSaid : Prop := fnApartOkRow.holds Try.pinned (OpenSpec.ofChange fnApartOkSpec)

/-- ITS FALSE NEIGHBOUR: 'it returns false'. Refute it at one input. -/
def fnApartOkWrong : ChangeSpec := { name := "fnApartOk", fn := fun _ => fun
  | [d1, d2] => { results := [.lit (.bool false)], args := [d1, d2] }
  | _ => none }
def FnApartOkWrongFalsely : Prop := fnApartOkRow.holds Try.pinned (OpenSpec.ofChange fnApartOkWrong)

/-- 'laws.FnStepsOf': WHATEVER THE INPUT: true; the input reads as it did. -/
def fnStepsOfSpec : ChangeSpec := { name := "fnStepsOf", fn := fun _ => fun
  | [d] => { results := [.lit (.bool true)], args := [d] }
  | _ => none }
def fnStepsOfRow : OpenClaim := { program := "ytefihkhhahhboaa", sum := "8623764d7c1a19412310c86a473113509c9b41f463e1b47bc0a8422720a11ce9", func := "loop.example/gaussnumbers/laws.FnStepsOf", spec := "fnStepsOf", unfollowed := true, recurses := true, apart := false }
def FnStepsOfSaid : Prop := fnStepsOfRow.holds Try.pinned (OpenSpec.ofChange fnStepsOfSpec)

/-- ITS FALSE NEIGHBOUR: 'it returns false'. Refute it at one input. -/
def fnStepsOfWrong : ChangeSpec := { name := "fnStepsOf", fn := fun _ => fun
  | [d] => { results := [.lit (.bool false)], args := [d] }
  | _ => none }
def FnStepsOfWrongFalsely : Prop := fnStepsOfRow.holds Try.pinned (OpenSpec.ofChange fnStepsOfWrong)

/-- 'laws.FnFactorsFor': WHATEVER THE INPUT: true; the input reads as it did. -/
def fnFactorsForSpec : ChangeSpec := { name := "fnFactorsFor", fn := fun _ => fun
  | [d] => { results := [.lit (.bool true)], args := [d] }
  | _ => none }
def fnFactorsForRow : OpenClaim := { program := "ytefihkhhahhboaa", sum := "8623764d7c1a19412310c86a473113509c9b41f463e1b47bc0a8422720a11ce9", func := "loop.example/gaussnumbers/laws.FnFactorsFor", spec := "fnFactorsFor", unfollowed := true, recurses := true, apart := false }
def FnFactorsForSaid : Prop := fnFactorsForRow.holds Try.pinned (OpenSpec.ofChange fnFactorsForSpec)

/-- ITS FALSE NEIGHBOUR: 'it returns false'. Refute it at one input. -/
def fnFactorsForWrong : ChangeSpec := { name := "fnFactorsFor", fn := fun _ => fun
  | [d] => { results := [.lit (.bool false)], args := [d] }
  | _ => none }
def FnFactorsForWrongFalsely : Prop := fnFactorsForRow.holds Try.pinned (OpenSpec.ofChange fnFactorsForWrong)

/-- 'laws.FnLeastOf': WHATEVER THE INPUT: true; the input reads as it did. -/
def fnLeastOfSpec : ChangeSpec := { name := "fnLeastOf", fn := fun _ => fun
  | [d] => { results := [.lit (.bool true)], args := [d] }
  | _ => none }
def fnLeastOfRow : OpenClaim := { program := "ytefihkhhahhboaa", sum := "8623764d7c1a19412310c86a473113509c9b41f463e1b47bc0a8422720a11ce9", func := "loop.example/gaussnumbers/laws.FnLeastOf", spec := "fnLeastOf", unfollowed := true, recurses := true, apart := false }
def FnLeastOfSaid : Prop := fnLeastOfRow.holds Try.pinned (OpenSpec.ofChange fnLeastOfSpec)

/-- ITS FALSE NEIGHBOUR: 'it returns false'. Refute it at one input. -/
def fnLeastOfWrong : ChangeSpec := { name := "fnLeastOf", fn := fun _ => fun
  | [d] => { results := [.lit (.bool false)], args := [d] }
  | _ => none }
def FnLeastOfWrongFalsely : Prop := fnLeastOfRow.holds Try.pinned (OpenSpec.ofChange fnLeastOfWrong)

/-- 'laws.FnExactCommonOf': WHATEVER THE INPUT: true; the input reads as it did. -/
def fnExactCommonOfSpec : ChangeSpec := { name := "fnExactCommonOf", fn := fun _ => fun
  | [d1, d2] => { results := [.lit (.bool true)], args := [d1, d2] }
  | _ => none }
def fnExactCommonOfRow : OpenClaim := { program := "ytefihkhhahhboaa", sum := "8623764d7c1a19412310c86a473113509c9b41f463e1b47bc0a8422720a11ce9", func := "loop.example/gaussnumbers/laws.FnExactCommonOf", spec := "fnExactCommonOf", unfollowed := true, recurses := true, apart := false }
def FnExactCommonOfSaid : Prop := fnExactCommonOfRow.holds Try.pinned (OpenSpec.ofChange fnExactCommonOfSpec)

/-- ITS FALSE NEIGHBOUR: 'it returns false'. Refute it at one input. -/
def fnExactCommonOfWrong : ChangeSpec := { name := "fnExactCommonOf", fn := fun _ => fun
  | [d1, d2] => { results := [.lit (.bool false)], args := [d1, d2] }
  | _ => none }
def FnExactCommonOfWrongFalsely : Prop := fnExactCommonOfRow.holds Try.pinned (OpenSpec.ofChange fnExactCommonOfWrong)

/-- 'laws.FnExactApartOk': WHATEVER THE INPUT: true; the input reads as it did. -/
def fnExactApartOkSpec : ChangeSpec := { name := "fnExactApartOk", fn := fun _ => fun
  | [d1, d2] => { results := [.lit (.bool true)], args := [d1, d2] }
  | _ => none }
def fnExactApartOkRow : OpenClaim := { program := "ytefihkhhahhboaa", sum := "8623764d7c1a19412310c86a473113509c9b41f463e1b47bc0a8422720a11ce9", func := "loop.example/gaussnumbers/laws.FnExactApartOk", spec := "fnExactApartOk", unfollowed := true, recurses := true, apart := false }
def FnExactApartOkSaid : Prop := fnExactApartOkRow.holds Try.pinned (OpenSpec.ofChange fnExactApartOkSpec)

/-- ITS FALSE NEIGHBOUR: 'it returns false'. Refute it at one input. -/
def fnExactApartOkWrong : ChangeSpec := { name := "fnExactApartOk", fn := fun _ => fun
  | [d1, d2] => { results := [.lit (.bool false)], args := [d1, d2] }
  | _ => none }
def FnExactApartOkWrongFalsely : Prop := fnExactApartOkRow.holds Try.pinned (OpenSpec.ofChange fnExactApartOkWrong)

/-- 'laws.FnExactStepsOf': WHATEVER THE INPUT: true; the input reads as it did. -/
def fnExactStepsOfSpec : ChangeSpec := { name := "fnExactStepsOf", fn := fun _ => fun
  | [d1, d2] => { results := [.lit (.bool true)], args := [d1, d2] }
  | _ => none }
def fnExactStepsOfRow : OpenClaim := { program := "ytefihkhhahhboaa", sum := "8623764d7c1a19412310c86a473113509c9b41f463e1b47bc0a8422720a11ce9", func := "loop.example/gaussnumbers/laws.FnExactStepsOf", spec := "fnExactStepsOf", unfollowed := true, recurses := true, apart := false }
def FnExactStepsOfSaid : Prop := fnExactStepsOfRow.holds Try.pinned (OpenSpec.ofChange fnExactStepsOfSpec)

/-- ITS FALSE NEIGHBOUR: 'it returns false'. Refute it at one input. -/
def fnExactStepsOfWrong : ChangeSpec := { name := "fnExactStepsOf", fn := fun _ => fun
  | [d1, d2] => { results := [.lit (.bool false)], args := [d1, d2] }
  | _ => none }
def FnExactStepsOfWrongFalsely : Prop := fnExactStepsOfRow.holds Try.pinned (OpenSpec.ofChange fnExactStepsOfWrong)

/-- 'laws.FnExactFactorsFor': WHATEVER THE INPUT: true; the input reads as it did. -/
def fnExactFactorsForSpec : ChangeSpec := { name := "fnExactFactorsFor", fn := fun _ => fun
  | [d1, d2] => { results := [.lit (.bool true)], args := [d1, d2] }
  | _ => none }
def fnExactFactorsForRow : OpenClaim := { program := "ytefihkhhahhboaa", sum := "8623764d7c1a19412310c86a473113509c9b41f463e1b47bc0a8422720a11ce9", func := "loop.example/gaussnumbers/laws.FnExactFactorsFor", spec := "fnExactFactorsFor", unfollowed := true, recurses := true, apart := false }
def FnExactFactorsForSaid : Prop := fnExactFactorsForRow.holds Try.pinned (OpenSpec.ofChange fnExactFactorsForSpec)

/-- ITS FALSE NEIGHBOUR: 'it returns false'. Refute it at one input. -/
def fnExactFactorsForWrong : ChangeSpec := { name := "fnExactFactorsFor", fn := fun _ => fun
  | [d1, d2] => { results := [.lit (.bool false)], args := [d1, d2] }
  | _ => none }
def FnExactFactorsForWrongFalsely : Prop := fnExactFactorsForRow.holds Try.pinned (OpenSpec.ofChange fnExactFactorsForWrong)

/-- 'laws.FnExactLeastOf': WHATEVER THE INPUT: true; the input reads as it did. -/
def fnExactLeastOfSpec : ChangeSpec := { name := "fnExactLeastOf", fn := fun _ => fun
  | [d1, d2] => { results := [.lit (.bool true)], args := [d1, d2] }
  | _ => none }
def fnExactLeastOfRow : OpenClaim := { program := "ytefihkhhahhboaa", sum := "8623764d7c1a19412310c86a473113509c9b41f463e1b47bc0a8422720a11ce9", func := "loop.example/gaussnumbers/laws.FnExactLeastOf", spec := "fnExactLeastOf", unfollowed := true, recurses := true, apart := false }
def FnExactLeastOfSaid : Prop := fnExactLeastOfRow.holds Try.pinned (OpenSpec.ofChange fnExactLeastOfSpec)

/-- ITS FALSE NEIGHBOUR: 'it returns false'. Refute it at one input. -/
def fnExactLeastOfWrong : ChangeSpec := { name := "fnExactLeastOf", fn := fun _ => fun
  | [d1, d2] => { results := [.lit (.bool false)], args := [d1, d2] }
  | _ => none }
def FnExactLeastOfWrongFalsely : Prop := fnExactLeastOfRow.holds Try.pinned (OpenSpec.ofChange fnExactLeastOfWrong)

/- THE SECOND FORM. 'bulk': how many values and letters a reading holds, each counted each time it is reached (what is shared counts as often as it is met; a slice's spare places count too). A statement '..UptoSaid' is the law's where the arguments, and the package variables that the reading takes, are together of bulk at most 1048576: NARROWER than '..Said'. Prove '..Said' where nothing that the law and all that it calls make is longer than what came in: it says more and counts as full. Else prove '..UptoSaid'. A law counts once. -/
mutual
def uptoBulk {H : Type} : DataW H → Nat
  | .lit (.string bytes) => bytes.length + 1
  | .lit _ => 1
  | .nil => 1
  | .ptr d => uptoBulk d + 1
  | .slice elems spare => uptoBulkAll elems + uptoBulkAll spare + 1
  | .agg parts => uptoBulkAll parts + 1
  | .iface _ d => uptoBulk d + 1
  | .map entries => uptoBulkEntries entries + 1
  | .held _ => 1
def uptoBulkAll {H : Type} : List (DataW H) → Nat
  | [] => 0
  | d :: r => uptoBulk d + uptoBulkAll r
def uptoBulkEntries {H : Type} : List (Lit × DataW H) → Nat
  | [] => 0
  | x :: r => uptoBulkEntry x + uptoBulkEntries r
def uptoBulkEntry {H : Type} : Lit × DataW H → Nat
  | (.string bytes, d) => bytes.length + uptoBulk d + 1
  | (_, d) => uptoBulk d + 1
 end
def uptoSmall : (H : Type) → List (DataW H) → Bool := fun _ ds => decide (uptoBulkAll ds ≤ 1048576)
def OpenSpec.upto (s : _root_.Go.ChangeSpec) : _root_.Go.OpenSpec := { _root_.Go.OpenSpec.ofChange s with cond := some uptoSmall }

/-- 'laws.FnCommonOf', WHERE WHAT IT READS IS OF BULK AT MOST 1048576: true; the input reads as it did. -/
def fnCommonOfUptoRow : OpenClaim := { program := "ytefihkhhahhboaa", sum := "8623764d7c1a19412310c86a473113509c9b41f463e1b47bc0a8422720a11ce9", func := "loop.example/gaussnumbers/laws.FnCommonOf", spec := "fnCommonOf", unfollowed := true, recurses := true, apart := false, narrowed := true }
def FnCommonOfUptoSaid : Prop := fnCommonOfUptoRow.holds Try.pinned (OpenSpec.upto fnCommonOfSpec)

/-- 'laws.FnApartOk', WHERE WHAT IT READS IS OF BULK AT MOST 1048576: true; the input reads as it did. -/
def fnApartOkUptoRow : OpenClaim := { program := "ytefihkhhahhboaa", sum := "8623764d7c1a19412310c86a473113509c9b41f463e1b47bc0a8422720a11ce9", func := "loop.example/gaussnumbers/laws.FnApartOk", spec := "fnApartOk", unfollowed := true, recurses := true, apart := false, narrowed := true }
def FnApartOkUptoSaid : Prop := fnApartOkUptoRow.holds Try.pinned (OpenSpec.upto fnApartOkSpec)

/-- 'laws.FnStepsOf', WHERE WHAT IT READS IS OF BULK AT MOST 1048576: true; the input reads as it did. -/
def fnStepsOfUptoRow : OpenClaim := { program := "ytefihkhhahhboaa", sum := "8623764d7c1a19412310c86a473113509c9b41f463e1b47bc0a8422720a11ce9", func := "loop.example/gaussnumbers/laws.FnStepsOf", spec := "fnStepsOf", unfollowed := true, recurses := true, apart := false, narrowed := true }
def FnStepsOfUptoSaid : Prop := fnStepsOfUptoRow.holds Try.pinned (OpenSpec.upto fnStepsOfSpec)

/-- 'laws.FnFactorsFor', WHERE WHAT IT READS IS OF BULK AT MOST 1048576: true; the input reads as it did. -/
def fnFactorsForUptoRow : OpenClaim := { program := "ytefihkhhahhboaa", sum := "8623764d7c1a19412310c86a473113509c9b41f463e1b47bc0a8422720a11ce9", func := "loop.example/gaussnumbers/laws.FnFactorsFor", spec := "fnFactorsFor", unfollowed := true, recurses := true, apart := false, narrowed := true }
def FnFactorsForUptoSaid : Prop := fnFactorsForUptoRow.holds Try.pinned (OpenSpec.upto fnFactorsForSpec)

/-- 'laws.FnLeastOf', WHERE WHAT IT READS IS OF BULK AT MOST 1048576: true; the input reads as it did. -/
def fnLeastOfUptoRow : OpenClaim := { program := "ytefihkhhahhboaa", sum := "8623764d7c1a19412310c86a473113509c9b41f463e1b47bc0a8422720a11ce9", func := "loop.example/gaussnumbers/laws.FnLeastOf", spec := "fnLeastOf", unfollowed := true, recurses := true, apart := false, narrowed := true }
def FnLeastOfUptoSaid : Prop := fnLeastOfUptoRow.holds Try.pinned (OpenSpec.upto fnLeastOfSpec)

/-- 'laws.FnExactCommonOf', WHERE WHAT IT READS IS OF BULK AT MOST 1048576: true; the input reads as it did. -/
def fnExactCommonOfUptoRow : OpenClaim := { program := "ytefihkhhahhboaa", sum := "8623764d7c1a19412310c86a473113509c9b41f463e1b47bc0a8422720a11ce9", func := "loop.example/gaussnumbers/laws.FnExactCommonOf", spec := "fnExactCommonOf", unfollowed := true, recurses := true, apart := false, narrowed := true }
def FnExactCommonOfUptoSaid : Prop := fnExactCommonOfUptoRow.holds Try.pinned (OpenSpec.upto fnExactCommonOfSpec)

/-- 'laws.FnExactApartOk', WHERE WHAT IT READS IS OF BULK AT MOST 1048576: true; the input reads as it did. -/
def fnExactApartOkUptoRow : OpenClaim := { program := "ytefihkhhahhboaa", sum := "8623764d7c1a19412310c86a473113509c9b41f463e1b47bc0a8422720a11ce9", func := "loop.example/gaussnumbers/laws.FnExactApartOk", spec := "fnExactApartOk", unfollowed := true, recurses := true, apart := false, narrowed := true }
def FnExactApartOkUptoSaid : Prop := fnExactApartOkUptoRow.holds Try.pinned (OpenSpec.upto fnExactApartOkSpec)

/-- 'laws.FnExactStepsOf', WHERE WHAT IT READS IS OF BULK AT MOST 1048576: true; the input reads as it did. -/
def fnExactStepsOfUptoRow : OpenClaim := { program := "ytefihkhhahhboaa", sum := "8623764d7c1a19412310c86a473113509c9b41f463e1b47bc0a8422720a11ce9", func := "loop.example/gaussnumbers/laws.FnExactStepsOf", spec := "fnExactStepsOf", unfollowed := true, recurses := true, apart := false, narrowed := true }
def FnExactStepsOfUptoSaid : Prop := fnExactStepsOfUptoRow.holds Try.pinned (OpenSpec.upto fnExactStepsOfSpec)

/-- 'laws.FnExactFactorsFor', WHERE WHAT IT READS IS OF BULK AT MOST 1048576: true; the input reads as it did. -/
def fnExactFactorsForUptoRow : OpenClaim := { program := "ytefihkhhahhboaa", sum := "8623764d7c1a19412310c86a473113509c9b41f463e1b47bc0a8422720a11ce9", func := "loop.example/gaussnumbers/laws.FnExactFactorsFor", spec := "fnExactFactorsFor", unfollowed := true, recurses := true, apart := false, narrowed := true }
def FnExactFactorsForUptoSaid : Prop := fnExactFactorsForUptoRow.holds Try.pinned (OpenSpec.upto fnExactFactorsForSpec)

/-- 'laws.FnExactLeastOf', WHERE WHAT IT READS IS OF BULK AT MOST 1048576: true; the input reads as it did. -/
def fnExactLeastOfUptoRow : OpenClaim := { program := "ytefihkhhahhboaa", sum := "8623764d7c1a19412310c86a473113509c9b41f463e1b47bc0a8422720a11ce9", func := "loop.example/gaussnumbers/laws.FnExactLeastOf", spec := "fnExactLeastOf", unfollowed := true, recurses := true, apart := false, narrowed := true }
def FnExactLeastOfUptoSaid : Prop := fnExactLeastOfUptoRow.holds Try.pinned (OpenSpec.upto fnExactLeastOfSpec)

end Rows
end Go.Proofs.Ytefihkhhahhboaa
