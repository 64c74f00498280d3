/-
  No cell of these rows narrows 'for every input' (looked for: loops, veiled, ifaces, maps, wideKeys, modest, calm, conditions, laid).
  DERIVED. THE GIVEN ROWS OF THIS SEAT. 8 by the template 'for every input the law returns true; each argument reads behind the call as it read before'; 0 by the template 'total and deterministic' (their statements: YtahnkecdningnaaTotals.lean).
  GIVEN WITH THE SEED: the statements are not yours to turn. If you find one false, say at which input.
  Laid BY PROGRAM, IN A SANDBOX (cutbox-rows.mjs): the forced cells as the released guide's own fill.sh prints them over the translation 736fc3dea178f98f… (all of the seat's roots in one cut). By AI agents, Wed Nov 11 2026. No macro, syntax, notation, axiom, sorry.
-/
import Derived.Test.YtahnkecdningnaaChecked
import GoSem.Claim
import GoSem.ClaimJoined
import GoSem.ClaimMapViews
import Derived.JoinedTies
import Derived.KernelRfl
namespace Go.Proofs.Ytahnkecdningnaa
/- THE CELL 'sum', in the pinned program and in every row, IS THE sha256 OF THE DUMP (.gsa) THAT YtahnkecdningnaaProg.lean LOADS. Nothing in Lean hashes anything: it is a label: what it is worth is what the hold of that sum in a sandbox is worth. -/
noncomputable def Try.pinned : Pinned := { name := "ytahnkecdningnaa", sum := "736fc3dea178f98f12f49683e6b3caba01d5eb432883f028bba5006ba232133c", checked := Try.checked }
namespace Rows
def none {H : Type} : Left H := { results := [], args := [] }

/-- 'laws.FnPowerOf': WHATEVER THE INPUT: true; the input reads as it did. -/
def fnPowerOfSpec : ChangeSpec := { name := "fnPowerOf", fn := fun _ => fun
  | [d] => { results := [.lit (.bool true)], args := [d] }
  | _ => none }
def fnPowerOfRow : OpenClaim := { program := "ytahnkecdningnaa", sum := "736fc3dea178f98f12f49683e6b3caba01d5eb432883f028bba5006ba232133c", func := "loop.example/gaussnumbers/laws.FnPowerOf", spec := "fnPowerOf", unfollowed := true, recurses := true, apart := false }
def FnPowerOfSaid : Prop := fnPowerOfRow.holds Try.pinned (OpenSpec.ofChange fnPowerOfSpec)

/-- ITS FALSE NEIGHBOUR: 'it returns false'. Refute it at one input. -/
def fnPowerOfWrong : ChangeSpec := { name := "fnPowerOf", fn := fun _ => fun
  | [d] => { results := [.lit (.bool false)], args := [d] }
  | _ => none }
def FnPowerOfWrongFalsely : Prop := fnPowerOfRow.holds Try.pinned (OpenSpec.ofChange fnPowerOfWrong)

/-- 'laws.FnUndoneBy': WHATEVER THE INPUT: true; the input reads as it did. -/
def fnUndoneBySpec : ChangeSpec := { name := "fnUndoneBy", fn := fun _ => fun
  | [d] => { results := [.lit (.bool true)], args := [d] }
  | _ => none }
def fnUndoneByRow : OpenClaim := { program := "ytahnkecdningnaa", sum := "736fc3dea178f98f12f49683e6b3caba01d5eb432883f028bba5006ba232133c", func := "loop.example/gaussnumbers/laws.FnUndoneBy", spec := "fnUndoneBy", unfollowed := true, recurses := true, apart := false }
def FnUndoneBySaid : Prop := fnUndoneByRow.holds Try.pinned (OpenSpec.ofChange fnUndoneBySpec)

/-- ITS FALSE NEIGHBOUR: 'it returns false'. Refute it at one input. -/
def fnUndoneByWrong : ChangeSpec := { name := "fnUndoneBy", fn := fun _ => fun
  | [d] => { results := [.lit (.bool false)], args := [d] }
  | _ => none }
def FnUndoneByWrongFalsely : Prop := fnUndoneByRow.holds Try.pinned (OpenSpec.ofChange fnUndoneByWrong)

/-- 'laws.FnCountApart': WHATEVER THE INPUT: true; the input reads as it did. -/
def fnCountApartSpec : ChangeSpec := { name := "fnCountApart", fn := fun _ => fun
  | [d1, d2] => { results := [.lit (.bool true)], args := [d1, d2] }
  | _ => none }
def fnCountApartRow : OpenClaim := { program := "ytahnkecdningnaa", sum := "736fc3dea178f98f12f49683e6b3caba01d5eb432883f028bba5006ba232133c", func := "loop.example/gaussnumbers/laws.FnCountApart", spec := "fnCountApart", unfollowed := true, recurses := true, apart := false }
def FnCountApartSaid : Prop := fnCountApartRow.holds Try.pinned (OpenSpec.ofChange fnCountApartSpec)

/-- ITS FALSE NEIGHBOUR: 'it returns false'. Refute it at one input. -/
def fnCountApartWrong : ChangeSpec := { name := "fnCountApart", fn := fun _ => fun
  | [d1, d2] => { results := [.lit (.bool false)], args := [d1, d2] }
  | _ => none }
def FnCountApartWrongFalsely : Prop := fnCountApartRow.holds Try.pinned (OpenSpec.ofChange fnCountApartWrong)

/-- 'laws.FnOrderOf': WHATEVER THE INPUT: true; the input reads as it did. -/
def fnOrderOfSpec : ChangeSpec := { name := "fnOrderOf", fn := fun _ => fun
  | [d] => { results := [.lit (.bool true)], args := [d] }
  | _ => none }
def fnOrderOfRow : OpenClaim := { program := "ytahnkecdningnaa", sum := "736fc3dea178f98f12f49683e6b3caba01d5eb432883f028bba5006ba232133c", func := "loop.example/gaussnumbers/laws.FnOrderOf", spec := "fnOrderOf", unfollowed := true, recurses := true, apart := false }
def FnOrderOfSaid : Prop := fnOrderOfRow.holds Try.pinned (OpenSpec.ofChange fnOrderOfSpec)

/-- ITS FALSE NEIGHBOUR: 'it returns false'. Refute it at one input. -/
def fnOrderOfWrong : ChangeSpec := { name := "fnOrderOf", fn := fun _ => fun
  | [d] => { results := [.lit (.bool false)], args := [d] }
  | _ => none }
def FnOrderOfWrongFalsely : Prop := fnOrderOfRow.holds Try.pinned (OpenSpec.ofChange fnOrderOfWrong)

/-- 'laws.FnExactPowerOf': WHATEVER THE INPUT: true; the input reads as it did. -/
def fnExactPowerOfSpec : ChangeSpec := { name := "fnExactPowerOf", fn := fun _ => fun
  | [d1, d2, d3] => { results := [.lit (.bool true)], args := [d1, d2, d3] }
  | _ => none }
def fnExactPowerOfRow : OpenClaim := { program := "ytahnkecdningnaa", sum := "736fc3dea178f98f12f49683e6b3caba01d5eb432883f028bba5006ba232133c", func := "loop.example/gaussnumbers/laws.FnExactPowerOf", spec := "fnExactPowerOf", apart := false }
def FnExactPowerOfSaid : Prop := fnExactPowerOfRow.holds Try.pinned (OpenSpec.ofChange fnExactPowerOfSpec)

/-- ITS FALSE NEIGHBOUR: 'it returns false'. Refute it at one input. -/
def fnExactPowerOfWrong : ChangeSpec := { name := "fnExactPowerOf", fn := fun _ => fun
  | [d1, d2, d3] => { results := [.lit (.bool false)], args := [d1, d2, d3] }
  | _ => none }
def FnExactPowerOfWrongFalsely : Prop := fnExactPowerOfRow.holds Try.pinned (OpenSpec.ofChange fnExactPowerOfWrong)

/-- 'laws.FnExactUndoneBy': WHATEVER THE INPUT: true; the input reads as it did. -/
def fnExactUndoneBySpec : ChangeSpec := { name := "fnExactUndoneBy", fn := fun _ => fun
  | [d1, d2] => { results := [.lit (.bool true)], args := [d1, d2] }
  | _ => none }
def fnExactUndoneByRow : OpenClaim := { program := "ytahnkecdningnaa", sum := "736fc3dea178f98f12f49683e6b3caba01d5eb432883f028bba5006ba232133c", func := "loop.example/gaussnumbers/laws.FnExactUndoneBy", spec := "fnExactUndoneBy", unfollowed := true, recurses := true, apart := false }
def FnExactUndoneBySaid : Prop := fnExactUndoneByRow.holds Try.pinned (OpenSpec.ofChange fnExactUndoneBySpec)

/-- ITS FALSE NEIGHBOUR: 'it returns false'. Refute it at one input. -/
def fnExactUndoneByWrong : ChangeSpec := { name := "fnExactUndoneBy", fn := fun _ => fun
  | [d1, d2] => { results := [.lit (.bool false)], args := [d1, d2] }
  | _ => none }
def FnExactUndoneByWrongFalsely : Prop := fnExactUndoneByRow.holds Try.pinned (OpenSpec.ofChange fnExactUndoneByWrong)

/-- 'laws.FnExactCountApart': WHATEVER THE INPUT: true; the input reads as it did. -/
def fnExactCountApartSpec : ChangeSpec := { name := "fnExactCountApart", fn := fun _ => fun
  | [d] => { results := [.lit (.bool true)], args := [d] }
  | _ => none }
def fnExactCountApartRow : OpenClaim := { program := "ytahnkecdningnaa", sum := "736fc3dea178f98f12f49683e6b3caba01d5eb432883f028bba5006ba232133c", func := "loop.example/gaussnumbers/laws.FnExactCountApart", spec := "fnExactCountApart", unfollowed := true, recurses := true, apart := false }
def FnExactCountApartSaid : Prop := fnExactCountApartRow.holds Try.pinned (OpenSpec.ofChange fnExactCountApartSpec)

/-- ITS FALSE NEIGHBOUR: 'it returns false'. Refute it at one input. -/
def fnExactCountApartWrong : ChangeSpec := { name := "fnExactCountApart", fn := fun _ => fun
  | [d] => { results := [.lit (.bool false)], args := [d] }
  | _ => none }
def FnExactCountApartWrongFalsely : Prop := fnExactCountApartRow.holds Try.pinned (OpenSpec.ofChange fnExactCountApartWrong)

/-- 'laws.FnExactOrderOf': WHATEVER THE INPUT: true; the input reads as it did. -/
def fnExactOrderOfSpec : ChangeSpec := { name := "fnExactOrderOf", fn := fun _ => fun
  | [d1, d2] => { results := [.lit (.bool true)], args := [d1, d2] }
  | _ => none }
def fnExactOrderOfRow : OpenClaim := { program := "ytahnkecdningnaa", sum := "736fc3dea178f98f12f49683e6b3caba01d5eb432883f028bba5006ba232133c", func := "loop.example/gaussnumbers/laws.FnExactOrderOf", spec := "fnExactOrderOf", unfollowed := true, recurses := true, apart := false }
def FnExactOrderOfSaid : Prop := fnExactOrderOfRow.holds Try.pinned (OpenSpec.ofChange fnExactOrderOfSpec)

/-- ITS FALSE NEIGHBOUR: 'it returns false'. Refute it at one input. -/
def fnExactOrderOfWrong : ChangeSpec := { name := "fnExactOrderOf", fn := fun _ => fun
  | [d1, d2] => { results := [.lit (.bool false)], args := [d1, d2] }
  | _ => none }
def FnExactOrderOfWrongFalsely : Prop := fnExactOrderOfRow.holds Try.pinned (OpenSpec.ofChange fnExactOrderOfWrong)

/- THE SECOND FORM. 'bulk': how many values and letters a reading holds, each counted each time it is reached (what is shared counts as often as it is met; a slice's spare places count too). A statement '..UptoSaid' is the law's where the arguments, and the package variables that the reading takes, are together of bulk at most 1048576: NARROWER than '..Said'. Prove '..Said' where nothing that the law and all that it calls make is longer than what came in: it says more and counts as full. Else prove '..UptoSaid'. A law counts once. -/
mutual
def uptoBulk {H : Type} : DataW H → Nat
  | .lit (.string bytes) => bytes.length + 1
  | .lit _ => 1
  | .nil => 1
  | .ptr d => uptoBulk d + 1
  | .slice elems spare => uptoBulkAll elems + uptoBulkAll spare + 1
  | .agg parts => uptoBulkAll parts + 1
  | .iface _ d => uptoBulk d + 1
  | .map entries => uptoBulkEntries entries + 1
  | .held _ => 1
def uptoBulkAll {H : Type} : List (DataW H) → Nat
  | [] => 0
  | d :: r => uptoBulk d + uptoBulkAll r
def uptoBulkEntries {H : Type} : List (Lit × DataW H) → Nat
  | [] => 0
  | x :: r => uptoBulkEntry x + uptoBulkEntries r
def uptoBulkEntry {H : Type} : Lit × DataW H → Nat
  | (.string bytes, d) => bytes.length + uptoBulk d + 1
  | (_, d) => uptoBulk d + 1
 end
def uptoSmall : (H : Type) → List (DataW H) → Bool := fun _ ds => decide (uptoBulkAll ds ≤ 1048576)
def OpenSpec.upto (s : _root_.Go.ChangeSpec) : _root_.Go.OpenSpec := { _root_.Go.OpenSpec.ofChange s with cond := some uptoSmall }

/-- 'laws.FnPowerOf', WHERE WHAT IT READS IS OF BULK AT MOST 1048576: true; the input reads as it did. -/
def fnPowerOfUptoRow : OpenClaim := { program := "ytahnkecdningnaa", sum := "736fc3dea178f98f12f49683e6b3caba01d5eb432883f028bba5006ba232133c", func := "loop.example/gaussnumbers/laws.FnPowerOf", spec := "fnPowerOf", unfollowed := true, recurses := true, apart := false, narrowed := true }
def FnPowerOfUptoSaid : Prop := fnPowerOfUptoRow.holds Try.pinned (OpenSpec.upto fnPowerOfSpec)

/-- 'laws.FnUndoneBy', WHERE WHAT IT READS IS OF BULK AT MOST 1048576: true; the input reads as it did. -/
def fnUndoneByUptoRow : OpenClaim := { program := "ytahnkecdningnaa", sum := "736fc3dea178f98f12f49683e6b3caba01d5eb432883f028bba5006ba232133c", func := "loop.example/gaussnumbers/laws.FnUndoneBy", spec := "fnUndoneBy", unfollowed := true, recurses := true, apart := false, narrowed := true }
def FnUndoneByUptoSaid : Prop := fnUndoneByUptoRow.holds Try.pinned (OpenSpec.upto fnUndoneBySpec)

/-- 'laws.FnCountApart', WHERE WHAT IT READS IS OF BULK AT MOST 1048576: true; the input reads as it did. -/
def fnCountApartUptoRow : OpenClaim := { program := "ytahnkecdningnaa", sum := "736fc3dea178f98f12f49683e6b3caba01d5eb432883f028bba5006ba232133c", func := "loop.example/gaussnumbers/laws.FnCountApart", spec := "fnCountApart", unfollowed := true, recurses := true, apart := false, narrowed := true }
def FnCountApartUptoSaid : Prop := fnCountApartUptoRow.holds Try.pinned (OpenSpec.upto fnCountApartSpec)

/-- 'laws.FnOrderOf', WHERE WHAT IT READS IS OF BULK AT MOST 1048576: true; the input reads as it did. -/
def fnOrderOfUptoRow : OpenClaim := { program := "ytahnkecdningnaa", sum := "736fc3dea178f98f12f49683e6b3caba01d5eb432883f028bba5006ba232133c", func := "loop.example/gaussnumbers/laws.FnOrderOf", spec := "fnOrderOf", unfollowed := true, recurses := true, apart := false, narrowed := true }
def FnOrderOfUptoSaid : Prop := fnOrderOfUptoRow.holds Try.pinned (OpenSpec.upto fnOrderOfSpec)

/-- 'laws.FnExactPowerOf', WHERE WHAT IT READS IS OF BULK AT MOST 1048576: true; the input reads as it did. -/
def fnExactPowerOfUptoRow : OpenClaim := { program := "ytahnkecdningnaa", sum := "736fc3dea178f98f12f49683e6b3caba01d5eb432883f028bba5006ba232133c", func := "loop.example/gaussnumbers/laws.FnExactPowerOf", spec := "fnExactPowerOf", apart := false, narrowed := true }
def FnExactPowerOfUptoSaid : Prop := fnExactPowerOfUptoRow.holds Try.pinned (OpenSpec.upto fnExactPowerOfSpec)

/-- 'laws.FnExactUndoneBy', WHERE WHAT IT READS IS OF BULK AT MOST 1048576: true; the input reads as it did. -/
def fnExactUndoneByUptoRow : OpenClaim := { program := "ytahnkecdningnaa", sum := "736fc3dea178f98f12f49683e6b3caba01d5eb432883f028bba5006ba232133c", func := "loop.example/gaussnumbers/laws.FnExactUndoneBy", spec := "fnExactUndoneBy", unfollowed := true, recurses := true, apart := false, narrowed := true }
def FnExactUndoneByUptoSaid : Prop := fnExactUndoneByUptoRow.holds Try.pinned (OpenSpec.upto fnExactUndoneBySpec)

/-- 'laws.FnExactCountApart', WHERE WHAT IT READS IS OF BULK AT MOST 1048576: true; the input reads as it did. -/
def fnExactCountApartUptoRow : OpenClaim := { program := "ytahnkecdningnaa", sum := "736fc3dea178f98f12f49683e6b3caba01d5eb432883f028bba5006ba232133c", func := "loop.example/gaussnumbers/laws.FnExactCountApart", spec := "fnExactCountApart", unfollowed := true, recurses := true, apart := false, narrowed := true }
def FnExactCountApartUptoSaid : Prop := fnExactCountApartUptoRow.holds Try.pinned (OpenSpec.upto fnExactCountApartSpec)

/-- 'laws.FnExactOrderOf', WHERE WHAT IT READS IS OF BULK AT MOST 1048576: true; the input reads as it did. -/
def fnExactOrderOfUptoRow : OpenClaim := { program := "ytahnkecdningnaa", sum := "736fc3dea178f98f12f49683e6b3caba01d5eb432883f028bba5006ba232133c", func := "loop.example/gaussnumbers/laws.FnExactOrderOf", spec := "fnExactOrderOf", unfollowed := true, recurses := true, apart := false, narrowed := true }
def FnExactOrderOfUptoSaid : Prop := fnExactOrderOfUptoRow.holds Try.pinned (OpenSpec.upto fnExactOrderOfSpec)

end Rows
end Go.Proofs.Ytahnkecdningnaa
