/-
  No cell of these rows narrows 'for every input' (looked for: loops, veiled, ifaces, maps, wideKeys, modest, calm, conditions, laid).
  DERIVED. THE GIVEN ROWS OF THIS SEAT. 12 by the template 'for every input the law returns true; each argument reads behind the call as it read before'; 0 by the template 'total and deterministic' (their statements: YtidmmbagacelmaaTotals.lean).
  GIVEN WITH THE SEED: the statements are not yours to turn. If you find one false, say at which input.
  Laid BY PROGRAM, IN A SANDBOX (cutbox-rows.mjs): the forced cells as the released guide's own fill.sh prints them over the translation a321151497515cc5… (all of the seat's roots in one cut). By AI agents, Wed Nov 11 2026. No macro, syntax, notation, axiom, sorry.
-/
import Derived.Test.YtidmmbagacelmaaChecked
import GoSem.Claim
import GoSem.ClaimJoined
import GoSem.ClaimMapViews
import Derived.JoinedTies
import Derived.KernelRfl
namespace Go.Proofs.Ytidmmbagacelmaa
/- THE CELL 'sum', in the pinned program and in every row, IS THE sha256 OF THE DUMP (.gsa) THAT YtidmmbagacelmaaProg.lean LOADS. Nothing in Lean hashes anything: it is a label: what it is worth is what the hold of that sum in a sandbox is worth. -/
noncomputable def Try.pinned : Pinned := { name := "ytidmmbagacelmaa", sum := "a321151497515cc54f10579012c1751bcdd44f4bccbb3905c6a725690036884d", checked := Try.checked }
namespace Rows
def none {H : Type} : Left H := { results := [], args := [] }

/-- 'laws.FnRestOf': WHATEVER THE INPUT: true; the input reads as it did. -/
def fnRestOfSpec : ChangeSpec := { name := "fnRestOf", fn := fun _ => fun
  | [d] => { results := [.lit (.bool true)], args := [d] }
  | _ => none }
def fnRestOfRow : OpenClaim := { program := "ytidmmbagacelmaa", sum := "a321151497515cc54f10579012c1751bcdd44f4bccbb3905c6a725690036884d", func := "loop.example/gaussnumbers/laws.FnRestOf", spec := "fnRestOf", apart := false }
def FnRestOfSaid : Prop := fnRestOfRow.holds Try.pinned (OpenSpec.ofChange fnRestOfSpec)

/-- ITS FALSE NEIGHBOUR: 'it returns false'. Refute it at one input. -/
def fnRestOfWrong : ChangeSpec := { name := "fnRestOf", fn := fun _ => fun
  | [d] => { results := [.lit (.bool false)], args := [d] }
  | _ => none }
def FnRestOfWrongFalsely : Prop := fnRestOfRow.holds Try.pinned (OpenSpec.ofChange fnRestOfWrong)

/-- 'laws.FnSameOk': WHATEVER THE INPUT: true; the input reads as it did. -/
def fnSameOkSpec : ChangeSpec := { name := "fnSameOk", fn := fun _ => fun
  | [d] => { results := [.lit (.bool true)], args := [d] }
  | _ => none }
def fnSameOkRow : OpenClaim := { program := "ytidmmbagacelmaa", sum := "a321151497515cc54f10579012c1751bcdd44f4bccbb3905c6a725690036884d", func := "loop.example/gaussnumbers/laws.FnSameOk", spec := "fnSameOk", unfollowed := true, recurses := true, apart := false }
def FnSameOkSaid : Prop := fnSameOkRow.holds Try.pinned (OpenSpec.ofChange fnSameOkSpec)

/-- ITS FALSE NEIGHBOUR: 'it returns false'. Refute it at one input. -/
def fnSameOkWrong : ChangeSpec := { name := "fnSameOk", fn := fun _ => fun
  | [d] => { results := [.lit (.bool false)], args := [d] }
  | _ => none }
def FnSameOkWrongFalsely : Prop := fnSameOkRow.holds Try.pinned (OpenSpec.ofChange fnSameOkWrong)

/-- 'laws.FnModulusOk': WHATEVER THE INPUT: true; the input reads as it did. -/
def fnModulusOkSpec : ChangeSpec := { name := "fnModulusOk", fn := fun _ => fun
  | [d] => { results := [.lit (.bool true)], args := [d] }
  | _ => none }
def fnModulusOkRow : OpenClaim := { program := "ytidmmbagacelmaa", sum := "a321151497515cc54f10579012c1751bcdd44f4bccbb3905c6a725690036884d", func := "loop.example/gaussnumbers/laws.FnModulusOk", spec := "fnModulusOk", unfollowed := true, recurses := true, apart := false }
def FnModulusOkSaid : Prop := fnModulusOkRow.holds Try.pinned (OpenSpec.ofChange fnModulusOkSpec)

/-- ITS FALSE NEIGHBOUR: 'it returns false'. Refute it at one input. -/
def fnModulusOkWrong : ChangeSpec := { name := "fnModulusOk", fn := fun _ => fun
  | [d] => { results := [.lit (.bool false)], args := [d] }
  | _ => none }
def FnModulusOkWrongFalsely : Prop := fnModulusOkRow.holds Try.pinned (OpenSpec.ofChange fnModulusOkWrong)

/-- 'laws.FnRestsOf': WHATEVER THE INPUT: true; the input reads as it did. -/
def fnRestsOfSpec : ChangeSpec := { name := "fnRestsOf", fn := fun _ => fun
  | [d] => { results := [.lit (.bool true)], args := [d] }
  | _ => none }
def fnRestsOfRow : OpenClaim := { program := "ytidmmbagacelmaa", sum := "a321151497515cc54f10579012c1751bcdd44f4bccbb3905c6a725690036884d", func := "loop.example/gaussnumbers/laws.FnRestsOf", spec := "fnRestsOf", unfollowed := true, recurses := true, apart := false }
def FnRestsOfSaid : Prop := fnRestsOfRow.holds Try.pinned (OpenSpec.ofChange fnRestsOfSpec)

/-- ITS FALSE NEIGHBOUR: 'it returns false'. Refute it at one input. -/
def fnRestsOfWrong : ChangeSpec := { name := "fnRestsOf", fn := fun _ => fun
  | [d] => { results := [.lit (.bool false)], args := [d] }
  | _ => none }
def FnRestsOfWrongFalsely : Prop := fnRestsOfRow.holds Try.pinned (OpenSpec.ofChange fnRestsOfWrong)

/-- 'laws.FnAddedBy': WHATEVER THE INPUT: true; the input reads as it did. -/
def fnAddedBySpec : ChangeSpec := { name := "fnAddedBy", fn := fun _ => fun
  | [d] => { results := [.lit (.bool true)], args := [d] }
  | _ => none }
def fnAddedByRow : OpenClaim := { program := "ytidmmbagacelmaa", sum := "a321151497515cc54f10579012c1751bcdd44f4bccbb3905c6a725690036884d", func := "loop.example/gaussnumbers/laws.FnAddedBy", spec := "fnAddedBy", unfollowed := true, recurses := true, apart := false }
def FnAddedBySaid : Prop := fnAddedByRow.holds Try.pinned (OpenSpec.ofChange fnAddedBySpec)

/-- ITS FALSE NEIGHBOUR: 'it returns false'. Refute it at one input. -/
def fnAddedByWrong : ChangeSpec := { name := "fnAddedBy", fn := fun _ => fun
  | [d] => { results := [.lit (.bool false)], args := [d] }
  | _ => none }
def FnAddedByWrongFalsely : Prop := fnAddedByRow.holds Try.pinned (OpenSpec.ofChange fnAddedByWrong)

/-- 'laws.FnMultipliedBy': WHATEVER THE INPUT: true; the input reads as it did. -/
def fnMultipliedBySpec : ChangeSpec := { name := "fnMultipliedBy", fn := fun _ => fun
  | [d] => { results := [.lit (.bool true)], args := [d] }
  | _ => none }
def fnMultipliedByRow : OpenClaim := { program := "ytidmmbagacelmaa", sum := "a321151497515cc54f10579012c1751bcdd44f4bccbb3905c6a725690036884d", func := "loop.example/gaussnumbers/laws.FnMultipliedBy", spec := "fnMultipliedBy", unfollowed := true, recurses := true, apart := false }
def FnMultipliedBySaid : Prop := fnMultipliedByRow.holds Try.pinned (OpenSpec.ofChange fnMultipliedBySpec)

/-- ITS FALSE NEIGHBOUR: 'it returns false'. Refute it at one input. -/
def fnMultipliedByWrong : ChangeSpec := { name := "fnMultipliedBy", fn := fun _ => fun
  | [d] => { results := [.lit (.bool false)], args := [d] }
  | _ => none }
def FnMultipliedByWrongFalsely : Prop := fnMultipliedByRow.holds Try.pinned (OpenSpec.ofChange fnMultipliedByWrong)

/-- 'laws.FnExactRestOf': WHATEVER THE INPUT: true; the input reads as it did. -/
def fnExactRestOfSpec : ChangeSpec := { name := "fnExactRestOf", fn := fun _ => fun
  | [d1, d2] => { results := [.lit (.bool true)], args := [d1, d2] }
  | _ => none }
def fnExactRestOfRow : OpenClaim := { program := "ytidmmbagacelmaa", sum := "a321151497515cc54f10579012c1751bcdd44f4bccbb3905c6a725690036884d", func := "loop.example/gaussnumbers/laws.FnExactRestOf", spec := "fnExactRestOf", apart := false }
def FnExactRestOfSaid : Prop := fnExactRestOfRow.holds Try.pinned (OpenSpec.ofChange fnExactRestOfSpec)

/-- ITS FALSE NEIGHBOUR: 'it returns false'. Refute it at one input. -/
def fnExactRestOfWrong : ChangeSpec := { name := "fnExactRestOf", fn := fun _ => fun
  | [d1, d2] => { results := [.lit (.bool false)], args := [d1, d2] }
  | _ => none }
def FnExactRestOfWrongFalsely : Prop := fnExactRestOfRow.holds Try.pinned (OpenSpec.ofChange fnExactRestOfWrong)

/-- 'laws.FnExactSameOk': WHATEVER THE INPUT: true; the input reads as it did. -/
def fnExactSameOkSpec : ChangeSpec := { name := "fnExactSameOk", fn := fun _ => fun
  | [d1, d2, d3] => { results := [.lit (.bool true)], args := [d1, d2, d3] }
  | _ => none }
def fnExactSameOkRow : OpenClaim := { program := "ytidmmbagacelmaa", sum := "a321151497515cc54f10579012c1751bcdd44f4bccbb3905c6a725690036884d", func := "loop.example/gaussnumbers/laws.FnExactSameOk", spec := "fnExactSameOk", apart := false }
def FnExactSameOkSaid : Prop := fnExactSameOkRow.holds Try.pinned (OpenSpec.ofChange fnExactSameOkSpec)

/-- ITS FALSE NEIGHBOUR: 'it returns false'. Refute it at one input. -/
def fnExactSameOkWrong : ChangeSpec := { name := "fnExactSameOk", fn := fun _ => fun
  | [d1, d2, d3] => { results := [.lit (.bool false)], args := [d1, d2, d3] }
  | _ => none }
def FnExactSameOkWrongFalsely : Prop := fnExactSameOkRow.holds Try.pinned (OpenSpec.ofChange fnExactSameOkWrong)

/-- 'laws.FnExactModulusOk': WHATEVER THE INPUT: true; the input reads as it did. -/
def fnExactModulusOkSpec : ChangeSpec := { name := "fnExactModulusOk", fn := fun _ => fun
  | [d] => { results := [.lit (.bool true)], args := [d] }
  | _ => none }
def fnExactModulusOkRow : OpenClaim := { program := "ytidmmbagacelmaa", sum := "a321151497515cc54f10579012c1751bcdd44f4bccbb3905c6a725690036884d", func := "loop.example/gaussnumbers/laws.FnExactModulusOk", spec := "fnExactModulusOk", apart := false }
def FnExactModulusOkSaid : Prop := fnExactModulusOkRow.holds Try.pinned (OpenSpec.ofChange fnExactModulusOkSpec)

/-- ITS FALSE NEIGHBOUR: 'it returns false'. Refute it at one input. -/
def fnExactModulusOkWrong : ChangeSpec := { name := "fnExactModulusOk", fn := fun _ => fun
  | [d] => { results := [.lit (.bool false)], args := [d] }
  | _ => none }
def FnExactModulusOkWrongFalsely : Prop := fnExactModulusOkRow.holds Try.pinned (OpenSpec.ofChange fnExactModulusOkWrong)

/-- 'laws.FnExactRestsOf': WHATEVER THE INPUT: true; the input reads as it did. -/
def fnExactRestsOfSpec : ChangeSpec := { name := "fnExactRestsOf", fn := fun _ => fun
  | [d] => { results := [.lit (.bool true)], args := [d] }
  | _ => none }
def fnExactRestsOfRow : OpenClaim := { program := "ytidmmbagacelmaa", sum := "a321151497515cc54f10579012c1751bcdd44f4bccbb3905c6a725690036884d", func := "loop.example/gaussnumbers/laws.FnExactRestsOf", spec := "fnExactRestsOf", unfollowed := true, recurses := true, apart := false }
def FnExactRestsOfSaid : Prop := fnExactRestsOfRow.holds Try.pinned (OpenSpec.ofChange fnExactRestsOfSpec)

/-- ITS FALSE NEIGHBOUR: 'it returns false'. Refute it at one input. -/
def fnExactRestsOfWrong : ChangeSpec := { name := "fnExactRestsOf", fn := fun _ => fun
  | [d] => { results := [.lit (.bool false)], args := [d] }
  | _ => none }
def FnExactRestsOfWrongFalsely : Prop := fnExactRestsOfRow.holds Try.pinned (OpenSpec.ofChange fnExactRestsOfWrong)

/-- 'laws.FnExactAddedBy': WHATEVER THE INPUT: true; the input reads as it did. -/
def fnExactAddedBySpec : ChangeSpec := { name := "fnExactAddedBy", fn := fun _ => fun
  | [d1, d2, d3] => { results := [.lit (.bool true)], args := [d1, d2, d3] }
  | _ => none }
def fnExactAddedByRow : OpenClaim := { program := "ytidmmbagacelmaa", sum := "a321151497515cc54f10579012c1751bcdd44f4bccbb3905c6a725690036884d", func := "loop.example/gaussnumbers/laws.FnExactAddedBy", spec := "fnExactAddedBy", unfollowed := true, recurses := true, apart := false }
def FnExactAddedBySaid : Prop := fnExactAddedByRow.holds Try.pinned (OpenSpec.ofChange fnExactAddedBySpec)

/-- ITS FALSE NEIGHBOUR: 'it returns false'. Refute it at one input. -/
def fnExactAddedByWrong : ChangeSpec := { name := "fnExactAddedBy", fn := fun _ => fun
  | [d1, d2, d3] => { results := [.lit (.bool false)], args := [d1, d2, d3] }
  | _ => none }
def FnExactAddedByWrongFalsely : Prop := fnExactAddedByRow.holds Try.pinned (OpenSpec.ofChange fnExactAddedByWrong)

/-- 'laws.FnExactMultipliedBy': WHATEVER THE INPUT: true; the input reads as it did. -/
def fnExactMultipliedBySpec : ChangeSpec := { name := "fnExactMultipliedBy", fn := fun _ => fun
  | [d1, d2, d3] => { results := [.lit (.bool true)], args := [d1, d2, d3] }
  | _ => none }
def fnExactMultipliedByRow : OpenClaim := { program := "ytidmmbagacelmaa", sum := "a321151497515cc54f10579012c1751bcdd44f4bccbb3905c6a725690036884d", func := "loop.example/gaussnumbers/laws.FnExactMultipliedBy", spec := "fnExactMultipliedBy", unfollowed := true, recurses := true, apart := false }
def FnExactMultipliedBySaid : Prop := fnExactMultipliedByRow.holds Try.pinned (OpenSpec.ofChange fnExactMultipliedBySpec)

/-- ITS FALSE NEIGHBOUR: 'it returns false'. Refute it at one input. -/
def fnExactMultipliedByWrong : ChangeSpec := { name := "fnExactMultipliedBy", fn := fun _ => fun
  | [d1, d2, d3] => { results := [.lit (.bool false)], args := [d1, d2, d3] }
  | _ => none }
def FnExactMultipliedByWrongFalsely : Prop := fnExactMultipliedByRow.holds Try.pinned (OpenSpec.ofChange fnExactMultipliedByWrong)

/- THE SECOND FORM. 'bulk': how many values and letters a reading holds, each counted each time it is reached (what is shared counts as often as it is met; a slice's spare places count too). A statement '..UptoSaid' is the law's where the arguments, and the package variables that the reading takes, are together of bulk at most 1048576: NARROWER than '..Said'. Prove '..Said' where nothing that the law and all that it calls make is longer than what came in: it says more and counts as full. Else prove '..UptoSaid'. A law counts once. -/
mutual
def uptoBulk {H : Type} : DataW H → Nat
  | .lit (.string bytes) => bytes.length + 1
  | .lit _ => 1
  | .nil => 1
  | .ptr d => uptoBulk d + 1
  | .slice elems spare => uptoBulkAll elems + uptoBulkAll spare + 1
  | .agg parts => uptoBulkAll parts + 1
  | .iface _ d => uptoBulk d + 1
  | .map entries => uptoBulkEntries entries + 1
  | .held _ => 1
def uptoBulkAll {H : Type} : List (DataW H) → Nat
  | [] => 0
  | d :: r => uptoBulk d + uptoBulkAll r
def uptoBulkEntries {H : Type} : List (Lit × DataW H) → Nat
  | [] => 0
  | x :: r => uptoBulkEntry x + uptoBulkEntries r
def uptoBulkEntry {H : Type} : Lit × DataW H → Nat
  | (.string bytes, d) => bytes.length + uptoBulk d + 1
  | (_, d) => uptoBulk d + 1
 end
def uptoSmall : (H : Type) → List (DataW H) → Bool := fun _ ds => decide (uptoBulkAll ds ≤ 1048576)
def OpenSpec.upto (s : _root_.Go.ChangeSpec) : _root_.Go.OpenSpec := { _root_.Go.OpenSpec.ofChange s with cond := some uptoSmall }

/-- 'laws.FnRestOf', WHERE WHAT IT READS IS OF BULK AT MOST 1048576: true; the input reads as it did. -/
def fnRestOfUptoRow : OpenClaim := { program := "ytidmmbagacelmaa", sum := "a321151497515cc54f10579012c1751bcdd44f4bccbb3905c6a725690036884d", func := "loop.example/gaussnumbers/laws.FnRestOf", spec := "fnRestOf", apart := false, narrowed := true }
def FnRestOfUptoSaid : Prop := fnRestOfUptoRow.holds Try.pinned (OpenSpec.upto fnRestOfSpec)

/-- 'laws.FnSameOk', WHERE WHAT IT READS IS OF BULK AT MOST 1048576: true; the input reads as it did. -/
def fnSameOkUptoRow : OpenClaim := { program := "ytidmmbagacelmaa", sum := "a321151497515cc54f10579012c1751bcdd44f4bccbb3905c6a725690036884d", func := "loop.example/gaussnumbers/laws.FnSameOk", spec := "fnSameOk", unfollowed := true, recurses := true, apart := false, narrowed := true }
def FnSameOkUptoSaid : Prop := fnSameOkUptoRow.holds Try.pinned (OpenSpec.upto fnSameOkSpec)

/-- 'laws.FnModulusOk', WHERE WHAT IT READS IS OF BULK AT MOST 1048576: true; the input reads as it did. -/
def fnModulusOkUptoRow : OpenClaim := { program := "ytidmmbagacelmaa", sum := "a321151497515cc54f10579012c1751bcdd44f4bccbb3905c6a725690036884d", func := "loop.example/gaussnumbers/laws.FnModulusOk", spec := "fnModulusOk", unfollowed := true, recurses := true, apart := false, narrowed := true }
def FnModulusOkUptoSaid : Prop := fnModulusOkUptoRow.holds Try.pinned (OpenSpec.upto fnModulusOkSpec)

/-- 'laws.FnRestsOf', WHERE WHAT IT READS IS OF BULK AT MOST 1048576: true; the input reads as it did. -/
def fnRestsOfUptoRow : OpenClaim := { program := "ytidmmbagacelmaa", sum := "a321151497515cc54f10579012c1751bcdd44f4bccbb3905c6a725690036884d", func := "loop.example/gaussnumbers/laws.FnRestsOf", spec := "fnRestsOf", unfollowed := true, recurses := true, apart := false, narrowed := true }
def FnRestsOfUptoSaid : Prop := fnRestsOfUptoRow.holds Try.pinned (OpenSpec.upto fnRestsOfSpec)

/-- 'laws.FnAddedBy', WHERE WHAT IT READS IS OF BULK AT MOST 1048576: true; the input reads as it did. -/
def fnAddedByUptoRow : OpenClaim := { program := "ytidmmbagacelmaa", sum := "a321151497515cc54f10579012c1751bcdd44f4bccbb3905c6a725690036884d", func := "loop.example/gaussnumbers/laws.FnAddedBy", spec := "fnAddedBy", unfollowed := true, recurses := true, apart := false, narrowed := true }
def FnAddedByUptoSaid : Prop := fnAddedByUptoRow.holds Try.pinned (OpenSpec.upto fnAddedBySpec)

/-- 'laws.FnMultipliedBy', WHERE WHAT IT READS IS OF BULK AT MOST 1048576: true; the input reads as it did. -/
def fnMultipliedByUptoRow : OpenClaim := { program := "ytidmmbagacelmaa", sum := "a321151497515cc54f10579012c1751bcdd44f4bccbb3905c6a725690036884d", func := "loop.example/gaussnumbers/laws.FnMultipliedBy", spec := "fnMultipliedBy", unfollowed := true, recurses := true, apart := false, narrowed := true }
def FnMultipliedByUptoSaid : Prop := fnMultipliedByUptoRow.holds Try.pinned (OpenSpec.upto fnMultipliedBySpec)

/-- 'laws.FnExactRestOf', WHERE WHAT IT READS IS OF BULK AT MOST 1048576: true; the input reads as it did. -/
def fnExactRestOfUptoRow : OpenClaim := { program := "ytidmmbagacelmaa", sum := "a321151497515cc54f10579012c1751bcdd44f4bccbb3905c6a725690036884d", func := "loop.example/gaussnumbers/laws.FnExactRestOf", spec := "fnExactRestOf", apart := false, narrowed := true }
def FnExactRestOfUptoSaid : Prop := fnExactRestOfUptoRow.holds Try.pinned (OpenSpec.upto fnExactRestOfSpec)

/-- 'laws.FnExactSameOk', WHERE WHAT IT READS IS OF BULK AT MOST 1048576: true; the input reads as it did. -/
def fnExactSameOkUptoRow : OpenClaim := { program := "ytidmmbagacelmaa", sum := "a321151497515cc54f10579012c1751bcdd44f4bccbb3905c6a725690036884d", func := "loop.example/gaussnumbers/laws.FnExactSameOk", spec := "fnExactSameOk", apart := false, narrowed := true }
def FnExactSameOkUptoSaid : Prop := fnExactSameOkUptoRow.holds Try.pinned (OpenSpec.upto fnExactSameOkSpec)

/-- 'laws.FnExactModulusOk', WHERE WHAT IT READS IS OF BULK AT MOST 1048576: true; the input reads as it did. -/
def fnExactModulusOkUptoRow : OpenClaim := { program := "ytidmmbagacelmaa", sum := "a321151497515cc54f10579012c1751bcdd44f4bccbb3905c6a725690036884d", func := "loop.example/gaussnumbers/laws.FnExactModulusOk", spec := "fnExactModulusOk", apart := false, narrowed := true }
def FnExactModulusOkUptoSaid : Prop := fnExactModulusOkUptoRow.holds Try.pinned (OpenSpec.upto fnExactModulusOkSpec)

/-- 'laws.FnExactRestsOf', WHERE WHAT IT READS IS OF BULK AT MOST 1048576: true; the input reads as it did. -/
def fnExactRestsOfUptoRow : OpenClaim := { program := "ytidmmbagacelmaa", sum := "a321151497515cc54f10579012c1751bcdd44f4bccbb3905c6a725690036884d", func := "loop.example/gaussnumbers/laws.FnExactRestsOf", spec := "fnExactRestsOf", unfollowed := true, recurses := true, apart := false, narrowed := true }
def FnExactRestsOfUptoSaid : Prop := fnExactRestsOfUptoRow.holds Try.pinned (OpenSpec.upto fnExactRestsOfSpec)

/-- 'laws.FnExactAddedBy', WHERE WHAT IT READS IS OF BULK AT MOST 1048576: true; the input reads as it did. -/
def fnExactAddedByUptoRow : OpenClaim := { program := "ytidmmbagacelmaa", sum := "a321151497515cc54f10579012c1751bcdd44f4bccbb3905c6a725690036884d", func := "loop.example/gaussnumbers/laws.FnExactAddedBy", spec := "fnExactAddedBy", unfollowed := true, recurses := true, apart := false, narrowed := true }
def FnExactAddedByUptoSaid : Prop := fnExactAddedByUptoRow.holds Try.pinned (OpenSpec.upto fnExactAddedBySpec)

/-- 'laws.FnExactMultipliedBy', WHERE WHAT IT READS IS OF BULK AT MOST 1048576: true; the input reads as it did. -/
def fnExactMultipliedByUptoRow : OpenClaim := { program := "ytidmmbagacelmaa", sum := "a321151497515cc54f10579012c1751bcdd44f4bccbb3905c6a725690036884d", func := "loop.example/gaussnumbers/laws.FnExactMultipliedBy", spec := "fnExactMultipliedBy", unfollowed := true, recurses := true, apart := false, narrowed := true }
def FnExactMultipliedByUptoSaid : Prop := fnExactMultipliedByUptoRow.holds Try.pinned (OpenSpec.upto fnExactMultipliedBySpec)

end Rows
end Go.Proofs.Ytidmmbagacelmaa
