import Derived.Test.YtidmmbagacelmaaProg
import Derived.Test.YtidmmbagacelmaaYa
import Derived.Test.YtidmmbagacelmaaYb
import Derived.Test.YtidmmbagacelmaaOb
import Derived.Test.YtidmmbagacelmaaJp
import Derived.RangeFuncNested
import Derived.Shelf.RegionOpen
import Derived.OwnWalkIn
import Derived.TacticsInMore
namespace Go.Proofs.Ytidmmbagacelmaa
open Go Go.RowKit Go.Shelf
attribute [local go_sem] World.cell?_alloc_some cell?_alloc2_some cell?_alloc3_some cell?_alloc4_some frozen?_alloc_some frozen?_alloc2_some frozen?_alloc3_some World.cell?_setCell_far new_ne0 new_ne1 new_ne2 new_ne3 lt2 lt3 lt4 lt5 lt6 lt7 lt8 lt9
attribute [local go_sem] Oper.semAt_some

/-- What holds between two rounds along a circle. -/
def Ci (W : World) (J : Nat → (Nat → Prop) → World → Prop) (xs : List (Array Value)) (n : Int) (Bn : Nat) (v u : Value) (wr : World) : Prop :=
  ∃ (i k a b : Nat) (S : Nat → Prop), v = .int .i64 (b : Int) ∧ u = .int .i64 (a : Int) ∧ 1 ≤ a ∧ a + k = 45 ∧ b ≤ 45 ∧ n < (a : Int) * a + ((b : Int) + 1) * (b + 1) ∧ i ≤ xs.length ∧ xs.drop i = (cirFrom n k a).map gRow ∧ J i S wr ∧ wr.cell? ⟨Bn, 0, none⟩ = some (.int .i64 n) ∧ (∀ b, S b → W.heap.size ≤ b ∧ b < wr.heap.size) ∧ W.heap.size ≤ wr.heap.size

end Go.Proofs.Ytidmmbagacelmaa
