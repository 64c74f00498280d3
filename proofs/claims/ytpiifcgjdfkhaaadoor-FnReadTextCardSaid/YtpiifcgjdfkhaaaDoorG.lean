import Derived.Test.YtpiifcgjdfkhaaaDoorF
namespace Go.Proofs.YtpiifcgjdfkhaaaDoor
open Go Go.RowKit
attribute [local go_sem] World.cell?_alloc_some cell?_alloc2_some cell?_alloc3_some cell?_alloc4_some frozen?_alloc_some frozen?_alloc2_some frozen?_alloc3_some World.cell?_setCell_far new_ne0 new_ne1 new_ne2 new_ne3 lt2 lt3 lt4 lt5 lt6 lt7 lt8 lt9

/-- One number was drawn; two numbers were drawn. -/
def Drawn1 (w : World) (e : Ending) (w' : World) : Prop := ∃ a b : Int, e = .returned (.agg #[.int .i64 a, .int .i64 b]) ∧ Gd a b ∧ Below w.heap.size w w'
def Drawn2 (w : World) (e : Ending) (w' : World) : Prop := ∃ a b c d : Int, e = .returned (.tuple #[.agg #[.int .i64 a, .int .i64 b], .agg #[.int .i64 c, .int .i64 d]]) ∧ Gd a b ∧ Gd c d ∧ Below w.heap.size w w'
def Gdrawn2 (R p : Nat) (w : World) (e : Ending) (w' : World) : Prop := ∃ a b c d : Int, e = .returned (.tuple #[.agg #[.int .i64 a, .int .i64 b], .agg #[.int .i64 c, .int .i64 d]]) ∧ Gd a b ∧ Gd c d ∧ Off R w w' ∧ ∃ p', p ≤ p' ∧ p' ≤ p + 14 ∧ Rd w' R p'

end Go.Proofs.YtpiifcgjdfkhaaaDoor
