import Derived.Test.YtggebkgfldmipaaL
namespace Go.Proofs.Ytggebkgfldmipaa
open Go Go.RowKit
attribute [local go_sem] World.cell?_alloc_some cell?_alloc2_some cell?_alloc3_some cell?_alloc4_some frozen?_alloc_some frozen?_alloc2_some frozen?_alloc3_some World.cell?_setCell_far new_ne0 new_ne1 new_ne2 new_ne3 lt2 lt3 lt4 lt5 lt6 lt7 lt8 lt9
theorem toGauss_is (a b : Int) (w : World) : Calls Try.prog 31 #[.agg #[.int .i64 a, .int .i64 b]] w fun e w' => e = .returned (.agg #[.int .i64 a, .int .i64 b]) ∧ ((w.alloc (.cells #[.int .i64 a, .int .i64 b] 45)).alloc (.cells #[.int .i64 a, .int .i64 b] 24)).alloc (.cells #[.int .i64 a, .int .i64 b] 24) = w' := by
  go_enter Try.func31, Try.ntmps31
  go_wp2_with fail
  go_returns
  exact ⟨rfl, rfl⟩
/-- What 'x, y, ok := f(..)' leaves. -/
def CutX2 (W : World) (x y z t : Int) (o : Bool) (v u s : Value) (wx : World) : Prop := ∃ X Y, v = .pointer (some ⟨X, 0, none⟩) ∧ u = .pointer (some ⟨Y, 0, none⟩) ∧ s = .bool o ∧ wx.cell? ⟨X, 0, none⟩ = some (.int .i64 x) ∧ wx.cell? ⟨X, 1, none⟩ = some (.int .i64 y) ∧ wx.cell? ⟨Y, 0, none⟩ = some (.int .i64 z) ∧ wx.cell? ⟨Y, 1, none⟩ = some (.int .i64 t) ∧ Below W.heap.size W wx
/-- What 'x, ok := f(..)' leaves. -/
def CutXB (W : World) (x y : Int) (o : Bool) (v s : Value) (wx : World) : Prop := ∃ X, v = .pointer (some ⟨X, 0, none⟩) ∧ s = .bool o ∧ wx.cell? ⟨X, 0, none⟩ = some (.int .i64 x) ∧ wx.cell? ⟨X, 1, none⟩ = some (.int .i64 y) ∧ Below W.heap.size W wx
end Go.Proofs.Ytggebkgfldmipaa
