import Derived.Test.YtggebkgfldmipaaN
import Derived.Test.YtggebkgfldmipaaD
import Derived.Deep.RegionHeld3
namespace Go.Proofs.Ytggebkgfldmipaa
open Go Go.RowKit
attribute [local go_sem] World.cell?_alloc_some cell?_alloc2_some cell?_alloc3_some cell?_alloc4_some frozen?_alloc_some frozen?_alloc2_some frozen?_alloc3_some World.cell?_setCell_far new_ne0 new_ne1 new_ne2 new_ne3 lt2 lt3 lt4 lt5 lt6 lt7 lt8 lt9

theorem gok_swap (a b : Int) : gok b a = gok a b := by simp [gok, Bool.and_comm]
end Go.Proofs.Ytggebkgfldmipaa

namespace Go.Proofs.Ytggebkgfldmipaa
open Go Go.RowKit
attribute [local go_sem] World.cell?_alloc_some cell?_alloc2_some cell?_alloc3_some cell?_alloc4_some frozen?_alloc_some frozen?_alloc2_some frozen?_alloc3_some World.cell?_setCell_far new_ne0 new_ne1 new_ne2 new_ne3 lt2 lt3 lt4 lt5 lt6 lt7 lt8 lt9

theorem gok_neg {a b : Int} (h : gok a b = true) : gok (-a) (-b) = true := by
  have := gok_bd h; simp [gok, pok]; omega
theorem mn_t {a b : Int} (h : gok a b = true) : mnA a b = -a ∧ mnB a b = -b := by simp [mnA, mnB, h]
theorem mn_f {a b : Int} (h : gok a b = false) : mnA a b = 0 ∧ mnB a b = 0 := by simp [mnA, mnB, h]

theorem iNormOf_v {a b n : Int} (w : World) (h : nrm a b = n) : Calls Try.prog 39 #[.agg #[.int .i64 a, .int .i64 b]] w fun e w' => e = .returned (.int .i64 n) ∧ Below w.heap.size w w' := by
  subst h; exact iNormOf a b w
theorem iTimesOf_v {a b c d x y : Int} {o : Bool} (w : World) (h : tiO a b c d = o ∧ tiA a b c d = x ∧ tiB a b c d = y) : Calls Try.prog 20 #[.agg #[.int .i64 a, .int .i64 b], .agg #[.int .i64 c, .int .i64 d]] w fun e w' => e = .returned (.tuple #[.agg #[.int .i64 x, .int .i64 y], .bool o]) ∧ Below w.heap.size w w' := by
  obtain ⟨rfl, rfl, rfl⟩ := h; exact iTimesOf a b c d w
theorem ti_neg {x y : Int} (k1 : gok x y = true) : tiO x y (-1) 0 = true ∧ tiA x y (-1) 0 = -x ∧ tiB x y (-1) 0 = -y := by
  obtain ⟨t1, t2, t3⟩ := tiO_t (a := x) (b := y) (c := -1) (d := 0) k1 (by decide) (by simpa using gok_neg k1)
  exact ⟨t1, by omega, by omega⟩
theorem mn_back {x y : Int} (k1 : gok x y = true) : mnA (-x) (-y) = x ∧ mnB (-x) (-y) = y := by
  obtain ⟨m3, m4⟩ := mn_t (gok_neg k1)
  omega

end Go.Proofs.Ytggebkgfldmipaa
