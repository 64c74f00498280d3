import Derived.Test.YtefihkhhahhboaaHy
import Derived.Test.YtefihkhhahhboaaHs
namespace Go.Proofs.Ytefihkhhahhboaa
open Go Go.RowKit
attribute [local go_sem] World.cell?_alloc_some cell?_alloc2_some cell?_alloc3_some cell?_alloc4_some frozen?_alloc_some frozen?_alloc2_some frozen?_alloc3_some World.cell?_setCell_far new_ne0 new_ne1 new_ne2 new_ne3 lt2 lt3 lt4 lt5 lt6 lt7 lt8 lt9
attribute [local go_sem ↓] eqG neG

def unO (a b : Int) : Bool := decide (nrm a b = 1)
theorem neqz {k c d a b : Int} (h : eqz k c d a b = false) : (tuA k c d == a && tuB k c d == b) = false := by
  simp only [eqz, decide_eq_false_iff_not] at h
  rw [Bool.and_eq_false_iff]
  rcases Decidable.em (tuA k c d = a) with e | e
  · exact .inr (beq_eq_false_iff_ne.2 fun e2 => h ⟨e, e2⟩)
  · exact .inl (beq_eq_false_iff_ne.2 e)
def asO (a b c d : Int) : Bool := gok a b && gok c d && asA a b c d
end Go.Proofs.Ytefihkhhahhboaa
