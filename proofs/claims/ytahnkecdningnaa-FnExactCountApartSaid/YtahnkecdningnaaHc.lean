import Derived.Test.YtahnkecdningnaaHa
import Derived.Test.YtahnkecdningnaaHs
namespace Go.Proofs.Ytahnkecdningnaa
open Go Go.RowKit
attribute [local go_sem] World.cell?_alloc_some cell?_alloc2_some cell?_alloc3_some cell?_alloc4_some frozen?_alloc_some frozen?_alloc2_some frozen?_alloc3_some World.cell?_setCell_far new_ne0 new_ne1 new_ne2 new_ne3 lt2 lt3 lt4 lt5 lt6 lt7 lt8 lt9

end Go.Proofs.Ytahnkecdningnaa

namespace Go.Proofs.Ytahnkecdningnaa
open Go Go.RowKit
attribute [local go_sem] World.cell?_alloc_some cell?_alloc2_some cell?_alloc3_some cell?_alloc4_some frozen?_alloc_some frozen?_alloc2_some frozen?_alloc3_some World.cell?_setCell_far new_ne0 new_ne1 new_ne2 new_ne3 lt2 lt3 lt4 lt5 lt6 lt7 lt8 lt9
attribute [local go_sem ↓] eqG neG

def unO (a b : Int) : Bool := decide (nrm a b = 1)
theorem iUnitOk (a b : Int) (w : World) : Calls Try.prog 93 #[.agg #[.int .i64 a, .int .i64 b]] w fun e w' => e = .returned (.bool (unO a b)) ∧ Below w.heap.size w w' := by
  by_cases h : nrm a b = 1
  · rw [show unO a b = true by simp [unO, h]]
    go_enter Try.func93, Try.ntmps93
    go_wp2_with fail
    (refine (iNormOf_v _ h).mono ?_; rintro e w1 ⟨rfl, hb1⟩; have hz1 := hb1.size; (repeat (first | rw [World.size_alloc] at hz1 | rw [World.size_setCell] at hz1 | rw [World.size_drew] at hz1)))
    go_wp2_with fail
    go_returns
    exact ⟨rfl, by (repeat' (first | (with_reducible exact Below.refl _ _) | (with_reducible refine Below.alloc ?_ ?_ _) | (with_reducible refine Below.drew ?_) | (with_reducible refine Below.setCell ?_ ?_ _) | (with_reducible refine Below.trans ?_ (Below.mono (by assumption) ?_)) | go_size))⟩
  · rw [show unO a b = false by simp [unO, h]]
    have hq : (nrm a b == 1) = false := by simpa using h
    go_enter Try.func93, Try.ntmps93
    go_wp2_with fail
    (refine (iNormOf _ _ _).mono ?_; rintro e w1 ⟨rfl, hb1⟩; have hz1 := hb1.size; (repeat (first | rw [World.size_alloc] at hz1 | rw [World.size_setCell] at hz1 | rw [World.size_drew] at hz1)))
    go_wp2_with fail
    go_returns
    exact ⟨rfl, by (repeat' (first | (with_reducible exact Below.refl _ _) | (with_reducible refine Below.alloc ?_ ?_ _) | (with_reducible refine Below.drew ?_) | (with_reducible refine Below.setCell ?_ ?_ _) | (with_reducible refine Below.trans ?_ (Below.mono (by assumption) ?_)) | go_size))⟩
theorem iUnitOk_v {a b : Int} {o : Bool} (w : World) (h : unO a b = o) : Calls Try.prog 93 #[.agg #[.int .i64 a, .int .i64 b]] w fun e w' => e = .returned (.bool o) ∧ Below w.heap.size w w' := by
  subst h; exact iUnitOk a b w

theorem neqz {k c d a b : Int} (h : eqz k c d a b = false) : (tuA k c d == a && tuB k c d == b) = false := by
  simp only [eqz, decide_eq_false_iff_not] at h
  rw [Bool.and_eq_false_iff]
  rcases Decidable.em (tuA k c d = a) with e | e
  · exact .inr (beq_eq_false_iff_ne.2 fun e2 => h ⟨e, e2⟩)
  · exact .inl (beq_eq_false_iff_ne.2 e)
def asO (a b c d : Int) : Bool := gok a b && gok c d && asA a b c d
end Go.Proofs.Ytahnkecdningnaa
