import Derived.Test.YtpiifcgjdfkhaaaDoorProg
import Derived.Test.YtpiifcgjdfkhaaaDoorBase
namespace Go.Proofs.YtpiifcgjdfkhaaaDoor
open Go Go.RowKit
attribute [local go_sem] World.cell?_alloc_some cell?_alloc2_some cell?_alloc3_some cell?_alloc4_some frozen?_alloc_some frozen?_alloc2_some frozen?_alloc3_some World.cell?_setCell_far new_ne0 new_ne1 new_ne2 new_ne3 lt2 lt3 lt4 lt5 lt6 lt7 lt8 lt9
def pok (n : Int) : Bool := decide (-1000 ≤ n ∧ n ≤ 1000)
def gok (a b : Int) : Bool := pok a && pok b

theorem ipartOk (n : Int) (w : World) : Calls Tryd.prog 23 #[.int .i64 n] w fun e w' => e = .returned (.bool (pok n)) ∧ w = w' := by
  by_cases h1 : -1000 ≤ n <;> by_cases h2 : n ≤ 1000 <;>
  ( go_enter Tryd.func23, Tryd.ntmps23
    go_wp2
    go_ret
    exact ⟨by simp [pok]; omega, rfl⟩)

theorem iGaussOk (a b : Int) (w : World) : Calls Tryd.prog 10 #[.agg #[.int .i64 a, .int .i64 b]] w fun e w' => e = .returned (.bool (gok a b)) ∧ Below w.heap.size w w' := by
  cases h1 : pok a <;>
  ( go_enter Tryd.func10, Tryd.ntmps10
    go_wp2_with (go_at_call 23; go_call (ipartOk _ _) as e w' ⟨rfl, rfl⟩)
    go_ret
    exact ⟨by simp [gok, h1], by go_grown⟩)

theorem l1In (n a b : Int) (w : World) : Calls Tryd.prog 29 #[.int .i64 n, .int .i64 a, .int .i64 b] w fun e w' => e = .returned (.bool (decide (a ≤ n ∧ n ≤ b))) ∧ w = w' := by
  by_cases h1 : a ≤ n <;> by_cases h2 : n ≤ b <;>
  ( go_enter Tryd.func29, Tryd.ntmps29
    go_wp2
    go_ret
    exact ⟨by simp; omega, rfl⟩)

theorem l1In_part (n : Int) (w : World) : Calls Tryd.prog 29 #[.int .i64 n, .int .i64 (-1000), .int .i64 1000] w fun e w' => e = .returned (.bool (pok n)) ∧ w = w' := l1In n (-1000) 1000 w

theorem sGaussOk (a b : Int) (w : World) : Calls Tryd.prog 21 #[.agg #[.int .i64 a, .int .i64 b]] w fun e w' => e = .returned (.bool (gok a b)) ∧ Below w.heap.size w w' := by
  cases h1 : pok a <;>
  ( go_enter Tryd.func21, Tryd.ntmps21
    go_wp2_with (go_at_call 29; go_call (l1In_part _ _) as e w' ⟨rfl, rfl⟩)
    go_ret
    exact ⟨by simp [gok, h1], by go_grown⟩)

theorem alive (w : World) : Calls Tryd.prog 11 #[] w fun e w' => e = .returned (.bool true) ∧ Below w.heap.size w w' := by
  have k1 : gok 1 0 = true := by decide
  have k2 : gok 2000 0 = false := by decide
  go_enter Tryd.func11, Tryd.ntmps11
  go_wp2_with (go_at_call 10; refine (iGaussOk _ _ _).mono ?_; rintro e w' ⟨rfl, hb⟩; obtain ⟨hc, hf⟩ := bcell hb; have hz := hb.size; (repeat (first | rw [World.size_alloc] at hz | rw [World.size_setCell] at hz | rw [World.size_drew] at hz)))
  go_ret
  exact ⟨rfl, by (repeat' (first | (with_reducible exact Below.refl _ _) | (with_reducible refine Below.alloc ?_ ?_ _) | (with_reducible refine Below.drew ?_) | (with_reducible refine Below.setCell ?_ ?_ _) | (with_reducible refine Below.trans ?_ (Below.mono (by assumption) ?_)) | go_size))⟩


theorem toGauss (a b : Int) (w : World) : Calls Tryd.prog 15 #[.agg #[.int .i64 a, .int .i64 b]] w fun e w' => e = .returned (.agg #[.int .i64 a, .int .i64 b]) ∧ Below w.heap.size w w' := by
  go_enter Tryd.func15, Tryd.ntmps15
  go_wp2_with fail
  go_returns
  exact ⟨rfl, by (repeat' (first | (with_reducible exact Below.refl _ _) | (with_reducible refine Below.alloc ?_ ?_ _) | (with_reducible refine Below.drew ?_) | (with_reducible refine Below.setCell ?_ ?_ _) | (with_reducible refine Below.trans ?_ (Below.mono (by assumption) ?_)) | go_size))⟩
theorem pok_bd {n : Int} (h : pok n = true) : -1000 ≤ n ∧ n ≤ 1000 := by simpa [pok] using h
theorem gok_bd {a b : Int} (h : gok a b = true) : -1000 ≤ a ∧ a ≤ 1000 ∧ -1000 ≤ b ∧ b ≤ 1000 := by
  simp [gok] at h; have := pok_bd h.1; have := pok_bd h.2; omega
end Go.Proofs.YtpiifcgjdfkhaaaDoor
