import Derived.Test.YtpjememmogaeiaaJb
import Derived.Test.YtpjememmogaeiaaL
import Derived.IntWalk
import Derived.BigRegion
namespace Go.Proofs.Ytpjememmogaeiaa
open Go Go.RowKit
attribute [local go_sem] World.cell?_alloc_some cell?_alloc2_some cell?_alloc3_some cell?_alloc4_some frozen?_alloc_some frozen?_alloc2_some frozen?_alloc3_some World.cell?_setCell_far new_ne0 new_ne1 new_ne2 new_ne3 lt2 lt3 lt4 lt5 lt6 lt7 lt8 lt9
attribute [local go_sem ↓] eqG neG

theorem tdiv_nr {n m : Int} (h : 0 < m) : ((2 * n + m).tmod (2 * m) < 0 ∧ (2 * n + m).tdiv (2 * m) = nr n m + 1) ∨ (¬ (2 * n + m).tmod (2 * m) < 0 ∧ (2 * n + m).tdiv (2 * m) = nr n m) := by
  have e := Int.mul_tdiv_add_tmod (2 * n + m) (2 * m)
  have l := Int.mul_ediv_add_emod (2 * n + m) (2 * m)
  have l1 := Int.emod_nonneg (2 * n + m) (show (2 * m : Int) ≠ 0 by omega)
  have l2 := Int.emod_lt_of_pos (2 * n + m) (show (0 : Int) < 2 * m by omega)
  change 2 * m * nr n m + _ = _ at l
  rcases Int.lt_or_le (2 * n + m) 0 with hu | hu
  · have t1 : (2 * n + m).tmod (2 * m) ≤ 0 := by
      have := Int.tmod_nonneg (2 * m) (show (0 : Int) ≤ -(2 * n + m) by omega)
      rw [Int.neg_tmod] at this; omega
    have t2 : -(2 * m) < (2 * n + m).tmod (2 * m) := by
      have := Int.tmod_lt_of_pos (-(2 * n + m)) (show (0 : Int) < 2 * m by omega)
      rw [Int.neg_tmod] at this; omega
    generalize (2 * n + m).tmod (2 * m) = r at *
    generalize (2 * n + m).tdiv (2 * m) = t at *
    generalize (2 * n + m) % (2 * m) = s at *
    generalize nr n m = q at *
    by_cases hr : r < 0
    · refine .inl ⟨hr, ?_⟩
      have e3 : 2 * m * (t - 1) + (r + 2 * m) = 2 * m * q + s := by grind
      have e4 : 2 * m * (t - 1 - q) = s - (r + 2 * m) := by grind
      have e5 : t - 1 - q = 0 := by
        rcases Int.lt_trichotomy (t - 1 - q) 0 with h | h | h
        · have := Int.mul_le_mul_of_nonneg_left (c := 2 * m) (show t - 1 - q ≤ -1 by omega) (by omega); omega
        · exact h
        · have := Int.mul_le_mul_of_nonneg_left (c := 2 * m) (show 1 ≤ t - 1 - q by omega) (by omega); omega
      omega
    · refine .inr ⟨hr, ?_⟩
      obtain rfl : r = 0 := by omega
      have e4 : 2 * m * (t - q) = s := by grind
      rcases Int.lt_trichotomy (t - q) 0 with h | h | h
      · have := Int.mul_le_mul_of_nonneg_left (c := 2 * m) (show t - q ≤ -1 by omega) (by omega); omega
      · omega
      · have := Int.mul_le_mul_of_nonneg_left (c := 2 * m) (show 1 ≤ t - q by omega) (by omega); omega
  · refine .inr ⟨?_, ?_⟩
    · have := Int.tmod_nonneg (2 * m) hu; omega
    · rw [Int.tdiv_eq_ediv_of_nonneg hu]; rfl
theorem nr_le {n m k : Int} (h : 0 < m) (h1 : -k ≤ n) (h2 : n ≤ k) : -(k + 1) ≤ nr n m ∧ nr n m ≤ k + 1 := by
  obtain ⟨b1, b2⟩ := nr_bd (n := n) h
  have e : n - nr n m * m = n - nr n m * m := rfl
  generalize nr n m = q at *
  refine ⟨?_, ?_⟩ <;> (rw [← Int.not_lt]; intro hh)
  · have := Int.mul_le_mul_of_nonneg_right (c := m) (show q ≤ -(k + 2) by omega) (by omega)
    have e2 : -(k + 2) * m = -(k * m) - 2 * m := by grind
    have := Int.mul_le_mul_of_nonneg_left (c := k) (show (1 : Int) ≤ m by omega) (by omega)
    omega
  · have := Int.mul_le_mul_of_nonneg_right (c := m) (show k + 2 ≤ q by omega) (by omega)
    have e2 : (k + 2) * m = k * m + 2 * m := by grind
    have := Int.mul_le_mul_of_nonneg_left (c := k) (show (1 : Int) ≤ m by omega) (by omega)
    omega
theorem mul_bd2 {x c k : Int} (h1 : -k ≤ x) (h2 : x ≤ k) (h3 : -1000 ≤ c) (h4 : c ≤ 1000) : -(k * 1000) ≤ x * c ∧ x * c ≤ k * 1000 := by
  have e1 : 0 ≤ (k - x) * (1000 - c) := Int.mul_nonneg (by omega) (by omega)
  have e2 : 0 ≤ (k + x) * (1000 + c) := Int.mul_nonneg (by omega) (by omega)
  have e3 : 0 ≤ (k - x) * (1000 + c) := Int.mul_nonneg (by omega) (by omega)
  have e4 : 0 ≤ (k + x) * (1000 - c) := Int.mul_nonneg (by omega) (by omega)
  simp only [Int.sub_mul, Int.mul_sub, Int.add_mul, Int.mul_add] at e1 e2 e3 e4
  omega
end Go.Proofs.Ytpjememmogaeiaa
