import Derived.Test.YtggebkgfldmipaaR
namespace Go.Proofs.Ytggebkgfldmipaa
open Go Go.RowKit
attribute [local go_sem] World.cell?_alloc_some cell?_alloc2_some cell?_alloc3_some cell?_alloc4_some frozen?_alloc_some frozen?_alloc2_some frozen?_alloc3_some World.cell?_setCell_far new_ne0 new_ne1 new_ne2 new_ne3 lt2 lt3 lt4 lt5 lt6 lt7 lt8 lt9

theorem IsRow.drew {k : IntKind} {w : World} {a : Option Addr} {len cap : Nat} {zs : List Int} (h : IsRow k w a len cap zs) : IsRow k w.drew a len cap zs := h
theorem nrm_nn {a b : Int} (k : gok a b = true) : 0 ≤ nrm a b ∧ nrm a b ≤ 2000000 := by
  rw [nrm_t k]; have := sq_bd k; omega
theorem nrm_mul {a b c d : Int} (h : tiO a b c d = true) : nrm (tiA a b c d) (tiB a b c d) = nrm a b * nrm c d := by
  have h' := h
  simp only [tiO, Bool.and_eq_true] at h'
  obtain ⟨t1, t2, t3⟩ := tiO_t h'.1.1 h'.1.2 h'.2
  rw [t2, t3, nrm_t h'.2, nrm_t h'.1.1, nrm_t h'.1.2]
  grind
theorem nrm_over {a b : Int} (k : gok a b = true) : nrm (ovA a b) (ovB a b) = nrm a b := by
  have k2 : gok a (-b) = true := by have := gok_bd k; simp [gok, pok]; omega
  have e1 : ovA a b = a := by simp [ovA, k]
  have e2 : ovB a b = -b := by simp [ovB, k]
  rw [e1, e2, nrm_t k, nrm_t k2]
  grind
theorem nrm_pos {a b : Int} (k : gok a b = true) (h : ¬ (a = 0 ∧ b = 0)) : 0 < nrm a b := by
  rw [nrm_t k]
  have h1 := sq_nn a
  have h2 := sq_nn b
  by_cases ha : a = 0
  · have hb : b ≠ 0 := fun e => h ⟨ha, e⟩
    have : 0 < b * b := by
      rcases Int.lt_or_gt_of_ne hb with h | h
      · exact Int.mul_pos_of_neg_of_neg h h
      · exact Int.mul_pos h h
    omega
  · have : 0 < a * a := by
      rcases Int.lt_or_gt_of_ne ha with h | h
      · exact Int.mul_pos_of_neg_of_neg h h
      · exact Int.mul_pos h h
    omega

theorem mul_nn {a b : Int} (h0 : 0 ≤ a) (h1 : a ≤ 2000000) (h2 : 0 ≤ b) (h3 : b ≤ 2000000) : 0 ≤ a * b ∧ a * b ≤ 4000000000000 := by
  refine ⟨Int.mul_nonneg h0 h2, ?_⟩
  have e1 : 0 ≤ (2000000 - a) * b := Int.mul_nonneg (by omega) h2
  rw [Int.sub_mul] at e1
  omega

end Go.Proofs.Ytggebkgfldmipaa
