import Derived.Test.YtpjememmogaeiaaKc
namespace Go.Proofs.Ytpjememmogaeiaa
open Go Go.RowKit

def N2 (x y : Int) : Int := x * x + y * y
theorem N2_nn (x y : Int) : 0 ≤ N2 x y := by unfold N2; have := sq_nn x; have := sq_nn y; omega
theorem N2_mul (x y c d : Int) : N2 (x * c - y * d) (x * d + y * c) = N2 x y * N2 c d := by unfold N2; grind
/-- The norm of a difference. -/
theorem N2_sub (a b c d : Int) : N2 (a - c) (b - d) ≤ 2 * N2 a b + 2 * N2 c d := by
  have h1 := sq_nn (a + c)
  have h2 := sq_nn (b + d)
  have e : N2 (a - c) (b - d) = 2 * N2 a b + 2 * N2 c d - ((a + c) * (a + c) + (b + d) * (b + d)) := by unfold N2; grind
  omega
theorem nq_bd {a b c d : Int} (h : 0 < N2 c d) : N2 (qA a b c d) (qB a b c d) * N2 c d ≤ 2 * N2 a b + N2 c d := by
  have hh := rest_half (a := a) (b := b) h
  change 2 * N2 (rA a b c d) (rB a b c d) ≤ N2 c d at hh
  have e : N2 (qA a b c d) (qB a b c d) * N2 c d = N2 (a - rA a b c d) (b - rB a b c d) := by
    rw [← N2_mul]; unfold rA rB; congr 1 <;> omega
  have := N2_sub a b (rA a b c d) (rB a b c d)
  omega
theorem mul_le {x y z : Int} (h : x ≤ y) (hz : 0 ≤ z) : x * z ≤ y * z := Int.mul_le_mul_of_nonneg_right h hz
/-- How factors grow: with each step of dividing at most six times, counted with the norm of what is divided. -/
theorem fb_step {a b c d A A' C C' P : Int} (hw : 0 < N2 c d) (h2 : 2 * N2 c d ≤ N2 a b) (hA : N2 A A' * N2 a b ≤ P) (hC : N2 C C' * N2 a b ≤ P) :
    N2 C C' * N2 c d ≤ P ∧ N2 (A - (qA a b c d * C - qB a b c d * C')) (A' - (qA a b c d * C' + qB a b c d * C)) * N2 c d ≤ 6 * P := by
  have hq := nq_bd (a := a) (b := b) hw
  have s := N2_sub A A' (qA a b c d * C - qB a b c d * C') (qA a b c d * C' + qB a b c d * C)
  rw [N2_mul] at s
  generalize qA a b c d = q at *
  generalize qB a b c d = p at *
  have nA := N2_nn A A'
  have nC := N2_nn C C'
  have nz := N2_nn a b
  generalize N2 (A - (q * C - p * C')) (A' - (q * C' + p * C)) = X at *
  generalize N2 A A' = U at *
  generalize N2 C C' = V at *
  generalize N2 q p = W at *
  generalize N2 a b = Z at *
  generalize N2 c d = Y at *
  have m1 : V * (2 * Y) ≤ V * Z := Int.mul_le_mul_of_nonneg_left h2 nC
  have m2 : U * (2 * Y) ≤ U * Z := Int.mul_le_mul_of_nonneg_left h2 nA
  have m3 : V * (W * Y) ≤ V * (2 * Z + Y) := Int.mul_le_mul_of_nonneg_left hq nC
  have m4 := mul_le s (show 0 ≤ Y by omega)
  have e1 : (2 * U + 2 * (W * V)) * Y = 2 * (U * Y) + 2 * (V * (W * Y)) := by grind
  have e2 : V * (2 * Z + Y) = 2 * (V * Z) + V * Y := by grind
  have e3 : V * (2 * Y) = 2 * (V * Y) := by grind
  have e4 : U * (2 * Y) = 2 * (U * Y) := by grind
  have p1 : 0 ≤ V * Y := Int.mul_nonneg nC (by omega)
  have p2 : 0 ≤ U * Y := Int.mul_nonneg nA (by omega)
  refine ⟨by omega, by omega⟩
/-- The parts of a factor whose norm is bounded. -/
theorem part_bd {x y K Z P : Int} (h : N2 x y * Z ≤ P) (hz : 1 ≤ Z) (hP : P ≤ K * K) (hK : 0 ≤ K) : -K ≤ x ∧ x ≤ K ∧ -K ≤ y ∧ y ≤ K := by
  have n := N2_nn x y
  have m : N2 x y * 1 ≤ N2 x y * Z := Int.mul_le_mul_of_nonneg_left hz n
  have h1 := sq_nn x
  have h2 := sq_nn y
  have e : N2 x y = x * x + y * y := rfl
  obtain ⟨b1, b2⟩ := sq_le (x := x) (k := K) (by omega) hK
  obtain ⟨b3, b4⟩ := sq_le (x := y) (k := K) (by omega) hK
  exact ⟨b1, b2, b3, b4⟩
theorem q_part {a b c d : Int} (k1 : gok a b = true) (k2 : gok c d = true) (hw : 0 < N2 c d) : -2500 ≤ qA a b c d ∧ qA a b c d ≤ 2500 ∧ -2500 ≤ qB a b c d ∧ qB a b c d ≤ 2500 := by
  have hq := nq_bd (a := a) (b := b) hw
  have s1 := sq_bd k1
  have s2 := sq_bd k2
  refine part_bd (Z := N2 c d) (P := 2 * N2 a b + N2 c d) hq (by omega) ?_ (by omega)
  unfold N2; omega
end Go.Proofs.Ytpjememmogaeiaa
