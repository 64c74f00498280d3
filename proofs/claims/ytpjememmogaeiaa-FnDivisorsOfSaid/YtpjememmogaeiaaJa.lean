import Derived.Test.YtpjememmogaeiaaS
import Derived.Test.YtpjememmogaeiaaHs
namespace Go.Proofs.Ytpjememmogaeiaa
open Go Go.RowKit

/-- The nearest number, halves upwards. -/
def nr (n m : Int) : Int := (2 * n + m) / (2 * m)
def dvO (a b c d : Int) : Bool := gok a b && gok c d && !(c == 0 && d == 0)
def qA (a b c d : Int) : Int := nr (a * c + b * d) (c * c + d * d)
def qB (a b c d : Int) : Int := nr (b * c - a * d) (c * c + d * d)
def rA (a b c d : Int) : Int := a - (qA a b c d * c - qB a b c d * d)
def rB (a b c d : Int) : Int := b - (qA a b c d * d + qB a b c d * c)
def dqA (a b c d : Int) : Int := if dvO a b c d then qA a b c d else 0
def dqB (a b c d : Int) : Int := if dvO a b c d then qB a b c d else 0
def drA (a b c d : Int) : Int := if dvO a b c d then rA a b c d else 0
def drB (a b c d : Int) : Int := if dvO a b c d then rB a b c d else 0
/-- The first number divides the second one: vdO w z. -/
def vdO (c d a b : Int) : Bool := dvO a b c d && (drA a b c d == 0 && drB a b c d == 0)
def exA (a b c d : Int) : Int := if vdO c d a b then qA a b c d else 0
def exB (a b c d : Int) : Int := if vdO c d a b then qB a b c d else 0
def evO (a b : Int) : Bool := gok a b && ((a + b) % 2 == 0)

theorem dv_f {a b c d : Int} (h : dvO a b c d = false) : dqA a b c d = 0 ∧ dqB a b c d = 0 ∧ drA a b c d = 0 ∧ drB a b c d = 0 := by simp [dqA, dqB, drA, drB, h]
theorem dv_t {a b c d : Int} (h : dvO a b c d = true) : dqA a b c d = qA a b c d ∧ dqB a b c d = qB a b c d ∧ drA a b c d = rA a b c d ∧ drB a b c d = rB a b c d := by simp [dqA, dqB, drA, drB, h]
theorem dv_is {a b c d : Int} (h : dvO a b c d = true) : gok a b = true ∧ gok c d = true ∧ 0 < c * c + d * d := by
  simp only [dvO, Bool.and_eq_true, Bool.not_eq_true', Bool.and_eq_false_iff] at h
  refine ⟨h.1.1, h.1.2, ?_⟩
  have := nrm_pos h.1.2 (fun e => by
    rcases h.2 with h2 | h2
    · rw [e.1] at h2; simp at h2
    · rw [e.2] at h2; simp at h2)
  rwa [nrm_t h.1.2] at this
theorem dv_mk {a b c d : Int} (k1 : gok a b = true) (k2 : gok c d = true) (h : ¬ (c = 0 ∧ d = 0)) : dvO a b c d = true := by
  simp only [dvO, k1, k2, Bool.and_eq_true, Bool.not_eq_true', Bool.and_eq_false_iff, true_and]
  rcases Decidable.em (c = 0) with hc | hc
  · exact .inr (beq_eq_false_iff_ne.2 fun hd => h ⟨hc, hd⟩)
  · exact .inl (beq_eq_false_iff_ne.2 hc)
/-- The nearest number is at most half away. -/
theorem nr_bd {n m : Int} (h : 0 < m) : -m ≤ 2 * (n - nr n m * m) ∧ 2 * (n - nr n m * m) ≤ m := by
  have e := Int.mul_ediv_add_emod (2 * n + m) (2 * m)
  have l := Int.emod_nonneg (2 * n + m) (show (2 * m : Int) ≠ 0 by omega)
  have u := Int.emod_lt_of_pos (2 * n + m) (show (0 : Int) < 2 * m by omega)
  have e2 : 2 * m * ((2 * n + m) / (2 * m)) = 2 * (nr n m * m) := by unfold nr; grind
  omega
theorem nr_mul {x m : Int} (h : 0 < m) : nr (x * m) m = x := by
  unfold nr
  have e : 2 * (x * m) + m = m + x * (2 * m) := by grind
  rw [e, Int.add_mul_ediv_right _ _ (by omega)]
  rw [Int.ediv_eq_zero_of_lt (by omega) (by omega)]; omega
theorem half_sq {m e : Int} (h1 : -m ≤ 2 * e) (h2 : 2 * e ≤ m) : 4 * (e * e) ≤ m * m := by
  have h := Int.mul_nonneg (a := m - 2 * e) (b := m + 2 * e) (by omega) (by omega)
  have e1 : (m - 2 * e) * (m + 2 * e) = m * m - 4 * (e * e) := by grind
  omega
theorem rest_e (a b c d : Int) : rA a b c d * c + rB a b c d * d = (a * c + b * d) - qA a b c d * (c * c + d * d) := by
  unfold rA rB; grind
theorem rest_f (a b c d : Int) : rB a b c d * c - rA a b c d * d = (b * c - a * d) - qB a b c d * (c * c + d * d) := by
  unfold rA rB; grind
/-- Rests are at most half: twice the norm of the rest is at most that of the divisor. -/
theorem rest_half {a b c d : Int} (h : 0 < c * c + d * d) : 2 * (rA a b c d * rA a b c d + rB a b c d * rB a b c d) ≤ c * c + d * d := by
  have e1 := rest_e a b c d
  have e2 := rest_f a b c d
  obtain ⟨b1, b2⟩ := nr_bd (n := a * c + b * d) h
  obtain ⟨b3, b4⟩ := nr_bd (n := b * c - a * d) h
  change -(c * c + d * d) ≤ 2 * ((a * c + b * d) - qA a b c d * (c * c + d * d)) at b1
  change 2 * ((a * c + b * d) - qA a b c d * (c * c + d * d)) ≤ (c * c + d * d) at b2
  change -(c * c + d * d) ≤ 2 * ((b * c - a * d) - qB a b c d * (c * c + d * d)) at b3
  change 2 * ((b * c - a * d) - qB a b c d * (c * c + d * d)) ≤ (c * c + d * d) at b4
  rw [← e1] at b1 b2
  rw [← e2] at b3 b4
  generalize rA a b c d = x at *
  generalize rB a b c d = y at *
  have s1 := half_sq b1 b2
  have s2 := half_sq b3 b4
  have e3 : (x * c + y * d) * (x * c + y * d) + (y * c - x * d) * (y * c - x * d) = (x * x + y * y) * (c * c + d * d) := by grind
  have e4 : 4 * ((x * x + y * y) * (c * c + d * d)) ≤ 2 * ((c * c + d * d) * (c * c + d * d)) := by omega
  have e5 : (2 * (x * x + y * y)) * (c * c + d * d) ≤ (c * c + d * d) * (c * c + d * d) := by
    have : 4 * ((x * x + y * y) * (c * c + d * d)) = 2 * ((2 * (x * x + y * y)) * (c * c + d * d)) := by grind
    omega
  exact Int.le_of_mul_le_mul_right e5 h
theorem sq_le {x k : Int} (h : x * x ≤ k * k) (hk : 0 ≤ k) : -k ≤ x ∧ x ≤ k := by
  refine ⟨?_, ?_⟩ <;> (rw [← Int.not_lt]; intro hh)
  · have h1 := Int.mul_pos (a := -x - k) (b := -x + k) (by omega) (by omega)
    have e : (-x - k) * (-x + k) = x * x - k * k := by grind
    omega
  · have h1 := Int.mul_pos (a := x - k) (b := x + k) (by omega) (by omega)
    have e : (x - k) * (x + k) = x * x - k * k := by grind
    omega
theorem gok_of_sq {x y : Int} (h : x * x + y * y ≤ 1000000) : gok x y = true := by
  have h1 := sq_nn x
  have h2 := sq_nn y
  have b1 := sq_le (x := x) (k := 1000) (by omega) (by omega)
  have b2 := sq_le (x := y) (k := 1000) (by omega) (by omega)
  simp [gok, pok]; omega
theorem rest_gok {a b c d : Int} (h : dvO a b c d = true) : gok (rA a b c d) (rB a b c d) = true := by
  obtain ⟨k1, k2, h0⟩ := dv_is h
  have h1 := rest_half (a := a) (b := b) h0
  have h2 := sq_bd k2
  exact gok_of_sq (by omega)
end Go.Proofs.Ytpjememmogaeiaa
