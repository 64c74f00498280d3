import Derived.Test.YtggebkgfldmipaaS
import Derived.Test.YtggebkgfldmipaaHs
import Derived.Test.YtggebkgfldmipaaL
import Derived.IntWalk
import Derived.BigRegion
namespace Go.Proofs.Ytggebkgfldmipaa
open Go Go.RowKit

/-- The nearest number, halves upwards. -/
def nr (n m : Int) : Int := (2 * n + m) / (2 * m)
def dvO (a b c d : Int) : Bool := gok a b && gok c d && !(c == 0 && d == 0)
def qA (a b c d : Int) : Int := nr (a * c + b * d) (c * c + d * d)
def qB (a b c d : Int) : Int := nr (b * c - a * d) (c * c + d * d)
def rA (a b c d : Int) : Int := a - (qA a b c d * c - qB a b c d * d)
def rB (a b c d : Int) : Int := b - (qA a b c d * d + qB a b c d * c)
def dqA (a b c d : Int) : Int := if dvO a b c d then qA a b c d else 0
def dqB (a b c d : Int) : Int := if dvO a b c d then qB a b c d else 0
def drA (a b c d : Int) : Int := if dvO a b c d then rA a b c d else 0
def drB (a b c d : Int) : Int := if dvO a b c d then rB a b c d else 0
/-- The first number divides the second one: vdO w z. -/
def vdO (c d a b : Int) : Bool := dvO a b c d && (drA a b c d == 0 && drB a b c d == 0)
def exA (a b c d : Int) : Int := if vdO c d a b then qA a b c d else 0
def exB (a b c d : Int) : Int := if vdO c d a b then qB a b c d else 0
def evO (a b : Int) : Bool := gok a b && ((a + b) % 2 == 0)

theorem dv_f {a b c d : Int} (h : dvO a b c d = false) : dqA a b c d = 0 ∧ dqB a b c d = 0 ∧ drA a b c d = 0 ∧ drB a b c d = 0 := by simp [dqA, dqB, drA, drB, h]
theorem dv_t {a b c d : Int} (h : dvO a b c d = true) : dqA a b c d = qA a b c d ∧ dqB a b c d = qB a b c d ∧ drA a b c d = rA a b c d ∧ drB a b c d = rB a b c d := by simp [dqA, dqB, drA, drB, h]
theorem dv_is {a b c d : Int} (h : dvO a b c d = true) : gok a b = true ∧ gok c d = true ∧ 0 < c * c + d * d := by
  simp only [dvO, Bool.and_eq_true, Bool.not_eq_true', Bool.and_eq_false_iff] at h
  refine ⟨h.1.1, h.1.2, ?_⟩
  have := nrm_pos h.1.2 (fun e => by
    rcases h.2 with h2 | h2
    · rw [e.1] at h2; simp at h2
    · rw [e.2] at h2; simp at h2)
  rwa [nrm_t h.1.2] at this
theorem dv_mk {a b c d : Int} (k1 : gok a b = true) (k2 : gok c d = true) (h : ¬ (c = 0 ∧ d = 0)) : dvO a b c d = true := by
  simp only [dvO, k1, k2, Bool.and_eq_true, Bool.not_eq_true', Bool.and_eq_false_iff, true_and]
  rcases Decidable.em (c = 0) with hc | hc
  · exact .inr (beq_eq_false_iff_ne.2 fun hd => h ⟨hc, hd⟩)
  · exact .inl (beq_eq_false_iff_ne.2 hc)
/-- The nearest number is at most half away. -/
theorem nr_bd {n m : Int} (h : 0 < m) : -m ≤ 2 * (n - nr n m * m) ∧ 2 * (n - nr n m * m) ≤ m := by
  have e := Int.mul_ediv_add_emod (2 * n + m) (2 * m)
  have l := Int.emod_nonneg (2 * n + m) (show (2 * m : Int) ≠ 0 by omega)
  have u := Int.emod_lt_of_pos (2 * n + m) (show (0 : Int) < 2 * m by omega)
  have e2 : 2 * m * ((2 * n + m) / (2 * m)) = 2 * (nr n m * m) := by unfold nr; grind
  omega
theorem nr_mul {x m : Int} (h : 0 < m) : nr (x * m) m = x := by
  unfold nr
  have e : 2 * (x * m) + m = m + x * (2 * m) := by grind
  rw [e, Int.add_mul_ediv_right _ _ (by omega)]
  rw [Int.ediv_eq_zero_of_lt (by omega) (by omega)]; omega
theorem half_sq {m e : Int} (h1 : -m ≤ 2 * e) (h2 : 2 * e ≤ m) : 4 * (e * e) ≤ m * m := by
  have h := Int.mul_nonneg (a := m - 2 * e) (b := m + 2 * e) (by omega) (by omega)
  have e1 : (m - 2 * e) * (m + 2 * e) = m * m - 4 * (e * e) := by grind
  omega
theorem rest_e (a b c d : Int) : rA a b c d * c + rB a b c d * d = (a * c + b * d) - qA a b c d * (c * c + d * d) := by
  unfold rA rB; grind
theorem rest_f (a b c d : Int) : rB a b c d * c - rA a b c d * d = (b * c - a * d) - qB a b c d * (c * c + d * d) := by
  unfold rA rB; grind
/-- Rests are at most half: twice the norm of the rest is at most that of the divisor. -/
theorem rest_half {a b c d : Int} (h : 0 < c * c + d * d) : 2 * (rA a b c d * rA a b c d + rB a b c d * rB a b c d) ≤ c * c + d * d := by
  have e1 := rest_e a b c d
  have e2 := rest_f a b c d
  obtain ⟨b1, b2⟩ := nr_bd (n := a * c + b * d) h
  obtain ⟨b3, b4⟩ := nr_bd (n := b * c - a * d) h
  change -(c * c + d * d) ≤ 2 * ((a * c + b * d) - qA a b c d * (c * c + d * d)) at b1
  change 2 * ((a * c + b * d) - qA a b c d * (c * c + d * d)) ≤ (c * c + d * d) at b2
  change -(c * c + d * d) ≤ 2 * ((b * c - a * d) - qB a b c d * (c * c + d * d)) at b3
  change 2 * ((b * c - a * d) - qB a b c d * (c * c + d * d)) ≤ (c * c + d * d) at b4
  rw [← e1] at b1 b2
  rw [← e2] at b3 b4
  generalize rA a b c d = x at *
  generalize rB a b c d = y at *
  have s1 := half_sq b1 b2
  have s2 := half_sq b3 b4
  have e3 : (x * c + y * d) * (x * c + y * d) + (y * c - x * d) * (y * c - x * d) = (x * x + y * y) * (c * c + d * d) := by grind
  have e4 : 4 * ((x * x + y * y) * (c * c + d * d)) ≤ 2 * ((c * c + d * d) * (c * c + d * d)) := by omega
  have e5 : (2 * (x * x + y * y)) * (c * c + d * d) ≤ (c * c + d * d) * (c * c + d * d) := by
    have : 4 * ((x * x + y * y) * (c * c + d * d)) = 2 * ((2 * (x * x + y * y)) * (c * c + d * d)) := by grind
    omega
  exact Int.le_of_mul_le_mul_right e5 h
theorem sq_le {x k : Int} (h : x * x ≤ k * k) (hk : 0 ≤ k) : -k ≤ x ∧ x ≤ k := by
  refine ⟨?_, ?_⟩ <;> (rw [← Int.not_lt]; intro hh)
  · have h1 := Int.mul_pos (a := -x - k) (b := -x + k) (by omega) (by omega)
    have e : (-x - k) * (-x + k) = x * x - k * k := by grind
    omega
  · have h1 := Int.mul_pos (a := x - k) (b := x + k) (by omega) (by omega)
    have e : (x - k) * (x + k) = x * x - k * k := by grind
    omega
theorem gok_of_sq {x y : Int} (h : x * x + y * y ≤ 1000000) : gok x y = true := by
  have h1 := sq_nn x
  have h2 := sq_nn y
  have b1 := sq_le (x := x) (k := 1000) (by omega) (by omega)
  have b2 := sq_le (x := y) (k := 1000) (by omega) (by omega)
  simp [gok, pok]; omega
theorem rest_gok {a b c d : Int} (h : dvO a b c d = true) : gok (rA a b c d) (rB a b c d) = true := by
  obtain ⟨k1, k2, h0⟩ := dv_is h
  have h1 := rest_half (a := a) (b := b) h0
  have h2 := sq_bd k2
  exact gok_of_sq (by omega)
end Go.Proofs.Ytggebkgfldmipaa

namespace Go.Proofs.Ytggebkgfldmipaa
open Go Go.RowKit
theorem norm_mul (x y c d : Int) : (x * c - y * d) * (x * c - y * d) + (x * d + y * c) * (x * d + y * c) = (x * x + y * y) * (c * c + d * d) := by grind
/-- Who divides: there is a quotient. -/
theorem vd_iff {a b c d : Int} (h : dvO a b c d = true) : vdO c d a b = true ↔ ∃ x y, a = x * c - y * d ∧ b = x * d + y * c := by
  obtain ⟨k1, k2, h0⟩ := dv_is h
  obtain ⟨-, -, e3, e4⟩ := dv_t h
  simp only [vdO, h, Bool.true_and, Bool.and_eq_true, beq_iff_eq, e3, e4]
  constructor
  · rintro ⟨h1, h2⟩
    exact ⟨qA a b c d, qB a b c d, by unfold rA at h1; omega, by unfold rB at h2; omega⟩
  · rintro ⟨x, y, hx, hy⟩
    have eA : qA a b c d = x := by
      have e : a * c + b * d = x * (c * c + d * d) := by rw [hx, hy]; grind
      unfold qA; rw [e]; exact nr_mul h0
    have eB : qB a b c d = y := by
      have e : b * c - a * d = y * (c * c + d * d) := by rw [hx, hy]; grind
      unfold qB; rw [e]; exact nr_mul h0
    unfold rA rB
    rw [eA, eB]; omega
theorem vd_dv {a b c d : Int} (h : vdO c d a b = true) : dvO a b c d = true := by
  simp only [vdO, Bool.and_eq_true] at h; exact h.1
/-- The quotient of a number that is divided: unique, and told. -/
theorem vd_q {a b c d : Int} (h : vdO c d a b = true) : a = qA a b c d * c - qB a b c d * d ∧ b = qA a b c d * d + qB a b c d * c := by
  have hd := vd_dv h
  obtain ⟨-, -, e3, e4⟩ := dv_t hd
  simp only [vdO, hd, Bool.true_and, Bool.and_eq_true, beq_iff_eq, e3, e4] at h
  unfold rA rB at h
  omega
theorem q_gok {a b c d : Int} (h : vdO c d a b = true) : gok (qA a b c d) (qB a b c d) = true := by
  have hd := vd_dv h
  obtain ⟨k1, k2, h0⟩ := dv_is hd
  obtain ⟨h1, h2⟩ := vd_q h
  generalize qA a b c d = x at *
  generalize qB a b c d = y at *
  have e := norm_mul x y c d
  rw [← h1, ← h2] at e
  have hz := sq_bd k1
  have hb := gok_bd k1
  by_cases hn : c * c + d * d = 1
  · rw [hn, Int.mul_one] at e
    have hc := sq_nn c
    have hd2 := sq_nn d
    -- a unit: the parts are those of the number, up to signs and order
    have hcd : (c = 1 ∧ d = 0) ∨ (c = -1 ∧ d = 0) ∨ (c = 0 ∧ d = 1) ∨ (c = 0 ∧ d = -1) := by
      have b1 := sq_le (x := c) (k := 1) (by omega) (by omega)
      have b2 := sq_le (x := d) (k := 1) (by omega) (by omega)
      obtain rfl | rfl | rfl : c = -1 ∨ c = 0 ∨ c = 1 := by omega
      · have : d * d = 0 := by omega
        have : d = 0 := by rcases Int.mul_eq_zero.1 this with h | h <;> exact h
        omega
      · obtain rfl | rfl | rfl : d = -1 ∨ d = 0 ∨ d = 1 := by omega
        · omega
        · simp at hn
        · omega
      · have : d * d = 0 := by omega
        have : d = 0 := by rcases Int.mul_eq_zero.1 this with h | h <;> exact h
        omega
    rcases hcd with ⟨rfl, rfl⟩ | ⟨rfl, rfl⟩ | ⟨rfl, rfl⟩ | ⟨rfl, rfl⟩ <;> simp at h1 h2 <;> simp [gok, pok] <;> omega
  · have h2' : 2 ≤ c * c + d * d := by omega
    have hq := sq_nn x
    have hq2 := sq_nn y
    have : (x * x + y * y) * 2 ≤ (x * x + y * y) * (c * c + d * d) := Int.mul_le_mul_of_nonneg_left h2' (by omega)
    exact gok_of_sq (by omega)
theorem ex_ti {a b c d : Int} (h : vdO c d a b = true) : tiO (qA a b c d) (qB a b c d) c d = true ∧ tiA (qA a b c d) (qB a b c d) c d = a ∧ tiB (qA a b c d) (qB a b c d) c d = b := by
  have g := q_gok h
  obtain ⟨k1, k2, h0⟩ := dv_is (vd_dv h)
  obtain ⟨h1, h2⟩ := vd_q h
  obtain ⟨t1, t2, t3⟩ := tiO_t g k2 (by rw [← h1, ← h2]; exact k1)
  exact ⟨t1, by omega, by omega⟩
theorem ex_nrm {a b c d : Int} (h : vdO c d a b = true) : 0 < nrm c d ∧ nrm (qA a b c d) (qB a b c d) = nrm a b / nrm c d ∧ nrm a b % nrm c d = 0 := by
  have g := q_gok h
  obtain ⟨k1, k2, h0⟩ := dv_is (vd_dv h)
  obtain ⟨h1, h2⟩ := vd_q h
  have e := norm_mul (qA a b c d) (qB a b c d) c d
  rw [← h1, ← h2] at e
  rw [nrm_t g, nrm_t k1, nrm_t k2, e]
  exact ⟨h0, (Int.mul_ediv_cancel _ (by omega)).symm, Int.mul_emod_left _ _⟩
/-- Who divides two divides their product with each further one, and their sum. -/
theorem vd_times {a b c d x y : Int} (h : vdO c d a b = true) (ht : tiO a b x y = true) : vdO c d (tiA a b x y) (tiB a b x y) = true := by
  obtain ⟨k1, k2, h0⟩ := dv_is (vd_dv h)
  obtain ⟨u, v, h1, h2⟩ := (vd_iff (vd_dv h)).1 h
  have ht' := ht
  simp only [tiO, Bool.and_eq_true] at ht'
  obtain ⟨-, t2, t3⟩ := tiO_t ht'.1.1 ht'.1.2 ht'.2
  have hd : dvO (tiA a b x y) (tiB a b x y) c d = true := dv_mk (by rw [t2, t3]; exact ht'.2) k2 (by rintro ⟨rfl, rfl⟩; simp at h0)
  refine (vd_iff hd).2 ⟨u * x - v * y, u * y + v * x, ?_, ?_⟩
  · rw [t2, h1, h2]; grind
  · rw [t3, h1, h2]; grind
theorem vd_plus {a b c d x y : Int} (h : vdO c d a b = true) (h' : vdO c d x y = true) (ht : plO a b x y = true) : vdO c d (plA a b x y) (plB a b x y) = true := by
  obtain ⟨k1, k2, h0⟩ := dv_is (vd_dv h)
  obtain ⟨u, v, h1, h2⟩ := (vd_iff (vd_dv h)).1 h
  obtain ⟨u', v', h1', h2'⟩ := (vd_iff (vd_dv h')).1 h'
  have ht' := ht
  simp only [plO, Bool.and_eq_true] at ht'
  obtain ⟨-, t2, t3⟩ := plO_t ht'.1.1 ht'.1.2 ht'.2
  have hd : dvO (plA a b x y) (plB a b x y) c d = true := dv_mk (by rw [t2, t3]; exact ht'.2) k2 (by rintro ⟨rfl, rfl⟩; simp at h0)
  refine (vd_iff hd).2 ⟨u + u', v + v', ?_, ?_⟩
  · rw [t2, h1, h1']; grind
  · rw [t3, h2, h2']; grind
/-- Two numbers that divide each other are a unit apart. -/
theorem vd_both {a b c d : Int} (h : vdO c d a b = true) (h' : vdO a b c d = true) : (c = a ∧ d = b) ∨ (-d = a ∧ c = b) ∨ (-c = a ∧ -d = b) ∨ (d = a ∧ -c = b) := by
  obtain ⟨k1, k2, h0⟩ := dv_is (vd_dv h)
  obtain ⟨-, -, h0'⟩ := dv_is (vd_dv h')
  obtain ⟨u, v, h1, h2⟩ := (vd_iff (vd_dv h)).1 h
  obtain ⟨u', v', h1', h2'⟩ := (vd_iff (vd_dv h')).1 h'
  have e := norm_mul u v c d
  have e' := norm_mul u' v' a b
  rw [← h1, ← h2] at e
  rw [← h1', ← h2'] at e'
  have p : 0 < u * u + v * v := by
    have := sq_nn u; have := sq_nn v
    rcases Int.lt_or_eq_of_le (show 0 ≤ u * u + v * v by omega) with h | h
    · exact h
    · rw [← h] at e; simp at e; omega
  have p' : 0 < u' * u' + v' * v' := by
    have := sq_nn u'; have := sq_nn v'
    rcases Int.lt_or_eq_of_le (show 0 ≤ u' * u' + v' * v' by omega) with h | h
    · exact h
    · rw [← h] at e'; simp at e'; omega
  have hu : u * u + v * v = 1 := by
    rw [e'] at e
    have e2 : 1 * (a * a + b * b) = ((u * u + v * v) * (u' * u' + v' * v')) * (a * a + b * b) := by grind
    have e3 := Int.eq_of_mul_eq_mul_right (by omega) e2
    rcases Int.lt_or_eq_of_le (show 1 ≤ u * u + v * v by omega) with h | h
    · exfalso
      have : 2 * 1 ≤ (u * u + v * v) * (u' * u' + v' * v') := Int.mul_le_mul (by omega) (by omega) (by omega) (by omega)
      omega
    · exact h.symm
  have b1 := sq_le (x := u) (k := 1) (by have := sq_nn v; omega) (by omega)
  have b2 := sq_le (x := v) (k := 1) (by have := sq_nn u; omega) (by omega)
  obtain rfl | rfl | rfl : u = -1 ∨ u = 0 ∨ u = 1 := by omega
  · obtain rfl : v = 0 := by
      have : v * v = 0 := by omega
      rcases Int.mul_eq_zero.1 this with h | h <;> exact h
    simp at h1 h2; omega
  · obtain rfl | rfl | rfl : v = -1 ∨ v = 0 ∨ v = 1 := by omega
    · simp at h1 h2; omega
    · simp at hu
    · simp at h1 h2; omega
  · obtain rfl : v = 0 := by
      have : v * v = 0 := by omega
      rcases Int.mul_eq_zero.1 this with h | h <;> exact h
    simp at h1 h2; omega
/-- Even numbers. -/
theorem ev_div {a b : Int} (k : gok a b = true) : vdO 1 1 a b = evO a b := by
  have hd : dvO a b 1 1 = true := dv_mk k (by decide) (by omega)
  have e : evO a b = ((a + b) % 2 == 0) := by simp [evO, k]
  rw [e, Bool.eq_iff_iff, vd_iff hd, beq_iff_eq]
  constructor
  · rintro ⟨x, y, hx, hy⟩
    simp at hx hy; omega
  · intro h
    exact ⟨(a + b) / 2, (b - a) / 2, by simp; omega, by simp; omega⟩
theorem ev_nrm {a b : Int} (k : gok a b = true) : (nrm a b % 2 == 0) = evO a b := by
  have e : evO a b = ((a + b) % 2 == 0) := by simp [evO, k]
  rw [e, nrm_t k]
  have h1 : (a * a + b * b) % 2 = (a + b) % 2 := by
    rw [Int.add_emod, Int.mul_emod a a, Int.mul_emod b b, Int.add_emod a b]
    rcases (show a % 2 = 0 ∨ a % 2 = 1 by omega) with h | h <;> rcases (show b % 2 = 0 ∨ b % 2 = 1 by omega) with h' | h' <;> rw [h, h'] <;> decide
  rw [h1]
end Go.Proofs.Ytggebkgfldmipaa

namespace Go.Proofs.Ytggebkgfldmipaa
open Go Go.RowKit
attribute [local go_sem] World.cell?_alloc_some cell?_alloc2_some cell?_alloc3_some cell?_alloc4_some frozen?_alloc_some frozen?_alloc2_some frozen?_alloc3_some World.cell?_setCell_far new_ne0 new_ne1 new_ne2 new_ne3 lt2 lt3 lt4 lt5 lt6 lt7 lt8 lt9
attribute [local go_sem ↓] eqG neG

theorem tdiv_nr {n m : Int} (h : 0 < m) : ((2 * n + m).tmod (2 * m) < 0 ∧ (2 * n + m).tdiv (2 * m) = nr n m + 1) ∨ (¬ (2 * n + m).tmod (2 * m) < 0 ∧ (2 * n + m).tdiv (2 * m) = nr n m) := by
  have e := Int.mul_tdiv_add_tmod (2 * n + m) (2 * m)
  have l := Int.mul_ediv_add_emod (2 * n + m) (2 * m)
  have l1 := Int.emod_nonneg (2 * n + m) (show (2 * m : Int) ≠ 0 by omega)
  have l2 := Int.emod_lt_of_pos (2 * n + m) (show (0 : Int) < 2 * m by omega)
  change 2 * m * nr n m + _ = _ at l
  rcases Int.lt_or_le (2 * n + m) 0 with hu | hu
  · have t1 : (2 * n + m).tmod (2 * m) ≤ 0 := by
      have := Int.tmod_nonneg (2 * m) (show (0 : Int) ≤ -(2 * n + m) by omega)
      rw [Int.neg_tmod] at this; omega
    have t2 : -(2 * m) < (2 * n + m).tmod (2 * m) := by
      have := Int.tmod_lt_of_pos (-(2 * n + m)) (show (0 : Int) < 2 * m by omega)
      rw [Int.neg_tmod] at this; omega
    generalize (2 * n + m).tmod (2 * m) = r at *
    generalize (2 * n + m).tdiv (2 * m) = t at *
    generalize (2 * n + m) % (2 * m) = s at *
    generalize nr n m = q at *
    by_cases hr : r < 0
    · refine .inl ⟨hr, ?_⟩
      have e3 : 2 * m * (t - 1) + (r + 2 * m) = 2 * m * q + s := by grind
      have e4 : 2 * m * (t - 1 - q) = s - (r + 2 * m) := by grind
      have e5 : t - 1 - q = 0 := by
        rcases Int.lt_trichotomy (t - 1 - q) 0 with h | h | h
        · have := Int.mul_le_mul_of_nonneg_left (c := 2 * m) (show t - 1 - q ≤ -1 by omega) (by omega); omega
        · exact h
        · have := Int.mul_le_mul_of_nonneg_left (c := 2 * m) (show 1 ≤ t - 1 - q by omega) (by omega); omega
      omega
    · refine .inr ⟨hr, ?_⟩
      obtain rfl : r = 0 := by omega
      have e4 : 2 * m * (t - q) = s := by grind
      rcases Int.lt_trichotomy (t - q) 0 with h | h | h
      · have := Int.mul_le_mul_of_nonneg_left (c := 2 * m) (show t - q ≤ -1 by omega) (by omega); omega
      · omega
      · have := Int.mul_le_mul_of_nonneg_left (c := 2 * m) (show 1 ≤ t - q by omega) (by omega); omega
  · refine .inr ⟨?_, ?_⟩
    · have := Int.tmod_nonneg (2 * m) hu; omega
    · rw [Int.tdiv_eq_ediv_of_nonneg hu]; rfl
theorem nr_le {n m k : Int} (h : 0 < m) (h1 : -k ≤ n) (h2 : n ≤ k) : -(k + 1) ≤ nr n m ∧ nr n m ≤ k + 1 := by
  obtain ⟨b1, b2⟩ := nr_bd (n := n) h
  have e : n - nr n m * m = n - nr n m * m := rfl
  generalize nr n m = q at *
  refine ⟨?_, ?_⟩ <;> (rw [← Int.not_lt]; intro hh)
  · have := Int.mul_le_mul_of_nonneg_right (c := m) (show q ≤ -(k + 2) by omega) (by omega)
    have e2 : -(k + 2) * m = -(k * m) - 2 * m := by grind
    have := Int.mul_le_mul_of_nonneg_left (c := k) (show (1 : Int) ≤ m by omega) (by omega)
    omega
  · have := Int.mul_le_mul_of_nonneg_right (c := m) (show k + 2 ≤ q by omega) (by omega)
    have e2 : (k + 2) * m = k * m + 2 * m := by grind
    have := Int.mul_le_mul_of_nonneg_left (c := k) (show (1 : Int) ≤ m by omega) (by omega)
    omega
theorem mul_bd2 {x c k : Int} (h1 : -k ≤ x) (h2 : x ≤ k) (h3 : -1000 ≤ c) (h4 : c ≤ 1000) : -(k * 1000) ≤ x * c ∧ x * c ≤ k * 1000 := by
  have e1 : 0 ≤ (k - x) * (1000 - c) := Int.mul_nonneg (by omega) (by omega)
  have e2 : 0 ≤ (k + x) * (1000 + c) := Int.mul_nonneg (by omega) (by omega)
  have e3 : 0 ≤ (k - x) * (1000 + c) := Int.mul_nonneg (by omega) (by omega)
  have e4 : 0 ≤ (k + x) * (1000 - c) := Int.mul_nonneg (by omega) (by omega)
  simp only [Int.sub_mul, Int.mul_sub, Int.add_mul, Int.mul_add] at e1 e2 e3 e4
  omega
end Go.Proofs.Ytggebkgfldmipaa
