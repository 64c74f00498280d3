import Derived.Test.YtpjememmogaeiaaJa
namespace Go.Proofs.Ytpjememmogaeiaa
open Go Go.RowKit
theorem norm_mul (x y c d : Int) : (x * c - y * d) * (x * c - y * d) + (x * d + y * c) * (x * d + y * c) = (x * x + y * y) * (c * c + d * d) := by grind
/-- Who divides: there is a quotient. -/
theorem vd_iff {a b c d : Int} (h : dvO a b c d = true) : vdO c d a b = true ↔ ∃ x y, a = x * c - y * d ∧ b = x * d + y * c := by
  obtain ⟨k1, k2, h0⟩ := dv_is h
  obtain ⟨-, -, e3, e4⟩ := dv_t h
  simp only [vdO, h, Bool.true_and, Bool.and_eq_true, beq_iff_eq, e3, e4]
  constructor
  · rintro ⟨h1, h2⟩
    exact ⟨qA a b c d, qB a b c d, by unfold rA at h1; omega, by unfold rB at h2; omega⟩
  · rintro ⟨x, y, hx, hy⟩
    have eA : qA a b c d = x := by
      have e : a * c + b * d = x * (c * c + d * d) := by rw [hx, hy]; grind
      unfold qA; rw [e]; exact nr_mul h0
    have eB : qB a b c d = y := by
      have e : b * c - a * d = y * (c * c + d * d) := by rw [hx, hy]; grind
      unfold qB; rw [e]; exact nr_mul h0
    unfold rA rB
    rw [eA, eB]; omega
theorem vd_dv {a b c d : Int} (h : vdO c d a b = true) : dvO a b c d = true := by
  simp only [vdO, Bool.and_eq_true] at h; exact h.1
/-- The quotient of a number that is divided: unique, and told. -/
theorem vd_q {a b c d : Int} (h : vdO c d a b = true) : a = qA a b c d * c - qB a b c d * d ∧ b = qA a b c d * d + qB a b c d * c := by
  have hd := vd_dv h
  obtain ⟨-, -, e3, e4⟩ := dv_t hd
  simp only [vdO, hd, Bool.true_and, Bool.and_eq_true, beq_iff_eq, e3, e4] at h
  unfold rA rB at h
  omega
theorem q_gok {a b c d : Int} (h : vdO c d a b = true) : gok (qA a b c d) (qB a b c d) = true := by
  have hd := vd_dv h
  obtain ⟨k1, k2, h0⟩ := dv_is hd
  obtain ⟨h1, h2⟩ := vd_q h
  generalize qA a b c d = x at *
  generalize qB a b c d = y at *
  have e := norm_mul x y c d
  rw [← h1, ← h2] at e
  have hz := sq_bd k1
  have hb := gok_bd k1
  by_cases hn : c * c + d * d = 1
  · rw [hn, Int.mul_one] at e
    have hc := sq_nn c
    have hd2 := sq_nn d
    -- a unit: the parts are those of the number, up to signs and order
    have hcd : (c = 1 ∧ d = 0) ∨ (c = -1 ∧ d = 0) ∨ (c = 0 ∧ d = 1) ∨ (c = 0 ∧ d = -1) := by
      have b1 := sq_le (x := c) (k := 1) (by omega) (by omega)
      have b2 := sq_le (x := d) (k := 1) (by omega) (by omega)
      obtain rfl | rfl | rfl : c = -1 ∨ c = 0 ∨ c = 1 := by omega
      · have : d * d = 0 := by omega
        have : d = 0 := by rcases Int.mul_eq_zero.1 this with h | h <;> exact h
        omega
      · obtain rfl | rfl | rfl : d = -1 ∨ d = 0 ∨ d = 1 := by omega
        · omega
        · simp at hn
        · omega
      · have : d * d = 0 := by omega
        have : d = 0 := by rcases Int.mul_eq_zero.1 this with h | h <;> exact h
        omega
    rcases hcd with ⟨rfl, rfl⟩ | ⟨rfl, rfl⟩ | ⟨rfl, rfl⟩ | ⟨rfl, rfl⟩ <;> simp at h1 h2 <;> simp [gok, pok] <;> omega
  · have h2' : 2 ≤ c * c + d * d := by omega
    have hq := sq_nn x
    have hq2 := sq_nn y
    have : (x * x + y * y) * 2 ≤ (x * x + y * y) * (c * c + d * d) := Int.mul_le_mul_of_nonneg_left h2' (by omega)
    exact gok_of_sq (by omega)
theorem ex_ti {a b c d : Int} (h : vdO c d a b = true) : tiO (qA a b c d) (qB a b c d) c d = true ∧ tiA (qA a b c d) (qB a b c d) c d = a ∧ tiB (qA a b c d) (qB a b c d) c d = b := by
  have g := q_gok h
  obtain ⟨k1, k2, h0⟩ := dv_is (vd_dv h)
  obtain ⟨h1, h2⟩ := vd_q h
  obtain ⟨t1, t2, t3⟩ := tiO_t g k2 (by rw [← h1, ← h2]; exact k1)
  exact ⟨t1, by omega, by omega⟩
theorem ex_nrm {a b c d : Int} (h : vdO c d a b = true) : 0 < nrm c d ∧ nrm (qA a b c d) (qB a b c d) = nrm a b / nrm c d ∧ nrm a b % nrm c d = 0 := by
  have g := q_gok h
  obtain ⟨k1, k2, h0⟩ := dv_is (vd_dv h)
  obtain ⟨h1, h2⟩ := vd_q h
  have e := norm_mul (qA a b c d) (qB a b c d) c d
  rw [← h1, ← h2] at e
  rw [nrm_t g, nrm_t k1, nrm_t k2, e]
  exact ⟨h0, (Int.mul_ediv_cancel _ (by omega)).symm, Int.mul_emod_left _ _⟩
/-- Who divides two divides their product with each further one, and their sum. -/
theorem vd_times {a b c d x y : Int} (h : vdO c d a b = true) (ht : tiO a b x y = true) : vdO c d (tiA a b x y) (tiB a b x y) = true := by
  obtain ⟨k1, k2, h0⟩ := dv_is (vd_dv h)
  obtain ⟨u, v, h1, h2⟩ := (vd_iff (vd_dv h)).1 h
  have ht' := ht
  simp only [tiO, Bool.and_eq_true] at ht'
  obtain ⟨-, t2, t3⟩ := tiO_t ht'.1.1 ht'.1.2 ht'.2
  have hd : dvO (tiA a b x y) (tiB a b x y) c d = true := dv_mk (by rw [t2, t3]; exact ht'.2) k2 (by rintro ⟨rfl, rfl⟩; simp at h0)
  refine (vd_iff hd).2 ⟨u * x - v * y, u * y + v * x, ?_, ?_⟩
  · rw [t2, h1, h2]; grind
  · rw [t3, h1, h2]; grind
theorem vd_plus {a b c d x y : Int} (h : vdO c d a b = true) (h' : vdO c d x y = true) (ht : plO a b x y = true) : vdO c d (plA a b x y) (plB a b x y) = true := by
  obtain ⟨k1, k2, h0⟩ := dv_is (vd_dv h)
  obtain ⟨u, v, h1, h2⟩ := (vd_iff (vd_dv h)).1 h
  obtain ⟨u', v', h1', h2'⟩ := (vd_iff (vd_dv h')).1 h'
  have ht' := ht
  simp only [plO, Bool.and_eq_true] at ht'
  obtain ⟨-, t2, t3⟩ := plO_t ht'.1.1 ht'.1.2 ht'.2
  have hd : dvO (plA a b x y) (plB a b x y) c d = true := dv_mk (by rw [t2, t3]; exact ht'.2) k2 (by rintro ⟨rfl, rfl⟩; simp at h0)
  refine (vd_iff hd).2 ⟨u + u', v + v', ?_, ?_⟩
  · rw [t2, h1, h1']; grind
  · rw [t3, h2, h2']; grind
/-- Two numbers that divide each other are a unit apart. -/
theorem vd_both {a b c d : Int} (h : vdO c d a b = true) (h' : vdO a b c d = true) : (c = a ∧ d = b) ∨ (-d = a ∧ c = b) ∨ (-c = a ∧ -d = b) ∨ (d = a ∧ -c = b) := by
  obtain ⟨k1, k2, h0⟩ := dv_is (vd_dv h)
  obtain ⟨-, -, h0'⟩ := dv_is (vd_dv h')
  obtain ⟨u, v, h1, h2⟩ := (vd_iff (vd_dv h)).1 h
  obtain ⟨u', v', h1', h2'⟩ := (vd_iff (vd_dv h')).1 h'
  have e := norm_mul u v c d
  have e' := norm_mul u' v' a b
  rw [← h1, ← h2] at e
  rw [← h1', ← h2'] at e'
  have p : 0 < u * u + v * v := by
    have := sq_nn u; have := sq_nn v
    rcases Int.lt_or_eq_of_le (show 0 ≤ u * u + v * v by omega) with h | h
    · exact h
    · rw [← h] at e; simp at e; omega
  have p' : 0 < u' * u' + v' * v' := by
    have := sq_nn u'; have := sq_nn v'
    rcases Int.lt_or_eq_of_le (show 0 ≤ u' * u' + v' * v' by omega) with h | h
    · exact h
    · rw [← h] at e'; simp at e'; omega
  have hu : u * u + v * v = 1 := by
    rw [e'] at e
    have e2 : 1 * (a * a + b * b) = ((u * u + v * v) * (u' * u' + v' * v')) * (a * a + b * b) := by grind
    have e3 := Int.eq_of_mul_eq_mul_right (by omega) e2
    rcases Int.lt_or_eq_of_le (show 1 ≤ u * u + v * v by omega) with h | h
    · exfalso
      have : 2 * 1 ≤ (u * u + v * v) * (u' * u' + v' * v') := Int.mul_le_mul (by omega) (by omega) (by omega) (by omega)
      omega
    · exact h.symm
  have b1 := sq_le (x := u) (k := 1) (by have := sq_nn v; omega) (by omega)
  have b2 := sq_le (x := v) (k := 1) (by have := sq_nn u; omega) (by omega)
  obtain rfl | rfl | rfl : u = -1 ∨ u = 0 ∨ u = 1 := by omega
  · obtain rfl : v = 0 := by
      have : v * v = 0 := by omega
      rcases Int.mul_eq_zero.1 this with h | h <;> exact h
    simp at h1 h2; omega
  · obtain rfl | rfl | rfl : v = -1 ∨ v = 0 ∨ v = 1 := by omega
    · simp at h1 h2; omega
    · simp at hu
    · simp at h1 h2; omega
  · obtain rfl : v = 0 := by
      have : v * v = 0 := by omega
      rcases Int.mul_eq_zero.1 this with h | h <;> exact h
    simp at h1 h2; omega
/-- Even numbers. -/
theorem ev_div {a b : Int} (k : gok a b = true) : vdO 1 1 a b = evO a b := by
  have hd : dvO a b 1 1 = true := dv_mk k (by decide) (by omega)
  have e : evO a b = ((a + b) % 2 == 0) := by simp [evO, k]
  rw [e, Bool.eq_iff_iff, vd_iff hd, beq_iff_eq]
  constructor
  · rintro ⟨x, y, hx, hy⟩
    simp at hx hy; omega
  · intro h
    exact ⟨(a + b) / 2, (b - a) / 2, by simp; omega, by simp; omega⟩
theorem ev_nrm {a b : Int} (k : gok a b = true) : (nrm a b % 2 == 0) = evO a b := by
  have e : evO a b = ((a + b) % 2 == 0) := by simp [evO, k]
  rw [e, nrm_t k]
  have h1 : (a * a + b * b) % 2 = (a + b) % 2 := by
    rw [Int.add_emod, Int.mul_emod a a, Int.mul_emod b b, Int.add_emod a b]
    rcases (show a % 2 = 0 ∨ a % 2 = 1 by omega) with h | h <;> rcases (show b % 2 = 0 ∨ b % 2 = 1 by omega) with h' | h' <;> rw [h, h'] <;> decide
  rw [h1]
end Go.Proofs.Ytpjememmogaeiaa
