import Derived.Test.YtpjememmogaeiaaKe
namespace Go.Proofs.Ytpjememmogaeiaa
open Go Go.RowKit

/-- A whole number is prime: from 2 on, and no number from 2 on, whose square is not greater, divides it. -/
def wp (n : Int) : Prop := 2 ≤ n ∧ ∀ k : Int, 2 ≤ k → k * k ≤ n → n % k ≠ 0
theorem wp_div {n d e : Int} (h : wp n) (hd : 1 ≤ d) (he : n = d * e) : d = 1 ∨ d = n := by
  obtain ⟨h2, hp⟩ := h
  have hd2 : d ≠ 0 := by omega
  have epos : 1 ≤ e := by
    rcases Int.lt_or_le e 1 with h | h
    · have := Int.mul_le_mul_of_nonneg_left (c := d) (show e ≤ 0 by omega) (by omega); omega
    · exact h
  rcases Int.lt_or_le d 2 with h | h
  · exact .inl (by omega)
  rcases Int.lt_or_le e 2 with h' | h'
  · obtain rfl : e = 1 := by omega
    exact .inr (by omega)
  exfalso
  rcases Int.le_total d e with hde | hde
  · have := Int.mul_le_mul_of_nonneg_left (c := d) hde (by omega)
    exact hp d h (by omega) (by rw [he]; exact Int.mul_emod_right d e)
  · have := Int.mul_le_mul_of_nonneg_right (c := e) hde (by omega)
    exact hp e h' (by omega) (by rw [he]; exact Int.mul_emod_left d e)
/-- What divides the square of a prime is 1, it, or its square. -/
theorem wp_sq {n d e : Int} (h : wp n) (hd : 1 ≤ d) (he : n * n = d * e) : d = 1 ∨ d = n ∨ d = n * n := by
  have hn : 2 ≤ n := h.1
  have epos : 1 ≤ e := by
    rcases Int.lt_or_le e 1 with h | h
    · have := Int.mul_le_mul_of_nonneg_left (c := d) (show e ≤ 0 by omega) (by omega)
      have := Int.mul_pos (a := n) (b := n) (by omega) (by omega)
      omega
    · exact h
  -- the greatest common divisor of d and n
  have g1 := Int.gcd_dvd_left d n
  have g2 := Int.gcd_dvd_right d n
  have gp : 0 < Int.gcd d n := Int.gcd_pos_of_ne_zero_left _ (by omega)
  obtain ⟨x, hx⟩ := g2
  rcases wp_div h (d := (Int.gcd d n : Int)) (e := x) (by omega) hx with g | g
  · -- apart: d divides n, so it is 1
    have hc : Int.gcd d n = 1 := by omega
    have hdn : d ∣ n := by
      have h1 : d.natAbs ∣ n.natAbs * n.natAbs := by
        rw [← Int.natAbs_mul]; exact Int.natAbs_dvd_natAbs.2 ⟨e, he⟩
      exact Int.natAbs_dvd_natAbs.1 (Nat.Coprime.dvd_of_dvd_mul_right hc h1)
    obtain ⟨y, hy⟩ := hdn
    rcases wp_div h hd hy with h1 | h1
    · exact .inl h1
    · exact .inr (.inl h1)
  · -- n divides d
    rw [g] at g1
    obtain ⟨y, hy⟩ := g1
    have e1 : n * n = n * (y * e) := by rw [he, hy]; grind
    have e2 : n = y * e := Int.eq_of_mul_eq_mul_left (by omega) e1
    have yp : 1 ≤ y := by
      rcases Int.lt_or_le y 1 with h | h
      · have := Int.mul_le_mul_of_nonneg_left (c := n) (show y ≤ 0 by omega) (by omega); omega
      · exact h
    rcases wp_div h yp e2 with h1 | h1
    · right; left; rw [hy, h1]; omega
    · right; right; rw [hy, h1]
/-- A prime of the plane. -/
def prI (a b : Int) : Prop := gok a b = true ∧ ((a ≠ 0 ∧ b ≠ 0 ∧ wp (a * a + b * b)) ∨ (∃ n : Int, a * a + b * b = n * n ∧ n % 4 = 3 ∧ wp n))
theorem sq_mod4 (a : Int) : a * a % 4 = 0 ∨ a * a % 4 = 1 := by
  rw [Int.mul_emod]
  rcases (show a % 4 = 0 ∨ a % 4 = 1 ∨ a % 4 = 2 ∨ a % 4 = 3 by omega) with h | h | h | h <;> rw [h] <;> decide
/-- Who divides a prime has the norm 1, or that of the prime. -/
theorem pr_div {a b u v : Int} (h : prI a b) (hd : Dv u v a b) : u * u + v * v = 1 ∨ u * u + v * v = a * a + b * b := by
  obtain ⟨x, y, hx, hy⟩ := hd
  have e := norm_mul x y u v
  rw [← hx, ← hy] at e
  have n1 := sq_nn u
  have n2 := sq_nn v
  have m1 := sq_nn x
  have m2 := sq_nn y
  have hpos : 1 ≤ u * u + v * v := by
    rcases Int.lt_or_le (u * u + v * v) 1 with hh | hh
    · exfalso
      have e0 : u * u + v * v = 0 := by omega
      rw [e0, Int.mul_zero] at e
      rcases h.2 with ⟨-, -, hw⟩ | ⟨n, hn, -, hw⟩
      · have := hw.1; omega
      · have := hw.1; have := Int.mul_pos (a := n) (b := n) (by omega) (by omega); omega
    · exact hh
  rcases h.2 with ⟨-, -, hw⟩ | ⟨n, hn, h4, hw⟩
  · exact wp_div hw hpos (by rw [e, Int.mul_comm])
  · rcases wp_sq hw hpos (by rw [← hn, e, Int.mul_comm]) with h1 | h1 | h1
    · exact .inl h1
    · exfalso
      have := sq_mod4 u
      have := sq_mod4 v
      omega
    · exact .inr (by rw [h1, hn])
theorem pr_pos {a b : Int} (h : prI a b) : 2 ≤ a * a + b * b := by
  rcases h.2 with ⟨-, -, hw⟩ | ⟨n, hn, -, hw⟩
  · exact hw.1
  · have := hw.1
    have := Int.mul_le_mul (a := 2) (b := 2) (c := n) (d := n) (by omega) (by omega) (by omega) (by omega)
    omega
theorem unit_is {x y : Int} (h : x * x + y * y = 1) : (x = 1 ∧ y = 0) ∨ (x = -1 ∧ y = 0) ∨ (x = 0 ∧ y = 1) ∨ (x = 0 ∧ y = -1) := by
  have n1 := sq_nn x
  have n2 := sq_nn y
  have b1 := sq_le (x := x) (k := 1) (by omega) (by omega)
  have b2 := sq_le (x := y) (k := 1) (by omega) (by omega)
  obtain rfl | rfl | rfl : x = -1 ∨ x = 0 ∨ x = 1 := by omega
  · have : y * y = 0 := by omega
    have : y = 0 := by rcases Int.mul_eq_zero.1 this with h | h <;> exact h
    omega
  · obtain rfl | rfl | rfl : y = -1 ∨ y = 0 ∨ y = 1 := by omega
    · omega
    · simp at h
    · omega
  · have : y * y = 0 := by omega
    have : y = 0 := by rcases Int.mul_eq_zero.1 this with h | h <;> exact h
    omega
theorem fi_unit {x y : Int} (h : x * x + y * y = 1) : fiA x y = 1 ∧ fiB x y = 0 := by
  rcases unit_is h with ⟨rfl, rfl⟩ | ⟨rfl, rfl⟩ | ⟨rfl, rfl⟩ | ⟨rfl, rfl⟩ <;> exact ⟨by decide, by decide⟩
/-- Primes that divide a product divide one of both. -/
theorem pr_euclid {a b c d x y : Int} (h : prI a b) (ht : tiO c d x y = true) (hv : vdO a b (tiA c d x y) (tiB c d x y) = true) : vdO a b c d = true ∨ vdO a b x y = true := by
  have hpos := pr_pos h
  have hz : ¬ (a = 0 ∧ b = 0) := by rintro ⟨rfl, rfl⟩; simp at hpos
  have ht' := ht
  simp only [tiO, Bool.and_eq_true] at ht'
  have hO : coO a b c d = true := co_mk h.1 ht'.1.1 (fun e => hz ⟨e.1, e.2.1⟩)
  obtain ⟨g, -, d1, d2, -, f1, f2, -⟩ := co_all hO
  rcases pr_div h d1 with e | e
  · right
    obtain ⟨u1, u2⟩ := fi_unit e
    rw [f1] at u1
    rw [f2] at u2
    have hap : apO a b c d = true := by simp [apO, hO, u1, u2]
    exact ap_div hap ht hv
  · left
    refine vd_Dv.2 ⟨dv_mk ht'.1.1 h.1 hz, Dv.trans ?_ d2⟩
    obtain ⟨p, q, hp, hq⟩ := d1
    have e2 := norm_mul p q (coA a b c d) (coB a b c d)
    rw [← hp, ← hq, e] at e2
    have e3 : 1 * (a * a + b * b) = (p * p + q * q) * (a * a + b * b) := by omega
    have e4 := Int.eq_of_mul_eq_mul_right (by omega) e3
    refine ⟨p, -q, ?_, ?_⟩
    · have : coA a b c d = (p * p + q * q) * coA a b c d := by rw [← e4]; omega
      rw (occs := .pos [1]) [this]
      rw (occs := .pos [1]) [hp, hq]
      grind
    · have : coB a b c d = (p * p + q * q) * coB a b c d := by rw [← e4]; omega
      rw (occs := .pos [1]) [this]
      rw (occs := .pos [1]) [hp, hq]
      grind
end Go.Proofs.Ytpjememmogaeiaa
