import Derived.Test.YtpjememmogaeiaaKa
namespace Go.Proofs.Ytpjememmogaeiaa
open Go Go.RowKit

theorem fi_assoc {a b c d : Int} (k1 : gok a b = true) (k2 : gok c d = true) : ((c = a ∧ d = b) ∨ (-d = a ∧ c = b) ∨ (-c = a ∧ -d = b) ∨ (d = a ∧ -c = b)) ↔ fiA a b = fiA c d ∧ fiB a b = fiB c d := by
  have f1 : fiA a b = tuA (fiK a b) a b := by simp [fiA, k1]
  have f2 : fiB a b = tuB (fiK a b) a b := by simp [fiB, k1]
  have f3 : fiA c d = tuA (fiK c d) c d := by simp [fiA, k2]
  have f4 : fiB c d = tuB (fiK c d) c d := by simp [fiB, k2]
  obtain ⟨a1, a2, a3, a4, a5, a6, a7, a8⟩ := tu_all a b
  obtain ⟨c1, c2, c3, c4, c5, c6, c7, c8⟩ := tu_all c d
  rw [f1, f2, f3, f4]
  rcases fi_is a b with ⟨p0, e⟩ | ⟨p0, p1, e⟩ | ⟨p0, p1, p2, e⟩ | ⟨p0, p1, p2, e⟩ <;>
  rcases fi_is c d with ⟨q0, f⟩ | ⟨q0, q1, f⟩ | ⟨q0, q1, q2, f⟩ | ⟨q0, q1, q2, f⟩ <;>
  ( rw [e, f]
    simp only [a1, a2, a3, a4, a5, a6, a7, a8, c1, c2, c3, c4, c5, c6, c7, c8]
    clear a1 a2 a3 a4 a5 a6 a7 a8 c1 c2 c3 c4 c5 c6 c7 c8 f1 f2 f3 f4 k1 k2 e f
    simp only [fiP, decide_eq_true_eq, decide_eq_false_iff_not] at *
    omega)
theorem Dv.tu (t a b : Int) (h0 : 0 ≤ t) (h3 : t ≤ 3) : Dv a b (tuA t a b) (tuB t a b) ∧ Dv (tuA t a b) (tuB t a b) a b := by
  obtain ⟨a1, a2, a3, a4, a5, a6, a7, a8⟩ := tu_all a b
  obtain rfl | rfl | rfl | rfl : t = 0 ∨ t = 1 ∨ t = 2 ∨ t = 3 := by omega
  · rw [a1, a2]; exact ⟨Dv.refl a b, Dv.refl a b⟩
  · rw [a3, a4]; exact ⟨⟨0, 1, by simp, by simp⟩, ⟨0, -1, by simp, by simp⟩⟩
  · rw [a5, a6]; exact ⟨⟨-1, 0, by simp, by simp⟩, ⟨-1, 0, by simp, by simp⟩⟩
  · rw [a7, a8]; exact ⟨⟨0, -1, by simp, by simp⟩, ⟨0, 1, by simp, by simp⟩⟩
/-- A number and its associate in the first quarter divide each other. -/
theorem fi_Dv {a b : Int} (k : gok a b = true) : Dv (fiA a b) (fiB a b) a b ∧ Dv a b (fiA a b) (fiB a b) ∧ gok (fiA a b) (fiB a b) = true ∧ fiA (fiA a b) (fiB a b) = fiA a b ∧ fiB (fiA a b) (fiB a b) = fiB a b := by
  obtain ⟨p, q, t, g, hA, hB, hT, h0, h3, hp, hx, hy, g1, g2, g3⟩ := fi_sum k
  have hO : trO t p q = true := by simp [trO, g]; omega
  obtain ⟨e1, e2⟩ := tr_t hO
  rw [e1] at hx
  rw [e2] at hy
  obtain ⟨d1, d2⟩ := Dv.tu t p q h0 h3
  rw [hx, hy] at d1 d2
  rw [hA, hB]
  exact ⟨d1, d2, g, g1, g2⟩
theorem fi_nz {a b : Int} (k : gok a b = true) (h : ¬ (a = 0 ∧ b = 0)) : ¬ (fiA a b = 0 ∧ fiB a b = 0) := by
  obtain ⟨d1, -⟩ := fi_Dv k
  rintro ⟨e1, e2⟩
  rw [e1, e2] at d1
  exact h d1.zero_left
/-- Two numbers that divide each other have one associate in the first quarter. -/
theorem fi_both {a b c d : Int} (k1 : gok a b = true) (k2 : gok c d = true) (h : Dv c d a b) (h' : Dv a b c d) : fiA a b = fiA c d ∧ fiB a b = fiB c d := by
  by_cases hz : a = 0 ∧ b = 0
  · obtain ⟨rfl, rfl⟩ := hz
    obtain ⟨rfl, rfl⟩ := h'.zero_left
    exact ⟨rfl, rfl⟩
  · have hw : ¬ (c = 0 ∧ d = 0) := by rintro ⟨rfl, rfl⟩; exact hz h.zero_left
    exact (fi_assoc k1 k2).1 (vd_both (vd_Dv.2 ⟨dv_mk k1 k2 hw, h⟩) (vd_Dv.2 ⟨dv_mk k2 k1 hz, h'⟩))

def coO (a b c d : Int) : Bool := gok a b && gok c d && !((a == 0 && b == 0) && (c == 0 && d == 0))
def gA (a b c d : Int) : Int := (gc 21 a b c d).1
def gB (a b c d : Int) : Int := (gc 21 a b c d).2
def coA (a b c d : Int) : Int := if coO a b c d then fiA (gA a b c d) (gB a b c d) else 0
def coB (a b c d : Int) : Int := if coO a b c d then fiB (gA a b c d) (gB a b c d) else 0
theorem co_is {a b c d : Int} (h : coO a b c d = true) : gok a b = true ∧ gok c d = true ∧ ¬ (a = 0 ∧ b = 0 ∧ c = 0 ∧ d = 0) := by
  simp only [coO, Bool.and_eq_true, Bool.not_eq_true'] at h
  refine ⟨h.1.1, h.1.2, ?_⟩
  rintro ⟨rfl, rfl, rfl, rfl⟩
  have := h.2
  simp at this
theorem co_mk {a b c d : Int} (k1 : gok a b = true) (k2 : gok c d = true) (h : ¬ (a = 0 ∧ b = 0 ∧ c = 0 ∧ d = 0)) : coO a b c d = true := by
  simp only [coO, k1, k2, Bool.true_and, Bool.not_eq_true', ← Bool.not_eq_true]
  intro e
  simp at e
  exact h ⟨e.1.1, e.1.2, e.2.1, e.2.2⟩
theorem nrm_21 {c d : Int} (k : gok c d = true) : c * c + d * d < 2 ^ 21 := by
  have := sq_bd k
  have e : (2 : Int) ^ 21 = 2097152 := by decide
  omega
/-- The greatest common divisor: it divides both, all common divisors divide it, it is a sum of products, and in the first quarter. -/
theorem co_all {a b c d : Int} (h : coO a b c d = true) : gok (coA a b c d) (coB a b c d) = true ∧ ¬ (coA a b c d = 0 ∧ coB a b c d = 0) ∧ Dv (coA a b c d) (coB a b c d) a b ∧ Dv (coA a b c d) (coB a b c d) c d ∧
    (∀ u v, Dv u v a b → Dv u v c d → Dv u v (coA a b c d) (coB a b c d)) ∧ fiA (coA a b c d) (coB a b c d) = coA a b c d ∧ fiB (coA a b c d) (coB a b c d) = coB a b c d ∧
    ∃ s1 s2 t1 t2, coA a b c d = s1 * a - s2 * b + (t1 * c - t2 * d) ∧ coB a b c d = s1 * b + s2 * a + (t1 * d + t2 * c) := by
  obtain ⟨k1, k2, hz⟩ := co_is h
  obtain ⟨d1, d2, d3, g, s1, s2, t1, t2, e1, e2⟩ := gc_div 21 a b c d (nrm_21 k2) k1 k2
  have hn := gc_nz 21 a b c d (nrm_21 k2) k1 k2 hz
  have eA : coA a b c d = fiA (gA a b c d) (gB a b c d) := by simp [coA, h]
  have eB : coB a b c d = fiB (gA a b c d) (gB a b c d) := by simp [coB, h]
  obtain ⟨f1, f2, f3, f4, f5⟩ := fi_Dv g
  have fn := fi_nz g hn
  rw [eA, eB]
  refine ⟨f3, fn, f1.trans d1, f1.trans d2, fun u v hu hv => (d3 u v hu hv).trans f2, f4, f5, ?_⟩
  obtain ⟨x, y, hx, hy⟩ := f2
  refine ⟨x * s1 - y * s2, x * s2 + y * s1, x * t1 - y * t2, x * t2 + y * t1, ?_, ?_⟩
  · show fiA (gc 21 a b c d).1 (gc 21 a b c d).2 = _
    rw [hx, e1, e2]; grind
  · show fiB (gc 21 a b c d).1 (gc 21 a b c d).2 = _
    rw [hy, e1, e2]; grind
/-- No other number of the first quarter is one. -/
theorem co_one {a b c d p q : Int} (h : coO a b c d = true) (k : gok p q = true) (h1 : Dv p q a b) (h2 : Dv p q c d) (h3 : ∀ u v, Dv u v a b → Dv u v c d → Dv u v p q) : fiA p q = coA a b c d ∧ fiB p q = coB a b c d := by
  obtain ⟨g, -, d1, d2, d3, f1, f2, -⟩ := co_all h
  have := fi_both k g (h3 _ _ d1 d2) (d3 _ _ h1 h2)
  rwa [f1, f2] at this
theorem coO_swap (a b c d : Int) : coO c d a b = coO a b c d := by
  unfold coO; rw [Bool.and_comm (gok c d), Bool.and_comm (c == 0 && d == 0)]
theorem co_swap (a b c d : Int) : coA c d a b = coA a b c d ∧ coB c d a b = coB a b c d := by
  cases h : coO a b c d
  · have h' := coO_swap a b c d
    rw [h] at h'
    simp [coA, coB, h, h']
  · have h' : coO c d a b = true := by rw [coO_swap]; exact h
    obtain ⟨g, -, d1, d2, d3, f1, f2, -⟩ := co_all h'
    have := co_one h g d2 d1 (fun u v hu hv => d3 u v hv hu)
    rwa [f1, f2] at this
theorem co_turn {a b c d : Int} (h : coO a b c d = true) : coO (-b) a c d = true ∧ coA (-b) a c d = coA a b c d ∧ coB (-b) a c d = coB a b c d := by
  obtain ⟨k1, k2, hz⟩ := co_is h
  have k1' := (gok_q k1).1
  have h' : coO (-b) a c d = true := co_mk k1' k2 (by omega)
  obtain ⟨t1, t2⟩ := Dv.tu 1 a b (by omega) (by omega)
  obtain ⟨-, -, a3, a4, -⟩ := tu_all a b
  rw [a3, a4] at t1 t2
  obtain ⟨g, -, d1, d2, d3, f1, f2, -⟩ := co_all h'
  have := co_one h g (d1.trans t2) d2 (fun u v hu hv => d3 u v (hu.trans t1) hv)
  rw [f1, f2] at this
  exact ⟨h', this⟩
end Go.Proofs.Ytpjememmogaeiaa
