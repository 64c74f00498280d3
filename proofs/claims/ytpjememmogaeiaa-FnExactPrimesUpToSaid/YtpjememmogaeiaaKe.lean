import Derived.Test.YtpjememmogaeiaaKd
namespace Go.Proofs.Ytpjememmogaeiaa
open Go Go.RowKit

/-- The associate in the first quarter, whatever its parts. -/
def frA (a b : Int) : Int := tuA (fiK a b) a b
def frB (a b : Int) : Int := tuB (fiK a b) a b
theorem fr_fi {a b : Int} (k : gok a b = true) : frA a b = fiA a b ∧ frB a b = fiB a b := by simp [frA, frB, fiA, fiB, k]
theorem fiK_bd (a b : Int) : 0 ≤ fiK a b ∧ fiK a b ≤ 3 := by
  rcases fi_is a b with ⟨-, e⟩ | ⟨-, -, e⟩ | ⟨-, -, -, e⟩ | ⟨-, -, -, e⟩ <;> rw [e] <;> omega
theorem gok_tu (t a b : Int) (h0 : 0 ≤ t) (h3 : t ≤ 3) : gok (tuA t a b) (tuB t a b) = gok a b := by
  obtain ⟨a1, a2, a3, a4, a5, a6, a7, a8⟩ := tu_all a b
  rw [Bool.eq_iff_iff]
  obtain rfl | rfl | rfl | rfl : t = 0 ∨ t = 1 ∨ t = 2 ∨ t = 3 := by omega
  · rw [a1, a2]
  · rw [a3, a4]; simp [gok, pok]; omega
  · rw [a5, a6]; simp [gok, pok]; omega
  · rw [a7, a8]; simp [gok, pok]; omega
theorem gok_fr (a b : Int) : gok (frA a b) (frB a b) = gok a b := gok_tu _ a b (fiK_bd a b).1 (fiK_bd a b).2
def lmA (a b c d : Int) : Int := qA a b (coA a b c d) (coB a b c d) * c - qB a b (coA a b c d) (coB a b c d) * d
def lmB (a b c d : Int) : Int := qA a b (coA a b c d) (coB a b c d) * d + qB a b (coA a b c d) (coB a b c d) * c
def leO (a b c d : Int) : Bool := gok a b && gok c d && !(a == 0 && b == 0) && !(c == 0 && d == 0) && gok (lmA a b c d) (lmB a b c d)
def leA (a b c d : Int) : Int := if leO a b c d then fiA (lmA a b c d) (lmB a b c d) else 0
def leB (a b c d : Int) : Int := if leO a b c d then fiB (lmA a b c d) (lmB a b c d) else 0
theorem le_is {a b c d : Int} (h : leO a b c d = true) : gok a b = true ∧ gok c d = true ∧ ¬ (a = 0 ∧ b = 0) ∧ ¬ (c = 0 ∧ d = 0) ∧ gok (lmA a b c d) (lmB a b c d) = true := by
  simp only [leO, Bool.and_eq_true, Bool.not_eq_true'] at h
  refine ⟨h.1.1.1.1, h.1.1.1.2, ?_, ?_, h.2⟩
  · rintro ⟨rfl, rfl⟩; have := h.1.1.2; simp at this
  · rintro ⟨rfl, rfl⟩; have := h.1.2; simp at this
theorem fi_nrm {a b : Int} (k : gok a b = true) : nrm (fiA a b) (fiB a b) = nrm a b := by
  obtain ⟨-, -, g, -⟩ := fi_Dv k
  obtain ⟨e1, e2⟩ := fr_fi k
  obtain ⟨a1, a2, a3, a4, a5, a6, a7, a8⟩ := tu_all a b
  rw [nrm_t g, nrm_t k, ← e1, ← e2]
  unfold frA frB
  rcases fi_is a b with ⟨-, e⟩ | ⟨-, -, e⟩ | ⟨-, -, -, e⟩ | ⟨-, -, -, e⟩ <;> rw [e]
  · rw [a1, a2]
  · rw [a3, a4]; grind
  · rw [a5, a6]; grind
  · rw [a7, a8]; grind
/-- The least common multiple: both divide it, its norm times that of the greatest common divisor is the product of both norms, and it divides the product of both. -/
theorem le_all {a b c d : Int} (h : leO a b c d = true) : coO a b c d = true ∧ vdO a b (leA a b c d) (leB a b c d) = true ∧ vdO c d (leA a b c d) (leB a b c d) = true ∧
    nrm (leA a b c d) (leB a b c d) * nrm (coA a b c d) (coB a b c d) = nrm a b * nrm c d ∧ (tiO a b c d = true → vdO (leA a b c d) (leB a b c d) (tiA a b c d) (tiB a b c d) = true) := by
  obtain ⟨k1, k2, hz, hw, km⟩ := le_is h
  have hO : coO a b c d = true := co_mk k1 k2 (fun e => hz ⟨e.1, e.2.1⟩)
  obtain ⟨g, gn, d1, d2, -, -, -, -⟩ := co_all hO
  have hv : vdO (coA a b c d) (coB a b c d) a b = true := vd_Dv.2 ⟨dv_mk k1 g gn, d1⟩
  obtain ⟨q1, q2⟩ := vd_q hv
  obtain ⟨t1, t2, e1, e2⟩ := d2
  have hA : leA a b c d = fiA (lmA a b c d) (lmB a b c d) := by simp [leA, h]
  have hB : leB a b c d = fiB (lmA a b c d) (lmB a b c d) := by simp [leB, h]
  obtain ⟨f1, f2, f3, -, -⟩ := fi_Dv km
  rw [hA, hB]
  have hN := fi_nrm km
  rw [hN]
  have eA : lmA a b c d = qA a b (coA a b c d) (coB a b c d) * c - qB a b (coA a b c d) (coB a b c d) * d := rfl
  have eB : lmB a b c d = qA a b (coA a b c d) (coB a b c d) * d + qB a b (coA a b c d) (coB a b c d) * c := rfl
  have nm := nrm_t km
  have n1 := nrm_t k1
  have n2 := nrm_t k2
  have n3 := nrm_t g
  generalize qA a b (coA a b c d) (coB a b c d) = q at *
  generalize qB a b (coA a b c d) (coB a b c d) = p at *
  generalize coA a b c d = x at *
  generalize coB a b c d = y at *
  generalize lmA a b c d = u at *
  generalize lmB a b c d = v at *
  have z1 : Dv a b u v := ⟨t1, t2, by rw [eA, e1, e2, q1, q2]; grind, by rw [eB, e1, e2, q1, q2]; grind⟩
  have z2 : Dv c d u v := ⟨q, p, eA, eB⟩
  refine ⟨hO, vd_Dv.2 ⟨dv_mk f3 k1 hz, z1.trans f2⟩, vd_Dv.2 ⟨dv_mk f3 k2 hw, z2.trans f2⟩, ?_, ?_⟩
  · rw [nm, n1, n2, n3, eA, eB]
    have m1 := norm_mul q p c d
    have m2 := norm_mul q p x y
    rw [← q1, ← q2] at m2
    rw [m1, m2]; grind
  · intro ht
    have ht' := ht
    simp only [tiO, Bool.and_eq_true] at ht'
    obtain ⟨-, p1, p2⟩ := tiO_t ht'.1.1 ht'.1.2 ht'.2
    have hm : Dv u v (tiA a b c d) (tiB a b c d) := ⟨x, y, by rw [p1, eA, eB, q1, q2]; grind, by rw [p2, eA, eB, q1, q2]; grind⟩
    have hnz : ¬ (u = 0 ∧ v = 0) := by
      rintro ⟨rfl, rfl⟩
      obtain ⟨z3, z4⟩ := hm.zero_left
      have hn := nz_pos hz
      have hn2 := nz_pos hw
      have e := norm_mul a b c d
      rw [← p1, ← p2, z3, z4] at e
      have := Int.mul_pos hn hn2
      simp at e; omega
    exact vd_Dv.2 ⟨dv_mk (by rw [p1, p2]; exact ht'.2) f3 (fi_nz km hnz), f1.trans hm⟩
end Go.Proofs.Ytpjememmogaeiaa
