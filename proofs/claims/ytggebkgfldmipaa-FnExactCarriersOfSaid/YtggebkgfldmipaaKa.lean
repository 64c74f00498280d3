import Derived.Test.YtggebkgfldmipaaJa
import Derived.Test.YtggebkgfldmipaaHu
namespace Go.Proofs.Ytggebkgfldmipaa
open Go Go.RowKit

/-- (c, d) divides (a, b). -/
def Dv (c d a b : Int) : Prop := ∃ x y, a = x * c - y * d ∧ b = x * d + y * c
theorem Dv.refl (a b : Int) : Dv a b a b := ⟨1, 0, by simp, by simp⟩
theorem Dv.zero (a b : Int) : Dv a b 0 0 := ⟨0, 0, by simp, by simp⟩
theorem Dv.trans {a b c d e f : Int} (h : Dv a b c d) (h' : Dv c d e f) : Dv a b e f := by
  obtain ⟨x, y, hx, hy⟩ := h
  obtain ⟨u, v, hu, hv⟩ := h'
  exact ⟨u * x - v * y, u * y + v * x, by rw [hu, hx, hy]; grind, by rw [hv, hx, hy]; grind⟩
theorem Dv.add {a b c d e f : Int} (h : Dv a b c d) (h' : Dv a b e f) : Dv a b (c + e) (d + f) := by
  obtain ⟨x, y, hx, hy⟩ := h
  obtain ⟨u, v, hu, hv⟩ := h'
  exact ⟨x + u, y + v, by rw [hx, hu]; grind, by rw [hy, hv]; grind⟩
theorem Dv.mul {a b c d : Int} (x y : Int) (h : Dv a b c d) : Dv a b (x * c - y * d) (x * d + y * c) := h.trans ⟨x, y, rfl, rfl⟩
theorem Dv.zero_left {a b : Int} (h : Dv 0 0 a b) : a = 0 ∧ b = 0 := by
  obtain ⟨x, y, hx, hy⟩ := h; simp at hx hy; exact ⟨hx, hy⟩
theorem Dv.neg {a b c d : Int} (h : Dv a b c d) : Dv a b (-c) (-d) := by
  have := h.mul (-1) 0; simpa using this
theorem vd_Dv {a b c d : Int} : vdO c d a b = true ↔ dvO a b c d = true ∧ Dv c d a b :=
  ⟨fun h => ⟨vd_dv h, (vd_iff (vd_dv h)).1 h⟩, fun h => (vd_iff h.1).2 h.2⟩
theorem rest_is (a b c d : Int) : a = qA a b c d * c - qB a b c d * d + rA a b c d ∧ b = qA a b c d * d + qB a b c d * c + rB a b c d := by
  unfold rA rB; omega
theorem Dv.rest {u v a b c d : Int} (h : Dv u v a b) (h' : Dv u v c d) : Dv u v (rA a b c d) (rB a b c d) := by
  have h1 := (h'.mul (qA a b c d) (qB a b c d)).neg
  have h2 := h.add h1
  obtain ⟨e1, e2⟩ := rest_is a b c d
  rwa [show a + -(qA a b c d * c - qB a b c d * d) = rA a b c d by omega, show b + -(qA a b c d * d + qB a b c d * c) = rB a b c d by omega] at h2
theorem Dv.back {u v a b c d : Int} (h : Dv u v c d) (h' : Dv u v (rA a b c d) (rB a b c d)) : Dv u v a b := by
  have h2 := (h.mul (qA a b c d) (qB a b c d)).add h'
  obtain ⟨e1, e2⟩ := rest_is a b c d
  rwa [← e1, ← e2] at h2

/-- Dividing again and again, with fuel: a greatest common divisor. -/
def gc : Nat → Int → Int → Int → Int → Int × Int
  | 0, a, b, _, _ => (a, b)
  | k + 1, a, b, c, d => if c = 0 ∧ d = 0 then (a, b) else gc k c d (rA a b c d) (rB a b c d)
/-- How often is divided. -/
def st : Nat → Int → Int → Int → Int → Nat
  | 0, _, _, _, _ => 0
  | k + 1, a, b, c, d => if c = 0 ∧ d = 0 then 0 else st k c d (rA a b c d) (rB a b c d) + 1
theorem nz_pos {c d : Int} (h : ¬ (c = 0 ∧ d = 0)) : 0 < c * c + d * d := by
  have h1 := sq_nn c
  have h2 := sq_nn d
  rcases Decidable.em (c * c + d * d = 0) with e | e
  · exfalso
    have e1 : c * c = 0 := by omega
    have e2 : d * d = 0 := by omega
    exact h ⟨by rcases Int.mul_eq_zero.1 e1 with h | h <;> exact h, by rcases Int.mul_eq_zero.1 e2 with h | h <;> exact h⟩
  · omega
theorem pos_nz {c d : Int} (h : 0 < c * c + d * d) : ¬ (c = 0 ∧ d = 0) := by rintro ⟨rfl, rfl⟩; simp at h
theorem sq_zero {c d : Int} (h : c * c + d * d < 1) : c = 0 ∧ d = 0 := by
  rcases Decidable.em (c = 0 ∧ d = 0) with e | e
  · exact e
  · have := nz_pos e; omega
theorem gc_div (k : Nat) : ∀ a b c d : Int, c * c + d * d < 2 ^ k → gok a b = true → gok c d = true →
    Dv (gc k a b c d).1 (gc k a b c d).2 a b ∧ Dv (gc k a b c d).1 (gc k a b c d).2 c d ∧ (∀ u v, Dv u v a b → Dv u v c d → Dv u v (gc k a b c d).1 (gc k a b c d).2) ∧ gok (gc k a b c d).1 (gc k a b c d).2 = true ∧
    ∃ s1 s2 t1 t2, (gc k a b c d).1 = s1 * a - s2 * b + (t1 * c - t2 * d) ∧ (gc k a b c d).2 = s1 * b + s2 * a + (t1 * d + t2 * c) := by
  induction k with
  | zero =>
    intro a b c d h k1 k2
    obtain ⟨rfl, rfl⟩ := sq_zero (by simpa using h)
    exact ⟨Dv.refl a b, Dv.zero a b, fun u v h _ => h, k1, 1, 0, 0, 0, by simp [gc], by simp [gc]⟩
  | succ k ih =>
    intro a b c d h k1 k2
    by_cases hz : c = 0 ∧ d = 0
    · obtain ⟨rfl, rfl⟩ := hz
      have e : gc (k + 1) a b 0 0 = (a, b) := by simp [gc]
      rw [e]
      exact ⟨Dv.refl a b, Dv.zero a b, fun u v h _ => h, k1, 1, 0, 0, 0, by simp, by simp⟩
    · have e : gc (k + 1) a b c d = gc k c d (rA a b c d) (rB a b c d) := by rw [gc, if_neg hz]
      have hd := dv_mk k1 k2 hz
      have hh := rest_half (a := a) (b := b) (nz_pos hz)
      have hp : (2 : Int) ^ (k + 1) = 2 * 2 ^ k := by rw [Int.pow_succ]; omega
      obtain ⟨h1, h2, h3, h4, s1, s2, t1, t2, h5, h6⟩ := ih c d (rA a b c d) (rB a b c d) (by omega) k2 (rest_gok hd)
      rw [e]
      refine ⟨Dv.back h1 h2, h1, fun u v hu hv => h3 u v hv (Dv.rest hu hv), h4, t1, t2, s1 - (t1 * qA a b c d - t2 * qB a b c d), s2 - (t1 * qB a b c d + t2 * qA a b c d), ?_, ?_⟩
      · rw [h5]; unfold rA rB; grind
      · rw [h6]; unfold rA rB; grind
theorem gc_nz (k : Nat) (a b c d : Int) (h : c * c + d * d < 2 ^ k) (k1 : gok a b = true) (k2 : gok c d = true) (hz : ¬ (a = 0 ∧ b = 0 ∧ c = 0 ∧ d = 0)) : ¬ ((gc k a b c d).1 = 0 ∧ (gc k a b c d).2 = 0) := by
  obtain ⟨h1, h2, -⟩ := gc_div k a b c d h k1 k2
  rintro ⟨e1, e2⟩
  rw [e1, e2] at h1 h2
  exact hz ⟨h1.zero_left.1, h1.zero_left.2, h2.zero_left.1, h2.zero_left.2⟩
theorem st_le (k : Nat) : ∀ a b c d : Int, c * c + d * d < 2 ^ k → gok a b = true → gok c d = true → st k a b c d ≤ k ∧ (¬ (c = 0 ∧ d = 0) → 0 < st k a b c d ∧ (2 : Int) ^ (st k a b c d) ≤ 2 * (c * c + d * d)) ∧ (c = 0 ∧ d = 0 → st k a b c d = 0) := by
  induction k with
  | zero =>
    intro a b c d h _ _
    obtain ⟨rfl, rfl⟩ := sq_zero (by simpa using h)
    exact ⟨Nat.le_refl _, fun h => absurd ⟨rfl, rfl⟩ h, fun _ => rfl⟩
  | succ k ih =>
    intro a b c d h k1 k2
    by_cases hz : c = 0 ∧ d = 0
    · have e : st (k + 1) a b c d = 0 := by rw [st, if_pos hz]
      rw [e]
      exact ⟨Nat.zero_le _, fun h => absurd hz h, fun _ => rfl⟩
    · have e : st (k + 1) a b c d = st k c d (rA a b c d) (rB a b c d) + 1 := by rw [st, if_neg hz]
      have hd := dv_mk k1 k2 hz
      have hpos := nz_pos hz
      have hh := rest_half (a := a) (b := b) hpos
      have hp : (2 : Int) ^ (k + 1) = 2 * 2 ^ k := by rw [Int.pow_succ]; omega
      obtain ⟨h1, h2, h3⟩ := ih c d (rA a b c d) (rB a b c d) (by omega) k2 (rest_gok hd)
      rw [e]
      refine ⟨by omega, fun _ => ⟨by omega, ?_⟩, fun h => absurd h hz⟩
      rw [Int.pow_succ]
      by_cases hr : rA a b c d = 0 ∧ rB a b c d = 0
      · rw [h3 hr]; omega
      · have := (h2 hr).2; omega
theorem st_one {k : Nat} {a b c d : Int} (h : c * c + d * d < 2 ^ (k + 1)) (k1 : gok a b = true) (k2 : gok c d = true) : st (k + 1) a b c d = 1 ↔ vdO c d a b = true := by
  by_cases hz : c = 0 ∧ d = 0
  · obtain ⟨rfl, rfl⟩ := hz
    have e : st (k + 1) a b 0 0 = 0 := by simp [st]
    have e2 : vdO 0 0 a b = false := by simp [vdO, dvO]
    rw [e, e2]; simp
  · have e : st (k + 1) a b c d = st k c d (rA a b c d) (rB a b c d) + 1 := by rw [st, if_neg hz]
    have hd := dv_mk k1 k2 hz
    have hh := rest_half (a := a) (b := b) (nz_pos hz)
    have hp : (2 : Int) ^ (k + 1) = 2 * 2 ^ k := by rw [Int.pow_succ]; omega
    obtain ⟨-, h2, h3⟩ := st_le k c d (rA a b c d) (rB a b c d) (by omega) k2 (rest_gok hd)
    obtain ⟨-, -, e3, e4⟩ := dv_t hd
    rw [e]
    simp only [vdO, hd, Bool.true_and, Bool.and_eq_true, beq_iff_eq, e3, e4]
    constructor
    · intro h0
      rcases Decidable.em (rA a b c d = 0 ∧ rB a b c d = 0) with hr | hr
      · exact hr
      · have := (h2 hr).1; omega
    · intro hr; rw [h3 hr]
end Go.Proofs.Ytggebkgfldmipaa

namespace Go.Proofs.Ytggebkgfldmipaa
open Go Go.RowKit

theorem fi_assoc {a b c d : Int} (k1 : gok a b = true) (k2 : gok c d = true) : ((c = a ∧ d = b) ∨ (-d = a ∧ c = b) ∨ (-c = a ∧ -d = b) ∨ (d = a ∧ -c = b)) ↔ fiA a b = fiA c d ∧ fiB a b = fiB c d := by
  have f1 : fiA a b = tuA (fiK a b) a b := by simp [fiA, k1]
  have f2 : fiB a b = tuB (fiK a b) a b := by simp [fiB, k1]
  have f3 : fiA c d = tuA (fiK c d) c d := by simp [fiA, k2]
  have f4 : fiB c d = tuB (fiK c d) c d := by simp [fiB, k2]
  obtain ⟨a1, a2, a3, a4, a5, a6, a7, a8⟩ := tu_all a b
  obtain ⟨c1, c2, c3, c4, c5, c6, c7, c8⟩ := tu_all c d
  rw [f1, f2, f3, f4]
  rcases fi_is a b with ⟨p0, e⟩ | ⟨p0, p1, e⟩ | ⟨p0, p1, p2, e⟩ | ⟨p0, p1, p2, e⟩ <;>
  rcases fi_is c d with ⟨q0, f⟩ | ⟨q0, q1, f⟩ | ⟨q0, q1, q2, f⟩ | ⟨q0, q1, q2, f⟩ <;>
  ( rw [e, f]
    simp only [a1, a2, a3, a4, a5, a6, a7, a8, c1, c2, c3, c4, c5, c6, c7, c8]
    clear a1 a2 a3 a4 a5 a6 a7 a8 c1 c2 c3 c4 c5 c6 c7 c8 f1 f2 f3 f4 k1 k2 e f
    simp only [fiP, decide_eq_true_eq, decide_eq_false_iff_not] at *
    omega)
theorem Dv.tu (t a b : Int) (h0 : 0 ≤ t) (h3 : t ≤ 3) : Dv a b (tuA t a b) (tuB t a b) ∧ Dv (tuA t a b) (tuB t a b) a b := by
  obtain ⟨a1, a2, a3, a4, a5, a6, a7, a8⟩ := tu_all a b
  obtain rfl | rfl | rfl | rfl : t = 0 ∨ t = 1 ∨ t = 2 ∨ t = 3 := by omega
  · rw [a1, a2]; exact ⟨Dv.refl a b, Dv.refl a b⟩
  · rw [a3, a4]; exact ⟨⟨0, 1, by simp, by simp⟩, ⟨0, -1, by simp, by simp⟩⟩
  · rw [a5, a6]; exact ⟨⟨-1, 0, by simp, by simp⟩, ⟨-1, 0, by simp, by simp⟩⟩
  · rw [a7, a8]; exact ⟨⟨0, -1, by simp, by simp⟩, ⟨0, 1, by simp, by simp⟩⟩
/-- A number and its associate in the first quarter divide each other. -/
theorem fi_Dv {a b : Int} (k : gok a b = true) : Dv (fiA a b) (fiB a b) a b ∧ Dv a b (fiA a b) (fiB a b) ∧ gok (fiA a b) (fiB a b) = true ∧ fiA (fiA a b) (fiB a b) = fiA a b ∧ fiB (fiA a b) (fiB a b) = fiB a b := by
  obtain ⟨p, q, t, g, hA, hB, hT, h0, h3, hp, hx, hy, g1, g2, g3⟩ := fi_sum k
  have hO : trO t p q = true := by simp [trO, g]; omega
  obtain ⟨e1, e2⟩ := tr_t hO
  rw [e1] at hx
  rw [e2] at hy
  obtain ⟨d1, d2⟩ := Dv.tu t p q h0 h3
  rw [hx, hy] at d1 d2
  rw [hA, hB]
  exact ⟨d1, d2, g, g1, g2⟩
theorem fi_nz {a b : Int} (k : gok a b = true) (h : ¬ (a = 0 ∧ b = 0)) : ¬ (fiA a b = 0 ∧ fiB a b = 0) := by
  obtain ⟨d1, -⟩ := fi_Dv k
  rintro ⟨e1, e2⟩
  rw [e1, e2] at d1
  exact h d1.zero_left
/-- Two numbers that divide each other have one associate in the first quarter. -/
theorem fi_both {a b c d : Int} (k1 : gok a b = true) (k2 : gok c d = true) (h : Dv c d a b) (h' : Dv a b c d) : fiA a b = fiA c d ∧ fiB a b = fiB c d := by
  by_cases hz : a = 0 ∧ b = 0
  · obtain ⟨rfl, rfl⟩ := hz
    obtain ⟨rfl, rfl⟩ := h'.zero_left
    exact ⟨rfl, rfl⟩
  · have hw : ¬ (c = 0 ∧ d = 0) := by rintro ⟨rfl, rfl⟩; exact hz h.zero_left
    exact (fi_assoc k1 k2).1 (vd_both (vd_Dv.2 ⟨dv_mk k1 k2 hw, h⟩) (vd_Dv.2 ⟨dv_mk k2 k1 hz, h'⟩))

def coO (a b c d : Int) : Bool := gok a b && gok c d && !((a == 0 && b == 0) && (c == 0 && d == 0))
def gA (a b c d : Int) : Int := (gc 21 a b c d).1
def gB (a b c d : Int) : Int := (gc 21 a b c d).2
def coA (a b c d : Int) : Int := if coO a b c d then fiA (gA a b c d) (gB a b c d) else 0
def coB (a b c d : Int) : Int := if coO a b c d then fiB (gA a b c d) (gB a b c d) else 0
theorem co_is {a b c d : Int} (h : coO a b c d = true) : gok a b = true ∧ gok c d = true ∧ ¬ (a = 0 ∧ b = 0 ∧ c = 0 ∧ d = 0) := by
  simp only [coO, Bool.and_eq_true, Bool.not_eq_true'] at h
  refine ⟨h.1.1, h.1.2, ?_⟩
  rintro ⟨rfl, rfl, rfl, rfl⟩
  have := h.2
  simp at this
theorem co_mk {a b c d : Int} (k1 : gok a b = true) (k2 : gok c d = true) (h : ¬ (a = 0 ∧ b = 0 ∧ c = 0 ∧ d = 0)) : coO a b c d = true := by
  simp only [coO, k1, k2, Bool.true_and, Bool.not_eq_true', ← Bool.not_eq_true]
  intro e
  simp at e
  exact h ⟨e.1.1, e.1.2, e.2.1, e.2.2⟩
theorem nrm_21 {c d : Int} (k : gok c d = true) : c * c + d * d < 2 ^ 21 := by
  have := sq_bd k
  have e : (2 : Int) ^ 21 = 2097152 := by decide
  omega
/-- The greatest common divisor: it divides both, all common divisors divide it, it is a sum of products, and in the first quarter. -/
theorem co_all {a b c d : Int} (h : coO a b c d = true) : gok (coA a b c d) (coB a b c d) = true ∧ ¬ (coA a b c d = 0 ∧ coB a b c d = 0) ∧ Dv (coA a b c d) (coB a b c d) a b ∧ Dv (coA a b c d) (coB a b c d) c d ∧
    (∀ u v, Dv u v a b → Dv u v c d → Dv u v (coA a b c d) (coB a b c d)) ∧ fiA (coA a b c d) (coB a b c d) = coA a b c d ∧ fiB (coA a b c d) (coB a b c d) = coB a b c d ∧
    ∃ s1 s2 t1 t2, coA a b c d = s1 * a - s2 * b + (t1 * c - t2 * d) ∧ coB a b c d = s1 * b + s2 * a + (t1 * d + t2 * c) := by
  obtain ⟨k1, k2, hz⟩ := co_is h
  obtain ⟨d1, d2, d3, g, s1, s2, t1, t2, e1, e2⟩ := gc_div 21 a b c d (nrm_21 k2) k1 k2
  have hn := gc_nz 21 a b c d (nrm_21 k2) k1 k2 hz
  have eA : coA a b c d = fiA (gA a b c d) (gB a b c d) := by simp [coA, h]
  have eB : coB a b c d = fiB (gA a b c d) (gB a b c d) := by simp [coB, h]
  obtain ⟨f1, f2, f3, f4, f5⟩ := fi_Dv g
  have fn := fi_nz g hn
  rw [eA, eB]
  refine ⟨f3, fn, f1.trans d1, f1.trans d2, fun u v hu hv => (d3 u v hu hv).trans f2, f4, f5, ?_⟩
  obtain ⟨x, y, hx, hy⟩ := f2
  refine ⟨x * s1 - y * s2, x * s2 + y * s1, x * t1 - y * t2, x * t2 + y * t1, ?_, ?_⟩
  · show fiA (gc 21 a b c d).1 (gc 21 a b c d).2 = _
    rw [hx, e1, e2]; grind
  · show fiB (gc 21 a b c d).1 (gc 21 a b c d).2 = _
    rw [hy, e1, e2]; grind
/-- No other number of the first quarter is one. -/
theorem co_one {a b c d p q : Int} (h : coO a b c d = true) (k : gok p q = true) (h1 : Dv p q a b) (h2 : Dv p q c d) (h3 : ∀ u v, Dv u v a b → Dv u v c d → Dv u v p q) : fiA p q = coA a b c d ∧ fiB p q = coB a b c d := by
  obtain ⟨g, -, d1, d2, d3, f1, f2, -⟩ := co_all h
  have := fi_both k g (h3 _ _ d1 d2) (d3 _ _ h1 h2)
  rwa [f1, f2] at this
theorem coO_swap (a b c d : Int) : coO c d a b = coO a b c d := by
  unfold coO; rw [Bool.and_comm (gok c d), Bool.and_comm (c == 0 && d == 0)]
theorem co_swap (a b c d : Int) : coA c d a b = coA a b c d ∧ coB c d a b = coB a b c d := by
  cases h : coO a b c d
  · have h' := coO_swap a b c d
    rw [h] at h'
    simp [coA, coB, h, h']
  · have h' : coO c d a b = true := by rw [coO_swap]; exact h
    obtain ⟨g, -, d1, d2, d3, f1, f2, -⟩ := co_all h'
    have := co_one h g d2 d1 (fun u v hu hv => d3 u v hv hu)
    rwa [f1, f2] at this
theorem co_turn {a b c d : Int} (h : coO a b c d = true) : coO (-b) a c d = true ∧ coA (-b) a c d = coA a b c d ∧ coB (-b) a c d = coB a b c d := by
  obtain ⟨k1, k2, hz⟩ := co_is h
  have k1' := (gok_q k1).1
  have h' : coO (-b) a c d = true := co_mk k1' k2 (by omega)
  obtain ⟨t1, t2⟩ := Dv.tu 1 a b (by omega) (by omega)
  obtain ⟨-, -, a3, a4, -⟩ := tu_all a b
  rw [a3, a4] at t1 t2
  obtain ⟨g, -, d1, d2, d3, f1, f2, -⟩ := co_all h'
  have := co_one h g (d1.trans t2) d2 (fun u v hu hv => d3 u v (hu.trans t1) hv)
  rw [f1, f2] at this
  exact ⟨h', this⟩
end Go.Proofs.Ytggebkgfldmipaa

namespace Go.Proofs.Ytggebkgfldmipaa
open Go Go.RowKit

def apO (a b c d : Int) : Bool := coO a b c d && (coA a b c d == 1 && coB a b c d == 0)
/-- Two numbers are apart exactly if a sum of products is 1. -/
theorem ap_iff {a b c d : Int} (k1 : gok a b = true) (k2 : gok c d = true) : apO a b c d = true ↔ ∃ s1 s2 t1 t2, 1 = s1 * a - s2 * b + (t1 * c - t2 * d) ∧ 0 = s1 * b + s2 * a + (t1 * d + t2 * c) := by
  constructor
  · intro h
    simp only [apO, Bool.and_eq_true, beq_iff_eq] at h
    obtain ⟨hO, e1, e2⟩ := h
    obtain ⟨-, -, -, -, -, -, -, s1, s2, t1, t2, h1, h2⟩ := co_all hO
    rw [e1] at h1
    rw [e2] at h2
    exact ⟨s1, s2, t1, t2, h1, h2⟩
  · rintro ⟨s1, s2, t1, t2, h1, h2⟩
    have hO : coO a b c d = true := co_mk k1 k2 (by rintro ⟨rfl, rfl, rfl, rfl⟩; simp at h1)
    obtain ⟨g, -, d1, d2, -, f1, f2, -⟩ := co_all hO
    have hu : Dv (coA a b c d) (coB a b c d) 1 0 := by
      have := (d1.mul s1 s2).add (d2.mul t1 t2)
      rwa [← h1, ← h2] at this
    have ho : Dv 1 0 (coA a b c d) (coB a b c d) := ⟨coA a b c d, coB a b c d, by simp, by simp⟩
    have := fi_both g (by decide : gok 1 0 = true) ho hu
    rw [f1, f2] at this
    simp only [apO, hO, Bool.true_and, Bool.and_eq_true, beq_iff_eq]
    rw [this.1, this.2]
    exact ⟨by decide, by decide⟩
theorem ap_ok {a b c d : Int} (h : apO a b c d = true) : gok a b = true ∧ gok c d = true := by
  simp only [apO, Bool.and_eq_true] at h
  exact ⟨(co_is h.1).1, (co_is h.1).2.1⟩
theorem ap_swap (a b c d : Int) : apO c d a b = apO a b c d := by
  unfold apO; rw [coO_swap, (co_swap a b c d).1, (co_swap a b c d).2]
theorem ap_times {a b c d x y : Int} (h : apO a b c d = true) (h' : apO a b x y = true) (ht : tiO c d x y = true) : apO a b (tiA c d x y) (tiB c d x y) = true := by
  obtain ⟨k1, k2⟩ := ap_ok h
  have ht' := ht
  simp only [tiO, Bool.and_eq_true] at ht'
  obtain ⟨-, e1, e2⟩ := tiO_t ht'.1.1 ht'.1.2 ht'.2
  obtain ⟨s1, s2, t1, t2, h1, h2⟩ := (ap_iff k1 k2).1 h
  obtain ⟨s3, s4, t3, t4, h3, h4⟩ := (ap_iff k1 ht'.1.2).1 h'
  refine (ap_iff k1 (by rw [e1, e2]; exact ht'.2)).2 ?_
  rw [e1, e2]
  -- 1 = (s z + t w) (s' z + t' v) = (s + t w s') z + t t' w v, since s (s' z + t' v) = s
  refine ⟨s1 + ((t1 * c - t2 * d) * s3 - (t1 * d + t2 * c) * s4), s2 + ((t1 * c - t2 * d) * s4 + (t1 * d + t2 * c) * s3), t1 * t3 - t2 * t4, t1 * t4 + t2 * t3, ?_, ?_⟩
  · have e : (1 : Int) = s1 * a - s2 * b + ((t1 * c - t2 * d) * (s3 * a - s4 * b + (t3 * x - t4 * y)) - (t1 * d + t2 * c) * (s3 * b + s4 * a + (t3 * y + t4 * x))) := by rw [← h3, ← h4]; omega
    rw [e]; grind
  · have e : (0 : Int) = s1 * b + s2 * a + ((t1 * c - t2 * d) * (s3 * b + s4 * a + (t3 * y + t4 * x)) + (t1 * d + t2 * c) * (s3 * a - s4 * b + (t3 * x - t4 * y))) := by rw [← h3, ← h4]; omega
    rw [e]; grind
/-- Who divides a product, and has nothing in common with the one, divides the other one. -/
theorem ap_div {a b c d x y : Int} (h : apO a b c d = true) (ht : tiO c d x y = true) (hv : vdO a b (tiA c d x y) (tiB c d x y) = true) : vdO a b x y = true := by
  obtain ⟨k1, k2⟩ := ap_ok h
  have ht' := ht
  simp only [tiO, Bool.and_eq_true] at ht'
  obtain ⟨-, e1, e2⟩ := tiO_t ht'.1.1 ht'.1.2 ht'.2
  obtain ⟨hd, hD⟩ := vd_Dv.1 hv
  obtain ⟨s1, s2, t1, t2, h1, h2⟩ := (ap_iff k1 k2).1 h
  have hz : ¬ (a = 0 ∧ b = 0) := pos_nz (dv_is hd).2.2
  refine vd_Dv.2 ⟨dv_mk ht'.1.2 k1 hz, ?_⟩
  rw [e1, e2] at hD
  have h3 := ((Dv.refl a b).mul (x * s1 - y * s2) (x * s2 + y * s1)).add (hD.mul t1 t2)
  have ex : x = (x * s1 - y * s2) * a - (x * s2 + y * s1) * b + (t1 * (c * x - d * y) - t2 * (c * y + d * x)) := by
    have e : x = x * (s1 * a - s2 * b + (t1 * c - t2 * d)) - y * (s1 * b + s2 * a + (t1 * d + t2 * c)) := by rw [← h1, ← h2]; simp
    rw (occs := .pos [1]) [e]; grind
  have ey : y = (x * s1 - y * s2) * b + (x * s2 + y * s1) * a + (t1 * (c * y + d * x) + t2 * (c * x - d * y)) := by
    have e : y = x * (s1 * b + s2 * a + (t1 * d + t2 * c)) + y * (s1 * a - s2 * b + (t1 * c - t2 * d)) := by rw [← h1, ← h2]; simp
    rw (occs := .pos [1]) [e]; grind
  rw [← ex, ← ey] at h3
  exact h3

/-- The factors for both, with fuel: each of the four numbers by its parts. -/
def fc : Nat → Int → Int → Int → Int → Int → Int → Int → Int → Int → Int → Int → Int → Int × Int × Int × Int
  | 0, _, _, _, _, A, A', B, B', _, _, _, _ => (A, A', B, B')
  | k + 1, a, b, c, d, A, A', B, B', C, C', D, D' => if c = 0 ∧ d = 0 then (A, A', B, B') else
    fc k c d (rA a b c d) (rB a b c d) C C' D D' (A - (qA a b c d * C - qB a b c d * C')) (A' - (qA a b c d * C' + qB a b c d * C)) (B - (qA a b c d * D - qB a b c d * D')) (B' - (qA a b c d * D' + qB a b c d * D))
theorem fc_sum (z1 z2 w1 w2 : Int) (k : Nat) : ∀ a b c d A A' B B' C C' D D' : Int, a = A * z1 - A' * z2 + (B * w1 - B' * w2) → b = A * z2 + A' * z1 + (B * w2 + B' * w1) → c = C * z1 - C' * z2 + (D * w1 - D' * w2) → d = C * z2 + C' * z1 + (D * w2 + D' * w1) →
    (gc k a b c d).1 = (fc k a b c d A A' B B' C C' D D').1 * z1 - (fc k a b c d A A' B B' C C' D D').2.1 * z2 + ((fc k a b c d A A' B B' C C' D D').2.2.1 * w1 - (fc k a b c d A A' B B' C C' D D').2.2.2 * w2) ∧
    (gc k a b c d).2 = (fc k a b c d A A' B B' C C' D D').1 * z2 + (fc k a b c d A A' B B' C C' D D').2.1 * z1 + ((fc k a b c d A A' B B' C C' D D').2.2.1 * w2 + (fc k a b c d A A' B B' C C' D D').2.2.2 * w1) := by
  induction k with
  | zero => intro a b c d A A' B B' C C' D D' h1 h2 _ _; exact ⟨h1, h2⟩
  | succ k ih =>
    intro a b c d A A' B B' C C' D D' h1 h2 h3 h4
    by_cases hz : c = 0 ∧ d = 0
    · rw [gc, if_pos hz, fc, if_pos hz]; exact ⟨h1, h2⟩
    · rw [gc, if_neg hz, fc, if_neg hz]
      refine ih c d _ _ C C' D D' _ _ _ _ h3 h4 ?_ ?_
      · unfold rA
        generalize qA a b c d = q
        generalize qB a b c d = p
        rw [h1, h3, h4]; grind
      · unfold rB
        generalize qA a b c d = q
        generalize qB a b c d = p
        rw [h2, h3, h4]; grind
end Go.Proofs.Ytggebkgfldmipaa

namespace Go.Proofs.Ytggebkgfldmipaa
open Go Go.RowKit

def N2 (x y : Int) : Int := x * x + y * y
theorem N2_nn (x y : Int) : 0 ≤ N2 x y := by unfold N2; have := sq_nn x; have := sq_nn y; omega
theorem N2_mul (x y c d : Int) : N2 (x * c - y * d) (x * d + y * c) = N2 x y * N2 c d := by unfold N2; grind
/-- The norm of a difference. -/
theorem N2_sub (a b c d : Int) : N2 (a - c) (b - d) ≤ 2 * N2 a b + 2 * N2 c d := by
  have h1 := sq_nn (a + c)
  have h2 := sq_nn (b + d)
  have e : N2 (a - c) (b - d) = 2 * N2 a b + 2 * N2 c d - ((a + c) * (a + c) + (b + d) * (b + d)) := by unfold N2; grind
  omega
theorem nq_bd {a b c d : Int} (h : 0 < N2 c d) : N2 (qA a b c d) (qB a b c d) * N2 c d ≤ 2 * N2 a b + N2 c d := by
  have hh := rest_half (a := a) (b := b) h
  change 2 * N2 (rA a b c d) (rB a b c d) ≤ N2 c d at hh
  have e : N2 (qA a b c d) (qB a b c d) * N2 c d = N2 (a - rA a b c d) (b - rB a b c d) := by
    rw [← N2_mul]; unfold rA rB; congr 1 <;> omega
  have := N2_sub a b (rA a b c d) (rB a b c d)
  omega
theorem mul_le {x y z : Int} (h : x ≤ y) (hz : 0 ≤ z) : x * z ≤ y * z := Int.mul_le_mul_of_nonneg_right h hz
/-- How factors grow: with each step of dividing at most six times, counted with the norm of what is divided. -/
theorem fb_step {a b c d A A' C C' P : Int} (hw : 0 < N2 c d) (h2 : 2 * N2 c d ≤ N2 a b) (hA : N2 A A' * N2 a b ≤ P) (hC : N2 C C' * N2 a b ≤ P) :
    N2 C C' * N2 c d ≤ P ∧ N2 (A - (qA a b c d * C - qB a b c d * C')) (A' - (qA a b c d * C' + qB a b c d * C)) * N2 c d ≤ 6 * P := by
  have hq := nq_bd (a := a) (b := b) hw
  have s := N2_sub A A' (qA a b c d * C - qB a b c d * C') (qA a b c d * C' + qB a b c d * C)
  rw [N2_mul] at s
  generalize qA a b c d = q at *
  generalize qB a b c d = p at *
  have nA := N2_nn A A'
  have nC := N2_nn C C'
  have nz := N2_nn a b
  generalize N2 (A - (q * C - p * C')) (A' - (q * C' + p * C)) = X at *
  generalize N2 A A' = U at *
  generalize N2 C C' = V at *
  generalize N2 q p = W at *
  generalize N2 a b = Z at *
  generalize N2 c d = Y at *
  have m1 : V * (2 * Y) ≤ V * Z := Int.mul_le_mul_of_nonneg_left h2 nC
  have m2 : U * (2 * Y) ≤ U * Z := Int.mul_le_mul_of_nonneg_left h2 nA
  have m3 : V * (W * Y) ≤ V * (2 * Z + Y) := Int.mul_le_mul_of_nonneg_left hq nC
  have m4 := mul_le s (show 0 ≤ Y by omega)
  have e1 : (2 * U + 2 * (W * V)) * Y = 2 * (U * Y) + 2 * (V * (W * Y)) := by grind
  have e2 : V * (2 * Z + Y) = 2 * (V * Z) + V * Y := by grind
  have e3 : V * (2 * Y) = 2 * (V * Y) := by grind
  have e4 : U * (2 * Y) = 2 * (U * Y) := by grind
  have p1 : 0 ≤ V * Y := Int.mul_nonneg nC (by omega)
  have p2 : 0 ≤ U * Y := Int.mul_nonneg nA (by omega)
  refine ⟨by omega, by omega⟩
/-- The parts of a factor whose norm is bounded. -/
theorem part_bd {x y K Z P : Int} (h : N2 x y * Z ≤ P) (hz : 1 ≤ Z) (hP : P ≤ K * K) (hK : 0 ≤ K) : -K ≤ x ∧ x ≤ K ∧ -K ≤ y ∧ y ≤ K := by
  have n := N2_nn x y
  have m : N2 x y * 1 ≤ N2 x y * Z := Int.mul_le_mul_of_nonneg_left hz n
  have h1 := sq_nn x
  have h2 := sq_nn y
  have e : N2 x y = x * x + y * y := rfl
  obtain ⟨b1, b2⟩ := sq_le (x := x) (k := K) (by omega) hK
  obtain ⟨b3, b4⟩ := sq_le (x := y) (k := K) (by omega) hK
  exact ⟨b1, b2, b3, b4⟩
theorem q_part {a b c d : Int} (k1 : gok a b = true) (k2 : gok c d = true) (hw : 0 < N2 c d) : -2500 ≤ qA a b c d ∧ qA a b c d ≤ 2500 ∧ -2500 ≤ qB a b c d ∧ qB a b c d ≤ 2500 := by
  have hq := nq_bd (a := a) (b := b) hw
  have s1 := sq_bd k1
  have s2 := sq_bd k2
  refine part_bd (Z := N2 c d) (P := 2 * N2 a b + N2 c d) hq (by omega) ?_ (by omega)
  unfold N2; omega
end Go.Proofs.Ytggebkgfldmipaa

namespace Go.Proofs.Ytggebkgfldmipaa
open Go Go.RowKit

/-- The associate in the first quarter, whatever its parts. -/
def frA (a b : Int) : Int := tuA (fiK a b) a b
def frB (a b : Int) : Int := tuB (fiK a b) a b
theorem fr_fi {a b : Int} (k : gok a b = true) : frA a b = fiA a b ∧ frB a b = fiB a b := by simp [frA, frB, fiA, fiB, k]
theorem fiK_bd (a b : Int) : 0 ≤ fiK a b ∧ fiK a b ≤ 3 := by
  rcases fi_is a b with ⟨-, e⟩ | ⟨-, -, e⟩ | ⟨-, -, -, e⟩ | ⟨-, -, -, e⟩ <;> rw [e] <;> omega
theorem gok_tu (t a b : Int) (h0 : 0 ≤ t) (h3 : t ≤ 3) : gok (tuA t a b) (tuB t a b) = gok a b := by
  obtain ⟨a1, a2, a3, a4, a5, a6, a7, a8⟩ := tu_all a b
  rw [Bool.eq_iff_iff]
  obtain rfl | rfl | rfl | rfl : t = 0 ∨ t = 1 ∨ t = 2 ∨ t = 3 := by omega
  · rw [a1, a2]
  · rw [a3, a4]; simp [gok, pok]; omega
  · rw [a5, a6]; simp [gok, pok]; omega
  · rw [a7, a8]; simp [gok, pok]; omega
theorem gok_fr (a b : Int) : gok (frA a b) (frB a b) = gok a b := gok_tu _ a b (fiK_bd a b).1 (fiK_bd a b).2
def lmA (a b c d : Int) : Int := qA a b (coA a b c d) (coB a b c d) * c - qB a b (coA a b c d) (coB a b c d) * d
def lmB (a b c d : Int) : Int := qA a b (coA a b c d) (coB a b c d) * d + qB a b (coA a b c d) (coB a b c d) * c
def leO (a b c d : Int) : Bool := gok a b && gok c d && !(a == 0 && b == 0) && !(c == 0 && d == 0) && gok (lmA a b c d) (lmB a b c d)
def leA (a b c d : Int) : Int := if leO a b c d then fiA (lmA a b c d) (lmB a b c d) else 0
def leB (a b c d : Int) : Int := if leO a b c d then fiB (lmA a b c d) (lmB a b c d) else 0
theorem le_is {a b c d : Int} (h : leO a b c d = true) : gok a b = true ∧ gok c d = true ∧ ¬ (a = 0 ∧ b = 0) ∧ ¬ (c = 0 ∧ d = 0) ∧ gok (lmA a b c d) (lmB a b c d) = true := by
  simp only [leO, Bool.and_eq_true, Bool.not_eq_true'] at h
  refine ⟨h.1.1.1.1, h.1.1.1.2, ?_, ?_, h.2⟩
  · rintro ⟨rfl, rfl⟩; have := h.1.1.2; simp at this
  · rintro ⟨rfl, rfl⟩; have := h.1.2; simp at this
theorem fi_nrm {a b : Int} (k : gok a b = true) : nrm (fiA a b) (fiB a b) = nrm a b := by
  obtain ⟨-, -, g, -⟩ := fi_Dv k
  obtain ⟨e1, e2⟩ := fr_fi k
  obtain ⟨a1, a2, a3, a4, a5, a6, a7, a8⟩ := tu_all a b
  rw [nrm_t g, nrm_t k, ← e1, ← e2]
  unfold frA frB
  rcases fi_is a b with ⟨-, e⟩ | ⟨-, -, e⟩ | ⟨-, -, -, e⟩ | ⟨-, -, -, e⟩ <;> rw [e]
  · rw [a1, a2]
  · rw [a3, a4]; grind
  · rw [a5, a6]; grind
  · rw [a7, a8]; grind
/-- The least common multiple: both divide it, its norm times that of the greatest common divisor is the product of both norms, and it divides the product of both. -/
theorem le_all {a b c d : Int} (h : leO a b c d = true) : coO a b c d = true ∧ vdO a b (leA a b c d) (leB a b c d) = true ∧ vdO c d (leA a b c d) (leB a b c d) = true ∧
    nrm (leA a b c d) (leB a b c d) * nrm (coA a b c d) (coB a b c d) = nrm a b * nrm c d ∧ (tiO a b c d = true → vdO (leA a b c d) (leB a b c d) (tiA a b c d) (tiB a b c d) = true) := by
  obtain ⟨k1, k2, hz, hw, km⟩ := le_is h
  have hO : coO a b c d = true := co_mk k1 k2 (fun e => hz ⟨e.1, e.2.1⟩)
  obtain ⟨g, gn, d1, d2, -, -, -, -⟩ := co_all hO
  have hv : vdO (coA a b c d) (coB a b c d) a b = true := vd_Dv.2 ⟨dv_mk k1 g gn, d1⟩
  obtain ⟨q1, q2⟩ := vd_q hv
  obtain ⟨t1, t2, e1, e2⟩ := d2
  have hA : leA a b c d = fiA (lmA a b c d) (lmB a b c d) := by simp [leA, h]
  have hB : leB a b c d = fiB (lmA a b c d) (lmB a b c d) := by simp [leB, h]
  obtain ⟨f1, f2, f3, -, -⟩ := fi_Dv km
  rw [hA, hB]
  have hN := fi_nrm km
  rw [hN]
  have eA : lmA a b c d = qA a b (coA a b c d) (coB a b c d) * c - qB a b (coA a b c d) (coB a b c d) * d := rfl
  have eB : lmB a b c d = qA a b (coA a b c d) (coB a b c d) * d + qB a b (coA a b c d) (coB a b c d) * c := rfl
  have nm := nrm_t km
  have n1 := nrm_t k1
  have n2 := nrm_t k2
  have n3 := nrm_t g
  generalize qA a b (coA a b c d) (coB a b c d) = q at *
  generalize qB a b (coA a b c d) (coB a b c d) = p at *
  generalize coA a b c d = x at *
  generalize coB a b c d = y at *
  generalize lmA a b c d = u at *
  generalize lmB a b c d = v at *
  have z1 : Dv a b u v := ⟨t1, t2, by rw [eA, e1, e2, q1, q2]; grind, by rw [eB, e1, e2, q1, q2]; grind⟩
  have z2 : Dv c d u v := ⟨q, p, eA, eB⟩
  refine ⟨hO, vd_Dv.2 ⟨dv_mk f3 k1 hz, z1.trans f2⟩, vd_Dv.2 ⟨dv_mk f3 k2 hw, z2.trans f2⟩, ?_, ?_⟩
  · rw [nm, n1, n2, n3, eA, eB]
    have m1 := norm_mul q p c d
    have m2 := norm_mul q p x y
    rw [← q1, ← q2] at m2
    rw [m1, m2]; grind
  · intro ht
    have ht' := ht
    simp only [tiO, Bool.and_eq_true] at ht'
    obtain ⟨-, p1, p2⟩ := tiO_t ht'.1.1 ht'.1.2 ht'.2
    have hm : Dv u v (tiA a b c d) (tiB a b c d) := ⟨x, y, by rw [p1, eA, eB, q1, q2]; grind, by rw [p2, eA, eB, q1, q2]; grind⟩
    have hnz : ¬ (u = 0 ∧ v = 0) := by
      rintro ⟨rfl, rfl⟩
      obtain ⟨z3, z4⟩ := hm.zero_left
      have hn := nz_pos hz
      have hn2 := nz_pos hw
      have e := norm_mul a b c d
      rw [← p1, ← p2, z3, z4] at e
      have := Int.mul_pos hn hn2
      simp at e; omega
    exact vd_Dv.2 ⟨dv_mk (by rw [p1, p2]; exact ht'.2) f3 (fi_nz km hnz), f1.trans hm⟩
end Go.Proofs.Ytggebkgfldmipaa
