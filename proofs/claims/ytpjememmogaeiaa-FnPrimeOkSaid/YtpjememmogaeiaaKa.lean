import Derived.Test.YtpjememmogaeiaaJb
import Derived.Test.YtpjememmogaeiaaHv
namespace Go.Proofs.Ytpjememmogaeiaa
open Go Go.RowKit

/-- (c, d) divides (a, b). -/
def Dv (c d a b : Int) : Prop := ∃ x y, a = x * c - y * d ∧ b = x * d + y * c
theorem Dv.refl (a b : Int) : Dv a b a b := ⟨1, 0, by simp, by simp⟩
theorem Dv.zero (a b : Int) : Dv a b 0 0 := ⟨0, 0, by simp, by simp⟩
theorem Dv.trans {a b c d e f : Int} (h : Dv a b c d) (h' : Dv c d e f) : Dv a b e f := by
  obtain ⟨x, y, hx, hy⟩ := h
  obtain ⟨u, v, hu, hv⟩ := h'
  exact ⟨u * x - v * y, u * y + v * x, by rw [hu, hx, hy]; grind, by rw [hv, hx, hy]; grind⟩
theorem Dv.add {a b c d e f : Int} (h : Dv a b c d) (h' : Dv a b e f) : Dv a b (c + e) (d + f) := by
  obtain ⟨x, y, hx, hy⟩ := h
  obtain ⟨u, v, hu, hv⟩ := h'
  exact ⟨x + u, y + v, by rw [hx, hu]; grind, by rw [hy, hv]; grind⟩
theorem Dv.mul {a b c d : Int} (x y : Int) (h : Dv a b c d) : Dv a b (x * c - y * d) (x * d + y * c) := h.trans ⟨x, y, rfl, rfl⟩
theorem Dv.zero_left {a b : Int} (h : Dv 0 0 a b) : a = 0 ∧ b = 0 := by
  obtain ⟨x, y, hx, hy⟩ := h; simp at hx hy; exact ⟨hx, hy⟩
theorem Dv.neg {a b c d : Int} (h : Dv a b c d) : Dv a b (-c) (-d) := by
  have := h.mul (-1) 0; simpa using this
theorem vd_Dv {a b c d : Int} : vdO c d a b = true ↔ dvO a b c d = true ∧ Dv c d a b :=
  ⟨fun h => ⟨vd_dv h, (vd_iff (vd_dv h)).1 h⟩, fun h => (vd_iff h.1).2 h.2⟩
theorem rest_is (a b c d : Int) : a = qA a b c d * c - qB a b c d * d + rA a b c d ∧ b = qA a b c d * d + qB a b c d * c + rB a b c d := by
  unfold rA rB; omega
theorem Dv.rest {u v a b c d : Int} (h : Dv u v a b) (h' : Dv u v c d) : Dv u v (rA a b c d) (rB a b c d) := by
  have h1 := (h'.mul (qA a b c d) (qB a b c d)).neg
  have h2 := h.add h1
  obtain ⟨e1, e2⟩ := rest_is a b c d
  rwa [show a + -(qA a b c d * c - qB a b c d * d) = rA a b c d by omega, show b + -(qA a b c d * d + qB a b c d * c) = rB a b c d by omega] at h2
theorem Dv.back {u v a b c d : Int} (h : Dv u v c d) (h' : Dv u v (rA a b c d) (rB a b c d)) : Dv u v a b := by
  have h2 := (h.mul (qA a b c d) (qB a b c d)).add h'
  obtain ⟨e1, e2⟩ := rest_is a b c d
  rwa [← e1, ← e2] at h2

/-- Dividing again and again, with fuel: a greatest common divisor. -/
def gc : Nat → Int → Int → Int → Int → Int × Int
  | 0, a, b, _, _ => (a, b)
  | k + 1, a, b, c, d => if c = 0 ∧ d = 0 then (a, b) else gc k c d (rA a b c d) (rB a b c d)
/-- How often is divided. -/
def st : Nat → Int → Int → Int → Int → Nat
  | 0, _, _, _, _ => 0
  | k + 1, a, b, c, d => if c = 0 ∧ d = 0 then 0 else st k c d (rA a b c d) (rB a b c d) + 1
theorem nz_pos {c d : Int} (h : ¬ (c = 0 ∧ d = 0)) : 0 < c * c + d * d := by
  have h1 := sq_nn c
  have h2 := sq_nn d
  rcases Decidable.em (c * c + d * d = 0) with e | e
  · exfalso
    have e1 : c * c = 0 := by omega
    have e2 : d * d = 0 := by omega
    exact h ⟨by rcases Int.mul_eq_zero.1 e1 with h | h <;> exact h, by rcases Int.mul_eq_zero.1 e2 with h | h <;> exact h⟩
  · omega
theorem pos_nz {c d : Int} (h : 0 < c * c + d * d) : ¬ (c = 0 ∧ d = 0) := by rintro ⟨rfl, rfl⟩; simp at h
theorem sq_zero {c d : Int} (h : c * c + d * d < 1) : c = 0 ∧ d = 0 := by
  rcases Decidable.em (c = 0 ∧ d = 0) with e | e
  · exact e
  · have := nz_pos e; omega
theorem gc_div (k : Nat) : ∀ a b c d : Int, c * c + d * d < 2 ^ k → gok a b = true → gok c d = true →
    Dv (gc k a b c d).1 (gc k a b c d).2 a b ∧ Dv (gc k a b c d).1 (gc k a b c d).2 c d ∧ (∀ u v, Dv u v a b → Dv u v c d → Dv u v (gc k a b c d).1 (gc k a b c d).2) ∧ gok (gc k a b c d).1 (gc k a b c d).2 = true ∧
    ∃ s1 s2 t1 t2, (gc k a b c d).1 = s1 * a - s2 * b + (t1 * c - t2 * d) ∧ (gc k a b c d).2 = s1 * b + s2 * a + (t1 * d + t2 * c) := by
  induction k with
  | zero =>
    intro a b c d h k1 k2
    obtain ⟨rfl, rfl⟩ := sq_zero (by simpa using h)
    exact ⟨Dv.refl a b, Dv.zero a b, fun u v h _ => h, k1, 1, 0, 0, 0, by simp [gc], by simp [gc]⟩
  | succ k ih =>
    intro a b c d h k1 k2
    by_cases hz : c = 0 ∧ d = 0
    · obtain ⟨rfl, rfl⟩ := hz
      have e : gc (k + 1) a b 0 0 = (a, b) := by simp [gc]
      rw [e]
      exact ⟨Dv.refl a b, Dv.zero a b, fun u v h _ => h, k1, 1, 0, 0, 0, by simp, by simp⟩
    · have e : gc (k + 1) a b c d = gc k c d (rA a b c d) (rB a b c d) := by rw [gc, if_neg hz]
      have hd := dv_mk k1 k2 hz
      have hh := rest_half (a := a) (b := b) (nz_pos hz)
      have hp : (2 : Int) ^ (k + 1) = 2 * 2 ^ k := by rw [Int.pow_succ]; omega
      obtain ⟨h1, h2, h3, h4, s1, s2, t1, t2, h5, h6⟩ := ih c d (rA a b c d) (rB a b c d) (by omega) k2 (rest_gok hd)
      rw [e]
      refine ⟨Dv.back h1 h2, h1, fun u v hu hv => h3 u v hv (Dv.rest hu hv), h4, t1, t2, s1 - (t1 * qA a b c d - t2 * qB a b c d), s2 - (t1 * qB a b c d + t2 * qA a b c d), ?_, ?_⟩
      · rw [h5]; unfold rA rB; grind
      · rw [h6]; unfold rA rB; grind
theorem gc_nz (k : Nat) (a b c d : Int) (h : c * c + d * d < 2 ^ k) (k1 : gok a b = true) (k2 : gok c d = true) (hz : ¬ (a = 0 ∧ b = 0 ∧ c = 0 ∧ d = 0)) : ¬ ((gc k a b c d).1 = 0 ∧ (gc k a b c d).2 = 0) := by
  obtain ⟨h1, h2, -⟩ := gc_div k a b c d h k1 k2
  rintro ⟨e1, e2⟩
  rw [e1, e2] at h1 h2
  exact hz ⟨h1.zero_left.1, h1.zero_left.2, h2.zero_left.1, h2.zero_left.2⟩
theorem st_le (k : Nat) : ∀ a b c d : Int, c * c + d * d < 2 ^ k → gok a b = true → gok c d = true → st k a b c d ≤ k ∧ (¬ (c = 0 ∧ d = 0) → 0 < st k a b c d ∧ (2 : Int) ^ (st k a b c d) ≤ 2 * (c * c + d * d)) ∧ (c = 0 ∧ d = 0 → st k a b c d = 0) := by
  induction k with
  | zero =>
    intro a b c d h _ _
    obtain ⟨rfl, rfl⟩ := sq_zero (by simpa using h)
    exact ⟨Nat.le_refl _, fun h => absurd ⟨rfl, rfl⟩ h, fun _ => rfl⟩
  | succ k ih =>
    intro a b c d h k1 k2
    by_cases hz : c = 0 ∧ d = 0
    · have e : st (k + 1) a b c d = 0 := by rw [st, if_pos hz]
      rw [e]
      exact ⟨Nat.zero_le _, fun h => absurd hz h, fun _ => rfl⟩
    · have e : st (k + 1) a b c d = st k c d (rA a b c d) (rB a b c d) + 1 := by rw [st, if_neg hz]
      have hd := dv_mk k1 k2 hz
      have hpos := nz_pos hz
      have hh := rest_half (a := a) (b := b) hpos
      have hp : (2 : Int) ^ (k + 1) = 2 * 2 ^ k := by rw [Int.pow_succ]; omega
      obtain ⟨h1, h2, h3⟩ := ih c d (rA a b c d) (rB a b c d) (by omega) k2 (rest_gok hd)
      rw [e]
      refine ⟨by omega, fun _ => ⟨by omega, ?_⟩, fun h => absurd h hz⟩
      rw [Int.pow_succ]
      by_cases hr : rA a b c d = 0 ∧ rB a b c d = 0
      · rw [h3 hr]; omega
      · have := (h2 hr).2; omega
theorem st_one {k : Nat} {a b c d : Int} (h : c * c + d * d < 2 ^ (k + 1)) (k1 : gok a b = true) (k2 : gok c d = true) : st (k + 1) a b c d = 1 ↔ vdO c d a b = true := by
  by_cases hz : c = 0 ∧ d = 0
  · obtain ⟨rfl, rfl⟩ := hz
    have e : st (k + 1) a b 0 0 = 0 := by simp [st]
    have e2 : vdO 0 0 a b = false := by simp [vdO, dvO]
    rw [e, e2]; simp
  · have e : st (k + 1) a b c d = st k c d (rA a b c d) (rB a b c d) + 1 := by rw [st, if_neg hz]
    have hd := dv_mk k1 k2 hz
    have hh := rest_half (a := a) (b := b) (nz_pos hz)
    have hp : (2 : Int) ^ (k + 1) = 2 * 2 ^ k := by rw [Int.pow_succ]; omega
    obtain ⟨-, h2, h3⟩ := st_le k c d (rA a b c d) (rB a b c d) (by omega) k2 (rest_gok hd)
    obtain ⟨-, -, e3, e4⟩ := dv_t hd
    rw [e]
    simp only [vdO, hd, Bool.true_and, Bool.and_eq_true, beq_iff_eq, e3, e4]
    constructor
    · intro h0
      rcases Decidable.em (rA a b c d = 0 ∧ rB a b c d = 0) with hr | hr
      · exact hr
      · have := (h2 hr).1; omega
    · intro hr; rw [h3 hr]
end Go.Proofs.Ytpjememmogaeiaa
