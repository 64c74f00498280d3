import Derived.Test.YtpjememmogaeiaaKb
namespace Go.Proofs.Ytpjememmogaeiaa
open Go Go.RowKit

def apO (a b c d : Int) : Bool := coO a b c d && (coA a b c d == 1 && coB a b c d == 0)
/-- Two numbers are apart exactly if a sum of products is 1. -/
theorem ap_iff {a b c d : Int} (k1 : gok a b = true) (k2 : gok c d = true) : apO a b c d = true ↔ ∃ s1 s2 t1 t2, 1 = s1 * a - s2 * b + (t1 * c - t2 * d) ∧ 0 = s1 * b + s2 * a + (t1 * d + t2 * c) := by
  constructor
  · intro h
    simp only [apO, Bool.and_eq_true, beq_iff_eq] at h
    obtain ⟨hO, e1, e2⟩ := h
    obtain ⟨-, -, -, -, -, -, -, s1, s2, t1, t2, h1, h2⟩ := co_all hO
    rw [e1] at h1
    rw [e2] at h2
    exact ⟨s1, s2, t1, t2, h1, h2⟩
  · rintro ⟨s1, s2, t1, t2, h1, h2⟩
    have hO : coO a b c d = true := co_mk k1 k2 (by rintro ⟨rfl, rfl, rfl, rfl⟩; simp at h1)
    obtain ⟨g, -, d1, d2, -, f1, f2, -⟩ := co_all hO
    have hu : Dv (coA a b c d) (coB a b c d) 1 0 := by
      have := (d1.mul s1 s2).add (d2.mul t1 t2)
      rwa [← h1, ← h2] at this
    have ho : Dv 1 0 (coA a b c d) (coB a b c d) := ⟨coA a b c d, coB a b c d, by simp, by simp⟩
    have := fi_both g (by decide : gok 1 0 = true) ho hu
    rw [f1, f2] at this
    simp only [apO, hO, Bool.true_and, Bool.and_eq_true, beq_iff_eq]
    rw [this.1, this.2]
    exact ⟨by decide, by decide⟩
theorem ap_ok {a b c d : Int} (h : apO a b c d = true) : gok a b = true ∧ gok c d = true := by
  simp only [apO, Bool.and_eq_true] at h
  exact ⟨(co_is h.1).1, (co_is h.1).2.1⟩
theorem ap_swap (a b c d : Int) : apO c d a b = apO a b c d := by
  unfold apO; rw [coO_swap, (co_swap a b c d).1, (co_swap a b c d).2]
theorem ap_times {a b c d x y : Int} (h : apO a b c d = true) (h' : apO a b x y = true) (ht : tiO c d x y = true) : apO a b (tiA c d x y) (tiB c d x y) = true := by
  obtain ⟨k1, k2⟩ := ap_ok h
  have ht' := ht
  simp only [tiO, Bool.and_eq_true] at ht'
  obtain ⟨-, e1, e2⟩ := tiO_t ht'.1.1 ht'.1.2 ht'.2
  obtain ⟨s1, s2, t1, t2, h1, h2⟩ := (ap_iff k1 k2).1 h
  obtain ⟨s3, s4, t3, t4, h3, h4⟩ := (ap_iff k1 ht'.1.2).1 h'
  refine (ap_iff k1 (by rw [e1, e2]; exact ht'.2)).2 ?_
  rw [e1, e2]
  -- 1 = (s z + t w) (s' z + t' v) = (s + t w s') z + t t' w v, since s (s' z + t' v) = s
  refine ⟨s1 + ((t1 * c - t2 * d) * s3 - (t1 * d + t2 * c) * s4), s2 + ((t1 * c - t2 * d) * s4 + (t1 * d + t2 * c) * s3), t1 * t3 - t2 * t4, t1 * t4 + t2 * t3, ?_, ?_⟩
  · have e : (1 : Int) = s1 * a - s2 * b + ((t1 * c - t2 * d) * (s3 * a - s4 * b + (t3 * x - t4 * y)) - (t1 * d + t2 * c) * (s3 * b + s4 * a + (t3 * y + t4 * x))) := by rw [← h3, ← h4]; omega
    rw [e]; grind
  · have e : (0 : Int) = s1 * b + s2 * a + ((t1 * c - t2 * d) * (s3 * b + s4 * a + (t3 * y + t4 * x)) + (t1 * d + t2 * c) * (s3 * a - s4 * b + (t3 * x - t4 * y))) := by rw [← h3, ← h4]; omega
    rw [e]; grind
/-- Who divides a product, and has nothing in common with the one, divides the other one. -/
theorem ap_div {a b c d x y : Int} (h : apO a b c d = true) (ht : tiO c d x y = true) (hv : vdO a b (tiA c d x y) (tiB c d x y) = true) : vdO a b x y = true := by
  obtain ⟨k1, k2⟩ := ap_ok h
  have ht' := ht
  simp only [tiO, Bool.and_eq_true] at ht'
  obtain ⟨-, e1, e2⟩ := tiO_t ht'.1.1 ht'.1.2 ht'.2
  obtain ⟨hd, hD⟩ := vd_Dv.1 hv
  obtain ⟨s1, s2, t1, t2, h1, h2⟩ := (ap_iff k1 k2).1 h
  have hz : ¬ (a = 0 ∧ b = 0) := pos_nz (dv_is hd).2.2
  refine vd_Dv.2 ⟨dv_mk ht'.1.2 k1 hz, ?_⟩
  rw [e1, e2] at hD
  have h3 := ((Dv.refl a b).mul (x * s1 - y * s2) (x * s2 + y * s1)).add (hD.mul t1 t2)
  have ex : x = (x * s1 - y * s2) * a - (x * s2 + y * s1) * b + (t1 * (c * x - d * y) - t2 * (c * y + d * x)) := by
    have e : x = x * (s1 * a - s2 * b + (t1 * c - t2 * d)) - y * (s1 * b + s2 * a + (t1 * d + t2 * c)) := by rw [← h1, ← h2]; simp
    rw (occs := .pos [1]) [e]; grind
  have ey : y = (x * s1 - y * s2) * b + (x * s2 + y * s1) * a + (t1 * (c * y + d * x) + t2 * (c * x - d * y)) := by
    have e : y = x * (s1 * b + s2 * a + (t1 * d + t2 * c)) + y * (s1 * a - s2 * b + (t1 * c - t2 * d)) := by rw [← h1, ← h2]; simp
    rw (occs := .pos [1]) [e]; grind
  rw [← ex, ← ey] at h3
  exact h3

/-- The factors for both, with fuel: each of the four numbers by its parts. -/
def fc : Nat → Int → Int → Int → Int → Int → Int → Int → Int → Int → Int → Int → Int → Int × Int × Int × Int
  | 0, _, _, _, _, A, A', B, B', _, _, _, _ => (A, A', B, B')
  | k + 1, a, b, c, d, A, A', B, B', C, C', D, D' => if c = 0 ∧ d = 0 then (A, A', B, B') else
    fc k c d (rA a b c d) (rB a b c d) C C' D D' (A - (qA a b c d * C - qB a b c d * C')) (A' - (qA a b c d * C' + qB a b c d * C)) (B - (qA a b c d * D - qB a b c d * D')) (B' - (qA a b c d * D' + qB a b c d * D))
theorem fc_sum (z1 z2 w1 w2 : Int) (k : Nat) : ∀ a b c d A A' B B' C C' D D' : Int, a = A * z1 - A' * z2 + (B * w1 - B' * w2) → b = A * z2 + A' * z1 + (B * w2 + B' * w1) → c = C * z1 - C' * z2 + (D * w1 - D' * w2) → d = C * z2 + C' * z1 + (D * w2 + D' * w1) →
    (gc k a b c d).1 = (fc k a b c d A A' B B' C C' D D').1 * z1 - (fc k a b c d A A' B B' C C' D D').2.1 * z2 + ((fc k a b c d A A' B B' C C' D D').2.2.1 * w1 - (fc k a b c d A A' B B' C C' D D').2.2.2 * w2) ∧
    (gc k a b c d).2 = (fc k a b c d A A' B B' C C' D D').1 * z2 + (fc k a b c d A A' B B' C C' D D').2.1 * z1 + ((fc k a b c d A A' B B' C C' D D').2.2.1 * w2 + (fc k a b c d A A' B B' C C' D D').2.2.2 * w1) := by
  induction k with
  | zero => intro a b c d A A' B B' C C' D D' h1 h2 _ _; exact ⟨h1, h2⟩
  | succ k ih =>
    intro a b c d A A' B B' C C' D D' h1 h2 h3 h4
    by_cases hz : c = 0 ∧ d = 0
    · rw [gc, if_pos hz, fc, if_pos hz]; exact ⟨h1, h2⟩
    · rw [gc, if_neg hz, fc, if_neg hz]
      refine ih c d _ _ C C' D D' _ _ _ _ h3 h4 ?_ ?_
      · unfold rA
        generalize qA a b c d = q
        generalize qB a b c d = p
        rw [h1, h3, h4]; grind
      · unfold rB
        generalize qA a b c d = q
        generalize qB a b c d = p
        rw [h2, h3, h4]; grind
end Go.Proofs.Ytpjememmogaeiaa
