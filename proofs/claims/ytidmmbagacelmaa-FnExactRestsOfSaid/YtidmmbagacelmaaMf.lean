import Derived.Test.YtidmmbagacelmaaMe
namespace Go.Proofs.Ytidmmbagacelmaa
open Go Go.RowKit

def pa (x y : Int × Int) : Int × Int := (x.1 + y.1, x.2 + y.2)
def ng (x : Int × Int) : Int × Int := (-x.1, -x.2)
/-- The rest of a number by a modulus. -/
def rs (m z : Int × Int) : Int × Int := (rA z.1 z.2 m.1 m.2, rB z.1 z.2 m.1 m.2)
def qs (m z : Int × Int) : Int × Int := (qA z.1 z.2 m.1 m.2, qB z.1 z.2 m.1 m.2)
theorem nr_shift (n k : Int) {m : Int} (h : 0 < m) : nr (n + k * m) m = nr n m + k := by
  unfold nr
  rw [show 2 * (n + k * m) + m = 2 * n + m + k * (2 * m) by grind, Int.add_mul_ediv_right _ _ (by omega)]
theorem rs_is (m z : Int × Int) : z = pa (mu (qs m z) m) (rs m z) := by
  unfold pa mu qs rs rA rB; exact Prod.ext (by dsimp only; omega) (by dsimp only; omega)
/-- A multiple of the modulus more leaves the same rest. -/
theorem rs_shift {m : Int × Int} (hm : 0 < nG m) (z k : Int × Int) : rs m (pa z (mu k m)) = rs m z := by
  have hN : 0 < m.1 * m.1 + m.2 * m.2 := hm
  have e1 : qA (pa z (mu k m)).1 (pa z (mu k m)).2 m.1 m.2 = qA z.1 z.2 m.1 m.2 + k.1 := by
    unfold qA
    rw [← nr_shift _ k.1 hN]
    congr 1
    unfold pa mu; dsimp only; grind
  have e2 : qB (pa z (mu k m)).1 (pa z (mu k m)).2 m.1 m.2 = qB z.1 z.2 m.1 m.2 + k.2 := by
    unfold qB
    rw [← nr_shift _ k.2 hN]
    congr 1
    unfold pa mu; dsimp only; grind
  unfold rs rA rB
  rw [e1, e2]
  unfold pa mu
  exact Prod.ext (by dsimp only; grind) (by dsimp only; grind)
theorem rs_back (m z : Int × Int) : pa (rs m z) (mu (qs m z) m) = z := by
  have a1 := congrArg Prod.fst (rs_is m z)
  have a2 := congrArg Prod.snd (rs_is m z)
  unfold pa at a1 a2 ⊢
  dsimp only at a1 a2
  exact Prod.ext (by dsimp only; omega) (by dsimp only; omega)
theorem rs_idem {m : Int × Int} (hm : 0 < nG m) (z : Int × Int) : rs m (rs m z) = rs m z := by
  have h := rs_shift hm (rs m z) (qs m z)
  rw [rs_back] at h
  exact h.symm
theorem rs_same {m : Int × Int} (hm : 0 < nG m) (z w : Int × Int) : rs m z = rs m w ↔ dvG m (pa z (ng w)) := by
  constructor
  · intro h
    refine ⟨pa (qs m z) (ng (qs m w)), ?_⟩
    have e1 := rs_is m z
    have e2 := rs_is m w
    rw [h] at e1
    have a1 := congrArg Prod.fst e1
    have a2 := congrArg Prod.snd e1
    have b1 := congrArg Prod.fst e2
    have b2 := congrArg Prod.snd e2
    unfold pa mu at a1 a2 b1 b2
    dsimp only at a1 a2 b1 b2
    unfold pa ng mu
    exact Prod.ext (by dsimp only; grind) (by dsimp only; grind)
  · rintro ⟨y, hy⟩
    have e : z = pa w (mu y m) := by
      have a1 := congrArg Prod.fst hy
      have a2 := congrArg Prod.snd hy
      unfold pa ng mu at a1 a2
      dsimp only at a1 a2
      unfold pa mu
      exact Prod.ext (by dsimp only; grind) (by dsimp only; grind)
    rw [e, rs_shift hm]
theorem rs_nought {m : Int × Int} (hm : 0 < nG m) (z : Int × Int) : rs m z = (0, 0) ↔ dvG m z := by
  have e0 : rs m (0, 0) = (0, 0) := by
    have h := rs_shift hm (0, 0) (ng (qs m (0, 0)))
    have e := rs_is m (0, 0)
    have i := rs_idem hm (0, 0)
    have hN : 0 < m.1 * m.1 + m.2 * m.2 := hm
    have q1 : qA 0 0 m.1 m.2 = 0 := by unfold qA; simp; have := nr_mul (x := 0) hN; simpa using this
    have q2 : qB 0 0 m.1 m.2 = 0 := by unfold qB; simp; have := nr_mul (x := 0) hN; simpa using this
    unfold rs rA rB; dsimp only; rw [q1, q2]; simp
  have := rs_same hm z (0, 0)
  rw [e0] at this
  rw [this]
  have e : pa z (ng (0, 0)) = z := by unfold pa ng; exact Prod.ext (by dsimp only; omega) (by dsimp only; omega)
  rw [e]
/-- Sums and products of rests. -/
theorem rs_add {m : Int × Int} (hm : 0 < nG m) (z w : Int × Int) : rs m (pa (rs m z) (rs m w)) = rs m (pa z w) := by
  refine ((rs_same hm _ _).2 ⟨ng (pa (qs m z) (qs m w)), ?_⟩)
  have e1 := rs_is m z
  have e2 := rs_is m w
  have a1 := congrArg Prod.fst e1
  have a2 := congrArg Prod.snd e1
  have b1 := congrArg Prod.fst e2
  have b2 := congrArg Prod.snd e2
  unfold pa mu at a1 a2 b1 b2
  dsimp only at a1 a2 b1 b2
  generalize rs m z = r at *
  generalize rs m w = s at *
  generalize qs m z = q at *
  generalize qs m w = p at *
  unfold pa ng mu
  exact Prod.ext (by dsimp only; grind) (by dsimp only; grind)
theorem rs_mu {m : Int × Int} (hm : 0 < nG m) (z w : Int × Int) : rs m (mu (rs m z) (rs m w)) = rs m (mu z w) := by
  have e1 := rs_is m z
  have e2 := rs_is m w
  generalize rs m z = r at *
  generalize rs m w = s at *
  generalize qs m z = q at *
  generalize qs m w = p at *
  refine ((rs_same hm _ _).2 ⟨ng (pa (mu q w) (mu r p)), ?_⟩)
  rw [e1, e2]
  unfold pa ng mu
  exact Prod.ext (by dsimp only; grind) (by dsimp only; grind)
theorem rs_mu_left {m : Int × Int} (hm : 0 < nG m) (z w : Int × Int) : rs m (mu (rs m z) w) = rs m (mu z w) := by
  rw [← rs_mu hm (rs m z) w, rs_idem hm, rs_mu hm]
theorem rs_nG {m : Int × Int} (hm : 0 < nG m) (z : Int × Int) : 2 * nG (rs m z) ≤ nG m := rest_half hm
/-- A number is its own rest exactly if both parts of its quotient lie from a half below on, and below a half. -/
theorem own_iff {m : Int × Int} (hm : 0 < nG m) (z : Int × Int) : rs m z = z ↔ (-nG m ≤ 2 * (z.1 * m.1 + z.2 * m.2) ∧ 2 * (z.1 * m.1 + z.2 * m.2) < nG m) ∧ (-nG m ≤ 2 * (z.2 * m.1 - z.1 * m.2) ∧ 2 * (z.2 * m.1 - z.1 * m.2) < nG m) := by
  have hN : 0 < m.1 * m.1 + m.2 * m.2 := hm
  have hz : ∀ p : Int, nr p (nG m) = 0 ↔ (-nG m ≤ 2 * p ∧ 2 * p < nG m) := by
    intro p
    unfold nr
    constructor
    · intro h
      have h1 := Int.mul_ediv_add_emod (2 * p + nG m) (2 * nG m)
      have h2 := Int.emod_nonneg (2 * p + nG m) (show 2 * nG m ≠ 0 by omega)
      have h3 := Int.emod_lt_of_pos (2 * p + nG m) (show 0 < 2 * nG m by omega)
      rw [h, Int.mul_zero] at h1
      omega
    · rintro ⟨h1, h2⟩
      exact Int.ediv_eq_zero_of_lt (by omega) (by omega)
  rw [← hz, ← hz]
  constructor
  · intro h
    have e := rs_is m z
    rw [h] at e
    have a1 := congrArg Prod.fst e
    have a2 := congrArg Prod.snd e
    unfold pa mu qs at a1 a2
    dsimp only at a1 a2
    have e1 : nG m * qA z.1 z.2 m.1 m.2 = 0 := by unfold nG; grind
    have e2 : nG m * qB z.1 z.2 m.1 m.2 = 0 := by unfold nG; grind
    exact ⟨(Int.mul_eq_zero.1 e1).resolve_left (by omega), (Int.mul_eq_zero.1 e2).resolve_left (by omega)⟩
  · rintro ⟨h1, h2⟩
    have q1 : qA z.1 z.2 m.1 m.2 = 0 := h1
    have q2 : qB z.1 z.2 m.1 m.2 = 0 := h2
    unfold rs rA rB
    rw [q1, q2]
    exact Prod.ext (by dsimp only; omega) (by dsimp only; omega)
end Go.Proofs.Ytidmmbagacelmaa
