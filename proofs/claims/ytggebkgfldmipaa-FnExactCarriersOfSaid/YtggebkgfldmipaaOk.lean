import Derived.Test.YtggebkgfldmipaaKa
namespace Go.Proofs.Ytggebkgfldmipaa
open Go Go.RowKit

theorem mul_bdx {a c K L : Int} (a1 : -K ≤ a) (a2 : a ≤ K) (c1 : -L ≤ c) (c2 : c ≤ L) : -(K * L) ≤ a * c ∧ a * c ≤ K * L := by
  have h1 := Int.mul_nonneg (show 0 ≤ K - a by omega) (show 0 ≤ L + c by omega)
  have h2 := Int.mul_nonneg (show 0 ≤ K + a by omega) (show 0 ≤ L - c by omega)
  have h3 := Int.mul_nonneg (show 0 ≤ K - a by omega) (show 0 ≤ L - c by omega)
  have h4 := Int.mul_nonneg (show 0 ≤ K + a by omega) (show 0 ≤ L + c by omega)
  have e1 : (K - a) * (L + c) + (K + a) * (L - c) = 2 * (K * L) - 2 * (a * c) := by grind
  have e2 : (K - a) * (L - c) + (K + a) * (L + c) = 2 * (K * L) + 2 * (a * c) := by grind
  omega
def P6 (i : Nat) : Int := 6000000 * 6 ^ i
theorem P6_succ (i : Nat) : P6 (i + 1) = 6 * P6 i := by unfold P6; rw [Int.pow_succ]; omega
theorem P6_pos (i : Nat) : 6000000 ≤ P6 i := by
  induction i with
  | zero => decide
  | succ i ih => rw [P6_succ]; omega
theorem P6_mono {i j : Nat} (h : i ≤ j) : P6 i ≤ P6 j := by
  induction h with
  | refl => exact Int.le_refl _
  | step _ ih => rw [P6_succ]; have := P6_pos i; omega
theorem P6_bd {i : Nat} (h : i ≤ 21) : P6 i ≤ 400000000000 * 400000000000 := Int.le_trans (P6_mono h) (by decide)
/-- How great the factors are after i steps. -/
def FB (i : Nat) (x y u v A A' B B' C C' D D' : Int) : Prop :=
  (i = 0 ∧ A = 1 ∧ A' = 0 ∧ B = 0 ∧ B' = 0 ∧ C = 0 ∧ C' = 0 ∧ D = 1 ∧ D' = 0) ∨
  (0 < N2 x y ∧ 2 * N2 u v ≤ N2 x y ∧ N2 A A' * N2 x y ≤ P6 i ∧ N2 B B' * N2 x y ≤ P6 i ∧ N2 C C' * N2 x y ≤ P6 i ∧ N2 D D' * N2 x y ≤ P6 i)
def Bd (n : Int) : Prop := -400000000000 ≤ n ∧ n ≤ 400000000000
theorem FB_bd {i : Nat} {x y u v A A' B B' C C' D D' : Int} (h : FB i x y u v A A' B B' C C' D D') (hi : i ≤ 21) : Bd A ∧ Bd A' ∧ Bd B ∧ Bd B' ∧ Bd C ∧ Bd C' ∧ Bd D ∧ Bd D' := by
  rcases h with ⟨-, rfl, rfl, rfl, rfl, rfl, rfl, rfl, rfl⟩ | ⟨hp, -, hA, hB, hC, hD⟩
  · unfold Bd; omega
  · have hP := P6_bd hi
    obtain ⟨a1, a2, a3, a4⟩ := part_bd hA (by omega) hP (by omega)
    obtain ⟨b1, b2, b3, b4⟩ := part_bd hB (by omega) hP (by omega)
    obtain ⟨c1, c2, c3, c4⟩ := part_bd hC (by omega) hP (by omega)
    obtain ⟨d1, d2, d3, d4⟩ := part_bd hD (by omega) hP (by omega)
    unfold Bd
    exact ⟨⟨a1, a2⟩, ⟨a3, a4⟩, ⟨b1, b2⟩, ⟨b3, b4⟩, ⟨c1, c2⟩, ⟨c3, c4⟩, ⟨d1, d2⟩, ⟨d3, d4⟩⟩
theorem N2_gok {a b : Int} (k : gok a b = true) : N2 a b ≤ 2000000 := by have := sq_bd k; unfold N2; omega
theorem FB_step {i : Nat} {x y u v A A' B B' C C' D D' p q r s : Int} (h : FB i x y u v A A' B B' C C' D D') (k1 : gok x y = true) (k2 : gok u v = true) (hz : ¬ (u = 0 ∧ v = 0))
    (ep : qA x y u v = p) (eq : qB x y u v = q) (er : rA x y u v = r) (es : rB x y u v = s) :
    FB (i + 1) u v r s C C' D D' (A - (p * C - q * C')) (A' - (p * C' + q * C)) (B - (p * D - q * D')) (B' - (p * D' + q * D)) := by
  have hw : 0 < N2 u v := nz_pos hz
  have hh := rest_half (a := x) (b := y) hw
  rw [er, es] at hh
  have hh' : 2 * N2 r s ≤ N2 u v := hh
  have n1 := N2_gok k1
  have n2 := N2_gok k2
  have hP := P6_pos i
  have hS := P6_succ i
  rcases h with ⟨rfl, rfl, rfl, rfl, rfl, rfl, rfl, rfl, rfl⟩ | ⟨hp, h2, hA, hB, hC, hD⟩
  · have hq := nq_bd (a := x) (b := y) hw
    rw [ep, eq] at hq
    refine .inr ⟨hw, hh', ?_, ?_, ?_, ?_⟩
    · have : N2 0 0 = 0 := by decide
      rw [this, Int.zero_mul]; omega
    · have : N2 1 0 = 1 := by decide
      rw [this, Int.one_mul]; omega
    · have : N2 (1 - (p * 0 - q * 0)) (0 - (p * 0 + q * 0)) = 1 := by simp [N2]
      rw [this, Int.one_mul]; omega
    · have : N2 (0 - (p * 1 - q * 0)) (0 - (p * 0 + q * 1)) = N2 p q := by unfold N2; grind
      rw [this]; omega
  · obtain ⟨a1, a2⟩ := fb_step (a := x) (b := y) hw h2 hA hC
    obtain ⟨b1, b2⟩ := fb_step (a := x) (b := y) hw h2 hB hD
    rw [ep, eq] at a2 b2
    exact .inr ⟨hw, hh', by omega, by omega, by omega, by omega⟩
/-- What one step makes of the four factors, with bounds. -/
theorem st_bd {p q C C' : Int} (p1 : -2500 ≤ p) (p2 : p ≤ 2500) (q1 : -2500 ≤ q) (q2 : q ≤ 2500) (h : Bd C) (h' : Bd C') :
    -1000000000000000 ≤ p * C ∧ p * C ≤ 1000000000000000 ∧ -1000000000000000 ≤ q * C' ∧ q * C' ≤ 1000000000000000 ∧ -1000000000000000 ≤ p * C' ∧ p * C' ≤ 1000000000000000 ∧ -1000000000000000 ≤ q * C ∧ q * C ≤ 1000000000000000 := by
  have m1 := mul_bdx p1 p2 h.1 h.2
  have m2 := mul_bdx q1 q2 h'.1 h'.2
  have m3 := mul_bdx p1 p2 h'.1 h'.2
  have m4 := mul_bdx q1 q2 h.1 h.2
  omega

/-- The factors for both. -/
def f4 (a b c d : Int) : Int × Int × Int × Int := fc 21 a b c d 1 0 0 0 0 0 1 0
def fk (a b c d : Int) : Int := fiK (gA a b c d) (gB a b c d)
def ffA (a b c d : Int) : Int := if coO a b c d then tuA (fk a b c d) (f4 a b c d).1 (f4 a b c d).2.1 else 0
def ffB (a b c d : Int) : Int := if coO a b c d then tuB (fk a b c d) (f4 a b c d).1 (f4 a b c d).2.1 else 0
def ffC (a b c d : Int) : Int := if coO a b c d then tuA (fk a b c d) (f4 a b c d).2.2.1 (f4 a b c d).2.2.2 else 0
def ffD (a b c d : Int) : Int := if coO a b c d then tuB (fk a b c d) (f4 a b c d).2.2.1 (f4 a b c d).2.2.2 else 0
theorem ff_f {a b c d : Int} (h : coO a b c d = false) : ffA a b c d = 0 ∧ ffB a b c d = 0 ∧ ffC a b c d = 0 ∧ ffD a b c d = 0 := by simp [ffA, ffB, ffC, ffD, h]
theorem ff_t {a b c d : Int} (h : coO a b c d = true) : ffA a b c d = tuA (fk a b c d) (f4 a b c d).1 (f4 a b c d).2.1 ∧ ffB a b c d = tuB (fk a b c d) (f4 a b c d).1 (f4 a b c d).2.1 ∧ ffC a b c d = tuA (fk a b c d) (f4 a b c d).2.2.1 (f4 a b c d).2.2.2 ∧ ffD a b c d = tuB (fk a b c d) (f4 a b c d).2.2.1 (f4 a b c d).2.2.2 := by simp [ffA, ffB, ffC, ffD, h]
/-- Both products, added, are the greatest common divisor. -/
theorem ff_sum {a b c d : Int} (h : coO a b c d = true) : ffA a b c d * a - ffB a b c d * b + (ffC a b c d * c - ffD a b c d * d) = coA a b c d ∧ ffA a b c d * b + ffB a b c d * a + (ffC a b c d * d + ffD a b c d * c) = coB a b c d := by
  obtain ⟨k1, k2, -⟩ := co_is h
  have g := (gc_div 21 a b c d (nrm_21 k2) k1 k2).2.2.2.1
  obtain ⟨s1, s2⟩ := fc_sum a b c d 21 a b c d 1 0 0 0 0 0 1 0 (by simp) (by simp) (by simp) (by simp)
  obtain ⟨e1, e2, e3, e4⟩ := ff_t h
  have eA : coA a b c d = tuA (fk a b c d) (gA a b c d) (gB a b c d) := by
    rw [coA, h, if_pos rfl, fiA, show gok (gA a b c d) (gB a b c d) = true from g]; rfl
  have eB : coB a b c d = tuB (fk a b c d) (gA a b c d) (gB a b c d) := by
    rw [coB, h, if_pos rfl, fiB, show gok (gA a b c d) (gB a b c d) = true from g]; rfl
  rw [e1, e2, e3, e4, eA, eB]
  have hx : gA a b c d = (f4 a b c d).1 * a - (f4 a b c d).2.1 * b + ((f4 a b c d).2.2.1 * c - (f4 a b c d).2.2.2 * d) := s1
  have hy : gB a b c d = (f4 a b c d).1 * b + (f4 a b c d).2.1 * a + ((f4 a b c d).2.2.1 * d + (f4 a b c d).2.2.2 * c) := s2
  have hk := fiK_bd (gA a b c d) (gB a b c d)
  change 0 ≤ fk a b c d ∧ fk a b c d ≤ 3 at hk
  rw [hx, hy]
  generalize (f4 a b c d).1 = A
  generalize (f4 a b c d).2.1 = A'
  generalize (f4 a b c d).2.2.1 = B
  generalize (f4 a b c d).2.2.2 = B'
  obtain hk | hk | hk | hk : fk a b c d = 0 ∨ fk a b c d = 1 ∨ fk a b c d = 2 ∨ fk a b c d = 3 := by omega
  · rw [hk]; exact ⟨rfl, rfl⟩
  · rw [hk]; show -A' * a - A * b + (-B' * c - B * d) = -(A * b + A' * a + (B * d + B' * c)) ∧ -A' * b + A * a + (-B' * d + B * c) = A * a - A' * b + (B * c - B' * d); constructor <;> grind
  · rw [hk]; show -A * a - -A' * b + (-B * c - -B' * d) = -(A * a - A' * b + (B * c - B' * d)) ∧ -A * b + -A' * a + (-B * d + -B' * c) = -(A * b + A' * a + (B * d + B' * c)); constructor <;> grind
  · rw [hk]; show A' * a - -A * b + (B' * c - -B * d) = A * b + A' * a + (B * d + B' * c) ∧ A' * b + -A * a + (B' * d + -B * c) = -(A * a - A' * b + (B * c - B' * d)); constructor <;> grind
/-- How great all four factors are. -/
theorem fc_bd4 (k : Nat) : ∀ (i : Nat) (a b c d A A' B B' C C' D D' : Int), FB i a b c d A A' B B' C C' D D' → i + k ≤ 21 → gok a b = true → gok c d = true →
    Bd (fc k a b c d A A' B B' C C' D D').1 ∧ Bd (fc k a b c d A A' B B' C C' D D').2.1 ∧ Bd (fc k a b c d A A' B B' C C' D D').2.2.1 ∧ Bd (fc k a b c d A A' B B' C C' D D').2.2.2 := by
  induction k with
  | zero =>
    intro i a b c d A A' B B' C C' D D' h hi _ _
    obtain ⟨b1, b2, b3, b4, -⟩ := FB_bd h (by omega)
    exact ⟨b1, b2, b3, b4⟩
  | succ k ih =>
    intro i a b c d A A' B B' C C' D D' h hi k1 k2
    by_cases hz : c = 0 ∧ d = 0
    · rw [fc, if_pos hz]
      obtain ⟨b1, b2, b3, b4, -⟩ := FB_bd h (by omega)
      exact ⟨b1, b2, b3, b4⟩
    · rw [fc, if_neg hz]
      exact ih (i + 1) c d _ _ C C' D D' _ _ _ _ (FB_step h k1 k2 hz rfl rfl rfl rfl) (by omega) k2 (rest_gok (dv_mk k1 k2 hz))
theorem bd_tu {t x y : Int} (hx : Bd x) (hy : Bd y) : Bd (tuA t x y) ∧ Bd (tuB t x y) := by
  unfold tuA tuB
  unfold Bd at *
  constructor <;> (repeat' split) <;> omega
theorem ff_bd4 {a b c d : Int} (h : coO a b c d = true) : Bd (ffA a b c d) ∧ Bd (ffB a b c d) ∧ Bd (ffC a b c d) ∧ Bd (ffD a b c d) := by
  obtain ⟨k1, k2, -⟩ := co_is h
  obtain ⟨b1, b2, b3, b4⟩ := fc_bd4 21 0 a b c d 1 0 0 0 0 0 1 0 (.inl ⟨rfl, rfl, rfl, rfl, rfl, rfl, rfl, rfl, rfl⟩) (by omega) k1 k2
  obtain ⟨e1, e2, e3, e4⟩ := ff_t h
  rw [e1, e2, e3, e4]
  exact ⟨(bd_tu b1 b2).1, (bd_tu b1 b2).2, (bd_tu b3 b4).1, (bd_tu b3 b4).2⟩
end Go.Proofs.Ytggebkgfldmipaa
