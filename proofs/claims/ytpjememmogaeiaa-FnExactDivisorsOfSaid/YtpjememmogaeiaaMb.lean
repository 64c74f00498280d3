import Derived.Test.YtpjememmogaeiaaMa
namespace Go.Proofs.Ytpjememmogaeiaa
open Go Go.RowKit

/-- Whether a whole number is prime, reckoned. -/
def wpB (n : Int) : Bool := decide (2 ≤ n) && (List.range n.toNat).all fun k => decide (k < 2) || decide (n < (k : Int) * k) || n % (k : Int) != 0
theorem wpB_iff {n : Int} : wpB n = true ↔ wp n := by
  simp only [wpB, Bool.and_eq_true, decide_eq_true_eq, List.all_eq_true, List.mem_range, Bool.or_eq_true, bne_iff_ne]
  constructor
  · rintro ⟨h2, h⟩
    refine ⟨h2, fun k hk hkk => ?_⟩
    have hlt : k < n := by
      have := Int.mul_le_mul_of_nonneg_right (c := k) hk (by omega)
      omega
    obtain ⟨j, rfl⟩ := Int.eq_ofNat_of_zero_le (show 0 ≤ k by omega)
    rcases h j (by omega) with (h | h) | h
    · omega
    · omega
    · exact h
  · rintro ⟨h2, h⟩
    refine ⟨h2, fun k _ => ?_⟩
    rcases Nat.lt_or_ge k 2 with hk | hk
    · exact .inl (.inl hk)
    · rcases Int.lt_or_le n ((k : Int) * k) with hkk | hkk
      · exact .inl (.inr hkk)
      · exact .inr (h k (by omega) hkk)
/-- The greater part, without its sign. -/
def mxB (a b : Int) : Int := max (max (max a (-a)) b) (-b)
theorem mxB_left (a : Int) : mxB a 0 = a ∨ mxB a 0 = -a := by unfold mxB; omega
theorem mxB_right (b : Int) : mxB 0 b = b ∨ mxB 0 b = -b := by unfold mxB; omega
def prO (a b : Int) : Bool := gok a b && if a != 0 && b != 0 then wpB (a * a + b * b) else (mxB a b % 4 == 3 && wpB (mxB a b))
theorem prO_prI {a b : Int} (h : prO a b = true) : prI a b := by
  unfold prO at h
  rw [Bool.and_eq_true] at h
  obtain ⟨k, h⟩ := h
  refine ⟨k, ?_⟩
  by_cases ha : a = 0
  · subst ha
    simp only [bne_self_eq_false, Bool.false_and, Bool.false_eq_true, if_false, Bool.and_eq_true, beq_iff_eq, wpB_iff] at h
    refine .inr ⟨_, ?_, h.1, h.2⟩
    rcases mxB_right b with e | e <;> rw [e] <;> grind
  · by_cases hb : b = 0
    · subst hb
      simp only [bne_self_eq_false, Bool.and_false, Bool.false_eq_true, if_false, Bool.and_eq_true, beq_iff_eq, wpB_iff] at h
      refine .inr ⟨_, ?_, h.1, h.2⟩
      rcases mxB_left a with e | e <;> rw [e] <;> grind
    · have hab : (a != 0 && b != 0) = true := by simp [ha, hb]
      rw [hab, if_pos rfl, wpB_iff] at h
      exact .inl ⟨ha, hb, h⟩
theorem sq_not_wp {a : Int} (h : wp (a * a)) : False := by
  obtain ⟨h2, hp⟩ := h
  rcases (show 2 ≤ a ∨ 2 ≤ -a ∨ (a = -1 ∨ a = 0 ∨ a = 1) by omega) with h | h | (rfl | rfl | rfl)
  · exact hp a h (Int.le_refl _) (Int.mul_emod_right a a)
  · exact hp (-a) h (by grind) (by rw [show a * a = -a * -a by grind]; exact Int.mul_emod_right _ _)
  · omega
  · omega
  · omega
theorem prO_norm {a b : Int} (k : gok a b = true) (h : wp (a * a + b * b)) : prO a b = true := by
  have ha : a ≠ 0 := by rintro rfl; rw [Int.mul_zero, Int.zero_add] at h; exact sq_not_wp h
  have hb : b ≠ 0 := by rintro rfl; rw [Int.mul_zero, Int.add_zero] at h; exact sq_not_wp h
  have hab : (a != 0 && b != 0) = true := by simp [ha, hb]
  unfold prO
  rw [k, hab, if_pos rfl, wpB_iff.2 h]; rfl
theorem prO_line {a b p : Int} (k : gok a b = true) (hp : wp p) (h4 : p % 4 = 3) (h : (b = 0 ∧ (a = p ∨ a = -p)) ∨ (a = 0 ∧ (b = p ∨ b = -p))) : prO a b = true := by
  have h2 := hp.1
  have hm : mxB a b = p := by unfold mxB; omega
  have hab : (a != 0 && b != 0) = false := by
    rcases h with ⟨rfl, -⟩ | ⟨rfl, -⟩ <;> simp
  unfold prO
  rw [k, hab, hm, wpB_iff.2 hp, h4]; rfl
/-- A number from 2 on is prime, or has a prime divisor whose square is not greater. -/
theorem least_pf {N : Int} (h : 2 ≤ N) : wp N ∨ ∃ p, wp p ∧ p * p ≤ N ∧ ∃ m, N = p * m := by
  have step : ∀ (d : Nat) (D : Int), D = (d : Int) → 2 ≤ D → D * D ≤ N → (∃ m, N = D * m) → ∃ p, wp p ∧ p * p ≤ N ∧ ∃ m, N = p * m := by
    intro d
    induction d using Nat.strongRecOn with
    | _ d ih =>
      intro D hD h2 hs hm
      cases hw : wpB D
      · have hn : ¬ wp D := fun h => by rw [wpB_iff.2 h] at hw; cases hw
        have hex : ∃ k : Int, 2 ≤ k ∧ k * k ≤ D ∧ D % k = 0 := by
          refine Classical.byContradiction fun hne => hn ⟨h2, fun k h2' hk e => hne ⟨k, h2', hk, e⟩⟩
        obtain ⟨k, k2, kk, ke⟩ := hex
        have hkD : k < D := by
          have := Int.mul_le_mul_of_nonneg_right (c := k) k2 (by omega)
          omega
        obtain ⟨m, hm⟩ := hm
        have hkk : k * k ≤ N := by
          have := Int.mul_le_mul (a := 1) (b := D) (c := D) (d := D) (by omega) (Int.le_refl _) (by omega) (by omega)
          omega
        obtain ⟨x, hx⟩ := Int.dvd_of_emod_eq_zero ke
        exact ih k.toNat (by omega) k (by omega) k2 hkk ⟨x * m, by rw [hm, hx]; grind⟩
      · exact ⟨D, wpB_iff.1 hw, hs, hm⟩
  cases hw : wpB N
  · have hn : ¬ wp N := fun h => by rw [wpB_iff.2 h] at hw; cases hw
    have hex : ∃ k : Int, 2 ≤ k ∧ k * k ≤ N ∧ N % k = 0 := by
      refine Classical.byContradiction fun hne => hn ⟨h, fun k h2' hk e => hne ⟨k, h2', hk, e⟩⟩
    obtain ⟨k, k2, kk, ke⟩ := hex
    obtain ⟨x, hx⟩ := Int.dvd_of_emod_eq_zero ke
    exact .inr (step k.toNat k (by omega) k2 kk ⟨x, hx⟩)
  · exact .inl (wpB_iff.1 hw)
/-- Small primes that leave no 3 are two squares. -/
theorem small_two : ∀ p : Fin 45, wpB (p.val : Int) = true → p.val % 4 ≠ 3 → ((List.range 7).any fun u => (List.range 7).any fun v => u * u + v * v == p.val) = true := by decide
theorem small_two' {p : Int} (hp : wp p) (h : p ≤ 44) (h4 : p % 4 ≠ 3) : ∃ u v : Int, u * u + v * v = p ∧ gok u v = true := by
  have h2 := hp.1
  have hs := small_two ⟨p.toNat, by omega⟩ (by show wpB ((p.toNat : Nat) : Int) = true; rw [show ((p.toNat : Nat) : Int) = p by omega]; exact wpB_iff.2 hp) (by show p.toNat % 4 ≠ 3; omega)
  simp only [List.any_eq_true, List.mem_range, beq_iff_eq] at hs
  obtain ⟨u, hu, v, hv, e⟩ := hs
  refine ⟨u, v, ?_, ?_⟩
  · have : ((u * u + v * v : Nat) : Int) = (p.toNat : Nat) := by rw [e]
    simp only [Int.natCast_add, Int.natCast_mul] at this
    omega
  · simp [gok, pok]; omega
/-- Who is neither a unit nor prime has a divisor between. -/
theorem pr_proper {a b : Int} (k : gok a b = true) (h2 : 2 ≤ a * a + b * b) (hN : a * a + b * b ≤ 2000) (hp : prO a b = false) : ∃ u v, gok u v = true ∧ Dv u v a b ∧ 1 < u * u + v * v ∧ u * u + v * v < a * a + b * b := by
  rcases least_pf h2 with hw | ⟨p, hw, hpp, m, hm⟩
  · rw [prO_norm k hw] at hp; cases hp
  have p2 := hw.1
  have p44 : p ≤ 44 := by
    rcases Int.lt_or_le 44 p with h | h
    · have := Int.mul_le_mul (a := 45) (b := 45) (c := p) (d := p) (by omega) (by omega) (by omega) (by omega)
      omega
    · exact h
  have kp : gok p 0 = true := by simp [gok, pok]; omega
  have plt : p < a * a + b * b := by
    have := Int.mul_le_mul_of_nonneg_right (c := p) p2 (by omega)
    omega
  have hO : coO a b p 0 = true := co_mk k kp (by rintro ⟨-, -, rfl, -⟩; omega)
  obtain ⟨g, gn, d1, d2, -, f1, f2, -⟩ := co_all hO
  have d2' := d2
  obtain ⟨s, t, hs, ht⟩ := d2
  have e := norm_mul s t (coA a b p 0) (coB a b p 0)
  rw [← hs, ← ht, Int.mul_zero, Int.add_zero] at e
  have gp := nz_pos gn
  rcases wp_sq hw gp (by rw [e, Int.mul_comm]) with h1 | h1 | h1
  · -- nothing in common: then p would divide 1
    exfalso
    obtain ⟨u1, u2⟩ := fi_unit h1
    rw [f1] at u1
    rw [f2] at u2
    have hap : apO a b p 0 = true := by simp [apO, hO, u1, u2]
    obtain ⟨s1, s2, t1, t2, q1, q2⟩ := (ap_iff k kp).1 hap
    have en := norm_mul s1 s2 a b
    have r1 : s1 * a - s2 * b = 1 - t1 * p := by rw [Int.mul_zero] at q1; omega
    have r2 : s1 * b + s2 * a = -(t2 * p) := by rw [Int.mul_zero] at q2; omega
    rw [r1, r2, hm] at en
    have : p * ((s1 * s1 + s2 * s2) * m + 2 * t1 - t1 * t1 * p - t2 * t2 * p) = 1 := by grind
    have hd : p ∣ 1 := ⟨_, this.symm⟩
    have := Int.le_of_dvd (by omega) hd
    omega
  · exact ⟨_, _, g, d1, by omega, by omega⟩
  · rcases Int.lt_or_le (p * p) (a * a + b * b) with hlt | hge
    · refine ⟨_, _, g, d1, ?_, by omega⟩
      have := Int.mul_le_mul (a := 2) (b := 2) (c := p) (d := p) p2 p2 (by omega) (by omega)
      omega
    · -- the number is p times a unit
      have hpN : a * a + b * b = p * p := by omega
      have hst : s * s + t * t = 1 := by
        rw [h1] at e
        have hpos : 0 < p * p := Int.mul_pos (by omega) (by omega)
        have : 1 * (p * p) = (s * s + t * t) * (p * p) := by omega
        exact (Int.eq_of_mul_eq_mul_right (by omega) this).symm
      obtain ⟨x, y, hx, hy⟩ := d1
      have e3 := norm_mul x y (coA a b p 0) (coB a b p 0)
      rw [← hx, ← hy, h1, hpN] at e3
      have hxy : x * x + y * y = 1 := by
        have hpos : 0 < p * p := Int.mul_pos (by omega) (by omega)
        have : 1 * (p * p) = (x * x + y * y) * (p * p) := by omega
        exact (Int.eq_of_mul_eq_mul_right (by omega) this).symm
      have hline : (b = 0 ∧ (a = p ∨ a = -p)) ∨ (a = 0 ∧ (b = p ∨ b = -p)) := by
        generalize coA a b p 0 = X at *
        generalize coB a b p 0 = Y at *
        clear e e3 h1 hpN hge gp d2' hm hpp h2 hN
        rcases unit_is hst with ⟨rfl, rfl⟩ | ⟨rfl, rfl⟩ | ⟨rfl, rfl⟩ | ⟨rfl, rfl⟩ <;> rcases unit_is hxy with ⟨rfl, rfl⟩ | ⟨rfl, rfl⟩ | ⟨rfl, rfl⟩ | ⟨rfl, rfl⟩ <;> omega
      by_cases h4 : p % 4 = 3
      · rw [prO_line k hw h4 hline] at hp; cases hp
      · obtain ⟨u, v, huv, kuv⟩ := small_two' hw p44 h4
        refine ⟨u, v, kuv, ?_, by omega, by omega⟩
        have dp : Dv u v p 0 := ⟨u, -v, by rw [← huv]; grind, by grind⟩
        rcases hline with ⟨rfl, rfl | rfl⟩ | ⟨rfl, rfl | rfl⟩
        · exact dp
        · simpa using dp.mul (-1) 0
        · simpa using dp.mul 0 1
        · simpa using dp.mul 0 (-1)
end Go.Proofs.Ytpjememmogaeiaa
