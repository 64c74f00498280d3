import Derived.Test.YtggebkgfldmipaaKa
namespace Go.Proofs.Ytggebkgfldmipaa
open Go Go.RowKit

/-- A whole number is prime: from 2 on, and no number from 2 on, whose square is not greater, divides it. -/
def wp (n : Int) : Prop := 2 ≤ n ∧ ∀ k : Int, 2 ≤ k → k * k ≤ n → n % k ≠ 0
theorem wp_div {n d e : Int} (h : wp n) (hd : 1 ≤ d) (he : n = d * e) : d = 1 ∨ d = n := by
  obtain ⟨h2, hp⟩ := h
  have hd2 : d ≠ 0 := by omega
  have epos : 1 ≤ e := by
    rcases Int.lt_or_le e 1 with h | h
    · have := Int.mul_le_mul_of_nonneg_left (c := d) (show e ≤ 0 by omega) (by omega); omega
    · exact h
  rcases Int.lt_or_le d 2 with h | h
  · exact .inl (by omega)
  rcases Int.lt_or_le e 2 with h' | h'
  · obtain rfl : e = 1 := by omega
    exact .inr (by omega)
  exfalso
  rcases Int.le_total d e with hde | hde
  · have := Int.mul_le_mul_of_nonneg_left (c := d) hde (by omega)
    exact hp d h (by omega) (by rw [he]; exact Int.mul_emod_right d e)
  · have := Int.mul_le_mul_of_nonneg_right (c := e) hde (by omega)
    exact hp e h' (by omega) (by rw [he]; exact Int.mul_emod_left d e)
/-- What divides the square of a prime is 1, it, or its square. -/
theorem wp_sq {n d e : Int} (h : wp n) (hd : 1 ≤ d) (he : n * n = d * e) : d = 1 ∨ d = n ∨ d = n * n := by
  have hn : 2 ≤ n := h.1
  have epos : 1 ≤ e := by
    rcases Int.lt_or_le e 1 with h | h
    · have := Int.mul_le_mul_of_nonneg_left (c := d) (show e ≤ 0 by omega) (by omega)
      have := Int.mul_pos (a := n) (b := n) (by omega) (by omega)
      omega
    · exact h
  -- the greatest common divisor of d and n
  have g1 := Int.gcd_dvd_left d n
  have g2 := Int.gcd_dvd_right d n
  have gp : 0 < Int.gcd d n := Int.gcd_pos_of_ne_zero_left _ (by omega)
  obtain ⟨x, hx⟩ := g2
  rcases wp_div h (d := (Int.gcd d n : Int)) (e := x) (by omega) hx with g | g
  · -- apart: d divides n, so it is 1
    have hc : Int.gcd d n = 1 := by omega
    have hdn : d ∣ n := by
      have h1 : d.natAbs ∣ n.natAbs * n.natAbs := by
        rw [← Int.natAbs_mul]; exact Int.natAbs_dvd_natAbs.2 ⟨e, he⟩
      exact Int.natAbs_dvd_natAbs.1 (Nat.Coprime.dvd_of_dvd_mul_right hc h1)
    obtain ⟨y, hy⟩ := hdn
    rcases wp_div h hd hy with h1 | h1
    · exact .inl h1
    · exact .inr (.inl h1)
  · -- n divides d
    rw [g] at g1
    obtain ⟨y, hy⟩ := g1
    have e1 : n * n = n * (y * e) := by rw [he, hy]; grind
    have e2 : n = y * e := Int.eq_of_mul_eq_mul_left (by omega) e1
    have yp : 1 ≤ y := by
      rcases Int.lt_or_le y 1 with h | h
      · have := Int.mul_le_mul_of_nonneg_left (c := n) (show y ≤ 0 by omega) (by omega); omega
      · exact h
    rcases wp_div h yp e2 with h1 | h1
    · right; left; rw [hy, h1]; omega
    · right; right; rw [hy, h1]
/-- A prime of the plane. -/
def prI (a b : Int) : Prop := gok a b = true ∧ ((a ≠ 0 ∧ b ≠ 0 ∧ wp (a * a + b * b)) ∨ (∃ n : Int, a * a + b * b = n * n ∧ n % 4 = 3 ∧ wp n))
theorem sq_mod4 (a : Int) : a * a % 4 = 0 ∨ a * a % 4 = 1 := by
  rw [Int.mul_emod]
  rcases (show a % 4 = 0 ∨ a % 4 = 1 ∨ a % 4 = 2 ∨ a % 4 = 3 by omega) with h | h | h | h <;> rw [h] <;> decide
/-- Who divides a prime has the norm 1, or that of the prime. -/
theorem pr_div {a b u v : Int} (h : prI a b) (hd : Dv u v a b) : u * u + v * v = 1 ∨ u * u + v * v = a * a + b * b := by
  obtain ⟨x, y, hx, hy⟩ := hd
  have e := norm_mul x y u v
  rw [← hx, ← hy] at e
  have n1 := sq_nn u
  have n2 := sq_nn v
  have m1 := sq_nn x
  have m2 := sq_nn y
  have hpos : 1 ≤ u * u + v * v := by
    rcases Int.lt_or_le (u * u + v * v) 1 with hh | hh
    · exfalso
      have e0 : u * u + v * v = 0 := by omega
      rw [e0, Int.mul_zero] at e
      rcases h.2 with ⟨-, -, hw⟩ | ⟨n, hn, -, hw⟩
      · have := hw.1; omega
      · have := hw.1; have := Int.mul_pos (a := n) (b := n) (by omega) (by omega); omega
    · exact hh
  rcases h.2 with ⟨-, -, hw⟩ | ⟨n, hn, h4, hw⟩
  · exact wp_div hw hpos (by rw [e, Int.mul_comm])
  · rcases wp_sq hw hpos (by rw [← hn, e, Int.mul_comm]) with h1 | h1 | h1
    · exact .inl h1
    · exfalso
      have := sq_mod4 u
      have := sq_mod4 v
      omega
    · exact .inr (by rw [h1, hn])
theorem pr_pos {a b : Int} (h : prI a b) : 2 ≤ a * a + b * b := by
  rcases h.2 with ⟨-, -, hw⟩ | ⟨n, hn, -, hw⟩
  · exact hw.1
  · have := hw.1
    have := Int.mul_le_mul (a := 2) (b := 2) (c := n) (d := n) (by omega) (by omega) (by omega) (by omega)
    omega
theorem unit_is {x y : Int} (h : x * x + y * y = 1) : (x = 1 ∧ y = 0) ∨ (x = -1 ∧ y = 0) ∨ (x = 0 ∧ y = 1) ∨ (x = 0 ∧ y = -1) := by
  have n1 := sq_nn x
  have n2 := sq_nn y
  have b1 := sq_le (x := x) (k := 1) (by omega) (by omega)
  have b2 := sq_le (x := y) (k := 1) (by omega) (by omega)
  obtain rfl | rfl | rfl : x = -1 ∨ x = 0 ∨ x = 1 := by omega
  · have : y * y = 0 := by omega
    have : y = 0 := by rcases Int.mul_eq_zero.1 this with h | h <;> exact h
    omega
  · obtain rfl | rfl | rfl : y = -1 ∨ y = 0 ∨ y = 1 := by omega
    · omega
    · simp at h
    · omega
  · have : y * y = 0 := by omega
    have : y = 0 := by rcases Int.mul_eq_zero.1 this with h | h <;> exact h
    omega
theorem fi_unit {x y : Int} (h : x * x + y * y = 1) : fiA x y = 1 ∧ fiB x y = 0 := by
  rcases unit_is h with ⟨rfl, rfl⟩ | ⟨rfl, rfl⟩ | ⟨rfl, rfl⟩ | ⟨rfl, rfl⟩ <;> exact ⟨by decide, by decide⟩
/-- Primes that divide a product divide one of both. -/
theorem pr_euclid {a b c d x y : Int} (h : prI a b) (ht : tiO c d x y = true) (hv : vdO a b (tiA c d x y) (tiB c d x y) = true) : vdO a b c d = true ∨ vdO a b x y = true := by
  have hpos := pr_pos h
  have hz : ¬ (a = 0 ∧ b = 0) := by rintro ⟨rfl, rfl⟩; simp at hpos
  have ht' := ht
  simp only [tiO, Bool.and_eq_true] at ht'
  have hO : coO a b c d = true := co_mk h.1 ht'.1.1 (fun e => hz ⟨e.1, e.2.1⟩)
  obtain ⟨g, -, d1, d2, -, f1, f2, -⟩ := co_all hO
  rcases pr_div h d1 with e | e
  · right
    obtain ⟨u1, u2⟩ := fi_unit e
    rw [f1] at u1
    rw [f2] at u2
    have hap : apO a b c d = true := by simp [apO, hO, u1, u2]
    exact ap_div hap ht hv
  · left
    refine vd_Dv.2 ⟨dv_mk ht'.1.1 h.1 hz, Dv.trans ?_ d2⟩
    obtain ⟨p, q, hp, hq⟩ := d1
    have e2 := norm_mul p q (coA a b c d) (coB a b c d)
    rw [← hp, ← hq, e] at e2
    have e3 : 1 * (a * a + b * b) = (p * p + q * q) * (a * a + b * b) := by omega
    have e4 := Int.eq_of_mul_eq_mul_right (by omega) e3
    refine ⟨p, -q, ?_, ?_⟩
    · have : coA a b c d = (p * p + q * q) * coA a b c d := by rw [← e4]; omega
      rw (occs := .pos [1]) [this]
      rw (occs := .pos [1]) [hp, hq]
      grind
    · have : coB a b c d = (p * p + q * q) * coB a b c d := by rw [← e4]; omega
      rw (occs := .pos [1]) [this]
      rw (occs := .pos [1]) [hp, hq]
      grind
end Go.Proofs.Ytggebkgfldmipaa

namespace Go.Proofs.Ytggebkgfldmipaa
open Go Go.RowKit

/-- Whether a whole number is prime, reckoned. -/
def wpB (n : Int) : Bool := decide (2 ≤ n) && (List.range n.toNat).all fun k => decide (k < 2) || decide (n < (k : Int) * k) || n % (k : Int) != 0
theorem wpB_iff {n : Int} : wpB n = true ↔ wp n := by
  simp only [wpB, Bool.and_eq_true, decide_eq_true_eq, List.all_eq_true, List.mem_range, Bool.or_eq_true, bne_iff_ne]
  constructor
  · rintro ⟨h2, h⟩
    refine ⟨h2, fun k hk hkk => ?_⟩
    have hlt : k < n := by
      have := Int.mul_le_mul_of_nonneg_right (c := k) hk (by omega)
      omega
    obtain ⟨j, rfl⟩ := Int.eq_ofNat_of_zero_le (show 0 ≤ k by omega)
    rcases h j (by omega) with (h | h) | h
    · omega
    · omega
    · exact h
  · rintro ⟨h2, h⟩
    refine ⟨h2, fun k _ => ?_⟩
    rcases Nat.lt_or_ge k 2 with hk | hk
    · exact .inl (.inl hk)
    · rcases Int.lt_or_le n ((k : Int) * k) with hkk | hkk
      · exact .inl (.inr hkk)
      · exact .inr (h k (by omega) hkk)
/-- The greater part, without its sign. -/
def mxB (a b : Int) : Int := max (max (max a (-a)) b) (-b)
theorem mxB_left (a : Int) : mxB a 0 = a ∨ mxB a 0 = -a := by unfold mxB; omega
theorem mxB_right (b : Int) : mxB 0 b = b ∨ mxB 0 b = -b := by unfold mxB; omega
def prO (a b : Int) : Bool := gok a b && if a != 0 && b != 0 then wpB (a * a + b * b) else (mxB a b % 4 == 3 && wpB (mxB a b))
theorem prO_prI {a b : Int} (h : prO a b = true) : prI a b := by
  unfold prO at h
  rw [Bool.and_eq_true] at h
  obtain ⟨k, h⟩ := h
  refine ⟨k, ?_⟩
  by_cases ha : a = 0
  · subst ha
    simp only [bne_self_eq_false, Bool.false_and, Bool.false_eq_true, if_false, Bool.and_eq_true, beq_iff_eq, wpB_iff] at h
    refine .inr ⟨_, ?_, h.1, h.2⟩
    rcases mxB_right b with e | e <;> rw [e] <;> grind
  · by_cases hb : b = 0
    · subst hb
      simp only [bne_self_eq_false, Bool.and_false, Bool.false_eq_true, if_false, Bool.and_eq_true, beq_iff_eq, wpB_iff] at h
      refine .inr ⟨_, ?_, h.1, h.2⟩
      rcases mxB_left a with e | e <;> rw [e] <;> grind
    · have hab : (a != 0 && b != 0) = true := by simp [ha, hb]
      rw [hab, if_pos rfl, wpB_iff] at h
      exact .inl ⟨ha, hb, h⟩
theorem sq_not_wp {a : Int} (h : wp (a * a)) : False := by
  obtain ⟨h2, hp⟩ := h
  rcases (show 2 ≤ a ∨ 2 ≤ -a ∨ (a = -1 ∨ a = 0 ∨ a = 1) by omega) with h | h | (rfl | rfl | rfl)
  · exact hp a h (Int.le_refl _) (Int.mul_emod_right a a)
  · exact hp (-a) h (by grind) (by rw [show a * a = -a * -a by grind]; exact Int.mul_emod_right _ _)
  · omega
  · omega
  · omega
theorem prO_norm {a b : Int} (k : gok a b = true) (h : wp (a * a + b * b)) : prO a b = true := by
  have ha : a ≠ 0 := by rintro rfl; rw [Int.mul_zero, Int.zero_add] at h; exact sq_not_wp h
  have hb : b ≠ 0 := by rintro rfl; rw [Int.mul_zero, Int.add_zero] at h; exact sq_not_wp h
  have hab : (a != 0 && b != 0) = true := by simp [ha, hb]
  unfold prO
  rw [k, hab, if_pos rfl, wpB_iff.2 h]; rfl
theorem prO_line {a b p : Int} (k : gok a b = true) (hp : wp p) (h4 : p % 4 = 3) (h : (b = 0 ∧ (a = p ∨ a = -p)) ∨ (a = 0 ∧ (b = p ∨ b = -p))) : prO a b = true := by
  have h2 := hp.1
  have hm : mxB a b = p := by unfold mxB; omega
  have hab : (a != 0 && b != 0) = false := by
    rcases h with ⟨rfl, -⟩ | ⟨rfl, -⟩ <;> simp
  unfold prO
  rw [k, hab, hm, wpB_iff.2 hp, h4]; rfl
/-- A number from 2 on is prime, or has a prime divisor whose square is not greater. -/
theorem least_pf {N : Int} (h : 2 ≤ N) : wp N ∨ ∃ p, wp p ∧ p * p ≤ N ∧ ∃ m, N = p * m := by
  have step : ∀ (d : Nat) (D : Int), D = (d : Int) → 2 ≤ D → D * D ≤ N → (∃ m, N = D * m) → ∃ p, wp p ∧ p * p ≤ N ∧ ∃ m, N = p * m := by
    intro d
    induction d using Nat.strongRecOn with
    | _ d ih =>
      intro D hD h2 hs hm
      cases hw : wpB D
      · have hn : ¬ wp D := fun h => by rw [wpB_iff.2 h] at hw; cases hw
        have hex : ∃ k : Int, 2 ≤ k ∧ k * k ≤ D ∧ D % k = 0 := by
          refine Classical.byContradiction fun hne => hn ⟨h2, fun k h2' hk e => hne ⟨k, h2', hk, e⟩⟩
        obtain ⟨k, k2, kk, ke⟩ := hex
        have hkD : k < D := by
          have := Int.mul_le_mul_of_nonneg_right (c := k) k2 (by omega)
          omega
        obtain ⟨m, hm⟩ := hm
        have hkk : k * k ≤ N := by
          have := Int.mul_le_mul (a := 1) (b := D) (c := D) (d := D) (by omega) (Int.le_refl _) (by omega) (by omega)
          omega
        obtain ⟨x, hx⟩ := Int.dvd_of_emod_eq_zero ke
        exact ih k.toNat (by omega) k (by omega) k2 hkk ⟨x * m, by rw [hm, hx]; grind⟩
      · exact ⟨D, wpB_iff.1 hw, hs, hm⟩
  cases hw : wpB N
  · have hn : ¬ wp N := fun h => by rw [wpB_iff.2 h] at hw; cases hw
    have hex : ∃ k : Int, 2 ≤ k ∧ k * k ≤ N ∧ N % k = 0 := by
      refine Classical.byContradiction fun hne => hn ⟨h, fun k h2' hk e => hne ⟨k, h2', hk, e⟩⟩
    obtain ⟨k, k2, kk, ke⟩ := hex
    obtain ⟨x, hx⟩ := Int.dvd_of_emod_eq_zero ke
    exact .inr (step k.toNat k (by omega) k2 kk ⟨x, hx⟩)
  · exact .inl (wpB_iff.1 hw)
/-- Small primes that leave no 3 are two squares. -/
theorem small_two : ∀ p : Fin 45, wpB (p.val : Int) = true → p.val % 4 ≠ 3 → ((List.range 7).any fun u => (List.range 7).any fun v => u * u + v * v == p.val) = true := by decide
theorem small_two' {p : Int} (hp : wp p) (h : p ≤ 44) (h4 : p % 4 ≠ 3) : ∃ u v : Int, u * u + v * v = p ∧ gok u v = true := by
  have h2 := hp.1
  have hs := small_two ⟨p.toNat, by omega⟩ (by show wpB ((p.toNat : Nat) : Int) = true; rw [show ((p.toNat : Nat) : Int) = p by omega]; exact wpB_iff.2 hp) (by show p.toNat % 4 ≠ 3; omega)
  simp only [List.any_eq_true, List.mem_range, beq_iff_eq] at hs
  obtain ⟨u, hu, v, hv, e⟩ := hs
  refine ⟨u, v, ?_, ?_⟩
  · have : ((u * u + v * v : Nat) : Int) = (p.toNat : Nat) := by rw [e]
    simp only [Int.natCast_add, Int.natCast_mul] at this
    omega
  · simp [gok, pok]; omega
/-- Who is neither a unit nor prime has a divisor between. -/
theorem pr_proper {a b : Int} (k : gok a b = true) (h2 : 2 ≤ a * a + b * b) (hN : a * a + b * b ≤ 2000) (hp : prO a b = false) : ∃ u v, gok u v = true ∧ Dv u v a b ∧ 1 < u * u + v * v ∧ u * u + v * v < a * a + b * b := by
  rcases least_pf h2 with hw | ⟨p, hw, hpp, m, hm⟩
  · rw [prO_norm k hw] at hp; cases hp
  have p2 := hw.1
  have p44 : p ≤ 44 := by
    rcases Int.lt_or_le 44 p with h | h
    · have := Int.mul_le_mul (a := 45) (b := 45) (c := p) (d := p) (by omega) (by omega) (by omega) (by omega)
      omega
    · exact h
  have kp : gok p 0 = true := by simp [gok, pok]; omega
  have plt : p < a * a + b * b := by
    have := Int.mul_le_mul_of_nonneg_right (c := p) p2 (by omega)
    omega
  have hO : coO a b p 0 = true := co_mk k kp (by rintro ⟨-, -, rfl, -⟩; omega)
  obtain ⟨g, gn, d1, d2, -, f1, f2, -⟩ := co_all hO
  have d2' := d2
  obtain ⟨s, t, hs, ht⟩ := d2
  have e := norm_mul s t (coA a b p 0) (coB a b p 0)
  rw [← hs, ← ht, Int.mul_zero, Int.add_zero] at e
  have gp := nz_pos gn
  rcases wp_sq hw gp (by rw [e, Int.mul_comm]) with h1 | h1 | h1
  · -- nothing in common: then p would divide 1
    exfalso
    obtain ⟨u1, u2⟩ := fi_unit h1
    rw [f1] at u1
    rw [f2] at u2
    have hap : apO a b p 0 = true := by simp [apO, hO, u1, u2]
    obtain ⟨s1, s2, t1, t2, q1, q2⟩ := (ap_iff k kp).1 hap
    have en := norm_mul s1 s2 a b
    have r1 : s1 * a - s2 * b = 1 - t1 * p := by rw [Int.mul_zero] at q1; omega
    have r2 : s1 * b + s2 * a = -(t2 * p) := by rw [Int.mul_zero] at q2; omega
    rw [r1, r2, hm] at en
    have : p * ((s1 * s1 + s2 * s2) * m + 2 * t1 - t1 * t1 * p - t2 * t2 * p) = 1 := by grind
    have hd : p ∣ 1 := ⟨_, this.symm⟩
    have := Int.le_of_dvd (by omega) hd
    omega
  · exact ⟨_, _, g, d1, by omega, by omega⟩
  · rcases Int.lt_or_le (p * p) (a * a + b * b) with hlt | hge
    · refine ⟨_, _, g, d1, ?_, by omega⟩
      have := Int.mul_le_mul (a := 2) (b := 2) (c := p) (d := p) p2 p2 (by omega) (by omega)
      omega
    · -- the number is p times a unit
      have hpN : a * a + b * b = p * p := by omega
      have hst : s * s + t * t = 1 := by
        rw [h1] at e
        have hpos : 0 < p * p := Int.mul_pos (by omega) (by omega)
        have : 1 * (p * p) = (s * s + t * t) * (p * p) := by omega
        exact (Int.eq_of_mul_eq_mul_right (by omega) this).symm
      obtain ⟨x, y, hx, hy⟩ := d1
      have e3 := norm_mul x y (coA a b p 0) (coB a b p 0)
      rw [← hx, ← hy, h1, hpN] at e3
      have hxy : x * x + y * y = 1 := by
        have hpos : 0 < p * p := Int.mul_pos (by omega) (by omega)
        have : 1 * (p * p) = (x * x + y * y) * (p * p) := by omega
        exact (Int.eq_of_mul_eq_mul_right (by omega) this).symm
      have hline : (b = 0 ∧ (a = p ∨ a = -p)) ∨ (a = 0 ∧ (b = p ∨ b = -p)) := by
        generalize coA a b p 0 = X at *
        generalize coB a b p 0 = Y at *
        clear e e3 h1 hpN hge gp d2' hm hpp h2 hN
        rcases unit_is hst with ⟨rfl, rfl⟩ | ⟨rfl, rfl⟩ | ⟨rfl, rfl⟩ | ⟨rfl, rfl⟩ <;> rcases unit_is hxy with ⟨rfl, rfl⟩ | ⟨rfl, rfl⟩ | ⟨rfl, rfl⟩ | ⟨rfl, rfl⟩ <;> omega
      by_cases h4 : p % 4 = 3
      · rw [prO_line k hw h4 hline] at hp; cases hp
      · obtain ⟨u, v, huv, kuv⟩ := small_two' hw p44 h4
        refine ⟨u, v, kuv, ?_, by omega, by omega⟩
        have dp : Dv u v p 0 := ⟨u, -v, by rw [← huv]; grind, by grind⟩
        rcases hline with ⟨rfl, rfl | rfl⟩ | ⟨rfl, rfl | rfl⟩
        · exact dp
        · simpa using dp.mul (-1) 0
        · simpa using dp.mul 0 1
        · simpa using dp.mul 0 (-1)
end Go.Proofs.Ytggebkgfldmipaa

namespace Go.Proofs.Ytggebkgfldmipaa
open Go Go.RowKit

/-- The order of divisors and of primes: by norms, and of equal ones by first parts. -/
def ltD (p q : Int × Int) : Prop := p.1 * p.1 + p.2 * p.2 < q.1 * q.1 + q.2 * q.2 ∨ (p.1 * p.1 + p.2 * p.2 = q.1 * q.1 + q.2 * q.2 ∧ p.1 < q.1)
theorem ltD_irr (p : Int × Int) : ¬ ltD p p := by unfold ltD; omega
theorem ltD_asymm {p q : Int × Int} (h : ltD p q) (h' : ltD q p) : False := by unfold ltD at h h'; omega
theorem ltD_trans {p q r : Int × Int} (h : ltD p q) (h' : ltD q r) : ltD p r := by unfold ltD at *; omega
/-- Two lists in order with the same members are one. -/
theorem sorted_one : ∀ {l l' : List (Int × Int)}, l.Pairwise ltD → l'.Pairwise ltD → (∀ x, x ∈ l ↔ x ∈ l') → l = l' := by
  intro l
  induction l with
  | nil =>
    intro l' _ _ h
    cases l' with
    | nil => rfl
    | cons y t => exact absurd ((h y).2 (List.mem_cons_self ..)) (List.not_mem_nil)
  | cons x t ih =>
    intro l' hl hl' h
    cases l' with
    | nil => exact absurd ((h x).1 (List.mem_cons_self ..)) (List.not_mem_nil)
    | cons y t' =>
      obtain ⟨hx, ht⟩ := List.pairwise_cons.1 hl
      obtain ⟨hy, ht'⟩ := List.pairwise_cons.1 hl'
      have exy : x = y := by
        rcases List.mem_cons.1 ((h x).1 (List.mem_cons_self ..)) with e | hm
        · exact e
        · rcases List.mem_cons.1 ((h y).2 (List.mem_cons_self ..)) with e | hm'
          · exact e.symm
          · exact absurd (ltD_asymm (hx y hm') (hy x hm)) id
      subst exy
      congr 1
      refine ih ht ht' fun z => ⟨fun hz => ?_, fun hz => ?_⟩
      · rcases List.mem_cons.1 ((h z).1 (List.mem_cons_of_mem _ hz)) with e | hm
        · exact absurd (hx z hz) (by rw [e]; exact ltD_irr _)
        · exact hm
      · rcases List.mem_cons.1 ((h z).2 (List.mem_cons_of_mem _ hz)) with e | hm
        · exact absurd (hy z hz) (by rw [e]; exact ltD_irr _)
        · exact hm
/-- The first quarter. -/
def fqP (u v : Int) : Prop := 0 < u ∧ 0 ≤ v
theorem fq_fi {u v : Int} (h : fqP u v) (k : gok u v = true) : fiA u v = u ∧ fiB u v = v := by
  obtain ⟨e1, e2, -⟩ := fi_0 k (by unfold fqP at h; simp [fiP]; omega)
  exact ⟨e1, e2⟩
theorem fi_fq {u v : Int} (k : gok u v = true) (hz : ¬ (u = 0 ∧ v = 0)) : fqP (fiA u v) (fiB u v) := by
  obtain ⟨-, -, g, -⟩ := fi_Dv k
  obtain ⟨p, q, t, g', hA, hB, -, -, -, hp, -⟩ := fi_sum k
  have hn := fi_nz k hz
  rw [hA, hB] at hn ⊢
  rcases hp with h | h
  · exact h
  · exact absurd h hn
/-- What a search in order has found so far: all that are right of norms below n, and of the norm n up to a, b. -/
structure Found (ok : Int → Int → Bool) (n a b : Int) (xs : List (Int × Int)) : Prop where
  sorted : xs.Pairwise ltD
  mem : ∀ u v, (u, v) ∈ xs ↔ fqP u v ∧ ok u v = true ∧ (u * u + v * v < n ∨ (u * u + v * v = n ∧ (u < a ∨ (u = a ∧ v < b))))
theorem Found.start (ok : Int → Int → Bool) {n : Int} (hn : n ≤ 1) : Found ok n 1 0 [] := by
  refine ⟨List.Pairwise.nil, fun u v => ?_⟩
  simp only [List.not_mem_nil, false_iff, not_and]
  rintro ⟨hu, hv⟩ - h
  have := Int.mul_le_mul (a := 1) (b := 1) (c := u) (d := u) hu hu (by omega) (by omega)
  have := sq_nn v
  omega
theorem sq_lt {a b : Int} (h0 : 0 ≤ a) (h : a < b) : a * a < b * b := by
  have h1 := Int.mul_le_mul_of_nonneg_left (c := a) (show a ≤ b by omega) h0
  have h2 := Int.mul_lt_mul_of_pos_right h (show 0 < b by omega)
  omega
theorem Found.hit {ok : Int → Int → Bool} {n a b : Int} {xs : List (Int × Int)} (h : Found ok n a b xs) (ha : 1 ≤ a) (hb : 0 ≤ b) (hn : a * a + b * b = n) (ho : ok a b = true) : Found ok n a (b + 1) (xs ++ [(a, b)]) := by
  refine ⟨?_, fun u v => ?_⟩
  · refine List.pairwise_append.2 ⟨h.sorted, List.pairwise_singleton _ _, ?_⟩
    rintro ⟨u, v⟩ hx y hy
    obtain rfl := List.mem_singleton.1 hy
    obtain ⟨⟨hu, hv⟩, -, hl | ⟨he, hl | ⟨rfl, hl⟩⟩⟩ := (h.mem u v).1 hx
    · exact .inl (by show u * u + v * v < a * a + b * b; omega)
    · exact .inr ⟨by show u * u + v * v = a * a + b * b; omega, hl⟩
    · have := sq_lt hv hl; omega
  · rw [List.mem_append, List.mem_singleton, h.mem, Prod.mk.injEq]
    constructor
    · rintro (⟨h1, h2, h3⟩ | ⟨rfl, rfl⟩)
      · exact ⟨h1, h2, by omega⟩
      · exact ⟨⟨by omega, hb⟩, ho, by omega⟩
    · rintro ⟨h1, h2, h3⟩
      by_cases e : u = a ∧ v = b
      · exact .inr e
      · exact .inl ⟨h1, h2, by omega⟩
theorem Found.miss {ok : Int → Int → Bool} {n a b : Int} {xs : List (Int × Int)} (h : Found ok n a b xs) (hn : ¬ (a * a + b * b = n ∧ ok a b = true)) : Found ok n a (b + 1) xs := by
  refine ⟨h.sorted, fun u v => ?_⟩
  rw [h.mem]
  constructor
  · rintro ⟨h1, h2, h3⟩; exact ⟨h1, h2, by omega⟩
  · rintro ⟨h1, h2, h3⟩
    refine ⟨h1, h2, ?_⟩
    by_cases e : u = a ∧ v = b
    · obtain ⟨rfl, rfl⟩ := e
      by_cases e2 : u * u + v * v = n
      · exact absurd ⟨e2, h2⟩ hn
      · omega
    · omega
theorem Found.nextA {ok : Int → Int → Bool} {n a b : Int} {xs : List (Int × Int)} (h : Found ok n a b xs) (hb : 0 ≤ b) (hn : n < a * a + b * b) : Found ok n (a + 1) 0 xs := by
  refine ⟨h.sorted, fun u v => ?_⟩
  rw [h.mem]
  constructor
  · rintro ⟨h1, h2, h3⟩; exact ⟨h1, h2, by omega⟩
  · rintro ⟨h1, h2, h3⟩
    refine ⟨h1, h2, ?_⟩
    rcases Int.lt_or_le v b with hv | hv
    · have := h1.2; omega
    · by_cases e : u = a
      · subst e
        have := Int.mul_le_mul hv hv hb (by omega)
        omega
      · have := h1.2; omega
theorem Found.nextN {ok : Int → Int → Bool} {n a : Int} {xs : List (Int × Int)} (h : Found ok n a 0 xs) (ha : 0 ≤ a) (hn : n < a * a) : Found ok (n + 1) 1 0 xs := by
  refine ⟨h.sorted, fun u v => ?_⟩
  rw [h.mem]
  constructor
  · rintro ⟨h1, h2, h3⟩; exact ⟨h1, h2, by omega⟩
  · rintro ⟨⟨hu, hv⟩, h2, h3⟩
    refine ⟨⟨hu, hv⟩, h2, ?_⟩
    rcases h3 with h3 | ⟨h3, h4⟩
    · rcases Int.lt_or_le u a with h5 | h5
      · omega
      · have := Int.mul_le_mul h5 h5 ha (by omega)
        have := sq_nn v
        omega
    · exfalso; omega
theorem Found.skip {ok : Int → Int → Bool} {n : Int} {xs : List (Int × Int)} (h : Found ok n 1 0 xs) (hs : ∀ u v, fqP u v → ok u v = true → u * u + v * v ≠ n) : Found ok (n + 1) 1 0 xs := by
  refine ⟨h.sorted, fun u v => ?_⟩
  rw [h.mem]
  constructor
  · rintro ⟨⟨hu, hv⟩, h2, h3⟩; exact ⟨⟨hu, hv⟩, h2, by omega⟩
  · rintro ⟨⟨hu, hv⟩, h2, h3⟩
    have := hs u v ⟨hu, hv⟩ h2
    exact ⟨⟨hu, hv⟩, h2, by omega⟩
/-- All that are right with a norm of at most N, in order. -/
structure AllUp (ok : Int → Int → Bool) (N : Int) (l : List (Int × Int)) : Prop where
  sorted : l.Pairwise ltD
  mem : ∀ u v, (u, v) ∈ l ↔ fqP u v ∧ ok u v = true ∧ u * u + v * v ≤ N
theorem Found.all {ok : Int → Int → Bool} {N : Int} {xs : List (Int × Int)} (h : Found ok (N + 1) 1 0 xs) : AllUp ok N xs := by
  refine ⟨h.sorted, fun u v => ?_⟩
  rw [h.mem]
  constructor
  · rintro ⟨⟨hu, hv⟩, h2, h3⟩; exact ⟨⟨hu, hv⟩, h2, by omega⟩
  · rintro ⟨h1, h2, h3⟩; exact ⟨h1, h2, by omega⟩
theorem AllUp.one {ok : Int → Int → Bool} {N : Int} {l l' : List (Int × Int)} (h : AllUp ok N l) (h' : AllUp ok N l') : l = l' :=
  sorted_one h.sorted h'.sorted fun ⟨u, v⟩ => by rw [h.mem, h'.mem]
/-- The divisors of a number, in order. -/
abbrev Dvs (a b : Int) (l : List (Int × Int)) : Prop := AllUp (fun u v => vdO u v a b) (a * a + b * b) l
theorem vd_nrm {u v a b : Int} (h : vdO u v a b = true) (hz : ¬ (a = 0 ∧ b = 0)) : gok u v = true ∧ gok a b = true ∧ 1 ≤ u * u + v * v ∧ u * u + v * v ≤ a * a + b * b ∧ (a * a + b * b) % (u * u + v * v) = 0 := by
  obtain ⟨hd, x, y, hx, hy⟩ := vd_Dv.1 h
  obtain ⟨k1, k2, hp⟩ := dv_is hd
  have e := norm_mul x y u v
  rw [← hx, ← hy] at e
  have hN := nz_pos hz
  have hxy : 1 ≤ x * x + y * y := by
    have m1 := sq_nn x
    have m2 := sq_nn y
    rcases Int.lt_or_le (x * x + y * y) 1 with h | h
    · have e0 : x * x + y * y = 0 := by omega
      rw [e0, Int.zero_mul] at e; omega
    · exact h
  have := Int.mul_le_mul_of_nonneg_right (c := u * u + v * v) hxy (by omega)
  exact ⟨k2, k1, by omega, by omega, by rw [e]; exact Int.mul_emod_left _ _⟩
theorem Dvs.mem_iff {a b : Int} {l : List (Int × Int)} (h : Dvs a b l) (hz : ¬ (a = 0 ∧ b = 0)) (u v : Int) : (u, v) ∈ l ↔ fqP u v ∧ vdO u v a b = true := by
  rw [h.mem]
  exact ⟨fun ⟨h1, h2, _⟩ => ⟨h1, h2⟩, fun ⟨h1, h2⟩ => ⟨h1, h2, (vd_nrm h2 hz).2.2.2.1⟩⟩
theorem one_vd {a b : Int} (k : gok a b = true) : vdO 1 0 a b = true := vd_Dv.2 ⟨dv_mk k (by decide) (by omega), a, b, by simp, by simp⟩
/-- The first divisor is 1. -/
theorem Dvs.head {a b : Int} {l : List (Int × Int)} (h : Dvs a b l) (k : gok a b = true) (hz : ¬ (a = 0 ∧ b = 0)) : ∃ t, l = (1, 0) :: t := by
  have h1 : ((1 : Int), (0 : Int)) ∈ l := (h.mem_iff hz 1 0).2 ⟨⟨by omega, by omega⟩, one_vd k⟩
  cases l with
  | nil => exact absurd h1 (List.not_mem_nil)
  | cons x t =>
    obtain ⟨u, v⟩ := x
    obtain ⟨hs, -⟩ := List.pairwise_cons.1 h.sorted
    rcases List.mem_cons.1 h1 with e | hm
    · exact ⟨t, by rw [← e]⟩
    · exfalso
      obtain ⟨⟨hu, hv⟩, -⟩ := (h.mem_iff hz u v).1 (List.mem_cons_self ..)
      have := hs _ hm
      have m1 := Int.mul_le_mul (a := 1) (b := 1) (c := u) (d := u) hu hu (by omega) (by omega)
      have m2 := sq_nn v
      unfold ltD at this
      simp at this
      omega
/-- What is left by a divisor has its associate among them. -/
theorem Dvs.pair {a b u v p q : Int} {l : List (Int × Int)} (h : Dvs a b l) (k : gok a b = true) (hz : ¬ (a = 0 ∧ b = 0)) (hm : (u, v) ∈ l) (kq : gok p q = true) (e1 : a = p * u - q * v) (e2 : b = p * v + q * u) : (fiA p q, fiB p q) ∈ l := by
  obtain ⟨-, hv⟩ := (h.mem_iff hz u v).1 hm
  have hnz : ¬ (p = 0 ∧ q = 0) := by rintro ⟨rfl, rfl⟩; exact hz ⟨by rw [e1]; simp, by rw [e2]; simp⟩
  have hd : Dv p q a b := ⟨u, v, by rw [e1]; grind, by rw [e2]; grind⟩
  obtain ⟨f1, -, g, -⟩ := fi_Dv kq
  exact (h.mem_iff hz _ _).2 ⟨fi_fq kq hnz, vd_Dv.2 ⟨dv_mk k g (fi_nz kq hnz), f1.trans hd⟩⟩
theorem len2 {l : List (Int × Int)} {p q : Int × Int} (hs : l.Pairwise ltD) (hpq : p ≠ q) (hp : p ∈ l) (hq : q ∈ l) : 2 ≤ l.length ∧ (l.length = 2 → ∀ r ∈ l, r = p ∨ r = q) ∧ ((∀ r ∈ l, r = p ∨ r = q) → l.length = 2) := by
  match l, hs, hp, hq with
  | [], _, hp, _ => exact absurd hp (List.not_mem_nil)
  | [x], _, hp, hq => exact absurd ((List.mem_singleton.1 hp).trans (List.mem_singleton.1 hq).symm) hpq
  | [x, y], _, hp, hq =>
    refine ⟨Nat.le_refl _, fun _ r hr => ?_, fun _ => rfl⟩
    simp only [List.mem_cons, List.not_mem_nil, or_false] at hp hq hr
    rcases hp with rfl | rfl <;> rcases hq with rfl | rfl <;> rcases hr with rfl | rfl <;> simp_all
  | x :: y :: z :: t, hs, hp, hq =>
    refine ⟨by simp, fun h => by simp at h, fun h => ?_⟩
    exfalso
    obtain ⟨hx, hs2⟩ := List.pairwise_cons.1 hs
    obtain ⟨hy, hs3⟩ := List.pairwise_cons.1 hs2
    have xy : x ≠ y := by rintro rfl; exact ltD_irr _ (hx _ (by simp))
    have xz : x ≠ z := by rintro rfl; exact ltD_irr _ (hx _ (by simp))
    have yz : y ≠ z := by rintro rfl; exact ltD_irr _ (hy _ (by simp))
    have h1 := h x (by simp)
    have h2 := h y (by simp)
    have h3 := h z (by simp)
    rcases h1 with rfl | rfl <;> rcases h2 with rfl | rfl <;> rcases h3 with rfl | rfl <;> simp_all
/-- A number has just two divisors exactly if it is prime. -/
theorem Dvs.two {a b : Int} {l : List (Int × Int)} (h : Dvs a b l) (k : gok a b = true) (hz : ¬ (a = 0 ∧ b = 0)) (hN : a * a + b * b ≤ 2000) : l.length = 2 ↔ prO a b = true := by
  have hpos := nz_pos hz
  have m1 : ((1 : Int), (0 : Int)) ∈ l := (h.mem_iff hz 1 0).2 ⟨⟨by omega, by omega⟩, one_vd k⟩
  obtain ⟨f1, f2, g, -⟩ := fi_Dv k
  have fn := fi_nz k hz
  have m2 : (fiA a b, fiB a b) ∈ l := (h.mem_iff hz _ _).2 ⟨fi_fq k hz, vd_Dv.2 ⟨dv_mk k g fn, f1⟩⟩
  have eN : fiA a b * fiA a b + fiB a b * fiB a b = a * a + b * b := by
    have := fi_nrm k
    rwa [nrm_t g, nrm_t k] at this
  rcases Int.lt_or_le (a * a + b * b) 2 with hu | h2
  · -- a unit: 1 alone
    have e1 : a * a + b * b = 1 := by omega
    constructor
    · intro hl
      exfalso
      obtain ⟨t, rfl⟩ := h.head k hz
      cases t with
      | nil => simp at hl
      | cons y t' =>
        obtain ⟨u, v⟩ := y
        obtain ⟨hs, -⟩ := List.pairwise_cons.1 h.sorted
        have hlt := hs _ (List.mem_cons_self ..)
        obtain ⟨⟨hu', hv'⟩, hv⟩ := (h.mem_iff hz u v).1 (List.mem_cons_of_mem _ (List.mem_cons_self ..))
        have hn := (vd_nrm hv hz).2.2.2.1
        unfold ltD at hlt
        simp at hlt
        have : u * u + v * v = 1 := by omega
        have : u ≤ 1 := by
          rcases Int.lt_or_le 1 u with h | h
          · have := Int.mul_le_mul (a := 2) (b := 2) (c := u) (d := u) h h (by omega) (by omega)
            have := sq_nn v
            omega
          · exact h
        omega
    · intro hp
      have := pr_pos (prO_prI hp)
      omega
  · have hne : ((1 : Int), (0 : Int)) ≠ (fiA a b, fiB a b) := by
      intro e
      rw [Prod.mk.injEq] at e
      rw [← e.1, ← e.2] at eN
      omega
    obtain ⟨-, l2, l3⟩ := len2 h.sorted hne m1 m2
    constructor
    · intro hl
      cases hp : prO a b
      · exfalso
        obtain ⟨u, v, ku, hd, n1, n2⟩ := pr_proper k h2 hN hp
        have hnz : ¬ (u = 0 ∧ v = 0) := by rintro ⟨rfl, rfl⟩; omega
        obtain ⟨d1, -, g', -⟩ := fi_Dv ku
        have m3 : (fiA u v, fiB u v) ∈ l := (h.mem_iff hz _ _).2 ⟨fi_fq ku hnz, vd_Dv.2 ⟨dv_mk k g' (fi_nz ku hnz), d1.trans hd⟩⟩
        have eu : fiA u v * fiA u v + fiB u v * fiB u v = u * u + v * v := by
          have := fi_nrm ku
          rwa [nrm_t g', nrm_t ku] at this
        rcases l2 hl _ m3 with e | e <;> rw [Prod.mk.injEq] at e
        · rw [e.1, e.2] at eu; omega
        · rw [e.1, e.2, eN] at eu; omega
      · rfl
    · intro hp
      refine l3 ?_
      rintro ⟨u, v⟩ hr
      obtain ⟨hq, hv⟩ := (h.mem_iff hz u v).1 hr
      obtain ⟨hdv, hd⟩ := vd_Dv.1 hv
      obtain ⟨-, ku, -⟩ := dv_is hdv
      obtain ⟨e1, e2⟩ := fq_fi hq ku
      rcases pr_div (prO_prI hp) hd with hn | hn
      · left
        obtain ⟨w1, w2⟩ := fi_unit hn
        rw [show u = 1 from e1.symm.trans w1, show v = 0 from e2.symm.trans w2]
      · right
        obtain ⟨x, y, hx, hy⟩ := hd
        have en := norm_mul x y u v
        rw [← hx, ← hy, hn] at en
        have hxy : x * x + y * y = 1 := by
          have : 1 * (a * a + b * b) = (x * x + y * y) * (a * a + b * b) := by omega
          exact (Int.eq_of_mul_eq_mul_right (by omega) this).symm
        have hback : Dv a b u v := by
          refine ⟨x, -y, ?_, ?_⟩
          · have : u = (x * x + y * y) * u := by rw [hxy]; omega
            rw (occs := .pos [1]) [this]
            rw [hx, hy]; grind
          · have : v = (x * x + y * y) * v := by rw [hxy]; omega
            rw (occs := .pos [1]) [this]
            rw [hx, hy]; grind
        have := fi_both ku k hback ⟨x, y, hx, hy⟩
        rw [e1, e2] at this
        rw [this.1, this.2]
end Go.Proofs.Ytggebkgfldmipaa

namespace Go.Proofs.Ytggebkgfldmipaa
open Go Go.RowKit

/-- The two squares of a number below 1024, the first one not less. -/
def reps (p : Nat) : List (Nat × Nat) := (List.range 32).flatMap fun u => (List.range (u + 1)).filterMap fun v => if u * u + v * v == p then some (u, v) else none
def hasF (p : Nat) : Bool := (List.range 32).any fun k => Nat.ble 2 k && Nat.ble (k * k) p && p % k == 0
def splitRow (p : Nat) : Bool := Nat.blt p 2 || hasF p || p % 4 == 3 || (reps p).length == 1
theorem split_table : (List.range 1001).all splitRow = true := by kernel_rfl
theorem mem_reps {p u v : Nat} : (u, v) ∈ reps p ↔ u < 32 ∧ v ≤ u ∧ u * u + v * v = p := by
  simp only [reps, List.mem_flatMap, List.mem_range, List.mem_filterMap]
  constructor
  · rintro ⟨x, hx, y, hy, h⟩
    by_cases e : x * x + y * y = p
    · simp [e] at h; obtain ⟨rfl, rfl⟩ := h; exact ⟨hx, by omega, e⟩
    · simp [e] at h
  · rintro ⟨h1, h2, h3⟩
    exact ⟨u, h1, v, by omega, by simp [h3]⟩
theorem wp_hasF {p : Nat} (h : wp (p : Int)) : hasF p = false := by
  cases hf : hasF p
  · rfl
  · exfalso
    simp only [hasF, List.any_eq_true, List.mem_range, Bool.and_eq_true, Nat.ble_eq, beq_iff_eq] at hf
    obtain ⟨k, -, ⟨h2, hk⟩, h0⟩ := hf
    refine h.2 k (by omega) (by rw [← Int.natCast_mul]; omega) ?_
    rw [← Int.natCast_emod]; omega
/-- A prime that leaves no 3 is two squares, in one way. -/
theorem two_sq {p : Int} (hp : wp p) (hm : p ≤ 1000) (h4 : p % 4 ≠ 3) : ∃ a b : Int, 0 ≤ b ∧ b ≤ a ∧ a ≤ 31 ∧ a * a + b * b = p ∧ ∀ c d : Int, 0 ≤ d → d ≤ c → c * c + d * d = p → c = a ∧ d = b := by
  have h2 := hp.1
  obtain ⟨n, rfl⟩ := Int.eq_ofNat_of_zero_le (show 0 ≤ p by omega)
  have hr := List.all_eq_true.1 split_table n (List.mem_range.2 (by omega))
  have hlen : (reps n).length = 1 := by
    simp only [splitRow, Bool.or_eq_true, Nat.blt_eq, beq_iff_eq, wp_hasF hp, Bool.false_eq_true, or_false] at hr
    omega
  obtain ⟨⟨a, b⟩, hab⟩ := List.length_eq_one_iff.1 hlen
  obtain ⟨m1, m2, m3⟩ := mem_reps.1 (show (a, b) ∈ reps n by rw [hab]; exact List.mem_singleton.2 rfl)
  refine ⟨a, b, by omega, by omega, by omega, by rw [← m3]; simp, fun c d hd hc hcd => ?_⟩
  have hc31 : c ≤ 31 := by
    rcases Int.lt_or_le 31 c with h | h
    · have := Int.mul_le_mul (a := 32) (b := 32) (c := c) (d := c) h h (by omega) (by omega)
      have := sq_nn d
      omega
    · exact h
  obtain ⟨c', rfl⟩ := Int.eq_ofNat_of_zero_le (show 0 ≤ c by omega)
  obtain ⟨d', rfl⟩ := Int.eq_ofNat_of_zero_le hd
  have hcd' : c' * c' + d' * d' = n := by
    have : ((c' * c' + d' * d' : Nat) : Int) = (n : Nat) := by rw [← hcd]; simp
    omega
  have := mem_reps.2 ⟨show c' < 32 by omega, show d' ≤ c' by omega, hcd'⟩
  rw [hab, List.mem_singleton, Prod.mk.injEq] at this
  omega
/-- A prime that leaves 3 is no sum of two squares. -/
theorem no_sq {p a b : Int} (h4 : p % 4 = 3) (h : a * a + b * b = p) : False := by
  have := sq_mod4 a
  have := sq_mod4 b
  omega

/-- How a prime falls apart. -/
def knO (p : Int) : Int := if decide (2 ≤ p ∧ p ≤ 1000) && wpB p then (if p = 2 then 0 else if p % 4 = 1 then 1 else 2) else -1
theorem wp_odd {p : Int} (h : wp p) (h2 : p ≠ 2) : p % 2 = 1 := by
  rcases (show p % 2 = 0 ∨ p % 2 = 1 by omega) with e | e
  · exfalso
    have := h.1
    rcases Int.lt_or_le p 4 with h4 | h4
    · omega
    · exact h.2 2 (by omega) (by omega) e
  · exact e
/-- A whole number is prime here exactly if it is prime, and leaves 3. -/
theorem kn_prime {p : Int} (hw : wp p) (hm : p ≤ 1000) : prO p 0 = true ↔ p % 4 = 3 := by
  have h2 := hw.1
  have hmx : mxB p 0 = p := by unfold mxB; omega
  have k : gok p 0 = true := by simp [gok, pok]; omega
  unfold prO
  rw [k, hmx, wpB_iff.2 hw]
  simp
/-- The prime whose norm is a prime. -/
structure SplitIs (p : Int) (o : Bool) (a b : Int) : Prop where
  none : o = false → a = 0 ∧ b = 0 ∧ ¬ (2 ≤ p ∧ p ≤ 1000 ∧ wp p ∧ p % 4 ≠ 3)
  some : o = true → 2 ≤ p ∧ p ≤ 1000 ∧ wp p ∧ p % 4 ≠ 3 ∧ 1 ≤ a ∧ 0 ≤ b ∧ b ≤ a ∧ a ≤ 31 ∧ a * a + b * b = p
theorem SplitIs.one {p a b c d : Int} {o o' : Bool} (h : SplitIs p o a b) (h' : SplitIs p o' c d) : o = o' ∧ a = c ∧ b = d := by
  cases o <;> cases o'
  · obtain ⟨rfl, rfl, -⟩ := h.none rfl
    obtain ⟨rfl, rfl, -⟩ := h'.none rfl
    exact ⟨rfl, rfl, rfl⟩
  · obtain ⟨-, -, hn⟩ := h.none rfl
    obtain ⟨h1, h2, h3, h4, -⟩ := h'.some rfl
    exact absurd ⟨h1, h2, h3, h4⟩ hn
  · obtain ⟨-, -, hn⟩ := h'.none rfl
    obtain ⟨h1, h2, h3, h4, -⟩ := h.some rfl
    exact absurd ⟨h1, h2, h3, h4⟩ hn
  · obtain ⟨h1, h2, h3, h4, h5, h6, h7, h8, h9⟩ := h.some rfl
    obtain ⟨-, -, -, -, g5, g6, g7, g8, g9⟩ := h'.some rfl
    obtain ⟨x, y, -, -, -, -, hu⟩ := two_sq h3 h2 h4
    have e1 := hu a b h6 h7 h9
    have e2 := hu c d g6 g7 g9
    exact ⟨rfl, by omega, by omega⟩
/-- What the law on splitting asks. -/
theorem SplitIs.law {p a b : Int} (h : SplitIs p true a b) : gok a b = true ∧ nrm a b = p ∧ prO a b = true ∧ b ≤ a ∧ tiO a b a (-b) = true ∧ tiA a b a (-b) = p ∧ tiB a b a (-b) = 0 ∧ (knO p = 0 ∨ knO p = 1) := by
  obtain ⟨h1, h2, h3, h4, h5, h6, h7, h8, h9⟩ := h.some rfl
  have k : gok a b = true := by simp [gok, pok]; omega
  have k' : gok a (-b) = true := by simp [gok, pok]; omega
  have e1 : a * a - b * -b = p := by rw [← h9]; grind
  have e2 : a * -b + b * a = 0 := by grind
  have kp : gok (a * a - b * -b) (a * -b + b * a) = true := by rw [e1, e2]; simp [gok, pok]; omega
  obtain ⟨t1, t2, t3⟩ := tiO_t k k' kp
  refine ⟨k, by rw [nrm_t k]; exact h9, prO_norm k (by rw [h9]; exact h3), h7, t1, by rw [t2, e1], by rw [t3, e2], ?_⟩
  have hd : (decide (2 ≤ p ∧ p ≤ 1000) && wpB p) = true := by rw [decide_eq_true ⟨h1, h2⟩, wpB_iff.2 h3]; rfl
  by_cases e : p = 2
  · left; rw [knO, hd, if_pos rfl, if_pos e]
  · right
    have := wp_odd h3 e
    rw [knO, hd, if_pos rfl, if_neg e, if_pos (by omega)]
theorem SplitIs.law_not {p a b : Int} (h : SplitIs p false a b) : knO p ≠ 0 ∧ knO p ≠ 1 := by
  obtain ⟨-, -, hn⟩ := h.none rfl
  unfold knO
  cases hd : (decide (2 ≤ p ∧ p ≤ 1000) && wpB p)
  · simp
  · rw [Bool.and_eq_true, decide_eq_true_eq, wpB_iff] at hd
    obtain ⟨⟨h1, h2⟩, h3⟩ := hd
    have h4 : p % 4 = 3 := by
      refine Decidable.byContradiction fun h => hn ⟨h1, h2, h3, h⟩
    rw [if_pos rfl, if_neg (by omega), if_neg (by omega)]
    omega
/-- Primes up to a norm, in order. -/
abbrev Prs (m : Int) (l : List (Int × Int)) : Prop := AllUp prO m l
theorem prO_swap {a b : Int} (hb : b ≠ 0) (h : prO a b = true) : prO b a = true := by
  obtain ⟨k, h2⟩ := prO_prI h
  by_cases ha : a = 0
  · subst ha
    unfold prO at h ⊢
    rw [Bool.and_eq_true] at h ⊢
    refine ⟨by have := gok_bd k; simp [gok, pok]; omega, ?_⟩
    have e : mxB b 0 = mxB 0 b := by unfold mxB; omega
    simpa [e] using h.2
  · rcases h2 with ⟨-, -, hw⟩ | ⟨n, hn, h4, hw⟩
    · exact prO_norm (by have := gok_bd k; simp [gok, pok]; omega) (by rw [Int.add_comm]; exact hw)
    · have hab : (a != 0 && b != 0) = true := by simp [ha, hb]
      unfold prO at h
      rw [Bool.and_eq_true, hab, if_pos rfl, wpB_iff] at h
      exact prO_norm (by have := gok_bd k; simp [gok, pok]; omega) (by rw [Int.add_comm]; exact h.2)
/-- What the law on primes in order asks of each. -/
theorem Prs.law {m u v : Int} {l : List (Int × Int)} (h : Prs m l) (hm : (u, v) ∈ l) : gok u v = true ∧ fiA u v = u ∧ fiB u v = v ∧ prO u v = true ∧ nrm u v ≤ m ∧ (v = 0 ∨ (v, u) ∈ l) := by
  obtain ⟨hq, hp, hn⟩ := (h.mem u v).1 hm
  have k := (prO_prI hp).1
  obtain ⟨e1, e2⟩ := fq_fi hq k
  refine ⟨k, e1, e2, hp, by rw [nrm_t k]; exact hn, ?_⟩
  by_cases hv : v = 0
  · exact .inl hv
  · exact .inr ((h.mem v u).2 ⟨⟨by have := hq.2; omega, by have := hq.1; omega⟩, prO_swap hv hp, by omega⟩)
/-- No prime of the first quarter divides another one. -/
theorem prime_apart {a b c d : Int} (h : prO a b = true) (h' : prO c d = true) (hq : fqP a b) (hq' : fqP c d) (hv : vdO c d a b = true) : a = c ∧ b = d := by
  have k1 := (prO_prI h).1
  have k2 := (prO_prI h').1
  have p2 := pr_pos (prO_prI h')
  obtain ⟨-, hd⟩ := vd_Dv.1 hv
  rcases pr_div (prO_prI h) hd with hn | hn
  · omega
  · obtain ⟨x, y, hx, hy⟩ := hd
    have en := norm_mul x y c d
    rw [← hx, ← hy, hn] at en
    have hp := pr_pos (prO_prI h)
    have hxy : x * x + y * y = 1 := by
      have : 1 * (a * a + b * b) = (x * x + y * y) * (a * a + b * b) := by omega
      exact (Int.eq_of_mul_eq_mul_right (by omega) this).symm
    have hback : Dv a b c d := by
      refine ⟨x, -y, ?_, ?_⟩
      · have : c = (x * x + y * y) * c := by rw [hxy]; omega
        rw (occs := .pos [1]) [this]
        rw [hx, hy]; grind
      · have : d = (x * x + y * y) * d := by rw [hxy]; omega
        rw (occs := .pos [1]) [this]
        rw [hx, hy]; grind
    have := fi_both k1 k2 ⟨x, y, hx, hy⟩ hback
    rw [(fq_fi hq k1).1, (fq_fi hq k1).2, (fq_fi hq' k2).1, (fq_fi hq' k2).2] at this
    exact this
theorem Prs.some {m : Int} {l : List (Int × Int)} (h : Prs m l) : 0 < l.length ↔ 2 ≤ m := by
  constructor
  · intro hl
    match l, hl with
    | (u, v) :: t, _ =>
      obtain ⟨-, hp, hn⟩ := (h.mem u v).1 (List.mem_cons_self ..)
      have := pr_pos (prO_prI hp)
      omega
  · intro h2
    have : ((1 : Int), (1 : Int)) ∈ l := (h.mem 1 1).2 ⟨⟨by omega, by omega⟩, by decide, by omega⟩
    exact List.length_pos_of_mem this
end Go.Proofs.Ytggebkgfldmipaa
