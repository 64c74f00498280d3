import Derived.Test.YtggebkgfldmipaaMa
import Derived.Test.YtggebkgfldmipaaHu
import Derived.Test.YtggebkgfldmipaaYb
namespace Go.Proofs.Ytggebkgfldmipaa
open Go Go.RowKit

/-- Numbers of the plane as pairs; products. -/
def mu (x y : Int × Int) : Int × Int := (x.1 * y.1 - x.2 * y.2, x.1 * y.2 + x.2 * y.1)
theorem mu_comm (x y : Int × Int) : mu x y = mu y x := by unfold mu; exact Prod.ext (by dsimp only; grind) (by dsimp only; grind)
theorem mu_assoc (x y z : Int × Int) : mu (mu x y) z = mu x (mu y z) := by unfold mu; exact Prod.ext (by dsimp only; grind) (by dsimp only; grind)
theorem mu_one (x : Int × Int) : mu (1, 0) x = x := by unfold mu; exact Prod.ext (by dsimp only; omega) (by dsimp only; omega)
def nG (x : Int × Int) : Int := x.1 * x.1 + x.2 * x.2
theorem nG_mu (x y : Int × Int) : nG (mu x y) = nG x * nG y := by unfold nG mu; dsimp only; grind
theorem nG_zero {x : Int × Int} (h : nG x = 0) : x = (0, 0) := by
  obtain ⟨h1, h2⟩ := sq_zero (c := x.1) (d := x.2) (by unfold nG at h; omega)
  exact Prod.ext h1 h2
theorem nG_nn (x : Int × Int) : 0 ≤ nG x := N2_nn x.1 x.2
theorem mu_cancel {x y z : Int × Int} (hx : nG x ≠ 0) (h : mu x y = mu x z) : y = z := by
  have h1 := congrArg Prod.fst h
  have h2 := congrArg Prod.snd h
  simp only [mu] at h1 h2
  have e1 : nG x * (y.1 - z.1) = 0 := by unfold nG; grind
  have e2 : nG x * (y.2 - z.2) = 0 := by unfold nG; grind
  have d1 := (Int.mul_eq_zero.1 e1).resolve_left hx
  have d2 := (Int.mul_eq_zero.1 e2).resolve_left hx
  exact Prod.ext (by omega) (by omega)
def dvG (p z : Int × Int) : Prop := ∃ y, z = mu p y
theorem dvG_Dv {p z : Int × Int} : dvG p z ↔ Dv p.1 p.2 z.1 z.2 := by
  constructor
  · rintro ⟨y, rfl⟩; exact ⟨y.1, y.2, by unfold mu; dsimp only; grind, by unfold mu; dsimp only; grind⟩
  · rintro ⟨x, y, h1, h2⟩; exact ⟨(x, y), Prod.ext (by unfold mu; dsimp only; rw [h1]; grind) (by unfold mu; dsimp only; rw [h2]; grind)⟩
theorem dvG.mul {p z : Int × Int} (h : dvG p z) (w : Int × Int) : dvG p (mu z w) := by
  obtain ⟨y, rfl⟩ := h; exact ⟨mu y w, mu_assoc ..⟩
/-- A prime divides a number, or has nothing in common with it. -/
theorem pr_bez {p : Int × Int} (h : prI p.1 p.2) (z : Int × Int) : dvG p z ∨ ∃ s t : Int × Int, 1 = (mu s p).1 + (mu t z).1 ∧ 0 = (mu s p).2 + (mu t z).2 := by
  have hpos := pr_pos h
  have hz : ¬ (p.1 = 0 ∧ p.2 = 0) := by rintro ⟨e1, e2⟩; rw [e1, e2] at hpos; simp at hpos
  have hh := rest_half (a := z.1) (b := z.2) (c := p.1) (d := p.2) (by omega)
  obtain ⟨r1, r2⟩ := rest_is z.1 z.2 p.1 p.2
  generalize rA z.1 z.2 p.1 p.2 = r at *
  generalize rB z.1 z.2 p.1 p.2 = s at *
  generalize qA z.1 z.2 p.1 p.2 = q at *
  generalize qB z.1 z.2 p.1 p.2 = q' at *
  have hb := sq_bd h.1
  have kr : gok r s = true := by
    obtain ⟨c1, c2⟩ := sq_le (x := r) (k := 1000) (by have := sq_nn s; omega) (by omega)
    obtain ⟨c3, c4⟩ := sq_le (x := s) (k := 1000) (by have := sq_nn r; omega) (by omega)
    simp [gok, pok]; omega
  have hO : coO p.1 p.2 r s = true := co_mk h.1 kr (fun e => hz ⟨e.1, e.2.1⟩)
  obtain ⟨g, -, d1, d2, -, f1, f2, s1, s2, t1, t2, e1, e2⟩ := co_all hO
  rcases pr_div h d1 with hn | hn
  · right
    obtain ⟨u1, u2⟩ := fi_unit hn
    rw [f1] at u1
    rw [f2] at u2
    rw [u1] at e1
    rw [u2] at e2
    refine ⟨(s1 - (t1 * q - t2 * q'), s2 - (t1 * q' + t2 * q)), (t1, t2), ?_, ?_⟩
    · unfold mu; dsimp only; rw [e1, r1, r2]; grind
    · unfold mu; dsimp only; rw [e2, r1, r2]; grind
  · left
    refine dvG_Dv.2 ?_
    -- p divides the greatest common divisor, so the rest
    obtain ⟨x, y, hx, hy⟩ := d1
    have en := norm_mul x y (coA p.1 p.2 r s) (coB p.1 p.2 r s)
    rw [← hx, ← hy, hn] at en
    have hxy : x * x + y * y = 1 := by
      have : 1 * (p.1 * p.1 + p.2 * p.2) = (x * x + y * y) * (p.1 * p.1 + p.2 * p.2) := by omega
      exact (Int.eq_of_mul_eq_mul_right (by omega) this).symm
    have hback : Dv p.1 p.2 (coA p.1 p.2 r s) (coB p.1 p.2 r s) := by
      generalize coA p.1 p.2 r s = X at *
      generalize coB p.1 p.2 r s = Y at *
      refine ⟨x, -y, ?_, ?_⟩
      · have : X = (x * x + y * y) * X := by rw [hxy]; omega
        rw (occs := .pos [1]) [this]
        rw [hx, hy]; grind
      · have : Y = (x * x + y * y) * Y := by rw [hxy]; omega
        rw (occs := .pos [1]) [this]
        rw [hx, hy]; grind
    have hr := hback.trans d2
    have hq := ((Dv.refl p.1 p.2).mul q q').add hr
    rw [r1, r2]; exact hq
/-- Primes that divide a product divide one of both: whatever its parts. -/
theorem pr_both {p z w : Int × Int} (h : prI p.1 p.2) (hd : dvG p (mu z w)) : dvG p z ∨ dvG p w := by
  rcases pr_bez h z with h1 | ⟨s, t, e1, e2⟩
  · exact .inl h1
  · right
    obtain ⟨y, hy⟩ := hd
    have y1 := congrArg Prod.fst hy
    have y2 := congrArg Prod.snd hy
    simp only [mu] at y1 y2 e1 e2
    -- w = (s p + t z) w = p (s w) + t (z w)
    refine ⟨(s.1 * w.1 - s.2 * w.2 + (t.1 * y.1 - t.2 * y.2), s.1 * w.2 + s.2 * w.1 + (t.1 * y.2 + t.2 * y.1)), Prod.ext ?_ ?_⟩
    · have : w.1 = (s.1 * p.1 - s.2 * p.2 + (t.1 * z.1 - t.2 * z.2)) * w.1 - (s.1 * p.2 + s.2 * p.1 + (t.1 * z.2 + t.2 * z.1)) * w.2 := by rw [← e1, ← e2]; omega
      rw (occs := .pos [1]) [this]
      unfold mu; dsimp only; grind
    · have : w.2 = (s.1 * p.1 - s.2 * p.2 + (t.1 * z.1 - t.2 * z.2)) * w.2 + (s.1 * p.2 + s.2 * p.1 + (t.1 * z.2 + t.2 * z.1)) * w.1 := by rw [← e1, ← e2]; omega
      rw (occs := .pos [1]) [this]
      unfold mu; dsimp only; grind
def pw (p : Int × Int) : Nat → Int × Int
  | 0 => (1, 0)
  | n + 1 => mu p (pw p n)
/-- How often a prime is in a number. -/
def vl (p z : Int × Int) (n : Nat) : Prop := ∃ y, z = mu (pw p n) y ∧ ¬ dvG p y
theorem pw_add (p : Int × Int) (n m : Nat) : pw p (n + m) = mu (pw p n) (pw p m) := by
  induction n with
  | zero => rw [Nat.zero_add]; exact (mu_one _).symm
  | succ n ih => rw [show n + 1 + m = n + m + 1 by omega, pw, ih, pw, mu_assoc]
theorem nG_pw {p : Int × Int} (h : nG p ≠ 0) (n : Nat) : nG (pw p n) ≠ 0 := by
  induction n with
  | zero => show nG (1, 0) ≠ 0; decide
  | succ n ih => rw [pw, nG_mu]; exact fun e => (Int.mul_eq_zero.1 e).elim h ih
theorem vl_lt {p z : Int × Int} (hp : nG p ≠ 0) {n m : Nat} (h : vl p z n) (h' : vl p z m) (hlt : n < m) : False := by
  obtain ⟨y, e, hy⟩ := h
  obtain ⟨x, e', -⟩ := h'
  rw [show m = n + (m - n - 1 + 1) by omega, pw_add, mu_assoc] at e'
  have := mu_cancel (nG_pw hp n) (e.symm.trans e')
  exact hy ⟨mu (pw p (m - n - 1)) x, by rw [this, pw, mu_assoc]⟩
theorem vl_one {p z : Int × Int} (hp : nG p ≠ 0) {n m : Nat} (h : vl p z n) (h' : vl p z m) : n = m := by
  rcases Nat.lt_trichotomy n m with h1 | h1 | h1
  · exact (vl_lt hp h h' h1).elim
  · exact h1
  · exact (vl_lt hp h' h h1).elim
theorem vl_mul {p z w : Int × Int} (hp : prI p.1 p.2) {n m : Nat} (h : vl p z n) (h' : vl p w m) : vl p (mu z w) (n + m) := by
  obtain ⟨y, rfl, hy⟩ := h
  obtain ⟨x, rfl, hx⟩ := h'
  refine ⟨mu y x, ?_, fun hd => (pr_both hp hd).elim hy hx⟩
  rw [pw_add, mu_assoc, mu_assoc, ← mu_assoc y, mu_comm y, mu_assoc]
theorem vl_zero {p z : Int × Int} (h : ¬ dvG p z) : vl p z 0 := ⟨z, (mu_one z).symm, h⟩
theorem vl_succ {p z : Int × Int} {n : Nat} (h : vl p z n) : vl p (mu p z) (n + 1) := by
  obtain ⟨y, rfl, hy⟩ := h
  exact ⟨y, by rw [pw, mu_assoc], hy⟩
theorem pr_nG {p : Int × Int} (h : prI p.1 p.2) : 2 ≤ nG p := pr_pos h
theorem not_dv_unit {p u : Int × Int} (hp : prI p.1 p.2) (hu : nG u = 1) : ¬ dvG p u := by
  rintro ⟨y, rfl⟩
  rw [nG_mu] at hu
  have h2 := pr_nG hp
  have hy := nG_nn y
  rcases Int.lt_or_le (nG y) 1 with h | h
  · rw [show nG y = 0 by omega, Int.mul_zero] at hu; omega
  · have := Int.mul_le_mul_of_nonneg_left (c := nG p) h (by omega); omega
/-- A prime of the first quarter. -/
def PrQ (p : Int × Int) : Prop := prO p.1 p.2 = true ∧ fqP p.1 p.2
theorem PrQ.prI {p : Int × Int} (h : PrQ p) : Go.Proofs.Ytggebkgfldmipaa.prI p.1 p.2 := prO_prI h.1
theorem PrQ.apart {p q : Int × Int} (hp : PrQ p) (hq : PrQ q) (h : dvG p q) : p = q := by
  have k1 := hp.prI.1
  have k2 := hq.prI.1
  have hz : ¬ (p.1 = 0 ∧ p.2 = 0) := by have := hp.2.1; omega
  obtain ⟨e1, e2⟩ := prime_apart hq.1 hp.1 hq.2 hp.2 (vd_Dv.2 ⟨dv_mk k2 k1 hz, dvG_Dv.1 h⟩)
  exact Prod.ext e1.symm e2.symm
def prodG : List (Int × Int) → Int × Int
  | [] => (1, 0)
  | p :: l => mu p (prodG l)
/-- How often a prime is in a product of primes. -/
theorem vl_prod {p : Int × Int} (hp : PrQ p) : ∀ {l : List (Int × Int)}, (∀ q ∈ l, PrQ q) → vl p (prodG l) (l.count p) := by
  intro l
  induction l with
  | nil => intro _; exact vl_zero (not_dv_unit hp.prI (by decide))
  | cons q l ih =>
    intro h
    have hq := h q (List.mem_cons_self ..)
    have ht := ih fun r hr => h r (List.mem_cons_of_mem _ hr)
    by_cases e : q = p
    · subst e
      rw [List.count_cons_self]; exact vl_succ ht
    · rw [List.count_cons_of_ne (by simpa using e)]
      have h0 : vl p q 0 := vl_zero fun hd => e (hp.apart hq hd).symm
      have := vl_mul hp.prI h0 ht
      rwa [Nat.zero_add] at this
def leD (p q : Int × Int) : Prop := ¬ ltD q p
theorem leD_anti {p q : Int × Int} (hp : PrQ p) (hq : PrQ q) (h : leD p q) (h' : leD q p) : p = q := by
  have f1 := hp.2
  have f2 := hq.2
  unfold leD ltD at h h'
  have e1 : p.1 = q.1 := by omega
  have e2 : p.2 * p.2 = q.2 * q.2 := by
    have : p.1 * p.1 = q.1 * q.1 := by rw [e1]
    omega
  refine Prod.ext e1 ?_
  rcases Int.lt_trichotomy p.2 q.2 with h | h | h
  · have := sq_lt f1.2 h; omega
  · exact h
  · have := sq_lt f2.2 h; omega
/-- Two lists of primes in order with the same primes as often are one. -/
theorem counted_one : ∀ {l l' : List (Int × Int)}, (∀ q ∈ l, PrQ q) → (∀ q ∈ l', PrQ q) → l.Pairwise leD → l'.Pairwise leD → (∀ p, PrQ p → l.count p = l'.count p) → l = l' := by
  intro l
  induction l with
  | nil =>
    intro l' _ hp' _ _ h
    cases l' with
    | nil => rfl
    | cons y t => have := h y (hp' y (List.mem_cons_self ..)); rw [List.count_cons_self] at this; simp at this
  | cons x t ih =>
    intro l' hp hp' hs hs' h
    have px := hp x (List.mem_cons_self ..)
    cases l' with
    | nil => have := h x px; rw [List.count_cons_self] at this; simp at this
    | cons y t' =>
      have py := hp' y (List.mem_cons_self ..)
      obtain ⟨hx, ht⟩ := List.pairwise_cons.1 hs
      obtain ⟨hy, ht'⟩ := List.pairwise_cons.1 hs'
      have exy : x = y := by
        have mx : x ∈ y :: t' := List.count_pos_iff.1 (by rw [← h x px, List.count_cons_self]; omega)
        have my : y ∈ x :: t := List.count_pos_iff.1 (by rw [h y py, List.count_cons_self]; omega)
        rcases List.mem_cons.1 mx with e | m
        · exact e
        · rcases List.mem_cons.1 my with e | m'
          · exact e.symm
          · exact leD_anti px py (hx y m') (hy x m)
      subst exy
      congr 1
      refine ih (fun q hq => hp q (List.mem_cons_of_mem _ hq)) (fun q hq => hp' q (List.mem_cons_of_mem _ hq)) ht ht' fun p pp => ?_
      have := h p pp
      by_cases e : x = p
      · subst e; rw [List.count_cons_self, List.count_cons_self] at this; omega
      · rwa [List.count_cons_of_ne (by simpa using e), List.count_cons_of_ne (by simpa using e)] at this
def uG (t : Int) : Int × Int := (tuA t 1 0, tuB t 1 0)
theorem uG_nG {t : Int} (h0 : 0 ≤ t) (h3 : t ≤ 3) : nG (uG t) = 1 := by
  obtain rfl | rfl | rfl | rfl : t = 0 ∨ t = 1 ∨ t = 2 ∨ t = 3 := by omega
  all_goals decide
theorem uG_one {t s : Int} (h0 : 0 ≤ t) (h3 : t ≤ 3) (g0 : 0 ≤ s) (g3 : s ≤ 3) (h : uG t = uG s) : t = s := by
  obtain rfl | rfl | rfl | rfl : t = 0 ∨ t = 1 ∨ t = 2 ∨ t = 3 := by omega
  all_goals (obtain rfl | rfl | rfl | rfl : s = 0 ∨ s = 1 ∨ s = 2 ∨ s = 3 := by omega)
  all_goals first | rfl | exact absurd h (by decide)
/-- A number as a unit times primes in order. -/
structure Facs (z : Int × Int) (t : Int) (l : List (Int × Int)) : Prop where
  t0 : 0 ≤ t
  t3 : t ≤ 3
  pr : ∀ p ∈ l, PrQ p
  sorted : l.Pairwise leD
  prod : mu (uG t) (prodG l) = z
theorem Facs.vl {z : Int × Int} {t : Int} {l : List (Int × Int)} (h : Facs z t l) {p : Int × Int} (hp : PrQ p) : Go.Proofs.Ytggebkgfldmipaa.vl p z (l.count p) := by
  have := vl_mul hp.prI (vl_zero (not_dv_unit hp.prI (uG_nG h.t0 h.t3))) (vl_prod hp h.pr)
  rwa [Nat.zero_add, h.prod] at this
theorem prodG_nG : ∀ {l : List (Int × Int)}, (∀ q ∈ l, PrQ q) → nG (prodG l) ≠ 0 := by
  intro l
  induction l with
  | nil => intro _; decide
  | cons q l ih =>
    intro h
    rw [prodG, nG_mu]
    have h2 := pr_nG (h q (List.mem_cons_self ..)).prI
    exact fun e => (Int.mul_eq_zero.1 e).elim (by omega) (ih fun r hr => h r (List.mem_cons_of_mem _ hr))
/-- In one way. -/
theorem Facs.one {z : Int × Int} {t s : Int} {l l' : List (Int × Int)} (h : Facs z t l) (h' : Facs z s l') : t = s ∧ l = l' := by
  have el : l = l' := counted_one h.pr h'.pr h.sorted h'.sorted fun p pp => vl_one (by have := pr_nG pp.prI; omega) (h.vl pp) (h'.vl pp)
  subst el
  refine ⟨uG_one h.t0 h.t3 h'.t0 h'.t3 ?_, rfl⟩
  have e := h.prod.trans h'.prod.symm
  rw [mu_comm, mu_comm (uG s)] at e
  exact mu_cancel (prodG_nG h.pr) e
/-- The primes of a product are those of both. -/
theorem Facs.mul {z w : Int × Int} {t s r : Int} {l l' k : List (Int × Int)} (h : Facs z t l) (h' : Facs w s l') (hk : Facs (mu z w) r k) : (∀ p, PrQ p → k.count p = l.count p + l'.count p) ∧ k.length = l.length + l'.length := by
  have hc : ∀ p, PrQ p → k.count p = l.count p + l'.count p := fun p pp => vl_one (by have := pr_nG pp.prI; omega) (hk.vl pp) (vl_mul pp.prI (h.vl pp) (h'.vl pp))
  refine ⟨hc, ?_⟩
  have hp : k.Perm (l ++ l') := List.perm_iff_count.2 fun p => by
    rw [List.count_append]
    by_cases pp : p ∈ k ∨ p ∈ l ∨ p ∈ l'
    · refine hc p ?_
      rcases pp with m | m | m
      · exact hk.pr p m
      · exact h.pr p m
      · exact h'.pr p m
    · rw [List.count_eq_zero.2 (fun m => pp (.inl m)), List.count_eq_zero.2 (fun m => pp (.inr (.inl m))), List.count_eq_zero.2 (fun m => pp (.inr (.inr m)))]
  rw [hp.length_eq, List.length_append]
end Go.Proofs.Ytggebkgfldmipaa

namespace Go.Proofs.Ytggebkgfldmipaa
open Go Go.RowKit

/-- p is the least divisor of N from 2 on. -/
structure Lp (N p : Int) : Prop where
  two : 2 ≤ p
  div : N % p = 0
  least : ∀ k, 2 ≤ k → k < p → N % k ≠ 0
theorem Lp.prime {N p : Int} (h : Lp N p) : wp p := ⟨h.two, fun k hk hkk hm => by
  have h1 : k * 2 ≤ k * k := Int.mul_le_mul_of_nonneg_left hk (by omega)
  refine h.least k hk (by omega) (Int.emod_eq_zero_of_dvd (Int.dvd_trans (Int.dvd_of_emod_eq_zero hm) (Int.dvd_of_emod_eq_zero h.div)))⟩
theorem Lp.co {N p : Int} (h : Lp N p) (hN : 2 ≤ N) : p = N ∨ ∃ m, N = p * m ∧ p ≤ m := by
  obtain ⟨m, hm⟩ := Int.dvd_of_emod_eq_zero h.div
  have h2 := h.two
  by_cases h1 : m = 1
  · subst h1; exact .inl (by omega)
  refine .inr ⟨m, hm, ?_⟩
  have hm0 : 0 < m := by
    rcases Int.lt_or_le 0 m with h | h
    · exact h
    · have := Int.mul_le_mul_of_nonneg_left h (show (0 : Int) ≤ p by omega)
      rw [Int.mul_zero] at this; omega
  rcases Int.lt_or_le m p with h3 | h3
  · exact absurd (by rw [hm, Int.mul_comm]; exact Int.mul_emod_right m p) (h.least m (by omega) h3)
  · exact h3
theorem Lp.sq {N p : Int} (h : Lp N p) (hN : 2 ≤ N) (hne : p ≠ N) : p * p ≤ N := by
  rcases h.co hN with e | ⟨m, hm, hl⟩
  · exact absurd e hne
  · have := h.two
    rw [hm]; exact Int.mul_le_mul_of_nonneg_left hl (by omega)
/-- No divisor below p, and p times p beyond N: N is its own least one. -/
theorem Lp.jump {N p : Int} (hl : ∀ k, 2 ≤ k → k < p → N % k ≠ 0) (hp : N < p * p) (hN : 2 ≤ N) (h2 : 2 ≤ p) : Lp N N := ⟨hN, Int.emod_self, fun k hk hlt hm => by
  obtain ⟨m, e⟩ := Int.dvd_of_emod_eq_zero hm
  have hm0 : 0 < m := by
    rcases Int.lt_or_le 0 m with h | h
    · exact h
    · have := Int.mul_le_mul_of_nonneg_left h (show (0 : Int) ≤ k by omega)
      rw [Int.mul_zero] at this; omega
  have hm1 : m ≠ 1 := by rintro rfl; omega
  rcases Int.lt_or_le k p with h3 | h3
  · exact hl k hk h3 hm
  · rcases Int.lt_or_le m p with h4 | h4
    · exact hl m (by omega) h4 (by rw [e]; exact Int.mul_emod_left k m)
    · have a1 := Int.mul_le_mul_of_nonneg_left h4 (show (0 : Int) ≤ k by omega)
      have a2 := Int.mul_le_mul_of_nonneg_right h3 (show (0 : Int) ≤ p by omega)
      omega⟩
theorem Lp.step {N p : Int} (hl : ∀ k, 2 ≤ k → k < p → N % k ≠ 0) (hp : N % p ≠ 0) : ∀ k, 2 ≤ k → k < p + 1 → N % k ≠ 0 := fun k hk hlt => by
  by_cases e : k = p
  · subst e; exact hp
  · exact hl k hk (by omega)

def hasG (p : Nat) : Bool := (List.range 38).any fun k => Nat.ble 2 k && Nat.ble (k * k) p && p % k == 0
def rep2 (p : Nat) : Bool := (List.range 38).any fun u => (List.range 38).any fun v => u * u + v * v == p
def nores (p : Nat) : Bool := (List.range p).all fun x => !((x * x + 1) % p == 0)
def bigRow (p : Nat) : Bool := Nat.blt p 2 || hasG p || (if p % 4 == 3 then Nat.ble p 1000 || nores p else rep2 p)
theorem big_table : (List.range 1415).all bigRow = true := by kernel_rfl
theorem wp_hasG {p : Nat} (h : wp (p : Int)) : hasG p = false := by
  cases hf : hasG p
  · rfl
  · exfalso
    simp only [hasG, List.any_eq_true, List.mem_range, Bool.and_eq_true, Nat.ble_eq, beq_iff_eq] at hf
    obtain ⟨k, -, ⟨h2, hk⟩, h0⟩ := hf
    refine h.2 k (by omega) (by rw [← Int.natCast_mul]; omega) ?_
    rw [← Int.natCast_emod]; omega
theorem big_row {p : Int} (hp : wp p) (hm : p ≤ 1414) : ∃ n : Nat, p = n ∧ (if n % 4 == 3 then Nat.ble n 1000 || nores n else rep2 n) = true := by
  have h2 := hp.1
  obtain ⟨n, rfl⟩ := Int.eq_ofNat_of_zero_le (show 0 ≤ p by omega)
  refine ⟨n, rfl, ?_⟩
  have := List.all_eq_true.1 big_table n (List.mem_range.2 (by omega))
  rw [bigRow, wp_hasG hp, Bool.or_false, Bool.or_eq_true] at this
  rcases this with h | h
  · have := Nat.blt_eq.mp h; omega
  · exact h
/-- Two squares, neither of them 0. -/
theorem two_sq_big {p : Int} (hp : wp p) (hm : p ≤ 1414) (h4 : p % 4 ≠ 3) : ∃ a b : Int, 1 ≤ a ∧ a ≤ 37 ∧ 1 ≤ b ∧ b ≤ 37 ∧ a * a + b * b = p := by
  obtain ⟨n, rfl, h⟩ := big_row hp hm
  have e : (n % 4 == 3) = false := by rw [beq_eq_false_iff_ne]; omega
  rw [e, if_neg (by simp), rep2] at h
  simp only [List.any_eq_true, List.mem_range, beq_iff_eq] at h
  obtain ⟨u, hu, v, hv, huv⟩ := h
  have hu0 : u ≠ 0 := by
    rintro rfl
    have : (v : Int) * v = n := by rw [← huv]; push_cast; omega
    exact sq_not_wp (this ▸ hp)
  have hv0 : v ≠ 0 := by
    rintro rfl
    have : (u : Int) * u = n := by rw [← huv]; push_cast; omega
    exact sq_not_wp (this ▸ hp)
  exact ⟨u, v, by omega, by omega, by omega, by omega, by rw [← huv]; push_cast; rfl⟩
theorem bez_int {p : Int} (hp : wp p) : ∀ (k : Nat) (a : Int), 1 ≤ a → a < p → a ≤ k → ∃ s t : Int, s * a + t * p = 1 := by
  intro k
  induction k with
  | zero => intro a h1 _ h3; omega
  | succ k ih =>
    intro a h1 h2 h3
    by_cases e : a = 1
    · exact ⟨1, 0, by omega⟩
    have hd := Int.mul_ediv_add_emod p a
    have hr0 := Int.emod_nonneg p (show a ≠ 0 by omega)
    have hr1 := Int.emod_lt_of_pos p (show 0 < a by omega)
    have hr : p % a ≠ 0 := fun hz => by
      rw [hz, Int.add_zero] at hd
      rcases wp_div hp h1 hd.symm with h | h <;> omega
    obtain ⟨s, t, h⟩ := ih (p % a) (by omega) (by omega) (by omega)
    refine ⟨-(s * (p / a)), s + t, ?_⟩
    generalize p % a = r at hd h
    generalize p / a = q at hd
    grind
/-- For great primes that leave 3 no number of the plane has a norm that they divide, but 0. -/
theorem no_great {p a b : Int} (hp : wp p) (h4 : p % 4 = 3) (h1 : 1000 < p) (h2 : p ≤ 1414) (ha : -1000 ≤ a) (ha' : a ≤ 1000) (h0 : a ≠ 0) (hm : (a * a + b * b) % p = 0) : False := by
  obtain ⟨n, rfl, h⟩ := big_row hp h2
  have e : (n % 4 == 3) = true := by rw [beq_iff_eq]; omega
  have e2 : Nat.ble n 1000 = false := by
    cases hb : Nat.ble n 1000
    · rfl
    · have := Nat.le_of_ble_eq_true hb; omega
  rw [e, if_pos rfl, e2, Bool.false_or, nores, List.all_eq_true] at h
  obtain ⟨m, hm⟩ := Int.dvd_of_emod_eq_zero hm
  have d1 := Int.mul_ediv_add_emod a n
  have r0 := Int.emod_nonneg a (show (n : Int) ≠ 0 by omega)
  have r1 := Int.emod_lt_of_pos a (show 0 < (n : Int) by omega)
  have hr : a % n ≠ 0 := fun hz => by
    obtain ⟨y, hy⟩ := Int.dvd_of_emod_eq_zero hz
    rcases Int.lt_trichotomy y 0 with h | h | h
    · have := Int.mul_le_mul_of_nonneg_left (show y ≤ -1 by omega) (show 0 ≤ (n : Int) by omega); omega
    · subst h; omega
    · have := Int.mul_le_mul_of_nonneg_left (show 1 ≤ y by omega) (show 0 ≤ (n : Int) by omega); omega
  obtain ⟨s, t, hst⟩ := bez_int hp n (a % n) (by omega) r1 (by omega)
  have d2 := Int.mul_ediv_add_emod (s * b) n
  have x0 := Int.emod_nonneg (s * b) (show (n : Int) ≠ 0 by omega)
  have x1 := Int.emod_lt_of_pos (s * b) (show 0 < (n : Int) by omega)
  obtain ⟨x, hx⟩ := Int.eq_ofNat_of_zero_le x0
  have := h x (List.mem_range.2 (by omega))
  rw [Bool.not_eq_true', beq_eq_false_iff_ne] at this
  refine this ?_
  rw [hx] at d2
  have key : ((x : Int) * x + 1) = n * (s * s * m - 2 * s * b * (s * b / n) + n * (s * b / n) * (s * b / n) + 2 * s * a * (t - s * (a / n)) + (t - s * (a / n)) * (t - s * (a / n)) * n) := by
    generalize s * b / (n : Int) = y at d2
    generalize a / (n : Int) = q at d1
    generalize a % (n : Int) = r at d1 hst
    have hx' : (x : Int) = s * b - n * y := by omega
    have h1 : s * a + (t - s * q) * n = 1 := by
      have : r = a - n * q := by omega
      subst this
      grind
    generalize t - s * q = t' at h1
    rw [hx']
    have h1' : (s * a + t' * n) * (s * a + t' * n) = 1 := by rw [h1]; rfl
    grind
  have hz : ((x * x + 1 : Nat) : Int) % n = 0 := by
    push_cast
    rw [key]
    exact Int.mul_emod_right _ _
  rw [← Int.natCast_emod] at hz
  omega

/-- The least divisor of a norm leads to a prime of the first quarter that divides the number. -/
theorem lp_prime {a b p : Int} (k : gok a b = true) (h : Lp (a * a + b * b) p) (hN : 2 ≤ a * a + b * b) :
    (p % 4 = 3 → p ≤ 1000 ∧ PrQ (p, 0) ∧ dvG (p, 0) (a, b)) ∧ (p % 4 ≠ 3 → ∃ u v : Int, 1 ≤ u ∧ 1 ≤ v ∧ u * u + v * v = p ∧ gok u v = true ∧ dvG (u, v) (a, b)) := by
  have hp := h.prime
  have hk : -1000 ≤ a ∧ a ≤ 1000 ∧ -1000 ≤ b ∧ b ≤ 1000 := by
    exact gok_bd k
  have hN2 : a * a + b * b ≤ 2000000 := by
    have := nrm_nn k; rw [nrm_t k] at this; exact this.2
  have hle : p ≠ a * a + b * b → p ≤ 1414 := fun hne => by
    have h1 := h.sq hN hne
    rcases Int.lt_or_le 1414 p with h2 | h2
    · have a1 := Int.mul_le_mul_of_nonneg_left (show (1415 : Int) ≤ p from h2) (show 0 ≤ p by omega)
      omega
    · exact h2
  obtain ⟨m, hm⟩ := Int.dvd_of_emod_eq_zero h.div
  constructor
  · intro h4
    have hne : p ≠ a * a + b * b := fun e => no_sq h4 e.symm
    have h14 := hle hne
    have h10 : p ≤ 1000 := by
      rcases Int.lt_or_le 1000 p with h1 | h1
      · exfalso
        by_cases ha : a = 0
        · refine no_great (b := a) hp h4 h1 h14 hk.2.2.1 hk.2.2.2 ?_ (by rw [Int.add_comm]; exact h.div)
          rintro rfl; subst ha; omega
        · exact no_great hp h4 h1 h14 hk.1 hk.2.1 ha h.div
      · exact h1
    have h2 := hp.1
    have kp : gok p 0 = true := by simp [gok, pok]; omega
    have pq : PrQ (p, 0) := ⟨prO_line kp hp h4 (.inl ⟨rfl, .inl rfl⟩), by show 0 < p; omega, Int.le_refl 0⟩
    refine ⟨h10, pq, ?_⟩
    have hd : dvG (p, 0) (mu (a, b) (a, -b)) := ⟨(m, 0), by unfold mu; exact Prod.ext (by dsimp only; grind) (by dsimp only; grind)⟩
    rcases pr_both pq.prI hd with h | ⟨y, hy⟩
    · exact h
    · have e1 := congrArg Prod.fst hy
      have e2 := congrArg Prod.snd hy
      unfold mu at e1 e2
      dsimp only at e1 e2
      exact ⟨(y.1, -y.2), by unfold mu; exact Prod.ext (by dsimp only; grind) (by dsimp only; grind)⟩
  · intro h4
    by_cases hne : p = a * a + b * b
    · have ha : a ≠ 0 := by rintro rfl; exact sq_not_wp (a := b) (by rw [hne] at hp; simpa using hp)
      have hb : b ≠ 0 := by rintro rfl; exact sq_not_wp (a := a) (by rw [hne] at hp; simpa using hp)
      rcases Int.lt_or_gt_of_ne ha with a1 | a1 <;> rcases Int.lt_or_gt_of_ne hb with b1 | b1
      · exact ⟨-a, -b, by omega, by omega, by rw [hne]; grind, by simp [gok, pok]; omega, (-1, 0), by unfold mu; exact Prod.ext (by dsimp only; grind) (by dsimp only; grind)⟩
      · exact ⟨b, -a, by omega, by omega, by rw [hne]; grind, by simp [gok, pok]; omega, (0, 1), by unfold mu; exact Prod.ext (by dsimp only; grind) (by dsimp only; grind)⟩
      · exact ⟨-b, a, by omega, by omega, by rw [hne]; grind, by simp [gok, pok]; omega, (0, -1), by unfold mu; exact Prod.ext (by dsimp only; grind) (by dsimp only; grind)⟩
      · exact ⟨a, b, by omega, by omega, by rw [hne], k, (1, 0), by unfold mu; exact Prod.ext (by dsimp only; grind) (by dsimp only; grind)⟩
    · obtain ⟨u, v, u1, u2, v1, v2, huv⟩ := two_sq_big hp (hle hne) h4
      have kuv : gok u v = true := by simp [gok, pok]; omega
      have hpr : prI u v := prO_prI (prO_norm kuv (by rw [huv]; exact hp))
      have hd : dvG (u, v) (mu (a, b) (a, -b)) := ⟨(u * m, -v * m), by unfold mu; exact Prod.ext (by dsimp only; grind) (by dsimp only; grind)⟩
      rcases pr_both hpr hd with h | ⟨y, hy⟩
      · exact ⟨u, v, u1, v1, huv, kuv, h⟩
      · have e1 := congrArg Prod.fst hy
        have e2 := congrArg Prod.snd hy
        unfold mu at e1 e2
        dsimp only at e1 e2
        exact ⟨v, u, v1, u1, by omega, by simp [gok, pok]; omega, (-y.2, -y.1), by unfold mu; exact Prod.ext (by dsimp only; grind) (by dsimp only; grind)⟩
end Go.Proofs.Ytggebkgfldmipaa

namespace Go.Proofs.Ytggebkgfldmipaa
open Go Go.RowKit

theorem prodG_append : ∀ l l' : List (Int × Int), prodG (l ++ l') = mu (prodG l) (prodG l') := by
  intro l l'
  induction l with
  | nil => exact (mu_one _).symm
  | cons q l ih => rw [List.cons_append, prodG, prodG, ih, mu_assoc]
theorem prodG_ins (l : List (Int × Int)) (k : Nat) (p : Int × Int) : prodG (l.take k ++ p :: l.drop k) = mu p (prodG l) := by
  have e := prodG_append (l.take k) (l.drop k)
  rw [List.take_append_drop] at e
  rw [prodG_append, prodG, e, ← mu_assoc, mu_comm (prodG (l.take k)) p, mu_assoc]
theorem leD_trans {p q r : Int × Int} (h : leD p q) (h' : leD q r) : leD p r := by unfold leD ltD at *; omega
theorem leD_of {p q : Int × Int} (h : ltD p q) : leD p q := fun h' => ltD_asymm h h'
/-- A number put into its place. -/
theorem ins_sorted {l : List (Int × Int)} {k : Nat} {p : Int × Int} (hs : l.Pairwise leD) (hk : k ≤ l.length) (hb : ∀ (i : Nat) (q : Int × Int), k ≤ i → l[i]? = some q → ltD p q)
    (ha : 0 < k → ∀ q, l[k - 1]? = some q → leD q p) : (l.take k ++ p :: l.drop k).Pairwise leD := by
  have hd : ∀ q ∈ l.drop k, leD p q := fun q hq => by
    obtain ⟨i, hi⟩ := List.mem_iff_getElem?.1 hq
    rw [List.getElem?_drop] at hi
    exact leD_of (hb (k + i) q (by omega) hi)
  have ht : ∀ a ∈ l.take k, leD a p := fun a hm => by
    obtain ⟨i, hi⟩ := List.mem_iff_getElem?.1 hm
    rw [List.getElem?_take] at hi
    by_cases hik : i < k
    · rw [if_pos hik] at hi
      have hlast := ha (by omega) l[k - 1] (List.getElem?_eq_getElem (by omega))
      by_cases e : i = k - 1
      · subst e
        rw [List.getElem?_eq_getElem (by omega)] at hi
        cases hi; exact hlast
      · have := List.pairwise_iff_getElem.1 hs i (k - 1) (by omega) (by omega) (by omega)
        rw [List.getElem?_eq_getElem (by omega)] at hi
        cases hi; exact leD_trans this hlast
    · rw [if_neg hik] at hi; cases hi
  rw [List.pairwise_append, List.pairwise_cons]
  refine ⟨hs.sublist (List.take_sublist ..), ⟨hd, hs.sublist (List.drop_sublist ..)⟩, fun a hm b hb' => ?_⟩
  rcases List.mem_cons.1 hb' with rfl | h
  · exact ht a hm
  · exact leD_trans (ht a hm) (hd b h)

/-- What is found on the way: the primes so far, and what is left. -/
structure Run (z0 z : Int × Int) (l : List (Int × Int)) : Prop where
  pr : ∀ p ∈ l, PrQ p
  sorted : l.Pairwise leD
  prod : mu z (prodG l) = z0
theorem Run.start (z : Int × Int) : Run z z [] := ⟨fun _ h => absurd h (List.not_mem_nil), List.Pairwise.nil, by rw [prodG, mu_comm, mu_one]⟩
theorem Run.step {z0 z y p : Int × Int} {l : List (Int × Int)} {k : Nat} (h : Run z0 z l) (hp : PrQ p) (hz : z = mu p y) (hk : k ≤ l.length) (hb : ∀ (i : Nat) (q : Int × Int), k ≤ i → l[i]? = some q → ltD p q)
    (ha : 0 < k → ∀ q, l[k - 1]? = some q → leD q p) : Run z0 y (l.take k ++ p :: l.drop k) := ⟨fun q hq => by
    rcases List.mem_append.1 hq with h1 | h1
    · exact h.pr q (List.mem_of_mem_take h1)
    · rcases List.mem_cons.1 h1 with rfl | h2
      · exact hp
      · exact h.pr q (List.mem_of_mem_drop h2), ins_sorted h.sorted hk hb ha, by
    rw [prodG_ins, ← h.prod, hz, mu_comm p y, mu_assoc]⟩
theorem two_pow_prod : ∀ {l : List (Int × Int)}, (∀ q ∈ l, PrQ q) → (2 : Int) ^ l.length ≤ nG (prodG l) := by
  intro l
  induction l with
  | nil => intro _; decide
  | cons q l ih =>
    intro h
    have h1 := ih fun r hr => h r (List.mem_cons_of_mem _ hr)
    have h2 := pr_nG (h q (List.mem_cons_self ..)).prI
    have h3 := nG_nn (prodG l)
    rw [prodG, nG_mu, List.length_cons, Int.pow_succ]
    have h4 := Int.mul_le_mul_of_nonneg_right h2 h3
    omega
/-- There are never more than twenty. -/
theorem few_primes {z u : Int × Int} {l : List (Int × Int)} (hl : ∀ q ∈ l, PrQ q) (hp : mu u (prodG l) = z) (hz : nG z ≠ 0) (hN : nG z ≤ 2000000) : l.length ≤ 20 := by
  have h1 := two_pow_prod hl
  have h2 : nG z = nG u * nG (prodG l) := by rw [← hp, nG_mu]
  have h3 := nG_nn u
  have h4 := nG_nn (prodG l)
  have h5 : nG u ≠ 0 := fun e => hz (by rw [h2, e, Int.zero_mul])
  have h6 : nG (prodG l) ≤ nG z := by
    rw [h2]
    have := Int.mul_le_mul_of_nonneg_right (show (1 : Int) ≤ nG u by omega) h4
    omega
  rcases Nat.lt_or_ge 20 l.length with h | h
  · exfalso
    have : (2 : Int) ^ 21 ≤ 2 ^ l.length := by
      obtain ⟨j, hj⟩ := Nat.le.dest h
      rw [← hj, Int.pow_add]
      have hj1 : (1 : Int) ≤ 2 ^ j := by
        have := Int.pow_pos (n := 2) (m := j) (by decide)
        omega
      have := Int.mul_le_mul_of_nonneg_left hj1 (show (0 : Int) ≤ 2 ^ 21 by decide)
      simpa using this
    have : (2 : Int) ^ 21 = 2097152 := by decide
    omega
  · exact h
theorem unit_turn {z : Int × Int} (h : nG z = 1) : 0 ≤ fiT z.1 z.2 ∧ fiT z.1 z.2 ≤ 3 ∧ uG (fiT z.1 z.2) = z := by
  obtain ⟨x, y⟩ := z
  rcases unit_is (x := x) (y := y) h with ⟨rfl, rfl⟩ | ⟨rfl, rfl⟩ | ⟨rfl, rfl⟩ | ⟨rfl, rfl⟩ <;> exact ⟨by decide, by decide, by decide⟩
theorem Run.done {z0 z : Int × Int} {l : List (Int × Int)} (h : Run z0 z l) (hz : nG z = 1) : Facs z0 (fiT z.1 z.2) l := by
  obtain ⟨h0, h3, e⟩ := unit_turn hz
  exact ⟨h0, h3, h.pr, h.sorted, by rw [e]; exact h.prod⟩

/-- Equal primes stand side by side. -/
theorem side_by_side {l : List (Int × Int)} (hp : ∀ q ∈ l, PrQ q) (hs : l.Pairwise leD) : (∀ (k : Nat) (q : Int × Int), l[k]? = some q → l[k + 1]? = some q → False) ↔ ∀ p, l.count p ≤ 1 := by
  constructor
  · intro h p
    refine List.nodup_iff_count.1 ?_ p
    rw [List.Nodup, List.pairwise_iff_getElem]
    intro i j hi hj hij e
    have a1 := hp l[i] (List.getElem_mem hi)
    have a2 := hp l[i + 1] (List.getElem_mem (by omega))
    have b1 := List.pairwise_iff_getElem.1 hs i (i + 1) hi (by omega) (by omega)
    have b2 : leD l[i + 1] l[i] := by
      by_cases hj1 : j = i + 1
      · subst hj1; rw [← e]; exact fun h => ltD_irr _ h
      · rw [e]; exact List.pairwise_iff_getElem.1 hs (i + 1) j (by omega) hj (by omega)
    have := leD_anti a1 a2 b1 b2
    exact h i l[i] (List.getElem?_eq_getElem hi) (by rw [this]; exact List.getElem?_eq_getElem (by omega))
  · intro h k q h1 h2
    have hn : l.Nodup := List.nodup_iff_count.2 h
    rw [List.Nodup, List.pairwise_iff_getElem] at hn
    obtain ⟨g1, e1⟩ := List.getElem?_eq_some_iff.1 h1
    obtain ⟨g2, e2⟩ := List.getElem?_eq_some_iff.1 h2
    exact hn k (k + 1) g1 g2 (by omega) (e1.trans e2.symm)

/-- Turned over. -/
def cj (z : Int × Int) : Int × Int := (z.1, -z.2)
theorem cj_mu (z w : Int × Int) : cj (mu z w) = mu (cj z) (cj w) := by unfold cj mu; exact Prod.ext (by dsimp only; grind) (by dsimp only; grind)
theorem cj_cj (z : Int × Int) : cj (cj z) = z := by unfold cj; exact Prod.ext rfl (by dsimp only; omega)
theorem cj_pw (p : Int × Int) : ∀ n : Nat, cj (pw p n) = pw (cj p) n := by
  intro n
  induction n with
  | zero => rfl
  | succ n ih => rw [pw, pw, cj_mu, ih]
theorem cj_dvG {p z : Int × Int} (h : dvG p z) : dvG (cj p) (cj z) := by
  obtain ⟨y, rfl⟩ := h; exact ⟨cj y, cj_mu p y⟩
theorem cj_vl {p z : Int × Int} {n : Nat} (h : vl p z n) : vl (cj p) (cj z) n := by
  obtain ⟨y, rfl, hy⟩ := h
  refine ⟨cj y, by rw [cj_mu, cj_pw], fun hd => hy ?_⟩
  have := cj_dvG hd
  rwa [cj_cj, cj_cj] at this
/-- Of associates each is as often in a number as the other one. -/
theorem vl_assoc {p z u v : Int × Int} {n : Nat} (huv : mu u v = (1, 0)) (h : vl p z n) : vl (mu u p) z n := by
  obtain ⟨y, rfl, hy⟩ := h
  refine ⟨mu (pw v n) y, ?_, ?_⟩
  · have e : ∀ n : Nat, mu (pw (mu u p) n) (pw v n) = pw p n := by
      intro n
      induction n with
      | zero => rfl
      | succ n ih =>
        rw [pw, pw, pw, mu_assoc, ← mu_assoc (pw (mu u p) n), mu_comm (pw (mu u p) n) v, mu_assoc v, ih, ← mu_assoc, mu_comm u p, mu_assoc p u v, huv, mu_comm p, mu_one]
    rw [← mu_assoc, e]
  · rintro ⟨x, hx⟩
    refine hy ⟨mu (mu u (pw u n)) x, ?_⟩
    have e : ∀ n : Nat, mu (pw u n) (pw v n) = (1, 0) := by
      intro n
      induction n with
      | zero => rfl
      | succ n ih => rw [pw, pw, mu_assoc, ← mu_assoc (pw u n), mu_comm (pw u n) v, mu_assoc v, ih, mu_comm v, mu_one, huv]
    have h1 : mu (pw u n) (mu (pw v n) y) = y := by rw [← mu_assoc, e, mu_one]
    rw [← h1, hx, ← mu_assoc, ← mu_assoc, ← mu_assoc, mu_comm (pw u n), mu_comm p]
end Go.Proofs.Ytggebkgfldmipaa

namespace Go.Proofs.Ytggebkgfldmipaa
open Go Go.RowKit

theorem prO_q (a b : Int) : prO (-b) a = prO a b := by
  have h1 : gok (-b) a = gok a b := by rw [Bool.eq_iff_iff]; simp [gok, pok]; omega
  have h2 : mxB (-b) a = mxB a b := by unfold mxB; omega
  have h3 : -b * -b + a * a = a * a + b * b := by grind
  unfold prO
  rw [h1, h2, h3]
  by_cases ha : a = 0 <;> by_cases hb : b = 0 <;> simp [ha, hb]
theorem prO_cj (a b : Int) : prO a (-b) = prO a b := by
  have h1 : gok a (-b) = gok a b := by rw [Bool.eq_iff_iff]; simp [gok, pok]; omega
  have h2 : mxB a (-b) = mxB a b := by unfold mxB; omega
  have h3 : a * a + -b * -b = a * a + b * b := by grind
  unfold prO
  rw [h1, h2, h3]
  by_cases ha : a = 0 <;> by_cases hb : b = 0 <;> simp [ha, hb]
/-- The associate of a prime in the first quarter. -/
theorem first_prime {a b : Int} (h : prO a b = true) : PrQ (fiA a b, fiB a b) ∧ ∃ u v : Int × Int, mu u v = (1, 0) ∧ mu u (a, b) = (fiA a b, fiB a b) := by
  have hpr := prO_prI h
  obtain ⟨p, q, t, kq, hA, hB, -, t0, t3, hq, hx, hy, -⟩ := fi_sum hpr.1
  have ho : trO t p q = true := by simp [trO, kq]; omega
  rw [trA, ho, if_pos rfl] at hx
  rw [trB, ho, if_pos rfl] at hy
  have hz := pr_pos hpr
  rw [hA, hB]
  have hfq : fqP p q := by
    rcases hq with h | ⟨rfl, rfl⟩
    · exact h
    · exfalso
      unfold tuA at hx; unfold tuB at hy
      have ha : a = 0 := by
        rw [← hx]
        repeat' split
        all_goals omega
      have hb : b = 0 := by
        rw [← hy]
        repeat' split
        all_goals omega
      rw [ha, hb] at hz
      simp at hz
  obtain rfl | rfl | rfl | rfl : t = 0 ∨ t = 1 ∨ t = 2 ∨ t = 3 := by omega
  · have ex : p = a := hx
    have ey : q = b := hy
    subst ex ey
    exact ⟨⟨h, hfq⟩, (1, 0), (1, 0), by decide, mu_one _⟩
  · have ex : -q = a := hx
    have ey : p = b := hy
    subst ex ey
    rw [prO_q] at h
    exact ⟨⟨h, hfq⟩, (0, -1), (0, 1), by decide, by unfold mu; exact Prod.ext (by dsimp only; grind) (by dsimp only; grind)⟩
  · have ex : -p = a := hx
    have ey : -q = b := hy
    subst ex ey
    rw [prO_q, prO_q] at h
    exact ⟨⟨h, hfq⟩, (-1, 0), (-1, 0), by decide, by unfold mu; exact Prod.ext (by dsimp only; grind) (by dsimp only; grind)⟩
  · have ex : q = a := hx
    have ey : -p = b := hy
    subst ex ey
    have e := prO_q (-p) (-q)
    rw [Int.neg_neg] at e
    rw [e, prO_q, prO_q] at h
    exact ⟨⟨h, hfq⟩, (0, 1), (0, -1), by decide, by unfold mu; exact Prod.ext (by dsimp only; grind) (by dsimp only; grind)⟩
/-- How often a prime is in a number, counted among its primes. -/
theorem often_count {z : Int × Int} {a b t : Int} {l : List (Int × Int)} {n : Nat} (hf : Facs z t l) (hp : prO a b = true) (hv : vl (a, b) z n) : l.count (fiA a b, fiB a b) = n := by
  obtain ⟨pq, u, v, huv, e⟩ := first_prime hp
  have h1 := vl_assoc huv hv
  rw [e] at h1
  exact vl_one (by have := pr_nG pq.prI; omega) (hf.vl pq) h1
theorem conj_le {z : Int × Int} {t s : Int} {l k : List (Int × Int)} (h : Facs z t l) (h' : Facs (cj z) s k) (hl : ∀ p, l.count p ≤ 1) (p : Int × Int) : k.count p ≤ 1 := by
  by_cases hm : p ∈ k
  · have pp := h'.pr p hm
    have hv := cj_vl (h'.vl pp)
    rw [cj_cj] at hv
    have hc : prO p.1 (-p.2) = true := by rw [prO_cj]; exact pp.1
    have := often_count h hc hv
    have := hl (fiA p.1 (-p.2), fiB p.1 (-p.2))
    omega
  · rw [List.count_eq_zero_of_not_mem hm]; omega
/-- A number turned over is without squares exactly if it is. -/
theorem conj_square {z : Int × Int} {t s : Int} {l k : List (Int × Int)} (h : Facs z t l) (h' : Facs (cj z) s k) : (∀ p, l.count p ≤ 1) ↔ ∀ p, k.count p ≤ 1 :=
  ⟨conj_le h h', conj_le h' (by rw [cj_cj]; exact h)⟩
theorem prodG_perm {l k : List (Int × Int)} (h : l.Perm k) : prodG l = prodG k := by
  induction h with
  | nil => rfl
  | cons x _ ih => rw [prodG, prodG, ih]
  | swap x y l => rw [prodG, prodG, prodG, prodG, ← mu_assoc, ← mu_assoc, mu_comm y x]
  | trans _ _ ih1 ih2 => exact ih1.trans ih2
/-- Primes in any order are those that are told, with the same unit. -/
theorem Facs.any {z : Int × Int} {t s : Int} {l k : List (Int × Int)} (h : Facs z t l) (s0 : 0 ≤ s) (s3 : s ≤ 3) (hk : ∀ q ∈ k, PrQ q) (e : mu (uG s) (prodG k) = z) : t = s ∧ l.length = k.length := by
  have hc : ∀ p, PrQ p → l.count p = k.count p := fun p pp => by
    have h1 := vl_mul pp.prI (vl_zero (not_dv_unit pp.prI (uG_nG s0 s3))) (vl_prod pp hk)
    rw [e, Nat.zero_add] at h1
    exact vl_one (by have := pr_nG pp.prI; omega) (h.vl pp) h1
  have hp : l.Perm k := List.perm_iff_count.2 fun p => by
    by_cases pp : p ∈ l ∨ p ∈ k
    · exact hc p (pp.elim (h.pr p) (hk p))
    · rw [List.count_eq_zero_of_not_mem fun m => pp (.inl m), List.count_eq_zero_of_not_mem fun m => pp (.inr m)]
  refine ⟨uG_one h.t0 h.t3 s0 s3 ?_, hp.length_eq⟩
  have e1 := h.prod.trans e.symm
  rw [prodG_perm hp, mu_comm, mu_comm (uG s)] at e1
  exact mu_cancel (prodG_nG hk) e1
/-- Each prime of a number is in it once exactly if none stands beside itself. -/
theorem once_each {z : Int × Int} {t : Int} {l : List (Int × Int)} (h : Facs z t l) : (∀ (k : Nat) (q : Int × Int), l[k]? = some q → l[k + 1]? = some q → False) ↔ ∀ p ∈ l, l.count p = 1 := by
  rw [side_by_side h.pr h.sorted]
  constructor
  · intro hc p hm
    have := hc p
    have := List.count_pos_iff.2 hm
    omega
  · intro hc p
    by_cases hm : p ∈ l
    · rw [hc p hm]; omega
    · rw [List.count_eq_zero_of_not_mem hm]; omega
end Go.Proofs.Ytggebkgfldmipaa

namespace Go.Proofs.Ytggebkgfldmipaa
open Go Go.RowKit

theorem dvG.trans {p q z : Int × Int} (h : dvG p q) (h' : dvG q z) : dvG p z := by
  obtain ⟨x, rfl⟩ := h
  obtain ⟨y, rfl⟩ := h'
  exact ⟨mu x y, mu_assoc _ _ _⟩
theorem dvG.self (z : Int × Int) : dvG z z := ⟨(1, 0), by rw [mu_comm, mu_one]⟩
theorem nG_pos {z : Int × Int} (h : z ≠ (0, 0)) : 1 ≤ nG z := by
  have := nG_nn z
  rcases Int.lt_or_le (nG z) 1 with h' | h'
  · exact absurd (nG_zero (by omega)) h
  · exact h'
/-- A divisor's norm, and what is left. -/
theorem dvG.parts {p z : Int × Int} (h : dvG p z) (hz : 1 ≤ nG z) : ∃ y, z = mu p y ∧ nG z = nG p * nG y ∧ 1 ≤ nG p ∧ 1 ≤ nG y ∧ nG p ≤ nG z ∧ nG y ≤ nG z := by
  obtain ⟨y, rfl⟩ := h
  have e := nG_mu p y
  have hp := nG_nn p
  have hy := nG_nn y
  have hp0 : nG p ≠ 0 := fun h0 => by rw [h0, Int.zero_mul] at e; omega
  have hy0 : nG y ≠ 0 := fun h0 => by rw [h0, Int.mul_zero] at e; omega
  refine ⟨y, rfl, e, by omega, by omega, ?_, ?_⟩
  · rw [e]
    have := Int.mul_le_mul_of_nonneg_left (show (1 : Int) ≤ nG y by omega) hp
    omega
  · rw [e]
    have := Int.mul_le_mul_of_nonneg_right (show (1 : Int) ≤ nG p by omega) hy
    omega
theorem lp_find {N : Int} (_hN : 2 ≤ N) : ∀ (m : Nat) (p : Int), 2 ≤ p → p + m = N → (∀ k, 2 ≤ k → k < p → N % k ≠ 0) → ∃ q, Lp N q := by
  intro m
  induction m with
  | zero => exact fun p h2 e hl => ⟨p, h2, by rw [show p = N by omega]; exact Int.emod_self, hl⟩
  | succ m ih =>
    intro p h2 e hl
    by_cases h : N % p = 0
    · exact ⟨p, h2, h, hl⟩
    · exact ih (p + 1) (by omega) (by omega) (Lp.step hl h)
theorem lp_any {N : Int} (hN : 2 ≤ N) : ∃ q, Lp N q := lp_find hN (N - 2).toNat 2 (by omega) (by omega) (fun k h1 h2 => by omega)
/-- Who is no unit has a prime of the first quarter. -/
theorem some_prime {z : Int × Int} (k : gok z.1 z.2 = true) (h2 : 2 ≤ nG z) : ∃ q, PrQ q ∧ dvG q z := by
  obtain ⟨p, hp⟩ := lp_any h2
  obtain ⟨h3, h4⟩ := lp_prime (a := z.1) (b := z.2) k hp h2
  by_cases hm : p % 4 = 3
  · exact ⟨_, (h3 hm).2⟩
  · obtain ⟨u, v, hu, hv, e, kuv, hd⟩ := h4 hm
    exact ⟨(u, v), ⟨prO_norm kuv (by rw [e]; exact hp.prime), by show 0 < u; omega, by show 0 ≤ v; omega⟩, hd⟩
theorem unit_fq {q y : Int × Int} (hq : fqP q.1 q.2) (hw : fqP (mu q y).1 (mu q y).2) (hy : nG y = 1) : mu q y = q := by
  obtain ⟨a, b⟩ := q
  obtain ⟨x, y⟩ := y
  obtain ⟨h1, h2⟩ := hq
  obtain ⟨h3, h4⟩ := hw
  unfold mu at *
  dsimp only at *
  rcases unit_is hy with ⟨rfl, rfl⟩ | ⟨rfl, rfl⟩ | ⟨rfl, rfl⟩ | ⟨rfl, rfl⟩
  · exact Prod.ext (by dsimp only; omega) (by dsimp only; omega)
  · omega
  · omega
  · omega
/-- Who divides, and has no divisor of a smaller norm but units, is prime. -/
theorem irr_prime {w z : Int × Int} (kw : gok w.1 w.2 = true) (hq : fqP w.1 w.2) (h2 : 2 ≤ nG w) (hd : dvG w z) (hlow : ∀ d, 2 ≤ nG d → nG d < nG w → ¬ dvG d z) : PrQ w := by
  obtain ⟨q, hp, hqd⟩ := some_prime kw h2
  have h2q := pr_nG hp.prI
  obtain ⟨y, e, hn, -, hy1, hle, -⟩ := hqd.parts (by omega)
  have hge : nG w ≤ nG q := by
    rcases Int.lt_or_le (nG q) (nG w) with h | h
    · exact absurd (hqd.trans hd) (hlow q h2q h)
    · exact h
  have hy : nG y = 1 := by
    rcases Int.lt_or_le 1 (nG y) with h | h
    · have := Int.mul_le_mul_of_nonneg_left (show (2 : Int) ≤ nG y by omega) (show 0 ≤ nG q by omega)
      omega
    · omega
  have := unit_fq hp.2 (e ▸ hq) hy
  rw [e, this]
  exact hp
theorem uG_turn (t a b : Int) : mu (uG t) (a, b) = (tuA t a b, tuB t a b) := by
  unfold uG mu tuA tuB
  dsimp only
  repeat' split
  all_goals first | rfl | exact Prod.ext (by dsimp only; omega) (by dsimp only; omega)
/-- A number as a unit times its number in the first quarter. -/
theorem fi_parts {a b : Int} (k : gok a b = true) : 0 ≤ fiT a b ∧ fiT a b ≤ 3 ∧ mu (uG (fiT a b)) (fiA a b, fiB a b) = (a, b) := by
  obtain ⟨p, q, t, kp, rfl, rfl, rfl, t0, t3, -, h1, h2, -⟩ := fi_sum k
  have ht : trO (fiT a b) (fiA a b) (fiB a b) = true := by rw [trO, kp, decide_eq_true ⟨t0, t3⟩]; rfl
  obtain ⟨e1, e2⟩ := tr_t ht
  exact ⟨t0, t3, by rw [uG_turn, ← e1, ← e2, h1, h2]⟩
/-- What is left in the end, and is no unit, is prime. -/
theorem last_prime {a b n : Int} (k : gok a b = true) (h2 : 2 ≤ nG (a, b)) (h0 : 0 ≤ n) (hn : nG (a, b) < n * n) (hlow : ∀ d, 2 ≤ nG d → nG d < n → ¬ dvG d (a, b)) :
    PrQ (fiA a b, fiB a b) ∧ n ≤ nG (fiA a b, fiB a b) := by
  have hge : ∀ d, 2 ≤ nG d → dvG d (a, b) → n ≤ nG d := fun d hd hdv => by
    rcases Int.lt_or_le (nG d) n with h | h
    · exact absurd hdv (hlow d hd h)
    · exact h
  obtain ⟨q, hp, hqd⟩ := some_prime (z := (a, b)) k h2
  have h2q := pr_nG hp.prI
  obtain ⟨y, e, hnn, -, hy1, hle, -⟩ := hqd.parts (by omega)
  have hnq := hge q h2q hqd
  have hy : nG y = 1 := by
    rcases Int.lt_or_le 1 (nG y) with h | h
    · have hny := hge y (by omega) ⟨q, by rw [e, mu_comm]⟩
      have := Int.mul_le_mul (a := n) (b := n) (c := nG q) (d := nG y) hnq hny h0 (by omega)
      omega
    · omega
  have hpo : prO a b = true := by
    obtain ⟨c, d⟩ := q
    obtain ⟨u, v⟩ := y
    have hpq : prO c d = true := hp.1
    unfold mu at e
    have e1 := congrArg Prod.fst e
    have e2 := congrArg Prod.snd e
    dsimp only at e1 e2
    rcases unit_is hy with ⟨rfl, rfl⟩ | ⟨rfl, rfl⟩ | ⟨rfl, rfl⟩ | ⟨rfl, rfl⟩
    · rw [show a = c by omega, show b = d by omega]; exact hpq
    · rw [show a = -c by omega, show b = -d by omega]; exact (prO_q (-d) c).trans ((prO_q c d).trans hpq)
    · rw [show a = -d by omega, show b = c by omega, prO_q]; exact hpq
    · have h1 := prO_q (-c) (-d)
      rw [show (- -d : Int) = d by omega] at h1
      rw [show a = d by omega, show b = -c by omega]; exact h1.trans ((prO_q (-d) c).trans ((prO_q c d).trans hpq))
  refine ⟨(first_prime hpo).1, ?_⟩
  have h1 := fi_nrm k
  rw [nrm_t k, nrm_t (fi_Dv k).2.2.1] at h1
  show n ≤ fiA a b * fiA a b + fiB a b * fiB a b
  rw [h1]
  exact hge (a, b) h2 (dvG.self _)

theorem prodG_replicate (p : Int × Int) (k : Nat) : prodG (List.replicate k p) = pw p k := by
  induction k with
  | zero => rfl
  | succ k ih => rw [List.replicate_succ, prodG, pw, ih]
theorem leD_self (p : Int × Int) : leD p p := ltD_irr p
/-- As many of a prime as divide out, put behind the others. -/
theorem Run.more {z0 z y p : Int × Int} {l : List (Int × Int)} {k : Nat} (h : Run z0 z l) (hp : k ≠ 0 → PrQ p) (hz : z = mu (pw p k) y) (hb : ∀ q ∈ l, leD q p) : Run z0 y (l ++ List.replicate k p) := by
  refine ⟨fun q hq => ?_, List.pairwise_append.2 ⟨h.sorted, ?_, fun q hq r hr => ?_⟩, ?_⟩
  · rcases List.mem_append.1 hq with h' | h'
    · exact h.pr q h'
    · obtain ⟨hk, rfl⟩ := List.mem_replicate.1 h'
      exact hp hk
  · exact List.pairwise_replicate.2 (.inr (leD_self p))
  · obtain ⟨-, rfl⟩ := List.mem_replicate.1 hr
    exact hb q hq
  · rw [prodG_append, prodG_replicate, ← h.prod, hz]
    rw [mu_comm (prodG l) (pw p k), ← mu_assoc, mu_comm y (pw p k)]
theorem dvG_pw {p y : Int × Int} {k : Nat} {d : Int × Int} (h : dvG d y) : dvG d (mu (pw p k) y) := by
  obtain ⟨x, rfl⟩ := h
  refine ⟨mu (pw p k) x, ?_⟩
  rw [← mu_assoc, mu_comm (pw p k) d, mu_assoc]

/-- What is tried on the way: all numbers of smaller norms, and the first m of this norm. -/
structure Tr (z0 z : Int × Int) (l : List (Int × Int)) (n : Int) (m : Nat) : Prop where
  run : Run z0 z l
  low : ∀ d, 2 ≤ nG d → nG d < n → ¬ dvG d z
  lt : ∀ q ∈ l, nG q < n ∨ q ∈ (circ n).take m
  off : ∀ q ∈ (circ n).take m, ¬ dvG q z
  nz : 1 ≤ nG z
  ok : gok z.1 z.2 = true
theorem Tr.start {z : Int × Int} (k : gok z.1 z.2 = true) (hz : 1 ≤ nG z) : Tr z z [] 2 0 :=
  ⟨Run.start z, fun d h1 h2 => by omega, fun q h => absurd h (List.not_mem_nil), fun q h => absurd h (by rw [List.take_zero]; exact List.not_mem_nil), hz, k⟩
theorem fq_first {z : Int × Int} (k : gok z.1 z.2 = true) (hz : 1 ≤ nG z) : fqP (fiA z.1 z.2) (fiB z.1 z.2) ∧ nG (fiA z.1 z.2, fiB z.1 z.2) = nG z ∧ dvG (fiA z.1 z.2, fiB z.1 z.2) z := by
  have hz0 : ¬ (z.1 = 0 ∧ z.2 = 0) := fun ⟨h1, h2⟩ => by unfold nG at hz; rw [h1, h2] at hz; omega
  obtain ⟨h1, -, h3, -⟩ := fi_Dv k
  have h4 := fi_nrm k
  rw [nrm_t k, nrm_t h3] at h4
  exact ⟨fi_fq k hz0, h4, dvG_Dv.2 h1⟩
theorem nG_gok {z : Int × Int} (k : gok z.1 z.2 = true) : nG z ≤ 2000000 := by
  have := (nrm_nn k).2
  rw [nrm_t k] at this
  exact this
theorem gok_small {z : Int × Int} (h : nG z ≤ 1000000) : gok z.1 z.2 = true := gok_of_sq h
/-- A number of this norm tried. -/
theorem Tr.next {z0 z y p : Int × Int} {l : List (Int × Int)} {n : Int} {m k : Nat} (h : Tr z0 z l n m) (h2 : 2 ≤ n) (hn : n ≤ 2000) (hp : (circ n)[m]? = some p) (ky : gok y.1 y.2 = true) (hz : z = mu (pw p k) y) (hy : ¬ dvG p y) : Tr z0 y (l ++ List.replicate k p) n (m + 1) := by
  have htk : (circ n).take (m + 1) = (circ n).take m ++ [p] := by rw [List.take_add_one, hp]; rfl
  have hm : p ∈ circ n := List.mem_of_getElem? hp
  obtain ⟨hq, hnp⟩ := (mem_circ hn p.1 p.2).1 hm
  have hny : 1 ≤ nG y := by
    have e := nG_mu (pw p k) y
    rw [← hz] at e
    have := nG_nn y
    have hne : nG y ≠ 0 := fun h0 => by rw [h0, Int.mul_zero] at e; have := h.nz; omega
    omega
  have hsub : ∀ d, dvG d y → dvG d z := fun d hd => hz ▸ dvG_pw hd
  have hpr : k ≠ 0 → PrQ p := fun hk => by
    obtain ⟨j, rfl⟩ := Nat.exists_eq_succ_of_ne_zero hk
    refine irr_prime (z := z) (gok_small (by unfold nG; omega)) hq (by unfold nG; omega) ?_ (fun d h1 h3 => h.low d h1 (by unfold nG at *; omega))
    exact ⟨mu (pw p j) y, by rw [hz, pw, mu_assoc]⟩
  have hsrt := cir_sorted (n := n) 44 1
  refine ⟨h.run.more hpr hz (fun q hq' => ?_), fun d h1 h3 hd => h.low d h1 h3 (hsub d hd), fun q hq' => ?_, fun q hq' hd => ?_, hny, ky⟩
  · rcases h.lt q hq' with h' | h'
    · exact leD_of (.inl (by unfold nG at h'; omega))
    · refine leD_of ?_
      have hs2 : ((circ n).take (m + 1)).Pairwise ltD := (show (circ n).Pairwise ltD from hsrt).sublist (List.take_sublist _ _)
      rw [htk] at hs2
      exact (List.pairwise_append.1 hs2).2.2 q h' p (List.mem_singleton_self _)
  · rw [htk]
    rcases List.mem_append.1 hq' with h' | h'
    · rcases h.lt q h' with h'' | h''
      · exact .inl h''
      · exact .inr (List.mem_append_left _ h'')
    · obtain ⟨-, rfl⟩ := List.mem_replicate.1 h'
      exact .inr (List.mem_append_right _ (List.mem_singleton_self _))
  · rw [htk] at hq'
    rcases List.mem_append.1 hq' with h' | h'
    · exact h.off q h' (hsub q hd)
    · rw [List.mem_singleton.1 h'] at hd; exact hy hd
/-- All numbers of this norm tried: on to the next one. -/
theorem Tr.up {z0 z : Int × Int} {l : List (Int × Int)} {n : Int} {m : Nat} (h : Tr z0 z l n m) (h2 : 2 ≤ n) (hn : n ≤ 2000) (hm : (circ n).length ≤ m) : Tr z0 z l (n + 1) 0 := by
  have e : (circ n).take m = circ n := List.take_of_length_le hm
  have hlt := h.lt
  have hoff := h.off
  rw [e] at hlt hoff
  refine ⟨h.run, fun d h1 h3 hd => ?_, fun q hq => .inl ?_, fun q h => absurd h (by rw [List.take_zero]; exact List.not_mem_nil), h.nz, h.ok⟩
  · rcases Int.lt_or_le (nG d) n with h' | h'
    · exact h.low d h1 h' hd
    · have kd := gok_small (z := d) (by omega)
      obtain ⟨f1, f2, f3⟩ := fq_first kd (by omega)
      refine hoff (fiA d.1 d.2, fiB d.1 d.2) ((mem_circ hn _ _).2 ⟨f1, ?_⟩) (f3.trans hd)
      unfold nG at f2
      dsimp only at f2
      rw [f2]
      unfold nG at h3 h'
      omega
  · rcases hlt q hq with h' | h'
    · omega
    · have := ((mem_circ hn q.1 q.2).1 h').2
      unfold nG
      omega
/-- No number of this norm divides, since it does not divide the norm. -/
theorem Tr.skip {z0 z : Int × Int} {l : List (Int × Int)} {n : Int} (h : Tr z0 z l n 0) (_h2 : 2 ≤ n) (hm : nG z % n ≠ 0) : Tr z0 z l (n + 1) 0 := by
  refine ⟨h.run, fun d h1 h3 hd => ?_, fun q hq => .inl ?_, fun q h => absurd h (by rw [List.take_zero]; exact List.not_mem_nil), h.nz, h.ok⟩
  · rcases Int.lt_or_le (nG d) n with h' | h'
    · exact h.low d h1 h' hd
    · obtain ⟨y, -, e, -⟩ := hd.parts h.nz
      rw [show nG d = n by omega] at e
      exact hm (by rw [e]; exact Int.mul_emod_right _ _)
  · rcases h.lt q hq with h' | h'
    · omega
    · rw [List.take_zero] at h'; exact absurd h' List.not_mem_nil
/-- The end: a unit is left, or a prime. -/
theorem Tr.unit {z0 z : Int × Int} {l : List (Int × Int)} {n : Int} (h : Tr z0 z l n 0) (h1 : nG z = 1) : Facs z0 (fiT z.1 z.2) l := h.run.done h1
theorem Tr.prime {z0 : Int × Int} {a b : Int} {l : List (Int × Int)} {n : Int} (h : Tr z0 (a, b) l n 0) (h0 : 0 ≤ n) (hn : nG (a, b) < n * n) (h1 : nG (a, b) ≠ 1) : Facs z0 (fiT a b) (l ++ [(fiA a b, fiB a b)]) := by
  have hnz := h.nz
  obtain ⟨hp, hge⟩ := last_prime (a := a) (b := b) h.ok (by omega) h0 hn h.low
  obtain ⟨t0, t3, e⟩ := fi_parts (a := a) (b := b) h.ok
  refine ⟨t0, t3, fun q hq => ?_, List.pairwise_append.2 ⟨h.run.sorted, List.pairwise_singleton _ _, fun q hq r hr => ?_⟩, ?_⟩
  · rcases List.mem_append.1 hq with h' | h'
    · exact h.run.pr q h'
    · rw [List.mem_singleton.1 h']; exact hp
  · rw [List.mem_singleton.1 hr]
    rcases h.lt q hq with h' | h'
    · refine leD_of (.inl ?_)
      unfold nG at h' hge
      dsimp only at h' hge ⊢
      omega
    · rw [List.take_zero] at h'; exact absurd h' List.not_mem_nil
  · rw [prodG_append, prodG, prodG, ← h.run.prod, mu_comm _ (1, 0), mu_one, ← e]
    rw [mu_comm (prodG l), ← mu_assoc]

/-- The order of factors as a test: not behind. -/
def leB6 (p q : Int × Int) : Bool := decide (nG p < nG q ∨ nG p = nG q ∧ p.1 ≤ q.1)
theorem leB6_iff {p q : Int × Int} : leB6 p q = true ↔ leD p q := by
  unfold leB6 leD ltD nG
  rw [decide_eq_true_eq]
  omega
/-- Two lists put together. -/
def mg : Nat → List (Int × Int) → List (Int × Int) → List (Int × Int)
  | 0, l, k => l ++ k
  | n + 1, p :: l, q :: k => if leB6 p q then p :: mg n l (q :: k) else q :: mg n (p :: l) k
  | _ + 1, l, k => l ++ k
theorem mg_mem : ∀ (n : Nat) (l k : List (Int × Int)), (mg n l k).Perm (l ++ k) := by
  intro n
  induction n with
  | zero => intro l k; exact List.Perm.refl _
  | succ n ih =>
    intro l k
    cases l with
    | nil => exact List.Perm.refl _
    | cons p l =>
      cases k with
      | nil => exact List.Perm.refl _
      | cons q k =>
        rw [mg]
        split
        · exact (ih l (q :: k)).cons p
        · exact ((ih (p :: l) k).cons q).trans List.perm_middle.symm
theorem mg_sorted : ∀ (n : Nat) (l k : List (Int × Int)), l.length + k.length ≤ n → l.Pairwise leD → k.Pairwise leD → (mg n l k).Pairwise leD := by
  intro n
  induction n with
  | zero =>
    intro l k h _ _
    have h1 : l = [] := List.length_eq_zero_iff.1 (by omega)
    have h2 : k = [] := List.length_eq_zero_iff.1 (by omega)
    subst h1 h2
    exact List.Pairwise.nil
  | succ n ih =>
    intro l k h hl hk
    cases l with
    | nil => exact hk
    | cons p l =>
      cases k with
      | nil =>
        show List.Pairwise leD ((p :: l) ++ [])
        rw [List.append_nil]; exact hl
      | cons q k =>
        obtain ⟨hl1, hl2⟩ := List.pairwise_cons.1 hl
        obtain ⟨hk1, hk2⟩ := List.pairwise_cons.1 hk
        simp only [List.length_cons] at h
        rw [mg]
        split
        · rename_i hb
          have hpq := leB6_iff.1 hb
          refine List.pairwise_cons.2 ⟨fun r hr => ?_, ih l (q :: k) (by simp only [List.length_cons]; omega) hl2 hk⟩
          rcases List.mem_append.1 ((mg_mem n l (q :: k)).mem_iff.1 hr) with h' | h'
          · exact hl1 r h'
          · rcases List.mem_cons.1 h' with rfl | h''
            · exact hpq
            · exact leD_trans hpq (hk1 r h'')
        · rename_i hb
          have hqp : leD q p := by
            have hb' : ¬ leD p q := fun h => hb (leB6_iff.2 h)
            unfold leD ltD at *
            omega
          refine List.pairwise_cons.2 ⟨fun r hr => ?_, ih (p :: l) k (by simp only [List.length_cons]; omega) hl hk2⟩
          rcases List.mem_append.1 ((mg_mem n (p :: l) k).mem_iff.1 hr) with h' | h'
          · rcases List.mem_cons.1 h' with rfl | h''
            · exact hqp
            · exact leD_trans hqp (hl1 r h'')
          · exact hk1 r h'
theorem uG_add {t s : Int} (h0 : 0 ≤ t) (h3 : t ≤ 3) (g0 : 0 ≤ s) (g3 : s ≤ 3) : uG ((t + s) % 4) = mu (uG t) (uG s) := by
  have ht : t = 0 ∨ t = 1 ∨ t = 2 ∨ t = 3 := by omega
  have hs : s = 0 ∨ s = 1 ∨ s = 2 ∨ s = 3 := by omega
  rcases ht with rfl | rfl | rfl | rfl <;> rcases hs with rfl | rfl | rfl | rfl <;> decide
/-- The primes of a product, put together. -/
theorem Facs.merge {z w : Int × Int} {t s : Int} {l k : List (Int × Int)} (h : Facs z t l) (h' : Facs w s k) : Facs (mu z w) ((t + s) % 4) (mg (l.length + k.length) l k) := by
  have hp := mg_mem (l.length + k.length) l k
  refine ⟨Int.emod_nonneg _ (by decide), by have := Int.emod_lt_of_pos (t + s) (show (0 : Int) < 4 by decide); omega, fun q hq => ?_, mg_sorted _ l k (Nat.le_refl _) h.sorted h'.sorted, ?_⟩
  · rcases List.mem_append.1 (hp.mem_iff.1 hq) with h1 | h1
    · exact h.pr q h1
    · exact h'.pr q h1
  · rw [prodG_perm hp, prodG_append, uG_add h.t0 h.t3 h'.t0 h'.t3, ← h.prod, ← h'.prod]
    rw [mu_assoc, ← mu_assoc (uG s), mu_comm (uG s), mu_assoc (prodG l), mu_assoc]
end Go.Proofs.Ytggebkgfldmipaa
