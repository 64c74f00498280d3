import Derived.Test.YtpjememmogaeiaaMb
namespace Go.Proofs.Ytpjememmogaeiaa
open Go Go.RowKit

/-- The order of divisors and of primes: by norms, and of equal ones by first parts. -/
def ltD (p q : Int × Int) : Prop := p.1 * p.1 + p.2 * p.2 < q.1 * q.1 + q.2 * q.2 ∨ (p.1 * p.1 + p.2 * p.2 = q.1 * q.1 + q.2 * q.2 ∧ p.1 < q.1)
theorem ltD_irr (p : Int × Int) : ¬ ltD p p := by unfold ltD; omega
theorem ltD_asymm {p q : Int × Int} (h : ltD p q) (h' : ltD q p) : False := by unfold ltD at h h'; omega
theorem ltD_trans {p q r : Int × Int} (h : ltD p q) (h' : ltD q r) : ltD p r := by unfold ltD at *; omega
/-- Two lists in order with the same members are one. -/
theorem sorted_one : ∀ {l l' : List (Int × Int)}, l.Pairwise ltD → l'.Pairwise ltD → (∀ x, x ∈ l ↔ x ∈ l') → l = l' := by
  intro l
  induction l with
  | nil =>
    intro l' _ _ h
    cases l' with
    | nil => rfl
    | cons y t => exact absurd ((h y).2 (List.mem_cons_self ..)) (List.not_mem_nil)
  | cons x t ih =>
    intro l' hl hl' h
    cases l' with
    | nil => exact absurd ((h x).1 (List.mem_cons_self ..)) (List.not_mem_nil)
    | cons y t' =>
      obtain ⟨hx, ht⟩ := List.pairwise_cons.1 hl
      obtain ⟨hy, ht'⟩ := List.pairwise_cons.1 hl'
      have exy : x = y := by
        rcases List.mem_cons.1 ((h x).1 (List.mem_cons_self ..)) with e | hm
        · exact e
        · rcases List.mem_cons.1 ((h y).2 (List.mem_cons_self ..)) with e | hm'
          · exact e.symm
          · exact absurd (ltD_asymm (hx y hm') (hy x hm)) id
      subst exy
      congr 1
      refine ih ht ht' fun z => ⟨fun hz => ?_, fun hz => ?_⟩
      · rcases List.mem_cons.1 ((h z).1 (List.mem_cons_of_mem _ hz)) with e | hm
        · exact absurd (hx z hz) (by rw [e]; exact ltD_irr _)
        · exact hm
      · rcases List.mem_cons.1 ((h z).2 (List.mem_cons_of_mem _ hz)) with e | hm
        · exact absurd (hy z hz) (by rw [e]; exact ltD_irr _)
        · exact hm
/-- The first quarter. -/
def fqP (u v : Int) : Prop := 0 < u ∧ 0 ≤ v
theorem fq_fi {u v : Int} (h : fqP u v) (k : gok u v = true) : fiA u v = u ∧ fiB u v = v := by
  obtain ⟨e1, e2, -⟩ := fi_0 k (by unfold fqP at h; simp [fiP]; omega)
  exact ⟨e1, e2⟩
theorem fi_fq {u v : Int} (k : gok u v = true) (hz : ¬ (u = 0 ∧ v = 0)) : fqP (fiA u v) (fiB u v) := by
  obtain ⟨-, -, g, -⟩ := fi_Dv k
  obtain ⟨p, q, t, g', hA, hB, -, -, -, hp, -⟩ := fi_sum k
  have hn := fi_nz k hz
  rw [hA, hB] at hn ⊢
  rcases hp with h | h
  · exact h
  · exact absurd h hn
/-- What a search in order has found so far: all that are right of norms below n, and of the norm n up to a, b. -/
structure Found (ok : Int → Int → Bool) (n a b : Int) (xs : List (Int × Int)) : Prop where
  sorted : xs.Pairwise ltD
  mem : ∀ u v, (u, v) ∈ xs ↔ fqP u v ∧ ok u v = true ∧ (u * u + v * v < n ∨ (u * u + v * v = n ∧ (u < a ∨ (u = a ∧ v < b))))
theorem Found.start (ok : Int → Int → Bool) {n : Int} (hn : n ≤ 1) : Found ok n 1 0 [] := by
  refine ⟨List.Pairwise.nil, fun u v => ?_⟩
  simp only [List.not_mem_nil, false_iff, not_and]
  rintro ⟨hu, hv⟩ - h
  have := Int.mul_le_mul (a := 1) (b := 1) (c := u) (d := u) hu hu (by omega) (by omega)
  have := sq_nn v
  omega
theorem sq_lt {a b : Int} (h0 : 0 ≤ a) (h : a < b) : a * a < b * b := by
  have h1 := Int.mul_le_mul_of_nonneg_left (c := a) (show a ≤ b by omega) h0
  have h2 := Int.mul_lt_mul_of_pos_right h (show 0 < b by omega)
  omega
theorem Found.hit {ok : Int → Int → Bool} {n a b : Int} {xs : List (Int × Int)} (h : Found ok n a b xs) (ha : 1 ≤ a) (hb : 0 ≤ b) (hn : a * a + b * b = n) (ho : ok a b = true) : Found ok n a (b + 1) (xs ++ [(a, b)]) := by
  refine ⟨?_, fun u v => ?_⟩
  · refine List.pairwise_append.2 ⟨h.sorted, List.pairwise_singleton _ _, ?_⟩
    rintro ⟨u, v⟩ hx y hy
    obtain rfl := List.mem_singleton.1 hy
    obtain ⟨⟨hu, hv⟩, -, hl | ⟨he, hl | ⟨rfl, hl⟩⟩⟩ := (h.mem u v).1 hx
    · exact .inl (by show u * u + v * v < a * a + b * b; omega)
    · exact .inr ⟨by show u * u + v * v = a * a + b * b; omega, hl⟩
    · have := sq_lt hv hl; omega
  · rw [List.mem_append, List.mem_singleton, h.mem, Prod.mk.injEq]
    constructor
    · rintro (⟨h1, h2, h3⟩ | ⟨rfl, rfl⟩)
      · exact ⟨h1, h2, by omega⟩
      · exact ⟨⟨by omega, hb⟩, ho, by omega⟩
    · rintro ⟨h1, h2, h3⟩
      by_cases e : u = a ∧ v = b
      · exact .inr e
      · exact .inl ⟨h1, h2, by omega⟩
theorem Found.miss {ok : Int → Int → Bool} {n a b : Int} {xs : List (Int × Int)} (h : Found ok n a b xs) (hn : ¬ (a * a + b * b = n ∧ ok a b = true)) : Found ok n a (b + 1) xs := by
  refine ⟨h.sorted, fun u v => ?_⟩
  rw [h.mem]
  constructor
  · rintro ⟨h1, h2, h3⟩; exact ⟨h1, h2, by omega⟩
  · rintro ⟨h1, h2, h3⟩
    refine ⟨h1, h2, ?_⟩
    by_cases e : u = a ∧ v = b
    · obtain ⟨rfl, rfl⟩ := e
      by_cases e2 : u * u + v * v = n
      · exact absurd ⟨e2, h2⟩ hn
      · omega
    · omega
theorem Found.nextA {ok : Int → Int → Bool} {n a b : Int} {xs : List (Int × Int)} (h : Found ok n a b xs) (hb : 0 ≤ b) (hn : n < a * a + b * b) : Found ok n (a + 1) 0 xs := by
  refine ⟨h.sorted, fun u v => ?_⟩
  rw [h.mem]
  constructor
  · rintro ⟨h1, h2, h3⟩; exact ⟨h1, h2, by omega⟩
  · rintro ⟨h1, h2, h3⟩
    refine ⟨h1, h2, ?_⟩
    rcases Int.lt_or_le v b with hv | hv
    · have := h1.2; omega
    · by_cases e : u = a
      · subst e
        have := Int.mul_le_mul hv hv hb (by omega)
        omega
      · have := h1.2; omega
theorem Found.nextN {ok : Int → Int → Bool} {n a : Int} {xs : List (Int × Int)} (h : Found ok n a 0 xs) (ha : 0 ≤ a) (hn : n < a * a) : Found ok (n + 1) 1 0 xs := by
  refine ⟨h.sorted, fun u v => ?_⟩
  rw [h.mem]
  constructor
  · rintro ⟨h1, h2, h3⟩; exact ⟨h1, h2, by omega⟩
  · rintro ⟨⟨hu, hv⟩, h2, h3⟩
    refine ⟨⟨hu, hv⟩, h2, ?_⟩
    rcases h3 with h3 | ⟨h3, h4⟩
    · rcases Int.lt_or_le u a with h5 | h5
      · omega
      · have := Int.mul_le_mul h5 h5 ha (by omega)
        have := sq_nn v
        omega
    · exfalso; omega
theorem Found.skip {ok : Int → Int → Bool} {n : Int} {xs : List (Int × Int)} (h : Found ok n 1 0 xs) (hs : ∀ u v, fqP u v → ok u v = true → u * u + v * v ≠ n) : Found ok (n + 1) 1 0 xs := by
  refine ⟨h.sorted, fun u v => ?_⟩
  rw [h.mem]
  constructor
  · rintro ⟨⟨hu, hv⟩, h2, h3⟩; exact ⟨⟨hu, hv⟩, h2, by omega⟩
  · rintro ⟨⟨hu, hv⟩, h2, h3⟩
    have := hs u v ⟨hu, hv⟩ h2
    exact ⟨⟨hu, hv⟩, h2, by omega⟩
/-- All that are right with a norm of at most N, in order. -/
structure AllUp (ok : Int → Int → Bool) (N : Int) (l : List (Int × Int)) : Prop where
  sorted : l.Pairwise ltD
  mem : ∀ u v, (u, v) ∈ l ↔ fqP u v ∧ ok u v = true ∧ u * u + v * v ≤ N
theorem Found.all {ok : Int → Int → Bool} {N : Int} {xs : List (Int × Int)} (h : Found ok (N + 1) 1 0 xs) : AllUp ok N xs := by
  refine ⟨h.sorted, fun u v => ?_⟩
  rw [h.mem]
  constructor
  · rintro ⟨⟨hu, hv⟩, h2, h3⟩; exact ⟨⟨hu, hv⟩, h2, by omega⟩
  · rintro ⟨h1, h2, h3⟩; exact ⟨h1, h2, by omega⟩
theorem AllUp.one {ok : Int → Int → Bool} {N : Int} {l l' : List (Int × Int)} (h : AllUp ok N l) (h' : AllUp ok N l') : l = l' :=
  sorted_one h.sorted h'.sorted fun ⟨u, v⟩ => by rw [h.mem, h'.mem]
/-- The divisors of a number, in order. -/
abbrev Dvs (a b : Int) (l : List (Int × Int)) : Prop := AllUp (fun u v => vdO u v a b) (a * a + b * b) l
theorem vd_nrm {u v a b : Int} (h : vdO u v a b = true) (hz : ¬ (a = 0 ∧ b = 0)) : gok u v = true ∧ gok a b = true ∧ 1 ≤ u * u + v * v ∧ u * u + v * v ≤ a * a + b * b ∧ (a * a + b * b) % (u * u + v * v) = 0 := by
  obtain ⟨hd, x, y, hx, hy⟩ := vd_Dv.1 h
  obtain ⟨k1, k2, hp⟩ := dv_is hd
  have e := norm_mul x y u v
  rw [← hx, ← hy] at e
  have hN := nz_pos hz
  have hxy : 1 ≤ x * x + y * y := by
    have m1 := sq_nn x
    have m2 := sq_nn y
    rcases Int.lt_or_le (x * x + y * y) 1 with h | h
    · have e0 : x * x + y * y = 0 := by omega
      rw [e0, Int.zero_mul] at e; omega
    · exact h
  have := Int.mul_le_mul_of_nonneg_right (c := u * u + v * v) hxy (by omega)
  exact ⟨k2, k1, by omega, by omega, by rw [e]; exact Int.mul_emod_left _ _⟩
theorem Dvs.mem_iff {a b : Int} {l : List (Int × Int)} (h : Dvs a b l) (hz : ¬ (a = 0 ∧ b = 0)) (u v : Int) : (u, v) ∈ l ↔ fqP u v ∧ vdO u v a b = true := by
  rw [h.mem]
  exact ⟨fun ⟨h1, h2, _⟩ => ⟨h1, h2⟩, fun ⟨h1, h2⟩ => ⟨h1, h2, (vd_nrm h2 hz).2.2.2.1⟩⟩
theorem one_vd {a b : Int} (k : gok a b = true) : vdO 1 0 a b = true := vd_Dv.2 ⟨dv_mk k (by decide) (by omega), a, b, by simp, by simp⟩
/-- The first divisor is 1. -/
theorem Dvs.head {a b : Int} {l : List (Int × Int)} (h : Dvs a b l) (k : gok a b = true) (hz : ¬ (a = 0 ∧ b = 0)) : ∃ t, l = (1, 0) :: t := by
  have h1 : ((1 : Int), (0 : Int)) ∈ l := (h.mem_iff hz 1 0).2 ⟨⟨by omega, by omega⟩, one_vd k⟩
  cases l with
  | nil => exact absurd h1 (List.not_mem_nil)
  | cons x t =>
    obtain ⟨u, v⟩ := x
    obtain ⟨hs, -⟩ := List.pairwise_cons.1 h.sorted
    rcases List.mem_cons.1 h1 with e | hm
    · exact ⟨t, by rw [← e]⟩
    · exfalso
      obtain ⟨⟨hu, hv⟩, -⟩ := (h.mem_iff hz u v).1 (List.mem_cons_self ..)
      have := hs _ hm
      have m1 := Int.mul_le_mul (a := 1) (b := 1) (c := u) (d := u) hu hu (by omega) (by omega)
      have m2 := sq_nn v
      unfold ltD at this
      simp at this
      omega
/-- What is left by a divisor has its associate among them. -/
theorem Dvs.pair {a b u v p q : Int} {l : List (Int × Int)} (h : Dvs a b l) (k : gok a b = true) (hz : ¬ (a = 0 ∧ b = 0)) (hm : (u, v) ∈ l) (kq : gok p q = true) (e1 : a = p * u - q * v) (e2 : b = p * v + q * u) : (fiA p q, fiB p q) ∈ l := by
  obtain ⟨-, hv⟩ := (h.mem_iff hz u v).1 hm
  have hnz : ¬ (p = 0 ∧ q = 0) := by rintro ⟨rfl, rfl⟩; exact hz ⟨by rw [e1]; simp, by rw [e2]; simp⟩
  have hd : Dv p q a b := ⟨u, v, by rw [e1]; grind, by rw [e2]; grind⟩
  obtain ⟨f1, -, g, -⟩ := fi_Dv kq
  exact (h.mem_iff hz _ _).2 ⟨fi_fq kq hnz, vd_Dv.2 ⟨dv_mk k g (fi_nz kq hnz), f1.trans hd⟩⟩
theorem len2 {l : List (Int × Int)} {p q : Int × Int} (hs : l.Pairwise ltD) (hpq : p ≠ q) (hp : p ∈ l) (hq : q ∈ l) : 2 ≤ l.length ∧ (l.length = 2 → ∀ r ∈ l, r = p ∨ r = q) ∧ ((∀ r ∈ l, r = p ∨ r = q) → l.length = 2) := by
  match l, hs, hp, hq with
  | [], _, hp, _ => exact absurd hp (List.not_mem_nil)
  | [x], _, hp, hq => exact absurd ((List.mem_singleton.1 hp).trans (List.mem_singleton.1 hq).symm) hpq
  | [x, y], _, hp, hq =>
    refine ⟨Nat.le_refl _, fun _ r hr => ?_, fun _ => rfl⟩
    simp only [List.mem_cons, List.not_mem_nil, or_false] at hp hq hr
    rcases hp with rfl | rfl <;> rcases hq with rfl | rfl <;> rcases hr with rfl | rfl <;> simp_all
  | x :: y :: z :: t, hs, hp, hq =>
    refine ⟨by simp, fun h => by simp at h, fun h => ?_⟩
    exfalso
    obtain ⟨hx, hs2⟩ := List.pairwise_cons.1 hs
    obtain ⟨hy, hs3⟩ := List.pairwise_cons.1 hs2
    have xy : x ≠ y := by rintro rfl; exact ltD_irr _ (hx _ (by simp))
    have xz : x ≠ z := by rintro rfl; exact ltD_irr _ (hx _ (by simp))
    have yz : y ≠ z := by rintro rfl; exact ltD_irr _ (hy _ (by simp))
    have h1 := h x (by simp)
    have h2 := h y (by simp)
    have h3 := h z (by simp)
    rcases h1 with rfl | rfl <;> rcases h2 with rfl | rfl <;> rcases h3 with rfl | rfl <;> simp_all
/-- A number has just two divisors exactly if it is prime. -/
theorem Dvs.two {a b : Int} {l : List (Int × Int)} (h : Dvs a b l) (k : gok a b = true) (hz : ¬ (a = 0 ∧ b = 0)) (hN : a * a + b * b ≤ 2000) : l.length = 2 ↔ prO a b = true := by
  have hpos := nz_pos hz
  have m1 : ((1 : Int), (0 : Int)) ∈ l := (h.mem_iff hz 1 0).2 ⟨⟨by omega, by omega⟩, one_vd k⟩
  obtain ⟨f1, f2, g, -⟩ := fi_Dv k
  have fn := fi_nz k hz
  have m2 : (fiA a b, fiB a b) ∈ l := (h.mem_iff hz _ _).2 ⟨fi_fq k hz, vd_Dv.2 ⟨dv_mk k g fn, f1⟩⟩
  have eN : fiA a b * fiA a b + fiB a b * fiB a b = a * a + b * b := by
    have := fi_nrm k
    rwa [nrm_t g, nrm_t k] at this
  rcases Int.lt_or_le (a * a + b * b) 2 with hu | h2
  · -- a unit: 1 alone
    have e1 : a * a + b * b = 1 := by omega
    constructor
    · intro hl
      exfalso
      obtain ⟨t, rfl⟩ := h.head k hz
      cases t with
      | nil => simp at hl
      | cons y t' =>
        obtain ⟨u, v⟩ := y
        obtain ⟨hs, -⟩ := List.pairwise_cons.1 h.sorted
        have hlt := hs _ (List.mem_cons_self ..)
        obtain ⟨⟨hu', hv'⟩, hv⟩ := (h.mem_iff hz u v).1 (List.mem_cons_of_mem _ (List.mem_cons_self ..))
        have hn := (vd_nrm hv hz).2.2.2.1
        unfold ltD at hlt
        simp at hlt
        have : u * u + v * v = 1 := by omega
        have : u ≤ 1 := by
          rcases Int.lt_or_le 1 u with h | h
          · have := Int.mul_le_mul (a := 2) (b := 2) (c := u) (d := u) h h (by omega) (by omega)
            have := sq_nn v
            omega
          · exact h
        omega
    · intro hp
      have := pr_pos (prO_prI hp)
      omega
  · have hne : ((1 : Int), (0 : Int)) ≠ (fiA a b, fiB a b) := by
      intro e
      rw [Prod.mk.injEq] at e
      rw [← e.1, ← e.2] at eN
      omega
    obtain ⟨-, l2, l3⟩ := len2 h.sorted hne m1 m2
    constructor
    · intro hl
      cases hp : prO a b
      · exfalso
        obtain ⟨u, v, ku, hd, n1, n2⟩ := pr_proper k h2 hN hp
        have hnz : ¬ (u = 0 ∧ v = 0) := by rintro ⟨rfl, rfl⟩; omega
        obtain ⟨d1, -, g', -⟩ := fi_Dv ku
        have m3 : (fiA u v, fiB u v) ∈ l := (h.mem_iff hz _ _).2 ⟨fi_fq ku hnz, vd_Dv.2 ⟨dv_mk k g' (fi_nz ku hnz), d1.trans hd⟩⟩
        have eu : fiA u v * fiA u v + fiB u v * fiB u v = u * u + v * v := by
          have := fi_nrm ku
          rwa [nrm_t g', nrm_t ku] at this
        rcases l2 hl _ m3 with e | e <;> rw [Prod.mk.injEq] at e
        · rw [e.1, e.2] at eu; omega
        · rw [e.1, e.2, eN] at eu; omega
      · rfl
    · intro hp
      refine l3 ?_
      rintro ⟨u, v⟩ hr
      obtain ⟨hq, hv⟩ := (h.mem_iff hz u v).1 hr
      obtain ⟨hdv, hd⟩ := vd_Dv.1 hv
      obtain ⟨-, ku, -⟩ := dv_is hdv
      obtain ⟨e1, e2⟩ := fq_fi hq ku
      rcases pr_div (prO_prI hp) hd with hn | hn
      · left
        obtain ⟨w1, w2⟩ := fi_unit hn
        rw [show u = 1 from e1.symm.trans w1, show v = 0 from e2.symm.trans w2]
      · right
        obtain ⟨x, y, hx, hy⟩ := hd
        have en := norm_mul x y u v
        rw [← hx, ← hy, hn] at en
        have hxy : x * x + y * y = 1 := by
          have : 1 * (a * a + b * b) = (x * x + y * y) * (a * a + b * b) := by omega
          exact (Int.eq_of_mul_eq_mul_right (by omega) this).symm
        have hback : Dv a b u v := by
          refine ⟨x, -y, ?_, ?_⟩
          · have : u = (x * x + y * y) * u := by rw [hxy]; omega
            rw (occs := .pos [1]) [this]
            rw [hx, hy]; grind
          · have : v = (x * x + y * y) * v := by rw [hxy]; omega
            rw (occs := .pos [1]) [this]
            rw [hx, hy]; grind
        have := fi_both ku k hback ⟨x, y, hx, hy⟩
        rw [e1, e2] at this
        rw [this.1, this.2]
end Go.Proofs.Ytpjememmogaeiaa
