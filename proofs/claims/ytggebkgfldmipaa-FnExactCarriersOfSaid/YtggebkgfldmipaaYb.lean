import Derived.Test.YtggebkgfldmipaaMa
namespace Go.Proofs.Ytggebkgfldmipaa
open Go Go.RowKit

/-- The primes from p on, among k numbers: what the sieve hands over. -/
def prsFrom : Nat → Int → List (Array Value)
  | 0, _ => []
  | k + 1, p => if wpB p then #[.int .i64 p] :: prsFrom k (p + 1) else prsFrom k (p + 1)
theorem prsFrom_one (k : Nat) : ∀ p : Int, ∀ x ∈ prsFrom k p, x.size = 1 := by
  induction k with
  | zero => intro p x hx; simp [prsFrom] at hx
  | succ k ih =>
    intro p x hx
    rw [prsFrom] at hx
    cases hw : wpB p
    · rw [hw] at hx; exact ih _ _ hx
    · rw [hw, if_pos rfl] at hx
      rcases List.mem_cons.1 hx with rfl | h
      · rfl
      · exact ih _ _ h
theorem prs_hit {k : Nat} {p : Int} (h : wpB p = true) : prsFrom (k + 1) p = #[.int .i64 p] :: prsFrom k (p + 1) := by rw [prsFrom, h, if_pos rfl]
theorem prs_miss {k : Nat} {p : Int} (h : wpB p = false) : prsFrom (k + 1) p = prsFrom k (p + 1) := by rw [prsFrom, h, if_neg (by simp)]
/-- The next prime that is handed over. -/
theorem prs_head : ∀ (k : Nat) (p : Int) {row : Array Value} {t : List (Array Value)}, prsFrom k p = row :: t →
    ∃ (q : Int) (j : Nat), row = #[.int .i64 q] ∧ wp q ∧ p ≤ q ∧ q + 1 + j = p + k ∧ (∀ r, p ≤ r → r < q → ¬ wp r) ∧ t = prsFrom j (q + 1) := by
  intro k
  induction k with
  | zero => intro p row t h; simp [prsFrom] at h
  | succ k ih =>
    intro p row t h
    cases hw : wpB p
    · rw [prs_miss hw] at h
      obtain ⟨q, j, h1, h2, h3, h4, h5, h6⟩ := ih (p + 1) h
      refine ⟨q, j, h1, h2, by omega, by omega, fun r hr hlt => ?_, h6⟩
      by_cases e : r = p
      · subst e; intro hr'; rw [wpB_iff.2 hr'] at hw; cases hw
      · exact h5 r (by omega) hlt
    · rw [prs_hit hw] at h
      injection h with h1 h2
      exact ⟨p, k, h1.symm, wpB_iff.1 hw, Int.le_refl _, by omega, fun r hr hlt => by omega, h2.symm⟩
theorem prs_nil : ∀ (k : Nat) (p : Int), prsFrom k p = [] → ∀ r, p ≤ r → r < p + k → ¬ wp r := by
  intro k
  induction k with
  | zero => intro p _ r h1 h2; omega
  | succ k ih =>
    intro p h r h1 h2 hr
    cases hw : wpB p
    · rw [prs_miss hw] at h
      by_cases e : r = p
      · subst e; rw [wpB_iff.2 hr] at hw; cases hw
      · exact ih (p + 1) h r (by omega) (by omega) hr
    · rw [prs_hit hw] at h; cases h
theorem drop_cons {xs ys : List (Array Value)} {i : Nat} {x : Array Value} (h : xs.drop i = x :: ys) : xs[i]? = some x ∧ xs.drop (i + 1) = ys := by
  constructor
  · have := congrArg (fun l => l[0]?) h
    simpa using this
  · rw [← List.drop_drop, h]; rfl
theorem cons_drop {xs : List (Array Value)} {i : Nat} {row : Array Value} (hr : xs[i]? = some row) : xs.drop i = row :: xs.drop (i + 1) := by
  obtain ⟨hl, he⟩ := List.getElem?_eq_some_iff.1 hr
  rw [List.drop_eq_getElem_cons hl, he]
theorem drop_end {xs : List (Array Value)} {i : Nat} (hi : i ≤ xs.length) (h : xs.drop i = []) : i = xs.length := by
  have := List.drop_eq_nil_iff.1 h; omega
/-- What wholePrimeOk knows: no prime below p divides n. -/
def NoSmall (n p : Int) : Prop := ∀ q, wp q → q < p → n % q ≠ 0
theorem NoSmall.start (n : Int) : NoSmall n 2 := fun q hq h => by have := hq.1; omega
theorem NoSmall.next {n p q : Int} (h : NoSmall n p) (hq : ∀ r, p ≤ r → r < q → ¬ wp r) (hn : n % q ≠ 0) : NoSmall n (q + 1) := fun r hr hlt => by
  by_cases e : r = q
  · subst e; exact hn
  · rcases Int.lt_or_le r p with h' | h'
    · exact h r hr h'
    · exact absurd hr (hq r h' (by omega))
theorem NoSmall.wp {n p q : Int} (h : NoSmall n p) (h2 : 2 ≤ n) (hq : ∀ r, p ≤ r → r < q → ¬ wp r) (hn : n < q * q) (hq0 : 0 ≤ q) : wpB n = true := by
  rw [wpB_iff]
  rcases least_pf h2 with h' | ⟨r, hr, hrr, m, hm⟩
  · exact h'
  · exfalso
    have hlt : r < q := by
      rcases Int.lt_or_le r q with h1 | h1
      · exact h1
      · have := Int.mul_le_mul h1 h1 hq0 (by omega)
        omega
    rcases Int.lt_or_le r p with h1 | h1
    · exact h r hr h1 (by rw [hm]; exact Int.mul_emod_right _ _)
    · exact hq r h1 hlt hr
theorem not_wpB {n q : Int} (h2 : 2 ≤ q) (hq : q * q ≤ n) (hn : n % q = 0) : wpB n = false := by
  cases h : wpB n
  · rfl
  · exact absurd hn ((wpB_iff.1 h).2 q h2 hq)
/-- What is crossed out ahead of p. -/
def Crs (p i : Int) : Prop := ∃ q, wp q ∧ q < p ∧ q * q ≤ i ∧ i % q = 0
theorem Crs.self {p : Int} (h2 : 2 ≤ p) : Crs p p ↔ ¬ wp p := by
  constructor
  · rintro ⟨q, hq, hlt, hqq, hm⟩ hp
    exact hp.2 q hq.1 hqq hm
  · intro h
    rcases least_pf h2 with h' | ⟨r, hr, hrr, m, hm⟩
    · exact absurd h' h
    · refine ⟨r, hr, ?_, hrr, by rw [hm]; exact Int.mul_emod_right _ _⟩
      have := Int.mul_le_mul_of_nonneg_right (c := r) hr.1 (by have := hr.1; omega)
      have := hr.1
      omega
theorem Crs.miss {p i : Int} (h : ¬ wp p) : Crs (p + 1) i ↔ Crs p i := by
  constructor
  · rintro ⟨q, hq, hlt, hqq, hm⟩
    refine ⟨q, hq, ?_, hqq, hm⟩
    have : q ≠ p := by rintro rfl; exact h hq
    omega
  · rintro ⟨q, hq, hlt, hqq, hm⟩; exact ⟨q, hq, by omega, hqq, hm⟩
theorem Crs.hit {p i : Int} (h : wp p) : Crs (p + 1) i ↔ Crs p i ∨ (p * p ≤ i ∧ i % p = 0) := by
  constructor
  · rintro ⟨q, hq, hlt, hqq, hm⟩
    by_cases e : q = p
    · subst e; exact .inr ⟨hqq, hm⟩
    · exact .inl ⟨q, hq, by omega, hqq, hm⟩
  · rintro (⟨q, hq, hlt, hqq, hm⟩ | ⟨h1, h2⟩)
    · exact ⟨q, hq, by omega, hqq, hm⟩
    · exact ⟨p, h, by omega, h1, h2⟩
/-- The sieve's cells between two numbers, and while multiples are crossed out. -/
def SvAt (p : Int) (f : Nat → Bool) : Prop := ∀ i, i ≤ 1414 → (f i = true ↔ Crs p i)
def SvIn (p m : Int) (f : Nat → Bool) : Prop := ∀ i, i ≤ 1414 → (f i = true ↔ Crs p i ∨ (p * p ≤ i ∧ (i : Int) < m ∧ (i : Int) % p = 0))
theorem SvAt.start : SvAt 2 (fun _ => false) := fun i _ => by
  simp only [Bool.false_eq_true, false_iff]
  rintro ⟨q, hq, hlt, -⟩
  have := hq.1; omega
theorem SvAt.miss {p : Int} {f : Nat → Bool} (h : SvAt p f) (hp : ¬ wp p) : SvAt (p + 1) f := fun i hi => (h i hi).trans (Crs.miss hp).symm
theorem SvAt.self {p : Nat} {f : Nat → Bool} (h : SvAt p f) (h2 : 2 ≤ p) (hp : p ≤ 1414) : f p = !wpB p := by
  have := (h p hp).trans (Crs.self (p := (p : Int)) (by omega))
  rw [← wpB_iff] at this
  cases hf : f p <;> cases hw : wpB (p : Int) <;> simp_all
theorem SvAt.into {p : Int} {f : Nat → Bool} (h : SvAt p f) : SvIn p (p * p) f := fun i hi => by
  rw [h i hi]
  constructor
  · exact .inl
  · rintro (h | ⟨h1, h2, -⟩)
    · exact h
    · omega
theorem SvIn.out {p m : Int} {f : Nat → Bool} (h : SvIn p m f) (hp : wp p) (hm : 1414 < m) : SvAt (p + 1) f := fun i hi => by
  rw [h i hi, Crs.hit hp]
  constructor
  · rintro (h | ⟨h1, h2, h3⟩)
    · exact .inl h
    · exact .inr ⟨h1, h3⟩
  · rintro (h | ⟨h1, h3⟩)
    · exact .inl h
    · exact .inr ⟨h1, by omega, h3⟩
theorem SvIn.step {p : Int} {m : Nat} {f : Nat → Bool} (h : SvIn p m f) (hp : 2 ≤ p) (hpm : p * p ≤ m) (hm : (m : Int) % p = 0) : SvIn p (m + p) (fun i => if i = m then true else f i) := fun i hi => by
  by_cases e : i = m
  · subst e
    simp only [if_true, true_iff]
    exact .inr ⟨hpm, by omega, hm⟩
  · simp only [if_neg e]
    rw [h i hi]
    constructor
    · rintro (h | ⟨h1, h2, h3⟩)
      · exact .inl h
      · exact .inr ⟨h1, by omega, h3⟩
    · rintro (h | ⟨h1, h2, h3⟩)
      · exact .inl h
      · refine .inr ⟨h1, ?_, h3⟩
        rcases Int.lt_or_le (i : Int) m with h4 | h4
        · exact h4
        · exfalso
          obtain ⟨x, hx⟩ := Int.dvd_of_emod_eq_zero hm
          obtain ⟨y, hy⟩ := Int.dvd_of_emod_eq_zero h3
          have h5 : x < y := by
            rcases Int.lt_or_le x y with h6 | h6
            · exact h6
            · have := Int.mul_le_mul_of_nonneg_left (c := p) h6 (by omega)
              omega
          have := Int.mul_le_mul_of_nonneg_left (c := p) (show x + 1 ≤ y by omega) (by omega)
          rw [Int.mul_add, Int.mul_one, ← hx, ← hy] at this
          omega
end Go.Proofs.Ytggebkgfldmipaa

namespace Go.Proofs.Ytggebkgfldmipaa
open Go Go.RowKit

/-- The second part of the number of the first quarter with this norm and this first part. -/
def cirB (n a : Int) : Option Int := ((List.range 45).find? fun b : Nat => a * a + (b : Int) * b == n).map fun b : Nat => (b : Int)
theorem cirB_is {n a b : Int} (h : cirB n a = some b) : 0 ≤ b ∧ a * a + b * b = n := by
  simp only [cirB, Option.map_eq_some_iff] at h
  obtain ⟨c, hc, rfl⟩ := h
  have := List.find?_some hc
  rw [beq_iff_eq] at this
  exact ⟨by omega, this⟩
theorem sq_le_44 {b : Int} (h : b * b ≤ 2000) : b ≤ 44 := by
  rcases Int.lt_or_le 44 b with h' | h'
  · have := Int.mul_le_mul (a := 45) (b := 45) (c := b) (d := b) h' h' (by omega) (by omega)
    omega
  · exact h'
theorem sq_one {b c : Int} (hb : 0 ≤ b) (hc : 0 ≤ c) (h : b * b = c * c) : b = c := by
  rcases Int.lt_or_le b c with h' | h'
  · have := sq_lt hb h'; omega
  · rcases Int.lt_or_le c b with h'' | h''
    · have := sq_lt hc h''; omega
    · omega
theorem cirB_of {n a b : Int} (hn : n ≤ 2000) (hb : 0 ≤ b) (h : a * a + b * b = n) : cirB n a = some b := by
  have h44 : b ≤ 44 := sq_le_44 (by have := sq_nn a; omega)
  have hex : ((List.range 45).find? fun b : Nat => a * a + (b : Int) * b == n).isSome = true := by
    rw [List.find?_isSome]
    refine ⟨b.toNat, List.mem_range.2 (by omega), ?_⟩
    rw [beq_iff_eq, show ((b.toNat : Nat) : Int) = b by omega]; exact h
  obtain ⟨c, hc⟩ := Option.isSome_iff_exists.1 hex
  have h2 := cirB_is (n := n) (a := a) (b := c) (by simp [cirB, hc])
  have : (c : Int) = b := sq_one h2.1 hb (by omega)
  simp [cirB, hc, this]
theorem cirB_no {n a b : Int} (hb : 0 ≤ b) (h1 : a * a + b * b < n) (h2 : n < a * a + (b + 1) * (b + 1)) : cirB n a = none := by
  cases h : cirB n a with
  | none => rfl
  | some c =>
    exfalso
    obtain ⟨hc, e⟩ := cirB_is h
    rcases Int.lt_or_le b c with h' | h'
    · rcases Int.lt_or_le (b + 1) c with h'' | h''
      · have := sq_lt (show 0 ≤ b + 1 by omega) h''; omega
      · obtain rfl : c = b + 1 := by omega
        omega
    · rcases Int.lt_or_le c b with h'' | h''
      · have := sq_lt hc h''; omega
      · obtain rfl : c = b := by omega
        omega
/-- The numbers of the first quarter with a norm, from a first part on. -/
def cirFrom (n : Int) : Nat → Int → List (Int × Int)
  | 0, _ => []
  | k + 1, a => match cirB n a with
    | some b => (a, b) :: cirFrom n k (a + 1)
    | none => cirFrom n k (a + 1)
theorem cir_hit {n a b : Int} {k : Nat} (h : cirB n a = some b) : cirFrom n (k + 1) a = (a, b) :: cirFrom n k (a + 1) := by rw [cirFrom, h]
theorem cir_miss {n a : Int} {k : Nat} (h : cirB n a = none) : cirFrom n (k + 1) a = cirFrom n k (a + 1) := by rw [cirFrom, h]
theorem cir_mem {n : Int} : ∀ (k : Nat) (a u v : Int), (u, v) ∈ cirFrom n k a ↔ a ≤ u ∧ u < a + k ∧ cirB n u = some v := by
  intro k
  induction k with
  | zero => intro a u v; simp [cirFrom]; omega
  | succ k ih =>
    intro a u v
    cases h : cirB n a with
    | none =>
      rw [cir_miss h, ih]
      constructor
      · rintro ⟨h1, h2, h3⟩; exact ⟨by omega, by omega, h3⟩
      · rintro ⟨h1, h2, h3⟩
        have : u ≠ a := by rintro rfl; rw [h] at h3; cases h3
        exact ⟨by omega, by omega, h3⟩
    | some b =>
      rw [cir_hit h, List.mem_cons, ih, Prod.mk.injEq]
      constructor
      · rintro (⟨rfl, rfl⟩ | ⟨h1, h2, h3⟩)
        · exact ⟨Int.le_refl _, by omega, h⟩
        · exact ⟨by omega, by omega, h3⟩
      · rintro ⟨h1, h2, h3⟩
        by_cases e : u = a
        · subst e; rw [h] at h3; injection h3 with h3; exact .inl ⟨rfl, h3.symm⟩
        · exact .inr ⟨by omega, by omega, h3⟩
theorem cir_sorted {n : Int} : ∀ (k : Nat) (a : Int), (cirFrom n k a).Pairwise ltD := by
  intro k
  induction k with
  | zero => intro a; exact List.Pairwise.nil
  | succ k ih =>
    intro a
    cases h : cirB n a with
    | none => rw [cir_miss h]; exact ih _
    | some b =>
      rw [cir_hit h]
      refine List.pairwise_cons.2 ⟨?_, ih _⟩
      rintro ⟨u, v⟩ hx
      obtain ⟨h1, -, h3⟩ := (cir_mem k (a + 1) u v).1 hx
      have e1 := (cirB_is h).2
      have e2 := (cirB_is h3).2
      exact .inr ⟨by show a * a + b * b = u * u + v * v; omega, by show a < u; omega⟩
theorem cir_end {n a : Int} (ha : 0 ≤ a) (hn : n < a * a) : ∀ k : Nat, cirFrom n k a = [] := by
  intro k
  cases h : cirFrom n k a with
  | nil => rfl
  | cons p t =>
    exfalso
    obtain ⟨u, v⟩ := p
    obtain ⟨h1, -, h3⟩ := (cir_mem k a u v).1 (by rw [h]; exact List.mem_cons_self ..)
    have e2 := (cirB_is h3).2
    have := Int.mul_le_mul h1 h1 ha (by omega)
    have := sq_nn v
    omega
def circ (n : Int) : List (Int × Int) := cirFrom n 44 1
theorem mem_circ {n : Int} (hn : n ≤ 2000) (u v : Int) : (u, v) ∈ circ n ↔ fqP u v ∧ u * u + v * v = n := by
  rw [circ, cir_mem]
  constructor
  · rintro ⟨h1, h2, h3⟩
    obtain ⟨h4, h5⟩ := cirB_is h3
    exact ⟨⟨by omega, h4⟩, h5⟩
  · rintro ⟨⟨h1, h2⟩, h3⟩
    have : u ≤ 44 := sq_le_44 (by have := sq_nn v; omega)
    exact ⟨by omega, by omega, cirB_of hn h2 h3⟩
/-- A whole circle, looked through. -/
theorem Found.circ {ok : Int → Int → Bool} {n : Int} {xs : List (Int × Int)} (h : Found ok n 1 0 xs) (hn : n ≤ 2000) : Found ok (n + 1) 1 0 (xs ++ (circ n).filter fun p => ok p.1 p.2) := by
  have h0 : ∀ u v : Int, ¬ (fqP u v ∧ (u < 1 ∨ (u = 1 ∧ v < 0))) := by rintro u v ⟨⟨h1, h2⟩, h3⟩; omega
  refine ⟨List.pairwise_append.2 ⟨h.sorted, (cir_sorted 44 1).filter _, ?_⟩, fun u v => ?_⟩
  · rintro ⟨u, v⟩ hx ⟨p, q⟩ hy
    obtain ⟨hq, -, hl⟩ := (h.mem u v).1 hx
    obtain ⟨hy1, -⟩ := List.mem_filter.1 hy
    obtain ⟨-, hn'⟩ := (mem_circ hn p q).1 hy1
    have := h0 u v
    exact .inl (by show u * u + v * v < p * p + q * q; rcases hl with hl | ⟨-, hl⟩; omega; exact absurd ⟨hq, hl⟩ this)
  · rw [List.mem_append, h.mem, List.mem_filter, mem_circ hn]
    have := h0 u v
    have := h0 u v
    constructor
    · rintro (⟨h1, h2, h3⟩ | ⟨⟨h1, h2⟩, h3⟩)
      · exact ⟨h1, h2, .inl (by rcases h3 with h3 | ⟨h3, h4⟩ <;> omega)⟩
      · exact ⟨h1, h3, .inl (by omega)⟩
    · rintro ⟨h1, h2, h3⟩
      rcases h3 with h3 | ⟨h3, h4⟩
      · by_cases e : u * u + v * v = n
        · exact .inr ⟨⟨h1, e⟩, h2⟩
        · exact .inl ⟨h1, h2, .inl (by omega)⟩
      · exact absurd ⟨h1, h4⟩ this
/-- The divisors of a number, from a norm on. -/
def dvFrom (a b : Int) : Nat → Int → List (Int × Int)
  | 0, _ => []
  | k + 1, n => (if (a * a + b * b) % n = 0 then (circ n).filter (fun p => vdO p.1 p.2 a b) else []) ++ dvFrom a b k (n + 1)
theorem dv_found {a b : Int} (hz : ¬ (a = 0 ∧ b = 0)) : ∀ (k : Nat) (n : Int) (xs : List (Int × Int)), 1 ≤ n → n + k ≤ 2001 → Found (fun u v => vdO u v a b) n 1 0 xs → Found (fun u v => vdO u v a b) (n + k) 1 0 (xs ++ dvFrom a b k n) := by
  intro k
  induction k with
  | zero => intro n xs _ _ h; simpa [dvFrom] using h
  | succ k ih =>
    intro n xs h1 hk h
    rw [dvFrom, ← List.append_assoc, show n + ((k + 1 : Nat) : Int) = n + 1 + k by omega]
    refine ih (n + 1) _ (by omega) (by omega) ?_
    by_cases e : (a * a + b * b) % n = 0
    · rw [if_pos e]; exact h.circ (by omega)
    · rw [if_neg e, List.append_nil]
      refine h.skip fun u v hq hv => ?_
      rintro rfl
      exact e (vd_nrm hv hz).2.2.2.2
theorem dv_list {a b : Int} (hz : ¬ (a = 0 ∧ b = 0)) (hN : a * a + b * b ≤ 2000) : Dvs a b (dvFrom a b (a * a + b * b).toNat 1) := by
  have hp := nz_pos hz
  have := dv_found hz (a * a + b * b).toNat 1 [] (Int.le_refl _) (by omega) (Found.start _ (by omega))
  rw [List.nil_append] at this
  exact Found.all (by rw [show a * a + b * b + 1 = 1 + ((a * a + b * b).toNat : Nat) by omega]; exact this)
/-- The primes of the first quarter, from a norm on. -/
def pgFrom : Nat → Int → List (Int × Int)
  | 0, _ => []
  | k + 1, n => (circ n).filter (fun p => prO p.1 p.2) ++ pgFrom k (n + 1)
theorem pg_found : ∀ (k : Nat) (n : Int) (xs : List (Int × Int)), n + k ≤ 2001 → Found prO n 1 0 xs → Found prO (n + k) 1 0 (xs ++ pgFrom k n) := by
  intro k
  induction k with
  | zero => intro n xs _ h; simpa [pgFrom] using h
  | succ k ih =>
    intro n xs hk h
    rw [pgFrom, ← List.append_assoc, show n + ((k + 1 : Nat) : Int) = n + 1 + k by omega]
    exact ih (n + 1) _ (by omega) (h.circ (by omega))
/-- A list of numbers as the cells of a row, and as the rows that an iterator hands over. -/
def gRow (p : Int × Int) : Array Value := #[.agg #[.int .i64 p.1, .int .i64 p.2]]
def gCells : List (Int × Int) → List Value
  | [] => []
  | p :: t => .int .i64 p.1 :: .int .i64 p.2 :: gCells t
theorem gCells_len (l : List (Int × Int)) : (gCells l).length = l.length * 2 := by
  induction l with
  | nil => rfl
  | cons p t ih => simp [gCells, ih]; omega
theorem gCells_append (l m : List (Int × Int)) : gCells (l ++ m) = gCells l ++ gCells m := by
  induction l with
  | nil => rfl
  | cons p t ih => simp [gCells, ih]
theorem gCells_one (l : List (Int × Int)) : ∀ u ∈ gCells l, u.oneCell' = true := by
  induction l with
  | nil => simp [gCells]
  | cons p t ih =>
    intro u hu
    simp only [gCells, List.mem_cons] at hu
    rcases hu with rfl | rfl | h
    · rfl
    · rfl
    · exact ih u h
theorem gCells_at (l : List (Int × Int)) : ∀ (j : Nat) (x y : Int), l[j]? = some (x, y) → (gCells l)[2 * j]? = some (.int .i64 x) ∧ (gCells l)[2 * j + 1]? = some (.int .i64 y) := by
  induction l with
  | nil => intro j x y h; simp at h
  | cons p t ih =>
    intro j x y h
    cases j with
    | zero =>
      simp at h; subst h
      exact ⟨rfl, rfl⟩
    | succ j =>
      simp only [List.getElem?_cons_succ] at h
      obtain ⟨h1, h2⟩ := ih j x y h
      have e : 2 * (j + 1) = 2 * j + 1 + 1 := by omega
      constructor
      · rw [e]; simpa [gCells] using h1
      · rw [show 2 * (j + 1) + 1 = 2 * j + 1 + 1 + 1 by omega]; simpa [gCells] using h2
end Go.Proofs.Ytggebkgfldmipaa
