import Derived.Test.YtpjememmogaeiaaMb
namespace Go.Proofs.Ytpjememmogaeiaa
open Go Go.RowKit

/-- The primes from p on, among k numbers: what the sieve hands over. -/
def prsFrom : Nat → Int → List (Array Value)
  | 0, _ => []
  | k + 1, p => if wpB p then #[.int .i64 p] :: prsFrom k (p + 1) else prsFrom k (p + 1)
theorem prsFrom_one (k : Nat) : ∀ p : Int, ∀ x ∈ prsFrom k p, x.size = 1 := by
  induction k with
  | zero => intro p x hx; simp [prsFrom] at hx
  | succ k ih =>
    intro p x hx
    rw [prsFrom] at hx
    cases hw : wpB p
    · rw [hw] at hx; exact ih _ _ hx
    · rw [hw, if_pos rfl] at hx
      rcases List.mem_cons.1 hx with rfl | h
      · rfl
      · exact ih _ _ h
theorem prs_hit {k : Nat} {p : Int} (h : wpB p = true) : prsFrom (k + 1) p = #[.int .i64 p] :: prsFrom k (p + 1) := by rw [prsFrom, h, if_pos rfl]
theorem prs_miss {k : Nat} {p : Int} (h : wpB p = false) : prsFrom (k + 1) p = prsFrom k (p + 1) := by rw [prsFrom, h, if_neg (by simp)]
/-- The next prime that is handed over. -/
theorem prs_head : ∀ (k : Nat) (p : Int) {row : Array Value} {t : List (Array Value)}, prsFrom k p = row :: t →
    ∃ (q : Int) (j : Nat), row = #[.int .i64 q] ∧ wp q ∧ p ≤ q ∧ q + 1 + j = p + k ∧ (∀ r, p ≤ r → r < q → ¬ wp r) ∧ t = prsFrom j (q + 1) := by
  intro k
  induction k with
  | zero => intro p row t h; simp [prsFrom] at h
  | succ k ih =>
    intro p row t h
    cases hw : wpB p
    · rw [prs_miss hw] at h
      obtain ⟨q, j, h1, h2, h3, h4, h5, h6⟩ := ih (p + 1) h
      refine ⟨q, j, h1, h2, by omega, by omega, fun r hr hlt => ?_, h6⟩
      by_cases e : r = p
      · subst e; intro hr'; rw [wpB_iff.2 hr'] at hw; cases hw
      · exact h5 r (by omega) hlt
    · rw [prs_hit hw] at h
      injection h with h1 h2
      exact ⟨p, k, h1.symm, wpB_iff.1 hw, Int.le_refl _, by omega, fun r hr hlt => by omega, h2.symm⟩
theorem prs_nil : ∀ (k : Nat) (p : Int), prsFrom k p = [] → ∀ r, p ≤ r → r < p + k → ¬ wp r := by
  intro k
  induction k with
  | zero => intro p _ r h1 h2; omega
  | succ k ih =>
    intro p h r h1 h2 hr
    cases hw : wpB p
    · rw [prs_miss hw] at h
      by_cases e : r = p
      · subst e; rw [wpB_iff.2 hr] at hw; cases hw
      · exact ih (p + 1) h r (by omega) (by omega) hr
    · rw [prs_hit hw] at h; cases h
theorem drop_cons {xs ys : List (Array Value)} {i : Nat} {x : Array Value} (h : xs.drop i = x :: ys) : xs[i]? = some x ∧ xs.drop (i + 1) = ys := by
  constructor
  · have := congrArg (fun l => l[0]?) h
    simpa using this
  · rw [← List.drop_drop, h]; rfl
theorem cons_drop {xs : List (Array Value)} {i : Nat} {row : Array Value} (hr : xs[i]? = some row) : xs.drop i = row :: xs.drop (i + 1) := by
  obtain ⟨hl, he⟩ := List.getElem?_eq_some_iff.1 hr
  rw [List.drop_eq_getElem_cons hl, he]
theorem drop_end {xs : List (Array Value)} {i : Nat} (hi : i ≤ xs.length) (h : xs.drop i = []) : i = xs.length := by
  have := List.drop_eq_nil_iff.1 h; omega
/-- What wholePrimeOk knows: no prime below p divides n. -/
def NoSmall (n p : Int) : Prop := ∀ q, wp q → q < p → n % q ≠ 0
theorem NoSmall.start (n : Int) : NoSmall n 2 := fun q hq h => by have := hq.1; omega
theorem NoSmall.next {n p q : Int} (h : NoSmall n p) (hq : ∀ r, p ≤ r → r < q → ¬ wp r) (hn : n % q ≠ 0) : NoSmall n (q + 1) := fun r hr hlt => by
  by_cases e : r = q
  · subst e; exact hn
  · rcases Int.lt_or_le r p with h' | h'
    · exact h r hr h'
    · exact absurd hr (hq r h' (by omega))
theorem NoSmall.wp {n p q : Int} (h : NoSmall n p) (h2 : 2 ≤ n) (hq : ∀ r, p ≤ r → r < q → ¬ wp r) (hn : n < q * q) (hq0 : 0 ≤ q) : wpB n = true := by
  rw [wpB_iff]
  rcases least_pf h2 with h' | ⟨r, hr, hrr, m, hm⟩
  · exact h'
  · exfalso
    have hlt : r < q := by
      rcases Int.lt_or_le r q with h1 | h1
      · exact h1
      · have := Int.mul_le_mul h1 h1 hq0 (by omega)
        omega
    rcases Int.lt_or_le r p with h1 | h1
    · exact h r hr h1 (by rw [hm]; exact Int.mul_emod_right _ _)
    · exact hq r h1 hlt hr
theorem not_wpB {n q : Int} (h2 : 2 ≤ q) (hq : q * q ≤ n) (hn : n % q = 0) : wpB n = false := by
  cases h : wpB n
  · rfl
  · exact absurd hn ((wpB_iff.1 h).2 q h2 hq)
/-- What is crossed out ahead of p. -/
def Crs (p i : Int) : Prop := ∃ q, wp q ∧ q < p ∧ q * q ≤ i ∧ i % q = 0
theorem Crs.self {p : Int} (h2 : 2 ≤ p) : Crs p p ↔ ¬ wp p := by
  constructor
  · rintro ⟨q, hq, hlt, hqq, hm⟩ hp
    exact hp.2 q hq.1 hqq hm
  · intro h
    rcases least_pf h2 with h' | ⟨r, hr, hrr, m, hm⟩
    · exact absurd h' h
    · refine ⟨r, hr, ?_, hrr, by rw [hm]; exact Int.mul_emod_right _ _⟩
      have := Int.mul_le_mul_of_nonneg_right (c := r) hr.1 (by have := hr.1; omega)
      have := hr.1
      omega
theorem Crs.miss {p i : Int} (h : ¬ wp p) : Crs (p + 1) i ↔ Crs p i := by
  constructor
  · rintro ⟨q, hq, hlt, hqq, hm⟩
    refine ⟨q, hq, ?_, hqq, hm⟩
    have : q ≠ p := by rintro rfl; exact h hq
    omega
  · rintro ⟨q, hq, hlt, hqq, hm⟩; exact ⟨q, hq, by omega, hqq, hm⟩
theorem Crs.hit {p i : Int} (h : wp p) : Crs (p + 1) i ↔ Crs p i ∨ (p * p ≤ i ∧ i % p = 0) := by
  constructor
  · rintro ⟨q, hq, hlt, hqq, hm⟩
    by_cases e : q = p
    · subst e; exact .inr ⟨hqq, hm⟩
    · exact .inl ⟨q, hq, by omega, hqq, hm⟩
  · rintro (⟨q, hq, hlt, hqq, hm⟩ | ⟨h1, h2⟩)
    · exact ⟨q, hq, by omega, hqq, hm⟩
    · exact ⟨p, h, by omega, h1, h2⟩
/-- The sieve's cells between two numbers, and while multiples are crossed out. -/
def SvAt (p : Int) (f : Nat → Bool) : Prop := ∀ i, i ≤ 1414 → (f i = true ↔ Crs p i)
def SvIn (p m : Int) (f : Nat → Bool) : Prop := ∀ i, i ≤ 1414 → (f i = true ↔ Crs p i ∨ (p * p ≤ i ∧ (i : Int) < m ∧ (i : Int) % p = 0))
theorem SvAt.start : SvAt 2 (fun _ => false) := fun i _ => by
  simp only [Bool.false_eq_true, false_iff]
  rintro ⟨q, hq, hlt, -⟩
  have := hq.1; omega
theorem SvAt.miss {p : Int} {f : Nat → Bool} (h : SvAt p f) (hp : ¬ wp p) : SvAt (p + 1) f := fun i hi => (h i hi).trans (Crs.miss hp).symm
theorem SvAt.self {p : Nat} {f : Nat → Bool} (h : SvAt p f) (h2 : 2 ≤ p) (hp : p ≤ 1414) : f p = !wpB p := by
  have := (h p hp).trans (Crs.self (p := (p : Int)) (by omega))
  rw [← wpB_iff] at this
  cases hf : f p <;> cases hw : wpB (p : Int) <;> simp_all
theorem SvAt.into {p : Int} {f : Nat → Bool} (h : SvAt p f) : SvIn p (p * p) f := fun i hi => by
  rw [h i hi]
  constructor
  · exact .inl
  · rintro (h | ⟨h1, h2, -⟩)
    · exact h
    · omega
theorem SvIn.out {p m : Int} {f : Nat → Bool} (h : SvIn p m f) (hp : wp p) (hm : 1414 < m) : SvAt (p + 1) f := fun i hi => by
  rw [h i hi, Crs.hit hp]
  constructor
  · rintro (h | ⟨h1, h2, h3⟩)
    · exact .inl h
    · exact .inr ⟨h1, h3⟩
  · rintro (h | ⟨h1, h3⟩)
    · exact .inl h
    · exact .inr ⟨h1, by omega, h3⟩
theorem SvIn.step {p : Int} {m : Nat} {f : Nat → Bool} (h : SvIn p m f) (hp : 2 ≤ p) (hpm : p * p ≤ m) (hm : (m : Int) % p = 0) : SvIn p (m + p) (fun i => if i = m then true else f i) := fun i hi => by
  by_cases e : i = m
  · subst e
    simp only [if_true, true_iff]
    exact .inr ⟨hpm, by omega, hm⟩
  · simp only [if_neg e]
    rw [h i hi]
    constructor
    · rintro (h | ⟨h1, h2, h3⟩)
      · exact .inl h
      · exact .inr ⟨h1, by omega, h3⟩
    · rintro (h | ⟨h1, h2, h3⟩)
      · exact .inl h
      · refine .inr ⟨h1, ?_, h3⟩
        rcases Int.lt_or_le (i : Int) m with h4 | h4
        · exact h4
        · exfalso
          obtain ⟨x, hx⟩ := Int.dvd_of_emod_eq_zero hm
          obtain ⟨y, hy⟩ := Int.dvd_of_emod_eq_zero h3
          have h5 : x < y := by
            rcases Int.lt_or_le x y with h6 | h6
            · exact h6
            · have := Int.mul_le_mul_of_nonneg_left (c := p) h6 (by omega)
              omega
          have := Int.mul_le_mul_of_nonneg_left (c := p) (show x + 1 ≤ y by omega) (by omega)
          rw [Int.mul_add, Int.mul_one, ← hx, ← hy] at this
          omega
end Go.Proofs.Ytpjememmogaeiaa
