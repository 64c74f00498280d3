import Derived.Test.YtpjememmogaeiaaMc
namespace Go.Proofs.Ytpjememmogaeiaa
open Go Go.RowKit

/-- The two squares of a number below 1024, the first one not less. -/
def reps (p : Nat) : List (Nat × Nat) := (List.range 32).flatMap fun u => (List.range (u + 1)).filterMap fun v => if u * u + v * v == p then some (u, v) else none
def hasF (p : Nat) : Bool := (List.range 32).any fun k => Nat.ble 2 k && Nat.ble (k * k) p && p % k == 0
def splitRow (p : Nat) : Bool := Nat.blt p 2 || hasF p || p % 4 == 3 || (reps p).length == 1
theorem split_table : (List.range 1001).all splitRow = true := by kernel_rfl
theorem mem_reps {p u v : Nat} : (u, v) ∈ reps p ↔ u < 32 ∧ v ≤ u ∧ u * u + v * v = p := by
  simp only [reps, List.mem_flatMap, List.mem_range, List.mem_filterMap]
  constructor
  · rintro ⟨x, hx, y, hy, h⟩
    by_cases e : x * x + y * y = p
    · simp [e] at h; obtain ⟨rfl, rfl⟩ := h; exact ⟨hx, by omega, e⟩
    · simp [e] at h
  · rintro ⟨h1, h2, h3⟩
    exact ⟨u, h1, v, by omega, by simp [h3]⟩
theorem wp_hasF {p : Nat} (h : wp (p : Int)) : hasF p = false := by
  cases hf : hasF p
  · rfl
  · exfalso
    simp only [hasF, List.any_eq_true, List.mem_range, Bool.and_eq_true, Nat.ble_eq, beq_iff_eq] at hf
    obtain ⟨k, -, ⟨h2, hk⟩, h0⟩ := hf
    refine h.2 k (by omega) (by rw [← Int.natCast_mul]; omega) ?_
    rw [← Int.natCast_emod]; omega
/-- A prime that leaves no 3 is two squares, in one way. -/
theorem two_sq {p : Int} (hp : wp p) (hm : p ≤ 1000) (h4 : p % 4 ≠ 3) : ∃ a b : Int, 0 ≤ b ∧ b ≤ a ∧ a ≤ 31 ∧ a * a + b * b = p ∧ ∀ c d : Int, 0 ≤ d → d ≤ c → c * c + d * d = p → c = a ∧ d = b := by
  have h2 := hp.1
  obtain ⟨n, rfl⟩ := Int.eq_ofNat_of_zero_le (show 0 ≤ p by omega)
  have hr := List.all_eq_true.1 split_table n (List.mem_range.2 (by omega))
  have hlen : (reps n).length = 1 := by
    simp only [splitRow, Bool.or_eq_true, Nat.blt_eq, beq_iff_eq, wp_hasF hp, Bool.false_eq_true, or_false] at hr
    omega
  obtain ⟨⟨a, b⟩, hab⟩ := List.length_eq_one_iff.1 hlen
  obtain ⟨m1, m2, m3⟩ := mem_reps.1 (show (a, b) ∈ reps n by rw [hab]; exact List.mem_singleton.2 rfl)
  refine ⟨a, b, by omega, by omega, by omega, by rw [← m3]; simp, fun c d hd hc hcd => ?_⟩
  have hc31 : c ≤ 31 := by
    rcases Int.lt_or_le 31 c with h | h
    · have := Int.mul_le_mul (a := 32) (b := 32) (c := c) (d := c) h h (by omega) (by omega)
      have := sq_nn d
      omega
    · exact h
  obtain ⟨c', rfl⟩ := Int.eq_ofNat_of_zero_le (show 0 ≤ c by omega)
  obtain ⟨d', rfl⟩ := Int.eq_ofNat_of_zero_le hd
  have hcd' : c' * c' + d' * d' = n := by
    have : ((c' * c' + d' * d' : Nat) : Int) = (n : Nat) := by rw [← hcd]; simp
    omega
  have := mem_reps.2 ⟨show c' < 32 by omega, show d' ≤ c' by omega, hcd'⟩
  rw [hab, List.mem_singleton, Prod.mk.injEq] at this
  omega
/-- A prime that leaves 3 is no sum of two squares. -/
theorem no_sq {p a b : Int} (h4 : p % 4 = 3) (h : a * a + b * b = p) : False := by
  have := sq_mod4 a
  have := sq_mod4 b
  omega

/-- How a prime falls apart. -/
def knO (p : Int) : Int := if decide (2 ≤ p ∧ p ≤ 1000) && wpB p then (if p = 2 then 0 else if p % 4 = 1 then 1 else 2) else -1
theorem wp_odd {p : Int} (h : wp p) (h2 : p ≠ 2) : p % 2 = 1 := by
  rcases (show p % 2 = 0 ∨ p % 2 = 1 by omega) with e | e
  · exfalso
    have := h.1
    rcases Int.lt_or_le p 4 with h4 | h4
    · omega
    · exact h.2 2 (by omega) (by omega) e
  · exact e
/-- A whole number is prime here exactly if it is prime, and leaves 3. -/
theorem kn_prime {p : Int} (hw : wp p) (hm : p ≤ 1000) : prO p 0 = true ↔ p % 4 = 3 := by
  have h2 := hw.1
  have hmx : mxB p 0 = p := by unfold mxB; omega
  have k : gok p 0 = true := by simp [gok, pok]; omega
  unfold prO
  rw [k, hmx, wpB_iff.2 hw]
  simp
/-- The prime whose norm is a prime. -/
structure SplitIs (p : Int) (o : Bool) (a b : Int) : Prop where
  none : o = false → a = 0 ∧ b = 0 ∧ ¬ (2 ≤ p ∧ p ≤ 1000 ∧ wp p ∧ p % 4 ≠ 3)
  some : o = true → 2 ≤ p ∧ p ≤ 1000 ∧ wp p ∧ p % 4 ≠ 3 ∧ 1 ≤ a ∧ 0 ≤ b ∧ b ≤ a ∧ a ≤ 31 ∧ a * a + b * b = p
theorem SplitIs.one {p a b c d : Int} {o o' : Bool} (h : SplitIs p o a b) (h' : SplitIs p o' c d) : o = o' ∧ a = c ∧ b = d := by
  cases o <;> cases o'
  · obtain ⟨rfl, rfl, -⟩ := h.none rfl
    obtain ⟨rfl, rfl, -⟩ := h'.none rfl
    exact ⟨rfl, rfl, rfl⟩
  · obtain ⟨-, -, hn⟩ := h.none rfl
    obtain ⟨h1, h2, h3, h4, -⟩ := h'.some rfl
    exact absurd ⟨h1, h2, h3, h4⟩ hn
  · obtain ⟨-, -, hn⟩ := h'.none rfl
    obtain ⟨h1, h2, h3, h4, -⟩ := h.some rfl
    exact absurd ⟨h1, h2, h3, h4⟩ hn
  · obtain ⟨h1, h2, h3, h4, h5, h6, h7, h8, h9⟩ := h.some rfl
    obtain ⟨-, -, -, -, g5, g6, g7, g8, g9⟩ := h'.some rfl
    obtain ⟨x, y, -, -, -, -, hu⟩ := two_sq h3 h2 h4
    have e1 := hu a b h6 h7 h9
    have e2 := hu c d g6 g7 g9
    exact ⟨rfl, by omega, by omega⟩
/-- What the law on splitting asks. -/
theorem SplitIs.law {p a b : Int} (h : SplitIs p true a b) : gok a b = true ∧ nrm a b = p ∧ prO a b = true ∧ b ≤ a ∧ tiO a b a (-b) = true ∧ tiA a b a (-b) = p ∧ tiB a b a (-b) = 0 ∧ (knO p = 0 ∨ knO p = 1) := by
  obtain ⟨h1, h2, h3, h4, h5, h6, h7, h8, h9⟩ := h.some rfl
  have k : gok a b = true := by simp [gok, pok]; omega
  have k' : gok a (-b) = true := by simp [gok, pok]; omega
  have e1 : a * a - b * -b = p := by rw [← h9]; grind
  have e2 : a * -b + b * a = 0 := by grind
  have kp : gok (a * a - b * -b) (a * -b + b * a) = true := by rw [e1, e2]; simp [gok, pok]; omega
  obtain ⟨t1, t2, t3⟩ := tiO_t k k' kp
  refine ⟨k, by rw [nrm_t k]; exact h9, prO_norm k (by rw [h9]; exact h3), h7, t1, by rw [t2, e1], by rw [t3, e2], ?_⟩
  have hd : (decide (2 ≤ p ∧ p ≤ 1000) && wpB p) = true := by rw [decide_eq_true ⟨h1, h2⟩, wpB_iff.2 h3]; rfl
  by_cases e : p = 2
  · left; rw [knO, hd, if_pos rfl, if_pos e]
  · right
    have := wp_odd h3 e
    rw [knO, hd, if_pos rfl, if_neg e, if_pos (by omega)]
theorem SplitIs.law_not {p a b : Int} (h : SplitIs p false a b) : knO p ≠ 0 ∧ knO p ≠ 1 := by
  obtain ⟨-, -, hn⟩ := h.none rfl
  unfold knO
  cases hd : (decide (2 ≤ p ∧ p ≤ 1000) && wpB p)
  · simp
  · rw [Bool.and_eq_true, decide_eq_true_eq, wpB_iff] at hd
    obtain ⟨⟨h1, h2⟩, h3⟩ := hd
    have h4 : p % 4 = 3 := by
      refine Decidable.byContradiction fun h => hn ⟨h1, h2, h3, h⟩
    rw [if_pos rfl, if_neg (by omega), if_neg (by omega)]
    omega
/-- Primes up to a norm, in order. -/
abbrev Prs (m : Int) (l : List (Int × Int)) : Prop := AllUp prO m l
theorem prO_swap {a b : Int} (hb : b ≠ 0) (h : prO a b = true) : prO b a = true := by
  obtain ⟨k, h2⟩ := prO_prI h
  by_cases ha : a = 0
  · subst ha
    unfold prO at h ⊢
    rw [Bool.and_eq_true] at h ⊢
    refine ⟨by have := gok_bd k; simp [gok, pok]; omega, ?_⟩
    have e : mxB b 0 = mxB 0 b := by unfold mxB; omega
    simpa [e] using h.2
  · rcases h2 with ⟨-, -, hw⟩ | ⟨n, hn, h4, hw⟩
    · exact prO_norm (by have := gok_bd k; simp [gok, pok]; omega) (by rw [Int.add_comm]; exact hw)
    · have hab : (a != 0 && b != 0) = true := by simp [ha, hb]
      unfold prO at h
      rw [Bool.and_eq_true, hab, if_pos rfl, wpB_iff] at h
      exact prO_norm (by have := gok_bd k; simp [gok, pok]; omega) (by rw [Int.add_comm]; exact h.2)
/-- What the law on primes in order asks of each. -/
theorem Prs.law {m u v : Int} {l : List (Int × Int)} (h : Prs m l) (hm : (u, v) ∈ l) : gok u v = true ∧ fiA u v = u ∧ fiB u v = v ∧ prO u v = true ∧ nrm u v ≤ m ∧ (v = 0 ∨ (v, u) ∈ l) := by
  obtain ⟨hq, hp, hn⟩ := (h.mem u v).1 hm
  have k := (prO_prI hp).1
  obtain ⟨e1, e2⟩ := fq_fi hq k
  refine ⟨k, e1, e2, hp, by rw [nrm_t k]; exact hn, ?_⟩
  by_cases hv : v = 0
  · exact .inl hv
  · exact .inr ((h.mem v u).2 ⟨⟨by have := hq.2; omega, by have := hq.1; omega⟩, prO_swap hv hp, by omega⟩)
/-- No prime of the first quarter divides another one. -/
theorem prime_apart {a b c d : Int} (h : prO a b = true) (h' : prO c d = true) (hq : fqP a b) (hq' : fqP c d) (hv : vdO c d a b = true) : a = c ∧ b = d := by
  have k1 := (prO_prI h).1
  have k2 := (prO_prI h').1
  have p2 := pr_pos (prO_prI h')
  obtain ⟨-, hd⟩ := vd_Dv.1 hv
  rcases pr_div (prO_prI h) hd with hn | hn
  · omega
  · obtain ⟨x, y, hx, hy⟩ := hd
    have en := norm_mul x y c d
    rw [← hx, ← hy, hn] at en
    have hp := pr_pos (prO_prI h)
    have hxy : x * x + y * y = 1 := by
      have : 1 * (a * a + b * b) = (x * x + y * y) * (a * a + b * b) := by omega
      exact (Int.eq_of_mul_eq_mul_right (by omega) this).symm
    have hback : Dv a b c d := by
      refine ⟨x, -y, ?_, ?_⟩
      · have : c = (x * x + y * y) * c := by rw [hxy]; omega
        rw (occs := .pos [1]) [this]
        rw [hx, hy]; grind
      · have : d = (x * x + y * y) * d := by rw [hxy]; omega
        rw (occs := .pos [1]) [this]
        rw [hx, hy]; grind
    have := fi_both k1 k2 ⟨x, y, hx, hy⟩ hback
    rw [(fq_fi hq k1).1, (fq_fi hq k1).2, (fq_fi hq' k2).1, (fq_fi hq' k2).2] at this
    exact this
theorem Prs.some {m : Int} {l : List (Int × Int)} (h : Prs m l) : 0 < l.length ↔ 2 ≤ m := by
  constructor
  · intro hl
    match l, hl with
    | (u, v) :: t, _ =>
      obtain ⟨-, hp, hn⟩ := (h.mem u v).1 (List.mem_cons_self ..)
      have := pr_pos (prO_prI hp)
      omega
  · intro h2
    have : ((1 : Int), (1 : Int)) ∈ l := (h.mem 1 1).2 ⟨⟨by omega, by omega⟩, by decide, by omega⟩
    exact List.length_pos_of_mem this
end Go.Proofs.Ytpjememmogaeiaa
