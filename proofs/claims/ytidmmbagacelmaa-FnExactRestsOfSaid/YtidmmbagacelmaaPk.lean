import Derived.Test.YtidmmbagacelmaaMh
import Derived.Test.YtidmmbagacelmaaPe
import Derived.Test.YtidmmbagacelmaaPb
namespace Go.Proofs.Ytidmmbagacelmaa
open Go Go.RowKit

/-- Of a row the numbers that are their own rests, from b on; all rows from a on. -/
def rtB (m : Int × Int) (a : Int) : Nat → Int → List (Int × Int)
  | 0, _ => []
  | j + 1, b => if rs m (a, b) = (a, b) then (a, b) :: rtB m a j (b + 1) else rtB m a j (b + 1)
def rtA (m : Int × Int) (n : Nat) (lo : Int) : Nat → Int → List (Int × Int)
  | 0, _ => []
  | i + 1, a => rtB m a n lo ++ rtA m n lo i (a + 1)
def rtK (m : Int × Int) (K : Nat) : List (Int × Int) := rtA m (2 * K + 1) (-(K : Int)) (2 * K + 1) (-(K : Int))
/-- All rests of a modulus. -/
def rtL (a b : Int) : List (Int × Int) := if mdO a b then rtK (a, b) 10 else []
theorem mem_rtB {m : Int × Int} {a : Int} : ∀ (j : Nat) (b : Int) (x : Int × Int), x ∈ rtB m a j b ↔ x.1 = a ∧ b ≤ x.2 ∧ x.2 < b + j ∧ rs m x = x := by
  intro j
  induction j with
  | zero => intro b x; simp only [rtB, List.not_mem_nil, false_iff]; omega
  | succ j ih =>
    intro b x
    rw [rtB]
    have key : x ∈ rtB m a j (b + 1) ↔ x.1 = a ∧ b + 1 ≤ x.2 ∧ x.2 < b + 1 + j ∧ rs m x = x := ih _ _
    split
    · rename_i h
      rw [List.mem_cons, key]
      constructor
      · rintro (rfl | ⟨h1, h2, h3, h4⟩)
        · exact ⟨rfl, Int.le_refl _, by dsimp only; omega, h⟩
        · exact ⟨h1, by omega, by omega, h4⟩
      · rintro ⟨h1, h2, h3, h4⟩
        by_cases e : x.2 = b
        · exact .inl (Prod.ext h1 e)
        · exact .inr ⟨h1, by omega, by omega, h4⟩
    · rename_i h
      rw [key]
      constructor
      · rintro ⟨h1, h2, h3, h4⟩; exact ⟨h1, by omega, by omega, h4⟩
      · rintro ⟨h1, h2, h3, h4⟩
        by_cases e : x.2 = b
        · have ex : x = (a, b) := Prod.ext h1 e
          rw [ex] at h4; exact absurd h4 h
        · exact ⟨h1, by omega, by omega, h4⟩
theorem sorted_rtB {m : Int × Int} {a : Int} : ∀ (j : Nat) (b : Int), (rtB m a j b).Pairwise ltL := by
  intro j
  induction j with
  | zero => intro b; exact List.Pairwise.nil
  | succ j ih =>
    intro b
    rw [rtB]
    split
    · refine List.pairwise_cons.2 ⟨fun x hx => ?_, ih _⟩
      obtain ⟨h1, h2, -, -⟩ := (mem_rtB _ _ _).1 hx
      exact .inr ⟨h1.symm, by dsimp only; omega⟩
    · exact ih _
theorem mem_rtA {m : Int × Int} {n : Nat} {lo : Int} : ∀ (i : Nat) (a : Int) (x : Int × Int), x ∈ rtA m n lo i a ↔ a ≤ x.1 ∧ x.1 < a + i ∧ lo ≤ x.2 ∧ x.2 < lo + n ∧ rs m x = x := by
  intro i
  induction i with
  | zero => intro a x; simp only [rtA, List.not_mem_nil, false_iff]; omega
  | succ i ih =>
    intro a x
    rw [rtA, List.mem_append, mem_rtB, ih]
    constructor
    · rintro (⟨h1, h2, h3, h4⟩ | ⟨h1, h2, h3, h4, h5⟩)
      · exact ⟨by omega, by omega, h2, h3, h4⟩
      · exact ⟨by omega, by omega, h3, h4, h5⟩
    · rintro ⟨h1, h2, h3, h4, h5⟩
      by_cases e : x.1 = a
      · exact .inl ⟨e, h3, h4, h5⟩
      · exact .inr ⟨by omega, by omega, h3, h4, h5⟩
theorem sorted_rtA {m : Int × Int} {n : Nat} {lo : Int} : ∀ (i : Nat) (a : Int), (rtA m n lo i a).Pairwise ltL := by
  intro i
  induction i with
  | zero => intro a; exact List.Pairwise.nil
  | succ i ih =>
    intro a
    rw [rtA, List.pairwise_append]
    refine ⟨sorted_rtB _ _, ih _, fun x hx y hy => ?_⟩
    obtain ⟨h1, -⟩ := (mem_rtB _ _ _).1 hx
    obtain ⟨h2, -⟩ := (mem_rtA _ _ _).1 hy
    exact .inl (by omega)
theorem rt_rests {m : Int × Int} {K : Nat} (hK : ∀ z, rs m z = z → -(K : Int) ≤ z.1 ∧ z.1 ≤ K ∧ -(K : Int) ≤ z.2 ∧ z.2 ≤ K) : Rests m (rtK m K) := by
  refine ⟨sorted_rtA _ _, fun z => ?_⟩
  unfold rtK
  rw [mem_rtA]
  constructor
  · exact fun h => h.2.2.2.2
  · intro h
    obtain ⟨h1, h2, h3, h4⟩ := hK z h
    exact ⟨by omega, by omega, by omega, by omega, h⟩
theorem md_nG {a b : Int} (h : mdO a b = true) : 0 < nG (a, b) ∧ nG (a, b) ≤ 100 := by
  obtain ⟨k, h1, h2⟩ := md_is h
  unfold nG; dsimp only; omega
theorem rtL_is {a b : Int} (h : mdO a b = true) : Rests (a, b) (rtL a b) := by
  obtain ⟨h1, h2⟩ := md_nG h
  unfold rtL
  rw [if_pos h]
  exact rt_rests fun z hz => by have := own_bd h1 h2 hz; omega
theorem rtL_no {a b : Int} (h : mdO a b = false) : rtL a b = [] := by unfold rtL; rw [h]; rfl
theorem rtL_len {a b : Int} (h : mdO a b = true) : ((rtL a b).length : Int) = nrm a b := by
  obtain ⟨h1, h2⟩ := md_nG h
  rw [(rtL_is h).len h1 h2, nrm_t (md_is h).1]; rfl
theorem rtL_bd (a b : Int) : (rtL a b).length ≤ 100 := by
  cases h : mdO a b
  · rw [rtL_no h]; simp
  · have h1 := rtL_len h
    have h2 := (md_is h).2.2
    rw [nrm_t (md_is h).1] at h1
    omega
/-- The square may be as small as the norm allows. -/
theorem rtK_is {a b : Int} {K : Nat} (h : mdO a b = true) (hK : a * a + b * b < 2 * (((K : Int) + 1) * ((K : Int) + 1))) : rtK (a, b) K = rtL a b := by
  obtain ⟨h1, h2⟩ := md_nG h
  refine Rests.one (rt_rests fun z hz => ?_) (rtL_is h)
  have hh := rs_nG h1 z
  rw [hz] at hh
  have e : nG z = z.1 * z.1 + z.2 * z.2 := rfl
  have e2 : nG (a, b) = a * a + b * b := rfl
  have n1 := sq_nn z.1
  have n2 := sq_nn z.2
  have key : ∀ x : Int, 2 * (x * x) ≤ a * a + b * b → -(K : Int) ≤ x ∧ x ≤ K := by
    intro x hx
    rcases Int.lt_or_le (K : Int) x with hk | hk
    · have := Int.mul_le_mul (a := (K : Int) + 1) (b := (K : Int) + 1) (c := x) (d := x) hk hk (by omega) (by omega); omega
    · rcases Int.lt_or_le x (-(K : Int)) with hk' | hk'
      · have := Int.mul_le_mul (a := (K : Int) + 1) (b := (K : Int) + 1) (c := -x) (d := -x) (by omega) (by omega) (by omega) (by omega)
        have e : -x * -x = x * x := by grind
        omega
      · omega
  have := key z.1 (by omega)
  have := key z.2 (by omega)
  omega
/-- What the law of RestsOf asks of two neighbours. -/
theorem rtL_next {a b x y p q : Int} {k : Nat} (h : mdO a b = true) (h1 : (rtL a b)[k]? = some (p, q)) (h2 : (rtL a b)[k + 1]? = some (x, y)) : smO x y p q a b = false ∧ (p < x ∨ p = x ∧ q < y) := by
  obtain ⟨k1, -, -⟩ := md_is h
  obtain ⟨h3, h4⟩ := md_nG h
  have hr := rtL_is h
  have hp := List.mem_of_getElem? h1
  have hx := List.mem_of_getElem? h2
  obtain ⟨l1, e1⟩ := List.getElem?_eq_some_iff.1 h1
  obtain ⟨l2, e2⟩ := List.getElem?_eq_some_iff.1 h2
  have hlt := List.pairwise_iff_getElem.1 hr.sorted k (k + 1) l1 l2 (by omega)
  rw [e1, e2] at hlt
  have o1 := (hr.mem _).1 hp
  have o2 := (hr.mem _).1 hx
  have b1 := own_bd h3 h4 o1
  have b2 := own_bd h3 h4 o2
  refine ⟨?_, hlt⟩
  rw [sm_is (gok_sml (by omega) (by omega) (by omega) (by omega)) (gok_sml (by omega) (by omega) (by omega) (by omega)) k1 h3, o1, o2, decide_eq_false_iff_not]
  intro e
  rw [e] at hlt
  exact ltL_irr _ hlt
theorem rtL_half {a b x y : Int} {k : Nat} (h : mdO a b = true) (h1 : (rtL a b)[k]? = some (x, y)) : 0 ≤ nrm x y ∧ nrm x y ≤ 1000 ∧ 2 * nrm x y ≤ nrm a b := by
  obtain ⟨k1, -, -⟩ := md_is h
  obtain ⟨h3, h4⟩ := md_nG h
  have hr := rtL_is h
  have o1 := (hr.mem _).1 (List.mem_of_getElem? h1)
  have b1 := own_bd h3 h4 o1
  have hg := rs_nG h3 (x, y)
  rw [o1] at hg
  have kx : gok x y = true := gok_sml (by omega) (by omega) (by omega) (by omega)
  rw [nrm_t kx, nrm_t k1]
  have n1 := sq_nn x
  have n2 := sq_nn y
  change 2 * (x * x + y * y) ≤ a * a + b * b at hg
  change a * a + b * b ≤ 100 at h4
  omega
end Go.Proofs.Ytidmmbagacelmaa
