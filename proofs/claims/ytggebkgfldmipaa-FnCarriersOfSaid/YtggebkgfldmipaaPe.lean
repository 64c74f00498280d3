import Derived.Test.YtggebkgfldmipaaPa
import Derived.Test.YtggebkgfldmipaaMf
import Derived.Test.YtggebkgfldmipaaUs
import Derived.Test.YtggebkgfldmipaaHu
import Derived.Test.YtggebkgfldmipaaPb
namespace Go.Proofs.Ytggebkgfldmipaa
open Go Go.RowKit

theorem vd_dvG {a b c d : Int} (h : dvO a b c d = true) : vdO c d a b = true ↔ dvG (c, d) (a, b) := by
  rw [vd_iff h]
  constructor
  · rintro ⟨x, y, h1, h2⟩
    exact ⟨(x, y), Prod.ext (by unfold mu; dsimp only; grind) (by unfold mu; dsimp only; grind)⟩
  · rintro ⟨⟨x, y⟩, hy⟩
    have h1 := congrArg Prod.fst hy
    have h2 := congrArg Prod.snd hy
    unfold mu at h1 h2
    dsimp only at h1 h2
    exact ⟨x, y, by grind, by grind⟩
theorem rs_val {a b c d x y : Int} (h : RsIs a b c d true x y) : rs (c, d) (a, b) = (x, y) ∧ gok a b = true ∧ gok c d = true ∧ 0 < nG (c, d) ∧ gok x y = true := by
  obtain ⟨h0, h1, h2⟩ := h
  obtain ⟨k1, k2, hp⟩ := dv_is h0
  obtain ⟨-, -, e1, e2⟩ := dv_t h0
  rw [e1] at h1
  rw [e2] at h2
  have hg := rest_gok h0
  subst h1 h2
  exact ⟨rfl, k1, k2, hp, hg⟩
theorem rs_mk {a b c d x y : Int} (h : rs (c, d) (a, b) = (x, y)) (k1 : gok a b = true) (k2 : gok c d = true) (hp : 0 < nG (c, d)) : RsIs a b c d true x y := by
  have h0 : dvO a b c d = true := dv_mk k1 k2 (by rintro ⟨rfl, rfl⟩; unfold nG at hp; simp at hp)
  obtain ⟨-, -, e1, e2⟩ := dv_t h0
  exact ⟨h0, e1.trans (congrArg Prod.fst h), e2.trans (congrArg Prod.snd h)⟩
theorem rs_none {a b c d x y : Int} (h : RsIs a b c d false x y) : x = 0 ∧ y = 0 := by
  obtain ⟨h0, h1, h2⟩ := h
  obtain ⟨-, -, e1, e2⟩ := dv_f h0
  omega
theorem pair_beq (x y u v : Int) : (x == u && y == v) = decide (((x, y) : Int × Int) = (u, v)) := by
  rw [Bool.eq_iff_iff]; simp
/-- The law of RestOf. -/
theorem rest_again {a b c d x y : Int} (h : RsIs a b c d true x y) : RsIs x y c d true x y ∧ smO a b x y c d = true ∧ vdO c d a b = (x == 0 && y == 0) := by
  obtain ⟨hr, k1, k2, hp, hg⟩ := rs_val h
  have h2 : RsIs x y c d true x y := rs_mk (by rw [← hr]; exact rs_idem hp _) hg k2 hp
  refine ⟨h2, ?_, ?_⟩
  · unfold smO
    rw [h.1, h2.1, h.2.1, h.2.2, h2.2.1, h2.2.2]
    simp
  · unfold vdO
    rw [h.1, h.2.1, h.2.2]; rfl
theorem sm_no {a b c d e f : Int} (h : (dvO a b e f && dvO c d e f) = false) : smO a b c d e f = false := by
  unfold smO; rw [h]; rfl
theorem sm_is {a b c d e f : Int} (k1 : gok a b = true) (k2 : gok c d = true) (k3 : gok e f = true) (hp : 0 < nG (e, f)) : smO a b c d e f = decide (rs (e, f) (a, b) = rs (e, f) (c, d)) := by
  have h1 := rs_mk rfl k1 k3 hp
  have h2 := rs_mk rfl k2 k3 hp
  unfold smO
  rw [h1.1, h2.1, h1.2.1, h1.2.2, h2.2.1, h2.2.2, pair_beq]; rfl
/-- The law of SameOk. -/
theorem same_law {a b c d e f : Int} {o : Bool} (k1 : gok a b = true) (k2 : gok c d = true) (k3 : gok e f = true) (hz : (e == 0 && f == 0) = false) (h : smO a b c d e f = o) :
    smO c d a b e f = o ∧ smO a b a b e f = true ∧ ∀ x y, PlIs a b (-c) (-d) true x y → vdO e f x y = o := by
  have hp : 0 < nG (e, f) := (dv_is (dv_mk (a := a) (b := b) k1 k3 (by rintro ⟨rfl, rfl⟩; simp at hz))).2.2
  rw [sm_is k1 k2 k3 hp] at h
  refine ⟨?_, ?_, ?_⟩
  · rw [sm_is k2 k1 k3 hp, ← h]; simp only [eq_comm]
  · rw [sm_is k1 k1 k3 hp]; simp
  · intro x y hs
    obtain ⟨e1, e2, -, -, kx⟩ := hs.val
    have hd : dvO x y e f = true := dv_mk kx k3 (by rintro ⟨rfl, rfl⟩; simp at hz)
    rw [← h, Bool.eq_iff_iff, vd_dvG hd, decide_eq_true_iff, rs_same hp]
    unfold pa ng
    dsimp only
    rw [e1, e2]
theorem dv_no {a b e f : Int} (h : gok a b = false ∨ gok e f = false ∨ (e == 0 && f == 0) = true) : dvO a b e f = false := by
  unfold dvO
  rcases h with h | h | h <;> rw [h] <;> simp
theorem md_turn {a b : Int} (h : mdO a b = true) : gok a b = true ∧ mdO (-b) a = true := by
  cases k : gok a b
  · have hn := nrm_f k
    unfold mdO at h
    rw [hn] at h
    simp at h
  · have hq := (nrm_q k).1
    unfold mdO at h ⊢
    rw [hq]; exact ⟨rfl, h⟩
end Go.Proofs.Ytggebkgfldmipaa

namespace Go.Proofs.Ytggebkgfldmipaa
open Go Go.RowKit

theorem mu_swp (x y : Int × Int) : mu x y = mu y x := mu_comm x y
theorem pa_swp (x y : Int × Int) : pa x y = pa y x := by unfold pa; exact Prod.ext (by dsimp only; omega) (by dsimp only; omega)

theorem adv_val {a b c d e f x y : Int} : AdIs a b c d e f true x y ↔ adO a b c d e f = true ∧ rs (e, f) (pa (rs (e, f) (a, b)) (rs (e, f) (c, d))) = (x, y) := by
  unfold AdIs adA adB
  constructor
  · rintro ⟨h, h1, h2⟩
    rw [h, if_pos rfl] at h1 h2
    exact ⟨h, Prod.ext h1 h2⟩
  · rintro ⟨h, h1⟩
    rw [h, if_pos rfl, if_pos rfl]
    exact ⟨rfl, congrArg Prod.fst h1, congrArg Prod.snd h1⟩
theorem adv_none {a b c d e f x y : Int} (h : AdIs a b c d e f false x y) : x = 0 ∧ y = 0 := by
  obtain ⟨h0, h1, h2⟩ := h
  obtain ⟨e1, e2, e3, e4⟩ := ad_f h0
  omega
/-- The law. -/
theorem adv_law {a b c d e f x y : Int} (h : AdIs a b c d e f true x y) : ∃ p q, RsIs a b e f true p q ∧ AdIs p q c d e f true x y ∧ AdIs c d a b e f true x y ∧ ∀ s1 s2, PlIs a b c d true s1 s2 → RsIs s1 s2 e f true x y := by
  obtain ⟨h0, hv⟩ := adv_val.1 h
  obtain ⟨k1, k2, k3⟩ := ad_ok h0
  obtain ⟨k4, h1, -⟩ := md_is k3
  have hp : 0 < nG (e, f) := by unfold nG; dsimp only; omega
  have hr := rs_mk (x := (rs (e, f) (a, b)).1) (y := (rs (e, f) (a, b)).2) rfl k1 k4 hp
  have hrg := (rs_val hr).2.2.2.2
  refine ⟨_, _, hr, adv_val.2 ⟨?_, ?_⟩, adv_val.2 ⟨?_, ?_⟩, ?_⟩
  · unfold adO; rw [hrg, k2, k3]; rfl
  · show rs (e, f) (pa (rs (e, f) (rs (e, f) (a, b))) (rs (e, f) (c, d))) = (x, y)
    rw [rs_idem hp]; exact hv
  · unfold adO; rw [k1, k2, k3]; rfl
  · rw [pa_swp]; exact hv
  · intro s1 s2 hs
    obtain ⟨e1, e2, -, -, kx⟩ := hs.val
    refine rs_mk ?_ kx k4 hp
    rw [rs_add hp] at hv
    rw [← hv, e1, e2]; rfl

theorem muv_val {a b c d e f x y : Int} : MuIs a b c d e f true x y ↔ adO a b c d e f = true ∧ rs (e, f) (mu (rs (e, f) (a, b)) (rs (e, f) (c, d))) = (x, y) := by
  unfold MuIs muA muB
  constructor
  · rintro ⟨h, h1, h2⟩
    rw [h, if_pos rfl] at h1 h2
    exact ⟨h, Prod.ext h1 h2⟩
  · rintro ⟨h, h1⟩
    rw [h, if_pos rfl, if_pos rfl]
    exact ⟨rfl, congrArg Prod.fst h1, congrArg Prod.snd h1⟩
theorem muv_none {a b c d e f x y : Int} (h : MuIs a b c d e f false x y) : x = 0 ∧ y = 0 := by
  obtain ⟨h0, h1, h2⟩ := h
  obtain ⟨e1, e2, e3, e4⟩ := ad_f h0
  omega
/-- The law. -/
theorem muv_law {a b c d e f x y : Int} (h : MuIs a b c d e f true x y) : ∃ p q, RsIs a b e f true p q ∧ MuIs p q c d e f true x y ∧ MuIs c d a b e f true x y ∧ ∀ s1 s2, TiIs a b c d true s1 s2 → RsIs s1 s2 e f true x y := by
  obtain ⟨h0, hv⟩ := muv_val.1 h
  obtain ⟨k1, k2, k3⟩ := ad_ok h0
  obtain ⟨k4, h1, -⟩ := md_is k3
  have hp : 0 < nG (e, f) := by unfold nG; dsimp only; omega
  have hr := rs_mk (x := (rs (e, f) (a, b)).1) (y := (rs (e, f) (a, b)).2) rfl k1 k4 hp
  have hrg := (rs_val hr).2.2.2.2
  refine ⟨_, _, hr, muv_val.2 ⟨?_, ?_⟩, muv_val.2 ⟨?_, ?_⟩, ?_⟩
  · unfold adO; rw [hrg, k2, k3]; rfl
  · show rs (e, f) (mu (rs (e, f) (rs (e, f) (a, b))) (rs (e, f) (c, d))) = (x, y)
    rw [rs_idem hp]; exact hv
  · unfold adO; rw [k1, k2, k3]; rfl
  · rw [mu_swp]; exact hv
  · intro s1 s2 hs
    obtain ⟨e1, e2, -, -, kx⟩ := hs.val
    refine rs_mk ?_ kx k4 hp
    rw [rs_mu hp] at hv
    rw [← hv, e1, e2]; rfl
end Go.Proofs.Ytggebkgfldmipaa

namespace Go.Proofs.Ytggebkgfldmipaa
open Go Go.RowKit

/-- Of a row the numbers that are their own rests, from b on; all rows from a on. -/
def rtB (m : Int × Int) (a : Int) : Nat → Int → List (Int × Int)
  | 0, _ => []
  | j + 1, b => if rs m (a, b) = (a, b) then (a, b) :: rtB m a j (b + 1) else rtB m a j (b + 1)
def rtA (m : Int × Int) (n : Nat) (lo : Int) : Nat → Int → List (Int × Int)
  | 0, _ => []
  | i + 1, a => rtB m a n lo ++ rtA m n lo i (a + 1)
def rtK (m : Int × Int) (K : Nat) : List (Int × Int) := rtA m (2 * K + 1) (-(K : Int)) (2 * K + 1) (-(K : Int))
/-- All rests of a modulus. -/
def rtL (a b : Int) : List (Int × Int) := if mdO a b then rtK (a, b) 10 else []
theorem mem_rtB {m : Int × Int} {a : Int} : ∀ (j : Nat) (b : Int) (x : Int × Int), x ∈ rtB m a j b ↔ x.1 = a ∧ b ≤ x.2 ∧ x.2 < b + j ∧ rs m x = x := by
  intro j
  induction j with
  | zero => intro b x; simp only [rtB, List.not_mem_nil, false_iff]; omega
  | succ j ih =>
    intro b x
    rw [rtB]
    have key : x ∈ rtB m a j (b + 1) ↔ x.1 = a ∧ b + 1 ≤ x.2 ∧ x.2 < b + 1 + j ∧ rs m x = x := ih _ _
    split
    · rename_i h
      rw [List.mem_cons, key]
      constructor
      · rintro (rfl | ⟨h1, h2, h3, h4⟩)
        · exact ⟨rfl, Int.le_refl _, by dsimp only; omega, h⟩
        · exact ⟨h1, by omega, by omega, h4⟩
      · rintro ⟨h1, h2, h3, h4⟩
        by_cases e : x.2 = b
        · exact .inl (Prod.ext h1 e)
        · exact .inr ⟨h1, by omega, by omega, h4⟩
    · rename_i h
      rw [key]
      constructor
      · rintro ⟨h1, h2, h3, h4⟩; exact ⟨h1, by omega, by omega, h4⟩
      · rintro ⟨h1, h2, h3, h4⟩
        by_cases e : x.2 = b
        · have ex : x = (a, b) := Prod.ext h1 e
          rw [ex] at h4; exact absurd h4 h
        · exact ⟨h1, by omega, by omega, h4⟩
theorem sorted_rtB {m : Int × Int} {a : Int} : ∀ (j : Nat) (b : Int), (rtB m a j b).Pairwise ltL := by
  intro j
  induction j with
  | zero => intro b; exact List.Pairwise.nil
  | succ j ih =>
    intro b
    rw [rtB]
    split
    · refine List.pairwise_cons.2 ⟨fun x hx => ?_, ih _⟩
      obtain ⟨h1, h2, -, -⟩ := (mem_rtB _ _ _).1 hx
      exact .inr ⟨h1.symm, by dsimp only; omega⟩
    · exact ih _
theorem mem_rtA {m : Int × Int} {n : Nat} {lo : Int} : ∀ (i : Nat) (a : Int) (x : Int × Int), x ∈ rtA m n lo i a ↔ a ≤ x.1 ∧ x.1 < a + i ∧ lo ≤ x.2 ∧ x.2 < lo + n ∧ rs m x = x := by
  intro i
  induction i with
  | zero => intro a x; simp only [rtA, List.not_mem_nil, false_iff]; omega
  | succ i ih =>
    intro a x
    rw [rtA, List.mem_append, mem_rtB, ih]
    constructor
    · rintro (⟨h1, h2, h3, h4⟩ | ⟨h1, h2, h3, h4, h5⟩)
      · exact ⟨by omega, by omega, h2, h3, h4⟩
      · exact ⟨by omega, by omega, h3, h4, h5⟩
    · rintro ⟨h1, h2, h3, h4, h5⟩
      by_cases e : x.1 = a
      · exact .inl ⟨e, h3, h4, h5⟩
      · exact .inr ⟨by omega, by omega, h3, h4, h5⟩
theorem sorted_rtA {m : Int × Int} {n : Nat} {lo : Int} : ∀ (i : Nat) (a : Int), (rtA m n lo i a).Pairwise ltL := by
  intro i
  induction i with
  | zero => intro a; exact List.Pairwise.nil
  | succ i ih =>
    intro a
    rw [rtA, List.pairwise_append]
    refine ⟨sorted_rtB _ _, ih _, fun x hx y hy => ?_⟩
    obtain ⟨h1, -⟩ := (mem_rtB _ _ _).1 hx
    obtain ⟨h2, -⟩ := (mem_rtA _ _ _).1 hy
    exact .inl (by omega)
theorem rt_rests {m : Int × Int} {K : Nat} (hK : ∀ z, rs m z = z → -(K : Int) ≤ z.1 ∧ z.1 ≤ K ∧ -(K : Int) ≤ z.2 ∧ z.2 ≤ K) : Rests m (rtK m K) := by
  refine ⟨sorted_rtA _ _, fun z => ?_⟩
  unfold rtK
  rw [mem_rtA]
  constructor
  · exact fun h => h.2.2.2.2
  · intro h
    obtain ⟨h1, h2, h3, h4⟩ := hK z h
    exact ⟨by omega, by omega, by omega, by omega, h⟩
theorem md_nG {a b : Int} (h : mdO a b = true) : 0 < nG (a, b) ∧ nG (a, b) ≤ 100 := by
  obtain ⟨k, h1, h2⟩ := md_is h
  unfold nG; dsimp only; omega
theorem rtL_is {a b : Int} (h : mdO a b = true) : Rests (a, b) (rtL a b) := by
  obtain ⟨h1, h2⟩ := md_nG h
  unfold rtL
  rw [if_pos h]
  exact rt_rests fun z hz => by have := own_bd h1 h2 hz; omega
theorem rtL_no {a b : Int} (h : mdO a b = false) : rtL a b = [] := by unfold rtL; rw [h]; rfl
theorem rtL_len {a b : Int} (h : mdO a b = true) : ((rtL a b).length : Int) = nrm a b := by
  obtain ⟨h1, h2⟩ := md_nG h
  rw [(rtL_is h).len h1 h2, nrm_t (md_is h).1]; rfl
theorem rtL_bd (a b : Int) : (rtL a b).length ≤ 100 := by
  cases h : mdO a b
  · rw [rtL_no h]; simp
  · have h1 := rtL_len h
    have h2 := (md_is h).2.2
    rw [nrm_t (md_is h).1] at h1
    omega
/-- The square may be as small as the norm allows. -/
theorem rtK_is {a b : Int} {K : Nat} (h : mdO a b = true) (hK : a * a + b * b < 2 * (((K : Int) + 1) * ((K : Int) + 1))) : rtK (a, b) K = rtL a b := by
  obtain ⟨h1, h2⟩ := md_nG h
  refine Rests.one (rt_rests fun z hz => ?_) (rtL_is h)
  have hh := rs_nG h1 z
  rw [hz] at hh
  have e : nG z = z.1 * z.1 + z.2 * z.2 := rfl
  have e2 : nG (a, b) = a * a + b * b := rfl
  have n1 := sq_nn z.1
  have n2 := sq_nn z.2
  have key : ∀ x : Int, 2 * (x * x) ≤ a * a + b * b → -(K : Int) ≤ x ∧ x ≤ K := by
    intro x hx
    rcases Int.lt_or_le (K : Int) x with hk | hk
    · have := Int.mul_le_mul (a := (K : Int) + 1) (b := (K : Int) + 1) (c := x) (d := x) hk hk (by omega) (by omega); omega
    · rcases Int.lt_or_le x (-(K : Int)) with hk' | hk'
      · have := Int.mul_le_mul (a := (K : Int) + 1) (b := (K : Int) + 1) (c := -x) (d := -x) (by omega) (by omega) (by omega) (by omega)
        have e : -x * -x = x * x := by grind
        omega
      · omega
  have := key z.1 (by omega)
  have := key z.2 (by omega)
  omega
/-- What the law of RestsOf asks of two neighbours. -/
theorem rtL_next {a b x y p q : Int} {k : Nat} (h : mdO a b = true) (h1 : (rtL a b)[k]? = some (p, q)) (h2 : (rtL a b)[k + 1]? = some (x, y)) : smO x y p q a b = false ∧ (p < x ∨ p = x ∧ q < y) := by
  obtain ⟨k1, -, -⟩ := md_is h
  obtain ⟨h3, h4⟩ := md_nG h
  have hr := rtL_is h
  have hp := List.mem_of_getElem? h1
  have hx := List.mem_of_getElem? h2
  obtain ⟨l1, e1⟩ := List.getElem?_eq_some_iff.1 h1
  obtain ⟨l2, e2⟩ := List.getElem?_eq_some_iff.1 h2
  have hlt := List.pairwise_iff_getElem.1 hr.sorted k (k + 1) l1 l2 (by omega)
  rw [e1, e2] at hlt
  have o1 := (hr.mem _).1 hp
  have o2 := (hr.mem _).1 hx
  have b1 := own_bd h3 h4 o1
  have b2 := own_bd h3 h4 o2
  refine ⟨?_, hlt⟩
  rw [sm_is (gok_sml (by omega) (by omega) (by omega) (by omega)) (gok_sml (by omega) (by omega) (by omega) (by omega)) k1 h3, o1, o2, decide_eq_false_iff_not]
  intro e
  rw [e] at hlt
  exact ltL_irr _ hlt
theorem rtL_half {a b x y : Int} {k : Nat} (h : mdO a b = true) (h1 : (rtL a b)[k]? = some (x, y)) : 0 ≤ nrm x y ∧ nrm x y ≤ 1000 ∧ 2 * nrm x y ≤ nrm a b := by
  obtain ⟨k1, -, -⟩ := md_is h
  obtain ⟨h3, h4⟩ := md_nG h
  have hr := rtL_is h
  have o1 := (hr.mem _).1 (List.mem_of_getElem? h1)
  have b1 := own_bd h3 h4 o1
  have hg := rs_nG h3 (x, y)
  rw [o1] at hg
  have kx : gok x y = true := gok_sml (by omega) (by omega) (by omega) (by omega)
  rw [nrm_t kx, nrm_t k1]
  have n1 := sq_nn x
  have n2 := sq_nn y
  change 2 * (x * x + y * y) ≤ a * a + b * b at hg
  change a * a + b * b ≤ 100 at h4
  omega
end Go.Proofs.Ytggebkgfldmipaa
