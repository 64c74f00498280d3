import Derived.Test.YtahnkecdningnaaMi
import Derived.Test.YtahnkecdningnaaPe
namespace Go.Proofs.Ytahnkecdningnaa
open Go Go.RowKit

/-- Between two rounds of squaring; what is squared may be none of the rests. -/
structure Sq2 (m z : Int × Int) (n : Nat) (out now : Int × Int) (left : Nat) : Prop where
  own : rs m out = out
  val : rs m (mu out (pw now left)) = rs m (pw z n)
theorem Sq2.start {m : Int × Int} (hm : 0 < nG m) (z : Int × Int) (n : Nat) : Sq2 m z n (rs m (1, 0)) z n := ⟨rs_idem hm _, by rw [rs_mu_left hm, mu_one]⟩
theorem Sq2.start' {m : Int × Int} (hm : 0 < nG m) (z : Int × Int) (n : Nat) : Sq2 m z n (rs m (1, 0)) (rs m z) n := ⟨rs_idem hm _, by rw [rs_mu_left hm, mu_one, pw_cong hm (rs_idem hm z)]⟩
theorem Sq2.odd {m z out now : Int × Int} {n left : Nat} (hm : 0 < nG m) (h : Sq2 m z n out now left) (ho : left % 2 = 1) : Sq2 m z n (rs m (mu out now)) (rs m (mu now now)) (left / 2) := by
  refine ⟨rs_idem hm _, ?_⟩
  rw [← h.val, rs_mu_left hm, rs_cong_right hm (pw_cong hm (rs_idem hm (mu now now)) _), pw_sq]
  conv => rhs; rw [show left = 2 * (left / 2) + 1 by omega, pw, ← mu_assoc]
theorem Sq2.even {m z out now : Int × Int} {n left : Nat} (hm : 0 < nG m) (h : Sq2 m z n out now left) (ho : left % 2 = 0) : Sq2 m z n out (rs m (mu now now)) (left / 2) := by
  refine ⟨h.own, ?_⟩
  rw [← h.val, rs_cong_right hm (pw_cong hm (rs_idem hm (mu now now)) _), pw_sq]
  conv => rhs; rw [show left = 2 * (left / 2) by omega]
theorem Sq2.done {m z out now : Int × Int} {n : Nat} (h : Sq2 m z n out now 0) : rs m (pw z n) = out := by
  rw [← h.val, pw, mu_one_right, h.own]

/-- Is a power told. -/
def pwO (a b n e f : Int) : Bool := gok a b && decide (0 ≤ n ∧ n ≤ 1000) && mdO e f
/-- What PowerOf tells. -/
structure PwIs (a b n e f : Int) (o : Bool) (x y : Int) : Prop where
  is : o = pwO a b n e f
  no : o = false → x = 0 ∧ y = 0
  val : o = true → rs (e, f) (pw (a, b) n.toNat) = (x, y)
theorem pw_is (a b n e f : Int) : ∃ o x y, PwIs a b n e f o x y := by
  cases h : pwO a b n e f
  · exact ⟨false, 0, 0, h.symm, fun _ => ⟨rfl, rfl⟩, fun h => by cases h⟩
  · exact ⟨true, _, _, h.symm, fun h => (by cases h), fun _ => rfl⟩
theorem pwO_is {a b n e f : Int} (h : pwO a b n e f = true) : gok a b = true ∧ 0 ≤ n ∧ n ≤ 1000 ∧ mdO e f = true := by
  simp only [pwO, Bool.and_eq_true, decide_eq_true_eq] at h
  exact ⟨h.1.1, h.1.2.1, h.1.2.2, h.2⟩
theorem PwIs.none {a b n e f x y : Int} {o : Bool} (h : PwIs a b n e f o x y) (ho : pwO a b n e f = false) : o = false ∧ x = 0 ∧ y = 0 := by
  have e := h.is; rw [ho] at e; exact ⟨e, h.no e⟩
theorem PwIs.some {a b n e f x y : Int} {o : Bool} (h : PwIs a b n e f o x y) (ho : pwO a b n e f = true) : o = true ∧ rs (e, f) (pw (a, b) n.toNat) = (x, y) := by
  have e := h.is; rw [ho] at e; exact ⟨e, h.val e⟩
theorem PwIs.mk' {a b n e f x y : Int} (ho : pwO a b n e f = true) (h : rs (e, f) (pw (a, b) n.toNat) = (x, y)) : PwIs a b n e f true x y := ⟨ho.symm, fun h => (by cases h), fun _ => h⟩
/-- One time more is times the number. -/
theorem PwIs.next {a b n e f x y u v p q : Int} (h : PwIs a b n e f true x y) (h' : PwIs a b (n + 1) e f true u v) (hm : MuIs x y a b e f true p q) : u = p ∧ v = q := by
  obtain ⟨k, n0, n1, hd⟩ := pwO_is h.is.symm
  have hp := (md_nG hd).1
  have e1 := h.val rfl
  have e2 := h'.val rfl
  obtain ⟨-, e3⟩ := muv_val.1 hm
  rw [rs_mu hp] at e3
  have : (n + 1).toNat = n.toNat + 1 := by omega
  rw [this, pw, mu_comm, ← rs_mu_left hp, e1, e3] at e2
  injection e2 with g1 g2
  exact ⟨g1.symm, g2.symm⟩
/-- A rest of a modulus is a number. -/
theorem own_gok {e f x y : Int} (hd : mdO e f = true) (h : rs (e, f) (x, y) = (x, y)) : gok x y = true := by
  obtain ⟨h3, h4⟩ := md_nG hd
  have b1 := own_bd h3 h4 h
  exact gok_sml (by omega) (by omega) (by omega) (by omega)
theorem PwIs.own {a b n e f x y : Int} (h : PwIs a b n e f true x y) : rs (e, f) (x, y) = (x, y) := by
  obtain ⟨-, -, -, hd⟩ := pwO_is h.is.symm
  rw [← h.val rfl, rs_idem (md_nG hd).1]

/-- What UndoneBy tells. -/
structure UnIs (a b e f : Int) (o : Bool) (x y : Int) : Prop where
  is : o = (mdO e f && apO a b e f)
  no : o = false → x = 0 ∧ y = 0
  own : o = true → rs (e, f) (x, y) = (x, y)
  val : o = true → rs (e, f) (mu (a, b) (x, y)) = rs (e, f) (1, 0)
theorem UnIs.one {a b e f x y u v : Int} {o o' : Bool} (h : UnIs a b e f o x y) (h' : UnIs a b e f o' u v) : o = o' ∧ x = u ∧ y = v := by
  have e : o = o' := h.is.trans h'.is.symm
  subst e
  cases o
  · have := h.no rfl; have := h'.no rfl; exact ⟨rfl, by omega, by omega⟩
  · have ho := h.is.symm
    simp only [Bool.and_eq_true] at ho
    obtain ⟨hd, ha⟩ := ho
    obtain ⟨k1, k2⟩ := ap_ok ha
    have hp := (md_nG hd).1
    have hi := (inv_ap k1 k2 hp).1 ha
    have hc := hi.cancel hp ((h.val rfl).trans (h'.val rfl).symm)
    rw [h.own rfl, h'.own rfl] at hc
    injection hc with g1 g2
    exact ⟨rfl, g1, g2⟩
theorem un_mk {a b e f : Int} {w : Int × Int} (hd : mdO e f = true) (ha : apO a b e f = true) (hw : rs (e, f) (mu (a, b) w) = rs (e, f) (1, 0)) : UnIs a b e f true (rs (e, f) w).1 (rs (e, f) w).2 :=
  ⟨by rw [hd, ha]; rfl, fun h => (by cases h), fun _ => rs_idem (md_nG hd).1 w, fun _ => by rw [← hw]; exact rs_mu_right (md_nG hd).1 _ _⟩
theorem un_is (a b e f : Int) : ∃ o x y, UnIs a b e f o x y := by
  cases h : (mdO e f && apO a b e f)
  · exact ⟨false, 0, 0, h.symm, fun _ => ⟨rfl, rfl⟩, fun h => (by cases h), fun h => by cases h⟩
  · simp only [Bool.and_eq_true] at h
    obtain ⟨hd, ha⟩ := h
    obtain ⟨k1, k2⟩ := ap_ok ha
    obtain ⟨w, hw⟩ := (inv_ap k1 k2 (md_nG hd).1).1 ha
    exact ⟨_, _, _, un_mk hd ha hw⟩
/-- It is undone by the rest of the number. -/
theorem UnIs.back {a b e f x y : Int} (h : UnIs a b e f true x y) : UnIs x y e f true (rs (e, f) (a, b)).1 (rs (e, f) (a, b)).2 := by
  have ho := h.is.symm
  simp only [Bool.and_eq_true] at ho
  obtain ⟨hd, ha⟩ := ho
  obtain ⟨k1, k2⟩ := ap_ok ha
  have hp := (md_nG hd).1
  have e := h.val rfl
  rw [mu_comm] at e
  exact un_mk hd ((inv_ap (own_gok hd (h.own rfl)) k2 hp).2 ⟨_, e⟩) e
/-- What the search meets: a rest whose product leaves the rest of 1. -/
theorem UnIs.found {a b e f x y u v : Int} {o : Bool} (h : UnIs a b e f o x y) (k1 : gok a b = true) (hd : mdO e f = true) (hu : rs (e, f) (u, v) = (u, v)) (hm : rs (e, f) (mu (rs (e, f) (a, b)) (u, v)) = rs (e, f) (1, 0)) : o = true ∧ x = u ∧ y = v := by
  have hp := (md_nG hd).1
  rw [rs_mu_left hp] at hm
  have ha := (inv_ap k1 (md_is hd).1 hp).2 ⟨_, hm⟩
  have g := un_mk hd ha hm
  rw [hu] at g
  exact h.one g
/-- And where it meets none. -/
theorem UnIs.lost {a b e f x y : Int} {o : Bool} (h : UnIs a b e f o x y) (hd : mdO e f = true) (hl : ∀ r ∈ rtL e f, rs (e, f) (mu (rs (e, f) (a, b)) r) ≠ rs (e, f) (1, 0)) : o = false ∧ x = 0 ∧ y = 0 := by
  cases o
  · exact ⟨rfl, h.no rfl⟩
  · exfalso
    refine hl (x, y) (((rtL_is hd).mem _).2 (h.own rfl)) ?_
    rw [rs_mu_left (md_nG hd).1]; exact h.val rfl

/-- The rests that are apart from the modulus can be undone. -/
theorem und_rests {e f : Int} (hd : mdO e f = true) : Undo (e, f) ((rtL e f).filter fun r => apO r.1 r.2 e f) := by
  have hr := rtL_is hd
  have hp := (md_nG hd).1
  refine ⟨(nodup_of_ltL hr.sorted).sublist List.filter_sublist, fun z => ?_⟩
  rw [List.mem_filter, hr.mem]
  constructor
  · rintro ⟨h1, h2⟩; exact ⟨h1, (inv_ap (own_gok hd h1) (md_is hd).1 hp).1 h2⟩
  · rintro ⟨h1, h2⟩; exact ⟨h1, (inv_ap (own_gok hd h1) (md_is hd).1 hp).2 h2⟩
theorem least_of {P : Nat → Prop} : ∀ n : Nat, 0 < n → P n → ∃ k, 0 < k ∧ k ≤ n ∧ P k ∧ ∀ j, 0 < j → j < k → ¬ P j := by
  intro n
  induction n using Nat.strongRecOn with
  | _ n ih =>
    intro h0 hn
    by_cases h : ∃ j, 0 < j ∧ j < n ∧ P j
    · obtain ⟨j, j0, jn, hj⟩ := h
      obtain ⟨k, k0, kj, hk, hl⟩ := ih j jn j0 hj
      exact ⟨k, k0, by omega, hk, hl⟩
    · exact ⟨n, h0, Nat.le_refl _, hn, fun j j0 jn hj => h ⟨j, j0, jn, hj⟩⟩
/-- The least power that is the rest of 1. -/
structure Ord (m z : Int × Int) (k : Nat) : Prop where
  pos : 0 < k
  le : k ≤ 100
  one : rs m (pw z k) = rs m (1, 0)
  least : ∀ j, 0 < j → j < k → rs m (pw z j) ≠ rs m (1, 0)
/-- What OrderOf tells. -/
def OdIs (a b e f n : Int) : Prop := ((mdO e f && apO a b e f) = false ∧ n = -1) ∨ ((mdO e f && apO a b e f) = true ∧ ∃ k : Nat, n = k ∧ Ord (e, f) (a, b) k)
theorem ord_any {a b e f : Int} (hd : mdO e f = true) (ha : apO a b e f = true) : ∃ k, Ord (e, f) (a, b) k := by
  obtain ⟨k1, k2⟩ := ap_ok ha
  have hp := (md_nG hd).1
  have hu := und_rests hd
  have he := hu.euler hp ((inv_ap k1 k2 hp).1 ha)
  have hlen : ((rtL e f).filter fun r => apO r.1 r.2 e f).length ≤ 100 := Nat.le_trans (List.length_filter_le _ _) (rtL_bd e f)
  have hpos : 0 < ((rtL e f).filter fun r => apO r.1 r.2 e f).length := List.length_pos_of_mem ((hu.mem (rs (e, f) (1, 0))).2 ⟨rs_idem hp _, (inv_rs hp).2 inv_one⟩)
  obtain ⟨k, k0, kl, h1, h2⟩ := least_of (P := fun k => rs (e, f) (pw (a, b) k) = rs (e, f) (1, 0)) _ hpos he
  exact ⟨k, k0, by omega, h1, h2⟩
theorem od_any (a b e f : Int) : ∃ n, OdIs a b e f n := by
  cases h : (mdO e f && apO a b e f)
  · exact ⟨-1, .inl ⟨h, rfl⟩⟩
  · have h' := h
    simp only [Bool.and_eq_true] at h'
    obtain ⟨k, hk⟩ := ord_any h'.1 h'.2
    exact ⟨k, .inr ⟨h, k, rfl, hk⟩⟩
theorem OdIs.none {a b e f n : Int} (h : OdIs a b e f n) (ho : (mdO e f && apO a b e f) = false) : n = -1 := by
  rcases h with ⟨-, h⟩ | ⟨h, -⟩
  · exact h
  · rw [ho] at h; cases h
theorem OdIs.some {a b e f n : Int} (h : OdIs a b e f n) (ho : (mdO e f && apO a b e f) = true) : ∃ k : Nat, n = k ∧ Ord (e, f) (a, b) k := by
  rcases h with ⟨h, -⟩ | ⟨-, h⟩
  · rw [ho] at h; cases h
  · exact h
/-- Who is not apart has no power that is the rest of 1. -/
theorem no_power {a b e f : Int} {k : Nat} (k1 : gok a b = true) (hd : mdO e f = true) (ha : apO a b e f = false) (h0 : 0 < k) : rs (e, f) (pw (a, b) k) ≠ rs (e, f) (1, 0) := by
  intro h
  obtain ⟨j, rfl⟩ : ∃ j, k = j + 1 := ⟨k - 1, by omega⟩
  have := (inv_ap k1 (md_is hd).1 (md_nG hd).1).2 ⟨pw (a, b) j, h⟩
  rw [ha] at this; cases this
/-- The next power, as both sides reckon it. -/
theorem pw_step {m z p : Int × Int} {k : Nat} (hm : 0 < nG m) (h : rs m (pw z k) = p) : rs m (mu p z) = rs m (pw z (k + 1)) := by
  rw [← h, rs_mu_left hm, pw, mu_comm]
end Go.Proofs.Ytahnkecdningnaa

namespace Go.Proofs.Ytahnkecdningnaa
open Go Go.RowKit

/-- What the search for an order meets. -/
theorem OdIs.found {a b e f n : Int} {k : Nat} (h : OdIs a b e f n) (k1 : gok a b = true) (hd : mdO e f = true) (h0 : 0 < k) (h1 : rs (e, f) (pw (a, b) k) = rs (e, f) (1, 0)) (hl : ∀ j, 0 < j → j < k → rs (e, f) (pw (a, b) j) ≠ rs (e, f) (1, 0)) : n = k := by
  have ha : apO a b e f = true := by
    cases ha : apO a b e f
    · exact absurd h1 (no_power k1 hd ha h0)
    · rfl
  obtain ⟨j, rfl, hj⟩ := h.some (by rw [hd, ha]; rfl)
  rcases Nat.lt_trichotomy j k with g | rfl | g
  · exact absurd hj.one (hl j hj.pos g)
  · rfl
  · exact absurd h1 (hj.least k h0 g)
/-- And where it meets none. -/
theorem OdIs.lost {a b e f n : Int} (h : OdIs a b e f n) (hl : ∀ j, 0 < j → j < 101 → rs (e, f) (pw (a, b) j) ≠ rs (e, f) (1, 0)) : n = -1 := by
  rcases h with ⟨-, h⟩ | ⟨-, k, rfl, hk⟩
  · exact h
  · exact absurd hk.one (hl k hk.pos (by have := hk.le; omega))
end Go.Proofs.Ytahnkecdningnaa
