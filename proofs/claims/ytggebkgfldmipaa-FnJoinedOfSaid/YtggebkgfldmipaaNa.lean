import Derived.Test.YtggebkgfldmipaaMi
import Derived.Test.YtggebkgfldmipaaPe
import Derived.Test.YtggebkgfldmipaaOk
namespace Go.Proofs.Ytggebkgfldmipaa
open Go Go.RowKit

/-- Two modules that are a pair. -/
def paO (e f g h : Int) : Bool := mdO e f && mdO g h && apO e f g h && mdO (e * g - f * h) (e * h + f * g)
theorem pa_is {e f g h : Int} (k : paO e f g h = true) : mdO e f = true ∧ mdO g h = true ∧ apO e f g h = true ∧ mdO (e * g - f * h) (e * h + f * g) = true := by
  simp only [paO, Bool.and_eq_true] at k
  exact ⟨k.1.1.1, k.1.1.2, k.1.2, k.2⟩
theorem pa_bez {e f g h : Int} (k : paO e f g h = true) : bez (e, f) (g, h) := by
  obtain ⟨h1, h2, h3, -⟩ := pa_is k
  exact (bez_ap (md_is h1).1 (md_is h2).1).1 h3
theorem pa_swap (e f g h : Int) : paO g h e f = paO e f g h := by
  unfold paO
  rw [ap_swap e f g h, show g * e - h * f = e * g - f * h by grind, show g * f + h * e = e * h + f * g by grind]
  cases mdO e f <;> cases mdO g h <;> rfl
theorem ap_one {e f : Int} (k : gok e f = true) : apO e f 1 0 = true :=
  (bez_ap k (by decide)).2 ⟨(0, 0), (1, 0), by unfold pa mu; simp⟩
theorem pa_one (e f : Int) : paO e f 1 0 = mdO e f := by
  unfold paO
  rw [show mdO 1 0 = true by decide, show e * 1 - f * 0 = e by omega, show e * 0 + f * 1 = f by omega]
  cases h : mdO e f
  · rfl
  · rw [ap_one (md_is h).1]; rfl
theorem pa_ti {e f g h : Int} (k : paO e f g h = true) : TiIs e f g h true (e * g - f * h) (e * h + f * g) := by
  obtain ⟨h1, h2, -, h4⟩ := pa_is k
  obtain ⟨t1, t2, t3⟩ := tiO_t (md_is h1).1 (md_is h2).1 (md_is h4).1
  exact ⟨t1, t2, t3⟩
/-- What JoinedOf tells. -/
structure JoIs (a b c d e f g h : Int) (o : Bool) (x y : Int) : Prop where
  is : o = (gok a b && gok c d && paO e f g h)
  no : o = false → x = 0 ∧ y = 0
  val : o = true → Join (e, f) (g, h) (a, b) (c, d) (x, y)
theorem jo_all {o : Bool} {a b c d e f g h x y : Int} (k : JoIs a b c d e f g h o x y) (ho : o = true) : gok a b = true ∧ gok c d = true ∧ paO e f g h = true := by
  have e := k.is
  rw [ho] at e
  have e' := e.symm
  simp only [Bool.and_eq_true] at e'
  exact ⟨e'.1.1, e'.1.2, e'.2⟩
theorem pa_pos {e f g h : Int} (k : paO e f g h = true) : 0 < nG (e, f) ∧ 0 < nG (g, h) := ⟨(md_nG (pa_is k).1).1, (md_nG (pa_is k).2.1).1⟩
/-- There is one such number. -/
theorem jo_some {e f g h : Int} (z w : Int × Int) (k : paO e f g h = true) : ∃ x y, Join (e, f) (g, h) z w (x, y) := by
  obtain ⟨s, t, hst⟩ := pa_bez k
  obtain ⟨p1, p2⟩ := pa_pos k
  exact ⟨_, _, Join.mk' (z := z) (w := w) p1 p2 hst⟩
theorem jo_one {e f g h : Int} {z w x y : Int × Int} (k : paO e f g h = true) (h1 : Join (e, f) (g, h) z w x) (h2 : Join (e, f) (g, h) z w y) : x = y := Join.one (pa_bez k) (pa_pos k).1 (pa_pos k).2 h1 h2
theorem jo_is (a b c d e f g h : Int) : ∃ o x y, JoIs a b c d e f g h o x y := by
  cases k : (gok a b && gok c d && paO e f g h)
  · exact ⟨false, 0, 0, k.symm, fun _ => ⟨rfl, rfl⟩, fun h => by cases h⟩
  · have k' := k
    simp only [Bool.and_eq_true] at k'
    obtain ⟨x, y, hxy⟩ := jo_some (a, b) (c, d) k'.2
    exact ⟨true, x, y, k.symm, fun h => (by cases h), fun _ => hxy⟩
theorem JoIs.one {a b c d e f g h x y u v : Int} {o o' : Bool} (k : JoIs a b c d e f g h o x y) (k' : JoIs a b c d e f g h o' u v) : o = o' ∧ x = u ∧ y = v := by
  have e : o = o' := k.is.trans k'.is.symm
  subst e
  cases o
  · have := k.no rfl; have := k'.no rfl; exact ⟨rfl, by omega, by omega⟩
  · have := jo_one (jo_all k rfl).2.2 (k.val rfl) (k'.val rfl)
    injection this with g1 g2
    exact ⟨rfl, g1, g2⟩
theorem JoIs.mk' {a b c d e f g h x y : Int} (k1 : gok a b = true) (k2 : gok c d = true) (k3 : paO e f g h = true) (hj : Join (e, f) (g, h) (a, b) (c, d) (x, y)) : JoIs a b c d e f g h true x y :=
  ⟨by rw [k1, k2, k3]; rfl, fun h => (by cases h), fun _ => hj⟩
/-- The product as a modulus. -/
theorem pa_both {e f g h : Int} (k : paO e f g h = true) : mdO (e * g - f * h) (e * h + f * g) = true ∧ ((e * g - f * h, e * h + f * g) : Int × Int) = mu (e, f) (g, h) := ⟨(pa_is k).2.2.2, rfl⟩
/-- A rest of a modulus is a number (for the product of both). -/
theorem jo_gok {e f g h x y : Int} {z w : Int × Int} (k : paO e f g h = true) (hj : Join (e, f) (g, h) z w (x, y)) : gok x y = true := by
  have hd := (pa_both k).1
  obtain ⟨h3, h4⟩ := md_nG hd
  have b1 := own_bd h3 h4 (show rs (e * g - f * h, e * h + f * g) (x, y) = (x, y) from hj.own)
  exact gok_sml (by omega) (by omega) (by omega) (by omega)
theorem rs_gok {e f x y : Int} {z : Int × Int} (hd : mdO e f = true) (h : rs (e, f) z = (x, y)) : gok x y = true := by
  obtain ⟨h3, h4⟩ := md_nG hd
  have b1 := own_bd h3 h4 (z := (x, y)) (by rw [← h, rs_idem h3])
  exact gok_sml (by omega) (by omega) (by omega) (by omega)
/-- What the law of JoinedOf asks. -/
theorem jo_law {a b c d e f g h x y : Int} (k : JoIs a b c d e f g h true x y) : ∃ p q r s, rs (e, f) (x, y) = (p, q) ∧ rs (g, h) (x, y) = (r, s) ∧ JoIs p q r s e f g h true x y ∧ RsIs x y (e * g - f * h) (e * h + f * g) true x y ∧ smO x y a b e f = true ∧ smO x y c d g h = true ∧ gok x y = true := by
  obtain ⟨k1, k2, k3⟩ := jo_all k rfl
  obtain ⟨h1, h2, h3, h4⟩ := pa_is k3
  obtain ⟨p1, p2⟩ := pa_pos k3
  have hj := k.val rfl
  have kx := jo_gok k3 hj
  refine ⟨_, _, _, _, rfl, rfl, JoIs.mk' (rs_gok h1 rfl) (rs_gok h2 rfl) k3 (hj.back p1 p2), rs_mk hj.own kx (md_is h4).1 (md_nG h4).1, ?_, ?_, kx⟩
  · rw [sm_is kx k1 (md_is h1).1 p1, hj.left]; simp
  · rw [sm_is kx k2 (md_is h2).1 p2, hj.right]; simp
/-- What the law of PartedOf asks. -/
theorem pt_law {a b e f g h p q r s x y : Int} (k3 : paO e f g h = true) (hp : rs (e, f) (a, b) = (p, q)) (hr : rs (g, h) (a, b) = (r, s)) (hx : rs (e * g - f * h, e * h + f * g) (a, b) = (x, y)) : JoIs p q r s e f g h true x y := by
  obtain ⟨h1, h2, h3, h4⟩ := pa_is k3
  obtain ⟨p1, p2⟩ := pa_pos k3
  refine JoIs.mk' (rs_gok h1 hp) (rs_gok h2 hr) k3 ?_
  rw [← hp, ← hr, ← hx]
  exact Join.rest p1 p2 (a, b)
theorem pt_mul {a b c d e f g h p q : Int} (k3 : paO e f g h = true) (hp : rs (e * g - f * h, e * h + f * g) (mu (a, b) (c, d)) = (p, q)) : rs (e, f) (p, q) = rs (e, f) (mu (a, b) (c, d)) ∧ rs (g, h) (p, q) = rs (g, h) (mu (a, b) (c, d)) := by
  obtain ⟨p1, p2⟩ := pa_pos k3
  rw [← hp]
  exact ⟨rs_part (n := (g, h)) p1 _, rs_part' (m := (e, f)) p2 _⟩
/-- What the law of CarriersOf asks. -/
theorem cr_law {e f g h x y u v i j : Int} (k3 : paO e f g h = true) (h1 : Join (e, f) (g, h) (1, 0) (0, 0) (x, y)) (h2 : Join (e, f) (g, h) (0, 0) (1, 0) (u, v)) (hi : rs (e * g - f * h, e * h + f * g) (1, 0) = (i, j)) :
    MuIs x y x y (e * g - f * h) (e * h + f * g) true x y ∧ MuIs u v u v (e * g - f * h) (e * h + f * g) true u v ∧ MuIs x y u v (e * g - f * h) (e * h + f * g) true 0 0 ∧ AdIs x y u v (e * g - f * h) (e * h + f * g) true i j := by
  obtain ⟨p1, p2⟩ := pa_pos k3
  have hd := (pa_both k3).1
  have hM := (md_nG hd).1
  have kx := jo_gok k3 h1
  have ku := jo_gok k3 h2
  have z0 : Join (e, f) (g, h) (0, 0) (0, 0) (0, 0) := by
    have r0 : ∀ m : Int × Int, 0 < nG m → rs m (0, 0) = (0, 0) := fun m hm => (rs_nought hm _).2 ⟨(0, 0), by rw [mu_zero]⟩
    exact ⟨r0 _ hM, rfl, rfl⟩
  have e1 : mu ((1 : Int), (0 : Int)) (1, 0) = (1, 0) := by decide
  have e2 : mu ((0 : Int), (0 : Int)) (0, 0) = (0, 0) := by decide
  have e3 : mu ((1 : Int), (0 : Int)) (0, 0) = (0, 0) := by decide
  have e4 : mu ((0 : Int), (0 : Int)) (1, 0) = (0, 0) := by decide
  have a1 : adO x y x y (e * g - f * h) (e * h + f * g) = true := by unfold adO; rw [kx, hd]; rfl
  have a2 : adO u v u v (e * g - f * h) (e * h + f * g) = true := by unfold adO; rw [ku, hd]; rfl
  have a3 : adO x y u v (e * g - f * h) (e * h + f * g) = true := by unfold adO; rw [kx, ku, hd]; rfl
  refine ⟨muv_val.2 ⟨a1, ?_⟩, muv_val.2 ⟨a2, ?_⟩, muv_val.2 ⟨a3, ?_⟩, adv_val.2 ⟨a3, ?_⟩⟩
  · rw [rs_mu hM]
    have m := Join.mul p1 p2 h1 h1
    rw [e1, e2] at m
    exact jo_one k3 m h1
  · rw [rs_mu hM]
    have m := Join.mul p1 p2 h2 h2
    rw [e1, e2] at m
    exact jo_one k3 m h2
  · rw [rs_mu hM]
    have m := Join.mul p1 p2 h1 h2
    rw [e3, e4] at m
    exact jo_one k3 m z0
  · rw [rs_add hM, ← hi]
    have m := Join.add p1 p2 h1 h2
    rw [show pa ((1 : Int), (0 : Int)) (0, 0) = (1, 0) by decide, show pa ((0 : Int), (0 : Int)) (1, 0) = (1, 0) by decide] at m
    have r := Join.rest p1 p2 ((1 : Int), (0 : Int))
    refine jo_one k3 m ⟨r.own, ?_, ?_⟩
    · exact r.left.trans (rs_idem p1 _)
    · exact r.right.trans (rs_idem p2 _)
/-- What PartedOf tells. -/
structure PtIs (a b e f g h : Int) (o : Bool) (p q r s : Int) : Prop where
  is : o = (gok a b && paO e f g h)
  no : o = false → p = 0 ∧ q = 0 ∧ r = 0 ∧ s = 0
  val : o = true → rs (e, f) (a, b) = (p, q) ∧ rs (g, h) (a, b) = (r, s)
theorem pt_is (a b e f g h : Int) : ∃ o p q r s, PtIs a b e f g h o p q r s := by
  cases k : (gok a b && paO e f g h)
  · exact ⟨false, 0, 0, 0, 0, k.symm, fun _ => ⟨rfl, rfl, rfl, rfl⟩, fun h => by cases h⟩
  · exact ⟨true, _, _, _, _, k.symm, fun h => (by cases h), fun _ => ⟨rfl, rfl⟩⟩
theorem pt_all {o : Bool} {a b e f g h p q r s : Int} (k : PtIs a b e f g h o p q r s) (ho : o = true) : gok a b = true ∧ paO e f g h = true := by
  have e := k.is
  rw [ho] at e
  have e' := e.symm
  simp only [Bool.and_eq_true] at e'
  exact e'
theorem PtIs.mk' {a b e f g h p q r s : Int} (k1 : gok a b = true) (k3 : paO e f g h = true) (h1 : rs (e, f) (a, b) = (p, q)) (h2 : rs (g, h) (a, b) = (r, s)) : PtIs a b e f g h true p q r s :=
  ⟨by rw [k1, k3]; rfl, fun h => (by cases h), fun _ => ⟨h1, h2⟩⟩
/-- What CarriersOf tells. -/
structure CrIs (e f g h : Int) (o : Bool) (x y u v : Int) : Prop where
  is : o = paO e f g h
  no : o = false → x = 0 ∧ y = 0 ∧ u = 0 ∧ v = 0
  val : o = true → Join (e, f) (g, h) (1, 0) (0, 0) (x, y) ∧ Join (e, f) (g, h) (0, 0) (1, 0) (u, v)
theorem cr_is (e f g h : Int) : ∃ o x y u v, CrIs e f g h o x y u v := by
  cases k : paO e f g h
  · exact ⟨false, 0, 0, 0, 0, k.symm, fun _ => ⟨rfl, rfl, rfl, rfl⟩, fun h => by cases h⟩
  · obtain ⟨x, y, h1⟩ := jo_some (1, 0) (0, 0) k
    obtain ⟨u, v, h2⟩ := jo_some (0, 0) (1, 0) k
    exact ⟨true, x, y, u, v, k.symm, fun h => (by cases h), fun _ => ⟨h1, h2⟩⟩
theorem md_of {e f : Int} (k : gok e f = true) (h1 : 0 < nG (e, f)) (h2 : nG (e, f) ≤ 100) : mdO e f = true := by
  unfold nG at h1 h2; dsimp only at h1 h2; simp [mdO, nrm, k]; omega
/-- PairOk, told from the product alone. -/
theorem md_parts2 {e f g h : Int} (hd : mdO (e * g - f * h) (e * h + f * g) = true) (k1 : gok e f = true) (k2 : gok g h = true) : mdO e f = true ∧ mdO g h = true := by
  obtain ⟨h3, h4⟩ := md_nG hd
  change 0 < nG (mu (e, f) (g, h)) at h3
  change nG (mu (e, f) (g, h)) ≤ 100 at h4
  rw [nG_mu] at h3 h4
  have n1 : 0 ≤ nG (e, f) := nG_nn _
  have n2 : 0 ≤ nG (g, h) := nG_nn _
  have p1 : 0 < nG (e, f) := by
    rcases Int.lt_or_le 0 (nG (e, f)) with k | k
    · exact k
    · have : nG (e, f) = 0 := by omega
      rw [this, Int.zero_mul] at h3; omega
  have p2 : 0 < nG (g, h) := by
    rcases Int.lt_or_le 0 (nG (g, h)) with k | k
    · exact k
    · have : nG (g, h) = 0 := by omega
      rw [this, Int.mul_zero] at h3; omega
  have b1 : nG (e, f) * 1 ≤ nG (e, f) * nG (g, h) := Int.mul_le_mul_of_nonneg_left p2 n1
  have b2 : 1 * nG (g, h) ≤ nG (e, f) * nG (g, h) := Int.mul_le_mul_of_nonneg_right p1 n2
  exact ⟨md_of k1 p1 (by omega), md_of k2 p2 (by omega)⟩
theorem pa_imp (e f g h : Int) : (mdO (tiA e f g h) (tiB e f g h) && apO e f g h) = paO e f g h := by
  cases k : tiO e f g h
  · have e1 : tiA e f g h = 0 := by simp [tiA, k]
    have e2 : tiB e f g h = 0 := by simp [tiB, k]
    rw [e1, e2, show mdO 0 0 = false by decide, Bool.false_and]
    cases hp : paO e f g h
    · rfl
    · have := (pa_ti hp).1
      rw [k] at this; cases this
  · have e1 : tiA e f g h = e * g - f * h := by simp [tiA, k]
    have e2 : tiB e f g h = e * h + f * g := by simp [tiB, k]
    rw [e1, e2]
    simp only [tiO, Bool.and_eq_true] at k
    unfold paO
    cases hd : mdO (e * g - f * h) (e * h + f * g)
    · rw [Bool.and_false, Bool.false_and]
    · obtain ⟨h1, h2⟩ := md_parts2 hd k.1.1 k.1.2
      rw [h1, h2]; cases apO e f g h <;> rfl
/-- The factors that FactorsFor tells of a pair. -/
theorem pa_sum {e f g h : Int} (k : paO e f g h = true) : coO e f g h = true ∧ Bd (ffA e f g h) ∧ Bd (ffB e f g h) ∧ Bd (ffC e f g h) ∧ Bd (ffD e f g h) ∧ pa (mu (ffA e f g h, ffB e f g h) (e, f)) (mu (ffC e f g h, ffD e f g h) (g, h)) = (1, 0) := by
  obtain ⟨-, -, h3, -⟩ := pa_is k
  simp only [apO, Bool.and_eq_true, beq_iff_eq] at h3
  obtain ⟨hc, c1, c2⟩ := h3
  obtain ⟨b1, b2, b3, b4⟩ := ff_bd4 hc
  obtain ⟨s1, s2⟩ := ff_sum hc
  rw [c1] at s1
  rw [c2] at s2
  refine ⟨hc, b1, b2, b3, b4, ?_⟩
  unfold pa mu
  exact Prod.ext (by dsimp only; exact s1) (by dsimp only; exact s2)
/-- How both sides join. -/
theorem jo_way {a b c d e f g h x y A B C D : Int} (k3 : paO e f g h = true) (hs : pa (mu (A, B) (e, f)) (mu (C, D) (g, h)) = (1, 0)) (hj : Join (e, f) (g, h) (a, b) (c, d) (x, y)) :
    rs (e * g - f * h, e * h + f * g) (pa (rs (e * g - f * h, e * h + f * g) (mu (rs (e * g - f * h, e * h + f * g) (mu (C, D) (g, h))) (a, b))) (rs (e * g - f * h, e * h + f * g) (mu (rs (e * g - f * h, e * h + f * g) (mu (A, B) (e, f))) (c, d)))) = (x, y) :=
  jo_one k3 (Join.mk' (pa_pos k3).1 (pa_pos k3).2 hs) hj
theorem gok_Bd {a b : Int} (k : gok a b = true) : Bd a ∧ Bd b := by
  simp only [gok, pok, Bool.and_eq_true, decide_eq_true_eq] at k
  unfold Bd
  omega
/-- The way of the program: both carriers first, by a modulus that is the product. -/
structure JW (a b c d e f g h X Y A B C D x y p q r s P1 P2 Q1 Q2 : Int) : Prop where
  hd : mdO X Y = true
  ke : gok e f = true
  kg : gok g h = true
  bA : Bd A
  bB : Bd B
  bC : Bd C
  bD : Bd D
  h1 : rs (X, Y) (mu (C, D) (g, h)) = (p, q)
  h2 : rs (X, Y) (mu (A, B) (e, f)) = (r, s)
  a1 : Bd a ∧ Bd b
  a2 : Bd c ∧ Bd d
  k1 : gok p q = true
  k2 : gok r s = true
  h3 : rs (X, Y) (mu (a, b) (p, q)) = (P1, P2)
  h4 : rs (X, Y) (mu (c, d) (r, s)) = (Q1, Q2)
  h5 : AdIs P1 P2 Q1 Q2 X Y true x y
theorem jw_is {a b c d e f g h x y : Int} (k1 : gok a b = true) (k2 : gok c d = true) (k3 : paO e f g h = true) (hj : Join (e, f) (g, h) (a, b) (c, d) (x, y)) :
    ∃ A B C D p q r s P1 P2 Q1 Q2, (coO e f g h = true ∧ ffA e f g h = A ∧ ffB e f g h = B ∧ ffC e f g h = C ∧ ffD e f g h = D) ∧ JW a b c d e f g h (e * g - f * h) (e * h + f * g) A B C D x y p q r s P1 P2 Q1 Q2 := by
  obtain ⟨hc, bA, bB, bC, bD, hs⟩ := pa_sum k3
  obtain ⟨m1, m2, -, hd⟩ := pa_is k3
  have hM := (md_nG hd).1
  have hw := jo_way k3 hs hj
  generalize ffA e f g h = A at *
  generalize ffB e f g h = B at *
  generalize ffC e f g h = C at *
  generalize ffD e f g h = D at *
  obtain ⟨p, q, h1⟩ : ∃ p q, rs (e * g - f * h, e * h + f * g) (mu (C, D) (g, h)) = (p, q) := ⟨_, _, rfl⟩
  obtain ⟨r, s, h2⟩ : ∃ r s, rs (e * g - f * h, e * h + f * g) (mu (A, B) (e, f)) = (r, s) := ⟨_, _, rfl⟩
  obtain ⟨P1, P2, h3⟩ : ∃ u v, rs (e * g - f * h, e * h + f * g) (mu (a, b) (p, q)) = (u, v) := ⟨_, _, rfl⟩
  obtain ⟨Q1, Q2, h4⟩ : ∃ u v, rs (e * g - f * h, e * h + f * g) (mu (c, d) (r, s)) = (u, v) := ⟨_, _, rfl⟩
  rw [h1, h2, mu_comm (p, q), mu_comm (r, s), h3, h4] at hw
  refine ⟨A, B, C, D, p, q, r, s, P1, P2, Q1, Q2, ⟨hc, rfl, rfl, rfl, rfl⟩, hd, (md_is m1).1, (md_is m2).1, bA, bB, bC, bD, h1, h2, gok_Bd k1, gok_Bd k2, rs_gok hd h1, rs_gok hd h2, h3, h4, adv_val.2 ⟨?_, ?_⟩⟩
  · unfold adO; rw [rs_gok hd h3, rs_gok hd h4, hd]; rfl
  · rw [rs_add hM]; exact hw
/-- Both carriers. -/
theorem cr_way {e f g h x y u v A B C D : Int} (k3 : paO e f g h = true) (hs : pa (mu (A, B) (e, f)) (mu (C, D) (g, h)) = (1, 0)) (h1 : Join (e, f) (g, h) (1, 0) (0, 0) (x, y)) (h2 : Join (e, f) (g, h) (0, 0) (1, 0) (u, v)) :
    rs (e * g - f * h, e * h + f * g) (mu (C, D) (g, h)) = (x, y) ∧ rs (e * g - f * h, e * h + f * g) (mu (A, B) (e, f)) = (u, v) := by
  have hM := (md_nG (pa_is k3).2.2.2).1
  have e1 := jo_way k3 hs h1
  have e2 := jo_way k3 hs h2
  rw [mu_one_right, mu_zero, rs_add hM, pa_zero, rs_idem hM] at e1
  rw [mu_zero, mu_one_right, rs_add hM, pa_comm, pa_zero, rs_idem hM] at e2
  exact ⟨e1, e2⟩
end Go.Proofs.Ytggebkgfldmipaa
