import Derived.Test.YtggebkgfldmipaaMf
namespace Go.Proofs.Ytggebkgfldmipaa
open Go Go.RowKit

theorem mu_one_right (x : Int × Int) : mu x (1, 0) = x := by rw [mu_comm, mu_one]
theorem rs_mu_right {m : Int × Int} (hm : 0 < nG m) (z w : Int × Int) : rs m (mu z (rs m w)) = rs m (mu z w) := by
  rw [mu_comm, rs_mu_left hm, mu_comm]
theorem rs_cong {m z z' : Int × Int} (hm : 0 < nG m) (h : rs m z = rs m z') (w : Int × Int) : rs m (mu z w) = rs m (mu z' w) := by
  rw [← rs_mu_left hm, h, rs_mu_left hm]
theorem rs_cong_right {m z z' : Int × Int} (hm : 0 < nG m) (h : rs m z = rs m z') (w : Int × Int) : rs m (mu w z) = rs m (mu w z') := by
  rw [mu_comm, rs_cong hm h, mu_comm]
theorem pw_cong {m z z' : Int × Int} (hm : 0 < nG m) (h : rs m z = rs m z') (n : Nat) : rs m (pw z n) = rs m (pw z' n) := by
  induction n with
  | zero => rfl
  | succ n ih => rw [pw, pw, rs_cong hm h, rs_cong_right hm ih]
theorem pw_sq (x : Int × Int) (k : Nat) : pw (mu x x) k = pw x (2 * k) := by
  induction k with
  | zero => rfl
  | succ k ih => rw [show 2 * (k + 1) = 2 * k + 1 + 1 by omega, pw, pw, pw, ih, mu_assoc]
theorem pw_mu (x y : Int × Int) (k : Nat) : pw (mu x y) k = mu (pw x k) (pw y k) := by
  induction k with
  | zero => exact (mu_one _).symm
  | succ k ih => rw [pw, pw, pw, ih, mu_assoc, mu_assoc, ← mu_assoc y, mu_comm y, mu_assoc]
theorem pw_one (k : Nat) : pw (1, 0) k = (1, 0) := by
  induction k with
  | zero => rfl
  | succ k ih => rw [pw, ih, mu_one]
theorem pw_pw (x : Int × Int) (n k : Nat) : pw (pw x n) k = pw x (n * k) := by
  induction k with
  | zero => rfl
  | succ k ih => rw [pw, ih, ← pw_add, Nat.mul_succ, Nat.add_comm]
/-- What holds between two rounds of squaring. -/
structure Squaring (m z : Int × Int) (n : Nat) (out now : Int × Int) (left : Nat) : Prop where
  own1 : rs m out = out
  own2 : rs m now = now
  val : rs m (mu out (pw now left)) = rs m (pw z n)
theorem Squaring.start {m : Int × Int} (hm : 0 < nG m) (z : Int × Int) (n : Nat) : Squaring m z n (rs m (1, 0)) (rs m z) n :=
  ⟨rs_idem hm _, rs_idem hm _, by rw [rs_mu_left hm, mu_one, pw_cong hm (rs_idem hm z)]⟩
theorem Squaring.odd {m z out now : Int × Int} {n left : Nat} (hm : 0 < nG m) (h : Squaring m z n out now left) (ho : left % 2 = 1) : Squaring m z n (rs m (mu out now)) (rs m (mu now now)) (left / 2) := by
  refine ⟨rs_idem hm _, rs_idem hm _, ?_⟩
  rw [← h.val, rs_mu_left hm, rs_cong_right hm (pw_cong hm (rs_idem hm (mu now now)) _), pw_sq]
  conv => rhs; rw [show left = 2 * (left / 2) + 1 by omega, pw, ← mu_assoc]
theorem Squaring.even {m z out now : Int × Int} {n left : Nat} (hm : 0 < nG m) (h : Squaring m z n out now left) (ho : left % 2 = 0) : Squaring m z n out (rs m (mu now now)) (left / 2) := by
  refine ⟨h.own1, rs_idem hm _, ?_⟩
  rw [← h.val, rs_cong_right hm (pw_cong hm (rs_idem hm (mu now now)) _), pw_sq]
  conv => rhs; rw [show left = 2 * (left / 2) by omega]
theorem Squaring.done {m z out now : Int × Int} {n : Nat} (h : Squaring m z n out now 0) : out = rs m (pw z n) := by
  rw [← h.val, pw, mu_one_right, h.own1]
/-- A number that can be undone by a modulus. -/
def inv (m z : Int × Int) : Prop := ∃ w, rs m (mu z w) = rs m (1, 0)
theorem inv.mul {m z w : Int × Int} (hm : 0 < nG m) (h : inv m z) (h' : inv m w) : inv m (mu z w) := by
  obtain ⟨x, hx⟩ := h
  obtain ⟨y, hy⟩ := h'
  refine ⟨mu x y, ?_⟩
  rw [show mu (mu z w) (mu x y) = mu (mu z x) (mu w y) by rw [mu_assoc, mu_assoc, ← mu_assoc w, mu_comm w, mu_assoc], rs_cong hm hx, mu_one, hy]
theorem inv.cancel {m z x y : Int × Int} (hm : 0 < nG m) (h : inv m z) (e : rs m (mu z x) = rs m (mu z y)) : rs m x = rs m y := by
  obtain ⟨w, hw⟩ := h
  have h1 := rs_cong_right hm e w
  rw [← mu_assoc, ← mu_assoc, mu_comm w, rs_cong hm hw, rs_cong hm hw, mu_one, mu_one] at h1
  exact h1
theorem inv_rs {m z : Int × Int} (hm : 0 < nG m) : inv m (rs m z) ↔ inv m z := by
  constructor
  · rintro ⟨w, hw⟩; exact ⟨w, by rw [← rs_mu_left hm]; exact hw⟩
  · rintro ⟨w, hw⟩; exact ⟨w, by rw [rs_mu_left hm]; exact hw⟩
/-- Nothing in common: it can be undone. -/
theorem inv_ap {a b c d : Int} (k1 : gok a b = true) (k2 : gok c d = true) (hm : 0 < nG (c, d)) : apO a b c d = true ↔ inv (c, d) (a, b) := by
  rw [ap_iff k1 k2]
  constructor
  · rintro ⟨s1, s2, t1, t2, h1, h2⟩
    refine ⟨(s1, s2), (rs_same hm _ _).2 ⟨(-t1, -t2), ?_⟩⟩
    unfold pa ng mu
    exact Prod.ext (by dsimp only; grind) (by dsimp only; grind)
  · rintro ⟨w, hw⟩
    obtain ⟨y, hy⟩ := (rs_same hm _ _).1 hw
    have a1 := congrArg Prod.fst hy
    have a2 := congrArg Prod.snd hy
    unfold pa ng mu at a1 a2
    dsimp only at a1 a2
    exact ⟨w.1, w.2, -y.1, -y.2, by grind, by grind⟩
theorem inv_one {m : Int × Int} : inv m (1, 0) := ⟨(1, 0), by rw [mu_one]⟩
theorem inv_prod {m : Int × Int} (hm : 0 < nG m) : ∀ {l : List (Int × Int)}, (∀ x ∈ l, inv m x) → inv m (prodG l) := by
  intro l
  induction l with
  | nil => intro _; exact inv_one
  | cons x l ih => intro h; exact (h x (List.mem_cons_self ..)).mul hm (ih fun y hy => h y (List.mem_cons_of_mem _ hy))
theorem prod_map {m z : Int × Int} (hm : 0 < nG m) (l : List (Int × Int)) : rs m (prodG (l.map fun x => rs m (mu z x))) = rs m (mu (pw z l.length) (prodG l)) := by
  induction l with
  | nil => rfl
  | cons x l ih =>
    rw [List.map_cons, prodG, rs_mu_left hm, rs_cong_right hm ih, List.length_cons, prodG, pw]
    congr 1
    rw [mu_assoc, mu_assoc, ← mu_assoc x, mu_comm x (pw z l.length), mu_assoc]
/-- The rests that can be undone. -/
structure Undo (m : Int × Int) (l : List (Int × Int)) : Prop where
  nodup : l.Nodup
  mem : ∀ z, z ∈ l ↔ rs m z = z ∧ inv m z
/-- As many times as there are such rests, each number that can be undone is 1. -/
theorem Undo.euler {m z : Int × Int} {l : List (Int × Int)} (h : Undo m l) (hm : 0 < nG m) (hz : inv m z) : rs m (pw z l.length) = rs m (1, 0) := by
  have hp : (l.map fun x => rs m (mu z x)).Perm l := by
    refine perm_of_mem ?_ h.nodup fun y => ?_
    · refine List.pairwise_map.2 (h.nodup.imp_of_mem ?_)
      intro a b ha hb hab e
      have := hz.cancel hm e
      rw [((h.mem a).1 ha).1, ((h.mem b).1 hb).1] at this
      exact hab this
    · rw [List.mem_map]
      constructor
      · rintro ⟨x, hx, rfl⟩
        exact (h.mem _).2 ⟨rs_idem hm _, (inv_rs hm).2 (hz.mul hm ((h.mem x).1 hx).2)⟩
      · intro hy
        obtain ⟨y1, y2⟩ := (h.mem y).1 hy
        obtain ⟨w, hw⟩ := hz
        have hwi : inv m w := ⟨z, by rw [mu_comm]; exact hw⟩
        refine ⟨rs m (mu w y), (h.mem _).2 ⟨rs_idem hm _, (inv_rs hm).2 (hwi.mul hm y2)⟩, ?_⟩
        rw [rs_mu_right hm, ← mu_assoc, rs_cong hm hw, mu_one, y1]
  have e := prod_map (z := z) hm l
  rw [prodG_perm hp] at e
  have hi := inv_prod hm (fun x hx => ((h.mem x).1 hx).2 : ∀ x ∈ l, inv m x)
  have e2 : rs m (mu (prodG l) (pw z l.length)) = rs m (mu (prodG l) (1, 0)) := by rw [mu_one_right, mu_comm]; exact e.symm
  exact hi.cancel hm e2
/-- Orders divide. -/
theorem order_dvd {m z : Int × Int} {n k : Nat} (hm : 0 < nG m) (hn : 0 < n) (h1 : rs m (pw z n) = rs m (1, 0)) (hl : ∀ j, 0 < j → j < n → rs m (pw z j) ≠ rs m (1, 0)) (hk : rs m (pw z k) = rs m (1, 0)) : k % n = 0 := by
  rcases Nat.eq_zero_or_pos (k % n) with e | hpos
  · exact e
  · exfalso
    refine hl (k % n) hpos (Nat.mod_lt _ hn) ?_
    have e : pw z k = mu (pw (pw z n) (k / n)) (pw z (k % n)) := by
      rw [pw_pw, ← pw_add, Nat.div_add_mod]
    rw [e, rs_cong hm (pw_cong hm h1 (k / n)), pw_one, mu_one] at hk
    exact hk
end Go.Proofs.Ytggebkgfldmipaa

namespace Go.Proofs.Ytggebkgfldmipaa
open Go Go.RowKit

theorem pa_comm (x y : Int × Int) : pa x y = pa y x := by unfold pa; exact Prod.ext (by dsimp only; omega) (by dsimp only; omega)
theorem mu_pa (x y z : Int × Int) : mu x (pa y z) = pa (mu x y) (mu x z) := by unfold mu pa; exact Prod.ext (by dsimp only; grind) (by dsimp only; grind)
theorem pa_zero (x : Int × Int) : pa x (0, 0) = x := by unfold pa; exact Prod.ext (by dsimp only; omega) (by dsimp only; omega)
theorem mu_zero (x : Int × Int) : mu x (0, 0) = (0, 0) := by unfold mu; exact Prod.ext (by dsimp only; omega) (by dsimp only; omega)
/-- A sum of products of two numbers is 1. -/
def bez (m n : Int × Int) : Prop := ∃ s t : Int × Int, pa (mu s m) (mu t n) = (1, 0)
theorem bez_ap {a b c d : Int} (k1 : gok a b = true) (k2 : gok c d = true) : apO a b c d = true ↔ bez (a, b) (c, d) := by
  rw [ap_iff k1 k2]
  constructor
  · rintro ⟨s1, s2, t1, t2, h1, h2⟩
    refine ⟨(s1, s2), (t1, t2), ?_⟩
    unfold pa mu
    exact Prod.ext (by dsimp only; omega) (by dsimp only; omega)
  · rintro ⟨s, t, h⟩
    have a1 := congrArg Prod.fst h
    have a2 := congrArg Prod.snd h
    unfold pa mu at a1 a2
    dsimp only at a1 a2
    exact ⟨s.1, s.2, t.1, t.2, by omega, by omega⟩
theorem bez.symm {m n : Int × Int} (h : bez m n) : bez n m := by
  obtain ⟨s, t, h⟩ := h; exact ⟨t, s, by rw [pa_comm]; exact h⟩
/-- Whom both divide, their product divides, if they are apart. -/
theorem bez.both {m n d : Int × Int} (h : bez m n) (h1 : dvG m d) (h2 : dvG n d) : dvG (mu m n) d := by
  obtain ⟨s, t, h⟩ := h
  obtain ⟨x, hx⟩ := h1
  obtain ⟨y, hy⟩ := h2
  refine ⟨pa (mu s y) (mu t x), ?_⟩
  have e : d = mu d (pa (mu s m) (mu t n)) := by rw [h, mu_one_right]
  rw [e, mu_pa, mu_pa]
  have e1 : mu d (mu s m) = mu (mu m n) (mu s y) := by
    rw [hy, mu_comm s m, ← mu_assoc, mu_comm (mu n y) m, ← mu_assoc, mu_assoc, mu_comm y s, ← mu_assoc]
  have e2 : mu d (mu t n) = mu (mu m n) (mu t x) := by
    rw [hx, mu_comm t n, ← mu_assoc, mu_assoc m x n, mu_comm x n, ← mu_assoc, mu_assoc, mu_comm x t, ← mu_assoc]
  rw [e1, e2]
/-- The rest by a product leaves the rest by each factor. -/
theorem rs_part {m n : Int × Int} (hm : 0 < nG m) (z : Int × Int) : rs m (rs (mu m n) z) = rs m z := by
  have e := rs_back (mu m n) z
  have h := rs_shift hm (rs (mu m n) z) (mu (qs (mu m n) z) n)
  rw [mu_assoc, mu_comm n m, e] at h
  exact h.symm
theorem rs_part' {m n : Int × Int} (hn : 0 < nG n) (z : Int × Int) : rs n (rs (mu m n) z) = rs n z := by
  rw [mu_comm m n]; exact rs_part hn z
/-- The number that leaves given rests by two modules. -/
structure Join (m n z w x : Int × Int) : Prop where
  own : rs (mu m n) x = x
  left : rs m x = rs m z
  right : rs n x = rs n w
theorem pos_mu {m n : Int × Int} (hm : 0 < nG m) (hn : 0 < nG n) : 0 < nG (mu m n) := by rw [nG_mu]; exact Int.mul_pos hm hn
theorem Join.one {m n z w x y : Int × Int} (hb : bez m n) (hm : 0 < nG m) (hn : 0 < nG n) (h : Join m n z w x) (h' : Join m n z w y) : x = y := by
  have d1 := (rs_same hm x y).1 (h.left.trans h'.left.symm)
  have d2 := (rs_same hn x y).1 (h.right.trans h'.right.symm)
  have := (rs_same (pos_mu hm hn) x y).2 (hb.both d1 d2)
  rwa [h.own, h'.own] at this
/-- It is found from factors. -/
theorem Join.mk' {m n z w a b : Int × Int} (hm : 0 < nG m) (hn : 0 < nG n) (hab : pa (mu a m) (mu b n) = (1, 0)) :
    Join m n z w (rs (mu m n) (pa (rs (mu m n) (mu (rs (mu m n) (mu b n)) z)) (rs (mu m n) (mu (rs (mu m n) (mu a m)) w)))) := by
  have hM := pos_mu hm hn
  have eM : rs (mu m n) (pa (rs (mu m n) (mu (rs (mu m n) (mu b n)) z)) (rs (mu m n) (mu (rs (mu m n) (mu a m)) w))) = rs (mu m n) (pa (mu (mu b n) z) (mu (mu a m) w)) := by
    rw [rs_add hM, ← rs_add hM (mu (rs (mu m n) (mu b n)) z), rs_mu_left hM, rs_mu_left hM, rs_add hM]
  have hab' : ∀ y : Int × Int, pa (mu (mu a m) y) (mu (mu b n) y) = y := by
    intro y
    have : mu (pa (mu a m) (mu b n)) y = y := by rw [hab, mu_one]
    rw [mu_comm, mu_pa] at this
    rw [mu_comm (mu a m), mu_comm (mu b n)]; exact this
  rw [eM]
  refine ⟨rs_idem hM _, ?_, ?_⟩
  · rw [rs_part hm]
    refine (rs_same hm _ _).2 ⟨mu a (pa w (ng z)), ?_⟩
    have e := hab' z
    have a1 := congrArg Prod.fst e
    have a2 := congrArg Prod.snd e
    unfold pa mu at a1 a2
    dsimp only at a1 a2
    unfold pa ng mu
    exact Prod.ext (by dsimp only; grind) (by dsimp only; grind)
  · rw [rs_part' hn]
    refine (rs_same hn _ _).2 ⟨mu b (pa z (ng w)), ?_⟩
    have e := hab' w
    have a1 := congrArg Prod.fst e
    have a2 := congrArg Prod.snd e
    unfold pa mu at a1 a2
    dsimp only at a1 a2
    unfold pa ng mu
    exact Prod.ext (by dsimp only; grind) (by dsimp only; grind)
/-- What is joined from its own rests is it. -/
theorem Join.back {m n z w x : Int × Int} (hm : 0 < nG m) (hn : 0 < nG n) (h : Join m n z w x) : Join m n (rs m x) (rs n x) x := ⟨h.own, (rs_idem hm x).symm, (rs_idem hn x).symm⟩
theorem Join.rest {m n : Int × Int} (hm : 0 < nG m) (hn : 0 < nG n) (z : Int × Int) : Join m n (rs m z) (rs n z) (rs (mu m n) z) :=
  ⟨rs_idem (pos_mu hm hn) z, by rw [rs_part hm, rs_idem hm], by rw [rs_part' hn, rs_idem hn]⟩
theorem Join.mul {m n z w x z' w' x' : Int × Int} (hm : 0 < nG m) (hn : 0 < nG n) (h : Join m n z w x) (h' : Join m n z' w' x') : Join m n (mu z z') (mu w w') (rs (mu m n) (mu x x')) :=
  ⟨rs_idem (pos_mu hm hn) _, by rw [rs_part hm, rs_cong hm h.left, rs_cong_right hm h'.left], by rw [rs_part' hn, rs_cong hn h.right, rs_cong_right hn h'.right]⟩
theorem Join.add {m n z w x z' w' x' : Int × Int} (hm : 0 < nG m) (hn : 0 < nG n) (h : Join m n z w x) (h' : Join m n z' w' x') : Join m n (pa z z') (pa w w') (rs (mu m n) (pa x x')) :=
  ⟨rs_idem (pos_mu hm hn) _, by rw [rs_part hm, ← rs_add hm, h.left, h'.left, rs_add hm], by rw [rs_part' hn, ← rs_add hn, h.right, h'.right, rs_add hn]⟩
end Go.Proofs.Ytggebkgfldmipaa

namespace Go.Proofs.Ytggebkgfldmipaa
open Go Go.RowKit

/-- How many rests are apart, told by primes: the last one of equal ones counts one less. -/
def phG : List (Int × Int) → Int
  | [] => 1
  | p :: l => (if p ∈ l then nG p else nG p - 1) * phG l
theorem phG_perm {l k : List (Int × Int)} (h : l.Perm k) : phG l = phG k := by
  induction h with
  | nil => rfl
  | cons x h ih => rw [phG, phG, ih]; simp only [h.mem_iff]
  | swap x y l =>
    rw [phG, phG, phG, phG]
    by_cases e : x = y
    · subst e; rfl
    · have h1 : (y ∈ x :: l) ↔ y ∈ l := by rw [List.mem_cons]; exact ⟨fun h => h.elim (fun h => absurd h.symm e) id, .inr⟩
      have h2 : (x ∈ y :: l) ↔ x ∈ l := by rw [List.mem_cons]; exact ⟨fun h => h.elim (fun h => absurd h e) id, .inr⟩
      simp only [h1, h2]
      grind
  | trans _ _ h1 h2 => rw [h1, h2]
theorem phG_append {l : List (Int × Int)} : ∀ {k : List (Int × Int)}, (∀ p ∈ k, p ∉ l) → phG (k ++ l) = phG k * phG l := by
  intro k
  induction k with
  | nil => intro _; rw [List.nil_append, phG, Int.one_mul]
  | cons p k ih =>
    intro h
    have h1 : (p ∈ k ++ l) ↔ p ∈ k := by
      rw [List.mem_append]
      exact ⟨fun hh => hh.elim id (fun h' => absurd h' (h p (List.mem_cons_self ..))), .inl⟩
    rw [List.cons_append, phG, phG, ih fun q hq => h q (List.mem_cons_of_mem _ hq)]
    simp only [h1]
    grind
/-- The loop's step: in a row in order the next one is there already exactly if it is the last one. -/
theorem phG_step {l : List (Int × Int)} {k : Nat} {p : Int × Int} (hp : ∀ q ∈ l, PrQ q) (hs : l.Pairwise leD) (hk : l[k]? = some p) :
    phG (l.take (k + 1)).reverse = (if 0 < k ∧ l[k - 1]? = some p then nG p else nG p - 1) * phG (l.take k).reverse := by
  rw [List.take_add_one, hk, List.reverse_append]
  show phG (p :: (l.take k).reverse) = _
  have hiff : (p ∈ (l.take k).reverse) ↔ 0 < k ∧ l[k - 1]? = some p := by
    rw [List.mem_reverse]
    constructor
    · intro h
      obtain ⟨j, hj, e⟩ := List.mem_iff_getElem.1 h
      rw [List.length_take] at hj
      rw [List.getElem_take] at e
      obtain ⟨hkl, ek⟩ := List.getElem?_eq_some_iff.1 hk
      refine ⟨by omega, ?_⟩
      rw [List.getElem?_eq_getElem (by omega)]
      by_cases hjk : j = k - 1
      · subst hjk; rw [e]
      · have a1 := List.pairwise_iff_getElem.1 hs j (k - 1) (by omega) (by omega) (by omega)
        have a2 := List.pairwise_iff_getElem.1 hs (k - 1) k (by omega) hkl (by omega)
        rw [e] at a1
        rw [ek] at a2
        rw [leD_anti (hp _ (List.getElem_mem _)) (hp _ (List.mem_of_getElem? hk)) a2 a1]
    · rintro ⟨h0, h⟩
      exact List.mem_of_getElem? (i := k - 1) (by rw [List.getElem?_take_of_lt (by omega)]; exact h)
  rw [phG]
  simp only [hiff]
theorem phG_all (l : List (Int × Int)) : phG l.reverse = phG l := phG_perm l.reverse_perm
theorem mem_dvG {p : Int × Int} : ∀ {l : List (Int × Int)}, p ∈ l → dvG p (prodG l) := by
  intro l
  induction l with
  | nil => intro h; cases h
  | cons q l ih =>
    intro h
    rw [prodG]
    rcases List.mem_cons.1 h with rfl | h
    · exact ⟨_, rfl⟩
    · rw [mu_comm]; exact (ih h).mul q
theorem Facs.dvd {z : Int × Int} {t : Int} {l : List (Int × Int)} (h : Facs z t l) {p : Int × Int} (hp : p ∈ l) : dvG p z := by
  rw [← h.prod, mu_comm]; exact (mem_dvG hp).mul _
theorem Facs.perm {z w : Int × Int} {t s r : Int} {l l' k : List (Int × Int)} (h : Facs z t l) (h' : Facs w s l') (hk : Facs (mu z w) r k) : k.Perm (l ++ l') := List.perm_iff_count.2 fun p => by
  rw [List.count_append]
  by_cases pp : p ∈ k ∨ p ∈ l ∨ p ∈ l'
  · refine (Facs.mul h h' hk).1 p ?_
    rcases pp with m | m | m
    · exact hk.pr p m
    · exact h.pr p m
    · exact h'.pr p m
  · rw [List.count_eq_zero.2 (fun m => pp (.inl m)), List.count_eq_zero.2 (fun m => pp (.inr (.inl m))), List.count_eq_zero.2 (fun m => pp (.inr (.inr m)))]
/-- For modules apart these numbers are multiplied. -/
theorem phG_mul {z w : Int × Int} {t s r : Int} {l l' k : List (Int × Int)} (h : Facs z t l) (h' : Facs w s l') (hk : Facs (mu z w) r k) (hb : bez z w) : phG k = phG l * phG l' := by
  rw [phG_perm (h.perm h' hk)]
  refine phG_append fun p hp hp' => ?_
  obtain ⟨x, y, e⟩ := hb
  obtain ⟨u, hu⟩ := h.dvd hp
  obtain ⟨v, hv⟩ := h'.dvd hp'
  have hd : dvG p (1, 0) := by
    refine ⟨pa (mu x u) (mu y v), ?_⟩
    rw [← e, hu, hv, mu_pa]
    congr 1
    · rw [← mu_assoc, mu_comm x p, mu_assoc]
    · rw [← mu_assoc, mu_comm y p, mu_assoc]
  exact not_dv_unit (h.pr p hp).prI (by decide) hd
theorem phG_bd : ∀ {l : List (Int × Int)}, (∀ q ∈ l, PrQ q) → 1 ≤ phG l ∧ phG l ≤ nG (prodG l) := by
  intro l
  induction l with
  | nil => intro _; exact ⟨by decide, by decide⟩
  | cons p l ih =>
    intro h
    obtain ⟨i1, i2⟩ := ih fun q hq => h q (List.mem_cons_of_mem _ hq)
    have hp := pr_nG (h p (List.mem_cons_self ..)).prI
    obtain ⟨c, hc, c1, c2⟩ : ∃ c, (if p ∈ l then nG p else nG p - 1) = c ∧ 1 ≤ c ∧ c ≤ nG p := by
      by_cases hm : p ∈ l
      · exact ⟨_, rfl, by rw [if_pos hm]; omega, by rw [if_pos hm]; omega⟩
      · exact ⟨_, rfl, by rw [if_neg hm]; omega, by rw [if_neg hm]; omega⟩
    rw [phG, prodG, nG_mu, hc]
    have h1 := Int.mul_le_mul c2 i2 (by omega) (by omega)
    have h2 := Int.mul_le_mul c1 i1 (by omega) (by omega)
    omega
end Go.Proofs.Ytggebkgfldmipaa

namespace Go.Proofs.Ytggebkgfldmipaa
open Go Go.RowKit

theorem Facs.has {z : Int × Int} {t : Int} {l : List (Int × Int)} (h : Facs z t l) {q : Int × Int} (hq : PrQ q) (hd : dvG q z) : q ∈ l := by
  by_cases hm : q ∈ l
  · exact hm
  · exfalso
    obtain ⟨y, e, hn⟩ := h.vl hq
    rw [List.count_eq_zero.2 hm] at e
    rw [show pw q 0 = (1, 0) from rfl, mu_one] at e
    rw [← e] at hn
    exact hn hd
theorem bez_no {q z w : Int × Int} (hb : bez z w) (hq : PrQ q) (h1 : dvG q z) (h2 : dvG q w) : False := by
  obtain ⟨x, y, e⟩ := hb
  obtain ⟨u, hu⟩ := h1
  obtain ⟨v, hv⟩ := h2
  refine not_dv_unit hq.prI (show nG (1, 0) = 1 by decide) ⟨pa (mu x u) (mu y v), ?_⟩
  rw [← e, hu, hv, mu_pa]
  congr 1
  · rw [← mu_assoc, mu_comm x q, mu_assoc]
  · rw [← mu_assoc, mu_comm y q, mu_assoc]
/-- Who is apart from a number has none of its primes. -/
theorem ap_primes {a b c d t : Int} {l : List (Int × Int)} (k1 : gok a b = true) (k2 : gok c d = true) (hz : 1 ≤ nG (c, d)) (hf : Facs (c, d) t l) : apO a b c d = true ↔ ∀ q ∈ l, ¬ dvG q (a, b) := by
  constructor
  · intro h q hq hd
    exact bez_no ((bez_ap k1 k2).1 h) (hf.pr q hq) hd (hf.dvd hq)
  · intro h
    have hco : coO a b c d = true := by
      have : ¬ (c = 0 ∧ d = 0) := by rintro ⟨rfl, rfl⟩; exact absurd hz (by decide)
      unfold coO
      rw [k1, k2]
      simp
      omega
    obtain ⟨kg, hnz, h1, h2, -, f1, f2, s1, s2, t1, t2, e1, e2⟩ := co_all hco
    rw [bez_ap k1 k2]
    obtain ⟨g, hg⟩ : ∃ g : Int × Int, (coA a b c d, coB a b c d) = g := ⟨_, rfl⟩
    have d1 : dvG g (a, b) := by rw [← hg]; exact dvG_Dv.2 h1
    have d2 : dvG g (c, d) := by rw [← hg]; exact dvG_Dv.2 h2
    have hg1 : 1 ≤ nG g := nG_pos (fun e => hnz (by rw [e] at hg; injection hg with x y; exact ⟨x, y⟩))
    by_cases h2' : 2 ≤ nG g
    · obtain ⟨q, hq, hqd⟩ := some_prime (z := g) (by rw [← hg]; exact kg) h2'
      exact absurd (hqd.trans d1) (h q (hf.has hq (hqd.trans d2)))
    · have hN : nG g = 1 := by omega
      obtain ⟨u, hu⟩ : ∃ u, mu u g = (1, 0) := by
        refine ⟨(g.1, -g.2), ?_⟩
        unfold nG at hN
        unfold mu
        exact Prod.ext (by dsimp only; grind) (by dsimp only; grind)
      refine ⟨mu u (s1, s2), mu u (t1, t2), ?_⟩
      rw [mu_assoc, mu_assoc, ← mu_pa, ← hu]
      congr 1
      rw [← hg, e1, e2]
      unfold pa mu
      exact Prod.ext (by dsimp only) (by dsimp only)

/-- Does a number divide another one, reckoned. -/
def dvB (q z : Int × Int) : Bool := (z.1 * q.1 + z.2 * q.2) % nG q == 0 && (z.2 * q.1 - z.1 * q.2) % nG q == 0
theorem dvB_iff {q z : Int × Int} (hq : 0 < nG q) : dvB q z = true ↔ dvG q z := by
  simp only [dvB, Bool.and_eq_true, beq_iff_eq]
  constructor
  · rintro ⟨h1, h2⟩
    obtain ⟨x, hx⟩ := Int.dvd_of_emod_eq_zero h1
    obtain ⟨y, hy⟩ := Int.dvd_of_emod_eq_zero h2
    refine ⟨(x, y), mu_cancel (x := q) (by omega) (mu_cancel (x := (q.1, -q.2)) (by unfold nG at hq ⊢; dsimp only; grind) ?_)⟩
    unfold nG at hx hy
    unfold mu
    exact Prod.ext (by dsimp only; grind) (by dsimp only; grind)
  · rintro ⟨y, rfl⟩
    refine ⟨Int.emod_eq_zero_of_dvd ⟨y.1, ?_⟩, Int.emod_eq_zero_of_dvd ⟨y.2, ?_⟩⟩
    · unfold mu nG; dsimp only; grind
    · unfold mu nG; dsimp only; grind
/-- The primes of the first quarter with norms up to 32, in order. -/
def PL : List (Int × Int) := [(1, 1), (1, 2), (2, 1), (3, 0), (2, 3), (3, 2), (1, 4), (4, 1), (2, 5), (5, 2)]
theorem pl_pr : ∀ p ∈ PL, PrQ p := by
  have h : PL.all (fun p => prO p.1 p.2 && (decide (0 < p.1) && decide (0 ≤ p.2))) = true := by kernel_rfl
  intro p hp
  have := List.all_eq_true.1 h p hp
  simp only [Bool.and_eq_true, decide_eq_true_eq] at this
  exact ⟨this.1, this.2.1, this.2.2⟩
def outT : Nat → (Int × Int) → (Int × Int) → List (Int × Int) × (Int × Int)
  | 0, _, z => ([], z)
  | n + 1, q, z => if dvB q z then (let r := outT n q ((z.1 * q.1 + z.2 * q.2) / nG q, (z.2 * q.1 - z.1 * q.2) / nG q); (q :: r.1, r.2)) else ([], z)
def facT (z : Int × Int) : List (Int × Int) × (Int × Int) := PL.foldl (fun s q => let r := outT 6 q s.2; (s.1 ++ r.1, r.2)) ([], z)
def tT (z : Int × Int) : Int := if z == (1, 0) then 0 else if z == (0, 1) then 1 else if z == (-1, 0) then 2 else 3
def srt : List (Int × Int) → Bool
  | [] => true
  | p :: l => l.all (leB6 p ·) && srt l
theorem srt_iff : ∀ {l : List (Int × Int)}, srt l = true → l.Pairwise leD := by
  intro l
  induction l with
  | nil => intro _; exact List.Pairwise.nil
  | cons p l ih =>
    intro h
    rw [srt, Bool.and_eq_true] at h
    exact List.Pairwise.cons (fun q hq => leB6_iff.1 (List.all_eq_true.1 h.1 q hq)) (ih h.2)
def facB (m : Int × Int) : Bool := let f := facT m; let t := tT f.2; mu (uG t) (prodG f.1) == m && f.1.all (PL.contains ·) && srt f.1
theorem facB_is {m : Int × Int} (h : facB m = true) : Facs m (tT (facT m).2) (facT m).1 := by
  simp only [facB, Bool.and_eq_true, beq_iff_eq] at h
  obtain ⟨⟨h1, h2⟩, h3⟩ := h
  refine ⟨?_, ?_, fun p hp => pl_pr p ?_, srt_iff h3, h1⟩
  · unfold tT; repeat' split
    all_goals omega
  · unfold tT; repeat' split
    all_goals omega
  · have := List.all_eq_true.1 h2 p hp
    simpa using this
/-- A row of the table: of the modulus (u - 10, v - 10) as many rests are apart as its primes tell. -/
def apRow (u v : Nat) : Bool :=
  let m : Int × Int := ((u : Int) - 10, (v : Int) - 10)
  let N := u * u + v * v + 200 - 20 * (u + v)
  let l := (facT m).1
  Nat.blt 32 N || Nat.beq N 0 || (facB m && (((canon N u v).filter fun r => l.all fun q => !dvB q r).length : Int) == phG l)
theorem ap_table : (List.range 9).all (fun u => (List.range 9).all fun v => apRow (u + 7) (v + 7)) = true := by kernel_rfl

theorem norm_nat {m : Int × Int} {u v N : Nat} (hu : m.1 + 10 = (u : Int)) (hv : m.2 + 10 = (v : Int)) (hN : nG m = (N : Int)) : u * u + v * v + 200 - 20 * (u + v) = N := by
  have p1 : ((u * u : Nat) : Int) = (m.1 + 10) * (m.1 + 10) := by rw [Int.natCast_mul, ← hu]
  have p2 : ((v * v : Nat) : Int) = (m.2 + 10) * (m.2 + 10) := by rw [Int.natCast_mul, ← hv]
  have e : nG m = m.1 * m.1 + m.2 * m.2 := rfl
  have q1 : (m.1 + 10) * (m.1 + 10) = m.1 * m.1 + 20 * m.1 + 100 := by grind
  have q2 : (m.2 + 10) * (m.2 + 10) = m.2 * m.2 + 20 * m.2 + 100 := by grind
  rw [q1] at p1
  rw [q2] at p2
  generalize u * u = a at *
  generalize v * v = b at *
  generalize m.1 * m.1 = c at *
  generalize m.2 * m.2 = d at *
  omega
theorem Rests.canon {m : Int × Int} {l : List (Int × Int)} (h : Rests m l) (hm : 0 < nG m) (h1 : nG m ≤ 100) {u v N : Nat} (hu : m.1 + 10 = (u : Int)) (hv : m.2 + 10 = (v : Int)) (hN : nG m = (N : Int)) : l.Perm (Go.Proofs.Ytggebkgfldmipaa.canon N u v) := perm_of_mem (nodup_of_ltL h.sorted) (canon_nodup N u v) fun z => by
  rw [h.mem]
  simp only [Go.Proofs.Ytggebkgfldmipaa.canon, List.mem_flatMap, List.mem_range, List.mem_map, List.mem_filter]
  constructor
  · intro hz
    obtain ⟨z1, z2, z3, z4⟩ := own_bd hm h1 hz
    refine ⟨(z.1 + 7).toNat, by omega, (z.2 + 7).toNat, ⟨by omega, ?_⟩, Prod.ext (by dsimp only; omega) (by dsimp only; omega)⟩
    exact (ownN_iff hm (by omega) (by omega) (by omega) (by omega) (by omega)).2 hz
  · rintro ⟨x, hx, y, ⟨hy, ho⟩, rfl⟩
    exact (ownN_iff (z := ((x : Int) - 7, (y : Int) - 7)) hm (by omega) (by dsimp only; omega) (by dsimp only; omega) (by omega) (by omega)).1 ho
/-- As many rests of a drawn modulus are apart from it as its primes tell. -/
theorem Rests.apart {m : Int × Int} {t : Int} {l L : List (Int × Int)} (h : Rests m l) (h1 : 1 ≤ nG m) (h32 : nG m ≤ 32) (a1 : -3 ≤ m.1) (a2 : m.1 ≤ 5) (b1 : -3 ≤ m.2) (b2 : m.2 ≤ 5) (hf : Facs m t L) :
    ((l.filter fun r => apO r.1 r.2 m.1 m.2).length : Int) = phG L := by
  obtain ⟨u, hu⟩ := Int.eq_ofNat_of_zero_le (show 0 ≤ m.1 + 3 by omega)
  obtain ⟨v, hv⟩ := Int.eq_ofNat_of_zero_le (show 0 ≤ m.2 + 3 by omega)
  obtain ⟨N, hN⟩ := Int.eq_ofNat_of_zero_le (show 0 ≤ nG m by omega)
  have hu' : m.1 + 10 = ((u + 7 : Nat) : Int) := by omega
  have hv' : m.2 + 10 = ((v + 7 : Nat) : Int) := by omega
  have hrow := List.all_eq_true.1 (List.all_eq_true.1 ap_table u (List.mem_range.2 (by omega))) v (List.mem_range.2 (by omega))
  have em : ((((u + 7 : Nat) : Int) - 10, ((v + 7 : Nat) : Int) - 10) : Int × Int) = m := Prod.ext (by dsimp only; omega) (by dsimp only; omega)
  simp only [apRow, norm_nat hu' hv' hN, em, Bool.or_eq_true, Nat.blt_eq, Nat.beq_eq, Bool.and_eq_true, beq_iff_eq] at hrow
  obtain ⟨hb, hc⟩ := hrow.resolve_left (by omega)
  have hf' := facB_is hb
  rw [← (hf.one hf').2] at hc
  rw [← hc]
  have km : gok m.1 m.2 = true := by simp [gok, pok]; omega
  have hfl : l.filter (fun r => apO r.1 r.2 m.1 m.2) = l.filter fun r => L.all fun q => !dvB q r := by
    refine List.filter_congr fun r hr => ?_
    obtain ⟨z1, z2, z3, z4⟩ := own_bd (by omega) (by omega) ((h.mem r).1 hr)
    have kr : gok r.1 r.2 = true := by simp [gok, pok]; omega
    have hiff := ap_primes kr km h1 hf
    have hall : (L.all fun q => !dvB q r) = true ↔ ∀ q ∈ L, ¬ dvG q r := by
      rw [List.all_eq_true]
      refine forall_congr' fun q => forall_congr' fun hq => ?_
      rw [Bool.not_eq_true', ← Bool.not_eq_true, dvB_iff (by have := pr_nG (hf.pr q hq).prI; omega)]
    exact Bool.eq_iff_iff.2 (hiff.trans hall.symm)
  rw [hfl, ((h.canon (by omega) (by omega) hu' hv' hN).filter _).length_eq]
end Go.Proofs.Ytggebkgfldmipaa
