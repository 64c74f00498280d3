import Derived.Test.YtggebkgfldmipaaMe
namespace Go.Proofs.Ytggebkgfldmipaa
open Go Go.RowKit

def pa (x y : Int × Int) : Int × Int := (x.1 + y.1, x.2 + y.2)
def ng (x : Int × Int) : Int × Int := (-x.1, -x.2)
/-- The rest of a number by a modulus. -/
def rs (m z : Int × Int) : Int × Int := (rA z.1 z.2 m.1 m.2, rB z.1 z.2 m.1 m.2)
def qs (m z : Int × Int) : Int × Int := (qA z.1 z.2 m.1 m.2, qB z.1 z.2 m.1 m.2)
theorem nr_shift (n k : Int) {m : Int} (h : 0 < m) : nr (n + k * m) m = nr n m + k := by
  unfold nr
  rw [show 2 * (n + k * m) + m = 2 * n + m + k * (2 * m) by grind, Int.add_mul_ediv_right _ _ (by omega)]
theorem rs_is (m z : Int × Int) : z = pa (mu (qs m z) m) (rs m z) := by
  unfold pa mu qs rs rA rB; exact Prod.ext (by dsimp only; omega) (by dsimp only; omega)
/-- A multiple of the modulus more leaves the same rest. -/
theorem rs_shift {m : Int × Int} (hm : 0 < nG m) (z k : Int × Int) : rs m (pa z (mu k m)) = rs m z := by
  have hN : 0 < m.1 * m.1 + m.2 * m.2 := hm
  have e1 : qA (pa z (mu k m)).1 (pa z (mu k m)).2 m.1 m.2 = qA z.1 z.2 m.1 m.2 + k.1 := by
    unfold qA
    rw [← nr_shift _ k.1 hN]
    congr 1
    unfold pa mu; dsimp only; grind
  have e2 : qB (pa z (mu k m)).1 (pa z (mu k m)).2 m.1 m.2 = qB z.1 z.2 m.1 m.2 + k.2 := by
    unfold qB
    rw [← nr_shift _ k.2 hN]
    congr 1
    unfold pa mu; dsimp only; grind
  unfold rs rA rB
  rw [e1, e2]
  unfold pa mu
  exact Prod.ext (by dsimp only; grind) (by dsimp only; grind)
theorem rs_back (m z : Int × Int) : pa (rs m z) (mu (qs m z) m) = z := by
  have a1 := congrArg Prod.fst (rs_is m z)
  have a2 := congrArg Prod.snd (rs_is m z)
  unfold pa at a1 a2 ⊢
  dsimp only at a1 a2
  exact Prod.ext (by dsimp only; omega) (by dsimp only; omega)
theorem rs_idem {m : Int × Int} (hm : 0 < nG m) (z : Int × Int) : rs m (rs m z) = rs m z := by
  have h := rs_shift hm (rs m z) (qs m z)
  rw [rs_back] at h
  exact h.symm
theorem rs_same {m : Int × Int} (hm : 0 < nG m) (z w : Int × Int) : rs m z = rs m w ↔ dvG m (pa z (ng w)) := by
  constructor
  · intro h
    refine ⟨pa (qs m z) (ng (qs m w)), ?_⟩
    have e1 := rs_is m z
    have e2 := rs_is m w
    rw [h] at e1
    have a1 := congrArg Prod.fst e1
    have a2 := congrArg Prod.snd e1
    have b1 := congrArg Prod.fst e2
    have b2 := congrArg Prod.snd e2
    unfold pa mu at a1 a2 b1 b2
    dsimp only at a1 a2 b1 b2
    unfold pa ng mu
    exact Prod.ext (by dsimp only; grind) (by dsimp only; grind)
  · rintro ⟨y, hy⟩
    have e : z = pa w (mu y m) := by
      have a1 := congrArg Prod.fst hy
      have a2 := congrArg Prod.snd hy
      unfold pa ng mu at a1 a2
      dsimp only at a1 a2
      unfold pa mu
      exact Prod.ext (by dsimp only; grind) (by dsimp only; grind)
    rw [e, rs_shift hm]
theorem rs_nought {m : Int × Int} (hm : 0 < nG m) (z : Int × Int) : rs m z = (0, 0) ↔ dvG m z := by
  have e0 : rs m (0, 0) = (0, 0) := by
    have h := rs_shift hm (0, 0) (ng (qs m (0, 0)))
    have e := rs_is m (0, 0)
    have i := rs_idem hm (0, 0)
    have hN : 0 < m.1 * m.1 + m.2 * m.2 := hm
    have q1 : qA 0 0 m.1 m.2 = 0 := by unfold qA; simp; have := nr_mul (x := 0) hN; simpa using this
    have q2 : qB 0 0 m.1 m.2 = 0 := by unfold qB; simp; have := nr_mul (x := 0) hN; simpa using this
    unfold rs rA rB; dsimp only; rw [q1, q2]; simp
  have := rs_same hm z (0, 0)
  rw [e0] at this
  rw [this]
  have e : pa z (ng (0, 0)) = z := by unfold pa ng; exact Prod.ext (by dsimp only; omega) (by dsimp only; omega)
  rw [e]
/-- Sums and products of rests. -/
theorem rs_add {m : Int × Int} (hm : 0 < nG m) (z w : Int × Int) : rs m (pa (rs m z) (rs m w)) = rs m (pa z w) := by
  refine ((rs_same hm _ _).2 ⟨ng (pa (qs m z) (qs m w)), ?_⟩)
  have e1 := rs_is m z
  have e2 := rs_is m w
  have a1 := congrArg Prod.fst e1
  have a2 := congrArg Prod.snd e1
  have b1 := congrArg Prod.fst e2
  have b2 := congrArg Prod.snd e2
  unfold pa mu at a1 a2 b1 b2
  dsimp only at a1 a2 b1 b2
  generalize rs m z = r at *
  generalize rs m w = s at *
  generalize qs m z = q at *
  generalize qs m w = p at *
  unfold pa ng mu
  exact Prod.ext (by dsimp only; grind) (by dsimp only; grind)
theorem rs_mu {m : Int × Int} (hm : 0 < nG m) (z w : Int × Int) : rs m (mu (rs m z) (rs m w)) = rs m (mu z w) := by
  have e1 := rs_is m z
  have e2 := rs_is m w
  generalize rs m z = r at *
  generalize rs m w = s at *
  generalize qs m z = q at *
  generalize qs m w = p at *
  refine ((rs_same hm _ _).2 ⟨ng (pa (mu q w) (mu r p)), ?_⟩)
  rw [e1, e2]
  unfold pa ng mu
  exact Prod.ext (by dsimp only; grind) (by dsimp only; grind)
theorem rs_mu_left {m : Int × Int} (hm : 0 < nG m) (z w : Int × Int) : rs m (mu (rs m z) w) = rs m (mu z w) := by
  rw [← rs_mu hm (rs m z) w, rs_idem hm, rs_mu hm]
theorem rs_nG {m : Int × Int} (hm : 0 < nG m) (z : Int × Int) : 2 * nG (rs m z) ≤ nG m := rest_half hm
/-- A number is its own rest exactly if both parts of its quotient lie from a half below on, and below a half. -/
theorem own_iff {m : Int × Int} (hm : 0 < nG m) (z : Int × Int) : rs m z = z ↔ (-nG m ≤ 2 * (z.1 * m.1 + z.2 * m.2) ∧ 2 * (z.1 * m.1 + z.2 * m.2) < nG m) ∧ (-nG m ≤ 2 * (z.2 * m.1 - z.1 * m.2) ∧ 2 * (z.2 * m.1 - z.1 * m.2) < nG m) := by
  have hN : 0 < m.1 * m.1 + m.2 * m.2 := hm
  have hz : ∀ p : Int, nr p (nG m) = 0 ↔ (-nG m ≤ 2 * p ∧ 2 * p < nG m) := by
    intro p
    unfold nr
    constructor
    · intro h
      have h1 := Int.mul_ediv_add_emod (2 * p + nG m) (2 * nG m)
      have h2 := Int.emod_nonneg (2 * p + nG m) (show 2 * nG m ≠ 0 by omega)
      have h3 := Int.emod_lt_of_pos (2 * p + nG m) (show 0 < 2 * nG m by omega)
      rw [h, Int.mul_zero] at h1
      omega
    · rintro ⟨h1, h2⟩
      exact Int.ediv_eq_zero_of_lt (by omega) (by omega)
  rw [← hz, ← hz]
  constructor
  · intro h
    have e := rs_is m z
    rw [h] at e
    have a1 := congrArg Prod.fst e
    have a2 := congrArg Prod.snd e
    unfold pa mu qs at a1 a2
    dsimp only at a1 a2
    have e1 : nG m * qA z.1 z.2 m.1 m.2 = 0 := by unfold nG; grind
    have e2 : nG m * qB z.1 z.2 m.1 m.2 = 0 := by unfold nG; grind
    exact ⟨(Int.mul_eq_zero.1 e1).resolve_left (by omega), (Int.mul_eq_zero.1 e2).resolve_left (by omega)⟩
  · rintro ⟨h1, h2⟩
    have q1 : qA z.1 z.2 m.1 m.2 = 0 := h1
    have q2 : qB z.1 z.2 m.1 m.2 = 0 := h2
    unfold rs rA rB
    rw [q1, q2]
    exact Prod.ext (by dsimp only; omega) (by dsimp only; omega)
end Go.Proofs.Ytggebkgfldmipaa

namespace Go.Proofs.Ytggebkgfldmipaa
open Go Go.RowKit

/-- How many numbers of the square -7 .. 7 are their own rests, reckoned on natural numbers: each part is told with 10 more. -/
def ownN (N x y u v : Nat) : Bool :=
  -- 2 * ((x - 10) (u - 10) + (y - 10) (v - 10)) and 2 * ((y - 10) (u - 10) - (x - 10) (v - 10)), both with 1000 more
  let p := 2 * (x * u + y * v + 200) + 1000
  let q := 20 * (x + u + y + v)
  let r := 2 * (y * u + 10 * (x + v)) + 1000
  let s := 2 * (x * v + 10 * (y + u))
  Nat.ble (q + 1000) (p + N) && Nat.blt p (q + 1000 + N) && Nat.ble (s + 1000) (r + N) && Nat.blt r (s + 1000 + N)
def cntRow (u v : Nat) : Bool :=
  let N := u * u + v * v + 200 - 20 * (u + v)
  Nat.blt 100 N || Nat.beq N 0 || Nat.beq (((List.range 15).map fun x => ((List.range 15).filter fun y => ownN N (x + 3) (y + 3) u v).length).foldr (· + ·) 0) N
theorem cnt_table : (List.range 21).all (fun u => (List.range 21).all fun v => cntRow u v) = true := by kernel_rfl

end Go.Proofs.Ytggebkgfldmipaa

namespace Go.Proofs.Ytggebkgfldmipaa
open Go Go.RowKit

theorem own_bd {m z : Int × Int} (hm : 0 < nG m) (h1 : nG m ≤ 100) (h : rs m z = z) : -7 ≤ z.1 ∧ z.1 ≤ 7 ∧ -7 ≤ z.2 ∧ z.2 ≤ 7 := by
  have hh := rs_nG hm z
  rw [h] at hh
  have e : nG z = z.1 * z.1 + z.2 * z.2 := rfl
  have n1 := sq_nn z.1
  have n2 := sq_nn z.2
  have b1 : ∀ x : Int, x * x ≤ 50 → -7 ≤ x ∧ x ≤ 7 := by
    intro x hx
    rcases Int.lt_or_le 7 x with h | h
    · have := Int.mul_le_mul (a := 8) (b := 8) (c := x) (d := x) h h (by omega) (by omega); omega
    · rcases Int.lt_or_le x (-7) with h' | h'
      · have := Int.mul_le_mul (a := 8) (b := 8) (c := -x) (d := -x) (by omega) (by omega) (by omega) (by omega)
        have e : -x * -x = x * x := by grind
        omega
      · omega
  have := b1 z.1 (by omega)
  have := b1 z.2 (by omega)
  omega
theorem mod_bd {m : Int × Int} (h1 : nG m ≤ 100) : -10 ≤ m.1 ∧ m.1 ≤ 10 ∧ -10 ≤ m.2 ∧ m.2 ≤ 10 := by
  have e : nG m = m.1 * m.1 + m.2 * m.2 := rfl
  have n1 := sq_nn m.1
  have n2 := sq_nn m.2
  have b1 := sq_le (x := m.1) (k := 10) (by omega) (by omega)
  have b2 := sq_le (x := m.2) (k := 10) (by omega) (by omega)
  omega
theorem ownN_iff {m z : Int × Int} {N x y u v : Nat} (hm : 0 < nG m) (eN : (N : Int) = nG m) (ex : (x : Int) = z.1 + 10) (ey : (y : Int) = z.2 + 10) (eu : (u : Int) = m.1 + 10) (ev : (v : Int) = m.2 + 10) : ownN N x y u v = true ↔ rs m z = z := by
  rw [own_iff hm]
  simp only [ownN, Bool.and_eq_true, Nat.ble_eq, Nat.blt_eq]
  have p1 : ((x * u : Nat) : Int) = (z.1 + 10) * (m.1 + 10) := by rw [Int.natCast_mul, ex, eu]
  have p2 : ((y * v : Nat) : Int) = (z.2 + 10) * (m.2 + 10) := by rw [Int.natCast_mul, ey, ev]
  have p3 : ((y * u : Nat) : Int) = (z.2 + 10) * (m.1 + 10) := by rw [Int.natCast_mul, ey, eu]
  have p4 : ((x * v : Nat) : Int) = (z.1 + 10) * (m.2 + 10) := by rw [Int.natCast_mul, ex, ev]
  have q1 : (z.1 + 10) * (m.1 + 10) = z.1 * m.1 + 10 * z.1 + 10 * m.1 + 100 := by grind
  have q2 : (z.2 + 10) * (m.2 + 10) = z.2 * m.2 + 10 * z.2 + 10 * m.2 + 100 := by grind
  have q3 : (z.2 + 10) * (m.1 + 10) = z.2 * m.1 + 10 * z.2 + 10 * m.1 + 100 := by grind
  have q4 : (z.1 + 10) * (m.2 + 10) = z.1 * m.2 + 10 * z.1 + 10 * m.2 + 100 := by grind
  rw [q1] at p1
  rw [q2] at p2
  rw [q3] at p3
  rw [q4] at p4
  generalize x * u = a at *
  generalize y * v = b at *
  generalize y * u = c at *
  generalize x * v = d at *
  generalize z.1 * m.1 = a' at *
  generalize z.2 * m.2 = b' at *
  generalize z.2 * m.1 = c' at *
  generalize z.1 * m.2 = d' at *
  omega
/-- The order of rests: by first parts, and of equal ones by second parts. -/
def ltL (p q : Int × Int) : Prop := p.1 < q.1 ∨ (p.1 = q.1 ∧ p.2 < q.2)
theorem ltL_irr (p : Int × Int) : ¬ ltL p p := by unfold ltL; omega
/-- All rests of a modulus, in order. -/
structure Rests (m : Int × Int) (l : List (Int × Int)) : Prop where
  sorted : l.Pairwise ltL
  mem : ∀ z, z ∈ l ↔ rs m z = z
theorem nodup_of_ltL {l : List (Int × Int)} (h : l.Pairwise ltL) : l.Nodup := h.imp fun {a b} (hab : ltL a b) => by intro e; subst e; exact ltL_irr _ hab
theorem perm_of_mem {l l' : List (Int × Int)} (h : l.Nodup) (h' : l'.Nodup) (hm : ∀ z, z ∈ l ↔ z ∈ l') : l.Perm l' := (List.perm_ext_iff_of_nodup h h').2 hm
theorem flat_len {α β : Type} (f : α → List β) (l : List α) : (l.flatMap f).length = (l.map fun x => (f x).length).foldr (· + ·) 0 := by
  induction l with
  | nil => rfl
  | cons a t ih => simp [List.flatMap_cons, ih]
def canon (N u v : Nat) : List (Int × Int) := (List.range 15).flatMap fun (x : Nat) => ((List.range 15).filter fun y => ownN N (x + 3) (y + 3) u v).map fun (y : Nat) => ((x : Int) - 7, (y : Int) - 7)
theorem canon_len (N u v : Nat) : (canon N u v).length = ((List.range 15).map fun x => ((List.range 15).filter fun y => ownN N (x + 3) (y + 3) u v).length).foldr (· + ·) 0 := by
  unfold canon
  rw [flat_len]
  simp only [List.length_map]
theorem canon_nodup (N u v : Nat) : (canon N u v).Nodup := by
  refine nodup_of_ltL ?_
  unfold canon
  rw [List.flatMap, List.pairwise_flatten]
  refine ⟨?_, ?_⟩
  · intro l hl
    obtain ⟨x, -, rfl⟩ := List.mem_map.1 hl
    refine List.pairwise_map.2 (List.Pairwise.imp ?_ (List.Pairwise.filter _ List.pairwise_lt_range))
    intro a b hab
    exact .inr ⟨rfl, by dsimp only; omega⟩
  · refine List.pairwise_map.2 (List.Pairwise.imp ?_ List.pairwise_lt_range)
    intro a b hab p hp q hq
    obtain ⟨_, -, rfl⟩ := List.mem_map.1 hp
    obtain ⟨_, -, rfl⟩ := List.mem_map.1 hq
    exact .inl (by dsimp only; omega)
/-- There are as many rests as the norm. -/
theorem Rests.len {m : Int × Int} {l : List (Int × Int)} (h : Rests m l) (hm : 0 < nG m) (h1 : nG m ≤ 100) : (l.length : Int) = nG m := by
  obtain ⟨b1, b2, b3, b4⟩ := mod_bd h1
  obtain ⟨u, hu⟩ := Int.eq_ofNat_of_zero_le (show 0 ≤ m.1 + 10 by omega)
  obtain ⟨v, hv⟩ := Int.eq_ofNat_of_zero_le (show 0 ≤ m.2 + 10 by omega)
  obtain ⟨N, hN⟩ := Int.eq_ofNat_of_zero_le (show 0 ≤ nG m by omega)
  have hrow := List.all_eq_true.1 (List.all_eq_true.1 cnt_table u (List.mem_range.2 (by omega))) v (List.mem_range.2 (by omega))
  have eN : u * u + v * v + 200 - 20 * (u + v) = N := by
    have p1 : ((u * u : Nat) : Int) = (m.1 + 10) * (m.1 + 10) := by rw [Int.natCast_mul, ← hu]
    have p2 : ((v * v : Nat) : Int) = (m.2 + 10) * (m.2 + 10) := by rw [Int.natCast_mul, ← hv]
    have e : nG m = m.1 * m.1 + m.2 * m.2 := rfl
    have q1 : (m.1 + 10) * (m.1 + 10) = m.1 * m.1 + 20 * m.1 + 100 := by grind
    have q2 : (m.2 + 10) * (m.2 + 10) = m.2 * m.2 + 20 * m.2 + 100 := by grind
    rw [q1] at p1
    rw [q2] at p2
    generalize u * u = a at *
    generalize v * v = b at *
    generalize m.1 * m.1 = c at *
    generalize m.2 * m.2 = d at *
    omega
  have hcnt : (canon N u v).length = N := by
    simp only [cntRow, eN, Bool.or_eq_true, Nat.blt_eq, Nat.beq_eq] at hrow
    rw [canon_len]
    rcases hrow with (h | h) | h
    · omega
    · omega
    · exact h
  have hp : l.Perm (canon N u v) := perm_of_mem (nodup_of_ltL h.sorted) (canon_nodup N u v) fun z => by
    rw [h.mem]
    simp only [canon, List.mem_flatMap, List.mem_range, List.mem_map, List.mem_filter]
    constructor
    · intro hz
      obtain ⟨z1, z2, z3, z4⟩ := own_bd hm h1 hz
      refine ⟨(z.1 + 7).toNat, by omega, (z.2 + 7).toNat, ⟨by omega, ?_⟩, Prod.ext (by dsimp only; omega) (by dsimp only; omega)⟩
      exact (ownN_iff hm (by omega) (by omega) (by omega) (by omega) (by omega)).2 hz
    · rintro ⟨x, hx, y, ⟨hy, ho⟩, rfl⟩
      exact (ownN_iff (z := ((x : Int) - 7, (y : Int) - 7)) hm (by omega) (by dsimp only; omega) (by dsimp only; omega) (by omega) (by omega)).1 ho
  rw [hp.length_eq, hcnt]
  omega
theorem Rests.one {m : Int × Int} {l l' : List (Int × Int)} (h : Rests m l) (h' : Rests m l') : l = l' := by
  have key : ∀ {l l' : List (Int × Int)}, l.Pairwise ltL → l'.Pairwise ltL → (∀ x, x ∈ l ↔ x ∈ l') → l = l' := by
    intro l
    induction l with
    | nil =>
      intro l' _ _ h
      cases l' with
      | nil => rfl
      | cons y t => exact absurd ((h y).2 (List.mem_cons_self ..)) (List.not_mem_nil)
    | cons x t ih =>
      intro l' hl hl' h
      cases l' with
      | nil => exact absurd ((h x).1 (List.mem_cons_self ..)) (List.not_mem_nil)
      | cons y t' =>
        obtain ⟨hx, ht⟩ := List.pairwise_cons.1 hl
        obtain ⟨hy, ht'⟩ := List.pairwise_cons.1 hl'
        have exy : x = y := by
          rcases List.mem_cons.1 ((h x).1 (List.mem_cons_self ..)) with e | hm
          · exact e
          · rcases List.mem_cons.1 ((h y).2 (List.mem_cons_self ..)) with e | hm'
            · exact e.symm
            · have h1 := hx y hm'
              have h2 := hy x hm
              unfold ltL at h1 h2
              omega
        subst exy
        congr 1
        refine ih ht ht' fun z => ⟨fun hz => ?_, fun hz => ?_⟩
        · rcases List.mem_cons.1 ((h z).1 (List.mem_cons_of_mem _ hz)) with e | hm
          · exact absurd (hx z hz) (by rw [e]; exact ltL_irr _)
          · exact hm
        · rcases List.mem_cons.1 ((h z).2 (List.mem_cons_of_mem _ hz)) with e | hm
          · exact absurd (hy z hz) (by rw [e]; exact ltL_irr _)
          · exact hm
  exact key h.sorted h'.sorted fun z => by rw [h.mem, h'.mem]
end Go.Proofs.Ytggebkgfldmipaa
