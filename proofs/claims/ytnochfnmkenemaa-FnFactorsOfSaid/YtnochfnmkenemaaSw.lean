import Derived.Test.YtnochfnmkenemaaSt
import Derived.Test.YtnochfnmkenemaaSc
import Derived.Test.YtnochfnmkenemaaSv
import Derived.Test.YtnochfnmkenemaaHd
import Derived.Test.YtnochfnmkenemaaUs
namespace Go.Proofs.Ytnochfnmkenemaa
open Go Go.RowKit
attribute [local go_sem] World.cell?_alloc_some cell?_alloc2_some cell?_alloc3_some cell?_alloc4_some frozen?_alloc_some frozen?_alloc2_some frozen?_alloc3_some World.cell?_setCell_far new_ne0 new_ne1 new_ne2 new_ne3 lt2 lt3 lt4 lt5 lt6 lt7 lt8 lt9
attribute [local go_sem ↓] eqG neG

/-- A prime of the list, as the law reads it. -/
theorem FacIs.row {a b t : Int} {l : List (Int × Int)} (h : FacIs a b true t l) {k : Nat} {p q : Int} (hk : l[k]? = some (p, q)) : gok p q = true ∧ fiA p q = p ∧ fiB p q = q ∧ prO p q = true ∧ nrm p q = nG (p, q) := by
  have hq := h.facs.1.pr _ (List.mem_of_getElem? hk)
  have kp : gok p q = true := hq.prI.1
  obtain ⟨e1, e2⟩ := fq_fi hq.2 kp
  exact ⟨kp, e1, e2, hq.1, nrm_t kp⟩
theorem sorted_at {l : List (Int × Int)} (h : l.Pairwise leD) {i : Nat} {p0 q0 p q : Int} (h0 : l[i]? = some (p0, q0)) (h1 : l[i + 1]? = some (p, q)) : nG (p0, q0) ≤ nG (p, q) ∧ (nG (p, q) = nG (p0, q0) → p0 ≤ p) := by
  obtain ⟨hi, e0⟩ := List.getElem?_eq_some_iff.1 h0
  obtain ⟨hj, e1⟩ := List.getElem?_eq_some_iff.1 h1
  have := List.pairwise_iff_getElem.1 h i (i + 1) hi hj (by omega)
  rw [e0, e1] at this
  unfold leD ltD at this
  unfold nG
  dsimp only at this ⊢
  omega
/-- The product of the norms up to k. -/
def Np (l : List (Int × Int)) (k : Nat) (N : Int) : Prop := N = nG (prodG (l.take k))
theorem Np.start (l : List (Int × Int)) : Np l 0 1 := by unfold Np; rw [List.take_zero]; rfl
theorem Np.next {l : List (Int × Int)} {k : Nat} {p : Int × Int} {N : Int} (h : Np l k N) (hk : l[k]? = some p) : Np l (k + 1) (N * nG p) := by
  unfold Np at h ⊢
  rw [List.take_add_one, hk, prodG_append, nG_mu, ← h]
  show N * nG p = N * nG (prodG [p])
  rw [prodG, prodG, mu_comm, mu_one]
theorem Np.bd {a b t : Int} {l : List (Int × Int)} (hF : FacIs a b true t l) {k : Nat} {N : Int} (h : Np l k N) : 1 ≤ N ∧ N ≤ 2000000 := by
  obtain ⟨hf, ho⟩ := hF.facs
  have hN := nG_gok (z := (a, b)) (faO_is ho).1
  rw [← hf.prod, nG_mu, uG_nG hf.t0 hf.t3, Int.one_mul, ← List.take_append_drop k l, prodG_append, nG_mu, ← show N = _ from h] at hN
  have h1 : nG (prodG (l.take k)) ≠ 0 := prodG_nG fun q hq => hf.pr q (List.mem_of_mem_take hq)
  have h2 : nG (prodG (l.drop k)) ≠ 0 := prodG_nG fun q hq => hf.pr q (List.mem_of_mem_drop hq)
  have h3 := nG_nn (prodG (l.take k))
  have h4 := nG_nn (prodG (l.drop k))
  rw [← show N = _ from h] at h1 h3
  have := Int.mul_le_mul_of_nonneg_left (show 1 ≤ nG (prodG (l.drop k)) by omega) h3
  omega
theorem Np.all {a b t : Int} {l : List (Int × Int)} (hF : FacIs a b true t l) {k : Nat} {N : Int} (h : Np l k N) (hk : l.length ≤ k) : N = nG (a, b) := by
  have hf := hF.facs.1
  rw [show N = _ from h, List.take_of_length_le hk, ← hf.prod, nG_mu, uG_nG hf.t0 hf.t3, Int.one_mul]
/-- Counted up, and counted down. -/
def CnU (l : List (Int × Int)) (r : Int × Int) (j : Nat) (c : Int) : Prop := c = ((l.take j).count r : Nat)
def CnD (l : List (Int × Int)) (r : Int × Int) (b : Int) (j : Nat) (c : Int) : Prop := c = b - ((l.take j).count r : Nat)
theorem cn_eq {l : List (Int × Int)} {p q x y : Int} {j : Nat} (hj : l[j]? = some (x, y)) (he : (x == p && y == q) = true) : (l.take (j + 1)).count (p, q) = (l.take j).count (p, q) + 1 := by
  simp at he
  obtain ⟨rfl, rfl⟩ := he
  rw [List.take_add_one, hj, List.count_append]
  simp
theorem cn_ne {l : List (Int × Int)} {p q x y : Int} {j : Nat} (hj : l[j]? = some (x, y)) (he : (x == p && y == q) = false) : (l.take (j + 1)).count (p, q) = (l.take j).count (p, q) := by
  rw [List.take_add_one, hj, List.count_append]
  have : (some (x, y)).toList.count (p, q) = 0 := by
    rw [List.count_eq_zero]
    intro h
    have := List.mem_singleton.1 h
    injection this with h1 h2
    subst h1 h2
    simp at he
  omega
theorem cn_bd (l : List (Int × Int)) (r : Int × Int) (j : Nat) : (l.take j).count r ≤ j := Nat.le_trans List.count_le_length (by rw [List.length_take]; omega)
theorem CnU.start (l : List (Int × Int)) (r : Int × Int) : CnU l r 0 0 := by unfold CnU; rw [List.take_zero]; rfl
theorem CnU.eq {l : List (Int × Int)} {p q x y c : Int} {j : Nat} (h : CnU l (p, q) j c) (hj : l[j]? = some (x, y)) (he : (x == p && y == q) = true) : CnU l (p, q) (j + 1) (c + 1) := by
  unfold CnU at h ⊢; rw [cn_eq hj he]; omega
theorem CnU.ne {l : List (Int × Int)} {p q x y c : Int} {j : Nat} (h : CnU l (p, q) j c) (hj : l[j]? = some (x, y)) (he : (x == p && y == q) = false) : CnU l (p, q) (j + 1) c := by
  unfold CnU at h ⊢; rw [cn_ne hj he]; exact h
theorem CnU.all {l : List (Int × Int)} {r : Int × Int} {c : Int} {j : Nat} (h : CnU l r j c) (hj : l.length ≤ j) : c = (l.count r : Nat) := by
  rw [show c = _ from h, List.take_of_length_le hj]
theorem CnU.bd {l : List (Int × Int)} {r : Int × Int} {c : Int} {j : Nat} (h : CnU l r j c) : 0 ≤ c ∧ c ≤ j := by
  have := cn_bd l r j
  unfold CnU at h; omega
theorem CnD.start (l : List (Int × Int)) (r : Int × Int) (b : Int) : CnD l r b 0 b := by unfold CnD; rw [List.take_zero]; simp
theorem CnD.eq {l : List (Int × Int)} {p q x y b c : Int} {j : Nat} (h : CnD l (p, q) b j c) (hj : l[j]? = some (x, y)) (he : (x == p && y == q) = true) : CnD l (p, q) b (j + 1) (c - 1) := by
  unfold CnD at h ⊢; rw [cn_eq hj he]; omega
theorem CnD.ne {l : List (Int × Int)} {p q x y b c : Int} {j : Nat} (h : CnD l (p, q) b j c) (hj : l[j]? = some (x, y)) (he : (x == p && y == q) = false) : CnD l (p, q) b (j + 1) c := by
  unfold CnD at h ⊢; rw [cn_ne hj he]; exact h
theorem CnD.all {l : List (Int × Int)} {r : Int × Int} {b c : Int} {j : Nat} (h : CnD l r b j c) (hj : l.length ≤ j) : c = b - (l.count r : Nat) := by
  rw [show c = _ from h, List.take_of_length_le hj]
theorem CnD.bd {l : List (Int × Int)} {r : Int × Int} {b c : Int} {j : Nat} (h : CnD l r b j c) : b - j ≤ c ∧ c ≤ b := by
  have := cn_bd l r j
  unfold CnD at h; omega
/-- A product of two that have primes has primes. -/
theorem FacIs.both {a b e f s u t3 t2 : Int} {o2 : Bool} {L K M : List (Int × Int)} {t : Int} (h : FacIs a b true t L) (h3 : FacIs e f true t3 M) (h2 : FacIs s u o2 t2 K) (hT : TiIs a b e f true s u) :
    o2 = true ∧ K.length = L.length + M.length ∧ ∀ r ∈ K, K.count r = L.count r + M.count r := by
  obtain ⟨f1, g1⟩ := h.facs
  obtain ⟨f3, g3⟩ := h3.facs
  obtain ⟨e1, e2, -, -, ks⟩ := TiIs.val hT
  have hmu : (s, u) = mu (a, b) (e, f) := by unfold mu; exact Prod.ext e1 e2
  have hN : 1 ≤ nG (s, u) := by
    rw [hmu, nG_mu]
    have := Int.mul_le_mul (faO_is g1).2.1 (faO_is g3).2.1 (by omega) (by have := (faO_is g1).2.1; omega)
    omega
  have hsz : ¬ (s = 0 ∧ u = 0) := by rintro ⟨rfl, rfl⟩; exact absurd hN (by decide)
  have ho : o2 = true := by
    rw [h2.1]
    unfold faO
    rw [ks]
    simp
    omega
  subst ho
  have f2 := h2.facs.1
  rw [hmu] at f2
  obtain ⟨m1, m2⟩ := Facs.mul f1 f3 f2
  exact ⟨rfl, m2, fun r hr => m1 r (h2.facs.1.pr r hr)⟩
theorem LR.at {W : World} {a : Option Addr} {n cap : Nat} {l : List (Int × Int)} (h : LR W (.slice a n cap) l) (hl : l ≠ []) : ∃ g, a = some ⟨g, 0, none⟩ ∧ At W g l := by
  obtain ⟨a', cap', e, h⟩ := h
  injection e with e1 e2 e3
  subst e1
  exact h hl

set_option maxRecDepth 100000 in
set_option maxHeartbeats 32000000 in
theorem walkFnFactorsOf (a0 : Option Addr) (len0 cap0 : Nat) (z0 : List Int) (a1 : Option Addr) (len1 cap1 : Nat) (z1 : List Int) (w : World) (r0 : IsRow .u8 w a0 len0 cap0 z0) (r1 : IsRow .u8 w a1 len1 cap1 z1) :
    Calls Try.prog 3 #[.slice a0 len0 cap0, .slice a1 len1 cap1] w fun e w' => e = .returned (.bool true) ∧ Below w.heap.size w w' := by
  have H0 := Lib.hid r0
  have H1 := Lib.hid r1
  clear r0 r1
  by_cases hl0 : 1048576 < len0
  · go_enter Try.func3, Try.ntmps3
    go_wp2_with fail
    go_returns
    exact ⟨rfl, by (repeat' (first | (with_reducible exact Below.refl _ _) | (with_reducible refine Below.alloc ?_ ?_ _) | (with_reducible refine Below.drew ?_) | (with_reducible refine Below.setCell ?_ ?_ _) | (with_reducible refine Below.trans ?_ (Below.mono (by assumption) ?_)) | go_size))⟩
  by_cases hl1 : 1048576 < len1
  · go_enter Try.func3, Try.ntmps3
    go_wp2_with fail
    go_returns
    exact ⟨rfl, by (repeat' (first | (with_reducible exact Below.refl _ _) | (with_reducible refine Below.alloc ?_ ?_ _) | (with_reducible refine Below.drew ?_) | (with_reducible refine Below.setCell ?_ ?_ _) | (with_reducible refine Below.trans ?_ (Below.mono (by assumption) ?_)) | go_size))⟩
  go_enter Try.func3, Try.ntmps3
  go_wp2_with fail
  (refine (drawFactorsOf a0 len0 cap0 z0 _ H0.out).mono ?_; rintro e w1 ⟨a, b, rfl, hb1⟩; have hz1 := hb1.size; (repeat (first | rw [World.size_alloc] at hz1 | rw [World.size_setCell] at hz1 | rw [World.size_drew] at hz1)))
  obtain ⟨o, t, L, hF⟩ := fac_is a b
  have hlen := hF.len
  go_wp2_with fail
  (refine (iFactorsOf_v _ hF).mono ?_; rintro e w2 ⟨v, rfl, hg, hb2⟩; have hz2 := hb2.size; (repeat (first | rw [World.size_alloc] at hz2 | rw [World.size_setCell] at hz2 | rw [World.size_drew] at hz2)); have pp := C2.K hb2 (b := w1.heap.size) (x := _) (y := _) (by (repeat (first | ((with_reducible apply C2.mk) <;> (with_reducible assumption)) | (with_reducible apply C2.Z) | (with_reducible apply C2.O) | ((with_reducible apply C2.B); (focus (simp; done))) | (with_reducible apply C2.A) | (with_reducible apply C2.D) | ((with_reducible apply C2.S); focus ((repeat (first | rw [World.size_alloc] | rw [World.size_setCell] | rw [World.size_drew])); omega)) | ((with_reducible apply C2.K); (focus (with_reducible assumption)))))); obtain ⟨kk1, kk2⟩ := pp)
  go_wp2_with fail
  (refine (sFactorsOf_v _ hF).mono ?_; rintro e w3 ⟨v', rfl, hg', hb3⟩; have hz3 := hb3.size; (repeat (first | rw [World.size_alloc] at hz3 | rw [World.size_setCell] at hz3 | rw [World.size_drew] at hz3)); have pp := C2.K hb3 (b := w1.heap.size) (x := _) (y := _) (by (repeat (first | ((with_reducible apply C2.mk) <;> (with_reducible assumption)) | (with_reducible apply C2.Z) | (with_reducible apply C2.O) | ((with_reducible apply C2.B); (focus (simp; done))) | (with_reducible apply C2.A) | (with_reducible apply C2.D) | ((with_reducible apply C2.S); focus ((repeat (first | rw [World.size_alloc] | rw [World.size_setCell] | rw [World.size_drew])); omega)) | ((with_reducible apply C2.K); (focus (with_reducible assumption)))))); obtain ⟨kk3, kk4⟩ := pp; (try clear kk1 kk2))
  have k1 := hg.below hb3
  clear hg
  have htt : (t != t) = false := by simp
  have hoo : (o != o) = false := by cases o <;> rfl
  go_wp2_with fail
  (refine (sameGauss _ _ _ _ L _ k1 hg' (by omega)).mono ?_; rintro e w4 ⟨rfl, hb4⟩; have hz4 := hb4.size; (repeat (first | rw [World.size_alloc] at hz4 | rw [World.size_setCell] at hz4 | rw [World.size_drew] at hz4)); have pp := C2.K hb4 (b := w1.heap.size) (x := _) (y := _) (by (repeat (first | ((with_reducible apply C2.mk) <;> (with_reducible assumption)) | (with_reducible apply C2.Z) | (with_reducible apply C2.O) | ((with_reducible apply C2.B); (focus (simp; done))) | (with_reducible apply C2.A) | (with_reducible apply C2.D) | ((with_reducible apply C2.S); focus ((repeat (first | rw [World.size_alloc] | rw [World.size_setCell] | rw [World.size_drew])); omega)) | ((with_reducible apply C2.K); (focus (with_reducible assumption)))))); obtain ⟨kk5, kk6⟩ := pp; (try clear kk3 kk4))
  have m1 := k1.below hb4
  clear k1 hg' htt
  have HL := Lib.hid m1.lr
  have B4 : Below w.heap.size w w4 := by (repeat' (first | (with_reducible exact Below.refl _ _) | (with_reducible refine Below.alloc ?_ ?_ _) | (with_reducible refine Below.drew ?_) | (with_reducible refine Below.setCell ?_ ?_ _) | (with_reducible refine Below.trans ?_ (Below.mono (by assumption) ?_)) | go_size))
  have x0 : w4.cell? ⟨w1.heap.size, 0, none⟩ = some (.int .i64 a) := by (repeat (first | (with_reducible assumption) | (with_reducible apply sameS) | ((with_reducible apply born); (focus (simp; done)); (focus rfl)) | (with_reducible apply keepA) | (with_reducible apply keepD) | ((with_reducible apply keepS); focus ((repeat (first | rw [World.size_alloc] | rw [World.size_setCell] | rw [World.size_drew])); omega)) | ((with_reducible apply keep); (focus (with_reducible assumption)))))
  have x1 : w4.cell? ⟨w1.heap.size, 1, none⟩ = some (.int .i64 b) := by (repeat (first | (with_reducible assumption) | (with_reducible apply sameS) | ((with_reducible apply born); (focus (simp; done)); (focus rfl)) | (with_reducible apply keepA) | (with_reducible apply keepD) | ((with_reducible apply keepS); focus ((repeat (first | rw [World.size_alloc] | rw [World.size_setCell] | rw [World.size_drew])); omega)) | ((with_reducible apply keep); (focus (with_reducible assumption)))))
  obtain ⟨av, cv, rfl, ha⟩ := m1.form
  have H1f : ∀ W, Below w.heap.size w W → IsRow .u8 W a1 len1 cap1 z1 := fun W hW => H1.out.below hW
  cases o
  · obtain ⟨rfl, rfl⟩ := hF.2.1 rfl
    go_wp2_with fail
    (refine (alive _).mono ?_; rintro e w5 ⟨rfl, hb5⟩; have hz5 := hb5.size; (repeat (first | rw [World.size_alloc] at hz5 | rw [World.size_setCell] at hz5 | rw [World.size_drew] at hz5)); (try clear kk5 kk6))
    go_wp2_with fail
    go_returns
    exact ⟨rfl, B4.trans (hb5.mono B4.size)⟩
  clear hb1 hb2 hb3 hb4 hz1 hz2 hz3 hz4 hoo m1
  have hsorted := hF.facs.1.sorted
  have hs14 : w1.heap.size < w4.heap.size := by have := World.block_lt_of_cell? _ _ x0; simpa using this
  obtain ⟨n, hn⟩ : ∃ n, L.length = n := ⟨_, rfl⟩
  rw [hn] at hlen ⊢
  go_wp2_with fail
  go_loopw [12, 13] (fun m u wr => ∃ (k : Nat) (N : Int), m = .int .i64 N ∧ u = .int .i64 (k : Int) ∧ k ≤ n ∧ Np L k N ∧ Below w4.heap.size w4 wr) (fun _ u _ => n - (intOf u).toNat)
  case atStart => exact ⟨0, 1, rfl, rfl, Nat.zero_le _, Np.start L, Below.refl _ _⟩
  case round =>
    obtain ⟨k, N, rfl, rfl, hk, hN, hb⟩ := hrel
    by_cases hlt : k < n
    · have hne : L ≠ [] := by rintro rfl; simp at hn; omega
      obtain ⟨g, rfl, -, hgl, hA, -⟩ := ha hne
      obtain ⟨⟨p, q⟩, hpq⟩ : ∃ q, L[k]? = some q := ⟨_, List.getElem?_eq_getElem (by omega)⟩
      obtain ⟨kpq, hfa, hfb, hpr, hn1⟩ := hF.row hpq
      have hNx := hN.next hpq
      obtain ⟨n1, hn1'⟩ : ∃ x, nG (p, q) = x := ⟨_, rfl⟩
      rw [hn1'] at hNx hn1
      obtain ⟨hN1, hN2⟩ := hN.bd hF
      obtain ⟨hN3, hN4⟩ := hNx.bd hF
      obtain ⟨c0, c1⟩ := hA k p q hpq
      have hP : ∀ W, Calls Try.prog 17 #[.agg #[.int .i64 p, .int .i64 q]] W fun e w' => e = .returned (.bool true) ∧ Below W.heap.size W w' := fun W => by rw [← hpr]; exact iPrimeOk p q W
      have hpp : (p == p && q == q) = true := by simp
      have hsb := hb.size
      rcases Nat.eq_zero_or_pos k with hk0 | hk0
      · subst hk0
        have l0 : wr.cell? ⟨g, 0, none⟩ = some (.int .i64 p) := by simpa using keep hb c0
        have l1 : wr.cell? ⟨g, 1, none⟩ = some (.int .i64 q) := by simpa using keep hb c1
        have hd : decide ((0 : Int) < (n : Int)) = true := decide_eq_true (by omega)
        clear c0 c1 hA ha hpq hpr hN hn1' hsorted x0 x1 H1f
        go_wp2_with fail
        (refine (iFirstOf_v _ ⟨kpq, hfa, hfb, rfl⟩).mono ?_; rintro e w6 ⟨rfl, hb6⟩; have hz6 := hb6.size; (repeat (first | rw [World.size_alloc] at hz6 | rw [World.size_setCell] at hz6 | rw [World.size_drew] at hz6)))
        have m0 : (w6.alloc (.cells #[.int .i64 p, .int .i64 q] 24)).cell? ⟨g, 0, none⟩ = some (.int .i64 p) := keepA (keep hb6 l0)
        have m1 : (w6.alloc (.cells #[.int .i64 p, .int .i64 q] 24)).cell? ⟨g, 1, none⟩ = some (.int .i64 q) := keepA (keep hb6 l1)
        have m2 : (w6.alloc (.cells #[.int .i64 p, .int .i64 q] 24)).cell? ⟨w6.heap.size, 0, none⟩ = some (.int .i64 p) := born (l := [.int .i64 p, .int .i64 q]) rfl rfl
        have m3 : (w6.alloc (.cells #[.int .i64 p, .int .i64 q] 24)).cell? ⟨w6.heap.size, 1, none⟩ = some (.int .i64 q) := born (l := [.int .i64 p, .int .i64 q]) rfl rfl
        have hbA : Below w4.heap.size w4 (w6.alloc (.cells #[.int .i64 p, .int .i64 q] 24)) := by
          have h1 := hb.trans (hb6.mono hsb)
          exact h1.trans ((show Below w6.heap.size w6 _ by (repeat' (first | (with_reducible exact Below.refl _ _) | (with_reducible refine Below.alloc ?_ ?_ _) | (with_reducible refine Below.drew ?_) | (with_reducible refine Below.setCell ?_ ?_ _) | (with_reducible refine Below.trans ?_ (Below.mono (by assumption) ?_)) | go_size))).mono (by omega))
        have hsA := hbA.size
        clear l0 l1 hb hb6 hfa hfb kpq
        go_upto_region 15 with fail
        refine wp_name ?_
        intro wC hbwC
        have m0_a := keep hbwC m0
        have m0_r := cell_regrown m0_a
        have m1_a := keep hbwC m1
        have m1_r := cell_regrown m1_a
        have m2_a := keep hbwC m2
        have m2_r := cell_regrown m2_a
        have m3_a := keep hbwC m3
        have m3_r := cell_regrown m3_a
        clear m0 m1 m2 m3
        refine wp_region_quiet_below (by kernel_rfl) (by kernel_rfl) ?_
        (repeat (first | go_big_quiet_step ((first | (go_at_call 17; exact Calls.regrown_of (hP _)))) | quiet_step ((first | (go_at_call 17; exact Calls.regrown_of (hP _))))))
        refine wpQuiet_nil ?_
        intro wD hwwD
        have hbwD := below_of_regrown hwwD
        clear hwwD
        have m0 := keep hbwD m0_a
        have m1 := keep hbwD m1_a
        have m2 := keep hbwD m2_a
        have m3 := keep hbwD m3_a
        clear m0_a m0_r m1_a m1_r m2_a m2_r m3_a m3_r
        have hbD : Below w4.heap.size w4 wD := (hbA.trans (hbwC.mono hsA)).trans (hbwD.mono (by have := hbwC.size; omega))
        have hsD := hbD.size
        go_wp2_with fail
        (refine (iNormOf_v _ hn1).mono ?_; rintro e w7 ⟨rfl, hb7⟩; have hz7 := hb7.size; (repeat (first | rw [World.size_alloc] at hz7 | rw [World.size_setCell] at hz7 | rw [World.size_drew] at hz7)))
        go_wp2_with fail
        go_roundw
        case rel => exact ⟨1, N * n1, rfl, by simp, by omega, hNx, hbD.trans (hb7.mono hsD)⟩
        case measure => simp [intOf]; omega
      · obtain ⟨i, rfl⟩ : ∃ i, k = i + 1 := ⟨k - 1, by omega⟩
        obtain ⟨⟨p0, q0⟩, hpq0⟩ : ∃ q, L[i]? = some q := ⟨_, List.getElem?_eq_getElem (by omega)⟩
        obtain ⟨-, -, -, -, hn0⟩ := hF.row hpq0
        obtain ⟨hs1, hs2⟩ := sorted_at hsorted hpq0 hpq
        obtain ⟨n0, hn0'⟩ : ∃ x, nG (p0, q0) = x := ⟨_, rfl⟩
        rw [hn0'] at hn0 hs1 hs2
        rw [hn1'] at hs1 hs2
        obtain ⟨c2, c3⟩ := hA i p0 q0 hpq0
        have l0 := keep hb c0
        have l1 := keep hb c1
        have l2 := keep hb c2
        have l3 := keep hb c3
        have hd : decide ((i : Int) + 1 < (n : Int)) = true := decide_eq_true (by omega)
        have hdp : decide ((0 : Int) < (i : Int) + 1) = true := decide_eq_true (by omega)
        have hdl : decide (n1 < n0) = false := decide_eq_false (by omega)
        clear c0 c1 c2 c3 hA ha hpq hpq0 hpr hN hn0' hn1' hsorted x0 x1 H1f
        by_cases hq : n1 = n0
        · have hqe : (n1 == n0) = true := by rw [beq_iff_eq]; exact hq
          have hdA : decide (p < p0) = false := decide_eq_false (by have := hs2 hq; omega)
          clear hq hs2
          go_wp2_with fail
          (refine (iFirstOf_v _ ⟨kpq, hfa, hfb, rfl⟩).mono ?_; rintro e w6 ⟨rfl, hb6⟩; have hz6 := hb6.size; (repeat (first | rw [World.size_alloc] at hz6 | rw [World.size_setCell] at hz6 | rw [World.size_drew] at hz6)))
          have m0 : (w6.alloc (.cells #[.int .i64 p, .int .i64 q] 24)).cell? ⟨g, (i + 1) * 2, none⟩ = some (.int .i64 p) := keepA (keep hb6 l0)
          have m1 : (w6.alloc (.cells #[.int .i64 p, .int .i64 q] 24)).cell? ⟨g, (i + 1) * 2 + 1, none⟩ = some (.int .i64 q) := keepA (keep hb6 l1)
          have m4 : (w6.alloc (.cells #[.int .i64 p, .int .i64 q] 24)).cell? ⟨g, i * 2, none⟩ = some (.int .i64 p0) := keepA (keep hb6 l2)
          have m5 : (w6.alloc (.cells #[.int .i64 p, .int .i64 q] 24)).cell? ⟨g, i * 2 + 1, none⟩ = some (.int .i64 q0) := keepA (keep hb6 l3)
          have m2 : (w6.alloc (.cells #[.int .i64 p, .int .i64 q] 24)).cell? ⟨w6.heap.size, 0, none⟩ = some (.int .i64 p) := born (l := [.int .i64 p, .int .i64 q]) rfl rfl
          have m3 : (w6.alloc (.cells #[.int .i64 p, .int .i64 q] 24)).cell? ⟨w6.heap.size, 1, none⟩ = some (.int .i64 q) := born (l := [.int .i64 p, .int .i64 q]) rfl rfl
          have hbA : Below w4.heap.size w4 (w6.alloc (.cells #[.int .i64 p, .int .i64 q] 24)) := by
            have h1 := hb.trans (hb6.mono hsb)
            exact h1.trans ((show Below w6.heap.size w6 _ by (repeat' (first | (with_reducible exact Below.refl _ _) | (with_reducible refine Below.alloc ?_ ?_ _) | (with_reducible refine Below.drew ?_) | (with_reducible refine Below.setCell ?_ ?_ _) | (with_reducible refine Below.trans ?_ (Below.mono (by assumption) ?_)) | go_size))).mono (by omega))
          have hsA := hbA.size
          clear l0 l1 l2 l3 hb hb6 hfa hfb kpq
          go_upto_region 15 with fail
          refine wp_name ?_
          intro wC hbwC
          have m0_a := keep hbwC m0
          have m0_r := cell_regrown m0_a
          have m1_a := keep hbwC m1
          have m1_r := cell_regrown m1_a
          have m2_a := keep hbwC m2
          have m2_r := cell_regrown m2_a
          have m3_a := keep hbwC m3
          have m3_r := cell_regrown m3_a
          have m4_a := keep hbwC m4
          have m4_r := cell_regrown m4_a
          have m5_a := keep hbwC m5
          have m5_r := cell_regrown m5_a
          clear m0 m1 m2 m3 m4 m5
          refine wp_region_quiet_below (by kernel_rfl) (by kernel_rfl) ?_
          (repeat (first | go_big_quiet_step ((first | (go_at_call 17; exact Calls.regrown_of (hP _)) | (go_at_call 18; exact Calls.regrown_of (iNormOf_v _ (by first | exact hn1 | exact hn0))))) | quiet_step ((first | (go_at_call 17; exact Calls.regrown_of (hP _)) | (go_at_call 18; exact Calls.regrown_of (iNormOf_v _ (by first | exact hn1 | exact hn0)))))))
          refine wpQuiet_nil ?_
          intro wD hwwD
          have hbwD := below_of_regrown hwwD
          clear hwwD
          have m0 := keep hbwD m0_a
          have m1 := keep hbwD m1_a
          have m2 := keep hbwD m2_a
          have m3 := keep hbwD m3_a
          have m4 := keep hbwD m4_a
          have m5 := keep hbwD m5_a
          clear m0_a m0_r m1_a m1_r m2_a m2_r m3_a m3_r m4_a m4_r m5_a m5_r
          have hbD : Below w4.heap.size w4 wD := (hbA.trans (hbwC.mono hsA)).trans (hbwD.mono (by have := hbwC.size; omega))
          have hsD := hbD.size
          go_wp2_with fail
          (refine (iNormOf_v _ hn1).mono ?_; rintro e w7 ⟨rfl, hb7⟩; have hz7 := hb7.size; (repeat (first | rw [World.size_alloc] at hz7 | rw [World.size_setCell] at hz7 | rw [World.size_drew] at hz7)))
          go_wp2_with fail
          go_roundw
          case rel => exact ⟨i + 1 + 1, N * n1, rfl, by simp, by omega, hNx, hbD.trans (hb7.mono hsD)⟩
          case measure => simp [intOf]; omega
        · have hqe : (n1 == n0) = false := by rw [beq_eq_false_iff_ne]; exact hq
          clear hq hs2
          go_wp2_with fail
          (refine (iFirstOf_v _ ⟨kpq, hfa, hfb, rfl⟩).mono ?_; rintro e w6 ⟨rfl, hb6⟩; have hz6 := hb6.size; (repeat (first | rw [World.size_alloc] at hz6 | rw [World.size_setCell] at hz6 | rw [World.size_drew] at hz6)))
          have m0 : (w6.alloc (.cells #[.int .i64 p, .int .i64 q] 24)).cell? ⟨g, (i + 1) * 2, none⟩ = some (.int .i64 p) := keepA (keep hb6 l0)
          have m1 : (w6.alloc (.cells #[.int .i64 p, .int .i64 q] 24)).cell? ⟨g, (i + 1) * 2 + 1, none⟩ = some (.int .i64 q) := keepA (keep hb6 l1)
          have m4 : (w6.alloc (.cells #[.int .i64 p, .int .i64 q] 24)).cell? ⟨g, i * 2, none⟩ = some (.int .i64 p0) := keepA (keep hb6 l2)
          have m5 : (w6.alloc (.cells #[.int .i64 p, .int .i64 q] 24)).cell? ⟨g, i * 2 + 1, none⟩ = some (.int .i64 q0) := keepA (keep hb6 l3)
          have m2 : (w6.alloc (.cells #[.int .i64 p, .int .i64 q] 24)).cell? ⟨w6.heap.size, 0, none⟩ = some (.int .i64 p) := born (l := [.int .i64 p, .int .i64 q]) rfl rfl
          have m3 : (w6.alloc (.cells #[.int .i64 p, .int .i64 q] 24)).cell? ⟨w6.heap.size, 1, none⟩ = some (.int .i64 q) := born (l := [.int .i64 p, .int .i64 q]) rfl rfl
          have hbA : Below w4.heap.size w4 (w6.alloc (.cells #[.int .i64 p, .int .i64 q] 24)) := by
            have h1 := hb.trans (hb6.mono hsb)
            exact h1.trans ((show Below w6.heap.size w6 _ by (repeat' (first | (with_reducible exact Below.refl _ _) | (with_reducible refine Below.alloc ?_ ?_ _) | (with_reducible refine Below.drew ?_) | (with_reducible refine Below.setCell ?_ ?_ _) | (with_reducible refine Below.trans ?_ (Below.mono (by assumption) ?_)) | go_size))).mono (by omega))
          have hsA := hbA.size
          clear l0 l1 l2 l3 hb hb6 hfa hfb kpq
          go_upto_region 15 with fail
          refine wp_name ?_
          intro wC hbwC
          have m0_a := keep hbwC m0
          have m0_r := cell_regrown m0_a
          have m1_a := keep hbwC m1
          have m1_r := cell_regrown m1_a
          have m2_a := keep hbwC m2
          have m2_r := cell_regrown m2_a
          have m3_a := keep hbwC m3
          have m3_r := cell_regrown m3_a
          have m4_a := keep hbwC m4
          have m4_r := cell_regrown m4_a
          have m5_a := keep hbwC m5
          have m5_r := cell_regrown m5_a
          clear m0 m1 m2 m3 m4 m5
          refine wp_region_quiet_below (by kernel_rfl) (by kernel_rfl) ?_
          (repeat (first | go_big_quiet_step ((first | (go_at_call 17; exact Calls.regrown_of (hP _)) | (go_at_call 18; exact Calls.regrown_of (iNormOf_v _ (by first | exact hn1 | exact hn0))))) | quiet_step ((first | (go_at_call 17; exact Calls.regrown_of (hP _)) | (go_at_call 18; exact Calls.regrown_of (iNormOf_v _ (by first | exact hn1 | exact hn0)))))))
          refine wpQuiet_nil ?_
          intro wD hwwD
          have hbwD := below_of_regrown hwwD
          clear hwwD
          have m0 := keep hbwD m0_a
          have m1 := keep hbwD m1_a
          have m2 := keep hbwD m2_a
          have m3 := keep hbwD m3_a
          have m4 := keep hbwD m4_a
          have m5 := keep hbwD m5_a
          clear m0_a m0_r m1_a m1_r m2_a m2_r m3_a m3_r m4_a m4_r m5_a m5_r
          have hbD : Below w4.heap.size w4 wD := (hbA.trans (hbwC.mono hsA)).trans (hbwD.mono (by have := hbwC.size; omega))
          have hsD := hbD.size
          go_wp2_with fail
          (refine (iNormOf_v _ hn1).mono ?_; rintro e w7 ⟨rfl, hb7⟩; have hz7 := hb7.size; (repeat (first | rw [World.size_alloc] at hz7 | rw [World.size_setCell] at hz7 | rw [World.size_drew] at hz7)))
          go_wp2_with fail
          go_roundw
          case rel => exact ⟨i + 1 + 1, N * n1, rfl, by simp, by omega, hNx, hbD.trans (hb7.mono hsD)⟩
          case measure => simp [intOf]; omega
    · have hd : decide ((k : Int) < (n : Int)) = false := decide_eq_false (by omega)
      have hNz := hN.all hF (by omega)
      have hnz : nrm a b = N := by rw [hNz]; exact nrm_t (faO_is hF.facs.2).1
      have y0 := keep hb x0
      have y1 := keep hb x1
      have hBr : Below w.heap.size w wr := B4.trans (hb.mono B4.size)
      have hsr := hBr.size
      have hsb := hb.size
      have hLw : LR wr (.slice av n cv) L := by
        have := HL.out.below hb
        rw [hn] at this; exact this
      obtain ⟨r, hr⟩ : ∃ r, pdR t L = r := ⟨_, rfl⟩
      obtain ⟨rx, hrx⟩ : ∃ rx, (r.getD (0, 0)).1 = rx := ⟨_, rfl⟩
      obtain ⟨ry, hry⟩ : ∃ ry, (r.getD (0, 0)).2 = ry := ⟨_, rfl⟩
      obtain ⟨ro, hro⟩ : ∃ ro, r.isSome = ro := ⟨_, rfl⟩
      have hI : ∀ W, LR W (.slice av n cv) L → Calls Try.prog 19 #[.int .i64 t, .slice av n cv] W fun e w' => e = .returned (.tuple #[.agg #[.int .i64 rx, .int .i64 ry], .bool ro]) ∧ Below W.heap.size W w' := fun W hW => by
        have := iProductOf t L _ W hW
        rw [hr, rT, hrx, hry, hro] at this; exact this
      have hrr : ro = true → rx = a ∧ ry = b := fun h => by
        obtain ⟨⟨u, v⟩, rfl⟩ : ∃ q, r = some q := by
          cases r with
          | none => rw [← hro] at h; cases h
          | some q => exact ⟨q, rfl⟩
        obtain ⟨-, -, hm, -⟩ := pdR_val hr
        rw [hF.facs.1.prod] at hm
        injection hm with e1 e2
        exact ⟨by rw [e1]; exact hrx.symm, by rw [e2]; exact hry.symm⟩
      have HW := Lib.hid hLw
      clear hN hNz x0 x1 hr hrx hry hro ha HL hLw
      have hNN : (N == N) = true := by simp
      go_wp2_with fail
      (refine (hI _ HW.out).mono ?_; rintro e w5 ⟨rfl, hb5⟩; have hz5 := hb5.size; (repeat (first | rw [World.size_alloc] at hz5 | rw [World.size_setCell] at hz5 | rw [World.size_drew] at hz5)); have pp := C2.K hb5 (b := w1.heap.size) (x := _) (y := _) (by (repeat (first | ((with_reducible apply C2.mk) <;> (with_reducible assumption)) | (with_reducible apply C2.Z) | (with_reducible apply C2.O) | ((with_reducible apply C2.B); (focus (simp; done))) | (with_reducible apply C2.A) | (with_reducible apply C2.D) | ((with_reducible apply C2.S); focus ((repeat (first | rw [World.size_alloc] | rw [World.size_setCell] | rw [World.size_drew])); omega)) | ((with_reducible apply C2.K); (focus (with_reducible assumption)))))); obtain ⟨kk7, kk8⟩ := pp)
      have HW5 := Lib.hid (HW.out.below hb5)
      have hB5 : Below w.heap.size w w5 := hBr.trans (hb5.mono hsr)
      clear hI HW
      go_wp2_with fail
      (refine (drawUnitOk a1 len1 cap1 z1 _ (H1f _ (by (repeat' (first | (with_reducible exact Below.refl _ _) | (with_reducible refine Below.alloc ?_ ?_ _) | (with_reducible refine Below.drew ?_) | (with_reducible refine Below.setCell ?_ ?_ _) | (with_reducible refine Below.trans ?_ (Below.mono (by assumption) ?_)) | go_size))))).mono ?_; rintro e w6 ⟨e, f, rfl, -, hb6⟩; have hz6 := hb6.size; (repeat (first | rw [World.size_alloc] at hz6 | rw [World.size_setCell] at hz6 | rw [World.size_drew] at hz6)); have pp := C2.K hb6 (b := w1.heap.size) (x := _) (y := _) (by (repeat (first | ((with_reducible apply C2.mk) <;> (with_reducible assumption)) | (with_reducible apply C2.Z) | (with_reducible apply C2.O) | ((with_reducible apply C2.B); (focus (simp; done))) | (with_reducible apply C2.A) | (with_reducible apply C2.D) | ((with_reducible apply C2.S); focus ((repeat (first | rw [World.size_alloc] | rw [World.size_setCell] | rw [World.size_drew])); omega)) | ((with_reducible apply C2.K); (focus (with_reducible assumption)))))); obtain ⟨kk9, kk10⟩ := pp; have pp := C2.K hb6 (b := w5.heap.size) (x := _) (y := _) (by (repeat (first | ((with_reducible apply C2.mk) <;> (with_reducible assumption)) | (with_reducible apply C2.Z) | (with_reducible apply C2.O) | ((with_reducible apply C2.B); (focus (simp; done))) | (with_reducible apply C2.A) | (with_reducible apply C2.D) | ((with_reducible apply C2.S); focus ((repeat (first | rw [World.size_alloc] | rw [World.size_setCell] | rw [World.size_drew])); omega)) | ((with_reducible apply C2.K); (focus (with_reducible assumption)))))); obtain ⟨kk11, kk12⟩ := pp; (try clear kk7 kk8))
      obtain ⟨oT, s, u, hT⟩ := ti_is a b e f
      obtain ⟨o2, t2, K, hF2⟩ := fac_is s u
      obtain ⟨o3, t3, M, hF3⟩ := fac_is e f
      go_wp2_with fail
      (refine (iTimesOf_v _ hT).mono ?_; rintro e w7 ⟨rfl, hb7⟩; have hz7 := hb7.size; (repeat (first | rw [World.size_alloc] at hz7 | rw [World.size_setCell] at hz7 | rw [World.size_drew] at hz7)); have pp := C2.K hb7 (b := w1.heap.size) (x := _) (y := _) (by (repeat (first | ((with_reducible apply C2.mk) <;> (with_reducible assumption)) | (with_reducible apply C2.Z) | (with_reducible apply C2.O) | ((with_reducible apply C2.B); (focus (simp; done))) | (with_reducible apply C2.A) | (with_reducible apply C2.D) | ((with_reducible apply C2.S); focus ((repeat (first | rw [World.size_alloc] | rw [World.size_setCell] | rw [World.size_drew])); omega)) | ((with_reducible apply C2.K); (focus (with_reducible assumption)))))); obtain ⟨kk13, kk14⟩ := pp; have pp := C2.K hb7 (b := w5.heap.size) (x := _) (y := _) (by (repeat (first | ((with_reducible apply C2.mk) <;> (with_reducible assumption)) | (with_reducible apply C2.Z) | (with_reducible apply C2.O) | ((with_reducible apply C2.B); (focus (simp; done))) | (with_reducible apply C2.A) | (with_reducible apply C2.D) | ((with_reducible apply C2.S); focus ((repeat (first | rw [World.size_alloc] | rw [World.size_setCell] | rw [World.size_drew])); omega)) | ((with_reducible apply C2.K); (focus (with_reducible assumption)))))); obtain ⟨kk15, kk16⟩ := pp; have pp := C2.K hb7 (b := w6.heap.size) (x := _) (y := _) (by (repeat (first | ((with_reducible apply C2.mk) <;> (with_reducible assumption)) | (with_reducible apply C2.Z) | (with_reducible apply C2.O) | ((with_reducible apply C2.B); (focus (simp; done))) | (with_reducible apply C2.A) | (with_reducible apply C2.D) | ((with_reducible apply C2.S); focus ((repeat (first | rw [World.size_alloc] | rw [World.size_setCell] | rw [World.size_drew])); omega)) | ((with_reducible apply C2.K); (focus (with_reducible assumption)))))); obtain ⟨kk17, kk18⟩ := pp; (try clear kk9 kk10 kk11 kk12))
      go_wp2_with fail
      (refine (iFactorsOf_v _ hF2).mono ?_; rintro e w8 ⟨v2, rfl, g2, hb8⟩; have hz8 := hb8.size; (repeat (first | rw [World.size_alloc] at hz8 | rw [World.size_setCell] at hz8 | rw [World.size_drew] at hz8)); have pp := C2.K hb8 (b := w1.heap.size) (x := _) (y := _) (by (repeat (first | ((with_reducible apply C2.mk) <;> (with_reducible assumption)) | (with_reducible apply C2.Z) | (with_reducible apply C2.O) | ((with_reducible apply C2.B); (focus (simp; done))) | (with_reducible apply C2.A) | (with_reducible apply C2.D) | ((with_reducible apply C2.S); focus ((repeat (first | rw [World.size_alloc] | rw [World.size_setCell] | rw [World.size_drew])); omega)) | ((with_reducible apply C2.K); (focus (with_reducible assumption)))))); obtain ⟨kk19, kk20⟩ := pp; have pp := C2.K hb8 (b := w5.heap.size) (x := _) (y := _) (by (repeat (first | ((with_reducible apply C2.mk) <;> (with_reducible assumption)) | (with_reducible apply C2.Z) | (with_reducible apply C2.O) | ((with_reducible apply C2.B); (focus (simp; done))) | (with_reducible apply C2.A) | (with_reducible apply C2.D) | ((with_reducible apply C2.S); focus ((repeat (first | rw [World.size_alloc] | rw [World.size_setCell] | rw [World.size_drew])); omega)) | ((with_reducible apply C2.K); (focus (with_reducible assumption)))))); obtain ⟨kk21, kk22⟩ := pp; have pp := C2.K hb8 (b := w6.heap.size) (x := _) (y := _) (by (repeat (first | ((with_reducible apply C2.mk) <;> (with_reducible assumption)) | (with_reducible apply C2.Z) | (with_reducible apply C2.O) | ((with_reducible apply C2.B); (focus (simp; done))) | (with_reducible apply C2.A) | (with_reducible apply C2.D) | ((with_reducible apply C2.S); focus ((repeat (first | rw [World.size_alloc] | rw [World.size_setCell] | rw [World.size_drew])); omega)) | ((with_reducible apply C2.K); (focus (with_reducible assumption)))))); obtain ⟨kk23, kk24⟩ := pp; (try clear kk13 kk14 kk15 kk16 kk17 kk18))
      go_wp2_with fail
      (refine (iFactorsOf_v _ hF3).mono ?_; rintro e w9 ⟨v3, rfl, g3, hb9⟩; have hz9 := hb9.size; (repeat (first | rw [World.size_alloc] at hz9 | rw [World.size_setCell] at hz9 | rw [World.size_drew] at hz9)); have pp := C2.K hb9 (b := w1.heap.size) (x := _) (y := _) (by (repeat (first | ((with_reducible apply C2.mk) <;> (with_reducible assumption)) | (with_reducible apply C2.Z) | (with_reducible apply C2.O) | ((with_reducible apply C2.B); (focus (simp; done))) | (with_reducible apply C2.A) | (with_reducible apply C2.D) | ((with_reducible apply C2.S); focus ((repeat (first | rw [World.size_alloc] | rw [World.size_setCell] | rw [World.size_drew])); omega)) | ((with_reducible apply C2.K); (focus (with_reducible assumption)))))); obtain ⟨kk25, kk26⟩ := pp; have pp := C2.K hb9 (b := w5.heap.size) (x := _) (y := _) (by (repeat (first | ((with_reducible apply C2.mk) <;> (with_reducible assumption)) | (with_reducible apply C2.Z) | (with_reducible apply C2.O) | ((with_reducible apply C2.B); (focus (simp; done))) | (with_reducible apply C2.A) | (with_reducible apply C2.D) | ((with_reducible apply C2.S); focus ((repeat (first | rw [World.size_alloc] | rw [World.size_setCell] | rw [World.size_drew])); omega)) | ((with_reducible apply C2.K); (focus (with_reducible assumption)))))); obtain ⟨kk27, kk28⟩ := pp; (try clear kk19 kk20 kk21 kk22 kk23 kk24))
      have hK9 := g2.lr.below hb9
      have hM9 := g3.lr
      have hB59 : Below w5.heap.size w5 w9 := by (repeat' (first | (with_reducible exact Below.refl _ _) | (with_reducible refine Below.alloc ?_ ?_ _) | (with_reducible refine Below.drew ?_) | (with_reducible refine Below.setCell ?_ ?_ _) | (with_reducible refine Below.trans ?_ (Below.mono (by assumption) ?_)) | go_size))
      have hL9 := HW5.out.below hB59
      have hB9 : Below w.heap.size w w9 := hB5.trans (hB59.mono hB5.size)
      have hs9 := hB9.size
      have x0 : w9.cell? ⟨w1.heap.size, 0, none⟩ = some (.int .i64 a) := by (repeat (first | (with_reducible assumption) | (with_reducible apply sameS) | ((with_reducible apply born); (focus (simp; done)); (focus rfl)) | (with_reducible apply keepA) | (with_reducible apply keepD) | ((with_reducible apply keepS); focus ((repeat (first | rw [World.size_alloc] | rw [World.size_setCell] | rw [World.size_drew])); omega)) | ((with_reducible apply keep); (focus (with_reducible assumption)))))
      have x1 : w9.cell? ⟨w1.heap.size, 1, none⟩ = some (.int .i64 b) := by (repeat (first | (with_reducible assumption) | (with_reducible apply sameS) | ((with_reducible apply born); (focus (simp; done)); (focus rfl)) | (with_reducible apply keepA) | (with_reducible apply keepD) | ((with_reducible apply keepS); focus ((repeat (first | rw [World.size_alloc] | rw [World.size_setCell] | rw [World.size_drew])); omega)) | ((with_reducible apply keep); (focus (with_reducible assumption)))))
      have p0 : w9.cell? ⟨w5.heap.size, 0, none⟩ = some (.int .i64 rx) := by (repeat (first | (with_reducible assumption) | (with_reducible apply sameS) | ((with_reducible apply born); (focus (simp; done)); (focus rfl)) | (with_reducible apply keepA) | (with_reducible apply keepD) | ((with_reducible apply keepS); focus ((repeat (first | rw [World.size_alloc] | rw [World.size_setCell] | rw [World.size_drew])); omega)) | ((with_reducible apply keep); (focus (with_reducible assumption)))))
      have p1 : w9.cell? ⟨w5.heap.size, 1, none⟩ = some (.int .i64 ry) := by (repeat (first | (with_reducible assumption) | (with_reducible apply sameS) | ((with_reducible apply born); (focus (simp; done)); (focus rfl)) | (with_reducible apply keepA) | (with_reducible apply keepD) | ((with_reducible apply keepS); focus ((repeat (first | rw [World.size_alloc] | rw [World.size_setCell] | rw [World.size_drew])); omega)) | ((with_reducible apply keep); (focus (with_reducible assumption)))))
      obtain ⟨ak, ck, rfl, -⟩ := id hK9
      obtain ⟨am, cm, rfl, -⟩ := id hM9
      clear hb5 hb6 hb7 hb8 hb9 hz5 hz6 hz7 hz8 hz9 hB59 g2 g3 HW5 y0 y1 hb hsb hBr hsr hB5 B4 H1f
      cases oT
      · clear hT hF2 hF3 hK9 hM9 hL9
        cases ro
        · go_wp2_with fail
          (refine (iNormOf_v _ hnz).mono ?_; rintro e w10 ⟨rfl, hb10⟩; have hz10 := hb10.size; (repeat (first | rw [World.size_alloc] at hz10 | rw [World.size_setCell] at hz10 | rw [World.size_drew] at hz10)); (try clear kk25 kk26 kk27 kk28))
          go_wp2_with fail
          go_returns
          exact ⟨by first | rfl | simp, hB9.trans (hb10.mono hB9.size)⟩
        · obtain ⟨e1, e2⟩ := hrr rfl
          have hE : (rx == a && ry == b) = true := by rw [e1, e2]; simp
          clear e1 e2 hrr
          go_wp2_with fail
          (refine (iNormOf_v _ hnz).mono ?_; rintro e w10 ⟨rfl, hb10⟩; have hz10 := hb10.size; (repeat (first | rw [World.size_alloc] at hz10 | rw [World.size_setCell] at hz10 | rw [World.size_drew] at hz10)))
          go_wp2_with fail
          go_returns
          exact ⟨by first | rfl | simp, hB9.trans (hb10.mono hB9.size)⟩
      cases o3
      · clear hT hF2 hF3 hK9 hM9 hL9
        cases ro
        · go_wp2_with fail
          (refine (iNormOf_v _ hnz).mono ?_; rintro e w10 ⟨rfl, hb10⟩; have hz10 := hb10.size; (repeat (first | rw [World.size_alloc] at hz10 | rw [World.size_setCell] at hz10 | rw [World.size_drew] at hz10)))
          go_wp2_with fail
          go_returns
          exact ⟨by first | rfl | simp, hB9.trans (hb10.mono hB9.size)⟩
        · obtain ⟨e1, e2⟩ := hrr rfl
          have hE : (rx == a && ry == b) = true := by rw [e1, e2]; simp
          clear e1 e2 hrr
          go_wp2_with fail
          (refine (iNormOf_v _ hnz).mono ?_; rintro e w10 ⟨rfl, hb10⟩; have hz10 := hb10.size; (repeat (first | rw [World.size_alloc] at hz10 | rw [World.size_setCell] at hz10 | rw [World.size_drew] at hz10)))
          go_wp2_with fail
          go_returns
          exact ⟨by first | rfl | simp, hB9.trans (hb10.mono hB9.size)⟩
      obtain ⟨rfl, hKl, hcount⟩ := hF.both hF3 hF2 hT
      have hlk := hF2.len
      have hlm := hF3.len
      obtain ⟨kn, hkn⟩ : ∃ n, K.length = n := ⟨_, rfl⟩
      obtain ⟨mn, hmn⟩ : ∃ n, M.length = n := ⟨_, rfl⟩
      have hKL : ((kn : Int) != (n : Int) + (mn : Int)) = false := by
        rw [bne_eq_false_iff_eq]; omega
      rw [hkn] at hlk hK9 ⊢
      rw [hmn] at hlm hM9 ⊢
      clear hT hF2 hF3 hKl
      go_wp2_with fail
      clear hKL
      go_loopw [28] (fun u wr => ∃ i : Nat, u = .int .i64 (i : Int) ∧ i ≤ kn ∧ Below w9.heap.size w9 wr) (fun u _ => kn - (intOf u).toNat)
      case atStart => exact ⟨0, rfl, Nat.zero_le _, Below.refl _ _⟩
      case round =>
        obtain ⟨i, rfl, hi, hbi⟩ := hrel
        by_cases hlti : i < kn
        · have hdi : decide ((i : Int) < (kn : Int)) = true := decide_eq_true (by omega)
          have hneK : K ≠ [] := by rintro rfl; simp at hkn; omega
          obtain ⟨gk, rfl, hAK⟩ := hK9.at hneK
          obtain ⟨⟨p, q⟩, hpq⟩ : ∃ q, K[i]? = some q := ⟨_, List.getElem?_eq_getElem (by omega)⟩
          have HC := Lib.hid (hcount _ (List.mem_of_getElem? hpq))
          obtain ⟨i0, i1⟩ := hAK i p q hpq
          clear hcount hpq x0 x1 p0 p1
          go_wp2_with fail
          go_loopw [29, 30] (fun m u wr => ∃ (j : Nat) (c : Int), m = .int .i64 c ∧ u = .int .i64 (j : Int) ∧ j ≤ kn ∧ CnU K (p, q) j c ∧ Below w9.heap.size w9 wr) (fun _ u _ => kn - (intOf u).toNat)
          case atStart => exact ⟨0, 0, rfl, rfl, Nat.zero_le _, CnU.start _ _, hbi⟩
          case round =>
            clear hbi
            obtain ⟨j, c, rfl, rfl, hj, hc, hb⟩ := hrel
            by_cases hltj : j < kn
            · have hdj : decide ((j : Int) < (kn : Int)) = true := decide_eq_true (by omega)
              obtain ⟨⟨x, y⟩, hxy⟩ : ∃ q, K[j]? = some q := ⟨_, List.getElem?_eq_getElem (by omega)⟩
              obtain ⟨c0, c1⟩ := hAK j x y hxy
              have l0 := keep hb c0
              have l1 := keep hb c1
              have s0 := keep hb i0
              have s1 := keep hb i1
              have hcb' := hc.bd
              clear c0 c1
              cases he : (x == p && y == q)
              · have hc' := hc.ne hxy he
                clear hc hxy
                go_wp2_with fail
                refine wp_name ?_
                intro wA hbwA
                have l0_a := keep hbwA l0
                have l0_r := cell_regrown l0_a
                have l1_a := keep hbwA l1
                have l1_r := cell_regrown l1_a
                have s0_a := keep hbwA s0
                have s0_r := cell_regrown s0_a
                have s1_a := keep hbwA s1
                have s1_r := cell_regrown s1_a
                clear l0 l1 s0 s1
                refine wp_region_quiet_below (by kernel_rfl) (by kernel_rfl) ?_
                (repeat (first | go_big_quiet_step (fail) | quiet_step (fail)))
                refine wpQuiet_nil ?_
                intro wB hwwB
                have hbwB := below_of_regrown hwwB
                clear hwwB
                have l0 := keep hbwB l0_a
                have l1 := keep hbwB l1_a
                have s0 := keep hbwB s0_a
                have s1 := keep hbwB s1_a
                clear l0_a l0_r l1_a l1_r s0_a s0_r s1_a s1_r
                have hbB : Below w9.heap.size w9 wB := (hb.trans (hbwA.mono hb.size)).trans (hbwB.mono (by have := hb.size; have := hbwA.size; omega))
                go_wp2_with fail
                go_roundw
                case rel => exact ⟨j + 1, c, rfl, by simp, by omega, hc', hbB⟩
                case measure => simp [intOf]; omega
              · have hc' := hc.eq hxy he
                clear hc hxy
                go_wp2_with fail
                refine wp_name ?_
                intro wA hbwA
                have l0_a := keep hbwA l0
                have l0_r := cell_regrown l0_a
                have l1_a := keep hbwA l1
                have l1_r := cell_regrown l1_a
                have s0_a := keep hbwA s0
                have s0_r := cell_regrown s0_a
                have s1_a := keep hbwA s1
                have s1_r := cell_regrown s1_a
                clear l0 l1 s0 s1
                refine wp_region_quiet_below (by kernel_rfl) (by kernel_rfl) ?_
                (repeat (first | go_big_quiet_step (fail) | quiet_step (fail)))
                refine wpQuiet_nil ?_
                intro wB hwwB
                have hbwB := below_of_regrown hwwB
                clear hwwB
                have l0 := keep hbwB l0_a
                have l1 := keep hbwB l1_a
                have s0 := keep hbwB s0_a
                have s1 := keep hbwB s1_a
                clear l0_a l0_r l1_a l1_r s0_a s0_r s1_a s1_r
                have hbB : Below w9.heap.size w9 wB := (hb.trans (hbwA.mono hb.size)).trans (hbwB.mono (by have := hb.size; have := hbwA.size; omega))
                go_wp2_with fail
                go_roundw
                case rel => exact ⟨j + 1, (c + 1), rfl, by simp, by omega, hc', hbB⟩
                case measure => simp [intOf]; omega
            · have hdj : decide ((j : Int) < (kn : Int)) = false := decide_eq_false (by omega)
              have HE := Lib.hid (hc.all (by omega))
              have hcb : 0 ≤ c ∧ c ≤ 40 := by have := hc.bd; omega
              clear hc
              go_wp2_with fail
              go_loopw [29, 31] (fun m u wr => ∃ (j : Nat) (d : Int), m = .int .i64 d ∧ u = .int .i64 (j : Int) ∧ j ≤ n ∧ CnD L (p, q) c j d ∧ Below w9.heap.size w9 wr) (fun _ u _ => n - (intOf u).toNat)
              case atStart => exact ⟨0, c, rfl, rfl, Nat.zero_le _, CnD.start _ _ _, hb⟩
              case round =>
                clear hb hdj hltj hj
                obtain ⟨j, d, rfl, rfl, hj, hc, hb⟩ := hrel
                by_cases hltj : j < n
                · have hdj : decide ((j : Int) < (n : Int)) = true := decide_eq_true (by omega)
                  have hne : L ≠ [] := by rintro rfl; simp at hn; omega
                  obtain ⟨g, rfl, hA⟩ := hL9.at hne
                  obtain ⟨⟨x, y⟩, hxy⟩ : ∃ q, L[j]? = some q := ⟨_, List.getElem?_eq_getElem (by omega)⟩
                  obtain ⟨c0, c1⟩ := hA j x y hxy
                  have l0 := keep hb c0
                  have l1 := keep hb c1
                  have s0 := keep hb i0
                  have s1 := keep hb i1
                  have hcb' := hc.bd
                  clear c0 c1
                  cases he : (x == p && y == q)
                  · have hc' := hc.ne hxy he
                    clear hc hxy
                    go_wp2_with fail
                    refine wp_name ?_
                    intro wA hbwA
                    have l0_a := keep hbwA l0
                    have l0_r := cell_regrown l0_a
                    have l1_a := keep hbwA l1
                    have l1_r := cell_regrown l1_a
                    have s0_a := keep hbwA s0
                    have s0_r := cell_regrown s0_a
                    have s1_a := keep hbwA s1
                    have s1_r := cell_regrown s1_a
                    clear l0 l1 s0 s1
                    refine wp_region_quiet_below (by kernel_rfl) (by kernel_rfl) ?_
                    (repeat (first | go_big_quiet_step (fail) | quiet_step (fail)))
                    refine wpQuiet_nil ?_
                    intro wB hwwB
                    have hbwB := below_of_regrown hwwB
                    clear hwwB
                    have l0 := keep hbwB l0_a
                    have l1 := keep hbwB l1_a
                    have s0 := keep hbwB s0_a
                    have s1 := keep hbwB s1_a
                    clear l0_a l0_r l1_a l1_r s0_a s0_r s1_a s1_r
                    have hbB : Below w9.heap.size w9 wB := (hb.trans (hbwA.mono hb.size)).trans (hbwB.mono (by have := hb.size; have := hbwA.size; omega))
                    go_wp2_with fail
                    go_roundw
                    case rel => exact ⟨j + 1, d, rfl, by simp, by omega, hc', hbB⟩
                    case measure => simp [intOf]; omega
                  · have hc' := hc.eq hxy he
                    clear hc hxy
                    go_wp2_with fail
                    refine wp_name ?_
                    intro wA hbwA
                    have l0_a := keep hbwA l0
                    have l0_r := cell_regrown l0_a
                    have l1_a := keep hbwA l1
                    have l1_r := cell_regrown l1_a
                    have s0_a := keep hbwA s0
                    have s0_r := cell_regrown s0_a
                    have s1_a := keep hbwA s1
                    have s1_r := cell_regrown s1_a
                    clear l0 l1 s0 s1
                    refine wp_region_quiet_below (by kernel_rfl) (by kernel_rfl) ?_
                    (repeat (first | go_big_quiet_step (fail) | quiet_step (fail)))
                    refine wpQuiet_nil ?_
                    intro wB hwwB
                    have hbwB := below_of_regrown hwwB
                    clear hwwB
                    have l0 := keep hbwB l0_a
                    have l1 := keep hbwB l1_a
                    have s0 := keep hbwB s0_a
                    have s1 := keep hbwB s1_a
                    clear l0_a l0_r l1_a l1_r s0_a s0_r s1_a s1_r
                    have hbB : Below w9.heap.size w9 wB := (hb.trans (hbwA.mono hb.size)).trans (hbwB.mono (by have := hb.size; have := hbwA.size; omega))
                    go_wp2_with fail
                    go_roundw
                    case rel => exact ⟨j + 1, (d - 1), rfl, by simp, by omega, hc', hbB⟩
                    case measure => simp [intOf]; omega
                · have hdj : decide ((j : Int) < (n : Int)) = false := decide_eq_false (by omega)
                  have HE2 := Lib.hid (hc.all (by omega))
                  have hcb2 : -40 ≤ d ∧ d ≤ 40 := by have := hc.bd; omega
                  clear hc
                  go_wp2_with fail
                  go_loopw [29, 32] (fun m u wr => ∃ (j : Nat) (d' : Int), m = .int .i64 d' ∧ u = .int .i64 (j : Int) ∧ j ≤ mn ∧ CnD M (p, q) d j d' ∧ Below w9.heap.size w9 wr) (fun _ u _ => mn - (intOf u).toNat)
                  case atStart => exact ⟨0, d, rfl, rfl, Nat.zero_le _, CnD.start _ _ _, hb⟩
                  case round =>
                    clear hb hdj hltj
                    obtain ⟨j, d', rfl, rfl, hj, hc, hb⟩ := hrel
                    by_cases hltj : j < mn
                    · have hdj : decide ((j : Int) < (mn : Int)) = true := decide_eq_true (by omega)
                      have hneM : M ≠ [] := by rintro rfl; simp at hmn; omega
                      obtain ⟨gm, rfl, hA⟩ := hM9.at hneM
                      obtain ⟨⟨x, y⟩, hxy⟩ : ∃ q, M[j]? = some q := ⟨_, List.getElem?_eq_getElem (by omega)⟩
                      obtain ⟨c0, c1⟩ := hA j x y hxy
                      have l0 := keep hb c0
                      have l1 := keep hb c1
                      have s0 := keep hb i0
                      have s1 := keep hb i1
                      have hcb' := hc.bd
                      clear c0 c1
                      cases he : (x == p && y == q)
                      · have hc' := hc.ne hxy he
                        clear hc hxy
                        go_wp2_with fail
                        refine wp_name ?_
                        intro wA hbwA
                        have l0_a := keep hbwA l0
                        have l0_r := cell_regrown l0_a
                        have l1_a := keep hbwA l1
                        have l1_r := cell_regrown l1_a
                        have s0_a := keep hbwA s0
                        have s0_r := cell_regrown s0_a
                        have s1_a := keep hbwA s1
                        have s1_r := cell_regrown s1_a
                        clear l0 l1 s0 s1
                        refine wp_region_quiet_below (by kernel_rfl) (by kernel_rfl) ?_
                        (repeat (first | go_big_quiet_step (fail) | quiet_step (fail)))
                        refine wpQuiet_nil ?_
                        intro wB hwwB
                        have hbwB := below_of_regrown hwwB
                        clear hwwB
                        have l0 := keep hbwB l0_a
                        have l1 := keep hbwB l1_a
                        have s0 := keep hbwB s0_a
                        have s1 := keep hbwB s1_a
                        clear l0_a l0_r l1_a l1_r s0_a s0_r s1_a s1_r
                        have hbB : Below w9.heap.size w9 wB := (hb.trans (hbwA.mono hb.size)).trans (hbwB.mono (by have := hb.size; have := hbwA.size; omega))
                        go_wp2_with fail
                        go_roundw
                        case rel => exact ⟨j + 1, d', rfl, by simp, by omega, hc', hbB⟩
                        case measure => simp [intOf]; omega
                      · have hc' := hc.eq hxy he
                        clear hc hxy
                        go_wp2_with fail
                        refine wp_name ?_
                        intro wA hbwA
                        have l0_a := keep hbwA l0
                        have l0_r := cell_regrown l0_a
                        have l1_a := keep hbwA l1
                        have l1_r := cell_regrown l1_a
                        have s0_a := keep hbwA s0
                        have s0_r := cell_regrown s0_a
                        have s1_a := keep hbwA s1
                        have s1_r := cell_regrown s1_a
                        clear l0 l1 s0 s1
                        refine wp_region_quiet_below (by kernel_rfl) (by kernel_rfl) ?_
                        (repeat (first | go_big_quiet_step (fail) | quiet_step (fail)))
                        refine wpQuiet_nil ?_
                        intro wB hwwB
                        have hbwB := below_of_regrown hwwB
                        clear hwwB
                        have l0 := keep hbwB l0_a
                        have l1 := keep hbwB l1_a
                        have s0 := keep hbwB s0_a
                        have s1 := keep hbwB s1_a
                        clear l0_a l0_r l1_a l1_r s0_a s0_r s1_a s1_r
                        have hbB : Below w9.heap.size w9 wB := (hb.trans (hbwA.mono hb.size)).trans (hbwB.mono (by have := hb.size; have := hbwA.size; omega))
                        go_wp2_with fail
                        go_roundw
                        case rel => exact ⟨j + 1, (d' - 1), rfl, by simp, by omega, hc', hbB⟩
                        case measure => simp [intOf]; omega
                    · have hdj : decide ((j : Int) < (mn : Int)) = false := decide_eq_false (by omega)
                      obtain rfl : d' = 0 := by
                        have h1 := hc.all (by omega)
                        have h2 := HE.out
                        have h3 := HE2.out
                        have h4 := HC.out
                        omega
                      clear hc
                      go_wp2_with fail
                      go_roundw
                      case rel => exact ⟨i + 1, by simp, by omega, hb⟩
                      case measure => simp [intOf]; omega
        · have hdi : decide ((i : Int) < (kn : Int)) = false := decide_eq_false (by omega)
          have x0 := keep hbi x0
          have x1 := keep hbi x1
          have p0 := keep hbi p0
          have p1 := keep hbi p1
          have hBr : Below w.heap.size w wr := hB9.trans (hbi.mono hs9)
          clear hK9 hM9 hL9 hcount
          cases ro
          · go_wp2_with fail
            (refine (iNormOf_v _ hnz).mono ?_; rintro e w10 ⟨rfl, hb10⟩; have hz10 := hb10.size; (repeat (first | rw [World.size_alloc] at hz10 | rw [World.size_setCell] at hz10 | rw [World.size_drew] at hz10)))
            go_wp2_with fail
            go_returns
            exact ⟨by first | rfl | simp, hBr.trans (hb10.mono hBr.size)⟩
          · obtain ⟨e1, e2⟩ := hrr rfl
            have hE : (rx == a && ry == b) = true := by rw [e1, e2]; simp
            clear e1 e2 hrr
            go_wp2_with fail
            (refine (iNormOf_v _ hnz).mono ?_; rintro e w10 ⟨rfl, hb10⟩; have hz10 := hb10.size; (repeat (first | rw [World.size_alloc] at hz10 | rw [World.size_setCell] at hz10 | rw [World.size_drew] at hz10)))
            go_wp2_with fail
            go_returns
            exact ⟨by first | rfl | simp, hBr.trans (hb10.mono hBr.size)⟩
end Go.Proofs.Ytnochfnmkenemaa
