import Derived.Test.YtahnkecdningnaaQa
import Derived.Test.YtahnkecdningnaaSk
import Derived.Test.YtahnkecdningnaaSn
import Derived.Test.YtahnkecdningnaaPd
namespace Go.Proofs.Ytahnkecdningnaa
open Go Go.RowKit

/-- What CountApart tells. -/
def CaIs (e f n : Int) : Prop := (mdO e f = false ∧ n = -1) ∨ (mdO e f = true ∧ ∃ t l, FacIs e f true t l ∧ n = phG l)
theorem ca_any (e f : Int) : ∃ n, CaIs e f n := by
  cases hd : mdO e f
  · exact ⟨-1, .inl ⟨hd, rfl⟩⟩
  · obtain ⟨o, t, l, h⟩ := fac_is e f
    obtain rfl : o = true := by
      obtain ⟨k, -, -⟩ := md_is hd
      have hp := (md_nG hd).1
      rw [h.1, faO, k]
      cases hz : (e == 0 && f == 0)
      · rfl
      · simp only [Bool.and_eq_true, beq_iff_eq] at hz
        obtain ⟨rfl, rfl⟩ := hz
        exact absurd hp (by decide)
    exact ⟨_, .inr ⟨hd, t, l, h, rfl⟩⟩
theorem CaIs.none {e f n : Int} (h : CaIs e f n) (hd : mdO e f = false) : n = -1 := by
  rcases h with ⟨-, h⟩ | ⟨h, -⟩
  · exact h
  · rw [hd] at h; cases h
theorem CaIs.some {e f n : Int} (h : CaIs e f n) (hd : mdO e f = true) : ∃ t l, FacIs e f true t l ∧ Facs (e, f) t l ∧ n = phG l := by
  rcases h with ⟨h, -⟩ | ⟨-, t, l, h, hn⟩
  · rw [hd] at h; cases h
  · exact ⟨t, l, h, h.2.2 rfl, hn⟩
theorem facs_nG {z : Int × Int} {t : Int} {l : List (Int × Int)} (h : Facs z t l) : nG (prodG l) = nG z := by
  rw [← h.prod, nG_mu, uG_nG h.t0 h.t3, Int.one_mul]
/-- How great the numbers are on the way. -/
theorem ca_bd {z : Int × Int} {t : Int} {l : List (Int × Int)} (h : Facs z t l) (h1 : 1 ≤ nG z) (h2 : nG z ≤ 100) (k : Nat) : 1 ≤ phG (l.take k).reverse ∧ phG (l.take k).reverse ≤ 100 := by
  have hp : ∀ q ∈ l.take k, PrQ q := fun q hq => h.pr q (List.mem_of_mem_take hq)
  obtain ⟨b1, b2⟩ := phG_bd hp
  rw [phG_all]
  refine ⟨b1, ?_⟩
  have e : nG (prodG (l.take k)) * nG (prodG (l.drop k)) = nG z := by
    rw [← nG_mu, ← prodG_append, List.take_append_drop, facs_nG h]
  have hd1 : 1 ≤ nG (prodG (l.drop k)) := by
    have := (phG_bd (l := l.drop k) fun q hq => h.pr q (List.mem_of_mem_drop hq))
    omega
  have := Int.mul_le_mul_of_nonneg_left hd1 (show 0 ≤ nG (prodG (l.take k)) by omega)
  omega
theorem ca_pr {z : Int × Int} {t : Int} {l : List (Int × Int)} (h : Facs z t l) (h1 : 1 ≤ nG z) (h2 : nG z ≤ 100) {p q : Int} (hp : (p, q) ∈ l) : gok p q = true ∧ 2 ≤ p * p + q * q ∧ p * p + q * q ≤ 100 ∧ ¬ (p = 0 ∧ q = 0) := by
  have hq := h.pr _ hp
  have h3 : 2 ≤ p * p + q * q := pr_nG hq.prI
  obtain ⟨y, -, -, -, -, h4, -⟩ := (h.dvd hp).parts h1
  have h5 : p * p + q * q ≤ nG z := h4
  exact ⟨hq.prI.1, h3, by omega, by rintro ⟨rfl, rfl⟩; omega⟩
theorem CaIs.bd {e f n : Int} (h : CaIs e f n) : -1 ≤ n ∧ n ≤ 100 := by
  cases hd : mdO e f
  · have := h.none hd; omega
  · obtain ⟨t, l, -, hf, rfl⟩ := h.some hd
    obtain ⟨h1, h2⟩ := md_nG hd
    have := ca_bd hf (by omega) h2 l.length
    rw [List.take_length, phG_all] at this
    omega
theorem CaIs.pos {e f n : Int} (h : CaIs e f n) (hd : mdO e f = true) : 1 ≤ n := by
  obtain ⟨t, l, -, hf, rfl⟩ := h.some hd
  obtain ⟨h1, h2⟩ := md_nG hd
  have := ca_bd hf (by omega) h2 l.length
  rw [List.take_length, phG_all] at this
  omega
/-- The last one of the row so far. -/
def lastG (l : List (Int × Int)) : Nat → Int × Int
  | 0 => (0, 0)
  | k + 1 => l[k]?.getD (0, 0)
theorem ca_step {z : Int × Int} {t : Int} {l : List (Int × Int)} (h : Facs z t l) (h1 : 1 ≤ nG z) (h2 : nG z ≤ 100) {k : Nat} {p q : Int} (hk : l[k]? = some (p, q)) :
    phG (l.take (k + 1)).reverse = phG (l.take k).reverse * (if (p == (lastG l k).1 && q == (lastG l k).2) then p * p + q * q else p * p + q * q - 1) ∧ lastG l (k + 1) = (p, q) := by
  refine ⟨?_, by rw [lastG, hk]; rfl⟩
  rw [phG_step h.pr h.sorted hk, Int.mul_comm]
  congr 1
  have hz := (ca_pr h h1 h2 (List.mem_of_getElem? hk)).2.2.2
  have e : (p == (lastG l k).1 && q == (lastG l k).2) = decide (0 < k ∧ l[k - 1]? = some (p, q)) := by
    cases k with
    | zero =>
      rw [decide_eq_false (by omega), lastG]
      simp only [Bool.and_eq_false_iff, beq_eq_false_iff_ne]
      omega
    | succ k =>
      rw [lastG, Nat.add_sub_cancel]
      obtain ⟨r, hr⟩ : ∃ r, l[k]? = some r := ⟨_, List.getElem?_eq_getElem (by have := (List.getElem?_eq_some_iff.1 hk).1; omega)⟩
      rw [hr, Option.getD_some, pair_beq, decide_eq_decide]
      obtain ⟨r1, r2⟩ := r
      simp only [Prod.mk.injEq, Option.some.injEq]
      omega
  rw [e]
  simp only [decide_eq_true_eq]
  rfl
end Go.Proofs.Ytahnkecdningnaa

namespace Go.Proofs.Ytahnkecdningnaa
open Go Go.RowKit
attribute [local go_sem] World.cell?_alloc_some cell?_alloc2_some cell?_alloc3_some cell?_alloc4_some frozen?_alloc_some frozen?_alloc2_some frozen?_alloc3_some World.cell?_setCell_far new_ne0 new_ne1 new_ne2 new_ne3 lt2 lt3 lt4 lt5 lt6 lt7 lt8 lt9
attribute [local go_sem ↓] eqG neG
attribute [local go_sem] cell?_alloc_lt frozen?_alloc_lt lt10

set_option maxHeartbeats 8000000 in
theorem iCountApart_v {e f n : Int} (w : World) (h : CaIs e f n) : Calls Try.prog 16 #[.agg #[.int .i64 e, .int .i64 f]] w fun e w' => e = .returned (.int .i64 n) ∧ Below w.heap.size w w' := by
  cases hd : mdO e f
  · obtain rfl := h.none hd
    clear h
    go_enter Try.func16, Try.ntmps16
    go_wp2_with fail
    (refine (iModulusOk_v _ hd).mono ?_; rintro e w1 ⟨rfl, hb1⟩; have hz1 := hb1.size; (repeat (first | rw [World.size_alloc] at hz1 | rw [World.size_setCell] at hz1 | rw [World.size_drew] at hz1)); have pp := C2.K hb1 (b := w.heap.size) (x := _) (y := _) (by (repeat (first | ((with_reducible apply C2.mk) <;> (with_reducible assumption)) | (with_reducible apply C2.Z) | (with_reducible apply C2.O) | ((with_reducible apply C2.B); (focus (simp; done))) | (with_reducible apply C2.A) | (with_reducible apply C2.D) | ((with_reducible apply C2.S); focus ((repeat (first | rw [World.size_alloc] | rw [World.size_setCell] | rw [World.size_drew])); omega)) | ((with_reducible apply C2.K); (focus (with_reducible assumption)))))); obtain ⟨kk1, kk2⟩ := pp)
    go_wp2_with fail
    go_returns
    exact ⟨rfl, by (repeat' (first | (with_reducible exact Below.refl _ _) | (with_reducible refine Below.alloc ?_ ?_ _) | (with_reducible refine Below.drew ?_) | (with_reducible refine Below.setCell ?_ ?_ _) | (with_reducible refine Below.trans ?_ (Below.mono (by assumption) ?_)) | go_size))⟩
  obtain ⟨t, l, hfi, hf, hn⟩ := h.some hd
  obtain ⟨h1, h2⟩ := md_nG hd
  have h1' : 1 ≤ nG (e, f) := by omega
  have HB := Lib.hid (ca_bd hf h1' h2)
  have HS := Lib.hid (fun k p q => ca_step (k := k) (p := p) (q := q) hf h1' h2)
  have HP := Lib.hid (fun p q => ca_pr (p := p) (q := q) hf h1' h2)
  have hNb := hfi.len
  have HN := Lib.hid (show phG (l.take l.length).reverse = n by rw [List.take_length, phG_all]; exact hn.symm)
  clear h hf hn h1 h2 h1'
  go_enter Try.func16, Try.ntmps16
  go_wp2_with fail
  (refine (iModulusOk_v _ hd).mono ?_; rintro e w1 ⟨rfl, hb1⟩; have hz1 := hb1.size; (repeat (first | rw [World.size_alloc] at hz1 | rw [World.size_setCell] at hz1 | rw [World.size_drew] at hz1)); have pp := C2.K hb1 (b := w.heap.size) (x := _) (y := _) (by (repeat (first | ((with_reducible apply C2.mk) <;> (with_reducible assumption)) | (with_reducible apply C2.Z) | (with_reducible apply C2.O) | ((with_reducible apply C2.B); (focus (simp; done))) | (with_reducible apply C2.A) | (with_reducible apply C2.D) | ((with_reducible apply C2.S); focus ((repeat (first | rw [World.size_alloc] | rw [World.size_setCell] | rw [World.size_drew])); omega)) | ((with_reducible apply C2.K); (focus (with_reducible assumption)))))); obtain ⟨kk3, kk4⟩ := pp; (try clear kk1 kk2))
  go_wp2_with fail
  (refine (iFactorsOf_v _ hfi).mono ?_; rintro e w2 ⟨v, rfl, g, hb2⟩; have hz2 := hb2.size; (repeat (first | rw [World.size_alloc] at hz2 | rw [World.size_setCell] at hz2 | rw [World.size_drew] at hz2)); (try clear kk3 kk4))
  clear hd hfi
  obtain ⟨ga, cap, rfl, hga⟩ := g.form
  have B2 : Below w.heap.size w w2 := by (repeat' (first | (with_reducible exact Below.refl _ _) | (with_reducible refine Below.alloc ?_ ?_ _) | (with_reducible refine Below.drew ?_) | (with_reducible refine Below.setCell ?_ ?_ _) | (with_reducible refine Below.trans ?_ (Below.mono (by assumption) ?_)) | go_size))
  have hs2 := B2.size
  obtain ⟨N, hN⟩ : ∃ N, l.length = N := ⟨_, rfl⟩
  have hN' := HN.out
  rw [hN] at hN' hNb ⊢
  have HN' := Lib.hid hN'
  clear HN hN' g hb1 hb2
  go_wp2_with fail
  go_loopw [6, 22] (fun c u wr => ∃ (k : Nat) (m q1 q2 : Int), u = .int .i64 (k : Int) ∧ c = .int .i64 m ∧ k ≤ N ∧ m = phG (l.take k).reverse ∧ lastG l k = (q1, q2) ∧ Two wr w2.heap.size q1 q2 ∧ Below w2.heap.size w2 wr) (fun _ u _ => N - (intOf u).toNat)
  case atStart => exact ⟨0, 1, 0, 0, rfl, rfl, Nat.zero_le _, rfl, rfl, Two.of (by (repeat (first | ((with_reducible apply T2.mk) <;> (with_reducible assumption)) | (with_reducible apply T2.Z) | (with_reducible apply T2.O) | ((with_reducible apply T2.B); (focus (simp; done))) | (with_reducible apply T2.A) | (with_reducible apply T2.D) | ((with_reducible apply T2.S); focus ((repeat (first | rw [World.size_alloc] | rw [World.size_setCell] | rw [World.size_drew])); omega)) | ((with_reducible apply T2.K); (focus (with_reducible assumption)))))), by (repeat' (first | (with_reducible exact Below.refl _ _) | (with_reducible refine Below.alloc ?_ ?_ _) | (with_reducible refine Below.drew ?_) | (with_reducible refine Below.setCell ?_ ?_ _) | (with_reducible refine Below.trans ?_ (Below.mono (by assumption) ?_)) | go_size))⟩
  case round =>
    obtain ⟨k, m, q1, q2, rfl, rfl, hk, hm, hlast, ⟨x0, x1, x2, x3⟩, hb⟩ := hrel
    have hsb := hb.size
    have hlr : w2.heap.size < wr.heap.size := World.block_lt_of_cell? _ _ x0
    have n1 : (w2.heap.size = wr.heap.size) = False := by simp; omega
    have n2 : (wr.heap.size = w2.heap.size) = False := by simp; omega
    by_cases hlt : k < N
    · have hd1 : decide ((k : Int) < (N : Int)) = true := decide_eq_true (by omega)
      obtain ⟨⟨p, q⟩, hpq⟩ : ∃ r, l[k]? = some r := ⟨_, List.getElem?_eq_getElem (by omega)⟩
      have hne : l ≠ [] := by rintro rfl; simp at hpq
      obtain ⟨g, rfl, hg1, hg2, hA, -⟩ := hga hne
      obtain ⟨c0, c1⟩ := hA k p q hpq
      have l0 := keep hb c0
      have l1 := keep hb c1
      obtain ⟨kp, p2, p100, hpz⟩ := HP.out p q (List.mem_of_getElem? hpq)
      obtain ⟨hst, hla⟩ := HS.out k p q hpq
      obtain ⟨b1, b2⟩ := HB.out k
      obtain ⟨b3, b4⟩ := HB.out (k + 1)
      rw [hlast, ← hm] at hst
      rw [← hm] at b1 b2
      obtain ⟨M, hM⟩ : ∃ M, phG (l.take (k + 1)).reverse = M := ⟨_, rfl⟩
      rw [hM] at b3 b4 hst
      dsimp only at hst
      obtain ⟨T, hT⟩ : ∃ T, p * p + q * q = T := ⟨_, rfl⟩
      rw [hT] at hst p2 p100
      have Hm := Lib.hid hM
      have Hl := Lib.hid hla
      clear hM hla hm hlast hpq c0 c1 hA hga hpz
      cases hs : (p == q1 && q == q2)
      · rw [hs, if_neg (by simp)] at hst
        have hw1 : IntKind.i64.wrap (T - 1) = T - 1 := IntWalk.i64_in _ (by omega)
        have hw2 : IntKind.i64.wrap (m * (T - 1)) = M := by rw [← hst]; exact IntWalk.i64_in _ (by omega)
        clear hst
        go_wp2_with fail
        (refine (igNorm_v _ kp hT).mono ?_; rintro e w3 ⟨rfl, hb3⟩; have hz3 := hb3.size; (repeat (first | rw [World.size_alloc] at hz3 | rw [World.size_setCell] at hz3 | rw [World.size_drew] at hz3)); have pp := T2.K hb3 (b := w2.heap.size) (x := _) (y := _) (by (repeat (first | ((with_reducible apply T2.mk) <;> (with_reducible assumption)) | (with_reducible apply T2.Z) | (with_reducible apply T2.O) | ((with_reducible apply T2.B); (focus (simp; done))) | (with_reducible apply T2.A) | (with_reducible apply T2.D) | ((with_reducible apply T2.S); focus ((repeat (first | rw [World.size_alloc] | rw [World.size_setCell] | rw [World.size_drew])); omega)) | ((with_reducible apply T2.K); (focus (with_reducible assumption)))))); obtain ⟨kk5, kk6, fkk5, fkk6⟩ := pp; have pp := C2.K hb3 (b := wr.heap.size) (x := _) (y := _) (by (repeat (first | ((with_reducible apply C2.mk) <;> (with_reducible assumption)) | (with_reducible apply C2.Z) | (with_reducible apply C2.O) | ((with_reducible apply C2.B); (focus (simp; done))) | (with_reducible apply C2.A) | (with_reducible apply C2.D) | ((with_reducible apply C2.S); focus ((repeat (first | rw [World.size_alloc] | rw [World.size_setCell] | rw [World.size_drew])); omega)) | ((with_reducible apply C2.K); (focus (with_reducible assumption)))))); obtain ⟨kk7, kk8⟩ := pp)
        clear hT
        go_wp2_with fail
        go_roundw
        case rel => exact ⟨k + 1, M, p, q, by simp, by simp, by omega, Hm.out.symm, Hl.out, Two.of (by (repeat (first | ((with_reducible apply T2.mk) <;> (with_reducible assumption)) | (with_reducible apply T2.Z) | (with_reducible apply T2.O) | ((with_reducible apply T2.B); (focus (simp; done))) | (with_reducible apply T2.A) | (with_reducible apply T2.D) | ((with_reducible apply T2.S); focus ((repeat (first | rw [World.size_alloc] | rw [World.size_setCell] | rw [World.size_drew])); omega)) | ((with_reducible apply T2.K); (focus (with_reducible assumption)))))), by (repeat' (first | (with_reducible exact Below.refl _ _) | (with_reducible refine Below.alloc ?_ ?_ _) | (with_reducible refine Below.drew ?_) | (with_reducible refine Below.setCell ?_ ?_ _) | (with_reducible refine Below.trans ?_ (Below.mono (by assumption) ?_)) | go_size))⟩
        case measure => simp [intOf]; omega
      · rw [hs, if_pos rfl] at hst
        have hw2 : IntKind.i64.wrap (m * T) = M := by rw [← hst]; exact IntWalk.i64_in _ (by omega)
        clear hst
        go_wp2_with fail
        (refine (igNorm_v _ kp hT).mono ?_; rintro e w3 ⟨rfl, hb3⟩; have hz3 := hb3.size; (repeat (first | rw [World.size_alloc] at hz3 | rw [World.size_setCell] at hz3 | rw [World.size_drew] at hz3)); have pp := T2.K hb3 (b := w2.heap.size) (x := _) (y := _) (by (repeat (first | ((with_reducible apply T2.mk) <;> (with_reducible assumption)) | (with_reducible apply T2.Z) | (with_reducible apply T2.O) | ((with_reducible apply T2.B); (focus (simp; done))) | (with_reducible apply T2.A) | (with_reducible apply T2.D) | ((with_reducible apply T2.S); focus ((repeat (first | rw [World.size_alloc] | rw [World.size_setCell] | rw [World.size_drew])); omega)) | ((with_reducible apply T2.K); (focus (with_reducible assumption)))))); obtain ⟨kk9, kk10, fkk9, fkk10⟩ := pp; have pp := C2.K hb3 (b := wr.heap.size) (x := _) (y := _) (by (repeat (first | ((with_reducible apply C2.mk) <;> (with_reducible assumption)) | (with_reducible apply C2.Z) | (with_reducible apply C2.O) | ((with_reducible apply C2.B); (focus (simp; done))) | (with_reducible apply C2.A) | (with_reducible apply C2.D) | ((with_reducible apply C2.S); focus ((repeat (first | rw [World.size_alloc] | rw [World.size_setCell] | rw [World.size_drew])); omega)) | ((with_reducible apply C2.K); (focus (with_reducible assumption)))))); obtain ⟨kk11, kk12⟩ := pp; (try clear kk5 kk6 fkk5 fkk6 kk7 kk8))
        clear hT
        go_wp2_with fail
        go_roundw
        case rel => exact ⟨k + 1, M, p, q, by simp, by simp, by omega, Hm.out.symm, Hl.out, Two.of (by (repeat (first | ((with_reducible apply T2.mk) <;> (with_reducible assumption)) | (with_reducible apply T2.Z) | (with_reducible apply T2.O) | ((with_reducible apply T2.B); (focus (simp; done))) | (with_reducible apply T2.A) | (with_reducible apply T2.D) | ((with_reducible apply T2.S); focus ((repeat (first | rw [World.size_alloc] | rw [World.size_setCell] | rw [World.size_drew])); omega)) | ((with_reducible apply T2.K); (focus (with_reducible assumption)))))), by (repeat' (first | (with_reducible exact Below.refl _ _) | (with_reducible refine Below.alloc ?_ ?_ _) | (with_reducible refine Below.drew ?_) | (with_reducible refine Below.setCell ?_ ?_ _) | (with_reducible refine Below.trans ?_ (Below.mono (by assumption) ?_)) | go_size))⟩
        case measure => simp [intOf]; omega
    · have hd1 : decide ((k : Int) < (N : Int)) = false := decide_eq_false (by omega)
      obtain rfl : k = N := by omega
      obtain rfl : m = n := hm.trans HN'.out
      have Bw : Below w.heap.size w wr := B2.trans (hb.mono hs2)
      clear hga hm
      go_wp2_with fail
      go_returns
      exact ⟨rfl, Bw⟩

set_option maxHeartbeats 8000000 in
theorem sCountApart_v {e f n : Int} (w : World) (h : CaIs e f n) : Calls Try.prog 25 #[.agg #[.int .i64 e, .int .i64 f]] w fun e w' => e = .returned (.int .i64 n) ∧ Below w.heap.size w w' := by
  cases hd : mdO e f
  · obtain rfl := h.none hd
    clear h
    go_enter Try.func25, Try.ntmps25
    go_wp2_with fail
    (refine (sModulusOk_v _ hd).mono ?_; rintro e w1 ⟨rfl, hb1⟩; have hz1 := hb1.size; (repeat (first | rw [World.size_alloc] at hz1 | rw [World.size_setCell] at hz1 | rw [World.size_drew] at hz1)); have pp := C2.K hb1 (b := w.heap.size) (x := _) (y := _) (by (repeat (first | ((with_reducible apply C2.mk) <;> (with_reducible assumption)) | (with_reducible apply C2.Z) | (with_reducible apply C2.O) | ((with_reducible apply C2.B); (focus (simp; done))) | (with_reducible apply C2.A) | (with_reducible apply C2.D) | ((with_reducible apply C2.S); focus ((repeat (first | rw [World.size_alloc] | rw [World.size_setCell] | rw [World.size_drew])); omega)) | ((with_reducible apply C2.K); (focus (with_reducible assumption)))))); obtain ⟨kk1, kk2⟩ := pp)
    go_wp2_with fail
    go_returns
    exact ⟨rfl, by (repeat' (first | (with_reducible exact Below.refl _ _) | (with_reducible refine Below.alloc ?_ ?_ _) | (with_reducible refine Below.drew ?_) | (with_reducible refine Below.setCell ?_ ?_ _) | (with_reducible refine Below.trans ?_ (Below.mono (by assumption) ?_)) | go_size))⟩
  obtain ⟨t, l, hfi, hf, hn⟩ := h.some hd
  obtain ⟨h1, h2⟩ := md_nG hd
  have h1' : 1 ≤ nG (e, f) := by omega
  have HB := Lib.hid (ca_bd hf h1' h2)
  have HS := Lib.hid (fun k p q => ca_step (k := k) (p := p) (q := q) hf h1' h2)
  have HP := Lib.hid (fun p q => ca_pr (p := p) (q := q) hf h1' h2)
  have hNb := hfi.len
  have HN := Lib.hid (show phG (l.take l.length).reverse = n by rw [List.take_length, phG_all]; exact hn.symm)
  clear h hf hn h1 h2 h1'
  go_enter Try.func25, Try.ntmps25
  go_wp2_with fail
  (refine (sModulusOk_v _ hd).mono ?_; rintro e w1 ⟨rfl, hb1⟩; have hz1 := hb1.size; (repeat (first | rw [World.size_alloc] at hz1 | rw [World.size_setCell] at hz1 | rw [World.size_drew] at hz1)); have pp := C2.K hb1 (b := w.heap.size) (x := _) (y := _) (by (repeat (first | ((with_reducible apply C2.mk) <;> (with_reducible assumption)) | (with_reducible apply C2.Z) | (with_reducible apply C2.O) | ((with_reducible apply C2.B); (focus (simp; done))) | (with_reducible apply C2.A) | (with_reducible apply C2.D) | ((with_reducible apply C2.S); focus ((repeat (first | rw [World.size_alloc] | rw [World.size_setCell] | rw [World.size_drew])); omega)) | ((with_reducible apply C2.K); (focus (with_reducible assumption)))))); obtain ⟨kk3, kk4⟩ := pp; (try clear kk1 kk2))
  go_wp2_with fail
  (refine (sFactorsOf_v _ hfi).mono ?_; rintro e w2 ⟨v, rfl, g, hb2⟩; have hz2 := hb2.size; (repeat (first | rw [World.size_alloc] at hz2 | rw [World.size_setCell] at hz2 | rw [World.size_drew] at hz2)); (try clear kk3 kk4))
  clear hd hfi
  obtain ⟨ga, cap, rfl, hga⟩ := g.form
  have B2 : Below w.heap.size w w2 := by (repeat' (first | (with_reducible exact Below.refl _ _) | (with_reducible refine Below.alloc ?_ ?_ _) | (with_reducible refine Below.drew ?_) | (with_reducible refine Below.setCell ?_ ?_ _) | (with_reducible refine Below.trans ?_ (Below.mono (by assumption) ?_)) | go_size))
  have hs2 := B2.size
  obtain ⟨N, hN⟩ : ∃ N, l.length = N := ⟨_, rfl⟩
  have hN' := HN.out
  rw [hN] at hN' hNb ⊢
  have HN' := Lib.hid hN'
  clear HN hN' g hb1 hb2
  go_wp2_with fail
  go_loopw [6, 7] (fun c u wr => ∃ (k : Nat) (m : Int), u = .int .i64 (k : Int) ∧ c = .int .i64 m ∧ k ≤ N ∧ m = phG (l.take k).reverse ∧ Below w2.heap.size w2 wr) (fun _ u _ => N - (intOf u).toNat)
  case atStart => exact ⟨0, 1, rfl, rfl, Nat.zero_le _, rfl, by (repeat' (first | (with_reducible exact Below.refl _ _) | (with_reducible refine Below.alloc ?_ ?_ _) | (with_reducible refine Below.drew ?_) | (with_reducible refine Below.setCell ?_ ?_ _) | (with_reducible refine Below.trans ?_ (Below.mono (by assumption) ?_)) | go_size))⟩
  case round =>
    obtain ⟨k, m, rfl, rfl, hk, hm, hb⟩ := hrel
    have hsb := hb.size
    by_cases hlt : k < N
    · have hd1 : decide ((k : Int) < (N : Int)) = true := decide_eq_true (by omega)
      obtain ⟨⟨p, q⟩, hpq⟩ : ∃ r, l[k]? = some r := ⟨_, List.getElem?_eq_getElem (by omega)⟩
      have hne : l ≠ [] := by rintro rfl; simp at hpq
      obtain ⟨g, rfl, hg1, hg2, hA, -⟩ := hga hne
      obtain ⟨c0, c1⟩ := hA k p q hpq
      have l0 := keep hb c0
      have l1 := keep hb c1
      obtain ⟨kp, p2, p100, hpz⟩ := HP.out p q (List.mem_of_getElem? hpq)
      obtain ⟨hst, -⟩ := HS.out k p q hpq
      obtain ⟨b1, b2⟩ := HB.out k
      obtain ⟨b3, b4⟩ := HB.out (k + 1)
      rw [← hm] at hst
      rw [← hm] at b1 b2
      obtain ⟨M, hM⟩ : ∃ M, phG (l.take (k + 1)).reverse = M := ⟨_, rfl⟩
      rw [hM] at b3 b4 hst
      obtain ⟨T, hT⟩ : ∃ T, p * p + q * q = T := ⟨_, rfl⟩
      rw [hT] at hst p2 p100
      have Hm := Lib.hid hM
      clear hM hm c0 c1
      by_cases hk0 : k = 0
      · subst hk0
        rw [lastG] at hst
        have hs : (p == 0 && q == 0) = false := by rw [pair_beq]; exact decide_eq_false (fun g => hpz (Prod.mk.inj g))
        dsimp only at hst
        rw [hs, if_neg (by simp)] at hst
        have hw1 : IntKind.i64.wrap (T - 1) = T - 1 := IntWalk.i64_in _ (by omega)
        have hw2 : IntKind.i64.wrap (m * (T - 1)) = M := by rw [← hst]; exact IntWalk.i64_in _ (by omega)
        clear hst hA hga hpz hpq hs
        go_wp2_with fail
        refine wp_name ?_
        intro wA hbwA
        have l0_a := keep hbwA l0
        have l0_r := cell_regrown l0_a
        have l1_a := keep hbwA l1
        have l1_r := cell_regrown l1_a
        clear l0 l1
        refine wp_region_quiet_below (by kernel_rfl) (by kernel_rfl) ?_
        (repeat (first | go_big_quiet_step (fail) | quiet_step (fail)))
        refine wpQuiet_nil ?_
        intro wB hwwB
        have hbwB := below_of_regrown hwwB
        clear hwwB
        have l0 := keep hbwB l0_a
        have l1 := keep hbwB l1_a
        clear l0_a l0_r l1_a l1_r
        go_wp2_with fail
        (refine (slNorm_v _ kp hT).mono ?_; rintro e w3 ⟨rfl, hb3⟩; have hz3 := hb3.size; (repeat (first | rw [World.size_alloc] at hz3 | rw [World.size_setCell] at hz3 | rw [World.size_drew] at hz3)))
        clear hT
        have hbD : Below w2.heap.size w2 w3 := ((hb.trans (hbwA.mono hsb)).trans (hbwB.mono (by have := hbwA.size; omega))).trans (hb3.mono (by have := hbwA.size; have := hbwB.size; omega))
        go_wp2_with fail
        go_roundw
        case rel => exact ⟨1, M, by simp, by simp, by omega, Hm.out.symm, hbD⟩
        case measure => simp [intOf]; omega
      · obtain ⟨i, rfl⟩ : ∃ i, k = i + 1 := ⟨k - 1, by omega⟩
        obtain ⟨⟨q1, q2⟩, hq12⟩ : ∃ r, l[i]? = some r := ⟨_, List.getElem?_eq_getElem (by omega)⟩
        rw [lastG, hq12] at hst
        obtain ⟨c2, c3⟩ := hA i q1 q2 hq12
        have l2 := keep hb c2
        have l3 := keep hb c3
        have hdp : decide ((0 : Int) < (i : Int) + 1) = true := decide_eq_true (by omega)
        have hd2 : decide ((i : Int) + 1 < (N : Int)) = true := decide_eq_true (by omega)
        rw [Option.getD_some] at hst
        dsimp only at hst
        clear hd1 hA hga hpz hpq hq12 c2 c3
        cases hs : (p == q1 && q == q2)
        · rw [hs, if_neg (by simp)] at hst
          have hw1 : IntKind.i64.wrap (T - 1) = T - 1 := IntWalk.i64_in _ (by omega)
          have hw2 : IntKind.i64.wrap (m * (T - 1)) = M := by rw [← hst]; exact IntWalk.i64_in _ (by omega)
          clear hst
          go_wp2_with fail
          refine wp_name ?_
          intro wA hbwA
          have l0_a := keep hbwA l0
          have l0_r := cell_regrown l0_a
          have l1_a := keep hbwA l1
          have l1_r := cell_regrown l1_a
          have l2_a := keep hbwA l2
          have l2_r := cell_regrown l2_a
          have l3_a := keep hbwA l3
          have l3_r := cell_regrown l3_a
          clear l0 l1 l2 l3
          refine wp_region_quiet_below (by kernel_rfl) (by kernel_rfl) ?_
          (repeat (first | go_big_quiet_step (fail) | quiet_step (fail)))
          refine wpQuiet_nil ?_
          intro wB hwwB
          have hbwB := below_of_regrown hwwB
          clear hwwB
          have l0 := keep hbwB l0_a
          have l1 := keep hbwB l1_a
          have l2 := keep hbwB l2_a
          have l3 := keep hbwB l3_a
          clear l0_a l0_r l1_a l1_r l2_a l2_r l3_a l3_r
          go_wp2_with fail
          (refine (slNorm_v _ kp hT).mono ?_; rintro e w3 ⟨rfl, hb3⟩; have hz3 := hb3.size; (repeat (first | rw [World.size_alloc] at hz3 | rw [World.size_setCell] at hz3 | rw [World.size_drew] at hz3)))
          clear hT
          have hbD : Below w2.heap.size w2 w3 := ((hb.trans (hbwA.mono hsb)).trans (hbwB.mono (by have := hbwA.size; omega))).trans (hb3.mono (by have := hbwA.size; have := hbwB.size; omega))
          go_wp2_with fail
          go_roundw
          case rel => exact ⟨i + 1 + 1, M, by simp, by simp, by omega, Hm.out.symm, hbD⟩
          case measure => simp [intOf]; omega
        · rw [hs, if_pos rfl] at hst
          have hw2 : IntKind.i64.wrap (m * T) = M := by rw [← hst]; exact IntWalk.i64_in _ (by omega)
          clear hst
          go_wp2_with fail
          refine wp_name ?_
          intro wA hbwA
          have l0_a := keep hbwA l0
          have l0_r := cell_regrown l0_a
          have l1_a := keep hbwA l1
          have l1_r := cell_regrown l1_a
          have l2_a := keep hbwA l2
          have l2_r := cell_regrown l2_a
          have l3_a := keep hbwA l3
          have l3_r := cell_regrown l3_a
          clear l0 l1 l2 l3
          refine wp_region_quiet_below (by kernel_rfl) (by kernel_rfl) ?_
          (repeat (first | go_big_quiet_step (fail) | quiet_step (fail)))
          refine wpQuiet_nil ?_
          intro wB hwwB
          have hbwB := below_of_regrown hwwB
          clear hwwB
          have l0 := keep hbwB l0_a
          have l1 := keep hbwB l1_a
          have l2 := keep hbwB l2_a
          have l3 := keep hbwB l3_a
          clear l0_a l0_r l1_a l1_r l2_a l2_r l3_a l3_r
          go_wp2_with fail
          (refine (slNorm_v _ kp hT).mono ?_; rintro e w3 ⟨rfl, hb3⟩; have hz3 := hb3.size; (repeat (first | rw [World.size_alloc] at hz3 | rw [World.size_setCell] at hz3 | rw [World.size_drew] at hz3)))
          clear hT
          have hbD : Below w2.heap.size w2 w3 := ((hb.trans (hbwA.mono hsb)).trans (hbwB.mono (by have := hbwA.size; omega))).trans (hb3.mono (by have := hbwA.size; have := hbwB.size; omega))
          go_wp2_with fail
          go_roundw
          case rel => exact ⟨i + 1 + 1, M, by simp, by simp, by omega, Hm.out.symm, hbD⟩
          case measure => simp [intOf]; omega
    · have hd1 : decide ((k : Int) < (N : Int)) = false := decide_eq_false (by omega)
      obtain rfl : k = N := by omega
      obtain rfl : m = n := hm.trans HN'.out
      have Bw : Below w.heap.size w wr := B2.trans (hb.mono hs2)
      clear hga hm
      go_wp2_with fail
      go_returns
      exact ⟨rfl, Bw⟩
end Go.Proofs.Ytahnkecdningnaa

namespace Go.Proofs.Ytahnkecdningnaa
open Go Go.RowKit

/-- A drawn modulus that is one is small. -/
theorem md_small {e f : Int} (h : Md e f) (hd : mdO e f = true) : nG (e, f) ≤ 32 ∧ -3 ≤ e ∧ e ≤ 5 ∧ -3 ≤ f ∧ f ≤ 5 := by
  obtain ⟨h1, h2⟩ := md_nG hd
  change e * e + f * f ≤ 100 at h2
  change e * e + f * f ≤ 32 ∧ _
  rcases h with ⟨a1, a2, b1, b2, h5⟩ | ⟨rfl, rfl⟩ | ⟨rfl, rfl⟩
  · refine ⟨?_, a1, a2, b1, by omega⟩
    obtain rfl | rfl | rfl | rfl | rfl | rfl | rfl | rfl | rfl : e = -3 ∨ e = -2 ∨ e = -1 ∨ e = 0 ∨ e = 1 ∨ e = 2 ∨ e = 3 ∨ e = 4 ∨ e = 5 := by omega
    all_goals
      obtain rfl | rfl | rfl | rfl | rfl | rfl | rfl | rfl : f = -3 ∨ f = -2 ∨ f = -1 ∨ f = 0 ∨ f = 1 ∨ f = 2 ∨ f = 3 ∨ f = 4 := by omega
      all_goals omega
  · omega
  · omega
/-- As many rests are apart from it as CountApart tells. -/
theorem ca_rests {e f n : Int} (h : CaIs e f n) (hm : Md e f) (hd : mdO e f = true) : (((rtL e f).filter fun r => apO r.1 r.2 e f).length : Int) = n := by
  obtain ⟨t, l, -, hf, rfl⟩ := h.some hd
  obtain ⟨h1, h2, h3, h4, h5⟩ := md_small hm hd
  exact (rtL_is hd).apart (by have := (md_nG hd).1; omega) h1 h2 h3 h4 h5 hf
/-- As many times as CountApart tells, each number that is apart is 1. -/
theorem ca_euler {a b e f n : Int} (h : CaIs e f n) (hm : Md e f) (hd : mdO e f = true) (ha : apO a b e f = true) : rs (e, f) (pw (a, b) n.toNat) = rs (e, f) (1, 0) := by
  obtain ⟨k1, k2⟩ := ap_ok ha
  have hp := (md_nG hd).1
  have he := (und_rests hd).euler hp ((inv_ap k1 k2 hp).1 ha)
  have hc := ca_rests h hm hd
  rw [← hc, Int.toNat_natCast]; exact he
/-- Orders divide how many are apart. -/
theorem ca_order {a b e f n : Int} {k : Nat} (h : CaIs e f n) (hm : Md e f) (hd : mdO e f = true) (ha : apO a b e f = true) (hk : Ord (e, f) (a, b) k) : n.tmod (k : Int) = 0 := by
  have h1 := h.pos hd
  have he := ca_euler h hm hd ha
  have := order_dvd (md_nG hd).1 hk.pos hk.one hk.least he
  rw [Int.tmod_eq_emod_of_nonneg (by omega)]
  have e : n = ((n.toNat : Nat) : Int) := by omega
  rw [e, ← Int.natCast_emod, this]; rfl
/-- For modules apart these numbers are multiplied. -/
theorem ca_mul {a b c d x y n m k : Int} (h : CaIs a b n) (h' : CaIs c d m) (hk : CaIs x y k) (h1 : mdO a b = true) (h2 : mdO c d = true) (h3 : mdO x y = true) (ht : TiIs a b c d true x y) (ha : apO a b c d = true) : k = n * m := by
  obtain ⟨t, l, -, hf, rfl⟩ := h.some h1
  obtain ⟨s, l', -, hf', rfl⟩ := h'.some h2
  obtain ⟨r, q, -, hq, rfl⟩ := hk.some h3
  obtain ⟨e1, e2, k1, k2, -⟩ := ht.val
  have e : (x, y) = mu (a, b) (c, d) := by unfold mu; exact Prod.ext e1 e2
  rw [e] at hq
  exact phG_mul hf hf' hq ((bez_ap k1 k2).1 ha)
/-- Counted so far. -/
def cntA (L : List (Int × Int)) (e f : Int) (k : Nat) : Nat := ((L.take k).filter fun r => apO r.1 r.2 e f).length
theorem cntA_next {L : List (Int × Int)} {e f p q : Int} {k : Nat} (h : L[k]? = some (p, q)) : cntA L e f (k + 1) = cntA L e f k + if apO p q e f then 1 else 0 := by
  unfold cntA
  rw [List.take_add_one, h, List.filter_append, List.length_append]
  congr 1
  show (List.filter _ [(p, q)]).length = _
  rw [List.filter_cons]
  dsimp only
  split <;> rfl
theorem cntA_le (L : List (Int × Int)) (e f : Int) (k : Nat) : cntA L e f k ≤ L.length := by
  unfold cntA
  exact Nat.le_trans (List.length_filter_le _ _) (by rw [List.length_take]; exact Nat.min_le_right _ _)
end Go.Proofs.Ytahnkecdningnaa
