import Derived.Test.YtahnkecdningnaaMe
import Derived.Test.YtahnkecdningnaaOb
import Derived.Test.YtahnkecdningnaaJp
import Derived.Test.YtahnkecdningnaaYd
namespace Go.Proofs.Ytahnkecdningnaa
open Go Go.RowKit
attribute [local go_sem] World.cell?_alloc_some cell?_alloc2_some cell?_alloc3_some cell?_alloc4_some frozen?_alloc_some frozen?_alloc2_some frozen?_alloc3_some World.cell?_setCell_far new_ne0 new_ne1 new_ne2 new_ne3 lt2 lt3 lt4 lt5 lt6 lt7 lt8 lt9
attribute [local go_sem ↓] eqG neG

/-- How often at most. -/
theorem out_bd {z p y : Int × Int} {k : Nat} (h : z = mu (pw p k) y) (hp : 2 ≤ nG p) (hy : 1 ≤ nG y) (hz : nG z ≤ 2000000) : k ≤ 20 := by
  have hpw : ∀ j : Nat, (2 : Int) ^ j ≤ nG (pw p j) := by
    intro j
    induction j with
    | zero => rw [show pw p 0 = (1, 0) from rfl]; decide
    | succ j ih =>
      have h3 := nG_nn (pw p j)
      rw [pw, nG_mu, Int.pow_succ]
      have h4 := Int.mul_le_mul_of_nonneg_right hp h3
      omega
  have h1 := hpw k
  have h2 : nG z = nG (pw p k) * nG y := by rw [h, nG_mu]
  have h6 : nG (pw p k) ≤ nG z := by
    rw [h2]
    have := Int.mul_le_mul_of_nonneg_left hy (nG_nn (pw p k))
    omega
  rcases Nat.lt_or_ge 20 k with h | h
  · exfalso
    have : (2 : Int) ^ 21 ≤ 2 ^ k := by
      obtain ⟨j, hj⟩ := Nat.le.dest h
      rw [← hj, Int.pow_add]
      have hj1 : (1 : Int) ≤ 2 ^ j := by
        have := Int.pow_pos (n := 2) (m := j) (by decide)
        omega
      have := Int.mul_le_mul_of_nonneg_left hj1 (show (0 : Int) ≤ 2 ^ (20 + 1) by decide)
      omega
    omega
  · exact h
/-- What one step of dividing out makes. -/
theorem out_step {z : Int × Int} {x y c d : Int} {k : Nat} (h : z = mu (pw (c, d) k) (x, y)) (k1 : gok x y = true) (kc : gok c d = true) (h2 : 2 ≤ c * c + d * d) (_hz : 1 ≤ nG z) (hr : (rA x y c d == 0 && rB x y c d == 0) = true) :
    z = mu (pw (c, d) (k + 1)) (qA x y c d, qB x y c d) ∧ gok (qA x y c d) (qB x y c d) = true := by
  have hd : dvO x y c d = true := dv_mk k1 kc (fun ⟨h1, h3⟩ => by subst h1 h3; omega)
  have hv : vdO c d x y = true := by rw [vdO, hd, (dv_t hd).2.2.1, (dv_t hd).2.2.2, hr]; rfl
  obtain ⟨e1, e2⟩ := vd_q hv
  refine ⟨?_, q_gok hv⟩
  have e : (x, y) = mu (c, d) (qA x y c d, qB x y c d) := by
    unfold mu
    refine Prod.ext ?_ ?_
    · dsimp only; rw [Int.mul_comm c, Int.mul_comm d]; exact e1
    · dsimp only; rw [Int.mul_comm c, Int.mul_comm d, Int.add_comm]; exact e2
  rw [h, e, pw, mu_assoc (c, d), ← mu_assoc (pw (c, d) k), mu_comm (pw (c, d) k) (c, d), mu_assoc]
theorem out_end {x y c d : Int} (k1 : gok x y = true) (kc : gok c d = true) (h2 : 2 ≤ c * c + d * d) (hr : (rA x y c d == 0 && rB x y c d == 0) = false) : ¬ dvG (c, d) (x, y) := fun h => by
  have hd : dvO x y c d = true := dv_mk k1 kc (fun ⟨h1, h3⟩ => by subst h1 h3; omega)
  have hv : vdO c d x y = true := vd_Dv.2 ⟨hd, dvG_Dv.1 h⟩
  rw [vdO, hd, (dv_t hd).2.2.1, (dv_t hd).2.2.2, hr] at hv
  cases hv

/-- Between two divisions. -/
def Lo (w : World) (z : Int × Int) (c d : Int) (u : Value) (wr : World) : Prop := ∃ (k : Nat) (x y : Int), u = .int .i64 (k : Int) ∧ z = mu (pw (c, d) k) (x, y) ∧ gok x y = true ∧ Two wr w.heap.size x y ∧ Two wr (w.heap.size + 1) c d ∧ Two wr (w.heap.size + 1 + 1) 0 0 ∧ Below w.heap.size w wr

set_option maxHeartbeats 2000000 in
theorem igOut (a b c d : Int) (w : World) (k1 : gok a b = true) (kc : gok c d = true) (h2 : 2 ≤ c * c + d * d) (hz : 1 ≤ nG (a, b)) :
    Calls Try.prog 91 #[.agg #[.int .i64 a, .int .i64 b], .agg #[.int .i64 c, .int .i64 d]] w fun e w' => ∃ (n : Nat) (x y : Int), e = .returned (.tuple #[.agg #[.int .i64 x, .int .i64 y], .int .i64 (n : Int)]) ∧ (a, b) = mu (pw (c, d) n) (x, y) ∧ ¬ dvG (c, d) (x, y) ∧ gok x y = true ∧ n ≤ 20 ∧ Below w.heap.size w w' := by
  obtain ⟨z, hzz⟩ : ∃ z, (a, b) = z := ⟨_, rfl⟩
  have hN := nG_gok (z := (a, b)) k1
  rw [hzz]
  go_enter Try.func91, Try.ntmps91
  go_wp2_with fail
  go_loopw [6] (fun u wr => Lo w z c d u wr) (fun u _ => 30 - (intOf u).toNat)
  case atStart => exact ⟨0, a, b, rfl, by rw [pw, mu_one, hzz], k1, (Two.of (by (repeat (first | ((with_reducible apply T2.mk) <;> (with_reducible assumption)) | (with_reducible apply T2.Z) | (with_reducible apply T2.O) | ((with_reducible apply T2.B); (focus (simp; done))) | (with_reducible apply T2.A) | (with_reducible apply T2.D) | ((with_reducible apply T2.S); focus ((repeat (first | rw [World.size_alloc] | rw [World.size_setCell] | rw [World.size_drew])); omega)) | ((with_reducible apply T2.K); (focus (with_reducible assumption))))))), (Two.of (by (repeat (first | ((with_reducible apply T2.mk) <;> (with_reducible assumption)) | (with_reducible apply T2.Z) | (with_reducible apply T2.O) | ((with_reducible apply T2.B); (focus (simp; done))) | (with_reducible apply T2.A) | (with_reducible apply T2.D) | ((with_reducible apply T2.S); focus ((repeat (first | rw [World.size_alloc] | rw [World.size_setCell] | rw [World.size_drew])); omega)) | ((with_reducible apply T2.K); (focus (with_reducible assumption))))))), (Two.of (by (repeat (first | ((with_reducible apply T2.mk) <;> (with_reducible assumption)) | (with_reducible apply T2.Z) | (with_reducible apply T2.O) | ((with_reducible apply T2.B); (focus (simp; done))) | (with_reducible apply T2.A) | (with_reducible apply T2.D) | ((with_reducible apply T2.S); focus ((repeat (first | rw [World.size_alloc] | rw [World.size_setCell] | rw [World.size_drew])); omega)) | ((with_reducible apply T2.K); (focus (with_reducible assumption))))))), by (repeat' (first | (with_reducible exact Below.refl _ _) | (with_reducible refine Below.alloc ?_ ?_ _) | (with_reducible refine Below.drew ?_) | (with_reducible refine Below.setCell ?_ ?_ _) | (with_reducible refine Below.trans ?_ (Below.mono (by assumption) ?_)) | go_size))⟩
  case round =>
    rw [hzz] at hz hN
    clear hzz k1
    obtain ⟨k, x, y, rfl, he, k1, ⟨z0, z1, z2, z3⟩, ⟨p0, p1, p2, p3⟩, ⟨r0, r1, r2, r3⟩, hbr⟩ := hrel
    have hsr := hbr.size
    have hlr : w.heap.size + 1 + 1 < wr.heap.size := World.block_lt_of_cell? _ _ r0
    have hd : dvO x y c d = true := dv_mk k1 kc (fun ⟨h1, h3⟩ => by subst h1 h3; omega)
    cases hr : (rA x y c d == 0 && rB x y c d == 0)
    · have hn := out_end k1 kc h2 hr
      have hxy : 1 ≤ nG (x, y) := nG_pos (fun e => hn (e ▸ ⟨(0, 0), by unfold mu; simp⟩))
      have hk := out_bd he h2 hxy hN
      have HR := Lib.hid hr
      obtain ⟨ra, e1⟩ : ∃ ra, rA x y c d = ra := ⟨_, rfl⟩
      obtain ⟨rb, e2⟩ : ∃ rb, rB x y c d = rb := ⟨_, rfl⟩
      rw [e1, e2] at hr
      go_wp2_with fail
      (refine (igDivided_v _ hd ⟨rfl, rfl, e1, e2⟩).mono ?_; rintro e w1 ⟨rfl, hb1⟩; have hz1 := hb1.size; (repeat (first | rw [World.size_alloc] at hz1 | rw [World.size_setCell] at hz1 | rw [World.size_drew] at hz1)); have pp := T2.K hb1 (b := w.heap.size) (x := _) (y := _) (by (repeat (first | ((with_reducible apply T2.mk) <;> (with_reducible assumption)) | (with_reducible apply T2.Z) | (with_reducible apply T2.O) | ((with_reducible apply T2.B); (focus (simp; done))) | (with_reducible apply T2.A) | (with_reducible apply T2.D) | ((with_reducible apply T2.S); focus ((repeat (first | rw [World.size_alloc] | rw [World.size_setCell] | rw [World.size_drew])); omega)) | ((with_reducible apply T2.K); (focus (with_reducible assumption)))))); obtain ⟨kk1, kk2, fkk1, fkk2⟩ := pp; have pp := T2.K hb1 (b := w.heap.size + 1) (x := _) (y := _) (by (repeat (first | ((with_reducible apply T2.mk) <;> (with_reducible assumption)) | (with_reducible apply T2.Z) | (with_reducible apply T2.O) | ((with_reducible apply T2.B); (focus (simp; done))) | (with_reducible apply T2.A) | (with_reducible apply T2.D) | ((with_reducible apply T2.S); focus ((repeat (first | rw [World.size_alloc] | rw [World.size_setCell] | rw [World.size_drew])); omega)) | ((with_reducible apply T2.K); (focus (with_reducible assumption)))))); obtain ⟨kk3, kk4, fkk3, fkk4⟩ := pp; have pp := T2.K hb1 (b := w.heap.size + 1 + 1) (x := _) (y := _) (by (repeat (first | ((with_reducible apply T2.mk) <;> (with_reducible assumption)) | (with_reducible apply T2.Z) | (with_reducible apply T2.O) | ((with_reducible apply T2.B); (focus (simp; done))) | (with_reducible apply T2.A) | (with_reducible apply T2.D) | ((with_reducible apply T2.S); focus ((repeat (first | rw [World.size_alloc] | rw [World.size_setCell] | rw [World.size_drew])); omega)) | ((with_reducible apply T2.K); (focus (with_reducible assumption)))))); obtain ⟨kk5, kk6, fkk5, fkk6⟩ := pp)
      go_wp2_with fail
      refine bodyPost_ret (v := .tuple #[.agg #[.int .i64 x, .int .i64 y], .int .i64 (k : Int)]) (by simp [results, Try.results91, go_sem, *]) rfl ?_; exact ⟨k, x, y, rfl, he, hn, k1, hk, by (repeat' (first | (with_reducible exact Below.refl _ _) | (with_reducible refine Below.alloc ?_ ?_ _) | (with_reducible refine Below.drew ?_) | (with_reducible refine Below.setCell ?_ ?_ _) | (with_reducible refine Below.trans ?_ (Below.mono (by assumption) ?_)) | go_size))⟩
    · obtain ⟨he', k1'⟩ := out_step he k1 kc h2 hz hr
      have hxy : 1 ≤ nG (qA x y c d, qB x y c d) := nG_pos (fun e => by rw [e, mu_comm] at he'; unfold mu at he'; simp at he'; rw [he'] at hz; exact absurd hz (by decide))
      have hk := out_bd he' h2 hxy hN
      obtain ⟨ra, e1⟩ : ∃ ra, rA x y c d = ra := ⟨_, rfl⟩
      obtain ⟨rb, e2⟩ : ∃ rb, rB x y c d = rb := ⟨_, rfl⟩
      obtain ⟨qa, e3⟩ : ∃ qa, qA x y c d = qa := ⟨_, rfl⟩
      obtain ⟨qb, e4⟩ : ∃ qb, qB x y c d = qb := ⟨_, rfl⟩
      rw [e1, e2] at hr
      rw [e3, e4] at he' k1'
      clear hxy he
      go_wp2_with fail
      (refine (igDivided_v _ hd ⟨e3, e4, e1, e2⟩).mono ?_; rintro e w1 ⟨rfl, hb1⟩; have hz1 := hb1.size; (repeat (first | rw [World.size_alloc] at hz1 | rw [World.size_setCell] at hz1 | rw [World.size_drew] at hz1)); have pp := T2.K hb1 (b := w.heap.size) (x := _) (y := _) (by (repeat (first | ((with_reducible apply T2.mk) <;> (with_reducible assumption)) | (with_reducible apply T2.Z) | (with_reducible apply T2.O) | ((with_reducible apply T2.B); (focus (simp; done))) | (with_reducible apply T2.A) | (with_reducible apply T2.D) | ((with_reducible apply T2.S); focus ((repeat (first | rw [World.size_alloc] | rw [World.size_setCell] | rw [World.size_drew])); omega)) | ((with_reducible apply T2.K); (focus (with_reducible assumption)))))); obtain ⟨kk7, kk8, fkk7, fkk8⟩ := pp; have pp := T2.K hb1 (b := w.heap.size + 1) (x := _) (y := _) (by (repeat (first | ((with_reducible apply T2.mk) <;> (with_reducible assumption)) | (with_reducible apply T2.Z) | (with_reducible apply T2.O) | ((with_reducible apply T2.B); (focus (simp; done))) | (with_reducible apply T2.A) | (with_reducible apply T2.D) | ((with_reducible apply T2.S); focus ((repeat (first | rw [World.size_alloc] | rw [World.size_setCell] | rw [World.size_drew])); omega)) | ((with_reducible apply T2.K); (focus (with_reducible assumption)))))); obtain ⟨kk9, kk10, fkk9, fkk10⟩ := pp; have pp := T2.K hb1 (b := w.heap.size + 1 + 1) (x := _) (y := _) (by (repeat (first | ((with_reducible apply T2.mk) <;> (with_reducible assumption)) | (with_reducible apply T2.Z) | (with_reducible apply T2.O) | ((with_reducible apply T2.B); (focus (simp; done))) | (with_reducible apply T2.A) | (with_reducible apply T2.D) | ((with_reducible apply T2.S); focus ((repeat (first | rw [World.size_alloc] | rw [World.size_setCell] | rw [World.size_drew])); omega)) | ((with_reducible apply T2.K); (focus (with_reducible assumption)))))); obtain ⟨kk11, kk12, fkk11, fkk12⟩ := pp; (try clear kk1 kk2 fkk1 fkk2 kk3 kk4 fkk3 fkk4 kk5 kk6 fkk5 fkk6))
      have n1 : (w.heap.size = w1.heap.size) = False := by simp; omega
      have n2 : (w.heap.size = w1.heap.size + 1) = False := by simp; omega
      have n3 : (w1.heap.size = w.heap.size) = False := by simp; omega
      have n4 : (w1.heap.size + 1 = w.heap.size) = False := by simp; omega
      go_wp2_with fail
      go_roundw
      case rel => exact ⟨k + 1, qa, qb, by simp, he', k1', (Two.of (by (repeat (first | ((with_reducible apply T2.mk) <;> (with_reducible assumption)) | (with_reducible apply T2.Z) | (with_reducible apply T2.O) | ((with_reducible apply T2.B); (focus (simp; done))) | (with_reducible apply T2.A) | (with_reducible apply T2.D) | ((with_reducible apply T2.S); focus ((repeat (first | rw [World.size_alloc] | rw [World.size_setCell] | rw [World.size_drew])); omega)) | ((with_reducible apply T2.K); (focus (with_reducible assumption))))))), (Two.of (by (repeat (first | ((with_reducible apply T2.mk) <;> (with_reducible assumption)) | (with_reducible apply T2.Z) | (with_reducible apply T2.O) | ((with_reducible apply T2.B); (focus (simp; done))) | (with_reducible apply T2.A) | (with_reducible apply T2.D) | ((with_reducible apply T2.S); focus ((repeat (first | rw [World.size_alloc] | rw [World.size_setCell] | rw [World.size_drew])); omega)) | ((with_reducible apply T2.K); (focus (with_reducible assumption))))))), (Two.of (by (repeat (first | ((with_reducible apply T2.mk) <;> (with_reducible assumption)) | (with_reducible apply T2.Z) | (with_reducible apply T2.O) | ((with_reducible apply T2.B); (focus (simp; done))) | (with_reducible apply T2.A) | (with_reducible apply T2.D) | ((with_reducible apply T2.S); focus ((repeat (first | rw [World.size_alloc] | rw [World.size_setCell] | rw [World.size_drew])); omega)) | ((with_reducible apply T2.K); (focus (with_reducible assumption))))))), by (repeat' (first | (with_reducible exact Below.refl _ _) | (with_reducible refine Below.alloc ?_ ?_ _) | (with_reducible refine Below.drew ?_) | (with_reducible refine Below.setCell ?_ ?_ _) | (with_reducible refine Below.trans ?_ (Below.mono (by assumption) ?_)) | go_size))⟩
      case measure => simp [intOf]; omega
end Go.Proofs.Ytahnkecdningnaa
