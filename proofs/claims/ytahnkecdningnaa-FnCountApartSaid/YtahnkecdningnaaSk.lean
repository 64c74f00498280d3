import Derived.Test.YtahnkecdningnaaSj
import Derived.Test.YtahnkecdningnaaOe
import Derived.Test.YtahnkecdningnaaOs
import Derived.Deep.RegionHeld3
import Derived.Deep.DeepCutAuto
namespace Go.Proofs.Ytahnkecdningnaa
open Go Go.RowKit
attribute [local go_sem] World.cell?_alloc_some cell?_alloc2_some cell?_alloc3_some cell?_alloc4_some frozen?_alloc_some frozen?_alloc2_some frozen?_alloc3_some World.cell?_setCell_far new_ne0 new_ne1 new_ne2 new_ne3 lt2 lt3 lt4 lt5 lt6 lt7 lt8 lt9
attribute [local go_sem ↓] eqG neG

/-- Is it asked for its factors. -/
def faO (a b : Int) : Bool := gok a b && !(a == 0 && b == 0)
/-- What is told of a number's factors. -/
def FacIs (a b : Int) (o : Bool) (t : Int) (l : List (Int × Int)) : Prop := o = faO a b ∧ (o = false → t = -1 ∧ l = []) ∧ (o = true → Facs (a, b) t l)
theorem faO_is {a b : Int} (h : faO a b = true) : gok a b = true ∧ 1 ≤ nG (a, b) ∧ ¬ (a = 0 ∧ b = 0) := by
  simp only [faO, Bool.and_eq_true, Bool.not_eq_true'] at h
  obtain ⟨h1, h2⟩ := h
  have hz : ¬ (a = 0 ∧ b = 0) := by rintro ⟨rfl, rfl⟩; simp at h2
  exact ⟨h1, nG_pos (fun e => hz (by injection e with e1 e2; exact ⟨e1, e2⟩)), hz⟩
theorem fac_any : ∀ (m : Nat) (z : Int × Int), 1 ≤ nG z → nG z ≤ m → gok z.1 z.2 = true → ∃ t l, Facs z t l := by
  intro m
  induction m with
  | zero => intro z h1 h2; omega
  | succ m ih =>
    intro z h1 h2 k
    by_cases hu : nG z = 1
    · exact ⟨_, _, (Run.start z).done hu⟩
    · obtain ⟨q, hp, hd⟩ := some_prime k (by omega)
      obtain ⟨y, rfl, e, -, hy, -, -⟩ := hd.parts h1
      have h2q := pr_nG hp.prI
      have h5 := Int.mul_le_mul_of_nonneg_right h2q (show 0 ≤ nG y by omega)
      have h6 := nG_gok k
      obtain ⟨t, l, hf⟩ := ih y hy (by omega) (gok_small (by omega))
      have hq : Facs q 0 [q] := ⟨by omega, by omega, fun p hp' => by rw [List.mem_singleton.1 hp']; exact hp, List.pairwise_singleton _ _, by rw [prodG, prodG, mu_comm q, mu_one]; exact mu_one q⟩
      exact ⟨_, _, hq.merge hf⟩
theorem fac_is (a b : Int) : ∃ o t l, FacIs a b o t l := by
  cases h : faO a b
  · exact ⟨false, -1, [], h.symm, fun _ => ⟨rfl, rfl⟩, fun h => by cases h⟩
  · obtain ⟨k, hz, -⟩ := faO_is h
    obtain ⟨t, l, hf⟩ := fac_any (nG (a, b)).toNat (a, b) hz (by omega) k
    exact ⟨true, t, l, h.symm, fun h => (by cases h), fun _ => hf⟩
theorem FacIs.one {a b t s : Int} {o o' : Bool} {l k : List (Int × Int)} (h : FacIs a b o t l) (h' : FacIs a b o' s k) : o = o' ∧ t = s ∧ l = k := by
  obtain ⟨h1, h2, h3⟩ := h
  obtain ⟨g1, g2, g3⟩ := h'
  have e : o = o' := h1.trans g1.symm
  subst e
  cases o
  · exact ⟨rfl, (h2 rfl).1.trans (g2 rfl).1.symm, (h2 rfl).2.trans (g2 rfl).2.symm⟩
  · exact ⟨rfl, (h3 rfl).one (g3 rfl)⟩
theorem FacIs.no {a b t : Int} {o : Bool} {l : List (Int × Int)} (h : FacIs a b o t l) (ho : faO a b = false) : o = false ∧ t = -1 ∧ l = [] := by
  obtain ⟨h1, h2, -⟩ := h
  rw [ho] at h1
  exact ⟨h1, h2 h1⟩
theorem FacIs.yes {a b t : Int} {o : Bool} {l : List (Int × Int)} (h : FacIs a b o t l) (ho : faO a b = true) {s : Int} {k : List (Int × Int)} (hf : Facs (a, b) s k) : o = true ∧ t = s ∧ l = k := by
  obtain ⟨h1, -, h3⟩ := h
  rw [ho] at h1
  exact ⟨h1, (h3 h1).one hf⟩
theorem facs_len {z : Int × Int} {t : Int} {l : List (Int × Int)} (h : Facs z t l) (hz : 1 ≤ nG z) (hk : nG z ≤ 2000000) : l.length ≤ 20 := few_primes (u := uG t) h.pr h.prod (by omega) hk
theorem FacIs.len {a b t : Int} {o : Bool} {l : List (Int × Int)} (h : FacIs a b o t l) : l.length ≤ 20 := by
  obtain ⟨h1, h2, h3⟩ := h
  cases o
  · rw [(h2 rfl).2]; simp
  · obtain ⟨k, hz, -⟩ := faO_is h1.symm
    exact facs_len (h3 rfl) hz (nG_gok (z := (a, b)) k)
/-- The greatest whole number in both parts divides. -/
theorem whole_div {a b : Int} (k : gok a b = true) (hz : ¬ (a = 0 ∧ b = 0)) : ∃ c d x y, coO a 0 b 0 = true ∧ coA a 0 b 0 = c ∧ coB a 0 b 0 = d ∧ gok c d = true ∧ 1 ≤ nG (c, d) ∧ dvO a b c d = true ∧ qA a b c d = x ∧ qB a b c d = y ∧ gok x y = true ∧ 1 ≤ nG (x, y) ∧ mu (c, d) (x, y) = (a, b) := by
  obtain ⟨a1, a2, b1, b2⟩ := gok_bd k
  have ka : gok a 0 = true := by simp [gok, pok]; omega
  have kb : gok b 0 = true := by simp [gok, pok]; omega
  have hO : coO a 0 b 0 = true := co_mk ka kb (fun h => hz ⟨h.1, h.2.2.1⟩)
  obtain ⟨kc, hnz, d1, d2, -⟩ := co_all hO
  refine ⟨_, _, _, _, hO, rfl, rfl, kc, nG_pos (fun e => hnz (by injection e with e1 e2; exact ⟨e1, e2⟩)), dv_mk k kc hnz, rfl, rfl, ?_⟩
  have hdv : Dv (coA a 0 b 0) (coB a 0 b 0) a b := by
    have h := d1.add (d2.mul 0 1)
    rw [show a + (0 * b - 1 * 0) = a by omega, show (0 : Int) + (0 * 0 + 1 * b) = b by omega] at h
    exact h
  have hv := vd_Dv.2 ⟨dv_mk k kc hnz, hdv⟩
  obtain ⟨e1, e2⟩ := vd_q hv
  have e : mu (coA a 0 b 0, coB a 0 b 0) (qA a b (coA a 0 b 0) (coB a 0 b 0), qB a b (coA a 0 b 0) (coB a 0 b 0)) = (a, b) := by
    unfold mu
    refine Prod.ext ?_ ?_
    · dsimp only; rw [Int.mul_comm (coA a 0 b 0), Int.mul_comm (coB a 0 b 0)]; exact e1.symm
    · dsimp only; rw [Int.mul_comm (coA a 0 b 0), Int.mul_comm (coB a 0 b 0), Int.add_comm]; exact e2.symm
  refine ⟨q_gok hv, nG_pos (fun h => hz ?_), e⟩
  rw [h, mu_comm] at e
  unfold mu at e
  simp at e
  exact ⟨e.1.symm, e.2.symm⟩

set_option maxRecDepth 100000 in
set_option maxHeartbeats 8000000 in
theorem iFactorsOf_v {a b t : Int} {o : Bool} {l : List (Int × Int)} (w : World) (h : FacIs a b o t l) :
    Calls Try.prog 45 #[.agg #[.int .i64 a, .int .i64 b]] w fun e w' => ∃ v, e = .returned (.tuple #[.int .i64 t, v, .bool o]) ∧ GS w' w.heap.size v l ∧ Below w.heap.size w w' := by
  cases k1 : gok a b
  · obtain ⟨rfl, rfl, rfl⟩ := h.no (by simp only [faO, k1, Bool.false_and])
    go_enter Try.func45, Try.ntmps45
    go_wp2_with fail
    (refine (iGaussOk _ _ _).mono ?_; rintro e w1 ⟨rfl, hb1⟩; have hz1 := hb1.size; (repeat (first | rw [World.size_alloc] at hz1 | rw [World.size_setCell] at hz1 | rw [World.size_drew] at hz1)); have pp := C2.K hb1 (b := w.heap.size) (x := _) (y := _) (by (repeat (first | ((with_reducible apply C2.mk) <;> (with_reducible assumption)) | (with_reducible apply C2.Z) | (with_reducible apply C2.O) | ((with_reducible apply C2.B); (focus (simp; done))) | (with_reducible apply C2.A) | (with_reducible apply C2.D) | ((with_reducible apply C2.S); focus ((repeat (first | rw [World.size_alloc] | rw [World.size_setCell] | rw [World.size_drew])); omega)) | ((with_reducible apply C2.K); (focus (with_reducible assumption)))))); obtain ⟨kk1, kk2⟩ := pp)
    go_wp2_with fail
    go_returns
    exact ⟨_, rfl, GS.nil _ _, by (repeat' (first | (with_reducible exact Below.refl _ _) | (with_reducible refine Below.alloc ?_ ?_ _) | (with_reducible refine Below.drew ?_) | (with_reducible refine Below.setCell ?_ ?_ _) | (with_reducible refine Below.trans ?_ (Below.mono (by assumption) ?_)) | go_size))⟩
  cases hz : (a == 0 && b == 0)
  case true =>
    obtain ⟨rfl, rfl, rfl⟩ := h.no (by simp only [faO, hz, Bool.not_true, Bool.and_false])
    go_enter Try.func45, Try.ntmps45
    go_wp2_with fail
    (refine (iGaussOk _ _ _).mono ?_; rintro e w1 ⟨rfl, hb1⟩; have hz1 := hb1.size; (repeat (first | rw [World.size_alloc] at hz1 | rw [World.size_setCell] at hz1 | rw [World.size_drew] at hz1)); have pp := C2.K hb1 (b := w.heap.size) (x := _) (y := _) (by (repeat (first | ((with_reducible apply C2.mk) <;> (with_reducible assumption)) | (with_reducible apply C2.Z) | (with_reducible apply C2.O) | ((with_reducible apply C2.B); (focus (simp; done))) | (with_reducible apply C2.A) | (with_reducible apply C2.D) | ((with_reducible apply C2.S); focus ((repeat (first | rw [World.size_alloc] | rw [World.size_setCell] | rw [World.size_drew])); omega)) | ((with_reducible apply C2.K); (focus (with_reducible assumption)))))); obtain ⟨kk3, kk4⟩ := pp; (try clear kk1 kk2))
    go_wp2_with fail
    go_returns
    exact ⟨_, rfl, GS.nil _ _, by (repeat' (first | (with_reducible exact Below.refl _ _) | (with_reducible refine Below.alloc ?_ ?_ _) | (with_reducible refine Below.drew ?_) | (with_reducible refine Below.setCell ?_ ?_ _) | (with_reducible refine Below.trans ?_ (Below.mono (by assumption) ?_)) | go_size))⟩
  have ho : faO a b = true := by simp only [faO, k1, hz]; rfl
  obtain ⟨-, -, hnz⟩ := faO_is ho
  obtain ⟨c, d, x, y, hO, hc, hd, kc, nc, hdv, hx, hy, kx, nx, he⟩ := whole_div k1 hnz
  have H := Lib.hid h
  have HO := Lib.hid ho
  have HE := Lib.hid he
  clear h ho he hnz
  go_enter Try.func45, Try.ntmps45
  go_wp2_with fail
  (refine (iGaussOk _ _ _).mono ?_; rintro e w1 ⟨rfl, hb1⟩; have hz1 := hb1.size; (repeat (first | rw [World.size_alloc] at hz1 | rw [World.size_setCell] at hz1 | rw [World.size_drew] at hz1)); have pp := C2.K hb1 (b := w.heap.size) (x := _) (y := _) (by (repeat (first | ((with_reducible apply C2.mk) <;> (with_reducible assumption)) | (with_reducible apply C2.Z) | (with_reducible apply C2.O) | ((with_reducible apply C2.B); (focus (simp; done))) | (with_reducible apply C2.A) | (with_reducible apply C2.D) | ((with_reducible apply C2.S); focus ((repeat (first | rw [World.size_alloc] | rw [World.size_setCell] | rw [World.size_drew])); omega)) | ((with_reducible apply C2.K); (focus (with_reducible assumption)))))); obtain ⟨kk5, kk6⟩ := pp; (try clear kk3 kk4))
  go_wp2_with fail
  (refine (iCommonOf_v _ ⟨hO, hc, hd⟩).mono ?_; rintro e w2 ⟨rfl, hb2⟩; have hz2 := hb2.size; (repeat (first | rw [World.size_alloc] at hz2 | rw [World.size_setCell] at hz2 | rw [World.size_drew] at hz2)); have pp := C2.K hb2 (b := w.heap.size) (x := _) (y := _) (by (repeat (first | ((with_reducible apply C2.mk) <;> (with_reducible assumption)) | (with_reducible apply C2.Z) | (with_reducible apply C2.O) | ((with_reducible apply C2.B); (focus (simp; done))) | (with_reducible apply C2.A) | (with_reducible apply C2.D) | ((with_reducible apply C2.S); focus ((repeat (first | rw [World.size_alloc] | rw [World.size_setCell] | rw [World.size_drew])); omega)) | ((with_reducible apply C2.K); (focus (with_reducible assumption)))))); obtain ⟨kk7, kk8⟩ := pp; (try clear kk5 kk6))
  clear hO hc hd
  go_wp2_with fail
  (refine (igDivided_v _ hdv ⟨hx, hy, rfl, rfl⟩).mono ?_; rintro e w3 ⟨rfl, hb3⟩; have hz3 := hb3.size; (repeat (first | rw [World.size_alloc] at hz3 | rw [World.size_setCell] at hz3 | rw [World.size_drew] at hz3)); have pp := C2.K hb3 (b := w2.heap.size) (x := _) (y := _) (by (repeat (first | ((with_reducible apply C2.mk) <;> (with_reducible assumption)) | (with_reducible apply C2.Z) | (with_reducible apply C2.O) | ((with_reducible apply C2.B); (focus (simp; done))) | (with_reducible apply C2.A) | (with_reducible apply C2.D) | ((with_reducible apply C2.S); focus ((repeat (first | rw [World.size_alloc] | rw [World.size_setCell] | rw [World.size_drew])); omega)) | ((with_reducible apply C2.K); (focus (with_reducible assumption)))))); obtain ⟨kk9, kk10⟩ := pp; (try clear kk7 kk8))
  clear hdv hx hy
  go_wp2_with fail
  (refine (iTried c d _ kc nc).mono ?_; rintro e w4 ⟨t1, l1, v1, rfl, f1, g1, hb4⟩; have hz4 := hb4.size; (repeat (first | rw [World.size_alloc] at hz4 | rw [World.size_setCell] at hz4 | rw [World.size_drew] at hz4)); have pp := C2.K hb4 (b := w3.heap.size) (x := _) (y := _) (by (repeat (first | ((with_reducible apply C2.mk) <;> (with_reducible assumption)) | (with_reducible apply C2.Z) | (with_reducible apply C2.O) | ((with_reducible apply C2.B); (focus (simp; done))) | (with_reducible apply C2.A) | (with_reducible apply C2.D) | ((with_reducible apply C2.S); focus ((repeat (first | rw [World.size_alloc] | rw [World.size_setCell] | rw [World.size_drew])); omega)) | ((with_reducible apply C2.K); (focus (with_reducible assumption)))))); obtain ⟨kk11, kk12⟩ := pp; (try clear kk9 kk10))
  have n1 := facs_len f1 nc (nG_gok (z := (c, d)) kc)
  have p1 : ∀ p ∈ l1, gok p.1 p.2 = true := fun p hp => (f1.pr p hp).prI.1
  have t10 := f1.t0
  have t13 := f1.t3
  have F1 := Lib.hid f1
  clear f1 nc kc
  go_wp2_with fail
  (refine (iTried x y _ kx nx).mono ?_; rintro e w5 ⟨t2, l2, v2, rfl, f2, g2, hb5⟩; have hz5 := hb5.size; (repeat (first | rw [World.size_alloc] at hz5 | rw [World.size_setCell] at hz5 | rw [World.size_drew] at hz5)); (try clear kk11 kk12))
  have g1' := g1.below hb5
  have n2 := facs_len f2 nx (nG_gok (z := (x, y)) kx)
  have p2 : ∀ p ∈ l2, gok p.1 p.2 = true := fun p hp => (f2.pr p hp).prI.1
  have t20 := f2.t0
  have t23 := f2.t3
  have hfm := F1.out.merge f2
  rw [HE.out] at hfm
  obtain ⟨rfl, rfl, rfl⟩ := H.out.yes HO.out hfm
  clear F1 f2 H HO HE hfm nx kx g1
  have h4 : (0 : Int) ≤ t1 + t2 := by omega
  go_wp2_with fail
  refine (iMerged l1 l2 v1 v2 w5.heap.size _ g1'.lo g2.lo (by omega) p1 p2 (by omega)).mono ?_
  rintro e w6 ⟨v, rfl, g3, hb6⟩
  go_wp2_with fail
  go_returns
  exact ⟨v, rfl, g3.mono (by omega), by (repeat' (first | (with_reducible exact Below.refl _ _) | (with_reducible refine Below.alloc ?_ ?_ _) | (with_reducible refine Below.drew ?_) | (with_reducible refine Below.setCell ?_ ?_ _) | (with_reducible refine Below.trans ?_ (Below.mono (by assumption) ?_)) | go_size))⟩
end Go.Proofs.Ytahnkecdningnaa

namespace Go.Proofs.Ytahnkecdningnaa
open Go Go.RowKit
attribute [local go_sem] World.cell?_alloc_some cell?_alloc2_some cell?_alloc3_some cell?_alloc4_some frozen?_alloc_some frozen?_alloc2_some frozen?_alloc3_some World.cell?_setCell_far new_ne0 new_ne1 new_ne2 new_ne3 lt2 lt3 lt4 lt5 lt6 lt7 lt8 lt9
attribute [local go_sem ↓] eqG neG

theorem mul_bd4 {x c k m : Int} (h1 : -k ≤ x) (h2 : x ≤ k) (h3 : -m ≤ c) (h4 : c ≤ m) : -(k * m) ≤ x * c ∧ x * c ≤ k * m := by
  have hk : 0 ≤ k := by omega
  have hm : 0 ≤ m := by omega
  have g1 := Int.mul_le_mul_of_nonneg_left h4 (show 0 ≤ k + x by omega)
  have g2 := Int.mul_le_mul_of_nonneg_left (show -c ≤ m by omega) (show 0 ≤ k - x by omega)
  have g3 := Int.mul_le_mul_of_nonneg_left h4 (show 0 ≤ k - x by omega)
  have g4 := Int.mul_le_mul_of_nonneg_left (show -c ≤ m by omega) (show 0 ≤ k + x by omega)
  constructor <;> grind
/-- Products of numbers that may be greater. -/
theorem slTimes_w {a b c d x y : Int} (w : World) (ha1 : -3000000 ≤ a) (ha2 : a ≤ 3000000) (hb1 : -3000000 ≤ b) (hb2 : b ≤ 3000000) (hc1 : -1414 ≤ c) (hc2 : c ≤ 1414) (hd1 : -1414 ≤ d) (hd2 : d ≤ 1414) (hx : a * c - b * d = x) (hy : a * d + b * c = y) :
    Calls Try.prog 77 #[.agg #[.int .i64 a, .int .i64 b], .agg #[.int .i64 c, .int .i64 d]] w fun e w' => e = .returned (.agg #[.int .i64 x, .int .i64 y]) ∧ Below w.heap.size w w' := by
  subst hx hy
  have m1 := mul_bd4 ha1 ha2 hc1 hc2
  have m2 := mul_bd4 hb1 hb2 hd1 hd2
  have m3 := mul_bd4 ha1 ha2 hd1 hd2
  have m4 := mul_bd4 hb1 hb2 hc1 hc2
  refine (slTimes a b c d w).mono ?_
  rintro e w' ⟨rfl, hb⟩
  refine ⟨?_, hb⟩
  rw [IntWalk.wrap64_in (a * c) (by omega), IntWalk.wrap64_in (b * d) (by omega), IntWalk.wrap64_in (a * d) (by omega), IntWalk.wrap64_in (b * c) (by omega), IntWalk.wrap64_in _ (by omega), IntWalk.wrap64_in _ (by omega)]
theorem slNorm_w {a b n : Int} (w : World) (ha1 : -1414 ≤ a) (ha2 : a ≤ 1414) (hb1 : -1414 ≤ b) (hb2 : b ≤ 1414) (h : a * a + b * b = n) : Calls Try.prog 55 #[.agg #[.int .i64 a, .int .i64 b]] w fun e w' => e = .returned (.int .i64 n) ∧ Below w.heap.size w w' := by
  subst h
  have m1 := mul_bd4 ha1 ha2 ha1 ha2
  have m2 := mul_bd4 hb1 hb2 hb1 hb2
  refine (slNorm a b w).mono ?_
  rintro e w' ⟨rfl, hb⟩
  refine ⟨?_, hb⟩
  rw [IntWalk.wrap64_in (a * a) (by omega), IntWalk.wrap64_in (b * b) (by omega), IntWalk.wrap64_in _ (by omega)]
set_option maxHeartbeats 4000000 in
/-- A division by a number that may be none. -/
theorem l3Divided_w {a b c d r1 r2 : Int} (w : World) (k1 : gok a b = true) (c1 : -1414 ≤ c) (c2 : c ≤ 1414) (d1 : -1414 ≤ d) (d2 : d ≤ 1414) (hN : 0 < c * c + d * d) (hN2 : c * c + d * d ≤ 2000000) (hr1 : rA a b c d = r1) (hr2 : rB a b c d = r2) :
    Calls Try.prog 52 #[.agg #[.int .i64 a, .int .i64 b], .agg #[.int .i64 c, .int .i64 d]] w fun e w' => ∃ x y, e = .returned (.tuple #[.agg #[.int .i64 x, .int .i64 y], .agg #[.int .i64 r1, .int .i64 r2]]) ∧ Below w.heap.size w w' := by
  obtain ⟨a1, a2, b1, b2⟩ := gok_bd k1
  have m1 := mul_bd4 a1 a2 c1 c2
  have m2 := mul_bd4 b1 b2 d1 d2
  have m3 := mul_bd4 a1 a2 d1 d2
  have m4 := mul_bd4 b1 b2 c1 c2
  obtain ⟨N, eN⟩ : ∃ N, c * c + d * d = N := ⟨_, rfl⟩
  obtain ⟨p1, e1⟩ : ∃ p1, a * c - b * -d = p1 := ⟨_, rfl⟩
  obtain ⟨p2, e2⟩ : ∃ p2, a * -d + b * c = p2 := ⟨_, rfl⟩
  have e1' : a * c + b * d = p1 := by rw [← e1]; grind
  have e2' : b * c - a * d = p2 := by rw [← e2]; grind
  rw [eN] at hN hN2
  have i1 : -2828000 ≤ p1 ∧ p1 ≤ 2828000 := by omega
  have i2 : -2828000 ≤ p2 ∧ p2 ≤ 2828000 := by omega
  have j1 := nr_le (n := p1) (k := 2828000) hN i1.1 i1.2
  have j2 := nr_le (n := p2) (k := 2828000) hN i2.1 i2.2
  obtain ⟨x, f1⟩ : ∃ x, nr p1 N = x := ⟨_, rfl⟩
  obtain ⟨y, f2⟩ : ∃ y, nr p2 N = y := ⟨_, rfl⟩
  rw [f1] at j1
  rw [f2] at j2
  have q1 : qA a b c d = x := by unfold qA; rw [e1', eN, f1]
  have q2 : qB a b c d = y := by unfold qB; rw [e2', eN, f2]
  obtain ⟨u, g1⟩ : ∃ u, x * c - y * d = u := ⟨_, rfl⟩
  obtain ⟨v, g2⟩ : ∃ v, x * d + y * c = v := ⟨_, rfl⟩
  have s1 := mul_bd4 j1.1 j1.2 c1 c2
  have s2 := mul_bd4 j2.1 j2.2 d1 d2
  have s3 := mul_bd4 j1.1 j1.2 d1 d2
  have s4 := mul_bd4 j2.1 j2.2 c1 c2
  have hr1' : a - u = r1 := by rw [← hr1]; unfold rA; rw [q1, q2, g1]
  have hr2' : b - v = r2 := by rw [← hr2]; unfold rB; rw [q1, q2, g2]
  have hu : -8000000000 ≤ u ∧ u ≤ 8000000000 := by omega
  have hv : -8000000000 ≤ v ∧ v ≤ 8000000000 := by omega
  obtain ⟨j11, j12⟩ := j1
  obtain ⟨j21, j22⟩ := j2
  obtain ⟨i11, i12⟩ := i1
  obtain ⟨i21, i22⟩ := i2
  clear m1 m2 m3 m4 s1 s2 s3 s4 q1 q2 e1' e2' hr1 hr2
  have hw1 : IntKind.i64.wrap (a - u) = a - u := IntWalk.i64_in _ (by omega)
  have hw2 : IntKind.i64.wrap (b - v) = b - v := IntWalk.i64_in _ (by omega)
  subst hr1' hr2'
  go_enter Try.func52, Try.ntmps52
  go_wp2_with fail
  (refine (slTimes_w _ (by omega) (by omega) (by omega) (by omega) c1 c2 (by omega) (by omega) e1 e2).mono ?_; rintro e w1 ⟨rfl, hb1⟩; have hz1 := hb1.size; (repeat (first | rw [World.size_alloc] at hz1 | rw [World.size_setCell] at hz1 | rw [World.size_drew] at hz1)); have pp := C2.K hb1 (b := w.heap.size) (x := _) (y := _) (by (repeat (first | ((with_reducible apply C2.mk) <;> (with_reducible assumption)) | (with_reducible apply C2.Z) | (with_reducible apply C2.O) | ((with_reducible apply C2.B); (focus (simp; done))) | (with_reducible apply C2.A) | (with_reducible apply C2.D) | ((with_reducible apply C2.S); focus ((repeat (first | rw [World.size_alloc] | rw [World.size_setCell] | rw [World.size_drew])); omega)) | ((with_reducible apply C2.K); (focus (with_reducible assumption)))))); obtain ⟨kk1, kk2⟩ := pp; have pp := C2.K hb1 (b := w.heap.size + 1) (x := _) (y := _) (by (repeat (first | ((with_reducible apply C2.mk) <;> (with_reducible assumption)) | (with_reducible apply C2.Z) | (with_reducible apply C2.O) | ((with_reducible apply C2.B); (focus (simp; done))) | (with_reducible apply C2.A) | (with_reducible apply C2.D) | ((with_reducible apply C2.S); focus ((repeat (first | rw [World.size_alloc] | rw [World.size_setCell] | rw [World.size_drew])); omega)) | ((with_reducible apply C2.K); (focus (with_reducible assumption)))))); obtain ⟨kk3, kk4⟩ := pp; have pp := T2.K hb1 (b := w.heap.size + 1 + 1) (x := _) (y := _) (by (repeat (first | ((with_reducible apply T2.mk) <;> (with_reducible assumption)) | (with_reducible apply T2.Z) | (with_reducible apply T2.O) | ((with_reducible apply T2.B); (focus (simp; done))) | (with_reducible apply T2.A) | (with_reducible apply T2.D) | ((with_reducible apply T2.S); focus ((repeat (first | rw [World.size_alloc] | rw [World.size_setCell] | rw [World.size_drew])); omega)) | ((with_reducible apply T2.K); (focus (with_reducible assumption)))))); obtain ⟨kk5, kk6, fkk5, fkk6⟩ := pp; have pp := T2.K hb1 (b := w.heap.size + 1 + 1 + 1) (x := _) (y := _) (by (repeat (first | ((with_reducible apply T2.mk) <;> (with_reducible assumption)) | (with_reducible apply T2.Z) | (with_reducible apply T2.O) | ((with_reducible apply T2.B); (focus (simp; done))) | (with_reducible apply T2.A) | (with_reducible apply T2.D) | ((with_reducible apply T2.S); focus ((repeat (first | rw [World.size_alloc] | rw [World.size_setCell] | rw [World.size_drew])); omega)) | ((with_reducible apply T2.K); (focus (with_reducible assumption)))))); obtain ⟨kk7, kk8, fkk7, fkk8⟩ := pp)
  go_wp2_with fail
  (refine (slNorm_w _ c1 c2 d1 d2 eN).mono ?_; rintro e w2 ⟨rfl, hb2⟩; have hz2 := hb2.size; (repeat (first | rw [World.size_alloc] at hz2 | rw [World.size_setCell] at hz2 | rw [World.size_drew] at hz2)); have pp := C2.K hb2 (b := w.heap.size) (x := _) (y := _) (by (repeat (first | ((with_reducible apply C2.mk) <;> (with_reducible assumption)) | (with_reducible apply C2.Z) | (with_reducible apply C2.O) | ((with_reducible apply C2.B); (focus (simp; done))) | (with_reducible apply C2.A) | (with_reducible apply C2.D) | ((with_reducible apply C2.S); focus ((repeat (first | rw [World.size_alloc] | rw [World.size_setCell] | rw [World.size_drew])); omega)) | ((with_reducible apply C2.K); (focus (with_reducible assumption)))))); obtain ⟨kk9, kk10⟩ := pp; have pp := C2.K hb2 (b := w.heap.size + 1) (x := _) (y := _) (by (repeat (first | ((with_reducible apply C2.mk) <;> (with_reducible assumption)) | (with_reducible apply C2.Z) | (with_reducible apply C2.O) | ((with_reducible apply C2.B); (focus (simp; done))) | (with_reducible apply C2.A) | (with_reducible apply C2.D) | ((with_reducible apply C2.S); focus ((repeat (first | rw [World.size_alloc] | rw [World.size_setCell] | rw [World.size_drew])); omega)) | ((with_reducible apply C2.K); (focus (with_reducible assumption)))))); obtain ⟨kk11, kk12⟩ := pp; have pp := T2.K hb2 (b := w.heap.size + 1 + 1) (x := _) (y := _) (by (repeat (first | ((with_reducible apply T2.mk) <;> (with_reducible assumption)) | (with_reducible apply T2.Z) | (with_reducible apply T2.O) | ((with_reducible apply T2.B); (focus (simp; done))) | (with_reducible apply T2.A) | (with_reducible apply T2.D) | ((with_reducible apply T2.S); focus ((repeat (first | rw [World.size_alloc] | rw [World.size_setCell] | rw [World.size_drew])); omega)) | ((with_reducible apply T2.K); (focus (with_reducible assumption)))))); obtain ⟨kk13, kk14, fkk13, fkk14⟩ := pp; have pp := T2.K hb2 (b := w.heap.size + 1 + 1 + 1) (x := _) (y := _) (by (repeat (first | ((with_reducible apply T2.mk) <;> (with_reducible assumption)) | (with_reducible apply T2.Z) | (with_reducible apply T2.O) | ((with_reducible apply T2.B); (focus (simp; done))) | (with_reducible apply T2.A) | (with_reducible apply T2.D) | ((with_reducible apply T2.S); focus ((repeat (first | rw [World.size_alloc] | rw [World.size_setCell] | rw [World.size_drew])); omega)) | ((with_reducible apply T2.K); (focus (with_reducible assumption)))))); obtain ⟨kk15, kk16, fkk15, fkk16⟩ := pp; have pp := C2.K hb2 (b := w1.heap.size) (x := _) (y := _) (by (repeat (first | ((with_reducible apply C2.mk) <;> (with_reducible assumption)) | (with_reducible apply C2.Z) | (with_reducible apply C2.O) | ((with_reducible apply C2.B); (focus (simp; done))) | (with_reducible apply C2.A) | (with_reducible apply C2.D) | ((with_reducible apply C2.S); focus ((repeat (first | rw [World.size_alloc] | rw [World.size_setCell] | rw [World.size_drew])); omega)) | ((with_reducible apply C2.K); (focus (with_reducible assumption)))))); obtain ⟨kk17, kk18⟩ := pp; (try clear kk1 kk2 kk3 kk4 kk5 kk6 fkk5 fkk6 kk7 kk8 fkk7 fkk8))
  go_upto_region 3 with fail
  go_cut [8] (fun v8 wx => CutX w2 x y v8 wx)
  case first =>
    (go_region_held3 (fun w' => w'.cell? ⟨w1.heap.size, 0, none⟩ = some (.int .i64 (p1)) ∧ w'.cell? ⟨w1.heap.size, 1, none⟩ = some (.int .i64 (p2))) (first | (go_keep; done) | ((try dsimp only); refine ⟨?_, ?_⟩ <;> (repeat (first | (with_reducible assumption) | (with_reducible apply sameS) | ((with_reducible apply born); (focus (simp; done)); (focus rfl)) | (with_reducible apply keepA) | (with_reducible apply keepD) | ((with_reducible apply keepS); focus ((repeat (first | rw [World.size_alloc] | rw [World.size_setCell] | rw [World.size_drew])); omega)) | ((with_reducible apply keep); (focus (with_reducible assumption))))))) (first | (go_at_call 78; obtain ⟨q0, q1⟩ := ‹_ ∧ _›; refine (l3Near_v _ (by omega) (by omega) hN (by omega) (by first | exact f1 | exact f2)).mono ?_; rintro e w3 ⟨rfl, hb3⟩; have hz3 := hb3.size; (repeat (first | rw [World.size_alloc] at hz3 | rw [World.size_setCell] at hz3 | rw [World.size_drew] at hz3)); have kk19 := keep hb3 q0; have kk20 := keep hb3 q1; obtain ⟨hc3, hf3⟩ := bcell hb3; clear q0 q1)); (try clear kk9 kk10 kk11 kk12 kk13 kk14 fkk13 fkk14 kk15 kk16 fkk15 fkk16 kk17 kk18))
    all_goals (go_wp2_with fail; go_meet; exact ⟨_, rfl, by ((try simp only [World.size_alloc, World.size_setCell, World.size_drew]); omega), by (repeat (first | (with_reducible assumption) | (with_reducible apply sameS) | ((with_reducible apply born); (focus (simp; done)); (focus rfl)) | (with_reducible apply keepA) | (with_reducible apply keepD) | ((with_reducible apply keepS); focus ((repeat (first | rw [World.size_alloc] | rw [World.size_setCell] | rw [World.size_drew])); omega)) | ((with_reducible apply keep); (focus (with_reducible assumption))))), by (repeat (first | (with_reducible assumption) | (with_reducible apply sameS) | ((with_reducible apply born); (focus (simp; done)); (focus rfl)) | (with_reducible apply keepA) | (with_reducible apply keepD) | ((with_reducible apply keepS); focus ((repeat (first | rw [World.size_alloc] | rw [World.size_setCell] | rw [World.size_drew])); omega)) | ((with_reducible apply keep); (focus (with_reducible assumption))))), by (repeat' (first | (with_reducible exact Below.refl _ _) | (with_reducible refine Below.alloc ?_ ?_ _) | (with_reducible refine Below.drew ?_) | (with_reducible refine Below.setCell ?_ ?_ _) | (with_reducible refine Below.trans ?_ (Below.mono (by assumption) ?_)) | go_size))⟩)
  case rest =>
    obtain ⟨X, rfl, mX, m0, m1, hbx⟩ := hcut
    (have hzx := hbx.size; (repeat (first | rw [World.size_alloc] at hzx | rw [World.size_setCell] at hzx | rw [World.size_drew] at hzx)); have pp := C2.K hbx (b := w.heap.size) (x := _) (y := _) (by (repeat (first | ((with_reducible apply C2.mk) <;> (with_reducible assumption)) | (with_reducible apply C2.Z) | (with_reducible apply C2.O) | ((with_reducible apply C2.B); (focus (simp; done))) | (with_reducible apply C2.A) | (with_reducible apply C2.D) | ((with_reducible apply C2.S); focus ((repeat (first | rw [World.size_alloc] | rw [World.size_setCell] | rw [World.size_drew])); omega)) | ((with_reducible apply C2.K); (focus (with_reducible assumption)))))); obtain ⟨kk21, kk22⟩ := pp; have pp := C2.K hbx (b := w.heap.size + 1) (x := _) (y := _) (by (repeat (first | ((with_reducible apply C2.mk) <;> (with_reducible assumption)) | (with_reducible apply C2.Z) | (with_reducible apply C2.O) | ((with_reducible apply C2.B); (focus (simp; done))) | (with_reducible apply C2.A) | (with_reducible apply C2.D) | ((with_reducible apply C2.S); focus ((repeat (first | rw [World.size_alloc] | rw [World.size_setCell] | rw [World.size_drew])); omega)) | ((with_reducible apply C2.K); (focus (with_reducible assumption)))))); obtain ⟨kk23, kk24⟩ := pp; have pp := T2.K hbx (b := w.heap.size + 1 + 1) (x := _) (y := _) (by (repeat (first | ((with_reducible apply T2.mk) <;> (with_reducible assumption)) | (with_reducible apply T2.Z) | (with_reducible apply T2.O) | ((with_reducible apply T2.B); (focus (simp; done))) | (with_reducible apply T2.A) | (with_reducible apply T2.D) | ((with_reducible apply T2.S); focus ((repeat (first | rw [World.size_alloc] | rw [World.size_setCell] | rw [World.size_drew])); omega)) | ((with_reducible apply T2.K); (focus (with_reducible assumption)))))); obtain ⟨kk25, kk26, fkk25, fkk26⟩ := pp; have pp := T2.K hbx (b := w.heap.size + 1 + 1 + 1) (x := _) (y := _) (by (repeat (first | ((with_reducible apply T2.mk) <;> (with_reducible assumption)) | (with_reducible apply T2.Z) | (with_reducible apply T2.O) | ((with_reducible apply T2.B); (focus (simp; done))) | (with_reducible apply T2.A) | (with_reducible apply T2.D) | ((with_reducible apply T2.S); focus ((repeat (first | rw [World.size_alloc] | rw [World.size_setCell] | rw [World.size_drew])); omega)) | ((with_reducible apply T2.K); (focus (with_reducible assumption)))))); obtain ⟨kk27, kk28, fkk27, fkk28⟩ := pp; (try clear kk19 kk20))
    go_wp2_with fail
    (refine (slTimes_w _ (by omega) (by omega) (by omega) (by omega) c1 c2 d1 d2 g1 g2).mono ?_; rintro e w4 ⟨rfl, hb4⟩; have hz4 := hb4.size; (repeat (first | rw [World.size_alloc] at hz4 | rw [World.size_setCell] at hz4 | rw [World.size_drew] at hz4)); have pp := C2.K hb4 (b := w.heap.size) (x := _) (y := _) (by (repeat (first | ((with_reducible apply C2.mk) <;> (with_reducible assumption)) | (with_reducible apply C2.Z) | (with_reducible apply C2.O) | ((with_reducible apply C2.B); (focus (simp; done))) | (with_reducible apply C2.A) | (with_reducible apply C2.D) | ((with_reducible apply C2.S); focus ((repeat (first | rw [World.size_alloc] | rw [World.size_setCell] | rw [World.size_drew])); omega)) | ((with_reducible apply C2.K); (focus (with_reducible assumption)))))); obtain ⟨kk29, kk30⟩ := pp; have pp := T2.K hb4 (b := w.heap.size + 1 + 1) (x := _) (y := _) (by (repeat (first | ((with_reducible apply T2.mk) <;> (with_reducible assumption)) | (with_reducible apply T2.Z) | (with_reducible apply T2.O) | ((with_reducible apply T2.B); (focus (simp; done))) | (with_reducible apply T2.A) | (with_reducible apply T2.D) | ((with_reducible apply T2.S); focus ((repeat (first | rw [World.size_alloc] | rw [World.size_setCell] | rw [World.size_drew])); omega)) | ((with_reducible apply T2.K); (focus (with_reducible assumption)))))); obtain ⟨kk31, kk32, fkk31, fkk32⟩ := pp; have pp := T2.K hb4 (b := w.heap.size + 1 + 1 + 1) (x := _) (y := _) (by (repeat (first | ((with_reducible apply T2.mk) <;> (with_reducible assumption)) | (with_reducible apply T2.Z) | (with_reducible apply T2.O) | ((with_reducible apply T2.B); (focus (simp; done))) | (with_reducible apply T2.A) | (with_reducible apply T2.D) | ((with_reducible apply T2.S); focus ((repeat (first | rw [World.size_alloc] | rw [World.size_setCell] | rw [World.size_drew])); omega)) | ((with_reducible apply T2.K); (focus (with_reducible assumption)))))); obtain ⟨kk33, kk34, fkk33, fkk34⟩ := pp; have pp := C2.K hb4 (b := X) (x := _) (y := _) (by (repeat (first | ((with_reducible apply C2.mk) <;> (with_reducible assumption)) | (with_reducible apply C2.Z) | (with_reducible apply C2.O) | ((with_reducible apply C2.B); (focus (simp; done))) | (with_reducible apply C2.A) | (with_reducible apply C2.D) | ((with_reducible apply C2.S); focus ((repeat (first | rw [World.size_alloc] | rw [World.size_setCell] | rw [World.size_drew])); omega)) | ((with_reducible apply C2.K); (focus (with_reducible assumption)))))); obtain ⟨kk35, kk36⟩ := pp; (try clear kk21 kk22 kk23 kk24 kk25 kk26 fkk25 fkk26 kk27 kk28 fkk27 fkk28))
    go_wp2_with fail
    go_region
    all_goals go_wp2_with fail
    all_goals refine bodyPost_ret (v := .tuple #[.agg #[.int .i64 x, .int .i64 y], .agg #[.int .i64 (a - u), .int .i64 (b - v)]]) (by simp [results, Try.results52, go_sem, *]) rfl ?_; exact ⟨x, y, rfl, by (repeat' (first | (with_reducible exact Below.refl _ _) | (with_reducible refine Below.alloc ?_ ?_ _) | (with_reducible refine Below.drew ?_) | (with_reducible refine Below.setCell ?_ ?_ _) | (with_reducible refine Below.trans ?_ (Below.mono (by assumption) ?_)) | go_size))⟩
instance ltDec (p q : Int × Int) : Decidable (ltD p q) := by unfold ltD; infer_instance
set_option maxHeartbeats 4000000 in
/-- Is one number ahead of another one. -/
theorem l6Less {a b c d : Int} {o : Bool} (w : World) (k1 : gok a b = true) (k2 : gok c d = true) (ho : decide (ltD (a, b) (c, d)) = o) : Calls Try.prog 80 #[.agg #[.int .i64 a, .int .i64 b], .agg #[.int .i64 c, .int .i64 d]] w fun e w' => e = .returned (.bool o) ∧ Below w.heap.size w w' := by
  obtain ⟨n, hn⟩ : ∃ n, a * a + b * b = n := ⟨_, rfl⟩
  obtain ⟨m, hm⟩ : ∃ m, c * c + d * d = m := ⟨_, rfl⟩
  have hd : decide (n < m ∨ (n = m ∧ a < c)) = o := by rw [← ho, ← hn, ← hm]; exact decide_eq_decide.2 Iff.rfl
  clear ho
  by_cases h1 : n < m
  · have d1 : decide (n < m) = true := decide_eq_true h1
    have : o = true := by rw [← hd]; exact decide_eq_true (.inl h1)
    subst this
    clear hd
    go_enter Try.func80, Try.ntmps80
    go_wp2_with fail
    (refine wp_name ?_; intro w6 hb6; have hz6 := hb6.size; (repeat (first | rw [World.size_alloc] at hz6 | rw [World.size_setCell] at hz6 | rw [World.size_drew] at hz6)); have pp := C2.K hb6 (b := w.heap.size) (x := _) (y := _) (by (repeat (first | ((with_reducible apply C2.mk) <;> (with_reducible assumption)) | (with_reducible apply C2.Z) | (with_reducible apply C2.O) | ((with_reducible apply C2.B); (focus (simp; done))) | (with_reducible apply C2.A) | (with_reducible apply C2.D) | ((with_reducible apply C2.S); focus ((repeat (first | rw [World.size_alloc] | rw [World.size_setCell] | rw [World.size_drew])); omega)) | ((with_reducible apply C2.K); (focus (with_reducible assumption)))))); obtain ⟨kk1, kk2⟩ := pp; have rkk1 := cell_regrown kk1; have rkk2 := cell_regrown kk2; have pp := C2.K hb6 (b := w.heap.size + 1) (x := _) (y := _) (by (repeat (first | ((with_reducible apply C2.mk) <;> (with_reducible assumption)) | (with_reducible apply C2.Z) | (with_reducible apply C2.O) | ((with_reducible apply C2.B); (focus (simp; done))) | (with_reducible apply C2.A) | (with_reducible apply C2.D) | ((with_reducible apply C2.S); focus ((repeat (first | rw [World.size_alloc] | rw [World.size_setCell] | rw [World.size_drew])); omega)) | ((with_reducible apply C2.K); (focus (with_reducible assumption)))))); obtain ⟨kk3, kk4⟩ := pp; have rkk3 := cell_regrown kk3; have rkk4 := cell_regrown kk4; refine wp_region_quiet_below (by kernel_rfl) (by kernel_rfl) ?_; (repeat (first | go_big_quiet_step ((first | (go_at_call 55; exact Calls.regrown_of (slNorm_v _ (by first | exact k1 | exact k2) (by first | exact hn | exact hm))))) | quiet_step ((first | (go_at_call 55; exact Calls.regrown_of (slNorm_v _ (by first | exact k1 | exact k2) (by first | exact hn | exact hm))))))); refine wpQuiet_nil ?_; intro w7 hw; have hb7 := below_of_regrown hw; clear hw; have hz7 := hb7.size; have kk5 := keep hb7 kk1; have kk6 := keep hb7 kk2; have kk7 := keep hb7 kk3; have kk8 := keep hb7 kk4; clear kk1 kk2 kk3 kk4 rkk1 rkk2 rkk3 rkk4)
    go_wp2_with fail
    go_returns
    exact ⟨rfl, by (repeat' (first | (with_reducible exact Below.refl _ _) | (with_reducible refine Below.alloc ?_ ?_ _) | (with_reducible refine Below.drew ?_) | (with_reducible refine Below.setCell ?_ ?_ _) | (with_reducible refine Below.trans ?_ (Below.mono (by assumption) ?_)) | go_size))⟩
  · have d1 : decide (n < m) = false := decide_eq_false h1
    by_cases h2 : n = m
    · subst h2
      have d2 : (n == n) = true := by simp
      have : o = decide (a < c) := by rw [← hd, decide_eq_decide]; omega
      subst this
      clear hd
      go_enter Try.func80, Try.ntmps80
      go_wp2_with fail
      (refine wp_name ?_; intro w6 hb6; have hz6 := hb6.size; (repeat (first | rw [World.size_alloc] at hz6 | rw [World.size_setCell] at hz6 | rw [World.size_drew] at hz6)); have pp := C2.K hb6 (b := w.heap.size) (x := _) (y := _) (by (repeat (first | ((with_reducible apply C2.mk) <;> (with_reducible assumption)) | (with_reducible apply C2.Z) | (with_reducible apply C2.O) | ((with_reducible apply C2.B); (focus (simp; done))) | (with_reducible apply C2.A) | (with_reducible apply C2.D) | ((with_reducible apply C2.S); focus ((repeat (first | rw [World.size_alloc] | rw [World.size_setCell] | rw [World.size_drew])); omega)) | ((with_reducible apply C2.K); (focus (with_reducible assumption)))))); obtain ⟨kk9, kk10⟩ := pp; have rkk9 := cell_regrown kk9; have rkk10 := cell_regrown kk10; have pp := C2.K hb6 (b := w.heap.size + 1) (x := _) (y := _) (by (repeat (first | ((with_reducible apply C2.mk) <;> (with_reducible assumption)) | (with_reducible apply C2.Z) | (with_reducible apply C2.O) | ((with_reducible apply C2.B); (focus (simp; done))) | (with_reducible apply C2.A) | (with_reducible apply C2.D) | ((with_reducible apply C2.S); focus ((repeat (first | rw [World.size_alloc] | rw [World.size_setCell] | rw [World.size_drew])); omega)) | ((with_reducible apply C2.K); (focus (with_reducible assumption)))))); obtain ⟨kk11, kk12⟩ := pp; have rkk11 := cell_regrown kk11; have rkk12 := cell_regrown kk12; (try clear kk5 kk6 kk7 kk8); refine wp_region_quiet_below (by kernel_rfl) (by kernel_rfl) ?_; (repeat (first | go_big_quiet_step ((first | (go_at_call 55; exact Calls.regrown_of (slNorm_v _ (by first | exact k1 | exact k2) (by first | exact hn | exact hm))))) | quiet_step ((first | (go_at_call 55; exact Calls.regrown_of (slNorm_v _ (by first | exact k1 | exact k2) (by first | exact hn | exact hm))))))); refine wpQuiet_nil ?_; intro w7 hw; have hb7 := below_of_regrown hw; clear hw; have hz7 := hb7.size; have kk13 := keep hb7 kk9; have kk14 := keep hb7 kk10; have kk15 := keep hb7 kk11; have kk16 := keep hb7 kk12; clear kk9 kk10 kk11 kk12 rkk9 rkk10 rkk11 rkk12)
      go_wp2_with fail
      go_returns
      exact ⟨by simp, by (repeat' (first | (with_reducible exact Below.refl _ _) | (with_reducible refine Below.alloc ?_ ?_ _) | (with_reducible refine Below.drew ?_) | (with_reducible refine Below.setCell ?_ ?_ _) | (with_reducible refine Below.trans ?_ (Below.mono (by assumption) ?_)) | go_size))⟩
    · have d2 : (n == m) = false := by simpa using h2
      have : o = false := by rw [← hd]; exact decide_eq_false (by omega)
      subst this
      clear hd
      go_enter Try.func80, Try.ntmps80
      go_wp2_with fail
      (refine wp_name ?_; intro w6 hb6; have hz6 := hb6.size; (repeat (first | rw [World.size_alloc] at hz6 | rw [World.size_setCell] at hz6 | rw [World.size_drew] at hz6)); have pp := C2.K hb6 (b := w.heap.size) (x := _) (y := _) (by (repeat (first | ((with_reducible apply C2.mk) <;> (with_reducible assumption)) | (with_reducible apply C2.Z) | (with_reducible apply C2.O) | ((with_reducible apply C2.B); (focus (simp; done))) | (with_reducible apply C2.A) | (with_reducible apply C2.D) | ((with_reducible apply C2.S); focus ((repeat (first | rw [World.size_alloc] | rw [World.size_setCell] | rw [World.size_drew])); omega)) | ((with_reducible apply C2.K); (focus (with_reducible assumption)))))); obtain ⟨kk17, kk18⟩ := pp; have rkk17 := cell_regrown kk17; have rkk18 := cell_regrown kk18; have pp := C2.K hb6 (b := w.heap.size + 1) (x := _) (y := _) (by (repeat (first | ((with_reducible apply C2.mk) <;> (with_reducible assumption)) | (with_reducible apply C2.Z) | (with_reducible apply C2.O) | ((with_reducible apply C2.B); (focus (simp; done))) | (with_reducible apply C2.A) | (with_reducible apply C2.D) | ((with_reducible apply C2.S); focus ((repeat (first | rw [World.size_alloc] | rw [World.size_setCell] | rw [World.size_drew])); omega)) | ((with_reducible apply C2.K); (focus (with_reducible assumption)))))); obtain ⟨kk19, kk20⟩ := pp; have rkk19 := cell_regrown kk19; have rkk20 := cell_regrown kk20; (try clear kk13 kk14 kk15 kk16); refine wp_region_quiet_below (by kernel_rfl) (by kernel_rfl) ?_; (repeat (first | go_big_quiet_step ((first | (go_at_call 55; exact Calls.regrown_of (slNorm_v _ (by first | exact k1 | exact k2) (by first | exact hn | exact hm))))) | quiet_step ((first | (go_at_call 55; exact Calls.regrown_of (slNorm_v _ (by first | exact k1 | exact k2) (by first | exact hn | exact hm))))))); refine wpQuiet_nil ?_; intro w7 hw; have hb7 := below_of_regrown hw; clear hw; have hz7 := hb7.size; have kk21 := keep hb7 kk17; have kk22 := keep hb7 kk18; have kk23 := keep hb7 kk19; have kk24 := keep hb7 kk20; clear kk17 kk18 kk19 kk20 rkk17 rkk18 rkk19 rkk20)
      go_wp2_with fail
      go_returns
      exact ⟨rfl, by (repeat' (first | (with_reducible exact Below.refl _ _) | (with_reducible refine Below.alloc ?_ ?_ _) | (with_reducible refine Below.drew ?_) | (with_reducible refine Below.setCell ?_ ?_ _) | (with_reducible refine Below.trans ?_ (Below.mono (by assumption) ?_)) | go_size))⟩
end Go.Proofs.Ytahnkecdningnaa

namespace Go.Proofs.Ytahnkecdningnaa
open Go Go.RowKit
attribute [local go_sem] World.cell?_alloc_some cell?_alloc2_some cell?_alloc3_some cell?_alloc4_some frozen?_alloc_some frozen?_alloc2_some frozen?_alloc3_some World.cell?_setCell_far new_ne0 new_ne1 new_ne2 new_ne3 lt2 lt3 lt4 lt5 lt6 lt7 lt8 lt9
attribute [local go_sem ↓] eqG neG

theorem dv_rest {a b c d : Int} (h0 : 0 < c * c + d * d) (h : dvG (c, d) (a, b)) : rA a b c d = 0 ∧ rB a b c d = 0 := by
  obtain ⟨x, y, hx, hy⟩ := dvG_Dv.1 h
  dsimp only at hx hy
  have eA : qA a b c d = x := by
    have e : a * c + b * d = x * (c * c + d * d) := by rw [hx, hy]; grind
    unfold qA; rw [e]; exact nr_mul h0
  have eB : qB a b c d = y := by
    have e : b * c - a * d = y * (c * c + d * d) := by rw [hx, hy]; grind
    unfold qB; rw [e]; exact nr_mul h0
  unfold rA rB
  rw [eA, eB]; omega
theorem rest_dv {a b c d : Int} (h1 : rA a b c d = 0) (h2 : rB a b c d = 0) : dvG (c, d) (a, b) := by
  refine dvG_Dv.2 ⟨qA a b c d, qB a b c d, ?_, ?_⟩
  · unfold rA at h1; dsimp only; omega
  · unfold rB at h2; dsimp only; omega
theorem dv_gok {p z : Int × Int} (h : dvG p z) (k : gok z.1 z.2 = true) (hz : 1 ≤ nG z) : gok p.1 p.2 = true := by
  obtain ⟨y, e, hn, hp1, hy1, -, -⟩ := h.parts hz
  by_cases hy : nG y = 1
  · obtain ⟨a, b⟩ := p
    obtain ⟨c, d⟩ := z
    obtain ⟨u, v⟩ := y
    unfold mu at e
    have e1 := congrArg Prod.fst e
    have e2 := congrArg Prod.snd e
    dsimp only at e1 e2 k ⊢
    obtain ⟨k1, k2, k3, k4⟩ := gok_bd k
    rcases unit_is hy with ⟨rfl, rfl⟩ | ⟨rfl, rfl⟩ | ⟨rfl, rfl⟩ | ⟨rfl, rfl⟩
    all_goals (simp [gok, pok]; omega)
  · have := Int.mul_le_mul_of_nonneg_left (show (2 : Int) ≤ nG y by omega) (show 0 ≤ nG p by omega)
    have := nG_gok k
    exact gok_small (by omega)
/-- What the reference has found so far. -/
def Gd6 (a b p x y : Int) : Prop := (x = 0 ∧ y = 0) ∨ (1 ≤ x ∧ 1 ≤ y ∧ x * x + y * y = p ∧ dvG (x, y) (a, b))
/-- Up to here there is none. -/
def No6 (a b p i j : Int) : Prop := ∀ u v : Int, 1 ≤ u → 1 ≤ v → (u < i ∨ u = i ∧ v < j) → u * u + v * v = p → ¬ dvG (u, v) (a, b)
theorem No6.next {a b p i j : Int} (h : No6 a b p i j) (hn : i * i + j * j = p → ¬ dvG (i, j) (a, b)) : No6 a b p i (j + 1) := fun u v hu hv hlt e => by
  by_cases he : u = i ∧ v = j
  · obtain ⟨rfl, rfl⟩ := he; exact hn e
  · exact h u v hu hv (by omega) e
theorem No6.row {a b p i j : Int} (h : No6 a b p i j) (h0 : 0 ≤ j) (hj : p < i * i + j * j) : No6 a b p (i + 1) 1 := fun u v hu hv hlt e => by
  refine h u v hu hv ?_ e
  by_cases he : u = i
  · subst he
    right
    refine ⟨rfl, ?_⟩
    rcases Int.lt_or_le v j with h' | h'
    · exact h'
    · have := Int.mul_le_mul h' h' h0 (by omega)
      omega
  · left; omega
theorem No6.all {a b p i : Int} (h : No6 a b p i 1) (h0 : 0 ≤ i) (hi : p < i * i) : ∀ u v : Int, 1 ≤ u → 1 ≤ v → u * u + v * v = p → ¬ dvG (u, v) (a, b) := fun u v hu hv e => by
  refine h u v hu hv (.inl ?_) e
  rcases Int.lt_or_le u i with h' | h'
  · exact h'
  · have := Int.mul_le_mul h' h' h0 (by omega)
    have := Int.mul_nonneg (show 0 ≤ v by omega) (show 0 ≤ v by omega)
    omega

set_option maxRecDepth 100000 in
set_option maxHeartbeats 16000000 in
theorem l6Least (a b : Int) (w : World) (k1 : gok a b = true) (h2 : 2 ≤ nG (a, b)) : Calls Try.prog 79 #[.agg #[.int .i64 a, .int .i64 b]] w fun e w' => ∃ u v, e = .returned (.agg #[.int .i64 u, .int .i64 v]) ∧ PrQ (u, v) ∧ dvG (u, v) (a, b) ∧ gok u v = true ∧ Below w.heap.size w w' := by
  obtain ⟨N, hN⟩ : ∃ N, a * a + b * b = N := ⟨_, rfl⟩
  have hNG : nG (a, b) = N := hN
  have hN2 := nG_gok (z := (a, b)) k1
  rw [hNG] at h2 hN2
  go_enter Try.func79, Try.ntmps79
  go_wp2_with fail
  (refine (slNorm_v _ k1 hN).mono ?_; rintro e w1 ⟨rfl, hb1⟩; have hz1 := hb1.size; (repeat (first | rw [World.size_alloc] at hz1 | rw [World.size_setCell] at hz1 | rw [World.size_drew] at hz1)); have pp := T2.K hb1 (b := w.heap.size) (x := _) (y := _) (by (repeat (first | ((with_reducible apply T2.mk) <;> (with_reducible assumption)) | (with_reducible apply T2.Z) | (with_reducible apply T2.O) | ((with_reducible apply T2.B); (focus (simp; done))) | (with_reducible apply T2.A) | (with_reducible apply T2.D) | ((with_reducible apply T2.S); focus ((repeat (first | rw [World.size_alloc] | rw [World.size_setCell] | rw [World.size_drew])); omega)) | ((with_reducible apply T2.K); (focus (with_reducible assumption)))))); obtain ⟨kk1, kk2, fkk1, fkk2⟩ := pp; have pp := T2.K hb1 (b := w.heap.size + 1) (x := _) (y := _) (by (repeat (first | ((with_reducible apply T2.mk) <;> (with_reducible assumption)) | (with_reducible apply T2.Z) | (with_reducible apply T2.O) | ((with_reducible apply T2.B); (focus (simp; done))) | (with_reducible apply T2.A) | (with_reducible apply T2.D) | ((with_reducible apply T2.S); focus ((repeat (first | rw [World.size_alloc] | rw [World.size_setCell] | rw [World.size_drew])); omega)) | ((with_reducible apply T2.K); (focus (with_reducible assumption)))))); obtain ⟨kk3, kk4, fkk3, fkk4⟩ := pp)
  go_wp2_with fail
  go_loopw [4] (fun u wr => ∃ p : Nat, u = .int .i64 (p : Int) ∧ 2 ≤ p ∧ (p : Int) ≤ N ∧ (∀ k : Int, 2 ≤ k → k < p → N % k ≠ 0) ∧ w1 = wr) (fun u _ => 3000000 - (intOf u).toNat)
  case atStart => exact ⟨2, rfl, by omega, by omega, fun k _ _ => by omega, rfl⟩
  case round =>
    obtain ⟨p, rfl, hp2, hpN, hl, rfl⟩ := hrel
    have hp0 : ((p : Int) == 0) = false := by simp; omega
    have hx1 : 0 ≤ N % p := Int.emod_nonneg N (show (p : Int) ≠ 0 by omega)
    have hx2 : N % p < p := Int.emod_lt_of_pos N (show 0 < (p : Int) by omega)
    have hN0 : 0 ≤ N := by omega
    by_cases hm : N % p = 0
    · have hL : Lp N p := ⟨by omega, hm, hl⟩
      have hm1 : (N % p == 0) = true := by simpa using hm
      have hm2 : (N % p != 0) = false := by simpa using hm
      obtain ⟨g3, g4⟩ := lp_prime (a := a) (b := b) k1 (by rw [hN]; exact hL) (by rw [hN]; exact h2)
      have hwp := hL.prime
      clear hl hm
      by_cases h4 : (p : Int) % 4 = 3
      · have h4' : ((p : Int) % 4 == 3) = true := by simpa using h4
        obtain ⟨hp1000, hpq, hdv⟩ := g3 h4
        have kp : gok p 0 = true := by simp [gok, pok]; omega
        clear g3 g4
        go_wp2_with fail
        refine bodyPost_ret (v := .agg #[.int .i64 (p : Int), .int .i64 0]) (by simp [results, Try.results79, go_sem, *]) rfl ?_; exact ⟨_, _, rfl, hpq, hdv, kp, by (repeat' (first | (with_reducible exact Below.refl _ _) | (with_reducible refine Below.alloc ?_ ?_ _) | (with_reducible refine Below.drew ?_) | (with_reducible refine Below.setCell ?_ ?_ _) | (with_reducible refine Below.trans ?_ (Below.mono (by assumption) ?_)) | go_size))⟩
      · have h4' : ((p : Int) % 4 == 3) = false := by simpa using h4
        obtain ⟨u0, v0, hu0, hv0, he0, -, hd0⟩ := g4 h4
        have hno : ¬ ∀ u v : Int, 1 ≤ u → 1 ≤ v → u * u + v * v = p → ¬ dvG (u, v) (a, b) := fun h => h u0 v0 hu0 hv0 he0 hd0
        clear g3 g4 h4 hu0 hv0 he0 hd0 hL
        go_wp2_with fail
        go_loopw [6] (fun v wr => ∃ (i : Nat) (x y : Int), v = .int .i64 (i : Int) ∧ 1 ≤ i ∧ i ≤ 1415 ∧ Two wr w.heap.size a b ∧ Two wr (w.heap.size + 1) 0 0 ∧ Two wr w1.heap.size x y ∧ Gd6 a b p x y ∧ ((x = 0 ∧ y = 0) → No6 a b p i 1) ∧ Below w.heap.size w wr ∧ w1.heap.size < wr.heap.size) (fun v _ => 3000 - (intOf v).toNat)
        case atStart => exact ⟨1, 0, 0, rfl, by omega, by omega, (Two.of (by (repeat (first | ((with_reducible apply T2.mk) <;> (with_reducible assumption)) | (with_reducible apply T2.Z) | (with_reducible apply T2.O) | ((with_reducible apply T2.B); (focus (simp; done))) | (with_reducible apply T2.A) | (with_reducible apply T2.D) | ((with_reducible apply T2.S); focus ((repeat (first | rw [World.size_alloc] | rw [World.size_setCell] | rw [World.size_drew])); omega)) | ((with_reducible apply T2.K); (focus (with_reducible assumption))))))), (Two.of (by (repeat (first | ((with_reducible apply T2.mk) <;> (with_reducible assumption)) | (with_reducible apply T2.Z) | (with_reducible apply T2.O) | ((with_reducible apply T2.B); (focus (simp; done))) | (with_reducible apply T2.A) | (with_reducible apply T2.D) | ((with_reducible apply T2.S); focus ((repeat (first | rw [World.size_alloc] | rw [World.size_setCell] | rw [World.size_drew])); omega)) | ((with_reducible apply T2.K); (focus (with_reducible assumption))))))), (Two.of (by (repeat (first | ((with_reducible apply T2.mk) <;> (with_reducible assumption)) | (with_reducible apply T2.Z) | (with_reducible apply T2.O) | ((with_reducible apply T2.B); (focus (simp; done))) | (with_reducible apply T2.A) | (with_reducible apply T2.D) | ((with_reducible apply T2.S); focus ((repeat (first | rw [World.size_alloc] | rw [World.size_setCell] | rw [World.size_drew])); omega)) | ((with_reducible apply T2.K); (focus (with_reducible assumption))))))), .inl ⟨rfl, rfl⟩, fun _ u v hu hv hlt => (by omega), by (repeat' (first | (with_reducible exact Below.refl _ _) | (with_reducible refine Below.alloc ?_ ?_ _) | (with_reducible refine Below.drew ?_) | (with_reducible refine Below.setCell ?_ ?_ _) | (with_reducible refine Below.trans ?_ (Below.mono (by assumption) ?_)) | go_size)), by simp⟩
        case round =>
          have hpB : (p : Int) ≤ 2000000 := by omega
          clear hm1 hm2 hx1 hx2 hp0 hb1
          obtain ⟨i, x, y, rfl, hi1, hi2, tz, tr, tb, hg, hno6, hb, hlt⟩ := hrel
          have hii : ((i * i : Nat) : Int) = (i : Int) * i := by simp
          have hi3 : i * i ≤ 2002225 := Nat.mul_le_mul hi2 hi2
          by_cases hle : (i : Int) * i ≤ p
          · have hd : decide ((i : Int) * i ≤ p) = true := decide_eq_true hle
            have hi14 : i ≤ 1414 := by
              rcases Nat.lt_or_ge 1414 i with h | h
              · have := Nat.mul_le_mul h h; omega
              · exact h
            go_wp2_with fail
            go_loopw [7] (fun v wr => ∃ (j : Nat) (x y : Int), v = .int .i64 (j : Int) ∧ 1 ≤ j ∧ j ≤ 1415 ∧ Two wr w.heap.size a b ∧ Two wr (w.heap.size + 1) 0 0 ∧ Two wr w1.heap.size x y ∧ Gd6 a b p x y ∧ ((x = 0 ∧ y = 0) → No6 a b p i j) ∧ Below w.heap.size w wr ∧ w1.heap.size < wr.heap.size) (fun v _ => 3000 - (intOf v).toNat)
            case atStart => exact ⟨1, x, y, rfl, by omega, by omega, tz, tr, tb, hg, hno6, hb, hlt⟩
            case round =>
              clear tz tr tb hg hno6 hb hlt
              obtain ⟨j, x, y, rfl, hj1, hj2, ⟨z0, z1, z2, z3⟩, ⟨r0, r1, r2, r3⟩, ⟨b0, b1, b2, b3⟩, hg, hno6, hb, hlt⟩ := hrel
              have hjj : ((j * j : Nat) : Int) = (j : Int) * j := by simp
              have hj3 : j * j ≤ 2002225 := Nat.mul_le_mul hj2 hj2
              by_cases hle2 : (i : Int) * i + j * j ≤ p
              · have hd2 : decide ((i : Int) * i + j * j ≤ p) = true := decide_eq_true hle2
                have hj14 : j ≤ 1414 := by
                  rcases Nat.lt_or_ge 1414 j with h | h
                  · have := Nat.mul_le_mul h h; omega
                  · exact h
                have hi4 : 1 ≤ i * i := Nat.mul_le_mul hi1 hi1
                obtain ⟨e1, he1⟩ : ∃ e1, rA a b i j = e1 := ⟨_, rfl⟩
                obtain ⟨e2, he2⟩ : ∃ e2, rB a b i j = e2 := ⟨_, rfl⟩
                have n1 : (w1.heap.size = wr.heap.size) = False := by simp; omega
                have n2 : (wr.heap.size = w1.heap.size) = False := by simp; omega
                go_wp2_with fail
                (refine (l3Divided_w _ k1 (by omega) (by omega) (by omega) (by omega) (show (0 : Int) < (i : Int) * i + (j : Int) * j by omega) (by omega) he1 he2).mono ?_; rintro e w3 ⟨qx, qy, rfl, hb3⟩; have hz3 := hb3.size; (repeat (first | rw [World.size_alloc] at hz3 | rw [World.size_setCell] at hz3 | rw [World.size_drew] at hz3)); have pp := T2.K hb3 (b := w.heap.size) (x := _) (y := _) (by (repeat (first | ((with_reducible apply T2.mk) <;> (with_reducible assumption)) | (with_reducible apply T2.Z) | (with_reducible apply T2.O) | ((with_reducible apply T2.B); (focus (simp; done))) | (with_reducible apply T2.A) | (with_reducible apply T2.D) | ((with_reducible apply T2.S); focus ((repeat (first | rw [World.size_alloc] | rw [World.size_setCell] | rw [World.size_drew])); omega)) | ((with_reducible apply T2.K); (focus (with_reducible assumption)))))); obtain ⟨kk5, kk6, fkk5, fkk6⟩ := pp; have pp := T2.K hb3 (b := w.heap.size + 1) (x := _) (y := _) (by (repeat (first | ((with_reducible apply T2.mk) <;> (with_reducible assumption)) | (with_reducible apply T2.Z) | (with_reducible apply T2.O) | ((with_reducible apply T2.B); (focus (simp; done))) | (with_reducible apply T2.A) | (with_reducible apply T2.D) | ((with_reducible apply T2.S); focus ((repeat (first | rw [World.size_alloc] | rw [World.size_setCell] | rw [World.size_drew])); omega)) | ((with_reducible apply T2.K); (focus (with_reducible assumption)))))); obtain ⟨kk7, kk8, fkk7, fkk8⟩ := pp; have pp := T2.K hb3 (b := w1.heap.size) (x := _) (y := _) (by (repeat (first | ((with_reducible apply T2.mk) <;> (with_reducible assumption)) | (with_reducible apply T2.Z) | (with_reducible apply T2.O) | ((with_reducible apply T2.B); (focus (simp; done))) | (with_reducible apply T2.A) | (with_reducible apply T2.D) | ((with_reducible apply T2.S); focus ((repeat (first | rw [World.size_alloc] | rw [World.size_setCell] | rw [World.size_drew])); omega)) | ((with_reducible apply T2.K); (focus (with_reducible assumption)))))); obtain ⟨kk9, kk10, fkk9, fkk10⟩ := pp; have pp := C2.K hb3 (b := wr.heap.size) (x := _) (y := _) (by (repeat (first | ((with_reducible apply C2.mk) <;> (with_reducible assumption)) | (with_reducible apply C2.Z) | (with_reducible apply C2.O) | ((with_reducible apply C2.B); (focus (simp; done))) | (with_reducible apply C2.A) | (with_reducible apply C2.D) | ((with_reducible apply C2.S); focus ((repeat (first | rw [World.size_alloc] | rw [World.size_setCell] | rw [World.size_drew])); omega)) | ((with_reducible apply C2.K); (focus (with_reducible assumption)))))); obtain ⟨kk11, kk12⟩ := pp; (try clear kk1 kk2 fkk1 fkk2 kk3 kk4 fkk3 fkk4))
                have m1 : (w1.heap.size = w3.heap.size) = False := by simp; omega
                have m2 : (w1.heap.size = w3.heap.size + 1) = False := by simp; omega
                have m3 : (wr.heap.size = w3.heap.size) = False := by simp; omega
                have m4 : (wr.heap.size = w3.heap.size + 1) = False := by simp; omega
                have m5 : (w3.heap.size = w1.heap.size) = False := by simp; omega
                have m6 : (w3.heap.size + 1 = w1.heap.size) = False := by simp; omega
                clear z0 z1 z2 z3 r0 r1 r2 r3 b0 b1 b2 b3
                by_cases he : (i : Int) * i + j * j = p
                · have hE : ((i : Int) * i + j * j == p) = true := by rw [beq_iff_eq]; exact he
                  by_cases hr : e1 = 0 ∧ e2 = 0
                  · have hR : (e1 == 0 && e2 == 0) = true := by rw [hr.1, hr.2]; rfl
                    have hdv := rest_dv (a := a) (b := b) (c := i) (d := j) (by rw [he1]; exact hr.1) (by rw [he2]; exact hr.2)
                    by_cases hz : x = 0 ∧ y = 0
                    · have hZ : (x == 0 && y == 0) = true := by rw [hz.1, hz.2]; rfl
                      have hg' : Gd6 a b p i j := .inr ⟨by omega, by omega, he, hdv⟩
                      clear hr hz hg hno6 he1 he2 hdv he
                      go_wp2_with fail
                      go_roundw
                      case rel => exact ⟨j + 1, i, j, by simp, by omega, by omega, (Two.of (by (repeat (first | ((with_reducible apply T2.mk) <;> (with_reducible assumption)) | (with_reducible apply T2.Z) | (with_reducible apply T2.O) | ((with_reducible apply T2.B); (focus (simp; done))) | (with_reducible apply T2.A) | (with_reducible apply T2.D) | ((with_reducible apply T2.S); focus ((repeat (first | rw [World.size_alloc] | rw [World.size_setCell] | rw [World.size_drew])); omega)) | ((with_reducible apply T2.K); (focus (with_reducible assumption))))))), (Two.of (by (repeat (first | ((with_reducible apply T2.mk) <;> (with_reducible assumption)) | (with_reducible apply T2.Z) | (with_reducible apply T2.O) | ((with_reducible apply T2.B); (focus (simp; done))) | (with_reducible apply T2.A) | (with_reducible apply T2.D) | ((with_reducible apply T2.S); focus ((repeat (first | rw [World.size_alloc] | rw [World.size_setCell] | rw [World.size_drew])); omega)) | ((with_reducible apply T2.K); (focus (with_reducible assumption))))))), (Two.of (by (repeat (first | ((with_reducible apply T2.mk) <;> (with_reducible assumption)) | (with_reducible apply T2.Z) | (with_reducible apply T2.O) | ((with_reducible apply T2.B); (focus (simp; done))) | (with_reducible apply T2.A) | (with_reducible apply T2.D) | ((with_reducible apply T2.S); focus ((repeat (first | rw [World.size_alloc] | rw [World.size_setCell] | rw [World.size_drew])); omega)) | ((with_reducible apply T2.K); (focus (with_reducible assumption))))))), hg', fun h => (by omega), by (repeat' (first | (with_reducible exact Below.refl _ _) | (with_reducible refine Below.alloc ?_ ?_ _) | (with_reducible refine Below.drew ?_) | (with_reducible refine Below.setCell ?_ ?_ _) | (with_reducible refine Below.trans ?_ (Below.mono (by assumption) ?_)) | go_size)), by simp; omega⟩
                      case measure => simp [intOf]; omega
                    · have hZ : (x == 0 && y == 0) = false := by
                        rw [Bool.and_eq_false_iff, beq_eq_false_iff_ne, beq_eq_false_iff_ne]; omega
                      have hmiss : (x = 0 ∧ y = 0) → No6 a b p i ((j : Int) + 1) := fun h => absurd h hz
                      clear hz hno6 he1 he2 hdv he hr
                      go_wp2_with fail
                      go_roundw
                      case rel => exact ⟨j + 1, x, y, by simp, by omega, by omega, (Two.of (by (repeat (first | ((with_reducible apply T2.mk) <;> (with_reducible assumption)) | (with_reducible apply T2.Z) | (with_reducible apply T2.O) | ((with_reducible apply T2.B); (focus (simp; done))) | (with_reducible apply T2.A) | (with_reducible apply T2.D) | ((with_reducible apply T2.S); focus ((repeat (first | rw [World.size_alloc] | rw [World.size_setCell] | rw [World.size_drew])); omega)) | ((with_reducible apply T2.K); (focus (with_reducible assumption))))))), (Two.of (by (repeat (first | ((with_reducible apply T2.mk) <;> (with_reducible assumption)) | (with_reducible apply T2.Z) | (with_reducible apply T2.O) | ((with_reducible apply T2.B); (focus (simp; done))) | (with_reducible apply T2.A) | (with_reducible apply T2.D) | ((with_reducible apply T2.S); focus ((repeat (first | rw [World.size_alloc] | rw [World.size_setCell] | rw [World.size_drew])); omega)) | ((with_reducible apply T2.K); (focus (with_reducible assumption))))))), (Two.of (by (repeat (first | ((with_reducible apply T2.mk) <;> (with_reducible assumption)) | (with_reducible apply T2.Z) | (with_reducible apply T2.O) | ((with_reducible apply T2.B); (focus (simp; done))) | (with_reducible apply T2.A) | (with_reducible apply T2.D) | ((with_reducible apply T2.S); focus ((repeat (first | rw [World.size_alloc] | rw [World.size_setCell] | rw [World.size_drew])); omega)) | ((with_reducible apply T2.K); (focus (with_reducible assumption))))))), hg, by simpa using hmiss, by (repeat' (first | (with_reducible exact Below.refl _ _) | (with_reducible refine Below.alloc ?_ ?_ _) | (with_reducible refine Below.drew ?_) | (with_reducible refine Below.setCell ?_ ?_ _) | (with_reducible refine Below.trans ?_ (Below.mono (by assumption) ?_)) | go_size)), by simp; omega⟩
                      case measure => simp [intOf]; omega
                  · have hR : (e1 == 0 && e2 == 0) = false := by
                      rw [Bool.and_eq_false_iff, beq_eq_false_iff_ne, beq_eq_false_iff_ne]; omega
                    have hmiss : (x = 0 ∧ y = 0) → No6 a b p i ((j : Int) + 1) := fun h => (hno6 h).next (fun _ hd => hr (by have := dv_rest (by omega) hd; rw [he1, he2] at this; exact this))
                    clear hno6 he1 he2 he hr
                    go_wp2_with fail
                    go_roundw
                    case rel => exact ⟨j + 1, x, y, by simp, by omega, by omega, (Two.of (by (repeat (first | ((with_reducible apply T2.mk) <;> (with_reducible assumption)) | (with_reducible apply T2.Z) | (with_reducible apply T2.O) | ((with_reducible apply T2.B); (focus (simp; done))) | (with_reducible apply T2.A) | (with_reducible apply T2.D) | ((with_reducible apply T2.S); focus ((repeat (first | rw [World.size_alloc] | rw [World.size_setCell] | rw [World.size_drew])); omega)) | ((with_reducible apply T2.K); (focus (with_reducible assumption))))))), (Two.of (by (repeat (first | ((with_reducible apply T2.mk) <;> (with_reducible assumption)) | (with_reducible apply T2.Z) | (with_reducible apply T2.O) | ((with_reducible apply T2.B); (focus (simp; done))) | (with_reducible apply T2.A) | (with_reducible apply T2.D) | ((with_reducible apply T2.S); focus ((repeat (first | rw [World.size_alloc] | rw [World.size_setCell] | rw [World.size_drew])); omega)) | ((with_reducible apply T2.K); (focus (with_reducible assumption))))))), (Two.of (by (repeat (first | ((with_reducible apply T2.mk) <;> (with_reducible assumption)) | (with_reducible apply T2.Z) | (with_reducible apply T2.O) | ((with_reducible apply T2.B); (focus (simp; done))) | (with_reducible apply T2.A) | (with_reducible apply T2.D) | ((with_reducible apply T2.S); focus ((repeat (first | rw [World.size_alloc] | rw [World.size_setCell] | rw [World.size_drew])); omega)) | ((with_reducible apply T2.K); (focus (with_reducible assumption))))))), hg, by simpa using hmiss, by (repeat' (first | (with_reducible exact Below.refl _ _) | (with_reducible refine Below.alloc ?_ ?_ _) | (with_reducible refine Below.drew ?_) | (with_reducible refine Below.setCell ?_ ?_ _) | (with_reducible refine Below.trans ?_ (Below.mono (by assumption) ?_)) | go_size)), by simp; omega⟩
                    case measure => simp [intOf]; omega
                · have hE : ((i : Int) * i + j * j == p) = false := by rw [beq_eq_false_iff_ne]; exact he
                  have hmiss : (x = 0 ∧ y = 0) → No6 a b p i ((j : Int) + 1) := fun h => (hno6 h).next (fun e => absurd e he)
                  clear hno6 he1 he2 he
                  go_wp2_with fail
                  go_roundw
                  case rel => exact ⟨j + 1, x, y, by simp, by omega, by omega, (Two.of (by (repeat (first | ((with_reducible apply T2.mk) <;> (with_reducible assumption)) | (with_reducible apply T2.Z) | (with_reducible apply T2.O) | ((with_reducible apply T2.B); (focus (simp; done))) | (with_reducible apply T2.A) | (with_reducible apply T2.D) | ((with_reducible apply T2.S); focus ((repeat (first | rw [World.size_alloc] | rw [World.size_setCell] | rw [World.size_drew])); omega)) | ((with_reducible apply T2.K); (focus (with_reducible assumption))))))), (Two.of (by (repeat (first | ((with_reducible apply T2.mk) <;> (with_reducible assumption)) | (with_reducible apply T2.Z) | (with_reducible apply T2.O) | ((with_reducible apply T2.B); (focus (simp; done))) | (with_reducible apply T2.A) | (with_reducible apply T2.D) | ((with_reducible apply T2.S); focus ((repeat (first | rw [World.size_alloc] | rw [World.size_setCell] | rw [World.size_drew])); omega)) | ((with_reducible apply T2.K); (focus (with_reducible assumption))))))), (Two.of (by (repeat (first | ((with_reducible apply T2.mk) <;> (with_reducible assumption)) | (with_reducible apply T2.Z) | (with_reducible apply T2.O) | ((with_reducible apply T2.B); (focus (simp; done))) | (with_reducible apply T2.A) | (with_reducible apply T2.D) | ((with_reducible apply T2.S); focus ((repeat (first | rw [World.size_alloc] | rw [World.size_setCell] | rw [World.size_drew])); omega)) | ((with_reducible apply T2.K); (focus (with_reducible assumption))))))), hg, by simpa using hmiss, by (repeat' (first | (with_reducible exact Below.refl _ _) | (with_reducible refine Below.alloc ?_ ?_ _) | (with_reducible refine Below.drew ?_) | (with_reducible refine Below.setCell ?_ ?_ _) | (with_reducible refine Below.trans ?_ (Below.mono (by assumption) ?_)) | go_size)), by simp; omega⟩
                  case measure => simp [intOf]; omega
              · have hd2 : decide ((i : Int) * i + j * j ≤ p) = false := decide_eq_false hle2
                have hrow : (x = 0 ∧ y = 0) → No6 a b p ((i : Int) + 1) 1 := fun h => (hno6 h).row (by omega) (by omega)
                clear hno6
                go_wp2_with fail
                go_roundw
                case rel => exact ⟨i + 1, x, y, by simp, by omega, by omega, ⟨z0, z1, z2, z3⟩, ⟨r0, r1, r2, r3⟩, ⟨b0, b1, b2, b3⟩, hg, by simpa using hrow, hb, hlt⟩
                case measure => simp [intOf]; omega
          · have hd : decide ((i : Int) * i ≤ p) = false := decide_eq_false hle
            have hxy : ¬ (x = 0 ∧ y = 0) := fun h => hno (fun u v hu hv e => (hno6 h).all (by omega) (by omega) u v hu hv e)
            obtain ⟨hx1, hy1, hxy2, hdv⟩ : 1 ≤ x ∧ 1 ≤ y ∧ x * x + y * y = p ∧ dvG (x, y) (a, b) := by
              rcases hg with h | h
              · exact absurd h hxy
              · exact h
            have kxy := dv_gok (p := (x, y)) (z := (a, b)) hdv k1 (by rw [hNG]; omega)
            have hpq : PrQ (x, y) := ⟨prO_norm kxy (by rw [hxy2]; exact hwp), by show 0 < x; omega, by show 0 ≤ y; omega⟩
            obtain ⟨b0, b1, b2, b3⟩ := tb
            obtain ⟨r0, r1, r2, r3⟩ := tr
            clear hno6 hg hno
            go_wp2_with fail
            refine bodyPost_ret (v := .agg #[.int .i64 x, .int .i64 y]) (by simp [results, Try.results79, go_sem, *]) rfl ?_; exact ⟨x, y, rfl, hpq, hdv, kxy, by (repeat' (first | (with_reducible exact Below.refl _ _) | (with_reducible refine Below.alloc ?_ ?_ _) | (with_reducible refine Below.drew ?_) | (with_reducible refine Below.setCell ?_ ?_ _) | (with_reducible refine Below.trans ?_ (Below.mono (by assumption) ?_)) | go_size))⟩
    · have hm1 : (N % p == 0) = false := by simpa using hm
      have hm2 : (N % p != 0) = true := by simpa using hm
      have hpl : (p : Int) < N := by
        rcases Int.lt_or_le (p : Int) N with h | h
        · exact h
        · have : (p : Int) = N := by omega
          rw [this, Int.emod_self] at hm; exact absurd rfl hm
      have hl' := Lp.step hl hm
      have hpp := mul_bd4 (x := (p : Int) + 1) (c := (p : Int) + 1) (k := 2000000) (m := 2000000) (by omega) (by omega) (by omega) (by omega)
      obtain ⟨hpp1, hpp2⟩ := hpp
      have hpp0 : 0 ≤ ((p : Int) + 1) * ((p : Int) + 1) := Int.mul_nonneg (by omega) (by omega)
      by_cases hj : N < ((p : Int) + 1) * ((p : Int) + 1)
      · have hd : decide (N < ((p : Int) + 1) * ((p : Int) + 1)) = true := decide_eq_true hj
        have hL := (Lp.jump hl' hj h2 (by omega)).least
        go_wp2_with fail
        go_roundw
        case rel => exact ⟨N.toNat, by simp; omega, by omega, by omega, by rw [Int.toNat_of_nonneg hN0]; exact hL, by simp⟩
        case measure => simp [intOf]; omega
      · have hd : decide (N < ((p : Int) + 1) * ((p : Int) + 1)) = false := decide_eq_false hj
        go_wp2_with fail
        go_roundw
        case rel => exact ⟨p + 1, by simp, by omega, by omega, by simpa using hl', by simp⟩
        case measure => simp [intOf]; omega
end Go.Proofs.Ytahnkecdningnaa
