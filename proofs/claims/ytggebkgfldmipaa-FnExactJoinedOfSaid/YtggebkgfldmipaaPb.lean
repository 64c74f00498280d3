import Derived.Test.YtggebkgfldmipaaPa
import Derived.Test.YtggebkgfldmipaaL
import Derived.Deep.RegionHeld3
import Derived.Deep.DeepCutAuto
import Derived.BigRegion
namespace Go.Proofs.Ytggebkgfldmipaa
open Go Go.RowKit
attribute [local go_sem] World.cell?_alloc_some cell?_alloc2_some cell?_alloc3_some cell?_alloc4_some frozen?_alloc_some frozen?_alloc2_some frozen?_alloc3_some World.cell?_setCell_far new_ne0 new_ne1 new_ne2 new_ne3 lt2 lt3 lt4 lt5 lt6 lt7 lt8 lt9

theorem md_is {e f : Int} (h : mdO e f = true) : gok e f = true ∧ 1 ≤ e * e + f * f ∧ e * e + f * f ≤ 100 := by
  cases k : gok e f
  · have hn := nrm_f k
    unfold mdO at h
    rw [hn] at h
    simp at h
  · have hn := nrm_t k
    unfold mdO at h
    rw [hn] at h
    simp only [Bool.and_eq_true, decide_eq_true_eq] at h
    exact ⟨rfl, h.1, h.2⟩
theorem md_dv {a b e f : Int} (k : gok a b = true) (h : mdO e f = true) : dvO a b e f = true := by
  obtain ⟨k2, h1, -⟩ := md_is h
  exact dv_mk k k2 (by rintro ⟨rfl, rfl⟩; simp at h1)
theorem rest_bd {a b e f : Int} (h : mdO e f = true) : -8 ≤ rA a b e f ∧ rA a b e f ≤ 8 ∧ -8 ≤ rB a b e f ∧ rB a b e f ≤ 8 := by
  obtain ⟨-, h1, h2⟩ := md_is h
  have hh := rest_half (a := a) (b := b) (show 0 < e * e + f * f by omega)
  generalize rA a b e f = x at *
  generalize rB a b e f = y at *
  have n1 := sq_nn x
  have n2 := sq_nn y
  have b1 := sq_le (x := x) (k := 8) (by omega) (by omega)
  have b2 := sq_le (x := y) (k := 8) (by omega) (by omega)
  omega
theorem gok_sml {x y : Int} (h1 : -1000 ≤ x) (h2 : x ≤ 1000) (h3 : -1000 ≤ y) (h4 : y ≤ 1000) : gok x y = true := by
  simp [gok, pok]; omega
theorem mul_bd8 {a b : Int} (h1 : -8 ≤ a) (h2 : a ≤ 8) (h3 : -8 ≤ b) (h4 : b ≤ 8) : -64 ≤ a * b ∧ a * b ≤ 64 := by
  have e1 : 0 ≤ (8 - a) * (8 - b) := Int.mul_nonneg (by omega) (by omega)
  have e2 : 0 ≤ (8 + a) * (8 + b) := Int.mul_nonneg (by omega) (by omega)
  have e3 : 0 ≤ (8 - a) * (8 + b) := Int.mul_nonneg (by omega) (by omega)
  have e4 : 0 ≤ (8 + a) * (8 - b) := Int.mul_nonneg (by omega) (by omega)
  simp only [Int.sub_mul, Int.mul_sub, Int.add_mul, Int.mul_add] at e1 e2 e3 e4
  omega
/-- Three numbers of which the third one is a modulus. -/
def adO (a b c d e f : Int) : Bool := gok a b && gok c d && mdO e f
def adA (a b c d e f : Int) : Int := if adO a b c d e f then rA (rA a b e f + rA c d e f) (rB a b e f + rB c d e f) e f else 0
def adB (a b c d e f : Int) : Int := if adO a b c d e f then rB (rA a b e f + rA c d e f) (rB a b e f + rB c d e f) e f else 0
def muA (a b c d e f : Int) : Int := if adO a b c d e f then rA (rA a b e f * rA c d e f - rB a b e f * rB c d e f) (rA a b e f * rB c d e f + rB a b e f * rA c d e f) e f else 0
def muB (a b c d e f : Int) : Int := if adO a b c d e f then rB (rA a b e f * rA c d e f - rB a b e f * rB c d e f) (rA a b e f * rB c d e f + rB a b e f * rA c d e f) e f else 0
def AdIs (a b c d e f : Int) (o : Bool) (x y : Int) : Prop := adO a b c d e f = o ∧ adA a b c d e f = x ∧ adB a b c d e f = y
def MuIs (a b c d e f : Int) (o : Bool) (x y : Int) : Prop := adO a b c d e f = o ∧ muA a b c d e f = x ∧ muB a b c d e f = y
theorem ad_is (a b c d e f : Int) : ∃ o x y, AdIs a b c d e f o x y := ⟨_, _, _, rfl, rfl, rfl⟩
theorem mu_is (a b c d e f : Int) : ∃ o x y, MuIs a b c d e f o x y := ⟨_, _, _, rfl, rfl, rfl⟩
theorem ad_f {a b c d e f : Int} (h : adO a b c d e f = false) : adA a b c d e f = 0 ∧ adB a b c d e f = 0 ∧ muA a b c d e f = 0 ∧ muB a b c d e f = 0 := by
  unfold adA adB muA muB; rw [h]; simp
theorem ad_ok {a b c d e f : Int} (h : adO a b c d e f = true) : gok a b = true ∧ gok c d = true ∧ mdO e f = true := by
  unfold adO at h; simp only [Bool.and_eq_true] at h; exact ⟨h.1.1, h.1.2, h.2⟩
/-- What is reckoned on the way to a sum, to a product of rests. -/
structure AdW (a b c d e f x y p1 p2 q1 q2 s1 s2 : Int) : Prop where
  h1 : dvO a b e f = true
  h2 : dvO c d e f = true
  h3 : dvO s1 s2 e f = true
  e1 : rA a b e f = p1
  e2 : rB a b e f = p2
  e3 : rA c d e f = q1
  e4 : rB c d e f = q2
  e5 : rA s1 s2 e f = x
  e6 : rB s1 s2 e f = y
  b : (-8 ≤ p1 ∧ p1 ≤ 8) ∧ (-8 ≤ p2 ∧ p2 ≤ 8) ∧ (-8 ≤ q1 ∧ q1 ≤ 8) ∧ (-8 ≤ q2 ∧ q2 ≤ 8)
theorem ad_w {a b c d e f x y : Int} (h : AdIs a b c d e f true x y) : ∃ p1 p2 q1 q2 s1 s2, AdW a b c d e f x y p1 p2 q1 q2 s1 s2 ∧ p1 + q1 = s1 ∧ p2 + q2 = s2 := by
  obtain ⟨h0, hx, hy⟩ := h
  obtain ⟨k1, k2, k3⟩ := ad_ok h0
  obtain ⟨b1, b2, b3, b4⟩ := rest_bd (a := a) (b := b) k3
  obtain ⟨b5, b6, b7, b8⟩ := rest_bd (a := c) (b := d) k3
  unfold adA at hx
  unfold adB at hy
  rw [h0, if_pos rfl] at hx hy
  exact ⟨_, _, _, _, _, _, ⟨md_dv k1 k3, md_dv k2 k3, md_dv (gok_sml (by omega) (by omega) (by omega) (by omega)) k3, rfl, rfl, rfl, rfl, hx, hy, ⟨b1, b2⟩, ⟨b3, b4⟩, ⟨b5, b6⟩, b7, b8⟩, rfl, rfl⟩
theorem mu_w {a b c d e f x y : Int} (h : MuIs a b c d e f true x y) : ∃ p1 p2 q1 q2 s1 s2, AdW a b c d e f x y p1 p2 q1 q2 s1 s2 ∧ p1 * q1 - p2 * q2 = s1 ∧ p1 * q2 + p2 * q1 = s2 := by
  obtain ⟨h0, hx, hy⟩ := h
  obtain ⟨k1, k2, k3⟩ := ad_ok h0
  obtain ⟨b1, b2, b3, b4⟩ := rest_bd (a := a) (b := b) k3
  obtain ⟨b5, b6, b7, b8⟩ := rest_bd (a := c) (b := d) k3
  have m1 := mul_bd8 b1 b2 b5 b6
  have m2 := mul_bd8 b3 b4 b7 b8
  have m3 := mul_bd8 b1 b2 b7 b8
  have m4 := mul_bd8 b3 b4 b5 b6
  unfold muA at hx
  unfold muB at hy
  rw [h0, if_pos rfl] at hx hy
  exact ⟨_, _, _, _, _, _, ⟨md_dv k1 k3, md_dv k2 k3, md_dv (gok_sml (by omega) (by omega) (by omega) (by omega)) k3, rfl, rfl, rfl, rfl, hx, hy, ⟨b1, b2⟩, ⟨b3, b4⟩, ⟨b5, b6⟩, b7, b8⟩, rfl, rfl⟩
end Go.Proofs.Ytggebkgfldmipaa

namespace Go.Proofs.Ytggebkgfldmipaa
open Go Go.RowKit
attribute [local go_sem] World.cell?_alloc_some cell?_alloc2_some cell?_alloc3_some cell?_alloc4_some frozen?_alloc_some frozen?_alloc2_some frozen?_alloc3_some World.cell?_setCell_far new_ne0 new_ne1 new_ne2 new_ne3 lt2 lt3 lt4 lt5 lt6 lt7 lt8 lt9
attribute [local go_sem ↓] eqG neG
attribute [local go_sem] cell?_alloc_lt frozen?_alloc_lt lt10

theorem igRest_v {a b c d x y : Int} (w : World) (h : dvO a b c d = true) (hx : rA a b c d = x) (hy : rB a b c d = y) : Calls Try.prog 68 #[.agg #[.int .i64 c, .int .i64 d], .agg #[.int .i64 a, .int .i64 b]] w fun e w' => e = .returned (.agg #[.int .i64 x, .int .i64 y]) ∧ Below w.heap.size w w' := by
  obtain ⟨q1, g1⟩ : ∃ q, qA a b c d = q := ⟨_, rfl⟩
  obtain ⟨q2, g2⟩ : ∃ q, qB a b c d = q := ⟨_, rfl⟩
  have hd := igDivided a b c d
  rw [hx, hy, g1, g2] at hd
  clear hx hy g1 g2
  go_enter Try.func68, Try.ntmps68
  go_wp2_with fail
  (refine (hd _ h).mono ?_; rintro e w1 ⟨rfl, hb1⟩; have hz1 := hb1.size; (repeat (first | rw [World.size_alloc] at hz1 | rw [World.size_setCell] at hz1 | rw [World.size_drew] at hz1)); have pp := T2.K hb1 (b := w.heap.size + 1 + 1) (x := _) (y := _) (t2A); obtain ⟨kk1, kk2, fkk1, fkk2⟩ := pp)
  clear h hd
  go_wp2_with fail
  refine bodyPost_ret (v := .agg #[.int .i64 x, .int .i64 y]) (by simp [results, Try.results68, go_sem, *]) rfl ?_; exact ⟨rfl, blA⟩
theorem l3Divd_v {a b c d q1 q2 x y : Int} (w : World) (h : dvO a b c d = true) (g1 : qA a b c d = q1) (g2 : qB a b c d = q2) (hx : rA a b c d = x) (hy : rB a b c d = y) : Calls Try.prog 51 #[.agg #[.int .i64 a, .int .i64 b], .agg #[.int .i64 c, .int .i64 d]] w fun e w' => e = .returned (.tuple #[.agg #[.int .i64 q1, .int .i64 q2], .agg #[.int .i64 x, .int .i64 y]]) ∧ Below w.heap.size w w' := by
  subst g1 g2 hx hy; exact l3Divided a b c d w h

set_option maxHeartbeats 4000000 in
theorem igsum_v {a b c d e f x y : Int} (w : World) (h : AdIs a b c d e f true x y) : Calls Try.prog 55 #[.agg #[.int .i64 e, .int .i64 f], .agg #[.int .i64 a, .int .i64 b], .agg #[.int .i64 c, .int .i64 d]] w fun e w' => e = .returned (.agg #[.int .i64 x, .int .i64 y]) ∧ Below w.heap.size w w' := by
  obtain ⟨p1, p2, q1, q2, s1, s2, ⟨h1, h2, h3, e1, e2, e3, e4, e5, e6, ⟨b1, b2⟩, ⟨b3, b4⟩, ⟨b5, b6⟩, b7, b8⟩, f1, f2⟩ := ad_w h
  clear h
  go_enter Try.func55, Try.ntmps55
  go_upto_region 1 with fail
  refine wp_name ?_
  intro w0 hb0
  (have hz0 := hb0.size; (repeat (first | rw [World.size_alloc] at hz0 | rw [World.size_setCell] at hz0 | rw [World.size_drew] at hz0)); have pp := C2.K hb0 (b := w.heap.size) (x := _) (y := _) (c2A); obtain ⟨kk1, kk2⟩ := pp; have pp := C2.K hb0 (b := w.heap.size + 1) (x := _) (y := _) (c2A); obtain ⟨kk3, kk4⟩ := pp; have pp := C2.K hb0 (b := w.heap.size + 1 + 1) (x := _) (y := _) (c2A); obtain ⟨kk5, kk6⟩ := pp; have pp := T2.K hb0 (b := w.heap.size + 1 + 1 + 1) (x := _) (y := _) (t2A); obtain ⟨kk7, kk8, fkk7, fkk8⟩ := pp)
  (go_region_held3 (fun w' => w'.cell? ⟨w.heap.size, 0, none⟩ = some (.int .i64 (e)) ∧ w'.cell? ⟨w.heap.size, 1, none⟩ = some (.int .i64 (f)) ∧ w'.cell? ⟨w.heap.size + 1, 0, none⟩ = some (.int .i64 (a)) ∧ w'.cell? ⟨w.heap.size + 1, 1, none⟩ = some (.int .i64 (b)) ∧ w'.cell? ⟨w.heap.size + 1 + 1, 0, none⟩ = some (.int .i64 (c)) ∧ w'.cell? ⟨w.heap.size + 1 + 1, 1, none⟩ = some (.int .i64 (d))) (first | (go_keep; done) | ((try dsimp only); refine ⟨?_, ?_, ?_, ?_, ?_, ?_⟩ <;> exact kcA)) (first | (go_at_call 68; obtain ⟨q0, q1, q2, q3, q4, q5⟩ := ‹_ ∧ _ ∧ _ ∧ _ ∧ _ ∧ _›; refine (igRest_v _ (by first | exact h1 | exact h2 | exact h3) (by first | exact e1 | exact e3 | exact e5) (by first | exact e2 | exact e4 | exact e6)).mono ?_; rintro e w1 ⟨rfl, hb1⟩; have hz1 := hb1.size; (repeat (first | rw [World.size_alloc] at hz1 | rw [World.size_setCell] at hz1 | rw [World.size_drew] at hz1)); have kk9 := keep hb1 q0; have kk10 := keep hb1 q1; have kk11 := keep hb1 q2; have kk12 := keep hb1 q3; have kk13 := keep hb1 q4; have kk14 := keep hb1 q5; obtain ⟨hc1, hf1⟩ := bcell hb1; have pp := T2.K hb1 (b := w.heap.size + 1 + 1 + 1) (x := _) (y := _) (t2A); obtain ⟨kk15, kk16, fkk15, fkk16⟩ := pp; clear q0 q1 q2 q3 q4 q5) | (go_at_call 71; obtain ⟨q0, q1, q2, q3, q4, q5⟩ := ‹_ ∧ _ ∧ _ ∧ _ ∧ _ ∧ _›; refine (igPlus_v _ (by omega) (by omega) (by omega) (by omega) (by omega) (by omega) (by omega) (by omega) f1 f2).mono ?_; rintro e w2 ⟨rfl, hb2⟩; have hz2 := hb2.size; (repeat (first | rw [World.size_alloc] at hz2 | rw [World.size_setCell] at hz2 | rw [World.size_drew] at hz2)); have kk17 := keep hb2 q0; have kk18 := keep hb2 q1; have kk19 := keep hb2 q2; have kk20 := keep hb2 q3; have kk21 := keep hb2 q4; have kk22 := keep hb2 q5; obtain ⟨hc2, hf2⟩ := bcell hb2; have pp := T2.K hb2 (b := w.heap.size + 1 + 1 + 1) (x := _) (y := _) (t2A); obtain ⟨kk23, kk24, fkk23, fkk24⟩ := pp; clear q0 q1 q2 q3 q4 q5)); (try clear kk1 kk2 kk3 kk4 kk5 kk6 kk7 kk8 fkk7 fkk8))
  all_goals go_wp2_with fail
  all_goals refine bodyPost_ret (v := .agg #[.int .i64 x, .int .i64 y]) (by simp [results, Try.results55, go_sem, *]) rfl ?_; exact ⟨rfl, blA⟩

theorem iBoth_sum {a b c d e f x y : Int} {o : Bool} (w : World) (h : AdIs a b c d e f o x y) : Calls Try.prog 52 #[.agg #[.int .i64 a, .int .i64 b], .agg #[.int .i64 c, .int .i64 d], .agg #[.int .i64 e, .int .i64 f], .func (.func 55) #[] #[]] w fun e w' => e = .returned (.tuple #[.agg #[.int .i64 x, .int .i64 y], .bool o]) ∧ Below w.heap.size w w' := by
  cases k1 : gok a b
  · have hz : adO a b c d e f = false := by simp [adO, k1]
    obtain ⟨hx, hy, -, -⟩ := ad_f hz
    obtain ⟨rfl, rfl, rfl⟩ := h
    rw [hz, hx, hy]
    clear hz hx hy
    go_enter Try.func52, Try.ntmps52
    go_wp2_with fail
    (refine (iGaussOk _ _ _).mono ?_; rintro e w1 ⟨rfl, hb1⟩; have hz1 := hb1.size; (repeat (first | rw [World.size_alloc] at hz1 | rw [World.size_setCell] at hz1 | rw [World.size_drew] at hz1)); have pp := C2.K hb1 (b := w.heap.size) (x := _) (y := _) (c2A); obtain ⟨kk1, kk2⟩ := pp; have pp := C2.K hb1 (b := w.heap.size + 1) (x := _) (y := _) (c2A); obtain ⟨kk3, kk4⟩ := pp; have pp := C2.K hb1 (b := w.heap.size + 1 + 1) (x := _) (y := _) (c2A); obtain ⟨kk5, kk6⟩ := pp; have pp := T2.K hb1 (b := w.heap.size + 1 + 1 + 1) (x := _) (y := _) (t2A); obtain ⟨kk7, kk8, fkk7, fkk8⟩ := pp)
    go_wp2_with fail
    refine bodyPost_ret (v := .tuple #[.agg #[.int .i64 0, .int .i64 0], .bool false]) (by simp [results, Try.results52, go_sem, *]) rfl ?_; exact ⟨rfl, blA⟩
  cases k2 : gok c d
  · have hz : adO a b c d e f = false := by simp [adO, k2]
    obtain ⟨hx, hy, -, -⟩ := ad_f hz
    obtain ⟨rfl, rfl, rfl⟩ := h
    rw [hz, hx, hy]
    clear hz hx hy
    go_enter Try.func52, Try.ntmps52
    go_wp2_with fail
    (refine (iGaussOk _ _ _).mono ?_; rintro e w1 ⟨rfl, hb1⟩; have hz1 := hb1.size; (repeat (first | rw [World.size_alloc] at hz1 | rw [World.size_setCell] at hz1 | rw [World.size_drew] at hz1)); have pp := C2.K hb1 (b := w.heap.size) (x := _) (y := _) (c2A); obtain ⟨kk9, kk10⟩ := pp; have pp := C2.K hb1 (b := w.heap.size + 1) (x := _) (y := _) (c2A); obtain ⟨kk11, kk12⟩ := pp; have pp := C2.K hb1 (b := w.heap.size + 1 + 1) (x := _) (y := _) (c2A); obtain ⟨kk13, kk14⟩ := pp; have pp := T2.K hb1 (b := w.heap.size + 1 + 1 + 1) (x := _) (y := _) (t2A); obtain ⟨kk15, kk16, fkk15, fkk16⟩ := pp; (try clear kk1 kk2 kk3 kk4 kk5 kk6 kk7 kk8 fkk7 fkk8))
    go_wp2_with fail
    (refine (iGaussOk _ _ _).mono ?_; rintro e w2 ⟨rfl, hb2⟩; have hz2 := hb2.size; (repeat (first | rw [World.size_alloc] at hz2 | rw [World.size_setCell] at hz2 | rw [World.size_drew] at hz2)); have pp := C2.K hb2 (b := w.heap.size) (x := _) (y := _) (c2A); obtain ⟨kk17, kk18⟩ := pp; have pp := C2.K hb2 (b := w.heap.size + 1) (x := _) (y := _) (c2A); obtain ⟨kk19, kk20⟩ := pp; have pp := C2.K hb2 (b := w.heap.size + 1 + 1) (x := _) (y := _) (c2A); obtain ⟨kk21, kk22⟩ := pp; have pp := T2.K hb2 (b := w.heap.size + 1 + 1 + 1) (x := _) (y := _) (t2A); obtain ⟨kk23, kk24, fkk23, fkk24⟩ := pp; (try clear kk9 kk10 kk11 kk12 kk13 kk14 kk15 kk16 fkk15 fkk16))
    go_wp2_with fail
    refine bodyPost_ret (v := .tuple #[.agg #[.int .i64 0, .int .i64 0], .bool false]) (by simp [results, Try.results52, go_sem, *]) rfl ?_; exact ⟨rfl, blA⟩
  cases k3 : mdO e f
  · have hz : adO a b c d e f = false := by simp [adO, k3]
    obtain ⟨hx, hy, -, -⟩ := ad_f hz
    obtain ⟨rfl, rfl, rfl⟩ := h
    rw [hz, hx, hy]
    clear hz hx hy
    go_enter Try.func52, Try.ntmps52
    go_wp2_with fail
    (refine (iGaussOk _ _ _).mono ?_; rintro e w1 ⟨rfl, hb1⟩; have hz1 := hb1.size; (repeat (first | rw [World.size_alloc] at hz1 | rw [World.size_setCell] at hz1 | rw [World.size_drew] at hz1)); have pp := C2.K hb1 (b := w.heap.size) (x := _) (y := _) (c2A); obtain ⟨kk25, kk26⟩ := pp; have pp := C2.K hb1 (b := w.heap.size + 1) (x := _) (y := _) (c2A); obtain ⟨kk27, kk28⟩ := pp; have pp := C2.K hb1 (b := w.heap.size + 1 + 1) (x := _) (y := _) (c2A); obtain ⟨kk29, kk30⟩ := pp; have pp := T2.K hb1 (b := w.heap.size + 1 + 1 + 1) (x := _) (y := _) (t2A); obtain ⟨kk31, kk32, fkk31, fkk32⟩ := pp; (try clear kk17 kk18 kk19 kk20 kk21 kk22 kk23 kk24 fkk23 fkk24))
    go_wp2_with fail
    (refine (iGaussOk _ _ _).mono ?_; rintro e w2 ⟨rfl, hb2⟩; have hz2 := hb2.size; (repeat (first | rw [World.size_alloc] at hz2 | rw [World.size_setCell] at hz2 | rw [World.size_drew] at hz2)); have pp := C2.K hb2 (b := w.heap.size) (x := _) (y := _) (c2A); obtain ⟨kk33, kk34⟩ := pp; have pp := C2.K hb2 (b := w.heap.size + 1) (x := _) (y := _) (c2A); obtain ⟨kk35, kk36⟩ := pp; have pp := C2.K hb2 (b := w.heap.size + 1 + 1) (x := _) (y := _) (c2A); obtain ⟨kk37, kk38⟩ := pp; have pp := T2.K hb2 (b := w.heap.size + 1 + 1 + 1) (x := _) (y := _) (t2A); obtain ⟨kk39, kk40, fkk39, fkk40⟩ := pp; (try clear kk25 kk26 kk27 kk28 kk29 kk30 kk31 kk32 fkk31 fkk32))
    go_wp2_with fail
    (refine (iModulusOk_v _ k3).mono ?_; rintro e w3 ⟨rfl, hb3⟩; have hz3 := hb3.size; (repeat (first | rw [World.size_alloc] at hz3 | rw [World.size_setCell] at hz3 | rw [World.size_drew] at hz3)); have pp := C2.K hb3 (b := w.heap.size) (x := _) (y := _) (c2A); obtain ⟨kk41, kk42⟩ := pp; have pp := C2.K hb3 (b := w.heap.size + 1) (x := _) (y := _) (c2A); obtain ⟨kk43, kk44⟩ := pp; have pp := C2.K hb3 (b := w.heap.size + 1 + 1) (x := _) (y := _) (c2A); obtain ⟨kk45, kk46⟩ := pp; have pp := T2.K hb3 (b := w.heap.size + 1 + 1 + 1) (x := _) (y := _) (t2A); obtain ⟨kk47, kk48, fkk47, fkk48⟩ := pp; (try clear kk33 kk34 kk35 kk36 kk37 kk38 kk39 kk40 fkk39 fkk40))
    go_wp2_with fail
    refine bodyPost_ret (v := .tuple #[.agg #[.int .i64 0, .int .i64 0], .bool false]) (by simp [results, Try.results52, go_sem, *]) rfl ?_; exact ⟨rfl, blA⟩
  have hz : adO a b c d e f = true := by simp [adO, k1, k2, k3]
  obtain rfl : true = o := by rw [← hz]; exact h.1
  clear hz
  go_enter Try.func52, Try.ntmps52
  go_wp2_with fail
  (refine (iGaussOk _ _ _).mono ?_; rintro e w1 ⟨rfl, hb1⟩; have hz1 := hb1.size; (repeat (first | rw [World.size_alloc] at hz1 | rw [World.size_setCell] at hz1 | rw [World.size_drew] at hz1)); have pp := C2.K hb1 (b := w.heap.size) (x := _) (y := _) (c2A); obtain ⟨kk49, kk50⟩ := pp; have pp := C2.K hb1 (b := w.heap.size + 1) (x := _) (y := _) (c2A); obtain ⟨kk51, kk52⟩ := pp; have pp := C2.K hb1 (b := w.heap.size + 1 + 1) (x := _) (y := _) (c2A); obtain ⟨kk53, kk54⟩ := pp; have pp := T2.K hb1 (b := w.heap.size + 1 + 1 + 1) (x := _) (y := _) (t2A); obtain ⟨kk55, kk56, fkk55, fkk56⟩ := pp; (try clear kk41 kk42 kk43 kk44 kk45 kk46 kk47 kk48 fkk47 fkk48))
  go_wp2_with fail
  (refine (iGaussOk _ _ _).mono ?_; rintro e w2 ⟨rfl, hb2⟩; have hz2 := hb2.size; (repeat (first | rw [World.size_alloc] at hz2 | rw [World.size_setCell] at hz2 | rw [World.size_drew] at hz2)); have pp := C2.K hb2 (b := w.heap.size) (x := _) (y := _) (c2A); obtain ⟨kk57, kk58⟩ := pp; have pp := C2.K hb2 (b := w.heap.size + 1) (x := _) (y := _) (c2A); obtain ⟨kk59, kk60⟩ := pp; have pp := C2.K hb2 (b := w.heap.size + 1 + 1) (x := _) (y := _) (c2A); obtain ⟨kk61, kk62⟩ := pp; have pp := T2.K hb2 (b := w.heap.size + 1 + 1 + 1) (x := _) (y := _) (t2A); obtain ⟨kk63, kk64, fkk63, fkk64⟩ := pp; (try clear kk49 kk50 kk51 kk52 kk53 kk54 kk55 kk56 fkk55 fkk56))
  go_wp2_with fail
  (refine (iModulusOk_v _ k3).mono ?_; rintro e w3 ⟨rfl, hb3⟩; have hz3 := hb3.size; (repeat (first | rw [World.size_alloc] at hz3 | rw [World.size_setCell] at hz3 | rw [World.size_drew] at hz3)); have pp := C2.K hb3 (b := w.heap.size) (x := _) (y := _) (c2A); obtain ⟨kk65, kk66⟩ := pp; have pp := C2.K hb3 (b := w.heap.size + 1) (x := _) (y := _) (c2A); obtain ⟨kk67, kk68⟩ := pp; have pp := C2.K hb3 (b := w.heap.size + 1 + 1) (x := _) (y := _) (c2A); obtain ⟨kk69, kk70⟩ := pp; have pp := T2.K hb3 (b := w.heap.size + 1 + 1 + 1) (x := _) (y := _) (t2A); obtain ⟨kk71, kk72, fkk71, fkk72⟩ := pp; (try clear kk57 kk58 kk59 kk60 kk61 kk62 kk63 kk64 fkk63 fkk64))
  go_wp2_with fail
  (refine (igsum_v _ h).mono ?_; rintro e w4 ⟨rfl, hb4⟩; have hz4 := hb4.size; (repeat (first | rw [World.size_alloc] at hz4 | rw [World.size_setCell] at hz4 | rw [World.size_drew] at hz4)); have pp := T2.K hb4 (b := w.heap.size + 1 + 1 + 1) (x := _) (y := _) (t2A); obtain ⟨kk73, kk74, fkk73, fkk74⟩ := pp; (try clear kk65 kk66 kk67 kk68 kk69 kk70 kk71 kk72 fkk71 fkk72))
  clear h
  go_wp2_with fail
  refine bodyPost_ret (v := .tuple #[.agg #[.int .i64 x, .int .i64 y], .bool true]) (by simp [results, Try.results52, go_sem, *]) rfl ?_; exact ⟨rfl, blA⟩

theorem iAddedBy_v {a b c d e f x y : Int} {o : Bool} (w : World) (h : AdIs a b c d e f o x y) : Calls Try.prog 30 #[.agg #[.int .i64 a, .int .i64 b], .agg #[.int .i64 c, .int .i64 d], .agg #[.int .i64 e, .int .i64 f]] w fun e w' => e = .returned (.tuple #[.agg #[.int .i64 x, .int .i64 y], .bool o]) ∧ Below w.heap.size w w' := by
  go_enter Try.func30, Try.ntmps30
  go_wp2_with fail
  (refine (iBoth_sum _ h).mono ?_; rintro e w1 ⟨rfl, hb1⟩; have hz1 := hb1.size; (repeat (first | rw [World.size_alloc] at hz1 | rw [World.size_setCell] at hz1 | rw [World.size_drew] at hz1)); have pp := T2.K hb1 (b := w.heap.size + 1 + 1 + 1) (x := _) (y := _) (t2A); obtain ⟨kk1, kk2, fkk1, fkk2⟩ := pp)
  clear h
  go_wp2_with fail
  refine bodyPost_ret (v := .tuple #[.agg #[.int .i64 x, .int .i64 y], .bool o]) (by simp [results, Try.results30, go_sem, *]) rfl ?_; exact ⟨rfl, blA⟩

set_option maxHeartbeats 4000000 in
theorem igproduct_v {a b c d e f x y : Int} (w : World) (h : MuIs a b c d e f true x y) : Calls Try.prog 53 #[.agg #[.int .i64 e, .int .i64 f], .agg #[.int .i64 a, .int .i64 b], .agg #[.int .i64 c, .int .i64 d]] w fun e w' => e = .returned (.agg #[.int .i64 x, .int .i64 y]) ∧ Below w.heap.size w w' := by
  obtain ⟨p1, p2, q1, q2, s1, s2, ⟨h1, h2, h3, e1, e2, e3, e4, e5, e6, ⟨b1, b2⟩, ⟨b3, b4⟩, ⟨b5, b6⟩, b7, b8⟩, f1, f2⟩ := mu_w h
  clear h
  go_enter Try.func53, Try.ntmps53
  go_upto_region 1 with fail
  refine wp_name ?_
  intro w0 hb0
  (have hz0 := hb0.size; (repeat (first | rw [World.size_alloc] at hz0 | rw [World.size_setCell] at hz0 | rw [World.size_drew] at hz0)); have pp := C2.K hb0 (b := w.heap.size) (x := _) (y := _) (c2A); obtain ⟨kk1, kk2⟩ := pp; have pp := C2.K hb0 (b := w.heap.size + 1) (x := _) (y := _) (c2A); obtain ⟨kk3, kk4⟩ := pp; have pp := C2.K hb0 (b := w.heap.size + 1 + 1) (x := _) (y := _) (c2A); obtain ⟨kk5, kk6⟩ := pp; have pp := T2.K hb0 (b := w.heap.size + 1 + 1 + 1) (x := _) (y := _) (t2A); obtain ⟨kk7, kk8, fkk7, fkk8⟩ := pp)
  (go_region_held3 (fun w' => w'.cell? ⟨w.heap.size, 0, none⟩ = some (.int .i64 (e)) ∧ w'.cell? ⟨w.heap.size, 1, none⟩ = some (.int .i64 (f)) ∧ w'.cell? ⟨w.heap.size + 1, 0, none⟩ = some (.int .i64 (a)) ∧ w'.cell? ⟨w.heap.size + 1, 1, none⟩ = some (.int .i64 (b)) ∧ w'.cell? ⟨w.heap.size + 1 + 1, 0, none⟩ = some (.int .i64 (c)) ∧ w'.cell? ⟨w.heap.size + 1 + 1, 1, none⟩ = some (.int .i64 (d))) (first | (go_keep; done) | ((try dsimp only); refine ⟨?_, ?_, ?_, ?_, ?_, ?_⟩ <;> exact kcA)) (first | (go_at_call 68; obtain ⟨q0, q1, q2, q3, q4, q5⟩ := ‹_ ∧ _ ∧ _ ∧ _ ∧ _ ∧ _›; refine (igRest_v _ (by first | exact h1 | exact h2 | exact h3) (by first | exact e1 | exact e3 | exact e5) (by first | exact e2 | exact e4 | exact e6)).mono ?_; rintro e w1 ⟨rfl, hb1⟩; have hz1 := hb1.size; (repeat (first | rw [World.size_alloc] at hz1 | rw [World.size_setCell] at hz1 | rw [World.size_drew] at hz1)); have kk9 := keep hb1 q0; have kk10 := keep hb1 q1; have kk11 := keep hb1 q2; have kk12 := keep hb1 q3; have kk13 := keep hb1 q4; have kk14 := keep hb1 q5; obtain ⟨hc1, hf1⟩ := bcell hb1; have pp := T2.K hb1 (b := w.heap.size + 1 + 1 + 1) (x := _) (y := _) (t2A); obtain ⟨kk15, kk16, fkk15, fkk16⟩ := pp; clear q0 q1 q2 q3 q4 q5) | (go_at_call 48; obtain ⟨q0, q1, q2, q3, q4, q5⟩ := ‹_ ∧ _ ∧ _ ∧ _ ∧ _ ∧ _›; refine (igTimes_v _ (by omega) (by omega) (by omega) (by omega) (by omega) (by omega) (by omega) (by omega) f1 f2).mono ?_; rintro e w2 ⟨rfl, hb2⟩; have hz2 := hb2.size; (repeat (first | rw [World.size_alloc] at hz2 | rw [World.size_setCell] at hz2 | rw [World.size_drew] at hz2)); have kk17 := keep hb2 q0; have kk18 := keep hb2 q1; have kk19 := keep hb2 q2; have kk20 := keep hb2 q3; have kk21 := keep hb2 q4; have kk22 := keep hb2 q5; obtain ⟨hc2, hf2⟩ := bcell hb2; have pp := T2.K hb2 (b := w.heap.size + 1 + 1 + 1) (x := _) (y := _) (t2A); obtain ⟨kk23, kk24, fkk23, fkk24⟩ := pp; clear q0 q1 q2 q3 q4 q5)); (try clear kk1 kk2 kk3 kk4 kk5 kk6 kk7 kk8 fkk7 fkk8))
  all_goals go_wp2_with fail
  all_goals refine bodyPost_ret (v := .agg #[.int .i64 x, .int .i64 y]) (by simp [results, Try.results53, go_sem, *]) rfl ?_; exact ⟨rfl, blA⟩

theorem iBoth_product {a b c d e f x y : Int} {o : Bool} (w : World) (h : MuIs a b c d e f o x y) : Calls Try.prog 52 #[.agg #[.int .i64 a, .int .i64 b], .agg #[.int .i64 c, .int .i64 d], .agg #[.int .i64 e, .int .i64 f], .func (.func 53) #[] #[]] w fun e w' => e = .returned (.tuple #[.agg #[.int .i64 x, .int .i64 y], .bool o]) ∧ Below w.heap.size w w' := by
  cases k1 : gok a b
  · have hz : adO a b c d e f = false := by simp [adO, k1]
    obtain ⟨-, -, hx, hy⟩ := ad_f hz
    obtain ⟨rfl, rfl, rfl⟩ := h
    rw [hz, hx, hy]
    clear hz hx hy
    go_enter Try.func52, Try.ntmps52
    go_wp2_with fail
    (refine (iGaussOk _ _ _).mono ?_; rintro e w1 ⟨rfl, hb1⟩; have hz1 := hb1.size; (repeat (first | rw [World.size_alloc] at hz1 | rw [World.size_setCell] at hz1 | rw [World.size_drew] at hz1)); have pp := C2.K hb1 (b := w.heap.size) (x := _) (y := _) (c2A); obtain ⟨kk1, kk2⟩ := pp; have pp := C2.K hb1 (b := w.heap.size + 1) (x := _) (y := _) (c2A); obtain ⟨kk3, kk4⟩ := pp; have pp := C2.K hb1 (b := w.heap.size + 1 + 1) (x := _) (y := _) (c2A); obtain ⟨kk5, kk6⟩ := pp; have pp := T2.K hb1 (b := w.heap.size + 1 + 1 + 1) (x := _) (y := _) (t2A); obtain ⟨kk7, kk8, fkk7, fkk8⟩ := pp)
    go_wp2_with fail
    refine bodyPost_ret (v := .tuple #[.agg #[.int .i64 0, .int .i64 0], .bool false]) (by simp [results, Try.results52, go_sem, *]) rfl ?_; exact ⟨rfl, blA⟩
  cases k2 : gok c d
  · have hz : adO a b c d e f = false := by simp [adO, k2]
    obtain ⟨-, -, hx, hy⟩ := ad_f hz
    obtain ⟨rfl, rfl, rfl⟩ := h
    rw [hz, hx, hy]
    clear hz hx hy
    go_enter Try.func52, Try.ntmps52
    go_wp2_with fail
    (refine (iGaussOk _ _ _).mono ?_; rintro e w1 ⟨rfl, hb1⟩; have hz1 := hb1.size; (repeat (first | rw [World.size_alloc] at hz1 | rw [World.size_setCell] at hz1 | rw [World.size_drew] at hz1)); have pp := C2.K hb1 (b := w.heap.size) (x := _) (y := _) (c2A); obtain ⟨kk9, kk10⟩ := pp; have pp := C2.K hb1 (b := w.heap.size + 1) (x := _) (y := _) (c2A); obtain ⟨kk11, kk12⟩ := pp; have pp := C2.K hb1 (b := w.heap.size + 1 + 1) (x := _) (y := _) (c2A); obtain ⟨kk13, kk14⟩ := pp; have pp := T2.K hb1 (b := w.heap.size + 1 + 1 + 1) (x := _) (y := _) (t2A); obtain ⟨kk15, kk16, fkk15, fkk16⟩ := pp; (try clear kk1 kk2 kk3 kk4 kk5 kk6 kk7 kk8 fkk7 fkk8))
    go_wp2_with fail
    (refine (iGaussOk _ _ _).mono ?_; rintro e w2 ⟨rfl, hb2⟩; have hz2 := hb2.size; (repeat (first | rw [World.size_alloc] at hz2 | rw [World.size_setCell] at hz2 | rw [World.size_drew] at hz2)); have pp := C2.K hb2 (b := w.heap.size) (x := _) (y := _) (c2A); obtain ⟨kk17, kk18⟩ := pp; have pp := C2.K hb2 (b := w.heap.size + 1) (x := _) (y := _) (c2A); obtain ⟨kk19, kk20⟩ := pp; have pp := C2.K hb2 (b := w.heap.size + 1 + 1) (x := _) (y := _) (c2A); obtain ⟨kk21, kk22⟩ := pp; have pp := T2.K hb2 (b := w.heap.size + 1 + 1 + 1) (x := _) (y := _) (t2A); obtain ⟨kk23, kk24, fkk23, fkk24⟩ := pp; (try clear kk9 kk10 kk11 kk12 kk13 kk14 kk15 kk16 fkk15 fkk16))
    go_wp2_with fail
    refine bodyPost_ret (v := .tuple #[.agg #[.int .i64 0, .int .i64 0], .bool false]) (by simp [results, Try.results52, go_sem, *]) rfl ?_; exact ⟨rfl, blA⟩
  cases k3 : mdO e f
  · have hz : adO a b c d e f = false := by simp [adO, k3]
    obtain ⟨-, -, hx, hy⟩ := ad_f hz
    obtain ⟨rfl, rfl, rfl⟩ := h
    rw [hz, hx, hy]
    clear hz hx hy
    go_enter Try.func52, Try.ntmps52
    go_wp2_with fail
    (refine (iGaussOk _ _ _).mono ?_; rintro e w1 ⟨rfl, hb1⟩; have hz1 := hb1.size; (repeat (first | rw [World.size_alloc] at hz1 | rw [World.size_setCell] at hz1 | rw [World.size_drew] at hz1)); have pp := C2.K hb1 (b := w.heap.size) (x := _) (y := _) (c2A); obtain ⟨kk25, kk26⟩ := pp; have pp := C2.K hb1 (b := w.heap.size + 1) (x := _) (y := _) (c2A); obtain ⟨kk27, kk28⟩ := pp; have pp := C2.K hb1 (b := w.heap.size + 1 + 1) (x := _) (y := _) (c2A); obtain ⟨kk29, kk30⟩ := pp; have pp := T2.K hb1 (b := w.heap.size + 1 + 1 + 1) (x := _) (y := _) (t2A); obtain ⟨kk31, kk32, fkk31, fkk32⟩ := pp; (try clear kk17 kk18 kk19 kk20 kk21 kk22 kk23 kk24 fkk23 fkk24))
    go_wp2_with fail
    (refine (iGaussOk _ _ _).mono ?_; rintro e w2 ⟨rfl, hb2⟩; have hz2 := hb2.size; (repeat (first | rw [World.size_alloc] at hz2 | rw [World.size_setCell] at hz2 | rw [World.size_drew] at hz2)); have pp := C2.K hb2 (b := w.heap.size) (x := _) (y := _) (c2A); obtain ⟨kk33, kk34⟩ := pp; have pp := C2.K hb2 (b := w.heap.size + 1) (x := _) (y := _) (c2A); obtain ⟨kk35, kk36⟩ := pp; have pp := C2.K hb2 (b := w.heap.size + 1 + 1) (x := _) (y := _) (c2A); obtain ⟨kk37, kk38⟩ := pp; have pp := T2.K hb2 (b := w.heap.size + 1 + 1 + 1) (x := _) (y := _) (t2A); obtain ⟨kk39, kk40, fkk39, fkk40⟩ := pp; (try clear kk25 kk26 kk27 kk28 kk29 kk30 kk31 kk32 fkk31 fkk32))
    go_wp2_with fail
    (refine (iModulusOk_v _ k3).mono ?_; rintro e w3 ⟨rfl, hb3⟩; have hz3 := hb3.size; (repeat (first | rw [World.size_alloc] at hz3 | rw [World.size_setCell] at hz3 | rw [World.size_drew] at hz3)); have pp := C2.K hb3 (b := w.heap.size) (x := _) (y := _) (c2A); obtain ⟨kk41, kk42⟩ := pp; have pp := C2.K hb3 (b := w.heap.size + 1) (x := _) (y := _) (c2A); obtain ⟨kk43, kk44⟩ := pp; have pp := C2.K hb3 (b := w.heap.size + 1 + 1) (x := _) (y := _) (c2A); obtain ⟨kk45, kk46⟩ := pp; have pp := T2.K hb3 (b := w.heap.size + 1 + 1 + 1) (x := _) (y := _) (t2A); obtain ⟨kk47, kk48, fkk47, fkk48⟩ := pp; (try clear kk33 kk34 kk35 kk36 kk37 kk38 kk39 kk40 fkk39 fkk40))
    go_wp2_with fail
    refine bodyPost_ret (v := .tuple #[.agg #[.int .i64 0, .int .i64 0], .bool false]) (by simp [results, Try.results52, go_sem, *]) rfl ?_; exact ⟨rfl, blA⟩
  have hz : adO a b c d e f = true := by simp [adO, k1, k2, k3]
  obtain rfl : true = o := by rw [← hz]; exact h.1
  clear hz
  go_enter Try.func52, Try.ntmps52
  go_wp2_with fail
  (refine (iGaussOk _ _ _).mono ?_; rintro e w1 ⟨rfl, hb1⟩; have hz1 := hb1.size; (repeat (first | rw [World.size_alloc] at hz1 | rw [World.size_setCell] at hz1 | rw [World.size_drew] at hz1)); have pp := C2.K hb1 (b := w.heap.size) (x := _) (y := _) (c2A); obtain ⟨kk49, kk50⟩ := pp; have pp := C2.K hb1 (b := w.heap.size + 1) (x := _) (y := _) (c2A); obtain ⟨kk51, kk52⟩ := pp; have pp := C2.K hb1 (b := w.heap.size + 1 + 1) (x := _) (y := _) (c2A); obtain ⟨kk53, kk54⟩ := pp; have pp := T2.K hb1 (b := w.heap.size + 1 + 1 + 1) (x := _) (y := _) (t2A); obtain ⟨kk55, kk56, fkk55, fkk56⟩ := pp; (try clear kk41 kk42 kk43 kk44 kk45 kk46 kk47 kk48 fkk47 fkk48))
  go_wp2_with fail
  (refine (iGaussOk _ _ _).mono ?_; rintro e w2 ⟨rfl, hb2⟩; have hz2 := hb2.size; (repeat (first | rw [World.size_alloc] at hz2 | rw [World.size_setCell] at hz2 | rw [World.size_drew] at hz2)); have pp := C2.K hb2 (b := w.heap.size) (x := _) (y := _) (c2A); obtain ⟨kk57, kk58⟩ := pp; have pp := C2.K hb2 (b := w.heap.size + 1) (x := _) (y := _) (c2A); obtain ⟨kk59, kk60⟩ := pp; have pp := C2.K hb2 (b := w.heap.size + 1 + 1) (x := _) (y := _) (c2A); obtain ⟨kk61, kk62⟩ := pp; have pp := T2.K hb2 (b := w.heap.size + 1 + 1 + 1) (x := _) (y := _) (t2A); obtain ⟨kk63, kk64, fkk63, fkk64⟩ := pp; (try clear kk49 kk50 kk51 kk52 kk53 kk54 kk55 kk56 fkk55 fkk56))
  go_wp2_with fail
  (refine (iModulusOk_v _ k3).mono ?_; rintro e w3 ⟨rfl, hb3⟩; have hz3 := hb3.size; (repeat (first | rw [World.size_alloc] at hz3 | rw [World.size_setCell] at hz3 | rw [World.size_drew] at hz3)); have pp := C2.K hb3 (b := w.heap.size) (x := _) (y := _) (c2A); obtain ⟨kk65, kk66⟩ := pp; have pp := C2.K hb3 (b := w.heap.size + 1) (x := _) (y := _) (c2A); obtain ⟨kk67, kk68⟩ := pp; have pp := C2.K hb3 (b := w.heap.size + 1 + 1) (x := _) (y := _) (c2A); obtain ⟨kk69, kk70⟩ := pp; have pp := T2.K hb3 (b := w.heap.size + 1 + 1 + 1) (x := _) (y := _) (t2A); obtain ⟨kk71, kk72, fkk71, fkk72⟩ := pp; (try clear kk57 kk58 kk59 kk60 kk61 kk62 kk63 kk64 fkk63 fkk64))
  go_wp2_with fail
  (refine (igproduct_v _ h).mono ?_; rintro e w4 ⟨rfl, hb4⟩; have hz4 := hb4.size; (repeat (first | rw [World.size_alloc] at hz4 | rw [World.size_setCell] at hz4 | rw [World.size_drew] at hz4)); have pp := T2.K hb4 (b := w.heap.size + 1 + 1 + 1) (x := _) (y := _) (t2A); obtain ⟨kk73, kk74, fkk73, fkk74⟩ := pp; (try clear kk65 kk66 kk67 kk68 kk69 kk70 kk71 kk72 fkk71 fkk72))
  clear h
  go_wp2_with fail
  refine bodyPost_ret (v := .tuple #[.agg #[.int .i64 x, .int .i64 y], .bool true]) (by simp [results, Try.results52, go_sem, *]) rfl ?_; exact ⟨rfl, blA⟩

theorem iMultipliedBy_v {a b c d e f x y : Int} {o : Bool} (w : World) (h : MuIs a b c d e f o x y) : Calls Try.prog 26 #[.agg #[.int .i64 a, .int .i64 b], .agg #[.int .i64 c, .int .i64 d], .agg #[.int .i64 e, .int .i64 f]] w fun e w' => e = .returned (.tuple #[.agg #[.int .i64 x, .int .i64 y], .bool o]) ∧ Below w.heap.size w w' := by
  go_enter Try.func26, Try.ntmps26
  go_wp2_with fail
  (refine (iBoth_product _ h).mono ?_; rintro e w1 ⟨rfl, hb1⟩; have hz1 := hb1.size; (repeat (first | rw [World.size_alloc] at hz1 | rw [World.size_setCell] at hz1 | rw [World.size_drew] at hz1)); have pp := T2.K hb1 (b := w.heap.size + 1 + 1 + 1) (x := _) (y := _) (t2A); obtain ⟨kk1, kk2, fkk1, fkk2⟩ := pp)
  clear h
  go_wp2_with fail
  refine bodyPost_ret (v := .tuple #[.agg #[.int .i64 x, .int .i64 y], .bool o]) (by simp [results, Try.results26, go_sem, *]) rfl ?_; exact ⟨rfl, blA⟩

end Go.Proofs.Ytggebkgfldmipaa
