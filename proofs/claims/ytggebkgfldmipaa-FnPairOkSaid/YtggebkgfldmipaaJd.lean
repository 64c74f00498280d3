import Derived.Test.YtggebkgfldmipaaJa
import Derived.Test.YtggebkgfldmipaaHs
import Derived.IntWalk
import Derived.BigRegion
import Derived.Deep.RegionHeld3
import Derived.Deep.DeepCutAuto
namespace Go.Proofs.Ytggebkgfldmipaa
open Go Go.RowKit
attribute [local go_sem] World.cell?_alloc_some cell?_alloc2_some cell?_alloc3_some cell?_alloc4_some frozen?_alloc_some frozen?_alloc2_some frozen?_alloc3_some World.cell?_setCell_far new_ne0 new_ne1 new_ne2 new_ne3 lt2 lt3 lt4 lt5 lt6 lt7 lt8 lt9
attribute [local go_sem ↓] eqG neG

theorem l3Near (n m : Int) (w : World) (h1 : -5000000 ≤ n) (h2 : n ≤ 5000000) (h3 : 0 < m) (h4 : m ≤ 5000000) : Calls Try.prog 70 #[.int .i64 n, .int .i64 m] w fun e w' => e = .returned (.int .i64 (nr n m)) ∧ Below w.heap.size w w' := by
  obtain ⟨b1, b2⟩ := nr_le (k := 5000000) h3 h1 h2
  have hz : (2 * m == 0) = false := by simp; omega
  rcases tdiv_nr (n := n) h3 with ⟨ht, he⟩ | ⟨ht, he⟩
  · have hd : decide ((2 * n + m).tmod (2 * m) < 0) = true := decide_eq_true ht
    have hw1 : IntKind.i64.wrap (nr n m + 1) = nr n m + 1 := IntWalk.i64_in _ (by omega)
    have hw2 : IntKind.i64.wrap (nr n m) = nr n m := IntWalk.i64_in _ (by omega)
    clear ht
    go_enter Try.func70, Try.ntmps70
    go_wp2_with fail
    go_returns
    exact ⟨by simp, blA⟩
  · have hd : decide ((2 * n + m).tmod (2 * m) < 0) = false := decide_eq_false ht
    have hw2 : IntKind.i64.wrap (nr n m) = nr n m := IntWalk.i64_in _ (by omega)
    clear ht
    go_enter Try.func70, Try.ntmps70
    go_wp2_with fail
    go_returns
    exact ⟨rfl, blA⟩
theorem l3Near_v {n m x : Int} (w : World) (h1 : -5000000 ≤ n) (h2 : n ≤ 5000000) (h3 : 0 < m) (h4 : m ≤ 5000000) (h : nr n m = x) : Calls Try.prog 70 #[.int .i64 n, .int .i64 m] w fun e w' => e = .returned (.int .i64 x) ∧ Below w.heap.size w w' := by
  subst h; exact l3Near n m w h1 h2 h3 h4
/-- A product whose first number may be greater. -/
theorem slTimes_v {a b c d x y : Int} (w : World) (ha1 : -3000000 ≤ a) (ha2 : a ≤ 3000000) (hb1 : -3000000 ≤ b) (hb2 : b ≤ 3000000) (hc1 : -1000 ≤ c) (hc2 : c ≤ 1000) (hd1 : -1000 ≤ d) (hd2 : d ≤ 1000) (hx : a * c - b * d = x) (hy : a * d + b * c = y) :
    Calls Try.prog 38 #[.agg #[.int .i64 a, .int .i64 b], .agg #[.int .i64 c, .int .i64 d]] w fun e w' => e = .returned (.agg #[.int .i64 x, .int .i64 y]) ∧ Below w.heap.size w w' := by
  subst hx hy
  have m1 := mul_bd2 ha1 ha2 hc1 hc2
  have m2 := mul_bd2 hb1 hb2 hd1 hd2
  have m3 := mul_bd2 ha1 ha2 hd1 hd2
  have m4 := mul_bd2 hb1 hb2 hc1 hc2
  refine (slTimes a b c d w).mono ?_
  rintro e w' ⟨rfl, hb⟩
  refine ⟨?_, hb⟩
  rw [IntWalk.wrap64_in (a * c) (by omega), IntWalk.wrap64_in (b * d) (by omega), IntWalk.wrap64_in (a * d) (by omega), IntWalk.wrap64_in (b * c) (by omega), IntWalk.wrap64_in _ (by omega), IntWalk.wrap64_in _ (by omega)]
theorem slNorm_v {a b n : Int} (w : World) (k : gok a b = true) (h : a * a + b * b = n) : Calls Try.prog 62 #[.agg #[.int .i64 a, .int .i64 b]] w fun e w' => e = .returned (.int .i64 n) ∧ Below w.heap.size w w' := by
  subst h; rw [← norm_wrap k]; exact slNorm a b w
/-- What a division gives, with bounds. -/
theorem dv_all {a b c d : Int} (h : dvO a b c d = true) : ∃ N p1 p2 x y u v, c * c + d * d = N ∧ 0 < N ∧ N ≤ 2000000 ∧ a * c - b * -d = p1 ∧ a * -d + b * c = p2 ∧ -2000000 ≤ p1 ∧ p1 ≤ 2000000 ∧ -2000000 ≤ p2 ∧ p2 ≤ 2000000 ∧
    nr p1 N = x ∧ nr p2 N = y ∧ -2000001 ≤ x ∧ x ≤ 2000001 ∧ -2000001 ≤ y ∧ y ≤ 2000001 ∧ x * c - y * d = u ∧ x * d + y * c = v ∧ -5000000000 ≤ u ∧ u ≤ 5000000000 ∧ -5000000000 ≤ v ∧ v ≤ 5000000000 ∧
    qA a b c d = x ∧ qB a b c d = y ∧ rA a b c d = a - u ∧ rB a b c d = b - v := by
  obtain ⟨k1, k2, h0⟩ := dv_is h
  obtain ⟨a1, a2, b1, b2⟩ := gok_bd k1
  obtain ⟨c1, c2, d1, d2⟩ := gok_bd k2
  have hs := sq_bd k2
  have m1 := mul_bd a1 a2 c1 c2
  have m2 := mul_bd b1 b2 d1 d2
  have m3 := mul_bd a1 a2 d1 d2
  have m4 := mul_bd b1 b2 c1 c2
  have e1 : a * c - b * -d = a * c + b * d := by grind
  have e2 : a * -d + b * c = b * c - a * d := by grind
  have n1 := nr_le (n := a * c + b * d) (k := 2000000) h0 (by omega) (by omega)
  have n2 := nr_le (n := b * c - a * d) (k := 2000000) h0 (by omega) (by omega)
  refine ⟨_, _, _, _, _, _, _, rfl, h0, by omega, e1, e2, by omega, by omega, by omega, by omega, rfl, rfl, n1.1, n1.2, n2.1, n2.2, rfl, rfl, ?_, ?_, ?_, ?_, rfl, rfl, rfl, rfl⟩
  all_goals
    have q1 := mul_bd2 (k := 2000001) n1.1 n1.2 c1 c2
    have q2 := mul_bd2 (k := 2000001) n2.1 n2.2 d1 d2
    have q3 := mul_bd2 (k := 2000001) n1.1 n1.2 d1 d2
    have q4 := mul_bd2 (k := 2000001) n2.1 n2.2 c1 c2
    omega
/-- What a statement that lays a number leaves: its block, all else as it was. -/
def CutX (W : World) (x y : Int) (v : Value) (wx : World) : Prop := ∃ X, v = .pointer (some ⟨X, 0, none⟩) ∧ W.heap.size ≤ X ∧ wx.cell? ⟨X, 0, none⟩ = some (.int .i64 x) ∧ wx.cell? ⟨X, 1, none⟩ = some (.int .i64 y) ∧ Below W.heap.size W wx
set_option maxHeartbeats 2000000 in
theorem l3Divided (a b c d : Int) (w : World) (h : dvO a b c d = true) : Calls Try.prog 51 #[.agg #[.int .i64 a, .int .i64 b], .agg #[.int .i64 c, .int .i64 d]] w fun e w' => e = .returned (.tuple #[.agg #[.int .i64 (qA a b c d), .int .i64 (qB a b c d)], .agg #[.int .i64 (rA a b c d), .int .i64 (rB a b c d)]]) ∧ Below w.heap.size w w' := by
  obtain ⟨k1, k2, h0⟩ := dv_is h
  obtain ⟨a1, a2, b1, b2⟩ := gok_bd k1
  obtain ⟨c1, c2, d1, d2⟩ := gok_bd k2
  obtain ⟨N, p1, p2, x, y, u, v, eN, hN, hN2, e1, e2, i1, i2, i3, i4, f1, f2, j1, j2, j3, j4, g1, g2, l1, l2, l3, l4, q1, q2, q3, q4⟩ := dv_all h
  rw [q1, q2, q3, q4]
  clear q1 q2 q3 q4 h0
  have hw1 : IntKind.i64.wrap (a - u) = a - u := IntWalk.i64_in _ (by omega)
  have hw2 : IntKind.i64.wrap (b - v) = b - v := IntWalk.i64_in _ (by omega)
  go_enter Try.func51, Try.ntmps51
  go_wp2_with fail
  (refine (slTimes_v _ (by omega) (by omega) (by omega) (by omega) c1 c2 (by omega) (by omega) e1 e2).mono ?_; rintro e w1 ⟨rfl, hb1⟩; have hz1 := hb1.size; (repeat (first | rw [World.size_alloc] at hz1 | rw [World.size_setCell] at hz1 | rw [World.size_drew] at hz1)); have pp := C2.K hb1 (b := w.heap.size) (x := _) (y := _) (c2A); obtain ⟨kk1, kk2⟩ := pp; have pp := C2.K hb1 (b := w.heap.size + 1) (x := _) (y := _) (c2A); obtain ⟨kk3, kk4⟩ := pp; have pp := T2.K hb1 (b := w.heap.size + 1 + 1) (x := _) (y := _) (t2A); obtain ⟨kk5, kk6, fkk5, fkk6⟩ := pp; have pp := T2.K hb1 (b := w.heap.size + 1 + 1 + 1) (x := _) (y := _) (t2A); obtain ⟨kk7, kk8, fkk7, fkk8⟩ := pp)
  go_wp2_with fail
  (refine (slNorm_v _ k2 eN).mono ?_; rintro e w2 ⟨rfl, hb2⟩; have hz2 := hb2.size; (repeat (first | rw [World.size_alloc] at hz2 | rw [World.size_setCell] at hz2 | rw [World.size_drew] at hz2)); have pp := C2.K hb2 (b := w.heap.size) (x := _) (y := _) (c2A); obtain ⟨kk9, kk10⟩ := pp; have pp := C2.K hb2 (b := w.heap.size + 1) (x := _) (y := _) (c2A); obtain ⟨kk11, kk12⟩ := pp; have pp := T2.K hb2 (b := w.heap.size + 1 + 1) (x := _) (y := _) (t2A); obtain ⟨kk13, kk14, fkk13, fkk14⟩ := pp; have pp := T2.K hb2 (b := w.heap.size + 1 + 1 + 1) (x := _) (y := _) (t2A); obtain ⟨kk15, kk16, fkk15, fkk16⟩ := pp; have pp := C2.K hb2 (b := w1.heap.size) (x := _) (y := _) (c2A); obtain ⟨kk17, kk18⟩ := pp; (try clear kk1 kk2 kk3 kk4 kk5 kk6 fkk5 fkk6 kk7 kk8 fkk7 fkk8))
  go_upto_region 3 with fail
  go_cut [8] (fun v8 wx => CutX w2 x y v8 wx)
  case first =>
    (go_region_held3 (fun w' => w'.cell? ⟨w1.heap.size, 0, none⟩ = some (.int .i64 (p1)) ∧ w'.cell? ⟨w1.heap.size, 1, none⟩ = some (.int .i64 (p2))) (first | (go_keep; done) | ((try dsimp only); refine ⟨?_, ?_⟩ <;> exact kcA)) (first | (go_at_call 70; obtain ⟨q0, q1⟩ := ‹_ ∧ _›; refine (l3Near_v _ (by omega) (by omega) hN (by omega) (by first | exact f1 | exact f2)).mono ?_; rintro e w3 ⟨rfl, hb3⟩; have hz3 := hb3.size; (repeat (first | rw [World.size_alloc] at hz3 | rw [World.size_setCell] at hz3 | rw [World.size_drew] at hz3)); have kk19 := keep hb3 q0; have kk20 := keep hb3 q1; obtain ⟨hc3, hf3⟩ := bcell hb3; clear q0 q1)); (try clear kk9 kk10 kk11 kk12 kk13 kk14 fkk13 fkk14 kk15 kk16 fkk15 fkk16 kk17 kk18))
    all_goals (go_wp2_with fail; go_meet; exact ⟨_, rfl, by ((try simp only [World.size_alloc, World.size_setCell, World.size_drew]); omega), kcA, kcA, blA⟩)
  case rest =>
    obtain ⟨X, rfl, mX, m0, m1, hbx⟩ := hcut
    (have hzx := hbx.size; (repeat (first | rw [World.size_alloc] at hzx | rw [World.size_setCell] at hzx | rw [World.size_drew] at hzx)); have pp := C2.K hbx (b := w.heap.size) (x := _) (y := _) (c2A); obtain ⟨kk21, kk22⟩ := pp; have pp := C2.K hbx (b := w.heap.size + 1) (x := _) (y := _) (c2A); obtain ⟨kk23, kk24⟩ := pp; have pp := T2.K hbx (b := w.heap.size + 1 + 1) (x := _) (y := _) (t2A); obtain ⟨kk25, kk26, fkk25, fkk26⟩ := pp; have pp := T2.K hbx (b := w.heap.size + 1 + 1 + 1) (x := _) (y := _) (t2A); obtain ⟨kk27, kk28, fkk27, fkk28⟩ := pp; (try clear kk19 kk20))
    go_wp2_with fail
    (refine (slTimes_v _ (by omega) (by omega) (by omega) (by omega) c1 c2 d1 d2 g1 g2).mono ?_; rintro e w4 ⟨rfl, hb4⟩; have hz4 := hb4.size; (repeat (first | rw [World.size_alloc] at hz4 | rw [World.size_setCell] at hz4 | rw [World.size_drew] at hz4)); have pp := C2.K hb4 (b := w.heap.size) (x := _) (y := _) (c2A); obtain ⟨kk29, kk30⟩ := pp; have pp := T2.K hb4 (b := w.heap.size + 1 + 1) (x := _) (y := _) (t2A); obtain ⟨kk31, kk32, fkk31, fkk32⟩ := pp; have pp := T2.K hb4 (b := w.heap.size + 1 + 1 + 1) (x := _) (y := _) (t2A); obtain ⟨kk33, kk34, fkk33, fkk34⟩ := pp; have pp := C2.K hb4 (b := X) (x := _) (y := _) (c2A); obtain ⟨kk35, kk36⟩ := pp; (try clear kk21 kk22 kk23 kk24 kk25 kk26 fkk25 fkk26 kk27 kk28 fkk27 fkk28))
    go_wp2_with fail
    go_region
    all_goals go_wp2_with fail
    all_goals refine bodyPost_ret (v := .tuple #[.agg #[.int .i64 x, .int .i64 y], .agg #[.int .i64 (a - u), .int .i64 (b - v)]]) (by simp [results, Try.results51, go_sem, *]) rfl ?_; exact ⟨rfl, blA⟩
end Go.Proofs.Ytggebkgfldmipaa
