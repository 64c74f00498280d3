import Derived.Test.YtggebkgfldmipaaJd
namespace Go.Proofs.Ytggebkgfldmipaa
open Go Go.RowKit
attribute [local go_sem] World.cell?_alloc_some cell?_alloc2_some cell?_alloc3_some cell?_alloc4_some frozen?_alloc_some frozen?_alloc2_some frozen?_alloc3_some World.cell?_setCell_far new_ne0 new_ne1 new_ne2 new_ne3 lt2 lt3 lt4 lt5 lt6 lt7 lt8 lt9
attribute [local go_sem ↓] eqG neG

theorem nearest (n m : Int) (w : World) (h1 : -5000000 ≤ n) (h2 : n ≤ 5000000) (h3 : 0 < m) (h4 : m ≤ 5000000) : Calls Try.prog 81 #[.int .i64 n, .int .i64 m] w fun e w' => e = .returned (.int .i64 (nr n m)) ∧ Below w.heap.size w w' := by
  obtain ⟨b1, b2⟩ := nr_le (k := 5000000) h3 h1 h2
  have hz : (2 * m == 0) = false := by simp; omega
  rcases tdiv_nr (n := n) h3 with ⟨ht, he⟩ | ⟨ht, he⟩
  · have hd : decide ((2 * n + m).tmod (2 * m) < 0) = true := decide_eq_true ht
    have hw1 : IntKind.i64.wrap (nr n m + 1) = nr n m + 1 := IntWalk.i64_in _ (by omega)
    have hw2 : IntKind.i64.wrap (nr n m) = nr n m := IntWalk.i64_in _ (by omega)
    clear ht
    go_enter Try.func81, Try.ntmps81
    go_wp2_with fail
    go_returns
    exact ⟨by simp, blA⟩
  · have hd : decide ((2 * n + m).tmod (2 * m) < 0) = false := decide_eq_false ht
    have hw2 : IntKind.i64.wrap (nr n m) = nr n m := IntWalk.i64_in _ (by omega)
    clear ht
    go_enter Try.func81, Try.ntmps81
    go_wp2_with fail
    go_returns
    exact ⟨rfl, blA⟩
theorem nearest_v {n m x : Int} (w : World) (h1 : -5000000 ≤ n) (h2 : n ≤ 5000000) (h3 : 0 < m) (h4 : m ≤ 5000000) (h : nr n m = x) : Calls Try.prog 81 #[.int .i64 n, .int .i64 m] w fun e w' => e = .returned (.int .i64 x) ∧ Below w.heap.size w w' := by
  subst h; exact nearest n m w h1 h2 h3 h4
theorem igOver_v {a b y : Int} (w : World) (h1 : -5000000000 ≤ b) (h2 : b ≤ 5000000000) (h : -b = y) : Calls Try.prog 80 #[.agg #[.int .i64 a, .int .i64 b]] w fun e w' => e = .returned (.agg #[.int .i64 a, .int .i64 y]) ∧ Below w.heap.size w w' := by
  subst h
  have hw : IntKind.i64.wrap (-b) = -b := IntWalk.i64_in _ (by omega)
  go_enter Try.func80, Try.ntmps80
  go_wp2
  go_returns
  exact ⟨rfl, blA⟩
theorem igMinus_v {a b x y : Int} (w : World) (h1 : -5000000000 ≤ a) (h2 : a ≤ 5000000000) (h3 : -5000000000 ≤ b) (h4 : b ≤ 5000000000) (hx : -a = x) (hy : -b = y) : Calls Try.prog 82 #[.agg #[.int .i64 a, .int .i64 b]] w fun e w' => e = .returned (.agg #[.int .i64 x, .int .i64 y]) ∧ Below w.heap.size w w' := by
  subst hx hy
  have hw1 : IntKind.i64.wrap (-a) = -a := IntWalk.i64_in _ (by omega)
  have hw2 : IntKind.i64.wrap (-b) = -b := IntWalk.i64_in _ (by omega)
  go_enter Try.func82, Try.ntmps82
  go_wp2
  go_returns
  exact ⟨rfl, blA⟩
theorem igPlus_v {a b c d x y : Int} (w : World) (ha1 : -5000000000 ≤ a) (ha2 : a ≤ 5000000000) (hb1 : -5000000000 ≤ b) (hb2 : b ≤ 5000000000) (hc1 : -5000000000 ≤ c) (hc2 : c ≤ 5000000000) (hd1 : -5000000000 ≤ d) (hd2 : d ≤ 5000000000) (hx : a + c = x) (hy : b + d = y) : Calls Try.prog 71 #[.agg #[.int .i64 a, .int .i64 b], .agg #[.int .i64 c, .int .i64 d]] w fun e w' => e = .returned (.agg #[.int .i64 x, .int .i64 y]) ∧ Below w.heap.size w w' := by
  subst hx hy
  refine (igPlus a b c d w).mono ?_
  rintro e w' ⟨rfl, hb⟩
  refine ⟨?_, hb⟩
  rw [IntWalk.wrap64_in _ (by omega), IntWalk.wrap64_in _ (by omega)]
theorem igTimes_v {a b c d x y : Int} (w : World) (ha1 : -3000000 ≤ a) (ha2 : a ≤ 3000000) (hb1 : -3000000 ≤ b) (hb2 : b ≤ 3000000) (hc1 : -1000 ≤ c) (hc2 : c ≤ 1000) (hd1 : -1000 ≤ d) (hd2 : d ≤ 1000) (hx : a * c - b * d = x) (hy : a * d + b * c = y) :
    Calls Try.prog 48 #[.agg #[.int .i64 a, .int .i64 b], .agg #[.int .i64 c, .int .i64 d]] w fun e w' => e = .returned (.agg #[.int .i64 x, .int .i64 y]) ∧ Below w.heap.size w w' := by
  subst hx hy
  have m1 := mul_bd2 ha1 ha2 hc1 hc2
  have m2 := mul_bd2 hb1 hb2 hd1 hd2
  have m3 := mul_bd2 ha1 ha2 hd1 hd2
  have m4 := mul_bd2 hb1 hb2 hc1 hc2
  refine (igTimes a b c d w).mono ?_
  rintro e w' ⟨rfl, hb⟩
  refine ⟨?_, hb⟩
  rw [IntWalk.wrap64_in (a * c) (by omega), IntWalk.wrap64_in (b * d) (by omega), IntWalk.wrap64_in (a * d) (by omega), IntWalk.wrap64_in (b * c) (by omega), IntWalk.wrap64_in _ (by omega), IntWalk.wrap64_in _ (by omega)]
theorem igNorm_v {a b n : Int} (w : World) (k : gok a b = true) (h : a * a + b * b = n) : Calls Try.prog 64 #[.agg #[.int .i64 a, .int .i64 b]] w fun e w' => e = .returned (.int .i64 n) ∧ Below w.heap.size w w' := by
  subst h; rw [← norm_wrap k]; exact igNorm a b w
/-- What the first statement leaves: a number and its norm. -/
def CutXN (W : World) (x y n : Int) (v u : Value) (wx : World) : Prop := ∃ X, v = .pointer (some ⟨X, 0, none⟩) ∧ u = .int .i64 n ∧ wx.cell? ⟨X, 0, none⟩ = some (.int .i64 x) ∧ wx.cell? ⟨X, 1, none⟩ = some (.int .i64 y) ∧ Below W.heap.size W wx

set_option maxHeartbeats 4000000 in
theorem igDivided (a b c d : Int) (w : World) (h : dvO a b c d = true) : Calls Try.prog 69 #[.agg #[.int .i64 a, .int .i64 b], .agg #[.int .i64 c, .int .i64 d]] w fun e w' => e = .returned (.tuple #[.agg #[.int .i64 (qA a b c d), .int .i64 (qB a b c d)], .agg #[.int .i64 (rA a b c d), .int .i64 (rB a b c d)]]) ∧ Below w.heap.size w w' := by
  obtain ⟨k1, k2, h0⟩ := dv_is h
  obtain ⟨a1, a2, b1, b2⟩ := gok_bd k1
  obtain ⟨c1, c2, d1, d2⟩ := gok_bd k2
  obtain ⟨N, p1, p2, x, y, u, v, eN, hN, hN2, e1, e2, i1, i2, i3, i4, f1, f2, j1, j2, j3, j4, g1, g2, l1, l2, l3, l4, q1, q2, q3, q4⟩ := dv_all h
  rw [q1, q2, q3, q4]
  clear q1 q2 q3 q4 h0
  have s1 : a + -u = a - u := by omega
  have s2 : b + -v = b - v := by omega
  go_enter Try.func69, Try.ntmps69
  go_upto_region 1 with fail
  refine wp_name ?_
  intro w0 hb0
  (have hz0 := hb0.size; (repeat (first | rw [World.size_alloc] at hz0 | rw [World.size_setCell] at hz0 | rw [World.size_drew] at hz0)); have pp := C2.K hb0 (b := w.heap.size) (x := _) (y := _) (c2A); obtain ⟨kk1, kk2⟩ := pp; have pp := C2.K hb0 (b := w.heap.size + 1) (x := _) (y := _) (c2A); obtain ⟨kk3, kk4⟩ := pp; have pp := T2.K hb0 (b := w.heap.size + 1 + 1) (x := _) (y := _) (t2A); obtain ⟨kk5, kk6, fkk5, fkk6⟩ := pp; have pp := T2.K hb0 (b := w.heap.size + 1 + 1 + 1) (x := _) (y := _) (t2A); obtain ⟨kk7, kk8, fkk7, fkk8⟩ := pp)
  go_cut [6, 7] (fun v6 v7 wx => CutXN w0 p1 p2 N v6 v7 wx)
  case first =>
    (go_region_held3 (fun w' => w'.cell? ⟨w.heap.size, 0, none⟩ = some (.int .i64 (a)) ∧ w'.cell? ⟨w.heap.size, 1, none⟩ = some (.int .i64 (b)) ∧ w'.cell? ⟨w.heap.size + 1, 0, none⟩ = some (.int .i64 (c)) ∧ w'.cell? ⟨w.heap.size + 1, 1, none⟩ = some (.int .i64 (d))) (first | (go_keep; done) | ((try dsimp only); refine ⟨?_, ?_, ?_, ?_⟩ <;> exact kcA)) (first | (go_at_call 80; obtain ⟨q0, q1, q2, q3⟩ := ‹_ ∧ _ ∧ _ ∧ _›; refine (igOver_v _ (by omega) (by omega) rfl).mono ?_; rintro e w1 ⟨rfl, hb1⟩; have hz1 := hb1.size; (repeat (first | rw [World.size_alloc] at hz1 | rw [World.size_setCell] at hz1 | rw [World.size_drew] at hz1)); have kk9 := keep hb1 q0; have kk10 := keep hb1 q1; have kk11 := keep hb1 q2; have kk12 := keep hb1 q3; obtain ⟨hc1, hf1⟩ := bcell hb1; (try (have pp := T2.K hb1 (b := w0.heap.size) (x := _) (y := _) (t2A); obtain ⟨kk13, kk14, fkk13, fkk14⟩ := pp)); (try (have pp := T2.K hb1 (b := w3.heap.size) (x := _) (y := _) (t2A); obtain ⟨kk15, kk16, fkk15, fkk16⟩ := pp)); clear q0 q1 q2 q3) | (go_at_call 48; obtain ⟨q0, q1, q2, q3⟩ := ‹_ ∧ _ ∧ _ ∧ _›; refine (igTimes_v _ (by omega) (by omega) (by omega) (by omega) c1 c2 (by omega) (by omega) e1 e2).mono ?_; rintro e w2 ⟨rfl, hb2⟩; have hz2 := hb2.size; (repeat (first | rw [World.size_alloc] at hz2 | rw [World.size_setCell] at hz2 | rw [World.size_drew] at hz2)); have kk17 := keep hb2 q0; have kk18 := keep hb2 q1; have kk19 := keep hb2 q2; have kk20 := keep hb2 q3; obtain ⟨hc2, hf2⟩ := bcell hb2; (try (have pp := T2.K hb2 (b := w0.heap.size) (x := _) (y := _) (t2A); obtain ⟨kk21, kk22, fkk21, fkk22⟩ := pp)); (try (have pp := T2.K hb2 (b := w1.heap.size) (x := _) (y := _) (t2A); obtain ⟨kk23, kk24, fkk23, fkk24⟩ := pp)); (try (have pp := T2.K hb2 (b := w3.heap.size) (x := _) (y := _) (t2A); obtain ⟨kk25, kk26, fkk25, fkk26⟩ := pp)); clear q0 q1 q2 q3) | (go_at_call 64; obtain ⟨q0, q1, q2, q3⟩ := ‹_ ∧ _ ∧ _ ∧ _›; refine (igNorm_v _ k2 eN).mono ?_; rintro e w3 ⟨rfl, hb3⟩; have hz3 := hb3.size; (repeat (first | rw [World.size_alloc] at hz3 | rw [World.size_setCell] at hz3 | rw [World.size_drew] at hz3)); have kk27 := keep hb3 q0; have kk28 := keep hb3 q1; have kk29 := keep hb3 q2; have kk30 := keep hb3 q3; obtain ⟨hc3, hf3⟩ := bcell hb3; (try (have pp := T2.K hb3 (b := w0.heap.size) (x := _) (y := _) (t2A); obtain ⟨kk31, kk32, fkk31, fkk32⟩ := pp)); (try (have pp := T2.K hb3 (b := w1.heap.size) (x := _) (y := _) (t2A); obtain ⟨kk33, kk34, fkk33, fkk34⟩ := pp)); (try (have pp := T2.K hb3 (b := w2.heap.size) (x := _) (y := _) (t2A); obtain ⟨kk35, kk36, fkk35, fkk36⟩ := pp)); clear q0 q1 q2 q3)); (try clear kk1 kk2 kk3 kk4 kk5 kk6 fkk5 fkk6 kk7 kk8 fkk7 fkk8))
    all_goals (go_wp2_with fail; go_meet; exact ⟨_, rfl, rfl, kcA, kcA, blA⟩)
  case rest =>
    obtain ⟨X, rfl, rfl, m0, m1, hbx⟩ := hcut
    have hX := World.block_lt_of_cell? _ _ m0
    simp only at hX
    (have hzx := hbx.size; (repeat (first | rw [World.size_alloc] at hzx | rw [World.size_setCell] at hzx | rw [World.size_drew] at hzx)); have pp := C2.K hbx (b := w.heap.size) (x := _) (y := _) (c2A); obtain ⟨kk37, kk38⟩ := pp; have pp := C2.K hbx (b := w.heap.size + 1) (x := _) (y := _) (c2A); obtain ⟨kk39, kk40⟩ := pp; have pp := T2.K hbx (b := w.heap.size + 1 + 1) (x := _) (y := _) (t2A); obtain ⟨kk41, kk42, fkk41, fkk42⟩ := pp; have pp := T2.K hbx (b := w.heap.size + 1 + 1 + 1) (x := _) (y := _) (t2A); obtain ⟨kk43, kk44, fkk43, fkk44⟩ := pp; (try clear kk9 kk10 kk11 kk12 kk13 kk14 fkk13 fkk14 kk15 kk16 fkk15 fkk16 kk17 kk18 kk19 kk20 kk21 kk22 fkk21 fkk22 kk23 kk24 fkk23 fkk24 kk25 kk26 fkk25 fkk26 kk27 kk28 kk29 kk30 kk31 kk32 fkk31 fkk32 kk33 kk34 fkk33 fkk34 kk35 kk36 fkk35 fkk36))
    go_upto_region 2 with fail
    refine wp_name ?_
    intro w4 hb4
    (have hz4 := hb4.size; (repeat (first | rw [World.size_alloc] at hz4 | rw [World.size_setCell] at hz4 | rw [World.size_drew] at hz4)); have pp := C2.K hb4 (b := X) (x := _) (y := _) (c2A); obtain ⟨kk45, kk46⟩ := pp; have pp := C2.K hb4 (b := w.heap.size) (x := _) (y := _) (c2A); obtain ⟨kk47, kk48⟩ := pp; have pp := C2.K hb4 (b := w.heap.size + 1) (x := _) (y := _) (c2A); obtain ⟨kk49, kk50⟩ := pp; have pp := T2.K hb4 (b := w.heap.size + 1 + 1) (x := _) (y := _) (t2A); obtain ⟨kk51, kk52, fkk51, fkk52⟩ := pp; have pp := T2.K hb4 (b := w.heap.size + 1 + 1 + 1) (x := _) (y := _) (t2A); obtain ⟨kk53, kk54, fkk53, fkk54⟩ := pp; (try clear kk37 kk38 kk39 kk40 kk41 kk42 fkk41 fkk42 kk43 kk44 fkk43 fkk44))
    go_cut [8] (fun v8 wx => CutX w4 x y v8 wx)
    case first =>
      (go_region_held3 (fun w' => w'.cell? ⟨X, 0, none⟩ = some (.int .i64 (p1)) ∧ w'.cell? ⟨X, 1, none⟩ = some (.int .i64 (p2))) (first | (go_keep; done) | ((try dsimp only); refine ⟨?_, ?_⟩ <;> exact kcA)) (first | (go_at_call 81; obtain ⟨q0, q1⟩ := ‹_ ∧ _›; refine (nearest_v _ (by omega) (by omega) hN (by omega) (by first | exact f1 | exact f2)).mono ?_; rintro e w5 ⟨rfl, hb5⟩; have hz5 := hb5.size; (repeat (first | rw [World.size_alloc] at hz5 | rw [World.size_setCell] at hz5 | rw [World.size_drew] at hz5)); have kk55 := keep hb5 q0; have kk56 := keep hb5 q1; obtain ⟨hc5, hf5⟩ := bcell hb5; clear q0 q1)); (try clear kk45 kk46 kk47 kk48 kk49 kk50 kk51 kk52 fkk51 fkk52 kk53 kk54 fkk53 fkk54))
      all_goals (go_wp2_with fail; go_meet; exact ⟨_, rfl, by ((try simp only [World.size_alloc, World.size_setCell, World.size_drew]); omega), kcA, kcA, blA⟩)
    case rest =>
      obtain ⟨Y, rfl, mY, n0, n1, hby⟩ := hcut
      have hY := World.block_lt_of_cell? _ _ n0
      simp only at hY
      (have hzy := hby.size; (repeat (first | rw [World.size_alloc] at hzy | rw [World.size_setCell] at hzy | rw [World.size_drew] at hzy)); have pp := C2.K hby (b := w.heap.size) (x := _) (y := _) (c2A); obtain ⟨kk57, kk58⟩ := pp; have pp := C2.K hby (b := w.heap.size + 1) (x := _) (y := _) (c2A); obtain ⟨kk59, kk60⟩ := pp; have pp := T2.K hby (b := w.heap.size + 1 + 1) (x := _) (y := _) (t2A); obtain ⟨kk61, kk62, fkk61, fkk62⟩ := pp; have pp := T2.K hby (b := w.heap.size + 1 + 1 + 1) (x := _) (y := _) (t2A); obtain ⟨kk63, kk64, fkk63, fkk64⟩ := pp; (try clear kk55 kk56))
      go_upto_region 3 with fail
      refine wp_name ?_
      intro w6 hb6
      (have hz6 := hb6.size; (repeat (first | rw [World.size_alloc] at hz6 | rw [World.size_setCell] at hz6 | rw [World.size_drew] at hz6)); have pp := C2.K hb6 (b := Y) (x := _) (y := _) (c2A); obtain ⟨kk65, kk66⟩ := pp; have pp := C2.K hb6 (b := w.heap.size) (x := _) (y := _) (c2A); obtain ⟨kk67, kk68⟩ := pp; have pp := C2.K hb6 (b := w.heap.size + 1) (x := _) (y := _) (c2A); obtain ⟨kk69, kk70⟩ := pp; have pp := T2.K hb6 (b := w.heap.size + 1 + 1) (x := _) (y := _) (t2A); obtain ⟨kk71, kk72, fkk71, fkk72⟩ := pp; have pp := T2.K hb6 (b := w.heap.size + 1 + 1 + 1) (x := _) (y := _) (t2A); obtain ⟨kk73, kk74, fkk73, fkk74⟩ := pp; (try clear kk57 kk58 kk59 kk60 kk61 kk62 fkk61 fkk62 kk63 kk64 fkk63 fkk64))
      (go_region_held3 (fun w' => w'.cell? ⟨Y, 0, none⟩ = some (.int .i64 (x)) ∧ w'.cell? ⟨Y, 1, none⟩ = some (.int .i64 (y)) ∧ w'.cell? ⟨w.heap.size, 0, none⟩ = some (.int .i64 (a)) ∧ w'.cell? ⟨w.heap.size, 1, none⟩ = some (.int .i64 (b)) ∧ w'.cell? ⟨w.heap.size + 1, 0, none⟩ = some (.int .i64 (c)) ∧ w'.cell? ⟨w.heap.size + 1, 1, none⟩ = some (.int .i64 (d))) (first | (go_keep; done) | ((try dsimp only); refine ⟨?_, ?_, ?_, ?_, ?_, ?_⟩ <;> exact kcA)) (first | (go_at_call 48; obtain ⟨q0, q1, q2, q3, q4, q5⟩ := ‹_ ∧ _ ∧ _ ∧ _ ∧ _ ∧ _›; refine (igTimes_v _ (by omega) (by omega) (by omega) (by omega) c1 c2 d1 d2 g1 g2).mono ?_; rintro e w7 ⟨rfl, hb7⟩; have hz7 := hb7.size; (repeat (first | rw [World.size_alloc] at hz7 | rw [World.size_setCell] at hz7 | rw [World.size_drew] at hz7)); have kk75 := keep hb7 q0; have kk76 := keep hb7 q1; have kk77 := keep hb7 q2; have kk78 := keep hb7 q3; have kk79 := keep hb7 q4; have kk80 := keep hb7 q5; obtain ⟨hc7, hf7⟩ := bcell hb7; have pp := T2.K hb7 (b := w.heap.size + 1 + 1) (x := _) (y := _) (t2A); obtain ⟨kk81, kk82, fkk81, fkk82⟩ := pp; have pp := T2.K hb7 (b := w.heap.size + 1 + 1 + 1) (x := _) (y := _) (t2A); obtain ⟨kk83, kk84, fkk83, fkk84⟩ := pp; clear q0 q1 q2 q3 q4 q5) | (go_at_call 82; obtain ⟨q0, q1, q2, q3, q4, q5⟩ := ‹_ ∧ _ ∧ _ ∧ _ ∧ _ ∧ _›; refine (igMinus_v _ (by omega) (by omega) (by omega) (by omega) rfl rfl).mono ?_; rintro e w8 ⟨rfl, hb8⟩; have hz8 := hb8.size; (repeat (first | rw [World.size_alloc] at hz8 | rw [World.size_setCell] at hz8 | rw [World.size_drew] at hz8)); have kk85 := keep hb8 q0; have kk86 := keep hb8 q1; have kk87 := keep hb8 q2; have kk88 := keep hb8 q3; have kk89 := keep hb8 q4; have kk90 := keep hb8 q5; obtain ⟨hc8, hf8⟩ := bcell hb8; have pp := T2.K hb8 (b := w.heap.size + 1 + 1) (x := _) (y := _) (t2A); obtain ⟨kk91, kk92, fkk91, fkk92⟩ := pp; have pp := T2.K hb8 (b := w.heap.size + 1 + 1 + 1) (x := _) (y := _) (t2A); obtain ⟨kk93, kk94, fkk93, fkk94⟩ := pp; clear q0 q1 q2 q3 q4 q5) | (go_at_call 71; obtain ⟨q0, q1, q2, q3, q4, q5⟩ := ‹_ ∧ _ ∧ _ ∧ _ ∧ _ ∧ _›; refine (igPlus_v _ (by omega) (by omega) (by omega) (by omega) (by omega) (by omega) (by omega) (by omega) s1 s2).mono ?_; rintro e w9 ⟨rfl, hb9⟩; have hz9 := hb9.size; (repeat (first | rw [World.size_alloc] at hz9 | rw [World.size_setCell] at hz9 | rw [World.size_drew] at hz9)); have kk95 := keep hb9 q0; have kk96 := keep hb9 q1; have kk97 := keep hb9 q2; have kk98 := keep hb9 q3; have kk99 := keep hb9 q4; have kk100 := keep hb9 q5; obtain ⟨hc9, hf9⟩ := bcell hb9; have pp := T2.K hb9 (b := w.heap.size + 1 + 1) (x := _) (y := _) (t2A); obtain ⟨kk101, kk102, fkk101, fkk102⟩ := pp; have pp := T2.K hb9 (b := w.heap.size + 1 + 1 + 1) (x := _) (y := _) (t2A); obtain ⟨kk103, kk104, fkk103, fkk104⟩ := pp; clear q0 q1 q2 q3 q4 q5)); (try clear kk65 kk66 kk67 kk68 kk69 kk70 kk71 kk72 fkk71 fkk72 kk73 kk74 fkk73 fkk74))
      all_goals go_wp2_with fail
      all_goals refine bodyPost_ret (v := .tuple #[.agg #[.int .i64 x, .int .i64 y], .agg #[.int .i64 (a - u), .int .i64 (b - v)]]) (by simp [results, Try.results69, go_sem, *]) rfl ?_; exact ⟨rfl, blA⟩

theorem iDividedBy (a b c d : Int) (w : World) : Calls Try.prog 49 #[.agg #[.int .i64 a, .int .i64 b], .agg #[.int .i64 c, .int .i64 d]] w fun e w' => e = .returned (.tuple #[.agg #[.int .i64 (dqA a b c d), .int .i64 (dqB a b c d)], .agg #[.int .i64 (drA a b c d), .int .i64 (drB a b c d)], .bool (dvO a b c d)]) ∧ Below w.heap.size w w' := by
  cases k1 : gok a b
  · have hd : dvO a b c d = false := by simp [dvO, k1]
    obtain ⟨e1, e2, e3, e4⟩ := dv_f hd
    rw [hd, e1, e2, e3, e4]
    clear e1 e2 e3 e4 hd
    go_enter Try.func49, Try.ntmps49
    go_wp2_with fail
    (refine (iGaussOk _ _ _).mono ?_; rintro e w1 ⟨rfl, hb1⟩; have hz1 := hb1.size; (repeat (first | rw [World.size_alloc] at hz1 | rw [World.size_setCell] at hz1 | rw [World.size_drew] at hz1)); have pp := C2.K hb1 (b := w.heap.size) (x := _) (y := _) (c2A); obtain ⟨kk1, kk2⟩ := pp; have pp := C2.K hb1 (b := w.heap.size + 1) (x := _) (y := _) (c2A); obtain ⟨kk3, kk4⟩ := pp; have pp := T2.K hb1 (b := w.heap.size + 1 + 1) (x := _) (y := _) (t2A); obtain ⟨kk5, kk6, fkk5, fkk6⟩ := pp; have pp := T2.K hb1 (b := w.heap.size + 1 + 1 + 1) (x := _) (y := _) (t2A); obtain ⟨kk7, kk8, fkk7, fkk8⟩ := pp)
    go_wp2_with fail
    refine bodyPost_ret (v := .tuple #[.agg #[.int .i64 0, .int .i64 0], .agg #[.int .i64 0, .int .i64 0], .bool false]) (by simp [results, Try.results49, go_sem, *]) rfl ?_; exact ⟨rfl, blA⟩
  cases k2 : gok c d
  · have hd : dvO a b c d = false := by simp [dvO, k2]
    obtain ⟨e1, e2, e3, e4⟩ := dv_f hd
    rw [hd, e1, e2, e3, e4]
    clear e1 e2 e3 e4 hd
    go_enter Try.func49, Try.ntmps49
    go_wp2_with fail
    (refine (iGaussOk _ _ _).mono ?_; rintro e w1 ⟨rfl, hb1⟩; have hz1 := hb1.size; (repeat (first | rw [World.size_alloc] at hz1 | rw [World.size_setCell] at hz1 | rw [World.size_drew] at hz1)); have pp := C2.K hb1 (b := w.heap.size) (x := _) (y := _) (c2A); obtain ⟨kk9, kk10⟩ := pp; have pp := C2.K hb1 (b := w.heap.size + 1) (x := _) (y := _) (c2A); obtain ⟨kk11, kk12⟩ := pp; have pp := T2.K hb1 (b := w.heap.size + 1 + 1) (x := _) (y := _) (t2A); obtain ⟨kk13, kk14, fkk13, fkk14⟩ := pp; have pp := T2.K hb1 (b := w.heap.size + 1 + 1 + 1) (x := _) (y := _) (t2A); obtain ⟨kk15, kk16, fkk15, fkk16⟩ := pp; (try clear kk1 kk2 kk3 kk4 kk5 kk6 fkk5 fkk6 kk7 kk8 fkk7 fkk8))
    go_wp2_with fail
    (refine (iGaussOk _ _ _).mono ?_; rintro e w2 ⟨rfl, hb2⟩; have hz2 := hb2.size; (repeat (first | rw [World.size_alloc] at hz2 | rw [World.size_setCell] at hz2 | rw [World.size_drew] at hz2)); have pp := C2.K hb2 (b := w.heap.size) (x := _) (y := _) (c2A); obtain ⟨kk17, kk18⟩ := pp; have pp := C2.K hb2 (b := w.heap.size + 1) (x := _) (y := _) (c2A); obtain ⟨kk19, kk20⟩ := pp; have pp := T2.K hb2 (b := w.heap.size + 1 + 1) (x := _) (y := _) (t2A); obtain ⟨kk21, kk22, fkk21, fkk22⟩ := pp; have pp := T2.K hb2 (b := w.heap.size + 1 + 1 + 1) (x := _) (y := _) (t2A); obtain ⟨kk23, kk24, fkk23, fkk24⟩ := pp; (try clear kk9 kk10 kk11 kk12 kk13 kk14 fkk13 fkk14 kk15 kk16 fkk15 fkk16))
    go_wp2_with fail
    refine bodyPost_ret (v := .tuple #[.agg #[.int .i64 0, .int .i64 0], .agg #[.int .i64 0, .int .i64 0], .bool false]) (by simp [results, Try.results49, go_sem, *]) rfl ?_; exact ⟨rfl, blA⟩
  cases hz : (c == 0 && d == 0)
  case true =>
    have hd : dvO a b c d = false := by simp [dvO, hz]
    obtain ⟨e1, e2, e3, e4⟩ := dv_f hd
    rw [hd, e1, e2, e3, e4]
    clear e1 e2 e3 e4 hd
    go_enter Try.func49, Try.ntmps49
    go_wp2_with fail
    (refine (iGaussOk _ _ _).mono ?_; rintro e w1 ⟨rfl, hb1⟩; have hz1 := hb1.size; (repeat (first | rw [World.size_alloc] at hz1 | rw [World.size_setCell] at hz1 | rw [World.size_drew] at hz1)); have pp := C2.K hb1 (b := w.heap.size) (x := _) (y := _) (c2A); obtain ⟨kk25, kk26⟩ := pp; have pp := C2.K hb1 (b := w.heap.size + 1) (x := _) (y := _) (c2A); obtain ⟨kk27, kk28⟩ := pp; have pp := T2.K hb1 (b := w.heap.size + 1 + 1) (x := _) (y := _) (t2A); obtain ⟨kk29, kk30, fkk29, fkk30⟩ := pp; have pp := T2.K hb1 (b := w.heap.size + 1 + 1 + 1) (x := _) (y := _) (t2A); obtain ⟨kk31, kk32, fkk31, fkk32⟩ := pp; (try clear kk17 kk18 kk19 kk20 kk21 kk22 fkk21 fkk22 kk23 kk24 fkk23 fkk24))
    go_wp2_with fail
    (refine (iGaussOk _ _ _).mono ?_; rintro e w2 ⟨rfl, hb2⟩; have hz2 := hb2.size; (repeat (first | rw [World.size_alloc] at hz2 | rw [World.size_setCell] at hz2 | rw [World.size_drew] at hz2)); have pp := C2.K hb2 (b := w.heap.size) (x := _) (y := _) (c2A); obtain ⟨kk33, kk34⟩ := pp; have pp := C2.K hb2 (b := w.heap.size + 1) (x := _) (y := _) (c2A); obtain ⟨kk35, kk36⟩ := pp; have pp := T2.K hb2 (b := w.heap.size + 1 + 1) (x := _) (y := _) (t2A); obtain ⟨kk37, kk38, fkk37, fkk38⟩ := pp; have pp := T2.K hb2 (b := w.heap.size + 1 + 1 + 1) (x := _) (y := _) (t2A); obtain ⟨kk39, kk40, fkk39, fkk40⟩ := pp; (try clear kk25 kk26 kk27 kk28 kk29 kk30 fkk29 fkk30 kk31 kk32 fkk31 fkk32))
    go_wp2_with fail
    refine bodyPost_ret (v := .tuple #[.agg #[.int .i64 0, .int .i64 0], .agg #[.int .i64 0, .int .i64 0], .bool false]) (by simp [results, Try.results49, go_sem, *]) rfl ?_; exact ⟨rfl, blA⟩
  have hd : dvO a b c d = true := by simp [dvO, hz, k1, k2]
  obtain ⟨e1, e2, e3, e4⟩ := dv_t hd
  rw [hd, e1, e2, e3, e4]
  clear e1 e2 e3 e4
  go_enter Try.func49, Try.ntmps49
  go_wp2_with fail
  (refine (iGaussOk _ _ _).mono ?_; rintro e w1 ⟨rfl, hb1⟩; have hz1 := hb1.size; (repeat (first | rw [World.size_alloc] at hz1 | rw [World.size_setCell] at hz1 | rw [World.size_drew] at hz1)); have pp := C2.K hb1 (b := w.heap.size) (x := _) (y := _) (c2A); obtain ⟨kk41, kk42⟩ := pp; have pp := C2.K hb1 (b := w.heap.size + 1) (x := _) (y := _) (c2A); obtain ⟨kk43, kk44⟩ := pp; have pp := T2.K hb1 (b := w.heap.size + 1 + 1) (x := _) (y := _) (t2A); obtain ⟨kk45, kk46, fkk45, fkk46⟩ := pp; have pp := T2.K hb1 (b := w.heap.size + 1 + 1 + 1) (x := _) (y := _) (t2A); obtain ⟨kk47, kk48, fkk47, fkk48⟩ := pp; (try clear kk33 kk34 kk35 kk36 kk37 kk38 fkk37 fkk38 kk39 kk40 fkk39 fkk40))
  go_wp2_with fail
  (refine (iGaussOk _ _ _).mono ?_; rintro e w2 ⟨rfl, hb2⟩; have hz2 := hb2.size; (repeat (first | rw [World.size_alloc] at hz2 | rw [World.size_setCell] at hz2 | rw [World.size_drew] at hz2)); have pp := C2.K hb2 (b := w.heap.size) (x := _) (y := _) (c2A); obtain ⟨kk49, kk50⟩ := pp; have pp := C2.K hb2 (b := w.heap.size + 1) (x := _) (y := _) (c2A); obtain ⟨kk51, kk52⟩ := pp; have pp := T2.K hb2 (b := w.heap.size + 1 + 1) (x := _) (y := _) (t2A); obtain ⟨kk53, kk54, fkk53, fkk54⟩ := pp; have pp := T2.K hb2 (b := w.heap.size + 1 + 1 + 1) (x := _) (y := _) (t2A); obtain ⟨kk55, kk56, fkk55, fkk56⟩ := pp; (try clear kk41 kk42 kk43 kk44 kk45 kk46 fkk45 fkk46 kk47 kk48 fkk47 fkk48))
  go_wp2_with fail
  (refine (igDivided a b c d _ hd).mono ?_; rintro e w3 ⟨rfl, hb3⟩; have hz3 := hb3.size; (repeat (first | rw [World.size_alloc] at hz3 | rw [World.size_setCell] at hz3 | rw [World.size_drew] at hz3)); have pp := T2.K hb3 (b := w.heap.size + 1 + 1) (x := _) (y := _) (t2A); obtain ⟨kk57, kk58, fkk57, fkk58⟩ := pp; have pp := T2.K hb3 (b := w.heap.size + 1 + 1 + 1) (x := _) (y := _) (t2A); obtain ⟨kk59, kk60, fkk59, fkk60⟩ := pp; (try clear kk49 kk50 kk51 kk52 kk53 kk54 fkk53 fkk54 kk55 kk56 fkk55 fkk56))
  go_wp2_with fail
  go_region
  all_goals go_wp2_with fail
  all_goals refine bodyPost_ret (v := .tuple #[.agg #[.int .i64 (qA a b c d), .int .i64 (qB a b c d)], .agg #[.int .i64 (rA a b c d), .int .i64 (rB a b c d)], .bool true]) (by simp [results, Try.results49, go_sem, *]) rfl ?_; exact ⟨rfl, blA⟩
theorem iDividedBy_v {a b c d q1 q2 r1 r2 : Int} {o : Bool} (w : World) (h : dvO a b c d = o ∧ dqA a b c d = q1 ∧ dqB a b c d = q2 ∧ drA a b c d = r1 ∧ drB a b c d = r2) : Calls Try.prog 49 #[.agg #[.int .i64 a, .int .i64 b], .agg #[.int .i64 c, .int .i64 d]] w fun e w' => e = .returned (.tuple #[.agg #[.int .i64 q1, .int .i64 q2], .agg #[.int .i64 r1, .int .i64 r2], .bool o]) ∧ Below w.heap.size w w' := by
  obtain ⟨rfl, rfl, rfl, rfl, rfl⟩ := h; exact iDividedBy a b c d w
end Go.Proofs.Ytggebkgfldmipaa
