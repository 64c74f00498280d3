import Derived.Test.YtggebkgfldmipaaMi
import Derived.Test.YtggebkgfldmipaaPe
import Derived.Test.YtggebkgfldmipaaOk
import Derived.Test.YtggebkgfldmipaaOe
import Derived.Deep.RegionHeld3
import Derived.Deep.DeepCutAuto
import Derived.BigRegion
namespace Go.Proofs.Ytggebkgfldmipaa
open Go Go.RowKit
attribute [local go_sem] World.cell?_alloc_some cell?_alloc2_some cell?_alloc3_some cell?_alloc4_some frozen?_alloc_some frozen?_alloc2_some frozen?_alloc3_some World.cell?_setCell_far new_ne0 new_ne1 new_ne2 new_ne3 lt2 lt3 lt4 lt5 lt6 lt7 lt8 lt9
attribute [local go_sem ↓] eqG neG
attribute [local go_sem] cell?_alloc_lt frozen?_alloc_lt lt10

/-- What a division of a great number by a modulus gives, with bounds. -/
theorem dv_wide {a b c d : Int} (ha : Bd a) (hb : Bd b) (hm : mdO c d = true) : ∃ N p1 p2 x y u v, c * c + d * d = N ∧ 0 < N ∧ N ≤ 100 ∧ a * c - b * -d = p1 ∧ a * -d + b * c = p2 ∧ -8000000000000 ≤ p1 ∧ p1 ≤ 8000000000000 ∧ -8000000000000 ≤ p2 ∧ p2 ≤ 8000000000000 ∧
    nr p1 N = x ∧ nr p2 N = y ∧ -8000000000001 ≤ x ∧ x ≤ 8000000000001 ∧ -8000000000001 ≤ y ∧ y ≤ 8000000000001 ∧ x * c - y * d = u ∧ x * d + y * c = v ∧ -900000000000000 ≤ u ∧ u ≤ 900000000000000 ∧ -900000000000000 ≤ v ∧ v ≤ 900000000000000 ∧
    qA a b c d = x ∧ qB a b c d = y ∧ rA a b c d = a - u ∧ rB a b c d = b - v := by
  obtain ⟨h0, h100⟩ := md_nG hm
  obtain ⟨c1, c2, d1, d2⟩ := mod_bd h100
  change 0 < c * c + d * d at h0
  change c * c + d * d ≤ 100 at h100
  dsimp only at c1 c2 d1 d2
  have m1 := mul_bdx (K := 400000000000) (L := 10) ha.1 ha.2 c1 c2
  have m2 := mul_bdx (K := 400000000000) (L := 10) hb.1 hb.2 d1 d2
  have m3 := mul_bdx (K := 400000000000) (L := 10) ha.1 ha.2 d1 d2
  have m4 := mul_bdx (K := 400000000000) (L := 10) hb.1 hb.2 c1 c2
  have e1 : a * c - b * -d = a * c + b * d := by grind
  have e2 : a * -d + b * c = b * c - a * d := by grind
  have n1 := nr_le (n := a * c + b * d) (k := 8000000000000) h0 (by omega) (by omega)
  have n2 := nr_le (n := b * c - a * d) (k := 8000000000000) h0 (by omega) (by omega)
  refine ⟨_, _, _, _, _, _, _, rfl, h0, by omega, e1, e2, by omega, by omega, by omega, by omega, rfl, rfl, n1.1, n1.2, n2.1, n2.2, rfl, rfl, ?_, ?_, ?_, ?_, rfl, rfl, rfl, rfl⟩
  all_goals
    have q1 := mul_bdx (K := 8000000000001) (L := 10) n1.1 n1.2 c1 c2
    have q2 := mul_bdx (K := 8000000000001) (L := 10) n2.1 n2.2 d1 d2
    have q3 := mul_bdx (K := 8000000000001) (L := 10) n1.1 n1.2 d1 d2
    have q4 := mul_bdx (K := 8000000000001) (L := 10) n2.1 n2.2 c1 c2
    omega
theorem nearest_w {n m x : Int} (w : World) (h1 : -8000000000000 ≤ n) (h2 : n ≤ 8000000000000) (h3 : 0 < m) (h4 : m ≤ 100) (h : nr n m = x) : Calls Try.prog 81 #[.int .i64 n, .int .i64 m] w fun e w' => e = .returned (.int .i64 x) ∧ Below w.heap.size w w' := by
  subst h
  obtain ⟨b1, b2⟩ := nr_le (k := 8000000000000) h3 h1 h2
  have hz : (2 * m == 0) = false := by simp; omega
  rcases tdiv_nr (n := n) h3 with ⟨ht, he⟩ | ⟨ht, he⟩
  · have hd : decide ((2 * n + m).tmod (2 * m) < 0) = true := decide_eq_true ht
    have hw1 : IntKind.i64.wrap (nr n m + 1) = nr n m + 1 := IntWalk.i64_in _ (by omega)
    have hw2 : IntKind.i64.wrap (nr n m) = nr n m := IntWalk.i64_in _ (by omega)
    clear ht
    go_enter Try.func81, Try.ntmps81
    go_wp2_with fail
    go_returns
    exact ⟨by simp, blA⟩
  · have hd : decide ((2 * n + m).tmod (2 * m) < 0) = false := decide_eq_false ht
    have hw2 : IntKind.i64.wrap (nr n m) = nr n m := IntWalk.i64_in _ (by omega)
    clear ht
    go_enter Try.func81, Try.ntmps81
    go_wp2_with fail
    go_returns
    exact ⟨rfl, blA⟩
theorem igMinus_w {a b x y : Int} (w : World) (h1 : -1000000000000000 ≤ a) (h2 : a ≤ 1000000000000000) (h3 : -1000000000000000 ≤ b) (h4 : b ≤ 1000000000000000) (hx : -a = x) (hy : -b = y) : Calls Try.prog 82 #[.agg #[.int .i64 a, .int .i64 b]] w fun e w' => e = .returned (.agg #[.int .i64 x, .int .i64 y]) ∧ Below w.heap.size w w' := by
  subst hx hy; exact igMinus a b w (by omega) (by omega) (by omega) (by omega)
theorem igPlus_w {a b c d x y : Int} (w : World) (ha1 : -1000000000000000 ≤ a) (ha2 : a ≤ 1000000000000000) (hb1 : -1000000000000000 ≤ b) (hb2 : b ≤ 1000000000000000) (hc1 : -1000000000000000 ≤ c) (hc2 : c ≤ 1000000000000000) (hd1 : -1000000000000000 ≤ d) (hd2 : d ≤ 1000000000000000) (hx : a + c = x) (hy : b + d = y) : Calls Try.prog 71 #[.agg #[.int .i64 a, .int .i64 b], .agg #[.int .i64 c, .int .i64 d]] w fun e w' => e = .returned (.agg #[.int .i64 x, .int .i64 y]) ∧ Below w.heap.size w w' := by
  subst hx hy
  refine (igPlus a b c d w).mono ?_
  rintro e w' ⟨rfl, hb⟩
  refine ⟨?_, hb⟩
  rw [IntWalk.wrap64_in _ (by omega), IntWalk.wrap64_in _ (by omega)]
theorem igTimes_w {a b c d x y : Int} (w : World) (ha1 : -8000000000001 ≤ a) (ha2 : a ≤ 8000000000001) (hb1 : -8000000000001 ≤ b) (hb2 : b ≤ 8000000000001) (hc1 : -10 ≤ c) (hc2 : c ≤ 10) (hd1 : -10 ≤ d) (hd2 : d ≤ 10) (hx : a * c - b * d = x) (hy : a * d + b * c = y) :
    Calls Try.prog 48 #[.agg #[.int .i64 a, .int .i64 b], .agg #[.int .i64 c, .int .i64 d]] w fun e w' => e = .returned (.agg #[.int .i64 x, .int .i64 y]) ∧ Below w.heap.size w w' := by
  subst hx hy
  have m1 := mul_bdx ha1 ha2 hc1 hc2
  have m2 := mul_bdx hb1 hb2 hd1 hd2
  have m3 := mul_bdx ha1 ha2 hd1 hd2
  have m4 := mul_bdx hb1 hb2 hc1 hc2
  refine (igTimes a b c d w).mono ?_
  rintro e w' ⟨rfl, hb⟩
  refine ⟨?_, hb⟩
  rw [IntWalk.wrap64_in (a * c) (by omega), IntWalk.wrap64_in (b * d) (by omega), IntWalk.wrap64_in (a * d) (by omega), IntWalk.wrap64_in (b * c) (by omega), IntWalk.wrap64_in _ (by omega), IntWalk.wrap64_in _ (by omega)]

set_option maxHeartbeats 4000000 in
theorem igDivided_w {a b c d r1 r2 : Int} (w : World) (ha : Bd a) (hb : Bd b) (hm : mdO c d = true) (hr1 : rA a b c d = r1) (hr2 : rB a b c d = r2) : Calls Try.prog 69 #[.agg #[.int .i64 a, .int .i64 b], .agg #[.int .i64 c, .int .i64 d]] w fun e w' => ∃ x y, e = .returned (.tuple #[.agg #[.int .i64 x, .int .i64 y], .agg #[.int .i64 r1, .int .i64 r2]]) ∧ Below w.heap.size w w' := by
  obtain ⟨c1, c2, d1, d2⟩ := mod_bd (md_nG hm).2
  have k2 := (md_is hm).1
  dsimp only at c1 c2 d1 d2
  obtain ⟨a1, a2⟩ := id ha
  obtain ⟨b1, b2⟩ := id hb
  obtain ⟨N, p1, p2, x, y, u, v, eN, hN, hN2, e1, e2, i1, i2, i3, i4, f1, f2, j1, j2, j3, j4, g1, g2, l1, l2, l3, l4, q1, q2, q3, q4⟩ := dv_wide ha hb hm
  have s1 : a + -u = r1 := by omega
  have s2 : b + -v = r2 := by omega
  clear q1 q2 q3 q4 hr1 hr2 ha hb hm
  go_enter Try.func69, Try.ntmps69
  go_upto_region 1 with fail
  refine wp_name ?_
  intro w0 hb0
  (have hz0 := hb0.size; (repeat (first | rw [World.size_alloc] at hz0 | rw [World.size_setCell] at hz0 | rw [World.size_drew] at hz0)); have pp := C2.K hb0 (b := w.heap.size) (x := _) (y := _) (c2A); obtain ⟨kk1, kk2⟩ := pp; have pp := C2.K hb0 (b := w.heap.size + 1) (x := _) (y := _) (c2A); obtain ⟨kk3, kk4⟩ := pp; have pp := T2.K hb0 (b := w.heap.size + 1 + 1) (x := _) (y := _) (t2A); obtain ⟨kk5, kk6, fkk5, fkk6⟩ := pp; have pp := T2.K hb0 (b := w.heap.size + 1 + 1 + 1) (x := _) (y := _) (t2A); obtain ⟨kk7, kk8, fkk7, fkk8⟩ := pp)
  go_cut [6, 7] (fun v6 v7 wx => CutXN w0 p1 p2 N v6 v7 wx)
  case first =>
    (go_region_held3 (fun w' => w'.cell? ⟨w.heap.size, 0, none⟩ = some (.int .i64 (a)) ∧ w'.cell? ⟨w.heap.size, 1, none⟩ = some (.int .i64 (b)) ∧ w'.cell? ⟨w.heap.size + 1, 0, none⟩ = some (.int .i64 (c)) ∧ w'.cell? ⟨w.heap.size + 1, 1, none⟩ = some (.int .i64 (d))) (first | (go_keep; done) | ((try dsimp only); refine ⟨?_, ?_, ?_, ?_⟩ <;> exact kcA)) (first | (go_at_call 80; obtain ⟨q0, q1, q2, q3⟩ := ‹_ ∧ _ ∧ _ ∧ _›; refine (igOver_v _ (by omega) (by omega) rfl).mono ?_; rintro e w1 ⟨rfl, hb1⟩; have hz1 := hb1.size; (repeat (first | rw [World.size_alloc] at hz1 | rw [World.size_setCell] at hz1 | rw [World.size_drew] at hz1)); have kk9 := keep hb1 q0; have kk10 := keep hb1 q1; have kk11 := keep hb1 q2; have kk12 := keep hb1 q3; obtain ⟨hc1, hf1⟩ := bcell hb1; (try (have pp := T2.K hb1 (b := w0.heap.size) (x := _) (y := _) (t2A); obtain ⟨kk13, kk14, fkk13, fkk14⟩ := pp)); (try (have pp := T2.K hb1 (b := w3.heap.size) (x := _) (y := _) (t2A); obtain ⟨kk15, kk16, fkk15, fkk16⟩ := pp)); clear q0 q1 q2 q3) | (go_at_call 48; obtain ⟨q0, q1, q2, q3⟩ := ‹_ ∧ _ ∧ _ ∧ _›; refine (igTimes_w _ (by omega) (by omega) (by omega) (by omega) c1 c2 (by omega) (by omega) e1 e2).mono ?_; rintro e w2 ⟨rfl, hb2⟩; have hz2 := hb2.size; (repeat (first | rw [World.size_alloc] at hz2 | rw [World.size_setCell] at hz2 | rw [World.size_drew] at hz2)); have kk17 := keep hb2 q0; have kk18 := keep hb2 q1; have kk19 := keep hb2 q2; have kk20 := keep hb2 q3; obtain ⟨hc2, hf2⟩ := bcell hb2; (try (have pp := T2.K hb2 (b := w0.heap.size) (x := _) (y := _) (t2A); obtain ⟨kk21, kk22, fkk21, fkk22⟩ := pp)); (try (have pp := T2.K hb2 (b := w1.heap.size) (x := _) (y := _) (t2A); obtain ⟨kk23, kk24, fkk23, fkk24⟩ := pp)); (try (have pp := T2.K hb2 (b := w3.heap.size) (x := _) (y := _) (t2A); obtain ⟨kk25, kk26, fkk25, fkk26⟩ := pp)); clear q0 q1 q2 q3) | (go_at_call 64; obtain ⟨q0, q1, q2, q3⟩ := ‹_ ∧ _ ∧ _ ∧ _›; refine (igNorm_v _ k2 eN).mono ?_; rintro e w3 ⟨rfl, hb3⟩; have hz3 := hb3.size; (repeat (first | rw [World.size_alloc] at hz3 | rw [World.size_setCell] at hz3 | rw [World.size_drew] at hz3)); have kk27 := keep hb3 q0; have kk28 := keep hb3 q1; have kk29 := keep hb3 q2; have kk30 := keep hb3 q3; obtain ⟨hc3, hf3⟩ := bcell hb3; (try (have pp := T2.K hb3 (b := w0.heap.size) (x := _) (y := _) (t2A); obtain ⟨kk31, kk32, fkk31, fkk32⟩ := pp)); (try (have pp := T2.K hb3 (b := w1.heap.size) (x := _) (y := _) (t2A); obtain ⟨kk33, kk34, fkk33, fkk34⟩ := pp)); (try (have pp := T2.K hb3 (b := w2.heap.size) (x := _) (y := _) (t2A); obtain ⟨kk35, kk36, fkk35, fkk36⟩ := pp)); clear q0 q1 q2 q3)); (try clear kk1 kk2 kk3 kk4 kk5 kk6 fkk5 fkk6 kk7 kk8 fkk7 fkk8))
    all_goals (go_wp2_with fail; go_meet; exact ⟨_, rfl, rfl, kcA, kcA, blA⟩)
  case rest =>
    obtain ⟨X, rfl, rfl, m0, m1, hbx⟩ := hcut
    have hX := World.block_lt_of_cell? _ _ m0
    simp only at hX
    (have hzx := hbx.size; (repeat (first | rw [World.size_alloc] at hzx | rw [World.size_setCell] at hzx | rw [World.size_drew] at hzx)); have pp := C2.K hbx (b := w.heap.size) (x := _) (y := _) (c2A); obtain ⟨kk37, kk38⟩ := pp; have pp := C2.K hbx (b := w.heap.size + 1) (x := _) (y := _) (c2A); obtain ⟨kk39, kk40⟩ := pp; have pp := T2.K hbx (b := w.heap.size + 1 + 1) (x := _) (y := _) (t2A); obtain ⟨kk41, kk42, fkk41, fkk42⟩ := pp; have pp := T2.K hbx (b := w.heap.size + 1 + 1 + 1) (x := _) (y := _) (t2A); obtain ⟨kk43, kk44, fkk43, fkk44⟩ := pp; (try clear kk9 kk10 kk11 kk12 kk13 kk14 fkk13 fkk14 kk15 kk16 fkk15 fkk16 kk17 kk18 kk19 kk20 kk21 kk22 fkk21 fkk22 kk23 kk24 fkk23 fkk24 kk25 kk26 fkk25 fkk26 kk27 kk28 kk29 kk30 kk31 kk32 fkk31 fkk32 kk33 kk34 fkk33 fkk34 kk35 kk36 fkk35 fkk36))
    go_upto_region 2 with fail
    refine wp_name ?_
    intro w4 hb4
    (have hz4 := hb4.size; (repeat (first | rw [World.size_alloc] at hz4 | rw [World.size_setCell] at hz4 | rw [World.size_drew] at hz4)); have pp := C2.K hb4 (b := X) (x := _) (y := _) (c2A); obtain ⟨kk45, kk46⟩ := pp; have pp := C2.K hb4 (b := w.heap.size) (x := _) (y := _) (c2A); obtain ⟨kk47, kk48⟩ := pp; have pp := C2.K hb4 (b := w.heap.size + 1) (x := _) (y := _) (c2A); obtain ⟨kk49, kk50⟩ := pp; have pp := T2.K hb4 (b := w.heap.size + 1 + 1) (x := _) (y := _) (t2A); obtain ⟨kk51, kk52, fkk51, fkk52⟩ := pp; have pp := T2.K hb4 (b := w.heap.size + 1 + 1 + 1) (x := _) (y := _) (t2A); obtain ⟨kk53, kk54, fkk53, fkk54⟩ := pp; (try clear kk37 kk38 kk39 kk40 kk41 kk42 fkk41 fkk42 kk43 kk44 fkk43 fkk44))
    go_cut [8] (fun v8 wx => CutX w4 x y v8 wx)
    case first =>
      (go_region_held3 (fun w' => w'.cell? ⟨X, 0, none⟩ = some (.int .i64 (p1)) ∧ w'.cell? ⟨X, 1, none⟩ = some (.int .i64 (p2))) (first | (go_keep; done) | ((try dsimp only); refine ⟨?_, ?_⟩ <;> exact kcA)) (first | (go_at_call 81; obtain ⟨q0, q1⟩ := ‹_ ∧ _›; refine (nearest_w _ (by omega) (by omega) hN (by omega) (by first | exact f1 | exact f2)).mono ?_; rintro e w5 ⟨rfl, hb5⟩; have hz5 := hb5.size; (repeat (first | rw [World.size_alloc] at hz5 | rw [World.size_setCell] at hz5 | rw [World.size_drew] at hz5)); have kk55 := keep hb5 q0; have kk56 := keep hb5 q1; obtain ⟨hc5, hf5⟩ := bcell hb5; clear q0 q1)); (try clear kk45 kk46 kk47 kk48 kk49 kk50 kk51 kk52 fkk51 fkk52 kk53 kk54 fkk53 fkk54))
      all_goals (go_wp2_with fail; go_meet; exact ⟨_, rfl, by ((try simp only [World.size_alloc, World.size_setCell, World.size_drew]); omega), kcA, kcA, blA⟩)
    case rest =>
      obtain ⟨Y, rfl, mY, n0, n1, hby⟩ := hcut
      have hY := World.block_lt_of_cell? _ _ n0
      simp only at hY
      (have hzy := hby.size; (repeat (first | rw [World.size_alloc] at hzy | rw [World.size_setCell] at hzy | rw [World.size_drew] at hzy)); have pp := C2.K hby (b := w.heap.size) (x := _) (y := _) (c2A); obtain ⟨kk57, kk58⟩ := pp; have pp := C2.K hby (b := w.heap.size + 1) (x := _) (y := _) (c2A); obtain ⟨kk59, kk60⟩ := pp; have pp := T2.K hby (b := w.heap.size + 1 + 1) (x := _) (y := _) (t2A); obtain ⟨kk61, kk62, fkk61, fkk62⟩ := pp; have pp := T2.K hby (b := w.heap.size + 1 + 1 + 1) (x := _) (y := _) (t2A); obtain ⟨kk63, kk64, fkk63, fkk64⟩ := pp; (try clear kk55 kk56))
      go_upto_region 3 with fail
      refine wp_name ?_
      intro w6 hb6
      (have hz6 := hb6.size; (repeat (first | rw [World.size_alloc] at hz6 | rw [World.size_setCell] at hz6 | rw [World.size_drew] at hz6)); have pp := C2.K hb6 (b := Y) (x := _) (y := _) (c2A); obtain ⟨kk65, kk66⟩ := pp; have pp := C2.K hb6 (b := w.heap.size) (x := _) (y := _) (c2A); obtain ⟨kk67, kk68⟩ := pp; have pp := C2.K hb6 (b := w.heap.size + 1) (x := _) (y := _) (c2A); obtain ⟨kk69, kk70⟩ := pp; have pp := T2.K hb6 (b := w.heap.size + 1 + 1) (x := _) (y := _) (t2A); obtain ⟨kk71, kk72, fkk71, fkk72⟩ := pp; have pp := T2.K hb6 (b := w.heap.size + 1 + 1 + 1) (x := _) (y := _) (t2A); obtain ⟨kk73, kk74, fkk73, fkk74⟩ := pp; (try clear kk57 kk58 kk59 kk60 kk61 kk62 fkk61 fkk62 kk63 kk64 fkk63 fkk64))
      (go_region_held3 (fun w' => w'.cell? ⟨Y, 0, none⟩ = some (.int .i64 (x)) ∧ w'.cell? ⟨Y, 1, none⟩ = some (.int .i64 (y)) ∧ w'.cell? ⟨w.heap.size, 0, none⟩ = some (.int .i64 (a)) ∧ w'.cell? ⟨w.heap.size, 1, none⟩ = some (.int .i64 (b)) ∧ w'.cell? ⟨w.heap.size + 1, 0, none⟩ = some (.int .i64 (c)) ∧ w'.cell? ⟨w.heap.size + 1, 1, none⟩ = some (.int .i64 (d))) (first | (go_keep; done) | ((try dsimp only); refine ⟨?_, ?_, ?_, ?_, ?_, ?_⟩ <;> exact kcA)) (first | (go_at_call 48; obtain ⟨q0, q1, q2, q3, q4, q5⟩ := ‹_ ∧ _ ∧ _ ∧ _ ∧ _ ∧ _›; refine (igTimes_w _ (by omega) (by omega) (by omega) (by omega) c1 c2 d1 d2 g1 g2).mono ?_; rintro e w7 ⟨rfl, hb7⟩; have hz7 := hb7.size; (repeat (first | rw [World.size_alloc] at hz7 | rw [World.size_setCell] at hz7 | rw [World.size_drew] at hz7)); have kk75 := keep hb7 q0; have kk76 := keep hb7 q1; have kk77 := keep hb7 q2; have kk78 := keep hb7 q3; have kk79 := keep hb7 q4; have kk80 := keep hb7 q5; obtain ⟨hc7, hf7⟩ := bcell hb7; have pp := T2.K hb7 (b := w.heap.size + 1 + 1) (x := _) (y := _) (t2A); obtain ⟨kk81, kk82, fkk81, fkk82⟩ := pp; have pp := T2.K hb7 (b := w.heap.size + 1 + 1 + 1) (x := _) (y := _) (t2A); obtain ⟨kk83, kk84, fkk83, fkk84⟩ := pp; clear q0 q1 q2 q3 q4 q5) | (go_at_call 82; obtain ⟨q0, q1, q2, q3, q4, q5⟩ := ‹_ ∧ _ ∧ _ ∧ _ ∧ _ ∧ _›; refine (igMinus_w _ (by omega) (by omega) (by omega) (by omega) rfl rfl).mono ?_; rintro e w8 ⟨rfl, hb8⟩; have hz8 := hb8.size; (repeat (first | rw [World.size_alloc] at hz8 | rw [World.size_setCell] at hz8 | rw [World.size_drew] at hz8)); have kk85 := keep hb8 q0; have kk86 := keep hb8 q1; have kk87 := keep hb8 q2; have kk88 := keep hb8 q3; have kk89 := keep hb8 q4; have kk90 := keep hb8 q5; obtain ⟨hc8, hf8⟩ := bcell hb8; have pp := T2.K hb8 (b := w.heap.size + 1 + 1) (x := _) (y := _) (t2A); obtain ⟨kk91, kk92, fkk91, fkk92⟩ := pp; have pp := T2.K hb8 (b := w.heap.size + 1 + 1 + 1) (x := _) (y := _) (t2A); obtain ⟨kk93, kk94, fkk93, fkk94⟩ := pp; clear q0 q1 q2 q3 q4 q5) | (go_at_call 71; obtain ⟨q0, q1, q2, q3, q4, q5⟩ := ‹_ ∧ _ ∧ _ ∧ _ ∧ _ ∧ _›; refine (igPlus_w _ (by omega) (by omega) (by omega) (by omega) (by omega) (by omega) (by omega) (by omega) s1 s2).mono ?_; rintro e w9 ⟨rfl, hb9⟩; have hz9 := hb9.size; (repeat (first | rw [World.size_alloc] at hz9 | rw [World.size_setCell] at hz9 | rw [World.size_drew] at hz9)); have kk95 := keep hb9 q0; have kk96 := keep hb9 q1; have kk97 := keep hb9 q2; have kk98 := keep hb9 q3; have kk99 := keep hb9 q4; have kk100 := keep hb9 q5; obtain ⟨hc9, hf9⟩ := bcell hb9; have pp := T2.K hb9 (b := w.heap.size + 1 + 1) (x := _) (y := _) (t2A); obtain ⟨kk101, kk102, fkk101, fkk102⟩ := pp; have pp := T2.K hb9 (b := w.heap.size + 1 + 1 + 1) (x := _) (y := _) (t2A); obtain ⟨kk103, kk104, fkk103, fkk104⟩ := pp; clear q0 q1 q2 q3 q4 q5)); (try clear kk65 kk66 kk67 kk68 kk69 kk70 kk71 kk72 fkk71 fkk72 kk73 kk74 fkk73 fkk74))
      all_goals go_wp2_with fail
      all_goals refine bodyPost_ret (v := .tuple #[.agg #[.int .i64 x, .int .i64 y], .agg #[.int .i64 r1, .int .i64 r2]]) (by simp [results, Try.results69, go_sem, *]) rfl ?_; exact ⟨x, y, rfl, blA⟩
theorem igRest_w {a b c d x y : Int} (w : World) (ha : Bd a) (hb : Bd b) (hm : mdO c d = true) (hx : rA a b c d = x) (hy : rB a b c d = y) : Calls Try.prog 68 #[.agg #[.int .i64 c, .int .i64 d], .agg #[.int .i64 a, .int .i64 b]] w fun e w' => e = .returned (.agg #[.int .i64 x, .int .i64 y]) ∧ Below w.heap.size w w' := by
  go_enter Try.func68, Try.ntmps68
  go_wp2_with fail
  (refine (igDivided_w _ ha hb hm hx hy).mono ?_; rintro e w1 ⟨q1, q2, rfl, hb1⟩; have hz1 := hb1.size; (repeat (first | rw [World.size_alloc] at hz1 | rw [World.size_setCell] at hz1 | rw [World.size_drew] at hz1)); have pp := T2.K hb1 (b := w.heap.size + 1 + 1) (x := _) (y := _) (t2A); obtain ⟨kk1, kk2, fkk1, fkk2⟩ := pp)
  clear hx hy ha hb hm
  go_wp2_with fail
  refine bodyPost_ret (v := .agg #[.int .i64 x, .int .i64 y]) (by simp [results, Try.results68, go_sem, *]) rfl ?_; exact ⟨rfl, blA⟩
set_option maxHeartbeats 4000000 in
/-- A product by a modulus, where the first number may be great. -/
theorem igProd_w {a b c d e f x y : Int} (w : World) (ha : Bd a) (hb : Bd b) (k2 : gok c d = true) (hd : mdO e f = true) (h : rs (e, f) (mu (a, b) (c, d)) = (x, y)) : Calls Try.prog 53 #[.agg #[.int .i64 e, .int .i64 f], .agg #[.int .i64 a, .int .i64 b], .agg #[.int .i64 c, .int .i64 d]] w fun e w' => e = .returned (.agg #[.int .i64 x, .int .i64 y]) ∧ Below w.heap.size w w' := by
  obtain ⟨g3, g4⟩ := md_nG hd
  obtain ⟨p, q, hp⟩ : ∃ p q, rs (e, f) (a, b) = (p, q) := ⟨_, _, rfl⟩
  obtain ⟨s, t, hs⟩ : ∃ s t, rs (e, f) (c, d) = (s, t) := ⟨_, _, rfl⟩
  obtain ⟨b1, b2, b3, b4⟩ := own_bd g3 g4 (z := (p, q)) (by rw [← hp, rs_idem g3])
  obtain ⟨d1, d2, d3, d4⟩ := own_bd g3 g4 (z := (s, t)) (by rw [← hs, rs_idem g3])
  dsimp only at b1 b2 b3 b4 d1 d2 d3 d4
  rw [← rs_mu g3, hp, hs] at h
  obtain ⟨u, hu⟩ : ∃ u, p * s - q * t = u := ⟨_, rfl⟩
  obtain ⟨v, hv⟩ : ∃ v, p * t + q * s = v := ⟨_, rfl⟩
  have hm : mu (p, q) (s, t) = (u, v) := by rw [← hu, ← hv]; rfl
  rw [hm] at h
  have m1 := mul_bdx (K := 7) (L := 7) b1 b2 d1 d2
  have m2 := mul_bdx (K := 7) (L := 7) b3 b4 d3 d4
  have m3 := mul_bdx (K := 7) (L := 7) b1 b2 d3 d4
  have m4 := mul_bdx (K := 7) (L := 7) b3 b4 d1 d2
  have ku : Bd u := by unfold Bd; omega
  have kv : Bd v := by unfold Bd; omega
  have kc : Bd c ∧ Bd d := by
    unfold Bd
    simp only [gok, pok, Bool.and_eq_true, decide_eq_true_eq] at k2
    omega
  obtain ⟨kc1, kc2⟩ := kc
  have h1 : rA a b e f = p := congrArg Prod.fst hp
  have h2 : rB a b e f = q := congrArg Prod.snd hp
  have h3 : rA c d e f = s := congrArg Prod.fst hs
  have h4 : rB c d e f = t := congrArg Prod.snd hs
  have h5 : rA u v e f = x := congrArg Prod.fst h
  have h6 : rB u v e f = y := congrArg Prod.snd h
  clear h hp hs hm g3 g4 m1 m2 m3 m4 k2
  go_enter Try.func53, Try.ntmps53
  go_upto_region 1 with fail
  refine wp_name ?_
  intro w0 hb0
  (have hz0 := hb0.size; (repeat (first | rw [World.size_alloc] at hz0 | rw [World.size_setCell] at hz0 | rw [World.size_drew] at hz0)); have pp := C2.K hb0 (b := w.heap.size) (x := _) (y := _) (c2A); obtain ⟨kk1, kk2⟩ := pp; have pp := C2.K hb0 (b := w.heap.size + 1) (x := _) (y := _) (c2A); obtain ⟨kk3, kk4⟩ := pp; have pp := C2.K hb0 (b := w.heap.size + 1 + 1) (x := _) (y := _) (c2A); obtain ⟨kk5, kk6⟩ := pp; have pp := T2.K hb0 (b := w.heap.size + 1 + 1 + 1) (x := _) (y := _) (t2A); obtain ⟨kk7, kk8, fkk7, fkk8⟩ := pp)
  (go_region_held3 (fun w' => w'.cell? ⟨w.heap.size, 0, none⟩ = some (.int .i64 (e)) ∧ w'.cell? ⟨w.heap.size, 1, none⟩ = some (.int .i64 (f)) ∧ w'.cell? ⟨w.heap.size + 1, 0, none⟩ = some (.int .i64 (a)) ∧ w'.cell? ⟨w.heap.size + 1, 1, none⟩ = some (.int .i64 (b)) ∧ w'.cell? ⟨w.heap.size + 1 + 1, 0, none⟩ = some (.int .i64 (c)) ∧ w'.cell? ⟨w.heap.size + 1 + 1, 1, none⟩ = some (.int .i64 (d))) (first | (go_keep; done) | ((try dsimp only); refine ⟨?_, ?_, ?_, ?_, ?_, ?_⟩ <;> exact kcA)) (first | (go_at_call 68; obtain ⟨q0, q1, q2, q3, q4, q5⟩ := ‹_ ∧ _ ∧ _ ∧ _ ∧ _ ∧ _›; refine (igRest_w _ (by first | exact ha | exact kc1 | exact ku) (by first | exact hb | exact kc2 | exact kv) hd (by first | exact h1 | exact h3 | exact h5) (by first | exact h2 | exact h4 | exact h6)).mono ?_; rintro e w1 ⟨rfl, hb1⟩; have hz1 := hb1.size; (repeat (first | rw [World.size_alloc] at hz1 | rw [World.size_setCell] at hz1 | rw [World.size_drew] at hz1)); have kk9 := keep hb1 q0; have kk10 := keep hb1 q1; have kk11 := keep hb1 q2; have kk12 := keep hb1 q3; have kk13 := keep hb1 q4; have kk14 := keep hb1 q5; obtain ⟨hc1, hf1⟩ := bcell hb1; have pp := T2.K hb1 (b := w.heap.size + 1 + 1 + 1) (x := _) (y := _) (t2A); obtain ⟨kk15, kk16, fkk15, fkk16⟩ := pp; clear q0 q1 q2 q3 q4 q5) | (go_at_call 48; obtain ⟨q0, q1, q2, q3, q4, q5⟩ := ‹_ ∧ _ ∧ _ ∧ _ ∧ _ ∧ _›; refine (igTimes_w _ (by omega) (by omega) (by omega) (by omega) (by omega) (by omega) (by omega) (by omega) hu hv).mono ?_; rintro e w2 ⟨rfl, hb2⟩; have hz2 := hb2.size; (repeat (first | rw [World.size_alloc] at hz2 | rw [World.size_setCell] at hz2 | rw [World.size_drew] at hz2)); have kk17 := keep hb2 q0; have kk18 := keep hb2 q1; have kk19 := keep hb2 q2; have kk20 := keep hb2 q3; have kk21 := keep hb2 q4; have kk22 := keep hb2 q5; obtain ⟨hc2, hf2⟩ := bcell hb2; have pp := T2.K hb2 (b := w.heap.size + 1 + 1 + 1) (x := _) (y := _) (t2A); obtain ⟨kk23, kk24, fkk23, fkk24⟩ := pp; clear q0 q1 q2 q3 q4 q5)); (try clear kk1 kk2 kk3 kk4 kk5 kk6 kk7 kk8 fkk7 fkk8))
  all_goals go_wp2_with fail
  all_goals refine bodyPost_ret (v := .agg #[.int .i64 x, .int .i64 y]) (by simp [results, Try.results53, go_sem, *]) rfl ?_; exact ⟨rfl, blA⟩
end Go.Proofs.Ytggebkgfldmipaa
