import Derived.Test.YtggebkgfldmipaaOl
namespace Go.Proofs.Ytggebkgfldmipaa
open Go Go.RowKit
attribute [local go_sem] World.cell?_alloc_some cell?_alloc2_some cell?_alloc3_some cell?_alloc4_some frozen?_alloc_some frozen?_alloc2_some frozen?_alloc3_some World.cell?_setCell_far new_ne0 new_ne1 new_ne2 new_ne3 lt2 lt3 lt4 lt5 lt6 lt7 lt8 lt9
attribute [local go_sem ↓] eqG neG

set_option maxHeartbeats 8000000 in
theorem stepped {A A' B B' p q C C' D D' U U' V V' : Int} (w : World) (p1 : -2500 ≤ p) (p2 : p ≤ 2500) (q1 : -2500 ≤ q) (q2 : q ≤ 2500) (hA : Bd A) (hA' : Bd A') (hB : Bd B) (hB' : Bd B') (hC : Bd C) (hC' : Bd C') (hD : Bd D) (hD' : Bd D')
    (e1 : p * C - q * C' = U) (e2 : p * C' + q * C = U') (e3 : p * D - q * D' = V) (e4 : p * D' + q * D = V') :
    Calls Try.prog 76 #[.agg #[.int .i64 A, .int .i64 A', .int .i64 B, .int .i64 B', .int .i64 C, .int .i64 C', .int .i64 D, .int .i64 D'], .agg #[.int .i64 p, .int .i64 q]] w fun e w' => e = .returned (.agg #[.int .i64 C, .int .i64 C', .int .i64 D, .int .i64 D', .int .i64 (A - U), .int .i64 (A' - U'), .int .i64 (B - V), .int .i64 (B' - V')]) ∧ Below w.heap.size w w' := by
  obtain ⟨X, hX⟩ : ∃ X, A - U = X := ⟨_, rfl⟩
  obtain ⟨X', hX'⟩ : ∃ X, A' - U' = X := ⟨_, rfl⟩
  obtain ⟨Y, hY⟩ : ∃ X, B - V = X := ⟨_, rfl⟩
  obtain ⟨Y', hY'⟩ : ∃ X, B' - V' = X := ⟨_, rfl⟩
  have con : ∀ W, Calls Try.prog 86 #[.agg #[.int .i64 A, .int .i64 A', .int .i64 B, .int .i64 B'], .agg #[.int .i64 p, .int .i64 q], .agg #[.int .i64 C, .int .i64 C', .int .i64 D, .int .i64 D']] W fun e w' => e = .returned (.agg #[.int .i64 X, .int .i64 X', .int .i64 Y, .int .i64 Y']) ∧ Below W.heap.size W w' := by
    intro W
    rw [← hX, ← hX', ← hY, ← hY']
    exact sumLess W p1 p2 q1 q2 hA hA' hB hB' hC hC' hD hD' e1 e2 e3 e4
  rw [hX, hX', hY, hY']
  have HC := Lib.hid con
  clear con hX hX' hY hY' e1 e2 e3 e4 hA hA' hB hB' hC hC' hD hD' p1 p2 q1 q2
  go_enter Try.func76, Try.ntmps76
  go_upto_region 1 with fail
  refine wp_name ?_
  intro w0 hb0
  (have hz0 := hb0.size; (repeat (first | rw [World.size_alloc] at hz0 | rw [World.size_setCell] at hz0 | rw [World.size_drew] at hz0)); have kk1 := keep hb0 (a := ⟨w.heap.size, 0, none⟩) (v := _) (kcA); have kk2 := keep hb0 (a := ⟨w.heap.size, 1, none⟩) (v := _) (kcA); have kk3 := keep hb0 (a := ⟨w.heap.size, 2, none⟩) (v := _) (kcA); have kk4 := keep hb0 (a := ⟨w.heap.size, 3, none⟩) (v := _) (kcA); have kk5 := keep hb0 (a := ⟨w.heap.size, 4, none⟩) (v := _) (kcA); have kk6 := keep hb0 (a := ⟨w.heap.size, 5, none⟩) (v := _) (kcA); have kk7 := keep hb0 (a := ⟨w.heap.size, 6, none⟩) (v := _) (kcA); have kk8 := keep hb0 (a := ⟨w.heap.size, 7, none⟩) (v := _) (kcA); have pp := C2.K hb0 (b := w.heap.size + 1) (x := _) (y := _) (c2A); obtain ⟨kk9, kk10⟩ := pp; have kk11 := keep hb0 (a := ⟨w.heap.size + 1 + 1, 0, none⟩) (v := _) (kcA); have fkk11 := keepF hb0 (a := ⟨w.heap.size + 1 + 1, 0, none⟩) (v := _) (kcA) (kfA); have kk12 := keep hb0 (a := ⟨w.heap.size + 1 + 1, 1, none⟩) (v := _) (kcA); have fkk12 := keepF hb0 (a := ⟨w.heap.size + 1 + 1, 1, none⟩) (v := _) (kcA) (kfA); have kk13 := keep hb0 (a := ⟨w.heap.size + 1 + 1, 2, none⟩) (v := _) (kcA); have fkk13 := keepF hb0 (a := ⟨w.heap.size + 1 + 1, 2, none⟩) (v := _) (kcA) (kfA); have kk14 := keep hb0 (a := ⟨w.heap.size + 1 + 1, 3, none⟩) (v := _) (kcA); have fkk14 := keepF hb0 (a := ⟨w.heap.size + 1 + 1, 3, none⟩) (v := _) (kcA) (kfA); have kk15 := keep hb0 (a := ⟨w.heap.size + 1 + 1, 4, none⟩) (v := _) (kcA); have fkk15 := keepF hb0 (a := ⟨w.heap.size + 1 + 1, 4, none⟩) (v := _) (kcA) (kfA); have kk16 := keep hb0 (a := ⟨w.heap.size + 1 + 1, 5, none⟩) (v := _) (kcA); have fkk16 := keepF hb0 (a := ⟨w.heap.size + 1 + 1, 5, none⟩) (v := _) (kcA) (kfA); have kk17 := keep hb0 (a := ⟨w.heap.size + 1 + 1, 6, none⟩) (v := _) (kcA); have fkk17 := keepF hb0 (a := ⟨w.heap.size + 1 + 1, 6, none⟩) (v := _) (kcA) (kfA); have kk18 := keep hb0 (a := ⟨w.heap.size + 1 + 1, 7, none⟩) (v := _) (kcA); have fkk18 := keepF hb0 (a := ⟨w.heap.size + 1 + 1, 7, none⟩) (v := _) (kcA) (kfA))
  (go_region_held3 (fun w' => w'.cell? ⟨w.heap.size, 0, none⟩ = some (.int .i64 (A)) ∧ w'.cell? ⟨w.heap.size, 1, none⟩ = some (.int .i64 (A')) ∧ w'.cell? ⟨w.heap.size, 2, none⟩ = some (.int .i64 (B)) ∧ w'.cell? ⟨w.heap.size, 3, none⟩ = some (.int .i64 (B')) ∧ w'.cell? ⟨w.heap.size, 4, none⟩ = some (.int .i64 (C)) ∧ w'.cell? ⟨w.heap.size, 5, none⟩ = some (.int .i64 (C')) ∧ w'.cell? ⟨w.heap.size, 6, none⟩ = some (.int .i64 (D)) ∧ w'.cell? ⟨w.heap.size, 7, none⟩ = some (.int .i64 (D')) ∧ w'.cell? ⟨w.heap.size + 1, 0, none⟩ = some (.int .i64 (p)) ∧ w'.cell? ⟨w.heap.size + 1, 1, none⟩ = some (.int .i64 (q))) (first | (go_keep; done) | ((try dsimp only); refine ⟨?_, ?_, ?_, ?_, ?_, ?_, ?_, ?_, ?_, ?_⟩ <;> exact kcA)) (first | (go_at_call 86; obtain ⟨q0, q1, q2, q3, q4, q5, q6, q7, q8, q9⟩ := ‹_ ∧ _ ∧ _ ∧ _ ∧ _ ∧ _ ∧ _ ∧ _ ∧ _ ∧ _›; refine (HC.out _).mono ?_; rintro e w7 ⟨rfl, hb7⟩; have hz7 := hb7.size; (repeat (first | rw [World.size_alloc] at hz7 | rw [World.size_setCell] at hz7 | rw [World.size_drew] at hz7)); have kk19 := keep hb7 q0; have kk20 := keep hb7 q1; have kk21 := keep hb7 q2; have kk22 := keep hb7 q3; have kk23 := keep hb7 q4; have kk24 := keep hb7 q5; have kk25 := keep hb7 q6; have kk26 := keep hb7 q7; have kk27 := keep hb7 q8; have kk28 := keep hb7 q9; obtain ⟨hc7, hf7⟩ := bcell hb7; have kk29 := keep hb7 (a := ⟨w.heap.size + 1 + 1, 0, none⟩) (v := _) (kcA); have fkk29 := keepF hb7 (a := ⟨w.heap.size + 1 + 1, 0, none⟩) (v := _) (kcA) (kfA); have kk30 := keep hb7 (a := ⟨w.heap.size + 1 + 1, 1, none⟩) (v := _) (kcA); have fkk30 := keepF hb7 (a := ⟨w.heap.size + 1 + 1, 1, none⟩) (v := _) (kcA) (kfA); have kk31 := keep hb7 (a := ⟨w.heap.size + 1 + 1, 2, none⟩) (v := _) (kcA); have fkk31 := keepF hb7 (a := ⟨w.heap.size + 1 + 1, 2, none⟩) (v := _) (kcA) (kfA); have kk32 := keep hb7 (a := ⟨w.heap.size + 1 + 1, 3, none⟩) (v := _) (kcA); have fkk32 := keepF hb7 (a := ⟨w.heap.size + 1 + 1, 3, none⟩) (v := _) (kcA) (kfA); have kk33 := keep hb7 (a := ⟨w.heap.size + 1 + 1, 4, none⟩) (v := _) (kcA); have fkk33 := keepF hb7 (a := ⟨w.heap.size + 1 + 1, 4, none⟩) (v := _) (kcA) (kfA); have kk34 := keep hb7 (a := ⟨w.heap.size + 1 + 1, 5, none⟩) (v := _) (kcA); have fkk34 := keepF hb7 (a := ⟨w.heap.size + 1 + 1, 5, none⟩) (v := _) (kcA) (kfA); have kk35 := keep hb7 (a := ⟨w.heap.size + 1 + 1, 6, none⟩) (v := _) (kcA); have fkk35 := keepF hb7 (a := ⟨w.heap.size + 1 + 1, 6, none⟩) (v := _) (kcA) (kfA); have kk36 := keep hb7 (a := ⟨w.heap.size + 1 + 1, 7, none⟩) (v := _) (kcA); have fkk36 := keepF hb7 (a := ⟨w.heap.size + 1 + 1, 7, none⟩) (v := _) (kcA) (kfA); clear q0 q1 q2 q3 q4 q5 q6 q7 q8 q9)); (try clear kk1 kk2 kk3 kk4 kk5 kk6 kk7 kk8 kk9 kk10 kk11 fkk11 kk12 fkk12 kk13 fkk13 kk14 fkk14 kk15 fkk15 kk16 fkk16 kk17 fkk17 kk18 fkk18))
  all_goals go_wp2_with fail
  all_goals refine bodyPost_ret (v := .agg #[.int .i64 C, .int .i64 C', .int .i64 D, .int .i64 D', .int .i64 X, .int .i64 X', .int .i64 Y, .int .i64 Y']) (by simp [results, Try.results76, go_sem, *]) rfl ?_; exact ⟨rfl, blA⟩

set_option maxHeartbeats 8000000 in
theorem sumTimes {A A' B B' x y U U' V V' : Int} (w : World) (x1 : -1 ≤ x) (x2 : x ≤ 1) (y1 : -1 ≤ y) (y2 : y ≤ 1) (hA : Bd A) (hA' : Bd A') (hB : Bd B) (hB' : Bd B')
    (e1 : A * x - A' * y = U) (e2 : A * y + A' * x = U') (e3 : B * x - B' * y = V) (e4 : B * y + B' * x = V') :
    Calls Try.prog 77 #[.agg #[.int .i64 A, .int .i64 A', .int .i64 B, .int .i64 B'], .agg #[.int .i64 x, .int .i64 y]] w fun e w' => e = .returned (.agg #[.int .i64 U, .int .i64 U', .int .i64 V, .int .i64 V']) ∧ Below w.heap.size w w' := by
  have m1 := mul_bdx hA.1 hA.2 x1 x2
  have m2 := mul_bdx hA'.1 hA'.2 y1 y2
  have m3 := mul_bdx hA.1 hA.2 y1 y2
  have m4 := mul_bdx hA'.1 hA'.2 x1 x2
  have m5 := mul_bdx hB.1 hB.2 x1 x2
  have m6 := mul_bdx hB'.1 hB'.2 y1 y2
  have m7 := mul_bdx hB.1 hB.2 y1 y2
  have m8 := mul_bdx hB'.1 hB'.2 x1 x2
  go_enter Try.func77, Try.ntmps77
  go_upto_region 1 with fail
  refine wp_name ?_
  intro w0 hb0
  (have hz0 := hb0.size; (repeat (first | rw [World.size_alloc] at hz0 | rw [World.size_setCell] at hz0 | rw [World.size_drew] at hz0)); have kk1 := keep hb0 (a := ⟨w.heap.size, 0, none⟩) (v := _) (kcA); have kk2 := keep hb0 (a := ⟨w.heap.size, 1, none⟩) (v := _) (kcA); have kk3 := keep hb0 (a := ⟨w.heap.size, 2, none⟩) (v := _) (kcA); have kk4 := keep hb0 (a := ⟨w.heap.size, 3, none⟩) (v := _) (kcA); have pp := C2.K hb0 (b := w.heap.size + 1) (x := _) (y := _) (c2A); obtain ⟨kk5, kk6⟩ := pp; have kk7 := keep hb0 (a := ⟨w.heap.size + 1 + 1, 0, none⟩) (v := _) (kcA); have fkk7 := keepF hb0 (a := ⟨w.heap.size + 1 + 1, 0, none⟩) (v := _) (kcA) (kfA); have kk8 := keep hb0 (a := ⟨w.heap.size + 1 + 1, 1, none⟩) (v := _) (kcA); have fkk8 := keepF hb0 (a := ⟨w.heap.size + 1 + 1, 1, none⟩) (v := _) (kcA) (kfA); have kk9 := keep hb0 (a := ⟨w.heap.size + 1 + 1, 2, none⟩) (v := _) (kcA); have fkk9 := keepF hb0 (a := ⟨w.heap.size + 1 + 1, 2, none⟩) (v := _) (kcA) (kfA); have kk10 := keep hb0 (a := ⟨w.heap.size + 1 + 1, 3, none⟩) (v := _) (kcA); have fkk10 := keepF hb0 (a := ⟨w.heap.size + 1 + 1, 3, none⟩) (v := _) (kcA) (kfA))
  (go_region_held3 (fun w' => w'.cell? ⟨w.heap.size, 0, none⟩ = some (.int .i64 (A)) ∧ w'.cell? ⟨w.heap.size, 1, none⟩ = some (.int .i64 (A')) ∧ w'.cell? ⟨w.heap.size, 2, none⟩ = some (.int .i64 (B)) ∧ w'.cell? ⟨w.heap.size, 3, none⟩ = some (.int .i64 (B')) ∧ w'.cell? ⟨w.heap.size + 1, 0, none⟩ = some (.int .i64 (x)) ∧ w'.cell? ⟨w.heap.size + 1, 1, none⟩ = some (.int .i64 (y))) (first | (go_keep; done) | ((try dsimp only); refine ⟨?_, ?_, ?_, ?_, ?_, ?_⟩ <;> exact kcA)) (first | (go_at_call 48; obtain ⟨q0, q1, q2, q3, q4, q5⟩ := ‹_ ∧ _ ∧ _ ∧ _ ∧ _ ∧ _›; refine (igTimes_x _ (by omega) (by omega) (by omega) (by omega) (by omega) (by omega) (by omega) (by omega) (by first | exact e1 | exact e3) (by first | exact e2 | exact e4)).mono ?_; rintro e w7 ⟨rfl, hb7⟩; have hz7 := hb7.size; (repeat (first | rw [World.size_alloc] at hz7 | rw [World.size_setCell] at hz7 | rw [World.size_drew] at hz7)); have kk11 := keep hb7 q0; have kk12 := keep hb7 q1; have kk13 := keep hb7 q2; have kk14 := keep hb7 q3; have kk15 := keep hb7 q4; have kk16 := keep hb7 q5; obtain ⟨hc7, hf7⟩ := bcell hb7; have kk17 := keep hb7 (a := ⟨w.heap.size + 1 + 1, 0, none⟩) (v := _) (kcA); have fkk17 := keepF hb7 (a := ⟨w.heap.size + 1 + 1, 0, none⟩) (v := _) (kcA) (kfA); have kk18 := keep hb7 (a := ⟨w.heap.size + 1 + 1, 1, none⟩) (v := _) (kcA); have fkk18 := keepF hb7 (a := ⟨w.heap.size + 1 + 1, 1, none⟩) (v := _) (kcA) (kfA); have kk19 := keep hb7 (a := ⟨w.heap.size + 1 + 1, 2, none⟩) (v := _) (kcA); have fkk19 := keepF hb7 (a := ⟨w.heap.size + 1 + 1, 2, none⟩) (v := _) (kcA) (kfA); have kk20 := keep hb7 (a := ⟨w.heap.size + 1 + 1, 3, none⟩) (v := _) (kcA); have fkk20 := keepF hb7 (a := ⟨w.heap.size + 1 + 1, 3, none⟩) (v := _) (kcA) (kfA); clear q0 q1 q2 q3 q4 q5)); (try clear kk1 kk2 kk3 kk4 kk5 kk6 kk7 fkk7 kk8 fkk8 kk9 fkk9 kk10 fkk10))
  all_goals go_wp2_with fail
  all_goals refine bodyPost_ret (v := .agg #[.int .i64 U, .int .i64 U', .int .i64 V, .int .i64 V']) (by simp [results, Try.results77, go_sem, *]) rfl ?_; exact ⟨rfl, blA⟩

theorem iUnitTo {a b k x y : Int} (w : World) (hg : gok a b = true) (hk : fiK a b = k) (hx : tuA k 1 0 = x) (hy : tuB k 1 0 = y) : Calls Try.prog 78 #[.agg #[.int .i64 a, .int .i64 b]] w fun e w' => e = .returned (.agg #[.int .i64 x, .int .i64 y]) ∧ Below w.heap.size w w' := by
  have hb := fiK_bd a b
  rw [hk] at hb
  obtain ⟨t, ht⟩ : ∃ t, (4 - k) % 4 = t := ⟨_, rfl⟩
  have hT : fiT a b = t := by simp [fiT, hg, hk, ht]
  have hm : (4 - t).tmod 4 = k := by rw [Int.tmod_eq_emod_of_nonneg (by omega)]; omega
  have hs : IntKind.i64.wrap (4 - t) = 4 - t := IntWalk.i64_in _ (by omega)
  have hU : decide (0 ≤ k ∧ k ≤ 3) = true ∧ trA k 1 0 = x ∧ trB k 1 0 = y := by
    have ho : trO k 1 0 = true := by simp [trO, gok, pok]; omega
    obtain ⟨e1, e2⟩ := tr_t ho
    exact ⟨by simpa using hb, by rw [e1]; exact hx, by rw [e2]; exact hy⟩
  clear hx hy hk ht
  go_enter Try.func78, Try.ntmps78
  go_wp2_with fail
  (refine (iFirstOf_v _ ⟨hg, rfl, rfl, hT⟩).mono ?_; rintro e w1 ⟨rfl, hb1⟩; have hz1 := hb1.size; (repeat (first | rw [World.size_alloc] at hz1 | rw [World.size_setCell] at hz1 | rw [World.size_drew] at hz1)); have pp := T2.K hb1 (b := w.heap.size + 1) (x := _) (y := _) (t2A); obtain ⟨kk1, kk2, fkk1, fkk2⟩ := pp)
  go_wp2_with fail
  (refine (iUnitOf_v _ hU).mono ?_; rintro e w2 ⟨rfl, hb2⟩; have hz2 := hb2.size; (repeat (first | rw [World.size_alloc] at hz2 | rw [World.size_setCell] at hz2 | rw [World.size_drew] at hz2)); have pp := T2.K hb2 (b := w.heap.size + 1) (x := _) (y := _) (t2A); obtain ⟨kk3, kk4, fkk3, fkk4⟩ := pp; (try clear kk1 kk2 fkk1 fkk2))
  go_wp2_with fail
  refine bodyPost_ret (v := .agg #[.int .i64 x, .int .i64 y]) (by simp [results, Try.results78, go_sem, *]) rfl ?_; exact ⟨rfl, blA⟩
end Go.Proofs.Ytggebkgfldmipaa
