import Derived.Test.YtggebkgfldmipaaNa
import Derived.Test.YtggebkgfldmipaaNc
import Derived.Test.YtggebkgfldmipaaOn
namespace Go.Proofs.Ytggebkgfldmipaa
open Go Go.RowKit
attribute [local go_sem] World.cell?_alloc_some cell?_alloc2_some cell?_alloc3_some cell?_alloc4_some frozen?_alloc_some frozen?_alloc2_some frozen?_alloc3_some World.cell?_setCell_far new_ne0 new_ne1 new_ne2 new_ne3 lt2 lt3 lt4 lt5 lt6 lt7 lt8 lt9
attribute [local go_sem ↓] eqG neG
attribute [local go_sem] cell?_alloc_lt frozen?_alloc_lt lt10

theorem iPairOk_v {e f g h : Int} {o : Bool} (w : World) (k : paO e f g h = o) : Calls Try.prog 12 #[.agg #[.int .i64 e, .int .i64 f], .agg #[.int .i64 g, .int .i64 h]] w fun e' w' => e' = .returned (.bool o) ∧ Below w.heap.size w w' := by
  rw [← pa_imp] at k
  obtain ⟨t, x, y, ht⟩ := ti_is e f g h
  rw [ht.2.1, ht.2.2] at k
  go_enter Try.func12, Try.ntmps12
  go_wp2_with fail
  (refine (iTimesOf_v _ ht).mono ?_; rintro e w1 ⟨rfl, hb1⟩; have hz1 := hb1.size; (repeat (first | rw [World.size_alloc] at hz1 | rw [World.size_setCell] at hz1 | rw [World.size_drew] at hz1)); have pp := C2.K hb1 (b := w.heap.size) (x := _) (y := _) (c2A); obtain ⟨kk1, kk2⟩ := pp; have pp := C2.K hb1 (b := w.heap.size + 1) (x := _) (y := _) (c2A); obtain ⟨kk3, kk4⟩ := pp)
  clear ht
  go_wp2_with fail
  cases h1 : mdO x y
  · rw [h1, Bool.false_and] at k
    subst k
    (refine (iModulusOk_v _ h1).mono ?_; rintro e w2 ⟨rfl, hb2⟩; have hz2 := hb2.size; (repeat (first | rw [World.size_alloc] at hz2 | rw [World.size_setCell] at hz2 | rw [World.size_drew] at hz2)); (try clear kk1 kk2 kk3 kk4))
    go_wp2_with fail
    go_returns
    exact ⟨rfl, blA⟩
  · rw [h1, Bool.true_and] at k
    (refine (iModulusOk_v _ h1).mono ?_; rintro e w2 ⟨rfl, hb2⟩; have hz2 := hb2.size; (repeat (first | rw [World.size_alloc] at hz2 | rw [World.size_setCell] at hz2 | rw [World.size_drew] at hz2)); have pp := C2.K hb2 (b := w.heap.size) (x := _) (y := _) (c2A); obtain ⟨kk5, kk6⟩ := pp; have pp := C2.K hb2 (b := w.heap.size + 1) (x := _) (y := _) (c2A); obtain ⟨kk7, kk8⟩ := pp)
    go_wp2_with fail
    (refine (iApartOk_v _ k).mono ?_; rintro e w3 ⟨rfl, hb3⟩; have hz3 := hb3.size; (repeat (first | rw [World.size_alloc] at hz3 | rw [World.size_setCell] at hz3 | rw [World.size_drew] at hz3)); (try clear kk5 kk6 kk7 kk8))
    go_wp2_with fail
    go_returns
    exact ⟨rfl, blA⟩
theorem ipairOf_f {e f g h : Int} (w : World) (k : paO e f g h = false) : Calls Try.prog 42 #[.agg #[.int .i64 e, .int .i64 f], .agg #[.int .i64 g, .int .i64 h]] w fun e' w' => e' = .returned (.tuple #[.agg #[.int .i64 0, .int .i64 0, .int .i64 0, .int .i64 0, .int .i64 0, .int .i64 0, .int .i64 0, .int .i64 0, .int .i64 0, .int .i64 0], .bool false]) ∧ Below w.heap.size w w' := by
  go_enter Try.func42, Try.ntmps42
  go_wp2_with fail
  (refine (iPairOk_v _ k).mono ?_; rintro e w1 ⟨rfl, hb1⟩; have hz1 := hb1.size; (repeat (first | rw [World.size_alloc] at hz1 | rw [World.size_setCell] at hz1 | rw [World.size_drew] at hz1)); have kk1 := keep hb1 (a := ⟨w.heap.size + 1 + 1, 0, none⟩) (v := _) (kcA); have fkk1 := keepF hb1 (a := ⟨w.heap.size + 1 + 1, 0, none⟩) (v := _) (kcA) (kfA); have kk2 := keep hb1 (a := ⟨w.heap.size + 1 + 1, 1, none⟩) (v := _) (kcA); have fkk2 := keepF hb1 (a := ⟨w.heap.size + 1 + 1, 1, none⟩) (v := _) (kcA) (kfA); have kk3 := keep hb1 (a := ⟨w.heap.size + 1 + 1, 2, none⟩) (v := _) (kcA); have fkk3 := keepF hb1 (a := ⟨w.heap.size + 1 + 1, 2, none⟩) (v := _) (kcA) (kfA); have kk4 := keep hb1 (a := ⟨w.heap.size + 1 + 1, 3, none⟩) (v := _) (kcA); have fkk4 := keepF hb1 (a := ⟨w.heap.size + 1 + 1, 3, none⟩) (v := _) (kcA) (kfA); have kk5 := keep hb1 (a := ⟨w.heap.size + 1 + 1, 4, none⟩) (v := _) (kcA); have fkk5 := keepF hb1 (a := ⟨w.heap.size + 1 + 1, 4, none⟩) (v := _) (kcA) (kfA); have kk6 := keep hb1 (a := ⟨w.heap.size + 1 + 1, 5, none⟩) (v := _) (kcA); have fkk6 := keepF hb1 (a := ⟨w.heap.size + 1 + 1, 5, none⟩) (v := _) (kcA) (kfA); have kk7 := keep hb1 (a := ⟨w.heap.size + 1 + 1, 6, none⟩) (v := _) (kcA); have fkk7 := keepF hb1 (a := ⟨w.heap.size + 1 + 1, 6, none⟩) (v := _) (kcA) (kfA); have kk8 := keep hb1 (a := ⟨w.heap.size + 1 + 1, 7, none⟩) (v := _) (kcA); have fkk8 := keepF hb1 (a := ⟨w.heap.size + 1 + 1, 7, none⟩) (v := _) (kcA) (kfA); have kk9 := keep hb1 (a := ⟨w.heap.size + 1 + 1, 8, none⟩) (v := _) (kcA); have fkk9 := keepF hb1 (a := ⟨w.heap.size + 1 + 1, 8, none⟩) (v := _) (kcA) (kfA); have kk10 := keep hb1 (a := ⟨w.heap.size + 1 + 1, 9, none⟩) (v := _) (kcA); have fkk10 := keepF hb1 (a := ⟨w.heap.size + 1 + 1, 9, none⟩) (v := _) (kcA) (kfA))
  go_wp2_with fail
  refine bodyPost_ret (v := .tuple #[.agg #[.int .i64 0, .int .i64 0, .int .i64 0, .int .i64 0, .int .i64 0, .int .i64 0, .int .i64 0, .int .i64 0, .int .i64 0, .int .i64 0], .bool false]) (by simp [results, Try.results42, go_sem, *]) rfl ?_; exact ⟨rfl, blA⟩
set_option maxHeartbeats 4000000 in
theorem ipairOf_t {e f g h X Y A B C D : Int} (w : World) (k : paO e f g h = true) (hc : coO e f g h = true ∧ ffA e f g h = A ∧ ffB e f g h = B ∧ ffC e f g h = C ∧ ffD e f g h = D) (hx : e * g - f * h = X) (hy : e * h + f * g = Y) : Calls Try.prog 42 #[.agg #[.int .i64 e, .int .i64 f], .agg #[.int .i64 g, .int .i64 h]] w fun e' w' => e' = .returned (.tuple #[.agg #[.int .i64 e, .int .i64 f, .int .i64 g, .int .i64 h, .int .i64 X, .int .i64 Y, .int .i64 A, .int .i64 B, .int .i64 C, .int .i64 D], .bool true]) ∧ Below w.heap.size w w' := by
  obtain ⟨m1, m2, -, -⟩ := pa_is k
  obtain ⟨e1, e2, f1, f2⟩ := mod_bd (md_nG m1).2
  obtain ⟨g1, g2, h1, h2⟩ := mod_bd (md_nG m2).2
  dsimp only at e1 e2 f1 f2 g1 g2 h1 h2
  clear m1 m2
  go_enter Try.func42, Try.ntmps42
  go_wp2_with fail
  (refine (iPairOk_v _ k).mono ?_; rintro e w1 ⟨rfl, hb1⟩; have hz1 := hb1.size; (repeat (first | rw [World.size_alloc] at hz1 | rw [World.size_setCell] at hz1 | rw [World.size_drew] at hz1)); have pp := C2.K hb1 (b := w.heap.size) (x := _) (y := _) (c2A); obtain ⟨kk1, kk2⟩ := pp; have pp := C2.K hb1 (b := w.heap.size + 1) (x := _) (y := _) (c2A); obtain ⟨kk3, kk4⟩ := pp; have kk5 := keep hb1 (a := ⟨w.heap.size + 1 + 1, 0, none⟩) (v := _) (kcA); have fkk5 := keepF hb1 (a := ⟨w.heap.size + 1 + 1, 0, none⟩) (v := _) (kcA) (kfA); have kk6 := keep hb1 (a := ⟨w.heap.size + 1 + 1, 1, none⟩) (v := _) (kcA); have fkk6 := keepF hb1 (a := ⟨w.heap.size + 1 + 1, 1, none⟩) (v := _) (kcA) (kfA); have kk7 := keep hb1 (a := ⟨w.heap.size + 1 + 1, 2, none⟩) (v := _) (kcA); have fkk7 := keepF hb1 (a := ⟨w.heap.size + 1 + 1, 2, none⟩) (v := _) (kcA) (kfA); have kk8 := keep hb1 (a := ⟨w.heap.size + 1 + 1, 3, none⟩) (v := _) (kcA); have fkk8 := keepF hb1 (a := ⟨w.heap.size + 1 + 1, 3, none⟩) (v := _) (kcA) (kfA); have kk9 := keep hb1 (a := ⟨w.heap.size + 1 + 1, 4, none⟩) (v := _) (kcA); have fkk9 := keepF hb1 (a := ⟨w.heap.size + 1 + 1, 4, none⟩) (v := _) (kcA) (kfA); have kk10 := keep hb1 (a := ⟨w.heap.size + 1 + 1, 5, none⟩) (v := _) (kcA); have fkk10 := keepF hb1 (a := ⟨w.heap.size + 1 + 1, 5, none⟩) (v := _) (kcA) (kfA); have kk11 := keep hb1 (a := ⟨w.heap.size + 1 + 1, 6, none⟩) (v := _) (kcA); have fkk11 := keepF hb1 (a := ⟨w.heap.size + 1 + 1, 6, none⟩) (v := _) (kcA) (kfA); have kk12 := keep hb1 (a := ⟨w.heap.size + 1 + 1, 7, none⟩) (v := _) (kcA); have fkk12 := keepF hb1 (a := ⟨w.heap.size + 1 + 1, 7, none⟩) (v := _) (kcA) (kfA); have kk13 := keep hb1 (a := ⟨w.heap.size + 1 + 1, 8, none⟩) (v := _) (kcA); have fkk13 := keepF hb1 (a := ⟨w.heap.size + 1 + 1, 8, none⟩) (v := _) (kcA) (kfA); have kk14 := keep hb1 (a := ⟨w.heap.size + 1 + 1, 9, none⟩) (v := _) (kcA); have fkk14 := keepF hb1 (a := ⟨w.heap.size + 1 + 1, 9, none⟩) (v := _) (kcA) (kfA))
  go_wp2_with fail
  (refine (iFactorsFor_v _ hc).mono ?_; rintro e w2 ⟨rfl, hb2⟩; have hz2 := hb2.size; (repeat (first | rw [World.size_alloc] at hz2 | rw [World.size_setCell] at hz2 | rw [World.size_drew] at hz2)); have pp := C2.K hb2 (b := w.heap.size) (x := _) (y := _) (c2A); obtain ⟨kk15, kk16⟩ := pp; have pp := C2.K hb2 (b := w.heap.size + 1) (x := _) (y := _) (c2A); obtain ⟨kk17, kk18⟩ := pp; have kk19 := keep hb2 (a := ⟨w.heap.size + 1 + 1, 0, none⟩) (v := _) (kcA); have fkk19 := keepF hb2 (a := ⟨w.heap.size + 1 + 1, 0, none⟩) (v := _) (kcA) (kfA); have kk20 := keep hb2 (a := ⟨w.heap.size + 1 + 1, 1, none⟩) (v := _) (kcA); have fkk20 := keepF hb2 (a := ⟨w.heap.size + 1 + 1, 1, none⟩) (v := _) (kcA) (kfA); have kk21 := keep hb2 (a := ⟨w.heap.size + 1 + 1, 2, none⟩) (v := _) (kcA); have fkk21 := keepF hb2 (a := ⟨w.heap.size + 1 + 1, 2, none⟩) (v := _) (kcA) (kfA); have kk22 := keep hb2 (a := ⟨w.heap.size + 1 + 1, 3, none⟩) (v := _) (kcA); have fkk22 := keepF hb2 (a := ⟨w.heap.size + 1 + 1, 3, none⟩) (v := _) (kcA) (kfA); have kk23 := keep hb2 (a := ⟨w.heap.size + 1 + 1, 4, none⟩) (v := _) (kcA); have fkk23 := keepF hb2 (a := ⟨w.heap.size + 1 + 1, 4, none⟩) (v := _) (kcA) (kfA); have kk24 := keep hb2 (a := ⟨w.heap.size + 1 + 1, 5, none⟩) (v := _) (kcA); have fkk24 := keepF hb2 (a := ⟨w.heap.size + 1 + 1, 5, none⟩) (v := _) (kcA) (kfA); have kk25 := keep hb2 (a := ⟨w.heap.size + 1 + 1, 6, none⟩) (v := _) (kcA); have fkk25 := keepF hb2 (a := ⟨w.heap.size + 1 + 1, 6, none⟩) (v := _) (kcA) (kfA); have kk26 := keep hb2 (a := ⟨w.heap.size + 1 + 1, 7, none⟩) (v := _) (kcA); have fkk26 := keepF hb2 (a := ⟨w.heap.size + 1 + 1, 7, none⟩) (v := _) (kcA) (kfA); have kk27 := keep hb2 (a := ⟨w.heap.size + 1 + 1, 8, none⟩) (v := _) (kcA); have fkk27 := keepF hb2 (a := ⟨w.heap.size + 1 + 1, 8, none⟩) (v := _) (kcA) (kfA); have kk28 := keep hb2 (a := ⟨w.heap.size + 1 + 1, 9, none⟩) (v := _) (kcA); have fkk28 := keepF hb2 (a := ⟨w.heap.size + 1 + 1, 9, none⟩) (v := _) (kcA) (kfA); (try clear kk1 kk2 kk3 kk4 kk5 fkk5 kk6 fkk6 kk7 fkk7 kk8 fkk8 kk9 fkk9 kk10 fkk10 kk11 fkk11 kk12 fkk12 kk13 fkk13 kk14 fkk14))
  clear k hc
  go_upto_region 4 with fail
  refine wp_name ?_
  intro w3 hb3
  (have hz3 := hb3.size; (repeat (first | rw [World.size_alloc] at hz3 | rw [World.size_setCell] at hz3 | rw [World.size_drew] at hz3)); have pp := C2.K hb3 (b := w.heap.size) (x := _) (y := _) (c2A); obtain ⟨kk29, kk30⟩ := pp; have pp := C2.K hb3 (b := w.heap.size + 1) (x := _) (y := _) (c2A); obtain ⟨kk31, kk32⟩ := pp; have kk33 := keep hb3 (a := ⟨w.heap.size + 1 + 1, 0, none⟩) (v := _) (kcA); have fkk33 := keepF hb3 (a := ⟨w.heap.size + 1 + 1, 0, none⟩) (v := _) (kcA) (kfA); have kk34 := keep hb3 (a := ⟨w.heap.size + 1 + 1, 1, none⟩) (v := _) (kcA); have fkk34 := keepF hb3 (a := ⟨w.heap.size + 1 + 1, 1, none⟩) (v := _) (kcA) (kfA); have kk35 := keep hb3 (a := ⟨w.heap.size + 1 + 1, 2, none⟩) (v := _) (kcA); have fkk35 := keepF hb3 (a := ⟨w.heap.size + 1 + 1, 2, none⟩) (v := _) (kcA) (kfA); have kk36 := keep hb3 (a := ⟨w.heap.size + 1 + 1, 3, none⟩) (v := _) (kcA); have fkk36 := keepF hb3 (a := ⟨w.heap.size + 1 + 1, 3, none⟩) (v := _) (kcA) (kfA); have kk37 := keep hb3 (a := ⟨w.heap.size + 1 + 1, 4, none⟩) (v := _) (kcA); have fkk37 := keepF hb3 (a := ⟨w.heap.size + 1 + 1, 4, none⟩) (v := _) (kcA) (kfA); have kk38 := keep hb3 (a := ⟨w.heap.size + 1 + 1, 5, none⟩) (v := _) (kcA); have fkk38 := keepF hb3 (a := ⟨w.heap.size + 1 + 1, 5, none⟩) (v := _) (kcA) (kfA); have kk39 := keep hb3 (a := ⟨w.heap.size + 1 + 1, 6, none⟩) (v := _) (kcA); have fkk39 := keepF hb3 (a := ⟨w.heap.size + 1 + 1, 6, none⟩) (v := _) (kcA) (kfA); have kk40 := keep hb3 (a := ⟨w.heap.size + 1 + 1, 7, none⟩) (v := _) (kcA); have fkk40 := keepF hb3 (a := ⟨w.heap.size + 1 + 1, 7, none⟩) (v := _) (kcA) (kfA); have kk41 := keep hb3 (a := ⟨w.heap.size + 1 + 1, 8, none⟩) (v := _) (kcA); have fkk41 := keepF hb3 (a := ⟨w.heap.size + 1 + 1, 8, none⟩) (v := _) (kcA) (kfA); have kk42 := keep hb3 (a := ⟨w.heap.size + 1 + 1, 9, none⟩) (v := _) (kcA); have fkk42 := keepF hb3 (a := ⟨w.heap.size + 1 + 1, 9, none⟩) (v := _) (kcA) (kfA); have pp := C2.K hb3 (b := w2.heap.size) (x := _) (y := _) (c2A); obtain ⟨kk43, kk44⟩ := pp; have pp := C2.K hb3 (b := w2.heap.size + 1) (x := _) (y := _) (c2A); obtain ⟨kk45, kk46⟩ := pp; (try clear kk15 kk16 kk17 kk18 kk19 fkk19 kk20 fkk20 kk21 fkk21 kk22 fkk22 kk23 fkk23 kk24 fkk24 kk25 fkk25 kk26 fkk26 kk27 fkk27 kk28 fkk28))
  (go_region_held3 (fun w' => w'.cell? ⟨w.heap.size, 0, none⟩ = some (.int .i64 (e)) ∧ w'.cell? ⟨w.heap.size, 1, none⟩ = some (.int .i64 (f)) ∧ w'.cell? ⟨w.heap.size + 1, 0, none⟩ = some (.int .i64 (g)) ∧ w'.cell? ⟨w.heap.size + 1, 1, none⟩ = some (.int .i64 (h)) ∧ w'.cell? ⟨w2.heap.size, 0, none⟩ = some (.int .i64 (A)) ∧ w'.cell? ⟨w2.heap.size, 1, none⟩ = some (.int .i64 (B)) ∧ w'.cell? ⟨w2.heap.size + 1, 0, none⟩ = some (.int .i64 (C)) ∧ w'.cell? ⟨w2.heap.size + 1, 1, none⟩ = some (.int .i64 (D))) (first | (go_keep; done) | ((try dsimp only); refine ⟨?_, ?_, ?_, ?_, ?_, ?_, ?_, ?_⟩ <;> exact kcA)) (first | (go_at_call 48; obtain ⟨q0, q1, q2, q3, q4, q5, q6, q7⟩ := ‹_ ∧ _ ∧ _ ∧ _ ∧ _ ∧ _ ∧ _ ∧ _›; refine (igTimes_w _ (by omega) (by omega) (by omega) (by omega) g1 g2 h1 h2 hx hy).mono ?_; rintro e w4 ⟨rfl, hb4⟩; have hz4 := hb4.size; (repeat (first | rw [World.size_alloc] at hz4 | rw [World.size_setCell] at hz4 | rw [World.size_drew] at hz4)); have kk47 := keep hb4 q0; have kk48 := keep hb4 q1; have kk49 := keep hb4 q2; have kk50 := keep hb4 q3; have kk51 := keep hb4 q4; have kk52 := keep hb4 q5; have kk53 := keep hb4 q6; have kk54 := keep hb4 q7; obtain ⟨hc4, hf4⟩ := bcell hb4; have kk55 := keep hb4 (a := ⟨w.heap.size + 1 + 1, 0, none⟩) (v := _) (kcA); have fkk55 := keepF hb4 (a := ⟨w.heap.size + 1 + 1, 0, none⟩) (v := _) (kcA) (kfA); have kk56 := keep hb4 (a := ⟨w.heap.size + 1 + 1, 1, none⟩) (v := _) (kcA); have fkk56 := keepF hb4 (a := ⟨w.heap.size + 1 + 1, 1, none⟩) (v := _) (kcA) (kfA); have kk57 := keep hb4 (a := ⟨w.heap.size + 1 + 1, 2, none⟩) (v := _) (kcA); have fkk57 := keepF hb4 (a := ⟨w.heap.size + 1 + 1, 2, none⟩) (v := _) (kcA) (kfA); have kk58 := keep hb4 (a := ⟨w.heap.size + 1 + 1, 3, none⟩) (v := _) (kcA); have fkk58 := keepF hb4 (a := ⟨w.heap.size + 1 + 1, 3, none⟩) (v := _) (kcA) (kfA); have kk59 := keep hb4 (a := ⟨w.heap.size + 1 + 1, 4, none⟩) (v := _) (kcA); have fkk59 := keepF hb4 (a := ⟨w.heap.size + 1 + 1, 4, none⟩) (v := _) (kcA) (kfA); have kk60 := keep hb4 (a := ⟨w.heap.size + 1 + 1, 5, none⟩) (v := _) (kcA); have fkk60 := keepF hb4 (a := ⟨w.heap.size + 1 + 1, 5, none⟩) (v := _) (kcA) (kfA); have kk61 := keep hb4 (a := ⟨w.heap.size + 1 + 1, 6, none⟩) (v := _) (kcA); have fkk61 := keepF hb4 (a := ⟨w.heap.size + 1 + 1, 6, none⟩) (v := _) (kcA) (kfA); have kk62 := keep hb4 (a := ⟨w.heap.size + 1 + 1, 7, none⟩) (v := _) (kcA); have fkk62 := keepF hb4 (a := ⟨w.heap.size + 1 + 1, 7, none⟩) (v := _) (kcA) (kfA); have kk63 := keep hb4 (a := ⟨w.heap.size + 1 + 1, 8, none⟩) (v := _) (kcA); have fkk63 := keepF hb4 (a := ⟨w.heap.size + 1 + 1, 8, none⟩) (v := _) (kcA) (kfA); have kk64 := keep hb4 (a := ⟨w.heap.size + 1 + 1, 9, none⟩) (v := _) (kcA); have fkk64 := keepF hb4 (a := ⟨w.heap.size + 1 + 1, 9, none⟩) (v := _) (kcA) (kfA); clear q0 q1 q2 q3 q4 q5 q6 q7)); (try clear kk29 kk30 kk31 kk32 kk33 fkk33 kk34 fkk34 kk35 fkk35 kk36 fkk36 kk37 fkk37 kk38 fkk38 kk39 fkk39 kk40 fkk40 kk41 fkk41 kk42 fkk42 kk43 kk44 kk45 kk46))
  all_goals go_wp2_with fail
  all_goals refine bodyPost_ret (v := .tuple #[.agg #[.int .i64 e, .int .i64 f, .int .i64 g, .int .i64 h, .int .i64 X, .int .i64 Y, .int .i64 A, .int .i64 B, .int .i64 C, .int .i64 D], .bool true]) (by simp [results, Try.results42, go_sem, *]) rfl ?_; exact ⟨rfl, blA⟩
set_option maxHeartbeats 4000000 in
theorem icarriers_v {e f g h X Y A B C D p q r s : Int} (w : World) (hd : mdO X Y = true) (ke : gok e f = true) (kg : gok g h = true) (bA : Bd A) (bB : Bd B) (bC : Bd C) (bD : Bd D) (h1 : rs (X, Y) (mu (C, D) (g, h)) = (p, q)) (h2 : rs (X, Y) (mu (A, B) (e, f)) = (r, s)) : Calls Try.prog 54 #[.agg #[.int .i64 e, .int .i64 f, .int .i64 g, .int .i64 h, .int .i64 X, .int .i64 Y, .int .i64 A, .int .i64 B, .int .i64 C, .int .i64 D]] w fun e' w' => e' = .returned (.tuple #[.agg #[.int .i64 p, .int .i64 q], .agg #[.int .i64 r, .int .i64 s]]) ∧ Below w.heap.size w w' := by
  go_enter Try.func54, Try.ntmps54
  go_upto_region 1 with fail
  refine wp_name ?_
  intro w0 hb0
  (have hz0 := hb0.size; (repeat (first | rw [World.size_alloc] at hz0 | rw [World.size_setCell] at hz0 | rw [World.size_drew] at hz0)); have kk1 := keep hb0 (a := ⟨w.heap.size, 0, none⟩) (v := _) (kcA); have kk2 := keep hb0 (a := ⟨w.heap.size, 1, none⟩) (v := _) (kcA); have kk3 := keep hb0 (a := ⟨w.heap.size, 2, none⟩) (v := _) (kcA); have kk4 := keep hb0 (a := ⟨w.heap.size, 3, none⟩) (v := _) (kcA); have kk5 := keep hb0 (a := ⟨w.heap.size, 4, none⟩) (v := _) (kcA); have kk6 := keep hb0 (a := ⟨w.heap.size, 5, none⟩) (v := _) (kcA); have kk7 := keep hb0 (a := ⟨w.heap.size, 6, none⟩) (v := _) (kcA); have kk8 := keep hb0 (a := ⟨w.heap.size, 7, none⟩) (v := _) (kcA); have kk9 := keep hb0 (a := ⟨w.heap.size, 8, none⟩) (v := _) (kcA); have kk10 := keep hb0 (a := ⟨w.heap.size, 9, none⟩) (v := _) (kcA); have pp := T2.K hb0 (b := w.heap.size + 1) (x := _) (y := _) (t2A); obtain ⟨kk11, kk12, fkk11, fkk12⟩ := pp; have pp := T2.K hb0 (b := w.heap.size + 1 + 1) (x := _) (y := _) (t2A); obtain ⟨kk13, kk14, fkk13, fkk14⟩ := pp)
  (go_region_held3 (fun w' => w'.cell? ⟨w.heap.size, 0, none⟩ = some (.int .i64 (e)) ∧ w'.cell? ⟨w.heap.size, 1, none⟩ = some (.int .i64 (f)) ∧ w'.cell? ⟨w.heap.size, 2, none⟩ = some (.int .i64 (g)) ∧ w'.cell? ⟨w.heap.size, 3, none⟩ = some (.int .i64 (h)) ∧ w'.cell? ⟨w.heap.size, 4, none⟩ = some (.int .i64 (X)) ∧ w'.cell? ⟨w.heap.size, 5, none⟩ = some (.int .i64 (Y)) ∧ w'.cell? ⟨w.heap.size, 6, none⟩ = some (.int .i64 (A)) ∧ w'.cell? ⟨w.heap.size, 7, none⟩ = some (.int .i64 (B)) ∧ w'.cell? ⟨w.heap.size, 8, none⟩ = some (.int .i64 (C)) ∧ w'.cell? ⟨w.heap.size, 9, none⟩ = some (.int .i64 (D))) (first | (go_keep; done) | ((try dsimp only); refine ⟨?_, ?_, ?_, ?_, ?_, ?_, ?_, ?_, ?_, ?_⟩ <;> exact kcA)) (first | (go_at_call 53; obtain ⟨q0, q1, q2, q3, q4, q5, q6, q7, q8, q9⟩ := ‹_ ∧ _ ∧ _ ∧ _ ∧ _ ∧ _ ∧ _ ∧ _ ∧ _ ∧ _›; refine (igProd_w _ (by first | exact bC | exact bA) (by first | exact bD | exact bB) (by first | exact kg | exact ke) hd (by first | exact h1 | exact h2)).mono ?_; rintro e w1 ⟨rfl, hb1⟩; have hz1 := hb1.size; (repeat (first | rw [World.size_alloc] at hz1 | rw [World.size_setCell] at hz1 | rw [World.size_drew] at hz1)); have kk15 := keep hb1 q0; have kk16 := keep hb1 q1; have kk17 := keep hb1 q2; have kk18 := keep hb1 q3; have kk19 := keep hb1 q4; have kk20 := keep hb1 q5; have kk21 := keep hb1 q6; have kk22 := keep hb1 q7; have kk23 := keep hb1 q8; have kk24 := keep hb1 q9; obtain ⟨hc1, hf1⟩ := bcell hb1; have pp := T2.K hb1 (b := w.heap.size + 1) (x := _) (y := _) (t2A); obtain ⟨kk25, kk26, fkk25, fkk26⟩ := pp; have pp := T2.K hb1 (b := w.heap.size + 1 + 1) (x := _) (y := _) (t2A); obtain ⟨kk27, kk28, fkk27, fkk28⟩ := pp; clear q0 q1 q2 q3 q4 q5 q6 q7 q8 q9)); (try clear kk1 kk2 kk3 kk4 kk5 kk6 kk7 kk8 kk9 kk10 kk11 kk12 fkk11 fkk12 kk13 kk14 fkk13 fkk14))
  all_goals go_wp2_with fail
  all_goals refine bodyPost_ret (v := .tuple #[.agg #[.int .i64 p, .int .i64 q], .agg #[.int .i64 r, .int .i64 s]]) (by simp [results, Try.results54, go_sem, *]) rfl ?_; exact ⟨rfl, blA⟩
set_option maxHeartbeats 8000000 in
theorem ijoined_v {a b c d e f g h X Y A B C D x y p q r s P1 P2 Q1 Q2 : Int} (w : World) (H : JW a b c d e f g h X Y A B C D x y p q r s P1 P2 Q1 Q2) : Calls Try.prog 43 #[.agg #[.int .i64 e, .int .i64 f, .int .i64 g, .int .i64 h, .int .i64 X, .int .i64 Y, .int .i64 A, .int .i64 B, .int .i64 C, .int .i64 D], .agg #[.int .i64 a, .int .i64 b], .agg #[.int .i64 c, .int .i64 d]] w fun e' w' => e' = .returned (.agg #[.int .i64 x, .int .i64 y]) ∧ Below w.heap.size w w' := by
  obtain ⟨hd, ke, kg, bA, bB, bC, bD, h1, h2, ⟨a1, a2⟩, ⟨c1, c2⟩, k1, k2, h3, h4, h5⟩ := H
  go_enter Try.func43, Try.ntmps43
  go_wp2_with fail
  (refine (icarriers_v _ hd ke kg bA bB bC bD h1 h2).mono ?_; rintro e w1 ⟨rfl, hb1⟩; have hz1 := hb1.size; (repeat (first | rw [World.size_alloc] at hz1 | rw [World.size_setCell] at hz1 | rw [World.size_drew] at hz1)); have kk1 := keep hb1 (a := ⟨w.heap.size, 0, none⟩) (v := _) (kcA); have kk2 := keep hb1 (a := ⟨w.heap.size, 1, none⟩) (v := _) (kcA); have kk3 := keep hb1 (a := ⟨w.heap.size, 2, none⟩) (v := _) (kcA); have kk4 := keep hb1 (a := ⟨w.heap.size, 3, none⟩) (v := _) (kcA); have kk5 := keep hb1 (a := ⟨w.heap.size, 4, none⟩) (v := _) (kcA); have kk6 := keep hb1 (a := ⟨w.heap.size, 5, none⟩) (v := _) (kcA); have kk7 := keep hb1 (a := ⟨w.heap.size, 6, none⟩) (v := _) (kcA); have kk8 := keep hb1 (a := ⟨w.heap.size, 7, none⟩) (v := _) (kcA); have kk9 := keep hb1 (a := ⟨w.heap.size, 8, none⟩) (v := _) (kcA); have kk10 := keep hb1 (a := ⟨w.heap.size, 9, none⟩) (v := _) (kcA); have pp := C2.K hb1 (b := w.heap.size + 1) (x := _) (y := _) (c2A); obtain ⟨kk11, kk12⟩ := pp; have pp := C2.K hb1 (b := w.heap.size + 1 + 1) (x := _) (y := _) (c2A); obtain ⟨kk13, kk14⟩ := pp; have pp := T2.K hb1 (b := w.heap.size + 1 + 1 + 1) (x := _) (y := _) (t2A); obtain ⟨kk15, kk16, fkk15, fkk16⟩ := pp)
  clear ke kg bA bB bC bD h1 h2
  go_upto_region 2 with fail
  refine wp_name ?_
  intro w2 hb2
  (have hz2 := hb2.size; (repeat (first | rw [World.size_alloc] at hz2 | rw [World.size_setCell] at hz2 | rw [World.size_drew] at hz2)); have kk17 := keep hb2 (a := ⟨w.heap.size, 0, none⟩) (v := _) (kcA); have kk18 := keep hb2 (a := ⟨w.heap.size, 1, none⟩) (v := _) (kcA); have kk19 := keep hb2 (a := ⟨w.heap.size, 2, none⟩) (v := _) (kcA); have kk20 := keep hb2 (a := ⟨w.heap.size, 3, none⟩) (v := _) (kcA); have kk21 := keep hb2 (a := ⟨w.heap.size, 4, none⟩) (v := _) (kcA); have kk22 := keep hb2 (a := ⟨w.heap.size, 5, none⟩) (v := _) (kcA); have kk23 := keep hb2 (a := ⟨w.heap.size, 6, none⟩) (v := _) (kcA); have kk24 := keep hb2 (a := ⟨w.heap.size, 7, none⟩) (v := _) (kcA); have kk25 := keep hb2 (a := ⟨w.heap.size, 8, none⟩) (v := _) (kcA); have kk26 := keep hb2 (a := ⟨w.heap.size, 9, none⟩) (v := _) (kcA); have pp := C2.K hb2 (b := w.heap.size + 1) (x := _) (y := _) (c2A); obtain ⟨kk27, kk28⟩ := pp; have pp := C2.K hb2 (b := w.heap.size + 1 + 1) (x := _) (y := _) (c2A); obtain ⟨kk29, kk30⟩ := pp; have pp := T2.K hb2 (b := w.heap.size + 1 + 1 + 1) (x := _) (y := _) (t2A); obtain ⟨kk31, kk32, fkk31, fkk32⟩ := pp; have pp := C2.K hb2 (b := w1.heap.size) (x := _) (y := _) (c2A); obtain ⟨kk33, kk34⟩ := pp; have pp := C2.K hb2 (b := w1.heap.size + 1) (x := _) (y := _) (c2A); obtain ⟨kk35, kk36⟩ := pp; (try clear kk1 kk2 kk3 kk4 kk5 kk6 kk7 kk8 kk9 kk10 kk11 kk12 kk13 kk14 kk15 kk16 fkk15 fkk16))
  (go_region_held3 (fun w' => w'.cell? ⟨w.heap.size, 0, none⟩ = some (.int .i64 (e)) ∧ w'.cell? ⟨w.heap.size, 1, none⟩ = some (.int .i64 (f)) ∧ w'.cell? ⟨w.heap.size, 2, none⟩ = some (.int .i64 (g)) ∧ w'.cell? ⟨w.heap.size, 3, none⟩ = some (.int .i64 (h)) ∧ w'.cell? ⟨w.heap.size, 4, none⟩ = some (.int .i64 (X)) ∧ w'.cell? ⟨w.heap.size, 5, none⟩ = some (.int .i64 (Y)) ∧ w'.cell? ⟨w.heap.size, 6, none⟩ = some (.int .i64 (A)) ∧ w'.cell? ⟨w.heap.size, 7, none⟩ = some (.int .i64 (B)) ∧ w'.cell? ⟨w.heap.size, 8, none⟩ = some (.int .i64 (C)) ∧ w'.cell? ⟨w.heap.size, 9, none⟩ = some (.int .i64 (D)) ∧ w'.cell? ⟨w.heap.size + 1, 0, none⟩ = some (.int .i64 (a)) ∧ w'.cell? ⟨w.heap.size + 1, 1, none⟩ = some (.int .i64 (b)) ∧ w'.cell? ⟨w.heap.size + 1 + 1, 0, none⟩ = some (.int .i64 (c)) ∧ w'.cell? ⟨w.heap.size + 1 + 1, 1, none⟩ = some (.int .i64 (d)) ∧ w'.cell? ⟨w1.heap.size, 0, none⟩ = some (.int .i64 (p)) ∧ w'.cell? ⟨w1.heap.size, 1, none⟩ = some (.int .i64 (q)) ∧ w'.cell? ⟨w1.heap.size + 1, 0, none⟩ = some (.int .i64 (r)) ∧ w'.cell? ⟨w1.heap.size + 1, 1, none⟩ = some (.int .i64 (s))) (first | (go_keep; done) | ((try dsimp only); refine ⟨?_, ?_, ?_, ?_, ?_, ?_, ?_, ?_, ?_, ?_, ?_, ?_, ?_, ?_, ?_, ?_, ?_, ?_⟩ <;> exact kcA)) (first | (go_at_call 53; obtain ⟨q0, q1, q2, q3, q4, q5, q6, q7, q8, q9, q10, q11, q12, q13, q14, q15, q16, q17⟩ := ‹_ ∧ _ ∧ _ ∧ _ ∧ _ ∧ _ ∧ _ ∧ _ ∧ _ ∧ _ ∧ _ ∧ _ ∧ _ ∧ _ ∧ _ ∧ _ ∧ _ ∧ _›; refine (igProd_w _ (by first | exact a1 | exact c1) (by first | exact a2 | exact c2) (by first | exact k1 | exact k2) hd (by first | exact h3 | exact h4)).mono ?_; rintro e w3 ⟨rfl, hb3⟩; have hz3 := hb3.size; (repeat (first | rw [World.size_alloc] at hz3 | rw [World.size_setCell] at hz3 | rw [World.size_drew] at hz3)); have kk37 := keep hb3 q0; have kk38 := keep hb3 q1; have kk39 := keep hb3 q2; have kk40 := keep hb3 q3; have kk41 := keep hb3 q4; have kk42 := keep hb3 q5; have kk43 := keep hb3 q6; have kk44 := keep hb3 q7; have kk45 := keep hb3 q8; have kk46 := keep hb3 q9; have kk47 := keep hb3 q10; have kk48 := keep hb3 q11; have kk49 := keep hb3 q12; have kk50 := keep hb3 q13; have kk51 := keep hb3 q14; have kk52 := keep hb3 q15; have kk53 := keep hb3 q16; have kk54 := keep hb3 q17; obtain ⟨hc3, hf3⟩ := bcell hb3; have pp := T2.K hb3 (b := w.heap.size + 1 + 1 + 1) (x := _) (y := _) (t2A); obtain ⟨kk55, kk56, fkk55, fkk56⟩ := pp; clear q0 q1 q2 q3 q4 q5 q6 q7 q8 q9 q10 q11 q12 q13 q14 q15 q16 q17) | (go_at_call 55; obtain ⟨q0, q1, q2, q3, q4, q5, q6, q7, q8, q9, q10, q11, q12, q13, q14, q15, q16, q17⟩ := ‹_ ∧ _ ∧ _ ∧ _ ∧ _ ∧ _ ∧ _ ∧ _ ∧ _ ∧ _ ∧ _ ∧ _ ∧ _ ∧ _ ∧ _ ∧ _ ∧ _ ∧ _›; refine (igsum_v _ h5).mono ?_; rintro e w4 ⟨rfl, hb4⟩; have hz4 := hb4.size; (repeat (first | rw [World.size_alloc] at hz4 | rw [World.size_setCell] at hz4 | rw [World.size_drew] at hz4)); have kk57 := keep hb4 q0; have kk58 := keep hb4 q1; have kk59 := keep hb4 q2; have kk60 := keep hb4 q3; have kk61 := keep hb4 q4; have kk62 := keep hb4 q5; have kk63 := keep hb4 q6; have kk64 := keep hb4 q7; have kk65 := keep hb4 q8; have kk66 := keep hb4 q9; have kk67 := keep hb4 q10; have kk68 := keep hb4 q11; have kk69 := keep hb4 q12; have kk70 := keep hb4 q13; have kk71 := keep hb4 q14; have kk72 := keep hb4 q15; have kk73 := keep hb4 q16; have kk74 := keep hb4 q17; obtain ⟨hc4, hf4⟩ := bcell hb4; have pp := T2.K hb4 (b := w.heap.size + 1 + 1 + 1) (x := _) (y := _) (t2A); obtain ⟨kk75, kk76, fkk75, fkk76⟩ := pp; clear q0 q1 q2 q3 q4 q5 q6 q7 q8 q9 q10 q11 q12 q13 q14 q15 q16 q17)); (try clear kk17 kk18 kk19 kk20 kk21 kk22 kk23 kk24 kk25 kk26 kk27 kk28 kk29 kk30 kk31 kk32 fkk31 fkk32 kk33 kk34 kk35 kk36))
  all_goals go_wp2_with fail
  all_goals refine bodyPost_ret (v := .agg #[.int .i64 x, .int .i64 y]) (by simp [results, Try.results43, go_sem, *]) rfl ?_; exact ⟨rfl, blA⟩
set_option maxHeartbeats 4000000 in
theorem iparted_v {a b e f g h X Y A B C D p q r s : Int} (w : World) (h1 : dvO a b e f = true) (h2 : dvO a b g h = true) (e1 : rA a b e f = p) (e2 : rB a b e f = q) (e3 : rA a b g h = r) (e4 : rB a b g h = s) : Calls Try.prog 46 #[.agg #[.int .i64 e, .int .i64 f, .int .i64 g, .int .i64 h, .int .i64 X, .int .i64 Y, .int .i64 A, .int .i64 B, .int .i64 C, .int .i64 D], .agg #[.int .i64 a, .int .i64 b]] w fun e' w' => e' = .returned (.tuple #[.agg #[.int .i64 p, .int .i64 q], .agg #[.int .i64 r, .int .i64 s]]) ∧ Below w.heap.size w w' := by
  go_enter Try.func46, Try.ntmps46
  go_upto_region 1 with fail
  refine wp_name ?_
  intro w0 hb0
  (have hz0 := hb0.size; (repeat (first | rw [World.size_alloc] at hz0 | rw [World.size_setCell] at hz0 | rw [World.size_drew] at hz0)); have kk1 := keep hb0 (a := ⟨w.heap.size, 0, none⟩) (v := _) (kcA); have kk2 := keep hb0 (a := ⟨w.heap.size, 1, none⟩) (v := _) (kcA); have kk3 := keep hb0 (a := ⟨w.heap.size, 2, none⟩) (v := _) (kcA); have kk4 := keep hb0 (a := ⟨w.heap.size, 3, none⟩) (v := _) (kcA); have kk5 := keep hb0 (a := ⟨w.heap.size, 4, none⟩) (v := _) (kcA); have kk6 := keep hb0 (a := ⟨w.heap.size, 5, none⟩) (v := _) (kcA); have kk7 := keep hb0 (a := ⟨w.heap.size, 6, none⟩) (v := _) (kcA); have kk8 := keep hb0 (a := ⟨w.heap.size, 7, none⟩) (v := _) (kcA); have kk9 := keep hb0 (a := ⟨w.heap.size, 8, none⟩) (v := _) (kcA); have kk10 := keep hb0 (a := ⟨w.heap.size, 9, none⟩) (v := _) (kcA); have pp := C2.K hb0 (b := w.heap.size + 1) (x := _) (y := _) (c2A); obtain ⟨kk11, kk12⟩ := pp; have pp := T2.K hb0 (b := w.heap.size + 1 + 1) (x := _) (y := _) (t2A); obtain ⟨kk13, kk14, fkk13, fkk14⟩ := pp; have pp := T2.K hb0 (b := w.heap.size + 1 + 1 + 1) (x := _) (y := _) (t2A); obtain ⟨kk15, kk16, fkk15, fkk16⟩ := pp)
  (go_region_held3 (fun w' => w'.cell? ⟨w.heap.size, 0, none⟩ = some (.int .i64 (e)) ∧ w'.cell? ⟨w.heap.size, 1, none⟩ = some (.int .i64 (f)) ∧ w'.cell? ⟨w.heap.size, 2, none⟩ = some (.int .i64 (g)) ∧ w'.cell? ⟨w.heap.size, 3, none⟩ = some (.int .i64 (h)) ∧ w'.cell? ⟨w.heap.size, 4, none⟩ = some (.int .i64 (X)) ∧ w'.cell? ⟨w.heap.size, 5, none⟩ = some (.int .i64 (Y)) ∧ w'.cell? ⟨w.heap.size, 6, none⟩ = some (.int .i64 (A)) ∧ w'.cell? ⟨w.heap.size, 7, none⟩ = some (.int .i64 (B)) ∧ w'.cell? ⟨w.heap.size, 8, none⟩ = some (.int .i64 (C)) ∧ w'.cell? ⟨w.heap.size, 9, none⟩ = some (.int .i64 (D)) ∧ w'.cell? ⟨w.heap.size + 1, 0, none⟩ = some (.int .i64 (a)) ∧ w'.cell? ⟨w.heap.size + 1, 1, none⟩ = some (.int .i64 (b))) (first | (go_keep; done) | ((try dsimp only); refine ⟨?_, ?_, ?_, ?_, ?_, ?_, ?_, ?_, ?_, ?_, ?_, ?_⟩ <;> exact kcA)) (first | (go_at_call 68; obtain ⟨q0, q1, q2, q3, q4, q5, q6, q7, q8, q9, q10, q11⟩ := ‹_ ∧ _ ∧ _ ∧ _ ∧ _ ∧ _ ∧ _ ∧ _ ∧ _ ∧ _ ∧ _ ∧ _›; refine (igRest_v _ (by first | exact h1 | exact h2) (by first | exact e1 | exact e3) (by first | exact e2 | exact e4)).mono ?_; rintro e w1 ⟨rfl, hb1⟩; have hz1 := hb1.size; (repeat (first | rw [World.size_alloc] at hz1 | rw [World.size_setCell] at hz1 | rw [World.size_drew] at hz1)); have kk17 := keep hb1 q0; have kk18 := keep hb1 q1; have kk19 := keep hb1 q2; have kk20 := keep hb1 q3; have kk21 := keep hb1 q4; have kk22 := keep hb1 q5; have kk23 := keep hb1 q6; have kk24 := keep hb1 q7; have kk25 := keep hb1 q8; have kk26 := keep hb1 q9; have kk27 := keep hb1 q10; have kk28 := keep hb1 q11; obtain ⟨hc1, hf1⟩ := bcell hb1; have pp := T2.K hb1 (b := w.heap.size + 1 + 1) (x := _) (y := _) (t2A); obtain ⟨kk29, kk30, fkk29, fkk30⟩ := pp; have pp := T2.K hb1 (b := w.heap.size + 1 + 1 + 1) (x := _) (y := _) (t2A); obtain ⟨kk31, kk32, fkk31, fkk32⟩ := pp; clear q0 q1 q2 q3 q4 q5 q6 q7 q8 q9 q10 q11)); (try clear kk1 kk2 kk3 kk4 kk5 kk6 kk7 kk8 kk9 kk10 kk11 kk12 kk13 kk14 fkk13 fkk14 kk15 kk16 fkk15 fkk16))
  all_goals go_wp2_with fail
  all_goals refine bodyPost_ret (v := .tuple #[.agg #[.int .i64 p, .int .i64 q], .agg #[.int .i64 r, .int .i64 s]]) (by simp [results, Try.results46, go_sem, *]) rfl ?_; exact ⟨rfl, blA⟩
set_option maxHeartbeats 4000000 in
theorem iJoinedOf_v {a b c d e f g h x y : Int} {o : Bool} (w : World) (k : JoIs a b c d e f g h o x y) : Calls Try.prog 17 #[.agg #[.int .i64 a, .int .i64 b], .agg #[.int .i64 c, .int .i64 d], .agg #[.int .i64 e, .int .i64 f], .agg #[.int .i64 g, .int .i64 h]] w fun e' w' => e' = .returned (.tuple #[.agg #[.int .i64 x, .int .i64 y], .bool o]) ∧ Below w.heap.size w w' := by
  cases kp : paO e f g h
  · obtain rfl : o = false := by rw [k.is, kp, Bool.and_false]
    obtain ⟨rfl, rfl⟩ := k.no rfl
    clear k
    go_enter Try.func17, Try.ntmps17
    go_wp2_with fail
    (refine (ipairOf_f _ kp).mono ?_; rintro e w1 ⟨rfl, hb1⟩; have hz1 := hb1.size; (repeat (first | rw [World.size_alloc] at hz1 | rw [World.size_setCell] at hz1 | rw [World.size_drew] at hz1)); have pp := T2.K hb1 (b := w.heap.size + 1 + 1 + 1 + 1) (x := _) (y := _) (t2A); obtain ⟨kk1, kk2, fkk1, fkk2⟩ := pp)
    go_wp2_with fail
    refine bodyPost_ret (v := .tuple #[.agg #[.int .i64 0, .int .i64 0], .bool false]) (by simp [results, Try.results17, go_sem, *]) rfl ?_; exact ⟨rfl, blA⟩
  cases k1 : gok a b
  · obtain rfl : o = false := by rw [k.is, k1]; rfl
    obtain ⟨rfl, rfl⟩ := k.no rfl
    clear k
    go_enter Try.func17, Try.ntmps17
    go_wp2_with fail
    (refine (ipairOf_t _ kp ⟨(pa_sum kp).1, rfl, rfl, rfl, rfl⟩ rfl rfl).mono ?_; rintro e w1 ⟨rfl, hb1⟩; have hz1 := hb1.size; (repeat (first | rw [World.size_alloc] at hz1 | rw [World.size_setCell] at hz1 | rw [World.size_drew] at hz1)); have pp := C2.K hb1 (b := w.heap.size) (x := _) (y := _) (c2A); obtain ⟨kk3, kk4⟩ := pp; have pp := T2.K hb1 (b := w.heap.size + 1 + 1 + 1 + 1) (x := _) (y := _) (t2A); obtain ⟨kk5, kk6, fkk5, fkk6⟩ := pp; (try clear kk1 kk2 fkk1 fkk2))
    go_wp2_with fail
    (refine (iGaussOk _ _ _).mono ?_; rintro e w2 ⟨rfl, hb2⟩; have hz2 := hb2.size; (repeat (first | rw [World.size_alloc] at hz2 | rw [World.size_setCell] at hz2 | rw [World.size_drew] at hz2)); have pp := T2.K hb2 (b := w.heap.size + 1 + 1 + 1 + 1) (x := _) (y := _) (t2A); obtain ⟨kk7, kk8, fkk7, fkk8⟩ := pp; (try clear kk3 kk4 kk5 kk6 fkk5 fkk6))
    go_wp2_with fail
    refine bodyPost_ret (v := .tuple #[.agg #[.int .i64 0, .int .i64 0], .bool false]) (by simp [results, Try.results17, go_sem, *]) rfl ?_; exact ⟨rfl, blA⟩
  cases k2 : gok c d
  · obtain rfl : o = false := by rw [k.is, k1, k2]; rfl
    obtain ⟨rfl, rfl⟩ := k.no rfl
    clear k
    go_enter Try.func17, Try.ntmps17
    go_wp2_with fail
    (refine (ipairOf_t _ kp ⟨(pa_sum kp).1, rfl, rfl, rfl, rfl⟩ rfl rfl).mono ?_; rintro e w1 ⟨rfl, hb1⟩; have hz1 := hb1.size; (repeat (first | rw [World.size_alloc] at hz1 | rw [World.size_setCell] at hz1 | rw [World.size_drew] at hz1)); have pp := C2.K hb1 (b := w.heap.size) (x := _) (y := _) (c2A); obtain ⟨kk9, kk10⟩ := pp; have pp := C2.K hb1 (b := w.heap.size + 1) (x := _) (y := _) (c2A); obtain ⟨kk11, kk12⟩ := pp; have pp := T2.K hb1 (b := w.heap.size + 1 + 1 + 1 + 1) (x := _) (y := _) (t2A); obtain ⟨kk13, kk14, fkk13, fkk14⟩ := pp; (try clear kk7 kk8 fkk7 fkk8))
    go_wp2_with fail
    (refine (iGaussOk _ _ _).mono ?_; rintro e w2 ⟨rfl, hb2⟩; have hz2 := hb2.size; (repeat (first | rw [World.size_alloc] at hz2 | rw [World.size_setCell] at hz2 | rw [World.size_drew] at hz2)); have pp := C2.K hb2 (b := w.heap.size + 1) (x := _) (y := _) (c2A); obtain ⟨kk15, kk16⟩ := pp; have pp := T2.K hb2 (b := w.heap.size + 1 + 1 + 1 + 1) (x := _) (y := _) (t2A); obtain ⟨kk17, kk18, fkk17, fkk18⟩ := pp; (try clear kk9 kk10 kk11 kk12 kk13 kk14 fkk13 fkk14))
    go_wp2_with fail
    (refine (iGaussOk _ _ _).mono ?_; rintro e w3 ⟨rfl, hb3⟩; have hz3 := hb3.size; (repeat (first | rw [World.size_alloc] at hz3 | rw [World.size_setCell] at hz3 | rw [World.size_drew] at hz3)); have pp := T2.K hb3 (b := w.heap.size + 1 + 1 + 1 + 1) (x := _) (y := _) (t2A); obtain ⟨kk19, kk20, fkk19, fkk20⟩ := pp; (try clear kk15 kk16 kk17 kk18 fkk17 fkk18))
    go_wp2_with fail
    refine bodyPost_ret (v := .tuple #[.agg #[.int .i64 0, .int .i64 0], .bool false]) (by simp [results, Try.results17, go_sem, *]) rfl ?_; exact ⟨rfl, blA⟩
  obtain rfl : o = true := by rw [k.is, k1, k2, kp]; rfl
  obtain ⟨A, B, C, D, p, q, r, s, P1, P2, Q1, Q2, hc, hj⟩ := jw_is k1 k2 kp (k.val rfl)
  obtain ⟨X, hX⟩ : ∃ X, e * g - f * h = X := ⟨_, rfl⟩
  obtain ⟨Y, hY⟩ : ∃ Y, e * h + f * g = Y := ⟨_, rfl⟩
  rw [hX, hY] at hj
  clear k
  go_enter Try.func17, Try.ntmps17
  go_wp2_with fail
  (refine (ipairOf_t _ kp hc hX hY).mono ?_; rintro e w1 ⟨rfl, hb1⟩; have hz1 := hb1.size; (repeat (first | rw [World.size_alloc] at hz1 | rw [World.size_setCell] at hz1 | rw [World.size_drew] at hz1)); have pp := C2.K hb1 (b := w.heap.size) (x := _) (y := _) (c2A); obtain ⟨kk21, kk22⟩ := pp; have pp := C2.K hb1 (b := w.heap.size + 1) (x := _) (y := _) (c2A); obtain ⟨kk23, kk24⟩ := pp; have pp := T2.K hb1 (b := w.heap.size + 1 + 1 + 1 + 1) (x := _) (y := _) (t2A); obtain ⟨kk25, kk26, fkk25, fkk26⟩ := pp; (try clear kk19 kk20 fkk19 fkk20))
  clear kp hc hX hY
  go_wp2_with fail
  (refine (iGaussOk _ _ _).mono ?_; rintro e w2 ⟨rfl, hb2⟩; have hz2 := hb2.size; (repeat (first | rw [World.size_alloc] at hz2 | rw [World.size_setCell] at hz2 | rw [World.size_drew] at hz2)); have pp := C2.K hb2 (b := w.heap.size) (x := _) (y := _) (c2A); obtain ⟨kk27, kk28⟩ := pp; have pp := C2.K hb2 (b := w.heap.size + 1) (x := _) (y := _) (c2A); obtain ⟨kk29, kk30⟩ := pp; have pp := T2.K hb2 (b := w.heap.size + 1 + 1 + 1 + 1) (x := _) (y := _) (t2A); obtain ⟨kk31, kk32, fkk31, fkk32⟩ := pp; have kk33 := keep hb2 (a := ⟨w1.heap.size, 0, none⟩) (v := _) (kcA); have kk34 := keep hb2 (a := ⟨w1.heap.size, 1, none⟩) (v := _) (kcA); have kk35 := keep hb2 (a := ⟨w1.heap.size, 2, none⟩) (v := _) (kcA); have kk36 := keep hb2 (a := ⟨w1.heap.size, 3, none⟩) (v := _) (kcA); have kk37 := keep hb2 (a := ⟨w1.heap.size, 4, none⟩) (v := _) (kcA); have kk38 := keep hb2 (a := ⟨w1.heap.size, 5, none⟩) (v := _) (kcA); have kk39 := keep hb2 (a := ⟨w1.heap.size, 6, none⟩) (v := _) (kcA); have kk40 := keep hb2 (a := ⟨w1.heap.size, 7, none⟩) (v := _) (kcA); have kk41 := keep hb2 (a := ⟨w1.heap.size, 8, none⟩) (v := _) (kcA); have kk42 := keep hb2 (a := ⟨w1.heap.size, 9, none⟩) (v := _) (kcA); (try clear kk21 kk22 kk23 kk24 kk25 kk26 fkk25 fkk26))
  go_wp2_with fail
  (refine (iGaussOk _ _ _).mono ?_; rintro e w3 ⟨rfl, hb3⟩; have hz3 := hb3.size; (repeat (first | rw [World.size_alloc] at hz3 | rw [World.size_setCell] at hz3 | rw [World.size_drew] at hz3)); have pp := C2.K hb3 (b := w.heap.size) (x := _) (y := _) (c2A); obtain ⟨kk43, kk44⟩ := pp; have pp := C2.K hb3 (b := w.heap.size + 1) (x := _) (y := _) (c2A); obtain ⟨kk45, kk46⟩ := pp; have pp := T2.K hb3 (b := w.heap.size + 1 + 1 + 1 + 1) (x := _) (y := _) (t2A); obtain ⟨kk47, kk48, fkk47, fkk48⟩ := pp; have kk49 := keep hb3 (a := ⟨w1.heap.size, 0, none⟩) (v := _) (kcA); have kk50 := keep hb3 (a := ⟨w1.heap.size, 1, none⟩) (v := _) (kcA); have kk51 := keep hb3 (a := ⟨w1.heap.size, 2, none⟩) (v := _) (kcA); have kk52 := keep hb3 (a := ⟨w1.heap.size, 3, none⟩) (v := _) (kcA); have kk53 := keep hb3 (a := ⟨w1.heap.size, 4, none⟩) (v := _) (kcA); have kk54 := keep hb3 (a := ⟨w1.heap.size, 5, none⟩) (v := _) (kcA); have kk55 := keep hb3 (a := ⟨w1.heap.size, 6, none⟩) (v := _) (kcA); have kk56 := keep hb3 (a := ⟨w1.heap.size, 7, none⟩) (v := _) (kcA); have kk57 := keep hb3 (a := ⟨w1.heap.size, 8, none⟩) (v := _) (kcA); have kk58 := keep hb3 (a := ⟨w1.heap.size, 9, none⟩) (v := _) (kcA); (try clear kk27 kk28 kk29 kk30 kk31 kk32 fkk31 fkk32 kk33 kk34 kk35 kk36 kk37 kk38 kk39 kk40 kk41 kk42))
  go_wp2_with fail
  clear k1 k2
  (refine (ijoined_v _ hj).mono ?_; rintro e w4 ⟨rfl, hb4⟩; have hz4 := hb4.size; (repeat (first | rw [World.size_alloc] at hz4 | rw [World.size_setCell] at hz4 | rw [World.size_drew] at hz4)); have pp := T2.K hb4 (b := w.heap.size + 1 + 1 + 1 + 1) (x := _) (y := _) (t2A); obtain ⟨kk59, kk60, fkk59, fkk60⟩ := pp; (try clear kk43 kk44 kk45 kk46 kk47 kk48 fkk47 fkk48 kk49 kk50 kk51 kk52 kk53 kk54 kk55 kk56 kk57 kk58))
  clear hj
  go_wp2_with fail
  refine bodyPost_ret (v := .tuple #[.agg #[.int .i64 x, .int .i64 y], .bool true]) (by simp [results, Try.results17, go_sem, *]) rfl ?_; exact ⟨rfl, blA⟩
set_option maxHeartbeats 4000000 in
theorem iPartedOf_v {a b e f g h p q r s : Int} {o : Bool} (w : World) (k : PtIs a b e f g h o p q r s) : Calls Try.prog 19 #[.agg #[.int .i64 a, .int .i64 b], .agg #[.int .i64 e, .int .i64 f], .agg #[.int .i64 g, .int .i64 h]] w fun e' w' => e' = .returned (.tuple #[.agg #[.int .i64 p, .int .i64 q], .agg #[.int .i64 r, .int .i64 s], .bool o]) ∧ Below w.heap.size w w' := by
  cases kp : paO e f g h
  · obtain rfl : o = false := by rw [k.is, kp, Bool.and_false]
    obtain ⟨rfl, rfl, rfl, rfl⟩ := k.no rfl
    clear k
    go_enter Try.func19, Try.ntmps19
    go_wp2_with fail
    (refine (ipairOf_f _ kp).mono ?_; rintro e w1 ⟨rfl, hb1⟩; have hz1 := hb1.size; (repeat (first | rw [World.size_alloc] at hz1 | rw [World.size_setCell] at hz1 | rw [World.size_drew] at hz1)); have pp := T2.K hb1 (b := w.heap.size + 1 + 1 + 1) (x := _) (y := _) (t2A); obtain ⟨kk1, kk2, fkk1, fkk2⟩ := pp; have pp := T2.K hb1 (b := w.heap.size + 1 + 1 + 1 + 1) (x := _) (y := _) (t2A); obtain ⟨kk3, kk4, fkk3, fkk4⟩ := pp)
    go_wp2_with fail
    refine bodyPost_ret (v := .tuple #[.agg #[.int .i64 0, .int .i64 0], .agg #[.int .i64 0, .int .i64 0], .bool false]) (by simp [results, Try.results19, go_sem, *]) rfl ?_; exact ⟨rfl, blA⟩
  cases k1 : gok a b
  · obtain rfl : o = false := by rw [k.is, k1]; rfl
    obtain ⟨rfl, rfl, rfl, rfl⟩ := k.no rfl
    clear k
    go_enter Try.func19, Try.ntmps19
    go_wp2_with fail
    (refine (ipairOf_t _ kp ⟨(pa_sum kp).1, rfl, rfl, rfl, rfl⟩ rfl rfl).mono ?_; rintro e w1 ⟨rfl, hb1⟩; have hz1 := hb1.size; (repeat (first | rw [World.size_alloc] at hz1 | rw [World.size_setCell] at hz1 | rw [World.size_drew] at hz1)); have pp := C2.K hb1 (b := w.heap.size) (x := _) (y := _) (c2A); obtain ⟨kk5, kk6⟩ := pp; have pp := T2.K hb1 (b := w.heap.size + 1 + 1 + 1) (x := _) (y := _) (t2A); obtain ⟨kk7, kk8, fkk7, fkk8⟩ := pp; have pp := T2.K hb1 (b := w.heap.size + 1 + 1 + 1 + 1) (x := _) (y := _) (t2A); obtain ⟨kk9, kk10, fkk9, fkk10⟩ := pp; (try clear kk1 kk2 fkk1 fkk2 kk3 kk4 fkk3 fkk4))
    go_wp2_with fail
    (refine (iGaussOk _ _ _).mono ?_; rintro e w2 ⟨rfl, hb2⟩; have hz2 := hb2.size; (repeat (first | rw [World.size_alloc] at hz2 | rw [World.size_setCell] at hz2 | rw [World.size_drew] at hz2)); have pp := T2.K hb2 (b := w.heap.size + 1 + 1 + 1) (x := _) (y := _) (t2A); obtain ⟨kk11, kk12, fkk11, fkk12⟩ := pp; have pp := T2.K hb2 (b := w.heap.size + 1 + 1 + 1 + 1) (x := _) (y := _) (t2A); obtain ⟨kk13, kk14, fkk13, fkk14⟩ := pp; (try clear kk5 kk6 kk7 kk8 fkk7 fkk8 kk9 kk10 fkk9 fkk10))
    go_wp2_with fail
    refine bodyPost_ret (v := .tuple #[.agg #[.int .i64 0, .int .i64 0], .agg #[.int .i64 0, .int .i64 0], .bool false]) (by simp [results, Try.results19, go_sem, *]) rfl ?_; exact ⟨rfl, blA⟩
  obtain rfl : o = true := by rw [k.is, k1, kp]; rfl
  obtain ⟨hv1, hv2⟩ := k.val rfl
  have d1 := md_dv k1 (pa_is kp).1
  have d2 := md_dv k1 (pa_is kp).2.1
  have e1 : rA a b e f = p := congrArg Prod.fst hv1
  have e2 : rB a b e f = q := congrArg Prod.snd hv1
  have e3 : rA a b g h = r := congrArg Prod.fst hv2
  have e4 : rB a b g h = s := congrArg Prod.snd hv2
  obtain ⟨A, hA⟩ : ∃ X, ffA e f g h = X := ⟨_, rfl⟩
  obtain ⟨B, hB⟩ : ∃ X, ffB e f g h = X := ⟨_, rfl⟩
  obtain ⟨C, hC⟩ : ∃ X, ffC e f g h = X := ⟨_, rfl⟩
  obtain ⟨D, hD⟩ : ∃ X, ffD e f g h = X := ⟨_, rfl⟩
  obtain ⟨X, hX⟩ : ∃ X, e * g - f * h = X := ⟨_, rfl⟩
  obtain ⟨Y, hY⟩ : ∃ Y, e * h + f * g = Y := ⟨_, rfl⟩
  clear k hv1 hv2
  go_enter Try.func19, Try.ntmps19
  go_wp2_with fail
  (refine (ipairOf_t _ kp ⟨(pa_sum kp).1, hA, hB, hC, hD⟩ hX hY).mono ?_; rintro e w1 ⟨rfl, hb1⟩; have hz1 := hb1.size; (repeat (first | rw [World.size_alloc] at hz1 | rw [World.size_setCell] at hz1 | rw [World.size_drew] at hz1)); have pp := C2.K hb1 (b := w.heap.size) (x := _) (y := _) (c2A); obtain ⟨kk15, kk16⟩ := pp; have pp := T2.K hb1 (b := w.heap.size + 1 + 1 + 1) (x := _) (y := _) (t2A); obtain ⟨kk17, kk18, fkk17, fkk18⟩ := pp; have pp := T2.K hb1 (b := w.heap.size + 1 + 1 + 1 + 1) (x := _) (y := _) (t2A); obtain ⟨kk19, kk20, fkk19, fkk20⟩ := pp; (try clear kk11 kk12 fkk11 fkk12 kk13 kk14 fkk13 fkk14))
  clear kp hA hB hC hD hX hY
  go_wp2_with fail
  (refine (iGaussOk _ _ _).mono ?_; rintro e w2 ⟨rfl, hb2⟩; have hz2 := hb2.size; (repeat (first | rw [World.size_alloc] at hz2 | rw [World.size_setCell] at hz2 | rw [World.size_drew] at hz2)); have pp := C2.K hb2 (b := w.heap.size) (x := _) (y := _) (c2A); obtain ⟨kk21, kk22⟩ := pp; have pp := T2.K hb2 (b := w.heap.size + 1 + 1 + 1) (x := _) (y := _) (t2A); obtain ⟨kk23, kk24, fkk23, fkk24⟩ := pp; have pp := T2.K hb2 (b := w.heap.size + 1 + 1 + 1 + 1) (x := _) (y := _) (t2A); obtain ⟨kk25, kk26, fkk25, fkk26⟩ := pp; have kk27 := keep hb2 (a := ⟨w1.heap.size, 0, none⟩) (v := _) (kcA); have kk28 := keep hb2 (a := ⟨w1.heap.size, 1, none⟩) (v := _) (kcA); have kk29 := keep hb2 (a := ⟨w1.heap.size, 2, none⟩) (v := _) (kcA); have kk30 := keep hb2 (a := ⟨w1.heap.size, 3, none⟩) (v := _) (kcA); have kk31 := keep hb2 (a := ⟨w1.heap.size, 4, none⟩) (v := _) (kcA); have kk32 := keep hb2 (a := ⟨w1.heap.size, 5, none⟩) (v := _) (kcA); have kk33 := keep hb2 (a := ⟨w1.heap.size, 6, none⟩) (v := _) (kcA); have kk34 := keep hb2 (a := ⟨w1.heap.size, 7, none⟩) (v := _) (kcA); have kk35 := keep hb2 (a := ⟨w1.heap.size, 8, none⟩) (v := _) (kcA); have kk36 := keep hb2 (a := ⟨w1.heap.size, 9, none⟩) (v := _) (kcA); (try clear kk15 kk16 kk17 kk18 fkk17 fkk18 kk19 kk20 fkk19 fkk20))
  go_wp2_with fail
  clear k1
  (refine (iparted_v _ d1 d2 e1 e2 e3 e4).mono ?_; rintro e w3 ⟨rfl, hb3⟩; have hz3 := hb3.size; (repeat (first | rw [World.size_alloc] at hz3 | rw [World.size_setCell] at hz3 | rw [World.size_drew] at hz3)); have pp := T2.K hb3 (b := w.heap.size + 1 + 1 + 1) (x := _) (y := _) (t2A); obtain ⟨kk37, kk38, fkk37, fkk38⟩ := pp; have pp := T2.K hb3 (b := w.heap.size + 1 + 1 + 1 + 1) (x := _) (y := _) (t2A); obtain ⟨kk39, kk40, fkk39, fkk40⟩ := pp; (try clear kk21 kk22 kk23 kk24 fkk23 fkk24 kk25 kk26 fkk25 fkk26 kk27 kk28 kk29 kk30 kk31 kk32 kk33 kk34 kk35 kk36))
  clear d1 d2 e1 e2 e3 e4
  go_wp2_with fail
  go_region
  all_goals go_wp2_with fail
  all_goals refine bodyPost_ret (v := .tuple #[.agg #[.int .i64 p, .int .i64 q], .agg #[.int .i64 r, .int .i64 s], .bool true]) (by simp [results, Try.results19, go_sem, *]) rfl ?_; exact ⟨rfl, blA⟩
set_option maxHeartbeats 4000000 in
theorem iCarriersOf_v {e f g h x y u v : Int} {o : Bool} (w : World) (k : CrIs e f g h o x y u v) : Calls Try.prog 28 #[.agg #[.int .i64 e, .int .i64 f], .agg #[.int .i64 g, .int .i64 h]] w fun e' w' => e' = .returned (.tuple #[.agg #[.int .i64 x, .int .i64 y], .agg #[.int .i64 u, .int .i64 v], .bool o]) ∧ Below w.heap.size w w' := by
  cases kp : paO e f g h
  · obtain rfl : o = false := by rw [k.is, kp]
    obtain ⟨rfl, rfl, rfl, rfl⟩ := k.no rfl
    clear k
    go_enter Try.func28, Try.ntmps28
    go_wp2_with fail
    (refine (ipairOf_f _ kp).mono ?_; rintro e w1 ⟨rfl, hb1⟩; have hz1 := hb1.size; (repeat (first | rw [World.size_alloc] at hz1 | rw [World.size_setCell] at hz1 | rw [World.size_drew] at hz1)); have pp := T2.K hb1 (b := w.heap.size + 1 + 1) (x := _) (y := _) (t2A); obtain ⟨kk1, kk2, fkk1, fkk2⟩ := pp; have pp := T2.K hb1 (b := w.heap.size + 1 + 1 + 1) (x := _) (y := _) (t2A); obtain ⟨kk3, kk4, fkk3, fkk4⟩ := pp)
    go_wp2_with fail
    refine bodyPost_ret (v := .tuple #[.agg #[.int .i64 0, .int .i64 0], .agg #[.int .i64 0, .int .i64 0], .bool false]) (by simp [results, Try.results28, go_sem, *]) rfl ?_; exact ⟨rfl, blA⟩
  obtain rfl : o = true := by rw [k.is, kp]
  obtain ⟨j1, j2⟩ := k.val rfl
  obtain ⟨hc, bA, bB, bC, bD, hs⟩ := pa_sum kp
  obtain ⟨h1, h2⟩ := cr_way kp hs j1 j2
  obtain ⟨m1, m2, -, hd⟩ := pa_is kp
  obtain ⟨A, hA⟩ : ∃ X, ffA e f g h = X := ⟨_, rfl⟩
  obtain ⟨B, hB⟩ : ∃ X, ffB e f g h = X := ⟨_, rfl⟩
  obtain ⟨C, hC⟩ : ∃ X, ffC e f g h = X := ⟨_, rfl⟩
  obtain ⟨D, hD⟩ : ∃ X, ffD e f g h = X := ⟨_, rfl⟩
  obtain ⟨X, hX⟩ : ∃ X, e * g - f * h = X := ⟨_, rfl⟩
  obtain ⟨Y, hY⟩ : ∃ Y, e * h + f * g = Y := ⟨_, rfl⟩
  rw [hX, hY] at hd h1 h2
  rw [hC, hD] at h1
  rw [hA, hB] at h2
  rw [hA] at bA
  rw [hB] at bB
  rw [hC] at bC
  rw [hD] at bD
  have ke := (md_is m1).1
  have kg := (md_is m2).1
  clear k j1 j2 hs m1 m2
  go_enter Try.func28, Try.ntmps28
  go_wp2_with fail
  (refine (ipairOf_t _ kp ⟨hc, hA, hB, hC, hD⟩ hX hY).mono ?_; rintro e w1 ⟨rfl, hb1⟩; have hz1 := hb1.size; (repeat (first | rw [World.size_alloc] at hz1 | rw [World.size_setCell] at hz1 | rw [World.size_drew] at hz1)); have pp := T2.K hb1 (b := w.heap.size + 1 + 1) (x := _) (y := _) (t2A); obtain ⟨kk5, kk6, fkk5, fkk6⟩ := pp; have pp := T2.K hb1 (b := w.heap.size + 1 + 1 + 1) (x := _) (y := _) (t2A); obtain ⟨kk7, kk8, fkk7, fkk8⟩ := pp; (try clear kk1 kk2 fkk1 fkk2 kk3 kk4 fkk3 fkk4))
  clear kp hc hA hB hC hD hX hY
  go_wp2_with fail
  (refine (icarriers_v _ hd ke kg bA bB bC bD h1 h2).mono ?_; rintro e w2 ⟨rfl, hb2⟩; have hz2 := hb2.size; (repeat (first | rw [World.size_alloc] at hz2 | rw [World.size_setCell] at hz2 | rw [World.size_drew] at hz2)); have pp := T2.K hb2 (b := w.heap.size + 1 + 1) (x := _) (y := _) (t2A); obtain ⟨kk9, kk10, fkk9, fkk10⟩ := pp; have pp := T2.K hb2 (b := w.heap.size + 1 + 1 + 1) (x := _) (y := _) (t2A); obtain ⟨kk11, kk12, fkk11, fkk12⟩ := pp; (try clear kk5 kk6 fkk5 fkk6 kk7 kk8 fkk7 fkk8))
  clear hd ke kg bA bB bC bD h1 h2
  go_wp2_with fail
  go_region
  all_goals go_wp2_with fail
  all_goals refine bodyPost_ret (v := .tuple #[.agg #[.int .i64 x, .int .i64 y], .agg #[.int .i64 u, .int .i64 v], .bool true]) (by simp [results, Try.results28, go_sem, *]) rfl ?_; exact ⟨rfl, blA⟩
end Go.Proofs.Ytggebkgfldmipaa
