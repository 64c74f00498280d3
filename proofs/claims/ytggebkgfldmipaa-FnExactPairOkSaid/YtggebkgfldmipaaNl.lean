import Derived.Test.YtggebkgfldmipaaNd
import Derived.Test.YtggebkgfldmipaaNe
import Derived.Test.YtggebkgfldmipaaL
import Derived.Test.YtggebkgfldmipaaOs
import Derived.Deep.RegionHeld3
import Derived.Deep.DeepCutAuto
namespace Go.Proofs.Ytggebkgfldmipaa
open Go Go.RowKit
attribute [local go_sem] World.cell?_alloc_some cell?_alloc2_some cell?_alloc3_some cell?_alloc4_some frozen?_alloc_some frozen?_alloc2_some frozen?_alloc3_some World.cell?_setCell_far new_ne0 new_ne1 new_ne2 new_ne3 lt2 lt3 lt4 lt5 lt6 lt7 lt8 lt9
attribute [local go_sem] cell?_alloc_lt frozen?_alloc_lt lt10

set_option maxHeartbeats 16000000 in
theorem walkFnExactJoinedOf (a b c d e f g h : Int) (w : World) (_w0 : (Lit.int .i64 a).wf = true) (_w1 : (Lit.int .i64 b).wf = true) (_w2 : (Lit.int .i64 c).wf = true) (_w3 : (Lit.int .i64 d).wf = true) (_w4 : (Lit.int .i64 e).wf = true) (_w5 : (Lit.int .i64 f).wf = true) (_w6 : (Lit.int .i64 g).wf = true) (_w7 : (Lit.int .i64 h).wf = true) :
    Calls Try.prog 8 #[.agg #[.int .i64 a, .int .i64 b], .agg #[.int .i64 c, .int .i64 d], .agg #[.int .i64 e, .int .i64 f], .agg #[.int .i64 g, .int .i64 h]] w fun e w' => e = .returned (.bool true) ∧ Below w.heap.size w w' := by
  clear _w0 _w1 _w2 _w3 _w4 _w5 _w6 _w7
  obtain ⟨o, x, y, HV⟩ := jo_is a b c d e f g h
  go_enter Try.func8, Try.ntmps8
  go_upto_region 1 with fail
  refine wp_name ?_
  intro w0 hb0
  (have hz0 := hb0.size; (repeat (first | rw [World.size_alloc] at hz0 | rw [World.size_setCell] at hz0 | rw [World.size_drew] at hz0)); have pp := C2.K hb0 (b := w.heap.size) (x := _) (y := _) (c2A); obtain ⟨kk1, kk2⟩ := pp; have pp := C2.K hb0 (b := w.heap.size + 1) (x := _) (y := _) (c2A); obtain ⟨kk3, kk4⟩ := pp; have pp := C2.K hb0 (b := w.heap.size + 1 + 1) (x := _) (y := _) (c2A); obtain ⟨kk5, kk6⟩ := pp; have pp := C2.K hb0 (b := w.heap.size + 1 + 1 + 1) (x := _) (y := _) (c2A); obtain ⟨kk7, kk8⟩ := pp)
  go_cut [9, 10] (fun v s wx => CutXB w0 x y o v s wx)
  case first =>
    (go_region_held3 (fun w' => w'.cell? ⟨w.heap.size, 0, none⟩ = some (.int .i64 (a)) ∧ w'.cell? ⟨w.heap.size, 1, none⟩ = some (.int .i64 (b)) ∧ w'.cell? ⟨w.heap.size + 1, 0, none⟩ = some (.int .i64 (c)) ∧ w'.cell? ⟨w.heap.size + 1, 1, none⟩ = some (.int .i64 (d)) ∧ w'.cell? ⟨w.heap.size + 1 + 1, 0, none⟩ = some (.int .i64 (e)) ∧ w'.cell? ⟨w.heap.size + 1 + 1, 1, none⟩ = some (.int .i64 (f)) ∧ w'.cell? ⟨w.heap.size + 1 + 1 + 1, 0, none⟩ = some (.int .i64 (g)) ∧ w'.cell? ⟨w.heap.size + 1 + 1 + 1, 1, none⟩ = some (.int .i64 (h))) (first | (go_keep; done) | ((try dsimp only); refine ⟨?_, ?_, ?_, ?_, ?_, ?_, ?_, ?_⟩ <;> exact kcA)) (first | (go_at_call 31; refine (toGauss_is _ _ _).mono ?_; rintro e w' ⟨rfl, rfl⟩) | (go_at_call 18; obtain ⟨q0, q1, q2, q3, q4, q5, q6, q7⟩ := ‹_ ∧ _ ∧ _ ∧ _ ∧ _ ∧ _ ∧ _ ∧ _›; refine (sJoinedOf_v _ HV).mono ?_; rintro e w1 ⟨rfl, hb1⟩; have hz1 := hb1.size; (repeat (first | rw [World.size_alloc] at hz1 | rw [World.size_setCell] at hz1 | rw [World.size_drew] at hz1)); have kk9 := keep hb1 q0; have kk10 := keep hb1 q1; have kk11 := keep hb1 q2; have kk12 := keep hb1 q3; have kk13 := keep hb1 q4; have kk14 := keep hb1 q5; have kk15 := keep hb1 q6; have kk16 := keep hb1 q7; obtain ⟨hc1, hf1⟩ := bcell hb1; (try have cc17 := carry1 hb1 (b := w0.heap.size) (by ((repeat (first | rw [World.size_alloc] | rw [World.size_setCell] | rw [World.size_drew])); omega))); (try have cc18 := carry1 hb1 (b := w0.heap.size + 1 + 1 + 1) (by ((repeat (first | rw [World.size_alloc] | rw [World.size_setCell] | rw [World.size_drew])); omega))); (try have cc19 := carry1 hb1 (b := w0.heap.size + 1 + 1 + 1 + 1 + 1 + 1) (by ((repeat (first | rw [World.size_alloc] | rw [World.size_setCell] | rw [World.size_drew])); omega))); (try have cc20 := carry1 hb1 (b := w0.heap.size + 1 + 1 + 1 + 1 + 1 + 1 + 1 + 1 + 1) (by ((repeat (first | rw [World.size_alloc] | rw [World.size_setCell] | rw [World.size_drew])); omega))); (try have cc21 := carry1 hb1 (b := w0.heap.size + 1 + 1 + 1 + 1 + 1 + 1 + 1 + 1 + 1 + 1 + 1 + 1) (by ((repeat (first | rw [World.size_alloc] | rw [World.size_setCell] | rw [World.size_drew])); omega))); clear q0 q1 q2 q3 q4 q5 q6 q7)); (try clear kk1 kk2 kk3 kk4 kk5 kk6 kk7 kk8))
    all_goals (go_wp2_with fail; go_meet; exact ⟨_, rfl, rfl, kcA, kcA, blA⟩)
  case rest =>
    obtain ⟨X, rfl, rfl, m0, m1, hbx⟩ := hcut
    (have hzx := hbx.size; (repeat (first | rw [World.size_alloc] at hzx | rw [World.size_setCell] at hzx | rw [World.size_drew] at hzx)); have pp := C2.K hbx (b := w.heap.size) (x := _) (y := _) (c2A); obtain ⟨kk22, kk23⟩ := pp; have pp := C2.K hbx (b := w.heap.size + 1) (x := _) (y := _) (c2A); obtain ⟨kk24, kk25⟩ := pp; have pp := C2.K hbx (b := w.heap.size + 1 + 1) (x := _) (y := _) (c2A); obtain ⟨kk26, kk27⟩ := pp; have pp := C2.K hbx (b := w.heap.size + 1 + 1 + 1) (x := _) (y := _) (c2A); obtain ⟨kk28, kk29⟩ := pp; (try clear kk9 kk10 kk11 kk12 kk13 kk14 kk15 kk16))
    go_upto_region 2 with fail
    refine wp_name ?_
    intro w2 hb2
    (have hz2 := hb2.size; (repeat (first | rw [World.size_alloc] at hz2 | rw [World.size_setCell] at hz2 | rw [World.size_drew] at hz2)); have pp := C2.K hb2 (b := w.heap.size) (x := _) (y := _) (c2A); obtain ⟨kk30, kk31⟩ := pp; have pp := C2.K hb2 (b := w.heap.size + 1) (x := _) (y := _) (c2A); obtain ⟨kk32, kk33⟩ := pp; have pp := C2.K hb2 (b := w.heap.size + 1 + 1) (x := _) (y := _) (c2A); obtain ⟨kk34, kk35⟩ := pp; have pp := C2.K hb2 (b := w.heap.size + 1 + 1 + 1) (x := _) (y := _) (c2A); obtain ⟨kk36, kk37⟩ := pp; have pp := C2.K hb2 (b := X) (x := _) (y := _) (c2A); obtain ⟨kk38, kk39⟩ := pp; (try clear kk22 kk23 kk24 kk25 kk26 kk27 kk28 kk29))
    go_cut [11, 12] (fun v s wx => CutXB w2 x y o v s wx)
    case first =>
      (go_region_held3 (fun w' => w'.cell? ⟨w.heap.size, 0, none⟩ = some (.int .i64 (a)) ∧ w'.cell? ⟨w.heap.size, 1, none⟩ = some (.int .i64 (b)) ∧ w'.cell? ⟨w.heap.size + 1, 0, none⟩ = some (.int .i64 (c)) ∧ w'.cell? ⟨w.heap.size + 1, 1, none⟩ = some (.int .i64 (d)) ∧ w'.cell? ⟨w.heap.size + 1 + 1, 0, none⟩ = some (.int .i64 (e)) ∧ w'.cell? ⟨w.heap.size + 1 + 1, 1, none⟩ = some (.int .i64 (f)) ∧ w'.cell? ⟨w.heap.size + 1 + 1 + 1, 0, none⟩ = some (.int .i64 (g)) ∧ w'.cell? ⟨w.heap.size + 1 + 1 + 1, 1, none⟩ = some (.int .i64 (h))) (first | (go_keep; done) | ((try dsimp only); refine ⟨?_, ?_, ?_, ?_, ?_, ?_, ?_, ?_⟩ <;> exact kcA)) (first | (go_at_call 31; refine (toGauss_is _ _ _).mono ?_; rintro e w' ⟨rfl, rfl⟩) | (go_at_call 17; obtain ⟨q0, q1, q2, q3, q4, q5, q6, q7⟩ := ‹_ ∧ _ ∧ _ ∧ _ ∧ _ ∧ _ ∧ _ ∧ _›; refine (iJoinedOf_v _ HV).mono ?_; rintro e w3 ⟨rfl, hb3⟩; have hz3 := hb3.size; (repeat (first | rw [World.size_alloc] at hz3 | rw [World.size_setCell] at hz3 | rw [World.size_drew] at hz3)); have kk40 := keep hb3 q0; have kk41 := keep hb3 q1; have kk42 := keep hb3 q2; have kk43 := keep hb3 q3; have kk44 := keep hb3 q4; have kk45 := keep hb3 q5; have kk46 := keep hb3 q6; have kk47 := keep hb3 q7; obtain ⟨hc3, hf3⟩ := bcell hb3; (try have cc48 := carry1 hb3 (b := w2.heap.size) (by ((repeat (first | rw [World.size_alloc] | rw [World.size_setCell] | rw [World.size_drew])); omega))); (try have cc49 := carry1 hb3 (b := w2.heap.size + 1 + 1 + 1) (by ((repeat (first | rw [World.size_alloc] | rw [World.size_setCell] | rw [World.size_drew])); omega))); (try have cc50 := carry1 hb3 (b := w2.heap.size + 1 + 1 + 1 + 1 + 1 + 1) (by ((repeat (first | rw [World.size_alloc] | rw [World.size_setCell] | rw [World.size_drew])); omega))); (try have cc51 := carry1 hb3 (b := w2.heap.size + 1 + 1 + 1 + 1 + 1 + 1 + 1 + 1 + 1) (by ((repeat (first | rw [World.size_alloc] | rw [World.size_setCell] | rw [World.size_drew])); omega))); (try have cc52 := carry1 hb3 (b := w2.heap.size + 1 + 1 + 1 + 1 + 1 + 1 + 1 + 1 + 1 + 1 + 1 + 1) (by ((repeat (first | rw [World.size_alloc] | rw [World.size_setCell] | rw [World.size_drew])); omega))); clear q0 q1 q2 q3 q4 q5 q6 q7)); (try clear kk30 kk31 kk32 kk33 kk34 kk35 kk36 kk37 kk38 kk39))
      all_goals (go_wp2_with fail; go_meet; exact ⟨_, rfl, rfl, kcA, kcA, blA⟩)
    case rest =>
      obtain ⟨Z, rfl, rfl, n0, n1, hby⟩ := hcut
      (have hzy := hby.size; (repeat (first | rw [World.size_alloc] at hzy | rw [World.size_setCell] at hzy | rw [World.size_drew] at hzy)); have pp := C2.K hby (b := X) (x := _) (y := _) (c2A); obtain ⟨kk53, kk54⟩ := pp; (try clear kk40 kk41 kk42 kk43 kk44 kk45 kk46 kk47))
      go_wp2_with fail
      (refine (eqGauss_t _ _ _).mono ?_; rintro e w5 ⟨rfl, hb5⟩; have hz5 := hb5.size; (repeat (first | rw [World.size_alloc] at hz5 | rw [World.size_setCell] at hz5 | rw [World.size_drew] at hz5)); (try clear kk53 kk54))
      cases o
      all_goals
        go_wp2_with fail
        go_returns
        exact ⟨rfl, blA⟩

set_option maxHeartbeats 16000000 in
theorem walkFnExactPairOk (a b c d : Int) (w : World) (_w0 : (Lit.int .i64 a).wf = true) (_w1 : (Lit.int .i64 b).wf = true) (_w2 : (Lit.int .i64 c).wf = true) (_w3 : (Lit.int .i64 d).wf = true) :
    Calls Try.prog 7 #[.agg #[.int .i64 a, .int .i64 b], .agg #[.int .i64 c, .int .i64 d]] w fun e w' => e = .returned (.bool true) ∧ Below w.heap.size w w' := by
  clear _w0 _w1 _w2 _w3
  obtain ⟨o, k⟩ : ∃ o, paO a b c d = o := ⟨_, rfl⟩
  go_enter Try.func7, Try.ntmps7
  go_wp2_with fail
  (refine wp_name ?_; intro w6 hb6; have hz6 := hb6.size; (repeat (first | rw [World.size_alloc] at hz6 | rw [World.size_setCell] at hz6 | rw [World.size_drew] at hz6)); have pp := C2.K hb6 (b := w.heap.size) (x := _) (y := _) (c2A); obtain ⟨kk1, kk2⟩ := pp; have rkk1 := cell_regrown kk1; have rkk2 := cell_regrown kk2; have pp := C2.K hb6 (b := w.heap.size + 1) (x := _) (y := _) (c2A); obtain ⟨kk3, kk4⟩ := pp; have rkk3 := cell_regrown kk3; have rkk4 := cell_regrown kk4; refine wp_region_quiet_below (by kernel_rfl) (by kernel_rfl) ?_; (repeat (first | go_big_quiet_step ((first | (go_at_call 31; exact Calls.regrown_of (toGauss _ _ _)) | (go_at_call 13; exact Calls.regrown_of (sPairOk_v _ k)))) | quiet_step ((first | (go_at_call 31; exact Calls.regrown_of (toGauss _ _ _)) | (go_at_call 13; exact Calls.regrown_of (sPairOk_v _ k)))))); refine wpQuiet_nil ?_; intro w7 hw; have hb7 := below_of_regrown hw; clear hw; have hz7 := hb7.size; have kk5 := keep hb7 kk1; have kk6 := keep hb7 kk2; have kk7 := keep hb7 kk3; have kk8 := keep hb7 kk4; clear kk1 kk2 kk3 kk4 rkk1 rkk2 rkk3 rkk4)
  go_wp2_with fail
  (refine wp_name ?_; intro w8 hb8; have hz8 := hb8.size; (repeat (first | rw [World.size_alloc] at hz8 | rw [World.size_setCell] at hz8 | rw [World.size_drew] at hz8)); have pp := C2.K hb8 (b := w.heap.size) (x := _) (y := _) (c2A); obtain ⟨kk9, kk10⟩ := pp; have rkk9 := cell_regrown kk9; have rkk10 := cell_regrown kk10; have pp := C2.K hb8 (b := w.heap.size + 1) (x := _) (y := _) (c2A); obtain ⟨kk11, kk12⟩ := pp; have rkk11 := cell_regrown kk11; have rkk12 := cell_regrown kk12; (try clear kk5 kk6 kk7 kk8); refine wp_region_quiet_below (by kernel_rfl) (by kernel_rfl) ?_; (repeat (first | go_big_quiet_step ((first | (go_at_call 31; exact Calls.regrown_of (toGauss _ _ _)) | (go_at_call 12; exact Calls.regrown_of (iPairOk_v _ k)))) | quiet_step ((first | (go_at_call 31; exact Calls.regrown_of (toGauss _ _ _)) | (go_at_call 12; exact Calls.regrown_of (iPairOk_v _ k)))))); refine wpQuiet_nil ?_; intro w9 hw; have hb9 := below_of_regrown hw; clear hw; have hz9 := hb9.size; have kk13 := keep hb9 kk9; have kk14 := keep hb9 kk10; have kk15 := keep hb9 kk11; have kk16 := keep hb9 kk12; clear kk9 kk10 kk11 kk12 rkk9 rkk10 rkk11 rkk12)
  cases o
  all_goals
    go_wp2_with fail
    go_returns
    exact ⟨rfl, blA⟩
end Go.Proofs.Ytggebkgfldmipaa
