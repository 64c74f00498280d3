import Derived.Test.YtggebkgfldmipaaNd
import Derived.Test.YtggebkgfldmipaaNe
import Derived.Test.YtggebkgfldmipaaL
import Derived.Test.YtggebkgfldmipaaOs
import Derived.Deep.RegionHeld3
import Derived.Deep.DeepCutAuto
namespace Go.Proofs.Ytggebkgfldmipaa
open Go Go.RowKit
attribute [local go_sem] World.cell?_alloc_some cell?_alloc2_some cell?_alloc3_some cell?_alloc4_some frozen?_alloc_some frozen?_alloc2_some frozen?_alloc3_some World.cell?_setCell_far new_ne0 new_ne1 new_ne2 new_ne3 lt2 lt3 lt4 lt5 lt6 lt7 lt8 lt9
attribute [local go_sem] cell?_alloc_lt frozen?_alloc_lt lt10

set_option maxHeartbeats 16000000 in
theorem walkFnExactPartedOf (a b c d e f : Int) (w : World) (_w0 : (Lit.int .i64 a).wf = true) (_w1 : (Lit.int .i64 b).wf = true) (_w2 : (Lit.int .i64 c).wf = true) (_w3 : (Lit.int .i64 d).wf = true) (_w4 : (Lit.int .i64 e).wf = true) (_w5 : (Lit.int .i64 f).wf = true) :
    Calls Try.prog 9 #[.agg #[.int .i64 a, .int .i64 b], .agg #[.int .i64 c, .int .i64 d], .agg #[.int .i64 e, .int .i64 f]] w fun e w' => e = .returned (.bool true) ∧ Below w.heap.size w w' := by
  clear _w0 _w1 _w2 _w3 _w4 _w5
  obtain ⟨o, x, y, u, v, HV⟩ := pt_is a b c d e f
  go_enter Try.func9, Try.ntmps9
  go_upto_region 1 with fail
  refine wp_name ?_
  intro w0 hb0
  (have hz0 := hb0.size; (repeat (first | rw [World.size_alloc] at hz0 | rw [World.size_setCell] at hz0 | rw [World.size_drew] at hz0)); have pp := C2.K hb0 (b := w.heap.size) (x := _) (y := _) (c2A); obtain ⟨kk1, kk2⟩ := pp; have pp := C2.K hb0 (b := w.heap.size + 1) (x := _) (y := _) (c2A); obtain ⟨kk3, kk4⟩ := pp; have pp := C2.K hb0 (b := w.heap.size + 1 + 1) (x := _) (y := _) (c2A); obtain ⟨kk5, kk6⟩ := pp)
  go_cut [7, 8, 9] (fun q r s wx => CutX2 w0 x y u v o q r s wx)
  case first =>
    (go_region_held3 (fun w' => w'.cell? ⟨w.heap.size, 0, none⟩ = some (.int .i64 (a)) ∧ w'.cell? ⟨w.heap.size, 1, none⟩ = some (.int .i64 (b)) ∧ w'.cell? ⟨w.heap.size + 1, 0, none⟩ = some (.int .i64 (c)) ∧ w'.cell? ⟨w.heap.size + 1, 1, none⟩ = some (.int .i64 (d)) ∧ w'.cell? ⟨w.heap.size + 1 + 1, 0, none⟩ = some (.int .i64 (e)) ∧ w'.cell? ⟨w.heap.size + 1 + 1, 1, none⟩ = some (.int .i64 (f))) (first | (go_keep; done) | ((try dsimp only); refine ⟨?_, ?_, ?_, ?_, ?_, ?_⟩ <;> exact kcA)) (first | (go_at_call 31; refine (toGauss_is _ _ _).mono ?_; rintro e w' ⟨rfl, rfl⟩) | (go_at_call 24; obtain ⟨q0, q1, q2, q3, q4, q5⟩ := ‹_ ∧ _ ∧ _ ∧ _ ∧ _ ∧ _›; refine (sPartedOf_v _ HV).mono ?_; rintro e w1 ⟨rfl, hb1⟩; have hz1 := hb1.size; (repeat (first | rw [World.size_alloc] at hz1 | rw [World.size_setCell] at hz1 | rw [World.size_drew] at hz1)); have kk7 := keep hb1 q0; have kk8 := keep hb1 q1; have kk9 := keep hb1 q2; have kk10 := keep hb1 q3; have kk11 := keep hb1 q4; have kk12 := keep hb1 q5; obtain ⟨hc1, hf1⟩ := bcell hb1; (try have cc13 := carry1 hb1 (b := w0.heap.size) (by ((repeat (first | rw [World.size_alloc] | rw [World.size_setCell] | rw [World.size_drew])); omega))); (try have cc14 := carry1 hb1 (b := w0.heap.size + 1) (by ((repeat (first | rw [World.size_alloc] | rw [World.size_setCell] | rw [World.size_drew])); omega))); (try have cc15 := carry1 hb1 (b := w0.heap.size + 1 + 1 + 1) (by ((repeat (first | rw [World.size_alloc] | rw [World.size_setCell] | rw [World.size_drew])); omega))); (try have cc16 := carry1 hb1 (b := w0.heap.size + 1 + 1 + 1 + 1) (by ((repeat (first | rw [World.size_alloc] | rw [World.size_setCell] | rw [World.size_drew])); omega))); (try have cc17 := carry1 hb1 (b := w0.heap.size + 1 + 1 + 1 + 1 + 1 + 1) (by ((repeat (first | rw [World.size_alloc] | rw [World.size_setCell] | rw [World.size_drew])); omega))); (try have cc18 := carry1 hb1 (b := w0.heap.size + 1 + 1 + 1 + 1 + 1 + 1 + 1) (by ((repeat (first | rw [World.size_alloc] | rw [World.size_setCell] | rw [World.size_drew])); omega))); (try have cc19 := carry1 hb1 (b := w0.heap.size + 1 + 1 + 1 + 1 + 1 + 1 + 1 + 1 + 1) (by ((repeat (first | rw [World.size_alloc] | rw [World.size_setCell] | rw [World.size_drew])); omega))); (try have cc20 := carry1 hb1 (b := w0.heap.size + 1 + 1 + 1 + 1 + 1 + 1 + 1 + 1 + 1 + 1) (by ((repeat (first | rw [World.size_alloc] | rw [World.size_setCell] | rw [World.size_drew])); omega))); clear q0 q1 q2 q3 q4 q5)); (try clear kk1 kk2 kk3 kk4 kk5 kk6))
    all_goals (go_wp2_with fail; go_meet; exact ⟨_, _, rfl, rfl, rfl, kcA, kcA, kcA, kcA, blA⟩)
  case rest =>
    obtain ⟨X, Y, rfl, rfl, rfl, m0, m1, m2, m3, hbx⟩ := hcut
    (have hzx := hbx.size; (repeat (first | rw [World.size_alloc] at hzx | rw [World.size_setCell] at hzx | rw [World.size_drew] at hzx)); have pp := C2.K hbx (b := w.heap.size) (x := _) (y := _) (c2A); obtain ⟨kk21, kk22⟩ := pp; have pp := C2.K hbx (b := w.heap.size + 1) (x := _) (y := _) (c2A); obtain ⟨kk23, kk24⟩ := pp; have pp := C2.K hbx (b := w.heap.size + 1 + 1) (x := _) (y := _) (c2A); obtain ⟨kk25, kk26⟩ := pp; (try clear kk7 kk8 kk9 kk10 kk11 kk12))
    go_upto_region 2 with fail
    refine wp_name ?_
    intro w2 hb2
    (have hz2 := hb2.size; (repeat (first | rw [World.size_alloc] at hz2 | rw [World.size_setCell] at hz2 | rw [World.size_drew] at hz2)); have pp := C2.K hb2 (b := w.heap.size) (x := _) (y := _) (c2A); obtain ⟨kk27, kk28⟩ := pp; have pp := C2.K hb2 (b := w.heap.size + 1) (x := _) (y := _) (c2A); obtain ⟨kk29, kk30⟩ := pp; have pp := C2.K hb2 (b := w.heap.size + 1 + 1) (x := _) (y := _) (c2A); obtain ⟨kk31, kk32⟩ := pp; have pp := C2.K hb2 (b := X) (x := _) (y := _) (c2A); obtain ⟨kk33, kk34⟩ := pp; have pp := C2.K hb2 (b := Y) (x := _) (y := _) (c2A); obtain ⟨kk35, kk36⟩ := pp; (try clear kk21 kk22 kk23 kk24 kk25 kk26))
    go_cut [10, 11, 12] (fun q r s wx => CutX2 w2 x y u v o q r s wx)
    case first =>
      (go_region_held3 (fun w' => w'.cell? ⟨w.heap.size, 0, none⟩ = some (.int .i64 (a)) ∧ w'.cell? ⟨w.heap.size, 1, none⟩ = some (.int .i64 (b)) ∧ w'.cell? ⟨w.heap.size + 1, 0, none⟩ = some (.int .i64 (c)) ∧ w'.cell? ⟨w.heap.size + 1, 1, none⟩ = some (.int .i64 (d)) ∧ w'.cell? ⟨w.heap.size + 1 + 1, 0, none⟩ = some (.int .i64 (e)) ∧ w'.cell? ⟨w.heap.size + 1 + 1, 1, none⟩ = some (.int .i64 (f))) (first | (go_keep; done) | ((try dsimp only); refine ⟨?_, ?_, ?_, ?_, ?_, ?_⟩ <;> exact kcA)) (first | (go_at_call 31; refine (toGauss_is _ _ _).mono ?_; rintro e w' ⟨rfl, rfl⟩) | (go_at_call 19; obtain ⟨q0, q1, q2, q3, q4, q5⟩ := ‹_ ∧ _ ∧ _ ∧ _ ∧ _ ∧ _›; refine (iPartedOf_v _ HV).mono ?_; rintro e w3 ⟨rfl, hb3⟩; have hz3 := hb3.size; (repeat (first | rw [World.size_alloc] at hz3 | rw [World.size_setCell] at hz3 | rw [World.size_drew] at hz3)); have kk37 := keep hb3 q0; have kk38 := keep hb3 q1; have kk39 := keep hb3 q2; have kk40 := keep hb3 q3; have kk41 := keep hb3 q4; have kk42 := keep hb3 q5; obtain ⟨hc3, hf3⟩ := bcell hb3; (try have cc43 := carry1 hb3 (b := w2.heap.size) (by ((repeat (first | rw [World.size_alloc] | rw [World.size_setCell] | rw [World.size_drew])); omega))); (try have cc44 := carry1 hb3 (b := w2.heap.size + 1) (by ((repeat (first | rw [World.size_alloc] | rw [World.size_setCell] | rw [World.size_drew])); omega))); (try have cc45 := carry1 hb3 (b := w2.heap.size + 1 + 1 + 1) (by ((repeat (first | rw [World.size_alloc] | rw [World.size_setCell] | rw [World.size_drew])); omega))); (try have cc46 := carry1 hb3 (b := w2.heap.size + 1 + 1 + 1 + 1) (by ((repeat (first | rw [World.size_alloc] | rw [World.size_setCell] | rw [World.size_drew])); omega))); (try have cc47 := carry1 hb3 (b := w2.heap.size + 1 + 1 + 1 + 1 + 1 + 1) (by ((repeat (first | rw [World.size_alloc] | rw [World.size_setCell] | rw [World.size_drew])); omega))); (try have cc48 := carry1 hb3 (b := w2.heap.size + 1 + 1 + 1 + 1 + 1 + 1 + 1) (by ((repeat (first | rw [World.size_alloc] | rw [World.size_setCell] | rw [World.size_drew])); omega))); (try have cc49 := carry1 hb3 (b := w2.heap.size + 1 + 1 + 1 + 1 + 1 + 1 + 1 + 1 + 1) (by ((repeat (first | rw [World.size_alloc] | rw [World.size_setCell] | rw [World.size_drew])); omega))); (try have cc50 := carry1 hb3 (b := w2.heap.size + 1 + 1 + 1 + 1 + 1 + 1 + 1 + 1 + 1 + 1) (by ((repeat (first | rw [World.size_alloc] | rw [World.size_setCell] | rw [World.size_drew])); omega))); clear q0 q1 q2 q3 q4 q5)); (try clear kk27 kk28 kk29 kk30 kk31 kk32 kk33 kk34 kk35 kk36))
      all_goals (go_wp2_with fail; go_meet; exact ⟨_, _, rfl, rfl, rfl, kcA, kcA, kcA, kcA, blA⟩)
    case rest =>
      obtain ⟨Z, T, rfl, rfl, rfl, n0, n1, n2, n3, hby⟩ := hcut
      (have hzy := hby.size; (repeat (first | rw [World.size_alloc] at hzy | rw [World.size_setCell] at hzy | rw [World.size_drew] at hzy)); have pp := C2.K hby (b := X) (x := _) (y := _) (c2A); obtain ⟨kk51, kk52⟩ := pp; have pp := C2.K hby (b := Y) (x := _) (y := _) (c2A); obtain ⟨kk53, kk54⟩ := pp; (try clear kk37 kk38 kk39 kk40 kk41 kk42))
      go_wp2_with fail
      (refine (eqGauss_t _ _ _).mono ?_; rintro e w5 ⟨rfl, hb5⟩; have hz5 := hb5.size; (repeat (first | rw [World.size_alloc] at hz5 | rw [World.size_setCell] at hz5 | rw [World.size_drew] at hz5)); have pp := C2.K hb5 (b := Y) (x := _) (y := _) (c2A); obtain ⟨kk55, kk56⟩ := pp; have pp := C2.K hb5 (b := T) (x := _) (y := _) (c2A); obtain ⟨kk57, kk58⟩ := pp; (try clear kk51 kk52 kk53 kk54))
      go_wp2_with fail
      (refine (eqGauss_t _ _ _).mono ?_; rintro e w6 ⟨rfl, hb6⟩; have hz6 := hb6.size; (repeat (first | rw [World.size_alloc] at hz6 | rw [World.size_setCell] at hz6 | rw [World.size_drew] at hz6)); (try clear kk55 kk56 kk57 kk58))
      cases o
      all_goals
        go_wp2_with fail
        go_returns
        exact ⟨rfl, blA⟩
end Go.Proofs.Ytggebkgfldmipaa
