import Derived.Test.YtggebkgfldmipaaNd
import Derived.Test.YtggebkgfldmipaaNe
import Derived.Test.YtggebkgfldmipaaL
import Derived.Test.YtggebkgfldmipaaOs
import Derived.Deep.RegionHeld3
import Derived.Deep.DeepCutAuto
namespace Go.Proofs.Ytggebkgfldmipaa
open Go Go.RowKit
attribute [local go_sem] World.cell?_alloc_some cell?_alloc2_some cell?_alloc3_some cell?_alloc4_some frozen?_alloc_some frozen?_alloc2_some frozen?_alloc3_some World.cell?_setCell_far new_ne0 new_ne1 new_ne2 new_ne3 lt2 lt3 lt4 lt5 lt6 lt7 lt8 lt9
attribute [local go_sem] cell?_alloc_lt frozen?_alloc_lt lt10

set_option maxHeartbeats 16000000 in
theorem walkFnExactCarriersOf (a b c d : Int) (w : World) (_w0 : (Lit.int .i64 a).wf = true) (_w1 : (Lit.int .i64 b).wf = true) (_w2 : (Lit.int .i64 c).wf = true) (_w3 : (Lit.int .i64 d).wf = true) :
    Calls Try.prog 10 #[.agg #[.int .i64 a, .int .i64 b], .agg #[.int .i64 c, .int .i64 d]] w fun e w' => e = .returned (.bool true) ∧ Below w.heap.size w w' := by
  clear _w0 _w1 _w2 _w3
  obtain ⟨o, x, y, u, v, HV⟩ := cr_is a b c d
  go_enter Try.func10, Try.ntmps10
  go_upto_region 1 with fail
  refine wp_name ?_
  intro w0 hb0
  (have hz0 := hb0.size; (repeat (first | rw [World.size_alloc] at hz0 | rw [World.size_setCell] at hz0 | rw [World.size_drew] at hz0)); have pp := C2.K hb0 (b := w.heap.size) (x := _) (y := _) (c2A); obtain ⟨kk1, kk2⟩ := pp; have pp := C2.K hb0 (b := w.heap.size + 1) (x := _) (y := _) (c2A); obtain ⟨kk3, kk4⟩ := pp)
  go_cut [5, 6, 7] (fun q r s wx => CutX2 w0 x y u v o q r s wx)
  case first =>
    (go_region_held3 (fun w' => w'.cell? ⟨w.heap.size, 0, none⟩ = some (.int .i64 (a)) ∧ w'.cell? ⟨w.heap.size, 1, none⟩ = some (.int .i64 (b)) ∧ w'.cell? ⟨w.heap.size + 1, 0, none⟩ = some (.int .i64 (c)) ∧ w'.cell? ⟨w.heap.size + 1, 1, none⟩ = some (.int .i64 (d))) (first | (go_keep; done) | ((try dsimp only); refine ⟨?_, ?_, ?_, ?_⟩ <;> exact kcA)) (first | (go_at_call 31; refine (toGauss_is _ _ _).mono ?_; rintro e w' ⟨rfl, rfl⟩) | (go_at_call 29; obtain ⟨q0, q1, q2, q3⟩ := ‹_ ∧ _ ∧ _ ∧ _›; refine (sCarriersOf_v _ HV).mono ?_; rintro e w1 ⟨rfl, hb1⟩; have hz1 := hb1.size; (repeat (first | rw [World.size_alloc] at hz1 | rw [World.size_setCell] at hz1 | rw [World.size_drew] at hz1)); have kk5 := keep hb1 q0; have kk6 := keep hb1 q1; have kk7 := keep hb1 q2; have kk8 := keep hb1 q3; obtain ⟨hc1, hf1⟩ := bcell hb1; (try have cc9 := carry1 hb1 (b := w0.heap.size) (by ((repeat (first | rw [World.size_alloc] | rw [World.size_setCell] | rw [World.size_drew])); omega))); (try have cc10 := carry1 hb1 (b := w0.heap.size + 1) (by ((repeat (first | rw [World.size_alloc] | rw [World.size_setCell] | rw [World.size_drew])); omega))); (try have cc11 := carry1 hb1 (b := w0.heap.size + 1 + 1 + 1) (by ((repeat (first | rw [World.size_alloc] | rw [World.size_setCell] | rw [World.size_drew])); omega))); (try have cc12 := carry1 hb1 (b := w0.heap.size + 1 + 1 + 1 + 1) (by ((repeat (first | rw [World.size_alloc] | rw [World.size_setCell] | rw [World.size_drew])); omega))); (try have cc13 := carry1 hb1 (b := w0.heap.size + 1 + 1 + 1 + 1 + 1 + 1) (by ((repeat (first | rw [World.size_alloc] | rw [World.size_setCell] | rw [World.size_drew])); omega))); (try have cc14 := carry1 hb1 (b := w0.heap.size + 1 + 1 + 1 + 1 + 1 + 1 + 1) (by ((repeat (first | rw [World.size_alloc] | rw [World.size_setCell] | rw [World.size_drew])); omega))); clear q0 q1 q2 q3)); (try clear kk1 kk2 kk3 kk4))
    all_goals (go_wp2_with fail; go_meet; exact ⟨_, _, rfl, rfl, rfl, kcA, kcA, kcA, kcA, blA⟩)
  case rest =>
    obtain ⟨X, Y, rfl, rfl, rfl, m0, m1, m2, m3, hbx⟩ := hcut
    (have hzx := hbx.size; (repeat (first | rw [World.size_alloc] at hzx | rw [World.size_setCell] at hzx | rw [World.size_drew] at hzx)); have pp := C2.K hbx (b := w.heap.size) (x := _) (y := _) (c2A); obtain ⟨kk15, kk16⟩ := pp; have pp := C2.K hbx (b := w.heap.size + 1) (x := _) (y := _) (c2A); obtain ⟨kk17, kk18⟩ := pp; (try clear kk5 kk6 kk7 kk8))
    go_upto_region 2 with fail
    refine wp_name ?_
    intro w2 hb2
    (have hz2 := hb2.size; (repeat (first | rw [World.size_alloc] at hz2 | rw [World.size_setCell] at hz2 | rw [World.size_drew] at hz2)); have pp := C2.K hb2 (b := w.heap.size) (x := _) (y := _) (c2A); obtain ⟨kk19, kk20⟩ := pp; have pp := C2.K hb2 (b := w.heap.size + 1) (x := _) (y := _) (c2A); obtain ⟨kk21, kk22⟩ := pp; have pp := C2.K hb2 (b := X) (x := _) (y := _) (c2A); obtain ⟨kk23, kk24⟩ := pp; have pp := C2.K hb2 (b := Y) (x := _) (y := _) (c2A); obtain ⟨kk25, kk26⟩ := pp; (try clear kk15 kk16 kk17 kk18))
    go_cut [8, 9, 10] (fun q r s wx => CutX2 w2 x y u v o q r s wx)
    case first =>
      (go_region_held3 (fun w' => w'.cell? ⟨w.heap.size, 0, none⟩ = some (.int .i64 (a)) ∧ w'.cell? ⟨w.heap.size, 1, none⟩ = some (.int .i64 (b)) ∧ w'.cell? ⟨w.heap.size + 1, 0, none⟩ = some (.int .i64 (c)) ∧ w'.cell? ⟨w.heap.size + 1, 1, none⟩ = some (.int .i64 (d))) (first | (go_keep; done) | ((try dsimp only); refine ⟨?_, ?_, ?_, ?_⟩ <;> exact kcA)) (first | (go_at_call 31; refine (toGauss_is _ _ _).mono ?_; rintro e w' ⟨rfl, rfl⟩) | (go_at_call 28; obtain ⟨q0, q1, q2, q3⟩ := ‹_ ∧ _ ∧ _ ∧ _›; refine (iCarriersOf_v _ HV).mono ?_; rintro e w3 ⟨rfl, hb3⟩; have hz3 := hb3.size; (repeat (first | rw [World.size_alloc] at hz3 | rw [World.size_setCell] at hz3 | rw [World.size_drew] at hz3)); have kk27 := keep hb3 q0; have kk28 := keep hb3 q1; have kk29 := keep hb3 q2; have kk30 := keep hb3 q3; obtain ⟨hc3, hf3⟩ := bcell hb3; (try have cc31 := carry1 hb3 (b := w2.heap.size) (by ((repeat (first | rw [World.size_alloc] | rw [World.size_setCell] | rw [World.size_drew])); omega))); (try have cc32 := carry1 hb3 (b := w2.heap.size + 1) (by ((repeat (first | rw [World.size_alloc] | rw [World.size_setCell] | rw [World.size_drew])); omega))); (try have cc33 := carry1 hb3 (b := w2.heap.size + 1 + 1 + 1) (by ((repeat (first | rw [World.size_alloc] | rw [World.size_setCell] | rw [World.size_drew])); omega))); (try have cc34 := carry1 hb3 (b := w2.heap.size + 1 + 1 + 1 + 1) (by ((repeat (first | rw [World.size_alloc] | rw [World.size_setCell] | rw [World.size_drew])); omega))); (try have cc35 := carry1 hb3 (b := w2.heap.size + 1 + 1 + 1 + 1 + 1 + 1) (by ((repeat (first | rw [World.size_alloc] | rw [World.size_setCell] | rw [World.size_drew])); omega))); (try have cc36 := carry1 hb3 (b := w2.heap.size + 1 + 1 + 1 + 1 + 1 + 1 + 1) (by ((repeat (first | rw [World.size_alloc] | rw [World.size_setCell] | rw [World.size_drew])); omega))); clear q0 q1 q2 q3)); (try clear kk19 kk20 kk21 kk22 kk23 kk24 kk25 kk26))
      all_goals (go_wp2_with fail; go_meet; exact ⟨_, _, rfl, rfl, rfl, kcA, kcA, kcA, kcA, blA⟩)
    case rest =>
      obtain ⟨Z, T, rfl, rfl, rfl, n0, n1, n2, n3, hby⟩ := hcut
      (have hzy := hby.size; (repeat (first | rw [World.size_alloc] at hzy | rw [World.size_setCell] at hzy | rw [World.size_drew] at hzy)); have pp := C2.K hby (b := X) (x := _) (y := _) (c2A); obtain ⟨kk37, kk38⟩ := pp; have pp := C2.K hby (b := Y) (x := _) (y := _) (c2A); obtain ⟨kk39, kk40⟩ := pp; (try clear kk27 kk28 kk29 kk30))
      go_wp2_with fail
      (refine (eqGauss_t _ _ _).mono ?_; rintro e w5 ⟨rfl, hb5⟩; have hz5 := hb5.size; (repeat (first | rw [World.size_alloc] at hz5 | rw [World.size_setCell] at hz5 | rw [World.size_drew] at hz5)); have pp := C2.K hb5 (b := Y) (x := _) (y := _) (c2A); obtain ⟨kk41, kk42⟩ := pp; have pp := C2.K hb5 (b := T) (x := _) (y := _) (c2A); obtain ⟨kk43, kk44⟩ := pp; (try clear kk37 kk38 kk39 kk40))
      go_wp2_with fail
      (refine (eqGauss_t _ _ _).mono ?_; rintro e w6 ⟨rfl, hb6⟩; have hz6 := hb6.size; (repeat (first | rw [World.size_alloc] at hz6 | rw [World.size_setCell] at hz6 | rw [World.size_drew] at hz6)); (try clear kk41 kk42 kk43 kk44))
      cases o
      all_goals
        go_wp2_with fail
        go_returns
        exact ⟨rfl, blA⟩
end Go.Proofs.Ytggebkgfldmipaa
