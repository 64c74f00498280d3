import Derived.Test.YtggebkgfldmipaaNf
import Derived.Deep.RegionWith
import Derived.BigRegion
import Derived.Deep.RegionHeld3
import Derived.Deep.DeepCutAuto
namespace Go.Proofs.Ytggebkgfldmipaa
open Go Go.RowKit
attribute [local go_sem] World.cell?_alloc_some cell?_alloc2_some cell?_alloc3_some cell?_alloc4_some frozen?_alloc_some frozen?_alloc2_some frozen?_alloc3_some World.cell?_setCell_far new_ne0 new_ne1 new_ne2 new_ne3 lt2 lt3 lt4 lt5 lt6 lt7 lt8 lt9
attribute [local go_sem ↓] eqG neG

set_option maxHeartbeats 4000000 in
theorem drawPairOk (a : Option Addr) (len cap : Nat) (zs : List Int) (w : World) (h : IsRow .u8 w a len cap zs) :
    Calls Try.prog 11 #[.slice a len cap] w (DrawnMM w) := by
  go_enter Try.func11, Try.ntmps11
  go_wp2_with fail
  (refine (l20Open_at (w.heap.size + 1 + 1) a len cap zs _ h.alloc.alloc (by simp)).mono ?_; rintro e w1 ⟨rfl, hr1, hb1⟩; have hz1 := hb1.size; (repeat (first | rw [World.size_alloc] at hz1 | rw [World.size_setCell] at hz1 | rw [World.size_drew] at hz1)); have pp := T2.K hb1 (b := w.heap.size) (x := _) (y := _) (t2A); obtain ⟨kk1, kk2, fkk1, fkk2⟩ := pp; have pp := T2.K hb1 (b := w.heap.size + 1) (x := _) (y := _) (t2A); obtain ⟨kk3, kk4, fkk3, fkk4⟩ := pp)
  have Hr1 := Lib.hid hr1
  have Hb1 := Lib.hid hb1
  have hR := Rd_lt hr1
  clear hr1 hb1
  go_wp2_with fail
  (refine (l20Pair (w.heap.size + 1 + 1) 0 _ Hr1.out (by omega)).mono ?_; rintro e w2 ⟨x, y, z, t, rfl, ho2⟩; have hz2 := ho2.size; (repeat (first | rw [World.size_alloc] at hz2 | rw [World.size_setCell] at hz2 | rw [World.size_drew] at hz2)); have pp := T2.F ho2 (by omega) (b := w.heap.size) (x := _) (y := _) (t2A); obtain ⟨kk5, kk6, fkk5, fkk6⟩ := pp; have pp := T2.F ho2 (by omega) (b := w.heap.size + 1) (x := _) (y := _) (t2A); obtain ⟨kk7, kk8, fkk7, fkk8⟩ := pp; (try clear kk1 kk2 fkk1 fkk2 kk3 kk4 fkk3 fkk4))
  have Ho2 := Lib.hid (ho2.below (B := w.heap.size) (by omega) (by omega))
  clear ho2
  go_wp2_with fail
  have hb1 := Hb1.out
  have ho2 := Ho2.out
  refine bodyPost_ret (v := .tuple #[.agg #[.int .i64 x, .int .i64 y], .agg #[.int .i64 z, .int .i64 t]]) (by simp [results, Try.results11, go_sem, *]) rfl ?_; exact ⟨_, _, _, _, rfl, blA⟩
set_option maxHeartbeats 4000000 in
theorem drawCarriersOf (a : Option Addr) (len cap : Nat) (zs : List Int) (w : World) (h : IsRow .u8 w a len cap zs) :
    Calls Try.prog 27 #[.slice a len cap] w (DrawnMM w) := by
  go_enter Try.func27, Try.ntmps27
  go_wp2_with fail
  (refine (l20Open_at (w.heap.size + 1 + 1) a len cap zs _ h.alloc.alloc (by simp)).mono ?_; rintro e w1 ⟨rfl, hr1, hb1⟩; have hz1 := hb1.size; (repeat (first | rw [World.size_alloc] at hz1 | rw [World.size_setCell] at hz1 | rw [World.size_drew] at hz1)); have pp := T2.K hb1 (b := w.heap.size) (x := _) (y := _) (t2A); obtain ⟨kk1, kk2, fkk1, fkk2⟩ := pp; have pp := T2.K hb1 (b := w.heap.size + 1) (x := _) (y := _) (t2A); obtain ⟨kk3, kk4, fkk3, fkk4⟩ := pp)
  have Hr1 := Lib.hid hr1
  have Hb1 := Lib.hid hb1
  have hR := Rd_lt hr1
  clear hr1 hb1
  go_wp2_with fail
  (refine (l20Pair (w.heap.size + 1 + 1) 0 _ Hr1.out (by omega)).mono ?_; rintro e w2 ⟨x, y, z, t, rfl, ho2⟩; have hz2 := ho2.size; (repeat (first | rw [World.size_alloc] at hz2 | rw [World.size_setCell] at hz2 | rw [World.size_drew] at hz2)); have pp := T2.F ho2 (by omega) (b := w.heap.size) (x := _) (y := _) (t2A); obtain ⟨kk5, kk6, fkk5, fkk6⟩ := pp; have pp := T2.F ho2 (by omega) (b := w.heap.size + 1) (x := _) (y := _) (t2A); obtain ⟨kk7, kk8, fkk7, fkk8⟩ := pp; (try clear kk1 kk2 fkk1 fkk2 kk3 kk4 fkk3 fkk4))
  have Ho2 := Lib.hid (ho2.below (B := w.heap.size) (by omega) (by omega))
  clear ho2
  go_wp2_with fail
  have hb1 := Hb1.out
  have ho2 := Ho2.out
  refine bodyPost_ret (v := .tuple #[.agg #[.int .i64 x, .int .i64 y], .agg #[.int .i64 z, .int .i64 t]]) (by simp [results, Try.results27, go_sem, *]) rfl ?_; exact ⟨_, _, _, _, rfl, blA⟩
set_option maxHeartbeats 4000000 in
theorem drawPartedOf (a : Option Addr) (len cap : Nat) (zs : List Int) (w : World) (h : IsRow .u8 w a len cap zs) :
    Calls Try.prog 23 #[.slice a len cap] w (DrawnZMM w) := by
  go_enter Try.func23, Try.ntmps23
  go_wp2_with fail
  (refine (l20Open_at (w.heap.size + 1 + 1 + 1) a len cap zs _ h.alloc.alloc.alloc (by simp)).mono ?_; rintro e w1 ⟨rfl, hr1, hb1⟩; have hz1 := hb1.size; (repeat (first | rw [World.size_alloc] at hz1 | rw [World.size_setCell] at hz1 | rw [World.size_drew] at hz1)); have pp := T2.K hb1 (b := w.heap.size) (x := _) (y := _) (t2A); obtain ⟨kk1, kk2, fkk1, fkk2⟩ := pp; have pp := T2.K hb1 (b := w.heap.size + 1) (x := _) (y := _) (t2A); obtain ⟨kk3, kk4, fkk3, fkk4⟩ := pp; have pp := T2.K hb1 (b := w.heap.size + 1 + 1) (x := _) (y := _) (t2A); obtain ⟨kk5, kk6, fkk5, fkk6⟩ := pp)
  have Hr1 := Lib.hid hr1
  have Hb1 := Lib.hid hb1
  have hR := Rd_lt hr1
  clear hr1 hb1
  go_wp2_with fail
  (refine (l20Gauss (w.heap.size + 1 + 1 + 1) 0 14 _ Hr1.out (by omega) (by omega)).mono ?_; rintro e w2 ⟨x, y, rfl, hg2, ho2, p2, hp1, hp2, hr2⟩; have hz2 := ho2.size; (repeat (first | rw [World.size_alloc] at hz2 | rw [World.size_setCell] at hz2 | rw [World.size_drew] at hz2)); have pp := T2.F ho2 (by omega) (b := w.heap.size) (x := _) (y := _) (t2A); obtain ⟨kk7, kk8, fkk7, fkk8⟩ := pp; have pp := T2.F ho2 (by omega) (b := w.heap.size + 1) (x := _) (y := _) (t2A); obtain ⟨kk9, kk10, fkk9, fkk10⟩ := pp; have pp := T2.F ho2 (by omega) (b := w.heap.size + 1 + 1) (x := _) (y := _) (t2A); obtain ⟨kk11, kk12, fkk11, fkk12⟩ := pp; (try clear kk1 kk2 fkk1 fkk2 kk3 kk4 fkk3 fkk4 kk5 kk6 fkk5 fkk6); have Hhr2 := Lib.hid hr2; clear hr2; have Hho2 := Lib.hid ho2; clear ho2)
  clear hg2
  go_wp2_with fail
  (refine (l20Pair (w.heap.size + 1 + 1 + 1) p2 _ (Rd_alloc Hhr2.out) (by omega)).mono ?_; rintro e w3 ⟨z, t, u, v, rfl, ho3⟩; have hz3 := ho3.size; (repeat (first | rw [World.size_alloc] at hz3 | rw [World.size_setCell] at hz3 | rw [World.size_drew] at hz3)); have pp := T2.F ho3 (by omega) (b := w.heap.size) (x := _) (y := _) (t2A); obtain ⟨kk13, kk14, fkk13, fkk14⟩ := pp; have pp := T2.F ho3 (by omega) (b := w.heap.size + 1) (x := _) (y := _) (t2A); obtain ⟨kk15, kk16, fkk15, fkk16⟩ := pp; have pp := T2.F ho3 (by omega) (b := w.heap.size + 1 + 1) (x := _) (y := _) (t2A); obtain ⟨kk17, kk18, fkk17, fkk18⟩ := pp; have pp := C2.F ho3 (by omega) (b := w2.heap.size) (x := _) (y := _) (c2A); obtain ⟨kk19, kk20⟩ := pp; (try clear kk7 kk8 fkk7 fkk8 kk9 kk10 fkk9 fkk10 kk11 kk12 fkk11 fkk12); have Hho3 := Lib.hid ho3; clear ho3)
  have ho2 := Hho2.out
  have ho3 := Hho3.out
  have hF : Off (w.heap.size + 1 + 1 + 1) w1 w3 := ofA
  have hG := Lib.hid (hF.below (B := w.heap.size) (by omega) (by omega))
  clear ho2 ho3 Hho2 Hho3 hF
  go_wp2_with fail
  go_region
  all_goals go_wp2_with fail
  all_goals
    have hb1 := Hb1.out
    have hg := hG.out
    refine bodyPost_ret (v := .tuple #[.agg #[.int .i64 x, .int .i64 y], .agg #[.int .i64 z, .int .i64 t], .agg #[.int .i64 u, .int .i64 v]]) (by simp [results, Try.results23, go_sem, *]) rfl ?_; exact ⟨_, _, _, _, _, _, rfl, blA⟩
set_option maxHeartbeats 4000000 in
theorem drawJoinedOf (a : Option Addr) (len cap : Nat) (zs : List Int) (w : World) (h : IsRow .u8 w a len cap zs) :
    Calls Try.prog 16 #[.slice a len cap] w (DrawnZZMM w) := by
  go_enter Try.func16, Try.ntmps16
  go_wp2_with fail
  (refine (l20Open_at (w.heap.size + 1 + 1 + 1 + 1) a len cap zs _ h.alloc.alloc.alloc.alloc (by simp)).mono ?_; rintro e w1 ⟨rfl, hr1, hb1⟩; have hz1 := hb1.size; (repeat (first | rw [World.size_alloc] at hz1 | rw [World.size_setCell] at hz1 | rw [World.size_drew] at hz1)); have pp := T2.K hb1 (b := w.heap.size) (x := _) (y := _) (t2A); obtain ⟨kk1, kk2, fkk1, fkk2⟩ := pp; have pp := T2.K hb1 (b := w.heap.size + 1) (x := _) (y := _) (t2A); obtain ⟨kk3, kk4, fkk3, fkk4⟩ := pp; have pp := T2.K hb1 (b := w.heap.size + 1 + 1) (x := _) (y := _) (t2A); obtain ⟨kk5, kk6, fkk5, fkk6⟩ := pp; have pp := T2.K hb1 (b := w.heap.size + 1 + 1 + 1) (x := _) (y := _) (t2A); obtain ⟨kk7, kk8, fkk7, fkk8⟩ := pp)
  have Hr1 := Lib.hid hr1
  have Hb1 := Lib.hid hb1
  have hR := Rd_lt hr1
  clear hr1 hb1
  go_wp2_with fail
  (refine (l20Two (w.heap.size + 1 + 1 + 1 + 1) 0 _ Hr1.out (by omega)).mono ?_; rintro e w2 ⟨x, y, x2, y2, rfl, hg2, hg3, ho2, p2, hp1, hp2, hr2⟩; have hz2 := ho2.size; (repeat (first | rw [World.size_alloc] at hz2 | rw [World.size_setCell] at hz2 | rw [World.size_drew] at hz2)); have pp := T2.F ho2 (by omega) (b := w.heap.size) (x := _) (y := _) (t2A); obtain ⟨kk9, kk10, fkk9, fkk10⟩ := pp; have pp := T2.F ho2 (by omega) (b := w.heap.size + 1) (x := _) (y := _) (t2A); obtain ⟨kk11, kk12, fkk11, fkk12⟩ := pp; have pp := T2.F ho2 (by omega) (b := w.heap.size + 1 + 1) (x := _) (y := _) (t2A); obtain ⟨kk13, kk14, fkk13, fkk14⟩ := pp; have pp := T2.F ho2 (by omega) (b := w.heap.size + 1 + 1 + 1) (x := _) (y := _) (t2A); obtain ⟨kk15, kk16, fkk15, fkk16⟩ := pp; (try clear kk1 kk2 fkk1 fkk2 kk3 kk4 fkk3 fkk4 kk5 kk6 fkk5 fkk6 kk7 kk8 fkk7 fkk8); have Hhr2 := Lib.hid hr2; clear hr2; have Hho2 := Lib.hid ho2; clear ho2)
  clear hg2 hg3
  go_wp2_with fail
  (refine (l20Pair (w.heap.size + 1 + 1 + 1 + 1) p2 _ (Rd_alloc (Rd_alloc Hhr2.out)) (by omega)).mono ?_; rintro e w3 ⟨z, t, u, v, rfl, ho3⟩; have hz3 := ho3.size; (repeat (first | rw [World.size_alloc] at hz3 | rw [World.size_setCell] at hz3 | rw [World.size_drew] at hz3)); have pp := T2.F ho3 (by omega) (b := w.heap.size) (x := _) (y := _) (t2A); obtain ⟨kk17, kk18, fkk17, fkk18⟩ := pp; have pp := T2.F ho3 (by omega) (b := w.heap.size + 1) (x := _) (y := _) (t2A); obtain ⟨kk19, kk20, fkk19, fkk20⟩ := pp; have pp := T2.F ho3 (by omega) (b := w.heap.size + 1 + 1) (x := _) (y := _) (t2A); obtain ⟨kk21, kk22, fkk21, fkk22⟩ := pp; have pp := T2.F ho3 (by omega) (b := w.heap.size + 1 + 1 + 1) (x := _) (y := _) (t2A); obtain ⟨kk23, kk24, fkk23, fkk24⟩ := pp; have pp := C2.F ho3 (by omega) (b := w2.heap.size) (x := _) (y := _) (c2A); obtain ⟨kk25, kk26⟩ := pp; have pp := C2.F ho3 (by omega) (b := w2.heap.size + 1) (x := _) (y := _) (c2A); obtain ⟨kk27, kk28⟩ := pp; (try clear kk9 kk10 fkk9 fkk10 kk11 kk12 fkk11 fkk12 kk13 kk14 fkk13 fkk14 kk15 kk16 fkk15 fkk16); have Hho3 := Lib.hid ho3; clear ho3)
  have ho2 := Hho2.out
  have ho3 := Hho3.out
  have hF : Off (w.heap.size + 1 + 1 + 1 + 1) w1 w3 := ofA
  have hG := Lib.hid (hF.below (B := w.heap.size) (by omega) (by omega))
  clear ho2 ho3 Hho2 Hho3 hF
  go_upto_region 4 with fail
  refine wp_name ?_
  intro w4 hb4
  have t0 := T2.K hb4 (b := w.heap.size) (x := _) (y := _) (t2A)
  have t1 := T2.K hb4 (b := w.heap.size + 1) (x := _) (y := _) (t2A)
  have t2 := T2.K hb4 (b := w.heap.size + 1 + 1) (x := _) (y := _) (t2A)
  have t3 := T2.K hb4 (b := w.heap.size + 1 + 1 + 1) (x := _) (y := _) (t2A)
  (have hz4 := hb4.size; (repeat (first | rw [World.size_alloc] at hz4 | rw [World.size_setCell] at hz4 | rw [World.size_drew] at hz4)); have pp := C2.K hb4 (b := w2.heap.size) (x := _) (y := _) (c2A); obtain ⟨kk29, kk30⟩ := pp; have pp := C2.K hb4 (b := w2.heap.size + 1) (x := _) (y := _) (c2A); obtain ⟨kk31, kk32⟩ := pp; have pp := C2.K hb4 (b := w3.heap.size) (x := _) (y := _) (c2A); obtain ⟨kk33, kk34⟩ := pp; have pp := C2.K hb4 (b := w3.heap.size + 1) (x := _) (y := _) (c2A); obtain ⟨kk35, kk36⟩ := pp; (try clear kk17 kk18 fkk17 fkk18 kk19 kk20 fkk19 fkk20 kk21 kk22 fkk21 fkk22 kk23 kk24 fkk23 fkk24 kk25 kk26 kk27 kk28))
  obtain ⟨pa0, pb0, pc0, pd0⟩ := t0
  obtain ⟨pa1, pb1, pc1, pd1⟩ := t1
  obtain ⟨pa2, pb2, pc2, pd2⟩ := t2
  obtain ⟨pa3, pb3, pc3, pd3⟩ := t3
  (go_region_held3 (fun w' => w'.cell? ⟨w2.heap.size, 0, none⟩ = some (.int .i64 (x)) ∧ w'.cell? ⟨w2.heap.size, 1, none⟩ = some (.int .i64 (y)) ∧ w'.cell? ⟨w2.heap.size + 1, 0, none⟩ = some (.int .i64 (x2)) ∧ w'.cell? ⟨w2.heap.size + 1, 1, none⟩ = some (.int .i64 (y2)) ∧ w'.cell? ⟨w3.heap.size, 0, none⟩ = some (.int .i64 (z)) ∧ w'.cell? ⟨w3.heap.size, 1, none⟩ = some (.int .i64 (t)) ∧ w'.cell? ⟨w3.heap.size + 1, 0, none⟩ = some (.int .i64 (u)) ∧ w'.cell? ⟨w3.heap.size + 1, 1, none⟩ = some (.int .i64 (v))) (first | (go_keep; done) | ((try dsimp only); refine ⟨?_, ?_, ?_, ?_, ?_, ?_, ?_, ?_⟩ <;> exact kcA)) (first | (go_at_call 33; obtain ⟨q0, q1, q2, q3, q4, q5, q6, q7⟩ := ‹_ ∧ _ ∧ _ ∧ _ ∧ _ ∧ _ ∧ _ ∧ _›; refine (l20Pair _ _ _ _ _).mono ?_; rintro e w5 ⟨rfl, hb5⟩; have hz5 := hb5.size; (repeat (first | rw [World.size_alloc] at hz5 | rw [World.size_setCell] at hz5 | rw [World.size_drew] at hz5)); have kk37 := keep hb5 q0; have kk38 := keep hb5 q1; have kk39 := keep hb5 q2; have kk40 := keep hb5 q3; have kk41 := keep hb5 q4; have kk42 := keep hb5 q5; have kk43 := keep hb5 q6; have kk44 := keep hb5 q7; obtain ⟨hc5, hf5⟩ := bcell hb5; clear q0 q1 q2 q3 q4 q5 q6 q7)); (try clear kk29 kk30 kk31 kk32 kk33 kk34 kk35 kk36))
  all_goals go_wp2_with fail
  all_goals
    have hb1 := Hb1.out
    have hg := hG.out
    refine bodyPost_ret (v := .tuple #[.agg #[.int .i64 x, .int .i64 y], .agg #[.int .i64 x2, .int .i64 y2], .agg #[.int .i64 z, .int .i64 t], .agg #[.int .i64 u, .int .i64 v]]) (by simp [results, Try.results16, go_sem, *]) rfl ?_; exact ⟨_, _, _, _, _, _, _, _, rfl, blA⟩
end Go.Proofs.Ytggebkgfldmipaa
