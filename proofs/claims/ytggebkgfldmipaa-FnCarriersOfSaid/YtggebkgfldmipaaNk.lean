import Derived.Test.YtggebkgfldmipaaNd
import Derived.Test.YtggebkgfldmipaaNe
import Derived.Test.YtggebkgfldmipaaNg
import Derived.Test.YtggebkgfldmipaaUs
import Derived.Test.YtggebkgfldmipaaL
import Derived.Test.YtggebkgfldmipaaM
import Derived.Test.YtggebkgfldmipaaR
import Derived.BigRegion
namespace Go.Proofs.Ytggebkgfldmipaa
open Go Go.RowKit
attribute [local go_sem] World.cell?_alloc_some cell?_alloc2_some cell?_alloc3_some cell?_alloc4_some frozen?_alloc_some frozen?_alloc2_some frozen?_alloc3_some World.cell?_setCell_far new_ne0 new_ne1 new_ne2 new_ne3 lt2 lt3 lt4 lt5 lt6 lt7 lt8 lt9
attribute [local go_sem ↓] eqG neG
attribute [local go_sem] cell?_alloc_lt frozen?_alloc_lt lt10

set_option maxRecDepth 100000 in
set_option maxHeartbeats 16000000 in
theorem walkFnCarriersOf (a0 : Option Addr) (len cap : Nat) (zs : List Int) (w : World) (h : IsRow .u8 w a0 len cap zs) :
    Calls Try.prog 6 #[.slice a0 len cap] w fun e w' => e = .returned (.bool true) ∧ Below w.heap.size w w' := by
  by_cases hl : 1048576 < len
  · clear h
    go_enter Try.func6, Try.ntmps6
    go_wp2_with fail
    go_returns
    exact ⟨rfl, blA⟩
  have H := Lib.hid h
  clear h
  go_enter Try.func6, Try.ntmps6
  go_wp2_with fail
  (refine (drawCarriersOf a0 len cap zs _ H.out).mono ?_; rintro e w1 ⟨e, f, g, h, rfl, hb1⟩; have hz1 := hb1.size; (repeat (first | rw [World.size_alloc] at hz1 | rw [World.size_setCell] at hz1 | rw [World.size_drew] at hz1)))
  clear H
  go_wp2_with fail
  obtain ⟨o, x, y, u, v, hr⟩ := cr_is e f g h
  cases o
  · obtain ⟨rfl, rfl, rfl, rfl⟩ := hr.no rfl
    (refine (iCarriersOf_v _ hr).mono ?_; rintro e w2 ⟨rfl, hb2⟩; have hz2 := hb2.size; (repeat (first | rw [World.size_alloc] at hz2 | rw [World.size_setCell] at hz2 | rw [World.size_drew] at hz2)); have pp := C2.K hb2 (b := w1.heap.size) (x := _) (y := _) (c2A); obtain ⟨kk1, kk2⟩ := pp; have pp := C2.K hb2 (b := w1.heap.size + 1) (x := _) (y := _) (c2A); obtain ⟨kk3, kk4⟩ := pp)
    go_wp2_with fail
    (refine (sCarriersOf_v _ hr).mono ?_; rintro e w3 ⟨rfl, hb3⟩; have hz3 := hb3.size; (repeat (first | rw [World.size_alloc] at hz3 | rw [World.size_setCell] at hz3 | rw [World.size_drew] at hz3)); have pp := C2.K hb3 (b := w2.heap.size) (x := _) (y := _) (c2A); obtain ⟨kk5, kk6⟩ := pp; have pp := C2.K hb3 (b := w2.heap.size + 1) (x := _) (y := _) (c2A); obtain ⟨kk7, kk8⟩ := pp; (try clear kk1 kk2 kk3 kk4))
    clear hr
    go_wp2_with fail
    (refine (alive _).mono ?_; rintro e w4 ⟨rfl, hb4⟩; have hz4 := hb4.size; (repeat (first | rw [World.size_alloc] at hz4 | rw [World.size_setCell] at hz4 | rw [World.size_drew] at hz4)); (try clear kk5 kk6 kk7 kk8))
    go_wp2_with fail
    go_returns
    exact ⟨rfl, blA⟩
  have k3 : paO e f g h = true := hr.is.symm
  obtain ⟨j1, j2⟩ := hr.val rfl
  have ht := pa_ti k3
  have hM := (pa_is k3).2.2.2
  obtain ⟨i, j, hx⟩ : ∃ x y, rs (e * g - f * h, e * h + f * g) (1, 0) = (x, y) := ⟨_, _, rfl⟩
  have hrs := rs_mk hx (by decide) (md_is hM).1 (md_nG hM).1
  obtain ⟨m1, m2, m3, m4⟩ := cr_law k3 j1 j2 hx
  obtain ⟨X, hX⟩ : ∃ X, e * g - f * h = X := ⟨_, rfl⟩
  obtain ⟨Y, hY⟩ : ∃ Y, e * h + f * g = Y := ⟨_, rfl⟩
  rw [hX, hY] at ht hrs m1 m2 m3 m4
  clear j1 j2 k3 hM hx hX hY
  (refine (iCarriersOf_v _ hr).mono ?_; rintro e w2 ⟨rfl, hb2⟩; have hz2 := hb2.size; (repeat (first | rw [World.size_alloc] at hz2 | rw [World.size_setCell] at hz2 | rw [World.size_drew] at hz2)); have pp := C2.K hb2 (b := w1.heap.size) (x := _) (y := _) (c2A); obtain ⟨kk9, kk10⟩ := pp; have pp := C2.K hb2 (b := w1.heap.size + 1) (x := _) (y := _) (c2A); obtain ⟨kk11, kk12⟩ := pp)
  go_wp2_with fail
  (refine (sCarriersOf_v _ hr).mono ?_; rintro e w3 ⟨rfl, hb3⟩; have hz3 := hb3.size; (repeat (first | rw [World.size_alloc] at hz3 | rw [World.size_setCell] at hz3 | rw [World.size_drew] at hz3)); have pp := C2.K hb3 (b := w1.heap.size) (x := _) (y := _) (c2A); obtain ⟨kk13, kk14⟩ := pp; have pp := C2.K hb3 (b := w1.heap.size + 1) (x := _) (y := _) (c2A); obtain ⟨kk15, kk16⟩ := pp; have pp := C2.K hb3 (b := w2.heap.size) (x := _) (y := _) (c2A); obtain ⟨kk17, kk18⟩ := pp; have pp := C2.K hb3 (b := w2.heap.size + 1) (x := _) (y := _) (c2A); obtain ⟨kk19, kk20⟩ := pp; (try clear kk9 kk10 kk11 kk12))
  clear hr
  go_wp2_with fail
  (refine (iTimesOf_v _ ht).mono ?_; rintro e w4 ⟨rfl, hb4⟩; have hz4 := hb4.size; (repeat (first | rw [World.size_alloc] at hz4 | rw [World.size_setCell] at hz4 | rw [World.size_drew] at hz4)); have pp := C2.K hb4 (b := w2.heap.size) (x := _) (y := _) (c2A); obtain ⟨kk21, kk22⟩ := pp; have pp := C2.K hb4 (b := w2.heap.size + 1) (x := _) (y := _) (c2A); obtain ⟨kk23, kk24⟩ := pp; (try clear kk13 kk14 kk15 kk16 kk17 kk18 kk19 kk20))
  clear ht
  go_wp2_with fail
  (refine (iMultipliedBy_v _ m1).mono ?_; rintro e w5 ⟨rfl, hb5⟩; have hz5 := hb5.size; (repeat (first | rw [World.size_alloc] at hz5 | rw [World.size_setCell] at hz5 | rw [World.size_drew] at hz5)); have pp := C2.K hb5 (b := w2.heap.size) (x := _) (y := _) (c2A); obtain ⟨kk25, kk26⟩ := pp; have pp := C2.K hb5 (b := w2.heap.size + 1) (x := _) (y := _) (c2A); obtain ⟨kk27, kk28⟩ := pp; have pp := C2.K hb5 (b := w4.heap.size) (x := _) (y := _) (c2A); obtain ⟨kk29, kk30⟩ := pp; (try clear kk21 kk22 kk23 kk24))
  clear m1
  go_wp2_with fail
  (refine (iMultipliedBy_v _ m2).mono ?_; rintro e w6 ⟨rfl, hb6⟩; have hz6 := hb6.size; (repeat (first | rw [World.size_alloc] at hz6 | rw [World.size_setCell] at hz6 | rw [World.size_drew] at hz6)); have pp := C2.K hb6 (b := w2.heap.size) (x := _) (y := _) (c2A); obtain ⟨kk31, kk32⟩ := pp; have pp := C2.K hb6 (b := w2.heap.size + 1) (x := _) (y := _) (c2A); obtain ⟨kk33, kk34⟩ := pp; have pp := C2.K hb6 (b := w4.heap.size) (x := _) (y := _) (c2A); obtain ⟨kk35, kk36⟩ := pp; have pp := C2.K hb6 (b := w5.heap.size) (x := _) (y := _) (c2A); obtain ⟨kk37, kk38⟩ := pp; (try clear kk25 kk26 kk27 kk28 kk29 kk30))
  clear m2
  go_wp2_with fail
  (refine (iMultipliedBy_v _ m3).mono ?_; rintro e w7 ⟨rfl, hb7⟩; have hz7 := hb7.size; (repeat (first | rw [World.size_alloc] at hz7 | rw [World.size_setCell] at hz7 | rw [World.size_drew] at hz7)); have pp := C2.K hb7 (b := w2.heap.size) (x := _) (y := _) (c2A); obtain ⟨kk39, kk40⟩ := pp; have pp := C2.K hb7 (b := w2.heap.size + 1) (x := _) (y := _) (c2A); obtain ⟨kk41, kk42⟩ := pp; have pp := C2.K hb7 (b := w4.heap.size) (x := _) (y := _) (c2A); obtain ⟨kk43, kk44⟩ := pp; have pp := C2.K hb7 (b := w5.heap.size) (x := _) (y := _) (c2A); obtain ⟨kk45, kk46⟩ := pp; have pp := C2.K hb7 (b := w6.heap.size) (x := _) (y := _) (c2A); obtain ⟨kk47, kk48⟩ := pp; (try clear kk31 kk32 kk33 kk34 kk35 kk36 kk37 kk38))
  clear m3
  go_wp2_with fail
  (refine (iAddedBy_v _ m4).mono ?_; rintro e w8 ⟨rfl, hb8⟩; have hz8 := hb8.size; (repeat (first | rw [World.size_alloc] at hz8 | rw [World.size_setCell] at hz8 | rw [World.size_drew] at hz8)); have pp := C2.K hb8 (b := w2.heap.size) (x := _) (y := _) (c2A); obtain ⟨kk49, kk50⟩ := pp; have pp := C2.K hb8 (b := w2.heap.size + 1) (x := _) (y := _) (c2A); obtain ⟨kk51, kk52⟩ := pp; have pp := C2.K hb8 (b := w4.heap.size) (x := _) (y := _) (c2A); obtain ⟨kk53, kk54⟩ := pp; have pp := C2.K hb8 (b := w5.heap.size) (x := _) (y := _) (c2A); obtain ⟨kk55, kk56⟩ := pp; have pp := C2.K hb8 (b := w6.heap.size) (x := _) (y := _) (c2A); obtain ⟨kk57, kk58⟩ := pp; have pp := C2.K hb8 (b := w7.heap.size) (x := _) (y := _) (c2A); obtain ⟨kk59, kk60⟩ := pp; (try clear kk39 kk40 kk41 kk42 kk43 kk44 kk45 kk46 kk47 kk48))
  clear m4
  go_wp2_with fail
  (refine (iRestOf_v _ hrs).mono ?_; rintro e w9 ⟨rfl, hb9⟩; have hz9 := hb9.size; (repeat (first | rw [World.size_alloc] at hz9 | rw [World.size_setCell] at hz9 | rw [World.size_drew] at hz9)); have pp := C2.K hb9 (b := w2.heap.size) (x := _) (y := _) (c2A); obtain ⟨kk61, kk62⟩ := pp; have pp := C2.K hb9 (b := w2.heap.size + 1) (x := _) (y := _) (c2A); obtain ⟨kk63, kk64⟩ := pp; have pp := C2.K hb9 (b := w5.heap.size) (x := _) (y := _) (c2A); obtain ⟨kk65, kk66⟩ := pp; have pp := C2.K hb9 (b := w6.heap.size) (x := _) (y := _) (c2A); obtain ⟨kk67, kk68⟩ := pp; have pp := C2.K hb9 (b := w7.heap.size) (x := _) (y := _) (c2A); obtain ⟨kk69, kk70⟩ := pp; have pp := C2.K hb9 (b := w8.heap.size) (x := _) (y := _) (c2A); obtain ⟨kk71, kk72⟩ := pp; (try clear kk49 kk50 kk51 kk52 kk53 kk54 kk55 kk56 kk57 kk58 kk59 kk60))
  clear hrs
  go_wp2_with fail
  go_returns
  exact ⟨rfl, blA⟩
end Go.Proofs.Ytggebkgfldmipaa
