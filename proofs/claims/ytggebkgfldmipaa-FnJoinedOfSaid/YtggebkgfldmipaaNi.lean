import Derived.Test.YtggebkgfldmipaaNd
import Derived.Test.YtggebkgfldmipaaNe
import Derived.Test.YtggebkgfldmipaaNg
import Derived.Test.YtggebkgfldmipaaUs
import Derived.Test.YtggebkgfldmipaaL
import Derived.Test.YtggebkgfldmipaaM
import Derived.Test.YtggebkgfldmipaaR
import Derived.BigRegion
namespace Go.Proofs.Ytggebkgfldmipaa
open Go Go.RowKit
attribute [local go_sem] World.cell?_alloc_some cell?_alloc2_some cell?_alloc3_some cell?_alloc4_some frozen?_alloc_some frozen?_alloc2_some frozen?_alloc3_some World.cell?_setCell_far new_ne0 new_ne1 new_ne2 new_ne3 lt2 lt3 lt4 lt5 lt6 lt7 lt8 lt9
attribute [local go_sem ↓] eqG neG
attribute [local go_sem] cell?_alloc_lt frozen?_alloc_lt lt10

set_option maxRecDepth 100000 in
set_option maxHeartbeats 16000000 in
theorem walkFnJoinedOf (a0 : Option Addr) (len cap : Nat) (zs : List Int) (w : World) (h : IsRow .u8 w a0 len cap zs) :
    Calls Try.prog 4 #[.slice a0 len cap] w fun e w' => e = .returned (.bool true) ∧ Below w.heap.size w w' := by
  by_cases hl : 1048576 < len
  · clear h
    go_enter Try.func4, Try.ntmps4
    go_wp2_with fail
    go_returns
    exact ⟨rfl, blA⟩
  have H := Lib.hid h
  clear h
  go_enter Try.func4, Try.ntmps4
  go_wp2_with fail
  (refine (drawJoinedOf a0 len cap zs _ H.out).mono ?_; rintro e w1 ⟨a, b, c, d, e, f, g, h, rfl, hb1⟩; have hz1 := hb1.size; (repeat (first | rw [World.size_alloc] at hz1 | rw [World.size_setCell] at hz1 | rw [World.size_drew] at hz1)))
  clear H
  go_wp2_with fail
  obtain ⟨o, x, y, hr⟩ := jo_is a b c d e f g h
  cases o
  · obtain ⟨rfl, rfl⟩ := hr.no rfl
    (refine (iJoinedOf_v _ hr).mono ?_; rintro e w2 ⟨rfl, hb2⟩; have hz2 := hb2.size; (repeat (first | rw [World.size_alloc] at hz2 | rw [World.size_setCell] at hz2 | rw [World.size_drew] at hz2)); have pp := C2.K hb2 (b := w1.heap.size) (x := _) (y := _) (c2A); obtain ⟨kk1, kk2⟩ := pp; have pp := C2.K hb2 (b := w1.heap.size + 1) (x := _) (y := _) (c2A); obtain ⟨kk3, kk4⟩ := pp; have pp := C2.K hb2 (b := w1.heap.size + 1 + 1) (x := _) (y := _) (c2A); obtain ⟨kk5, kk6⟩ := pp; have pp := C2.K hb2 (b := w1.heap.size + 1 + 1 + 1) (x := _) (y := _) (c2A); obtain ⟨kk7, kk8⟩ := pp)
    go_wp2_with fail
    (refine (sJoinedOf_v _ hr).mono ?_; rintro e w3 ⟨rfl, hb3⟩; have hz3 := hb3.size; (repeat (first | rw [World.size_alloc] at hz3 | rw [World.size_setCell] at hz3 | rw [World.size_drew] at hz3)); have pp := C2.K hb3 (b := w2.heap.size) (x := _) (y := _) (c2A); obtain ⟨kk9, kk10⟩ := pp; (try clear kk1 kk2 kk3 kk4 kk5 kk6 kk7 kk8))
    clear hr
    go_wp2_with fail
    (refine (alive _).mono ?_; rintro e w4 ⟨rfl, hb4⟩; have hz4 := hb4.size; (repeat (first | rw [World.size_alloc] at hz4 | rw [World.size_setCell] at hz4 | rw [World.size_drew] at hz4)); (try clear kk9 kk10))
    go_wp2_with fail
    go_returns
    exact ⟨rfl, blA⟩
  obtain ⟨p, q, r, s, h1, h2, h3, h4, h5, h6, h7⟩ := jo_law hr
  have k3 := (jo_all hr rfl).2.2
  have hp := PtIs.mk' h7 k3 h1 h2
  have ht := pa_ti k3
  obtain ⟨X, hX⟩ : ∃ X, e * g - f * h = X := ⟨_, rfl⟩
  obtain ⟨Y, hY⟩ : ∃ Y, e * h + f * g = Y := ⟨_, rfl⟩
  rw [hX, hY] at h4 ht
  clear h1 h2 h7 k3 hX hY
  (refine (iJoinedOf_v _ hr).mono ?_; rintro e w2 ⟨rfl, hb2⟩; have hz2 := hb2.size; (repeat (first | rw [World.size_alloc] at hz2 | rw [World.size_setCell] at hz2 | rw [World.size_drew] at hz2)); have pp := C2.K hb2 (b := w1.heap.size) (x := _) (y := _) (c2A); obtain ⟨kk11, kk12⟩ := pp; have pp := C2.K hb2 (b := w1.heap.size + 1) (x := _) (y := _) (c2A); obtain ⟨kk13, kk14⟩ := pp; have pp := C2.K hb2 (b := w1.heap.size + 1 + 1) (x := _) (y := _) (c2A); obtain ⟨kk15, kk16⟩ := pp; have pp := C2.K hb2 (b := w1.heap.size + 1 + 1 + 1) (x := _) (y := _) (c2A); obtain ⟨kk17, kk18⟩ := pp)
  go_wp2_with fail
  (refine (sJoinedOf_v _ hr).mono ?_; rintro e w3 ⟨rfl, hb3⟩; have hz3 := hb3.size; (repeat (first | rw [World.size_alloc] at hz3 | rw [World.size_setCell] at hz3 | rw [World.size_drew] at hz3)); have pp := C2.K hb3 (b := w1.heap.size) (x := _) (y := _) (c2A); obtain ⟨kk19, kk20⟩ := pp; have pp := C2.K hb3 (b := w1.heap.size + 1) (x := _) (y := _) (c2A); obtain ⟨kk21, kk22⟩ := pp; have pp := C2.K hb3 (b := w1.heap.size + 1 + 1) (x := _) (y := _) (c2A); obtain ⟨kk23, kk24⟩ := pp; have pp := C2.K hb3 (b := w1.heap.size + 1 + 1 + 1) (x := _) (y := _) (c2A); obtain ⟨kk25, kk26⟩ := pp; have pp := C2.K hb3 (b := w2.heap.size) (x := _) (y := _) (c2A); obtain ⟨kk27, kk28⟩ := pp; (try clear kk11 kk12 kk13 kk14 kk15 kk16 kk17 kk18))
  clear hr
  go_wp2_with fail
  (refine (iPartedOf_v _ hp).mono ?_; rintro e w4 ⟨rfl, hb4⟩; have hz4 := hb4.size; (repeat (first | rw [World.size_alloc] at hz4 | rw [World.size_setCell] at hz4 | rw [World.size_drew] at hz4)); have pp := C2.K hb4 (b := w1.heap.size) (x := _) (y := _) (c2A); obtain ⟨kk29, kk30⟩ := pp; have pp := C2.K hb4 (b := w1.heap.size + 1) (x := _) (y := _) (c2A); obtain ⟨kk31, kk32⟩ := pp; have pp := C2.K hb4 (b := w1.heap.size + 1 + 1) (x := _) (y := _) (c2A); obtain ⟨kk33, kk34⟩ := pp; have pp := C2.K hb4 (b := w1.heap.size + 1 + 1 + 1) (x := _) (y := _) (c2A); obtain ⟨kk35, kk36⟩ := pp; have pp := C2.K hb4 (b := w2.heap.size) (x := _) (y := _) (c2A); obtain ⟨kk37, kk38⟩ := pp; (try clear kk19 kk20 kk21 kk22 kk23 kk24 kk25 kk26 kk27 kk28))
  clear hp
  go_wp2_with fail
  (refine (iJoinedOf_v _ h3).mono ?_; rintro e w5 ⟨rfl, hb5⟩; have hz5 := hb5.size; (repeat (first | rw [World.size_alloc] at hz5 | rw [World.size_setCell] at hz5 | rw [World.size_drew] at hz5)); have pp := C2.K hb5 (b := w1.heap.size) (x := _) (y := _) (c2A); obtain ⟨kk39, kk40⟩ := pp; have pp := C2.K hb5 (b := w1.heap.size + 1) (x := _) (y := _) (c2A); obtain ⟨kk41, kk42⟩ := pp; have pp := C2.K hb5 (b := w1.heap.size + 1 + 1) (x := _) (y := _) (c2A); obtain ⟨kk43, kk44⟩ := pp; have pp := C2.K hb5 (b := w1.heap.size + 1 + 1 + 1) (x := _) (y := _) (c2A); obtain ⟨kk45, kk46⟩ := pp; have pp := C2.K hb5 (b := w2.heap.size) (x := _) (y := _) (c2A); obtain ⟨kk47, kk48⟩ := pp; (try clear kk29 kk30 kk31 kk32 kk33 kk34 kk35 kk36 kk37 kk38))
  clear h3
  go_wp2_with fail
  (refine (iTimesOf_v _ ht).mono ?_; rintro e w6 ⟨rfl, hb6⟩; have hz6 := hb6.size; (repeat (first | rw [World.size_alloc] at hz6 | rw [World.size_setCell] at hz6 | rw [World.size_drew] at hz6)); have pp := C2.K hb6 (b := w1.heap.size) (x := _) (y := _) (c2A); obtain ⟨kk49, kk50⟩ := pp; have pp := C2.K hb6 (b := w1.heap.size + 1) (x := _) (y := _) (c2A); obtain ⟨kk51, kk52⟩ := pp; have pp := C2.K hb6 (b := w1.heap.size + 1 + 1) (x := _) (y := _) (c2A); obtain ⟨kk53, kk54⟩ := pp; have pp := C2.K hb6 (b := w1.heap.size + 1 + 1 + 1) (x := _) (y := _) (c2A); obtain ⟨kk55, kk56⟩ := pp; have pp := C2.K hb6 (b := w2.heap.size) (x := _) (y := _) (c2A); obtain ⟨kk57, kk58⟩ := pp; have pp := C2.K hb6 (b := w5.heap.size) (x := _) (y := _) (c2A); obtain ⟨kk59, kk60⟩ := pp; (try clear kk39 kk40 kk41 kk42 kk43 kk44 kk45 kk46 kk47 kk48))
  clear ht
  go_wp2_with fail
  (refine (iRestOf_v _ h4).mono ?_; rintro e w7 ⟨rfl, hb7⟩; have hz7 := hb7.size; (repeat (first | rw [World.size_alloc] at hz7 | rw [World.size_setCell] at hz7 | rw [World.size_drew] at hz7)); have pp := C2.K hb7 (b := w1.heap.size) (x := _) (y := _) (c2A); obtain ⟨kk61, kk62⟩ := pp; have pp := C2.K hb7 (b := w1.heap.size + 1) (x := _) (y := _) (c2A); obtain ⟨kk63, kk64⟩ := pp; have pp := C2.K hb7 (b := w1.heap.size + 1 + 1) (x := _) (y := _) (c2A); obtain ⟨kk65, kk66⟩ := pp; have pp := C2.K hb7 (b := w1.heap.size + 1 + 1 + 1) (x := _) (y := _) (c2A); obtain ⟨kk67, kk68⟩ := pp; have pp := C2.K hb7 (b := w2.heap.size) (x := _) (y := _) (c2A); obtain ⟨kk69, kk70⟩ := pp; have pp := C2.K hb7 (b := w5.heap.size) (x := _) (y := _) (c2A); obtain ⟨kk71, kk72⟩ := pp; (try clear kk49 kk50 kk51 kk52 kk53 kk54 kk55 kk56 kk57 kk58 kk59 kk60))
  clear h4
  go_wp2_with fail
  (refine (iSameOk_v _ h5).mono ?_; rintro e w8 ⟨rfl, hb8⟩; have hz8 := hb8.size; (repeat (first | rw [World.size_alloc] at hz8 | rw [World.size_setCell] at hz8 | rw [World.size_drew] at hz8)); have pp := C2.K hb8 (b := w1.heap.size + 1) (x := _) (y := _) (c2A); obtain ⟨kk73, kk74⟩ := pp; have pp := C2.K hb8 (b := w1.heap.size + 1 + 1 + 1) (x := _) (y := _) (c2A); obtain ⟨kk75, kk76⟩ := pp; have pp := C2.K hb8 (b := w2.heap.size) (x := _) (y := _) (c2A); obtain ⟨kk77, kk78⟩ := pp; have pp := C2.K hb8 (b := w5.heap.size) (x := _) (y := _) (c2A); obtain ⟨kk79, kk80⟩ := pp; have pp := C2.K hb8 (b := w7.heap.size) (x := _) (y := _) (c2A); obtain ⟨kk81, kk82⟩ := pp; (try clear kk61 kk62 kk63 kk64 kk65 kk66 kk67 kk68 kk69 kk70 kk71 kk72))
  clear h5
  go_wp2_with fail
  (refine (iSameOk_v _ h6).mono ?_; rintro e w9 ⟨rfl, hb9⟩; have hz9 := hb9.size; (repeat (first | rw [World.size_alloc] at hz9 | rw [World.size_setCell] at hz9 | rw [World.size_drew] at hz9)); have pp := C2.K hb9 (b := w2.heap.size) (x := _) (y := _) (c2A); obtain ⟨kk83, kk84⟩ := pp; have pp := C2.K hb9 (b := w5.heap.size) (x := _) (y := _) (c2A); obtain ⟨kk85, kk86⟩ := pp; have pp := C2.K hb9 (b := w7.heap.size) (x := _) (y := _) (c2A); obtain ⟨kk87, kk88⟩ := pp; (try clear kk73 kk74 kk75 kk76 kk77 kk78 kk79 kk80 kk81 kk82))
  clear h6
  go_wp2_with fail
  go_returns
  exact ⟨rfl, blA⟩
end Go.Proofs.Ytggebkgfldmipaa
