import Derived.Test.YtggebkgfldmipaaNd
import Derived.Test.YtggebkgfldmipaaNe
import Derived.Test.YtggebkgfldmipaaNg
import Derived.Test.YtggebkgfldmipaaUs
import Derived.Test.YtggebkgfldmipaaL
import Derived.Test.YtggebkgfldmipaaM
import Derived.Test.YtggebkgfldmipaaR
import Derived.BigRegion
namespace Go.Proofs.Ytggebkgfldmipaa
open Go Go.RowKit
attribute [local go_sem] World.cell?_alloc_some cell?_alloc2_some cell?_alloc3_some cell?_alloc4_some frozen?_alloc_some frozen?_alloc2_some frozen?_alloc3_some World.cell?_setCell_far new_ne0 new_ne1 new_ne2 new_ne3 lt2 lt3 lt4 lt5 lt6 lt7 lt8 lt9
attribute [local go_sem ↓] eqG neG
attribute [local go_sem] cell?_alloc_lt frozen?_alloc_lt lt10

set_option maxRecDepth 100000 in
set_option maxHeartbeats 16000000 in
theorem walkFnPairOk (a0 : Option Addr) (len cap : Nat) (zs : List Int) (w : World) (h : IsRow .u8 w a0 len cap zs) :
    Calls Try.prog 3 #[.slice a0 len cap] w fun e w' => e = .returned (.bool true) ∧ Below w.heap.size w w' := by
  by_cases hl : 1048576 < len
  · clear h
    go_enter Try.func3, Try.ntmps3
    go_wp2_with fail
    go_returns
    exact ⟨rfl, blA⟩
  have H := Lib.hid h
  clear h
  go_enter Try.func3, Try.ntmps3
  go_wp2_with fail
  (refine (drawPairOk a0 len cap zs _ H.out).mono ?_; rintro e w1 ⟨a, b, c, d, rfl, hb1⟩; have hz1 := hb1.size; (repeat (first | rw [World.size_alloc] at hz1 | rw [World.size_setCell] at hz1 | rw [World.size_drew] at hz1)))
  clear H
  go_wp2_with fail
  obtain ⟨o, ho⟩ : ∃ o, paO a b c d = o := ⟨_, rfl⟩
  obtain ⟨o1, h1⟩ : ∃ o, paO a b 1 0 = o := ⟨_, rfl⟩
  have hs : paO c d a b = o := (pa_swap a b c d).trans ho
  have h2 : mdO a b = o1 := (pa_one a b).symm.trans h1
  (refine (iPairOk_v _ ho).mono ?_; rintro e w2 ⟨rfl, hb2⟩; have hz2 := hb2.size; (repeat (first | rw [World.size_alloc] at hz2 | rw [World.size_setCell] at hz2 | rw [World.size_drew] at hz2)); have pp := C2.K hb2 (b := w1.heap.size) (x := _) (y := _) (c2A); obtain ⟨kk1, kk2⟩ := pp; have pp := C2.K hb2 (b := w1.heap.size + 1) (x := _) (y := _) (c2A); obtain ⟨kk3, kk4⟩ := pp)
  go_wp2_with fail
  (refine (sPairOk_v _ ho).mono ?_; rintro e w3 ⟨rfl, hb3⟩; have hz3 := hb3.size; (repeat (first | rw [World.size_alloc] at hz3 | rw [World.size_setCell] at hz3 | rw [World.size_drew] at hz3)); have pp := C2.K hb3 (b := w1.heap.size) (x := _) (y := _) (c2A); obtain ⟨kk5, kk6⟩ := pp; have pp := C2.K hb3 (b := w1.heap.size + 1) (x := _) (y := _) (c2A); obtain ⟨kk7, kk8⟩ := pp; (try clear kk1 kk2 kk3 kk4))
  clear ho
  cases o <;> cases o1
  all_goals
    go_wp2_with fail
    (refine wp_name ?_; intro w4 hb4; have hz4 := hb4.size; (repeat (first | rw [World.size_alloc] at hz4 | rw [World.size_setCell] at hz4 | rw [World.size_drew] at hz4)); have pp := C2.K hb4 (b := w1.heap.size) (x := _) (y := _) (c2A); obtain ⟨kk9, kk10⟩ := pp; have rkk9 := cell_regrown kk9; have rkk10 := cell_regrown kk10; have pp := C2.K hb4 (b := w1.heap.size + 1) (x := _) (y := _) (c2A); obtain ⟨kk11, kk12⟩ := pp; have rkk11 := cell_regrown kk11; have rkk12 := cell_regrown kk12; (try clear kk5 kk6 kk7 kk8); refine wp_region_quiet_below (by kernel_rfl) (by kernel_rfl) ?_; (repeat (first | go_big_quiet_step ((first | (go_at_call 12; exact Calls.regrown_of (iPairOk_v _ (by first | exact hs | exact h1))) | (go_at_call 14; exact Calls.regrown_of (iModulusOk_v _ h2)) | (go_at_call 15; exact Calls.regrown_of (alive _)))) | quiet_step ((first | (go_at_call 12; exact Calls.regrown_of (iPairOk_v _ (by first | exact hs | exact h1))) | (go_at_call 14; exact Calls.regrown_of (iModulusOk_v _ h2)) | (go_at_call 15; exact Calls.regrown_of (alive _)))))); refine wpQuiet_nil ?_; intro w5 hw; have hb5 := below_of_regrown hw; clear hw; have hz5 := hb5.size; have kk13 := keep hb5 kk9; have kk14 := keep hb5 kk10; have kk15 := keep hb5 kk11; have kk16 := keep hb5 kk12; clear kk9 kk10 kk11 kk12 rkk9 rkk10 rkk11 rkk12)
    clear hs h1 h2
    go_wp2_with fail
    go_returns
    exact ⟨rfl, blA⟩
end Go.Proofs.Ytggebkgfldmipaa
