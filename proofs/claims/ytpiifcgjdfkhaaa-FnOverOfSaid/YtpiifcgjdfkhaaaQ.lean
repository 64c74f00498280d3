import Derived.Test.YtpiifcgjdfkhaaaN
import Derived.Test.YtpiifcgjdfkhaaaG
import Derived.Deep.RegionHeld3
namespace Go.Proofs.Ytpiifcgjdfkhaaa
open Go Go.RowKit
attribute [local go_sem] World.cell?_alloc_some cell?_alloc2_some cell?_alloc3_some cell?_alloc4_some frozen?_alloc_some frozen?_alloc2_some frozen?_alloc3_some World.cell?_setCell_far new_ne0 new_ne1 new_ne2 new_ne3 lt2 lt3 lt4 lt5 lt6 lt7 lt8 lt9

theorem gok_swap (a b : Int) : gok b a = gok a b := by simp [gok, Bool.and_comm]
theorem walkFnGaussOk (a : Option Addr) (len cap : Nat) (zs : List Int) (w : World) (h : IsRow .u8 w a len cap zs) :
    Calls Try.prog 3 #[.slice a len cap] w fun e w' => e = .returned (.bool true) ∧ Below w.heap.size w w' := by
  by_cases hl : 1048576 < len
  · clear h
    go_enter Try.func3, Try.ntmps3
    go_wp2_with fail
    go_returns
    exact ⟨rfl, by (repeat' (first | (with_reducible exact Below.refl _ _) | (with_reducible refine Below.alloc ?_ ?_ _) | (with_reducible refine Below.drew ?_) | (with_reducible refine Below.setCell ?_ ?_ _) | (with_reducible refine Below.trans ?_ (Below.mono (by assumption) ?_)) | go_size))⟩
  have e00 : gok 0 0 = true := by decide
  have e01 : gok 0 1 = true := by decide
  have H := Lib.hid h
  clear h
  go_enter Try.func3, Try.ntmps3
  go_wp2_with fail
  (refine (drawGaussOk a len cap zs _ H.out).mono ?_; rintro e w1 ⟨x, y, rfl, hg, hb1⟩; have hz1 := hb1.size; (try simp only [World.size_alloc, World.size_setCell, World.size_drew] at hz1))
  clear hg
  cases k1 : gok x y
  all_goals
    have k2 := k1
    rw [← gok_swap] at k2
    go_wp2_with fail
    (refine (iGaussOk _ _ _).mono ?_; rintro e w2 ⟨rfl, hb2⟩; have hz2 := hb2.size; (try simp only [World.size_alloc, World.size_setCell, World.size_drew] at hz2); have kk1 := keep hb2 (a := ⟨w1.heap.size, 0, none⟩) (v := _) (by (repeat (first | (with_reducible assumption) | (with_reducible apply sameS) | ((with_reducible apply born); (focus (simp; done)); (focus rfl)) | (with_reducible apply keepA) | (with_reducible apply keepD) | ((with_reducible apply keepS); focus ((try simp only [World.size_alloc, World.size_setCell, World.size_drew]); omega)) | ((with_reducible apply keep); (focus (with_reducible assumption)))))); have kk2 := keep hb2 (a := ⟨w1.heap.size, 1, none⟩) (v := _) (by (repeat (first | (with_reducible assumption) | (with_reducible apply sameS) | ((with_reducible apply born); (focus (simp; done)); (focus rfl)) | (with_reducible apply keepA) | (with_reducible apply keepD) | ((with_reducible apply keepS); focus ((try simp only [World.size_alloc, World.size_setCell, World.size_drew]); omega)) | ((with_reducible apply keep); (focus (with_reducible assumption)))))))
    go_wp2_with fail
    (refine (sGaussOk _ _ _).mono ?_; rintro e w3 ⟨rfl, hb3⟩; have hz3 := hb3.size; (try simp only [World.size_alloc, World.size_setCell, World.size_drew] at hz3); have kk3 := keep hb3 (a := ⟨w1.heap.size, 0, none⟩) (v := _) (by (repeat (first | (with_reducible assumption) | (with_reducible apply sameS) | ((with_reducible apply born); (focus (simp; done)); (focus rfl)) | (with_reducible apply keepA) | (with_reducible apply keepD) | ((with_reducible apply keepS); focus ((try simp only [World.size_alloc, World.size_setCell, World.size_drew]); omega)) | ((with_reducible apply keep); (focus (with_reducible assumption)))))); have kk4 := keep hb3 (a := ⟨w1.heap.size, 1, none⟩) (v := _) (by (repeat (first | (with_reducible assumption) | (with_reducible apply sameS) | ((with_reducible apply born); (focus (simp; done)); (focus rfl)) | (with_reducible apply keepA) | (with_reducible apply keepD) | ((with_reducible apply keepS); focus ((try simp only [World.size_alloc, World.size_setCell, World.size_drew]); omega)) | ((with_reducible apply keep); (focus (with_reducible assumption)))))); (try clear kk1 kk2))
    go_wp2_with fail
    (refine (iGaussOk _ _ _).mono ?_; rintro e w4 ⟨rfl, hb4⟩; have hz4 := hb4.size; (try simp only [World.size_alloc, World.size_setCell, World.size_drew] at hz4); have kk5 := keep hb4 (a := ⟨w1.heap.size, 0, none⟩) (v := _) (by (repeat (first | (with_reducible assumption) | (with_reducible apply sameS) | ((with_reducible apply born); (focus (simp; done)); (focus rfl)) | (with_reducible apply keepA) | (with_reducible apply keepD) | ((with_reducible apply keepS); focus ((try simp only [World.size_alloc, World.size_setCell, World.size_drew]); omega)) | ((with_reducible apply keep); (focus (with_reducible assumption)))))); have kk6 := keep hb4 (a := ⟨w1.heap.size, 1, none⟩) (v := _) (by (repeat (first | (with_reducible assumption) | (with_reducible apply sameS) | ((with_reducible apply born); (focus (simp; done)); (focus rfl)) | (with_reducible apply keepA) | (with_reducible apply keepD) | ((with_reducible apply keepS); focus ((try simp only [World.size_alloc, World.size_setCell, World.size_drew]); omega)) | ((with_reducible apply keep); (focus (with_reducible assumption)))))); (try clear kk3 kk4))
    go_wp2_with fail
    (refine (iGaussOk _ _ _).mono ?_; rintro e w5 ⟨rfl, hb5⟩; have hz5 := hb5.size; (try simp only [World.size_alloc, World.size_setCell, World.size_drew] at hz5); have kk7 := keep hb5 (a := ⟨w1.heap.size, 0, none⟩) (v := _) (by (repeat (first | (with_reducible assumption) | (with_reducible apply sameS) | ((with_reducible apply born); (focus (simp; done)); (focus rfl)) | (with_reducible apply keepA) | (with_reducible apply keepD) | ((with_reducible apply keepS); focus ((try simp only [World.size_alloc, World.size_setCell, World.size_drew]); omega)) | ((with_reducible apply keep); (focus (with_reducible assumption)))))); have kk8 := keep hb5 (a := ⟨w1.heap.size, 1, none⟩) (v := _) (by (repeat (first | (with_reducible assumption) | (with_reducible apply sameS) | ((with_reducible apply born); (focus (simp; done)); (focus rfl)) | (with_reducible apply keepA) | (with_reducible apply keepD) | ((with_reducible apply keepS); focus ((try simp only [World.size_alloc, World.size_setCell, World.size_drew]); omega)) | ((with_reducible apply keep); (focus (with_reducible assumption)))))); (try clear kk5 kk6))
    go_wp2_with fail
    (refine (iGaussOk _ _ _).mono ?_; rintro e w6 ⟨rfl, hb6⟩; have hz6 := hb6.size; (try simp only [World.size_alloc, World.size_setCell, World.size_drew] at hz6); have kk9 := keep hb6 (a := ⟨w1.heap.size, 0, none⟩) (v := _) (by (repeat (first | (with_reducible assumption) | (with_reducible apply sameS) | ((with_reducible apply born); (focus (simp; done)); (focus rfl)) | (with_reducible apply keepA) | (with_reducible apply keepD) | ((with_reducible apply keepS); focus ((try simp only [World.size_alloc, World.size_setCell, World.size_drew]); omega)) | ((with_reducible apply keep); (focus (with_reducible assumption)))))); have kk10 := keep hb6 (a := ⟨w1.heap.size, 1, none⟩) (v := _) (by (repeat (first | (with_reducible assumption) | (with_reducible apply sameS) | ((with_reducible apply born); (focus (simp; done)); (focus rfl)) | (with_reducible apply keepA) | (with_reducible apply keepD) | ((with_reducible apply keepS); focus ((try simp only [World.size_alloc, World.size_setCell, World.size_drew]); omega)) | ((with_reducible apply keep); (focus (with_reducible assumption)))))); (try clear kk7 kk8))
    go_wp2_with fail
    (refine (alive _).mono ?_; rintro e w7 ⟨rfl, hb7⟩; have hz7 := hb7.size; (try simp only [World.size_alloc, World.size_setCell, World.size_drew] at hz7); (try clear kk9 kk10))
    go_wp2_with fail
    go_returns
    exact ⟨rfl, by (repeat' (first | (with_reducible exact Below.refl _ _) | (with_reducible refine Below.alloc ?_ ?_ _) | (with_reducible refine Below.drew ?_) | (with_reducible refine Below.setCell ?_ ?_ _) | (with_reducible refine Below.trans ?_ (Below.mono (by assumption) ?_)) | go_size))⟩
end Go.Proofs.Ytpiifcgjdfkhaaa
