import Derived.Test.YtpiifcgjdfkhaaaDoorTc
namespace Go.Proofs.YtpiifcgjdfkhaaaDoor
open Go Go.RowKit
attribute [local go_sem] World.cell?_alloc_some cell?_alloc2_some cell?_alloc3_some cell?_alloc4_some frozen?_alloc_some frozen?_alloc2_some frozen?_alloc3_some World.cell?_setCell_far new_ne0 new_ne1 new_ne2 new_ne3 lt2 lt3 lt4 lt5 lt6 lt7 lt8 lt9

theorem iTxt_len {n : Int} (h1 : -1000 ≤ n) (h2 : n ≤ 1000) : (iTxt n).length ≤ 9 := by
  unfold iTxt
  split
  · simp
  · split
    · simp
    · have := itoa_len h1 h2; simp; omega

set_option maxRecDepth 100000 in
set_option maxHeartbeats 1000000 in
theorem iTextOf (a b : Int) (w : World) (ht : Tab w) :
    Calls Tryd.prog 8 #[.agg #[.int .i64 a, .int .i64 b]] w fun e w' => e = .returned (.string ⟨(txt a b).toArray⟩) ∧ Below w.heap.size w w' := by
  cases k : gok a b
  · have hv : txt a b = [] := by unfold txt; rw [if_pos k]
    have HV := Lib.hid hv
    clear hv
    go_enter Tryd.func8, Tryd.ntmps8
    go_wp2_with fail
    (refine (iGaussOk _ _ _).mono ?_; rintro e w1 ⟨rfl, hb1⟩; have hz1 := hb1.size; (repeat (first | rw [World.size_alloc] at hz1 | rw [World.size_setCell] at hz1 | rw [World.size_drew] at hz1)); have kk1 := keep hb1 (a := ⟨w.heap.size, 0, none⟩) (v := _) (by (repeat (first | (with_reducible assumption) | (with_reducible apply sameS) | ((with_reducible apply born); (focus (simp; done)); (focus rfl)) | (with_reducible apply keepA) | (with_reducible apply keepD) | ((with_reducible apply keepS); focus ((repeat (first | rw [World.size_alloc] | rw [World.size_setCell] | rw [World.size_drew])); omega)) | ((with_reducible apply keep); (focus (with_reducible assumption)))))); have kk2 := keep hb1 (a := ⟨w.heap.size, 1, none⟩) (v := _) (by (repeat (first | (with_reducible assumption) | (with_reducible apply sameS) | ((with_reducible apply born); (focus (simp; done)); (focus rfl)) | (with_reducible apply keepA) | (with_reducible apply keepD) | ((with_reducible apply keepS); focus ((repeat (first | rw [World.size_alloc] | rw [World.size_setCell] | rw [World.size_drew])); omega)) | ((with_reducible apply keep); (focus (with_reducible assumption)))))))
    go_wp2_with fail
    go_returns
    exact ⟨by rw [HV.out]; rfl, by (repeat' (first | (with_reducible exact Below.refl _ _) | (with_reducible refine Below.alloc ?_ ?_ _) | (with_reducible refine Below.drew ?_) | (with_reducible refine Below.setCell ?_ ?_ _) | (with_reducible refine Below.trans ?_ (Below.mono (by assumption) ?_)) | go_size))⟩
  obtain ⟨h1, h2, h3, h4⟩ := gok_bd k
  by_cases b0 : b = 0
  · subst b0
    have hv : txt a 0 = Lib.itoa a := by unfold txt; rw [if_neg (by rw [k]; simp), if_pos rfl]
    have HV := Lib.hid hv
    clear hv
    go_enter Tryd.func8, Tryd.ntmps8
    go_wp2_with fail
    (refine (iGaussOk _ _ _).mono ?_; rintro e w1 ⟨rfl, hb1⟩; have hz1 := hb1.size; (repeat (first | rw [World.size_alloc] at hz1 | rw [World.size_setCell] at hz1 | rw [World.size_drew] at hz1)); have kk3 := keep hb1 (a := ⟨w.heap.size, 0, none⟩) (v := _) (by (repeat (first | (with_reducible assumption) | (with_reducible apply sameS) | ((with_reducible apply born); (focus (simp; done)); (focus rfl)) | (with_reducible apply keepA) | (with_reducible apply keepD) | ((with_reducible apply keepS); focus ((repeat (first | rw [World.size_alloc] | rw [World.size_setCell] | rw [World.size_drew])); omega)) | ((with_reducible apply keep); (focus (with_reducible assumption)))))); have kk4 := keep hb1 (a := ⟨w.heap.size, 1, none⟩) (v := _) (by (repeat (first | (with_reducible assumption) | (with_reducible apply sameS) | ((with_reducible apply born); (focus (simp; done)); (focus rfl)) | (with_reducible apply keepA) | (with_reducible apply keepD) | ((with_reducible apply keepS); focus ((repeat (first | rw [World.size_alloc] | rw [World.size_setCell] | rw [World.size_drew])); omega)) | ((with_reducible apply keep); (focus (with_reducible assumption)))))); (try clear kk1 kk2))
    go_wp2_with fail
    (refine (itoa _ _ h1 h2 (by (repeat (first | (with_reducible assumption) | (with_reducible apply Tab.alloc) | (with_reducible apply Tab.drew) | ((with_reducible apply Tab.below); (focus (with_reducible assumption))))))).mono ?_; rintro e w2 ⟨rfl, hb2⟩; have hz2 := hb2.size; (repeat (first | rw [World.size_alloc] at hz2 | rw [World.size_setCell] at hz2 | rw [World.size_drew] at hz2)); (try clear kk3 kk4))
    go_wp2_with fail
    go_returns
    exact ⟨by rw [HV.out]; rfl, by (repeat' (first | (with_reducible exact Below.refl _ _) | (with_reducible refine Below.alloc ?_ ?_ _) | (with_reducible refine Below.drew ?_) | (with_reducible refine Below.setCell ?_ ?_ _) | (with_reducible refine Below.trans ?_ (Below.mono (by assumption) ?_)) | go_size))⟩
  have hb0 : (b == 0) = false := by simp; omega
  by_cases a0 : a = 0
  · subst a0
    have hv : txt 0 b = iTxt b := by unfold txt; rw [if_neg (by rw [k]; simp), if_neg b0, if_pos rfl]
    have HV := Lib.hid hv
    clear hv
    go_enter Tryd.func8, Tryd.ntmps8
    go_wp2_with fail
    (refine (iGaussOk _ _ _).mono ?_; rintro e w1 ⟨rfl, hb1⟩; have hz1 := hb1.size; (repeat (first | rw [World.size_alloc] at hz1 | rw [World.size_setCell] at hz1 | rw [World.size_drew] at hz1)); have kk5 := keep hb1 (a := ⟨w.heap.size, 0, none⟩) (v := _) (by (repeat (first | (with_reducible assumption) | (with_reducible apply sameS) | ((with_reducible apply born); (focus (simp; done)); (focus rfl)) | (with_reducible apply keepA) | (with_reducible apply keepD) | ((with_reducible apply keepS); focus ((repeat (first | rw [World.size_alloc] | rw [World.size_setCell] | rw [World.size_drew])); omega)) | ((with_reducible apply keep); (focus (with_reducible assumption)))))); have kk6 := keep hb1 (a := ⟨w.heap.size, 1, none⟩) (v := _) (by (repeat (first | (with_reducible assumption) | (with_reducible apply sameS) | ((with_reducible apply born); (focus (simp; done)); (focus rfl)) | (with_reducible apply keepA) | (with_reducible apply keepD) | ((with_reducible apply keepS); focus ((repeat (first | rw [World.size_alloc] | rw [World.size_setCell] | rw [World.size_drew])); omega)) | ((with_reducible apply keep); (focus (with_reducible assumption)))))))
    go_wp2_with fail
    (refine (timesText _ _ h3 h4 (by (repeat (first | (with_reducible assumption) | (with_reducible apply Tab.alloc) | (with_reducible apply Tab.drew) | ((with_reducible apply Tab.below); (focus (with_reducible assumption))))))).mono ?_; rintro e w2 ⟨rfl, hb2⟩; have hz2 := hb2.size; (repeat (first | rw [World.size_alloc] at hz2 | rw [World.size_setCell] at hz2 | rw [World.size_drew] at hz2)); (try clear kk5 kk6))
    go_wp2_with fail
    go_returns
    exact ⟨by rw [HV.out]; rfl, by (repeat' (first | (with_reducible exact Below.refl _ _) | (with_reducible refine Below.alloc ?_ ?_ _) | (with_reducible refine Below.drew ?_) | (with_reducible refine Below.setCell ?_ ?_ _) | (with_reducible refine Below.trans ?_ (Below.mono (by assumption) ?_)) | go_size))⟩
  have ha0 : (a == 0) = false := by simp; omega
  have la := itoa_len h1 h2
  have lb := iTxt_len h3 h4
  by_cases bp : 0 < b
  · have hv : txt a b = Lib.itoa a ++ [43] ++ iTxt b := by unfold txt; rw [if_neg (by rw [k]; simp), if_neg b0, if_neg a0, if_pos bp]
    have HV := Lib.hid hv
    have n1 : ¬ (9223372036854775807 < (Lib.itoa a).length + 1) := by omega
    have n2 : ¬ (9223372036854775807 < (Lib.itoa a).length + 1 + (iTxt b).length) := by omega
    clear hv b0 a0
    go_enter Tryd.func8, Tryd.ntmps8
    go_wp2_with fail
    (refine (iGaussOk _ _ _).mono ?_; rintro e w1 ⟨rfl, hb1⟩; have hz1 := hb1.size; (repeat (first | rw [World.size_alloc] at hz1 | rw [World.size_setCell] at hz1 | rw [World.size_drew] at hz1)); have kk7 := keep hb1 (a := ⟨w.heap.size, 0, none⟩) (v := _) (by (repeat (first | (with_reducible assumption) | (with_reducible apply sameS) | ((with_reducible apply born); (focus (simp; done)); (focus rfl)) | (with_reducible apply keepA) | (with_reducible apply keepD) | ((with_reducible apply keepS); focus ((repeat (first | rw [World.size_alloc] | rw [World.size_setCell] | rw [World.size_drew])); omega)) | ((with_reducible apply keep); (focus (with_reducible assumption)))))); have kk8 := keep hb1 (a := ⟨w.heap.size, 1, none⟩) (v := _) (by (repeat (first | (with_reducible assumption) | (with_reducible apply sameS) | ((with_reducible apply born); (focus (simp; done)); (focus rfl)) | (with_reducible apply keepA) | (with_reducible apply keepD) | ((with_reducible apply keepS); focus ((repeat (first | rw [World.size_alloc] | rw [World.size_setCell] | rw [World.size_drew])); omega)) | ((with_reducible apply keep); (focus (with_reducible assumption)))))))
    go_wp2_with fail
    (refine wp_name ?_; intro w2 hb2; have hz2 := hb2.size; (repeat (first | rw [World.size_alloc] at hz2 | rw [World.size_setCell] at hz2 | rw [World.size_drew] at hz2)); have kk9 := keep hb2 (a := ⟨w.heap.size, 0, none⟩) (v := _) (by (repeat (first | (with_reducible assumption) | (with_reducible apply sameS) | ((with_reducible apply born); (focus (simp; done)); (focus rfl)) | (with_reducible apply keepA) | (with_reducible apply keepD) | ((with_reducible apply keepS); focus ((repeat (first | rw [World.size_alloc] | rw [World.size_setCell] | rw [World.size_drew])); omega)) | ((with_reducible apply keep); (focus (with_reducible assumption)))))); have rkk9 := cell_regrown kk9; have kk10 := keep hb2 (a := ⟨w.heap.size, 1, none⟩) (v := _) (by (repeat (first | (with_reducible assumption) | (with_reducible apply sameS) | ((with_reducible apply born); (focus (simp; done)); (focus rfl)) | (with_reducible apply keepA) | (with_reducible apply keepD) | ((with_reducible apply keepS); focus ((repeat (first | rw [World.size_alloc] | rw [World.size_setCell] | rw [World.size_drew])); omega)) | ((with_reducible apply keep); (focus (with_reducible assumption)))))); have rkk10 := cell_regrown kk10; (try clear kk7 kk8); refine wp_region_quiet_below (by kernel_rfl) (by kernel_rfl) ?_; (repeat (first | go_big_quiet_step ((first | (go_at_call 19; exact Calls.regrown_of (itoa _ _ h1 h2 (Tab.below (below_regrown _ _ _) (by (repeat (first | (with_reducible assumption) | (with_reducible apply Tab.alloc) | (with_reducible apply Tab.drew) | ((with_reducible apply Tab.below); (focus (with_reducible assumption))))))))) | (go_at_call 20; exact Calls.regrown_of (timesText _ _ h3 h4 (Tab.below (below_regrown _ _ _) (by (repeat (first | (with_reducible assumption) | (with_reducible apply Tab.alloc) | (with_reducible apply Tab.drew) | ((with_reducible apply Tab.below); (focus (with_reducible assumption))))))))))) | quiet_step ((first | (go_at_call 19; exact Calls.regrown_of (itoa _ _ h1 h2 (Tab.below (below_regrown _ _ _) (by (repeat (first | (with_reducible assumption) | (with_reducible apply Tab.alloc) | (with_reducible apply Tab.drew) | ((with_reducible apply Tab.below); (focus (with_reducible assumption))))))))) | (go_at_call 20; exact Calls.regrown_of (timesText _ _ h3 h4 (Tab.below (below_regrown _ _ _) (by (repeat (first | (with_reducible assumption) | (with_reducible apply Tab.alloc) | (with_reducible apply Tab.drew) | ((with_reducible apply Tab.below); (focus (with_reducible assumption))))))))))))); refine wpQuiet_nil ?_; intro w3 hw; have hb3 := below_of_regrown hw; clear hw; have hz3 := hb3.size; have kk11 := keep hb3 kk9; have kk12 := keep hb3 kk10; clear kk9 kk10 rkk9 rkk10)
    go_wp2_with fail
    go_returns
    exact ⟨by rw [HV.out]; simp [ByteArray.mk_append_mk], by (repeat' (first | (with_reducible exact Below.refl _ _) | (with_reducible refine Below.alloc ?_ ?_ _) | (with_reducible refine Below.drew ?_) | (with_reducible refine Below.setCell ?_ ?_ _) | (with_reducible refine Below.trans ?_ (Below.mono (by assumption) ?_)) | go_size))⟩
  · have hv : txt a b = Lib.itoa a ++ iTxt b := by unfold txt; rw [if_neg (by rw [k]; simp), if_neg b0, if_neg a0, if_neg bp]
    have HV := Lib.hid hv
    have n2 : ¬ (9223372036854775807 < (Lib.itoa a).length + (iTxt b).length) := by omega
    clear hv b0 a0
    go_enter Tryd.func8, Tryd.ntmps8
    go_wp2_with fail
    (refine (iGaussOk _ _ _).mono ?_; rintro e w1 ⟨rfl, hb1⟩; have hz1 := hb1.size; (repeat (first | rw [World.size_alloc] at hz1 | rw [World.size_setCell] at hz1 | rw [World.size_drew] at hz1)); have kk13 := keep hb1 (a := ⟨w.heap.size, 0, none⟩) (v := _) (by (repeat (first | (with_reducible assumption) | (with_reducible apply sameS) | ((with_reducible apply born); (focus (simp; done)); (focus rfl)) | (with_reducible apply keepA) | (with_reducible apply keepD) | ((with_reducible apply keepS); focus ((repeat (first | rw [World.size_alloc] | rw [World.size_setCell] | rw [World.size_drew])); omega)) | ((with_reducible apply keep); (focus (with_reducible assumption)))))); have kk14 := keep hb1 (a := ⟨w.heap.size, 1, none⟩) (v := _) (by (repeat (first | (with_reducible assumption) | (with_reducible apply sameS) | ((with_reducible apply born); (focus (simp; done)); (focus rfl)) | (with_reducible apply keepA) | (with_reducible apply keepD) | ((with_reducible apply keepS); focus ((repeat (first | rw [World.size_alloc] | rw [World.size_setCell] | rw [World.size_drew])); omega)) | ((with_reducible apply keep); (focus (with_reducible assumption)))))); (try clear kk11 kk12))
    go_wp2_with fail
    (refine wp_name ?_; intro w2 hb2; have hz2 := hb2.size; (repeat (first | rw [World.size_alloc] at hz2 | rw [World.size_setCell] at hz2 | rw [World.size_drew] at hz2)); have kk15 := keep hb2 (a := ⟨w.heap.size, 0, none⟩) (v := _) (by (repeat (first | (with_reducible assumption) | (with_reducible apply sameS) | ((with_reducible apply born); (focus (simp; done)); (focus rfl)) | (with_reducible apply keepA) | (with_reducible apply keepD) | ((with_reducible apply keepS); focus ((repeat (first | rw [World.size_alloc] | rw [World.size_setCell] | rw [World.size_drew])); omega)) | ((with_reducible apply keep); (focus (with_reducible assumption)))))); have rkk15 := cell_regrown kk15; have kk16 := keep hb2 (a := ⟨w.heap.size, 1, none⟩) (v := _) (by (repeat (first | (with_reducible assumption) | (with_reducible apply sameS) | ((with_reducible apply born); (focus (simp; done)); (focus rfl)) | (with_reducible apply keepA) | (with_reducible apply keepD) | ((with_reducible apply keepS); focus ((repeat (first | rw [World.size_alloc] | rw [World.size_setCell] | rw [World.size_drew])); omega)) | ((with_reducible apply keep); (focus (with_reducible assumption)))))); have rkk16 := cell_regrown kk16; (try clear kk13 kk14); refine wp_region_quiet_below (by kernel_rfl) (by kernel_rfl) ?_; (repeat (first | go_big_quiet_step ((first | (go_at_call 19; exact Calls.regrown_of (itoa _ _ h1 h2 (Tab.below (below_regrown _ _ _) (by (repeat (first | (with_reducible assumption) | (with_reducible apply Tab.alloc) | (with_reducible apply Tab.drew) | ((with_reducible apply Tab.below); (focus (with_reducible assumption))))))))) | (go_at_call 20; exact Calls.regrown_of (timesText _ _ h3 h4 (Tab.below (below_regrown _ _ _) (by (repeat (first | (with_reducible assumption) | (with_reducible apply Tab.alloc) | (with_reducible apply Tab.drew) | ((with_reducible apply Tab.below); (focus (with_reducible assumption))))))))))) | quiet_step ((first | (go_at_call 19; exact Calls.regrown_of (itoa _ _ h1 h2 (Tab.below (below_regrown _ _ _) (by (repeat (first | (with_reducible assumption) | (with_reducible apply Tab.alloc) | (with_reducible apply Tab.drew) | ((with_reducible apply Tab.below); (focus (with_reducible assumption))))))))) | (go_at_call 20; exact Calls.regrown_of (timesText _ _ h3 h4 (Tab.below (below_regrown _ _ _) (by (repeat (first | (with_reducible assumption) | (with_reducible apply Tab.alloc) | (with_reducible apply Tab.drew) | ((with_reducible apply Tab.below); (focus (with_reducible assumption))))))))))))); refine wpQuiet_nil ?_; intro w3 hw; have hb3 := below_of_regrown hw; clear hw; have hz3 := hb3.size; have kk17 := keep hb3 kk15; have kk18 := keep hb3 kk16; clear kk15 kk16 rkk15 rkk16)
    go_wp2_with fail
    go_returns
    exact ⟨by rw [HV.out]; simp [ByteArray.mk_append_mk], by (repeat' (first | (with_reducible exact Below.refl _ _) | (with_reducible refine Below.alloc ?_ ?_ _) | (with_reducible refine Below.drew ?_) | (with_reducible refine Below.setCell ?_ ?_ _) | (with_reducible refine Below.trans ?_ (Below.mono (by assumption) ?_)) | go_size))⟩
end Go.Proofs.YtpiifcgjdfkhaaaDoor
