import Derived.Test.YtahnkecdningnaaQg
import Derived.Test.YtahnkecdningnaaQe
import Derived.Test.YtahnkecdningnaaPc
import Derived.Test.YtahnkecdningnaaUs
import Derived.Test.YtahnkecdningnaaL
import Derived.Test.YtahnkecdningnaaM
import Derived.Test.YtahnkecdningnaaR
import Derived.BigRegion
namespace Go.Proofs.Ytahnkecdningnaa
open Go Go.RowKit
attribute [local go_sem] World.cell?_alloc_some cell?_alloc2_some cell?_alloc3_some cell?_alloc4_some frozen?_alloc_some frozen?_alloc2_some frozen?_alloc3_some World.cell?_setCell_far new_ne0 new_ne1 new_ne2 new_ne3 lt2 lt3 lt4 lt5 lt6 lt7 lt8 lt9
attribute [local go_sem ↓] eqG neG
attribute [local go_sem] cell?_alloc_lt frozen?_alloc_lt lt10

set_option maxRecDepth 100000 in
set_option maxHeartbeats 16000000 in
theorem walkFnCountApart (a0 : Option Addr) (len0 cap0 : Nat) (z0 : List Int) (a1 : Option Addr) (len1 cap1 : Nat) (z1 : List Int) (w : World) (r0 : IsRow .u8 w a0 len0 cap0 z0) (r1 : IsRow .u8 w a1 len1 cap1 z1) :
    Calls Try.prog 5 #[.slice a0 len0 cap0, .slice a1 len1 cap1] w fun e w' => e = .returned (.bool true) ∧ Below w.heap.size w w' := by
  have H0 := Lib.hid r0
  have H1 := Lib.hid r1
  clear r0 r1
  by_cases hl0 : 1048576 < len0
  · go_enter Try.func5, Try.ntmps5
    go_wp2_with fail
    go_returns
    exact ⟨rfl, by (repeat' (first | (with_reducible exact Below.refl _ _) | (with_reducible refine Below.alloc ?_ ?_ _) | (with_reducible refine Below.drew ?_) | (with_reducible refine Below.setCell ?_ ?_ _) | (with_reducible refine Below.trans ?_ (Below.mono (by assumption) ?_)) | go_size))⟩
  by_cases hl1 : 1048576 < len1
  · go_enter Try.func5, Try.ntmps5
    go_wp2_with fail
    go_returns
    exact ⟨rfl, by (repeat' (first | (with_reducible exact Below.refl _ _) | (with_reducible refine Below.alloc ?_ ?_ _) | (with_reducible refine Below.drew ?_) | (with_reducible refine Below.setCell ?_ ?_ _) | (with_reducible refine Below.trans ?_ (Below.mono (by assumption) ?_)) | go_size))⟩
  go_enter Try.func5, Try.ntmps5
  go_wp2_with fail
  (refine (drawCountApart a0 len0 cap0 z0 _ H0.out).mono ?_; rintro e w1 ⟨e, f, rfl, hmd, hb1⟩; have hz1 := hb1.size; (repeat (first | rw [World.size_alloc] at hz1 | rw [World.size_setCell] at hz1 | rw [World.size_drew] at hz1)))
  have Hmd := Lib.hid hmd
  have H1' := Lib.hid (H1.out.below hb1)
  clear hmd H0 H1
  obtain ⟨n, hc⟩ := ca_any e f
  go_wp2_with fail
  (refine (iCountApart_v _ hc).mono ?_; rintro e w2 ⟨rfl, hb2⟩; have hz2 := hb2.size; (repeat (first | rw [World.size_alloc] at hz2 | rw [World.size_setCell] at hz2 | rw [World.size_drew] at hz2)); have pp := C2.K hb2 (b := w1.heap.size) (x := _) (y := _) (by (repeat (first | ((with_reducible apply C2.mk) <;> (with_reducible assumption)) | (with_reducible apply C2.Z) | (with_reducible apply C2.O) | ((with_reducible apply C2.B); (focus (simp; done))) | (with_reducible apply C2.A) | (with_reducible apply C2.D) | ((with_reducible apply C2.S); focus ((repeat (first | rw [World.size_alloc] | rw [World.size_setCell] | rw [World.size_drew])); omega)) | ((with_reducible apply C2.K); (focus (with_reducible assumption)))))); obtain ⟨kk1, kk2⟩ := pp)
  go_wp2_with fail
  (refine (sCountApart_v _ hc).mono ?_; rintro e w3 ⟨rfl, hb3⟩; have hz3 := hb3.size; (repeat (first | rw [World.size_alloc] at hz3 | rw [World.size_setCell] at hz3 | rw [World.size_drew] at hz3)); have pp := C2.K hb3 (b := w1.heap.size) (x := _) (y := _) (by (repeat (first | ((with_reducible apply C2.mk) <;> (with_reducible assumption)) | (with_reducible apply C2.Z) | (with_reducible apply C2.O) | ((with_reducible apply C2.B); (focus (simp; done))) | (with_reducible apply C2.A) | (with_reducible apply C2.D) | ((with_reducible apply C2.S); focus ((repeat (first | rw [World.size_alloc] | rw [World.size_setCell] | rw [World.size_drew])); omega)) | ((with_reducible apply C2.K); (focus (with_reducible assumption)))))); obtain ⟨kk3, kk4⟩ := pp; (try clear kk1 kk2))
  have hnn : (n != n) = false := by simp
  cases hd : mdO e f
  · obtain rfl := hc.none hd
    clear hc
    go_wp2_with fail
    (refine (iModulusOk_v _ hd).mono ?_; rintro e w4 ⟨rfl, hb4⟩; have hz4 := hb4.size; (repeat (first | rw [World.size_alloc] at hz4 | rw [World.size_setCell] at hz4 | rw [World.size_drew] at hz4)); (try clear kk3 kk4))
    go_wp2_with fail
    (refine (alive _).mono ?_; rintro e w5 ⟨rfl, hb5⟩; have hz5 := hb5.size; (repeat (first | rw [World.size_alloc] at hz5 | rw [World.size_setCell] at hz5 | rw [World.size_drew] at hz5)))
    go_wp2_with fail
    go_returns
    exact ⟨rfl, by (repeat' (first | (with_reducible exact Below.refl _ _) | (with_reducible refine Below.alloc ?_ ?_ _) | (with_reducible refine Below.drew ?_) | (with_reducible refine Below.setCell ?_ ?_ _) | (with_reducible refine Below.trans ?_ (Below.mono (by assumption) ?_)) | go_size))⟩
  have n1 := hc.pos hd
  have n100 := hc.bd.2
  have hdn : decide (n < 0) = false := decide_eq_false (by omega)
  have hcr := ca_rests hc Hmd.out hd
  have hpl := rtL_bd e f
  have hR := iRestsOf e f
  have hM := (rtL_is hd).mem
  obtain ⟨L, hL⟩ : ∃ L, rtL e f = L := ⟨_, rfl⟩
  rw [hL] at hcr hpl hM
  simp only [hL] at hR
  have HC := Lib.hid hc
  have HD := Lib.hid hd
  clear hL hc Hmd
  go_wp2_with fail
  (refine (hR _).mono ?_; rintro e w4 ⟨v, rfl, g, hb4⟩; have hz4 := hb4.size; (repeat (first | rw [World.size_alloc] at hz4 | rw [World.size_setCell] at hz4 | rw [World.size_drew] at hz4)); have pp := C2.K hb4 (b := w1.heap.size) (x := _) (y := _) (by (repeat (first | ((with_reducible apply C2.mk) <;> (with_reducible assumption)) | (with_reducible apply C2.Z) | (with_reducible apply C2.O) | ((with_reducible apply C2.B); (focus (simp; done))) | (with_reducible apply C2.A) | (with_reducible apply C2.D) | ((with_reducible apply C2.S); focus ((repeat (first | rw [World.size_alloc] | rw [World.size_setCell] | rw [World.size_drew])); omega)) | ((with_reducible apply C2.K); (focus (with_reducible assumption)))))); obtain ⟨kk5, kk6⟩ := pp)
  clear hR
  obtain ⟨ga, cap, rfl, hga⟩ := g.form
  have H4 := Lib.hid (show IsRow .u8 w4 a1 len1 cap1 z1 from by have := H1'.out; (repeat (first | (with_reducible assumption) | (with_reducible apply IsRow.alloc) | (with_reducible apply IsRow.drew) | ((with_reducible apply IsRow.below); (focus (with_reducible assumption))))))
  have B4 : Below w.heap.size w w4 := by (repeat' (first | (with_reducible exact Below.refl _ _) | (with_reducible refine Below.alloc ?_ ?_ _) | (with_reducible refine Below.drew ?_) | (with_reducible refine Below.setCell ?_ ?_ _) | (with_reducible refine Below.trans ?_ (Below.mono (by assumption) ?_)) | go_size))
  have hs4 := B4.size
  have hZ : C2 w4 w1.heap.size (.int .i64 e) (.int .i64 f) := by (repeat (first | ((with_reducible apply C2.mk) <;> (with_reducible assumption)) | (with_reducible apply C2.Z) | (with_reducible apply C2.O) | ((with_reducible apply C2.B); (focus (simp; done))) | (with_reducible apply C2.A) | (with_reducible apply C2.D) | ((with_reducible apply C2.S); focus ((repeat (first | rw [World.size_alloc] | rw [World.size_setCell] | rw [World.size_drew])); omega)) | ((with_reducible apply C2.K); (focus (with_reducible assumption)))))
  obtain ⟨N, hN⟩ : ∃ N, L.length = N := ⟨_, rfl⟩
  have hcN : (cntA L e f N : Int) = n := by
    unfold cntA; rw [← hN, List.take_length]; exact hcr
  have hck := cntA_le L e f
  rw [hN] at hpl hck ⊢
  have HCN := Lib.hid hcN
  have hh : w1.heap.size < w4.heap.size := World.block_lt_of_cell? _ _ hZ.c0
  clear H1' hcr hcN g hb1 hb2 hb3 hb4 hz1 hz2 hz3 hz4
  go_wp2_with fail
  go_loopw [7, 9] (fun c u wr => ∃ (k m : Nat), u = .int .i64 (k : Int) ∧ c = .int .i64 (m : Int) ∧ k ≤ N ∧ m = cntA L e f k ∧ Below w4.heap.size w4 wr) (fun _ u _ => N - (intOf u).toNat)
  case atStart => exact ⟨0, 0, rfl, rfl, Nat.zero_le _, rfl, Below.refl _ _⟩
  case round =>
    obtain ⟨k, m, rfl, rfl, hk, hm, hb⟩ := hrel
    have hsb := hb.size
    obtain ⟨y0, y1⟩ := C2.K hb hZ
    by_cases hlt : k < N
    · have hd1 : decide ((k : Int) < (N : Int)) = true := decide_eq_true (by omega)
      obtain ⟨⟨p, q⟩, hpq⟩ : ∃ r, L[k]? = some r := ⟨_, List.getElem?_eq_getElem (by omega)⟩
      have hne : L ≠ [] := by rintro rfl; simp at hpq
      obtain ⟨g, rfl, hg1, hg2, hA, -⟩ := hga hne
      obtain ⟨c0, c1⟩ := hA k p q hpq
      have l0 := keep hb c0
      have l1 := keep hb c1
      have hst := cntA_next (e := e) (f := f) hpq
      have hmb := hck k
      rw [← hm] at hst hmb
      obtain ⟨M, hMM⟩ : ∃ M, cntA L e f (k + 1) = M := ⟨_, rfl⟩
      rw [hMM] at hst
      have Hm := Lib.hid hMM
      clear hMM hm c0 c1 hA hga hpq hM
      cases ha : apO p q e f
      · rw [ha, if_neg (by simp)] at hst
        obtain rfl : M = m := by omega
        clear hst
        go_wp2_with fail
        refine wp_name ?_
        intro wA hbwA
        have l0_a := keep hbwA l0
        have l0_r := cell_regrown l0_a
        have l1_a := keep hbwA l1
        have l1_r := cell_regrown l1_a
        have y0_a := keep hbwA y0
        have y0_r := cell_regrown y0_a
        have y1_a := keep hbwA y1
        have y1_r := cell_regrown y1_a
        clear l0 l1 y0 y1
        refine wp_region_quiet_below (by kernel_rfl) (by kernel_rfl) ?_
        (repeat (first | go_big_quiet_step ((first | (go_at_call 18; exact Calls.regrown_of (iApartOk_v _ ha)))) | quiet_step ((first | (go_at_call 18; exact Calls.regrown_of (iApartOk_v _ ha))))))
        refine wpQuiet_nil ?_
        intro wB hwwB
        have hbwB := below_of_regrown hwwB
        clear hwwB
        have l0 := keep hbwB l0_a
        have l1 := keep hbwB l1_a
        have y0 := keep hbwB y0_a
        have y1 := keep hbwB y1_a
        clear l0_a l0_r l1_a l1_r y0_a y0_r y1_a y1_r
        have hbD : Below w4.heap.size w4 wB := (hb.trans (hbwA.mono hsb)).trans (hbwB.mono (by have := hbwA.size; omega))
        go_wp2_with fail
        go_roundw
        case rel => exact ⟨k + 1, M, by simp, rfl, by omega, Hm.out.symm, hbD⟩
        case measure => simp [intOf]; omega
      · rw [ha, if_pos rfl] at hst
        subst hst
        go_wp2_with fail
        refine wp_name ?_
        intro wA hbwA
        have l0_a := keep hbwA l0
        have l0_r := cell_regrown l0_a
        have l1_a := keep hbwA l1
        have l1_r := cell_regrown l1_a
        have y0_a := keep hbwA y0
        have y0_r := cell_regrown y0_a
        have y1_a := keep hbwA y1
        have y1_r := cell_regrown y1_a
        clear l0 l1 y0 y1
        refine wp_region_quiet_below (by kernel_rfl) (by kernel_rfl) ?_
        (repeat (first | go_big_quiet_step ((first | (go_at_call 18; exact Calls.regrown_of (iApartOk_v _ ha)))) | quiet_step ((first | (go_at_call 18; exact Calls.regrown_of (iApartOk_v _ ha))))))
        refine wpQuiet_nil ?_
        intro wB hwwB
        have hbwB := below_of_regrown hwwB
        clear hwwB
        have l0 := keep hbwB l0_a
        have l1 := keep hbwB l1_a
        have y0 := keep hbwB y0_a
        have y1 := keep hbwB y1_a
        clear l0_a l0_r l1_a l1_r y0_a y0_r y1_a y1_r
        have hbD : Below w4.heap.size w4 wB := (hb.trans (hbwA.mono hsb)).trans (hbwB.mono (by have := hbwA.size; omega))
        go_wp2_with fail
        go_roundw
        case rel => exact ⟨k + 1, m + 1, by simp, by simp, by omega, Hm.out.symm, hbD⟩
        case measure => simp [intOf]; omega
    · have hd1 : decide ((k : Int) < (N : Int)) = false := decide_eq_false (by omega)
      obtain rfl : k = N := by omega
      have hmn : (m : Int) = n := by rw [hm]; exact HCN.out
      rw [hmn]
      have Bw : Below w.heap.size w wr := B4.trans (hb.mono hs4)
      have H5 := Lib.hid (H4.out.below hb)
      have hhr : w1.heap.size < wr.heap.size := by omega
      clear hga hm hck hM H4 hZ hb B4 hmn HCN
      go_wp2_with fail
      (refine (drawModulusOk a1 len1 cap1 z1 _ H5.out).mono ?_; rintro e w5 ⟨c, d, rfl, hb5⟩; have hz5 := hb5.size; (repeat (first | rw [World.size_alloc] at hz5 | rw [World.size_setCell] at hz5 | rw [World.size_drew] at hz5)); have pp := C2.K hb5 (b := w1.heap.size) (x := _) (y := _) (by (repeat (first | ((with_reducible apply C2.mk) <;> (with_reducible assumption)) | (with_reducible apply C2.Z) | (with_reducible apply C2.O) | ((with_reducible apply C2.B); (focus (simp; done))) | (with_reducible apply C2.A) | (with_reducible apply C2.D) | ((with_reducible apply C2.S); focus ((repeat (first | rw [World.size_alloc] | rw [World.size_setCell] | rw [World.size_drew])); omega)) | ((with_reducible apply C2.K); (focus (with_reducible assumption)))))); obtain ⟨kk7, kk8⟩ := pp; (try clear kk5 kk6))
      clear H5
      obtain ⟨o, p, q, ht⟩ := ti_is e f c d
      go_wp2_with fail
      (refine (iTimesOf_v _ ht).mono ?_; rintro e w6 ⟨rfl, hb6⟩; have hz6 := hb6.size; (repeat (first | rw [World.size_alloc] at hz6 | rw [World.size_setCell] at hz6 | rw [World.size_drew] at hz6)); have pp := C2.K hb6 (b := w1.heap.size) (x := _) (y := _) (by (repeat (first | ((with_reducible apply C2.mk) <;> (with_reducible assumption)) | (with_reducible apply C2.Z) | (with_reducible apply C2.O) | ((with_reducible apply C2.B); (focus (simp; done))) | (with_reducible apply C2.A) | (with_reducible apply C2.D) | ((with_reducible apply C2.S); focus ((repeat (first | rw [World.size_alloc] | rw [World.size_setCell] | rw [World.size_drew])); omega)) | ((with_reducible apply C2.K); (focus (with_reducible assumption)))))); obtain ⟨kk9, kk10⟩ := pp; have pp := C2.K hb6 (b := w5.heap.size) (x := _) (y := _) (by (repeat (first | ((with_reducible apply C2.mk) <;> (with_reducible assumption)) | (with_reducible apply C2.Z) | (with_reducible apply C2.O) | ((with_reducible apply C2.B); (focus (simp; done))) | (with_reducible apply C2.A) | (with_reducible apply C2.D) | ((with_reducible apply C2.S); focus ((repeat (first | rw [World.size_alloc] | rw [World.size_setCell] | rw [World.size_drew])); omega)) | ((with_reducible apply C2.K); (focus (with_reducible assumption)))))); obtain ⟨kk11, kk12⟩ := pp; (try clear kk7 kk8))
      have HT := Lib.hid ht
      clear ht
      obtain ⟨m2, hc2⟩ := ca_any c d
      obtain ⟨m3, hc3⟩ := ca_any p q
      have b2 := hc2.bd
      have b3 := hc3.bd
      cases o
      · go_wp2_with fail
        (refine wp_name ?_; intro w8 hb8; have hz8 := hb8.size; (repeat (first | rw [World.size_alloc] at hz8 | rw [World.size_setCell] at hz8 | rw [World.size_drew] at hz8)); have pp := C2.K hb8 (b := w1.heap.size) (x := _) (y := _) (by (repeat (first | ((with_reducible apply C2.mk) <;> (with_reducible assumption)) | (with_reducible apply C2.Z) | (with_reducible apply C2.O) | ((with_reducible apply C2.B); (focus (simp; done))) | (with_reducible apply C2.A) | (with_reducible apply C2.D) | ((with_reducible apply C2.S); focus ((repeat (first | rw [World.size_alloc] | rw [World.size_setCell] | rw [World.size_drew])); omega)) | ((with_reducible apply C2.K); (focus (with_reducible assumption)))))); obtain ⟨kk13, kk14⟩ := pp; have rkk13 := cell_regrown kk13; have rkk14 := cell_regrown kk14; have pp := C2.K hb8 (b := w5.heap.size) (x := _) (y := _) (by (repeat (first | ((with_reducible apply C2.mk) <;> (with_reducible assumption)) | (with_reducible apply C2.Z) | (with_reducible apply C2.O) | ((with_reducible apply C2.B); (focus (simp; done))) | (with_reducible apply C2.A) | (with_reducible apply C2.D) | ((with_reducible apply C2.S); focus ((repeat (first | rw [World.size_alloc] | rw [World.size_setCell] | rw [World.size_drew])); omega)) | ((with_reducible apply C2.K); (focus (with_reducible assumption)))))); obtain ⟨kk15, kk16⟩ := pp; have rkk15 := cell_regrown kk15; have rkk16 := cell_regrown kk16; have pp := C2.K hb8 (b := w6.heap.size) (x := _) (y := _) (by (repeat (first | ((with_reducible apply C2.mk) <;> (with_reducible assumption)) | (with_reducible apply C2.Z) | (with_reducible apply C2.O) | ((with_reducible apply C2.B); (focus (simp; done))) | (with_reducible apply C2.A) | (with_reducible apply C2.D) | ((with_reducible apply C2.S); focus ((repeat (first | rw [World.size_alloc] | rw [World.size_setCell] | rw [World.size_drew])); omega)) | ((with_reducible apply C2.K); (focus (with_reducible assumption)))))); obtain ⟨kk17, kk18⟩ := pp; have rkk17 := cell_regrown kk17; have rkk18 := cell_regrown kk18; (try clear kk9 kk10 kk11 kk12); refine wp_region_quiet_below (by kernel_rfl) (by kernel_rfl) ?_; (repeat (first | go_big_quiet_step ((first | (go_at_call 26; exact Calls.regrown_of (iModulusOk_v _ rfl)))) | quiet_step ((first | (go_at_call 26; exact Calls.regrown_of (iModulusOk_v _ rfl)))))); refine wpQuiet_nil ?_; intro w9 hw; have hb9 := below_of_regrown hw; clear hw; have hz9 := hb9.size; have kk19 := keep hb9 kk13; have kk20 := keep hb9 kk14; have kk21 := keep hb9 kk15; have kk22 := keep hb9 kk16; have kk23 := keep hb9 kk17; have kk24 := keep hb9 kk18; clear kk13 kk14 kk15 kk16 kk17 kk18 rkk13 rkk14 rkk15 rkk16 rkk17 rkk18)
        go_wp2_with fail
        go_returns
        exact ⟨rfl, by (repeat' (first | (with_reducible exact Below.refl _ _) | (with_reducible refine Below.alloc ?_ ?_ _) | (with_reducible refine Below.drew ?_) | (with_reducible refine Below.setCell ?_ ?_ _) | (with_reducible refine Below.trans ?_ (Below.mono (by assumption) ?_)) | go_size))⟩
      cases h1 : mdO c d
      · clear hc2 hc3
        go_wp2_with fail
        (refine wp_name ?_; intro w8 hb8; have hz8 := hb8.size; (repeat (first | rw [World.size_alloc] at hz8 | rw [World.size_setCell] at hz8 | rw [World.size_drew] at hz8)); have pp := C2.K hb8 (b := w1.heap.size) (x := _) (y := _) (by (repeat (first | ((with_reducible apply C2.mk) <;> (with_reducible assumption)) | (with_reducible apply C2.Z) | (with_reducible apply C2.O) | ((with_reducible apply C2.B); (focus (simp; done))) | (with_reducible apply C2.A) | (with_reducible apply C2.D) | ((with_reducible apply C2.S); focus ((repeat (first | rw [World.size_alloc] | rw [World.size_setCell] | rw [World.size_drew])); omega)) | ((with_reducible apply C2.K); (focus (with_reducible assumption)))))); obtain ⟨kk25, kk26⟩ := pp; have rkk25 := cell_regrown kk25; have rkk26 := cell_regrown kk26; have pp := C2.K hb8 (b := w5.heap.size) (x := _) (y := _) (by (repeat (first | ((with_reducible apply C2.mk) <;> (with_reducible assumption)) | (with_reducible apply C2.Z) | (with_reducible apply C2.O) | ((with_reducible apply C2.B); (focus (simp; done))) | (with_reducible apply C2.A) | (with_reducible apply C2.D) | ((with_reducible apply C2.S); focus ((repeat (first | rw [World.size_alloc] | rw [World.size_setCell] | rw [World.size_drew])); omega)) | ((with_reducible apply C2.K); (focus (with_reducible assumption)))))); obtain ⟨kk27, kk28⟩ := pp; have rkk27 := cell_regrown kk27; have rkk28 := cell_regrown kk28; have pp := C2.K hb8 (b := w6.heap.size) (x := _) (y := _) (by (repeat (first | ((with_reducible apply C2.mk) <;> (with_reducible assumption)) | (with_reducible apply C2.Z) | (with_reducible apply C2.O) | ((with_reducible apply C2.B); (focus (simp; done))) | (with_reducible apply C2.A) | (with_reducible apply C2.D) | ((with_reducible apply C2.S); focus ((repeat (first | rw [World.size_alloc] | rw [World.size_setCell] | rw [World.size_drew])); omega)) | ((with_reducible apply C2.K); (focus (with_reducible assumption)))))); obtain ⟨kk29, kk30⟩ := pp; have rkk29 := cell_regrown kk29; have rkk30 := cell_regrown kk30; (try clear kk19 kk20 kk21 kk22 kk23 kk24); refine wp_region_quiet_below (by kernel_rfl) (by kernel_rfl) ?_; (repeat (first | go_big_quiet_step ((first | (go_at_call 26; exact Calls.regrown_of (iModulusOk_v _ h1)))) | quiet_step ((first | (go_at_call 26; exact Calls.regrown_of (iModulusOk_v _ h1)))))); refine wpQuiet_nil ?_; intro w9 hw; have hb9 := below_of_regrown hw; clear hw; have hz9 := hb9.size; have kk31 := keep hb9 kk25; have kk32 := keep hb9 kk26; have kk33 := keep hb9 kk27; have kk34 := keep hb9 kk28; have kk35 := keep hb9 kk29; have kk36 := keep hb9 kk30; clear kk25 kk26 kk27 kk28 kk29 kk30 rkk25 rkk26 rkk27 rkk28 rkk29 rkk30)
        go_wp2_with fail
        go_returns
        exact ⟨rfl, by (repeat' (first | (with_reducible exact Below.refl _ _) | (with_reducible refine Below.alloc ?_ ?_ _) | (with_reducible refine Below.drew ?_) | (with_reducible refine Below.setCell ?_ ?_ _) | (with_reducible refine Below.trans ?_ (Below.mono (by assumption) ?_)) | go_size))⟩
      cases h2 : mdO p q
      · clear hc2 hc3
        go_wp2_with fail
        (refine wp_name ?_; intro w8 hb8; have hz8 := hb8.size; (repeat (first | rw [World.size_alloc] at hz8 | rw [World.size_setCell] at hz8 | rw [World.size_drew] at hz8)); have pp := C2.K hb8 (b := w1.heap.size) (x := _) (y := _) (by (repeat (first | ((with_reducible apply C2.mk) <;> (with_reducible assumption)) | (with_reducible apply C2.Z) | (with_reducible apply C2.O) | ((with_reducible apply C2.B); (focus (simp; done))) | (with_reducible apply C2.A) | (with_reducible apply C2.D) | ((with_reducible apply C2.S); focus ((repeat (first | rw [World.size_alloc] | rw [World.size_setCell] | rw [World.size_drew])); omega)) | ((with_reducible apply C2.K); (focus (with_reducible assumption)))))); obtain ⟨kk37, kk38⟩ := pp; have rkk37 := cell_regrown kk37; have rkk38 := cell_regrown kk38; have pp := C2.K hb8 (b := w5.heap.size) (x := _) (y := _) (by (repeat (first | ((with_reducible apply C2.mk) <;> (with_reducible assumption)) | (with_reducible apply C2.Z) | (with_reducible apply C2.O) | ((with_reducible apply C2.B); (focus (simp; done))) | (with_reducible apply C2.A) | (with_reducible apply C2.D) | ((with_reducible apply C2.S); focus ((repeat (first | rw [World.size_alloc] | rw [World.size_setCell] | rw [World.size_drew])); omega)) | ((with_reducible apply C2.K); (focus (with_reducible assumption)))))); obtain ⟨kk39, kk40⟩ := pp; have rkk39 := cell_regrown kk39; have rkk40 := cell_regrown kk40; have pp := C2.K hb8 (b := w6.heap.size) (x := _) (y := _) (by (repeat (first | ((with_reducible apply C2.mk) <;> (with_reducible assumption)) | (with_reducible apply C2.Z) | (with_reducible apply C2.O) | ((with_reducible apply C2.B); (focus (simp; done))) | (with_reducible apply C2.A) | (with_reducible apply C2.D) | ((with_reducible apply C2.S); focus ((repeat (first | rw [World.size_alloc] | rw [World.size_setCell] | rw [World.size_drew])); omega)) | ((with_reducible apply C2.K); (focus (with_reducible assumption)))))); obtain ⟨kk41, kk42⟩ := pp; have rkk41 := cell_regrown kk41; have rkk42 := cell_regrown kk42; (try clear kk31 kk32 kk33 kk34 kk35 kk36); refine wp_region_quiet_below (by kernel_rfl) (by kernel_rfl) ?_; (repeat (first | go_big_quiet_step ((first | (go_at_call 26; exact Calls.regrown_of (iModulusOk_v _ (by first | exact h1 | exact h2))))) | quiet_step ((first | (go_at_call 26; exact Calls.regrown_of (iModulusOk_v _ (by first | exact h1 | exact h2))))))); refine wpQuiet_nil ?_; intro w9 hw; have hb9 := below_of_regrown hw; clear hw; have hz9 := hb9.size; have kk43 := keep hb9 kk37; have kk44 := keep hb9 kk38; have kk45 := keep hb9 kk39; have kk46 := keep hb9 kk40; have kk47 := keep hb9 kk41; have kk48 := keep hb9 kk42; clear kk37 kk38 kk39 kk40 kk41 kk42 rkk37 rkk38 rkk39 rkk40 rkk41 rkk42)
        go_wp2_with fail
        go_returns
        exact ⟨rfl, by (repeat' (first | (with_reducible exact Below.refl _ _) | (with_reducible refine Below.alloc ?_ ?_ _) | (with_reducible refine Below.drew ?_) | (with_reducible refine Below.setCell ?_ ?_ _) | (with_reducible refine Below.trans ?_ (Below.mono (by assumption) ?_)) | go_size))⟩
      cases h3 : apO e f c d
      · clear hc2 hc3
        go_wp2_with fail
        (refine wp_name ?_; intro w8 hb8; have hz8 := hb8.size; (repeat (first | rw [World.size_alloc] at hz8 | rw [World.size_setCell] at hz8 | rw [World.size_drew] at hz8)); have pp := C2.K hb8 (b := w1.heap.size) (x := _) (y := _) (by (repeat (first | ((with_reducible apply C2.mk) <;> (with_reducible assumption)) | (with_reducible apply C2.Z) | (with_reducible apply C2.O) | ((with_reducible apply C2.B); (focus (simp; done))) | (with_reducible apply C2.A) | (with_reducible apply C2.D) | ((with_reducible apply C2.S); focus ((repeat (first | rw [World.size_alloc] | rw [World.size_setCell] | rw [World.size_drew])); omega)) | ((with_reducible apply C2.K); (focus (with_reducible assumption)))))); obtain ⟨kk49, kk50⟩ := pp; have rkk49 := cell_regrown kk49; have rkk50 := cell_regrown kk50; have pp := C2.K hb8 (b := w5.heap.size) (x := _) (y := _) (by (repeat (first | ((with_reducible apply C2.mk) <;> (with_reducible assumption)) | (with_reducible apply C2.Z) | (with_reducible apply C2.O) | ((with_reducible apply C2.B); (focus (simp; done))) | (with_reducible apply C2.A) | (with_reducible apply C2.D) | ((with_reducible apply C2.S); focus ((repeat (first | rw [World.size_alloc] | rw [World.size_setCell] | rw [World.size_drew])); omega)) | ((with_reducible apply C2.K); (focus (with_reducible assumption)))))); obtain ⟨kk51, kk52⟩ := pp; have rkk51 := cell_regrown kk51; have rkk52 := cell_regrown kk52; have pp := C2.K hb8 (b := w6.heap.size) (x := _) (y := _) (by (repeat (first | ((with_reducible apply C2.mk) <;> (with_reducible assumption)) | (with_reducible apply C2.Z) | (with_reducible apply C2.O) | ((with_reducible apply C2.B); (focus (simp; done))) | (with_reducible apply C2.A) | (with_reducible apply C2.D) | ((with_reducible apply C2.S); focus ((repeat (first | rw [World.size_alloc] | rw [World.size_setCell] | rw [World.size_drew])); omega)) | ((with_reducible apply C2.K); (focus (with_reducible assumption)))))); obtain ⟨kk53, kk54⟩ := pp; have rkk53 := cell_regrown kk53; have rkk54 := cell_regrown kk54; (try clear kk43 kk44 kk45 kk46 kk47 kk48); refine wp_region_quiet_below (by kernel_rfl) (by kernel_rfl) ?_; (repeat (first | go_big_quiet_step ((first | (go_at_call 26; exact Calls.regrown_of (iModulusOk_v _ (by first | exact h1 | exact h2))) | (go_at_call 18; exact Calls.regrown_of (iApartOk_v _ h3)))) | quiet_step ((first | (go_at_call 26; exact Calls.regrown_of (iModulusOk_v _ (by first | exact h1 | exact h2))) | (go_at_call 18; exact Calls.regrown_of (iApartOk_v _ h3)))))); refine wpQuiet_nil ?_; intro w9 hw; have hb9 := below_of_regrown hw; clear hw; have hz9 := hb9.size; have kk55 := keep hb9 kk49; have kk56 := keep hb9 kk50; have kk57 := keep hb9 kk51; have kk58 := keep hb9 kk52; have kk59 := keep hb9 kk53; have kk60 := keep hb9 kk54; clear kk49 kk50 kk51 kk52 kk53 kk54 rkk49 rkk50 rkk51 rkk52 rkk53 rkk54)
        go_wp2_with fail
        go_returns
        exact ⟨rfl, by (repeat' (first | (with_reducible exact Below.refl _ _) | (with_reducible refine Below.alloc ?_ ?_ _) | (with_reducible refine Below.drew ?_) | (with_reducible refine Below.setCell ?_ ?_ _) | (with_reducible refine Below.trans ?_ (Below.mono (by assumption) ?_)) | go_size))⟩
      have hml := ca_mul HC.out hc2 hc3 HD.out h1 h2 HT.out h3
      have hmb := mul_bd4 (x := n) (c := m2) (k := 100) (m := 100) (by omega) (by omega) (by omega) (by omega)
      have hw : IntKind.i64.wrap (n * m2) = m3 := by rw [hml]; exact IntWalk.i64_in _ (by omega)
      clear hml hmb
      go_wp2_with fail
      (refine wp_name ?_; intro w8 hb8; have hz8 := hb8.size; (repeat (first | rw [World.size_alloc] at hz8 | rw [World.size_setCell] at hz8 | rw [World.size_drew] at hz8)); have pp := C2.K hb8 (b := w1.heap.size) (x := _) (y := _) (by (repeat (first | ((with_reducible apply C2.mk) <;> (with_reducible assumption)) | (with_reducible apply C2.Z) | (with_reducible apply C2.O) | ((with_reducible apply C2.B); (focus (simp; done))) | (with_reducible apply C2.A) | (with_reducible apply C2.D) | ((with_reducible apply C2.S); focus ((repeat (first | rw [World.size_alloc] | rw [World.size_setCell] | rw [World.size_drew])); omega)) | ((with_reducible apply C2.K); (focus (with_reducible assumption)))))); obtain ⟨kk61, kk62⟩ := pp; have rkk61 := cell_regrown kk61; have rkk62 := cell_regrown kk62; have pp := C2.K hb8 (b := w5.heap.size) (x := _) (y := _) (by (repeat (first | ((with_reducible apply C2.mk) <;> (with_reducible assumption)) | (with_reducible apply C2.Z) | (with_reducible apply C2.O) | ((with_reducible apply C2.B); (focus (simp; done))) | (with_reducible apply C2.A) | (with_reducible apply C2.D) | ((with_reducible apply C2.S); focus ((repeat (first | rw [World.size_alloc] | rw [World.size_setCell] | rw [World.size_drew])); omega)) | ((with_reducible apply C2.K); (focus (with_reducible assumption)))))); obtain ⟨kk63, kk64⟩ := pp; have rkk63 := cell_regrown kk63; have rkk64 := cell_regrown kk64; have pp := C2.K hb8 (b := w6.heap.size) (x := _) (y := _) (by (repeat (first | ((with_reducible apply C2.mk) <;> (with_reducible assumption)) | (with_reducible apply C2.Z) | (with_reducible apply C2.O) | ((with_reducible apply C2.B); (focus (simp; done))) | (with_reducible apply C2.A) | (with_reducible apply C2.D) | ((with_reducible apply C2.S); focus ((repeat (first | rw [World.size_alloc] | rw [World.size_setCell] | rw [World.size_drew])); omega)) | ((with_reducible apply C2.K); (focus (with_reducible assumption)))))); obtain ⟨kk65, kk66⟩ := pp; have rkk65 := cell_regrown kk65; have rkk66 := cell_regrown kk66; (try clear kk55 kk56 kk57 kk58 kk59 kk60); refine wp_region_quiet_below (by kernel_rfl) (by kernel_rfl) ?_; (repeat (first | go_big_quiet_step ((first | (go_at_call 26; exact Calls.regrown_of (iModulusOk_v _ (by first | exact h1 | exact h2))) | (go_at_call 18; exact Calls.regrown_of (iApartOk_v _ h3)) | (go_at_call 16; exact Calls.regrown_of (iCountApart_v _ (by first | exact hc2 | exact hc3))))) | quiet_step ((first | (go_at_call 26; exact Calls.regrown_of (iModulusOk_v _ (by first | exact h1 | exact h2))) | (go_at_call 18; exact Calls.regrown_of (iApartOk_v _ h3)) | (go_at_call 16; exact Calls.regrown_of (iCountApart_v _ (by first | exact hc2 | exact hc3))))))); refine wpQuiet_nil ?_; intro w9 hw; have hb9 := below_of_regrown hw; clear hw; have hz9 := hb9.size; have kk67 := keep hb9 kk61; have kk68 := keep hb9 kk62; have kk69 := keep hb9 kk63; have kk70 := keep hb9 kk64; have kk71 := keep hb9 kk65; have kk72 := keep hb9 kk66; clear kk61 kk62 kk63 kk64 kk65 kk66 rkk61 rkk62 rkk63 rkk64 rkk65 rkk66)
      go_wp2_with fail
      go_returns
      exact ⟨by simp, by (repeat' (first | (with_reducible exact Below.refl _ _) | (with_reducible refine Below.alloc ?_ ?_ _) | (with_reducible refine Below.drew ?_) | (with_reducible refine Below.setCell ?_ ?_ _) | (with_reducible refine Below.trans ?_ (Below.mono (by assumption) ?_)) | go_size))⟩
end Go.Proofs.Ytahnkecdningnaa
