import Derived.Test.YtidmmbagacelmaaPc
import Derived.Test.YtidmmbagacelmaaPl
import Derived.Test.YtidmmbagacelmaaPd
import Derived.Test.YtidmmbagacelmaaYs
import Derived.BigRegion
namespace Go.Proofs.Ytidmmbagacelmaa
open Go Go.RowKit
attribute [local go_sem] World.cell?_alloc_some cell?_alloc2_some cell?_alloc3_some cell?_alloc4_some frozen?_alloc_some frozen?_alloc2_some frozen?_alloc3_some World.cell?_setCell_far new_ne0 new_ne1 new_ne2 new_ne3 lt2 lt3 lt4 lt5 lt6 lt7 lt8 lt9
attribute [local go_sem ↓] eqG neG
attribute [local go_sem] cell?_alloc_lt frozen?_alloc_lt lt10

set_option maxRecDepth 100000 in
set_option maxHeartbeats 16000000 in
theorem walkFnRestsOf (a0 : Option Addr) (len cap : Nat) (zs : List Int) (w : World) (h : IsRow .u8 w a0 len cap zs) :
    Calls Try.prog 6 #[.slice a0 len cap] w fun e w' => e = .returned (.bool true) ∧ Below w.heap.size w w' := by
  by_cases hl : 1048576 < len
  · clear h
    go_enter Try.func6, Try.ntmps6
    go_wp2_with fail
    go_returns
    exact ⟨rfl, by (repeat' (first | (with_reducible exact Below.refl _ _) | (with_reducible refine Below.alloc ?_ ?_ _) | (with_reducible refine Below.drew ?_) | (with_reducible refine Below.setCell ?_ ?_ _) | (with_reducible refine Below.trans ?_ (Below.mono (by assumption) ?_)) | go_size))⟩
  have H := Lib.hid h
  clear h
  go_enter Try.func6, Try.ntmps6
  go_wp2_with fail
  (refine (drawRestsOf a0 len cap zs _ H.out).mono ?_; rintro e w1 ⟨e, f, rfl, hmd, hb1⟩; have hz1 := hb1.size; (repeat (first | rw [World.size_alloc] at hz1 | rw [World.size_setCell] at hz1 | rw [World.size_drew] at hz1)))
  clear hmd
  go_wp2_with fail
  have hpl := rtL_bd e f
  have hno := rtL_no (a := e) (b := f)
  have hlen := rtL_len (a := e) (b := f)
  have hnext := fun h k x y p q => rtL_next (a := e) (b := f) (x := x) (y := y) (p := p) (q := q) (k := k) h
  have hhalf := fun h k x y => rtL_half (a := e) (b := f) (x := x) (y := y) (k := k) h
  have hS := sRestsOf e f
  have hI := iRestsOf e f
  obtain ⟨L, hL⟩ : ∃ L, rtL e f = L := ⟨_, rfl⟩
  rw [hL] at hpl hno hlen hnext hhalf
  simp only [hL] at hS hI
  clear hL
  (refine (hI _).mono ?_; rintro e w2 ⟨v1, rfl, g1, hb2⟩; have hz2 := hb2.size; (repeat (first | rw [World.size_alloc] at hz2 | rw [World.size_setCell] at hz2 | rw [World.size_drew] at hz2)); have pp := C2.K hb2 (b := w1.heap.size) (x := _) (y := _) (by (repeat (first | ((with_reducible apply C2.mk) <;> (with_reducible assumption)) | (with_reducible apply C2.Z) | (with_reducible apply C2.O) | ((with_reducible apply C2.B); (focus (simp; done))) | (with_reducible apply C2.A) | (with_reducible apply C2.D) | ((with_reducible apply C2.S); focus ((repeat (first | rw [World.size_alloc] | rw [World.size_setCell] | rw [World.size_drew])); omega)) | ((with_reducible apply C2.K); (focus (with_reducible assumption)))))); obtain ⟨kk1, kk2⟩ := pp)
  go_wp2_with fail
  (refine (hS _).mono ?_; rintro e w3 ⟨v2, rfl, g2, hb3⟩; have hz3 := hb3.size; (repeat (first | rw [World.size_alloc] at hz3 | rw [World.size_setCell] at hz3 | rw [World.size_drew] at hz3)); have pp := C2.K hb3 (b := w1.heap.size) (x := _) (y := _) (by (repeat (first | ((with_reducible apply C2.mk) <;> (with_reducible assumption)) | (with_reducible apply C2.Z) | (with_reducible apply C2.O) | ((with_reducible apply C2.B); (focus (simp; done))) | (with_reducible apply C2.A) | (with_reducible apply C2.D) | ((with_reducible apply C2.S); focus ((repeat (first | rw [World.size_alloc] | rw [World.size_setCell] | rw [World.size_drew])); omega)) | ((with_reducible apply C2.K); (focus (with_reducible assumption)))))); obtain ⟨kk3, kk4⟩ := pp; (try clear kk1 kk2))
  have k1 := g1.below hb3
  clear g1 hI hS
  go_wp2_with fail
  (refine (sameGauss _ _ _ _ L _ k1 g2 (by omega)).mono ?_; rintro e w4 ⟨rfl, hb4⟩; have hz4 := hb4.size; (repeat (first | rw [World.size_alloc] at hz4 | rw [World.size_setCell] at hz4 | rw [World.size_drew] at hz4)); have pp := C2.K hb4 (b := w1.heap.size) (x := _) (y := _) (by (repeat (first | ((with_reducible apply C2.mk) <;> (with_reducible assumption)) | (with_reducible apply C2.Z) | (with_reducible apply C2.O) | ((with_reducible apply C2.B); (focus (simp; done))) | (with_reducible apply C2.A) | (with_reducible apply C2.D) | ((with_reducible apply C2.S); focus ((repeat (first | rw [World.size_alloc] | rw [World.size_setCell] | rw [World.size_drew])); omega)) | ((with_reducible apply C2.K); (focus (with_reducible assumption)))))); obtain ⟨kk5, kk6⟩ := pp; (try clear kk3 kk4))
  have m1 := k1.below hb4
  clear k1 g2
  have B4 : Below w.heap.size w w4 := by (repeat' (first | (with_reducible exact Below.refl _ _) | (with_reducible refine Below.alloc ?_ ?_ _) | (with_reducible refine Below.drew ?_) | (with_reducible refine Below.setCell ?_ ?_ _) | (with_reducible refine Below.trans ?_ (Below.mono (by assumption) ?_)) | go_size))
  have hZ : C2 w4 w1.heap.size (.int .i64 e) (.int .i64 f) := by (repeat (first | ((with_reducible apply C2.mk) <;> (with_reducible assumption)) | (with_reducible apply C2.Z) | (with_reducible apply C2.O) | ((with_reducible apply C2.B); (focus (simp; done))) | (with_reducible apply C2.A) | (with_reducible apply C2.D) | ((with_reducible apply C2.S); focus ((repeat (first | rw [World.size_alloc] | rw [World.size_setCell] | rw [World.size_drew])); omega)) | ((with_reducible apply C2.K); (focus (with_reducible assumption)))))
  obtain ⟨z0, z1⟩ := hZ
  obtain ⟨a, cap', rfl, ha⟩ := m1.form
  obtain ⟨n, hn⟩ : ∃ n, L.length = n := ⟨_, rfl⟩
  rw [hn] at hpl ⊢
  cases hm : mdO e f
  · obtain rfl : n = 0 := by rw [← hn, hno hm]; rfl
    clear hno hlen hnext hhalf ha
    go_wp2_with fail
    (refine (iModulusOk_v _ hm).mono ?_; rintro e w5 ⟨rfl, hb5⟩; have hz5 := hb5.size; (repeat (first | rw [World.size_alloc] at hz5 | rw [World.size_setCell] at hz5 | rw [World.size_drew] at hz5)); (try clear kk5 kk6))
    go_wp2_with fail
    (refine (alive _).mono ?_; rintro e w6 ⟨rfl, hb6⟩; have hz6 := hb6.size; (repeat (first | rw [World.size_alloc] at hz6 | rw [World.size_setCell] at hz6 | rw [World.size_drew] at hz6)))
    go_wp2_with fail
    go_returns
    exact ⟨rfl, (B4.trans (hb5.mono B4.size)).trans (hb6.mono (by have := B4.size; have := hb5.size; omega))⟩
  have hN0 := hlen hm
  have hnext := hnext hm
  have hhalf := hhalf hm
  obtain ⟨N, hN⟩ : ∃ N, nrm e f = N := ⟨_, rfl⟩
  have hN1 : 1 ≤ N := by
    have := (md_is hm).2.1
    rw [nrm_t (md_is hm).1] at hN
    omega
  rw [hN] at hN0
  simp only [hN] at hhalf
  rw [hn] at hN0
  have hne : L ≠ [] := by rintro rfl; simp at hn; omega
  obtain ⟨g, rfl, hg1, hg2, hA, -⟩ := ha hne
  have hnn : ((n : Int) == 0) = false := by simp; omega
  have hend : ((n : Int) == N) = true := by rw [beq_iff_eq]; exact hN0
  have HN0 := Lib.hid hN0
  clear ha hno hlen m1 hN0
  go_wp2_with fail
  go_loopw [5] (fun u wr => ∃ k : Nat, u = .int .i64 (k : Int) ∧ k ≤ n ∧ Below w4.heap.size w4 wr) (fun u _ => n - (intOf u).toNat)
  case atStart => exact ⟨0, rfl, Nat.zero_le _, Below.refl _ _⟩
  case round =>
    obtain ⟨k, rfl, hk, hb⟩ := hrel
    have hsb := hb.size
    have y0 := keep hb z0
    have y1 := keep hb z1
    by_cases hlt : k < n
    · obtain ⟨⟨x, y⟩, hxy⟩ : ∃ q, L[k]? = some q := ⟨_, List.getElem?_eq_getElem (by omega)⟩
      obtain ⟨hn1, hn2, hn3⟩ := hhalf _ _ _ hxy
      obtain ⟨n1, hn1'⟩ : ∃ m, nrm x y = m := ⟨_, rfl⟩
      rw [hn1'] at hn1 hn2 hn3
      have hw1 : IntKind.i64.wrap (2 * n1) = 2 * n1 := IntWalk.i64_in _ (by omega)
      have hdn : decide (N < 2 * n1) = false := decide_eq_false (by omega)
      obtain ⟨c0, c1⟩ := hA k x y hxy
      have l0 := keep hb c0
      have l1 := keep hb c1
      by_cases hk0 : k = 0
      · subst hk0
        have hd : decide (0 < (n : Int)) = true := decide_eq_true (by omega)
        clear c0 c1 hA hnext hhalf hxy
        go_wp2_with fail
        refine wp_name ?_
        intro wA hbwA
        have l0_a := keep hbwA l0
        have l0_r := cell_regrown l0_a
        have l1_a := keep hbwA l1
        have l1_r := cell_regrown l1_a
        have y0_a := keep hbwA y0
        have y0_r := cell_regrown y0_a
        have y1_a := keep hbwA y1
        have y1_r := cell_regrown y1_a
        clear l0 l1 y0 y1
        refine wp_region_quiet_below (by kernel_rfl) (by kernel_rfl) ?_
        (repeat (first | go_big_quiet_step ((first | (go_at_call 34; exact Calls.regrown_of (iNormOf_v _ (by first | exact hn1' | exact hN))))) | quiet_step ((first | (go_at_call 34; exact Calls.regrown_of (iNormOf_v _ (by first | exact hn1' | exact hN)))))))
        refine wpQuiet_nil ?_
        intro wB hwwB
        have hbwB := below_of_regrown hwwB
        clear hwwB
        have l0 := keep hbwB l0_a
        have l1 := keep hbwB l1_a
        have y0 := keep hbwB y0_a
        have y1 := keep hbwB y1_a
        clear l0_a l0_r l1_a l1_r y0_a y0_r y1_a y1_r
        go_wp2_with fail
        refine wp_name ?_
        intro wC hbwC
        have l0_a := keep hbwC l0
        have l0_r := cell_regrown l0_a
        have l1_a := keep hbwC l1
        have l1_r := cell_regrown l1_a
        have y0_a := keep hbwC y0
        have y0_r := cell_regrown y0_a
        have y1_a := keep hbwC y1
        have y1_r := cell_regrown y1_a
        clear l0 l1 y0 y1
        refine wp_region_quiet_below (by kernel_rfl) (by kernel_rfl) ?_
        (repeat (first | go_big_quiet_step (fail) | quiet_step (fail)))
        refine wpQuiet_nil ?_
        intro wD hwwD
        have hbwD := below_of_regrown hwwD
        clear hwwD
        have l0 := keep hbwD l0_a
        have l1 := keep hbwD l1_a
        have y0 := keep hbwD y0_a
        have y1 := keep hbwD y1_a
        clear l0_a l0_r l1_a l1_r y0_a y0_r y1_a y1_r
        have hbD : Below w4.heap.size w4 wD := (((hb.trans (hbwA.mono hsb)).trans (hbwB.mono (by have := hbwA.size; omega))).trans (hbwC.mono (by have := hbwA.size; have := hbwB.size; omega))).trans (hbwD.mono (by have := hbwA.size; have := hbwB.size; have := hbwC.size; omega))
        go_wp2_with fail
        go_roundw
        case rel => exact ⟨1, by simp, by omega, hbD⟩
        case measure => simp [intOf]; omega
      · obtain ⟨i, rfl⟩ : ∃ i, k = i + 1 := ⟨k - 1, by omega⟩
        obtain ⟨⟨p, q⟩, hpq⟩ : ∃ q, L[i]? = some q := ⟨_, List.getElem?_eq_getElem (by omega)⟩
        obtain ⟨hs, hltp⟩ := hnext _ _ _ _ _ hpq hxy
        obtain ⟨c2, c3⟩ := hA i p q hpq
        have l2 := keep hb c2
        have l3 := keep hb c3
        have hd : decide ((i : Int) + 1 < (n : Int)) = true := decide_eq_true (by omega)
        have hdp : decide ((0 : Int) < (i : Int) + 1) = true := decide_eq_true (by omega)
        have hdA : decide (x < p) = false := decide_eq_false (by omega)
        clear c0 c1 c2 c3 hA hnext hhalf hxy hpq
        go_wp2_with fail
        refine wp_name ?_
        intro wA hbwA
        have l0_a := keep hbwA l0
        have l0_r := cell_regrown l0_a
        have l1_a := keep hbwA l1
        have l1_r := cell_regrown l1_a
        have l2_a := keep hbwA l2
        have l2_r := cell_regrown l2_a
        have l3_a := keep hbwA l3
        have l3_r := cell_regrown l3_a
        have y0_a := keep hbwA y0
        have y0_r := cell_regrown y0_a
        have y1_a := keep hbwA y1
        have y1_r := cell_regrown y1_a
        clear l0 l1 l2 l3 y0 y1
        refine wp_region_quiet_below (by kernel_rfl) (by kernel_rfl) ?_
        (repeat (first | go_big_quiet_step ((first | (go_at_call 19; exact Calls.regrown_of (iSameOk_v _ hs)) | (go_at_call 34; exact Calls.regrown_of (iNormOf_v _ (by first | exact hn1' | exact hN))))) | quiet_step ((first | (go_at_call 19; exact Calls.regrown_of (iSameOk_v _ hs)) | (go_at_call 34; exact Calls.regrown_of (iNormOf_v _ (by first | exact hn1' | exact hN)))))))
        refine wpQuiet_nil ?_
        intro wB hwwB
        have hbwB := below_of_regrown hwwB
        clear hwwB
        have l0 := keep hbwB l0_a
        have l1 := keep hbwB l1_a
        have l2 := keep hbwB l2_a
        have l3 := keep hbwB l3_a
        have y0 := keep hbwB y0_a
        have y1 := keep hbwB y1_a
        clear l0_a l0_r l1_a l1_r l2_a l2_r l3_a l3_r y0_a y0_r y1_a y1_r
        go_wp2_with fail
        by_cases hxp : x = p
        · have hxe : (x == p) = true := by rw [beq_iff_eq]; exact hxp
          have hdB : decide (y ≤ q) = false := decide_eq_false (by omega)
          clear hxp hltp
          refine wp_name ?_
          intro wC hbwC
          have l0_a := keep hbwC l0
          have l0_r := cell_regrown l0_a
          have l1_a := keep hbwC l1
          have l1_r := cell_regrown l1_a
          have l2_a := keep hbwC l2
          have l2_r := cell_regrown l2_a
          have l3_a := keep hbwC l3
          have l3_r := cell_regrown l3_a
          have y0_a := keep hbwC y0
          have y0_r := cell_regrown y0_a
          have y1_a := keep hbwC y1
          have y1_r := cell_regrown y1_a
          clear l0 l1 l2 l3 y0 y1
          refine wp_region_quiet_below (by kernel_rfl) (by kernel_rfl) ?_
          (repeat (first | go_big_quiet_step (fail) | quiet_step (fail)))
          refine wpQuiet_nil ?_
          intro wD hwwD
          have hbwD := below_of_regrown hwwD
          clear hwwD
          have l0 := keep hbwD l0_a
          have l1 := keep hbwD l1_a
          have l2 := keep hbwD l2_a
          have l3 := keep hbwD l3_a
          have y0 := keep hbwD y0_a
          have y1 := keep hbwD y1_a
          clear l0_a l0_r l1_a l1_r l2_a l2_r l3_a l3_r y0_a y0_r y1_a y1_r
          have hbD : Below w4.heap.size w4 wD := (((hb.trans (hbwA.mono hsb)).trans (hbwB.mono (by have := hbwA.size; omega))).trans (hbwC.mono (by have := hbwA.size; have := hbwB.size; omega))).trans (hbwD.mono (by have := hbwA.size; have := hbwB.size; have := hbwC.size; omega))
          go_wp2_with fail
          go_roundw
          case rel => exact ⟨i + 1 + 1, by simp, by omega, hbD⟩
          case measure => simp [intOf]; omega
        · have hxe : (x == p) = false := by rw [beq_eq_false_iff_ne]; exact hxp
          clear hxp hltp
          refine wp_name ?_
          intro wC hbwC
          have l0_a := keep hbwC l0
          have l0_r := cell_regrown l0_a
          have l1_a := keep hbwC l1
          have l1_r := cell_regrown l1_a
          have l2_a := keep hbwC l2
          have l2_r := cell_regrown l2_a
          have l3_a := keep hbwC l3
          have l3_r := cell_regrown l3_a
          have y0_a := keep hbwC y0
          have y0_r := cell_regrown y0_a
          have y1_a := keep hbwC y1
          have y1_r := cell_regrown y1_a
          clear l0 l1 l2 l3 y0 y1
          refine wp_region_quiet_below (by kernel_rfl) (by kernel_rfl) ?_
          (repeat (first | go_big_quiet_step (fail) | quiet_step (fail)))
          refine wpQuiet_nil ?_
          intro wD hwwD
          have hbwD := below_of_regrown hwwD
          clear hwwD
          have l0 := keep hbwD l0_a
          have l1 := keep hbwD l1_a
          have l2 := keep hbwD l2_a
          have l3 := keep hbwD l3_a
          have y0 := keep hbwD y0_a
          have y1 := keep hbwD y1_a
          clear l0_a l0_r l1_a l1_r l2_a l2_r l3_a l3_r y0_a y0_r y1_a y1_r
          have hbD : Below w4.heap.size w4 wD := (((hb.trans (hbwA.mono hsb)).trans (hbwB.mono (by have := hbwA.size; omega))).trans (hbwC.mono (by have := hbwA.size; have := hbwB.size; omega))).trans (hbwD.mono (by have := hbwA.size; have := hbwB.size; have := hbwC.size; omega))
          go_wp2_with fail
          go_roundw
          case rel => exact ⟨i + 1 + 1, by simp, by omega, hbD⟩
          case measure => simp [intOf]; omega
    · have hd : decide ((k : Int) < (n : Int)) = false := decide_eq_false (by omega)
      clear hA hnext hhalf
      go_wp2_with fail
      (refine (iNormOf_v _ hN).mono ?_; rintro e w9 ⟨rfl, hb9⟩; have hz9 := hb9.size; (repeat (first | rw [World.size_alloc] at hz9 | rw [World.size_setCell] at hz9 | rw [World.size_drew] at hz9)))
      go_wp2_with fail
      go_returns
      exact ⟨by simp, (B4.trans (hb.mono B4.size)).trans (hb9.mono (by have := B4.size; omega))⟩
end Go.Proofs.Ytidmmbagacelmaa
