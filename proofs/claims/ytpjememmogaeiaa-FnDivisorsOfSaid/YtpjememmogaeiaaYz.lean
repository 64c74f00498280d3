import Derived.Test.YtpjememmogaeiaaYv
import Derived.Test.YtpjememmogaeiaaYs
import Derived.Test.YtpjememmogaeiaaHx
import Derived.Test.YtpjememmogaeiaaHv
import Derived.Test.YtpjememmogaeiaaJp
import Derived.Test.YtpjememmogaeiaaOs
import Derived.BigRegion
import Derived.Deep.RegionHeld3
import Derived.Deep.DeepCutAuto
namespace Go.Proofs.Ytpjememmogaeiaa
open Go Go.RowKit
attribute [local go_sem] World.cell?_alloc_some cell?_alloc2_some cell?_alloc3_some cell?_alloc4_some frozen?_alloc_some frozen?_alloc2_some frozen?_alloc3_some World.cell?_setCell_far new_ne0 new_ne1 new_ne2 new_ne3 lt2 lt3 lt4 lt5 lt6 lt7 lt8 lt9
attribute [local go_sem ↓] eqG neG
attribute [local go_sem] cell?_alloc_lt frozen?_alloc_lt lt10

/-- What is told of each divisor. -/
theorem Dvs.law {x y u v : Int} {L : List (Int × Int)} (h : Dvs x y L) (hz : ¬ (x = 0 ∧ y = 0)) (hm : (u, v) ∈ L) : gok u v = true ∧ fiA u v = u ∧ fiB u v = v ∧ vdO u v x y = true ∧ ∃ p q, exA x y u v = p ∧ exB x y u v = q ∧ gok p q = true ∧ (fiA p q, fiB p q) ∈ L := by
  obtain ⟨hq, hv⟩ := (h.mem_iff hz u v).1 hm
  obtain ⟨ku, kx, -, -, -⟩ := vd_nrm hv hz
  obtain ⟨f1, f2⟩ := fq_fi hq ku
  obtain ⟨e1, e2⟩ := vd_q hv
  have kq := q_gok hv
  exact ⟨ku, f1, f2, hv, _, _, by rw [exA, hv, if_pos rfl], by rw [exB, hv, if_pos rfl], kq, h.pair kx hz hm kq e1 e2⟩

set_option maxRecDepth 100000 in
set_option maxHeartbeats 16000000 in
theorem walkFnDivisorsOf (a0 : Option Addr) (len cap : Nat) (zs : List Int) (w : World) (h : IsRow .u8 w a0 len cap zs) :
    Calls Try.prog 6 #[.slice a0 len cap] w fun e w' => e = .returned (.bool true) ∧ Below w.heap.size w w' := by
  by_cases hl : 1048576 < len
  · clear h
    go_enter Try.func6, Try.ntmps6
    go_wp2_with fail
    go_returns
    exact ⟨rfl, by (repeat' (first | (with_reducible exact Below.refl _ _) | (with_reducible refine Below.alloc ?_ ?_ _) | (with_reducible refine Below.drew ?_) | (with_reducible refine Below.setCell ?_ ?_ _) | (with_reducible refine Below.trans ?_ (Below.mono (by assumption) ?_)) | go_size))⟩
  have H := Lib.hid h
  clear h
  go_enter Try.func6, Try.ntmps6
  go_wp2_with fail
  (refine (drawDivisorsOf a0 len cap zs _ H.out).mono ?_; rintro e w1 ⟨x, y, rfl, hb1⟩; have hz1 := hb1.size; (repeat (first | rw [World.size_alloc] at hz1 | rw [World.size_setCell] at hz1 | rw [World.size_drew] at hz1)))
  go_wp2_with fail
  have hpl := dvL_len x y
  obtain ⟨L, hL⟩ : ∃ L, dvL x y = L := ⟨_, rfl⟩
  have hS : ∀ W, Calls Try.prog 33 #[.agg #[.int .i64 x, .int .i64 y]] W fun e w' => ∃ v, e = .returned v ∧ GS w' W.heap.size v L ∧ Below W.heap.size W w' := fun W => by rw [← hL]; exact sDivisorsOf x y W
  have hI : ∀ W, Calls Try.prog 21 #[.agg #[.int .i64 x, .int .i64 y]] W fun e w' => ∃ v, e = .returned v ∧ GS w' W.heap.size v L ∧ Below W.heap.size W w' := fun W => by rw [← hL]; exact iDivisorsOf x y W
  have hdv : L ≠ [] → ¬ (x = 0 ∧ y = 0) ∧ gok x y = true ∧ Dvs x y L := fun hne => by
    by_cases h2 : nrm x y < 1 ∨ 2000 < nrm x y
    · exact absurd (hL ▸ dvL_no h2) hne
    · obtain ⟨k, -, -, h4, h5, -⟩ := dvL_yes (a := x) (b := y) (by omega) (by omega)
      exact ⟨h5, k, hL ▸ h4⟩
  rw [hL] at hpl
  clear hL
  (refine (hI _).mono ?_; rintro e w2 ⟨v1, rfl, g1, hb2⟩; have hz2 := hb2.size; (repeat (first | rw [World.size_alloc] at hz2 | rw [World.size_setCell] at hz2 | rw [World.size_drew] at hz2)); have pp := C2.K hb2 (b := w1.heap.size) (x := _) (y := _) (by (repeat (first | ((with_reducible apply C2.mk) <;> (with_reducible assumption)) | (with_reducible apply C2.Z) | (with_reducible apply C2.O) | ((with_reducible apply C2.B); (focus (simp; done))) | (with_reducible apply C2.A) | (with_reducible apply C2.D) | ((with_reducible apply C2.S); focus ((repeat (first | rw [World.size_alloc] | rw [World.size_setCell] | rw [World.size_drew])); omega)) | ((with_reducible apply C2.K); (focus (with_reducible assumption)))))); obtain ⟨kk1, kk2⟩ := pp)
  go_wp2_with fail
  (refine (hS _).mono ?_; rintro e w3 ⟨v2, rfl, g2, hb3⟩; have hz3 := hb3.size; (repeat (first | rw [World.size_alloc] at hz3 | rw [World.size_setCell] at hz3 | rw [World.size_drew] at hz3)); have pp := C2.K hb3 (b := w1.heap.size) (x := _) (y := _) (by (repeat (first | ((with_reducible apply C2.mk) <;> (with_reducible assumption)) | (with_reducible apply C2.Z) | (with_reducible apply C2.O) | ((with_reducible apply C2.B); (focus (simp; done))) | (with_reducible apply C2.A) | (with_reducible apply C2.D) | ((with_reducible apply C2.S); focus ((repeat (first | rw [World.size_alloc] | rw [World.size_setCell] | rw [World.size_drew])); omega)) | ((with_reducible apply C2.K); (focus (with_reducible assumption)))))); obtain ⟨kk3, kk4⟩ := pp; (try clear kk1 kk2))
  have k1 := g1.below hb3
  clear g1
  go_wp2_with fail
  (refine (sameGauss _ _ _ _ L _ k1 g2 (by omega)).mono ?_; rintro e w4 ⟨rfl, hb4⟩; have hz4 := hb4.size; (repeat (first | rw [World.size_alloc] at hz4 | rw [World.size_setCell] at hz4 | rw [World.size_drew] at hz4)); have pp := C2.K hb4 (b := w1.heap.size) (x := _) (y := _) (by (repeat (first | ((with_reducible apply C2.mk) <;> (with_reducible assumption)) | (with_reducible apply C2.Z) | (with_reducible apply C2.O) | ((with_reducible apply C2.B); (focus (simp; done))) | (with_reducible apply C2.A) | (with_reducible apply C2.D) | ((with_reducible apply C2.S); focus ((repeat (first | rw [World.size_alloc] | rw [World.size_setCell] | rw [World.size_drew])); omega)) | ((with_reducible apply C2.K); (focus (with_reducible assumption)))))); obtain ⟨kk5, kk6⟩ := pp; (try clear kk3 kk4))
  have m1 := k1.below hb4
  clear k1 g2
  have B4 : Below w.heap.size w w4 := by (repeat' (first | (with_reducible exact Below.refl _ _) | (with_reducible refine Below.alloc ?_ ?_ _) | (with_reducible refine Below.drew ?_) | (with_reducible refine Below.setCell ?_ ?_ _) | (with_reducible refine Below.trans ?_ (Below.mono (by assumption) ?_)) | go_size))
  have hZ : C2 w4 w1.heap.size (.int .i64 x) (.int .i64 y) := by (repeat (first | ((with_reducible apply C2.mk) <;> (with_reducible assumption)) | (with_reducible apply C2.Z) | (with_reducible apply C2.O) | ((with_reducible apply C2.B); (focus (simp; done))) | (with_reducible apply C2.A) | (with_reducible apply C2.D) | ((with_reducible apply C2.S); focus ((repeat (first | rw [World.size_alloc] | rw [World.size_setCell] | rw [World.size_drew])); omega)) | ((with_reducible apply C2.K); (focus (with_reducible assumption)))))
  obtain ⟨z0, z1⟩ := hZ
  obtain ⟨a, cap', rfl, ha⟩ := m1.form
  obtain ⟨n, hn⟩ : ∃ n, L.length = n := ⟨_, rfl⟩
  rw [hn] at hpl ⊢
  by_cases hn0 : n = 0
  · subst hn0
    go_wp2_with fail
    (refine (alive _).mono ?_; rintro e w5 ⟨rfl, hb5⟩; have hz5 := hb5.size; (repeat (first | rw [World.size_alloc] at hz5 | rw [World.size_setCell] at hz5 | rw [World.size_drew] at hz5)); (try clear kk5 kk6))
    go_wp2_with fail
    go_returns
    exact ⟨rfl, B4.trans (hb5.mono B4.size)⟩
  have hne : L ≠ [] := by rintro rfl; simp at hn; omega
  obtain ⟨g, rfl, hg1, hg2, hA, -⟩ := ha hne
  obtain ⟨hz, kxy, hp⟩ := hdv hne
  have hnn : ((n : Int) == 0) = false := by simp; omega
  clear ha hdv hS hI m1
  go_wp2_with fail
  go_loopw [5] (fun u wr => ∃ k : Nat, u = .int .i64 (k : Int) ∧ k ≤ n ∧ Below w4.heap.size w4 wr) (fun u _ => n - (intOf u).toNat)
  case atStart => exact ⟨0, rfl, Nat.zero_le _, Below.refl _ _⟩
  case round =>
    obtain ⟨k, rfl, hk, hb⟩ := hrel
    by_cases hlt : k < n
    · have hd : decide ((k : Int) < (n : Int)) = true := decide_eq_true (by omega)
      obtain ⟨⟨u, v⟩, huv⟩ : ∃ q, L[k]? = some q := ⟨_, List.getElem?_eq_getElem (by omega)⟩
      have hmem := List.mem_of_getElem? huv
      obtain ⟨ku, f1, f2, hv, p, q, hp1, hp2, kq, hin⟩ := hp.law hz hmem
      obtain ⟨P, Q, hP, hQ⟩ : ∃ P Q, fiA p q = P ∧ fiB p q = Q := ⟨_, _, rfl, rfl⟩
      rw [hP, hQ] at hin
      obtain ⟨e0, e1⟩ := hA k u v huv
      have l0 := keep hb e0
      have l1 := keep hb e1
      have y0 := keep hb z0
      have y1 := keep hb z1
      have hsb := hb.size
      clear e0 e1
      go_upto_region 12 with fail
      refine wp_name ?_
      intro w5 hb5
      have hz5 := hb5.size
      have l0' := keep hb5 l0
      have l1' := keep hb5 l1
      have y0' := keep hb5 y0
      have y1' := keep hb5 y1
      clear l0 l1 y0 y1
      go_cut [6, 7] (fun v s wx => CutXB w5 p q true v s wx)
      case first =>
        (go_region_held3 (fun w' => w'.cell? ⟨w1.heap.size, 0, none⟩ = some (.int .i64 (x)) ∧ w'.cell? ⟨w1.heap.size, 1, none⟩ = some (.int .i64 (y)) ∧ w'.cell? ⟨g, k * 2, none⟩ = some (.int .i64 (u)) ∧ w'.cell? ⟨g, k * 2 + 1, none⟩ = some (.int .i64 (v))) (first | (go_keep; done) | ((try dsimp only); refine ⟨?_, ?_, ?_, ?_⟩ <;> (repeat (first | (with_reducible assumption) | (with_reducible apply sameS) | ((with_reducible apply born); (focus (simp; done)); (focus rfl)) | (with_reducible apply keepA) | (with_reducible apply keepD) | ((with_reducible apply keepS); focus ((repeat (first | rw [World.size_alloc] | rw [World.size_setCell] | rw [World.size_drew])); omega)) | ((with_reducible apply keep); (focus (with_reducible assumption))))))) (first | (go_at_call 34; obtain ⟨q0, q1, q2, q3⟩ := ‹_ ∧ _ ∧ _ ∧ _›; refine (iExactOf_v _ ⟨hv, hp1, hp2⟩).mono ?_; rintro e w6 ⟨rfl, hb6⟩; have hz6 := hb6.size; (repeat (first | rw [World.size_alloc] at hz6 | rw [World.size_setCell] at hz6 | rw [World.size_drew] at hz6)); have kk7 := keep hb6 q0; have kk8 := keep hb6 q1; have kk9 := keep hb6 q2; have kk10 := keep hb6 q3; obtain ⟨hc6, hf6⟩ := bcell hb6; clear q0 q1 q2 q3)))
        all_goals (go_wp2_with fail; go_meet; exact ⟨_, rfl, rfl, by (repeat (first | (with_reducible assumption) | (with_reducible apply sameS) | ((with_reducible apply born); (focus (simp; done)); (focus rfl)) | (with_reducible apply keepA) | (with_reducible apply keepD) | ((with_reducible apply keepS); focus ((repeat (first | rw [World.size_alloc] | rw [World.size_setCell] | rw [World.size_drew])); omega)) | ((with_reducible apply keep); (focus (with_reducible assumption))))), by (repeat (first | (with_reducible assumption) | (with_reducible apply sameS) | ((with_reducible apply born); (focus (simp; done)); (focus rfl)) | (with_reducible apply keepA) | (with_reducible apply keepD) | ((with_reducible apply keepS); focus ((repeat (first | rw [World.size_alloc] | rw [World.size_setCell] | rw [World.size_drew])); omega)) | ((with_reducible apply keep); (focus (with_reducible assumption))))), by (repeat' (first | (with_reducible exact Below.refl _ _) | (with_reducible refine Below.alloc ?_ ?_ _) | (with_reducible refine Below.drew ?_) | (with_reducible refine Below.setCell ?_ ?_ _) | (with_reducible refine Below.trans ?_ (Below.mono (by assumption) ?_)) | go_size))⟩)
      case rest =>
        obtain ⟨X, rfl, rfl, x0, x1, hbx⟩ := hcut
        have l0 := keep hbx l0'
        have l1 := keep hbx l1'
        have y0 := keep hbx y0'
        have y1 := keep hbx y1'
        clear l0' l1' y0' y1'
        have hzx := hbx.size
        have hX : X < _ := World.block_lt_of_cell? _ _ x0
        go_wp2_with fail
        (refine (iFirstOf_w _ kq hP hQ).mono ?_; rintro e w7 ⟨rfl, hb7⟩; have hz7 := hb7.size; (repeat (first | rw [World.size_alloc] at hz7 | rw [World.size_setCell] at hz7 | rw [World.size_drew] at hz7)); (try clear kk7 kk8 kk9 kk10))
        have l0' := keep hb7 l0
        have l1' := keep hb7 l1
        have y0' := keep hb7 y0
        have y1' := keep hb7 y1
        clear l0 l1 y0 y1 x0 x1 hX
        go_wp2_with fail
        (refine (iFirstOf_w _ ku f1 f2).mono ?_; rintro e w8 ⟨rfl, hb8⟩; have hz8 := hb8.size; (repeat (first | rw [World.size_alloc] at hz8 | rw [World.size_setCell] at hz8 | rw [World.size_drew] at hz8)); have pp := C2.K hb8 (b := w7.heap.size) (x := _) (y := _) (by (repeat (first | ((with_reducible apply C2.mk) <;> (with_reducible assumption)) | (with_reducible apply C2.Z) | (with_reducible apply C2.O) | ((with_reducible apply C2.B); (focus (simp; done))) | (with_reducible apply C2.A) | (with_reducible apply C2.D) | ((with_reducible apply C2.S); focus ((repeat (first | rw [World.size_alloc] | rw [World.size_setCell] | rw [World.size_drew])); omega)) | ((with_reducible apply C2.K); (focus (with_reducible assumption)))))); obtain ⟨kk11, kk12⟩ := pp)
        have l0 := keep hb8 (keepA l0')
        have l1 := keep hb8 (keepA l1')
        have y0 := keep hb8 (keepA y0')
        have y1 := keep hb8 (keepA y1')
        clear l0' l1' y0' y1'
        go_upto_region 17 with fail
        refine wp_name ?_
        intro w9 hb9
        (have hz9 := hb9.size; (repeat (first | rw [World.size_alloc] at hz9 | rw [World.size_setCell] at hz9 | rw [World.size_drew] at hz9)); have pp := C2.K hb9 (b := w7.heap.size) (x := _) (y := _) (by (repeat (first | ((with_reducible apply C2.mk) <;> (with_reducible assumption)) | (with_reducible apply C2.Z) | (with_reducible apply C2.O) | ((with_reducible apply C2.B); (focus (simp; done))) | (with_reducible apply C2.A) | (with_reducible apply C2.D) | ((with_reducible apply C2.S); focus ((repeat (first | rw [World.size_alloc] | rw [World.size_setCell] | rw [World.size_drew])); omega)) | ((with_reducible apply C2.K); (focus (with_reducible assumption)))))); obtain ⟨kk13, kk14⟩ := pp; have pp := C2.K hb9 (b := w8.heap.size) (x := _) (y := _) (by (repeat (first | ((with_reducible apply C2.mk) <;> (with_reducible assumption)) | (with_reducible apply C2.Z) | (with_reducible apply C2.O) | ((with_reducible apply C2.B); (focus (simp; done))) | (with_reducible apply C2.A) | (with_reducible apply C2.D) | ((with_reducible apply C2.S); focus ((repeat (first | rw [World.size_alloc] | rw [World.size_setCell] | rw [World.size_drew])); omega)) | ((with_reducible apply C2.K); (focus (with_reducible assumption)))))); obtain ⟨kk15, kk16⟩ := pp; (try clear kk11 kk12))
        have l0' := keep hb9 (keepA l0)
        have l1' := keep hb9 (keepA l1)
        have y0' := keep hb9 (keepA y0)
        have y1' := keep hb9 (keepA y1)
        clear l0 l1 y0 y1
        have hb9' : Below w4.heap.size w4 w9 := by (repeat' (first | (with_reducible exact Below.refl _ _) | (with_reducible refine Below.alloc ?_ ?_ _) | (with_reducible refine Below.drew ?_) | (with_reducible refine Below.setCell ?_ ?_ _) | (with_reducible refine Below.trans ?_ (Below.mono (by assumption) ?_)) | go_size))
        have hF : C2 w9 w7.heap.size (.int .i64 P) (.int .i64 Q) := by (repeat (first | ((with_reducible apply C2.mk) <;> (with_reducible assumption)) | (with_reducible apply C2.Z) | (with_reducible apply C2.O) | ((with_reducible apply C2.B); (focus (simp; done))) | (with_reducible apply C2.A) | (with_reducible apply C2.D) | ((with_reducible apply C2.S); focus ((repeat (first | rw [World.size_alloc] | rw [World.size_setCell] | rw [World.size_drew])); omega)) | ((with_reducible apply C2.K); (focus (with_reducible assumption)))))
        have hO : C2 w9 w8.heap.size (.int .i64 u) (.int .i64 v) := by (repeat (first | ((with_reducible apply C2.mk) <;> (with_reducible assumption)) | (with_reducible apply C2.Z) | (with_reducible apply C2.O) | ((with_reducible apply C2.B); (focus (simp; done))) | (with_reducible apply C2.A) | (with_reducible apply C2.D) | ((with_reducible apply C2.S); focus ((repeat (first | rw [World.size_alloc] | rw [World.size_setCell] | rw [World.size_drew])); omega)) | ((with_reducible apply C2.K); (focus (with_reducible assumption)))))
        have hY : C2 w9 w1.heap.size (.int .i64 x) (.int .i64 y) := ⟨y0', y1'⟩
        clear l0' l1' y0' y1'
        go_loopw [14, 15] (fun b u' wI => ∃ j : Nat, u' = .int .i64 (j : Int) ∧ j ≤ n ∧ b = .bool ((L.take j).contains (P, Q)) ∧ Below w4.heap.size w4 wI ∧ C2 wI w7.heap.size (.int .i64 P) (.int .i64 Q) ∧ C2 wI w8.heap.size (.int .i64 u) (.int .i64 v) ∧ C2 wI w1.heap.size (.int .i64 x) (.int .i64 y)) (fun _ u' _ => n - (intOf u').toNat)
        case atStart => exact ⟨0, rfl, Nat.zero_le _, by simp, hb9', hF, hO, hY⟩
        case round =>
          clear hF hO hY hb9' kk13 kk14 kk15 kk16
          rename_i wI
          obtain ⟨j, rfl, hj, hbv, hbI, ⟨f0, f1'⟩, ⟨o0, o1⟩, ⟨y0, y1⟩⟩ := hrel
          have hsI := hbI.size
          by_cases hjn : j < n
          · have hd2 : decide ((j : Int) < (n : Int)) = true := decide_eq_true (by omega)
            obtain ⟨⟨p', q'⟩, hpq⟩ : ∃ q, L[j]? = some q := ⟨_, List.getElem?_eq_getElem (by omega)⟩
            obtain ⟨e0, e1⟩ := hA j p' q' hpq
            have l0 := keep hbI e0
            have l1 := keep hbI e1
            have htk : (L.take (j + 1)).contains (P, Q) = ((L.take j).contains (P, Q) || (p' == P && q' == Q)) := by
              rw [List.take_add_one, hpq, Option.toList_some, List.contains_append]
              congr 1
              simp only [List.contains_cons, List.contains_nil, Bool.or_false]
              show (P == p' && Q == q') = _
              rw [Bool.eq_iff_iff]; simp only [Bool.and_eq_true, beq_iff_eq]; constructor <;> (rintro ⟨h1, h2⟩; exact ⟨h1.symm, h2.symm⟩)
            obtain ⟨B, hB⟩ : ∃ B, (L.take j).contains (P, Q) = B := ⟨_, rfl⟩
            rw [hB] at hbv htk
            subst hbv
            obtain ⟨t, ht⟩ : ∃ t, (p' == P && q' == Q) = t := ⟨_, rfl⟩
            rw [ht] at htk
            have HT := Lib.hid htk
            clear htk hB e0 e1
            cases B
            all_goals
              go_wp2_with fail
              refine wp_name ?_
              intro wA hbwA
              have l0_a := keep hbwA l0
              have l0_r := cell_regrown l0_a
              have l1_a := keep hbwA l1
              have l1_r := cell_regrown l1_a
              have f0_a := keep hbwA f0
              have f0_r := cell_regrown f0_a
              have f1'_a := keep hbwA f1'
              have f1'_r := cell_regrown f1'_a
              have o0_a := keep hbwA o0
              have o0_r := cell_regrown o0_a
              have o1_a := keep hbwA o1
              have o1_r := cell_regrown o1_a
              have y0_a := keep hbwA y0
              have y0_r := cell_regrown y0_a
              have y1_a := keep hbwA y1
              have y1_r := cell_regrown y1_a
              clear l0 l1 f0 f1' o0 o1 y0 y1
              refine wp_region_quiet_below (by kernel_rfl) (by kernel_rfl) ?_
              (repeat (first | go_big_quiet_step (fail) | quiet_step (fail)))
              refine wpQuiet_nil ?_
              intro wB hwwB
              have hbwB := below_of_regrown hwwB
              clear hwwB
              have l0 := keep hbwB l0_a
              have l1 := keep hbwB l1_a
              have f0 := keep hbwB f0_a
              have f1' := keep hbwB f1'_a
              have o0 := keep hbwB o0_a
              have o1 := keep hbwB o1_a
              have y0 := keep hbwB y0_a
              have y1 := keep hbwB y1_a
              clear l0_a l1_a f0_a f1'_a o0_a o1_a y0_a y1_a l0_r l1_r f0_r f1'_r o0_r o1_r y0_r y1_r
              go_wp2_with fail
              go_roundw
              case rel => exact ⟨j + 1, by simp, by omega, by rw [HT.out]; simp, (hbI.trans (hbwA.mono hsI)).trans (hbwB.mono (by have := hbwA.size; omega)), ⟨f0, f1'⟩, ⟨o0, o1⟩, ⟨y0, y1⟩⟩
              case measure => simp [intOf]; omega
          · have hd2 : decide ((j : Int) < (n : Int)) = false := decide_eq_false (by omega)
            obtain rfl : j = n := by omega
            rw [← hn, List.take_length, List.contains_iff_mem.2 hin] at hbv
            subst hbv
            obtain ⟨e0, e1⟩ := hA k u v huv
            have l0 := keep hbI e0
            have l1 := keep hbI e1
            clear e0 e1
            go_wp2_with fail
            refine wp_name ?_
            intro wA hbwA
            have l0_a := keep hbwA l0
            have l0_r := cell_regrown l0_a
            have l1_a := keep hbwA l1
            have l1_r := cell_regrown l1_a
            have o0_a := keep hbwA o0
            have o0_r := cell_regrown o0_a
            have o1_a := keep hbwA o1
            have o1_r := cell_regrown o1_a
            have y0_a := keep hbwA y0
            have y0_r := cell_regrown y0_a
            have y1_a := keep hbwA y1
            have y1_r := cell_regrown y1_a
            clear l0 l1 o0 o1 y0 y1
            refine wp_region_quiet_below (by kernel_rfl) (by kernel_rfl) ?_
            (repeat (first | go_big_quiet_step ((first | (go_at_call 20; exact Calls.regrown_of (iDividesOk_v _ hv)))) | quiet_step ((first | (go_at_call 20; exact Calls.regrown_of (iDividesOk_v _ hv))))))
            refine wpQuiet_nil ?_
            intro wB hwwB
            have hbwB := below_of_regrown hwwB
            clear hwwB
            have l0 := keep hbwB l0_a
            have l1 := keep hbwB l1_a
            have o0 := keep hbwB o0_a
            have o1 := keep hbwB o1_a
            have y0 := keep hbwB y0_a
            have y1 := keep hbwB y1_a
            clear l0_a l1_a o0_a o1_a y0_a y1_a l0_r l1_r o0_r o1_r y0_r y1_r
            go_wp2_with fail
            go_roundw
            case rel => exact ⟨k + 1, by simp, by omega, (hbI.trans (hbwA.mono hsI)).trans (hbwB.mono (by have := hbwA.size; omega))⟩
            case measure => simp [intOf]; omega
    · have hd : decide ((k : Int) < (n : Int)) = false := decide_eq_false (by omega)
      obtain ⟨t, ht⟩ := hp.head kxy hz
      obtain ⟨e0, e1⟩ := hA 0 1 0 (by rw [ht]; rfl)
      have l0 := keep hb e0
      have l1 := keep hb e1
      clear e0 e1
      have hlen : 0 < n := by omega
      go_wp2_with fail
      go_returns
      exact ⟨rfl, by (repeat' (first | (with_reducible exact Below.refl _ _) | (with_reducible refine Below.alloc ?_ ?_ _) | (with_reducible refine Below.drew ?_) | (with_reducible refine Below.setCell ?_ ?_ _) | (with_reducible refine Below.trans ?_ (Below.mono (by assumption) ?_)) | go_size))⟩
end Go.Proofs.Ytpjememmogaeiaa
