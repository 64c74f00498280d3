import Derived.Test.YtpjememmogaeiaaYv
import Derived.Test.YtpjememmogaeiaaYs
import Derived.Test.YtpjememmogaeiaaHx
import Derived.Test.YtpjememmogaeiaaHv
import Derived.Test.YtpjememmogaeiaaR
import Derived.Test.YtpjememmogaeiaaBx
import Derived.BigRegion
import Derived.Deep.RegionHeld3
import Derived.Deep.DeepCutAuto
namespace Go.Proofs.Ytpjememmogaeiaa
open Go Go.RowKit
attribute [local go_sem] World.cell?_alloc_some cell?_alloc2_some cell?_alloc3_some cell?_alloc4_some frozen?_alloc_some frozen?_alloc2_some frozen?_alloc3_some World.cell?_setCell_far new_ne0 new_ne1 new_ne2 new_ne3 lt2 lt3 lt4 lt5 lt6 lt7 lt8 lt9
attribute [local go_sem ↓] eqG neG
attribute [local go_sem] cell?_alloc_lt frozen?_alloc_lt lt10

set_option maxRecDepth 100000 in
set_option maxHeartbeats 16000000 in
theorem walkFnPrimesUpTo (a0 : Option Addr) (len cap : Nat) (zs : List Int) (w : World) (h : IsRow .u8 w a0 len cap zs) :
    Calls Try.prog 7 #[.slice a0 len cap] w fun e w' => e = .returned (.bool true) ∧ Below w.heap.size w w' := by
  by_cases hl : 1048576 < len
  · clear h
    go_enter Try.func7, Try.ntmps7
    go_wp2_with fail
    go_returns
    exact ⟨rfl, by (repeat' (first | (with_reducible exact Below.refl _ _) | (with_reducible refine Below.alloc ?_ ?_ _) | (with_reducible refine Below.drew ?_) | (with_reducible refine Below.setCell ?_ ?_ _) | (with_reducible refine Below.trans ?_ (Below.mono (by assumption) ?_)) | go_size))⟩
  have H := Lib.hid h
  clear h
  go_enter Try.func7, Try.ntmps7
  go_wp2_with fail
  (refine (drawPrimesUpTo a0 len cap zs _ H.out).mono ?_; rintro e w1 ⟨M, rfl, hb1⟩; have hz1 := hb1.size; (repeat (first | rw [World.size_alloc] at hz1 | rw [World.size_setCell] at hz1 | rw [World.size_drew] at hz1)))
  go_wp2_with fail
  have hpl := pg_len M
  obtain ⟨L, hL⟩ : ∃ L, pgL M = L := ⟨_, rfl⟩
  have hS : ∀ W, Calls Try.prog 38 #[.int .i64 M] W fun e w' => ∃ v, e = .returned v ∧ GS w' W.heap.size v L ∧ Below W.heap.size W w' := fun W => by rw [← hL]; exact sPrimesUpTo M W
  have hI : ∀ W, Calls Try.prog 37 #[.int .i64 M] W fun e w' => ∃ v, e = .returned v ∧ GS w' W.heap.size v L ∧ Below W.heap.size W w' := fun W => by rw [← hL]; exact iPrimesUpTo M W
  have hprs : L ≠ [] → 2 ≤ M ∧ M ≤ 400 ∧ Prs M L := fun hne => by
    by_cases h2 : M < 2 ∨ 400 < M
    · exact absurd (hL ▸ pgL_no h2) hne
    · exact ⟨by omega, by omega, hL ▸ pgL_is (by omega) (by omega)⟩
  have hend : decide (0 < (L.length : Int)) = (decide (2 ≤ M) && decide (M ≤ 400)) := by
    by_cases h2 : M < 2 ∨ 400 < M
    · have : L = [] := hL ▸ pgL_no h2
      rw [this, ← Bool.decide_and, decide_eq_false (by omega : ¬ (2 ≤ M ∧ M ≤ 400))]; rfl
    · have h3 := (Prs.some (hL ▸ pgL_is (M := M) (by omega) (by omega) : Prs M L)).2 (by omega)
      rw [← Bool.decide_and, decide_eq_true (by omega : 2 ≤ M ∧ M ≤ 400)]
      exact decide_eq_true (by omega)
  rw [hL] at hpl
  clear hL
  (refine (hI _).mono ?_; rintro e w2 ⟨v1, rfl, g1, hb2⟩; have hz2 := hb2.size; (repeat (first | rw [World.size_alloc] at hz2 | rw [World.size_setCell] at hz2 | rw [World.size_drew] at hz2)))
  go_wp2_with fail
  (refine (hS _).mono ?_; rintro e w3 ⟨v2, rfl, g2, hb3⟩; have hz3 := hb3.size; (repeat (first | rw [World.size_alloc] at hz3 | rw [World.size_setCell] at hz3 | rw [World.size_drew] at hz3)))
  have k1 := g1.below hb3
  clear g1
  go_wp2_with fail
  (refine (sameGauss _ _ _ _ L _ k1 g2 (by omega)).mono ?_; rintro e w4 ⟨rfl, hb4⟩; have hz4 := hb4.size; (repeat (first | rw [World.size_alloc] at hz4 | rw [World.size_setCell] at hz4 | rw [World.size_drew] at hz4)))
  have m1 := k1.below hb4
  clear k1 g2
  have B4 : Below w.heap.size w w4 := by (repeat' (first | (with_reducible exact Below.refl _ _) | (with_reducible refine Below.alloc ?_ ?_ _) | (with_reducible refine Below.drew ?_) | (with_reducible refine Below.setCell ?_ ?_ _) | (with_reducible refine Below.trans ?_ (Below.mono (by assumption) ?_)) | go_size))
  obtain ⟨a, cap', rfl, ha⟩ := m1.form
  obtain ⟨n, hn⟩ : ∃ n, L.length = n := ⟨_, rfl⟩
  rw [hn] at hpl hend ⊢
  go_wp2_with fail
  go_loopw [5] (fun u wr => ∃ k : Nat, u = .int .i64 (k : Int) ∧ k ≤ n ∧ Below w4.heap.size w4 wr) (fun u _ => n - (intOf u).toNat)
  case atStart => exact ⟨0, rfl, Nat.zero_le _, Below.refl _ _⟩
  case round =>
    obtain ⟨k, rfl, hk, hb⟩ := hrel
    by_cases hlt : k < n
    · have hd : decide ((k : Int) < (n : Int)) = true := decide_eq_true (by omega)
      obtain ⟨⟨x, y⟩, hxy⟩ : ∃ q, L[k]? = some q := ⟨_, List.getElem?_eq_getElem (by omega)⟩
      have hne : L ≠ [] := by rintro rfl; simp at hn; omega
      obtain ⟨g, rfl, hg1, hg2, hA, -⟩ := ha hne
      obtain ⟨hM2, hM400, hp⟩ := hprs hne
      have hmem := List.mem_of_getElem? hxy
      obtain ⟨kg, f1, f2, ho, hnm, hsw⟩ := hp.law hmem
      obtain ⟨c0, c1⟩ := hA k x y hxy
      have d0 := keep hb c0
      have d1 := keep hb c1
      have hap : ∀ j p q, L[j]? = some (p, q) → j ≠ k → vdO p q x y = false := fun j p q hj hjk => by
        cases hv : vdO p q x y
        · rfl
        · exfalso
          have hmj := List.mem_of_getElem? hj
          obtain ⟨e1, e2⟩ := prime_apart ho (hp.law hmj).2.2.2.1 ((hp.mem x y).1 hmem).1 ((hp.mem p q).1 hmj).1 hv
          subst e1 e2
          obtain ⟨hj1, hj2⟩ := List.getElem?_eq_some_iff.1 hj
          obtain ⟨hk1, hk2⟩ := List.getElem?_eq_some_iff.1 hxy
          rcases Nat.lt_or_gt_of_ne hjk with h' | h'
          · have := List.pairwise_iff_getElem.1 hp.sorted j k hj1 hk1 h'
            rw [hj2, hk2] at this; exact ltD_irr _ this
          · have := List.pairwise_iff_getElem.1 hp.sorted k j hk1 hj1 h'
            rw [hj2, hk2] at this; exact ltD_irr _ this
      obtain ⟨h0, hh0⟩ : ∃ h0, ((y == 0) || (x == y)) = h0 := ⟨_, rfl⟩
      have hall : (h0 || L.contains (y, x)) = true := by
        rcases hsw with rfl | hm
        · rw [← hh0]; rfl
        · rw [List.contains_iff_mem.2 hm, Bool.or_true]
      clear hp hsw c0 c1 hprs ha hmem
      go_wp2_with fail
      (refine (iFirstOf_w _ kg f1 f2).mono ?_; rintro e w5 ⟨rfl, hb5⟩; have hz5 := hb5.size; (repeat (first | rw [World.size_alloc] at hz5 | rw [World.size_setCell] at hz5 | rw [World.size_drew] at hz5)); have pp := C2.K hb5 (b := wr.heap.size) (x := _) (y := _) (by (repeat (first | ((with_reducible apply C2.mk) <;> (with_reducible assumption)) | (with_reducible apply C2.Z) | (with_reducible apply C2.O) | ((with_reducible apply C2.B); (focus (simp; done))) | (with_reducible apply C2.A) | (with_reducible apply C2.D) | ((with_reducible apply C2.S); focus ((repeat (first | rw [World.size_alloc] | rw [World.size_setCell] | rw [World.size_drew])); omega)) | ((with_reducible apply C2.K); (focus (with_reducible assumption)))))); obtain ⟨kk1, kk2⟩ := pp)
      have hb5' : Below w4.heap.size w4 w5 := (hb.alloc (by have := hb.size; omega) _).trans (hb5.mono (by have := hb.size; simp; omega))
      go_upto_region 12 with fail
      refine wp_name ?_
      intro w6 hb6
      (have hz6 := hb6.size; (repeat (first | rw [World.size_alloc] at hz6 | rw [World.size_setCell] at hz6 | rw [World.size_drew] at hz6)); have pp := C2.K hb6 (b := wr.heap.size) (x := _) (y := _) (by (repeat (first | ((with_reducible apply C2.mk) <;> (with_reducible assumption)) | (with_reducible apply C2.Z) | (with_reducible apply C2.O) | ((with_reducible apply C2.B); (focus (simp; done))) | (with_reducible apply C2.A) | (with_reducible apply C2.D) | ((with_reducible apply C2.S); focus ((repeat (first | rw [World.size_alloc] | rw [World.size_setCell] | rw [World.size_drew])); omega)) | ((with_reducible apply C2.K); (focus (with_reducible assumption)))))); obtain ⟨kk3, kk4⟩ := pp; have pp := C2.K hb6 (b := w5.heap.size) (x := _) (y := _) (by (repeat (first | ((with_reducible apply C2.mk) <;> (with_reducible assumption)) | (with_reducible apply C2.Z) | (with_reducible apply C2.O) | ((with_reducible apply C2.B); (focus (simp; done))) | (with_reducible apply C2.A) | (with_reducible apply C2.D) | ((with_reducible apply C2.S); focus ((repeat (first | rw [World.size_alloc] | rw [World.size_setCell] | rw [World.size_drew])); omega)) | ((with_reducible apply C2.K); (focus (with_reducible assumption)))))); obtain ⟨kk5, kk6⟩ := pp; (try clear kk1 kk2))
      have hb6' : Below w4.heap.size w4 w6 := (hb5'.alloc (by have := hb5'.size; omega) _).trans (hb6.mono (by have := hb5'.size; simp; omega))
      go_cut [10] (fun v wx => v = .bool h0 ∧ Below w6.heap.size w6 wx)
      case first =>
        cases hy : (y == 0)
        all_goals rw [hy] at hh0
        all_goals (go_wp2_with fail; go_meet)
        all_goals (refine ⟨?_, Below.refl _ _⟩; first | rfl | (rw [← hh0]; rfl))
      case rest =>
        obtain ⟨rfl, hbx⟩ := hcut
        (have hzx := hbx.size; (repeat (first | rw [World.size_alloc] at hzx | rw [World.size_setCell] at hzx | rw [World.size_drew] at hzx)); have pp := C2.K hbx (b := wr.heap.size) (x := _) (y := _) (by (repeat (first | ((with_reducible apply C2.mk) <;> (with_reducible assumption)) | (with_reducible apply C2.Z) | (with_reducible apply C2.O) | ((with_reducible apply C2.B); (focus (simp; done))) | (with_reducible apply C2.A) | (with_reducible apply C2.D) | ((with_reducible apply C2.S); focus ((repeat (first | rw [World.size_alloc] | rw [World.size_setCell] | rw [World.size_drew])); omega)) | ((with_reducible apply C2.K); (focus (with_reducible assumption)))))); obtain ⟨kk7, kk8⟩ := pp; have pp := C2.K hbx (b := w5.heap.size) (x := _) (y := _) (by (repeat (first | ((with_reducible apply C2.mk) <;> (with_reducible assumption)) | (with_reducible apply C2.Z) | (with_reducible apply C2.O) | ((with_reducible apply C2.B); (focus (simp; done))) | (with_reducible apply C2.A) | (with_reducible apply C2.D) | ((with_reducible apply C2.S); focus ((repeat (first | rw [World.size_alloc] | rw [World.size_setCell] | rw [World.size_drew])); omega)) | ((with_reducible apply C2.K); (focus (with_reducible assumption)))))); obtain ⟨kk9, kk10⟩ := pp; (try clear kk3 kk4 kk5 kk6))
        go_wp2_with fail
        refine wp_name ?_
        intro w8 hb8
        (have hz8 := hb8.size; (repeat (first | rw [World.size_alloc] at hz8 | rw [World.size_setCell] at hz8 | rw [World.size_drew] at hz8)); have pp := C2.K hb8 (b := wr.heap.size) (x := _) (y := _) (by (repeat (first | ((with_reducible apply C2.mk) <;> (with_reducible assumption)) | (with_reducible apply C2.Z) | (with_reducible apply C2.O) | ((with_reducible apply C2.B); (focus (simp; done))) | (with_reducible apply C2.A) | (with_reducible apply C2.D) | ((with_reducible apply C2.S); focus ((repeat (first | rw [World.size_alloc] | rw [World.size_setCell] | rw [World.size_drew])); omega)) | ((with_reducible apply C2.K); (focus (with_reducible assumption)))))); obtain ⟨kk11, kk12⟩ := pp; have pp := C2.K hb8 (b := w5.heap.size) (x := _) (y := _) (by (repeat (first | ((with_reducible apply C2.mk) <;> (with_reducible assumption)) | (with_reducible apply C2.Z) | (with_reducible apply C2.O) | ((with_reducible apply C2.B); (focus (simp; done))) | (with_reducible apply C2.A) | (with_reducible apply C2.D) | ((with_reducible apply C2.S); focus ((repeat (first | rw [World.size_alloc] | rw [World.size_setCell] | rw [World.size_drew])); omega)) | ((with_reducible apply C2.K); (focus (with_reducible assumption)))))); obtain ⟨kk13, kk14⟩ := pp; (try clear kk7 kk8 kk9 kk10))
        have hb8' : Below w4.heap.size w4 w8 := (hb6'.trans (hbx.mono (by have := hb6'.size; omega))).trans (hb8.mono (by have := hb6'.size; have := hbx.size; omega))
        have hZ : C2 w8 wr.heap.size (.int .i64 x) (.int .i64 y) := by (repeat (first | ((with_reducible apply C2.mk) <;> (with_reducible assumption)) | (with_reducible apply C2.Z) | (with_reducible apply C2.O) | ((with_reducible apply C2.B); (focus (simp; done))) | (with_reducible apply C2.A) | (with_reducible apply C2.D) | ((with_reducible apply C2.S); focus ((repeat (first | rw [World.size_alloc] | rw [World.size_setCell] | rw [World.size_drew])); omega)) | ((with_reducible apply C2.K); (focus (with_reducible assumption)))))
        have hF : C2 w8 w5.heap.size (.int .i64 x) (.int .i64 y) := by (repeat (first | ((with_reducible apply C2.mk) <;> (with_reducible assumption)) | (with_reducible apply C2.Z) | (with_reducible apply C2.O) | ((with_reducible apply C2.B); (focus (simp; done))) | (with_reducible apply C2.A) | (with_reducible apply C2.D) | ((with_reducible apply C2.S); focus ((repeat (first | rw [World.size_alloc] | rw [World.size_setCell] | rw [World.size_drew])); omega)) | ((with_reducible apply C2.K); (focus (with_reducible assumption)))))
        go_loopw [10, 11] (fun b u wI => ∃ j : Nat, u = .int .i64 (j : Int) ∧ j ≤ n ∧ b = .bool (h0 || (L.take j).contains (y, x)) ∧ Below w4.heap.size w4 wI ∧ C2 wI wr.heap.size (.int .i64 x) (.int .i64 y) ∧ C2 wI w5.heap.size (.int .i64 x) (.int .i64 y)) (fun _ u _ => n - (intOf u).toNat)
        case atStart => exact ⟨0, rfl, Nat.zero_le _, by simp, hb8', hZ, hF⟩
        case round =>
          clear hZ hF hb8'
          rename_i wI
          obtain ⟨j, rfl, hj, hbv, hbI, ⟨z0, z1⟩, ⟨o0, o1⟩⟩ := hrel
          by_cases hjn : j < n
          · have hd2 : decide ((j : Int) < (n : Int)) = true := decide_eq_true (by omega)
            obtain ⟨⟨p, q⟩, hpq⟩ : ∃ q, L[j]? = some q := ⟨_, List.getElem?_eq_getElem (by omega)⟩
            obtain ⟨e0, e1⟩ := hA j p q hpq
            have l0 := keep hbI e0
            have l1 := keep hbI e1
            obtain ⟨v, hv⟩ : ∃ v, vdO p q x y = v := ⟨_, rfl⟩
            have hvk : j ≠ k → v = false := fun h => by rw [← hv]; exact hap j p q hpq h
            have htk : (h0 || (L.take (j + 1)).contains (y, x)) = ((h0 || (L.take j).contains (y, x)) || (p == y && q == x)) := by
              rw [List.take_add_one, hpq, Option.toList_some, List.contains_append, ← Bool.or_assoc]
              congr 1
              simp only [List.contains_cons, List.contains_nil, Bool.or_false]
              show (y == p && x == q) = _
              rw [Bool.eq_iff_iff]; simp only [Bool.and_eq_true, beq_iff_eq]; constructor <;> (rintro ⟨h1, h2⟩; exact ⟨h1.symm, h2.symm⟩)
            obtain ⟨B, hB⟩ : ∃ B, (h0 || (L.take j).contains (y, x)) = B := ⟨_, rfl⟩
            rw [hB] at hbv htk
            subst hbv
            have hsizeI := hbI.size
            obtain ⟨t, ht⟩ : ∃ t, (p == y && q == x) = t := ⟨_, rfl⟩
            rw [ht] at htk
            have HT := Lib.hid htk
            clear htk hB e0 e1
            cases B
            all_goals
              go_wp2_with fail
              refine wp_name ?_
              intro wA hbwA
              have z0_a := keep hbwA z0
              have z0_r := cell_regrown z0_a
              have z1_a := keep hbwA z1
              have z1_r := cell_regrown z1_a
              have o0_a := keep hbwA o0
              have o0_r := cell_regrown o0_a
              have o1_a := keep hbwA o1
              have o1_r := cell_regrown o1_a
              have l0_a := keep hbwA l0
              have l0_r := cell_regrown l0_a
              have l1_a := keep hbwA l1
              have l1_r := cell_regrown l1_a
              clear z0 z1 o0 o1 l0 l1
              refine wp_region_quiet_below (by kernel_rfl) (by kernel_rfl) ?_
              (repeat (first | go_big_quiet_step (fail) | quiet_step (fail)))
              refine wpQuiet_nil ?_
              intro wB hwwB
              have hbwB := below_of_regrown hwwB
              clear hwwB
              have z0 := keep hbwB z0_a
              have z1 := keep hbwB z1_a
              have o0 := keep hbwB o0_a
              have o1 := keep hbwB o1_a
              have l0 := keep hbwB l0_a
              have l1 := keep hbwB l1_a
              clear z0_a z1_a o0_a o1_a l0_a l1_a z0_r z1_r o0_r o1_r l0_r l1_r
              go_wp2_with fail
            all_goals
              have hbAB : Below w4.heap.size w4 wB := (hbI.trans (hbwA.mono hsizeI)).trans (hbwB.mono (by have := hbwA.size; omega))
              by_cases hjk : j = k
              · subst hjk
                refine wp_name ?_
                intro wC hbwC
                have z0_a := keep hbwC z0
                have z0_r := cell_regrown z0_a
                have z1_a := keep hbwC z1
                have z1_r := cell_regrown z1_a
                have o0_a := keep hbwC o0
                have o0_r := cell_regrown o0_a
                have o1_a := keep hbwC o1
                have o1_r := cell_regrown o1_a
                have l0_a := keep hbwC l0
                have l0_r := cell_regrown l0_a
                have l1_a := keep hbwC l1
                have l1_r := cell_regrown l1_a
                clear z0 z1 o0 o1 l0 l1
                refine wp_region_quiet_below (by kernel_rfl) (by kernel_rfl) ?_
                (repeat (first | go_big_quiet_step (fail) | quiet_step (fail)))
                refine wpQuiet_nil ?_
                intro wD hwwD
                have hbwD := below_of_regrown hwwD
                clear hwwD
                have z0 := keep hbwD z0_a
                have z1 := keep hbwD z1_a
                have o0 := keep hbwD o0_a
                have o1 := keep hbwD o1_a
                have l0 := keep hbwD l0_a
                have l1 := keep hbwD l1_a
                clear z0_a z1_a o0_a o1_a l0_a l1_a z0_r z1_r o0_r o1_r l0_r l1_r
                go_wp2_with fail
                go_roundw
                case rel => exact ⟨j + 1, by simp, by omega, by rw [HT.out]; simp, (hbAB.trans (hbwC.mono hbAB.size)).trans (hbwD.mono (by have := hbAB.size; have := hbwC.size; omega)), ⟨z0, z1⟩, ⟨o0, o1⟩⟩
                case measure => simp [intOf]; omega
              · have hjk1 : ((j : Int) == k) = false := by rw [beq_eq_false_iff_ne]; omega
                have hjk2 : ((j : Int) != k) = true := by rw [bne_iff_ne]; omega
                obtain rfl := hvk hjk
                by_cases hj12 : j < 12
                · by_cases hk12 : k < 12
                  · have q1 : decide ((j : Int) < 12) = true := decide_eq_true (by omega)
                    have q2 : decide ((k : Int) < 12) = true := decide_eq_true (by omega)
                    refine wp_name ?_
                    intro wC hbwC
                    have z0_a := keep hbwC z0
                    have z0_r := cell_regrown z0_a
                    have z1_a := keep hbwC z1
                    have z1_r := cell_regrown z1_a
                    have o0_a := keep hbwC o0
                    have o0_r := cell_regrown o0_a
                    have o1_a := keep hbwC o1
                    have o1_r := cell_regrown o1_a
                    have l0_a := keep hbwC l0
                    have l0_r := cell_regrown l0_a
                    have l1_a := keep hbwC l1
                    have l1_r := cell_regrown l1_a
                    clear z0 z1 o0 o1 l0 l1
                    refine wp_region_quiet_below (by kernel_rfl) (by kernel_rfl) ?_
                    (repeat (first | go_big_quiet_step ((first | (go_at_call 20; exact Calls.regrown_of (iDividesOk_v _ hv)))) | quiet_step ((first | (go_at_call 20; exact Calls.regrown_of (iDividesOk_v _ hv))))))
                    refine wpQuiet_nil ?_
                    intro wD hwwD
                    have hbwD := below_of_regrown hwwD
                    clear hwwD
                    have z0 := keep hbwD z0_a
                    have z1 := keep hbwD z1_a
                    have o0 := keep hbwD o0_a
                    have o1 := keep hbwD o1_a
                    have l0 := keep hbwD l0_a
                    have l1 := keep hbwD l1_a
                    clear z0_a z1_a o0_a o1_a l0_a l1_a z0_r z1_r o0_r o1_r l0_r l1_r
                    go_wp2_with fail
                    go_roundw
                    case rel => exact ⟨j + 1, by simp, by omega, by rw [HT.out]; simp, (hbAB.trans (hbwC.mono hbAB.size)).trans (hbwD.mono (by have := hbAB.size; have := hbwC.size; omega)), ⟨z0, z1⟩, ⟨o0, o1⟩⟩
                    case measure => simp [intOf]; omega
                  · have q1 : decide ((j : Int) < 12) = true := decide_eq_true (by omega)
                    have q2 : decide ((k : Int) < 12) = false := decide_eq_false (by omega)
                    refine wp_name ?_
                    intro wC hbwC
                    have z0_a := keep hbwC z0
                    have z0_r := cell_regrown z0_a
                    have z1_a := keep hbwC z1
                    have z1_r := cell_regrown z1_a
                    have o0_a := keep hbwC o0
                    have o0_r := cell_regrown o0_a
                    have o1_a := keep hbwC o1
                    have o1_r := cell_regrown o1_a
                    have l0_a := keep hbwC l0
                    have l0_r := cell_regrown l0_a
                    have l1_a := keep hbwC l1
                    have l1_r := cell_regrown l1_a
                    clear z0 z1 o0 o1 l0 l1
                    refine wp_region_quiet_below (by kernel_rfl) (by kernel_rfl) ?_
                    (repeat (first | go_big_quiet_step (fail) | quiet_step (fail)))
                    refine wpQuiet_nil ?_
                    intro wD hwwD
                    have hbwD := below_of_regrown hwwD
                    clear hwwD
                    have z0 := keep hbwD z0_a
                    have z1 := keep hbwD z1_a
                    have o0 := keep hbwD o0_a
                    have o1 := keep hbwD o1_a
                    have l0 := keep hbwD l0_a
                    have l1 := keep hbwD l1_a
                    clear z0_a z1_a o0_a o1_a l0_a l1_a z0_r z1_r o0_r o1_r l0_r l1_r
                    go_wp2_with fail
                    go_roundw
                    case rel => exact ⟨j + 1, by simp, by omega, by rw [HT.out]; simp, (hbAB.trans (hbwC.mono hbAB.size)).trans (hbwD.mono (by have := hbAB.size; have := hbwC.size; omega)), ⟨z0, z1⟩, ⟨o0, o1⟩⟩
                    case measure => simp [intOf]; omega
                · have q1 : decide ((j : Int) < 12) = false := decide_eq_false (by omega)
                  refine wp_name ?_
                  intro wC hbwC
                  have z0_a := keep hbwC z0
                  have z0_r := cell_regrown z0_a
                  have z1_a := keep hbwC z1
                  have z1_r := cell_regrown z1_a
                  have o0_a := keep hbwC o0
                  have o0_r := cell_regrown o0_a
                  have o1_a := keep hbwC o1
                  have o1_r := cell_regrown o1_a
                  have l0_a := keep hbwC l0
                  have l0_r := cell_regrown l0_a
                  have l1_a := keep hbwC l1
                  have l1_r := cell_regrown l1_a
                  clear z0 z1 o0 o1 l0 l1
                  refine wp_region_quiet_below (by kernel_rfl) (by kernel_rfl) ?_
                  (repeat (first | go_big_quiet_step (fail) | quiet_step (fail)))
                  refine wpQuiet_nil ?_
                  intro wD hwwD
                  have hbwD := below_of_regrown hwwD
                  clear hwwD
                  have z0 := keep hbwD z0_a
                  have z1 := keep hbwD z1_a
                  have o0 := keep hbwD o0_a
                  have o1 := keep hbwD o1_a
                  have l0 := keep hbwD l0_a
                  have l1 := keep hbwD l1_a
                  clear z0_a z1_a o0_a o1_a l0_a l1_a z0_r z1_r o0_r o1_r l0_r l1_r
                  go_wp2_with fail
                  go_roundw
                  case rel => exact ⟨j + 1, by simp, by omega, by rw [HT.out]; simp, (hbAB.trans (hbwC.mono hbAB.size)).trans (hbwD.mono (by have := hbAB.size; have := hbwC.size; omega)), ⟨z0, z1⟩, ⟨o0, o1⟩⟩
                  case measure => simp [intOf]; omega
          · have hd2 : decide ((j : Int) < (n : Int)) = false := decide_eq_false (by omega)
            obtain rfl : j = n := by omega
            rw [← hn, List.take_length, hall] at hbv
            subst hbv
            obtain ⟨m, hm⟩ : ∃ m, nrm x y = m := ⟨_, rfl⟩
            rw [hm] at hnm
            have hdm : decide (M < m) = false := decide_eq_false (by omega)
            have hsI := hbI.size
            go_wp2_with fail
            (refine (iPrimeOk_v _ ho).mono ?_; rintro e w9 ⟨rfl, hb9⟩; have hz9 := hb9.size; (repeat (first | rw [World.size_alloc] at hz9 | rw [World.size_setCell] at hz9 | rw [World.size_drew] at hz9)); (try clear kk11 kk12 kk13 kk14))
            have z0' := keep hb9 z0
            have z1' := keep hb9 z1
            go_wp2_with fail
            (refine (iNormOf_v _ hm).mono ?_; rintro e w10 ⟨rfl, hb10⟩; have hz10 := hb10.size; (repeat (first | rw [World.size_alloc] at hz10 | rw [World.size_setCell] at hz10 | rw [World.size_drew] at hz10)))
            go_wp2_with fail
            go_roundw
            case rel => exact ⟨k + 1, by simp, by omega, (hbI.trans (hb9.mono hsI)).trans (hb10.mono (by have := hb9.size; omega))⟩
            case measure => simp [intOf]; omega
    · have hd : decide ((k : Int) < (n : Int)) = false := decide_eq_false (by omega)
      obtain rfl : k = n := by omega
      have hbf : Below w.heap.size w wr := B4.trans (hb.mono B4.size)
      by_cases hA : 2 ≤ M ∧ M ≤ 400
      · obtain ⟨h2, h4⟩ := hA
        have hkp : 0 < k := by
          rw [decide_eq_true h2, decide_eq_true h4] at hend
          have := of_decide_eq_true hend
          omega
        clear hend
        go_wp2_with fail
        (refine (alive _).mono ?_; rintro e w8 ⟨rfl, hb8⟩; have hz8 := hb8.size; (repeat (first | rw [World.size_alloc] at hz8 | rw [World.size_setCell] at hz8 | rw [World.size_drew] at hz8)))
        go_wp2_with fail
        go_returns
        exact ⟨rfl, hbf.trans (hb8.mono hbf.size)⟩
      · have hk0 : k = 0 := by
          have hf : (decide (2 ≤ M) && decide (M ≤ 400)) = false := by rw [← Bool.decide_and]; exact decide_eq_false hA
          rw [hf] at hend
          have := of_decide_eq_false hend
          omega
        clear hend
        subst hk0
        by_cases h2 : 2 ≤ M
        · have h4 : 400 < M := by omega
          go_wp2_with fail
          (refine (alive _).mono ?_; rintro e w8 ⟨rfl, hb8⟩; have hz8 := hb8.size; (repeat (first | rw [World.size_alloc] at hz8 | rw [World.size_setCell] at hz8 | rw [World.size_drew] at hz8)))
          go_wp2_with fail
          go_returns
          exact ⟨by first | rfl | (simp; omega), hbf.trans (hb8.mono hbf.size)⟩
        · go_wp2_with fail
          (refine (alive _).mono ?_; rintro e w8 ⟨rfl, hb8⟩; have hz8 := hb8.size; (repeat (first | rw [World.size_alloc] at hz8 | rw [World.size_setCell] at hz8 | rw [World.size_drew] at hz8)))
          go_wp2_with fail
          go_returns
          exact ⟨by first | rfl | (simp; omega), hbf.trans (hb8.mono hbf.size)⟩
end Go.Proofs.Ytpjememmogaeiaa
