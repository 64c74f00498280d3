import Derived.Test.YtpjememmogaeiaaYv
import Derived.Test.YtpjememmogaeiaaHa
import Derived.BigRegion
import Derived.Deep.RegionHeld3
import Derived.Test.YtpjememmogaeiaaYs
import Derived.Test.YtpjememmogaeiaaR
import Derived.Test.YtpjememmogaeiaaJp
import Derived.Test.YtpjememmogaeiaaUs
import Derived.Test.YtpjememmogaeiaaOs
import Derived.Deep.DeepCutAuto
namespace Go.Proofs.Ytpjememmogaeiaa
open Go Go.RowKit
attribute [local go_sem] World.cell?_alloc_some cell?_alloc2_some cell?_alloc3_some cell?_alloc4_some frozen?_alloc_some frozen?_alloc2_some frozen?_alloc3_some World.cell?_setCell_far new_ne0 new_ne1 new_ne2 new_ne3 lt2 lt3 lt4 lt5 lt6 lt7 lt8 lt9

/-- A number was drawn and the reader was turned. -/
def DrawnR (R : Nat) (w : World) (e : Ending) (w' : World) : Prop := ∃ a b : Int, e = .returned (.agg #[.int .i64 a, .int .i64 b]) ∧ Off R w w'

set_option maxHeartbeats 4000000 in
theorem l20Prime (R : Nat) (w : World) (h : Rd w R 0) :
    Calls Try.prog 44 #[.pointer (some ⟨R, 0, none⟩)] w (DrawnR R w) := by
  have hR := Rd_lt h
  have H := Lib.hid h
  clear h
  go_enter Try.func44, Try.ntmps44
  go_wp2_with fail
  (refine (pick R 0 3 _ (Rd_alloc (Rd_alloc H.out)) (by omega) (by omega)).mono ?_; rintro e w1 ⟨k, rfl, hk0, hk1, ho1, hr1⟩; have hz1 := ho1.size; (repeat (first | rw [World.size_alloc] at hz1 | rw [World.size_setCell] at hz1 | rw [World.size_drew] at hz1)); have pp := T2.F ho1 (by omega) (b := w.heap.size) (x := _) (y := _) (by (repeat (first | ((with_reducible apply T2.mk) <;> (with_reducible assumption)) | (with_reducible apply T2.Z) | (with_reducible apply T2.O) | ((with_reducible apply T2.B); (focus (simp; done))) | (with_reducible apply T2.A) | (with_reducible apply T2.D) | ((with_reducible apply T2.S); focus ((repeat (first | rw [World.size_alloc] | rw [World.size_setCell] | rw [World.size_drew])); omega)) | ((with_reducible apply T2.K); (focus (with_reducible assumption)))))); obtain ⟨kk1, kk2, fkk1, fkk2⟩ := pp; have kk3 := Off.cell ho1 (b := w.heap.size + 1) (o := 0) (v := _) (by omega) (by (repeat (first | (with_reducible assumption) | (with_reducible apply sameS) | ((with_reducible apply born); (focus (simp; done)); (focus rfl)) | (with_reducible apply keepA) | (with_reducible apply keepD) | ((with_reducible apply keepS); focus ((repeat (first | rw [World.size_alloc] | rw [World.size_setCell] | rw [World.size_drew])); omega)) | ((with_reducible apply keep); (focus (with_reducible assumption)))))); have kk4 := Off.cell ho1 (b := w.heap.size + 1) (o := 1) (v := _) (by omega) (by (repeat (first | (with_reducible assumption) | (with_reducible apply sameS) | ((with_reducible apply born); (focus (simp; done)); (focus rfl)) | (with_reducible apply keepA) | (with_reducible apply keepD) | ((with_reducible apply keepS); focus ((repeat (first | rw [World.size_alloc] | rw [World.size_setCell] | rw [World.size_drew])); omega)) | ((with_reducible apply keep); (focus (with_reducible assumption)))))); have kk5 := Off.cell ho1 (b := w.heap.size + 1) (o := 2) (v := _) (by omega) (by (repeat (first | (with_reducible assumption) | (with_reducible apply sameS) | ((with_reducible apply born); (focus (simp; done)); (focus rfl)) | (with_reducible apply keepA) | (with_reducible apply keepD) | ((with_reducible apply keepS); focus ((repeat (first | rw [World.size_alloc] | rw [World.size_setCell] | rw [World.size_drew])); omega)) | ((with_reducible apply keep); (focus (with_reducible assumption)))))); have kk6 := Off.cell ho1 (b := w.heap.size + 1) (o := 3) (v := _) (by omega) (by (repeat (first | (with_reducible assumption) | (with_reducible apply sameS) | ((with_reducible apply born); (focus (simp; done)); (focus rfl)) | (with_reducible apply keepA) | (with_reducible apply keepD) | ((with_reducible apply keepS); focus ((repeat (first | rw [World.size_alloc] | rw [World.size_setCell] | rw [World.size_drew])); omega)) | ((with_reducible apply keep); (focus (with_reducible assumption)))))); have kk7 := Off.cell ho1 (b := w.heap.size + 1) (o := 4) (v := _) (by omega) (by (repeat (first | (with_reducible assumption) | (with_reducible apply sameS) | ((with_reducible apply born); (focus (simp; done)); (focus rfl)) | (with_reducible apply keepA) | (with_reducible apply keepD) | ((with_reducible apply keepS); focus ((repeat (first | rw [World.size_alloc] | rw [World.size_setCell] | rw [World.size_drew])); omega)) | ((with_reducible apply keep); (focus (with_reducible assumption)))))); have kk8 := Off.cell ho1 (b := w.heap.size + 1) (o := 5) (v := _) (by omega) (by (repeat (first | (with_reducible assumption) | (with_reducible apply sameS) | ((with_reducible apply born); (focus (simp; done)); (focus rfl)) | (with_reducible apply keepA) | (with_reducible apply keepD) | ((with_reducible apply keepS); focus ((repeat (first | rw [World.size_alloc] | rw [World.size_setCell] | rw [World.size_drew])); omega)) | ((with_reducible apply keep); (focus (with_reducible assumption)))))); have kk9 := Off.cell ho1 (b := w.heap.size + 1) (o := 6) (v := _) (by omega) (by (repeat (first | (with_reducible assumption) | (with_reducible apply sameS) | ((with_reducible apply born); (focus (simp; done)); (focus rfl)) | (with_reducible apply keepA) | (with_reducible apply keepD) | ((with_reducible apply keepS); focus ((repeat (first | rw [World.size_alloc] | rw [World.size_setCell] | rw [World.size_drew])); omega)) | ((with_reducible apply keep); (focus (with_reducible assumption)))))); have kk10 := Off.cell ho1 (b := w.heap.size + 1) (o := 7) (v := _) (by omega) (by (repeat (first | (with_reducible assumption) | (with_reducible apply sameS) | ((with_reducible apply born); (focus (simp; done)); (focus rfl)) | (with_reducible apply keepA) | (with_reducible apply keepD) | ((with_reducible apply keepS); focus ((repeat (first | rw [World.size_alloc] | rw [World.size_setCell] | rw [World.size_drew])); omega)) | ((with_reducible apply keep); (focus (with_reducible assumption)))))); have kk11 := Off.cell ho1 (b := w.heap.size + 1) (o := 8) (v := _) (by omega) (by (repeat (first | (with_reducible assumption) | (with_reducible apply sameS) | ((with_reducible apply born); (focus (simp; done)); (focus rfl)) | (with_reducible apply keepA) | (with_reducible apply keepD) | ((with_reducible apply keepS); focus ((repeat (first | rw [World.size_alloc] | rw [World.size_setCell] | rw [World.size_drew])); omega)) | ((with_reducible apply keep); (focus (with_reducible assumption)))))); have kk12 := Off.cell ho1 (b := w.heap.size + 1) (o := 9) (v := _) (by omega) (by (repeat (first | (with_reducible assumption) | (with_reducible apply sameS) | ((with_reducible apply born); (focus (simp; done)); (focus rfl)) | (with_reducible apply keepA) | (with_reducible apply keepD) | ((with_reducible apply keepS); focus ((repeat (first | rw [World.size_alloc] | rw [World.size_setCell] | rw [World.size_drew])); omega)) | ((with_reducible apply keep); (focus (with_reducible assumption)))))); have kk13 := Off.cell ho1 (b := w.heap.size + 1) (o := 10) (v := _) (by omega) (by (repeat (first | (with_reducible assumption) | (with_reducible apply sameS) | ((with_reducible apply born); (focus (simp; done)); (focus rfl)) | (with_reducible apply keepA) | (with_reducible apply keepD) | ((with_reducible apply keepS); focus ((repeat (first | rw [World.size_alloc] | rw [World.size_setCell] | rw [World.size_drew])); omega)) | ((with_reducible apply keep); (focus (with_reducible assumption)))))); have kk14 := Off.cell ho1 (b := w.heap.size + 1) (o := 11) (v := _) (by omega) (by (repeat (first | (with_reducible assumption) | (with_reducible apply sameS) | ((with_reducible apply born); (focus (simp; done)); (focus rfl)) | (with_reducible apply keepA) | (with_reducible apply keepD) | ((with_reducible apply keepS); focus ((repeat (first | rw [World.size_alloc] | rw [World.size_setCell] | rw [World.size_drew])); omega)) | ((with_reducible apply keep); (focus (with_reducible assumption)))))); have kk15 := Off.cell ho1 (b := w.heap.size + 1) (o := 12) (v := _) (by omega) (by (repeat (first | (with_reducible assumption) | (with_reducible apply sameS) | ((with_reducible apply born); (focus (simp; done)); (focus rfl)) | (with_reducible apply keepA) | (with_reducible apply keepD) | ((with_reducible apply keepS); focus ((repeat (first | rw [World.size_alloc] | rw [World.size_setCell] | rw [World.size_drew])); omega)) | ((with_reducible apply keep); (focus (with_reducible assumption)))))); have kk16 := Off.cell ho1 (b := w.heap.size + 1) (o := 13) (v := _) (by omega) (by (repeat (first | (with_reducible assumption) | (with_reducible apply sameS) | ((with_reducible apply born); (focus (simp; done)); (focus rfl)) | (with_reducible apply keepA) | (with_reducible apply keepD) | ((with_reducible apply keepS); focus ((repeat (first | rw [World.size_alloc] | rw [World.size_setCell] | rw [World.size_drew])); omega)) | ((with_reducible apply keep); (focus (with_reducible assumption)))))); have kk17 := Off.cell ho1 (b := w.heap.size + 1) (o := 14) (v := _) (by omega) (by (repeat (first | (with_reducible assumption) | (with_reducible apply sameS) | ((with_reducible apply born); (focus (simp; done)); (focus rfl)) | (with_reducible apply keepA) | (with_reducible apply keepD) | ((with_reducible apply keepS); focus ((repeat (first | rw [World.size_alloc] | rw [World.size_setCell] | rw [World.size_drew])); omega)) | ((with_reducible apply keep); (focus (with_reducible assumption)))))); have kk18 := Off.cell ho1 (b := w.heap.size + 1) (o := 15) (v := _) (by omega) (by (repeat (first | (with_reducible assumption) | (with_reducible apply sameS) | ((with_reducible apply born); (focus (simp; done)); (focus rfl)) | (with_reducible apply keepA) | (with_reducible apply keepD) | ((with_reducible apply keepS); focus ((repeat (first | rw [World.size_alloc] | rw [World.size_setCell] | rw [World.size_drew])); omega)) | ((with_reducible apply keep); (focus (with_reducible assumption)))))); have kk19 := Off.cell ho1 (b := w.heap.size + 1) (o := 16) (v := _) (by omega) (by (repeat (first | (with_reducible assumption) | (with_reducible apply sameS) | ((with_reducible apply born); (focus (simp; done)); (focus rfl)) | (with_reducible apply keepA) | (with_reducible apply keepD) | ((with_reducible apply keepS); focus ((repeat (first | rw [World.size_alloc] | rw [World.size_setCell] | rw [World.size_drew])); omega)) | ((with_reducible apply keep); (focus (with_reducible assumption)))))); have kk20 := Off.cell ho1 (b := w.heap.size + 1) (o := 17) (v := _) (by omega) (by (repeat (first | (with_reducible assumption) | (with_reducible apply sameS) | ((with_reducible apply born); (focus (simp; done)); (focus rfl)) | (with_reducible apply keepA) | (with_reducible apply keepD) | ((with_reducible apply keepS); focus ((repeat (first | rw [World.size_alloc] | rw [World.size_setCell] | rw [World.size_drew])); omega)) | ((with_reducible apply keep); (focus (with_reducible assumption)))))); have kk21 := Off.cell ho1 (b := w.heap.size + 1) (o := 18) (v := _) (by omega) (by (repeat (first | (with_reducible assumption) | (with_reducible apply sameS) | ((with_reducible apply born); (focus (simp; done)); (focus rfl)) | (with_reducible apply keepA) | (with_reducible apply keepD) | ((with_reducible apply keepS); focus ((repeat (first | rw [World.size_alloc] | rw [World.size_setCell] | rw [World.size_drew])); omega)) | ((with_reducible apply keep); (focus (with_reducible assumption)))))); have kk22 := Off.cell ho1 (b := w.heap.size + 1) (o := 19) (v := _) (by omega) (by (repeat (first | (with_reducible assumption) | (with_reducible apply sameS) | ((with_reducible apply born); (focus (simp; done)); (focus rfl)) | (with_reducible apply keepA) | (with_reducible apply keepD) | ((with_reducible apply keepS); focus ((repeat (first | rw [World.size_alloc] | rw [World.size_setCell] | rw [World.size_drew])); omega)) | ((with_reducible apply keep); (focus (with_reducible assumption)))))); have Hho1 := Lib.hid ho1; clear ho1; have Hhr1 := Lib.hid hr1; clear hr1)
  have hcell : ∀ j : Nat, j < 10 → ∃ u v : Int, 0 ≤ u ∧ u ≤ 20 ∧ 0 ≤ v ∧ v ≤ 20 ∧ w1.cell? ⟨w.heap.size + 1, j * 2, none⟩ = some (.int .i64 u) ∧ w1.cell? ⟨w.heap.size + 1, j * 2 + 1, none⟩ = some (.int .i64 v) := by
    intro j hj
    obtain rfl | rfl | rfl | rfl | rfl | rfl | rfl | rfl | rfl | rfl : j = 0 ∨ j = 1 ∨ j = 2 ∨ j = 3 ∨ j = 4 ∨ j = 5 ∨ j = 6 ∨ j = 7 ∨ j = 8 ∨ j = 9 := by omega
    · exact ⟨1, 1, by decide, by decide, by decide, by decide, by assumption, by assumption⟩
    · exact ⟨2, 1, by decide, by decide, by decide, by decide, by assumption, by assumption⟩
    · exact ⟨1, 2, by decide, by decide, by decide, by decide, by assumption, by assumption⟩
    · exact ⟨3, 0, by decide, by decide, by decide, by decide, by assumption, by assumption⟩
    · exact ⟨3, 2, by decide, by decide, by decide, by decide, by assumption, by assumption⟩
    · exact ⟨4, 1, by decide, by decide, by decide, by decide, by assumption, by assumption⟩
    · exact ⟨7, 0, by decide, by decide, by decide, by decide, by assumption, by assumption⟩
    · exact ⟨5, 2, by decide, by decide, by decide, by decide, by assumption, by assumption⟩
    · exact ⟨2, 3, by decide, by decide, by decide, by decide, by assumption, by assumption⟩
    · exact ⟨11, 0, by decide, by decide, by decide, by decide, by assumption, by assumption⟩
  by_cases hk : 0 < k
  · have hd : decide (0 < k) = true := decide_eq_true hk
    clear kk3 kk4 kk5 kk6 kk7 kk8 kk9 kk10 kk11 kk12 kk13 kk14 kk15 kk16 kk17 kk18 kk19 kk20 kk21 kk22
    go_wp2_with fail
    have M1 : Nonempty Nat := ⟨0⟩
    go_region_with (first | (go_at_call 57; clear M1; (refine (pick R 1 10 _ (by first | exact Hhr1.out | exact Rd_drew Hhr1.out) (by omega) (by omega)).mono ?_; rintro e w2 ⟨k1, rfl, ha0, ha1, ho2, hr2⟩; have hz2 := ho2.size; (repeat (first | rw [World.size_alloc] at hz2 | rw [World.size_setCell] at hz2 | rw [World.size_drew] at hz2)); have pp := T2.F ho2 (by omega) (b := w.heap.size) (x := _) (y := _) (by (repeat (first | ((with_reducible apply T2.mk) <;> (with_reducible assumption)) | (with_reducible apply T2.Z) | (with_reducible apply T2.O) | ((with_reducible apply T2.B); (focus (simp; done))) | (with_reducible apply T2.A) | (with_reducible apply T2.D) | ((with_reducible apply T2.S); focus ((repeat (first | rw [World.size_alloc] | rw [World.size_setCell] | rw [World.size_drew])); omega)) | ((with_reducible apply T2.K); (focus (with_reducible assumption)))))); obtain ⟨kk23, kk24, fkk23, fkk24⟩ := pp; (try clear kk1 kk2 fkk1 fkk2 kk3 kk4 kk5 kk6 kk7 kk8 kk9 kk10 kk11 kk12 kk13 kk14 kk15 kk16 kk17 kk18 kk19 kk20 kk21 kk22); have Hhr2 := Lib.hid hr2; clear hr2); obtain ⟨j, rfl⟩ := Int.eq_ofNat_of_zero_le ha0; have hj : j < 10 := (by omega); have hj1 : (j : Int) < 10 := (by omega); obtain ⟨u, v, hu1, hu2, hv1, hv2, c0, c1⟩ := hcell j hj; have l0 := Off.cell ho2 (b := w.heap.size + 1) (o := j * 2) (v := .int .i64 u) (by omega) (by first | exact c0 | (repeat (first | (with_reducible assumption) | (with_reducible apply sameS) | ((with_reducible apply born); (focus (simp; done)); (focus rfl)) | (with_reducible apply keepA) | (with_reducible apply keepD) | ((with_reducible apply keepS); focus ((repeat (first | rw [World.size_alloc] | rw [World.size_setCell] | rw [World.size_drew])); omega)) | ((with_reducible apply keep); (focus (with_reducible assumption)))))); have l1 := Off.cell ho2 (b := w.heap.size + 1) (o := j * 2 + 1) (v := .int .i64 v) (by omega) (by first | exact c1 | (repeat (first | (with_reducible assumption) | (with_reducible apply sameS) | ((with_reducible apply born); (focus (simp; done)); (focus rfl)) | (with_reducible apply keepA) | (with_reducible apply keepD) | ((with_reducible apply keepS); focus ((repeat (first | rw [World.size_alloc] | rw [World.size_setCell] | rw [World.size_drew])); omega)) | ((with_reducible apply keep); (focus (with_reducible assumption)))))); have Ho2 := Lib.hid ho2; clear c0 c1 ho2) | (go_at_call 57; (refine (pick R 2 4 _ (by first | exact Hhr2.out | exact Rd_drew Hhr2.out) (by omega) (by omega)).mono ?_; rintro e w3 ⟨k2, rfl, hb0, hb1, ho3, hr3⟩; have hz3 := ho3.size; (repeat (first | rw [World.size_alloc] at hz3 | rw [World.size_setCell] at hz3 | rw [World.size_drew] at hz3)); have pp := T2.F ho3 (by omega) (b := w.heap.size) (x := _) (y := _) (by (repeat (first | ((with_reducible apply T2.mk) <;> (with_reducible assumption)) | (with_reducible apply T2.Z) | (with_reducible apply T2.O) | ((with_reducible apply T2.B); (focus (simp; done))) | (with_reducible apply T2.A) | (with_reducible apply T2.D) | ((with_reducible apply T2.S); focus ((repeat (first | rw [World.size_alloc] | rw [World.size_setCell] | rw [World.size_drew])); omega)) | ((with_reducible apply T2.K); (focus (with_reducible assumption)))))); obtain ⟨kk25, kk26, fkk25, fkk26⟩ := pp; (try clear kk23 kk24 fkk23 fkk24); have Hhr3 := Lib.hid hr3; clear hr3); have l0' := Off.cell ho3 (b := w.heap.size + 1) (o := j * 2) (v := .int .i64 u) (by omega) (by first | exact l0 | (repeat (first | (with_reducible assumption) | (with_reducible apply sameS) | ((with_reducible apply born); (focus (simp; done)); (focus rfl)) | (with_reducible apply keepA) | (with_reducible apply keepD) | ((with_reducible apply keepS); focus ((repeat (first | rw [World.size_alloc] | rw [World.size_setCell] | rw [World.size_drew])); omega)) | ((with_reducible apply keep); (focus (with_reducible assumption)))))); have l1' := Off.cell ho3 (b := w.heap.size + 1) (o := j * 2 + 1) (v := .int .i64 v) (by omega) (by first | exact l1 | (repeat (first | (with_reducible assumption) | (with_reducible apply sameS) | ((with_reducible apply born); (focus (simp; done)); (focus rfl)) | (with_reducible apply keepA) | (with_reducible apply keepD) | ((with_reducible apply keepS); focus ((repeat (first | rw [World.size_alloc] | rw [World.size_setCell] | rw [World.size_drew])); omega)) | ((with_reducible apply keep); (focus (with_reducible assumption)))))); have Ho3 := Lib.hid ho3; clear l0 l1 ho3) | (go_at_call 64; (refine (l2Turn _ _ _ _ hb0 (by omega) (by omega) (by omega) (by omega) (by omega)).mono ?_; rintro e w5 ⟨rfl, hb5⟩; have hz5 := hb5.size; (repeat (first | rw [World.size_alloc] at hz5 | rw [World.size_setCell] at hz5 | rw [World.size_drew] at hz5)); have pp := T2.K hb5 (b := w.heap.size) (x := _) (y := _) (by (repeat (first | ((with_reducible apply T2.mk) <;> (with_reducible assumption)) | (with_reducible apply T2.Z) | (with_reducible apply T2.O) | ((with_reducible apply T2.B); (focus (simp; done))) | (with_reducible apply T2.A) | (with_reducible apply T2.D) | ((with_reducible apply T2.S); focus ((repeat (first | rw [World.size_alloc] | rw [World.size_setCell] | rw [World.size_drew])); omega)) | ((with_reducible apply T2.K); (focus (with_reducible assumption)))))); obtain ⟨kk27, kk28, fkk27, fkk28⟩ := pp; (try clear kk25 kk26 fkk25 fkk26)); have Ho5 := Lib.hid (Off.of_below (R := R) hb5)))
    all_goals go_wp2_with fail
    all_goals
      have ho1 := Hho1.out
      have ho2 := Ho2.out
      have ho3 := Ho3.out
      have ho5 := Ho5.out
      refine bodyPost_ret (v := .agg #[.int .i64 (tuA k2 u v), .int .i64 (tuB k2 u v)]) (by simp [results, Try.results44, go_sem, *]) rfl ?_; exact ⟨_, _, rfl, by (repeat' (first | (with_reducible exact Off.refl _ _) | (with_reducible apply Off.alloc) | (with_reducible apply Off.drew) | ((with_reducible apply Off.setCell); focus (first | omega | (simp; done) | (simp; omega))) | (with_reducible refine Off.trans ?_ (by assumption))))⟩
  · have hd : decide (0 < k) = false := decide_eq_false hk
    clear kk3 kk4 kk5 kk6 kk7 kk8 kk9 kk10 kk11 kk12 kk13 kk14 kk15 kk16 kk17 kk18 kk19 kk20 kk21 kk22
    go_wp2_with fail
    (refine (l20Gauss R 1 9 _ Hhr1.out (by omega) (by omega)).mono ?_; rintro e w2 ⟨a, b, rfl, hg2, ho2, p2, hp1, hp2, hr2⟩; have hz2 := ho2.size; (repeat (first | rw [World.size_alloc] at hz2 | rw [World.size_setCell] at hz2 | rw [World.size_drew] at hz2)); have pp := T2.F ho2 (by omega) (b := w.heap.size) (x := _) (y := _) (by (repeat (first | ((with_reducible apply T2.mk) <;> (with_reducible assumption)) | (with_reducible apply T2.Z) | (with_reducible apply T2.O) | ((with_reducible apply T2.B); (focus (simp; done))) | (with_reducible apply T2.A) | (with_reducible apply T2.D) | ((with_reducible apply T2.S); focus ((repeat (first | rw [World.size_alloc] | rw [World.size_setCell] | rw [World.size_drew])); omega)) | ((with_reducible apply T2.K); (focus (with_reducible assumption)))))); obtain ⟨kk29, kk30, fkk29, fkk30⟩ := pp; (try clear kk27 kk28 fkk27 fkk28); have Hho2 := Lib.hid ho2; clear ho2; have Hhr2 := Lib.hid hr2; clear hr2; have Hhg2 := Lib.hid hg2; clear hg2)
    go_wp2_with fail
    have ho1 := Hho1.out
    have ho2 := Hho2.out
    refine bodyPost_ret (v := .agg #[.int .i64 a, .int .i64 b]) (by simp [results, Try.results44, go_sem, *]) rfl ?_; exact ⟨_, _, rfl, by (repeat' (first | (with_reducible exact Off.refl _ _) | (with_reducible apply Off.alloc) | (with_reducible apply Off.drew) | ((with_reducible apply Off.setCell); focus (first | omega | (simp; done) | (simp; omega))) | (with_reducible refine Off.trans ?_ (by assumption))))⟩

theorem drawPrimeOk (a : Option Addr) (len cap : Nat) (zs : List Int) (w : World) (h : IsRow .u8 w a len cap zs) :
    Calls Try.prog 13 #[.slice a len cap] w (DrawnZ w) := by
  go_enter Try.func13, Try.ntmps13
  go_wp2_with fail
  (refine (l20Open_at (w.heap.size + 1) a len cap zs _ h.alloc (by simp)).mono ?_; rintro e w1 ⟨rfl, hr1, hb1⟩; have hz1 := hb1.size; (repeat (first | rw [World.size_alloc] at hz1 | rw [World.size_setCell] at hz1 | rw [World.size_drew] at hz1)); have pp := T2.K hb1 (b := w.heap.size) (x := _) (y := _) (by (repeat (first | ((with_reducible apply T2.mk) <;> (with_reducible assumption)) | (with_reducible apply T2.Z) | (with_reducible apply T2.O) | ((with_reducible apply T2.B); (focus (simp; done))) | (with_reducible apply T2.A) | (with_reducible apply T2.D) | ((with_reducible apply T2.S); focus ((repeat (first | rw [World.size_alloc] | rw [World.size_setCell] | rw [World.size_drew])); omega)) | ((with_reducible apply T2.K); (focus (with_reducible assumption)))))); obtain ⟨kk1, kk2, fkk1, fkk2⟩ := pp)
  have Hr1 := Lib.hid hr1
  have Hb1 := Lib.hid hb1
  clear hr1 hb1
  go_wp2_with fail
  (refine (l20Prime (w.heap.size + 1) _ Hr1.out).mono ?_; rintro e w2 ⟨x, y, rfl, ho2⟩; have hz2 := ho2.size; (repeat (first | rw [World.size_alloc] at hz2 | rw [World.size_setCell] at hz2 | rw [World.size_drew] at hz2)); have pp := T2.F ho2 (by omega) (b := w.heap.size) (x := _) (y := _) (by (repeat (first | ((with_reducible apply T2.mk) <;> (with_reducible assumption)) | (with_reducible apply T2.Z) | (with_reducible apply T2.O) | ((with_reducible apply T2.B); (focus (simp; done))) | (with_reducible apply T2.A) | (with_reducible apply T2.D) | ((with_reducible apply T2.S); focus ((repeat (first | rw [World.size_alloc] | rw [World.size_setCell] | rw [World.size_drew])); omega)) | ((with_reducible apply T2.K); (focus (with_reducible assumption)))))); obtain ⟨kk3, kk4, fkk3, fkk4⟩ := pp; (try clear kk1 kk2 fkk1 fkk2))
  have Ho2 := Lib.hid (ho2.below (B := w.heap.size) (by omega) (by omega))
  clear ho2
  go_wp2_with fail
  have hb1 := Hb1.out
  have ho2 := Ho2.out
  refine bodyPost_ret (v := .agg #[.int .i64 x, .int .i64 y]) (by simp [results, Try.results13, go_sem, *]) rfl ?_; exact ⟨x, y, rfl, by (repeat' (first | (with_reducible exact Below.refl _ _) | (with_reducible refine Below.alloc ?_ ?_ _) | (with_reducible refine Below.drew ?_) | (with_reducible refine Below.setCell ?_ ?_ _) | (with_reducible refine Below.trans ?_ (Below.mono (by assumption) ?_)) | go_size))⟩
end Go.Proofs.Ytpjememmogaeiaa

namespace Go.Proofs.Ytpjememmogaeiaa
open Go Go.RowKit
attribute [local go_sem] World.cell?_alloc_some cell?_alloc2_some cell?_alloc3_some cell?_alloc4_some frozen?_alloc_some frozen?_alloc2_some frozen?_alloc3_some World.cell?_setCell_far new_ne0 new_ne1 new_ne2 new_ne3 lt2 lt3 lt4 lt5 lt6 lt7 lt8 lt9
attribute [local go_sem ↓] eqG neG
attribute [local go_sem] cell?_alloc_lt frozen?_alloc_lt lt10

theorem sGaussOk_y {a b : Int} {o : Bool} (w : World) (h : gok a b = o) : Calls Try.prog 16 #[.agg #[.int .i64 a, .int .i64 b]] w fun e w' => e = .returned (.bool o) ∧ Below w.heap.size w w' := by subst h; exact sGaussOk a b w
theorem dvL_two {x y : Int} {o : Bool} (k : gok x y = true) (ho : prO x y = o) : 2000 < nrm x y ∨ ((((dvL x y).length : Nat) : Int) == 2) = o := by
  by_cases h2 : 2000 < nrm x y
  · exact .inl h2
  refine .inr ?_
  by_cases h1 : nrm x y < 1
  · have hz : x = 0 ∧ y = 0 := Classical.byContradiction fun hz => by have := nrm_pos k hz; omega
    obtain ⟨rfl, rfl⟩ := hz
    rw [dvL_no (.inl h1)]
    subst ho
    rw [prO_on k (.inl rfl)]
    rfl
  · obtain ⟨-, -, -, hp, hz, -⟩ := dvL_yes (a := x) (b := y) (by omega) (by omega)
    have := hp.two k hz (by have := nrm_t k; omega)
    rw [Bool.eq_iff_iff, beq_iff_eq, ← ho, ← this]
    omega

set_option maxRecDepth 100000 in
set_option maxHeartbeats 8000000 in
theorem walkFnPrimeOk (a0 : Option Addr) (len cap : Nat) (zs : List Int) (a1 : Option Addr) (len1 cap1 : Nat) (zs1 : List Int) (w : World) (r0 : IsRow .u8 w a0 len cap zs) (r1 : IsRow .u8 w a1 len1 cap1 zs1) :
    Calls Try.prog 3 #[.slice a0 len cap, .slice a1 len1 cap1] w fun e w' => e = .returned (.bool true) ∧ Below w.heap.size w w' := by
  by_cases hl0 : 1048576 < len
  · clear r0 r1
    go_enter Try.func3, Try.ntmps3
    go_wp2_with fail
    go_returns
    exact ⟨rfl, by (repeat' (first | (with_reducible exact Below.refl _ _) | (with_reducible refine Below.alloc ?_ ?_ _) | (with_reducible refine Below.drew ?_) | (with_reducible refine Below.setCell ?_ ?_ _) | (with_reducible refine Below.trans ?_ (Below.mono (by assumption) ?_)) | go_size))⟩
  by_cases hl1 : 1048576 < len1
  · clear r0 r1
    go_enter Try.func3, Try.ntmps3
    go_wp2_with fail
    go_returns
    exact ⟨rfl, by (repeat' (first | (with_reducible exact Below.refl _ _) | (with_reducible refine Below.alloc ?_ ?_ _) | (with_reducible refine Below.drew ?_) | (with_reducible refine Below.setCell ?_ ?_ _) | (with_reducible refine Below.trans ?_ (Below.mono (by assumption) ?_)) | go_size))⟩
  go_enter Try.func3, Try.ntmps3
  go_wp2_with fail
  (refine (drawPrimeOk a0 len cap zs _ (by (repeat (first | (with_reducible assumption) | (with_reducible apply IsRow.alloc) | (with_reducible apply IsRow.drew) | ((with_reducible apply IsRow.below); (focus (with_reducible assumption))))))).mono ?_; rintro e w1 ⟨x, y, rfl, hb1⟩; have hz1 := hb1.size; (repeat (first | rw [World.size_alloc] at hz1 | rw [World.size_setCell] at hz1 | rw [World.size_drew] at hz1)))
  go_wp2_with fail
  obtain ⟨ok, hok⟩ : ∃ ok, prO x y = ok := ⟨_, rfl⟩
  (refine (iPrimeOk_v _ hok).mono ?_; rintro e w2 ⟨rfl, hb2⟩; have hz2 := hb2.size; (repeat (first | rw [World.size_alloc] at hz2 | rw [World.size_setCell] at hz2 | rw [World.size_drew] at hz2)); have pp := C2.K hb2 (b := w1.heap.size) (x := _) (y := _) (by (repeat (first | ((with_reducible apply C2.mk) <;> (with_reducible assumption)) | (with_reducible apply C2.Z) | (with_reducible apply C2.O) | ((with_reducible apply C2.B); (focus (simp; done))) | (with_reducible apply C2.A) | (with_reducible apply C2.D) | ((with_reducible apply C2.S); focus ((repeat (first | rw [World.size_alloc] | rw [World.size_setCell] | rw [World.size_drew])); omega)) | ((with_reducible apply C2.K); (focus (with_reducible assumption)))))); obtain ⟨kk1, kk2⟩ := pp)
  go_wp2_with fail
  (refine (sPrimeOk_v _ hok).mono ?_; rintro e w3 ⟨rfl, hb3⟩; have hz3 := hb3.size; (repeat (first | rw [World.size_alloc] at hz3 | rw [World.size_setCell] at hz3 | rw [World.size_drew] at hz3)); have pp := C2.K hb3 (b := w1.heap.size) (x := _) (y := _) (by (repeat (first | ((with_reducible apply C2.mk) <;> (with_reducible assumption)) | (with_reducible apply C2.Z) | (with_reducible apply C2.O) | ((with_reducible apply C2.B); (focus (simp; done))) | (with_reducible apply C2.A) | (with_reducible apply C2.D) | ((with_reducible apply C2.S); focus ((repeat (first | rw [World.size_alloc] | rw [World.size_setCell] | rw [World.size_drew])); omega)) | ((with_reducible apply C2.K); (focus (with_reducible assumption)))))); obtain ⟨kk3, kk4⟩ := pp; (try clear kk1 kk2))
  obtain ⟨k, hk⟩ : ∃ k, gok x y = k := ⟨_, rfl⟩
  cases k
  · obtain rfl : ok = false := by rw [← hok]; exact prO_f hk
    go_wp2_with fail
    (refine (sGaussOk_y _ hk).mono ?_; rintro e w4 ⟨rfl, hb4⟩; have hz4 := hb4.size; (repeat (first | rw [World.size_alloc] at hz4 | rw [World.size_setCell] at hz4 | rw [World.size_drew] at hz4)); (try clear kk3 kk4))
    go_wp2_with fail
    (refine (alive _).mono ?_; rintro e w5 ⟨rfl, hb5⟩; have hz5 := hb5.size; (repeat (first | rw [World.size_alloc] at hz5 | rw [World.size_setCell] at hz5 | rw [World.size_drew] at hz5)))
    go_wp2_with fail
    go_returns
    exact ⟨rfl, by (repeat' (first | (with_reducible exact Below.refl _ _) | (with_reducible refine Below.alloc ?_ ?_ _) | (with_reducible refine Below.drew ?_) | (with_reducible refine Below.setCell ?_ ?_ _) | (with_reducible refine Below.trans ?_ (Below.mono (by assumption) ?_)) | go_size))⟩
  have HF := dvL_two hk hok
  obtain ⟨m, hm⟩ : ∃ m, nrm x y = m := ⟨_, rfl⟩
  rw [hm] at HF
  cases ok
  · go_wp2_with fail
    (refine (sGaussOk_y _ hk).mono ?_; rintro e w4 ⟨rfl, hb4⟩; have hz4 := hb4.size; (repeat (first | rw [World.size_alloc] at hz4 | rw [World.size_setCell] at hz4 | rw [World.size_drew] at hz4)); have pp := C2.K hb4 (b := w1.heap.size) (x := _) (y := _) (by (repeat (first | ((with_reducible apply C2.mk) <;> (with_reducible assumption)) | (with_reducible apply C2.Z) | (with_reducible apply C2.O) | ((with_reducible apply C2.B); (focus (simp; done))) | (with_reducible apply C2.A) | (with_reducible apply C2.D) | ((with_reducible apply C2.S); focus ((repeat (first | rw [World.size_alloc] | rw [World.size_setCell] | rw [World.size_drew])); omega)) | ((with_reducible apply C2.K); (focus (with_reducible assumption)))))); obtain ⟨kk5, kk6⟩ := pp)
    clear hk
    go_wp2_with fail
    (refine (drawPlusOf a1 len1 cap1 zs1 _ (by (repeat (first | (with_reducible assumption) | (with_reducible apply IsRow.alloc) | (with_reducible apply IsRow.drew) | ((with_reducible apply IsRow.below); (focus (with_reducible assumption))))))).mono ?_; rintro e w5 ⟨a, b, c, d, rfl, -, -, hb5⟩; have hz5 := hb5.size; (repeat (first | rw [World.size_alloc] at hz5 | rw [World.size_setCell] at hz5 | rw [World.size_drew] at hz5)); have pp := C2.K hb5 (b := w1.heap.size) (x := _) (y := _) (by (repeat (first | ((with_reducible apply C2.mk) <;> (with_reducible assumption)) | (with_reducible apply C2.Z) | (with_reducible apply C2.O) | ((with_reducible apply C2.B); (focus (simp; done))) | (with_reducible apply C2.A) | (with_reducible apply C2.D) | ((with_reducible apply C2.S); focus ((repeat (first | rw [World.size_alloc] | rw [World.size_setCell] | rw [World.size_drew])); omega)) | ((with_reducible apply C2.K); (focus (with_reducible assumption)))))); obtain ⟨kk7, kk8⟩ := pp; (try clear kk5 kk6))
    clear hok
    go_wp2_with fail
    obtain ⟨po, p1, p2, hp⟩ := ti_is a b c d
    (refine (iTimesOf_v _ hp).mono ?_; rintro e w6 ⟨rfl, hb6⟩; have hz6 := hb6.size; (repeat (first | rw [World.size_alloc] at hz6 | rw [World.size_setCell] at hz6 | rw [World.size_drew] at hz6)); have pp := C2.K hb6 (b := w1.heap.size) (x := _) (y := _) (by (repeat (first | ((with_reducible apply C2.mk) <;> (with_reducible assumption)) | (with_reducible apply C2.Z) | (with_reducible apply C2.O) | ((with_reducible apply C2.B); (focus (simp; done))) | (with_reducible apply C2.A) | (with_reducible apply C2.D) | ((with_reducible apply C2.S); focus ((repeat (first | rw [World.size_alloc] | rw [World.size_setCell] | rw [World.size_drew])); omega)) | ((with_reducible apply C2.K); (focus (with_reducible assumption)))))); obtain ⟨kk9, kk10⟩ := pp; (try clear kk7 kk8))
    clear hp
    go_wp2_with fail
    (refine (iDivisorsOf x y _).mono ?_; rintro e w8 ⟨v8, rfl, g8, hb8⟩; have hz8 := hb8.size; (repeat (first | rw [World.size_alloc] at hz8 | rw [World.size_setCell] at hz8 | rw [World.size_drew] at hz8)); have pp := C2.K hb8 (b := w1.heap.size) (x := _) (y := _) (by (repeat (first | ((with_reducible apply C2.mk) <;> (with_reducible assumption)) | (with_reducible apply C2.Z) | (with_reducible apply C2.O) | ((with_reducible apply C2.B); (focus (simp; done))) | (with_reducible apply C2.A) | (with_reducible apply C2.D) | ((with_reducible apply C2.S); focus ((repeat (first | rw [World.size_alloc] | rw [World.size_setCell] | rw [World.size_drew])); omega)) | ((with_reducible apply C2.K); (focus (with_reducible assumption)))))); obtain ⟨kk11, kk12⟩ := pp; (try clear kk9 kk10))
    obtain ⟨a', cap', rfl, -⟩ := g8.form
    clear g8
    obtain ⟨n, hn⟩ : ∃ n, (dvL x y).length = n := ⟨_, rfl⟩
    rw [hn] at HF ⊢
    clear hn
    have HFF := Lib.hid HF
    clear HF
    go_wp2_with fail
    (refine (sNormOf_v _ hm).mono ?_; rintro e w9 ⟨rfl, hb9⟩; have hz9 := hb9.size; (repeat (first | rw [World.size_alloc] at hz9 | rw [World.size_setCell] at hz9 | rw [World.size_drew] at hz9)); (try clear kk11 kk12))
    obtain HN | HN := HFF.out
    · have hd : decide (2000 < m) = true := decide_eq_true HN
      clear HFF HN
      go_wp2_with fail
      (refine (alive _).mono ?_; rintro e w10 ⟨rfl, hb10⟩; have hz10 := hb10.size; (repeat (first | rw [World.size_alloc] at hz10 | rw [World.size_setCell] at hz10 | rw [World.size_drew] at hz10)))
      go_wp2_with fail
      go_returns
      exact ⟨rfl, by (repeat' (first | (with_reducible exact Below.refl _ _) | (with_reducible refine Below.alloc ?_ ?_ _) | (with_reducible refine Below.drew ?_) | (with_reducible refine Below.setCell ?_ ?_ _) | (with_reducible refine Below.trans ?_ (Below.mono (by assumption) ?_)) | go_size))⟩
    · by_cases HM : 2000 < m
      · have hd : decide (2000 < m) = true := decide_eq_true HM
        clear HFF HN HM
        go_wp2_with fail
        (refine (alive _).mono ?_; rintro e w10 ⟨rfl, hb10⟩; have hz10 := hb10.size; (repeat (first | rw [World.size_alloc] at hz10 | rw [World.size_setCell] at hz10 | rw [World.size_drew] at hz10)))
        go_wp2_with fail
        go_returns
        exact ⟨rfl, by (repeat' (first | (with_reducible exact Below.refl _ _) | (with_reducible refine Below.alloc ?_ ?_ _) | (with_reducible refine Below.drew ?_) | (with_reducible refine Below.setCell ?_ ?_ _) | (with_reducible refine Below.trans ?_ (Below.mono (by assumption) ?_)) | go_size))⟩
      · have hd : decide (2000 < m) = false := decide_eq_false HM
        clear HFF HM
        go_wp2_with fail
        (refine (alive _).mono ?_; rintro e w10 ⟨rfl, hb10⟩; have hz10 := hb10.size; (repeat (first | rw [World.size_alloc] at hz10 | rw [World.size_setCell] at hz10 | rw [World.size_drew] at hz10)))
        go_wp2_with fail
        go_returns
        exact ⟨rfl, by (repeat' (first | (with_reducible exact Below.refl _ _) | (with_reducible refine Below.alloc ?_ ?_ _) | (with_reducible refine Below.drew ?_) | (with_reducible refine Below.setCell ?_ ?_ _) | (with_reducible refine Below.trans ?_ (Below.mono (by assumption) ?_)) | go_size))⟩
  · go_wp2_with fail
    (refine (sGaussOk_y _ hk).mono ?_; rintro e w4 ⟨rfl, hb4⟩; have hz4 := hb4.size; (repeat (first | rw [World.size_alloc] at hz4 | rw [World.size_setCell] at hz4 | rw [World.size_drew] at hz4)); have pp := C2.K hb4 (b := w1.heap.size) (x := _) (y := _) (by (repeat (first | ((with_reducible apply C2.mk) <;> (with_reducible assumption)) | (with_reducible apply C2.Z) | (with_reducible apply C2.O) | ((with_reducible apply C2.B); (focus (simp; done))) | (with_reducible apply C2.A) | (with_reducible apply C2.D) | ((with_reducible apply C2.S); focus ((repeat (first | rw [World.size_alloc] | rw [World.size_setCell] | rw [World.size_drew])); omega)) | ((with_reducible apply C2.K); (focus (with_reducible assumption)))))); obtain ⟨kk13, kk14⟩ := pp)
    clear hk
    go_wp2_with fail
    (refine (drawPlusOf a1 len1 cap1 zs1 _ (by (repeat (first | (with_reducible assumption) | (with_reducible apply IsRow.alloc) | (with_reducible apply IsRow.drew) | ((with_reducible apply IsRow.below); (focus (with_reducible assumption))))))).mono ?_; rintro e w5 ⟨a, b, c, d, rfl, -, -, hb5⟩; have hz5 := hb5.size; (repeat (first | rw [World.size_alloc] at hz5 | rw [World.size_setCell] at hz5 | rw [World.size_drew] at hz5)); have pp := C2.K hb5 (b := w1.heap.size) (x := _) (y := _) (by (repeat (first | ((with_reducible apply C2.mk) <;> (with_reducible assumption)) | (with_reducible apply C2.Z) | (with_reducible apply C2.O) | ((with_reducible apply C2.B); (focus (simp; done))) | (with_reducible apply C2.A) | (with_reducible apply C2.D) | ((with_reducible apply C2.S); focus ((repeat (first | rw [World.size_alloc] | rw [World.size_setCell] | rw [World.size_drew])); omega)) | ((with_reducible apply C2.K); (focus (with_reducible assumption)))))); obtain ⟨kk15, kk16⟩ := pp; (try clear kk13 kk14))
    go_wp2_with fail
    obtain ⟨po, p1, p2, hp⟩ := ti_is a b c d
    (refine (iTimesOf_v _ hp).mono ?_; rintro e w6 ⟨rfl, hb6⟩; have hz6 := hb6.size; (repeat (first | rw [World.size_alloc] at hz6 | rw [World.size_setCell] at hz6 | rw [World.size_drew] at hz6)); have pp := C2.K hb6 (b := w1.heap.size) (x := _) (y := _) (by (repeat (first | ((with_reducible apply C2.mk) <;> (with_reducible assumption)) | (with_reducible apply C2.Z) | (with_reducible apply C2.O) | ((with_reducible apply C2.B); (focus (simp; done))) | (with_reducible apply C2.A) | (with_reducible apply C2.D) | ((with_reducible apply C2.S); focus ((repeat (first | rw [World.size_alloc] | rw [World.size_setCell] | rw [World.size_drew])); omega)) | ((with_reducible apply C2.K); (focus (with_reducible assumption)))))); obtain ⟨kk17, kk18⟩ := pp; have pp := C2.K hb6 (b := w5.heap.size) (x := _) (y := _) (by (repeat (first | ((with_reducible apply C2.mk) <;> (with_reducible assumption)) | (with_reducible apply C2.Z) | (with_reducible apply C2.O) | ((with_reducible apply C2.B); (focus (simp; done))) | (with_reducible apply C2.A) | (with_reducible apply C2.D) | ((with_reducible apply C2.S); focus ((repeat (first | rw [World.size_alloc] | rw [World.size_setCell] | rw [World.size_drew])); omega)) | ((with_reducible apply C2.K); (focus (with_reducible assumption)))))); obtain ⟨kk19, kk20⟩ := pp; have pp := C2.K hb6 (b := w5.heap.size + 1) (x := _) (y := _) (by (repeat (first | ((with_reducible apply C2.mk) <;> (with_reducible assumption)) | (with_reducible apply C2.Z) | (with_reducible apply C2.O) | ((with_reducible apply C2.B); (focus (simp; done))) | (with_reducible apply C2.A) | (with_reducible apply C2.D) | ((with_reducible apply C2.S); focus ((repeat (first | rw [World.size_alloc] | rw [World.size_setCell] | rw [World.size_drew])); omega)) | ((with_reducible apply C2.K); (focus (with_reducible assumption)))))); obtain ⟨kk21, kk22⟩ := pp; (try clear kk15 kk16))
    cases po
    · clear hp hok
      go_wp2_with fail
      (refine (iDivisorsOf x y _).mono ?_; rintro e w8 ⟨v8, rfl, g8, hb8⟩; have hz8 := hb8.size; (repeat (first | rw [World.size_alloc] at hz8 | rw [World.size_setCell] at hz8 | rw [World.size_drew] at hz8)); have pp := C2.K hb8 (b := w1.heap.size) (x := _) (y := _) (by (repeat (first | ((with_reducible apply C2.mk) <;> (with_reducible assumption)) | (with_reducible apply C2.Z) | (with_reducible apply C2.O) | ((with_reducible apply C2.B); (focus (simp; done))) | (with_reducible apply C2.A) | (with_reducible apply C2.D) | ((with_reducible apply C2.S); focus ((repeat (first | rw [World.size_alloc] | rw [World.size_setCell] | rw [World.size_drew])); omega)) | ((with_reducible apply C2.K); (focus (with_reducible assumption)))))); obtain ⟨kk23, kk24⟩ := pp; (try clear kk17 kk18 kk19 kk20 kk21 kk22))
      obtain ⟨a', cap', rfl, -⟩ := g8.form
      clear g8
      obtain ⟨n, hn⟩ : ∃ n, (dvL x y).length = n := ⟨_, rfl⟩
      rw [hn] at HF ⊢
      clear hn
      have HFF := Lib.hid HF
      clear HF
      go_wp2_with fail
      (refine (sNormOf_v _ hm).mono ?_; rintro e w9 ⟨rfl, hb9⟩; have hz9 := hb9.size; (repeat (first | rw [World.size_alloc] at hz9 | rw [World.size_setCell] at hz9 | rw [World.size_drew] at hz9)); (try clear kk23 kk24))
      obtain HN | HN := HFF.out
      · have hd : decide (2000 < m) = true := decide_eq_true HN
        clear HFF HN
        go_wp2_with fail
        (refine (alive _).mono ?_; rintro e w10 ⟨rfl, hb10⟩; have hz10 := hb10.size; (repeat (first | rw [World.size_alloc] at hz10 | rw [World.size_setCell] at hz10 | rw [World.size_drew] at hz10)))
        go_wp2_with fail
        go_returns
        exact ⟨rfl, by (repeat' (first | (with_reducible exact Below.refl _ _) | (with_reducible refine Below.alloc ?_ ?_ _) | (with_reducible refine Below.drew ?_) | (with_reducible refine Below.setCell ?_ ?_ _) | (with_reducible refine Below.trans ?_ (Below.mono (by assumption) ?_)) | go_size))⟩
      · by_cases HM : 2000 < m
        · have hd : decide (2000 < m) = true := decide_eq_true HM
          clear HFF HN HM
          go_wp2_with fail
          (refine (alive _).mono ?_; rintro e w10 ⟨rfl, hb10⟩; have hz10 := hb10.size; (repeat (first | rw [World.size_alloc] at hz10 | rw [World.size_setCell] at hz10 | rw [World.size_drew] at hz10)))
          go_wp2_with fail
          go_returns
          exact ⟨rfl, by (repeat' (first | (with_reducible exact Below.refl _ _) | (with_reducible refine Below.alloc ?_ ?_ _) | (with_reducible refine Below.drew ?_) | (with_reducible refine Below.setCell ?_ ?_ _) | (with_reducible refine Below.trans ?_ (Below.mono (by assumption) ?_)) | go_size))⟩
        · have hd : decide (2000 < m) = false := decide_eq_false HM
          clear HFF HM
          go_wp2_with fail
          (refine (alive _).mono ?_; rintro e w10 ⟨rfl, hb10⟩; have hz10 := hb10.size; (repeat (first | rw [World.size_alloc] at hz10 | rw [World.size_setCell] at hz10 | rw [World.size_drew] at hz10)))
          go_wp2_with fail
          go_returns
          exact ⟨rfl, by (repeat' (first | (with_reducible exact Below.refl _ _) | (with_reducible refine Below.alloc ?_ ?_ _) | (with_reducible refine Below.drew ?_) | (with_reducible refine Below.setCell ?_ ?_ _) | (with_reducible refine Below.trans ?_ (Below.mono (by assumption) ?_)) | go_size))⟩
    · obtain ⟨e, he⟩ : ∃ e, vdO x y p1 p2 = e := ⟨_, rfl⟩
      have HE : Hid (e = true → vdO x y a b = true ∨ vdO x y c d = true) := by
        rintro rfl
        exact pr_euclid (prO_prI hok) hp.1 (by rw [hp.2.1, hp.2.2]; exact he)
      clear hp hok
      go_wp2_with fail
      (refine (iDividesOk_v _ he).mono ?_; rintro e w7 ⟨rfl, hb7⟩; have hz7 := hb7.size; (repeat (first | rw [World.size_alloc] at hz7 | rw [World.size_setCell] at hz7 | rw [World.size_drew] at hz7)); have pp := C2.K hb7 (b := w1.heap.size) (x := _) (y := _) (by (repeat (first | ((with_reducible apply C2.mk) <;> (with_reducible assumption)) | (with_reducible apply C2.Z) | (with_reducible apply C2.O) | ((with_reducible apply C2.B); (focus (simp; done))) | (with_reducible apply C2.A) | (with_reducible apply C2.D) | ((with_reducible apply C2.S); focus ((repeat (first | rw [World.size_alloc] | rw [World.size_setCell] | rw [World.size_drew])); omega)) | ((with_reducible apply C2.K); (focus (with_reducible assumption)))))); obtain ⟨kk25, kk26⟩ := pp; have pp := C2.K hb7 (b := w5.heap.size) (x := _) (y := _) (by (repeat (first | ((with_reducible apply C2.mk) <;> (with_reducible assumption)) | (with_reducible apply C2.Z) | (with_reducible apply C2.O) | ((with_reducible apply C2.B); (focus (simp; done))) | (with_reducible apply C2.A) | (with_reducible apply C2.D) | ((with_reducible apply C2.S); focus ((repeat (first | rw [World.size_alloc] | rw [World.size_setCell] | rw [World.size_drew])); omega)) | ((with_reducible apply C2.K); (focus (with_reducible assumption)))))); obtain ⟨kk27, kk28⟩ := pp; have pp := C2.K hb7 (b := w5.heap.size + 1) (x := _) (y := _) (by (repeat (first | ((with_reducible apply C2.mk) <;> (with_reducible assumption)) | (with_reducible apply C2.Z) | (with_reducible apply C2.O) | ((with_reducible apply C2.B); (focus (simp; done))) | (with_reducible apply C2.A) | (with_reducible apply C2.D) | ((with_reducible apply C2.S); focus ((repeat (first | rw [World.size_alloc] | rw [World.size_setCell] | rw [World.size_drew])); omega)) | ((with_reducible apply C2.K); (focus (with_reducible assumption)))))); obtain ⟨kk29, kk30⟩ := pp)
      clear he
      cases e
      · clear HE
        go_wp2_with fail
        (refine (iDivisorsOf x y _).mono ?_; rintro e w8 ⟨v8, rfl, g8, hb8⟩; have hz8 := hb8.size; (repeat (first | rw [World.size_alloc] at hz8 | rw [World.size_setCell] at hz8 | rw [World.size_drew] at hz8)); have pp := C2.K hb8 (b := w1.heap.size) (x := _) (y := _) (by (repeat (first | ((with_reducible apply C2.mk) <;> (with_reducible assumption)) | (with_reducible apply C2.Z) | (with_reducible apply C2.O) | ((with_reducible apply C2.B); (focus (simp; done))) | (with_reducible apply C2.A) | (with_reducible apply C2.D) | ((with_reducible apply C2.S); focus ((repeat (first | rw [World.size_alloc] | rw [World.size_setCell] | rw [World.size_drew])); omega)) | ((with_reducible apply C2.K); (focus (with_reducible assumption)))))); obtain ⟨kk31, kk32⟩ := pp; (try clear kk25 kk26 kk27 kk28 kk29 kk30))
        obtain ⟨a', cap', rfl, -⟩ := g8.form
        clear g8
        obtain ⟨n, hn⟩ : ∃ n, (dvL x y).length = n := ⟨_, rfl⟩
        rw [hn] at HF ⊢
        clear hn
        have HFF := Lib.hid HF
        clear HF
        go_wp2_with fail
        (refine (sNormOf_v _ hm).mono ?_; rintro e w9 ⟨rfl, hb9⟩; have hz9 := hb9.size; (repeat (first | rw [World.size_alloc] at hz9 | rw [World.size_setCell] at hz9 | rw [World.size_drew] at hz9)); (try clear kk31 kk32))
        obtain HN | HN := HFF.out
        · have hd : decide (2000 < m) = true := decide_eq_true HN
          clear HFF HN
          go_wp2_with fail
          (refine (alive _).mono ?_; rintro e w10 ⟨rfl, hb10⟩; have hz10 := hb10.size; (repeat (first | rw [World.size_alloc] at hz10 | rw [World.size_setCell] at hz10 | rw [World.size_drew] at hz10)))
          go_wp2_with fail
          go_returns
          exact ⟨rfl, by (repeat' (first | (with_reducible exact Below.refl _ _) | (with_reducible refine Below.alloc ?_ ?_ _) | (with_reducible refine Below.drew ?_) | (with_reducible refine Below.setCell ?_ ?_ _) | (with_reducible refine Below.trans ?_ (Below.mono (by assumption) ?_)) | go_size))⟩
        · by_cases HM : 2000 < m
          · have hd : decide (2000 < m) = true := decide_eq_true HM
            clear HFF HN HM
            go_wp2_with fail
            (refine (alive _).mono ?_; rintro e w10 ⟨rfl, hb10⟩; have hz10 := hb10.size; (repeat (first | rw [World.size_alloc] at hz10 | rw [World.size_setCell] at hz10 | rw [World.size_drew] at hz10)))
            go_wp2_with fail
            go_returns
            exact ⟨rfl, by (repeat' (first | (with_reducible exact Below.refl _ _) | (with_reducible refine Below.alloc ?_ ?_ _) | (with_reducible refine Below.drew ?_) | (with_reducible refine Below.setCell ?_ ?_ _) | (with_reducible refine Below.trans ?_ (Below.mono (by assumption) ?_)) | go_size))⟩
          · have hd : decide (2000 < m) = false := decide_eq_false HM
            clear HFF HM
            go_wp2_with fail
            (refine (alive _).mono ?_; rintro e w10 ⟨rfl, hb10⟩; have hz10 := hb10.size; (repeat (first | rw [World.size_alloc] at hz10 | rw [World.size_setCell] at hz10 | rw [World.size_drew] at hz10)))
            go_wp2_with fail
            go_returns
            exact ⟨rfl, by (repeat' (first | (with_reducible exact Below.refl _ _) | (with_reducible refine Below.alloc ?_ ?_ _) | (with_reducible refine Below.drew ?_) | (with_reducible refine Below.setCell ?_ ?_ _) | (with_reducible refine Below.trans ?_ (Below.mono (by assumption) ?_)) | go_size))⟩
      · obtain ⟨e1, he1⟩ : ∃ e, vdO x y a b = e := ⟨_, rfl⟩
        have HE1 : Hid (e1 = true ∨ vdO x y c d = true) := he1 ▸ HE.out rfl
        clear HE
        go_wp2_with fail
        (refine (iDividesOk_v _ he1).mono ?_; rintro e w11 ⟨rfl, hb11⟩; have hz11 := hb11.size; (repeat (first | rw [World.size_alloc] at hz11 | rw [World.size_setCell] at hz11 | rw [World.size_drew] at hz11)); have pp := C2.K hb11 (b := w1.heap.size) (x := _) (y := _) (by (repeat (first | ((with_reducible apply C2.mk) <;> (with_reducible assumption)) | (with_reducible apply C2.Z) | (with_reducible apply C2.O) | ((with_reducible apply C2.B); (focus (simp; done))) | (with_reducible apply C2.A) | (with_reducible apply C2.D) | ((with_reducible apply C2.S); focus ((repeat (first | rw [World.size_alloc] | rw [World.size_setCell] | rw [World.size_drew])); omega)) | ((with_reducible apply C2.K); (focus (with_reducible assumption)))))); obtain ⟨kk33, kk34⟩ := pp; have pp := C2.K hb11 (b := w5.heap.size + 1) (x := _) (y := _) (by (repeat (first | ((with_reducible apply C2.mk) <;> (with_reducible assumption)) | (with_reducible apply C2.Z) | (with_reducible apply C2.O) | ((with_reducible apply C2.B); (focus (simp; done))) | (with_reducible apply C2.A) | (with_reducible apply C2.D) | ((with_reducible apply C2.S); focus ((repeat (first | rw [World.size_alloc] | rw [World.size_setCell] | rw [World.size_drew])); omega)) | ((with_reducible apply C2.K); (focus (with_reducible assumption)))))); obtain ⟨kk35, kk36⟩ := pp)
        clear he1
        cases e1
        · have he2 : vdO x y c d = true := by simpa using HE1.out
          clear HE1
          go_wp2_with fail
          (refine (iDividesOk_v _ he2).mono ?_; rintro e w12 ⟨rfl, hb12⟩; have hz12 := hb12.size; (repeat (first | rw [World.size_alloc] at hz12 | rw [World.size_setCell] at hz12 | rw [World.size_drew] at hz12)); have pp := C2.K hb12 (b := w1.heap.size) (x := _) (y := _) (by (repeat (first | ((with_reducible apply C2.mk) <;> (with_reducible assumption)) | (with_reducible apply C2.Z) | (with_reducible apply C2.O) | ((with_reducible apply C2.B); (focus (simp; done))) | (with_reducible apply C2.A) | (with_reducible apply C2.D) | ((with_reducible apply C2.S); focus ((repeat (first | rw [World.size_alloc] | rw [World.size_setCell] | rw [World.size_drew])); omega)) | ((with_reducible apply C2.K); (focus (with_reducible assumption)))))); obtain ⟨kk37, kk38⟩ := pp; (try clear kk33 kk34 kk35 kk36))
          clear he2
          go_wp2_with fail
          (refine (iDivisorsOf x y _).mono ?_; rintro e w8 ⟨v8, rfl, g8, hb8⟩; have hz8 := hb8.size; (repeat (first | rw [World.size_alloc] at hz8 | rw [World.size_setCell] at hz8 | rw [World.size_drew] at hz8)); have pp := C2.K hb8 (b := w1.heap.size) (x := _) (y := _) (by (repeat (first | ((with_reducible apply C2.mk) <;> (with_reducible assumption)) | (with_reducible apply C2.Z) | (with_reducible apply C2.O) | ((with_reducible apply C2.B); (focus (simp; done))) | (with_reducible apply C2.A) | (with_reducible apply C2.D) | ((with_reducible apply C2.S); focus ((repeat (first | rw [World.size_alloc] | rw [World.size_setCell] | rw [World.size_drew])); omega)) | ((with_reducible apply C2.K); (focus (with_reducible assumption)))))); obtain ⟨kk39, kk40⟩ := pp; (try clear kk37 kk38))
          obtain ⟨a', cap', rfl, -⟩ := g8.form
          clear g8
          obtain ⟨n, hn⟩ : ∃ n, (dvL x y).length = n := ⟨_, rfl⟩
          rw [hn] at HF ⊢
          clear hn
          have HFF := Lib.hid HF
          clear HF
          go_wp2_with fail
          (refine (sNormOf_v _ hm).mono ?_; rintro e w9 ⟨rfl, hb9⟩; have hz9 := hb9.size; (repeat (first | rw [World.size_alloc] at hz9 | rw [World.size_setCell] at hz9 | rw [World.size_drew] at hz9)); (try clear kk39 kk40))
          obtain HN | HN := HFF.out
          · have hd : decide (2000 < m) = true := decide_eq_true HN
            clear HFF HN
            go_wp2_with fail
            (refine (alive _).mono ?_; rintro e w10 ⟨rfl, hb10⟩; have hz10 := hb10.size; (repeat (first | rw [World.size_alloc] at hz10 | rw [World.size_setCell] at hz10 | rw [World.size_drew] at hz10)))
            go_wp2_with fail
            go_returns
            exact ⟨rfl, by (repeat' (first | (with_reducible exact Below.refl _ _) | (with_reducible refine Below.alloc ?_ ?_ _) | (with_reducible refine Below.drew ?_) | (with_reducible refine Below.setCell ?_ ?_ _) | (with_reducible refine Below.trans ?_ (Below.mono (by assumption) ?_)) | go_size))⟩
          · by_cases HM : 2000 < m
            · have hd : decide (2000 < m) = true := decide_eq_true HM
              clear HFF HN HM
              go_wp2_with fail
              (refine (alive _).mono ?_; rintro e w10 ⟨rfl, hb10⟩; have hz10 := hb10.size; (repeat (first | rw [World.size_alloc] at hz10 | rw [World.size_setCell] at hz10 | rw [World.size_drew] at hz10)))
              go_wp2_with fail
              go_returns
              exact ⟨rfl, by (repeat' (first | (with_reducible exact Below.refl _ _) | (with_reducible refine Below.alloc ?_ ?_ _) | (with_reducible refine Below.drew ?_) | (with_reducible refine Below.setCell ?_ ?_ _) | (with_reducible refine Below.trans ?_ (Below.mono (by assumption) ?_)) | go_size))⟩
            · have hd : decide (2000 < m) = false := decide_eq_false HM
              clear HFF HM
              go_wp2_with fail
              (refine (alive _).mono ?_; rintro e w10 ⟨rfl, hb10⟩; have hz10 := hb10.size; (repeat (first | rw [World.size_alloc] at hz10 | rw [World.size_setCell] at hz10 | rw [World.size_drew] at hz10)))
              go_wp2_with fail
              go_returns
              exact ⟨rfl, by (repeat' (first | (with_reducible exact Below.refl _ _) | (with_reducible refine Below.alloc ?_ ?_ _) | (with_reducible refine Below.drew ?_) | (with_reducible refine Below.setCell ?_ ?_ _) | (with_reducible refine Below.trans ?_ (Below.mono (by assumption) ?_)) | go_size))⟩
        · clear HE1
          go_wp2_with fail
          (refine (iDivisorsOf x y _).mono ?_; rintro e w8 ⟨v8, rfl, g8, hb8⟩; have hz8 := hb8.size; (repeat (first | rw [World.size_alloc] at hz8 | rw [World.size_setCell] at hz8 | rw [World.size_drew] at hz8)); have pp := C2.K hb8 (b := w1.heap.size) (x := _) (y := _) (by (repeat (first | ((with_reducible apply C2.mk) <;> (with_reducible assumption)) | (with_reducible apply C2.Z) | (with_reducible apply C2.O) | ((with_reducible apply C2.B); (focus (simp; done))) | (with_reducible apply C2.A) | (with_reducible apply C2.D) | ((with_reducible apply C2.S); focus ((repeat (first | rw [World.size_alloc] | rw [World.size_setCell] | rw [World.size_drew])); omega)) | ((with_reducible apply C2.K); (focus (with_reducible assumption)))))); obtain ⟨kk41, kk42⟩ := pp)
          obtain ⟨a', cap', rfl, -⟩ := g8.form
          clear g8
          obtain ⟨n, hn⟩ : ∃ n, (dvL x y).length = n := ⟨_, rfl⟩
          rw [hn] at HF ⊢
          clear hn
          have HFF := Lib.hid HF
          clear HF
          go_wp2_with fail
          (refine (sNormOf_v _ hm).mono ?_; rintro e w9 ⟨rfl, hb9⟩; have hz9 := hb9.size; (repeat (first | rw [World.size_alloc] at hz9 | rw [World.size_setCell] at hz9 | rw [World.size_drew] at hz9)); (try clear kk41 kk42))
          obtain HN | HN := HFF.out
          · have hd : decide (2000 < m) = true := decide_eq_true HN
            clear HFF HN
            go_wp2_with fail
            (refine (alive _).mono ?_; rintro e w10 ⟨rfl, hb10⟩; have hz10 := hb10.size; (repeat (first | rw [World.size_alloc] at hz10 | rw [World.size_setCell] at hz10 | rw [World.size_drew] at hz10)))
            go_wp2_with fail
            go_returns
            exact ⟨rfl, by (repeat' (first | (with_reducible exact Below.refl _ _) | (with_reducible refine Below.alloc ?_ ?_ _) | (with_reducible refine Below.drew ?_) | (with_reducible refine Below.setCell ?_ ?_ _) | (with_reducible refine Below.trans ?_ (Below.mono (by assumption) ?_)) | go_size))⟩
          · by_cases HM : 2000 < m
            · have hd : decide (2000 < m) = true := decide_eq_true HM
              clear HFF HN HM
              go_wp2_with fail
              (refine (alive _).mono ?_; rintro e w10 ⟨rfl, hb10⟩; have hz10 := hb10.size; (repeat (first | rw [World.size_alloc] at hz10 | rw [World.size_setCell] at hz10 | rw [World.size_drew] at hz10)))
              go_wp2_with fail
              go_returns
              exact ⟨rfl, by (repeat' (first | (with_reducible exact Below.refl _ _) | (with_reducible refine Below.alloc ?_ ?_ _) | (with_reducible refine Below.drew ?_) | (with_reducible refine Below.setCell ?_ ?_ _) | (with_reducible refine Below.trans ?_ (Below.mono (by assumption) ?_)) | go_size))⟩
            · have hd : decide (2000 < m) = false := decide_eq_false HM
              clear HFF HM
              go_wp2_with fail
              (refine (alive _).mono ?_; rintro e w10 ⟨rfl, hb10⟩; have hz10 := hb10.size; (repeat (first | rw [World.size_alloc] at hz10 | rw [World.size_setCell] at hz10 | rw [World.size_drew] at hz10)))
              go_wp2_with fail
              go_returns
              exact ⟨rfl, by (repeat' (first | (with_reducible exact Below.refl _ _) | (with_reducible refine Below.alloc ?_ ?_ _) | (with_reducible refine Below.drew ?_) | (with_reducible refine Below.setCell ?_ ?_ _) | (with_reducible refine Below.trans ?_ (Below.mono (by assumption) ?_)) | go_size))⟩
end Go.Proofs.Ytpjememmogaeiaa
