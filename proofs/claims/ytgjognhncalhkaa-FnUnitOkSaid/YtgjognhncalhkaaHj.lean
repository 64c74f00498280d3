import Derived.Test.YtgjognhncalhkaaHd
import Derived.Test.YtgjognhncalhkaaHc
namespace Go.Proofs.Ytgjognhncalhkaa
open Go Go.RowKit
attribute [local go_sem] World.cell?_alloc_some cell?_alloc2_some cell?_alloc3_some cell?_alloc4_some frozen?_alloc_some frozen?_alloc2_some frozen?_alloc3_some World.cell?_setCell_far new_ne0 new_ne1 new_ne2 new_ne3 lt2 lt3 lt4 lt5 lt6 lt7 lt8 lt9
theorem sq_ge {x : Int} (h : 2 ≤ x ∨ x ≤ -2) : 4 ≤ x * x := by
  rcases h with h | h
  · have := Int.mul_le_mul h h (by omega) (by omega); omega
  · have := Int.mul_le_mul (a := 2) (b := 2) (c := -x) (d := -x) (by omega) (by omega) (by omega) (by omega)
    rw [Int.neg_mul_neg] at this; omega
theorem asA_iff (a b c d : Int) : asA a b c d = true ↔ (c = a ∧ d = b) ∨ (-d = a ∧ c = b) ∨ (-c = a ∧ -d = b) ∨ (d = a ∧ -c = b) := by
  have e0 : eqz 0 c d a b = decide (c = a ∧ d = b) := rfl
  have e1 : eqz 1 c d a b = decide (-d = a ∧ c = b) := rfl
  have e2 : eqz 2 c d a b = decide (-c = a ∧ -d = b) := rfl
  have e3 : eqz 3 c d a b = decide (d = a ∧ -c = b) := rfl
  simp only [asA, e0, e1, e2, e3, Bool.or_eq_true, decide_eq_true_eq, or_assoc]
theorem as_unit (x y : Int) : asO x y 1 0 = unO x y := by
  cases k : gok x y
  · simp [asO, unO, k, nrm_f k]
  · have k1 : gok 1 0 = true := by decide
    have hO : asO x y 1 0 = asA x y 1 0 := by simp [asO, k, k1]
    have hU : unO x y = true ↔ x * x + y * y = 1 := by simp [unO, nrm_t k]
    rw [Bool.eq_iff_iff, hO, hU, asA_iff]
    have hx := sq_nn x
    have hy := sq_nn y
    constructor
    · rintro (⟨rfl, rfl⟩ | ⟨rfl, rfl⟩ | ⟨rfl, rfl⟩ | ⟨rfl, rfl⟩) <;> decide
    · intro h
      have x1 : -1 ≤ x ∧ x ≤ 1 := by
        refine ⟨?_, ?_⟩ <;> (rw [← Int.not_lt]; intro hh; have := sq_ge (x := x) (by omega); omega)
      have y1 : -1 ≤ y ∧ y ≤ 1 := by
        refine ⟨?_, ?_⟩ <;> (rw [← Int.not_lt]; intro hh; have := sq_ge (x := y) (by omega); omega)
      obtain rfl | rfl | rfl : x = -1 ∨ x = 0 ∨ x = 1 := by omega
      · obtain rfl : y = 0 := by
          obtain rfl | rfl | rfl : y = -1 ∨ y = 0 ∨ y = 1 := by omega
          · simp at h
          · rfl
          · simp at h
        simp
      · obtain rfl | rfl | rfl : y = -1 ∨ y = 0 ∨ y = 1 := by omega
        · simp
        · simp at h
        · simp
      · obtain rfl : y = 0 := by
          obtain rfl | rfl | rfl : y = -1 ∨ y = 0 ∨ y = 1 := by omega
          · simp at h
          · rfl
          · simp at h
        simp
theorem iAssociateOk_v {a b c d : Int} {o : Bool} (w : World) (h : asO a b c d = o) : Calls Try.prog 25 #[.agg #[.int .i64 a, .int .i64 b], .agg #[.int .i64 c, .int .i64 d]] w fun e w' => e = .returned (.bool o) ∧ Below w.heap.size w w' := by
  subst h; exact iAssociateOk a b c d w
set_option maxHeartbeats 1000000 in
theorem walkFnUnitOk (a : Option Addr) (len cap : Nat) (zs : List Int) (w : World) (h : IsRow .u8 w a len cap zs) :
    Calls Try.prog 7 #[.slice a len cap] w fun e w' => e = .returned (.bool true) ∧ Below w.heap.size w w' := by
  by_cases hl : 1048576 < len
  · clear h
    go_enter Try.func7, Try.ntmps7
    go_wp2_with fail
    go_returns
    exact ⟨rfl, by (repeat' (first | (with_reducible exact Below.refl _ _) | (with_reducible refine Below.alloc ?_ ?_ _) | (with_reducible refine Below.drew ?_) | (with_reducible refine Below.setCell ?_ ?_ _) | (with_reducible refine Below.trans ?_ (Below.mono (by assumption) ?_)) | go_size))⟩
  have H := Lib.hid h
  clear h
  go_enter Try.func7, Try.ntmps7
  go_wp2_with fail
  (refine (drawUnitOk a len cap zs _ H.out).mono ?_; rintro e w1 ⟨x, y, rfl, hg, hb1⟩; have hz1 := hb1.size; (repeat (first | rw [World.size_alloc] at hz1 | rw [World.size_setCell] at hz1 | rw [World.size_drew] at hz1)))
  clear hg
  have e := as_unit x y
  cases k : unO x y
  · rw [k] at e
    have hn : nrm x y ≠ 1 := by simpa [unO] using k
    have hq : (nrm x y == 1) = false := by simpa using hn
    clear hn
    go_wp2_with fail
    (refine (iUnitOk_v _ k).mono ?_; rintro e w2 ⟨rfl, hb2⟩; have hz2 := hb2.size; (repeat (first | rw [World.size_alloc] at hz2 | rw [World.size_setCell] at hz2 | rw [World.size_drew] at hz2)); have kk1 := keep hb2 (a := ⟨w1.heap.size, 0, none⟩) (v := _) (by (repeat (first | (with_reducible assumption) | (with_reducible apply sameS) | ((with_reducible apply born); (focus (simp; done)); (focus rfl)) | (with_reducible apply keepA) | (with_reducible apply keepD) | ((with_reducible apply keepS); focus ((repeat (first | rw [World.size_alloc] | rw [World.size_setCell] | rw [World.size_drew])); omega)) | ((with_reducible apply keep); (focus (with_reducible assumption)))))); have kk2 := keep hb2 (a := ⟨w1.heap.size, 1, none⟩) (v := _) (by (repeat (first | (with_reducible assumption) | (with_reducible apply sameS) | ((with_reducible apply born); (focus (simp; done)); (focus rfl)) | (with_reducible apply keepA) | (with_reducible apply keepD) | ((with_reducible apply keepS); focus ((repeat (first | rw [World.size_alloc] | rw [World.size_setCell] | rw [World.size_drew])); omega)) | ((with_reducible apply keep); (focus (with_reducible assumption)))))))
    go_wp2_with fail
    (refine (sUnitOk_v _ k).mono ?_; rintro e w3 ⟨rfl, hb3⟩; have hz3 := hb3.size; (repeat (first | rw [World.size_alloc] at hz3 | rw [World.size_setCell] at hz3 | rw [World.size_drew] at hz3)); have kk3 := keep hb3 (a := ⟨w1.heap.size, 0, none⟩) (v := _) (by (repeat (first | (with_reducible assumption) | (with_reducible apply sameS) | ((with_reducible apply born); (focus (simp; done)); (focus rfl)) | (with_reducible apply keepA) | (with_reducible apply keepD) | ((with_reducible apply keepS); focus ((repeat (first | rw [World.size_alloc] | rw [World.size_setCell] | rw [World.size_drew])); omega)) | ((with_reducible apply keep); (focus (with_reducible assumption)))))); have kk4 := keep hb3 (a := ⟨w1.heap.size, 1, none⟩) (v := _) (by (repeat (first | (with_reducible assumption) | (with_reducible apply sameS) | ((with_reducible apply born); (focus (simp; done)); (focus rfl)) | (with_reducible apply keepA) | (with_reducible apply keepD) | ((with_reducible apply keepS); focus ((repeat (first | rw [World.size_alloc] | rw [World.size_setCell] | rw [World.size_drew])); omega)) | ((with_reducible apply keep); (focus (with_reducible assumption)))))); (try clear kk1 kk2))
    go_wp2_with fail
    (refine (iNormOf _ _ _).mono ?_; rintro e w4 ⟨rfl, hb4⟩; have hz4 := hb4.size; (repeat (first | rw [World.size_alloc] at hz4 | rw [World.size_setCell] at hz4 | rw [World.size_drew] at hz4)); have kk5 := keep hb4 (a := ⟨w1.heap.size, 0, none⟩) (v := _) (by (repeat (first | (with_reducible assumption) | (with_reducible apply sameS) | ((with_reducible apply born); (focus (simp; done)); (focus rfl)) | (with_reducible apply keepA) | (with_reducible apply keepD) | ((with_reducible apply keepS); focus ((repeat (first | rw [World.size_alloc] | rw [World.size_setCell] | rw [World.size_drew])); omega)) | ((with_reducible apply keep); (focus (with_reducible assumption)))))); have kk6 := keep hb4 (a := ⟨w1.heap.size, 1, none⟩) (v := _) (by (repeat (first | (with_reducible assumption) | (with_reducible apply sameS) | ((with_reducible apply born); (focus (simp; done)); (focus rfl)) | (with_reducible apply keepA) | (with_reducible apply keepD) | ((with_reducible apply keepS); focus ((repeat (first | rw [World.size_alloc] | rw [World.size_setCell] | rw [World.size_drew])); omega)) | ((with_reducible apply keep); (focus (with_reducible assumption)))))); (try clear kk3 kk4))
    go_wp2_with fail
    (refine (iAssociateOk_v _ e).mono ?_; rintro e w5 ⟨rfl, hb5⟩; have hz5 := hb5.size; (repeat (first | rw [World.size_alloc] at hz5 | rw [World.size_setCell] at hz5 | rw [World.size_drew] at hz5)); (try clear kk5 kk6))
    go_wp2_with fail
    (refine (alive _).mono ?_; rintro e w6 ⟨rfl, hb6⟩; have hz6 := hb6.size; (repeat (first | rw [World.size_alloc] at hz6 | rw [World.size_setCell] at hz6 | rw [World.size_drew] at hz6)))
    go_wp2_with fail
    go_returns
    exact ⟨rfl, by (repeat' (first | (with_reducible exact Below.refl _ _) | (with_reducible refine Below.alloc ?_ ?_ _) | (with_reducible refine Below.drew ?_) | (with_reducible refine Below.setCell ?_ ?_ _) | (with_reducible refine Below.trans ?_ (Below.mono (by assumption) ?_)) | go_size))⟩
  · rw [k] at e
    have hn : nrm x y = 1 := by simpa [unO] using k
    go_wp2_with fail
    (refine (iUnitOk_v _ k).mono ?_; rintro e w2 ⟨rfl, hb2⟩; have hz2 := hb2.size; (repeat (first | rw [World.size_alloc] at hz2 | rw [World.size_setCell] at hz2 | rw [World.size_drew] at hz2)); have kk7 := keep hb2 (a := ⟨w1.heap.size, 0, none⟩) (v := _) (by (repeat (first | (with_reducible assumption) | (with_reducible apply sameS) | ((with_reducible apply born); (focus (simp; done)); (focus rfl)) | (with_reducible apply keepA) | (with_reducible apply keepD) | ((with_reducible apply keepS); focus ((repeat (first | rw [World.size_alloc] | rw [World.size_setCell] | rw [World.size_drew])); omega)) | ((with_reducible apply keep); (focus (with_reducible assumption)))))); have kk8 := keep hb2 (a := ⟨w1.heap.size, 1, none⟩) (v := _) (by (repeat (first | (with_reducible assumption) | (with_reducible apply sameS) | ((with_reducible apply born); (focus (simp; done)); (focus rfl)) | (with_reducible apply keepA) | (with_reducible apply keepD) | ((with_reducible apply keepS); focus ((repeat (first | rw [World.size_alloc] | rw [World.size_setCell] | rw [World.size_drew])); omega)) | ((with_reducible apply keep); (focus (with_reducible assumption)))))))
    go_wp2_with fail
    (refine (sUnitOk_v _ k).mono ?_; rintro e w3 ⟨rfl, hb3⟩; have hz3 := hb3.size; (repeat (first | rw [World.size_alloc] at hz3 | rw [World.size_setCell] at hz3 | rw [World.size_drew] at hz3)); have kk9 := keep hb3 (a := ⟨w1.heap.size, 0, none⟩) (v := _) (by (repeat (first | (with_reducible assumption) | (with_reducible apply sameS) | ((with_reducible apply born); (focus (simp; done)); (focus rfl)) | (with_reducible apply keepA) | (with_reducible apply keepD) | ((with_reducible apply keepS); focus ((repeat (first | rw [World.size_alloc] | rw [World.size_setCell] | rw [World.size_drew])); omega)) | ((with_reducible apply keep); (focus (with_reducible assumption)))))); have kk10 := keep hb3 (a := ⟨w1.heap.size, 1, none⟩) (v := _) (by (repeat (first | (with_reducible assumption) | (with_reducible apply sameS) | ((with_reducible apply born); (focus (simp; done)); (focus rfl)) | (with_reducible apply keepA) | (with_reducible apply keepD) | ((with_reducible apply keepS); focus ((repeat (first | rw [World.size_alloc] | rw [World.size_setCell] | rw [World.size_drew])); omega)) | ((with_reducible apply keep); (focus (with_reducible assumption)))))); (try clear kk7 kk8))
    go_wp2_with fail
    (refine (iNormOf_v _ hn).mono ?_; rintro e w4 ⟨rfl, hb4⟩; have hz4 := hb4.size; (repeat (first | rw [World.size_alloc] at hz4 | rw [World.size_setCell] at hz4 | rw [World.size_drew] at hz4)); have kk11 := keep hb4 (a := ⟨w1.heap.size, 0, none⟩) (v := _) (by (repeat (first | (with_reducible assumption) | (with_reducible apply sameS) | ((with_reducible apply born); (focus (simp; done)); (focus rfl)) | (with_reducible apply keepA) | (with_reducible apply keepD) | ((with_reducible apply keepS); focus ((repeat (first | rw [World.size_alloc] | rw [World.size_setCell] | rw [World.size_drew])); omega)) | ((with_reducible apply keep); (focus (with_reducible assumption)))))); have kk12 := keep hb4 (a := ⟨w1.heap.size, 1, none⟩) (v := _) (by (repeat (first | (with_reducible assumption) | (with_reducible apply sameS) | ((with_reducible apply born); (focus (simp; done)); (focus rfl)) | (with_reducible apply keepA) | (with_reducible apply keepD) | ((with_reducible apply keepS); focus ((repeat (first | rw [World.size_alloc] | rw [World.size_setCell] | rw [World.size_drew])); omega)) | ((with_reducible apply keep); (focus (with_reducible assumption)))))); (try clear kk9 kk10))
    go_wp2_with fail
    (refine (iAssociateOk_v _ e).mono ?_; rintro e w5 ⟨rfl, hb5⟩; have hz5 := hb5.size; (repeat (first | rw [World.size_alloc] at hz5 | rw [World.size_setCell] at hz5 | rw [World.size_drew] at hz5)); (try clear kk11 kk12))
    go_wp2_with fail
    (refine (alive _).mono ?_; rintro e w6 ⟨rfl, hb6⟩; have hz6 := hb6.size; (repeat (first | rw [World.size_alloc] at hz6 | rw [World.size_setCell] at hz6 | rw [World.size_drew] at hz6)))
    go_wp2_with fail
    go_returns
    exact ⟨rfl, by (repeat' (first | (with_reducible exact Below.refl _ _) | (with_reducible refine Below.alloc ?_ ?_ _) | (with_reducible refine Below.drew ?_) | (with_reducible refine Below.setCell ?_ ?_ _) | (with_reducible refine Below.trans ?_ (Below.mono (by assumption) ?_)) | go_size))⟩
end Go.Proofs.Ytgjognhncalhkaa
