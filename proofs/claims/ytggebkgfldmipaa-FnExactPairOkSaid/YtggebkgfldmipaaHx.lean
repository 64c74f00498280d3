import Derived.Test.YtggebkgfldmipaaHa
import Derived.BigRegion
namespace Go.Proofs.Ytggebkgfldmipaa
open Go Go.RowKit
attribute [local go_sem] World.cell?_alloc_some cell?_alloc2_some cell?_alloc3_some cell?_alloc4_some frozen?_alloc_some frozen?_alloc2_some frozen?_alloc3_some World.cell?_setCell_far new_ne0 new_ne1 new_ne2 new_ne3 lt2 lt3 lt4 lt5 lt6 lt7 lt8 lt9

def fiP (x y : Int) : Bool := decide ((0 < x ∧ 0 ≤ y) ∨ (x = 0 ∧ y = 0))
theorem fi1 (x y : Int) (w : World) :
    Calls Try.prog 84 #[.agg #[.int .i64 x, .int .i64 y]] w fun e w' => e = .returned (.bool (fiP x y)) ∧ Below w.heap.size w w' := by
  by_cases hx : 0 < x
  · have hx1 : decide (0 < x) = true := by simpa using hx
    have hq : (x == 0) = false := by simp; omega
    by_cases hy : 0 ≤ y
    · have hy1 : decide (0 ≤ y) = true := by simpa using hy
      rw [show fiP x y = true by simp [fiP]; omega]
      go_enter Try.func84, Try.ntmps84
      go_wp2_with fail
      go_returns
      exact ⟨rfl, blA⟩
    · have hy1 : decide (0 ≤ y) = false := by simpa using hy
      rw [show fiP x y = false by simp [fiP]; omega]
      go_enter Try.func84, Try.ntmps84
      go_wp2_with fail
      go_returns
      exact ⟨rfl, blA⟩
  · have hx1 : decide (0 < x) = false := by simpa using hx
    by_cases hx0 : x = 0
    · by_cases hy0 : y = 0
      · subst hx0 hy0
        rw [show fiP 0 0 = true by decide]
        go_enter Try.func84, Try.ntmps84
        go_wp2_with fail
        go_returns
        exact ⟨rfl, blA⟩
      · subst hx0
        have hq : (y == 0) = false := by simpa using hy0
        rw [show fiP 0 y = false by simp [fiP]; omega]
        go_enter Try.func84, Try.ntmps84
        go_wp2_with fail
        go_returns
        exact ⟨rfl, blA⟩
    · have hq : (x == 0) = false := by simpa using hx0
      rw [show fiP x y = false by simp [fiP]; omega]
      go_enter Try.func84, Try.ntmps84
      go_wp2_with fail
      go_returns
      exact ⟨rfl, blA⟩


def fiQ (x y : Int) : Bool := decide (0 < x ∧ 0 ≤ y)

set_option maxHeartbeats 2000000 in
theorem tuFi_0 (a b : Int) (w : World) (_ha1 : -1000 ≤ a) (_ha2 : a ≤ 1000) (_hb1 : -1000 ≤ b) (_hb2 : b ≤ 1000) (p0 : fiP (a) (b) = true) :
    Calls Try.prog 83 #[.agg #[.int .i64 a, .int .i64 b], .func (.func 84) #[] #[]] w fun e w' => e = .returned (.tuple #[.agg #[.int .i64 (a), .int .i64 (b)], .int .i64 0, .bool true]) ∧ Below w.heap.size w w' := by
  have hix0 := turns_at_0
  go_enter Try.func83, Try.ntmps83
  go_wp2_with fail
  (refine (iTurns _).mono ?_; rintro e w1 ⟨rfl, hb1⟩; have hz1 := hb1.size; (repeat (first | rw [World.size_alloc] at hz1 | rw [World.size_setCell] at hz1 | rw [World.size_drew] at hz1)); have pp := C2.K hb1 (b := w.heap.size) (x := _) (y := _) (c2A); obtain ⟨kk1, kk2⟩ := pp; have pp := T2.K hb1 (b := w.heap.size + 1) (x := _) (y := _) (t2A); obtain ⟨kk3, kk4, fkk3, fkk4⟩ := pp)
  go_wp2_with fail
  refine wp_loop_rounds 5 ?_
  rw [rounds_succ]
  go_wp2_with fail
  (refine (igStayed _ _ _).mono ?_; rintro e u0 ⟨rfl, hb0⟩; have hz0 := hb0.size; (repeat (first | rw [World.size_alloc] at hz0 | rw [World.size_setCell] at hz0 | rw [World.size_drew] at hz0)); have pp := C2.K hb0 (b := w.heap.size) (x := _) (y := _) (c2A); obtain ⟨kk5, kk6⟩ := pp; have pp := T2.K hb0 (b := w.heap.size + 1) (x := _) (y := _) (t2A); obtain ⟨kk7, kk8, fkk7, fkk8⟩ := pp; (try clear kk1 kk2 kk3 kk4 fkk3 fkk4))
  go_wp2_with fail
  (refine (fi1 _ _ _).mono ?_; rintro e v0 ⟨rfl, hb0⟩; have hz0 := hb0.size; (repeat (first | rw [World.size_alloc] at hz0 | rw [World.size_setCell] at hz0 | rw [World.size_drew] at hz0)); have pp := C2.K hb0 (b := w.heap.size) (x := _) (y := _) (c2A); obtain ⟨kk9, kk10⟩ := pp; have pp := T2.K hb0 (b := w.heap.size + 1) (x := _) (y := _) (t2A); obtain ⟨kk11, kk12, fkk11, fkk12⟩ := pp; have pp := C2.K hb0 (b := u0.heap.size) (x := _) (y := _) (c2A); obtain ⟨kk13, kk14⟩ := pp; (try clear kk5 kk6 kk7 kk8 fkk7 fkk8))
  go_wp2_with fail
  refine bodyPost_ret (v := .tuple #[.agg #[.int .i64 (a), .int .i64 (b)], .int .i64 0, .bool true]) (by simp [results, Try.results83, go_sem, *]) rfl ?_; exact ⟨rfl, blA⟩

set_option maxHeartbeats 2000000 in
theorem tuFi_1 (a b : Int) (w : World) (ha1 : -1000 ≤ a) (ha2 : a ≤ 1000) (hb1 : -1000 ≤ b) (hb2 : b ≤ 1000) (p0 : fiP (a) (b) = false) (p1 : fiP (-b) (a) = true) :
    Calls Try.prog 83 #[.agg #[.int .i64 a, .int .i64 b], .func (.func 84) #[] #[]] w fun e w' => e = .returned (.tuple #[.agg #[.int .i64 (-b), .int .i64 (a)], .int .i64 1, .bool true]) ∧ Below w.heap.size w w' := by
  have hix0 := turns_at_0
  have hix1 := turns_at_1
  go_enter Try.func83, Try.ntmps83
  go_wp2_with fail
  (refine (iTurns _).mono ?_; rintro e w1 ⟨rfl, hb1⟩; have hz1 := hb1.size; (repeat (first | rw [World.size_alloc] at hz1 | rw [World.size_setCell] at hz1 | rw [World.size_drew] at hz1)); have pp := C2.K hb1 (b := w.heap.size) (x := _) (y := _) (c2A); obtain ⟨kk1, kk2⟩ := pp; have pp := T2.K hb1 (b := w.heap.size + 1) (x := _) (y := _) (t2A); obtain ⟨kk3, kk4, fkk3, fkk4⟩ := pp)
  go_wp2_with fail
  refine wp_loop_rounds 5 ?_
  rw [rounds_succ]
  go_wp2_with fail
  (refine (igStayed _ _ _).mono ?_; rintro e u0 ⟨rfl, hb0⟩; have hz0 := hb0.size; (repeat (first | rw [World.size_alloc] at hz0 | rw [World.size_setCell] at hz0 | rw [World.size_drew] at hz0)); have pp := C2.K hb0 (b := w.heap.size) (x := _) (y := _) (c2A); obtain ⟨kk5, kk6⟩ := pp; have pp := T2.K hb0 (b := w.heap.size + 1) (x := _) (y := _) (t2A); obtain ⟨kk7, kk8, fkk7, fkk8⟩ := pp; (try clear kk1 kk2 kk3 kk4 fkk3 fkk4))
  go_wp2_with fail
  (refine (fi1 _ _ _).mono ?_; rintro e v0 ⟨rfl, hb0⟩; have hz0 := hb0.size; (repeat (first | rw [World.size_alloc] at hz0 | rw [World.size_setCell] at hz0 | rw [World.size_drew] at hz0)); have pp := C2.K hb0 (b := w.heap.size) (x := _) (y := _) (c2A); obtain ⟨kk9, kk10⟩ := pp; have pp := T2.K hb0 (b := w.heap.size + 1) (x := _) (y := _) (t2A); obtain ⟨kk11, kk12, fkk11, fkk12⟩ := pp; have pp := C2.K hb0 (b := u0.heap.size) (x := _) (y := _) (c2A); obtain ⟨kk13, kk14⟩ := pp; (try clear kk5 kk6 kk7 kk8 fkk7 fkk8))
  go_wp2_with fail
  rw [rounds_succ]
  go_wp2_with fail
  (refine (igTurned _ _ _ (by omega) (by omega) (by omega) (by omega)).mono ?_; rintro e u1 ⟨rfl, hb1⟩; have hz1 := hb1.size; (repeat (first | rw [World.size_alloc] at hz1 | rw [World.size_setCell] at hz1 | rw [World.size_drew] at hz1)); have pp := C2.K hb1 (b := w.heap.size) (x := _) (y := _) (c2A); obtain ⟨kk15, kk16⟩ := pp; have pp := T2.K hb1 (b := w.heap.size + 1) (x := _) (y := _) (t2A); obtain ⟨kk17, kk18, fkk17, fkk18⟩ := pp; (try clear kk9 kk10 kk11 kk12 fkk11 fkk12 kk13 kk14))
  go_wp2_with fail
  (refine (fi1 _ _ _).mono ?_; rintro e v1 ⟨rfl, hb1⟩; have hz1 := hb1.size; (repeat (first | rw [World.size_alloc] at hz1 | rw [World.size_setCell] at hz1 | rw [World.size_drew] at hz1)); have pp := C2.K hb1 (b := w.heap.size) (x := _) (y := _) (c2A); obtain ⟨kk19, kk20⟩ := pp; have pp := T2.K hb1 (b := w.heap.size + 1) (x := _) (y := _) (t2A); obtain ⟨kk21, kk22, fkk21, fkk22⟩ := pp; have pp := C2.K hb1 (b := u1.heap.size) (x := _) (y := _) (c2A); obtain ⟨kk23, kk24⟩ := pp; (try clear kk15 kk16 kk17 kk18 fkk17 fkk18))
  go_wp2_with fail
  refine bodyPost_ret (v := .tuple #[.agg #[.int .i64 (-b), .int .i64 (a)], .int .i64 1, .bool true]) (by simp [results, Try.results83, go_sem, *]) rfl ?_; exact ⟨rfl, blA⟩

set_option maxHeartbeats 2000000 in
theorem tuFi_2 (a b : Int) (w : World) (ha1 : -1000 ≤ a) (ha2 : a ≤ 1000) (hb1 : -1000 ≤ b) (hb2 : b ≤ 1000) (p0 : fiP (a) (b) = false) (p1 : fiP (-b) (a) = false) (p2 : fiP (-a) (-b) = true) :
    Calls Try.prog 83 #[.agg #[.int .i64 a, .int .i64 b], .func (.func 84) #[] #[]] w fun e w' => e = .returned (.tuple #[.agg #[.int .i64 (-a), .int .i64 (-b)], .int .i64 2, .bool true]) ∧ Below w.heap.size w w' := by
  have hix0 := turns_at_0
  have hix1 := turns_at_1
  have hix2 := turns_at_2
  go_enter Try.func83, Try.ntmps83
  go_wp2_with fail
  (refine (iTurns _).mono ?_; rintro e w1 ⟨rfl, hb1⟩; have hz1 := hb1.size; (repeat (first | rw [World.size_alloc] at hz1 | rw [World.size_setCell] at hz1 | rw [World.size_drew] at hz1)); have pp := C2.K hb1 (b := w.heap.size) (x := _) (y := _) (c2A); obtain ⟨kk1, kk2⟩ := pp; have pp := T2.K hb1 (b := w.heap.size + 1) (x := _) (y := _) (t2A); obtain ⟨kk3, kk4, fkk3, fkk4⟩ := pp)
  go_wp2_with fail
  refine wp_loop_rounds 5 ?_
  rw [rounds_succ]
  go_wp2_with fail
  (refine (igStayed _ _ _).mono ?_; rintro e u0 ⟨rfl, hb0⟩; have hz0 := hb0.size; (repeat (first | rw [World.size_alloc] at hz0 | rw [World.size_setCell] at hz0 | rw [World.size_drew] at hz0)); have pp := C2.K hb0 (b := w.heap.size) (x := _) (y := _) (c2A); obtain ⟨kk5, kk6⟩ := pp; have pp := T2.K hb0 (b := w.heap.size + 1) (x := _) (y := _) (t2A); obtain ⟨kk7, kk8, fkk7, fkk8⟩ := pp; (try clear kk1 kk2 kk3 kk4 fkk3 fkk4))
  go_wp2_with fail
  (refine (fi1 _ _ _).mono ?_; rintro e v0 ⟨rfl, hb0⟩; have hz0 := hb0.size; (repeat (first | rw [World.size_alloc] at hz0 | rw [World.size_setCell] at hz0 | rw [World.size_drew] at hz0)); have pp := C2.K hb0 (b := w.heap.size) (x := _) (y := _) (c2A); obtain ⟨kk9, kk10⟩ := pp; have pp := T2.K hb0 (b := w.heap.size + 1) (x := _) (y := _) (t2A); obtain ⟨kk11, kk12, fkk11, fkk12⟩ := pp; have pp := C2.K hb0 (b := u0.heap.size) (x := _) (y := _) (c2A); obtain ⟨kk13, kk14⟩ := pp; (try clear kk5 kk6 kk7 kk8 fkk7 fkk8))
  go_wp2_with fail
  rw [rounds_succ]
  go_wp2_with fail
  (refine (igTurned _ _ _ (by omega) (by omega) (by omega) (by omega)).mono ?_; rintro e u1 ⟨rfl, hb1⟩; have hz1 := hb1.size; (repeat (first | rw [World.size_alloc] at hz1 | rw [World.size_setCell] at hz1 | rw [World.size_drew] at hz1)); have pp := C2.K hb1 (b := w.heap.size) (x := _) (y := _) (c2A); obtain ⟨kk15, kk16⟩ := pp; have pp := T2.K hb1 (b := w.heap.size + 1) (x := _) (y := _) (t2A); obtain ⟨kk17, kk18, fkk17, fkk18⟩ := pp; (try clear kk9 kk10 kk11 kk12 fkk11 fkk12 kk13 kk14))
  go_wp2_with fail
  (refine (fi1 _ _ _).mono ?_; rintro e v1 ⟨rfl, hb1⟩; have hz1 := hb1.size; (repeat (first | rw [World.size_alloc] at hz1 | rw [World.size_setCell] at hz1 | rw [World.size_drew] at hz1)); have pp := C2.K hb1 (b := w.heap.size) (x := _) (y := _) (c2A); obtain ⟨kk19, kk20⟩ := pp; have pp := T2.K hb1 (b := w.heap.size + 1) (x := _) (y := _) (t2A); obtain ⟨kk21, kk22, fkk21, fkk22⟩ := pp; have pp := C2.K hb1 (b := u1.heap.size) (x := _) (y := _) (c2A); obtain ⟨kk23, kk24⟩ := pp; (try clear kk15 kk16 kk17 kk18 fkk17 fkk18))
  go_wp2_with fail
  rw [rounds_succ]
  go_wp2_with fail
  (refine (igMinus _ _ _ (by omega) (by omega) (by omega) (by omega)).mono ?_; rintro e u2 ⟨rfl, hb2⟩; have hz2 := hb2.size; (repeat (first | rw [World.size_alloc] at hz2 | rw [World.size_setCell] at hz2 | rw [World.size_drew] at hz2)); have pp := C2.K hb2 (b := w.heap.size) (x := _) (y := _) (c2A); obtain ⟨kk25, kk26⟩ := pp; have pp := T2.K hb2 (b := w.heap.size + 1) (x := _) (y := _) (t2A); obtain ⟨kk27, kk28, fkk27, fkk28⟩ := pp; (try clear kk19 kk20 kk21 kk22 fkk21 fkk22 kk23 kk24))
  go_wp2_with fail
  (refine (fi1 _ _ _).mono ?_; rintro e v2 ⟨rfl, hb2⟩; have hz2 := hb2.size; (repeat (first | rw [World.size_alloc] at hz2 | rw [World.size_setCell] at hz2 | rw [World.size_drew] at hz2)); have pp := C2.K hb2 (b := w.heap.size) (x := _) (y := _) (c2A); obtain ⟨kk29, kk30⟩ := pp; have pp := T2.K hb2 (b := w.heap.size + 1) (x := _) (y := _) (t2A); obtain ⟨kk31, kk32, fkk31, fkk32⟩ := pp; have pp := C2.K hb2 (b := u2.heap.size) (x := _) (y := _) (c2A); obtain ⟨kk33, kk34⟩ := pp; (try clear kk25 kk26 kk27 kk28 fkk27 fkk28))
  go_wp2_with fail
  refine bodyPost_ret (v := .tuple #[.agg #[.int .i64 (-a), .int .i64 (-b)], .int .i64 2, .bool true]) (by simp [results, Try.results83, go_sem, *]) rfl ?_; exact ⟨rfl, blA⟩

set_option maxHeartbeats 2000000 in
theorem tuFi_3 (a b : Int) (w : World) (ha1 : -1000 ≤ a) (ha2 : a ≤ 1000) (hb1 : -1000 ≤ b) (hb2 : b ≤ 1000) (p0 : fiP (a) (b) = false) (p1 : fiP (-b) (a) = false) (p2 : fiP (-a) (-b) = false) (p3 : fiP (b) (-a) = true) :
    Calls Try.prog 83 #[.agg #[.int .i64 a, .int .i64 b], .func (.func 84) #[] #[]] w fun e w' => e = .returned (.tuple #[.agg #[.int .i64 (b), .int .i64 (-a)], .int .i64 3, .bool true]) ∧ Below w.heap.size w w' := by
  have hix0 := turns_at_0
  have hix1 := turns_at_1
  have hix2 := turns_at_2
  have hix3 := turns_at_3
  go_enter Try.func83, Try.ntmps83
  go_wp2_with fail
  (refine (iTurns _).mono ?_; rintro e w1 ⟨rfl, hb1⟩; have hz1 := hb1.size; (repeat (first | rw [World.size_alloc] at hz1 | rw [World.size_setCell] at hz1 | rw [World.size_drew] at hz1)); have pp := C2.K hb1 (b := w.heap.size) (x := _) (y := _) (c2A); obtain ⟨kk1, kk2⟩ := pp; have pp := T2.K hb1 (b := w.heap.size + 1) (x := _) (y := _) (t2A); obtain ⟨kk3, kk4, fkk3, fkk4⟩ := pp)
  go_wp2_with fail
  refine wp_loop_rounds 5 ?_
  rw [rounds_succ]
  go_wp2_with fail
  (refine (igStayed _ _ _).mono ?_; rintro e u0 ⟨rfl, hb0⟩; have hz0 := hb0.size; (repeat (first | rw [World.size_alloc] at hz0 | rw [World.size_setCell] at hz0 | rw [World.size_drew] at hz0)); have pp := C2.K hb0 (b := w.heap.size) (x := _) (y := _) (c2A); obtain ⟨kk5, kk6⟩ := pp; have pp := T2.K hb0 (b := w.heap.size + 1) (x := _) (y := _) (t2A); obtain ⟨kk7, kk8, fkk7, fkk8⟩ := pp; (try clear kk1 kk2 kk3 kk4 fkk3 fkk4))
  go_wp2_with fail
  (refine (fi1 _ _ _).mono ?_; rintro e v0 ⟨rfl, hb0⟩; have hz0 := hb0.size; (repeat (first | rw [World.size_alloc] at hz0 | rw [World.size_setCell] at hz0 | rw [World.size_drew] at hz0)); have pp := C2.K hb0 (b := w.heap.size) (x := _) (y := _) (c2A); obtain ⟨kk9, kk10⟩ := pp; have pp := T2.K hb0 (b := w.heap.size + 1) (x := _) (y := _) (t2A); obtain ⟨kk11, kk12, fkk11, fkk12⟩ := pp; have pp := C2.K hb0 (b := u0.heap.size) (x := _) (y := _) (c2A); obtain ⟨kk13, kk14⟩ := pp; (try clear kk5 kk6 kk7 kk8 fkk7 fkk8))
  go_wp2_with fail
  rw [rounds_succ]
  go_wp2_with fail
  (refine (igTurned _ _ _ (by omega) (by omega) (by omega) (by omega)).mono ?_; rintro e u1 ⟨rfl, hb1⟩; have hz1 := hb1.size; (repeat (first | rw [World.size_alloc] at hz1 | rw [World.size_setCell] at hz1 | rw [World.size_drew] at hz1)); have pp := C2.K hb1 (b := w.heap.size) (x := _) (y := _) (c2A); obtain ⟨kk15, kk16⟩ := pp; have pp := T2.K hb1 (b := w.heap.size + 1) (x := _) (y := _) (t2A); obtain ⟨kk17, kk18, fkk17, fkk18⟩ := pp; (try clear kk9 kk10 kk11 kk12 fkk11 fkk12 kk13 kk14))
  go_wp2_with fail
  (refine (fi1 _ _ _).mono ?_; rintro e v1 ⟨rfl, hb1⟩; have hz1 := hb1.size; (repeat (first | rw [World.size_alloc] at hz1 | rw [World.size_setCell] at hz1 | rw [World.size_drew] at hz1)); have pp := C2.K hb1 (b := w.heap.size) (x := _) (y := _) (c2A); obtain ⟨kk19, kk20⟩ := pp; have pp := T2.K hb1 (b := w.heap.size + 1) (x := _) (y := _) (t2A); obtain ⟨kk21, kk22, fkk21, fkk22⟩ := pp; have pp := C2.K hb1 (b := u1.heap.size) (x := _) (y := _) (c2A); obtain ⟨kk23, kk24⟩ := pp; (try clear kk15 kk16 kk17 kk18 fkk17 fkk18))
  go_wp2_with fail
  rw [rounds_succ]
  go_wp2_with fail
  (refine (igMinus _ _ _ (by omega) (by omega) (by omega) (by omega)).mono ?_; rintro e u2 ⟨rfl, hb2⟩; have hz2 := hb2.size; (repeat (first | rw [World.size_alloc] at hz2 | rw [World.size_setCell] at hz2 | rw [World.size_drew] at hz2)); have pp := C2.K hb2 (b := w.heap.size) (x := _) (y := _) (c2A); obtain ⟨kk25, kk26⟩ := pp; have pp := T2.K hb2 (b := w.heap.size + 1) (x := _) (y := _) (t2A); obtain ⟨kk27, kk28, fkk27, fkk28⟩ := pp; (try clear kk19 kk20 kk21 kk22 fkk21 fkk22 kk23 kk24))
  go_wp2_with fail
  (refine (fi1 _ _ _).mono ?_; rintro e v2 ⟨rfl, hb2⟩; have hz2 := hb2.size; (repeat (first | rw [World.size_alloc] at hz2 | rw [World.size_setCell] at hz2 | rw [World.size_drew] at hz2)); have pp := C2.K hb2 (b := w.heap.size) (x := _) (y := _) (c2A); obtain ⟨kk29, kk30⟩ := pp; have pp := T2.K hb2 (b := w.heap.size + 1) (x := _) (y := _) (t2A); obtain ⟨kk31, kk32, fkk31, fkk32⟩ := pp; have pp := C2.K hb2 (b := u2.heap.size) (x := _) (y := _) (c2A); obtain ⟨kk33, kk34⟩ := pp; (try clear kk25 kk26 kk27 kk28 fkk27 fkk28))
  go_wp2_with fail
  rw [rounds_succ]
  go_wp2_with fail
  (refine (igTurnedBack _ _ _ (by omega) (by omega) (by omega) (by omega)).mono ?_; rintro e u3 ⟨rfl, hb3⟩; have hz3 := hb3.size; (repeat (first | rw [World.size_alloc] at hz3 | rw [World.size_setCell] at hz3 | rw [World.size_drew] at hz3)); have pp := C2.K hb3 (b := w.heap.size) (x := _) (y := _) (c2A); obtain ⟨kk35, kk36⟩ := pp; have pp := T2.K hb3 (b := w.heap.size + 1) (x := _) (y := _) (t2A); obtain ⟨kk37, kk38, fkk37, fkk38⟩ := pp; (try clear kk29 kk30 kk31 kk32 fkk31 fkk32 kk33 kk34))
  go_wp2_with fail
  (refine (fi1 _ _ _).mono ?_; rintro e v3 ⟨rfl, hb3⟩; have hz3 := hb3.size; (repeat (first | rw [World.size_alloc] at hz3 | rw [World.size_setCell] at hz3 | rw [World.size_drew] at hz3)); have pp := C2.K hb3 (b := w.heap.size) (x := _) (y := _) (c2A); obtain ⟨kk39, kk40⟩ := pp; have pp := T2.K hb3 (b := w.heap.size + 1) (x := _) (y := _) (t2A); obtain ⟨kk41, kk42, fkk41, fkk42⟩ := pp; have pp := C2.K hb3 (b := u3.heap.size) (x := _) (y := _) (c2A); obtain ⟨kk43, kk44⟩ := pp; (try clear kk35 kk36 kk37 kk38 fkk37 fkk38))
  go_wp2_with fail
  refine bodyPost_ret (v := .tuple #[.agg #[.int .i64 (b), .int .i64 (-a)], .int .i64 3, .bool true]) (by simp [results, Try.results83, go_sem, *]) rfl ?_; exact ⟨rfl, blA⟩
end Go.Proofs.Ytggebkgfldmipaa

namespace Go.Proofs.Ytggebkgfldmipaa
open Go Go.RowKit
attribute [local go_sem] World.cell?_alloc_some cell?_alloc2_some cell?_alloc3_some cell?_alloc4_some frozen?_alloc_some frozen?_alloc2_some frozen?_alloc3_some World.cell?_setCell_far new_ne0 new_ne1 new_ne2 new_ne3 lt2 lt3 lt4 lt5 lt6 lt7 lt8 lt9
def fiK (a b : Int) : Int := if fiP a b then 0 else if fiP (-b) a then 1 else if fiP (-a) (-b) then 2 else 3
def fiA (a b : Int) : Int := if gok a b then tuA (fiK a b) a b else 0
def fiB (a b : Int) : Int := if gok a b then tuB (fiK a b) a b else 0
def fiT (a b : Int) : Int := if gok a b then (4 - fiK a b) % 4 else -1
theorem fi_last {a b : Int} (p0 : fiP a b = false) (p1 : fiP (-b) a = false) (p2 : fiP (-a) (-b) = false) : fiP b (-a) = true := by
  simp [fiP] at *; omega
theorem fi_0 {a b : Int} (k1 : gok a b = true) (p0 : fiP (a) (b) = true) : fiA a b = a ∧ fiB a b = b ∧ fiT a b = 0 ∧ gok a b = true := by
  have e : fiK a b = 0 := by simp [fiK, p0]
  simp [fiA, fiB, fiT, k1, e, tuA, tuB]
theorem fi_1 {a b : Int} (k1 : gok a b = true) (p0 : fiP (a) (b) = false) (p1 : fiP (-b) (a) = true) : fiA a b = -b ∧ fiB a b = a ∧ fiT a b = 3 ∧ gok a b = true := by
  have e : fiK a b = 1 := by simp [fiK, p0, p1]
  simp [fiA, fiB, fiT, k1, e, tuA, tuB]
theorem fi_2 {a b : Int} (k1 : gok a b = true) (p0 : fiP (a) (b) = false) (p1 : fiP (-b) (a) = false) (p2 : fiP (-a) (-b) = true) : fiA a b = -a ∧ fiB a b = -b ∧ fiT a b = 2 ∧ gok a b = true := by
  have e : fiK a b = 2 := by simp [fiK, p0, p1, p2]
  simp [fiA, fiB, fiT, k1, e, tuA, tuB]
theorem fi_3 {a b : Int} (k1 : gok a b = true) (p0 : fiP (a) (b) = false) (p1 : fiP (-b) (a) = false) (p2 : fiP (-a) (-b) = false) (_p3 : fiP (b) (-a) = true) : fiA a b = b ∧ fiB a b = -a ∧ fiT a b = 1 ∧ gok a b = true := by
  have e : fiK a b = 3 := by simp [fiK, p0, p1, p2]
  simp [fiA, fiB, fiT, k1, e, tuA, tuB]

set_option maxHeartbeats 2000000 in
theorem iFirstOf (a b : Int) (w : World) : Calls Try.prog 72 #[.agg #[.int .i64 a, .int .i64 b]] w fun e w' => e = .returned (.tuple #[.agg #[.int .i64 (fiA a b), .int .i64 (fiB a b)], .int .i64 (fiT a b), .bool (gok a b)]) ∧ Below w.heap.size w w' := by
  cases k1 : gok a b
  · rw [show fiA a b = 0 by simp [fiA, k1], show fiB a b = 0 by simp [fiB, k1], show fiT a b = -1 by simp [fiT, k1]]
    go_enter Try.func72, Try.ntmps72
    go_wp2_with fail
    (refine (iGaussOk _ _ _).mono ?_; rintro e w1 ⟨rfl, hb1⟩; have hz1 := hb1.size; (repeat (first | rw [World.size_alloc] at hz1 | rw [World.size_setCell] at hz1 | rw [World.size_drew] at hz1)); have pp := C2.K hb1 (b := w.heap.size) (x := _) (y := _) (c2A); obtain ⟨kk1, kk2⟩ := pp; have pp := T2.K hb1 (b := w.heap.size + 1) (x := _) (y := _) (t2A); obtain ⟨kk3, kk4, fkk3, fkk4⟩ := pp)
    go_wp2_with fail
    refine bodyPost_ret (v := .tuple #[.agg #[.int .i64 0, .int .i64 0], .int .i64 (-1), .bool false]) (by simp [results, Try.results72, go_sem, *]) rfl ?_; exact ⟨rfl, blA⟩
  obtain ⟨h1, h2, h3, h4⟩ := gok_bd k1
  cases p0 : fiP a b
  · cases p1 : fiP (-b) a
    · cases p2 : fiP (-a) (-b)
      · have p3 := fi_last p0 p1 p2
        obtain ⟨e1, e2, e3, -⟩ := fi_3 k1 p0 p1 p2 p3
        rw [e1, e2, e3]
        clear e1 e2 e3
        go_enter Try.func72, Try.ntmps72
        go_wp2_with fail
        (refine (iGaussOk _ _ _).mono ?_; rintro e w1 ⟨rfl, hb1⟩; have hz1 := hb1.size; (repeat (first | rw [World.size_alloc] at hz1 | rw [World.size_setCell] at hz1 | rw [World.size_drew] at hz1)); have pp := C2.K hb1 (b := w.heap.size) (x := _) (y := _) (c2A); obtain ⟨kk5, kk6⟩ := pp; have pp := T2.K hb1 (b := w.heap.size + 1) (x := _) (y := _) (t2A); obtain ⟨kk7, kk8, fkk7, fkk8⟩ := pp; (try clear kk1 kk2 kk3 kk4 fkk3 fkk4))
        go_wp2_with fail
        (refine (tuFi_3 _ _ _ h1 h2 h3 h4 p0 p1 p2 p3).mono ?_; rintro e w2 ⟨rfl, hb2⟩; have hz2 := hb2.size; (repeat (first | rw [World.size_alloc] at hz2 | rw [World.size_setCell] at hz2 | rw [World.size_drew] at hz2)); have pp := C2.K hb2 (b := w.heap.size) (x := _) (y := _) (c2A); obtain ⟨kk9, kk10⟩ := pp; have pp := T2.K hb2 (b := w.heap.size + 1) (x := _) (y := _) (t2A); obtain ⟨kk11, kk12, fkk11, fkk12⟩ := pp; (try clear kk5 kk6 kk7 kk8 fkk7 fkk8))
        go_wp2_with fail
        refine bodyPost_ret (v := .tuple #[.agg #[.int .i64 (b), .int .i64 (-a)], .int .i64 1, .bool true]) (by simp [results, Try.results72, go_sem, *]) rfl ?_; exact ⟨rfl, blA⟩
      · obtain ⟨e1, e2, e3, -⟩ := fi_2 k1 p0 p1 p2
        rw [e1, e2, e3]
        clear e1 e2 e3
        go_enter Try.func72, Try.ntmps72
        go_wp2_with fail
        (refine (iGaussOk _ _ _).mono ?_; rintro e w1 ⟨rfl, hb1⟩; have hz1 := hb1.size; (repeat (first | rw [World.size_alloc] at hz1 | rw [World.size_setCell] at hz1 | rw [World.size_drew] at hz1)); have pp := C2.K hb1 (b := w.heap.size) (x := _) (y := _) (c2A); obtain ⟨kk13, kk14⟩ := pp; have pp := T2.K hb1 (b := w.heap.size + 1) (x := _) (y := _) (t2A); obtain ⟨kk15, kk16, fkk15, fkk16⟩ := pp; (try clear kk9 kk10 kk11 kk12 fkk11 fkk12))
        go_wp2_with fail
        (refine (tuFi_2 _ _ _ h1 h2 h3 h4 p0 p1 p2).mono ?_; rintro e w2 ⟨rfl, hb2⟩; have hz2 := hb2.size; (repeat (first | rw [World.size_alloc] at hz2 | rw [World.size_setCell] at hz2 | rw [World.size_drew] at hz2)); have pp := C2.K hb2 (b := w.heap.size) (x := _) (y := _) (c2A); obtain ⟨kk17, kk18⟩ := pp; have pp := T2.K hb2 (b := w.heap.size + 1) (x := _) (y := _) (t2A); obtain ⟨kk19, kk20, fkk19, fkk20⟩ := pp; (try clear kk13 kk14 kk15 kk16 fkk15 fkk16))
        go_wp2_with fail
        refine bodyPost_ret (v := .tuple #[.agg #[.int .i64 (-a), .int .i64 (-b)], .int .i64 2, .bool true]) (by simp [results, Try.results72, go_sem, *]) rfl ?_; exact ⟨rfl, blA⟩
    · obtain ⟨e1, e2, e3, -⟩ := fi_1 k1 p0 p1
      rw [e1, e2, e3]
      clear e1 e2 e3
      go_enter Try.func72, Try.ntmps72
      go_wp2_with fail
      (refine (iGaussOk _ _ _).mono ?_; rintro e w1 ⟨rfl, hb1⟩; have hz1 := hb1.size; (repeat (first | rw [World.size_alloc] at hz1 | rw [World.size_setCell] at hz1 | rw [World.size_drew] at hz1)); have pp := C2.K hb1 (b := w.heap.size) (x := _) (y := _) (c2A); obtain ⟨kk21, kk22⟩ := pp; have pp := T2.K hb1 (b := w.heap.size + 1) (x := _) (y := _) (t2A); obtain ⟨kk23, kk24, fkk23, fkk24⟩ := pp; (try clear kk17 kk18 kk19 kk20 fkk19 fkk20))
      go_wp2_with fail
      (refine (tuFi_1 _ _ _ h1 h2 h3 h4 p0 p1).mono ?_; rintro e w2 ⟨rfl, hb2⟩; have hz2 := hb2.size; (repeat (first | rw [World.size_alloc] at hz2 | rw [World.size_setCell] at hz2 | rw [World.size_drew] at hz2)); have pp := C2.K hb2 (b := w.heap.size) (x := _) (y := _) (c2A); obtain ⟨kk25, kk26⟩ := pp; have pp := T2.K hb2 (b := w.heap.size + 1) (x := _) (y := _) (t2A); obtain ⟨kk27, kk28, fkk27, fkk28⟩ := pp; (try clear kk21 kk22 kk23 kk24 fkk23 fkk24))
      go_wp2_with fail
      refine bodyPost_ret (v := .tuple #[.agg #[.int .i64 (-b), .int .i64 (a)], .int .i64 3, .bool true]) (by simp [results, Try.results72, go_sem, *]) rfl ?_; exact ⟨rfl, blA⟩
  · obtain ⟨e1, e2, e3, -⟩ := fi_0 k1 p0
    rw [e1, e2, e3]
    clear e1 e2 e3
    go_enter Try.func72, Try.ntmps72
    go_wp2_with fail
    (refine (iGaussOk _ _ _).mono ?_; rintro e w1 ⟨rfl, hb1⟩; have hz1 := hb1.size; (repeat (first | rw [World.size_alloc] at hz1 | rw [World.size_setCell] at hz1 | rw [World.size_drew] at hz1)); have pp := C2.K hb1 (b := w.heap.size) (x := _) (y := _) (c2A); obtain ⟨kk29, kk30⟩ := pp; have pp := T2.K hb1 (b := w.heap.size + 1) (x := _) (y := _) (t2A); obtain ⟨kk31, kk32, fkk31, fkk32⟩ := pp; (try clear kk25 kk26 kk27 kk28 fkk27 fkk28))
    go_wp2_with fail
    (refine (tuFi_0 _ _ _ h1 h2 h3 h4 p0).mono ?_; rintro e w2 ⟨rfl, hb2⟩; have hz2 := hb2.size; (repeat (first | rw [World.size_alloc] at hz2 | rw [World.size_setCell] at hz2 | rw [World.size_drew] at hz2)); have pp := C2.K hb2 (b := w.heap.size) (x := _) (y := _) (c2A); obtain ⟨kk33, kk34⟩ := pp; have pp := T2.K hb2 (b := w.heap.size + 1) (x := _) (y := _) (t2A); obtain ⟨kk35, kk36, fkk35, fkk36⟩ := pp; (try clear kk29 kk30 kk31 kk32 fkk31 fkk32))
    go_wp2_with fail
    refine bodyPost_ret (v := .tuple #[.agg #[.int .i64 (a), .int .i64 (b)], .int .i64 0, .bool true]) (by simp [results, Try.results72, go_sem, *]) rfl ?_; exact ⟨rfl, blA⟩

set_option maxHeartbeats 2000000 in
theorem sFi_0 (a b : Int) (w : World) (ha1 : -1000000000000 ≤ a) (ha2 : a ≤ 1000000000000) (hb1 : -1000000000000 ≤ b) (hb2 : b ≤ 1000000000000) (sa : 0 < a) (sb : 0 ≤ b) :
    Calls Try.prog 79 #[.agg #[.int .i64 a, .int .i64 b]] w fun e w' => e = .returned (.tuple #[.agg #[.int .i64 (a), .int .i64 (b)], .int .i64 0]) ∧ Below w.heap.size w w' := by


  go_enter Try.func79, Try.ntmps79
  go_wp2_with fail
  refine wp_loop_rounds 5 ?_
  rw [rounds_succ]
  go_wp2_with fail
  (refine (l2Turn_0 _ _ _ (by omega) (by omega) (by omega) (by omega)).mono ?_; rintro e v01 ⟨rfl, hb01⟩; have hz01 := hb01.size; (repeat (first | rw [World.size_alloc] at hz01 | rw [World.size_setCell] at hz01 | rw [World.size_drew] at hz01)); have pp := C2.K hb01 (b := w.heap.size) (x := _) (y := _) (c2A); obtain ⟨kk1, kk2⟩ := pp; have pp := T2.K hb01 (b := w.heap.size + 1) (x := _) (y := _) (t2A); obtain ⟨kk3, kk4, fkk3, fkk4⟩ := pp)
  go_wp2_with fail
  refine bodyPost_ret (v := .tuple #[.agg #[.int .i64 (a), .int .i64 (b)], .int .i64 0]) (by simp [results, Try.results79, go_sem, *]) rfl ?_; exact ⟨rfl, blA⟩

set_option maxHeartbeats 2000000 in
theorem sFi_1 (a b : Int) (w : World) (ha1 : -1000000000000 ≤ a) (ha2 : a ≤ 1000000000000) (hb1 : -1000000000000 ≤ b) (hb2 : b ≤ 1000000000000) (sa : 0 < a) (sb : b < 0) :
    Calls Try.prog 79 #[.agg #[.int .i64 a, .int .i64 b]] w fun e w' => e = .returned (.tuple #[.agg #[.int .i64 (-b), .int .i64 (a)], .int .i64 3]) ∧ Below w.heap.size w w' := by


  go_enter Try.func79, Try.ntmps79
  go_wp2_with fail
  refine wp_loop_rounds 5 ?_
  rw [rounds_succ]
  go_wp2_with fail
  (refine (l2Turn_0 _ _ _ (by omega) (by omega) (by omega) (by omega)).mono ?_; rintro e v01 ⟨rfl, hb01⟩; have hz01 := hb01.size; (repeat (first | rw [World.size_alloc] at hz01 | rw [World.size_setCell] at hz01 | rw [World.size_drew] at hz01)); have pp := C2.K hb01 (b := w.heap.size) (x := _) (y := _) (c2A); obtain ⟨kk1, kk2⟩ := pp; have pp := T2.K hb01 (b := w.heap.size + 1) (x := _) (y := _) (t2A); obtain ⟨kk3, kk4, fkk3, fkk4⟩ := pp)
  go_wp2_with fail
  rw [rounds_succ]
  go_wp2_with fail
  (refine (l2Turn_1 _ _ _ (by omega) (by omega) (by omega) (by omega)).mono ?_; rintro e v11 ⟨rfl, hb11⟩; have hz11 := hb11.size; (repeat (first | rw [World.size_alloc] at hz11 | rw [World.size_setCell] at hz11 | rw [World.size_drew] at hz11)); have pp := C2.K hb11 (b := w.heap.size) (x := _) (y := _) (c2A); obtain ⟨kk5, kk6⟩ := pp; have pp := T2.K hb11 (b := w.heap.size + 1) (x := _) (y := _) (t2A); obtain ⟨kk7, kk8, fkk7, fkk8⟩ := pp; (try clear kk1 kk2 kk3 kk4 fkk3 fkk4))
  go_wp2_with fail
  refine bodyPost_ret (v := .tuple #[.agg #[.int .i64 (-b), .int .i64 (a)], .int .i64 3]) (by simp [results, Try.results79, go_sem, *]) rfl ?_; exact ⟨rfl, blA⟩

set_option maxHeartbeats 2000000 in
theorem sFi_2 (a b : Int) (w : World) (ha1 : -1000000000000 ≤ a) (ha2 : a ≤ 1000000000000) (hb1 : -1000000000000 ≤ b) (hb2 : b ≤ 1000000000000) (sa : a = 0) (sb : b < 0) :
    Calls Try.prog 79 #[.agg #[.int .i64 a, .int .i64 b]] w fun e w' => e = .returned (.tuple #[.agg #[.int .i64 (-b), .int .i64 (a)], .int .i64 3]) ∧ Below w.heap.size w w' := by
  subst sa

  go_enter Try.func79, Try.ntmps79
  go_wp2_with fail
  refine wp_loop_rounds 5 ?_
  rw [rounds_succ]
  go_wp2_with fail
  (refine (l2Turn_0 _ _ _ (by omega) (by omega) (by omega) (by omega)).mono ?_; rintro e v01 ⟨rfl, hb01⟩; have hz01 := hb01.size; (repeat (first | rw [World.size_alloc] at hz01 | rw [World.size_setCell] at hz01 | rw [World.size_drew] at hz01)); have pp := C2.K hb01 (b := w.heap.size) (x := _) (y := _) (c2A); obtain ⟨kk1, kk2⟩ := pp; have pp := T2.K hb01 (b := w.heap.size + 1) (x := _) (y := _) (t2A); obtain ⟨kk3, kk4, fkk3, fkk4⟩ := pp)
  go_wp2_with fail
  rw [rounds_succ]
  go_wp2_with fail
  (refine (l2Turn_1 _ _ _ (by omega) (by omega) (by omega) (by omega)).mono ?_; rintro e v11 ⟨rfl, hb11⟩; have hz11 := hb11.size; (repeat (first | rw [World.size_alloc] at hz11 | rw [World.size_setCell] at hz11 | rw [World.size_drew] at hz11)); have pp := C2.K hb11 (b := w.heap.size) (x := _) (y := _) (c2A); obtain ⟨kk5, kk6⟩ := pp; have pp := T2.K hb11 (b := w.heap.size + 1) (x := _) (y := _) (t2A); obtain ⟨kk7, kk8, fkk7, fkk8⟩ := pp; (try clear kk1 kk2 kk3 kk4 fkk3 fkk4))
  go_wp2_with fail
  refine bodyPost_ret (v := .tuple #[.agg #[.int .i64 (-b), .int .i64 (0)], .int .i64 3]) (by simp [results, Try.results79, go_sem, *]) rfl ?_; exact ⟨rfl, blA⟩

set_option maxHeartbeats 2000000 in
theorem sFi_3 (a b : Int) (w : World) (ha1 : -1000000000000 ≤ a) (ha2 : a ≤ 1000000000000) (hb1 : -1000000000000 ≤ b) (hb2 : b ≤ 1000000000000) (sa : a < 0) (sb : b < 0) :
    Calls Try.prog 79 #[.agg #[.int .i64 a, .int .i64 b]] w fun e w' => e = .returned (.tuple #[.agg #[.int .i64 (-a), .int .i64 (-b)], .int .i64 2]) ∧ Below w.heap.size w w' := by


  go_enter Try.func79, Try.ntmps79
  go_wp2_with fail
  refine wp_loop_rounds 5 ?_
  rw [rounds_succ]
  go_wp2_with fail
  (refine (l2Turn_0 _ _ _ (by omega) (by omega) (by omega) (by omega)).mono ?_; rintro e v01 ⟨rfl, hb01⟩; have hz01 := hb01.size; (repeat (first | rw [World.size_alloc] at hz01 | rw [World.size_setCell] at hz01 | rw [World.size_drew] at hz01)); have pp := C2.K hb01 (b := w.heap.size) (x := _) (y := _) (c2A); obtain ⟨kk1, kk2⟩ := pp; have pp := T2.K hb01 (b := w.heap.size + 1) (x := _) (y := _) (t2A); obtain ⟨kk3, kk4, fkk3, fkk4⟩ := pp)
  go_wp2_with fail
  rw [rounds_succ]
  go_wp2_with fail
  (refine (l2Turn_1 _ _ _ (by omega) (by omega) (by omega) (by omega)).mono ?_; rintro e v11 ⟨rfl, hb11⟩; have hz11 := hb11.size; (repeat (first | rw [World.size_alloc] at hz11 | rw [World.size_setCell] at hz11 | rw [World.size_drew] at hz11)); have pp := C2.K hb11 (b := w.heap.size) (x := _) (y := _) (c2A); obtain ⟨kk5, kk6⟩ := pp; have pp := T2.K hb11 (b := w.heap.size + 1) (x := _) (y := _) (t2A); obtain ⟨kk7, kk8, fkk7, fkk8⟩ := pp; (try clear kk1 kk2 kk3 kk4 fkk3 fkk4))
  go_wp2_with fail
  rw [rounds_succ]
  go_wp2_with fail
  (refine (l2Turn_2 _ _ _ (by omega) (by omega) (by omega) (by omega)).mono ?_; rintro e v21 ⟨rfl, hb21⟩; have hz21 := hb21.size; (repeat (first | rw [World.size_alloc] at hz21 | rw [World.size_setCell] at hz21 | rw [World.size_drew] at hz21)); have pp := C2.K hb21 (b := w.heap.size) (x := _) (y := _) (c2A); obtain ⟨kk9, kk10⟩ := pp; have pp := T2.K hb21 (b := w.heap.size + 1) (x := _) (y := _) (t2A); obtain ⟨kk11, kk12, fkk11, fkk12⟩ := pp; (try clear kk5 kk6 kk7 kk8 fkk7 fkk8))
  go_wp2_with fail
  refine bodyPost_ret (v := .tuple #[.agg #[.int .i64 (-a), .int .i64 (-b)], .int .i64 2]) (by simp [results, Try.results79, go_sem, *]) rfl ?_; exact ⟨rfl, blA⟩

set_option maxHeartbeats 2000000 in
theorem sFi_4 (a b : Int) (w : World) (ha1 : -1000000000000 ≤ a) (ha2 : a ≤ 1000000000000) (hb1 : -1000000000000 ≤ b) (hb2 : b ≤ 1000000000000) (sa : a < 0) (sb : b = 0) :
    Calls Try.prog 79 #[.agg #[.int .i64 a, .int .i64 b]] w fun e w' => e = .returned (.tuple #[.agg #[.int .i64 (-a), .int .i64 (-b)], .int .i64 2]) ∧ Below w.heap.size w w' := by

  subst sb
  go_enter Try.func79, Try.ntmps79
  go_wp2_with fail
  refine wp_loop_rounds 5 ?_
  rw [rounds_succ]
  go_wp2_with fail
  (refine (l2Turn_0 _ _ _ (by omega) (by omega) (by omega) (by omega)).mono ?_; rintro e v01 ⟨rfl, hb01⟩; have hz01 := hb01.size; (repeat (first | rw [World.size_alloc] at hz01 | rw [World.size_setCell] at hz01 | rw [World.size_drew] at hz01)); have pp := C2.K hb01 (b := w.heap.size) (x := _) (y := _) (c2A); obtain ⟨kk1, kk2⟩ := pp; have pp := T2.K hb01 (b := w.heap.size + 1) (x := _) (y := _) (t2A); obtain ⟨kk3, kk4, fkk3, fkk4⟩ := pp)
  go_wp2_with fail
  rw [rounds_succ]
  go_wp2_with fail
  (refine (l2Turn_1 _ _ _ (by omega) (by omega) (by omega) (by omega)).mono ?_; rintro e v11 ⟨rfl, hb11⟩; have hz11 := hb11.size; (repeat (first | rw [World.size_alloc] at hz11 | rw [World.size_setCell] at hz11 | rw [World.size_drew] at hz11)); have pp := C2.K hb11 (b := w.heap.size) (x := _) (y := _) (c2A); obtain ⟨kk5, kk6⟩ := pp; have pp := T2.K hb11 (b := w.heap.size + 1) (x := _) (y := _) (t2A); obtain ⟨kk7, kk8, fkk7, fkk8⟩ := pp; (try clear kk1 kk2 kk3 kk4 fkk3 fkk4))
  go_wp2_with fail
  rw [rounds_succ]
  go_wp2_with fail
  (refine (l2Turn_2 _ _ _ (by omega) (by omega) (by omega) (by omega)).mono ?_; rintro e v21 ⟨rfl, hb21⟩; have hz21 := hb21.size; (repeat (first | rw [World.size_alloc] at hz21 | rw [World.size_setCell] at hz21 | rw [World.size_drew] at hz21)); have pp := C2.K hb21 (b := w.heap.size) (x := _) (y := _) (c2A); obtain ⟨kk9, kk10⟩ := pp; have pp := T2.K hb21 (b := w.heap.size + 1) (x := _) (y := _) (t2A); obtain ⟨kk11, kk12, fkk11, fkk12⟩ := pp; (try clear kk5 kk6 kk7 kk8 fkk7 fkk8))
  go_wp2_with fail
  refine bodyPost_ret (v := .tuple #[.agg #[.int .i64 (-a), .int .i64 (-0)], .int .i64 2]) (by simp [results, Try.results79, go_sem, *]) rfl ?_; exact ⟨rfl, blA⟩

set_option maxHeartbeats 2000000 in
theorem sFi_5 (a b : Int) (w : World) (ha1 : -1000000000000 ≤ a) (ha2 : a ≤ 1000000000000) (hb1 : -1000000000000 ≤ b) (hb2 : b ≤ 1000000000000) (sa : a < 0) (sb : 0 < b) :
    Calls Try.prog 79 #[.agg #[.int .i64 a, .int .i64 b]] w fun e w' => e = .returned (.tuple #[.agg #[.int .i64 (b), .int .i64 (-a)], .int .i64 1]) ∧ Below w.heap.size w w' := by


  go_enter Try.func79, Try.ntmps79
  go_wp2_with fail
  refine wp_loop_rounds 5 ?_
  rw [rounds_succ]
  go_wp2_with fail
  (refine (l2Turn_0 _ _ _ (by omega) (by omega) (by omega) (by omega)).mono ?_; rintro e v01 ⟨rfl, hb01⟩; have hz01 := hb01.size; (repeat (first | rw [World.size_alloc] at hz01 | rw [World.size_setCell] at hz01 | rw [World.size_drew] at hz01)); have pp := C2.K hb01 (b := w.heap.size) (x := _) (y := _) (c2A); obtain ⟨kk1, kk2⟩ := pp; have pp := T2.K hb01 (b := w.heap.size + 1) (x := _) (y := _) (t2A); obtain ⟨kk3, kk4, fkk3, fkk4⟩ := pp)
  go_wp2_with fail
  rw [rounds_succ]
  go_wp2_with fail
  (refine (l2Turn_1 _ _ _ (by omega) (by omega) (by omega) (by omega)).mono ?_; rintro e v11 ⟨rfl, hb11⟩; have hz11 := hb11.size; (repeat (first | rw [World.size_alloc] at hz11 | rw [World.size_setCell] at hz11 | rw [World.size_drew] at hz11)); have pp := C2.K hb11 (b := w.heap.size) (x := _) (y := _) (c2A); obtain ⟨kk5, kk6⟩ := pp; have pp := T2.K hb11 (b := w.heap.size + 1) (x := _) (y := _) (t2A); obtain ⟨kk7, kk8, fkk7, fkk8⟩ := pp; (try clear kk1 kk2 kk3 kk4 fkk3 fkk4))
  go_wp2_with fail
  rw [rounds_succ]
  go_wp2_with fail
  (refine (l2Turn_2 _ _ _ (by omega) (by omega) (by omega) (by omega)).mono ?_; rintro e v21 ⟨rfl, hb21⟩; have hz21 := hb21.size; (repeat (first | rw [World.size_alloc] at hz21 | rw [World.size_setCell] at hz21 | rw [World.size_drew] at hz21)); have pp := C2.K hb21 (b := w.heap.size) (x := _) (y := _) (c2A); obtain ⟨kk9, kk10⟩ := pp; have pp := T2.K hb21 (b := w.heap.size + 1) (x := _) (y := _) (t2A); obtain ⟨kk11, kk12, fkk11, fkk12⟩ := pp; (try clear kk5 kk6 kk7 kk8 fkk7 fkk8))
  go_wp2_with fail
  rw [rounds_succ]
  go_wp2_with fail
  (refine (l2Turn_3 _ _ _ (by omega) (by omega) (by omega) (by omega)).mono ?_; rintro e v31 ⟨rfl, hb31⟩; have hz31 := hb31.size; (repeat (first | rw [World.size_alloc] at hz31 | rw [World.size_setCell] at hz31 | rw [World.size_drew] at hz31)); have pp := C2.K hb31 (b := w.heap.size) (x := _) (y := _) (c2A); obtain ⟨kk13, kk14⟩ := pp; have pp := T2.K hb31 (b := w.heap.size + 1) (x := _) (y := _) (t2A); obtain ⟨kk15, kk16, fkk15, fkk16⟩ := pp; (try clear kk9 kk10 kk11 kk12 fkk11 fkk12))
  go_wp2_with fail
  refine bodyPost_ret (v := .tuple #[.agg #[.int .i64 (b), .int .i64 (-a)], .int .i64 1]) (by simp [results, Try.results79, go_sem, *]) rfl ?_; exact ⟨rfl, blA⟩

set_option maxHeartbeats 2000000 in
theorem sFi_6 (a b : Int) (w : World) (ha1 : -1000000000000 ≤ a) (ha2 : a ≤ 1000000000000) (hb1 : -1000000000000 ≤ b) (hb2 : b ≤ 1000000000000) (sa : a = 0) (sb : 0 < b) :
    Calls Try.prog 79 #[.agg #[.int .i64 a, .int .i64 b]] w fun e w' => e = .returned (.tuple #[.agg #[.int .i64 (b), .int .i64 (-a)], .int .i64 1]) ∧ Below w.heap.size w w' := by
  subst sa

  go_enter Try.func79, Try.ntmps79
  go_wp2_with fail
  refine wp_loop_rounds 5 ?_
  rw [rounds_succ]
  go_wp2_with fail
  (refine (l2Turn_0 _ _ _ (by omega) (by omega) (by omega) (by omega)).mono ?_; rintro e v01 ⟨rfl, hb01⟩; have hz01 := hb01.size; (repeat (first | rw [World.size_alloc] at hz01 | rw [World.size_setCell] at hz01 | rw [World.size_drew] at hz01)); have pp := C2.K hb01 (b := w.heap.size) (x := _) (y := _) (c2A); obtain ⟨kk1, kk2⟩ := pp; have pp := T2.K hb01 (b := w.heap.size + 1) (x := _) (y := _) (t2A); obtain ⟨kk3, kk4, fkk3, fkk4⟩ := pp)
  go_wp2_with fail
  rw [rounds_succ]
  go_wp2_with fail
  (refine (l2Turn_1 _ _ _ (by omega) (by omega) (by omega) (by omega)).mono ?_; rintro e v11 ⟨rfl, hb11⟩; have hz11 := hb11.size; (repeat (first | rw [World.size_alloc] at hz11 | rw [World.size_setCell] at hz11 | rw [World.size_drew] at hz11)); have pp := C2.K hb11 (b := w.heap.size) (x := _) (y := _) (c2A); obtain ⟨kk5, kk6⟩ := pp; have pp := T2.K hb11 (b := w.heap.size + 1) (x := _) (y := _) (t2A); obtain ⟨kk7, kk8, fkk7, fkk8⟩ := pp; (try clear kk1 kk2 kk3 kk4 fkk3 fkk4))
  go_wp2_with fail
  rw [rounds_succ]
  go_wp2_with fail
  (refine (l2Turn_2 _ _ _ (by omega) (by omega) (by omega) (by omega)).mono ?_; rintro e v21 ⟨rfl, hb21⟩; have hz21 := hb21.size; (repeat (first | rw [World.size_alloc] at hz21 | rw [World.size_setCell] at hz21 | rw [World.size_drew] at hz21)); have pp := C2.K hb21 (b := w.heap.size) (x := _) (y := _) (c2A); obtain ⟨kk9, kk10⟩ := pp; have pp := T2.K hb21 (b := w.heap.size + 1) (x := _) (y := _) (t2A); obtain ⟨kk11, kk12, fkk11, fkk12⟩ := pp; (try clear kk5 kk6 kk7 kk8 fkk7 fkk8))
  go_wp2_with fail
  rw [rounds_succ]
  go_wp2_with fail
  (refine (l2Turn_3 _ _ _ (by omega) (by omega) (by omega) (by omega)).mono ?_; rintro e v31 ⟨rfl, hb31⟩; have hz31 := hb31.size; (repeat (first | rw [World.size_alloc] at hz31 | rw [World.size_setCell] at hz31 | rw [World.size_drew] at hz31)); have pp := C2.K hb31 (b := w.heap.size) (x := _) (y := _) (c2A); obtain ⟨kk13, kk14⟩ := pp; have pp := T2.K hb31 (b := w.heap.size + 1) (x := _) (y := _) (t2A); obtain ⟨kk15, kk16, fkk15, fkk16⟩ := pp; (try clear kk9 kk10 kk11 kk12 fkk11 fkk12))
  go_wp2_with fail
  refine bodyPost_ret (v := .tuple #[.agg #[.int .i64 (b), .int .i64 (-0)], .int .i64 1]) (by simp [results, Try.results79, go_sem, *]) rfl ?_; exact ⟨rfl, blA⟩

set_option maxHeartbeats 2000000 in
theorem sFi_7 (a b : Int) (w : World) (ha1 : -1000000000000 ≤ a) (ha2 : a ≤ 1000000000000) (hb1 : -1000000000000 ≤ b) (hb2 : b ≤ 1000000000000) (sa : a = 0) (sb : b = 0) :
    Calls Try.prog 79 #[.agg #[.int .i64 a, .int .i64 b]] w fun e w' => e = .returned (.tuple #[.agg #[.int .i64 (0), .int .i64 (0)], .int .i64 0]) ∧ Below w.heap.size w w' := by
  subst sa
  subst sb
  go_enter Try.func79, Try.ntmps79
  go_wp2_with fail
  refine wp_loop_rounds 5 ?_
  rw [rounds_succ]
  go_wp2_with fail
  (refine (l2Turn_0 _ _ _ (by omega) (by omega) (by omega) (by omega)).mono ?_; rintro e v01 ⟨rfl, hb01⟩; have hz01 := hb01.size; (repeat (first | rw [World.size_alloc] at hz01 | rw [World.size_setCell] at hz01 | rw [World.size_drew] at hz01)); have pp := C2.K hb01 (b := w.heap.size) (x := _) (y := _) (c2A); obtain ⟨kk1, kk2⟩ := pp; have pp := T2.K hb01 (b := w.heap.size + 1) (x := _) (y := _) (t2A); obtain ⟨kk3, kk4, fkk3, fkk4⟩ := pp)
  go_wp2_with fail
  rw [rounds_succ]
  go_wp2_with fail
  (refine (l2Turn_1 _ _ _ (by omega) (by omega) (by omega) (by omega)).mono ?_; rintro e v11 ⟨rfl, hb11⟩; have hz11 := hb11.size; (repeat (first | rw [World.size_alloc] at hz11 | rw [World.size_setCell] at hz11 | rw [World.size_drew] at hz11)); have pp := C2.K hb11 (b := w.heap.size) (x := _) (y := _) (c2A); obtain ⟨kk5, kk6⟩ := pp; have pp := T2.K hb11 (b := w.heap.size + 1) (x := _) (y := _) (t2A); obtain ⟨kk7, kk8, fkk7, fkk8⟩ := pp; (try clear kk1 kk2 kk3 kk4 fkk3 fkk4))
  go_wp2_with fail
  rw [rounds_succ]
  go_wp2_with fail
  (refine (l2Turn_2 _ _ _ (by omega) (by omega) (by omega) (by omega)).mono ?_; rintro e v21 ⟨rfl, hb21⟩; have hz21 := hb21.size; (repeat (first | rw [World.size_alloc] at hz21 | rw [World.size_setCell] at hz21 | rw [World.size_drew] at hz21)); have pp := C2.K hb21 (b := w.heap.size) (x := _) (y := _) (c2A); obtain ⟨kk9, kk10⟩ := pp; have pp := T2.K hb21 (b := w.heap.size + 1) (x := _) (y := _) (t2A); obtain ⟨kk11, kk12, fkk11, fkk12⟩ := pp; (try clear kk5 kk6 kk7 kk8 fkk7 fkk8))
  go_wp2_with fail
  rw [rounds_succ]
  go_wp2_with fail
  (refine (l2Turn_3 _ _ _ (by omega) (by omega) (by omega) (by omega)).mono ?_; rintro e v31 ⟨rfl, hb31⟩; have hz31 := hb31.size; (repeat (first | rw [World.size_alloc] at hz31 | rw [World.size_setCell] at hz31 | rw [World.size_drew] at hz31)); have pp := C2.K hb31 (b := w.heap.size) (x := _) (y := _) (c2A); obtain ⟨kk13, kk14⟩ := pp; have pp := T2.K hb31 (b := w.heap.size + 1) (x := _) (y := _) (t2A); obtain ⟨kk15, kk16, fkk15, fkk16⟩ := pp; (try clear kk9 kk10 kk11 kk12 fkk11 fkk12))
  go_wp2_with fail
  rw [rounds_succ]
  go_wp2_with fail
  refine bodyPost_ret (v := .tuple #[.agg #[.int .i64 (0), .int .i64 (0)], .int .i64 0]) (by simp [results, Try.results79, go_sem, *]) rfl ?_; exact ⟨rfl, blA⟩

theorem iFirstOf_v {a b x y t : Int} {o : Bool} (w : World) (h : gok a b = o ∧ fiA a b = x ∧ fiB a b = y ∧ fiT a b = t) : Calls Try.prog 72 #[.agg #[.int .i64 a, .int .i64 b]] w fun e w' => e = .returned (.tuple #[.agg #[.int .i64 x, .int .i64 y], .int .i64 t, .bool o]) ∧ Below w.heap.size w w' := by
  obtain ⟨rfl, rfl, rfl, rfl⟩ := h; exact iFirstOf a b w
theorem iFirstOf_w {a b x y : Int} (w : World) (k : gok a b = true) (hA : fiA a b = x) (hB : fiB a b = y) : Calls Try.prog 72 #[.agg #[.int .i64 a, .int .i64 b]] w fun e w' => e = .returned (.tuple #[.agg #[.int .i64 x, .int .i64 y], .int .i64 (fiT a b), .bool true]) ∧ Below w.heap.size w w' := iFirstOf_v w ⟨k, hA, hB, rfl⟩

end Go.Proofs.Ytggebkgfldmipaa
