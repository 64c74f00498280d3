import Derived.Test.YtggebkgfldmipaaR
import Derived.Laws.EntriesVeiled
import Derived.BigRegion
namespace Go.Proofs.Ytggebkgfldmipaa
open Go Go.RowKit
attribute [local go_sem] World.cell?_alloc_some cell?_alloc2_some cell?_alloc3_some cell?_alloc4_some frozen?_alloc_some frozen?_alloc2_some frozen?_alloc3_some World.cell?_setCell_far new_ne0 new_ne1 new_ne2 new_ne3 lt2 lt3 lt4 lt5 lt6 lt7 lt8 lt9

def tuA (t a b : Int) : Int := if t = 0 then a else if t = 1 then -b else if t = 2 then -a else b
def tuB (t a b : Int) : Int := if t = 0 then b else if t = 1 then a else if t = 2 then -b else -a
def trO (t a b : Int) : Bool := gok a b && decide (0 ≤ t ∧ t ≤ 3)
def trA (t a b : Int) : Int := if trO t a b then tuA t a b else 0
def trB (t a b : Int) : Int := if trO t a b then tuB t a b else 0
theorem trO_f {t a b : Int} (h : trO t a b = false) : trA t a b = 0 ∧ trB t a b = 0 := by simp [trA, trB, h]
theorem tr_t {t a b : Int} (h : trO t a b = true) : trA t a b = tuA t a b ∧ trB t a b = tuB t a b := by simp [trA, trB, h]

theorem igStayed (a b : Int) (w : World) : Calls Try.prog 90 #[.agg #[.int .i64 a, .int .i64 b]] w fun e w' => e = .returned (.agg #[.int .i64 a, .int .i64 b]) ∧ Below w.heap.size w w' := by
  go_enter Try.func90, Try.ntmps90
  go_wp2
  go_returns
  exact ⟨rfl, blA⟩

theorem igTurned (a b : Int) (w : World) (_ha1 : -4000000000000000000 ≤ a) (_ha2 : a ≤ 4000000000000000000) (_hb1 : -4000000000000000000 ≤ b) (_hb2 : b ≤ 4000000000000000000) : Calls Try.prog 91 #[.agg #[.int .i64 a, .int .i64 b]] w fun e w' => e = .returned (.agg #[.int .i64 (-b), .int .i64 (a)]) ∧ Below w.heap.size w w' := by
  go_enter Try.func91, Try.ntmps91
  go_wp2
  go_returns
  exact ⟨rfl, blA⟩

theorem igMinus (a b : Int) (w : World) (_ha1 : -4000000000000000000 ≤ a) (_ha2 : a ≤ 4000000000000000000) (_hb1 : -4000000000000000000 ≤ b) (_hb2 : b ≤ 4000000000000000000) : Calls Try.prog 82 #[.agg #[.int .i64 a, .int .i64 b]] w fun e w' => e = .returned (.agg #[.int .i64 (-a), .int .i64 (-b)]) ∧ Below w.heap.size w w' := by
  go_enter Try.func82, Try.ntmps82
  go_wp2
  go_returns
  exact ⟨rfl, blA⟩

theorem igTurnedBack (a b : Int) (w : World) (_ha1 : -4000000000000000000 ≤ a) (_ha2 : a ≤ 4000000000000000000) (_hb1 : -4000000000000000000 ≤ b) (_hb2 : b ≤ 4000000000000000000) : Calls Try.prog 92 #[.agg #[.int .i64 a, .int .i64 b]] w fun e w' => e = .returned (.agg #[.int .i64 (b), .int .i64 (-a)]) ∧ Below w.heap.size w w' := by
  go_enter Try.func92, Try.ntmps92
  go_wp2
  go_returns
  exact ⟨rfl, blA⟩

theorem iTurns (w : World) : Calls Try.prog 88 #[] w fun e w' => e = .returned (.agg #[.func (.func 90) #[] #[], .func (.func 91) #[] #[], .func (.func 82) #[] #[], .func (.func 92) #[] #[]]) ∧ Below w.heap.size w w' := by
  go_enter Try.func88, Try.ntmps88
  go_wp2_with fail
  go_returns
  exact ⟨rfl, blA⟩

theorem l1In_b (n a b : Int) (w : World) : Calls Try.prog 61 #[.int .i64 n, .int .i64 a, .int .i64 b] w fun e w' => e = .returned (.bool (decide (a ≤ n ∧ n ≤ b))) ∧ Below w.heap.size w w' := by
  refine (l1In n a b w).mono ?_
  rintro e w' ⟨rfl, rfl⟩
  exact ⟨rfl, Below.refl _ _⟩

theorem turns_at_0 (W : World) : (Instr.index 96 (.agg #[.func (.func 90) #[] #[], .func (.func 91) #[] #[], .func (.func 82) #[] #[], .func (.func 92) #[] #[]]) (.int .i64 0)).run Try.prog W = .ok (.func (.func 90) #[] #[]) W := by
  simp [Instr.index, run_underlying Try.underlying96, asIntOf, go_sem]

theorem turns_at_1 (W : World) : (Instr.index 96 (.agg #[.func (.func 90) #[] #[], .func (.func 91) #[] #[], .func (.func 82) #[] #[], .func (.func 92) #[] #[]]) (.int .i64 1)).run Try.prog W = .ok (.func (.func 91) #[] #[]) W := by
  simp [Instr.index, run_underlying Try.underlying96, asIntOf, go_sem]

theorem turns_at_2 (W : World) : (Instr.index 96 (.agg #[.func (.func 90) #[] #[], .func (.func 91) #[] #[], .func (.func 82) #[] #[], .func (.func 92) #[] #[]]) (.int .i64 2)).run Try.prog W = .ok (.func (.func 82) #[] #[]) W := by
  simp [Instr.index, run_underlying Try.underlying96, asIntOf, go_sem]

theorem turns_at_3 (W : World) : (Instr.index 96 (.agg #[.func (.func 90) #[] #[], .func (.func 91) #[] #[], .func (.func 82) #[] #[], .func (.func 92) #[] #[]]) (.int .i64 3)).run Try.prog W = .ok (.func (.func 92) #[] #[]) W := by
  simp [Instr.index, run_underlying Try.underlying96, asIntOf, go_sem]

theorem l2Turn_0 (a b : Int) (w : World) (_ha1 : -4000000000000000000 ≤ a) (_ha2 : a ≤ 4000000000000000000) (_hb1 : -4000000000000000000 ≤ b) (_hb2 : b ≤ 4000000000000000000) : Calls Try.prog 58 #[.agg #[.int .i64 a, .int .i64 b], .int .i64 0] w fun e w' => e = .returned (.agg #[.int .i64 (a), .int .i64 (b)]) ∧ Below w.heap.size w w' := by
  go_enter Try.func58, Try.ntmps58
  go_wp2_with fail
  refine wp_loop_rounds 1 ?_
  rw [rounds_succ]
  go_wp2_with fail
  refine bodyPost_ret (v := .agg #[.int .i64 (a), .int .i64 (b)]) (by simp [results, Try.results58, go_sem, *]) rfl ?_; exact ⟨rfl, blA⟩

theorem l2Turn_1 (a b : Int) (w : World) (_ha1 : -4000000000000000000 ≤ a) (_ha2 : a ≤ 4000000000000000000) (_hb1 : -4000000000000000000 ≤ b) (_hb2 : b ≤ 4000000000000000000) : Calls Try.prog 58 #[.agg #[.int .i64 a, .int .i64 b], .int .i64 1] w fun e w' => e = .returned (.agg #[.int .i64 (-b), .int .i64 (a)]) ∧ Below w.heap.size w w' := by
  go_enter Try.func58, Try.ntmps58
  go_wp2_with fail
  refine wp_loop_rounds 2 ?_
  rw [rounds_succ]
  go_wp2_with fail
  rw [rounds_succ]
  go_wp2_with fail
  refine bodyPost_ret (v := .agg #[.int .i64 (-b), .int .i64 (a)]) (by simp [results, Try.results58, go_sem, *]) rfl ?_; exact ⟨rfl, blA⟩

theorem l2Turn_2 (a b : Int) (w : World) (_ha1 : -4000000000000000000 ≤ a) (_ha2 : a ≤ 4000000000000000000) (_hb1 : -4000000000000000000 ≤ b) (_hb2 : b ≤ 4000000000000000000) : Calls Try.prog 58 #[.agg #[.int .i64 a, .int .i64 b], .int .i64 2] w fun e w' => e = .returned (.agg #[.int .i64 (-a), .int .i64 (-b)]) ∧ Below w.heap.size w w' := by
  go_enter Try.func58, Try.ntmps58
  go_wp2_with fail
  refine wp_loop_rounds 3 ?_
  rw [rounds_succ]
  go_wp2_with fail
  rw [rounds_succ]
  go_wp2_with fail
  rw [rounds_succ]
  go_wp2_with fail
  refine bodyPost_ret (v := .agg #[.int .i64 (-a), .int .i64 (-b)]) (by simp [results, Try.results58, go_sem, *]) rfl ?_; exact ⟨rfl, blA⟩

theorem l2Turn_3 (a b : Int) (w : World) (_ha1 : -4000000000000000000 ≤ a) (_ha2 : a ≤ 4000000000000000000) (_hb1 : -4000000000000000000 ≤ b) (_hb2 : b ≤ 4000000000000000000) : Calls Try.prog 58 #[.agg #[.int .i64 a, .int .i64 b], .int .i64 3] w fun e w' => e = .returned (.agg #[.int .i64 (b), .int .i64 (-a)]) ∧ Below w.heap.size w w' := by
  go_enter Try.func58, Try.ntmps58
  go_wp2_with fail
  refine wp_loop_rounds 4 ?_
  rw [rounds_succ]
  go_wp2_with fail
  rw [rounds_succ]
  go_wp2_with fail
  rw [rounds_succ]
  go_wp2_with fail
  rw [rounds_succ]
  go_wp2_with fail
  refine bodyPost_ret (v := .agg #[.int .i64 (b), .int .i64 (-a)]) (by simp [results, Try.results58, go_sem, *]) rfl ?_; exact ⟨rfl, blA⟩

theorem l2Turn (t a b : Int) (w : World) (h0 : 0 ≤ t) (h3 : t ≤ 3) (ha1 : -4000000000000000000 ≤ a) (ha2 : a ≤ 4000000000000000000) (hb1 : -4000000000000000000 ≤ b) (hb2 : b ≤ 4000000000000000000) : Calls Try.prog 58 #[.agg #[.int .i64 a, .int .i64 b], .int .i64 t] w fun e w' => e = .returned (.agg #[.int .i64 (tuA t a b), .int .i64 (tuB t a b)]) ∧ Below w.heap.size w w' := by
  obtain rfl | rfl | rfl | rfl : t = 0 ∨ t = 1 ∨ t = 2 ∨ t = 3 := by omega
  · exact l2Turn_0 a b w ha1 ha2 hb1 hb2
  · exact l2Turn_1 a b w ha1 ha2 hb1 hb2
  · exact l2Turn_2 a b w ha1 ha2 hb1 hb2
  · exact l2Turn_3 a b w ha1 ha2 hb1 hb2

set_option maxHeartbeats 1000000 in
theorem iTurnedBy (t a b : Int) (w : World) : Calls Try.prog 89 #[.agg #[.int .i64 a, .int .i64 b], .int .i64 t] w fun e w' => e = .returned (.agg #[.int .i64 (trA t a b), .int .i64 (trB t a b)]) ∧ Below w.heap.size w w' := by
  cases k : gok a b
  · obtain ⟨e1, e2⟩ := trO_f (t := t) (a := a) (b := b) (by simp [trO, k])
    rw [e1, e2]
    clear e1 e2
    go_enter Try.func89, Try.ntmps89
    go_wp2_with fail
    (refine (iGaussOk _ _ _).mono ?_; rintro e w1 ⟨rfl, hb1⟩; have hz1 := hb1.size; (repeat (first | rw [World.size_alloc] at hz1 | rw [World.size_setCell] at hz1 | rw [World.size_drew] at hz1)); have pp := C2.K hb1 (b := w.heap.size) (x := _) (y := _) (c2A); obtain ⟨kk1, kk2⟩ := pp; have pp := T2.K hb1 (b := w.heap.size + 1) (x := _) (y := _) (t2A); obtain ⟨kk3, kk4, fkk3, fkk4⟩ := pp)
    go_wp2_with fail
    refine bodyPost_ret (v := .agg #[.int .i64 0, .int .i64 0]) (by simp [results, Try.results89, go_sem, *]) rfl ?_; exact ⟨rfl, blA⟩
  obtain ⟨h1, h2, h3, h4⟩ := gok_bd k
  rcases (Decidable.em (0 ≤ t ∧ t ≤ 3)).symm with hr | hr
  · obtain ⟨e1, e2⟩ := trO_f (t := t) (a := a) (b := b) (by simp [trO, hr])
    rw [e1, e2]
    clear e1 e2
    by_cases ht : t < 0
    · have ht2 : decide (t < 0) = true := by simp; omega
      go_enter Try.func89, Try.ntmps89
      go_wp2_with fail
      (refine (iGaussOk _ _ _).mono ?_; rintro e w1 ⟨rfl, hb1⟩; have hz1 := hb1.size; (repeat (first | rw [World.size_alloc] at hz1 | rw [World.size_setCell] at hz1 | rw [World.size_drew] at hz1)); have pp := C2.K hb1 (b := w.heap.size) (x := _) (y := _) (c2A); obtain ⟨kk5, kk6⟩ := pp; have pp := T2.K hb1 (b := w.heap.size + 1) (x := _) (y := _) (t2A); obtain ⟨kk7, kk8, fkk7, fkk8⟩ := pp; (try clear kk1 kk2 kk3 kk4 fkk3 fkk4))
      go_wp2_with fail
      refine bodyPost_ret (v := .agg #[.int .i64 0, .int .i64 0]) (by simp [results, Try.results89, go_sem, *]) rfl ?_; exact ⟨rfl, blA⟩
    · have ht2 : decide (t < 0) = false := by simp; omega
      have ht3 : decide (3 < t) = true := by simp; omega
      go_enter Try.func89, Try.ntmps89
      go_wp2_with fail
      (refine (iGaussOk _ _ _).mono ?_; rintro e w1 ⟨rfl, hb1⟩; have hz1 := hb1.size; (repeat (first | rw [World.size_alloc] at hz1 | rw [World.size_setCell] at hz1 | rw [World.size_drew] at hz1)); have pp := C2.K hb1 (b := w.heap.size) (x := _) (y := _) (c2A); obtain ⟨kk9, kk10⟩ := pp; have pp := T2.K hb1 (b := w.heap.size + 1) (x := _) (y := _) (t2A); obtain ⟨kk11, kk12, fkk11, fkk12⟩ := pp; (try clear kk5 kk6 kk7 kk8 fkk7 fkk8))
      go_wp2_with fail
      refine bodyPost_ret (v := .agg #[.int .i64 0, .int .i64 0]) (by simp [results, Try.results89, go_sem, *]) rfl ?_; exact ⟨rfl, blA⟩
  obtain ⟨e1, e2⟩ := tr_t (t := t) (a := a) (b := b) (by simp [trO, k, hr])
  rw [e1, e2]
  clear e1 e2
  obtain rfl | rfl | rfl | rfl : t = 0 ∨ t = 1 ∨ t = 2 ∨ t = 3 := by omega
  · clear hr
    have hix := turns_at_0
    go_enter Try.func89, Try.ntmps89
    go_wp2_with fail
    (refine (iGaussOk _ _ _).mono ?_; rintro e w1 ⟨rfl, hb1⟩; have hz1 := hb1.size; (repeat (first | rw [World.size_alloc] at hz1 | rw [World.size_setCell] at hz1 | rw [World.size_drew] at hz1)); have pp := C2.K hb1 (b := w.heap.size) (x := _) (y := _) (c2A); obtain ⟨kk13, kk14⟩ := pp; have pp := T2.K hb1 (b := w.heap.size + 1) (x := _) (y := _) (t2A); obtain ⟨kk15, kk16, fkk15, fkk16⟩ := pp; (try clear kk9 kk10 kk11 kk12 fkk11 fkk12))
    go_wp2_with fail
    (refine (iTurns _).mono ?_; rintro e w2 ⟨rfl, hb2⟩; have hz2 := hb2.size; (repeat (first | rw [World.size_alloc] at hz2 | rw [World.size_setCell] at hz2 | rw [World.size_drew] at hz2)); have pp := C2.K hb2 (b := w.heap.size) (x := _) (y := _) (c2A); obtain ⟨kk17, kk18⟩ := pp; have pp := T2.K hb2 (b := w.heap.size + 1) (x := _) (y := _) (t2A); obtain ⟨kk19, kk20, fkk19, fkk20⟩ := pp; (try clear kk13 kk14 kk15 kk16 fkk15 fkk16))
    go_wp2_with fail
    (refine (igStayed _ _ _).mono ?_; rintro e w3 ⟨rfl, hb3⟩; have hz3 := hb3.size; (repeat (first | rw [World.size_alloc] at hz3 | rw [World.size_setCell] at hz3 | rw [World.size_drew] at hz3)); have pp := T2.K hb3 (b := w.heap.size + 1) (x := _) (y := _) (t2A); obtain ⟨kk21, kk22, fkk21, fkk22⟩ := pp; (try clear kk17 kk18 kk19 kk20 fkk19 fkk20))
    go_wp2_with fail
    refine bodyPost_ret (v := .agg #[.int .i64 (a), .int .i64 (b)]) (by simp [results, Try.results89, go_sem, *]) rfl ?_; exact ⟨rfl, blA⟩
  · clear hr
    have hix := turns_at_1
    go_enter Try.func89, Try.ntmps89
    go_wp2_with fail
    (refine (iGaussOk _ _ _).mono ?_; rintro e w1 ⟨rfl, hb1⟩; have hz1 := hb1.size; (repeat (first | rw [World.size_alloc] at hz1 | rw [World.size_setCell] at hz1 | rw [World.size_drew] at hz1)); have pp := C2.K hb1 (b := w.heap.size) (x := _) (y := _) (c2A); obtain ⟨kk23, kk24⟩ := pp; have pp := T2.K hb1 (b := w.heap.size + 1) (x := _) (y := _) (t2A); obtain ⟨kk25, kk26, fkk25, fkk26⟩ := pp; (try clear kk21 kk22 fkk21 fkk22))
    go_wp2_with fail
    (refine (iTurns _).mono ?_; rintro e w2 ⟨rfl, hb2⟩; have hz2 := hb2.size; (repeat (first | rw [World.size_alloc] at hz2 | rw [World.size_setCell] at hz2 | rw [World.size_drew] at hz2)); have pp := C2.K hb2 (b := w.heap.size) (x := _) (y := _) (c2A); obtain ⟨kk27, kk28⟩ := pp; have pp := T2.K hb2 (b := w.heap.size + 1) (x := _) (y := _) (t2A); obtain ⟨kk29, kk30, fkk29, fkk30⟩ := pp; (try clear kk23 kk24 kk25 kk26 fkk25 fkk26))
    go_wp2_with fail
    (refine (igTurned _ _ _ (by omega) (by omega) (by omega) (by omega)).mono ?_; rintro e w3 ⟨rfl, hb3⟩; have hz3 := hb3.size; (repeat (first | rw [World.size_alloc] at hz3 | rw [World.size_setCell] at hz3 | rw [World.size_drew] at hz3)); have pp := T2.K hb3 (b := w.heap.size + 1) (x := _) (y := _) (t2A); obtain ⟨kk31, kk32, fkk31, fkk32⟩ := pp; (try clear kk27 kk28 kk29 kk30 fkk29 fkk30))
    go_wp2_with fail
    refine bodyPost_ret (v := .agg #[.int .i64 (-b), .int .i64 (a)]) (by simp [results, Try.results89, go_sem, *]) rfl ?_; exact ⟨rfl, blA⟩
  · clear hr
    have hix := turns_at_2
    go_enter Try.func89, Try.ntmps89
    go_wp2_with fail
    (refine (iGaussOk _ _ _).mono ?_; rintro e w1 ⟨rfl, hb1⟩; have hz1 := hb1.size; (repeat (first | rw [World.size_alloc] at hz1 | rw [World.size_setCell] at hz1 | rw [World.size_drew] at hz1)); have pp := C2.K hb1 (b := w.heap.size) (x := _) (y := _) (c2A); obtain ⟨kk33, kk34⟩ := pp; have pp := T2.K hb1 (b := w.heap.size + 1) (x := _) (y := _) (t2A); obtain ⟨kk35, kk36, fkk35, fkk36⟩ := pp; (try clear kk31 kk32 fkk31 fkk32))
    go_wp2_with fail
    (refine (iTurns _).mono ?_; rintro e w2 ⟨rfl, hb2⟩; have hz2 := hb2.size; (repeat (first | rw [World.size_alloc] at hz2 | rw [World.size_setCell] at hz2 | rw [World.size_drew] at hz2)); have pp := C2.K hb2 (b := w.heap.size) (x := _) (y := _) (c2A); obtain ⟨kk37, kk38⟩ := pp; have pp := T2.K hb2 (b := w.heap.size + 1) (x := _) (y := _) (t2A); obtain ⟨kk39, kk40, fkk39, fkk40⟩ := pp; (try clear kk33 kk34 kk35 kk36 fkk35 fkk36))
    go_wp2_with fail
    (refine (igMinus _ _ _ (by omega) (by omega) (by omega) (by omega)).mono ?_; rintro e w3 ⟨rfl, hb3⟩; have hz3 := hb3.size; (repeat (first | rw [World.size_alloc] at hz3 | rw [World.size_setCell] at hz3 | rw [World.size_drew] at hz3)); have pp := T2.K hb3 (b := w.heap.size + 1) (x := _) (y := _) (t2A); obtain ⟨kk41, kk42, fkk41, fkk42⟩ := pp; (try clear kk37 kk38 kk39 kk40 fkk39 fkk40))
    go_wp2_with fail
    refine bodyPost_ret (v := .agg #[.int .i64 (-a), .int .i64 (-b)]) (by simp [results, Try.results89, go_sem, *]) rfl ?_; exact ⟨rfl, blA⟩
  · clear hr
    have hix := turns_at_3
    go_enter Try.func89, Try.ntmps89
    go_wp2_with fail
    (refine (iGaussOk _ _ _).mono ?_; rintro e w1 ⟨rfl, hb1⟩; have hz1 := hb1.size; (repeat (first | rw [World.size_alloc] at hz1 | rw [World.size_setCell] at hz1 | rw [World.size_drew] at hz1)); have pp := C2.K hb1 (b := w.heap.size) (x := _) (y := _) (c2A); obtain ⟨kk43, kk44⟩ := pp; have pp := T2.K hb1 (b := w.heap.size + 1) (x := _) (y := _) (t2A); obtain ⟨kk45, kk46, fkk45, fkk46⟩ := pp; (try clear kk41 kk42 fkk41 fkk42))
    go_wp2_with fail
    (refine (iTurns _).mono ?_; rintro e w2 ⟨rfl, hb2⟩; have hz2 := hb2.size; (repeat (first | rw [World.size_alloc] at hz2 | rw [World.size_setCell] at hz2 | rw [World.size_drew] at hz2)); have pp := C2.K hb2 (b := w.heap.size) (x := _) (y := _) (c2A); obtain ⟨kk47, kk48⟩ := pp; have pp := T2.K hb2 (b := w.heap.size + 1) (x := _) (y := _) (t2A); obtain ⟨kk49, kk50, fkk49, fkk50⟩ := pp; (try clear kk43 kk44 kk45 kk46 fkk45 fkk46))
    go_wp2_with fail
    (refine (igTurnedBack _ _ _ (by omega) (by omega) (by omega) (by omega)).mono ?_; rintro e w3 ⟨rfl, hb3⟩; have hz3 := hb3.size; (repeat (first | rw [World.size_alloc] at hz3 | rw [World.size_setCell] at hz3 | rw [World.size_drew] at hz3)); have pp := T2.K hb3 (b := w.heap.size + 1) (x := _) (y := _) (t2A); obtain ⟨kk51, kk52, fkk51, fkk52⟩ := pp; (try clear kk47 kk48 kk49 kk50 fkk49 fkk50))
    go_wp2_with fail
    refine bodyPost_ret (v := .agg #[.int .i64 (b), .int .i64 (-a)]) (by simp [results, Try.results89, go_sem, *]) rfl ?_; exact ⟨rfl, blA⟩

theorem iTurnedBy_v {t a b x y : Int} (w : World) (h : trA t a b = x ∧ trB t a b = y) : Calls Try.prog 89 #[.agg #[.int .i64 a, .int .i64 b], .int .i64 t] w fun e w' => e = .returned (.agg #[.int .i64 x, .int .i64 y]) ∧ Below w.heap.size w w' := by
  obtain ⟨rfl, rfl⟩ := h; exact iTurnedBy t a b w
set_option maxHeartbeats 1000000 in
theorem iUnitOf (t : Int) (w : World) : Calls Try.prog 87 #[.int .i64 t] w fun e w' => e = .returned (.tuple #[.agg #[.int .i64 (trA t 1 0), .int .i64 (trB t 1 0)], .bool (decide (0 ≤ t ∧ t ≤ 3))]) ∧ Below w.heap.size w w' := by
  rcases (Decidable.em (0 ≤ t ∧ t ≤ 3)).symm with hr | hr
  · obtain ⟨e1, e2⟩ := trO_f (t := t) (a := 1) (b := 0) (by simp [trO, hr])
    have hq : decide (0 ≤ t ∧ t ≤ 3) = false := by simpa using hr
    rw [e1, e2, hq]
    have HH : trA t 1 0 = 0 ∧ trB t 1 0 = 0 := ⟨e1, e2⟩
    clear e1 e2 hq hr
    go_enter Try.func87, Try.ntmps87
    go_wp2_with fail
    (refine (iTurnedBy_v _ HH).mono ?_; rintro e w1 ⟨rfl, hb1⟩; have hz1 := hb1.size; (repeat (first | rw [World.size_alloc] at hz1 | rw [World.size_setCell] at hz1 | rw [World.size_drew] at hz1)); have pp := T2.K hb1 (b := w.heap.size) (x := _) (y := _) (t2A); obtain ⟨kk1, kk2, fkk1, fkk2⟩ := pp)
    go_wp2_with fail
    go_region
    all_goals go_wp2_with fail
    all_goals
      have q0 : ((w1.alloc (.cells #[.int .i64 0, .int .i64 0] 24)).setCell ⟨w.heap.size, 0, none⟩ (.int .i64 0)).cell? ⟨w.heap.size, 0, none⟩ = some (.int .i64 0) := kcA
      have q1 : (((w1.alloc (.cells #[.int .i64 0, .int .i64 0] 24)).setCell ⟨w.heap.size, 0, none⟩ (.int .i64 0)).setCell ⟨w.heap.size, 1, none⟩ (.int .i64 0)).cell? ⟨w.heap.size, 1, none⟩ = some (.int .i64 0) := kcA
      refine bodyPost_ret (v := .tuple #[.agg #[.int .i64 0, .int .i64 0], .bool false]) (by simp [results, Try.results87, go_sem, q0, q1]) rfl ⟨rfl, ?_⟩
      (exact blA)
  obtain rfl | rfl | rfl | rfl : t = 0 ∨ t = 1 ∨ t = 2 ∨ t = 3 := by omega
  · have HH : trA 0 1 0 = 1 ∧ trB 0 1 0 = 0 := by decide
    rw [HH.1, HH.2, show decide ((0 : Int) ≤ 0 ∧ (0 : Int) ≤ 3) = true by decide]
    clear hr
    go_enter Try.func87, Try.ntmps87
    go_wp2_with fail
    (refine (iTurnedBy_v _ HH).mono ?_; rintro e w1 ⟨rfl, hb1⟩; have hz1 := hb1.size; (repeat (first | rw [World.size_alloc] at hz1 | rw [World.size_setCell] at hz1 | rw [World.size_drew] at hz1)); have pp := T2.K hb1 (b := w.heap.size) (x := _) (y := _) (t2A); obtain ⟨kk3, kk4, fkk3, fkk4⟩ := pp; (try clear kk1 kk2 fkk1 fkk2))
    go_wp2_with fail
    go_region
    all_goals go_wp2_with fail
    all_goals
      have q0 : ((w1.alloc (.cells #[.int .i64 1, .int .i64 0] 24)).setCell ⟨w.heap.size, 0, none⟩ (.int .i64 1)).cell? ⟨w.heap.size, 0, none⟩ = some (.int .i64 1) := kcA
      have q1 : (((w1.alloc (.cells #[.int .i64 1, .int .i64 0] 24)).setCell ⟨w.heap.size, 0, none⟩ (.int .i64 1)).setCell ⟨w.heap.size, 1, none⟩ (.int .i64 0)).cell? ⟨w.heap.size, 1, none⟩ = some (.int .i64 0) := kcA
      refine bodyPost_ret (v := .tuple #[.agg #[.int .i64 1, .int .i64 0], .bool true]) (by simp [results, Try.results87, go_sem, q0, q1]) rfl ⟨rfl, ?_⟩
      (exact blA)
  · have HH : trA 1 1 0 = 0 ∧ trB 1 1 0 = 1 := by decide
    rw [HH.1, HH.2, show decide ((0 : Int) ≤ 1 ∧ (1 : Int) ≤ 3) = true by decide]
    clear hr
    go_enter Try.func87, Try.ntmps87
    go_wp2_with fail
    (refine (iTurnedBy_v _ HH).mono ?_; rintro e w1 ⟨rfl, hb1⟩; have hz1 := hb1.size; (repeat (first | rw [World.size_alloc] at hz1 | rw [World.size_setCell] at hz1 | rw [World.size_drew] at hz1)); have pp := T2.K hb1 (b := w.heap.size) (x := _) (y := _) (t2A); obtain ⟨kk5, kk6, fkk5, fkk6⟩ := pp; (try clear kk3 kk4 fkk3 fkk4))
    go_wp2_with fail
    go_region
    all_goals go_wp2_with fail
    all_goals
      have q0 : ((w1.alloc (.cells #[.int .i64 0, .int .i64 1] 24)).setCell ⟨w.heap.size, 0, none⟩ (.int .i64 0)).cell? ⟨w.heap.size, 0, none⟩ = some (.int .i64 0) := kcA
      have q1 : (((w1.alloc (.cells #[.int .i64 0, .int .i64 1] 24)).setCell ⟨w.heap.size, 0, none⟩ (.int .i64 0)).setCell ⟨w.heap.size, 1, none⟩ (.int .i64 1)).cell? ⟨w.heap.size, 1, none⟩ = some (.int .i64 1) := kcA
      refine bodyPost_ret (v := .tuple #[.agg #[.int .i64 0, .int .i64 1], .bool true]) (by simp [results, Try.results87, go_sem, q0, q1]) rfl ⟨rfl, ?_⟩
      (exact blA)
  · have HH : trA 2 1 0 = (-1) ∧ trB 2 1 0 = 0 := by decide
    rw [HH.1, HH.2, show decide ((0 : Int) ≤ 2 ∧ (2 : Int) ≤ 3) = true by decide]
    clear hr
    go_enter Try.func87, Try.ntmps87
    go_wp2_with fail
    (refine (iTurnedBy_v _ HH).mono ?_; rintro e w1 ⟨rfl, hb1⟩; have hz1 := hb1.size; (repeat (first | rw [World.size_alloc] at hz1 | rw [World.size_setCell] at hz1 | rw [World.size_drew] at hz1)); have pp := T2.K hb1 (b := w.heap.size) (x := _) (y := _) (t2A); obtain ⟨kk7, kk8, fkk7, fkk8⟩ := pp; (try clear kk5 kk6 fkk5 fkk6))
    go_wp2_with fail
    go_region
    all_goals go_wp2_with fail
    all_goals
      have q0 : ((w1.alloc (.cells #[.int .i64 (-1), .int .i64 0] 24)).setCell ⟨w.heap.size, 0, none⟩ (.int .i64 (-1))).cell? ⟨w.heap.size, 0, none⟩ = some (.int .i64 (-1)) := kcA
      have q1 : (((w1.alloc (.cells #[.int .i64 (-1), .int .i64 0] 24)).setCell ⟨w.heap.size, 0, none⟩ (.int .i64 (-1))).setCell ⟨w.heap.size, 1, none⟩ (.int .i64 0)).cell? ⟨w.heap.size, 1, none⟩ = some (.int .i64 0) := kcA
      refine bodyPost_ret (v := .tuple #[.agg #[.int .i64 (-1), .int .i64 0], .bool true]) (by simp [results, Try.results87, go_sem, q0, q1]) rfl ⟨rfl, ?_⟩
      (exact blA)
  · have HH : trA 3 1 0 = 0 ∧ trB 3 1 0 = (-1) := by decide
    rw [HH.1, HH.2, show decide ((0 : Int) ≤ 3 ∧ (3 : Int) ≤ 3) = true by decide]
    clear hr
    go_enter Try.func87, Try.ntmps87
    go_wp2_with fail
    (refine (iTurnedBy_v _ HH).mono ?_; rintro e w1 ⟨rfl, hb1⟩; have hz1 := hb1.size; (repeat (first | rw [World.size_alloc] at hz1 | rw [World.size_setCell] at hz1 | rw [World.size_drew] at hz1)); have pp := T2.K hb1 (b := w.heap.size) (x := _) (y := _) (t2A); obtain ⟨kk9, kk10, fkk9, fkk10⟩ := pp; (try clear kk7 kk8 fkk7 fkk8))
    go_wp2_with fail
    go_region
    all_goals go_wp2_with fail
    all_goals
      have q0 : ((w1.alloc (.cells #[.int .i64 0, .int .i64 (-1)] 24)).setCell ⟨w.heap.size, 0, none⟩ (.int .i64 0)).cell? ⟨w.heap.size, 0, none⟩ = some (.int .i64 0) := kcA
      have q1 : (((w1.alloc (.cells #[.int .i64 0, .int .i64 (-1)] 24)).setCell ⟨w.heap.size, 0, none⟩ (.int .i64 0)).setCell ⟨w.heap.size, 1, none⟩ (.int .i64 (-1))).cell? ⟨w.heap.size, 1, none⟩ = some (.int .i64 (-1)) := kcA
      refine bodyPost_ret (v := .tuple #[.agg #[.int .i64 0, .int .i64 (-1)], .bool true]) (by simp [results, Try.results87, go_sem, q0, q1]) rfl ⟨rfl, ?_⟩
      (exact blA)

theorem iUnitOf_v {t x y : Int} {o : Bool} (w : World) (h : decide (0 ≤ t ∧ t ≤ 3) = o ∧ trA t 1 0 = x ∧ trB t 1 0 = y) : Calls Try.prog 87 #[.int .i64 t] w fun e w' => e = .returned (.tuple #[.agg #[.int .i64 x, .int .i64 y], .bool o]) ∧ Below w.heap.size w w' := by
  obtain ⟨rfl, rfl, rfl⟩ := h; exact iUnitOf t w
theorem l2Turn_v (t : Int) {a b x y : Int} (w : World) (h0 : 0 ≤ t) (h3 : t ≤ 3) (ha1 : -4000000000000000000 ≤ a) (ha2 : a ≤ 4000000000000000000) (hb1 : -4000000000000000000 ≤ b) (hb2 : b ≤ 4000000000000000000) (h : tuA t a b = x ∧ tuB t a b = y) : Calls Try.prog 58 #[.agg #[.int .i64 a, .int .i64 b], .int .i64 t] w fun e w' => e = .returned (.agg #[.int .i64 x, .int .i64 y]) ∧ Below w.heap.size w w' := by
  obtain ⟨rfl, rfl⟩ := h; exact l2Turn t a b w h0 h3 ha1 ha2 hb1 hb2
def eqz (k c d a b : Int) : Bool := decide (tuA k c d = a ∧ tuB k c d = b)
def asA (a b c d : Int) : Bool := eqz 0 c d a b || eqz 1 c d a b || eqz 2 c d a b || eqz 3 c d a b
end Go.Proofs.Ytggebkgfldmipaa
