import Derived.Test.YtpjememmogaeiaaR
import Derived.Laws.EntriesVeiled
import Derived.BigRegion
namespace Go.Proofs.Ytpjememmogaeiaa
open Go Go.RowKit
attribute [local go_sem] World.cell?_alloc_some cell?_alloc2_some cell?_alloc3_some cell?_alloc4_some frozen?_alloc_some frozen?_alloc2_some frozen?_alloc3_some World.cell?_setCell_far new_ne0 new_ne1 new_ne2 new_ne3 lt2 lt3 lt4 lt5 lt6 lt7 lt8 lt9

def tuA (t a b : Int) : Int := if t = 0 then a else if t = 1 then -b else if t = 2 then -a else b
def tuB (t a b : Int) : Int := if t = 0 then b else if t = 1 then a else if t = 2 then -b else -a
def trO (t a b : Int) : Bool := gok a b && decide (0 ≤ t ∧ t ≤ 3)
def trA (t a b : Int) : Int := if trO t a b then tuA t a b else 0
def trB (t a b : Int) : Int := if trO t a b then tuB t a b else 0
theorem trO_f {t a b : Int} (h : trO t a b = false) : trA t a b = 0 ∧ trB t a b = 0 := by simp [trA, trB, h]
theorem tr_t {t a b : Int} (h : trO t a b = true) : trA t a b = tuA t a b ∧ trB t a b = tuB t a b := by simp [trA, trB, h]

theorem igStayed (a b : Int) (w : World) : Calls Try.prog 80 #[.agg #[.int .i64 a, .int .i64 b]] w fun e w' => e = .returned (.agg #[.int .i64 a, .int .i64 b]) ∧ Below w.heap.size w w' := by
  go_enter Try.func80, Try.ntmps80
  go_wp2
  go_returns
  exact ⟨rfl, by (repeat' (first | (with_reducible exact Below.refl _ _) | (with_reducible refine Below.alloc ?_ ?_ _) | (with_reducible refine Below.drew ?_) | (with_reducible refine Below.setCell ?_ ?_ _) | (with_reducible refine Below.trans ?_ (Below.mono (by assumption) ?_)) | go_size))⟩

theorem igTurned (a b : Int) (w : World) (_ha1 : -4000000000000000000 ≤ a) (_ha2 : a ≤ 4000000000000000000) (_hb1 : -4000000000000000000 ≤ b) (_hb2 : b ≤ 4000000000000000000) : Calls Try.prog 81 #[.agg #[.int .i64 a, .int .i64 b]] w fun e w' => e = .returned (.agg #[.int .i64 (-b), .int .i64 (a)]) ∧ Below w.heap.size w w' := by
  go_enter Try.func81, Try.ntmps81
  go_wp2
  go_returns
  exact ⟨rfl, by (repeat' (first | (with_reducible exact Below.refl _ _) | (with_reducible refine Below.alloc ?_ ?_ _) | (with_reducible refine Below.drew ?_) | (with_reducible refine Below.setCell ?_ ?_ _) | (with_reducible refine Below.trans ?_ (Below.mono (by assumption) ?_)) | go_size))⟩

theorem igMinus (a b : Int) (w : World) (_ha1 : -4000000000000000000 ≤ a) (_ha2 : a ≤ 4000000000000000000) (_hb1 : -4000000000000000000 ≤ b) (_hb2 : b ≤ 4000000000000000000) : Calls Try.prog 79 #[.agg #[.int .i64 a, .int .i64 b]] w fun e w' => e = .returned (.agg #[.int .i64 (-a), .int .i64 (-b)]) ∧ Below w.heap.size w w' := by
  go_enter Try.func79, Try.ntmps79
  go_wp2
  go_returns
  exact ⟨rfl, by (repeat' (first | (with_reducible exact Below.refl _ _) | (with_reducible refine Below.alloc ?_ ?_ _) | (with_reducible refine Below.drew ?_) | (with_reducible refine Below.setCell ?_ ?_ _) | (with_reducible refine Below.trans ?_ (Below.mono (by assumption) ?_)) | go_size))⟩

theorem igTurnedBack (a b : Int) (w : World) (_ha1 : -4000000000000000000 ≤ a) (_ha2 : a ≤ 4000000000000000000) (_hb1 : -4000000000000000000 ≤ b) (_hb2 : b ≤ 4000000000000000000) : Calls Try.prog 82 #[.agg #[.int .i64 a, .int .i64 b]] w fun e w' => e = .returned (.agg #[.int .i64 (b), .int .i64 (-a)]) ∧ Below w.heap.size w w' := by
  go_enter Try.func82, Try.ntmps82
  go_wp2
  go_returns
  exact ⟨rfl, by (repeat' (first | (with_reducible exact Below.refl _ _) | (with_reducible refine Below.alloc ?_ ?_ _) | (with_reducible refine Below.drew ?_) | (with_reducible refine Below.setCell ?_ ?_ _) | (with_reducible refine Below.trans ?_ (Below.mono (by assumption) ?_)) | go_size))⟩

theorem iTurns (w : World) : Calls Try.prog 73 #[] w fun e w' => e = .returned (.agg #[.func (.func 80) #[] #[], .func (.func 81) #[] #[], .func (.func 79) #[] #[], .func (.func 82) #[] #[]]) ∧ Below w.heap.size w w' := by
  go_enter Try.func73, Try.ntmps73
  go_wp2_with fail
  go_returns
  exact ⟨rfl, by (repeat' (first | (with_reducible exact Below.refl _ _) | (with_reducible refine Below.alloc ?_ ?_ _) | (with_reducible refine Below.drew ?_) | (with_reducible refine Below.setCell ?_ ?_ _) | (with_reducible refine Below.trans ?_ (Below.mono (by assumption) ?_)) | go_size))⟩

theorem l1In_b (n a b : Int) (w : World) : Calls Try.prog 51 #[.int .i64 n, .int .i64 a, .int .i64 b] w fun e w' => e = .returned (.bool (decide (a ≤ n ∧ n ≤ b))) ∧ Below w.heap.size w w' := by
  refine (l1In n a b w).mono ?_
  rintro e w' ⟨rfl, rfl⟩
  exact ⟨rfl, Below.refl _ _⟩

theorem turns_at_0 (W : World) : (Instr.index 78 (.agg #[.func (.func 80) #[] #[], .func (.func 81) #[] #[], .func (.func 79) #[] #[], .func (.func 82) #[] #[]]) (.int .i64 0)).run Try.prog W = .ok (.func (.func 80) #[] #[]) W := by
  simp [Instr.index, run_underlying Try.underlying78, asIntOf, go_sem]

theorem turns_at_1 (W : World) : (Instr.index 78 (.agg #[.func (.func 80) #[] #[], .func (.func 81) #[] #[], .func (.func 79) #[] #[], .func (.func 82) #[] #[]]) (.int .i64 1)).run Try.prog W = .ok (.func (.func 81) #[] #[]) W := by
  simp [Instr.index, run_underlying Try.underlying78, asIntOf, go_sem]

theorem turns_at_2 (W : World) : (Instr.index 78 (.agg #[.func (.func 80) #[] #[], .func (.func 81) #[] #[], .func (.func 79) #[] #[], .func (.func 82) #[] #[]]) (.int .i64 2)).run Try.prog W = .ok (.func (.func 79) #[] #[]) W := by
  simp [Instr.index, run_underlying Try.underlying78, asIntOf, go_sem]

theorem turns_at_3 (W : World) : (Instr.index 78 (.agg #[.func (.func 80) #[] #[], .func (.func 81) #[] #[], .func (.func 79) #[] #[], .func (.func 82) #[] #[]]) (.int .i64 3)).run Try.prog W = .ok (.func (.func 82) #[] #[]) W := by
  simp [Instr.index, run_underlying Try.underlying78, asIntOf, go_sem]

theorem l2Turn_0 (a b : Int) (w : World) (_ha1 : -4000000000000000000 ≤ a) (_ha2 : a ≤ 4000000000000000000) (_hb1 : -4000000000000000000 ≤ b) (_hb2 : b ≤ 4000000000000000000) : Calls Try.prog 64 #[.agg #[.int .i64 a, .int .i64 b], .int .i64 0] w fun e w' => e = .returned (.agg #[.int .i64 (a), .int .i64 (b)]) ∧ Below w.heap.size w w' := by
  go_enter Try.func64, Try.ntmps64
  go_wp2_with fail
  refine wp_loop_rounds 1 ?_
  rw [rounds_succ]
  go_wp2_with fail
  refine bodyPost_ret (v := .agg #[.int .i64 (a), .int .i64 (b)]) (by simp [results, Try.results64, go_sem, *]) rfl ?_; exact ⟨rfl, by (repeat' (first | (with_reducible exact Below.refl _ _) | (with_reducible refine Below.alloc ?_ ?_ _) | (with_reducible refine Below.drew ?_) | (with_reducible refine Below.setCell ?_ ?_ _) | (with_reducible refine Below.trans ?_ (Below.mono (by assumption) ?_)) | go_size))⟩

theorem l2Turn_1 (a b : Int) (w : World) (_ha1 : -4000000000000000000 ≤ a) (_ha2 : a ≤ 4000000000000000000) (_hb1 : -4000000000000000000 ≤ b) (_hb2 : b ≤ 4000000000000000000) : Calls Try.prog 64 #[.agg #[.int .i64 a, .int .i64 b], .int .i64 1] w fun e w' => e = .returned (.agg #[.int .i64 (-b), .int .i64 (a)]) ∧ Below w.heap.size w w' := by
  go_enter Try.func64, Try.ntmps64
  go_wp2_with fail
  refine wp_loop_rounds 2 ?_
  rw [rounds_succ]
  go_wp2_with fail
  rw [rounds_succ]
  go_wp2_with fail
  refine bodyPost_ret (v := .agg #[.int .i64 (-b), .int .i64 (a)]) (by simp [results, Try.results64, go_sem, *]) rfl ?_; exact ⟨rfl, by (repeat' (first | (with_reducible exact Below.refl _ _) | (with_reducible refine Below.alloc ?_ ?_ _) | (with_reducible refine Below.drew ?_) | (with_reducible refine Below.setCell ?_ ?_ _) | (with_reducible refine Below.trans ?_ (Below.mono (by assumption) ?_)) | go_size))⟩

theorem l2Turn_2 (a b : Int) (w : World) (_ha1 : -4000000000000000000 ≤ a) (_ha2 : a ≤ 4000000000000000000) (_hb1 : -4000000000000000000 ≤ b) (_hb2 : b ≤ 4000000000000000000) : Calls Try.prog 64 #[.agg #[.int .i64 a, .int .i64 b], .int .i64 2] w fun e w' => e = .returned (.agg #[.int .i64 (-a), .int .i64 (-b)]) ∧ Below w.heap.size w w' := by
  go_enter Try.func64, Try.ntmps64
  go_wp2_with fail
  refine wp_loop_rounds 3 ?_
  rw [rounds_succ]
  go_wp2_with fail
  rw [rounds_succ]
  go_wp2_with fail
  rw [rounds_succ]
  go_wp2_with fail
  refine bodyPost_ret (v := .agg #[.int .i64 (-a), .int .i64 (-b)]) (by simp [results, Try.results64, go_sem, *]) rfl ?_; exact ⟨rfl, by (repeat' (first | (with_reducible exact Below.refl _ _) | (with_reducible refine Below.alloc ?_ ?_ _) | (with_reducible refine Below.drew ?_) | (with_reducible refine Below.setCell ?_ ?_ _) | (with_reducible refine Below.trans ?_ (Below.mono (by assumption) ?_)) | go_size))⟩

theorem l2Turn_3 (a b : Int) (w : World) (_ha1 : -4000000000000000000 ≤ a) (_ha2 : a ≤ 4000000000000000000) (_hb1 : -4000000000000000000 ≤ b) (_hb2 : b ≤ 4000000000000000000) : Calls Try.prog 64 #[.agg #[.int .i64 a, .int .i64 b], .int .i64 3] w fun e w' => e = .returned (.agg #[.int .i64 (b), .int .i64 (-a)]) ∧ Below w.heap.size w w' := by
  go_enter Try.func64, Try.ntmps64
  go_wp2_with fail
  refine wp_loop_rounds 4 ?_
  rw [rounds_succ]
  go_wp2_with fail
  rw [rounds_succ]
  go_wp2_with fail
  rw [rounds_succ]
  go_wp2_with fail
  rw [rounds_succ]
  go_wp2_with fail
  refine bodyPost_ret (v := .agg #[.int .i64 (b), .int .i64 (-a)]) (by simp [results, Try.results64, go_sem, *]) rfl ?_; exact ⟨rfl, by (repeat' (first | (with_reducible exact Below.refl _ _) | (with_reducible refine Below.alloc ?_ ?_ _) | (with_reducible refine Below.drew ?_) | (with_reducible refine Below.setCell ?_ ?_ _) | (with_reducible refine Below.trans ?_ (Below.mono (by assumption) ?_)) | go_size))⟩

theorem l2Turn (t a b : Int) (w : World) (h0 : 0 ≤ t) (h3 : t ≤ 3) (ha1 : -4000000000000000000 ≤ a) (ha2 : a ≤ 4000000000000000000) (hb1 : -4000000000000000000 ≤ b) (hb2 : b ≤ 4000000000000000000) : Calls Try.prog 64 #[.agg #[.int .i64 a, .int .i64 b], .int .i64 t] w fun e w' => e = .returned (.agg #[.int .i64 (tuA t a b), .int .i64 (tuB t a b)]) ∧ Below w.heap.size w w' := by
  obtain rfl | rfl | rfl | rfl : t = 0 ∨ t = 1 ∨ t = 2 ∨ t = 3 := by omega
  · exact l2Turn_0 a b w ha1 ha2 hb1 hb2
  · exact l2Turn_1 a b w ha1 ha2 hb1 hb2
  · exact l2Turn_2 a b w ha1 ha2 hb1 hb2
  · exact l2Turn_3 a b w ha1 ha2 hb1 hb2

theorem l2Turn_v (t : Int) {a b x y : Int} (w : World) (h0 : 0 ≤ t) (h3 : t ≤ 3) (ha1 : -4000000000000000000 ≤ a) (ha2 : a ≤ 4000000000000000000) (hb1 : -4000000000000000000 ≤ b) (hb2 : b ≤ 4000000000000000000) (h : tuA t a b = x ∧ tuB t a b = y) : Calls Try.prog 64 #[.agg #[.int .i64 a, .int .i64 b], .int .i64 t] w fun e w' => e = .returned (.agg #[.int .i64 x, .int .i64 y]) ∧ Below w.heap.size w w' := by
  obtain ⟨rfl, rfl⟩ := h; exact l2Turn t a b w h0 h3 ha1 ha2 hb1 hb2
def eqz (k c d a b : Int) : Bool := decide (tuA k c d = a ∧ tuB k c d = b)
def asA (a b c d : Int) : Bool := eqz 0 c d a b || eqz 1 c d a b || eqz 2 c d a b || eqz 3 c d a b
end Go.Proofs.Ytpjememmogaeiaa
