import Derived.Test.YtggebkgfldmipaaProg
import Derived.Test.YtggebkgfldmipaaBase
namespace Go.Proofs.Ytggebkgfldmipaa
open Go Go.RowKit
attribute [local go_sem] World.cell?_alloc_some cell?_alloc2_some cell?_alloc3_some cell?_alloc4_some frozen?_alloc_some frozen?_alloc2_some frozen?_alloc3_some World.cell?_setCell_far new_ne0 new_ne1 new_ne2 new_ne3 lt2 lt3 lt4 lt5 lt6 lt7 lt8 lt9
def pok (n : Int) : Bool := decide (-1000 ≤ n ∧ n ≤ 1000)
def gok (a b : Int) : Bool := pok a && pok b

theorem ipartOk (n : Int) (w : World) : Calls Try.prog 65 #[.int .i64 n] w fun e w' => e = .returned (.bool (pok n)) ∧ w = w' := by
  by_cases h1 : -1000 ≤ n <;> by_cases h2 : n ≤ 1000 <;>
  ( go_enter Try.func65, Try.ntmps65
    go_wp2
    go_ret
    exact ⟨by simp [pok]; omega, rfl⟩)

theorem iGaussOk (a b : Int) (w : World) : Calls Try.prog 40 #[.agg #[.int .i64 a, .int .i64 b]] w fun e w' => e = .returned (.bool (gok a b)) ∧ Below w.heap.size w w' := by
  cases h1 : pok a <;>
  ( go_enter Try.func40, Try.ntmps40
    go_wp2_with (go_at_call 65; go_call (ipartOk _ _) as e w' ⟨rfl, rfl⟩)
    go_ret
    exact ⟨by simp [gok, h1], by go_grown⟩)

theorem l1In (n a b : Int) (w : World) : Calls Try.prog 61 #[.int .i64 n, .int .i64 a, .int .i64 b] w fun e w' => e = .returned (.bool (decide (a ≤ n ∧ n ≤ b))) ∧ w = w' := by
  by_cases h1 : a ≤ n <;> by_cases h2 : n ≤ b <;>
  ( go_enter Try.func61, Try.ntmps61
    go_wp2
    go_ret
    exact ⟨by simp; omega, rfl⟩)

theorem l1In_part (n : Int) (w : World) : Calls Try.prog 61 #[.int .i64 n, .int .i64 (-1000), .int .i64 1000] w fun e w' => e = .returned (.bool (pok n)) ∧ w = w' := l1In n (-1000) 1000 w

theorem sGaussOk (a b : Int) (w : World) : Calls Try.prog 44 #[.agg #[.int .i64 a, .int .i64 b]] w fun e w' => e = .returned (.bool (gok a b)) ∧ Below w.heap.size w w' := by
  cases h1 : pok a <;>
  ( go_enter Try.func44, Try.ntmps44
    go_wp2_with (go_at_call 61; go_call (l1In_part _ _) as e w' ⟨rfl, rfl⟩)
    go_ret
    exact ⟨by simp [gok, h1], by go_grown⟩)

theorem alive (w : World) : Calls Try.prog 15 #[] w fun e w' => e = .returned (.bool true) ∧ Below w.heap.size w w' := by
  have k1 : gok 1 0 = true := by decide
  have k2 : gok 2000 0 = false := by decide
  go_enter Try.func15, Try.ntmps15
  go_wp2_with (go_at_call 40; refine (iGaussOk _ _ _).mono ?_; rintro e w' ⟨rfl, hb⟩; obtain ⟨hc, hf⟩ := bcell hb; have hz := hb.size; (repeat (first | rw [World.size_alloc] at hz | rw [World.size_setCell] at hz | rw [World.size_drew] at hz)))
  go_ret
  exact ⟨rfl, blA⟩

theorem igPlus (a b c d : Int) (w : World) : Calls Try.prog 71 #[.agg #[.int .i64 a, .int .i64 b], .agg #[.int .i64 c, .int .i64 d]] w fun e w' => e = .returned (.agg #[.int .i64 (wrap64 (a + c)), .int .i64 (wrap64 (b + d))]) ∧ Below w.heap.size w w' := by
  go_enter Try.func71, Try.ntmps71
  go_wp2
  go_returns
  exact ⟨rfl, by go_grown⟩
theorem igTimes (a b c d : Int) (w : World) : Calls Try.prog 48 #[.agg #[.int .i64 a, .int .i64 b], .agg #[.int .i64 c, .int .i64 d]] w fun e w' => e = .returned (.agg #[.int .i64 (wrap64 (wrap64 (a * c) - wrap64 (b * d))), .int .i64 (wrap64 (wrap64 (a * d) + wrap64 (b * c)))]) ∧ Below w.heap.size w w' := by
  go_enter Try.func48, Try.ntmps48
  go_wp2
  go_returns
  exact ⟨rfl, by go_grown⟩
theorem igNorm (a b : Int) (w : World) : Calls Try.prog 64 #[.agg #[.int .i64 a, .int .i64 b]] w fun e w' => e = .returned (.int .i64 (wrap64 (wrap64 (a * a) + wrap64 (b * b)))) ∧ Below w.heap.size w w' := by
  go_enter Try.func64, Try.ntmps64
  go_wp2
  go_returns
  exact ⟨rfl, by go_grown⟩

theorem mul_bd {a b : Int} (h1 : -1000 ≤ a) (h2 : a ≤ 1000) (h3 : -1000 ≤ b) (h4 : b ≤ 1000) : -1000000 ≤ a * b ∧ a * b ≤ 1000000 := by
  have e1 : 0 ≤ (1000 - a) * (1000 - b) := Int.mul_nonneg (by omega) (by omega)
  have e2 : 0 ≤ (1000 + a) * (1000 + b) := Int.mul_nonneg (by omega) (by omega)
  have e3 : 0 ≤ (1000 - a) * (1000 + b) := Int.mul_nonneg (by omega) (by omega)
  have e4 : 0 ≤ (1000 + a) * (1000 - b) := Int.mul_nonneg (by omega) (by omega)
  simp only [Int.sub_mul, Int.mul_sub, Int.add_mul, Int.mul_add] at e1 e2 e3 e4
  omega
theorem igPlus_in (a b c d : Int) (w : World) (ha1 : -1000 ≤ a) (ha2 : a ≤ 1000) (hb1 : -1000 ≤ b) (hb2 : b ≤ 1000) (hc1 : -1000 ≤ c) (hc2 : c ≤ 1000) (hd1 : -1000 ≤ d) (hd2 : d ≤ 1000) :
    Calls Try.prog 71 #[.agg #[.int .i64 a, .int .i64 b], .agg #[.int .i64 c, .int .i64 d]] w fun e w' => e = .returned (.agg #[.int .i64 (a + c), .int .i64 (b + d)]) ∧ Below w.heap.size w w' := by
  go_enter Try.func71, Try.ntmps71
  go_wp2
  go_returns
  exact ⟨rfl, by go_grown⟩
theorem igTimes_in (a b c d : Int) (w : World) (ha1 : -1000 ≤ a) (ha2 : a ≤ 1000) (hb1 : -1000 ≤ b) (hb2 : b ≤ 1000) (hc1 : -1000 ≤ c) (hc2 : c ≤ 1000) (hd1 : -1000 ≤ d) (hd2 : d ≤ 1000) :
    Calls Try.prog 48 #[.agg #[.int .i64 a, .int .i64 b], .agg #[.int .i64 c, .int .i64 d]] w fun e w' => e = .returned (.agg #[.int .i64 (a * c - b * d), .int .i64 (a * d + b * c)]) ∧ Below w.heap.size w w' := by
  have m1 := mul_bd ha1 ha2 hc1 hc2
  have m2 := mul_bd hb1 hb2 hd1 hd2
  have m3 := mul_bd ha1 ha2 hd1 hd2
  have m4 := mul_bd hb1 hb2 hc1 hc2
  refine (igTimes a b c d w).mono ?_
  rintro e w' ⟨rfl, hb⟩
  refine ⟨?_, hb⟩
  rw [IntWalk.wrap64_in (a * c) (by omega), IntWalk.wrap64_in (b * d) (by omega), IntWalk.wrap64_in (a * d) (by omega), IntWalk.wrap64_in (b * c) (by omega), IntWalk.wrap64_in _ (by omega), IntWalk.wrap64_in _ (by omega)]
theorem pok_bd {n : Int} (h : pok n = true) : -1000 ≤ n ∧ n ≤ 1000 := by simpa [pok] using h
theorem gok_bd {a b : Int} (h : gok a b = true) : -1000 ≤ a ∧ a ≤ 1000 ∧ -1000 ≤ b ∧ b ≤ 1000 := by
  simp [gok] at h; have := pok_bd h.1; have := pok_bd h.2; omega



end Go.Proofs.Ytggebkgfldmipaa
