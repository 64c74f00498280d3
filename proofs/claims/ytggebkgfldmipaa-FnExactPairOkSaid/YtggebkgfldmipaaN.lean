import Derived.Test.YtggebkgfldmipaaM
namespace Go.Proofs.Ytggebkgfldmipaa
open Go Go.RowKit
attribute [local go_sem] World.cell?_alloc_some cell?_alloc2_some cell?_alloc3_some cell?_alloc4_some frozen?_alloc_some frozen?_alloc2_some frozen?_alloc3_some World.cell?_setCell_far new_ne0 new_ne1 new_ne2 new_ne3 lt2 lt3 lt4 lt5 lt6 lt7 lt8 lt9

theorem sq_nn (a : Int) : 0 ≤ a * a := by
  rcases Int.le_total 0 a with h | h
  · exact Int.mul_nonneg h h
  · have := Int.mul_nonneg (a := -a) (b := -a) (by omega) (by omega)
    rwa [Int.neg_mul_neg] at this
theorem sq_bd {a b : Int} (k : gok a b = true) : 0 ≤ a * a ∧ a * a ≤ 1000000 ∧ 0 ≤ b * b ∧ b * b ≤ 1000000 := by
  obtain ⟨h1, h2, h3, h4⟩ := gok_bd k
  exact ⟨sq_nn a, (mul_bd h1 h2 h1 h2).2, sq_nn b, (mul_bd h3 h4 h3 h4).2⟩
theorem nrm_t {a b : Int} (k : gok a b = true) : nrm a b = a * a + b * b := by simp [nrm, k]
theorem nrm_f {a b : Int} (k : gok a b = false) : nrm a b = -1 := by simp [nrm, k]
theorem slNorm (a b : Int) (w : World) : Calls Try.prog 62 #[.agg #[.int .i64 a, .int .i64 b]] w fun e w' => e = .returned (.int .i64 (wrap64 (wrap64 (a * a) + wrap64 (b * b)))) ∧ Below w.heap.size w w' := by
  go_enter Try.func62, Try.ntmps62
  go_wp2
  go_returns
  exact ⟨rfl, blA⟩
theorem norm_wrap {a b : Int} (k : gok a b = true) : wrap64 (wrap64 (a * a) + wrap64 (b * b)) = a * a + b * b := by
  have h := sq_bd k
  rw [IntWalk.wrap64_in (a * a) (by omega), IntWalk.wrap64_in (b * b) (by omega), IntWalk.wrap64_in _ (by omega)]
theorem slTimes (a b c d : Int) (w : World) : Calls Try.prog 38 #[.agg #[.int .i64 a, .int .i64 b], .agg #[.int .i64 c, .int .i64 d]] w fun e w' => e = .returned (.agg #[.int .i64 (wrap64 (wrap64 (a * c) - wrap64 (b * d))), .int .i64 (wrap64 (wrap64 (a * d) + wrap64 (b * c)))]) ∧ Below w.heap.size w w' := by
  go_enter Try.func38, Try.ntmps38
  go_wp2
  go_returns
  exact ⟨rfl, by go_grown⟩
theorem slTimes_in (a b c d : Int) (w : World) (ha1 : -1000 ≤ a) (ha2 : a ≤ 1000) (hb1 : -1000 ≤ b) (hb2 : b ≤ 1000) (hc1 : -1000 ≤ c) (hc2 : c ≤ 1000) (hd1 : -1000 ≤ d) (hd2 : d ≤ 1000) :
    Calls Try.prog 38 #[.agg #[.int .i64 a, .int .i64 b], .agg #[.int .i64 c, .int .i64 d]] w fun e w' => e = .returned (.agg #[.int .i64 (a * c - b * d), .int .i64 (a * d + b * c)]) ∧ Below w.heap.size w w' := by
  have m1 := mul_bd ha1 ha2 hc1 hc2
  have m2 := mul_bd hb1 hb2 hd1 hd2
  have m3 := mul_bd ha1 ha2 hd1 hd2
  have m4 := mul_bd hb1 hb2 hc1 hc2
  refine (slTimes a b c d w).mono ?_
  rintro e w' ⟨rfl, hb⟩
  refine ⟨?_, hb⟩
  rw [IntWalk.wrap64_in (a * c) (by omega), IntWalk.wrap64_in (b * d) (by omega), IntWalk.wrap64_in (a * d) (by omega), IntWalk.wrap64_in (b * c) (by omega), IntWalk.wrap64_in _ (by omega), IntWalk.wrap64_in _ (by omega)]

theorem iNormOf (a b : Int) (w : World) : Calls Try.prog 39 #[.agg #[.int .i64 a, .int .i64 b]] w fun e w' => e = .returned (.int .i64 (nrm a b)) ∧ Below w.heap.size w w' := by
  cases k : gok a b
  · rw [nrm_f k]
    go_enter Try.func39, Try.ntmps39
    go_wp2_with fail
    (refine (iGaussOk _ _ _).mono ?_; rintro e w1 ⟨rfl, hb1⟩; have hz1 := hb1.size; (repeat (first | rw [World.size_alloc] at hz1 | rw [World.size_setCell] at hz1 | rw [World.size_drew] at hz1)); have pp := C2.K hb1 (b := w.heap.size) (x := _) (y := _) (c2A); obtain ⟨kk1, kk2⟩ := pp)
    go_wp2_with fail
    go_returns
    exact ⟨rfl, blA⟩
  · rw [nrm_t k, ← norm_wrap k]
    go_enter Try.func39, Try.ntmps39
    go_wp2_with fail
    (refine (iGaussOk _ _ _).mono ?_; rintro e w1 ⟨rfl, hb1⟩; have hz1 := hb1.size; (repeat (first | rw [World.size_alloc] at hz1 | rw [World.size_setCell] at hz1 | rw [World.size_drew] at hz1)); have pp := C2.K hb1 (b := w.heap.size) (x := _) (y := _) (c2A); obtain ⟨kk3, kk4⟩ := pp; (try clear kk1 kk2))
    go_wp2_with fail
    (refine (igNorm _ _ _).mono ?_; rintro e w2 ⟨rfl, hb2⟩; have hz2 := hb2.size; (repeat (first | rw [World.size_alloc] at hz2 | rw [World.size_setCell] at hz2 | rw [World.size_drew] at hz2)); have pp := C2.K hb2 (b := w.heap.size) (x := _) (y := _) (c2A); obtain ⟨kk5, kk6⟩ := pp; (try clear kk3 kk4))
    go_wp2_with fail
    go_returns
    exact ⟨rfl, blA⟩

end Go.Proofs.Ytggebkgfldmipaa
