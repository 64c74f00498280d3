import Derived.Test.YtggebkgfldmipaaJp
import Derived.Test.YtggebkgfldmipaaJq
namespace Go.Proofs.Ytggebkgfldmipaa
open Go Go.RowKit
attribute [local go_sem] World.cell?_alloc_some cell?_alloc2_some cell?_alloc3_some cell?_alloc4_some frozen?_alloc_some frozen?_alloc2_some frozen?_alloc3_some World.cell?_setCell_far new_ne0 new_ne1 new_ne2 new_ne3 lt2 lt3 lt4 lt5 lt6 lt7 lt8 lt9
attribute [local go_sem ↓] eqG neG

/-- What RestOf tells of a number and a modulus. -/
def RsIs (a b c d : Int) (o : Bool) (x y : Int) : Prop := dvO a b c d = o ∧ drA a b c d = x ∧ drB a b c d = y
theorem rs_is_any (a b c d : Int) : ∃ o x y, RsIs a b c d o x y := ⟨_, _, _, rfl, rfl, rfl⟩
/-- Both numbers leave the same rest by the third one. -/
def smO (a b c d e f : Int) : Bool := dvO a b e f && dvO c d e f && (drA a b e f == drA c d e f && drB a b e f == drB c d e f)
/-- A modulus. -/
def mdO (a b : Int) : Bool := decide (1 ≤ nrm a b) && decide (nrm a b ≤ 100)
theorem iRestOf_v {a b c d x y : Int} {o : Bool} (w : World) (h : RsIs a b c d o x y) : Calls Try.prog 21 #[.agg #[.int .i64 a, .int .i64 b], .agg #[.int .i64 c, .int .i64 d]] w fun e w' => e = .returned (.tuple #[.agg #[.int .i64 x, .int .i64 y], .bool o]) ∧ Below w.heap.size w w' := by
  obtain ⟨h1, h2, h3⟩ := h
  obtain ⟨q1, g1⟩ : ∃ q, dqA a b c d = q := ⟨_, rfl⟩
  obtain ⟨q2, g2⟩ : ∃ q, dqB a b c d = q := ⟨_, rfl⟩
  have HV : dvO a b c d = o ∧ dqA a b c d = q1 ∧ dqB a b c d = q2 ∧ drA a b c d = x ∧ drB a b c d = y := ⟨h1, g1, g2, h2, h3⟩
  clear h1 h2 h3 g1 g2
  go_enter Try.func21, Try.ntmps21
  go_wp2_with fail
  (refine (iDividedBy_v _ HV).mono ?_; rintro e w1 ⟨rfl, hb1⟩; have hz1 := hb1.size; (repeat (first | rw [World.size_alloc] at hz1 | rw [World.size_setCell] at hz1 | rw [World.size_drew] at hz1)); have pp := T2.K hb1 (b := w.heap.size + 1 + 1) (x := _) (y := _) (t2A); obtain ⟨kk1, kk2, fkk1, fkk2⟩ := pp)
  clear HV
  go_wp2_with fail
  refine bodyPost_ret (v := .tuple #[.agg #[.int .i64 x, .int .i64 y], .bool o]) (by simp [results, Try.results21, go_sem, *]) rfl ?_; exact ⟨rfl, blA⟩
theorem iSameOk_v {a b c d e f : Int} {o : Bool} (w : World) (h : smO a b c d e f = o) : Calls Try.prog 22 #[.agg #[.int .i64 a, .int .i64 b], .agg #[.int .i64 c, .int .i64 d], .agg #[.int .i64 e, .int .i64 f]] w fun e w' => e = .returned (.bool o) ∧ Below w.heap.size w w' := by
  obtain ⟨o1, x1, y1, h1⟩ := rs_is_any a b e f
  obtain ⟨o2, x2, y2, h2⟩ := rs_is_any c d e f
  obtain ⟨t, ht⟩ : ∃ t, (x1 == x2 && y1 == y2) = t := ⟨_, rfl⟩
  have hv : smO a b c d e f = (o1 && o2 && t) := by
    rw [← ht]; obtain ⟨rfl, rfl, rfl⟩ := h1; obtain ⟨rfl, rfl, rfl⟩ := h2; rfl
  rw [hv] at h
  subst h
  clear hv
  cases o1
  all_goals
    cases o2
    all_goals
      go_enter Try.func22, Try.ntmps22
      go_wp2_with fail
      (refine (iRestOf_v _ h1).mono ?_; rintro e w1 ⟨rfl, hb1⟩; have hz1 := hb1.size; (repeat (first | rw [World.size_alloc] at hz1 | rw [World.size_setCell] at hz1 | rw [World.size_drew] at hz1)); have pp := C2.K hb1 (b := w.heap.size) (x := _) (y := _) (c2A); obtain ⟨kk1, kk2⟩ := pp; have pp := C2.K hb1 (b := w.heap.size + 1) (x := _) (y := _) (c2A); obtain ⟨kk3, kk4⟩ := pp; have pp := C2.K hb1 (b := w.heap.size + 1 + 1) (x := _) (y := _) (c2A); obtain ⟨kk5, kk6⟩ := pp)
      go_wp2_with fail
      (refine (iRestOf_v _ h2).mono ?_; rintro e w2 ⟨rfl, hb2⟩; have hz2 := hb2.size; (repeat (first | rw [World.size_alloc] at hz2 | rw [World.size_setCell] at hz2 | rw [World.size_drew] at hz2)); have pp := C2.K hb2 (b := w1.heap.size) (x := _) (y := _) (c2A); obtain ⟨kk7, kk8⟩ := pp; (try clear kk1 kk2 kk3 kk4 kk5 kk6))
      clear h1 h2
      go_wp2_with fail
      go_returns
      exact ⟨rfl, blA⟩
theorem iModulusOk_v {a b : Int} {o : Bool} (w : World) (h : mdO a b = o) : Calls Try.prog 14 #[.agg #[.int .i64 a, .int .i64 b]] w fun e w' => e = .returned (.bool o) ∧ Below w.heap.size w w' := by
  obtain ⟨n, hn⟩ : ∃ n, nrm a b = n := ⟨_, rfl⟩
  unfold mdO at h
  rw [hn] at h
  subst h
  cases h1 : decide (1 ≤ n)
  all_goals
    go_enter Try.func14, Try.ntmps14
    go_wp2_with fail
    (refine (iNormOf_v _ hn).mono ?_; rintro e w1 ⟨rfl, hb1⟩; have hz1 := hb1.size; (repeat (first | rw [World.size_alloc] at hz1 | rw [World.size_setCell] at hz1 | rw [World.size_drew] at hz1)))
    clear hn
    go_wp2_with fail
    go_returns
    exact ⟨rfl, blA⟩
theorem sModulusOk_v {a b : Int} {o : Bool} (w : World) (h : mdO a b = o) : Calls Try.prog 36 #[.agg #[.int .i64 a, .int .i64 b]] w fun e w' => e = .returned (.bool o) ∧ Below w.heap.size w w' := by
  cases k : gok a b
  · have hn := nrm_f k
    unfold mdO at h
    rw [hn] at h
    subst h
    go_enter Try.func36, Try.ntmps36
    go_wp2_with fail
    (refine (sGaussOk _ _ _).mono ?_; rintro e w1 ⟨rfl, hb1⟩; have hz1 := hb1.size; (repeat (first | rw [World.size_alloc] at hz1 | rw [World.size_setCell] at hz1 | rw [World.size_drew] at hz1)); have pp := C2.K hb1 (b := w.heap.size) (x := _) (y := _) (c2A); obtain ⟨kk1, kk2⟩ := pp)
    go_wp2_with fail
    go_returns
    exact ⟨rfl, blA⟩
  · obtain ⟨n, hn⟩ : ∃ n, a * a + b * b = n := ⟨_, rfl⟩
    have hv : mdO a b = (decide (1 ≤ n) && decide (n ≤ 100)) := by unfold mdO; rw [nrm_t k, hn]
    rw [hv] at h
    subst h
    clear hv
    go_enter Try.func36, Try.ntmps36
    go_wp2_with fail
    (refine (sGaussOk _ _ _).mono ?_; rintro e w1 ⟨rfl, hb1⟩; have hz1 := hb1.size; (repeat (first | rw [World.size_alloc] at hz1 | rw [World.size_setCell] at hz1 | rw [World.size_drew] at hz1)); have pp := C2.K hb1 (b := w.heap.size) (x := _) (y := _) (c2A); obtain ⟨kk3, kk4⟩ := pp; (try clear kk1 kk2))
    go_wp2_with fail
    (refine (slNorm_v _ k hn).mono ?_; rintro e w2 ⟨rfl, hb2⟩; have hz2 := hb2.size; (repeat (first | rw [World.size_alloc] at hz2 | rw [World.size_setCell] at hz2 | rw [World.size_drew] at hz2)); have pp := C2.K hb2 (b := w.heap.size) (x := _) (y := _) (c2A); obtain ⟨kk5, kk6⟩ := pp; (try clear kk3 kk4))
    go_wp2_with (go_at_call 61; go_call (l1In _ _ _ _) as e w' ⟨rfl, rfl⟩)
    go_returns
    exact ⟨rfl, blA⟩
end Go.Proofs.Ytggebkgfldmipaa
