import Derived.Test.YtggebkgfldmipaaOc
import Derived.BigRegion
namespace Go.Proofs.Ytggebkgfldmipaa
open Go Go.RowKit
attribute [local go_sem] World.cell?_alloc_some cell?_alloc2_some cell?_alloc3_some cell?_alloc4_some frozen?_alloc_some frozen?_alloc2_some frozen?_alloc3_some World.cell?_setCell_far new_ne0 new_ne1 new_ne2 new_ne3 lt2 lt3 lt4 lt5 lt6 lt7 lt8 lt9
attribute [local go_sem ↓] eqG neG

theorem co_gok {a b c d : Int} (k1 : gok a b = true) (k2 : gok c d = true) : gok (gA a b c d) (gB a b c d) = true ∧ fiA (gA a b c d) (gB a b c d) = coA a b c d ∧ fiB (gA a b c d) (gB a b c d) = coB a b c d ∧ coO a b c d = !(coA a b c d == 0 && coB a b c d == 0) := by
  have g := (gc_div 21 a b c d (nrm_21 k2) k1 k2).2.2.2.1
  refine ⟨g, ?_⟩
  cases h : coO a b c d
  · have hz : a = 0 ∧ b = 0 ∧ c = 0 ∧ d = 0 := by
      refine Decidable.byContradiction fun hn => ?_
      rw [co_mk k1 k2 hn] at h; simp at h
    obtain ⟨rfl, rfl, rfl, rfl⟩ := hz
    have e1 : gA 0 0 0 0 = 0 := by decide
    have e2 : gB 0 0 0 0 = 0 := by decide
    rw [e1, e2, coA, coB, h]
    decide
  · have hn := (co_all h).2.1
    refine ⟨by simp [coA, h], by simp [coB, h], ?_⟩
    cases e : (coA a b c d == 0 && coB a b c d == 0)
    · rfl
    · simp at e; exact absurd e hn
theorem co_f {a b c d : Int} (h : coO a b c d = false) : coA a b c d = 0 ∧ coB a b c d = 0 := by simp [coA, coB, h]
theorem iLast_v {a b c d x y : Int} (w : World) (k1 : gok a b = true) (k2 : gok c d = true) (hx : gA a b c d = x) (hy : gB a b c d = y) : Calls Try.prog 73 #[.agg #[.int .i64 a, .int .i64 b], .agg #[.int .i64 c, .int .i64 d]] w fun e w' => e = .returned (.agg #[.int .i64 x, .int .i64 y]) ∧ Below w.heap.size w w' := by
  subst hx hy; exact iLast a b c d w k1 k2
theorem l4Common_v {a b c d x y : Int} (w : World) (k1 : gok a b = true) (k2 : gok c d = true) (hx : coA a b c d = x) (hy : coB a b c d = y) : Calls Try.prog 74 #[.agg #[.int .i64 a, .int .i64 b], .agg #[.int .i64 c, .int .i64 d]] w fun e w' => e = .returned (.agg #[.int .i64 x, .int .i64 y]) ∧ Below w.heap.size w w' := by
  obtain ⟨-, e1, e2, -⟩ := co_gok k1 k2
  subst hx hy
  rw [← e1, ← e2]
  exact l4Common a b c d w k1 k2

set_option maxHeartbeats 2000000 in
theorem iCommonOf (a b c d : Int) (w : World) : Calls Try.prog 60 #[.agg #[.int .i64 a, .int .i64 b], .agg #[.int .i64 c, .int .i64 d]] w fun e w' => e = .returned (.tuple #[.agg #[.int .i64 (coA a b c d), .int .i64 (coB a b c d)], .bool (coO a b c d)]) ∧ Below w.heap.size w w' := by
  cases k1 : gok a b
  · have h : coO a b c d = false := by simp [coO, k1]
    rw [h, (co_f h).1, (co_f h).2]
    clear h
    go_enter Try.func60, Try.ntmps60
    go_wp2_with fail
    (refine (iGaussOk _ _ _).mono ?_; rintro e w1 ⟨rfl, hb1⟩; have hz1 := hb1.size; (repeat (first | rw [World.size_alloc] at hz1 | rw [World.size_setCell] at hz1 | rw [World.size_drew] at hz1)); have pp := C2.K hb1 (b := w.heap.size) (x := _) (y := _) (c2A); obtain ⟨kk1, kk2⟩ := pp; have pp := C2.K hb1 (b := w.heap.size + 1) (x := _) (y := _) (c2A); obtain ⟨kk3, kk4⟩ := pp; have pp := T2.K hb1 (b := w.heap.size + 1 + 1) (x := _) (y := _) (t2A); obtain ⟨kk5, kk6, fkk5, fkk6⟩ := pp)
    go_wp2_with fail
    refine bodyPost_ret (v := .tuple #[.agg #[.int .i64 0, .int .i64 0], .bool false]) (by simp [results, Try.results60, go_sem, *]) rfl ?_; exact ⟨rfl, blA⟩
  cases k2 : gok c d
  · have h : coO a b c d = false := by simp [coO, k2]
    rw [h, (co_f h).1, (co_f h).2]
    clear h
    go_enter Try.func60, Try.ntmps60
    go_wp2_with fail
    (refine (iGaussOk _ _ _).mono ?_; rintro e w1 ⟨rfl, hb1⟩; have hz1 := hb1.size; (repeat (first | rw [World.size_alloc] at hz1 | rw [World.size_setCell] at hz1 | rw [World.size_drew] at hz1)); have pp := C2.K hb1 (b := w.heap.size) (x := _) (y := _) (c2A); obtain ⟨kk7, kk8⟩ := pp; have pp := C2.K hb1 (b := w.heap.size + 1) (x := _) (y := _) (c2A); obtain ⟨kk9, kk10⟩ := pp; have pp := T2.K hb1 (b := w.heap.size + 1 + 1) (x := _) (y := _) (t2A); obtain ⟨kk11, kk12, fkk11, fkk12⟩ := pp; (try clear kk1 kk2 kk3 kk4 kk5 kk6 fkk5 fkk6))
    go_wp2_with fail
    (refine (iGaussOk _ _ _).mono ?_; rintro e w2 ⟨rfl, hb2⟩; have hz2 := hb2.size; (repeat (first | rw [World.size_alloc] at hz2 | rw [World.size_setCell] at hz2 | rw [World.size_drew] at hz2)); have pp := C2.K hb2 (b := w.heap.size) (x := _) (y := _) (c2A); obtain ⟨kk13, kk14⟩ := pp; have pp := C2.K hb2 (b := w.heap.size + 1) (x := _) (y := _) (c2A); obtain ⟨kk15, kk16⟩ := pp; have pp := T2.K hb2 (b := w.heap.size + 1 + 1) (x := _) (y := _) (t2A); obtain ⟨kk17, kk18, fkk17, fkk18⟩ := pp; (try clear kk7 kk8 kk9 kk10 kk11 kk12 fkk11 fkk12))
    go_wp2_with fail
    refine bodyPost_ret (v := .tuple #[.agg #[.int .i64 0, .int .i64 0], .bool false]) (by simp [results, Try.results60, go_sem, *]) rfl ?_; exact ⟨rfl, blA⟩
  obtain ⟨g, e1, e2, e3⟩ := co_gok k1 k2
  obtain ⟨x, hx⟩ : ∃ x, coA a b c d = x := ⟨_, rfl⟩
  obtain ⟨y, hy⟩ : ∃ y, coB a b c d = y := ⟨_, rfl⟩
  obtain ⟨p, hp⟩ : ∃ p, gA a b c d = p := ⟨_, rfl⟩
  obtain ⟨q, hq⟩ : ∃ q, gB a b c d = q := ⟨_, rfl⟩
  rw [e3, hx, hy]
  rw [hp, hq] at g e1 e2
  rw [hx] at e1
  rw [hy] at e2
  clear e3 hx hy
  cases hz : (x == 0 && y == 0)
  all_goals
    go_enter Try.func60, Try.ntmps60
    go_wp2_with fail
    (refine (iGaussOk _ _ _).mono ?_; rintro e w1 ⟨rfl, hb1⟩; have hz1 := hb1.size; (repeat (first | rw [World.size_alloc] at hz1 | rw [World.size_setCell] at hz1 | rw [World.size_drew] at hz1)); have pp := C2.K hb1 (b := w.heap.size) (x := _) (y := _) (c2A); obtain ⟨kk19, kk20⟩ := pp; have pp := C2.K hb1 (b := w.heap.size + 1) (x := _) (y := _) (c2A); obtain ⟨kk21, kk22⟩ := pp; have pp := T2.K hb1 (b := w.heap.size + 1 + 1) (x := _) (y := _) (t2A); obtain ⟨kk23, kk24, fkk23, fkk24⟩ := pp; (try clear kk13 kk14 kk15 kk16 kk17 kk18 fkk17 fkk18))
    go_wp2_with fail
    (refine (iGaussOk _ _ _).mono ?_; rintro e w2 ⟨rfl, hb2⟩; have hz2 := hb2.size; (repeat (first | rw [World.size_alloc] at hz2 | rw [World.size_setCell] at hz2 | rw [World.size_drew] at hz2)); have pp := C2.K hb2 (b := w.heap.size) (x := _) (y := _) (c2A); obtain ⟨kk25, kk26⟩ := pp; have pp := C2.K hb2 (b := w.heap.size + 1) (x := _) (y := _) (c2A); obtain ⟨kk27, kk28⟩ := pp; have pp := T2.K hb2 (b := w.heap.size + 1 + 1) (x := _) (y := _) (t2A); obtain ⟨kk29, kk30, fkk29, fkk30⟩ := pp; (try clear kk19 kk20 kk21 kk22 kk23 kk24 fkk23 fkk24))
    go_wp2_with fail
    (refine (iLast_v _ k1 k2 hp hq).mono ?_; rintro e w3 ⟨rfl, hb3⟩; have hz3 := hb3.size; (repeat (first | rw [World.size_alloc] at hz3 | rw [World.size_setCell] at hz3 | rw [World.size_drew] at hz3)); have pp := T2.K hb3 (b := w.heap.size + 1 + 1) (x := _) (y := _) (t2A); obtain ⟨kk31, kk32, fkk31, fkk32⟩ := pp; (try clear kk25 kk26 kk27 kk28 kk29 kk30 fkk29 fkk30))
    go_wp2_with fail
    (refine (iFirstOf_w _ g e1 e2).mono ?_; rintro e w4 ⟨rfl, hb4⟩; have hz4 := hb4.size; (repeat (first | rw [World.size_alloc] at hz4 | rw [World.size_setCell] at hz4 | rw [World.size_drew] at hz4)); have pp := T2.K hb4 (b := w.heap.size + 1 + 1) (x := _) (y := _) (t2A); obtain ⟨kk33, kk34, fkk33, fkk34⟩ := pp; (try clear kk31 kk32 fkk31 fkk32))
    clear hp hq g e1 e2 k1 k2
    go_upto_region 4 with fail
    refine wp_name ?_
    intro w5 hb5
    (have hz5 := hb5.size; (repeat (first | rw [World.size_alloc] at hz5 | rw [World.size_setCell] at hz5 | rw [World.size_drew] at hz5)); have pp := T2.K hb5 (b := w.heap.size + 1 + 1) (x := _) (y := _) (t2A); obtain ⟨kk35, kk36, fkk35, fkk36⟩ := pp; have pp := C2.K hb5 (b := w4.heap.size) (x := _) (y := _) (c2A); obtain ⟨kk37, kk38⟩ := pp; (try clear kk33 kk34 fkk33 fkk34))
    go_region
    all_goals go_wp2_with fail
  · all_goals refine bodyPost_ret (v := .tuple #[.agg #[.int .i64 x, .int .i64 y], .bool true]) (by simp [results, Try.results60, go_sem, *]) rfl ?_; exact ⟨rfl, blA⟩
  · all_goals refine bodyPost_ret (v := .tuple #[.agg #[.int .i64 x, .int .i64 y], .bool false]) (by simp [results, Try.results60, go_sem, *]) rfl ?_; exact ⟨rfl, blA⟩
theorem iCommonOf_v {a b c d x y : Int} {o : Bool} (w : World) (h : coO a b c d = o ∧ coA a b c d = x ∧ coB a b c d = y) : Calls Try.prog 60 #[.agg #[.int .i64 a, .int .i64 b], .agg #[.int .i64 c, .int .i64 d]] w fun e w' => e = .returned (.tuple #[.agg #[.int .i64 x, .int .i64 y], .bool o]) ∧ Below w.heap.size w w' := by
  obtain ⟨rfl, rfl, rfl⟩ := h; exact iCommonOf a b c d w
end Go.Proofs.Ytggebkgfldmipaa

namespace Go.Proofs.Ytggebkgfldmipaa
open Go Go.RowKit
attribute [local go_sem] World.cell?_alloc_some cell?_alloc2_some cell?_alloc3_some cell?_alloc4_some frozen?_alloc_some frozen?_alloc2_some frozen?_alloc3_some World.cell?_setCell_far new_ne0 new_ne1 new_ne2 new_ne3 lt2 lt3 lt4 lt5 lt6 lt7 lt8 lt9
attribute [local go_sem ↓] eqG neG

theorem co_bits {a b c d : Int} (k1 : gok a b = true) (k2 : gok c d = true) : coO a b c d = !((a == 0 && b == 0) && (c == 0 && d == 0)) := by simp [coO, k1, k2]
set_option maxHeartbeats 2000000 in
theorem sCommonOf (a b c d : Int) (w : World) : Calls Try.prog 63 #[.agg #[.int .i64 a, .int .i64 b], .agg #[.int .i64 c, .int .i64 d]] w fun e w' => e = .returned (.tuple #[.agg #[.int .i64 (coA a b c d), .int .i64 (coB a b c d)], .bool (coO a b c d)]) ∧ Below w.heap.size w w' := by
  cases k1 : gok a b
  · have h : coO a b c d = false := by simp [coO, k1]
    rw [h, (co_f h).1, (co_f h).2]
    clear h
    go_enter Try.func63, Try.ntmps63
    go_wp2_with fail
    (refine (sGaussOk _ _ _).mono ?_; rintro e w1 ⟨rfl, hb1⟩; have hz1 := hb1.size; (repeat (first | rw [World.size_alloc] at hz1 | rw [World.size_setCell] at hz1 | rw [World.size_drew] at hz1)); have pp := C2.K hb1 (b := w.heap.size) (x := _) (y := _) (c2A); obtain ⟨kk1, kk2⟩ := pp; have pp := C2.K hb1 (b := w.heap.size + 1) (x := _) (y := _) (c2A); obtain ⟨kk3, kk4⟩ := pp; have pp := T2.K hb1 (b := w.heap.size + 1 + 1) (x := _) (y := _) (t2A); obtain ⟨kk5, kk6, fkk5, fkk6⟩ := pp)
    go_wp2_with fail
    refine bodyPost_ret (v := .tuple #[.agg #[.int .i64 0, .int .i64 0], .bool false]) (by simp [results, Try.results63, go_sem, *]) rfl ?_; exact ⟨rfl, blA⟩
  cases k2 : gok c d
  · have h : coO a b c d = false := by simp [coO, k2]
    rw [h, (co_f h).1, (co_f h).2]
    clear h
    go_enter Try.func63, Try.ntmps63
    go_wp2_with fail
    (refine (sGaussOk _ _ _).mono ?_; rintro e w1 ⟨rfl, hb1⟩; have hz1 := hb1.size; (repeat (first | rw [World.size_alloc] at hz1 | rw [World.size_setCell] at hz1 | rw [World.size_drew] at hz1)); have pp := C2.K hb1 (b := w.heap.size) (x := _) (y := _) (c2A); obtain ⟨kk7, kk8⟩ := pp; have pp := C2.K hb1 (b := w.heap.size + 1) (x := _) (y := _) (c2A); obtain ⟨kk9, kk10⟩ := pp; have pp := T2.K hb1 (b := w.heap.size + 1 + 1) (x := _) (y := _) (t2A); obtain ⟨kk11, kk12, fkk11, fkk12⟩ := pp; (try clear kk1 kk2 kk3 kk4 kk5 kk6 fkk5 fkk6))
    go_wp2_with fail
    (refine (sGaussOk _ _ _).mono ?_; rintro e w2 ⟨rfl, hb2⟩; have hz2 := hb2.size; (repeat (first | rw [World.size_alloc] at hz2 | rw [World.size_setCell] at hz2 | rw [World.size_drew] at hz2)); have pp := C2.K hb2 (b := w.heap.size) (x := _) (y := _) (c2A); obtain ⟨kk13, kk14⟩ := pp; have pp := C2.K hb2 (b := w.heap.size + 1) (x := _) (y := _) (c2A); obtain ⟨kk15, kk16⟩ := pp; have pp := T2.K hb2 (b := w.heap.size + 1 + 1) (x := _) (y := _) (t2A); obtain ⟨kk17, kk18, fkk17, fkk18⟩ := pp; (try clear kk7 kk8 kk9 kk10 kk11 kk12 fkk11 fkk12))
    go_wp2_with fail
    refine bodyPost_ret (v := .tuple #[.agg #[.int .i64 0, .int .i64 0], .bool false]) (by simp [results, Try.results63, go_sem, *]) rfl ?_; exact ⟨rfl, blA⟩
  have hO := co_bits k1 k2
  cases z1 : (a == 0 && b == 0) <;> cases z2 : (c == 0 && d == 0)
  all_goals
    rw [z1, z2] at hO
    simp only [Bool.and_true, Bool.and_false, Bool.not_true, Bool.not_false] at hO
  case true.true =>
    rw [hO, (co_f hO).1, (co_f hO).2]
    clear hO
    go_enter Try.func63, Try.ntmps63
    go_wp2_with fail
    (refine (sGaussOk _ _ _).mono ?_; rintro e w1 ⟨rfl, hb1⟩; have hz1 := hb1.size; (repeat (first | rw [World.size_alloc] at hz1 | rw [World.size_setCell] at hz1 | rw [World.size_drew] at hz1)); have pp := C2.K hb1 (b := w.heap.size) (x := _) (y := _) (c2A); obtain ⟨kk19, kk20⟩ := pp; have pp := C2.K hb1 (b := w.heap.size + 1) (x := _) (y := _) (c2A); obtain ⟨kk21, kk22⟩ := pp; have pp := T2.K hb1 (b := w.heap.size + 1 + 1) (x := _) (y := _) (t2A); obtain ⟨kk23, kk24, fkk23, fkk24⟩ := pp; (try clear kk13 kk14 kk15 kk16 kk17 kk18 fkk17 fkk18))
    go_wp2_with fail
    (refine (sGaussOk _ _ _).mono ?_; rintro e w2 ⟨rfl, hb2⟩; have hz2 := hb2.size; (repeat (first | rw [World.size_alloc] at hz2 | rw [World.size_setCell] at hz2 | rw [World.size_drew] at hz2)); have pp := C2.K hb2 (b := w.heap.size) (x := _) (y := _) (c2A); obtain ⟨kk25, kk26⟩ := pp; have pp := C2.K hb2 (b := w.heap.size + 1) (x := _) (y := _) (c2A); obtain ⟨kk27, kk28⟩ := pp; have pp := T2.K hb2 (b := w.heap.size + 1 + 1) (x := _) (y := _) (t2A); obtain ⟨kk29, kk30, fkk29, fkk30⟩ := pp; (try clear kk19 kk20 kk21 kk22 kk23 kk24 fkk23 fkk24))
    go_wp2_with fail
    refine bodyPost_ret (v := .tuple #[.agg #[.int .i64 0, .int .i64 0], .bool false]) (by simp [results, Try.results63, go_sem, *]) rfl ?_; exact ⟨rfl, blA⟩
  all_goals
    obtain ⟨x, hx⟩ : ∃ x, coA a b c d = x := ⟨_, rfl⟩
    obtain ⟨y, hy⟩ : ∃ y, coB a b c d = y := ⟨_, rfl⟩
    rw [hO, hx, hy]
    clear hO
    go_enter Try.func63, Try.ntmps63
    go_wp2_with fail
    (refine (sGaussOk _ _ _).mono ?_; rintro e w1 ⟨rfl, hb1⟩; have hz1 := hb1.size; (repeat (first | rw [World.size_alloc] at hz1 | rw [World.size_setCell] at hz1 | rw [World.size_drew] at hz1)); have pp := C2.K hb1 (b := w.heap.size) (x := _) (y := _) (c2A); obtain ⟨kk31, kk32⟩ := pp; have pp := C2.K hb1 (b := w.heap.size + 1) (x := _) (y := _) (c2A); obtain ⟨kk33, kk34⟩ := pp; have pp := T2.K hb1 (b := w.heap.size + 1 + 1) (x := _) (y := _) (t2A); obtain ⟨kk35, kk36, fkk35, fkk36⟩ := pp; (try clear kk25 kk26 kk27 kk28 kk29 kk30 fkk29 fkk30))
    go_wp2_with fail
    (refine (sGaussOk _ _ _).mono ?_; rintro e w2 ⟨rfl, hb2⟩; have hz2 := hb2.size; (repeat (first | rw [World.size_alloc] at hz2 | rw [World.size_setCell] at hz2 | rw [World.size_drew] at hz2)); have pp := C2.K hb2 (b := w.heap.size) (x := _) (y := _) (c2A); obtain ⟨kk37, kk38⟩ := pp; have pp := C2.K hb2 (b := w.heap.size + 1) (x := _) (y := _) (c2A); obtain ⟨kk39, kk40⟩ := pp; have pp := T2.K hb2 (b := w.heap.size + 1 + 1) (x := _) (y := _) (t2A); obtain ⟨kk41, kk42, fkk41, fkk42⟩ := pp; (try clear kk31 kk32 kk33 kk34 kk35 kk36 fkk35 fkk36))
    go_wp2_with fail
    (refine (l4Common_v _ k1 k2 hx hy).mono ?_; rintro e w3 ⟨rfl, hb3⟩; have hz3 := hb3.size; (repeat (first | rw [World.size_alloc] at hz3 | rw [World.size_setCell] at hz3 | rw [World.size_drew] at hz3)); have pp := T2.K hb3 (b := w.heap.size + 1 + 1) (x := _) (y := _) (t2A); obtain ⟨kk43, kk44, fkk43, fkk44⟩ := pp; (try clear kk37 kk38 kk39 kk40 kk41 kk42 fkk41 fkk42))
    go_wp2_with fail
    refine bodyPost_ret (v := .tuple #[.agg #[.int .i64 x, .int .i64 y], .bool true]) (by simp [results, Try.results63, go_sem, *]) rfl ?_; exact ⟨rfl, blA⟩
theorem sCommonOf_v {a b c d x y : Int} {o : Bool} (w : World) (h : coO a b c d = o ∧ coA a b c d = x ∧ coB a b c d = y) : Calls Try.prog 63 #[.agg #[.int .i64 a, .int .i64 b], .agg #[.int .i64 c, .int .i64 d]] w fun e w' => e = .returned (.tuple #[.agg #[.int .i64 x, .int .i64 y], .bool o]) ∧ Below w.heap.size w w' := by
  obtain ⟨rfl, rfl, rfl⟩ := h; exact sCommonOf a b c d w
theorem iApartOk (a b c d : Int) (w : World) : Calls Try.prog 35 #[.agg #[.int .i64 a, .int .i64 b], .agg #[.int .i64 c, .int .i64 d]] w fun e w' => e = .returned (.bool (apO a b c d)) ∧ Below w.heap.size w w' := by
  obtain ⟨x, y, o, HV⟩ : ∃ x y o, coO a b c d = o ∧ coA a b c d = x ∧ coB a b c d = y := ⟨_, _, _, rfl, rfl, rfl⟩
  have hv : apO a b c d = (o && (x == 1 && y == 0)) := by simp only [apO, HV.1, HV.2.1, HV.2.2]
  rw [hv]
  clear hv
  cases o
  · go_enter Try.func35, Try.ntmps35
    go_wp2_with fail
    (refine (iCommonOf_v _ HV).mono ?_; rintro e w1 ⟨rfl, hb1⟩; have hz1 := hb1.size; (repeat (first | rw [World.size_alloc] at hz1 | rw [World.size_setCell] at hz1 | rw [World.size_drew] at hz1)))
    go_wp2_with fail
    go_returns
    exact ⟨rfl, blA⟩
  cases hz : (x == 1 && y == 0)
  all_goals
    go_enter Try.func35, Try.ntmps35
    go_wp2_with fail
    (refine (iCommonOf_v _ HV).mono ?_; rintro e w1 ⟨rfl, hb1⟩; have hz1 := hb1.size; (repeat (first | rw [World.size_alloc] at hz1 | rw [World.size_setCell] at hz1 | rw [World.size_drew] at hz1)))
    clear HV
    go_wp2_with fail
    go_returns
    exact ⟨rfl, blA⟩
theorem sApartOk (a b c d : Int) (w : World) : Calls Try.prog 37 #[.agg #[.int .i64 a, .int .i64 b], .agg #[.int .i64 c, .int .i64 d]] w fun e w' => e = .returned (.bool (apO a b c d)) ∧ Below w.heap.size w w' := by
  obtain ⟨x, y, o, HV⟩ : ∃ x y o, coO a b c d = o ∧ coA a b c d = x ∧ coB a b c d = y := ⟨_, _, _, rfl, rfl, rfl⟩
  have hv : apO a b c d = (o && (x == 1 && y == 0)) := by simp only [apO, HV.1, HV.2.1, HV.2.2]
  rw [hv]
  clear hv
  cases o
  · go_enter Try.func37, Try.ntmps37
    go_wp2_with fail
    (refine (sCommonOf_v _ HV).mono ?_; rintro e w1 ⟨rfl, hb1⟩; have hz1 := hb1.size; (repeat (first | rw [World.size_alloc] at hz1 | rw [World.size_setCell] at hz1 | rw [World.size_drew] at hz1)))
    go_wp2_with fail
    go_returns
    exact ⟨rfl, blA⟩
  cases hz : (x == 1 && y == 0)
  all_goals
    go_enter Try.func37, Try.ntmps37
    go_wp2_with fail
    (refine (sCommonOf_v _ HV).mono ?_; rintro e w1 ⟨rfl, hb1⟩; have hz1 := hb1.size; (repeat (first | rw [World.size_alloc] at hz1 | rw [World.size_setCell] at hz1 | rw [World.size_drew] at hz1)))
    clear HV
    go_wp2_with fail
    go_returns
    exact ⟨rfl, blA⟩
theorem iApartOk_v {a b c d : Int} {o : Bool} (w : World) (h : apO a b c d = o) : Calls Try.prog 35 #[.agg #[.int .i64 a, .int .i64 b], .agg #[.int .i64 c, .int .i64 d]] w fun e w' => e = .returned (.bool o) ∧ Below w.heap.size w w' := by
  subst h; exact iApartOk a b c d w
theorem sApartOk_v {a b c d : Int} {o : Bool} (w : World) (h : apO a b c d = o) : Calls Try.prog 37 #[.agg #[.int .i64 a, .int .i64 b], .agg #[.int .i64 c, .int .i64 d]] w fun e w' => e = .returned (.bool o) ∧ Below w.heap.size w w' := by
  subst h; exact sApartOk a b c d w
end Go.Proofs.Ytggebkgfldmipaa
