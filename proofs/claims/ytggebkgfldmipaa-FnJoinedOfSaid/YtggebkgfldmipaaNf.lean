import Derived.Test.YtggebkgfldmipaaPd
import Derived.Test.YtggebkgfldmipaaHa
import Derived.Deep.RegionWith
import Derived.BigRegion
import Derived.Deep.RegionHeld3
namespace Go.Proofs.Ytggebkgfldmipaa
open Go Go.RowKit
attribute [local go_sem] World.cell?_alloc_some cell?_alloc2_some cell?_alloc3_some cell?_alloc4_some frozen?_alloc_some frozen?_alloc2_some frozen?_alloc3_some World.cell?_setCell_far new_ne0 new_ne1 new_ne2 new_ne3 lt2 lt3 lt4 lt5 lt6 lt7 lt8 lt9
attribute [local go_sem ↓] eqG neG

/-- Two modules were drawn. -/
def DrawnPr (R : Nat) (w : World) (e : Ending) (w' : World) : Prop := ∃ a b c d : Int, e = .returned (.tuple #[.agg #[.int .i64 a, .int .i64 b], .agg #[.int .i64 c, .int .i64 d]]) ∧ Off R w w'
def DrawnMM (w : World) (e : Ending) (w' : World) : Prop := ∃ a b c d : Int, e = .returned (.tuple #[.agg #[.int .i64 a, .int .i64 b], .agg #[.int .i64 c, .int .i64 d]]) ∧ Below w.heap.size w w'
def DrawnZMM (w : World) (e : Ending) (w' : World) : Prop := ∃ x y a b c d : Int, e = .returned (.tuple #[.agg #[.int .i64 x, .int .i64 y], .agg #[.int .i64 a, .int .i64 b], .agg #[.int .i64 c, .int .i64 d]]) ∧ Below w.heap.size w w'
def DrawnZZMM (w : World) (e : Ending) (w' : World) : Prop := ∃ x y z t a b c d : Int, e = .returned (.tuple #[.agg #[.int .i64 x, .int .i64 y], .agg #[.int .i64 z, .int .i64 t], .agg #[.int .i64 a, .int .i64 b], .agg #[.int .i64 c, .int .i64 d]]) ∧ Below w.heap.size w w'
/-- A list of seven numbers lies there. -/
def HC (L : Nat) (W : World) : Prop := ∀ j : Nat, j < 7 → ∃ u v : Int, 0 ≤ u ∧ u ≤ 20 ∧ 0 ≤ v ∧ v ≤ 20 ∧ W.cell? ⟨L, j * 2, none⟩ = some (.int .i64 u) ∧ W.cell? ⟨L, j * 2 + 1, none⟩ = some (.int .i64 v)
theorem HC.off {L R : Nat} {w w' : World} (h : HC L w) (k : Off R w w') (hn : L ≠ R) : HC L w' := by
  intro j hj
  obtain ⟨u, v, h1, h2, h3, h4, h5, h6⟩ := h j hj
  exact ⟨u, v, h1, h2, h3, h4, k.cell hn h5, k.cell hn h6⟩
theorem HC.below {L : Nat} {w w' : World} (h : HC L w) (k : Below w.heap.size w w') : HC L w' := by
  intro j hj
  obtain ⟨u, v, h1, h2, h3, h4, h5, h6⟩ := h j hj
  exact ⟨u, v, h1, h2, h3, h4, keep k h5, keep k h6⟩
theorem HC.drewJ {L : Nat} {w : World} (h : HC L w) : HC L w.drew := h

set_option maxHeartbeats 16000000 in
theorem l20Pair (R p : Nat) (w : World) (h : Rd w R p) (hp : p ≤ 700000000) :
    Calls Try.prog 33 #[.pointer (some ⟨R, 0, none⟩)] w (DrawnPr R w) := by
  have hR := Rd_lt h
  have H := Lib.hid h
  clear h
  go_enter Try.func33, Try.ntmps33
  go_wp2_with fail
  (refine (odd R p 9 _ (Rd_alloc (Rd_alloc (Rd_alloc H.out))) (by omega) (by omega)).mono ?_; rintro e w1 ⟨t, rfl, ho1, q, hq1, hq2, hr1⟩; have hz1 := ho1.size; (repeat (first | rw [World.size_alloc] at hz1 | rw [World.size_setCell] at hz1 | rw [World.size_drew] at hz1)); have pp := T2.F ho1 (by omega) (b := w.heap.size) (x := _) (y := _) (t2A); obtain ⟨kk1, kk2, fkk1, fkk2⟩ := pp; have pp := T2.F ho1 (by omega) (b := w.heap.size + 1) (x := _) (y := _) (t2A); obtain ⟨kk3, kk4, fkk3, fkk4⟩ := pp; have kk5 := Off.cell ho1 (b := w.heap.size + 1 + 1) (o := 0) (v := _) (by omega) (kcA); have kk6 := Off.cell ho1 (b := w.heap.size + 1 + 1) (o := 1) (v := _) (by omega) (kcA); have kk7 := Off.cell ho1 (b := w.heap.size + 1 + 1) (o := 2) (v := _) (by omega) (kcA); have kk8 := Off.cell ho1 (b := w.heap.size + 1 + 1) (o := 3) (v := _) (by omega) (kcA); have kk9 := Off.cell ho1 (b := w.heap.size + 1 + 1) (o := 4) (v := _) (by omega) (kcA); have kk10 := Off.cell ho1 (b := w.heap.size + 1 + 1) (o := 5) (v := _) (by omega) (kcA); have kk11 := Off.cell ho1 (b := w.heap.size + 1 + 1) (o := 6) (v := _) (by omega) (kcA); have kk12 := Off.cell ho1 (b := w.heap.size + 1 + 1) (o := 7) (v := _) (by omega) (kcA); have kk13 := Off.cell ho1 (b := w.heap.size + 1 + 1) (o := 8) (v := _) (by omega) (kcA); have kk14 := Off.cell ho1 (b := w.heap.size + 1 + 1) (o := 9) (v := _) (by omega) (kcA); have kk15 := Off.cell ho1 (b := w.heap.size + 1 + 1) (o := 10) (v := _) (by omega) (kcA); have kk16 := Off.cell ho1 (b := w.heap.size + 1 + 1) (o := 11) (v := _) (by omega) (kcA); have kk17 := Off.cell ho1 (b := w.heap.size + 1 + 1) (o := 12) (v := _) (by omega) (kcA); have kk18 := Off.cell ho1 (b := w.heap.size + 1 + 1) (o := 13) (v := _) (by omega) (kcA); have Hho1 := Lib.hid ho1; clear ho1; have Hhr1 := Lib.hid hr1; clear hr1)
  have hcell : HC (w.heap.size + 1 + 1) w1 := by
    intro j hj
    obtain rfl | rfl | rfl | rfl | rfl | rfl | rfl : j = 0 ∨ j = 1 ∨ j = 2 ∨ j = 3 ∨ j = 4 ∨ j = 5 ∨ j = 6 := by omega
    · exact ⟨1, 1, by decide, by decide, by decide, by decide, by assumption, by assumption⟩
    · exact ⟨2, 1, by decide, by decide, by decide, by decide, by assumption, by assumption⟩
    · exact ⟨1, 2, by decide, by decide, by decide, by decide, by assumption, by assumption⟩
    · exact ⟨3, 0, by decide, by decide, by decide, by decide, by assumption, by assumption⟩
    · exact ⟨2, 0, by decide, by decide, by decide, by decide, by assumption, by assumption⟩
    · exact ⟨3, 2, by decide, by decide, by decide, by decide, by assumption, by assumption⟩
    · exact ⟨1, 0, by decide, by decide, by decide, by decide, by assumption, by assumption⟩
  have HL := Lib.hid hcell
  clear hcell
  clear kk5 kk6 kk7 kk8 kk9 kk10 kk11 kk12 kk13 kk14 kk15 kk16 kk17 kk18
  cases t
  · go_wp2_with fail
    have M1 : Nonempty Nat := ⟨0⟩
    have M2 : Nonempty Nat := ⟨0⟩
    have M3 : Nonempty Nat := ⟨0⟩
    have M4 : Nonempty Nat := ⟨0⟩
    go_region_with (first
      | (go_at_call 59; clear M1; (refine (pick R q 7 _ (by first | exact Hhr1.out | exact Rd_drewJ Hhr1.out) (by omega) (by omega)).mono ?_; rintro e w2 ⟨k1, rfl, ha0, ha1, ho2, hr2⟩; have hz2 := ho2.size; (repeat (first | rw [World.size_alloc] at hz2 | rw [World.size_setCell] at hz2 | rw [World.size_drew] at hz2)); have pp := T2.F ho2 (by omega) (b := w.heap.size) (x := _) (y := _) (t2A); obtain ⟨kk19, kk20, fkk19, fkk20⟩ := pp; have pp := T2.F ho2 (by omega) (b := w.heap.size + 1) (x := _) (y := _) (t2A); obtain ⟨kk21, kk22, fkk21, fkk22⟩ := pp; (try clear kk1 kk2 fkk1 fkk2 kk3 kk4 fkk3 fkk4 kk5 kk6 kk7 kk8 kk9 kk10 kk11 kk12 kk13 kk14 kk15 kk16 kk17 kk18); have Hhr2 := Lib.hid hr2; clear hr2); obtain ⟨j, rfl⟩ := Int.eq_ofNat_of_zero_le ha0; have hj : j < 7 := (by omega); have hj1 : (j : Int) < 7 := (by omega); have HL2 := Lib.hid (HC.off (by first | exact HL.out | exact HC.drewJ HL.out) ho2 (by omega)); obtain ⟨u, v, hu1, hu2, hv1, hv2, l0, l1⟩ := HL2.out j hj; have Ho2 := Lib.hid ho2; clear ho2)
      | (go_at_call 59; clear M2; (refine (pick R (q + 1) 4 _ (by first | exact Hhr2.out | exact Rd_drewJ Hhr2.out) (by omega) (by omega)).mono ?_; rintro e w3 ⟨k2, rfl, hb0, hb1, ho3, hr3⟩; have hz3 := ho3.size; (repeat (first | rw [World.size_alloc] at hz3 | rw [World.size_setCell] at hz3 | rw [World.size_drew] at hz3)); have pp := T2.F ho3 (by omega) (b := w.heap.size) (x := _) (y := _) (t2A); obtain ⟨kk23, kk24, fkk23, fkk24⟩ := pp; have pp := T2.F ho3 (by omega) (b := w.heap.size + 1) (x := _) (y := _) (t2A); obtain ⟨kk25, kk26, fkk25, fkk26⟩ := pp; (try clear kk19 kk20 fkk19 fkk20 kk21 kk22 fkk21 fkk22); have Hhr3 := Lib.hid hr3; clear hr3); have HL3 := Lib.hid (HC.off (by first | exact HL2.out | exact HC.drewJ HL2.out) ho3 (by omega)); have l0' := Off.cell ho3 (b := w.heap.size + 1 + 1) (o := j * 2) (v := .int .i64 u) (by omega) (by first | exact l0 | exact kcA); have l1' := Off.cell ho3 (b := w.heap.size + 1 + 1) (o := j * 2 + 1) (v := .int .i64 v) (by omega) (by first | exact l1 | exact kcA); have Ho3 := Lib.hid ho3; clear l0 l1 ho3)
      | (go_at_call 58; clear M4; (refine (l2Turn _ _ _ _ hb0 (by omega) (by omega) (by omega) (by omega) (by omega)).mono ?_; rintro e w4 ⟨rfl, hb4⟩; have hz4 := hb4.size; (repeat (first | rw [World.size_alloc] at hz4 | rw [World.size_setCell] at hz4 | rw [World.size_drew] at hz4)); have pp := T2.K hb4 (b := w.heap.size) (x := _) (y := _) (t2A); obtain ⟨kk27, kk28, fkk27, fkk28⟩ := pp; have pp := T2.K hb4 (b := w.heap.size + 1) (x := _) (y := _) (t2A); obtain ⟨kk29, kk30, fkk29, fkk30⟩ := pp; (try clear kk23 kk24 fkk23 fkk24 kk25 kk26 fkk25 fkk26)); have HL4 := Lib.hid (HC.below (by first | exact HL3.out | exact HC.drewJ HL3.out) hb4); have Ho4 := Lib.hid (Off.of_below (R := R) hb4); have Hr4 := Lib.hid (Rd_below hb4 (by first | exact Hhr3.out | exact Rd_drewJ Hhr3.out)); clear l0' l1' hb4)
      | (go_at_call 59; clear M3; (refine (pick R (q + 1 + 1) 7 _ (by first | exact Hr4.out | exact Rd_drewJ Hr4.out) (by omega) (by omega)).mono ?_; rintro e w5 ⟨k3, rfl, hc0, hc1, ho5, hr5⟩; have hz5 := ho5.size; (repeat (first | rw [World.size_alloc] at hz5 | rw [World.size_setCell] at hz5 | rw [World.size_drew] at hz5)); have pp := T2.F ho5 (by omega) (b := w.heap.size) (x := _) (y := _) (t2A); obtain ⟨kk31, kk32, fkk31, fkk32⟩ := pp; have pp := T2.F ho5 (by omega) (b := w.heap.size + 1) (x := _) (y := _) (t2A); obtain ⟨kk33, kk34, fkk33, fkk34⟩ := pp; (try clear kk27 kk28 fkk27 fkk28 kk29 kk30 fkk29 fkk30); have Hhr5 := Lib.hid hr5; clear hr5); obtain ⟨i, rfl⟩ := Int.eq_ofNat_of_zero_le hc0; have hi : i < 7 := (by omega); have hi1 : (i : Int) < 7 := (by omega); have HL5 := Lib.hid (HC.off (by first | exact HL4.out | exact HC.drewJ HL4.out) ho5 (by omega)); obtain ⟨s, t, hs1, hs2, ht1, ht2, m0, m1⟩ := HL5.out i hi; have Ho5 := Lib.hid ho5; clear ho5)
      | (go_at_call 59; (refine (pick R (q + 1 + 1 + 1) 4 _ (by first | exact Hhr5.out | exact Rd_drewJ Hhr5.out) (by omega) (by omega)).mono ?_; rintro e w6 ⟨k4, rfl, hd0, hd1, ho6, hr6⟩; have hz6 := ho6.size; (repeat (first | rw [World.size_alloc] at hz6 | rw [World.size_setCell] at hz6 | rw [World.size_drew] at hz6)); have pp := T2.F ho6 (by omega) (b := w.heap.size) (x := _) (y := _) (t2A); obtain ⟨kk35, kk36, fkk35, fkk36⟩ := pp; have pp := T2.F ho6 (by omega) (b := w.heap.size + 1) (x := _) (y := _) (t2A); obtain ⟨kk37, kk38, fkk37, fkk38⟩ := pp; (try clear kk31 kk32 fkk31 fkk32 kk33 kk34 fkk33 fkk34); have Hhr6 := Lib.hid hr6; clear hr6); have m0' := Off.cell ho6 (b := w.heap.size + 1 + 1) (o := i * 2) (v := .int .i64 s) (by omega) (by first | exact m0 | exact kcA); have m1' := Off.cell ho6 (b := w.heap.size + 1 + 1) (o := i * 2 + 1) (v := .int .i64 t) (by omega) (by first | exact m1 | exact kcA); have Ho6 := Lib.hid ho6; clear m0 m1 ho6)
      | (go_at_call 58; (refine (l2Turn _ _ _ _ hd0 (by omega) (by omega) (by omega) (by omega) (by omega)).mono ?_; rintro e w7 ⟨rfl, hb7⟩; have hz7 := hb7.size; (repeat (first | rw [World.size_alloc] at hz7 | rw [World.size_setCell] at hz7 | rw [World.size_drew] at hz7)); have pp := T2.K hb7 (b := w.heap.size) (x := _) (y := _) (t2A); obtain ⟨kk39, kk40, fkk39, fkk40⟩ := pp; have pp := T2.K hb7 (b := w.heap.size + 1) (x := _) (y := _) (t2A); obtain ⟨kk41, kk42, fkk41, fkk42⟩ := pp; (try clear kk35 kk36 fkk35 fkk36 kk37 kk38 fkk37 fkk38)); have Ho7 := Lib.hid (Off.of_below (R := R) hb7)))
    all_goals go_wp2_with fail
    all_goals
      have ho1 := Hho1.out
      have ho2 := Ho2.out
      have ho3 := Ho3.out
      have ho4 := Ho4.out
      have ho5 := Ho5.out
      have ho6 := Ho6.out
      have ho7 := Ho7.out
      refine bodyPost_ret (v := .tuple #[.agg #[.int .i64 (tuA k2 u v), .int .i64 (tuB k2 u v)], .agg #[.int .i64 (tuA k4 s t), .int .i64 (tuB k4 s t)]]) (by simp [results, Try.results33, go_sem, *]) rfl ?_; exact ⟨_, _, _, _, rfl, ofA⟩
  · go_wp2_with fail
    (refine (l20Modulus R q 3 _ Hhr1.out (by omega) (by omega)).mono ?_; rintro e w2 ⟨a, b, rfl, hm2, ho2, p2, hp1, hp2, hr2⟩; have hz2 := ho2.size; (repeat (first | rw [World.size_alloc] at hz2 | rw [World.size_setCell] at hz2 | rw [World.size_drew] at hz2)); have pp := T2.F ho2 (by omega) (b := w.heap.size) (x := _) (y := _) (t2A); obtain ⟨kk43, kk44, fkk43, fkk44⟩ := pp; have pp := T2.F ho2 (by omega) (b := w.heap.size + 1) (x := _) (y := _) (t2A); obtain ⟨kk45, kk46, fkk45, fkk46⟩ := pp; (try clear kk39 kk40 fkk39 fkk40 kk41 kk42 fkk41 fkk42); have Hhr2 := Lib.hid hr2; clear hr2; have Hho2 := Lib.hid ho2; clear ho2)
    clear hm2
    go_wp2_with fail
    (refine (l20Modulus R p2 3 _ Hhr2.out (by omega) (by omega)).mono ?_; rintro e w3 ⟨c, d, rfl, hm3, ho3, p3, hp3, hp4, hr3⟩; have hz3 := ho3.size; (repeat (first | rw [World.size_alloc] at hz3 | rw [World.size_setCell] at hz3 | rw [World.size_drew] at hz3)); have pp := T2.F ho3 (by omega) (b := w.heap.size) (x := _) (y := _) (t2A); obtain ⟨kk47, kk48, fkk47, fkk48⟩ := pp; have pp := T2.F ho3 (by omega) (b := w.heap.size + 1) (x := _) (y := _) (t2A); obtain ⟨kk49, kk50, fkk49, fkk50⟩ := pp; (try clear kk43 kk44 fkk43 fkk44 kk45 kk46 fkk45 fkk46); have Hho3 := Lib.hid ho3; clear ho3)
    clear hm3 hr3
    go_wp2_with fail
    have ho1 := Hho1.out
    have ho2 := Hho2.out
    have ho3 := Hho3.out
    refine bodyPost_ret (v := .tuple #[.agg #[.int .i64 a, .int .i64 b], .agg #[.int .i64 c, .int .i64 d]]) (by simp [results, Try.results33, go_sem, *]) rfl ?_; exact ⟨_, _, _, _, rfl, ofA⟩
end Go.Proofs.Ytggebkgfldmipaa
