import Derived.Test.YtggebkgfldmipaaJe
import Derived.Test.YtggebkgfldmipaaR
import Derived.Test.YtggebkgfldmipaaHs
namespace Go.Proofs.Ytggebkgfldmipaa
open Go Go.RowKit
attribute [local go_sem] World.cell?_alloc_some cell?_alloc2_some cell?_alloc3_some cell?_alloc4_some frozen?_alloc_some frozen?_alloc2_some frozen?_alloc3_some World.cell?_setCell_far new_ne0 new_ne1 new_ne2 new_ne3 lt2 lt3 lt4 lt5 lt6 lt7 lt8 lt9
attribute [local go_sem ↓] eqG neG

/-- A drawn modulus. -/
def Md (a b : Int) : Prop := (-3 ≤ a ∧ a ≤ 5 ∧ -3 ≤ b ∧ b ≤ 4 ∧ (a = 5 → b = 0)) ∨ (a = 11 ∧ b = 0) ∨ (a = 1001 ∧ b = 0)
def Mdrawn (R p : Nat) (w : World) (e : Ending) (w' : World) : Prop := ∃ a b : Int, e = .returned (.agg #[.int .i64 a, .int .i64 b]) ∧ Md a b ∧ Off R w w' ∧ ∃ p', p ≤ p' ∧ p' ≤ p + 5 ∧ Rd w' R p'
/-- Two numbers and a modulus were drawn. -/
def Gdrawn6 (R : Nat) (w : World) (e : Ending) (w' : World) : Prop := ∃ a b c d x y : Int, e = .returned (.tuple #[.agg #[.int .i64 a, .int .i64 b], .agg #[.int .i64 c, .int .i64 d], .agg #[.int .i64 x, .int .i64 y]]) ∧ Md x y ∧ Off R w w'
def DrawnM (w : World) (e : Ending) (w' : World) : Prop := ∃ a b : Int, e = .returned (.agg #[.int .i64 a, .int .i64 b]) ∧ Below w.heap.size w w'
def DrawnMd (w : World) (e : Ending) (w' : World) : Prop := ∃ a b : Int, e = .returned (.agg #[.int .i64 a, .int .i64 b]) ∧ Md a b ∧ Below w.heap.size w w'
def DrawnZM (w : World) (e : Ending) (w' : World) : Prop := ∃ a b c d : Int, e = .returned (.tuple #[.agg #[.int .i64 a, .int .i64 b], .agg #[.int .i64 c, .int .i64 d]]) ∧ Gd a b ∧ Md c d ∧ Below w.heap.size w w'
def Drawn6 (w : World) (e : Ending) (w' : World) : Prop := ∃ a b c d x y : Int, e = .returned (.tuple #[.agg #[.int .i64 a, .int .i64 b], .agg #[.int .i64 c, .int .i64 d], .agg #[.int .i64 x, .int .i64 y]]) ∧ Md x y ∧ Below w.heap.size w w'

set_option maxHeartbeats 4000000 in
theorem l20Modulus (R p : Nat) (n : Int) (w : World) (h : Rd w R p) (hp : p ≤ 900000000) (hn : n ≤ 1000000000) :
    Calls Try.prog 57 #[.pointer (some ⟨R, 0, none⟩), .int .i64 n] w (Mdrawn R p w) := by
  have hR := Rd_lt h
  have H := Lib.hid h
  clear h
  go_enter Try.func57, Try.ntmps57
  go_wp2_with fail
  (refine (pick R p 8 _ (Rd_alloc H.out) (by omega) (by omega)).mono ?_; rintro e w1 ⟨k1, rfl, ha0, ha1, ho1, hr1⟩; have hz1 := ho1.size; (repeat (first | rw [World.size_alloc] at hz1 | rw [World.size_setCell] at hz1 | rw [World.size_drew] at hz1)); have pp := T2.F ho1 (by omega) (b := w.heap.size) (x := _) (y := _) (t2A); obtain ⟨kk1, kk2, fkk1, fkk2⟩ := pp; have Hho1 := Lib.hid ho1; clear ho1; have Hhr1 := Lib.hid hr1; clear hr1)
  have q1 : IntKind.i64.wrap (k1 - 3) = k1 - 3 := IntWalk.i64_in _ (by omega)
  obtain ⟨a, ha⟩ : ∃ a, k1 - 3 = a := ⟨_, rfl⟩
  rw [ha] at q1
  have a1 : -3 ≤ a := by omega
  have a2 : a ≤ 4 := by omega
  clear ha0 ha1
  go_wp2_with fail
  (refine (pick R (p + 1) 8 _ Hhr1.out (by omega) (by omega)).mono ?_; rintro e w2 ⟨k2, rfl, hb0, hb1, ho2, hr2⟩; have hz2 := ho2.size; (repeat (first | rw [World.size_alloc] at hz2 | rw [World.size_setCell] at hz2 | rw [World.size_drew] at hz2)); have pp := T2.F ho2 (by omega) (b := w.heap.size) (x := _) (y := _) (t2A); obtain ⟨kk3, kk4, fkk3, fkk4⟩ := pp; (try clear kk1 kk2 fkk1 fkk2); have Hho2 := Lib.hid ho2; clear ho2; have Hhr2 := Lib.hid hr2; clear hr2)
  have q2 : IntKind.i64.wrap (k2 - 3) = k2 - 3 := IntWalk.i64_in _ (by omega)
  obtain ⟨b, hb⟩ : ∃ b, k2 - 3 = b := ⟨_, rfl⟩
  rw [hb] at q2
  have b1 : -3 ≤ b := by omega
  have b2 : b ≤ 4 := by omega
  clear hb0 hb1
  have hR2 := Rd_lt Hhr2.out
  cases hz : (a == 0 && b == 0)
  · go_wp2_with fail
    (refine (odd R (p + 1 + 1) n _ (Rd_alloc Hhr2.out) (by omega) (by omega)).mono ?_; rintro e w6 ⟨t, rfl, ho6, q, hq1, hq2, hr6⟩; have hz6 := ho6.size; (repeat (first | rw [World.size_alloc] at hz6 | rw [World.size_setCell] at hz6 | rw [World.size_drew] at hz6)); have pp := T2.F ho6 (by omega) (b := w.heap.size) (x := _) (y := _) (t2A); obtain ⟨kk5, kk6, fkk5, fkk6⟩ := pp; have pp := C2.F ho6 (by omega) (b := w2.heap.size) (x := _) (y := _) (c2A); obtain ⟨kk7, kk8⟩ := pp; (try clear kk3 kk4 fkk3 fkk4); have Hho6 := Lib.hid ho6; clear ho6; have Hhr6 := Lib.hid hr6; clear hr6)
    have hR6 := Rd_lt Hhr6.out
    cases t
    · go_wp2_with fail
      have ho1 := Hho1.out
      have ho2 := Hho2.out
      have ho6 := Hho6.out
      refine bodyPost_ret (v := .agg #[.int .i64 (a), .int .i64 (b)]) (by simp [results, Try.results57, go_sem, *]) rfl ?_; exact ⟨_, _, rfl, .inl (by omega), ofA, q, by omega, by omega, Rd_set2 (by omega) (Rd_set2 (by omega) Hhr6.out)⟩
    · go_wp2_with fail
      (refine (pick R q 3 _ (Rd_alloc Hhr6.out) (by omega) (by omega)).mono ?_; rintro e w7 ⟨k, rfl, hk0, hk1, ho7, hr7⟩; have hz7 := ho7.size; (repeat (first | rw [World.size_alloc] at hz7 | rw [World.size_setCell] at hz7 | rw [World.size_drew] at hz7)); have pp := T2.F ho7 (by omega) (b := w.heap.size) (x := _) (y := _) (t2A); obtain ⟨kk9, kk10, fkk9, fkk10⟩ := pp; have kk11 := Off.cell ho7 (b := w6.heap.size) (o := 0) (v := _) (by omega) (kcA); have kk12 := Off.cell ho7 (b := w6.heap.size) (o := 1) (v := _) (by omega) (kcA); have kk13 := Off.cell ho7 (b := w6.heap.size) (o := 2) (v := _) (by omega) (kcA); have kk14 := Off.cell ho7 (b := w6.heap.size) (o := 3) (v := _) (by omega) (kcA); have kk15 := Off.cell ho7 (b := w6.heap.size) (o := 4) (v := _) (by omega) (kcA); have kk16 := Off.cell ho7 (b := w6.heap.size) (o := 5) (v := _) (by omega) (kcA); (try clear kk5 kk6 fkk5 fkk6 kk7 kk8); have Hho7 := Lib.hid ho7; clear ho7; have Hhr7 := Lib.hid hr7; clear hr7)
      have hk2 : k < 3 := by omega
      clear hk1
      have ho1 := Hho1.out
      have ho2 := Hho2.out
      have ho6 := Hho6.out
      have ho7 := Hho7.out
      obtain rfl | rfl | rfl : k = 0 ∨ k = 1 ∨ k = 2 := by omega
      · go_wp2_with fail
        refine bodyPost_ret (v := .agg #[.int .i64 0, .int .i64 0]) (by simp [results, Try.results57, go_sem, *]) rfl ?_; exact ⟨_, _, rfl, .inl (by omega), ofA, q + 1, by omega, by omega, Rd_set2 (by omega) (Rd_set2 (by omega) Hhr7.out)⟩
      · go_wp2_with fail
        refine bodyPost_ret (v := .agg #[.int .i64 11, .int .i64 0]) (by simp [results, Try.results57, go_sem, *]) rfl ?_; exact ⟨_, _, rfl, .inr (.inl (by simp)), ofA, q + 1, by omega, by omega, Rd_set2 (by omega) (Rd_set2 (by omega) Hhr7.out)⟩
      · go_wp2_with fail
        refine bodyPost_ret (v := .agg #[.int .i64 1001, .int .i64 0]) (by simp [results, Try.results57, go_sem, *]) rfl ?_; exact ⟨_, _, rfl, .inr (.inr (by simp)), ofA, q + 1, by omega, by omega, Rd_set2 (by omega) (Rd_set2 (by omega) Hhr7.out)⟩
  · go_wp2_with fail
    (refine (pick R (p + 1 + 1) 5 _ (Rd_alloc Hhr2.out) (by omega) (by omega)).mono ?_; rintro e w3 ⟨k3, rfl, hc0, hc1, ho3, hr3⟩; have hz3 := ho3.size; (repeat (first | rw [World.size_alloc] at hz3 | rw [World.size_setCell] at hz3 | rw [World.size_drew] at hz3)); have pp := T2.F ho3 (by omega) (b := w.heap.size) (x := _) (y := _) (t2A); obtain ⟨kk17, kk18, fkk17, fkk18⟩ := pp; have pp := T2.F ho3 (by omega) (b := w2.heap.size) (x := _) (y := _) (t2A); obtain ⟨kk19, kk20, fkk19, fkk20⟩ := pp; (try clear kk9 kk10 fkk9 fkk10 kk11 kk12 kk13 kk14 kk15 kk16); have Hho3 := Lib.hid ho3; clear ho3; have Hhr3 := Lib.hid hr3; clear hr3)
    have q3 : IntKind.i64.wrap (1 + k3) = 1 + k3 := IntWalk.i64_in _ (by omega)
    obtain ⟨c, hc⟩ : ∃ c, 1 + k3 = c := ⟨_, rfl⟩
    rw [hc] at q3
    have c1 : 1 ≤ c := by omega
    have c2 : c ≤ 5 := by omega
    have b3 : b = 0 := by simp only [Bool.and_eq_true, beq_iff_eq] at hz; exact hz.2
    subst b3
    clear hc0 hc1 hz
    have hR3 := Rd_lt Hhr3.out
    go_wp2_with fail
    (refine (odd R (p + 1 + 1 + 1) n _ (Rd_set2 (by omega) Hhr3.out) (by omega) (by omega)).mono ?_; rintro e w6 ⟨t, rfl, ho6, q, hq1, hq2, hr6⟩; have hz6 := ho6.size; (repeat (first | rw [World.size_alloc] at hz6 | rw [World.size_setCell] at hz6 | rw [World.size_drew] at hz6)); have pp := T2.F ho6 (by omega) (b := w.heap.size) (x := _) (y := _) (t2A); obtain ⟨kk21, kk22, fkk21, fkk22⟩ := pp; have pp := C2.F ho6 (by omega) (b := w2.heap.size) (x := _) (y := _) (c2A); obtain ⟨kk23, kk24⟩ := pp; (try clear kk17 kk18 fkk17 fkk18 kk19 kk20 fkk19 fkk20); have Hho6 := Lib.hid ho6; clear ho6; have Hhr6 := Lib.hid hr6; clear hr6)
    have hR6 := Rd_lt Hhr6.out
    cases t
    · go_wp2_with fail
      have ho1 := Hho1.out
      have ho2 := Hho2.out
      have ho3 := Hho3.out
      have ho6 := Hho6.out
      refine bodyPost_ret (v := .agg #[.int .i64 (c), .int .i64 (0)]) (by simp [results, Try.results57, go_sem, *]) rfl ?_; exact ⟨_, _, rfl, .inl (by omega), ofA, q, by omega, by omega, Rd_set2 (by omega) (Rd_set2 (by omega) Hhr6.out)⟩
    · go_wp2_with fail
      (refine (pick R q 3 _ (Rd_alloc Hhr6.out) (by omega) (by omega)).mono ?_; rintro e w7 ⟨k, rfl, hk0, hk1, ho7, hr7⟩; have hz7 := ho7.size; (repeat (first | rw [World.size_alloc] at hz7 | rw [World.size_setCell] at hz7 | rw [World.size_drew] at hz7)); have pp := T2.F ho7 (by omega) (b := w.heap.size) (x := _) (y := _) (t2A); obtain ⟨kk25, kk26, fkk25, fkk26⟩ := pp; have kk27 := Off.cell ho7 (b := w6.heap.size) (o := 0) (v := _) (by omega) (kcA); have kk28 := Off.cell ho7 (b := w6.heap.size) (o := 1) (v := _) (by omega) (kcA); have kk29 := Off.cell ho7 (b := w6.heap.size) (o := 2) (v := _) (by omega) (kcA); have kk30 := Off.cell ho7 (b := w6.heap.size) (o := 3) (v := _) (by omega) (kcA); have kk31 := Off.cell ho7 (b := w6.heap.size) (o := 4) (v := _) (by omega) (kcA); have kk32 := Off.cell ho7 (b := w6.heap.size) (o := 5) (v := _) (by omega) (kcA); (try clear kk21 kk22 fkk21 fkk22 kk23 kk24); have Hho7 := Lib.hid ho7; clear ho7; have Hhr7 := Lib.hid hr7; clear hr7)
      have hk2 : k < 3 := by omega
      clear hk1
      have ho1 := Hho1.out
      have ho2 := Hho2.out
      have ho3 := Hho3.out
      have ho6 := Hho6.out
      have ho7 := Hho7.out
      obtain rfl | rfl | rfl : k = 0 ∨ k = 1 ∨ k = 2 := by omega
      · go_wp2_with fail
        refine bodyPost_ret (v := .agg #[.int .i64 0, .int .i64 0]) (by simp [results, Try.results57, go_sem, *]) rfl ?_; exact ⟨_, _, rfl, .inl (by omega), ofA, q + 1, by omega, by omega, Rd_set2 (by omega) (Rd_set2 (by omega) Hhr7.out)⟩
      · go_wp2_with fail
        refine bodyPost_ret (v := .agg #[.int .i64 11, .int .i64 0]) (by simp [results, Try.results57, go_sem, *]) rfl ?_; exact ⟨_, _, rfl, .inr (.inl (by simp)), ofA, q + 1, by omega, by omega, Rd_set2 (by omega) (Rd_set2 (by omega) Hhr7.out)⟩
      · go_wp2_with fail
        refine bodyPost_ret (v := .agg #[.int .i64 1001, .int .i64 0]) (by simp [results, Try.results57, go_sem, *]) rfl ?_; exact ⟨_, _, rfl, .inr (.inr (by simp)), ofA, q + 1, by omega, by omega, Rd_set2 (by omega) (Rd_set2 (by omega) Hhr7.out)⟩
end Go.Proofs.Ytggebkgfldmipaa
