import Derived.Test.YtpjememmogaeiaaD
namespace Go.Proofs.Ytpjememmogaeiaa
open Go Go.RowKit
attribute [local go_sem] World.cell?_alloc_some cell?_alloc2_some cell?_alloc3_some cell?_alloc4_some frozen?_alloc_some frozen?_alloc2_some frozen?_alloc3_some World.cell?_setCell_far new_ne0 new_ne1 new_ne2 new_ne3 lt2 lt3 lt4 lt5 lt6 lt7 lt8 lt9

def Gd (a b : Int) : Prop := (-29 ≤ a ∧ a ≤ 29 ∧ -29 ≤ b ∧ b ≤ 29) ∨ (a = 1001 ∧ b = 0) ∨ (a = 0 ∧ b = -1001) ∨ (a = 1000 ∧ b = 1000)
/-- A number was drawn. -/
def Gdrawn (R p : Nat) (w : World) (e : Ending) (w' : World) : Prop := ∃ a b : Int, e = .returned (.agg #[.int .i64 a, .int .i64 b]) ∧ Gd a b ∧ Off R w w' ∧ ∃ p', p ≤ p' ∧ p' ≤ p + 7 ∧ Rd w' R p'

theorem Rd_lt {w : World} {R p : Nat} (h : Rd w R p) : R < w.heap.size := by
  obtain ⟨a, l, c, h0, _⟩ := h; exact World.block_lt_of_cell? w ⟨R, 0, none⟩ h0
theorem Rd_alloc {w : World} {R p : Nat} {o : Obj} (h : Rd w R p) : Rd (w.alloc o) R p := by
  obtain ⟨a, l, c, h0, h1, hf, hB⟩ := h
  refine ⟨a, l, c, keepA h0, keepA h1, keepFA h1 hf, ?_⟩
  rcases hB with h | ⟨b, off, rfl, hne, hl, hc⟩
  · exact .inl h
  · exact .inr ⟨b, off, rfl, hne, hl, fun i hi => by obtain ⟨z, hz, hcz⟩ := hc i hi; exact ⟨z, hz, keepA hcz⟩⟩

/-- A store into another block than the reader's, and not into the code's: here a block made by the call. -/
theorem Rd_set2 {w : World} {R p b o : Nat} {v : Value} (hb : R < b) (h : Rd w R p) : Rd (w.setCell ⟨b, o, none⟩ v) R p := by
  obtain ⟨a, l, c, h0, h1, hf, hB⟩ := h
  refine ⟨a, l, c, keepS (by omega) h0, keepS (by omega) h1, keepFS hf, ?_⟩
  rcases hB with h | ⟨b, off, rfl, hne, hl, hc⟩
  · exact .inl h
  · exact .inr ⟨b, off, rfl, hne, hl, fun i hi => by obtain ⟨z, hz, hcz⟩ := hc i hi; exact ⟨z, hz, keepS (by omega) hcz⟩⟩
theorem Off.setCell {R : Nat} {a w : World} {p : Addr} {v : Value} (hp : a.heap.size ≤ p.block) (h : Off R a w) : Off R a (w.setCell p v) :=
  ⟨h.os, h.tape, h.output, by simp [World.setCell]; exact h.size, fun k hk hl => by rw [Below.heap_setCell _ _ _ _ (by omega)]; exact h.block k hk hl⟩
theorem Off.drew {R : Nat} {a w : World} (h : Off R a w) : Off R a w.drew := ⟨h.os, h.tape, h.output, h.size, h.block⟩

set_option maxHeartbeats 2000000 in
theorem l20Gauss (R p : Nat) (n : Int) (w : World) (h : Rd w R p) (hp : p ≤ 900000000) (hn : n ≤ 1000000000) :
    Calls Try.prog 65 #[.pointer (some ⟨R, 0, none⟩), .int .i64 n] w (Gdrawn R p w) := by
  have hR := Rd_lt h
  have H := Lib.hid h
  clear h
  go_enter Try.func65, Try.ntmps65
  go_wp2_with fail
  (refine (pick R p 3 _ (Rd_alloc (Rd_alloc H.out)) (by omega) (by omega)).mono ?_; rintro e w1 ⟨k, rfl, hk0, hk1, ho1, hr1⟩; have hz1 := ho1.size; (repeat (first | rw [World.size_alloc] at hz1 | rw [World.size_setCell] at hz1 | rw [World.size_drew] at hz1)); have pp := T2.F ho1 (by omega) (b := w.heap.size) (x := _) (y := _) (by (repeat (first | ((with_reducible apply T2.mk) <;> (with_reducible assumption)) | (with_reducible apply T2.Z) | (with_reducible apply T2.O) | ((with_reducible apply T2.B); (focus (simp; done))) | (with_reducible apply T2.A) | (with_reducible apply T2.D) | ((with_reducible apply T2.S); focus ((repeat (first | rw [World.size_alloc] | rw [World.size_setCell] | rw [World.size_drew])); omega)) | ((with_reducible apply T2.K); (focus (with_reducible assumption)))))); obtain ⟨kk1, kk2, fkk1, fkk2⟩ := pp; have kk3 := Off.cell ho1 (b := w.heap.size + 1) (o := 0) (v := _) (by omega) (by (repeat (first | (with_reducible assumption) | (with_reducible apply sameS) | ((with_reducible apply born); (focus (simp; done)); (focus rfl)) | (with_reducible apply keepA) | (with_reducible apply keepD) | ((with_reducible apply keepS); focus ((repeat (first | rw [World.size_alloc] | rw [World.size_setCell] | rw [World.size_drew])); omega)) | ((with_reducible apply keep); (focus (with_reducible assumption)))))); have kk4 := Off.cell ho1 (b := w.heap.size + 1) (o := 1) (v := _) (by omega) (by (repeat (first | (with_reducible assumption) | (with_reducible apply sameS) | ((with_reducible apply born); (focus (simp; done)); (focus rfl)) | (with_reducible apply keepA) | (with_reducible apply keepD) | ((with_reducible apply keepS); focus ((repeat (first | rw [World.size_alloc] | rw [World.size_setCell] | rw [World.size_drew])); omega)) | ((with_reducible apply keep); (focus (with_reducible assumption)))))); have kk5 := Off.cell ho1 (b := w.heap.size + 1) (o := 2) (v := _) (by omega) (by (repeat (first | (with_reducible assumption) | (with_reducible apply sameS) | ((with_reducible apply born); (focus (simp; done)); (focus rfl)) | (with_reducible apply keepA) | (with_reducible apply keepD) | ((with_reducible apply keepS); focus ((repeat (first | rw [World.size_alloc] | rw [World.size_setCell] | rw [World.size_drew])); omega)) | ((with_reducible apply keep); (focus (with_reducible assumption)))))); have Hho1 := Lib.hid ho1; clear ho1; have Hhr1 := Lib.hid hr1; clear hr1)
  obtain ⟨j, rfl⟩ := Int.eq_ofNat_of_zero_le hk0
  have hj : j < 3 := by omega
  have hcell : ∃ h : Int, 4 ≤ h ∧ h ≤ 30 ∧ w1.cell? ⟨w.heap.size + 1, j, none⟩ = some (.int .i64 h) := by
    obtain rfl | rfl | rfl : j = 0 ∨ j = 1 ∨ j = 2 := by omega
    · exact ⟨4, by omega, by omega, by assumption⟩
    · exact ⟨8, by omega, by omega, by assumption⟩
    · exact ⟨30, by omega, by omega, by assumption⟩
  obtain ⟨g, hg1, hg2, hg⟩ := hcell
  clear hk0 hk1
  go_wp2_with fail
  (refine (pick R (p + 1) g _ Hhr1.out (by omega) (by omega)).mono ?_; rintro e w2 ⟨k1, rfl, ha0, ha1, ho2, hr2⟩; have hz2 := ho2.size; (repeat (first | rw [World.size_alloc] at hz2 | rw [World.size_setCell] at hz2 | rw [World.size_drew] at hz2)); have pp := T2.F ho2 (by omega) (b := w.heap.size) (x := _) (y := _) (by (repeat (first | ((with_reducible apply T2.mk) <;> (with_reducible assumption)) | (with_reducible apply T2.Z) | (with_reducible apply T2.O) | ((with_reducible apply T2.B); (focus (simp; done))) | (with_reducible apply T2.A) | (with_reducible apply T2.D) | ((with_reducible apply T2.S); focus ((repeat (first | rw [World.size_alloc] | rw [World.size_setCell] | rw [World.size_drew])); omega)) | ((with_reducible apply T2.K); (focus (with_reducible assumption)))))); obtain ⟨kk6, kk7, fkk6, fkk7⟩ := pp; (try clear kk1 kk2 fkk1 fkk2 kk3 kk4 kk5); have Hho2 := Lib.hid ho2; clear ho2; have Hhr2 := Lib.hid hr2; clear hr2)
  go_wp2_with fail
  (refine (pick R (p + 1 + 1) g _ Hhr2.out (by omega) (by omega)).mono ?_; rintro e w3 ⟨k2, rfl, hb0, hb1, ho3, hr3⟩; have hz3 := ho3.size; (repeat (first | rw [World.size_alloc] at hz3 | rw [World.size_setCell] at hz3 | rw [World.size_drew] at hz3)); have pp := T2.F ho3 (by omega) (b := w.heap.size) (x := _) (y := _) (by (repeat (first | ((with_reducible apply T2.mk) <;> (with_reducible assumption)) | (with_reducible apply T2.Z) | (with_reducible apply T2.O) | ((with_reducible apply T2.B); (focus (simp; done))) | (with_reducible apply T2.A) | (with_reducible apply T2.D) | ((with_reducible apply T2.S); focus ((repeat (first | rw [World.size_alloc] | rw [World.size_setCell] | rw [World.size_drew])); omega)) | ((with_reducible apply T2.K); (focus (with_reducible assumption)))))); obtain ⟨kk8, kk9, fkk8, fkk9⟩ := pp; (try clear kk6 kk7 fkk6 fkk7); have Hho3 := Lib.hid ho3; clear ho3; have Hhr3 := Lib.hid hr3; clear hr3)
  go_wp2_with fail
  (refine (pick R (p + 1 + 1 + 1) g _ Hhr3.out (by omega) (by omega)).mono ?_; rintro e w4 ⟨k3, rfl, hc0, hc1, ho4, hr4⟩; have hz4 := ho4.size; (repeat (first | rw [World.size_alloc] at hz4 | rw [World.size_setCell] at hz4 | rw [World.size_drew] at hz4)); have pp := T2.F ho4 (by omega) (b := w.heap.size) (x := _) (y := _) (by (repeat (first | ((with_reducible apply T2.mk) <;> (with_reducible assumption)) | (with_reducible apply T2.Z) | (with_reducible apply T2.O) | ((with_reducible apply T2.B); (focus (simp; done))) | (with_reducible apply T2.A) | (with_reducible apply T2.D) | ((with_reducible apply T2.S); focus ((repeat (first | rw [World.size_alloc] | rw [World.size_setCell] | rw [World.size_drew])); omega)) | ((with_reducible apply T2.K); (focus (with_reducible assumption)))))); obtain ⟨kk10, kk11, fkk10, fkk11⟩ := pp; (try clear kk8 kk9 fkk8 fkk9); have Hho4 := Lib.hid ho4; clear ho4; have Hhr4 := Lib.hid hr4; clear hr4)
  go_wp2_with fail
  (refine (pick R (p + 1 + 1 + 1 + 1) g _ Hhr4.out (by omega) (by omega)).mono ?_; rintro e w5 ⟨k4, rfl, hd0, hd1, ho5, hr5⟩; have hz5 := ho5.size; (repeat (first | rw [World.size_alloc] at hz5 | rw [World.size_setCell] at hz5 | rw [World.size_drew] at hz5)); have pp := T2.F ho5 (by omega) (b := w.heap.size) (x := _) (y := _) (by (repeat (first | ((with_reducible apply T2.mk) <;> (with_reducible assumption)) | (with_reducible apply T2.Z) | (with_reducible apply T2.O) | ((with_reducible apply T2.B); (focus (simp; done))) | (with_reducible apply T2.A) | (with_reducible apply T2.D) | ((with_reducible apply T2.S); focus ((repeat (first | rw [World.size_alloc] | rw [World.size_setCell] | rw [World.size_drew])); omega)) | ((with_reducible apply T2.K); (focus (with_reducible assumption)))))); obtain ⟨kk12, kk13, fkk12, fkk13⟩ := pp; (try clear kk10 kk11 fkk10 fkk11); have Hho5 := Lib.hid ho5; clear ho5; have Hhr5 := Lib.hid hr5; clear hr5)
  have a1 : k1 ≤ 29 := by omega
  have a2 : k2 ≤ 29 := by omega
  have a3 : k3 ≤ 29 := by omega
  have a4 : k4 ≤ 29 := by omega
  clear ha1 hb1 hc1 hd1
  go_wp2_with fail
  (refine (odd R (p + 1 + 1 + 1 + 1 + 1) n _ (Rd_alloc Hhr5.out) (by omega) (by omega)).mono ?_; rintro e w6 ⟨t, rfl, ho6, q, hq1, hq2, hr6⟩; have hz6 := ho6.size; (repeat (first | rw [World.size_alloc] at hz6 | rw [World.size_setCell] at hz6 | rw [World.size_drew] at hz6)); have pp := T2.F ho6 (by omega) (b := w.heap.size) (x := _) (y := _) (by (repeat (first | ((with_reducible apply T2.mk) <;> (with_reducible assumption)) | (with_reducible apply T2.Z) | (with_reducible apply T2.O) | ((with_reducible apply T2.B); (focus (simp; done))) | (with_reducible apply T2.A) | (with_reducible apply T2.D) | ((with_reducible apply T2.S); focus ((repeat (first | rw [World.size_alloc] | rw [World.size_setCell] | rw [World.size_drew])); omega)) | ((with_reducible apply T2.K); (focus (with_reducible assumption)))))); obtain ⟨kk14, kk15, fkk14, fkk15⟩ := pp; have pp := C2.F ho6 (by omega) (b := w5.heap.size) (x := _) (y := _) (by (repeat (first | ((with_reducible apply C2.mk) <;> (with_reducible assumption)) | (with_reducible apply C2.Z) | (with_reducible apply C2.O) | ((with_reducible apply C2.B); (focus (simp; done))) | (with_reducible apply C2.A) | (with_reducible apply C2.D) | ((with_reducible apply C2.S); focus ((repeat (first | rw [World.size_alloc] | rw [World.size_setCell] | rw [World.size_drew])); omega)) | ((with_reducible apply C2.K); (focus (with_reducible assumption)))))); obtain ⟨kk16, kk17⟩ := pp; (try clear kk12 kk13 fkk12 fkk13); have Hho6 := Lib.hid ho6; clear ho6; have Hhr6 := Lib.hid hr6; clear hr6)
  cases t
  · go_wp2_with fail
    have ho1 := Hho1.out
    have ho2 := Hho2.out
    have ho3 := Hho3.out
    have ho4 := Hho4.out
    have ho5 := Hho5.out
    have ho6 := Hho6.out
    refine bodyPost_ret (v := .agg #[.int .i64 (k1 - k2), .int .i64 (k3 - k4)]) (by simp [results, Try.results65, go_sem, *]) rfl ?_; exact ⟨_, _, rfl, .inl (by omega), by (repeat' (first | (with_reducible exact Off.refl _ _) | (with_reducible apply Off.alloc) | (with_reducible apply Off.drew) | ((with_reducible apply Off.setCell); focus (first | omega | (simp; done) | (simp; omega))) | (with_reducible refine Off.trans ?_ (by assumption)))), q, by omega, by omega, Rd_set2 (by omega) (Rd_set2 (by omega) Hhr6.out)⟩
  · go_wp2_with fail
    (refine (pick R q 3 _ (Rd_alloc Hhr6.out) (by omega) (by omega)).mono ?_; rintro e w7 ⟨k, rfl, hk0, hk1, ho7, hr7⟩; have hz7 := ho7.size; (repeat (first | rw [World.size_alloc] at hz7 | rw [World.size_setCell] at hz7 | rw [World.size_drew] at hz7)); have pp := T2.F ho7 (by omega) (b := w.heap.size) (x := _) (y := _) (by (repeat (first | ((with_reducible apply T2.mk) <;> (with_reducible assumption)) | (with_reducible apply T2.Z) | (with_reducible apply T2.O) | ((with_reducible apply T2.B); (focus (simp; done))) | (with_reducible apply T2.A) | (with_reducible apply T2.D) | ((with_reducible apply T2.S); focus ((repeat (first | rw [World.size_alloc] | rw [World.size_setCell] | rw [World.size_drew])); omega)) | ((with_reducible apply T2.K); (focus (with_reducible assumption)))))); obtain ⟨kk18, kk19, fkk18, fkk19⟩ := pp; have kk20 := Off.cell ho7 (b := w6.heap.size) (o := 0) (v := _) (by omega) (by (repeat (first | (with_reducible assumption) | (with_reducible apply sameS) | ((with_reducible apply born); (focus (simp; done)); (focus rfl)) | (with_reducible apply keepA) | (with_reducible apply keepD) | ((with_reducible apply keepS); focus ((repeat (first | rw [World.size_alloc] | rw [World.size_setCell] | rw [World.size_drew])); omega)) | ((with_reducible apply keep); (focus (with_reducible assumption)))))); have kk21 := Off.cell ho7 (b := w6.heap.size) (o := 1) (v := _) (by omega) (by (repeat (first | (with_reducible assumption) | (with_reducible apply sameS) | ((with_reducible apply born); (focus (simp; done)); (focus rfl)) | (with_reducible apply keepA) | (with_reducible apply keepD) | ((with_reducible apply keepS); focus ((repeat (first | rw [World.size_alloc] | rw [World.size_setCell] | rw [World.size_drew])); omega)) | ((with_reducible apply keep); (focus (with_reducible assumption)))))); have kk22 := Off.cell ho7 (b := w6.heap.size) (o := 2) (v := _) (by omega) (by (repeat (first | (with_reducible assumption) | (with_reducible apply sameS) | ((with_reducible apply born); (focus (simp; done)); (focus rfl)) | (with_reducible apply keepA) | (with_reducible apply keepD) | ((with_reducible apply keepS); focus ((repeat (first | rw [World.size_alloc] | rw [World.size_setCell] | rw [World.size_drew])); omega)) | ((with_reducible apply keep); (focus (with_reducible assumption)))))); have kk23 := Off.cell ho7 (b := w6.heap.size) (o := 3) (v := _) (by omega) (by (repeat (first | (with_reducible assumption) | (with_reducible apply sameS) | ((with_reducible apply born); (focus (simp; done)); (focus rfl)) | (with_reducible apply keepA) | (with_reducible apply keepD) | ((with_reducible apply keepS); focus ((repeat (first | rw [World.size_alloc] | rw [World.size_setCell] | rw [World.size_drew])); omega)) | ((with_reducible apply keep); (focus (with_reducible assumption)))))); have kk24 := Off.cell ho7 (b := w6.heap.size) (o := 4) (v := _) (by omega) (by (repeat (first | (with_reducible assumption) | (with_reducible apply sameS) | ((with_reducible apply born); (focus (simp; done)); (focus rfl)) | (with_reducible apply keepA) | (with_reducible apply keepD) | ((with_reducible apply keepS); focus ((repeat (first | rw [World.size_alloc] | rw [World.size_setCell] | rw [World.size_drew])); omega)) | ((with_reducible apply keep); (focus (with_reducible assumption)))))); have kk25 := Off.cell ho7 (b := w6.heap.size) (o := 5) (v := _) (by omega) (by (repeat (first | (with_reducible assumption) | (with_reducible apply sameS) | ((with_reducible apply born); (focus (simp; done)); (focus rfl)) | (with_reducible apply keepA) | (with_reducible apply keepD) | ((with_reducible apply keepS); focus ((repeat (first | rw [World.size_alloc] | rw [World.size_setCell] | rw [World.size_drew])); omega)) | ((with_reducible apply keep); (focus (with_reducible assumption)))))); (try clear kk14 kk15 fkk14 fkk15 kk16 kk17); have Hho7 := Lib.hid ho7; clear ho7; have Hhr7 := Lib.hid hr7; clear hr7)
    have hk2 : k < 3 := by omega
    clear hk1
    have ho1 := Hho1.out
    have ho2 := Hho2.out
    have ho3 := Hho3.out
    have ho4 := Hho4.out
    have ho5 := Hho5.out
    have ho6 := Hho6.out
    have ho7 := Hho7.out
    obtain rfl | rfl | rfl : k = 0 ∨ k = 1 ∨ k = 2 := by omega
    · go_wp2_with fail
      refine bodyPost_ret (v := .agg #[.int .i64 1001, .int .i64 0]) (by simp [results, Try.results65, go_sem, *]) rfl ?_; exact ⟨_, _, rfl, .inr (.inl (by simp)), by (repeat' (first | (with_reducible exact Off.refl _ _) | (with_reducible apply Off.alloc) | (with_reducible apply Off.drew) | ((with_reducible apply Off.setCell); focus (first | omega | (simp; done) | (simp; omega))) | (with_reducible refine Off.trans ?_ (by assumption)))), q + 1, by omega, by omega, Rd_set2 (by omega) (Rd_set2 (by omega) Hhr7.out)⟩
    · go_wp2_with fail
      refine bodyPost_ret (v := .agg #[.int .i64 0, .int .i64 (-1001)]) (by simp [results, Try.results65, go_sem, *]) rfl ?_; exact ⟨_, _, rfl, .inr (.inr (.inl (by simp))), by (repeat' (first | (with_reducible exact Off.refl _ _) | (with_reducible apply Off.alloc) | (with_reducible apply Off.drew) | ((with_reducible apply Off.setCell); focus (first | omega | (simp; done) | (simp; omega))) | (with_reducible refine Off.trans ?_ (by assumption)))), q + 1, by omega, by omega, Rd_set2 (by omega) (Rd_set2 (by omega) Hhr7.out)⟩
    · go_wp2_with fail
      refine bodyPost_ret (v := .agg #[.int .i64 1000, .int .i64 1000]) (by simp [results, Try.results65, go_sem, *]) rfl ?_; exact ⟨_, _, rfl, .inr (.inr (.inr (by simp))), by (repeat' (first | (with_reducible exact Off.refl _ _) | (with_reducible apply Off.alloc) | (with_reducible apply Off.drew) | ((with_reducible apply Off.setCell); focus (first | omega | (simp; done) | (simp; omega))) | (with_reducible refine Off.trans ?_ (by assumption)))), q + 1, by omega, by omega, Rd_set2 (by omega) (Rd_set2 (by omega) Hhr7.out)⟩
end Go.Proofs.Ytpjememmogaeiaa
