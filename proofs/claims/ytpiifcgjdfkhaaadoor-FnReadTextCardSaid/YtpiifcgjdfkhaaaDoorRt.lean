import Derived.Test.YtpiifcgjdfkhaaaDoorRs
import Derived.Deep.RegionHeld3
import Derived.Deep.RegionWith
import Derived.BigRegion
import Derived.IntWalk
namespace Go.Proofs.YtpiifcgjdfkhaaaDoor
open Go Go.RowKit
attribute [local go_sem] World.cell?_alloc_some cell?_alloc2_some cell?_alloc3_some cell?_alloc4_some frozen?_alloc_some frozen?_alloc2_some frozen?_alloc3_some World.cell?_setCell_far new_ne0 new_ne1 new_ne2 new_ne3 lt2 lt3 lt4 lt5 lt6 lt7 lt8 lt9

theorem Rd_drew {w : World} {R p : Nat} (h : Rd w R p) : Rd w.drew R p := h
def lit6 (k : Nat) : ByteArray := [⟨#[]⟩, ⟨#[105]⟩, ⟨#[43]⟩, ⟨#[45]⟩, ⟨#[48]⟩, ⟨#[49]⟩].getD k ⟨#[]⟩
theorem no1 {a b : Nat} (h : a ≤ 20) (h' : b ≤ 1) : ¬ (9223372036854775807 < a + b) := by omega
theorem no2 {a b c : Nat} (h : a ≤ 20) (h' : b ≤ 1) (h2 : c ≤ 20) : ¬ (9223372036854775807 < a + b + c) := by omega
theorem bd0 (j : Nat) : (0 : Int) ≤ (j : Int) := by omega
theorem bd1 {j : Nat} (h : j < 6) : (j : Int) < 6 := by omega
theorem bd2 (j : Nat) : (j : Int).toNat = j := by omega
theorem sz3 {a b c : ByteArray} (h : a.size ≤ 20) (h' : b.size ≤ 1) (h2 : c.size ≤ 20) : (a ++ b ++ c).size ≤ 100 := by
  rw [ByteArray.size_append, ByteArray.size_append]; omega
theorem lt6_of {k : Int} (h0 : 0 ≤ k) (h1 : k < 6 ∨ k = 0) : ∃ j : Nat, k = (j : Int) ∧ j < 6 := ⟨k.toNat, by omega, by omega⟩
theorem sl_lo (s : ByteArray) (j : Nat) (h : j ≤ s.size) (W : World) : (Instr.slice 9 (.string s) none (some (.int .i64 (j : Int))) none).run Tryd.prog W = .ok (.string (s.extract 0 j)) W := by
  simp [Instr.slice, Instr.sliceBounds, Instr.sliceBound, asIntOf, run_underlying Tryd.underlying9, h, go_sem]
theorem sl_hi (s : ByteArray) (j : Nat) (h : j + 1 ≤ s.size) (W : World) : (Instr.slice 9 (.string s) (some (.int .i64 ((j : Int) + 1))) none none).run Tryd.prog W = .ok (.string (s.extract (j + 1) s.size)) W := by
  have h1 : (j : Int) + 1 ≤ (s.size : Int) := by omega
  have h2 : (0 : Int) ≤ (j : Int) + 1 := by omega
  have h3 : ((j : Int) + 1).toNat = j + 1 := by omega
  simp [Instr.slice, Instr.sliceBounds, Instr.sliceBound, asIntOf, run_underlying Tryd.underlying9, h1, h2, h3, go_sem]
theorem ext_le (s : ByteArray) (a b : Nat) : (s.extract a b).size ≤ s.size := by
  rw [ByteArray.size_extract]; omega
theorem arr6 (j : Nat) (h : j < 6) : (#[.string ⟨#[]⟩, .string ⟨#[105]⟩, .string ⟨#[43]⟩, .string ⟨#[45]⟩, .string ⟨#[48]⟩, .string ⟨#[49]⟩] : Array Value)[j]? = some (.string (lit6 j)) := by
  obtain rfl | rfl | rfl | rfl | rfl | rfl : j = 0 ∨ j = 1 ∨ j = 2 ∨ j = 3 ∨ j = 4 ∨ j = 5 := by omega
  all_goals rfl
theorem new6 (j : Nat) (h : j < 6) (W : World) : (W.alloc (.cells #[.string ⟨#[]⟩, .string ⟨#[105]⟩, .string ⟨#[43]⟩, .string ⟨#[45]⟩, .string ⟨#[48]⟩, .string ⟨#[49]⟩] 9)).cell? ⟨W.heap.size, j, none⟩ = some (.string (lit6 j)) := by
  rw [World.cell?_alloc_at _ _ _ _ rfl]; simpa using arr6 j h
theorem lit6_size (j : Nat) : (lit6 j).size ≤ 1 := by
  rcases Nat.lt_or_ge j 6 with h | h
  · obtain rfl | rfl | rfl | rfl | rfl | rfl : j = 0 ∨ j = 1 ∨ j = 2 ∨ j = 3 ∨ j = 4 ∨ j = 5 := by omega
    all_goals decide
  · unfold lit6; rw [List.getD_eq_getElem?_getD, List.getElem?_eq_none (by simpa using h)]; decide
set_option maxRecDepth 100000 in
set_option maxHeartbeats 4000000 in
theorem drawReadText (a : Option Addr) (len cap : Nat) (zs : List Int) (w : World) (h : IsRow .u8 w a len cap zs) :
    Calls Tryd.prog 13 #[.slice a len cap] w (DrawnS w) := by
  go_enter Tryd.func13, Tryd.ntmps13
  go_wp2_with fail
  (refine (l20Open a len cap zs _ h).mono ?_; rintro e w1 ⟨rfl, hr1, hb1⟩; have hz1 := hb1.size; (repeat (first | rw [World.size_alloc] at hz1 | rw [World.size_setCell] at hz1 | rw [World.size_drew] at hz1)))
  have Hr1 := Lib.hid hr1
  have Hb1 := Lib.hid hb1
  clear hr1 hb1
  go_wp2_with fail
  (refine (l20Gauss w.heap.size 0 0 _ Hr1.out (by omega) (by omega)).mono ?_; rintro e w2 ⟨x, y, rfl, hg2, ho2, p2, hp1, hp2, hr2⟩; have hz2 := ho2.size; (repeat (first | rw [World.size_alloc] at hz2 | rw [World.size_setCell] at hz2 | rw [World.size_drew] at hz2)); have Hhr2 := Lib.hid hr2; clear hr2; have Hho2 := Lib.hid ho2; clear ho2)
  clear hg2
  have B2 := Lib.hid (Hho2.out.below (B := w.heap.size) (by omega) (by omega))
  obtain ⟨s, hs⟩ : ∃ s : ByteArray, (⟨(txt x y).toArray⟩ : ByteArray) = s := ⟨_, rfl⟩
  have h20 : s.size ≤ 20 := by rw [← hs, sz]; exact txt_len x y
  go_wp2_with fail
  (refine (sTextOf_v _ hs).mono ?_; rintro e w3 ⟨rfl, hb3⟩; have hz3 := hb3.size; (repeat (first | rw [World.size_alloc] at hz3 | rw [World.size_setCell] at hz3 | rw [World.size_drew] at hz3)))
  have Hhr3 := Lib.hid (Rd_below hb3 Hhr2.out)
  have B3 := Lib.hid hb3
  clear hb3 Hho2 Hhr2 hs
  go_wp2_with fail
  (refine (pick w.heap.size p2 3 _ Hhr3.out (by omega) (by omega)).mono ?_; rintro e w4 ⟨k0, rfl, ha0, ha1, ho4, hr4⟩; have hz4 := ho4.size; (repeat (first | rw [World.size_alloc] at hz4 | rw [World.size_setCell] at hz4 | rw [World.size_drew] at hz4)); have Hhr4 := Lib.hid hr4; clear hr4)
  have B4 := Lib.hid (ho4.below (B := w.heap.size) (by omega) (by omega))
  clear ho4
  have hret : ∀ w', Below w.heap.size w4 w' → Below w.heap.size w w' := fun w' hb => by
    have b1 := Hb1.out
    have b2 := B2.out
    have b3 := B3.out
    have b4 := B4.out
    clear Hhr4 Hhr3
    ((repeat' (first | (with_reducible exact Below.refl _ _) | (with_reducible refine Below.alloc ?_ ?_ _) | (with_reducible refine Below.drew ?_) | (with_reducible refine Below.setCell ?_ ?_ _) | (with_reducible refine Below.trans ?_ (Below.mono (by assumption) ?_)) | go_size)))
  have HRET := Lib.hid hret
  clear hret B2 B3 B4 Hb1
  rcases (Decidable.em (k0 = 0)).symm with hk0 | hk0
  · have hq : (k0 == 0) = false := by simpa using hk0
    go_wp2_with fail
    go_returns
    exact ⟨s, rfl, by omega, HRET.out _ (by (repeat' (first | (with_reducible exact Below.refl _ _) | (with_reducible refine Below.alloc ?_ ?_ _) | (with_reducible refine Below.drew ?_) | (with_reducible refine Below.setCell ?_ ?_ _) | (with_reducible refine Below.trans ?_ (Below.mono (by assumption) ?_)) | go_size)))⟩
  subst hk0
  by_cases hs0 : s.size = 0
  · have hq : decide (0 < (s.size : Int)) = false := decide_eq_false (by omega)
    go_wp2_with fail
    go_returns
    exact ⟨s, rfl, by omega, HRET.out _ (by (repeat' (first | (with_reducible exact Below.refl _ _) | (with_reducible refine Below.alloc ?_ ?_ _) | (with_reducible refine Below.drew ?_) | (with_reducible refine Below.setCell ?_ ?_ _) | (with_reducible refine Below.trans ?_ (Below.mono (by assumption) ?_)) | go_size)))⟩
  have hq : decide (0 < (s.size : Int)) = true := decide_eq_true (by omega)
  go_wp2_with fail
  (refine (pick w.heap.size (p2 + 1) (s.size : Int) _ Hhr4.out (by omega) (by omega)).mono ?_; rintro e w5 ⟨k, rfl, hk0, hk1, ho5, hr5⟩; have hz5 := ho5.size; (repeat (first | rw [World.size_alloc] at hz5 | rw [World.size_setCell] at hz5 | rw [World.size_drew] at hz5)); have Hhr5 := Lib.hid hr5; clear hr5)
  have B5 := Lib.hid (ho5.below (B := w.heap.size) (by omega) (by omega))
  clear ho5
  obtain ⟨j, rfl⟩ := Int.eq_ofNat_of_zero_le hk0
  have hj : j < s.size := by omega
  clear hk0 hk1
  go_wp2_with fail
  have hw1 : IntKind.i64.wrap ((j : Int) + 1) = (j : Int) + 1 := IntWalk.i64_in _ (by omega)
  have hw2 : (0 : Int) ≤ (j : Int) + 1 := by omega
  have hw3 : ((j : Int) + 1).toNat = j + 1 := by omega
  have hR := Rd_lt Hhr5.out
  have hS1 := sl_lo s j (by omega)
  have hS2 := sl_hi s j (by omega)
  have hz1 := ext_le s 0 j
  have hz2 := ext_le s (j + 1) s.size
  obtain ⟨s1, e1⟩ : ∃ s1, s.extract 0 j = s1 := ⟨_, rfl⟩
  obtain ⟨s2, e2⟩ : ∃ s2, s.extract (j + 1) s.size = s2 := ⟨_, rfl⟩
  rw [e1] at hS1 hz1
  rw [e2] at hS2 hz2
  clear e1 e2
  have hz3 : s1.size ≤ 20 := Nat.le_trans hz1 h20
  have hz4 : s2.size ≤ 20 := Nat.le_trans hz2 h20
  go_region_with (first | (go_at_call 25; refine (pick w.heap.size (p2 + 1 + 1) 6 _ (by first | exact Hhr5.out | exact Rd_drew Hhr5.out | exact Rd_alloc (Rd_drew Hhr5.out) | exact Rd_alloc Hhr5.out) (by omega) (by omega)).mono ?_; rintro e w6 ⟨k6, rfl, h60, h61, ho6, hr6⟩; obtain ⟨j6, rfl, hj6⟩ := lt6_of h60 h61; clear hr6; have hNew := new6 j6 hj6; have hArr := arr6 j6 hj6; have hT := lit6_size j6; have hA1 := no1 hz3 hT; have hA2 := no2 hz3 hT hz4; have hj7 := bd1 hj6; have hj8 := bd0 j6; have hj9 := bd2 j6; (try (have hC := Off.cell ho6 (b := w5.heap.size) (o := j6) (v := _) (Nat.ne_of_gt hR) (by first | exact hNew _ | exact hNew w5.drew))); have B6 := Lib.hid (ho6.below (B := w.heap.size) (by omega) (by first | omega | (simp; omega))); clear ho6))
  all_goals go_wp2_with fail
  all_goals
    have b5 := B5.out
    have b6 := B6.out
    have z6 : w.heap.size ≤ w6.heap.size := by first | exact Nat.le_trans (Nat.le_of_lt hR) b6.size | (have z5 := b6.size; simp at z5; omega)
    go_returns
    exact ⟨_, rfl, sz3 hz3 hT hz4, HRET.out _ (by (repeat' (first | (with_reducible exact Below.refl _ _) | (with_reducible refine Below.alloc ?_ ?_ _) | (with_reducible refine Below.drew ?_) | (with_reducible refine Below.setCell ?_ ?_ _) | (with_reducible refine Below.trans ?_ (Below.mono (by assumption) ?_)) | go_size)))⟩
end Go.Proofs.YtpiifcgjdfkhaaaDoor
