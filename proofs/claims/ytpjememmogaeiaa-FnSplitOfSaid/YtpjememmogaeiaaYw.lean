import Derived.Test.YtpjememmogaeiaaYv
import Derived.Test.YtpjememmogaeiaaYi
import Derived.BigRegion
namespace Go.Proofs.Ytpjememmogaeiaa
open Go Go.RowKit
attribute [local go_sem] World.cell?_alloc_some cell?_alloc2_some cell?_alloc3_some cell?_alloc4_some frozen?_alloc_some frozen?_alloc2_some frozen?_alloc3_some World.cell?_setCell_far new_ne0 new_ne1 new_ne2 new_ne3 lt2 lt3 lt4 lt5 lt6 lt7 lt8 lt9
attribute [local go_sem ↓] eqG neG

theorem iKindOf_v {p k : Int} (w : World) (h : knO p = k) : Calls Try.prog 24 #[.int .i64 p] w fun e w' => e = .returned (.int .i64 k) ∧ Below w.heap.size w w' := by subst h; exact iKindOf p w
theorem sKindOf_v {p k : Int} (w : World) (h : knO p = k) : Calls Try.prog 25 #[.int .i64 p] w fun e w' => e = .returned (.int .i64 k) ∧ Below w.heap.size w w' := by subst h; exact sKindOf p w
theorem iPrimeOk_v {a b : Int} {o : Bool} (w : World) (h : prO a b = o) : Calls Try.prog 14 #[.agg #[.int .i64 a, .int .i64 b]] w fun e w' => e = .returned (.bool o) ∧ Below w.heap.size w w' := by subst h; exact iPrimeOk a b w
theorem sPrimeOk_v {a b : Int} {o : Bool} (w : World) (h : prO a b = o) : Calls Try.prog 15 #[.agg #[.int .i64 a, .int .i64 b]] w fun e w' => e = .returned (.bool o) ∧ Below w.heap.size w w' := by subst h; exact sPrimeOk a b w
/-- How a prime falls apart, case by case. -/
theorem kn_cases (p : Int) : knO p = -1 ∨ (p = 2 ∧ knO p = 0 ∧ prO p 0 = false) ∨ (p ≠ 2 ∧ 0 ≤ p ∧ p % 4 = 1 ∧ knO p = 1 ∧ prO p 0 = false) ∨ (p ≠ 2 ∧ 0 ≤ p ∧ p % 4 = 3 ∧ knO p = 2 ∧ prO p 0 = true) := by
  by_cases h : knO p = -1
  · exact .inl h
  · right
    obtain ⟨h2, h3, hw⟩ := kn_wp h
    have hk := knO_yes h3 (wpB_iff.2 hw)
    have hp := kn_prime hw h3
    have hf : p % 4 ≠ 3 → prO p 0 = false := fun h4 => by
      cases ho : prO p 0
      · rfl
      · exact absurd (hp.1 ho) h4
    by_cases e : p = 2
    · subst e
      exact .inl ⟨rfl, by rw [hk]; rfl, hf (by decide)⟩
    · have h5 := wp_odd hw e
      by_cases h4 : p % 4 = 1
      · exact .inr (.inl ⟨e, by omega, h4, by rw [hk, if_neg e, if_pos h4], hf (by omega)⟩)
      · exact .inr (.inr ⟨e, by omega, by omega, by rw [hk, if_neg e, if_neg h4], hp.2 (by omega)⟩)

set_option maxHeartbeats 4000000 in
theorem walkFnKindOf (a0 : Option Addr) (len cap : Nat) (zs : List Int) (w : World) (h : IsRow .u8 w a0 len cap zs) :
    Calls Try.prog 4 #[.slice a0 len cap] w fun e w' => e = .returned (.bool true) ∧ Below w.heap.size w w' := by
  by_cases hl : 1048576 < len
  · clear h
    go_enter Try.func4, Try.ntmps4
    go_wp2_with fail
    go_returns
    exact ⟨rfl, by (repeat' (first | (with_reducible exact Below.refl _ _) | (with_reducible refine Below.alloc ?_ ?_ _) | (with_reducible refine Below.drew ?_) | (with_reducible refine Below.setCell ?_ ?_ _) | (with_reducible refine Below.trans ?_ (Below.mono (by assumption) ?_)) | go_size))⟩
  have H := Lib.hid h
  clear h
  go_enter Try.func4, Try.ntmps4
  go_wp2_with fail
  (refine (drawKindOf a0 len cap zs _ H.out).mono ?_; rintro e w1 ⟨p, rfl, hb1⟩; have hz1 := hb1.size; (repeat (first | rw [World.size_alloc] at hz1 | rw [World.size_setCell] at hz1 | rw [World.size_drew] at hz1)))
  go_wp2_with fail
  rcases kn_cases p with hk | ⟨rfl, hk, ho⟩ | ⟨e2, h0, h4, hk, ho⟩ | ⟨e2, h0, h4, hk, ho⟩
  · (refine (iKindOf_v _ hk).mono ?_; rintro e w2 ⟨rfl, hb2⟩; have hz2 := hb2.size; (repeat (first | rw [World.size_alloc] at hz2 | rw [World.size_setCell] at hz2 | rw [World.size_drew] at hz2)))
    go_wp2_with fail
    (refine (sKindOf_v _ hk).mono ?_; rintro e w3 ⟨rfl, hb3⟩; have hz3 := hb3.size; (repeat (first | rw [World.size_alloc] at hz3 | rw [World.size_setCell] at hz3 | rw [World.size_drew] at hz3)))
    go_wp2_with fail
    (refine (alive _).mono ?_; rintro e w4 ⟨rfl, hb4⟩; have hz4 := hb4.size; (repeat (first | rw [World.size_alloc] at hz4 | rw [World.size_setCell] at hz4 | rw [World.size_drew] at hz4)))
    go_wp2_with fail
    go_returns
    exact ⟨rfl, by (repeat' (first | (with_reducible exact Below.refl _ _) | (with_reducible refine Below.alloc ?_ ?_ _) | (with_reducible refine Below.drew ?_) | (with_reducible refine Below.setCell ?_ ?_ _) | (with_reducible refine Below.trans ?_ (Below.mono (by assumption) ?_)) | go_size))⟩
  · (refine (iKindOf_v _ hk).mono ?_; rintro e w2 ⟨rfl, hb2⟩; have hz2 := hb2.size; (repeat (first | rw [World.size_alloc] at hz2 | rw [World.size_setCell] at hz2 | rw [World.size_drew] at hz2)))
    go_wp2_with fail
    (refine (sKindOf_v _ hk).mono ?_; rintro e w3 ⟨rfl, hb3⟩; have hz3 := hb3.size; (repeat (first | rw [World.size_alloc] at hz3 | rw [World.size_setCell] at hz3 | rw [World.size_drew] at hz3)))
    go_wp2_with fail
    (refine (iPrimeOk_v _ ho).mono ?_; rintro e w4 ⟨rfl, hb4⟩; have hz4 := hb4.size; (repeat (first | rw [World.size_alloc] at hz4 | rw [World.size_setCell] at hz4 | rw [World.size_drew] at hz4)))
    go_wp2_with fail
    go_returns
    exact ⟨rfl, by (repeat' (first | (with_reducible exact Below.refl _ _) | (with_reducible refine Below.alloc ?_ ?_ _) | (with_reducible refine Below.drew ?_) | (with_reducible refine Below.setCell ?_ ?_ _) | (with_reducible refine Below.trans ?_ (Below.mono (by assumption) ?_)) | go_size))⟩
  · have e3 : (p == 2) = false := by simpa using e2
    have e4 : (p % 4 == 1) = true := by simpa using h4
    (refine (iKindOf_v _ hk).mono ?_; rintro e w2 ⟨rfl, hb2⟩; have hz2 := hb2.size; (repeat (first | rw [World.size_alloc] at hz2 | rw [World.size_setCell] at hz2 | rw [World.size_drew] at hz2)))
    go_wp2_with fail
    (refine (sKindOf_v _ hk).mono ?_; rintro e w3 ⟨rfl, hb3⟩; have hz3 := hb3.size; (repeat (first | rw [World.size_alloc] at hz3 | rw [World.size_setCell] at hz3 | rw [World.size_drew] at hz3)))
    go_wp2_with fail
    (refine (iPrimeOk_v _ ho).mono ?_; rintro e w4 ⟨rfl, hb4⟩; have hz4 := hb4.size; (repeat (first | rw [World.size_alloc] at hz4 | rw [World.size_setCell] at hz4 | rw [World.size_drew] at hz4)))
    go_wp2_with fail
    go_returns
    exact ⟨rfl, by (repeat' (first | (with_reducible exact Below.refl _ _) | (with_reducible refine Below.alloc ?_ ?_ _) | (with_reducible refine Below.drew ?_) | (with_reducible refine Below.setCell ?_ ?_ _) | (with_reducible refine Below.trans ?_ (Below.mono (by assumption) ?_)) | go_size))⟩
  · have e3 : (p == 2) = false := by simpa using e2
    have e4 : (p % 4 == 1) = false := by simp; omega
    (refine (iKindOf_v _ hk).mono ?_; rintro e w2 ⟨rfl, hb2⟩; have hz2 := hb2.size; (repeat (first | rw [World.size_alloc] at hz2 | rw [World.size_setCell] at hz2 | rw [World.size_drew] at hz2)))
    go_wp2_with fail
    (refine (sKindOf_v _ hk).mono ?_; rintro e w3 ⟨rfl, hb3⟩; have hz3 := hb3.size; (repeat (first | rw [World.size_alloc] at hz3 | rw [World.size_setCell] at hz3 | rw [World.size_drew] at hz3)))
    go_wp2_with fail
    (refine (iPrimeOk_v _ ho).mono ?_; rintro e w4 ⟨rfl, hb4⟩; have hz4 := hb4.size; (repeat (first | rw [World.size_alloc] at hz4 | rw [World.size_setCell] at hz4 | rw [World.size_drew] at hz4)))
    go_wp2_with fail
    go_returns
    exact ⟨rfl, by (repeat' (first | (with_reducible exact Below.refl _ _) | (with_reducible refine Below.alloc ?_ ?_ _) | (with_reducible refine Below.drew ?_) | (with_reducible refine Below.setCell ?_ ?_ _) | (with_reducible refine Below.trans ?_ (Below.mono (by assumption) ?_)) | go_size))⟩
end Go.Proofs.Ytpjememmogaeiaa
