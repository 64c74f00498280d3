import Derived.Test.YtpjememmogaeiaaG
import Derived.Test.YtpjememmogaeiaaHx
import Derived.Test.YtpjememmogaeiaaJo
import Derived.BigRegion
import Derived.Test.YtpjememmogaeiaaYi
namespace Go.Proofs.Ytpjememmogaeiaa
open Go Go.RowKit
attribute [local go_sem] World.cell?_alloc_some cell?_alloc2_some cell?_alloc3_some cell?_alloc4_some frozen?_alloc_some frozen?_alloc2_some frozen?_alloc3_some World.cell?_setCell_far new_ne0 new_ne1 new_ne2 new_ne3 lt2 lt3 lt4 lt5 lt6 lt7 lt8 lt9

/-- A whole number was drawn; a number was drawn, whatever it is. -/
def DrawnI (w : World) (e : Ending) (w' : World) : Prop := ∃ p : Int, e = .returned (.int .i64 p) ∧ Below w.heap.size w w'
def DrawnZ (w : World) (e : Ending) (w' : World) : Prop := ∃ a b : Int, e = .returned (.agg #[.int .i64 a, .int .i64 b]) ∧ Below w.heap.size w w'

set_option maxHeartbeats 4000000 in
theorem drawKindOf (a : Option Addr) (len cap : Nat) (zs : List Int) (w : World) (h : IsRow .u8 w a len cap zs) :
    Calls Try.prog 23 #[.slice a len cap] w (DrawnI w) := by
  go_enter Try.func23, Try.ntmps23
  go_wp2_with fail
  (refine (l20Open_at w.heap.size a len cap zs _ h rfl).mono ?_; rintro e w1 ⟨rfl, hr1, hb1⟩; have hz1 := hb1.size; (repeat (first | rw [World.size_alloc] at hz1 | rw [World.size_setCell] at hz1 | rw [World.size_drew] at hz1)))
  have Hr1 := Lib.hid hr1
  have Hb1 := Lib.hid hb1
  have hR := Rd_lt hr1
  clear hr1 hb1
  go_wp2_with fail
  (refine (pick w.heap.size 0 100 _ Hr1.out (by omega) (by omega)).mono ?_; rintro e w2 ⟨k1, rfl, hk0, hk1, ho2, hr2⟩; have hz2 := ho2.size; (repeat (first | rw [World.size_alloc] at hz2 | rw [World.size_setCell] at hz2 | rw [World.size_drew] at hz2)); have Hhr2 := Lib.hid hr2; clear hr2; have Hho2 := Lib.hid ho2; clear ho2)
  go_wp2_with fail
  (refine (pick w.heap.size 1 250 _ Hhr2.out (by omega) (by omega)).mono ?_; rintro e w3 ⟨k2, rfl, hl0, hl1, ho3, hr3⟩; have hz3 := ho3.size; (repeat (first | rw [World.size_alloc] at hz3 | rw [World.size_setCell] at hz3 | rw [World.size_drew] at hz3)); have Hhr3 := Lib.hid hr3; clear hr3; have Hho3 := Lib.hid ho3; clear ho3)
  have hR3 := Rd_lt Hhr3.out
  go_wp2_with fail
  (refine (pick w.heap.size 2 9 _ (Rd_alloc Hhr3.out) (by omega) (by omega)).mono ?_; rintro e w4 ⟨k3, rfl, hm0, hm1, ho4, hr4⟩; have hz4 := ho4.size; (repeat (first | rw [World.size_alloc] at hz4 | rw [World.size_setCell] at hz4 | rw [World.size_drew] at hz4)); have kk1 := Off.cell ho4 (b := w3.heap.size) (o := 0) (v := _) (by omega) (by (repeat (first | (with_reducible assumption) | (with_reducible apply sameS) | ((with_reducible apply born); (focus (simp; done)); (focus rfl)) | (with_reducible apply keepA) | (with_reducible apply keepD) | ((with_reducible apply keepS); focus ((repeat (first | rw [World.size_alloc] | rw [World.size_setCell] | rw [World.size_drew])); omega)) | ((with_reducible apply keep); (focus (with_reducible assumption)))))); have kk2 := Off.cell ho4 (b := w3.heap.size) (o := 1) (v := _) (by omega) (by (repeat (first | (with_reducible assumption) | (with_reducible apply sameS) | ((with_reducible apply born); (focus (simp; done)); (focus rfl)) | (with_reducible apply keepA) | (with_reducible apply keepD) | ((with_reducible apply keepS); focus ((repeat (first | rw [World.size_alloc] | rw [World.size_setCell] | rw [World.size_drew])); omega)) | ((with_reducible apply keep); (focus (with_reducible assumption)))))); have kk3 := Off.cell ho4 (b := w3.heap.size) (o := 2) (v := _) (by omega) (by (repeat (first | (with_reducible assumption) | (with_reducible apply sameS) | ((with_reducible apply born); (focus (simp; done)); (focus rfl)) | (with_reducible apply keepA) | (with_reducible apply keepD) | ((with_reducible apply keepS); focus ((repeat (first | rw [World.size_alloc] | rw [World.size_setCell] | rw [World.size_drew])); omega)) | ((with_reducible apply keep); (focus (with_reducible assumption)))))); have kk4 := Off.cell ho4 (b := w3.heap.size) (o := 3) (v := _) (by omega) (by (repeat (first | (with_reducible assumption) | (with_reducible apply sameS) | ((with_reducible apply born); (focus (simp; done)); (focus rfl)) | (with_reducible apply keepA) | (with_reducible apply keepD) | ((with_reducible apply keepS); focus ((repeat (first | rw [World.size_alloc] | rw [World.size_setCell] | rw [World.size_drew])); omega)) | ((with_reducible apply keep); (focus (with_reducible assumption)))))); have kk5 := Off.cell ho4 (b := w3.heap.size) (o := 4) (v := _) (by omega) (by (repeat (first | (with_reducible assumption) | (with_reducible apply sameS) | ((with_reducible apply born); (focus (simp; done)); (focus rfl)) | (with_reducible apply keepA) | (with_reducible apply keepD) | ((with_reducible apply keepS); focus ((repeat (first | rw [World.size_alloc] | rw [World.size_setCell] | rw [World.size_drew])); omega)) | ((with_reducible apply keep); (focus (with_reducible assumption)))))); have kk6 := Off.cell ho4 (b := w3.heap.size) (o := 5) (v := _) (by omega) (by (repeat (first | (with_reducible assumption) | (with_reducible apply sameS) | ((with_reducible apply born); (focus (simp; done)); (focus rfl)) | (with_reducible apply keepA) | (with_reducible apply keepD) | ((with_reducible apply keepS); focus ((repeat (first | rw [World.size_alloc] | rw [World.size_setCell] | rw [World.size_drew])); omega)) | ((with_reducible apply keep); (focus (with_reducible assumption)))))); have kk7 := Off.cell ho4 (b := w3.heap.size) (o := 6) (v := _) (by omega) (by (repeat (first | (with_reducible assumption) | (with_reducible apply sameS) | ((with_reducible apply born); (focus (simp; done)); (focus rfl)) | (with_reducible apply keepA) | (with_reducible apply keepD) | ((with_reducible apply keepS); focus ((repeat (first | rw [World.size_alloc] | rw [World.size_setCell] | rw [World.size_drew])); omega)) | ((with_reducible apply keep); (focus (with_reducible assumption)))))); have kk8 := Off.cell ho4 (b := w3.heap.size) (o := 7) (v := _) (by omega) (by (repeat (first | (with_reducible assumption) | (with_reducible apply sameS) | ((with_reducible apply born); (focus (simp; done)); (focus rfl)) | (with_reducible apply keepA) | (with_reducible apply keepD) | ((with_reducible apply keepS); focus ((repeat (first | rw [World.size_alloc] | rw [World.size_setCell] | rw [World.size_drew])); omega)) | ((with_reducible apply keep); (focus (with_reducible assumption)))))); have kk9 := Off.cell ho4 (b := w3.heap.size) (o := 8) (v := _) (by omega) (by (repeat (first | (with_reducible assumption) | (with_reducible apply sameS) | ((with_reducible apply born); (focus (simp; done)); (focus rfl)) | (with_reducible apply keepA) | (with_reducible apply keepD) | ((with_reducible apply keepS); focus ((repeat (first | rw [World.size_alloc] | rw [World.size_setCell] | rw [World.size_drew])); omega)) | ((with_reducible apply keep); (focus (with_reducible assumption)))))); have Hhr4 := Lib.hid hr4; clear hr4)
  have ho2 := Hho2.out
  have ho3 := Hho3.out
  have Ho := Lib.hid (show Below w.heap.size w w4 from (Hb1.out.trans (Off.below (B := w.heap.size) (R := w.heap.size) (w := w1) (by (repeat' (first | (with_reducible exact Off.refl _ _) | (with_reducible apply Off.alloc) | (with_reducible apply Off.drew) | ((with_reducible apply Off.setCell); focus (first | omega | (simp; done) | (simp; omega))) | (with_reducible refine Off.trans ?_ (by assumption))))) (by omega) (by have := Hb1.out.size; omega))))
  clear ho2 ho3 ho4 Hho2 Hho3 Hhr2 Hhr3 Hhr4 Hr1 Hb1
  rcases (show k3 = 0 ∨ k3 = 1 ∨ k3 = 2 ∨ k3 = 3 ∨ k3 = 4 ∨ k3 = 5 ∨ k3 = 6 ∨ k3 = 7 ∨ k3 = 8 by omega) with rfl | rfl | rfl | rfl | rfl | rfl | rfl | rfl | rfl
  all_goals
    go_wp2_with fail
    go_returns
    exact ⟨_, rfl, Ho.out⟩
theorem drawSplitOf (a : Option Addr) (len cap : Nat) (zs : List Int) (w : World) (h : IsRow .u8 w a len cap zs) :
    Calls Try.prog 26 #[.slice a len cap] w (DrawnI w) := by
  go_enter Try.func26, Try.ntmps26
  go_wp2_with fail
  refine (drawKindOf a len cap zs _ h).mono ?_
  rintro e w1 ⟨p, rfl, hb⟩
  go_wp2_with fail
  go_returns
  exact ⟨_, rfl, hb⟩
set_option maxHeartbeats 4000000 in
theorem drawPrimesUpTo (a : Option Addr) (len cap : Nat) (zs : List Int) (w : World) (h : IsRow .u8 w a len cap zs) :
    Calls Try.prog 36 #[.slice a len cap] w (DrawnI w) := by
  go_enter Try.func36, Try.ntmps36
  go_wp2_with fail
  (refine (l20Open_at w.heap.size a len cap zs _ h rfl).mono ?_; rintro e w1 ⟨rfl, hr1, hb1⟩; have hz1 := hb1.size; (repeat (first | rw [World.size_alloc] at hz1 | rw [World.size_setCell] at hz1 | rw [World.size_drew] at hz1)))
  have Hr1 := Lib.hid hr1
  have Hb1 := Lib.hid hb1
  have hR := Rd_lt hr1
  clear hr1 hb1
  go_wp2_with fail
  (refine (pick w.heap.size 0 60 _ Hr1.out (by omega) (by omega)).mono ?_; rintro e w2 ⟨k1, rfl, hk0, hk1, ho2, hr2⟩; have hz2 := ho2.size; (repeat (first | rw [World.size_alloc] at hz2 | rw [World.size_setCell] at hz2 | rw [World.size_drew] at hz2)); have Hhr2 := Lib.hid hr2; clear hr2; have Hho2 := Lib.hid ho2; clear ho2)
  go_wp2_with fail
  (refine (pick w.heap.size 1 250 _ Hhr2.out (by omega) (by omega)).mono ?_; rintro e w3 ⟨k2, rfl, hl0, hl1, ho3, hr3⟩; have hz3 := ho3.size; (repeat (first | rw [World.size_alloc] at hz3 | rw [World.size_setCell] at hz3 | rw [World.size_drew] at hz3)); have Hhr3 := Lib.hid hr3; clear hr3; have Hho3 := Lib.hid ho3; clear ho3)
  have hR3 := Rd_lt Hhr3.out
  go_wp2_with fail
  (refine (pick w.heap.size 2 9 _ (Rd_alloc Hhr3.out) (by omega) (by omega)).mono ?_; rintro e w4 ⟨k3, rfl, hm0, hm1, ho4, hr4⟩; have hz4 := ho4.size; (repeat (first | rw [World.size_alloc] at hz4 | rw [World.size_setCell] at hz4 | rw [World.size_drew] at hz4)); have kk1 := Off.cell ho4 (b := w3.heap.size) (o := 0) (v := _) (by omega) (by (repeat (first | (with_reducible assumption) | (with_reducible apply sameS) | ((with_reducible apply born); (focus (simp; done)); (focus rfl)) | (with_reducible apply keepA) | (with_reducible apply keepD) | ((with_reducible apply keepS); focus ((repeat (first | rw [World.size_alloc] | rw [World.size_setCell] | rw [World.size_drew])); omega)) | ((with_reducible apply keep); (focus (with_reducible assumption)))))); have kk2 := Off.cell ho4 (b := w3.heap.size) (o := 1) (v := _) (by omega) (by (repeat (first | (with_reducible assumption) | (with_reducible apply sameS) | ((with_reducible apply born); (focus (simp; done)); (focus rfl)) | (with_reducible apply keepA) | (with_reducible apply keepD) | ((with_reducible apply keepS); focus ((repeat (first | rw [World.size_alloc] | rw [World.size_setCell] | rw [World.size_drew])); omega)) | ((with_reducible apply keep); (focus (with_reducible assumption)))))); have kk3 := Off.cell ho4 (b := w3.heap.size) (o := 2) (v := _) (by omega) (by (repeat (first | (with_reducible assumption) | (with_reducible apply sameS) | ((with_reducible apply born); (focus (simp; done)); (focus rfl)) | (with_reducible apply keepA) | (with_reducible apply keepD) | ((with_reducible apply keepS); focus ((repeat (first | rw [World.size_alloc] | rw [World.size_setCell] | rw [World.size_drew])); omega)) | ((with_reducible apply keep); (focus (with_reducible assumption)))))); have kk4 := Off.cell ho4 (b := w3.heap.size) (o := 3) (v := _) (by omega) (by (repeat (first | (with_reducible assumption) | (with_reducible apply sameS) | ((with_reducible apply born); (focus (simp; done)); (focus rfl)) | (with_reducible apply keepA) | (with_reducible apply keepD) | ((with_reducible apply keepS); focus ((repeat (first | rw [World.size_alloc] | rw [World.size_setCell] | rw [World.size_drew])); omega)) | ((with_reducible apply keep); (focus (with_reducible assumption)))))); have kk5 := Off.cell ho4 (b := w3.heap.size) (o := 4) (v := _) (by omega) (by (repeat (first | (with_reducible assumption) | (with_reducible apply sameS) | ((with_reducible apply born); (focus (simp; done)); (focus rfl)) | (with_reducible apply keepA) | (with_reducible apply keepD) | ((with_reducible apply keepS); focus ((repeat (first | rw [World.size_alloc] | rw [World.size_setCell] | rw [World.size_drew])); omega)) | ((with_reducible apply keep); (focus (with_reducible assumption)))))); have Hhr4 := Lib.hid hr4; clear hr4)
  have ho2 := Hho2.out
  have ho3 := Hho3.out
  have Ho := Lib.hid (show Below w.heap.size w w4 from (Hb1.out.trans (Off.below (B := w.heap.size) (R := w.heap.size) (w := w1) (by (repeat' (first | (with_reducible exact Off.refl _ _) | (with_reducible apply Off.alloc) | (with_reducible apply Off.drew) | ((with_reducible apply Off.setCell); focus (first | omega | (simp; done) | (simp; omega))) | (with_reducible refine Off.trans ?_ (by assumption))))) (by omega) (by have := Hb1.out.size; omega))))
  clear ho2 ho3 ho4 Hho2 Hho3 Hhr2 Hhr3 Hhr4 Hr1 Hb1
  rcases (show k3 = 0 ∨ k3 = 1 ∨ k3 = 2 ∨ k3 = 3 ∨ k3 = 4 ∨ k3 = 5 ∨ k3 = 6 ∨ k3 = 7 ∨ k3 = 8 by omega) with rfl | rfl | rfl | rfl | rfl | rfl | rfl | rfl | rfl
  all_goals
    go_wp2_with fail
    go_returns
    exact ⟨_, rfl, Ho.out⟩
set_option maxHeartbeats 4000000 in
theorem drawDivisorsOf (a : Option Addr) (len cap : Nat) (zs : List Int) (w : World) (h : IsRow .u8 w a len cap zs) :
    Calls Try.prog 31 #[.slice a len cap] w (DrawnZ w) := by
  go_enter Try.func31, Try.ntmps31
  go_wp2_with fail
  (refine (l20Open_at (w.heap.size + 1) a len cap zs _ h.alloc (by simp)).mono ?_; rintro e w1 ⟨rfl, hr1, hb1⟩; have hz1 := hb1.size; (repeat (first | rw [World.size_alloc] at hz1 | rw [World.size_setCell] at hz1 | rw [World.size_drew] at hz1)); have pp := T2.K hb1 (b := w.heap.size) (x := _) (y := _) (by (repeat (first | ((with_reducible apply T2.mk) <;> (with_reducible assumption)) | (with_reducible apply T2.Z) | (with_reducible apply T2.O) | ((with_reducible apply T2.B); (focus (simp; done))) | (with_reducible apply T2.A) | (with_reducible apply T2.D) | ((with_reducible apply T2.S); focus ((repeat (first | rw [World.size_alloc] | rw [World.size_setCell] | rw [World.size_drew])); omega)) | ((with_reducible apply T2.K); (focus (with_reducible assumption)))))); obtain ⟨kk1, kk2, fkk1, fkk2⟩ := pp)
  have Hr1 := Lib.hid hr1
  have Hb1 := Lib.hid hb1
  have hR := Rd_lt hr1
  clear hr1 hb1
  go_wp2_with fail
  (refine (pick (w.heap.size + 1) 0 22 _ Hr1.out (by omega) (by omega)).mono ?_; rintro e w2 ⟨k1, rfl, hk0, hk1, ho2, hr2⟩; have hz2 := ho2.size; (repeat (first | rw [World.size_alloc] at hz2 | rw [World.size_setCell] at hz2 | rw [World.size_drew] at hz2)); have pp := T2.F ho2 (by omega) (b := w.heap.size) (x := _) (y := _) (by (repeat (first | ((with_reducible apply T2.mk) <;> (with_reducible assumption)) | (with_reducible apply T2.Z) | (with_reducible apply T2.O) | ((with_reducible apply T2.B); (focus (simp; done))) | (with_reducible apply T2.A) | (with_reducible apply T2.D) | ((with_reducible apply T2.S); focus ((repeat (first | rw [World.size_alloc] | rw [World.size_setCell] | rw [World.size_drew])); omega)) | ((with_reducible apply T2.K); (focus (with_reducible assumption)))))); obtain ⟨kk3, kk4, fkk3, fkk4⟩ := pp; (try clear kk1 kk2 fkk1 fkk2); have Hhr2 := Lib.hid hr2; clear hr2; have Hho2 := Lib.hid ho2; clear ho2)
  go_wp2_with fail
  (refine (pick (w.heap.size + 1) 1 22 _ Hhr2.out (by omega) (by omega)).mono ?_; rintro e w3 ⟨k2, rfl, hl0, hl1, ho3, hr3⟩; have hz3 := ho3.size; (repeat (first | rw [World.size_alloc] at hz3 | rw [World.size_setCell] at hz3 | rw [World.size_drew] at hz3)); have pp := T2.F ho3 (by omega) (b := w.heap.size) (x := _) (y := _) (by (repeat (first | ((with_reducible apply T2.mk) <;> (with_reducible assumption)) | (with_reducible apply T2.Z) | (with_reducible apply T2.O) | ((with_reducible apply T2.B); (focus (simp; done))) | (with_reducible apply T2.A) | (with_reducible apply T2.D) | ((with_reducible apply T2.S); focus ((repeat (first | rw [World.size_alloc] | rw [World.size_setCell] | rw [World.size_drew])); omega)) | ((with_reducible apply T2.K); (focus (with_reducible assumption)))))); obtain ⟨kk5, kk6, fkk5, fkk6⟩ := pp; (try clear kk3 kk4 fkk3 fkk4); have Hhr3 := Lib.hid hr3; clear hr3; have Hho3 := Lib.hid ho3; clear ho3)
  go_wp2_with fail
  (refine (pick (w.heap.size + 1) 2 30 _ Hhr3.out (by omega) (by omega)).mono ?_; rintro e w4 ⟨k3, rfl, hm0, hm1, ho4, hr4⟩; have hz4 := ho4.size; (repeat (first | rw [World.size_alloc] at hz4 | rw [World.size_setCell] at hz4 | rw [World.size_drew] at hz4)); have pp := T2.F ho4 (by omega) (b := w.heap.size) (x := _) (y := _) (by (repeat (first | ((with_reducible apply T2.mk) <;> (with_reducible assumption)) | (with_reducible apply T2.Z) | (with_reducible apply T2.O) | ((with_reducible apply T2.B); (focus (simp; done))) | (with_reducible apply T2.A) | (with_reducible apply T2.D) | ((with_reducible apply T2.S); focus ((repeat (first | rw [World.size_alloc] | rw [World.size_setCell] | rw [World.size_drew])); omega)) | ((with_reducible apply T2.K); (focus (with_reducible assumption)))))); obtain ⟨kk7, kk8, fkk7, fkk8⟩ := pp; (try clear kk5 kk6 fkk5 fkk6); have Hhr4 := Lib.hid hr4; clear hr4)
  have ho2 := Hho2.out
  have ho3 := Hho3.out
  have Ho := Lib.hid (show Below w.heap.size w w4 from (((Below.refl _ _).alloc (Nat.le_refl _) _).trans (Hb1.out.mono (by simp))).trans (Off.below (B := w.heap.size) (R := w.heap.size + 1) (w := w1) (by (repeat' (first | (with_reducible exact Off.refl _ _) | (with_reducible apply Off.alloc) | (with_reducible apply Off.drew) | ((with_reducible apply Off.setCell); focus (first | omega | (simp; done) | (simp; omega))) | (with_reducible refine Off.trans ?_ (by assumption))))) (by omega) (by omega)))
  clear ho2 ho3 ho4 Hho2 Hho3 Hhr2 Hhr3 Hhr4 Hr1 Hb1
  have hq : k3.tdiv 29 = k3 / 29 := Int.tdiv_eq_ediv_of_nonneg hm0
  go_wp2_with fail
  have hb4 := Ho.out
  refine bodyPost_ret (v := .agg #[.int .i64 (k1 - 9), .int .i64 (k2 - 9 + k3 / 29 * 60)]) (by simp [results, Try.results31, go_sem, *]) rfl ?_; exact ⟨_, _, rfl, by (repeat' (first | (with_reducible exact Below.refl _ _) | (with_reducible refine Below.alloc ?_ ?_ _) | (with_reducible refine Below.drew ?_) | (with_reducible refine Below.setCell ?_ ?_ _) | (with_reducible refine Below.trans ?_ (Below.mono (by assumption) ?_)) | go_size))⟩
end Go.Proofs.Ytpjememmogaeiaa

namespace Go.Proofs.Ytpjememmogaeiaa
open Go Go.RowKit
attribute [local go_sem] World.cell?_alloc_some cell?_alloc2_some cell?_alloc3_some cell?_alloc4_some frozen?_alloc_some frozen?_alloc2_some frozen?_alloc3_some World.cell?_setCell_far new_ne0 new_ne1 new_ne2 new_ne3 lt2 lt3 lt4 lt5 lt6 lt7 lt8 lt9
attribute [local go_sem ↓] eqG neG

theorem iKindOf_v {p k : Int} (w : World) (h : knO p = k) : Calls Try.prog 24 #[.int .i64 p] w fun e w' => e = .returned (.int .i64 k) ∧ Below w.heap.size w w' := by subst h; exact iKindOf p w
theorem sKindOf_v {p k : Int} (w : World) (h : knO p = k) : Calls Try.prog 25 #[.int .i64 p] w fun e w' => e = .returned (.int .i64 k) ∧ Below w.heap.size w w' := by subst h; exact sKindOf p w
theorem iPrimeOk_v {a b : Int} {o : Bool} (w : World) (h : prO a b = o) : Calls Try.prog 14 #[.agg #[.int .i64 a, .int .i64 b]] w fun e w' => e = .returned (.bool o) ∧ Below w.heap.size w w' := by subst h; exact iPrimeOk a b w
theorem sPrimeOk_v {a b : Int} {o : Bool} (w : World) (h : prO a b = o) : Calls Try.prog 15 #[.agg #[.int .i64 a, .int .i64 b]] w fun e w' => e = .returned (.bool o) ∧ Below w.heap.size w w' := by subst h; exact sPrimeOk a b w
/-- How a prime falls apart, case by case. -/
theorem kn_cases (p : Int) : knO p = -1 ∨ (p = 2 ∧ knO p = 0 ∧ prO p 0 = false) ∨ (p ≠ 2 ∧ 0 ≤ p ∧ p % 4 = 1 ∧ knO p = 1 ∧ prO p 0 = false) ∨ (p ≠ 2 ∧ 0 ≤ p ∧ p % 4 = 3 ∧ knO p = 2 ∧ prO p 0 = true) := by
  by_cases h : knO p = -1
  · exact .inl h
  · right
    obtain ⟨h2, h3, hw⟩ := kn_wp h
    have hk := knO_yes h3 (wpB_iff.2 hw)
    have hp := kn_prime hw h3
    have hf : p % 4 ≠ 3 → prO p 0 = false := fun h4 => by
      cases ho : prO p 0
      · rfl
      · exact absurd (hp.1 ho) h4
    by_cases e : p = 2
    · subst e
      exact .inl ⟨rfl, by rw [hk]; rfl, hf (by decide)⟩
    · have h5 := wp_odd hw e
      by_cases h4 : p % 4 = 1
      · exact .inr (.inl ⟨e, by omega, h4, by rw [hk, if_neg e, if_pos h4], hf (by omega)⟩)
      · exact .inr (.inr ⟨e, by omega, by omega, by rw [hk, if_neg e, if_neg h4], hp.2 (by omega)⟩)

set_option maxHeartbeats 4000000 in
theorem walkFnKindOf (a0 : Option Addr) (len cap : Nat) (zs : List Int) (w : World) (h : IsRow .u8 w a0 len cap zs) :
    Calls Try.prog 4 #[.slice a0 len cap] w fun e w' => e = .returned (.bool true) ∧ Below w.heap.size w w' := by
  by_cases hl : 1048576 < len
  · clear h
    go_enter Try.func4, Try.ntmps4
    go_wp2_with fail
    go_returns
    exact ⟨rfl, by (repeat' (first | (with_reducible exact Below.refl _ _) | (with_reducible refine Below.alloc ?_ ?_ _) | (with_reducible refine Below.drew ?_) | (with_reducible refine Below.setCell ?_ ?_ _) | (with_reducible refine Below.trans ?_ (Below.mono (by assumption) ?_)) | go_size))⟩
  have H := Lib.hid h
  clear h
  go_enter Try.func4, Try.ntmps4
  go_wp2_with fail
  (refine (drawKindOf a0 len cap zs _ H.out).mono ?_; rintro e w1 ⟨p, rfl, hb1⟩; have hz1 := hb1.size; (repeat (first | rw [World.size_alloc] at hz1 | rw [World.size_setCell] at hz1 | rw [World.size_drew] at hz1)))
  go_wp2_with fail
  rcases kn_cases p with hk | ⟨rfl, hk, ho⟩ | ⟨e2, h0, h4, hk, ho⟩ | ⟨e2, h0, h4, hk, ho⟩
  · (refine (iKindOf_v _ hk).mono ?_; rintro e w2 ⟨rfl, hb2⟩; have hz2 := hb2.size; (repeat (first | rw [World.size_alloc] at hz2 | rw [World.size_setCell] at hz2 | rw [World.size_drew] at hz2)))
    go_wp2_with fail
    (refine (sKindOf_v _ hk).mono ?_; rintro e w3 ⟨rfl, hb3⟩; have hz3 := hb3.size; (repeat (first | rw [World.size_alloc] at hz3 | rw [World.size_setCell] at hz3 | rw [World.size_drew] at hz3)))
    go_wp2_with fail
    (refine (alive _).mono ?_; rintro e w4 ⟨rfl, hb4⟩; have hz4 := hb4.size; (repeat (first | rw [World.size_alloc] at hz4 | rw [World.size_setCell] at hz4 | rw [World.size_drew] at hz4)))
    go_wp2_with fail
    go_returns
    exact ⟨rfl, by (repeat' (first | (with_reducible exact Below.refl _ _) | (with_reducible refine Below.alloc ?_ ?_ _) | (with_reducible refine Below.drew ?_) | (with_reducible refine Below.setCell ?_ ?_ _) | (with_reducible refine Below.trans ?_ (Below.mono (by assumption) ?_)) | go_size))⟩
  · (refine (iKindOf_v _ hk).mono ?_; rintro e w2 ⟨rfl, hb2⟩; have hz2 := hb2.size; (repeat (first | rw [World.size_alloc] at hz2 | rw [World.size_setCell] at hz2 | rw [World.size_drew] at hz2)))
    go_wp2_with fail
    (refine (sKindOf_v _ hk).mono ?_; rintro e w3 ⟨rfl, hb3⟩; have hz3 := hb3.size; (repeat (first | rw [World.size_alloc] at hz3 | rw [World.size_setCell] at hz3 | rw [World.size_drew] at hz3)))
    go_wp2_with fail
    (refine (iPrimeOk_v _ ho).mono ?_; rintro e w4 ⟨rfl, hb4⟩; have hz4 := hb4.size; (repeat (first | rw [World.size_alloc] at hz4 | rw [World.size_setCell] at hz4 | rw [World.size_drew] at hz4)))
    go_wp2_with fail
    go_returns
    exact ⟨rfl, by (repeat' (first | (with_reducible exact Below.refl _ _) | (with_reducible refine Below.alloc ?_ ?_ _) | (with_reducible refine Below.drew ?_) | (with_reducible refine Below.setCell ?_ ?_ _) | (with_reducible refine Below.trans ?_ (Below.mono (by assumption) ?_)) | go_size))⟩
  · have e3 : (p == 2) = false := by simpa using e2
    have e4 : (p % 4 == 1) = true := by simpa using h4
    (refine (iKindOf_v _ hk).mono ?_; rintro e w2 ⟨rfl, hb2⟩; have hz2 := hb2.size; (repeat (first | rw [World.size_alloc] at hz2 | rw [World.size_setCell] at hz2 | rw [World.size_drew] at hz2)))
    go_wp2_with fail
    (refine (sKindOf_v _ hk).mono ?_; rintro e w3 ⟨rfl, hb3⟩; have hz3 := hb3.size; (repeat (first | rw [World.size_alloc] at hz3 | rw [World.size_setCell] at hz3 | rw [World.size_drew] at hz3)))
    go_wp2_with fail
    (refine (iPrimeOk_v _ ho).mono ?_; rintro e w4 ⟨rfl, hb4⟩; have hz4 := hb4.size; (repeat (first | rw [World.size_alloc] at hz4 | rw [World.size_setCell] at hz4 | rw [World.size_drew] at hz4)))
    go_wp2_with fail
    go_returns
    exact ⟨rfl, by (repeat' (first | (with_reducible exact Below.refl _ _) | (with_reducible refine Below.alloc ?_ ?_ _) | (with_reducible refine Below.drew ?_) | (with_reducible refine Below.setCell ?_ ?_ _) | (with_reducible refine Below.trans ?_ (Below.mono (by assumption) ?_)) | go_size))⟩
  · have e3 : (p == 2) = false := by simpa using e2
    have e4 : (p % 4 == 1) = false := by simp; omega
    (refine (iKindOf_v _ hk).mono ?_; rintro e w2 ⟨rfl, hb2⟩; have hz2 := hb2.size; (repeat (first | rw [World.size_alloc] at hz2 | rw [World.size_setCell] at hz2 | rw [World.size_drew] at hz2)))
    go_wp2_with fail
    (refine (sKindOf_v _ hk).mono ?_; rintro e w3 ⟨rfl, hb3⟩; have hz3 := hb3.size; (repeat (first | rw [World.size_alloc] at hz3 | rw [World.size_setCell] at hz3 | rw [World.size_drew] at hz3)))
    go_wp2_with fail
    (refine (iPrimeOk_v _ ho).mono ?_; rintro e w4 ⟨rfl, hb4⟩; have hz4 := hb4.size; (repeat (first | rw [World.size_alloc] at hz4 | rw [World.size_setCell] at hz4 | rw [World.size_drew] at hz4)))
    go_wp2_with fail
    go_returns
    exact ⟨rfl, by (repeat' (first | (with_reducible exact Below.refl _ _) | (with_reducible refine Below.alloc ?_ ?_ _) | (with_reducible refine Below.drew ?_) | (with_reducible refine Below.setCell ?_ ?_ _) | (with_reducible refine Below.trans ?_ (Below.mono (by assumption) ?_)) | go_size))⟩
end Go.Proofs.Ytpjememmogaeiaa
