import Derived.Test.YtnochfnmkenemaaD
import Derived.Test.YtnochfnmkenemaaHa
import Derived.BigRegion
import Derived.Deep.RegionWith
namespace Go.Proofs.Ytnochfnmkenemaa
open Go Go.RowKit
attribute [local go_sem] World.cell?_alloc_some cell?_alloc2_some cell?_alloc3_some cell?_alloc4_some frozen?_alloc_some frozen?_alloc2_some frozen?_alloc3_some World.cell?_setCell_far new_ne0 new_ne1 new_ne2 new_ne3 lt2 lt3 lt4 lt5 lt6 lt7 lt8 lt9

def DrawnT (w : World) (e : Ending) (w' : World) : Prop := ∃ t : Int, e = .returned (.int .i64 t) ∧ -1 ≤ t ∧ t ≤ 4 ∧ Below w.heap.size w w'
def DrawnGT (w : World) (e : Ending) (w' : World) : Prop := ∃ a b t : Int, e = .returned (.tuple #[.agg #[.int .i64 a, .int .i64 b], .int .i64 t]) ∧ Gd a b ∧ -4 ≤ t ∧ t ≤ 7 ∧ Below w.heap.size w w'
def DrawnA (w : World) (e : Ending) (w' : World) : Prop := ∃ a b c d : Int, e = .returned (.tuple #[.agg #[.int .i64 a, .int .i64 b], .agg #[.int .i64 c, .int .i64 d]]) ∧ Below w.heap.size w w'
theorem Gd_bd {a b : Int} (h : Gd a b) : -5000 ≤ a ∧ a ≤ 5000 ∧ -5000 ≤ b ∧ b ≤ 5000 := by
  rcases h with h | ⟨rfl, rfl⟩ | ⟨rfl, rfl⟩ | ⟨rfl, rfl⟩ <;> omega

theorem Rd_drew {w : World} {R p : Nat} (h : Rd w R p) : Rd w.drew R p := h
theorem Gd_unit {k : Int} (h0 : 0 ≤ k) (h3 : k ≤ 3) : Gd (tuA k 1 0) (tuB k 1 0) := by
  obtain rfl | rfl | rfl | rfl : k = 0 ∨ k = 1 ∨ k = 2 ∨ k = 3 := by omega
  all_goals exact .inl (by decide)
set_option maxHeartbeats 1000000 in
theorem drawUnitOk (a : Option Addr) (len cap : Nat) (zs : List Int) (w : World) (h : IsRow .u8 w a len cap zs) :
    Calls Try.prog 20 #[.slice a len cap] w (Drawn1 w) := by
  go_enter Try.func20, Try.ntmps20
  go_wp2_with fail
  (refine (l20Open_at (w.heap.size + 1) a len cap zs _ h.alloc (by simp)).mono ?_; rintro e w1 ⟨rfl, hr1, hb1⟩; have hz1 := hb1.size; (repeat (first | rw [World.size_alloc] at hz1 | rw [World.size_setCell] at hz1 | rw [World.size_drew] at hz1)); have pp := T2.K hb1 (b := w.heap.size) (x := _) (y := _) (by (repeat (first | ((with_reducible apply T2.mk) <;> (with_reducible assumption)) | (with_reducible apply T2.Z) | (with_reducible apply T2.O) | ((with_reducible apply T2.B); (focus (simp; done))) | (with_reducible apply T2.A) | (with_reducible apply T2.D) | ((with_reducible apply T2.S); focus ((repeat (first | rw [World.size_alloc] | rw [World.size_setCell] | rw [World.size_drew])); omega)) | ((with_reducible apply T2.K); (focus (with_reducible assumption)))))); obtain ⟨kk1, kk2, fkk1, fkk2⟩ := pp)
  have Hr1 := Lib.hid hr1
  have Hb1 := Lib.hid hb1
  clear hr1 hb1
  go_wp2_with fail
  (refine (pick (w.heap.size + 1) 0 2 _ Hr1.out (by omega) (by omega)).mono ?_; rintro e w2 ⟨k, rfl, ha0, ha1, ho2, hr2⟩; have hz2 := ho2.size; (repeat (first | rw [World.size_alloc] at hz2 | rw [World.size_setCell] at hz2 | rw [World.size_drew] at hz2)); have pp := T2.F ho2 (by omega) (b := w.heap.size) (x := _) (y := _) (by (repeat (first | ((with_reducible apply T2.mk) <;> (with_reducible assumption)) | (with_reducible apply T2.Z) | (with_reducible apply T2.O) | ((with_reducible apply T2.B); (focus (simp; done))) | (with_reducible apply T2.A) | (with_reducible apply T2.D) | ((with_reducible apply T2.S); focus ((repeat (first | rw [World.size_alloc] | rw [World.size_setCell] | rw [World.size_drew])); omega)) | ((with_reducible apply T2.K); (focus (with_reducible assumption)))))); obtain ⟨kk3, kk4, fkk3, fkk4⟩ := pp; (try clear kk1 kk2 fkk1 fkk2); have Hhr2 := Lib.hid hr2; clear hr2; have Hho2 := Lib.hid ho2; clear ho2)
  by_cases hk : k = 0
  · subst hk
    go_wp2_with fail
    (refine (pick (w.heap.size + 1) 1 4 _ Hhr2.out (by omega) (by omega)).mono ?_; rintro e w3 ⟨k1, rfl, hc0, hc1, ho3, hr3⟩; have hz3 := ho3.size; (repeat (first | rw [World.size_alloc] at hz3 | rw [World.size_setCell] at hz3 | rw [World.size_drew] at hz3)); have pp := T2.F ho3 (by omega) (b := w.heap.size) (x := _) (y := _) (by (repeat (first | ((with_reducible apply T2.mk) <;> (with_reducible assumption)) | (with_reducible apply T2.Z) | (with_reducible apply T2.O) | ((with_reducible apply T2.B); (focus (simp; done))) | (with_reducible apply T2.A) | (with_reducible apply T2.D) | ((with_reducible apply T2.S); focus ((repeat (first | rw [World.size_alloc] | rw [World.size_setCell] | rw [World.size_drew])); omega)) | ((with_reducible apply T2.K); (focus (with_reducible assumption)))))); obtain ⟨kk5, kk6, fkk5, fkk6⟩ := pp; (try clear kk3 kk4 fkk3 fkk4); have Hho3 := Lib.hid ho3; clear ho3)
    have ho : Off (w.heap.size + 1) w1 w3 := Hho2.out.trans Hho3.out
    have Ho := Lib.hid (ho.below (B := w.heap.size) (by omega) (by omega))
    clear ho hr3
    go_wp2_with fail
    (refine (l2Turn _ _ _ _ (by omega) (by omega) (by omega) (by omega) (by omega) (by omega)).mono ?_; rintro e w4 ⟨rfl, hb4⟩; have hz4 := hb4.size; (repeat (first | rw [World.size_alloc] at hz4 | rw [World.size_setCell] at hz4 | rw [World.size_drew] at hz4)); have pp := T2.K hb4 (b := w.heap.size) (x := _) (y := _) (by (repeat (first | ((with_reducible apply T2.mk) <;> (with_reducible assumption)) | (with_reducible apply T2.Z) | (with_reducible apply T2.O) | ((with_reducible apply T2.B); (focus (simp; done))) | (with_reducible apply T2.A) | (with_reducible apply T2.D) | ((with_reducible apply T2.S); focus ((repeat (first | rw [World.size_alloc] | rw [World.size_setCell] | rw [World.size_drew])); omega)) | ((with_reducible apply T2.K); (focus (with_reducible assumption)))))); obtain ⟨kk7, kk8, fkk7, fkk8⟩ := pp; (try clear kk5 kk6 fkk5 fkk6))
    go_wp2_with fail
    have hb1 := Hb1.out
    have ho := Ho.out
    refine bodyPost_ret (v := .agg #[.int .i64 (tuA k1 1 0), .int .i64 (tuB k1 1 0)]) (by simp [results, Try.results20, go_sem, *]) rfl ?_; exact ⟨_, _, rfl, Gd_unit hc0 (by omega), by (repeat' (first | (with_reducible exact Below.refl _ _) | (with_reducible refine Below.alloc ?_ ?_ _) | (with_reducible refine Below.drew ?_) | (with_reducible refine Below.setCell ?_ ?_ _) | (with_reducible refine Below.trans ?_ (Below.mono (by assumption) ?_)) | go_size))⟩
  · have hk2 : (k == 0) = false := by simpa using hk
    go_wp2_with fail
    (refine (l20Gauss (w.heap.size + 1) 1 9 _ Hhr2.out (by omega) (by omega)).mono ?_; rintro e w3 ⟨x, y, rfl, hg2, ho3, p2, hp1, hp2, hr3⟩; have hz3 := ho3.size; (repeat (first | rw [World.size_alloc] at hz3 | rw [World.size_setCell] at hz3 | rw [World.size_drew] at hz3)); have pp := T2.F ho3 (by omega) (b := w.heap.size) (x := _) (y := _) (by (repeat (first | ((with_reducible apply T2.mk) <;> (with_reducible assumption)) | (with_reducible apply T2.Z) | (with_reducible apply T2.O) | ((with_reducible apply T2.B); (focus (simp; done))) | (with_reducible apply T2.A) | (with_reducible apply T2.D) | ((with_reducible apply T2.S); focus ((repeat (first | rw [World.size_alloc] | rw [World.size_setCell] | rw [World.size_drew])); omega)) | ((with_reducible apply T2.K); (focus (with_reducible assumption)))))); obtain ⟨kk9, kk10, fkk9, fkk10⟩ := pp; (try clear kk7 kk8 fkk7 fkk8); have Hhg2 := Lib.hid hg2; clear hg2; have Hho3 := Lib.hid ho3; clear ho3)
    have ho : Off (w.heap.size + 1) w1 w3 := Hho2.out.trans Hho3.out
    have Ho := Lib.hid (ho.below (B := w.heap.size) (by omega) (by omega))
    clear ho hr3
    go_wp2_with fail
    have hb1 := Hb1.out
    have ho := Ho.out
    refine bodyPost_ret (v := .agg #[.int .i64 x, .int .i64 y]) (by simp [results, Try.results20, go_sem, *]) rfl ?_; exact ⟨x, y, rfl, Hhg2.out, by (repeat' (first | (with_reducible exact Below.refl _ _) | (with_reducible refine Below.alloc ?_ ?_ _) | (with_reducible refine Below.drew ?_) | (with_reducible refine Below.setCell ?_ ?_ _) | (with_reducible refine Below.trans ?_ (Below.mono (by assumption) ?_)) | go_size))⟩
end Go.Proofs.Ytnochfnmkenemaa
