import Derived.Test.YtnochfnmkenemaaSe
import Derived.Test.YtnochfnmkenemaaSh
import Derived.Test.YtnochfnmkenemaaZc
import Derived.Test.YtnochfnmkenemaaJe
import Derived.Test.YtnochfnmkenemaaHd
import Derived.Test.YtnochfnmkenemaaN
namespace Go.Proofs.Ytnochfnmkenemaa
open Go Go.RowKit
attribute [local go_sem] World.cell?_alloc_some cell?_alloc2_some cell?_alloc3_some cell?_alloc4_some frozen?_alloc_some frozen?_alloc2_some frozen?_alloc3_some World.cell?_setCell_far new_ne0 new_ne1 new_ne2 new_ne3 lt2 lt3 lt4 lt5 lt6 lt7 lt8 lt9

def Drawn0 (w : World) (e : Ending) (w' : World) : Prop := ∃ a b : Int, e = .returned (.agg #[.int .i64 a, .int .i64 b]) ∧ Below w.heap.size w w'
theorem drawFactorsOf (a : Option Addr) (len cap : Nat) (zs : List Int) (w : World) (h : IsRow .u8 w a len cap zs) :
    Calls Try.prog 11 #[.slice a len cap] w (Drawn0 w) := by
  go_enter Try.func11, Try.ntmps11
  go_wp2_with fail
  (refine (l20Open_at (w.heap.size + 1) a len cap zs _ h.alloc (by simp)).mono ?_; rintro e w1 ⟨rfl, hr1, hb1⟩; have hz1 := hb1.size; (repeat (first | rw [World.size_alloc] at hz1 | rw [World.size_setCell] at hz1 | rw [World.size_drew] at hz1)); have pp := T2.K hb1 (b := w.heap.size) (x := _) (y := _) (by (repeat (first | ((with_reducible apply T2.mk) <;> (with_reducible assumption)) | (with_reducible apply T2.Z) | (with_reducible apply T2.O) | ((with_reducible apply T2.B); (focus (simp; done))) | (with_reducible apply T2.A) | (with_reducible apply T2.D) | ((with_reducible apply T2.S); focus ((repeat (first | rw [World.size_alloc] | rw [World.size_setCell] | rw [World.size_drew])); omega)) | ((with_reducible apply T2.K); (focus (with_reducible assumption)))))); obtain ⟨kk1, kk2, fkk1, fkk2⟩ := pp)
  have Hr1 := Lib.hid hr1
  have Hb1 := Lib.hid hb1
  clear hr1 hb1
  go_wp2_with fail
  (refine (l20Divides (w.heap.size + 1) 0 _ Hr1.out (by omega)).mono ?_; rintro e w2 ⟨x, y, z, t, rfl, ho2⟩; have hz2 := ho2.size; (repeat (first | rw [World.size_alloc] at hz2 | rw [World.size_setCell] at hz2 | rw [World.size_drew] at hz2)); have pp := T2.F ho2 (by omega) (b := w.heap.size) (x := _) (y := _) (by (repeat (first | ((with_reducible apply T2.mk) <;> (with_reducible assumption)) | (with_reducible apply T2.Z) | (with_reducible apply T2.O) | ((with_reducible apply T2.B); (focus (simp; done))) | (with_reducible apply T2.A) | (with_reducible apply T2.D) | ((with_reducible apply T2.S); focus ((repeat (first | rw [World.size_alloc] | rw [World.size_setCell] | rw [World.size_drew])); omega)) | ((with_reducible apply T2.K); (focus (with_reducible assumption)))))); obtain ⟨kk3, kk4, fkk3, fkk4⟩ := pp; (try clear kk1 kk2 fkk1 fkk2))
  have Ho2 := Lib.hid (ho2.below (B := w.heap.size) (by omega) (by omega))
  clear ho2
  go_wp2_with fail
  have hb1 := Hb1.out
  have ho2 := Ho2.out
  refine bodyPost_ret (v := .agg #[.int .i64 x, .int .i64 y]) (by simp [results, Try.results11, go_sem, *]) rfl ?_; exact ⟨x, y, rfl, by (repeat' (first | (with_reducible exact Below.refl _ _) | (with_reducible refine Below.alloc ?_ ?_ _) | (with_reducible refine Below.drew ?_) | (with_reducible refine Below.setCell ?_ ?_ _) | (with_reducible refine Below.trans ?_ (Below.mono (by assumption) ?_)) | go_size))⟩
theorem drawSquareFreeOk (a : Option Addr) (len cap : Nat) (zs : List Int) (w : World) (h : IsRow .u8 w a len cap zs) :
    Calls Try.prog 28 #[.slice a len cap] w (Drawn0 w) := by
  go_enter Try.func28, Try.ntmps28
  go_wp2_with fail
  (refine (l20Open_at (w.heap.size + 1) a len cap zs _ h.alloc (by simp)).mono ?_; rintro e w1 ⟨rfl, hr1, hb1⟩; have hz1 := hb1.size; (repeat (first | rw [World.size_alloc] at hz1 | rw [World.size_setCell] at hz1 | rw [World.size_drew] at hz1)); have pp := T2.K hb1 (b := w.heap.size) (x := _) (y := _) (by (repeat (first | ((with_reducible apply T2.mk) <;> (with_reducible assumption)) | (with_reducible apply T2.Z) | (with_reducible apply T2.O) | ((with_reducible apply T2.B); (focus (simp; done))) | (with_reducible apply T2.A) | (with_reducible apply T2.D) | ((with_reducible apply T2.S); focus ((repeat (first | rw [World.size_alloc] | rw [World.size_setCell] | rw [World.size_drew])); omega)) | ((with_reducible apply T2.K); (focus (with_reducible assumption)))))); obtain ⟨kk1, kk2, fkk1, fkk2⟩ := pp)
  have Hr1 := Lib.hid hr1
  have Hb1 := Lib.hid hb1
  clear hr1 hb1
  go_wp2_with fail
  (refine (l20Divides (w.heap.size + 1) 0 _ Hr1.out (by omega)).mono ?_; rintro e w2 ⟨x, y, z, t, rfl, ho2⟩; have hz2 := ho2.size; (repeat (first | rw [World.size_alloc] at hz2 | rw [World.size_setCell] at hz2 | rw [World.size_drew] at hz2)); have pp := T2.F ho2 (by omega) (b := w.heap.size) (x := _) (y := _) (by (repeat (first | ((with_reducible apply T2.mk) <;> (with_reducible assumption)) | (with_reducible apply T2.Z) | (with_reducible apply T2.O) | ((with_reducible apply T2.B); (focus (simp; done))) | (with_reducible apply T2.A) | (with_reducible apply T2.D) | ((with_reducible apply T2.S); focus ((repeat (first | rw [World.size_alloc] | rw [World.size_setCell] | rw [World.size_drew])); omega)) | ((with_reducible apply T2.K); (focus (with_reducible assumption)))))); obtain ⟨kk3, kk4, fkk3, fkk4⟩ := pp; (try clear kk1 kk2 fkk1 fkk2))
  have Ho2 := Lib.hid (ho2.below (B := w.heap.size) (by omega) (by omega))
  clear ho2
  go_wp2_with fail
  have hb1 := Hb1.out
  have ho2 := Ho2.out
  refine bodyPost_ret (v := .agg #[.int .i64 x, .int .i64 y]) (by simp [results, Try.results28, go_sem, *]) rfl ?_; exact ⟨x, y, rfl, by (repeat' (first | (with_reducible exact Below.refl _ _) | (with_reducible refine Below.alloc ?_ ?_ _) | (with_reducible refine Below.drew ?_) | (with_reducible refine Below.setCell ?_ ?_ _) | (with_reducible refine Below.trans ?_ (Below.mono (by assumption) ?_)) | go_size))⟩

theorem Keep.of_off {R : Nat} {w w' : World} (h : Off R w w') : Keep (fun b => b ≠ R) w w' := ⟨h.os, h.tape, h.output, h.size, fun b hb hl => h.block b hb hl⟩
theorem Rd_keep {K : Nat → Prop} {W W' : World} {R p : Nat} (hk : Keep K W W') (hK : ∀ b, b ≤ R → K b) (h : Rd W R p) : Rd W' R p := by
  obtain ⟨a, l, c, h0, h1, hf, hB⟩ := h
  refine ⟨a, l, c, hk.cell (hK _ (Nat.le_refl _)) h0, hk.cell (hK _ (Nat.le_refl _)) h1, hk.frozen (hK _ (Nat.le_refl _)) h1 hf, ?_⟩
  rcases hB with h | ⟨b, off, rfl, hne, hl, hc⟩
  · exact .inl h
  · exact .inr ⟨b, off, rfl, hne, hl, fun i hi => by obtain ⟨z, hz, hcz⟩ := hc i hi; exact ⟨z, hz, hk.cell (hK _ (by dsimp only; omega)) hcz⟩⟩
theorem keep_two' {K : Nat → Prop} {V W : World} (h : Keep K V W) {b : Nat} {x y : Int} (hb : K b) (t : Two V b x y) : Two W b x y := ⟨h.cell hb t.c0, h.cell hb t.c1, h.frozen hb t.c0 t.f0, h.frozen hb t.c1 t.f1⟩

set_option maxRecDepth 100000 in
set_option maxHeartbeats 8000000 in
theorem drawOftenOf (a : Option Addr) (len cap : Nat) (zs : List Int) (w : World) (h : IsRow .u8 w a len cap zs) :
    Calls Try.prog 25 #[.slice a len cap] w (Drawn4 w) := by
  go_enter Try.func25, Try.ntmps25
  go_wp2_with fail
  (refine (l20Open_at (w.heap.size + 1 + 1) a len cap zs _ h.alloc.alloc (by simp)).mono ?_; rintro e w1 ⟨rfl, hr1, hb1⟩; have hz1 := hb1.size; (repeat (first | rw [World.size_alloc] at hz1 | rw [World.size_setCell] at hz1 | rw [World.size_drew] at hz1)); have pp := T2.K hb1 (b := w.heap.size) (x := _) (y := _) (by (repeat (first | ((with_reducible apply T2.mk) <;> (with_reducible assumption)) | (with_reducible apply T2.Z) | (with_reducible apply T2.O) | ((with_reducible apply T2.B); (focus (simp; done))) | (with_reducible apply T2.A) | (with_reducible apply T2.D) | ((with_reducible apply T2.S); focus ((repeat (first | rw [World.size_alloc] | rw [World.size_setCell] | rw [World.size_drew])); omega)) | ((with_reducible apply T2.K); (focus (with_reducible assumption)))))); obtain ⟨kk1, kk2, fkk1, fkk2⟩ := pp; have pp := T2.K hb1 (b := w.heap.size + 1) (x := _) (y := _) (by (repeat (first | ((with_reducible apply T2.mk) <;> (with_reducible assumption)) | (with_reducible apply T2.Z) | (with_reducible apply T2.O) | ((with_reducible apply T2.B); (focus (simp; done))) | (with_reducible apply T2.A) | (with_reducible apply T2.D) | ((with_reducible apply T2.S); focus ((repeat (first | rw [World.size_alloc] | rw [World.size_setCell] | rw [World.size_drew])); omega)) | ((with_reducible apply T2.K); (focus (with_reducible assumption)))))); obtain ⟨kk3, kk4, fkk3, fkk4⟩ := pp)
  have hRlt := Rd_lt hr1
  have Hr1 := Lib.hid hr1
  have Hb1 := Lib.hid hb1
  clear hr1 hb1
  go_wp2_with fail
  (refine (l20Gauss (w.heap.size + 1 + 1) 0 12 _ Hr1.out (by omega) (by omega)).mono ?_; rintro e w2 ⟨x, y, rfl, hg2, ho2, p2, hp1, hp2, hr2⟩; have hz2 := ho2.size; (repeat (first | rw [World.size_alloc] at hz2 | rw [World.size_setCell] at hz2 | rw [World.size_drew] at hz2)); have pp := T2.F ho2 (by omega) (b := w.heap.size) (x := _) (y := _) (by (repeat (first | ((with_reducible apply T2.mk) <;> (with_reducible assumption)) | (with_reducible apply T2.Z) | (with_reducible apply T2.O) | ((with_reducible apply T2.B); (focus (simp; done))) | (with_reducible apply T2.A) | (with_reducible apply T2.D) | ((with_reducible apply T2.S); focus ((repeat (first | rw [World.size_alloc] | rw [World.size_setCell] | rw [World.size_drew])); omega)) | ((with_reducible apply T2.K); (focus (with_reducible assumption)))))); obtain ⟨kk5, kk6, fkk5, fkk6⟩ := pp; have pp := T2.F ho2 (by omega) (b := w.heap.size + 1) (x := _) (y := _) (by (repeat (first | ((with_reducible apply T2.mk) <;> (with_reducible assumption)) | (with_reducible apply T2.Z) | (with_reducible apply T2.O) | ((with_reducible apply T2.B); (focus (simp; done))) | (with_reducible apply T2.A) | (with_reducible apply T2.D) | ((with_reducible apply T2.S); focus ((repeat (first | rw [World.size_alloc] | rw [World.size_setCell] | rw [World.size_drew])); omega)) | ((with_reducible apply T2.K); (focus (with_reducible assumption)))))); obtain ⟨kk7, kk8, fkk7, fkk8⟩ := pp; (try clear kk1 kk2 fkk1 fkk2 kk3 kk4 fkk3 fkk4); have Hhg2 := Lib.hid hg2; clear hg2; have Hhr2 := Lib.hid hr2; clear hr2; have Hho2 := Lib.hid ho2; clear ho2)
  go_wp2_with fail
  (refine (l20PrimeP (w.heap.size + 1 + 1) p2 _ (Rd_alloc Hhr2.out) (by omega)).mono ?_; rintro e w3 ⟨c, d, rfl, ho3, p3, hp3, hp4, hr3⟩; have hz3 := ho3.size; (repeat (first | rw [World.size_alloc] at hz3 | rw [World.size_setCell] at hz3 | rw [World.size_drew] at hz3)); have pp := T2.F ho3 (by omega) (b := w.heap.size) (x := _) (y := _) (by (repeat (first | ((with_reducible apply T2.mk) <;> (with_reducible assumption)) | (with_reducible apply T2.Z) | (with_reducible apply T2.O) | ((with_reducible apply T2.B); (focus (simp; done))) | (with_reducible apply T2.A) | (with_reducible apply T2.D) | ((with_reducible apply T2.S); focus ((repeat (first | rw [World.size_alloc] | rw [World.size_setCell] | rw [World.size_drew])); omega)) | ((with_reducible apply T2.K); (focus (with_reducible assumption)))))); obtain ⟨kk9, kk10, fkk9, fkk10⟩ := pp; have pp := T2.F ho3 (by omega) (b := w.heap.size + 1) (x := _) (y := _) (by (repeat (first | ((with_reducible apply T2.mk) <;> (with_reducible assumption)) | (with_reducible apply T2.Z) | (with_reducible apply T2.O) | ((with_reducible apply T2.B); (focus (simp; done))) | (with_reducible apply T2.A) | (with_reducible apply T2.D) | ((with_reducible apply T2.S); focus ((repeat (first | rw [World.size_alloc] | rw [World.size_setCell] | rw [World.size_drew])); omega)) | ((with_reducible apply T2.K); (focus (with_reducible assumption)))))); obtain ⟨kk11, kk12, fkk11, fkk12⟩ := pp; have pp := T2.F ho3 (by omega) (b := w2.heap.size) (x := _) (y := _) (by (repeat (first | ((with_reducible apply T2.mk) <;> (with_reducible assumption)) | (with_reducible apply T2.Z) | (with_reducible apply T2.O) | ((with_reducible apply T2.B); (focus (simp; done))) | (with_reducible apply T2.A) | (with_reducible apply T2.D) | ((with_reducible apply T2.S); focus ((repeat (first | rw [World.size_alloc] | rw [World.size_setCell] | rw [World.size_drew])); omega)) | ((with_reducible apply T2.K); (focus (with_reducible assumption)))))); obtain ⟨kk13, kk14, fkk13, fkk14⟩ := pp; (try clear kk5 kk6 fkk5 fkk6 kk7 kk8 fkk7 fkk8); have Hhr3 := Lib.hid hr3; clear hr3; have Hho3 := Lib.hid ho3; clear ho3)
  go_wp2_with fail
  (refine (pick (w.heap.size + 1 + 1) p3 4 _ (Rd_alloc Hhr3.out) (by omega) (by omega)).mono ?_; rintro e w4 ⟨k, rfl, hk0, hk1, ho4, hr4⟩; have hz4 := ho4.size; (repeat (first | rw [World.size_alloc] at hz4 | rw [World.size_setCell] at hz4 | rw [World.size_drew] at hz4)); have pp := T2.F ho4 (by omega) (b := w.heap.size) (x := _) (y := _) (by (repeat (first | ((with_reducible apply T2.mk) <;> (with_reducible assumption)) | (with_reducible apply T2.Z) | (with_reducible apply T2.O) | ((with_reducible apply T2.B); (focus (simp; done))) | (with_reducible apply T2.A) | (with_reducible apply T2.D) | ((with_reducible apply T2.S); focus ((repeat (first | rw [World.size_alloc] | rw [World.size_setCell] | rw [World.size_drew])); omega)) | ((with_reducible apply T2.K); (focus (with_reducible assumption)))))); obtain ⟨kk15, kk16, fkk15, fkk16⟩ := pp; have pp := T2.F ho4 (by omega) (b := w.heap.size + 1) (x := _) (y := _) (by (repeat (first | ((with_reducible apply T2.mk) <;> (with_reducible assumption)) | (with_reducible apply T2.Z) | (with_reducible apply T2.O) | ((with_reducible apply T2.B); (focus (simp; done))) | (with_reducible apply T2.A) | (with_reducible apply T2.D) | ((with_reducible apply T2.S); focus ((repeat (first | rw [World.size_alloc] | rw [World.size_setCell] | rw [World.size_drew])); omega)) | ((with_reducible apply T2.K); (focus (with_reducible assumption)))))); obtain ⟨kk17, kk18, fkk17, fkk18⟩ := pp; have pp := T2.F ho4 (by omega) (b := w2.heap.size) (x := _) (y := _) (by (repeat (first | ((with_reducible apply T2.mk) <;> (with_reducible assumption)) | (with_reducible apply T2.Z) | (with_reducible apply T2.O) | ((with_reducible apply T2.B); (focus (simp; done))) | (with_reducible apply T2.A) | (with_reducible apply T2.D) | ((with_reducible apply T2.S); focus ((repeat (first | rw [World.size_alloc] | rw [World.size_setCell] | rw [World.size_drew])); omega)) | ((with_reducible apply T2.K); (focus (with_reducible assumption)))))); obtain ⟨kk19, kk20, fkk19, fkk20⟩ := pp; have pp := T2.F ho4 (by omega) (b := w3.heap.size) (x := _) (y := _) (by (repeat (first | ((with_reducible apply T2.mk) <;> (with_reducible assumption)) | (with_reducible apply T2.Z) | (with_reducible apply T2.O) | ((with_reducible apply T2.B); (focus (simp; done))) | (with_reducible apply T2.A) | (with_reducible apply T2.D) | ((with_reducible apply T2.S); focus ((repeat (first | rw [World.size_alloc] | rw [World.size_setCell] | rw [World.size_drew])); omega)) | ((with_reducible apply T2.K); (focus (with_reducible assumption)))))); obtain ⟨kk21, kk22, fkk21, fkk22⟩ := pp; (try clear kk9 kk10 fkk9 fkk10 kk11 kk12 fkk11 fkk12 kk13 kk14 fkk13 fkk14); have Hhr4 := Lib.hid hr4; clear hr4; have Hho4 := Lib.hid ho4; clear ho4)
  have ho2 := Hho2.out
  have ho3 := Hho3.out
  have ho4 := Hho4.out
  have hO : Off (w.heap.size + 1 + 1) w1 w4 := by (repeat' (first | (with_reducible exact Off.refl _ _) | (with_reducible apply Off.alloc) | (with_reducible apply Off.drew) | ((with_reducible apply Off.setCell); focus (first | omega | (simp; done) | (simp; omega))) | (with_reducible refine Off.trans ?_ (by assumption))))
  have hB4 : Below w.heap.size w w4 := by have hb1 := Hb1.out; have h4 := hO.below (B := w.heap.size) (by omega) (by omega); (repeat' (first | (with_reducible exact Below.refl _ _) | (with_reducible refine Below.alloc ?_ ?_ _) | (with_reducible refine Below.drew ?_) | (with_reducible refine Below.setCell ?_ ?_ _) | (with_reducible refine Below.trans ?_ (Below.mono (by assumption) ?_)) | go_size))
  clear ho2 ho3 ho4 hO
  have hs3 : w3.heap.size < w4.heap.size := by omega
  have hs2 : w2.heap.size < w3.heap.size := by omega
  clear Hr1 Hb1 Hhr2 Hhr3 Hhr4 Hho2 Hho3 Hho4 Hhg2
  go_wp2_with fail
  go_loopw [7] (fun u wr => ∃ (k x y : Int), u = .int .i64 k ∧ 0 ≤ k ∧ k ≤ 10 ∧ Two wr w2.heap.size x y ∧ Two wr w3.heap.size c d ∧ Two wr w.heap.size 0 0 ∧ Two wr (w.heap.size + 1) 0 0 ∧ Below w.heap.size w wr ∧ w3.heap.size < wr.heap.size) (fun u _ => (intOf u).toNat)
  case atStart => exact ⟨k, x, y, rfl, by omega, by omega, (Two.of (by (repeat (first | ((with_reducible apply T2.mk) <;> (with_reducible assumption)) | (with_reducible apply T2.Z) | (with_reducible apply T2.O) | ((with_reducible apply T2.B); (focus (simp; done))) | (with_reducible apply T2.A) | (with_reducible apply T2.D) | ((with_reducible apply T2.S); focus ((repeat (first | rw [World.size_alloc] | rw [World.size_setCell] | rw [World.size_drew])); omega)) | ((with_reducible apply T2.K); (focus (with_reducible assumption))))))), (Two.of (by (repeat (first | ((with_reducible apply T2.mk) <;> (with_reducible assumption)) | (with_reducible apply T2.Z) | (with_reducible apply T2.O) | ((with_reducible apply T2.B); (focus (simp; done))) | (with_reducible apply T2.A) | (with_reducible apply T2.D) | ((with_reducible apply T2.S); focus ((repeat (first | rw [World.size_alloc] | rw [World.size_setCell] | rw [World.size_drew])); omega)) | ((with_reducible apply T2.K); (focus (with_reducible assumption))))))), (Two.of (by (repeat (first | ((with_reducible apply T2.mk) <;> (with_reducible assumption)) | (with_reducible apply T2.Z) | (with_reducible apply T2.O) | ((with_reducible apply T2.B); (focus (simp; done))) | (with_reducible apply T2.A) | (with_reducible apply T2.D) | ((with_reducible apply T2.S); focus ((repeat (first | rw [World.size_alloc] | rw [World.size_setCell] | rw [World.size_drew])); omega)) | ((with_reducible apply T2.K); (focus (with_reducible assumption))))))), (Two.of (by (repeat (first | ((with_reducible apply T2.mk) <;> (with_reducible assumption)) | (with_reducible apply T2.Z) | (with_reducible apply T2.O) | ((with_reducible apply T2.B); (focus (simp; done))) | (with_reducible apply T2.A) | (with_reducible apply T2.D) | ((with_reducible apply T2.S); focus ((repeat (first | rw [World.size_alloc] | rw [World.size_setCell] | rw [World.size_drew])); omega)) | ((with_reducible apply T2.K); (focus (with_reducible assumption))))))), hB4, hs3⟩
  case round =>
    clear hB4 hs3
    obtain ⟨k, x, y, rfl, hk0, hk1, ⟨z0, z1, z2, z3⟩, ⟨p0, p1, p2', p3'⟩, ⟨r0, r1, r2, r3⟩, ⟨q0, q1, q2, q3⟩, hb, hs⟩ := hrel
    have hbs := hb.size
    by_cases hk : 0 < k
    · have hd : decide (0 < k) = true := decide_eq_true hk
      go_wp2_with fail
      (refine (sTimesOf x y c d _).mono ?_; rintro e w5 ⟨rfl, hb5⟩; have hz5 := hb5.size; (repeat (first | rw [World.size_alloc] at hz5 | rw [World.size_setCell] at hz5 | rw [World.size_drew] at hz5)); have pp := T2.K hb5 (b := w2.heap.size) (x := _) (y := _) (by (repeat (first | ((with_reducible apply T2.mk) <;> (with_reducible assumption)) | (with_reducible apply T2.Z) | (with_reducible apply T2.O) | ((with_reducible apply T2.B); (focus (simp; done))) | (with_reducible apply T2.A) | (with_reducible apply T2.D) | ((with_reducible apply T2.S); focus ((repeat (first | rw [World.size_alloc] | rw [World.size_setCell] | rw [World.size_drew])); omega)) | ((with_reducible apply T2.K); (focus (with_reducible assumption)))))); obtain ⟨kk23, kk24, fkk23, fkk24⟩ := pp; have pp := T2.K hb5 (b := w3.heap.size) (x := _) (y := _) (by (repeat (first | ((with_reducible apply T2.mk) <;> (with_reducible assumption)) | (with_reducible apply T2.Z) | (with_reducible apply T2.O) | ((with_reducible apply T2.B); (focus (simp; done))) | (with_reducible apply T2.A) | (with_reducible apply T2.D) | ((with_reducible apply T2.S); focus ((repeat (first | rw [World.size_alloc] | rw [World.size_setCell] | rw [World.size_drew])); omega)) | ((with_reducible apply T2.K); (focus (with_reducible assumption)))))); obtain ⟨kk25, kk26, fkk25, fkk26⟩ := pp; have pp := T2.K hb5 (b := w.heap.size) (x := _) (y := _) (by (repeat (first | ((with_reducible apply T2.mk) <;> (with_reducible assumption)) | (with_reducible apply T2.Z) | (with_reducible apply T2.O) | ((with_reducible apply T2.B); (focus (simp; done))) | (with_reducible apply T2.A) | (with_reducible apply T2.D) | ((with_reducible apply T2.S); focus ((repeat (first | rw [World.size_alloc] | rw [World.size_setCell] | rw [World.size_drew])); omega)) | ((with_reducible apply T2.K); (focus (with_reducible assumption)))))); obtain ⟨kk27, kk28, fkk27, fkk28⟩ := pp; have pp := T2.K hb5 (b := w.heap.size + 1) (x := _) (y := _) (by (repeat (first | ((with_reducible apply T2.mk) <;> (with_reducible assumption)) | (with_reducible apply T2.Z) | (with_reducible apply T2.O) | ((with_reducible apply T2.B); (focus (simp; done))) | (with_reducible apply T2.A) | (with_reducible apply T2.D) | ((with_reducible apply T2.S); focus ((repeat (first | rw [World.size_alloc] | rw [World.size_setCell] | rw [World.size_drew])); omega)) | ((with_reducible apply T2.K); (focus (with_reducible assumption)))))); obtain ⟨kk29, kk30, fkk29, fkk30⟩ := pp; (try clear kk15 kk16 fkk15 fkk16 kk17 kk18 fkk17 fkk18 kk19 kk20 fkk19 fkk20 kk21 kk22 fkk21 fkk22))
      have m1 : (w2.heap.size = w5.heap.size) = False := by simp; omega
      have m2 : (w5.heap.size = w2.heap.size) = False := by simp; omega
      clear z0 z1 z2 z3 p0 p1 p2' p3' r0 r1 r2 r3 q0 q1 q2 q3
      cases tiO x y c d
      · go_wp2_with fail
        go_roundw
        case rel => exact ⟨k - 1, x, y, by simp, by omega, by omega, (Two.of (by (repeat (first | ((with_reducible apply T2.mk) <;> (with_reducible assumption)) | (with_reducible apply T2.Z) | (with_reducible apply T2.O) | ((with_reducible apply T2.B); (focus (simp; done))) | (with_reducible apply T2.A) | (with_reducible apply T2.D) | ((with_reducible apply T2.S); focus ((repeat (first | rw [World.size_alloc] | rw [World.size_setCell] | rw [World.size_drew])); omega)) | ((with_reducible apply T2.K); (focus (with_reducible assumption))))))), (Two.of (by (repeat (first | ((with_reducible apply T2.mk) <;> (with_reducible assumption)) | (with_reducible apply T2.Z) | (with_reducible apply T2.O) | ((with_reducible apply T2.B); (focus (simp; done))) | (with_reducible apply T2.A) | (with_reducible apply T2.D) | ((with_reducible apply T2.S); focus ((repeat (first | rw [World.size_alloc] | rw [World.size_setCell] | rw [World.size_drew])); omega)) | ((with_reducible apply T2.K); (focus (with_reducible assumption))))))), (Two.of (by (repeat (first | ((with_reducible apply T2.mk) <;> (with_reducible assumption)) | (with_reducible apply T2.Z) | (with_reducible apply T2.O) | ((with_reducible apply T2.B); (focus (simp; done))) | (with_reducible apply T2.A) | (with_reducible apply T2.D) | ((with_reducible apply T2.S); focus ((repeat (first | rw [World.size_alloc] | rw [World.size_setCell] | rw [World.size_drew])); omega)) | ((with_reducible apply T2.K); (focus (with_reducible assumption))))))), (Two.of (by (repeat (first | ((with_reducible apply T2.mk) <;> (with_reducible assumption)) | (with_reducible apply T2.Z) | (with_reducible apply T2.O) | ((with_reducible apply T2.B); (focus (simp; done))) | (with_reducible apply T2.A) | (with_reducible apply T2.D) | ((with_reducible apply T2.S); focus ((repeat (first | rw [World.size_alloc] | rw [World.size_setCell] | rw [World.size_drew])); omega)) | ((with_reducible apply T2.K); (focus (with_reducible assumption))))))), by (repeat' (first | (with_reducible exact Below.refl _ _) | (with_reducible refine Below.alloc ?_ ?_ _) | (with_reducible refine Below.drew ?_) | (with_reducible refine Below.setCell ?_ ?_ _) | (with_reducible refine Below.trans ?_ (Below.mono (by assumption) ?_)) | go_size)), by simp; omega⟩
        case measure => simp [intOf]; omega
      · go_wp2_with fail
        go_roundw
        case rel => exact ⟨k - 1, tiA x y c d, tiB x y c d, by simp, by omega, by omega, (Two.of (by (repeat (first | ((with_reducible apply T2.mk) <;> (with_reducible assumption)) | (with_reducible apply T2.Z) | (with_reducible apply T2.O) | ((with_reducible apply T2.B); (focus (simp; done))) | (with_reducible apply T2.A) | (with_reducible apply T2.D) | ((with_reducible apply T2.S); focus ((repeat (first | rw [World.size_alloc] | rw [World.size_setCell] | rw [World.size_drew])); omega)) | ((with_reducible apply T2.K); (focus (with_reducible assumption))))))), (Two.of (by (repeat (first | ((with_reducible apply T2.mk) <;> (with_reducible assumption)) | (with_reducible apply T2.Z) | (with_reducible apply T2.O) | ((with_reducible apply T2.B); (focus (simp; done))) | (with_reducible apply T2.A) | (with_reducible apply T2.D) | ((with_reducible apply T2.S); focus ((repeat (first | rw [World.size_alloc] | rw [World.size_setCell] | rw [World.size_drew])); omega)) | ((with_reducible apply T2.K); (focus (with_reducible assumption))))))), (Two.of (by (repeat (first | ((with_reducible apply T2.mk) <;> (with_reducible assumption)) | (with_reducible apply T2.Z) | (with_reducible apply T2.O) | ((with_reducible apply T2.B); (focus (simp; done))) | (with_reducible apply T2.A) | (with_reducible apply T2.D) | ((with_reducible apply T2.S); focus ((repeat (first | rw [World.size_alloc] | rw [World.size_setCell] | rw [World.size_drew])); omega)) | ((with_reducible apply T2.K); (focus (with_reducible assumption))))))), (Two.of (by (repeat (first | ((with_reducible apply T2.mk) <;> (with_reducible assumption)) | (with_reducible apply T2.Z) | (with_reducible apply T2.O) | ((with_reducible apply T2.B); (focus (simp; done))) | (with_reducible apply T2.A) | (with_reducible apply T2.D) | ((with_reducible apply T2.S); focus ((repeat (first | rw [World.size_alloc] | rw [World.size_setCell] | rw [World.size_drew])); omega)) | ((with_reducible apply T2.K); (focus (with_reducible assumption))))))), by (repeat' (first | (with_reducible exact Below.refl _ _) | (with_reducible refine Below.alloc ?_ ?_ _) | (with_reducible refine Below.drew ?_) | (with_reducible refine Below.setCell ?_ ?_ _) | (with_reducible refine Below.trans ?_ (Below.mono (by assumption) ?_)) | go_size)), by simp; omega⟩
        case measure => simp [intOf]; omega
    · have hd : decide (0 < k) = false := decide_eq_false hk
      go_wp2_with fail
      go_region
      all_goals go_wp2_with fail
      all_goals refine bodyPost_ret (v := .tuple #[.agg #[.int .i64 x, .int .i64 y], .agg #[.int .i64 c, .int .i64 d]]) (by simp [results, Try.results25, go_sem, *]) rfl ?_; exact ⟨x, y, c, d, rfl, by (repeat' (first | (with_reducible exact Below.refl _ _) | (with_reducible refine Below.alloc ?_ ?_ _) | (with_reducible refine Below.drew ?_) | (with_reducible refine Below.setCell ?_ ?_ _) | (with_reducible refine Below.trans ?_ (Below.mono (by assumption) ?_)) | go_size))⟩

/-- A number of times and a list were drawn. -/
def DrawnTL (w : World) (e : Ending) (w' : World) : Prop := ∃ (t : Int) (l : List (Int × Int)) (v : Value), e = .returned (.tuple #[.int .i64 t, v]) ∧ GS w' w.heap.size v l ∧ l.length ≤ 25 ∧ Below w.heap.size w w'
set_option maxRecDepth 100000 in
set_option maxHeartbeats 8000000 in
theorem drawProductOf (a : Option Addr) (len cap : Nat) (zs : List Int) (w : World) (h : IsRow .u8 w a len cap zs) :
    Calls Try.prog 22 #[.slice a len cap] w (DrawnTL w) := by
  obtain ⟨i, hi, gz0, gz1, gz2⟩ := info_parts gauss_info
  go_enter Try.func22, Try.ntmps22
  go_wp2_with fail
  (refine (l20Open_at w.heap.size a len cap zs _ h rfl).mono ?_; rintro e w1 ⟨rfl, hr1, hb1⟩; have hz1 := hb1.size; (repeat (first | rw [World.size_alloc] at hz1 | rw [World.size_setCell] at hz1 | rw [World.size_drew] at hz1)))
  have hRlt := Rd_lt hr1
  have Hr1 := Lib.hid hr1
  have Hb1 := Lib.hid hb1
  clear hr1 hb1
  go_wp2_with fail
  (refine (pick w.heap.size 0 5 _ (Rd_alloc Hr1.out) (by omega) (by omega)).mono ?_; rintro e w2 ⟨k, rfl, hk0, hk1, ho2, hr2⟩; have hz2 := ho2.size; (repeat (first | rw [World.size_alloc] at hz2 | rw [World.size_setCell] at hz2 | rw [World.size_drew] at hz2)); have Hhr2 := Lib.hid hr2; clear hr2)
  have hgE : GS (w1.alloc (.cells #[] 24)) (w.heap.size + 1) (.slice (some ⟨w1.heap.size, 0, none⟩) 0 0) [] := World.ownsRow_lit w1 #[] 0 (by omega) (by decide) rfl
  have hg2 := hgE.kept (Keep.of_off ho2) (fun g hg => by have := (hgE.lt g hg).1; omega)
  have hB2 : Below w.heap.size w w2 := by
    have hb1 := Hb1.out
    have h4 := ho2.below (B := w.heap.size) (by omega) (by simp; omega)
    (repeat' (first | (with_reducible exact Below.refl _ _) | (with_reducible refine Below.alloc ?_ ?_ _) | (with_reducible refine Below.drew ?_) | (with_reducible refine Below.setCell ?_ ?_ _) | (with_reducible refine Below.trans ?_ (Below.mono (by assumption) ?_)) | go_size))
  have HG := Lib.hid hg2
  clear hg2 hgE ho2 Hr1 Hb1
  have hsz : w.heap.size + 1 ≤ w2.heap.size := by omega
  go_wp2_with fail
  go_loopw [5, 6] (fun v u wr => ∃ (k : Int) (l : List (Int × Int)) (p : Nat), u = .int .i64 k ∧ 0 ≤ k ∧ (l.length : Int) + k ≤ 5 ∧ (p : Int) + 10 * k ≤ 100 ∧ Hid (GS wr (w.heap.size + 1) v l) ∧ Hid (Rd wr w.heap.size p) ∧ Below w.heap.size w wr ∧ w.heap.size + 1 ≤ wr.heap.size) (fun _ u _ => (intOf u).toNat)
  case atStart => exact ⟨k, [], 0 + 1, rfl, by omega, by simp; omega, by simp; omega, HG, Hhr2, hB2, hsz⟩
  case round =>
    clear HG Hhr2 hB2 hsz
    obtain ⟨k, l, p, rfl, hk0, hlk, hpk, HG, HR, hb, hs⟩ := hrel
    by_cases hk : 0 < k
    · have hd : decide (0 < k) = true := decide_eq_true hk
      go_wp2_with fail
      refine (l20PrimeP w.heap.size p _ HR.out (by omega)).mono ?_
      rintro e w3 ⟨c, d, rfl, ho3, p3, hp3, hp4, hr3⟩
      have hg3 := HG.out.kept (Keep.of_off ho3) (fun g hg => by have := (HG.out.lt g hg).1; omega)
      have hs3 := ho3.size
      have hb3 := hb.trans (ho3.below (B := w.heap.size) (Nat.le_refl _) (by omega))
      have HR3 := Lib.hid hr3
      have HG3 := Lib.hid hg3
      have hl8 : l.length + [(c, d)].length ≤ 8000000 := by simp only [List.length_cons, List.length_nil]; omega
      clear HG HR ho3 hr3 hg3 hb
      go_wp2_with (at_builtin; refine appLPl _ rfl _ _ rfl (w.heap.size + 1) _ l [(c, d)] rfl (GS.alloc HG3.out _) (w3.heap.size + 1) _ rfl (lo_new rfl) hl8 (by simp; omega) ?_; intro v8 w8 hg8 hgr8 hat8)
      have hk8 := grown_keep hgr8
      have hne : ∀ b, b < w.heap.size + 1 → some b ≠ _ := fun b hb => (HG3.out.ne (X := b) hb)
      have hr8 : Rd w8 w.heap.size p3 := Rd_keep hk8 (fun b hb => hne b (by omega)) (Rd_alloc HR3.out)
      have hb8 : Below w.heap.size w w8 := by
        have h1 : Below w.heap.size w (w3.alloc (.cells #[.int .i64 c, .int .i64 d] 24)) := by (repeat' (first | (with_reducible exact Below.refl _ _) | (with_reducible refine Below.alloc ?_ ?_ _) | (with_reducible refine Below.drew ?_) | (with_reducible refine Below.setCell ?_ ?_ _) | (with_reducible refine Below.trans ?_ (Below.mono (by assumption) ?_)) | go_size))
        exact h1.trans (hk8.below (fun b hb => hne b (by omega)) (by simp; omega))
      have hs8 := hk8.size
      rw [World.size_alloc] at hs8
      have HG8 := Lib.hid hg8
      have HR8 := Lib.hid hr8
      clear hg8 hgr8 hat8 hk8 hne hr8
      go_roundw
      case rel => exact ⟨k - 1, l ++ [(c, d)], p3, by simp, by omega, by simp; omega, by omega, HG8, HR8, hb8, by omega⟩
      case measure => simp [intOf]; omega
    · have hd : decide (0 < k) = false := decide_eq_false hk
      have hlen : l.length ≤ 25 := by omega
      go_wp2_with fail
      refine (odd w.heap.size p 20 _ HR.out (by omega) (by omega)).mono ?_
      rintro e w3 ⟨b, rfl, ho3, p3, hp3, hp4, hr3⟩
      have hg3 := HG.out.kept (Keep.of_off ho3) (fun g hg => by have := (HG.out.lt g hg).1; omega)
      have hs3 := ho3.size
      have hb3 := hb.trans (ho3.below (B := w.heap.size) (Nat.le_refl _) (by omega))
      have HR3 := Lib.hid hr3
      have HG3 := Lib.hid hg3
      clear HG HR ho3 hr3 hg3 hb
      cases b
      · go_wp2_with fail
        (refine (pick w.heap.size p3 4 _ HR3.out (by omega) (by omega)).mono ?_; rintro e w4 ⟨k1, rfl, ha0, ha1, ho4, hr4⟩; have hz4 := ho4.size; (repeat (first | rw [World.size_alloc] at hz4 | rw [World.size_setCell] at hz4 | rw [World.size_drew] at hz4)); have Hhr4 := Lib.hid hr4; clear hr4; have Hho4 := Lib.hid ho4; clear ho4)
        go_wp2_with fail
        (refine (pick w.heap.size (p3 + 1) 20 _ Hhr4.out (by omega) (by omega)).mono ?_; rintro e w5 ⟨k2, rfl, hc0, hc1, ho5, hr5⟩; have hz5 := ho5.size; (repeat (first | rw [World.size_alloc] at hz5 | rw [World.size_setCell] at hz5 | rw [World.size_drew] at hz5)); have Hhr5 := Lib.hid hr5; clear hr5; have Hho5 := Lib.hid ho5; clear ho5)
        have hO : Off w.heap.size w3 w5 := Hho4.out.trans Hho5.out
        have hg5 := HG3.out.kept (Keep.of_off hO) (fun g hg => by have := (HG3.out.lt g hg).1; omega)
        have hb5 := hb3.trans (hO.below (B := w.heap.size) (Nat.le_refl _) (by omega))
        have HG5 := Lib.hid hg5
        clear hg5 hO HG3
        go_wp2_with fail
        go_returns
        exact ⟨_, l, _, rfl, HG5.out.mono (by omega), hlen, hb5⟩
      · go_wp2_with (at_make; refine wpList_make_full _ rfl _ _ 26 rfl w3.heap.size 24 i _ 2 Try.underlying26 hi gz0 gz1 _ _ _ _ 25 rfl rfl (by simp) (by simp) (by rw [gz2]; omega) (by unfold maxLen; omega) (Nat.le_refl _) ?_; intro w4 hown hgr; have hrow := row_made rfl hown (0, 0); have hbm := below_grown hgr; clear hown hgr)
        have hr4 : Rd w4 w.heap.size p3 := Rd_below hbm HR3.out
        have hgm : GS w4 w3.heap.size (.slice (some ⟨w3.heap.size, 0, none⟩) 25 25) (RepL (0, 0) 25 0) := by
          have h := Row.gs hrow (base := w3.heap.size) (Nat.le_refl _) (by rw [rep_len (by omega)]; omega)
          rwa [rep_len (by omega)] at h
        have hbw := hb3.trans (hbm.mono (by omega))
        have hsm := hbm.size
        have HR4 := Lib.hid hr4
        have HG4 := Lib.hid hgm
        clear hrow hgm hr4 hb3 HR3 HG3 hbm
        (refine (pick w.heap.size p3 4 _ HR4.out (by omega) (by omega)).mono ?_; rintro e w5 ⟨k1, rfl, ha0, ha1, ho5, hr5⟩; have hz5 := ho5.size; (repeat (first | rw [World.size_alloc] at hz5 | rw [World.size_setCell] at hz5 | rw [World.size_drew] at hz5)); have Hhr5 := Lib.hid hr5; clear hr5; have Hho5 := Lib.hid ho5; clear ho5)
        go_wp2_with fail
        (refine (pick w.heap.size (p3 + 1) 20 _ Hhr5.out (by omega) (by omega)).mono ?_; rintro e w6 ⟨k2, rfl, hc0, hc1, ho6, hr6⟩; have hz6 := ho6.size; (repeat (first | rw [World.size_alloc] at hz6 | rw [World.size_setCell] at hz6 | rw [World.size_drew] at hz6)); have Hhr6 := Lib.hid hr6; clear hr6; have Hho6 := Lib.hid ho6; clear ho6)
        have hO : Off w.heap.size w4 w6 := Hho5.out.trans Hho6.out
        have hg6 := HG4.out.kept (Keep.of_off hO) (fun g hg => by have := (HG4.out.lt g hg).1; omega)
        have hb6 := hbw.trans (hO.below (B := w.heap.size) (Nat.le_refl _) (by omega))
        have HG6 := Lib.hid hg6
        clear hg6 hO HG4
        go_wp2_with fail
        go_returns
        exact ⟨_, _, _, rfl, HG6.out.mono (by omega), by rw [rep_len (by omega)]; omega, hb6⟩
end Go.Proofs.Ytnochfnmkenemaa
