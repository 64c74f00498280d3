import Derived.Test.YtnochfnmkenemaaD
import Derived.Test.YtnochfnmkenemaaN
import Derived.BigRegion
import Derived.Deep.RegionWith
import Derived.IntWalk
namespace Go.Proofs.Ytnochfnmkenemaa
open Go Go.RowKit
attribute [local go_sem] World.cell?_alloc_some cell?_alloc2_some cell?_alloc3_some cell?_alloc4_some frozen?_alloc_some frozen?_alloc2_some frozen?_alloc3_some World.cell?_setCell_far new_ne0 new_ne1 new_ne2 new_ne3 lt2 lt3 lt4 lt5 lt6 lt7 lt8 lt9
def Drawn4 (w : World) (e : Ending) (w' : World) : Prop := ∃ a b c d : Int, e = .returned (.tuple #[.agg #[.int .i64 a, .int .i64 b], .agg #[.int .i64 c, .int .i64 d]]) ∧ Below w.heap.size w w'
def Gdrawn4 (R : Nat) (w : World) (e : Ending) (w' : World) : Prop := ∃ a b c d : Int, e = .returned (.tuple #[.agg #[.int .i64 a, .int .i64 b], .agg #[.int .i64 c, .int .i64 d]]) ∧ Off R w w'
theorem Rd_below {w w' : World} {R p : Nat} (hb : Below w.heap.size w w') (h : Rd w R p) : Rd w' R p := by
  obtain ⟨a, l, c, h0, h1, hf, hB⟩ := h
  refine ⟨a, l, c, keep hb h0, keep hb h1, keepF hb h1 hf, ?_⟩
  rcases hB with h | ⟨b, off, rfl, hne, hl, hc⟩
  · exact .inl h
  · exact .inr ⟨b, off, rfl, hne, hl, fun i hi => by obtain ⟨z, hz, hcz⟩ := hc i hi; exact ⟨z, hz, keep hb hcz⟩⟩

set_option maxHeartbeats 2000000 in
theorem l20Divides (R p : Nat) (w : World) (h : Rd w R p) (hp : p ≤ 800000000) :
    Calls Try.prog 39 #[.pointer (some ⟨R, 0, none⟩)] w (Gdrawn4 R w) := by
  have hR := Rd_lt h
  have H := Lib.hid h
  clear h
  go_enter Try.func39, Try.ntmps39
  go_wp2_with fail
  (refine (l20Two R p _ (Rd_alloc (Rd_alloc H.out)) (by omega)).mono ?_; rintro e w1 ⟨a, b, c, d, rfl, hg1, hg2, ho1, p2, hp1, hp2, hr1⟩; have hz1 := ho1.size; (repeat (first | rw [World.size_alloc] at hz1 | rw [World.size_setCell] at hz1 | rw [World.size_drew] at hz1)); have pp := T2.F ho1 (by omega) (b := w.heap.size) (x := _) (y := _) (by (repeat (first | ((with_reducible apply T2.mk) <;> (with_reducible assumption)) | (with_reducible apply T2.Z) | (with_reducible apply T2.O) | ((with_reducible apply T2.B); (focus (simp; done))) | (with_reducible apply T2.A) | (with_reducible apply T2.D) | ((with_reducible apply T2.S); focus ((repeat (first | rw [World.size_alloc] | rw [World.size_setCell] | rw [World.size_drew])); omega)) | ((with_reducible apply T2.K); (focus (with_reducible assumption)))))); obtain ⟨kk1, kk2, fkk1, fkk2⟩ := pp; have pp := T2.F ho1 (by omega) (b := w.heap.size + 1) (x := _) (y := _) (by (repeat (first | ((with_reducible apply T2.mk) <;> (with_reducible assumption)) | (with_reducible apply T2.Z) | (with_reducible apply T2.O) | ((with_reducible apply T2.B); (focus (simp; done))) | (with_reducible apply T2.A) | (with_reducible apply T2.D) | ((with_reducible apply T2.S); focus ((repeat (first | rw [World.size_alloc] | rw [World.size_setCell] | rw [World.size_drew])); omega)) | ((with_reducible apply T2.K); (focus (with_reducible assumption)))))); obtain ⟨kk3, kk4, fkk3, fkk4⟩ := pp; have Hhr1 := Lib.hid hr1; clear hr1; have Hho1 := Lib.hid ho1; clear ho1)
  clear hg1 hg2
  go_wp2_with fail
  (refine (pick R p2 2 _ (Rd_alloc (Rd_alloc Hhr1.out)) (by omega) (by omega)).mono ?_; rintro e w2 ⟨k, rfl, hk0, hk1, ho2, hr2⟩; have hz2 := ho2.size; (repeat (first | rw [World.size_alloc] at hz2 | rw [World.size_setCell] at hz2 | rw [World.size_drew] at hz2)); have pp := T2.F ho2 (by omega) (b := w.heap.size) (x := _) (y := _) (by (repeat (first | ((with_reducible apply T2.mk) <;> (with_reducible assumption)) | (with_reducible apply T2.Z) | (with_reducible apply T2.O) | ((with_reducible apply T2.B); (focus (simp; done))) | (with_reducible apply T2.A) | (with_reducible apply T2.D) | ((with_reducible apply T2.S); focus ((repeat (first | rw [World.size_alloc] | rw [World.size_setCell] | rw [World.size_drew])); omega)) | ((with_reducible apply T2.K); (focus (with_reducible assumption)))))); obtain ⟨kk5, kk6, fkk5, fkk6⟩ := pp; have pp := T2.F ho2 (by omega) (b := w.heap.size + 1) (x := _) (y := _) (by (repeat (first | ((with_reducible apply T2.mk) <;> (with_reducible assumption)) | (with_reducible apply T2.Z) | (with_reducible apply T2.O) | ((with_reducible apply T2.B); (focus (simp; done))) | (with_reducible apply T2.A) | (with_reducible apply T2.D) | ((with_reducible apply T2.S); focus ((repeat (first | rw [World.size_alloc] | rw [World.size_setCell] | rw [World.size_drew])); omega)) | ((with_reducible apply T2.K); (focus (with_reducible assumption)))))); obtain ⟨kk7, kk8, fkk7, fkk8⟩ := pp; have pp := C2.F ho2 (by omega) (b := w1.heap.size) (x := _) (y := _) (by (repeat (first | ((with_reducible apply C2.mk) <;> (with_reducible assumption)) | (with_reducible apply C2.Z) | (with_reducible apply C2.O) | ((with_reducible apply C2.B); (focus (simp; done))) | (with_reducible apply C2.A) | (with_reducible apply C2.D) | ((with_reducible apply C2.S); focus ((repeat (first | rw [World.size_alloc] | rw [World.size_setCell] | rw [World.size_drew])); omega)) | ((with_reducible apply C2.K); (focus (with_reducible assumption)))))); obtain ⟨kk9, kk10⟩ := pp; have pp := C2.F ho2 (by omega) (b := w1.heap.size + 1) (x := _) (y := _) (by (repeat (first | ((with_reducible apply C2.mk) <;> (with_reducible assumption)) | (with_reducible apply C2.Z) | (with_reducible apply C2.O) | ((with_reducible apply C2.B); (focus (simp; done))) | (with_reducible apply C2.A) | (with_reducible apply C2.D) | ((with_reducible apply C2.S); focus ((repeat (first | rw [World.size_alloc] | rw [World.size_setCell] | rw [World.size_drew])); omega)) | ((with_reducible apply C2.K); (focus (with_reducible assumption)))))); obtain ⟨kk11, kk12⟩ := pp; (try clear kk1 kk2 fkk1 fkk2 kk3 kk4 fkk3 fkk4); have Hhr2 := Lib.hid hr2; clear hr2; have Hho2 := Lib.hid ho2; clear ho2)
  by_cases hk : k = 0
  · subst hk
    go_wp2_with fail
    (refine (sTimesOf a b c d _).mono ?_; rintro e w3 ⟨rfl, hb3⟩; have hz3 := hb3.size; (repeat (first | rw [World.size_alloc] at hz3 | rw [World.size_setCell] at hz3 | rw [World.size_drew] at hz3)); have pp := T2.K hb3 (b := w.heap.size) (x := _) (y := _) (by (repeat (first | ((with_reducible apply T2.mk) <;> (with_reducible assumption)) | (with_reducible apply T2.Z) | (with_reducible apply T2.O) | ((with_reducible apply T2.B); (focus (simp; done))) | (with_reducible apply T2.A) | (with_reducible apply T2.D) | ((with_reducible apply T2.S); focus ((repeat (first | rw [World.size_alloc] | rw [World.size_setCell] | rw [World.size_drew])); omega)) | ((with_reducible apply T2.K); (focus (with_reducible assumption)))))); obtain ⟨kk13, kk14, fkk13, fkk14⟩ := pp; have pp := T2.K hb3 (b := w.heap.size + 1) (x := _) (y := _) (by (repeat (first | ((with_reducible apply T2.mk) <;> (with_reducible assumption)) | (with_reducible apply T2.Z) | (with_reducible apply T2.O) | ((with_reducible apply T2.B); (focus (simp; done))) | (with_reducible apply T2.A) | (with_reducible apply T2.D) | ((with_reducible apply T2.S); focus ((repeat (first | rw [World.size_alloc] | rw [World.size_setCell] | rw [World.size_drew])); omega)) | ((with_reducible apply T2.K); (focus (with_reducible assumption)))))); obtain ⟨kk15, kk16, fkk15, fkk16⟩ := pp; have pp := C2.K hb3 (b := w1.heap.size) (x := _) (y := _) (by (repeat (first | ((with_reducible apply C2.mk) <;> (with_reducible assumption)) | (with_reducible apply C2.Z) | (with_reducible apply C2.O) | ((with_reducible apply C2.B); (focus (simp; done))) | (with_reducible apply C2.A) | (with_reducible apply C2.D) | ((with_reducible apply C2.S); focus ((repeat (first | rw [World.size_alloc] | rw [World.size_setCell] | rw [World.size_drew])); omega)) | ((with_reducible apply C2.K); (focus (with_reducible assumption)))))); obtain ⟨kk17, kk18⟩ := pp; have pp := C2.K hb3 (b := w1.heap.size + 1) (x := _) (y := _) (by (repeat (first | ((with_reducible apply C2.mk) <;> (with_reducible assumption)) | (with_reducible apply C2.Z) | (with_reducible apply C2.O) | ((with_reducible apply C2.B); (focus (simp; done))) | (with_reducible apply C2.A) | (with_reducible apply C2.D) | ((with_reducible apply C2.S); focus ((repeat (first | rw [World.size_alloc] | rw [World.size_setCell] | rw [World.size_drew])); omega)) | ((with_reducible apply C2.K); (focus (with_reducible assumption)))))); obtain ⟨kk19, kk20⟩ := pp; (try clear kk5 kk6 fkk5 fkk6 kk7 kk8 fkk7 fkk8 kk9 kk10 kk11 kk12))
    have ho3 := Off.of_below (R := R) hb3
    cases tiO a b c d
    · go_wp2_with fail
      go_region
      all_goals go_wp2_with fail
      all_goals
        have ho1 := Hho1.out
        have ho2 := Hho2.out
        refine bodyPost_ret (v := .tuple #[.agg #[.int .i64 a, .int .i64 b], .agg #[.int .i64 c, .int .i64 d]]) (by simp [results, Try.results39, go_sem, *]) rfl ?_; exact ⟨_, _, _, _, rfl, by (repeat' (first | (with_reducible exact Off.refl _ _) | (with_reducible apply Off.alloc) | (with_reducible apply Off.drew) | ((with_reducible apply Off.setCell); focus (first | omega | (simp; done) | (simp; omega))) | (with_reducible refine Off.trans ?_ (by assumption))))⟩
    · go_wp2_with fail
      go_region
      all_goals go_wp2_with fail
      all_goals
        have ho1 := Hho1.out
        have ho2 := Hho2.out
        refine bodyPost_ret (v := .tuple #[.agg #[.int .i64 (tiA a b c d), .int .i64 (tiB a b c d)], .agg #[.int .i64 c, .int .i64 d]]) (by simp [results, Try.results39, go_sem, *]) rfl ?_; exact ⟨_, _, _, _, rfl, by (repeat' (first | (with_reducible exact Off.refl _ _) | (with_reducible apply Off.alloc) | (with_reducible apply Off.drew) | ((with_reducible apply Off.setCell); focus (first | omega | (simp; done) | (simp; omega))) | (with_reducible refine Off.trans ?_ (by assumption))))⟩
  · have hq : (k == 0) = false := by simpa using hk
    go_wp2_with fail
    go_region
    all_goals go_wp2_with fail
    all_goals
      have ho1 := Hho1.out
      have ho2 := Hho2.out
      refine bodyPost_ret (v := .tuple #[.agg #[.int .i64 a, .int .i64 b], .agg #[.int .i64 c, .int .i64 d]]) (by simp [results, Try.results39, go_sem, *]) rfl ?_; exact ⟨_, _, _, _, rfl, by (repeat' (first | (with_reducible exact Off.refl _ _) | (with_reducible apply Off.alloc) | (with_reducible apply Off.drew) | ((with_reducible apply Off.setCell); focus (first | omega | (simp; done) | (simp; omega))) | (with_reducible refine Off.trans ?_ (by assumption))))⟩
end Go.Proofs.Ytnochfnmkenemaa

namespace Go.Proofs.Ytnochfnmkenemaa
open Go Go.RowKit
attribute [local go_sem] World.cell?_alloc_some cell?_alloc2_some cell?_alloc3_some cell?_alloc4_some frozen?_alloc_some frozen?_alloc2_some frozen?_alloc3_some World.cell?_setCell_far new_ne0 new_ne1 new_ne2 new_ne3 lt2 lt3 lt4 lt5 lt6 lt7 lt8 lt9
theorem Rd_drewJ {w : World} {R p : Nat} (h : Rd w R p) : Rd w.drew R p := h

end Go.Proofs.Ytnochfnmkenemaa
