import Derived.Test.YtefihkhhahhboaaOe
namespace Go.Proofs.Ytefihkhhahhboaa
open Go Go.RowKit Go.Shelf
attribute [local go_sem] World.cell?_alloc_some cell?_alloc2_some cell?_alloc3_some cell?_alloc4_some frozen?_alloc_some frozen?_alloc2_some frozen?_alloc3_some World.cell?_setCell_far new_ne0 new_ne1 new_ne2 new_ne3 lt2 lt3 lt4 lt5 lt6 lt7 lt8 lt9
attribute [local go_sem ↓] eqG neG
attribute [local go_sem] Oper.semAt_some

def spO (a b c d : Int) : Int := if gok a b && gok c d then (st 21 a b c d : Int) else -1
theorem sp_f {a b c d : Int} (h : (gok a b && gok c d) = false) : spO a b c d = -1 := by simp [spO, h]
/-- Between two rounds: how many there were. -/
def Is (n₀ : World) (L : Nat) (i : Nat) (W : World) : Prop := W.cell? ⟨L, 0, none⟩ = some (.int .i64 (i : Int)) ∧ W.frozen? ⟨L, 0, none⟩ = false ∧ Below n₀.heap.size n₀ W
theorem Below.one {B : Nat} {V W : World} (h : Below B V W) {b : Nat} (hb : b < B) {v : Value} (t : V.cell? ⟨b, 0, none⟩ = some v) (f : V.frozen? ⟨b, 0, none⟩ = false) : W.cell? ⟨b, 0, none⟩ = some v ∧ W.frozen? ⟨b, 0, none⟩ = false :=
  ⟨(h.cell (p := ⟨b, 0, none⟩) hb).trans t, (h.frozen (p := ⟨b, 0, none⟩) hb).trans f⟩

set_option maxHeartbeats 4000000 in
theorem iStepsOf (a b c d : Int) (w : World) : Calls Try.prog 27 #[.agg #[.int .i64 a, .int .i64 b], .agg #[.int .i64 c, .int .i64 d]] w fun e w' => e = .returned (.int .i64 (spO a b c d)) ∧ Below w.heap.size w w' := by
  refine (callsIn_wide (n := 9)).1 ?_
  cases k1 : gok a b
  · rw [sp_f (by simp [k1])]
    refine callsIn_of_wp_marks Try.func27 rfl trivial ?_ rfl
    simp only [Try.ntmps27, List.size_toArray, List.length_cons, List.length_nil, Nat.reduceAdd, Nat.reduceSub, Array.replicate_succ, Array.replicate_zero, List.push_toArray, List.append_toArray, List.nil_append, List.cons_append]
    refine wpIn_wide.2 ?_
    go_wp2_with fail
    (refine (iGaussOk _ _ _).mono ?_; rintro e w1 ⟨rfl, hb1⟩; have hz1 := hb1.size; (repeat (first | rw [World.size_alloc] at hz1 | rw [World.size_setCell] at hz1 | rw [World.size_drew] at hz1)); have pp := C2.K hb1 (b := w.heap.size) (x := _) (y := _) (by (repeat (first | ((with_reducible apply C2.mk) <;> (with_reducible assumption)) | (with_reducible apply C2.Z) | (with_reducible apply C2.O) | ((with_reducible apply C2.B); (focus (simp; done))) | (with_reducible apply C2.A) | (with_reducible apply C2.D) | ((with_reducible apply C2.S); focus ((repeat (first | rw [World.size_alloc] | rw [World.size_setCell] | rw [World.size_drew])); omega)) | ((with_reducible apply C2.K); (focus (with_reducible assumption)))))); obtain ⟨kk1, kk2⟩ := pp; have pp := C2.K hb1 (b := w.heap.size + 1) (x := _) (y := _) (by (repeat (first | ((with_reducible apply C2.mk) <;> (with_reducible assumption)) | (with_reducible apply C2.Z) | (with_reducible apply C2.O) | ((with_reducible apply C2.B); (focus (simp; done))) | (with_reducible apply C2.A) | (with_reducible apply C2.D) | ((with_reducible apply C2.S); focus ((repeat (first | rw [World.size_alloc] | rw [World.size_setCell] | rw [World.size_drew])); omega)) | ((with_reducible apply C2.K); (focus (with_reducible assumption)))))); obtain ⟨kk3, kk4⟩ := pp)
    go_wp2_with fail
    exact ⟨_, results_tmp rfl _ _ _, rfl, by (repeat' (first | (with_reducible exact Below.refl _ _) | (with_reducible refine Below.alloc ?_ ?_ _) | (with_reducible refine Below.drew ?_) | (with_reducible refine Below.setCell ?_ ?_ _) | (with_reducible refine Below.trans ?_ (Below.mono (by assumption) ?_)) | go_size))⟩
  cases k2 : gok c d
  · rw [sp_f (by simp [k2])]
    refine callsIn_of_wp_marks Try.func27 rfl trivial ?_ rfl
    simp only [Try.ntmps27, List.size_toArray, List.length_cons, List.length_nil, Nat.reduceAdd, Nat.reduceSub, Array.replicate_succ, Array.replicate_zero, List.push_toArray, List.append_toArray, List.nil_append, List.cons_append]
    refine wpIn_wide.2 ?_
    go_wp2_with fail
    (refine (iGaussOk _ _ _).mono ?_; rintro e w1 ⟨rfl, hb1⟩; have hz1 := hb1.size; (repeat (first | rw [World.size_alloc] at hz1 | rw [World.size_setCell] at hz1 | rw [World.size_drew] at hz1)); have pp := C2.K hb1 (b := w.heap.size) (x := _) (y := _) (by (repeat (first | ((with_reducible apply C2.mk) <;> (with_reducible assumption)) | (with_reducible apply C2.Z) | (with_reducible apply C2.O) | ((with_reducible apply C2.B); (focus (simp; done))) | (with_reducible apply C2.A) | (with_reducible apply C2.D) | ((with_reducible apply C2.S); focus ((repeat (first | rw [World.size_alloc] | rw [World.size_setCell] | rw [World.size_drew])); omega)) | ((with_reducible apply C2.K); (focus (with_reducible assumption)))))); obtain ⟨kk5, kk6⟩ := pp; have pp := C2.K hb1 (b := w.heap.size + 1) (x := _) (y := _) (by (repeat (first | ((with_reducible apply C2.mk) <;> (with_reducible assumption)) | (with_reducible apply C2.Z) | (with_reducible apply C2.O) | ((with_reducible apply C2.B); (focus (simp; done))) | (with_reducible apply C2.A) | (with_reducible apply C2.D) | ((with_reducible apply C2.S); focus ((repeat (first | rw [World.size_alloc] | rw [World.size_setCell] | rw [World.size_drew])); omega)) | ((with_reducible apply C2.K); (focus (with_reducible assumption)))))); obtain ⟨kk7, kk8⟩ := pp; (try clear kk1 kk2 kk3 kk4))
    go_wp2_with fail
    (refine (iGaussOk _ _ _).mono ?_; rintro e w2 ⟨rfl, hb2⟩; have hz2 := hb2.size; (repeat (first | rw [World.size_alloc] at hz2 | rw [World.size_setCell] at hz2 | rw [World.size_drew] at hz2)); have pp := C2.K hb2 (b := w.heap.size) (x := _) (y := _) (by (repeat (first | ((with_reducible apply C2.mk) <;> (with_reducible assumption)) | (with_reducible apply C2.Z) | (with_reducible apply C2.O) | ((with_reducible apply C2.B); (focus (simp; done))) | (with_reducible apply C2.A) | (with_reducible apply C2.D) | ((with_reducible apply C2.S); focus ((repeat (first | rw [World.size_alloc] | rw [World.size_setCell] | rw [World.size_drew])); omega)) | ((with_reducible apply C2.K); (focus (with_reducible assumption)))))); obtain ⟨kk9, kk10⟩ := pp; have pp := C2.K hb2 (b := w.heap.size + 1) (x := _) (y := _) (by (repeat (first | ((with_reducible apply C2.mk) <;> (with_reducible assumption)) | (with_reducible apply C2.Z) | (with_reducible apply C2.O) | ((with_reducible apply C2.B); (focus (simp; done))) | (with_reducible apply C2.A) | (with_reducible apply C2.D) | ((with_reducible apply C2.S); focus ((repeat (first | rw [World.size_alloc] | rw [World.size_setCell] | rw [World.size_drew])); omega)) | ((with_reducible apply C2.K); (focus (with_reducible assumption)))))); obtain ⟨kk11, kk12⟩ := pp; (try clear kk5 kk6 kk7 kk8))
    go_wp2_with fail
    exact ⟨_, results_tmp rfl _ _ _, rfl, by (repeat' (first | (with_reducible exact Below.refl _ _) | (with_reducible refine Below.alloc ?_ ?_ _) | (with_reducible refine Below.drew ?_) | (with_reducible refine Below.setCell ?_ ?_ _) | (with_reducible refine Below.trans ?_ (Below.mono (by assumption) ?_)) | go_size))⟩
  obtain ⟨n, hn⟩ : ∃ n, st 21 a b c d = n := ⟨_, rfl⟩
  have hle : n ≤ 21 := by rw [← hn]; exact (st_le 21 a b c d (nrm_21 k2) k1 k2).1
  have hsp : spO a b c d = (n : Int) := by simp [spO, k1, k2, hn]
  have hlen : (sl 21 a b c d).length = n := by rw [sl_len, hn]
  rw [hsp]
  clear hsp hn
  refine callsIn_of_wp_marks Try.func27 rfl trivial ?_ rfl
  simp only [Try.ntmps27, List.size_toArray, List.length_cons, List.length_nil, Nat.reduceAdd, Nat.reduceSub, Array.replicate_succ, Array.replicate_zero, List.push_toArray, List.append_toArray, List.nil_append, List.cons_append]
  refine wpIn_wide.2 ?_
  have HL := Lib.hid hlen
  clear hlen
  go_wp2_with fail
  (refine (iGaussOk _ _ _).mono ?_; rintro e w1 ⟨rfl, hb1⟩; have hz1 := hb1.size; (repeat (first | rw [World.size_alloc] at hz1 | rw [World.size_setCell] at hz1 | rw [World.size_drew] at hz1)); have pp := C2.K hb1 (b := w.heap.size) (x := _) (y := _) (by (repeat (first | ((with_reducible apply C2.mk) <;> (with_reducible assumption)) | (with_reducible apply C2.Z) | (with_reducible apply C2.O) | ((with_reducible apply C2.B); (focus (simp; done))) | (with_reducible apply C2.A) | (with_reducible apply C2.D) | ((with_reducible apply C2.S); focus ((repeat (first | rw [World.size_alloc] | rw [World.size_setCell] | rw [World.size_drew])); omega)) | ((with_reducible apply C2.K); (focus (with_reducible assumption)))))); obtain ⟨kk13, kk14⟩ := pp; have pp := C2.K hb1 (b := w.heap.size + 1) (x := _) (y := _) (by (repeat (first | ((with_reducible apply C2.mk) <;> (with_reducible assumption)) | (with_reducible apply C2.Z) | (with_reducible apply C2.O) | ((with_reducible apply C2.B); (focus (simp; done))) | (with_reducible apply C2.A) | (with_reducible apply C2.D) | ((with_reducible apply C2.S); focus ((repeat (first | rw [World.size_alloc] | rw [World.size_setCell] | rw [World.size_drew])); omega)) | ((with_reducible apply C2.K); (focus (with_reducible assumption)))))); obtain ⟨kk15, kk16⟩ := pp; (try clear kk9 kk10 kk11 kk12))
  go_wp2_with fail
  (refine (iGaussOk _ _ _).mono ?_; rintro e w2 ⟨rfl, hb2⟩; have hz2 := hb2.size; (repeat (first | rw [World.size_alloc] at hz2 | rw [World.size_setCell] at hz2 | rw [World.size_drew] at hz2)); have pp := C2.K hb2 (b := w.heap.size) (x := _) (y := _) (by (repeat (first | ((with_reducible apply C2.mk) <;> (with_reducible assumption)) | (with_reducible apply C2.Z) | (with_reducible apply C2.O) | ((with_reducible apply C2.B); (focus (simp; done))) | (with_reducible apply C2.A) | (with_reducible apply C2.D) | ((with_reducible apply C2.S); focus ((repeat (first | rw [World.size_alloc] | rw [World.size_setCell] | rw [World.size_drew])); omega)) | ((with_reducible apply C2.K); (focus (with_reducible assumption)))))); obtain ⟨kk17, kk18⟩ := pp; have pp := C2.K hb2 (b := w.heap.size + 1) (x := _) (y := _) (by (repeat (first | ((with_reducible apply C2.mk) <;> (with_reducible assumption)) | (with_reducible apply C2.Z) | (with_reducible apply C2.O) | ((with_reducible apply C2.B); (focus (simp; done))) | (with_reducible apply C2.A) | (with_reducible apply C2.D) | ((with_reducible apply C2.S); focus ((repeat (first | rw [World.size_alloc] | rw [World.size_setCell] | rw [World.size_drew])); omega)) | ((with_reducible apply C2.K); (focus (with_reducible assumption)))))); obtain ⟨kk19, kk20⟩ := pp; (try clear kk13 kk14 kk15 kk16))
  go_wp2_with fail
  (refine (iDividing a b c d _).mono ?_; rintro e w3 ⟨Bz, Bw, rfl, tz, tw, hb3⟩; have hz3 := hb3.size; (repeat (first | rw [World.size_alloc] at hz3 | rw [World.size_setCell] at hz3 | rw [World.size_drew] at hz3)); have kk21 := keep hb3 (a := ⟨w2.heap.size, 0, none⟩) (v := _) (by (repeat (first | (with_reducible assumption) | (with_reducible apply sameS) | ((with_reducible apply born); (focus (simp; done)); (focus rfl)) | (with_reducible apply keepA) | (with_reducible apply keepD) | ((with_reducible apply keepS); focus ((repeat (first | rw [World.size_alloc] | rw [World.size_setCell] | rw [World.size_drew])); omega)) | ((with_reducible apply keep); (focus (with_reducible assumption)))))); have fkk21 := keepF hb3 (a := ⟨w2.heap.size, 0, none⟩) (v := _) (by (repeat (first | (with_reducible assumption) | (with_reducible apply sameS) | ((with_reducible apply born); (focus (simp; done)); (focus rfl)) | (with_reducible apply keepA) | (with_reducible apply keepD) | ((with_reducible apply keepS); focus ((repeat (first | rw [World.size_alloc] | rw [World.size_setCell] | rw [World.size_drew])); omega)) | ((with_reducible apply keep); (focus (with_reducible assumption)))))) (by (repeat (first | (with_reducible assumption) | ((with_reducible apply bornF); (focus (simp; done))) | (with_reducible apply keepFS) | (with_reducible apply keepFD) | ((with_reducible apply keepFA); (focus (repeat (first | (with_reducible assumption) | (with_reducible apply sameS) | ((with_reducible apply born); (focus (simp; done)); (focus rfl)) | (with_reducible apply keepA) | (with_reducible apply keepD) | ((with_reducible apply keepS); focus ((repeat (first | rw [World.size_alloc] | rw [World.size_setCell] | rw [World.size_drew])); omega)) | ((with_reducible apply keep); (focus (with_reducible assumption)))))))))); (try clear kk17 kk18 kk19 kk20))
  go_wp2_with fail
  refine (wpIn_wide (n := 9)).1 ?_
  have hb30 : Below w.heap.size w w3 := by (repeat' (first | (with_reducible exact Below.refl _ _) | (with_reducible refine Below.alloc ?_ ?_ _) | (with_reducible refine Below.drew ?_) | (with_reducible refine Below.setCell ?_ ?_ _) | (with_reducible refine Below.trans ?_ (Below.mono (by assumption) ?_)) | go_size))
  refine wp_rangeOwn (xs := sl 21 a b c d) rfl (enters_of Try.func76 (by kernel_rfl) rfl) (dividing_gives a b c d Bz Bw w3 k1 k2 tz tw) (Below.refl _ _) (fun x hx => sl_two 21 a b c d x hx)
    (Is w w2.heap.size) ?hI ?h0 ?round ?done
  case hI =>
    rintro i V W ⟨t, f, hb⟩ hs hVW
    obtain ⟨t', f'⟩ := Below.one hVW (by omega) t f
    exact ⟨t', f', hb.trans (hVW.mono (by omega))⟩
  case h0 => exact ⟨by show _ = some (Value.int .i64 0); (repeat (first | (with_reducible assumption) | (with_reducible apply sameS) | ((with_reducible apply born); (focus (simp; done)); (focus rfl)) | (with_reducible apply keepA) | (with_reducible apply keepD) | ((with_reducible apply keepS); focus ((repeat (first | rw [World.size_alloc] | rw [World.size_setCell] | rw [World.size_drew])); omega)) | ((with_reducible apply keep); (focus (with_reducible assumption))))), by (repeat (first | (with_reducible assumption) | ((with_reducible apply bornF); (focus (simp; done))) | (with_reducible apply keepFS) | (with_reducible apply keepFD) | ((with_reducible apply keepFA); (focus (repeat (first | (with_reducible assumption) | (with_reducible apply sameS) | ((with_reducible apply born); (focus (simp; done)); (focus rfl)) | (with_reducible apply keepA) | (with_reducible apply keepD) | ((with_reducible apply keepS); focus ((repeat (first | rw [World.size_alloc] | rw [World.size_setCell] | rw [World.size_drew])); omega)) | ((with_reducible apply keep); (focus (with_reducible assumption))))))))), hb30⟩
  case round =>
    rintro l i row W hr ⟨t, f, hb⟩ hs
    have hin : i < 21 := by have := (List.getElem?_eq_some_iff.1 hr).1; have := HL.out; omega
    have hrow : ∃ p q, row = #[p, q] := by
      have h2 := sl_two 21 a b c d row (List.mem_of_getElem? hr)
      obtain ⟨rl⟩ := row
      match rl, h2 with
      | [p, q], _ => exact ⟨p, q, rfl⟩
    obtain ⟨p, q, rfl⟩ := hrow
    clear hr
    gi_wp2
    refine ⟨After.refl _ _, ?_⟩
    intro W2 hs2 hb2 hn2
    obtain ⟨t2, f2⟩ := Below.one hb2 (by omega) t f
    have hb4 := hb.trans (hb2.mono (by omega))
    clear t f hn2
    have hw1 : IntKind.i64.wrap ((i : Int) + 1) = (i : Int) + 1 := IntWalk.i64_in _ (by omega)
    gi_wp2
    exact ⟨⟨World.cell?_setCell_same _ _ _ t2, by (repeat (first | (with_reducible assumption) | ((with_reducible apply bornF); (focus (simp; done))) | (with_reducible apply keepFS) | (with_reducible apply keepFD) | ((with_reducible apply keepFA); (focus (repeat (first | (with_reducible assumption) | (with_reducible apply sameS) | ((with_reducible apply born); (focus (simp; done)); (focus rfl)) | (with_reducible apply keepA) | (with_reducible apply keepD) | ((with_reducible apply keepS); focus ((repeat (first | rw [World.size_alloc] | rw [World.size_setCell] | rw [World.size_drew])); omega)) | ((with_reducible apply keep); (focus (with_reducible assumption))))))))), by (repeat' (first | (with_reducible exact Below.refl _ _) | (with_reducible refine Below.alloc ?_ ?_ _) | (with_reducible refine Below.drew ?_) | (with_reducible refine Below.setCell ?_ ?_ _) | (with_reducible refine Below.trans ?_ (Below.mono (by assumption) ?_)) | go_size))⟩, (After.refl _ _).setCell (by dsimp only; omega) _⟩
  case done =>
    rintro D W hD ⟨t, f, hb⟩ hK
    rw [HL.out] at t
    have HK := Lib.hid hK
    clear hK
    go_wp2_with fail
    refine ⟨by simp, .inl ⟨_, _, rfl, run_takeDeferred HK.out, ?_⟩⟩
    exact ⟨_, results_tmp rfl _ _ _, rfl, hb.trans (below_put _ (by omega) _)⟩
theorem iStepsOf_v {a b c d n : Int} (w : World) (h : spO a b c d = n) : Calls Try.prog 27 #[.agg #[.int .i64 a, .int .i64 b], .agg #[.int .i64 c, .int .i64 d]] w fun e w' => e = .returned (.int .i64 n) ∧ Below w.heap.size w w' := by
  subst h; exact iStepsOf a b c d w

/-- What holds between two rounds of the reference: how many were, and how many are to come. -/
def Ls (w : World) (n : Nat) (v : Value) (wr : World) : Prop := ∃ (i k : Nat) (x y u v' : Int), v = .int .i64 (i : Int) ∧ Two wr w.heap.size x y ∧ Two wr (w.heap.size + 1) u v' ∧ gok x y = true ∧ gok u v' = true ∧ u * u + v' * v' < 2 ^ k ∧ i + st k x y u v' = n ∧ Below w.heap.size w wr
set_option maxHeartbeats 2000000 in
theorem sStepsOf (a b c d : Int) (w : World) : Calls Try.prog 28 #[.agg #[.int .i64 a, .int .i64 b], .agg #[.int .i64 c, .int .i64 d]] w fun e w' => e = .returned (.int .i64 (spO a b c d)) ∧ Below w.heap.size w w' := by
  cases k1 : gok a b
  · rw [sp_f (by simp [k1])]
    go_enter Try.func28, Try.ntmps28
    go_wp2_with fail
    (refine (sGaussOk _ _ _).mono ?_; rintro e w1 ⟨rfl, hb1⟩; have hz1 := hb1.size; (repeat (first | rw [World.size_alloc] at hz1 | rw [World.size_setCell] at hz1 | rw [World.size_drew] at hz1)); have pp := C2.K hb1 (b := w.heap.size) (x := _) (y := _) (by (repeat (first | ((with_reducible apply C2.mk) <;> (with_reducible assumption)) | (with_reducible apply C2.Z) | (with_reducible apply C2.O) | ((with_reducible apply C2.B); (focus (simp; done))) | (with_reducible apply C2.A) | (with_reducible apply C2.D) | ((with_reducible apply C2.S); focus ((repeat (first | rw [World.size_alloc] | rw [World.size_setCell] | rw [World.size_drew])); omega)) | ((with_reducible apply C2.K); (focus (with_reducible assumption)))))); obtain ⟨kk1, kk2⟩ := pp; have pp := C2.K hb1 (b := w.heap.size + 1) (x := _) (y := _) (by (repeat (first | ((with_reducible apply C2.mk) <;> (with_reducible assumption)) | (with_reducible apply C2.Z) | (with_reducible apply C2.O) | ((with_reducible apply C2.B); (focus (simp; done))) | (with_reducible apply C2.A) | (with_reducible apply C2.D) | ((with_reducible apply C2.S); focus ((repeat (first | rw [World.size_alloc] | rw [World.size_setCell] | rw [World.size_drew])); omega)) | ((with_reducible apply C2.K); (focus (with_reducible assumption)))))); obtain ⟨kk3, kk4⟩ := pp)
    go_wp2_with fail
    go_returns
    exact ⟨rfl, by (repeat' (first | (with_reducible exact Below.refl _ _) | (with_reducible refine Below.alloc ?_ ?_ _) | (with_reducible refine Below.drew ?_) | (with_reducible refine Below.setCell ?_ ?_ _) | (with_reducible refine Below.trans ?_ (Below.mono (by assumption) ?_)) | go_size))⟩
  cases k2 : gok c d
  · rw [sp_f (by simp [k2])]
    go_enter Try.func28, Try.ntmps28
    go_wp2_with fail
    (refine (sGaussOk _ _ _).mono ?_; rintro e w1 ⟨rfl, hb1⟩; have hz1 := hb1.size; (repeat (first | rw [World.size_alloc] at hz1 | rw [World.size_setCell] at hz1 | rw [World.size_drew] at hz1)); have pp := C2.K hb1 (b := w.heap.size) (x := _) (y := _) (by (repeat (first | ((with_reducible apply C2.mk) <;> (with_reducible assumption)) | (with_reducible apply C2.Z) | (with_reducible apply C2.O) | ((with_reducible apply C2.B); (focus (simp; done))) | (with_reducible apply C2.A) | (with_reducible apply C2.D) | ((with_reducible apply C2.S); focus ((repeat (first | rw [World.size_alloc] | rw [World.size_setCell] | rw [World.size_drew])); omega)) | ((with_reducible apply C2.K); (focus (with_reducible assumption)))))); obtain ⟨kk5, kk6⟩ := pp; have pp := C2.K hb1 (b := w.heap.size + 1) (x := _) (y := _) (by (repeat (first | ((with_reducible apply C2.mk) <;> (with_reducible assumption)) | (with_reducible apply C2.Z) | (with_reducible apply C2.O) | ((with_reducible apply C2.B); (focus (simp; done))) | (with_reducible apply C2.A) | (with_reducible apply C2.D) | ((with_reducible apply C2.S); focus ((repeat (first | rw [World.size_alloc] | rw [World.size_setCell] | rw [World.size_drew])); omega)) | ((with_reducible apply C2.K); (focus (with_reducible assumption)))))); obtain ⟨kk7, kk8⟩ := pp; (try clear kk1 kk2 kk3 kk4))
    go_wp2_with fail
    (refine (sGaussOk _ _ _).mono ?_; rintro e w2 ⟨rfl, hb2⟩; have hz2 := hb2.size; (repeat (first | rw [World.size_alloc] at hz2 | rw [World.size_setCell] at hz2 | rw [World.size_drew] at hz2)); have pp := C2.K hb2 (b := w.heap.size) (x := _) (y := _) (by (repeat (first | ((with_reducible apply C2.mk) <;> (with_reducible assumption)) | (with_reducible apply C2.Z) | (with_reducible apply C2.O) | ((with_reducible apply C2.B); (focus (simp; done))) | (with_reducible apply C2.A) | (with_reducible apply C2.D) | ((with_reducible apply C2.S); focus ((repeat (first | rw [World.size_alloc] | rw [World.size_setCell] | rw [World.size_drew])); omega)) | ((with_reducible apply C2.K); (focus (with_reducible assumption)))))); obtain ⟨kk9, kk10⟩ := pp; have pp := C2.K hb2 (b := w.heap.size + 1) (x := _) (y := _) (by (repeat (first | ((with_reducible apply C2.mk) <;> (with_reducible assumption)) | (with_reducible apply C2.Z) | (with_reducible apply C2.O) | ((with_reducible apply C2.B); (focus (simp; done))) | (with_reducible apply C2.A) | (with_reducible apply C2.D) | ((with_reducible apply C2.S); focus ((repeat (first | rw [World.size_alloc] | rw [World.size_setCell] | rw [World.size_drew])); omega)) | ((with_reducible apply C2.K); (focus (with_reducible assumption)))))); obtain ⟨kk11, kk12⟩ := pp; (try clear kk5 kk6 kk7 kk8))
    go_wp2_with fail
    go_returns
    exact ⟨rfl, by (repeat' (first | (with_reducible exact Below.refl _ _) | (with_reducible refine Below.alloc ?_ ?_ _) | (with_reducible refine Below.drew ?_) | (with_reducible refine Below.setCell ?_ ?_ _) | (with_reducible refine Below.trans ?_ (Below.mono (by assumption) ?_)) | go_size))⟩
  obtain ⟨n, hn⟩ : ∃ n, st 21 a b c d = n := ⟨_, rfl⟩
  have hle : n ≤ 21 := by rw [← hn]; exact (st_le 21 a b c d (nrm_21 k2) k1 k2).1
  have hsp : spO a b c d = (n : Int) := by simp [spO, k1, k2, hn]
  have hn' := nrm_21 k2
  rw [hsp]
  clear hsp
  have HN := Lib.hid hn
  have HN' := Lib.hid hn'
  clear hn hn'
  go_enter Try.func28, Try.ntmps28
  go_wp2_with fail
  (refine (sGaussOk _ _ _).mono ?_; rintro e w1 ⟨rfl, hb1⟩; have hz1 := hb1.size; (repeat (first | rw [World.size_alloc] at hz1 | rw [World.size_setCell] at hz1 | rw [World.size_drew] at hz1)); have pp := T2.K hb1 (b := w.heap.size) (x := _) (y := _) (by (repeat (first | ((with_reducible apply T2.mk) <;> (with_reducible assumption)) | (with_reducible apply T2.Z) | (with_reducible apply T2.O) | ((with_reducible apply T2.B); (focus (simp; done))) | (with_reducible apply T2.A) | (with_reducible apply T2.D) | ((with_reducible apply T2.S); focus ((repeat (first | rw [World.size_alloc] | rw [World.size_setCell] | rw [World.size_drew])); omega)) | ((with_reducible apply T2.K); (focus (with_reducible assumption)))))); obtain ⟨kk13, kk14, fkk13, fkk14⟩ := pp; have pp := T2.K hb1 (b := w.heap.size + 1) (x := _) (y := _) (by (repeat (first | ((with_reducible apply T2.mk) <;> (with_reducible assumption)) | (with_reducible apply T2.Z) | (with_reducible apply T2.O) | ((with_reducible apply T2.B); (focus (simp; done))) | (with_reducible apply T2.A) | (with_reducible apply T2.D) | ((with_reducible apply T2.S); focus ((repeat (first | rw [World.size_alloc] | rw [World.size_setCell] | rw [World.size_drew])); omega)) | ((with_reducible apply T2.K); (focus (with_reducible assumption)))))); obtain ⟨kk15, kk16, fkk15, fkk16⟩ := pp; (try clear kk9 kk10 kk11 kk12))
  go_wp2_with fail
  (refine (sGaussOk _ _ _).mono ?_; rintro e w2 ⟨rfl, hb2⟩; have hz2 := hb2.size; (repeat (first | rw [World.size_alloc] at hz2 | rw [World.size_setCell] at hz2 | rw [World.size_drew] at hz2)); have pp := T2.K hb2 (b := w.heap.size) (x := _) (y := _) (by (repeat (first | ((with_reducible apply T2.mk) <;> (with_reducible assumption)) | (with_reducible apply T2.Z) | (with_reducible apply T2.O) | ((with_reducible apply T2.B); (focus (simp; done))) | (with_reducible apply T2.A) | (with_reducible apply T2.D) | ((with_reducible apply T2.S); focus ((repeat (first | rw [World.size_alloc] | rw [World.size_setCell] | rw [World.size_drew])); omega)) | ((with_reducible apply T2.K); (focus (with_reducible assumption)))))); obtain ⟨kk17, kk18, fkk17, fkk18⟩ := pp; have pp := T2.K hb2 (b := w.heap.size + 1) (x := _) (y := _) (by (repeat (first | ((with_reducible apply T2.mk) <;> (with_reducible assumption)) | (with_reducible apply T2.Z) | (with_reducible apply T2.O) | ((with_reducible apply T2.B); (focus (simp; done))) | (with_reducible apply T2.A) | (with_reducible apply T2.D) | ((with_reducible apply T2.S); focus ((repeat (first | rw [World.size_alloc] | rw [World.size_setCell] | rw [World.size_drew])); omega)) | ((with_reducible apply T2.K); (focus (with_reducible assumption)))))); obtain ⟨kk19, kk20, fkk19, fkk20⟩ := pp; (try clear kk13 kk14 fkk13 fkk14 kk15 kk16 fkk15 fkk16))
  go_wp2_with fail
  go_loopw [5] (fun v wr => Ls w n v wr) (fun _ wr => ms wr (w.heap.size + 1))
  case atStart => exact ⟨0, 21, a, b, c, d, rfl, (Two.of (by (repeat (first | ((with_reducible apply T2.mk) <;> (with_reducible assumption)) | (with_reducible apply T2.Z) | (with_reducible apply T2.O) | ((with_reducible apply T2.B); (focus (simp; done))) | (with_reducible apply T2.A) | (with_reducible apply T2.D) | ((with_reducible apply T2.S); focus ((repeat (first | rw [World.size_alloc] | rw [World.size_setCell] | rw [World.size_drew])); omega)) | ((with_reducible apply T2.K); (focus (with_reducible assumption))))))), (Two.of (by (repeat (first | ((with_reducible apply T2.mk) <;> (with_reducible assumption)) | (with_reducible apply T2.Z) | (with_reducible apply T2.O) | ((with_reducible apply T2.B); (focus (simp; done))) | (with_reducible apply T2.A) | (with_reducible apply T2.D) | ((with_reducible apply T2.S); focus ((repeat (first | rw [World.size_alloc] | rw [World.size_setCell] | rw [World.size_drew])); omega)) | ((with_reducible apply T2.K); (focus (with_reducible assumption))))))), k1, k2, HN'.out, by simpa using HN.out, by (repeat' (first | (with_reducible exact Below.refl _ _) | (with_reducible refine Below.alloc ?_ ?_ _) | (with_reducible refine Below.drew ?_) | (with_reducible refine Below.setCell ?_ ?_ _) | (with_reducible refine Below.trans ?_ (Below.mono (by assumption) ?_)) | go_size))⟩
  case round =>
    clear k1 k2 HN HN'
    obtain ⟨i, k, x, y, u, v, rfl, ⟨z0, z1, z2, z3⟩, ⟨y0, y1, y2, y3⟩, k1, k2, hn, hg, hbr⟩ := hrel
    have hsr := hbr.size
    have hlr : w.heap.size + 1 < wr.heap.size := World.block_lt_of_cell? _ _ y0
    cases hz : (u == 0 && v == 0)
    · obtain ⟨j, r, s, qa, qb, -, hd, e1, e2, e3, e4, k3, hn', -, hst, hlt, -⟩ := step_gc k1 k2 hz hn
      rw [hst] at hg
      have hi : i < 21 := by omega
      have hw1 : IntKind.i64.wrap ((i : Int) + 1) = (i : Int) + 1 := IntWalk.i64_in _ (by omega)
      have Hn := Lib.hid hn'
      have Hl := Lib.hid hlt
      have Hg := Lib.hid hg
      clear hn hn' hlt hg hst k1
      go_wp2_with fail
      (refine (l3Divided_v _ hd ⟨e1, e2, e3, e4⟩).mono ?_; rintro e w1 ⟨rfl, hb1⟩; have hz1 := hb1.size; (repeat (first | rw [World.size_alloc] at hz1 | rw [World.size_setCell] at hz1 | rw [World.size_drew] at hz1)); have pp := T2.K hb1 (b := w.heap.size) (x := _) (y := _) (by (repeat (first | ((with_reducible apply T2.mk) <;> (with_reducible assumption)) | (with_reducible apply T2.Z) | (with_reducible apply T2.O) | ((with_reducible apply T2.B); (focus (simp; done))) | (with_reducible apply T2.A) | (with_reducible apply T2.D) | ((with_reducible apply T2.S); focus ((repeat (first | rw [World.size_alloc] | rw [World.size_setCell] | rw [World.size_drew])); omega)) | ((with_reducible apply T2.K); (focus (with_reducible assumption)))))); obtain ⟨kk21, kk22, fkk21, fkk22⟩ := pp; have pp := T2.K hb1 (b := w.heap.size + 1) (x := _) (y := _) (by (repeat (first | ((with_reducible apply T2.mk) <;> (with_reducible assumption)) | (with_reducible apply T2.Z) | (with_reducible apply T2.O) | ((with_reducible apply T2.B); (focus (simp; done))) | (with_reducible apply T2.A) | (with_reducible apply T2.D) | ((with_reducible apply T2.S); focus ((repeat (first | rw [World.size_alloc] | rw [World.size_setCell] | rw [World.size_drew])); omega)) | ((with_reducible apply T2.K); (focus (with_reducible assumption)))))); obtain ⟨kk23, kk24, fkk23, fkk24⟩ := pp; (try clear kk17 kk18 fkk17 fkk18 kk19 kk20 fkk19 fkk20))
      have n1 : (w.heap.size = w1.heap.size) = False := by simp; omega
      have n2 : (w.heap.size = w1.heap.size + 1) = False := by simp; omega
      have n3 : (w1.heap.size = w.heap.size) = False := by simp; omega
      have n4 : (w1.heap.size + 1 = w.heap.size) = False := by simp; omega
      go_wp2_with fail
      go_roundw
      case rel => exact ⟨i + 1, j, u, v, r, s, by simp, (Two.of (by (repeat (first | ((with_reducible apply T2.mk) <;> (with_reducible assumption)) | (with_reducible apply T2.Z) | (with_reducible apply T2.O) | ((with_reducible apply T2.B); (focus (simp; done))) | (with_reducible apply T2.A) | (with_reducible apply T2.D) | ((with_reducible apply T2.S); focus ((repeat (first | rw [World.size_alloc] | rw [World.size_setCell] | rw [World.size_drew])); omega)) | ((with_reducible apply T2.K); (focus (with_reducible assumption))))))), (Two.of (by (repeat (first | ((with_reducible apply T2.mk) <;> (with_reducible assumption)) | (with_reducible apply T2.Z) | (with_reducible apply T2.O) | ((with_reducible apply T2.B); (focus (simp; done))) | (with_reducible apply T2.A) | (with_reducible apply T2.D) | ((with_reducible apply T2.S); focus ((repeat (first | rw [World.size_alloc] | rw [World.size_setCell] | rw [World.size_drew])); omega)) | ((with_reducible apply T2.K); (focus (with_reducible assumption))))))), k2, k3, Hn.out, by have := Hg.out; omega, by (repeat' (first | (with_reducible exact Below.refl _ _) | (with_reducible refine Below.alloc ?_ ?_ _) | (with_reducible refine Below.drew ?_) | (with_reducible refine Below.setCell ?_ ?_ _) | (with_reducible refine Below.trans ?_ (Below.mono (by assumption) ?_)) | go_size))⟩
      case measure => rw [ms_eq (c := r) (d := s) (by (repeat (first | (with_reducible assumption) | (with_reducible apply sameS) | ((with_reducible apply born); (focus (simp; done)); (focus rfl)) | (with_reducible apply keepA) | (with_reducible apply keepD) | ((with_reducible apply keepS); focus ((repeat (first | rw [World.size_alloc] | rw [World.size_setCell] | rw [World.size_drew])); omega)) | ((with_reducible apply keep); (focus (with_reducible assumption)))))) (by (repeat (first | (with_reducible assumption) | (with_reducible apply sameS) | ((with_reducible apply born); (focus (simp; done)); (focus rfl)) | (with_reducible apply keepA) | (with_reducible apply keepD) | ((with_reducible apply keepS); focus ((repeat (first | rw [World.size_alloc] | rw [World.size_setCell] | rw [World.size_drew])); omega)) | ((with_reducible apply keep); (focus (with_reducible assumption)))))), ms_eq (W := wr) (c := u) (d := v) (by (repeat (first | (with_reducible assumption) | (with_reducible apply sameS) | ((with_reducible apply born); (focus (simp; done)); (focus rfl)) | (with_reducible apply keepA) | (with_reducible apply keepD) | ((with_reducible apply keepS); focus ((repeat (first | rw [World.size_alloc] | rw [World.size_setCell] | rw [World.size_drew])); omega)) | ((with_reducible apply keep); (focus (with_reducible assumption)))))) (by (repeat (first | (with_reducible assumption) | (with_reducible apply sameS) | ((with_reducible apply born); (focus (simp; done)); (focus rfl)) | (with_reducible apply keepA) | (with_reducible apply keepD) | ((with_reducible apply keepS); focus ((repeat (first | rw [World.size_alloc] | rw [World.size_setCell] | rw [World.size_drew])); omega)) | ((with_reducible apply keep); (focus (with_reducible assumption))))))]; exact Hl.out
    · obtain ⟨rfl, rfl, -, e, -⟩ := end_gc (k := k) (x := x) (y := y) hz
      rw [e] at hg
      obtain rfl : i = n := by omega
      clear e hn
      go_wp2_with fail
      go_returns
      exact ⟨rfl, by (repeat' (first | (with_reducible exact Below.refl _ _) | (with_reducible refine Below.alloc ?_ ?_ _) | (with_reducible refine Below.drew ?_) | (with_reducible refine Below.setCell ?_ ?_ _) | (with_reducible refine Below.trans ?_ (Below.mono (by assumption) ?_)) | go_size))⟩
theorem sStepsOf_v {a b c d n : Int} (w : World) (h : spO a b c d = n) : Calls Try.prog 28 #[.agg #[.int .i64 a, .int .i64 b], .agg #[.int .i64 c, .int .i64 d]] w fun e w' => e = .returned (.int .i64 n) ∧ Below w.heap.size w w' := by
  subst h; exact sStepsOf a b c d w
end Go.Proofs.Ytefihkhhahhboaa
