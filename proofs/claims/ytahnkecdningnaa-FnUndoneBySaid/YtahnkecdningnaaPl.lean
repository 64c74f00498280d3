import Derived.Test.YtahnkecdningnaaPe
import Derived.Test.YtahnkecdningnaaYj
namespace Go.Proofs.Ytahnkecdningnaa
open Go Go.RowKit Go.Shelf
attribute [local go_sem] World.cell?_alloc_some cell?_alloc2_some cell?_alloc3_some cell?_alloc4_some frozen?_alloc_some frozen?_alloc2_some frozen?_alloc3_some World.cell?_setCell_far new_ne0 new_ne1 new_ne2 new_ne3 lt2 lt3 lt4 lt5 lt6 lt7 lt8 lt9
attribute [local go_sem ↓] eqG neG

set_option maxRecDepth 100000 in
set_option maxHeartbeats 8000000 in
theorem sl7Rests (e f : Int) (w : World) (hm : mdO e f = true) : Calls Try.prog 53 #[.agg #[.int .i64 e, .int .i64 f]] w fun en w' => ∃ v, en = .returned v ∧ GS w' w.heap.size v (rtL e f) ∧ Below w.heap.size w w' := by
  have hq0 : Sz e f w (.slice (some ⟨w.heap.size + 1, 0, none⟩) 0 0) [] ((w.alloc (.cells #[.int .i64 e, .int .i64 f] 24)).alloc (.cells #[] 24)) :=
    ⟨⟨by have := World.ownsRow_lit (w.alloc (.cells #[.int .i64 e, .int .i64 f] 24)) #[] 0 (base := w.heap.size + 1) (e := 24) (size := 2) (by simp) (by decide) rfl
         rw [World.size_alloc] at this; exact this, by (repeat' (first | (with_reducible exact Below.refl _ _) | (with_reducible refine Below.alloc ?_ ?_ _) | (with_reducible refine Below.drew ?_) | (with_reducible refine Below.setCell ?_ ?_ _) | (with_reducible refine Below.trans ?_ (Below.mono (by assumption) ?_)) | go_size)), by omega, by simp⟩, (by (repeat (first | ((with_reducible apply C2.mk) <;> (with_reducible assumption)) | (with_reducible apply C2.Z) | (with_reducible apply C2.O) | ((with_reducible apply C2.B); (focus (simp; done))) | (with_reducible apply C2.A) | (with_reducible apply C2.D) | ((with_reducible apply C2.S); focus ((repeat (first | rw [World.size_alloc] | rw [World.size_setCell] | rw [World.size_drew])); omega)) | ((with_reducible apply C2.K); (focus (with_reducible assumption))))))⟩
  have hL0 : rtA (e, f) 21 (-10) 21 (-10) = rtL e f := by unfold rtL; rw [if_pos hm]; rfl
  have hbd := rtL_bd e f
  obtain ⟨L, hL⟩ : ∃ L, rtL e f = L := ⟨_, rfl⟩
  rw [hL] at hL0 hbd ⊢
  clear hL
  have HL := Lib.hid hL0
  clear hL0
  go_enter Try.func53, Try.ntmps53
  go_wp2_with fail
  go_loopw [3, 4] (fun v u wr => ∃ (k : Nat) (a : Int) (l : List (Int × Int)), u = .int .i64 a ∧ a + k = 11 ∧ -10 ≤ a ∧ l ++ rtA (e, f) 21 (-10) k a = L ∧ Sz e f w v l wr) (fun _ u _ => 100 - (intOf u + 20).toNat)
  case atStart => exact ⟨21, -10, [], rfl, by omega, by omega, HL.out, hq0⟩
  case round =>
    clear hq0 HL
    obtain ⟨k, a, l, rfl, hak, haK, hl, hq⟩ := hrel
    cases k with
    | zero =>
      have hd : decide (a ≤ 10) = false := decide_eq_false (by omega)
      rw [rtA, List.append_nil] at hl
      subst hl
      go_wp2_with fail
      go_returns
      exact ⟨_, rfl, hq.q.g.mono (by omega), hq.q.b⟩
    | succ k =>
      have hd : decide (a ≤ 10) = true := decide_eq_true (by omega)
      rw [rtA, ← List.append_assoc] at hl
      have H := Lib.hid hl
      clear hl
      go_wp2_with fail
      go_loopw [3, 5] (fun v u wr => ∃ (j : Nat) (b : Int) (l : List (Int × Int)), u = .int .i64 b ∧ b + j = 11 ∧ -10 ≤ b ∧ Hid ((l ++ rtB (e, f) a j b) ++ rtA (e, f) 21 (-10) k (a + 1) = L) ∧ Sz e f w v l wr) (fun _ u _ => 100 - (intOf u + 20).toNat)
      case atStart => exact ⟨21, -10, l, rfl, by omega, by omega, H, hq⟩
      case round =>
        clear hq H
        obtain ⟨j, b, l, rfl, hbj, hbK, H, hq⟩ := hrel
        have hl := H.out
        clear H
        obtain ⟨z0, z1⟩ := hq.z
        cases j with
        | zero =>
          have hd2 : decide (b ≤ 10) = false := decide_eq_false (by omega)
          rw [rtB, List.append_nil] at hl
          have H := Lib.hid hl
          clear hl
          go_wp2_with fail
          go_roundw
          case rel => exact ⟨k, a + 1, l, by simp, by omega, by omega, H.out, hq⟩
          case measure => simp [intOf]; omega
        | succ j =>
          have hd2 : decide (b ≤ 10) = true := decide_eq_true (by omega)
          have hdv : dvO a b e f = true := md_dv (gok_sml (by omega) (by omega) (by omega) (by omega)) hm
          obtain ⟨p, hp⟩ : ∃ p, rA a b e f = p := ⟨_, rfl⟩
          obtain ⟨q, hpq⟩ : ∃ q, rB a b e f = q := ⟨_, rfl⟩
          obtain ⟨u1, hu1⟩ : ∃ u, qA a b e f = u := ⟨_, rfl⟩
          obtain ⟨u2, hu2⟩ : ∃ u, qB a b e f = u := ⟨_, rfl⟩
          have hrs : rs (e, f) (a, b) = (p, q) := Prod.ext hp hpq
          have hlen : l.length ≤ 8000000 := by
            rw [← hl, List.length_append, List.length_append] at hbd; omega
          rw [rtB, hrs] at hl
          by_cases hit : (p, q) = (a, b)
          · rw [if_pos hit] at hl
            obtain ⟨e1, e2⟩ := Prod.mk.inj hit
            rw [e1] at hp
            rw [e2] at hpq
            have H : Hid (((l ++ [(a, b)]) ++ rtB (e, f) a j (b + 1)) ++ rtA (e, f) 21 (-10) k (a + 1) = L) := by
              refine Lib.hid ?_
              rw [List.append_assoc l]; exact hl
            have hbe : (a == a && b == b) = true := by simp
            clear hit hrs e1 e2 hl
            go_wp2_with fail
            (refine (l3Divd_v _ hdv hu1 hu2 hp hpq).mono ?_; rintro e w6 ⟨rfl, hb6⟩; have hz6 := hb6.size; (repeat (first | rw [World.size_alloc] at hz6 | rw [World.size_setCell] at hz6 | rw [World.size_drew] at hz6)); have pp := C2.K hb6 (b := w.heap.size) (x := _) (y := _) (by (repeat (first | ((with_reducible apply C2.mk) <;> (with_reducible assumption)) | (with_reducible apply C2.Z) | (with_reducible apply C2.O) | ((with_reducible apply C2.B); (focus (simp; done))) | (with_reducible apply C2.A) | (with_reducible apply C2.D) | ((with_reducible apply C2.S); focus ((repeat (first | rw [World.size_alloc] | rw [World.size_setCell] | rw [World.size_drew])); omega)) | ((with_reducible apply C2.K); (focus (with_reducible assumption)))))); obtain ⟨kk1, kk2⟩ := pp)
            have hqB := hq.below hb6
            clear hq z0 z1 hp hpq hu1 hu2
            have hqC := hqB.below (wx := (((w6.alloc (.cells #[.int .i64 u1, .int .i64 u2] 24)).alloc (.cells #[.int .i64 a, .int .i64 b] 24)).alloc (.cells #[.int .i64 a, .int .i64 b] 24))) (by (repeat' (first | (with_reducible exact Below.refl _ _) | (with_reducible refine Below.alloc ?_ ?_ _) | (with_reducible refine Below.drew ?_) | (with_reducible refine Below.setCell ?_ ?_ _) | (with_reducible refine Below.trans ?_ (Below.mono (by assumption) ?_)) | go_size)))
            have hsz := hqC.q.hi
            go_wp2_with (at_builtin; refine appPl _ rfl _ _ rfl (w.heap.size + 1) _ l a b rfl hqC.q.g (w6.heap.size + 1 + 1) rfl (by (repeat (first | (with_reducible assumption) | (with_reducible apply sameS) | ((with_reducible apply born); (focus (simp; done)); (focus rfl)) | (with_reducible apply keepA) | (with_reducible apply keepD) | ((with_reducible apply keepS); focus ((repeat (first | rw [World.size_alloc] | rw [World.size_setCell] | rw [World.size_drew])); omega)) | ((with_reducible apply keep); (focus (with_reducible assumption)))))) (by (repeat (first | (with_reducible assumption) | (with_reducible apply sameS) | ((with_reducible apply born); (focus (simp; done)); (focus rfl)) | (with_reducible apply keepA) | (with_reducible apply keepD) | ((with_reducible apply keepS); focus ((repeat (first | rw [World.size_alloc] | rw [World.size_setCell] | rw [World.size_drew])); omega)) | ((with_reducible apply keep); (focus (with_reducible assumption)))))) hlen hsz ?_; intro g cap W4 hg4 hgr hat4 hlt4)
            have hqD := hqC.app hg4 hgr
            go_roundw
            case rel => exact ⟨j, b + 1, _, by simp, by omega, by omega, H, hqD⟩
            case measure => simp [intOf]; omega
          · have hne : (p == a && q == b) = false := by rw [pair_beq]; exact decide_eq_false hit
            rw [if_neg hit] at hl
            have H := Lib.hid hl
            clear hit hrs hl
            go_wp2_with fail
            (refine (l3Divd_v _ hdv hu1 hu2 hp hpq).mono ?_; rintro e w6 ⟨rfl, hb6⟩; have hz6 := hb6.size; (repeat (first | rw [World.size_alloc] at hz6 | rw [World.size_setCell] at hz6 | rw [World.size_drew] at hz6)); have pp := C2.K hb6 (b := w.heap.size) (x := _) (y := _) (by (repeat (first | ((with_reducible apply C2.mk) <;> (with_reducible assumption)) | (with_reducible apply C2.Z) | (with_reducible apply C2.O) | ((with_reducible apply C2.B); (focus (simp; done))) | (with_reducible apply C2.A) | (with_reducible apply C2.D) | ((with_reducible apply C2.S); focus ((repeat (first | rw [World.size_alloc] | rw [World.size_setCell] | rw [World.size_drew])); omega)) | ((with_reducible apply C2.K); (focus (with_reducible assumption)))))); obtain ⟨kk3, kk4⟩ := pp; (try clear kk1 kk2))
            have hqB := hq.below hb6
            clear hq z0 z1 hp hpq hu1 hu2
            have hqC := hqB.below (wx := ((w6.alloc (.cells #[.int .i64 u1, .int .i64 u2] 24)).alloc (.cells #[.int .i64 p, .int .i64 q] 24))) (by (repeat' (first | (with_reducible exact Below.refl _ _) | (with_reducible refine Below.alloc ?_ ?_ _) | (with_reducible refine Below.drew ?_) | (with_reducible refine Below.setCell ?_ ?_ _) | (with_reducible refine Below.trans ?_ (Below.mono (by assumption) ?_)) | go_size)))
            go_wp2_with fail
            go_roundw
            case rel => exact ⟨j, b + 1, _, by simp, by omega, by omega, H, hqC⟩
            case measure => simp [intOf]; omega
end Go.Proofs.Ytahnkecdningnaa
