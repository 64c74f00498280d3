import Derived.Test.YtahnkecdningnaaPe
import Derived.Test.YtahnkecdningnaaYj
namespace Go.Proofs.Ytahnkecdningnaa
open Go Go.RowKit Go.Shelf
attribute [local go_sem] World.cell?_alloc_some cell?_alloc2_some cell?_alloc3_some cell?_alloc4_some frozen?_alloc_some frozen?_alloc2_some frozen?_alloc3_some World.cell?_setCell_far new_ne0 new_ne1 new_ne2 new_ne3 lt2 lt3 lt4 lt5 lt6 lt7 lt8 lt9
attribute [local go_sem] Oper.semAt_some
attribute [local go_sem ↓] eqG neG

theorem igReach (e f : Int) (w : World) (h : mdO e f = true) : Calls Try.prog 84 #[.agg #[.int .i64 e, .int .i64 f]] w fun en w' => ∃ K : Nat, en = .returned (.int .i64 (K : Int)) ∧ K ≤ 7 ∧ e * e + f * f < 2 * (((K : Int) + 1) * ((K : Int) + 1)) ∧ Below w.heap.size w w' := by
  obtain ⟨k, h1, h2⟩ := md_is h
  obtain ⟨N, hN⟩ : ∃ N, e * e + f * f = N := ⟨_, rfl⟩
  rw [hN] at h1 h2 ⊢
  go_enter Try.func84, Try.ntmps84
  go_wp2_with fail
  (refine (igNorm_v _ k hN).mono ?_; rintro e w1 ⟨rfl, hb1⟩; have hz1 := hb1.size; (repeat (first | rw [World.size_alloc] at hz1 | rw [World.size_setCell] at hz1 | rw [World.size_drew] at hz1)))
  clear hN
  go_wp2_with fail
  go_loopw [4, 5] (fun v u wr => ∃ k : Nat, v = .int .i64 (k : Int) ∧ u = .int .i64 ((k : Int) + 1) ∧ k ≤ 7 ∧ Below w.heap.size w wr) (fun _ u _ => 100 - (intOf u).toNat)
  case atStart => exact ⟨0, rfl, rfl, by omega, by (repeat' (first | (with_reducible exact Below.refl _ _) | (with_reducible refine Below.alloc ?_ ?_ _) | (with_reducible refine Below.drew ?_) | (with_reducible refine Below.setCell ?_ ?_ _) | (with_reducible refine Below.trans ?_ (Below.mono (by assumption) ?_)) | go_size))⟩
  case round =>
    obtain ⟨k, rfl, rfl, hk, hb⟩ := hrel
    obtain ⟨s, hs⟩ : ∃ s, ((k : Int) + 1) * ((k : Int) + 1) = s := ⟨_, rfl⟩
    have hs2 : 2 * ((k : Int) + 1) * ((k : Int) + 1) = 2 * s := by rw [← hs, Int.mul_assoc]
    have hsb : k = 7 → s = 64 := by rintro rfl; rw [← hs]; decide
    have hsu : s ≤ 64 := by
      rw [← hs]
      have := Int.mul_le_mul (a := (k : Int) + 1) (b := (k : Int) + 1) (c := 8) (d := 8) (by omega) (by omega) (by omega) (by omega)
      omega
    have hs0 : 0 ≤ s := by rw [← hs]; exact Int.mul_nonneg (by omega) (by omega)
    by_cases hle : 2 * s ≤ N
    · have hd : decide (2 * s ≤ N) = true := decide_eq_true hle
      have hk6 : k ≤ 6 := by
        rcases Nat.lt_or_ge k 7 with h | h
        · omega
        · have := hsb (by omega); omega
      go_wp2_with fail
      go_roundw
      case rel => exact ⟨k + 1, by simp, by simp, by omega, hb⟩
      case measure => simp [intOf]; omega
    · have hd : decide (2 * s ≤ N) = false := decide_eq_false hle
      go_wp2_with fail
      go_returns
      exact ⟨k, rfl, hk, by rw [hs]; omega, hb⟩
theorem igRests (e f : Int) (w : World) : Calls Try.prog 59 #[.agg #[.int .i64 e, .int .i64 f]] w fun en w' => ∃ Bm, en = .returned (.func (.func 83) #[] #[.pointer (some ⟨Bm, 0, none⟩)]) ∧ C2 w' Bm (.int .i64 e) (.int .i64 f) ∧ w.heap.size ≤ Bm ∧ Below w.heap.size w w' := by
  go_enter Try.func59, Try.ntmps59
  go_wp2_with fail
  go_returns
  exact ⟨_, rfl, by (repeat (first | ((with_reducible apply C2.mk) <;> (with_reducible assumption)) | (with_reducible apply C2.Z) | (with_reducible apply C2.O) | ((with_reducible apply C2.B); (focus (simp; done))) | (with_reducible apply C2.A) | (with_reducible apply C2.D) | ((with_reducible apply C2.S); focus ((repeat (first | rw [World.size_alloc] | rw [World.size_setCell] | rw [World.size_drew])); omega)) | ((with_reducible apply C2.K); (focus (with_reducible assumption))))), by omega, by (repeat' (first | (with_reducible exact Below.refl _ _) | (with_reducible refine Below.alloc ?_ ?_ _) | (with_reducible refine Below.drew ?_) | (with_reducible refine Below.setCell ?_ ?_ _) | (with_reducible refine Below.trans ?_ (Below.mono (by assumption) ?_)) | go_size))⟩
end Go.Proofs.Ytahnkecdningnaa

namespace Go.Proofs.Ytahnkecdningnaa
open Go Go.RowKit Go.Shelf
attribute [local go_sem] World.cell?_alloc_some cell?_alloc2_some cell?_alloc3_some cell?_alloc4_some frozen?_alloc_some frozen?_alloc2_some frozen?_alloc3_some World.cell?_setCell_far new_ne0 new_ne1 new_ne2 new_ne3 lt2 lt3 lt4 lt5 lt6 lt7 lt8 lt9
attribute [local go_sem] Oper.semAt_some
attribute [local go_sem ↓] eqG neG

/-- What holds while the rests are handed over. -/
structure Rj (W : World) (J : Nat → (Nat → Prop) → World → Prop) (e f : Int) (Bm i : Nat) (S : Nat → Prop) (wr : World) : Prop where
  j : J i S wr
  z : C2 wr Bm (.int .i64 e) (.int .i64 f)
  zlt : Bm < W.heap.size
  s : ∀ b, S b → W.heap.size ≤ b ∧ b < wr.heap.size
  hs : W.heap.size ≤ wr.heap.size
theorem Rj.keep {K : Nat → Prop} {W wr wx : World} {J : Nat → (Nat → Prop) → World → Prop} {e f : Int} {Bm i : Nat} {S : Nat → Prop} (h : Rj W J e f Bm i S wr) (hJ : ∀ k S A B, J k S A → Keep (fun b => b < W.heap.size ∨ S b) A B → J k S B) (hk : Keep K wr wx) (hK : ∀ b, b < W.heap.size ∨ S b → K b) : Rj W J e f Bm i S wx :=
  ⟨hJ _ _ _ _ h.j (hk.mono fun b hb _ => hK b hb), h.z.keep hk (hK _ (.inl h.zlt)), h.zlt, fun b hb => ⟨(h.s b hb).1, by have := (h.s b hb).2; have := hk.size; omega⟩, by have := h.hs; have := hk.size; omega⟩
theorem Rj.below {W wr wx : World} {J : Nat → (Nat → Prop) → World → Prop} {e f : Int} {Bm i : Nat} {S : Nat → Prop} (h : Rj W J e f Bm i S wr) (hJ : ∀ k S A B, J k S A → Keep (fun b => b < W.heap.size ∨ S b) A B → J k S B) (hk : Below wr.heap.size wr wx) : Rj W J e f Bm i S wx := h.keep hJ (Keep.of_below (fun _ => True) hk) (fun _ _ => trivial)
/-- Between two rows. -/
def Ro (W : World) (J : Nat → (Nat → Prop) → World → Prop) (xs : List (Array Value)) (e f : Int) (Bm K : Nat) (v : Value) (wr : World) : Prop :=
  ∃ (i k : Nat) (a : Int) (S : Nat → Prop), v = .int .i64 a ∧ a + k = K + 1 ∧ -(K : Int) ≤ a ∧ i ≤ xs.length ∧ xs.drop i = (rtA (e, f) (2 * K + 1) (-(K : Int)) k a).map gRow ∧ Rj W J e f Bm i S wr
/-- Between two numbers of a row. -/
def Rn (W : World) (J : Nat → (Nat → Prop) → World → Prop) (xs : List (Array Value)) (e f : Int) (Bm K k : Nat) (a : Int) (u : Value) (wr : World) : Prop :=
  ∃ (i j : Nat) (b : Int) (S : Nat → Prop), u = .int .i64 b ∧ b + j = K + 1 ∧ -(K : Int) ≤ b ∧ i ≤ xs.length ∧ xs.drop i = (rtB (e, f) a j b ++ rtA (e, f) (2 * K + 1) (-(K : Int)) k (a + 1)).map gRow ∧ Rj W J e f Bm i S wr

set_option maxRecDepth 100000 in
set_option maxHeartbeats 8000000 in
theorem rests_gives (e f : Int) (Bm : Nat) (w : World) (hm : mdO e f = true) (hc : C2 w Bm (.int .i64 e) (.int .i64 f)) : IterG Try.prog 83 #[.pointer (some ⟨Bm, 0, none⟩)] ((rtL e f).map gRow) (fun b => b = Bm) w := by
  intro l J Jx W hk0 hJ hJx hY h0
  have hz := hc.keep hk0 rfl
  have hBm : Bm < W.heap.size := World.block_lt_of_cell? _ _ hz.c0
  obtain ⟨xs, hxs⟩ : ∃ xs, (rtL e f).map gRow = xs := ⟨_, rfl⟩
  rw [hxs] at hY ⊢
  clear hc
  have hq0 : Rj W J e f Bm 0 (fun _ => False) W := ⟨h0, hz, hBm, fun _ h => h.elim, Nat.le_refl _⟩
  refine callsIn_of_wp Try.func83 rfl trivial ?_ rfl
  simp only [Try.ntmps83, List.size_toArray, List.length_cons, List.length_nil, Nat.reduceAdd, Nat.reduceSub, Array.replicate_succ, Array.replicate_zero, List.push_toArray, List.append_toArray, List.nil_append, List.cons_append]
  refine wpIn_wide.2 ?_
  obtain ⟨z0, z1⟩ := hz
  go_wp2_with fail
  (refine (igReach e f _ hm).mono ?_; rintro e w1 ⟨K, rfl, hK7, hKN, hb1⟩; have hz1 := hb1.size; (repeat (first | rw [World.size_alloc] at hz1 | rw [World.size_setCell] at hz1 | rw [World.size_drew] at hz1)))
  have hq1 := hq0.below hJ hb1
  rw [← rtK_is hm hKN] at hxs
  clear hq0 h0 hk0 z0 z1 hKN
  go_wp2_with fail
  go_loopw [4] (fun v wr => Ro W J xs e f Bm K v wr) (fun v _ => 100 - (intOf v + 20).toNat)
  case atStart => exact ⟨0, 2 * K + 1, _, fun _ => False, rfl, by omega, by omega, Nat.zero_le _, by rw [List.drop_zero, ← hxs]; rfl, hq1⟩
  case round =>
    clear hq1 hxs
    obtain ⟨i, k, a, S, rfl, hak, haK, hil, hdr, hq⟩ := hrel
    cases k with
    | zero =>
      have hd : decide (a ≤ (K : Int)) = false := decide_eq_false (by omega)
      have hi := drop_end hil hdr
      go_wp2_with fail
      go_end0
      exact ⟨⟨_, rfl⟩, hq.hs, .inl ⟨S, hi ▸ hq.j⟩⟩
    | succ k =>
      have hd : decide (a ≤ (K : Int)) = true := decide_eq_true (by omega)
      go_wp2_with fail
      go_loopw [5] (fun u wr => Rn W J xs e f Bm K k a u wr) (fun u _ => 100 - (intOf u + 20).toNat)
      case atStart => exact ⟨i, 2 * K + 1, _, S, rfl, by omega, by omega, hil, hdr, hq⟩
      case round =>
        clear hdr hq hil
        obtain ⟨i, j, b, S, rfl, hbj, hbK, hil, hdr, hq⟩ := hrel
        have hsI := hq.hs
        cases j with
        | zero =>
          have hd2 : decide (b ≤ (K : Int)) = false := decide_eq_false (by omega)
          go_wp2_with fail
          go_roundw
          case rel => exact ⟨i, k, a + 1, S, by simp, by omega, by omega, hil, by rw [hdr, rtB]; rfl, hq⟩
          case measure => simp [intOf]; omega
        | succ j =>
          have hd2 : decide (b ≤ (K : Int)) = true := decide_eq_true (by omega)
          have hdv : dvO a b e f = true := md_dv (gok_sml (by omega) (by omega) (by omega) (by omega)) hm
          obtain ⟨p, hp⟩ : ∃ p, rA a b e f = p := ⟨_, rfl⟩
          obtain ⟨q, hpq⟩ : ∃ q, rB a b e f = q := ⟨_, rfl⟩
          have hrs : rs (e, f) (a, b) = (p, q) := Prod.ext hp hpq
          rw [rtB, hrs] at hdr
          obtain ⟨z0, z1⟩ := hq.z
          go_upto_region 8 with fail
          refine wp_name ?_
          intro w2 hb2
          (have hz2 := hb2.size; (repeat (first | rw [World.size_alloc] at hz2 | rw [World.size_setCell] at hz2 | rw [World.size_drew] at hz2)); have pp := C2.K hb2 (b := Bm) (x := _) (y := _) (by (repeat (first | ((with_reducible apply C2.mk) <;> (with_reducible assumption)) | (with_reducible apply C2.Z) | (with_reducible apply C2.O) | ((with_reducible apply C2.B); (focus (simp; done))) | (with_reducible apply C2.A) | (with_reducible apply C2.D) | ((with_reducible apply C2.S); focus ((repeat (first | rw [World.size_alloc] | rw [World.size_setCell] | rw [World.size_drew])); omega)) | ((with_reducible apply C2.K); (focus (with_reducible assumption)))))); obtain ⟨kk1, kk2⟩ := pp; have pp := T2.K hb2 (b := wr.heap.size) (x := _) (y := _) (by (repeat (first | ((with_reducible apply T2.mk) <;> (with_reducible assumption)) | (with_reducible apply T2.Z) | (with_reducible apply T2.O) | ((with_reducible apply T2.B); (focus (simp; done))) | (with_reducible apply T2.A) | (with_reducible apply T2.D) | ((with_reducible apply T2.S); focus ((repeat (first | rw [World.size_alloc] | rw [World.size_setCell] | rw [World.size_drew])); omega)) | ((with_reducible apply T2.K); (focus (with_reducible assumption)))))); obtain ⟨kk3, kk4, fkk3, fkk4⟩ := pp)
          have hqA := (hq.below hJ (wx := w2) ((((Below.refl _ _).alloc (by omega) _).trans (hb2.mono (by simp)))))
          clear hq
          by_cases hit : (p, q) = (a, b)
          · rw [if_pos hit, List.cons_append, List.map_cons] at hdr
            obtain ⟨hx, hdr'⟩ := drop_cons hdr
            have hl1 : i + 1 ≤ xs.length := by have := (List.getElem?_eq_some_iff.1 hx).1; omega
            obtain ⟨e1, e2⟩ := Prod.mk.inj hit
            rw [e1] at hp
            rw [e2] at hpq
            clear hit hdr hrs e1 e2
            have hbe : (a == a && b == b) = true := by simp
            refine (wpIn_wide (n := 8)).1 ?_
            refine wpIn_region_any (by kernel_rfl) ?_
            (try (change wpAnyIn _ _ _ _ _ _ _ _ _ (World.drew _)))
            refine wpAnyIn_ready (rs := [0, 1, 3]) (by kernel_rfl) (by simp) ?_
            refine AllReadyIn.cons rfl (fun K hK => ?_) ?_
            · go_simp
              refine hK _ _ ?_
              clear hK K
              refine wpAnyIn_ready (rs := [1, 3]) (by kernel_rfl) (by simp) ?_
              refine AllReadyIn.cons rfl (fun K hK => ?_) ?_
              · go_simp
                refine hK _ _ ?_
                clear hK K
                refine wpAnyIn_ready (rs := [2, 3]) (by kernel_rfl) (by simp) ?_
                refine AllReadyIn.cons rfl (fun K hK => ?_) ?_
                · go_simp
                  refine ⟨trivial, ?_⟩
                  (refine (callsIn_wide.2 (igRest_v _ hdv hp hpq)).mono ?_; rintro e w3 ⟨rfl, hb3⟩; have hz3 := hb3.size; (repeat (first | rw [World.size_alloc] at hz3 | rw [World.size_setCell] at hz3 | rw [World.size_drew] at hz3)); have pp := T2.K hb3 (b := wr.heap.size) (x := _) (y := _) (by (repeat (first | ((with_reducible apply T2.mk) <;> (with_reducible assumption)) | (with_reducible apply T2.Z) | (with_reducible apply T2.O) | ((with_reducible apply T2.B); (focus (simp; done))) | (with_reducible apply T2.A) | (with_reducible apply T2.D) | ((with_reducible apply T2.S); focus ((repeat (first | rw [World.size_alloc] | rw [World.size_setCell] | rw [World.size_drew])); omega)) | ((with_reducible apply T2.K); (focus (with_reducible assumption)))))); obtain ⟨kk5, kk6, fkk5, fkk6⟩ := pp; (try clear kk1 kk2 kk3 kk4 fkk3 fkk4))
                  refine hK _ _ ?_
                  clear hK K
                  refine wpAnyIn_ready (rs := [3]) (by kernel_rfl) (by simp) ?_
                  refine AllReadyIn.cons rfl (fun K hK => ?_) ?_
                  · go_simp
                    refine hK _ _ ?_
                    clear hK K
                    refine wpAnyIn_ready (rs := [4]) (by kernel_rfl) (by simp) ?_
                    refine AllReadyIn.cons rfl (fun K hK => ?_) ?_
                    · go_simp
                      refine hK _ _ ?_
                      clear hK K
                      refine wpAnyIn_ready (rs := [5]) (by kernel_rfl) (by simp) ?_
                      refine AllReadyIn.cons rfl (fun K hK => ?_) ?_
                      · go_simp
                        refine hK _ _ ?_
                        clear hK K
                        refine wpAnyIn_ready (rs := [6, 7]) (by kernel_rfl) (by simp) ?_
                        refine AllReadyIn.cons rfl (fun K hK => ?_) ?_
                        · go_simp
                          refine hK _ _ ?_
                          clear hK K
                          refine wpAnyIn_ready (rs := [7]) (by kernel_rfl) (by simp) ?_
                          refine AllReadyIn.cons rfl (fun K hK => ?_) ?_
                          · go_simp
                            refine hK _ _ ?_
                            clear hK K
                            have hqB := hqA.below hJ (show Below w2.heap.size w2 w3 by (repeat' (first | (with_reducible exact Below.refl _ _) | (with_reducible refine Below.alloc ?_ ?_ _) | (with_reducible refine Below.drew ?_) | (with_reducible refine Below.setCell ?_ ?_ _) | (with_reducible refine Below.trans ?_ (Below.mono (by assumption) ?_)) | go_size)))
                            obtain ⟨fn, tmps, assign, body, hy, hR⟩ := hY i S _ w3 hx hqB.j hqB.hs hqB.s
                            rw [gRow] at hy
                            have t0 := hqB.z
                            refine wpAnyIn_ready (rs := [8]) (by kernel_rfl) (by simp) ?_
                            refine AllReadyIn.cons rfl (fun K hK => ?_) AllReadyIn.nil
                            go_simp
                            refine hR.mono ?_
                            rintro e W3 ⟨c, S', rfl, hc', hS', hk3⟩
                            have hs3 := hk3.size
                            have hs0 := hqB.hs
                            have t3 := t0.keep hk3 ⟨fun h => by have := (hqB.s _ h).1; omega, .inl rfl⟩
                            have hS2 : ∀ b, S' b → W.heap.size ≤ b ∧ b < W3.heap.size := fun b hb => by
                              refine ⟨?_, (hS' b hb).2⟩
                              rcases (hS' b hb).1 with h | h
                              · exact (hqB.s b h).1
                              · omega
                            have hsW : W.heap.size ≤ W3.heap.size := by omega
                            clear hy hR hS' hk3 hx hqB hqA t0
                            refine hK _ _ ?_
                            clear hK K
                            refine wpAnyIn_ready (rs := [9]) (by kernel_rfl) (by simp) ?_
                            refine AllReadyIn.cons rfl (fun K hK => ?_) AllReadyIn.nil
                            go_simp
                            refine hK _ _ ?_
                            clear hK K
                            refine wpAnyIn_ready (rs := [10]) (by kernel_rfl) (by simp) ?_
                            refine AllReadyIn.cons rfl (fun K hK => ?_) AllReadyIn.nil
                            go_simp
                            refine hK _ _ ?_
                            clear hK K
                            refine wpAnyIn_done (by kernel_rfl) ?_ _
                            cases c
                            · gi_wp2
                              go_wp2_with fail
                              go_returns
                              exact ⟨⟨_, rfl⟩, hsW, .inr ⟨i, S', hc'⟩⟩
                            · gi_wp2
                              go_wp2_with fail
                              go_roundw
                              case rel => exact ⟨i + 1, j, b + 1, S', by simp, by omega, by omega, hl1, hdr', ⟨hc', t3, hBm, hS2, hsW⟩⟩
                              case measure => simp [intOf]; omega
                          exact AllReadyIn.nil
                        refine AllReadyIn.cons rfl (fun K hK => ?_) ?_
                        · go_simp
                          refine hK _ _ ?_
                          clear hK K
                          refine wpAnyIn_ready (rs := [6]) (by kernel_rfl) (by simp) ?_
                          refine AllReadyIn.cons rfl (fun K hK => ?_) ?_
                          · go_simp
                            refine hK _ _ ?_
                            clear hK K
                            have hqB := hqA.below hJ (show Below w2.heap.size w2 w3 by (repeat' (first | (with_reducible exact Below.refl _ _) | (with_reducible refine Below.alloc ?_ ?_ _) | (with_reducible refine Below.drew ?_) | (with_reducible refine Below.setCell ?_ ?_ _) | (with_reducible refine Below.trans ?_ (Below.mono (by assumption) ?_)) | go_size)))
                            obtain ⟨fn, tmps, assign, body, hy, hR⟩ := hY i S _ w3 hx hqB.j hqB.hs hqB.s
                            rw [gRow] at hy
                            have t0 := hqB.z
                            refine wpAnyIn_ready (rs := [8]) (by kernel_rfl) (by simp) ?_
                            refine AllReadyIn.cons rfl (fun K hK => ?_) AllReadyIn.nil
                            go_simp
                            refine hR.mono ?_
                            rintro e W3 ⟨c, S', rfl, hc', hS', hk3⟩
                            have hs3 := hk3.size
                            have hs0 := hqB.hs
                            have t3 := t0.keep hk3 ⟨fun h => by have := (hqB.s _ h).1; omega, .inl rfl⟩
                            have hS2 : ∀ b, S' b → W.heap.size ≤ b ∧ b < W3.heap.size := fun b hb => by
                              refine ⟨?_, (hS' b hb).2⟩
                              rcases (hS' b hb).1 with h | h
                              · exact (hqB.s b h).1
                              · omega
                            have hsW : W.heap.size ≤ W3.heap.size := by omega
                            clear hy hR hS' hk3 hx hqB hqA t0
                            refine hK _ _ ?_
                            clear hK K
                            refine wpAnyIn_ready (rs := [9]) (by kernel_rfl) (by simp) ?_
                            refine AllReadyIn.cons rfl (fun K hK => ?_) AllReadyIn.nil
                            go_simp
                            refine hK _ _ ?_
                            clear hK K
                            refine wpAnyIn_ready (rs := [10]) (by kernel_rfl) (by simp) ?_
                            refine AllReadyIn.cons rfl (fun K hK => ?_) AllReadyIn.nil
                            go_simp
                            refine hK _ _ ?_
                            clear hK K
                            refine wpAnyIn_done (by kernel_rfl) ?_ _
                            cases c
                            · gi_wp2
                              go_wp2_with fail
                              go_returns
                              exact ⟨⟨_, rfl⟩, hsW, .inr ⟨i, S', hc'⟩⟩
                            · gi_wp2
                              go_wp2_with fail
                              go_roundw
                              case rel => exact ⟨i + 1, j, b + 1, S', by simp, by omega, by omega, hl1, hdr', ⟨hc', t3, hBm, hS2, hsW⟩⟩
                              case measure => simp [intOf]; omega
                          exact AllReadyIn.nil
                        exact AllReadyIn.nil
                      exact AllReadyIn.nil
                    exact AllReadyIn.nil
                  exact AllReadyIn.nil
                refine AllReadyIn.cons rfl (fun K hK => ?_) ?_
                · go_simp
                  refine hK _ _ ?_
                  clear hK K
                  refine wpAnyIn_ready (rs := [2]) (by kernel_rfl) (by simp) ?_
                  refine AllReadyIn.cons rfl (fun K hK => ?_) ?_
                  · go_simp
                    refine ⟨trivial, ?_⟩
                    (refine (callsIn_wide.2 (igRest_v _ hdv hp hpq)).mono ?_; rintro e w3 ⟨rfl, hb3⟩; have hz3 := hb3.size; (repeat (first | rw [World.size_alloc] at hz3 | rw [World.size_setCell] at hz3 | rw [World.size_drew] at hz3)); have pp := T2.K hb3 (b := wr.heap.size) (x := _) (y := _) (by (repeat (first | ((with_reducible apply T2.mk) <;> (with_reducible assumption)) | (with_reducible apply T2.Z) | (with_reducible apply T2.O) | ((with_reducible apply T2.B); (focus (simp; done))) | (with_reducible apply T2.A) | (with_reducible apply T2.D) | ((with_reducible apply T2.S); focus ((repeat (first | rw [World.size_alloc] | rw [World.size_setCell] | rw [World.size_drew])); omega)) | ((with_reducible apply T2.K); (focus (with_reducible assumption)))))); obtain ⟨kk7, kk8, fkk7, fkk8⟩ := pp; (try clear kk5 kk6 fkk5 fkk6))
                    refine hK _ _ ?_
                    clear hK K
                    refine wpAnyIn_ready (rs := [4]) (by kernel_rfl) (by simp) ?_
                    refine AllReadyIn.cons rfl (fun K hK => ?_) ?_
                    · go_simp
                      refine hK _ _ ?_
                      clear hK K
                      refine wpAnyIn_ready (rs := [5]) (by kernel_rfl) (by simp) ?_
                      refine AllReadyIn.cons rfl (fun K hK => ?_) ?_
                      · go_simp
                        refine hK _ _ ?_
                        clear hK K
                        refine wpAnyIn_ready (rs := [6, 7]) (by kernel_rfl) (by simp) ?_
                        refine AllReadyIn.cons rfl (fun K hK => ?_) ?_
                        · go_simp
                          refine hK _ _ ?_
                          clear hK K
                          refine wpAnyIn_ready (rs := [7]) (by kernel_rfl) (by simp) ?_
                          refine AllReadyIn.cons rfl (fun K hK => ?_) ?_
                          · go_simp
                            refine hK _ _ ?_
                            clear hK K
                            have hqB := hqA.below hJ (show Below w2.heap.size w2 w3 by (repeat' (first | (with_reducible exact Below.refl _ _) | (with_reducible refine Below.alloc ?_ ?_ _) | (with_reducible refine Below.drew ?_) | (with_reducible refine Below.setCell ?_ ?_ _) | (with_reducible refine Below.trans ?_ (Below.mono (by assumption) ?_)) | go_size)))
                            obtain ⟨fn, tmps, assign, body, hy, hR⟩ := hY i S _ w3 hx hqB.j hqB.hs hqB.s
                            rw [gRow] at hy
                            have t0 := hqB.z
                            refine wpAnyIn_ready (rs := [8]) (by kernel_rfl) (by simp) ?_
                            refine AllReadyIn.cons rfl (fun K hK => ?_) AllReadyIn.nil
                            go_simp
                            refine hR.mono ?_
                            rintro e W3 ⟨c, S', rfl, hc', hS', hk3⟩
                            have hs3 := hk3.size
                            have hs0 := hqB.hs
                            have t3 := t0.keep hk3 ⟨fun h => by have := (hqB.s _ h).1; omega, .inl rfl⟩
                            have hS2 : ∀ b, S' b → W.heap.size ≤ b ∧ b < W3.heap.size := fun b hb => by
                              refine ⟨?_, (hS' b hb).2⟩
                              rcases (hS' b hb).1 with h | h
                              · exact (hqB.s b h).1
                              · omega
                            have hsW : W.heap.size ≤ W3.heap.size := by omega
                            clear hy hR hS' hk3 hx hqB hqA t0
                            refine hK _ _ ?_
                            clear hK K
                            refine wpAnyIn_ready (rs := [9]) (by kernel_rfl) (by simp) ?_
                            refine AllReadyIn.cons rfl (fun K hK => ?_) AllReadyIn.nil
                            go_simp
                            refine hK _ _ ?_
                            clear hK K
                            refine wpAnyIn_ready (rs := [10]) (by kernel_rfl) (by simp) ?_
                            refine AllReadyIn.cons rfl (fun K hK => ?_) AllReadyIn.nil
                            go_simp
                            refine hK _ _ ?_
                            clear hK K
                            refine wpAnyIn_done (by kernel_rfl) ?_ _
                            cases c
                            · gi_wp2
                              go_wp2_with fail
                              go_returns
                              exact ⟨⟨_, rfl⟩, hsW, .inr ⟨i, S', hc'⟩⟩
                            · gi_wp2
                              go_wp2_with fail
                              go_roundw
                              case rel => exact ⟨i + 1, j, b + 1, S', by simp, by omega, by omega, hl1, hdr', ⟨hc', t3, hBm, hS2, hsW⟩⟩
                              case measure => simp [intOf]; omega
                          exact AllReadyIn.nil
                        refine AllReadyIn.cons rfl (fun K hK => ?_) ?_
                        · go_simp
                          refine hK _ _ ?_
                          clear hK K
                          refine wpAnyIn_ready (rs := [6]) (by kernel_rfl) (by simp) ?_
                          refine AllReadyIn.cons rfl (fun K hK => ?_) ?_
                          · go_simp
                            refine hK _ _ ?_
                            clear hK K
                            have hqB := hqA.below hJ (show Below w2.heap.size w2 w3 by (repeat' (first | (with_reducible exact Below.refl _ _) | (with_reducible refine Below.alloc ?_ ?_ _) | (with_reducible refine Below.drew ?_) | (with_reducible refine Below.setCell ?_ ?_ _) | (with_reducible refine Below.trans ?_ (Below.mono (by assumption) ?_)) | go_size)))
                            obtain ⟨fn, tmps, assign, body, hy, hR⟩ := hY i S _ w3 hx hqB.j hqB.hs hqB.s
                            rw [gRow] at hy
                            have t0 := hqB.z
                            refine wpAnyIn_ready (rs := [8]) (by kernel_rfl) (by simp) ?_
                            refine AllReadyIn.cons rfl (fun K hK => ?_) AllReadyIn.nil
                            go_simp
                            refine hR.mono ?_
                            rintro e W3 ⟨c, S', rfl, hc', hS', hk3⟩
                            have hs3 := hk3.size
                            have hs0 := hqB.hs
                            have t3 := t0.keep hk3 ⟨fun h => by have := (hqB.s _ h).1; omega, .inl rfl⟩
                            have hS2 : ∀ b, S' b → W.heap.size ≤ b ∧ b < W3.heap.size := fun b hb => by
                              refine ⟨?_, (hS' b hb).2⟩
                              rcases (hS' b hb).1 with h | h
                              · exact (hqB.s b h).1
                              · omega
                            have hsW : W.heap.size ≤ W3.heap.size := by omega
                            clear hy hR hS' hk3 hx hqB hqA t0
                            refine hK _ _ ?_
                            clear hK K
                            refine wpAnyIn_ready (rs := [9]) (by kernel_rfl) (by simp) ?_
                            refine AllReadyIn.cons rfl (fun K hK => ?_) AllReadyIn.nil
                            go_simp
                            refine hK _ _ ?_
                            clear hK K
                            refine wpAnyIn_ready (rs := [10]) (by kernel_rfl) (by simp) ?_
                            refine AllReadyIn.cons rfl (fun K hK => ?_) AllReadyIn.nil
                            go_simp
                            refine hK _ _ ?_
                            clear hK K
                            refine wpAnyIn_done (by kernel_rfl) ?_ _
                            cases c
                            · gi_wp2
                              go_wp2_with fail
                              go_returns
                              exact ⟨⟨_, rfl⟩, hsW, .inr ⟨i, S', hc'⟩⟩
                            · gi_wp2
                              go_wp2_with fail
                              go_roundw
                              case rel => exact ⟨i + 1, j, b + 1, S', by simp, by omega, by omega, hl1, hdr', ⟨hc', t3, hBm, hS2, hsW⟩⟩
                              case measure => simp [intOf]; omega
                          exact AllReadyIn.nil
                        exact AllReadyIn.nil
                      exact AllReadyIn.nil
                    exact AllReadyIn.nil
                  exact AllReadyIn.nil
                exact AllReadyIn.nil
              refine AllReadyIn.cons rfl (fun K hK => ?_) ?_
              · go_simp
                refine hK _ _ ?_
                clear hK K
                refine wpAnyIn_ready (rs := [1]) (by kernel_rfl) (by simp) ?_
                refine AllReadyIn.cons rfl (fun K hK => ?_) ?_
                · go_simp
                  refine hK _ _ ?_
                  clear hK K
                  refine wpAnyIn_ready (rs := [2]) (by kernel_rfl) (by simp) ?_
                  refine AllReadyIn.cons rfl (fun K hK => ?_) ?_
                  · go_simp
                    refine ⟨trivial, ?_⟩
                    (refine (callsIn_wide.2 (igRest_v _ hdv hp hpq)).mono ?_; rintro e w3 ⟨rfl, hb3⟩; have hz3 := hb3.size; (repeat (first | rw [World.size_alloc] at hz3 | rw [World.size_setCell] at hz3 | rw [World.size_drew] at hz3)); have pp := T2.K hb3 (b := wr.heap.size) (x := _) (y := _) (by (repeat (first | ((with_reducible apply T2.mk) <;> (with_reducible assumption)) | (with_reducible apply T2.Z) | (with_reducible apply T2.O) | ((with_reducible apply T2.B); (focus (simp; done))) | (with_reducible apply T2.A) | (with_reducible apply T2.D) | ((with_reducible apply T2.S); focus ((repeat (first | rw [World.size_alloc] | rw [World.size_setCell] | rw [World.size_drew])); omega)) | ((with_reducible apply T2.K); (focus (with_reducible assumption)))))); obtain ⟨kk9, kk10, fkk9, fkk10⟩ := pp; (try clear kk7 kk8 fkk7 fkk8))
                    refine hK _ _ ?_
                    clear hK K
                    refine wpAnyIn_ready (rs := [4]) (by kernel_rfl) (by simp) ?_
                    refine AllReadyIn.cons rfl (fun K hK => ?_) ?_
                    · go_simp
                      refine hK _ _ ?_
                      clear hK K
                      refine wpAnyIn_ready (rs := [5]) (by kernel_rfl) (by simp) ?_
                      refine AllReadyIn.cons rfl (fun K hK => ?_) ?_
                      · go_simp
                        refine hK _ _ ?_
                        clear hK K
                        refine wpAnyIn_ready (rs := [6, 7]) (by kernel_rfl) (by simp) ?_
                        refine AllReadyIn.cons rfl (fun K hK => ?_) ?_
                        · go_simp
                          refine hK _ _ ?_
                          clear hK K
                          refine wpAnyIn_ready (rs := [7]) (by kernel_rfl) (by simp) ?_
                          refine AllReadyIn.cons rfl (fun K hK => ?_) ?_
                          · go_simp
                            refine hK _ _ ?_
                            clear hK K
                            have hqB := hqA.below hJ (show Below w2.heap.size w2 w3 by (repeat' (first | (with_reducible exact Below.refl _ _) | (with_reducible refine Below.alloc ?_ ?_ _) | (with_reducible refine Below.drew ?_) | (with_reducible refine Below.setCell ?_ ?_ _) | (with_reducible refine Below.trans ?_ (Below.mono (by assumption) ?_)) | go_size)))
                            obtain ⟨fn, tmps, assign, body, hy, hR⟩ := hY i S _ w3 hx hqB.j hqB.hs hqB.s
                            rw [gRow] at hy
                            have t0 := hqB.z
                            refine wpAnyIn_ready (rs := [8]) (by kernel_rfl) (by simp) ?_
                            refine AllReadyIn.cons rfl (fun K hK => ?_) AllReadyIn.nil
                            go_simp
                            refine hR.mono ?_
                            rintro e W3 ⟨c, S', rfl, hc', hS', hk3⟩
                            have hs3 := hk3.size
                            have hs0 := hqB.hs
                            have t3 := t0.keep hk3 ⟨fun h => by have := (hqB.s _ h).1; omega, .inl rfl⟩
                            have hS2 : ∀ b, S' b → W.heap.size ≤ b ∧ b < W3.heap.size := fun b hb => by
                              refine ⟨?_, (hS' b hb).2⟩
                              rcases (hS' b hb).1 with h | h
                              · exact (hqB.s b h).1
                              · omega
                            have hsW : W.heap.size ≤ W3.heap.size := by omega
                            clear hy hR hS' hk3 hx hqB hqA t0
                            refine hK _ _ ?_
                            clear hK K
                            refine wpAnyIn_ready (rs := [9]) (by kernel_rfl) (by simp) ?_
                            refine AllReadyIn.cons rfl (fun K hK => ?_) AllReadyIn.nil
                            go_simp
                            refine hK _ _ ?_
                            clear hK K
                            refine wpAnyIn_ready (rs := [10]) (by kernel_rfl) (by simp) ?_
                            refine AllReadyIn.cons rfl (fun K hK => ?_) AllReadyIn.nil
                            go_simp
                            refine hK _ _ ?_
                            clear hK K
                            refine wpAnyIn_done (by kernel_rfl) ?_ _
                            cases c
                            · gi_wp2
                              go_wp2_with fail
                              go_returns
                              exact ⟨⟨_, rfl⟩, hsW, .inr ⟨i, S', hc'⟩⟩
                            · gi_wp2
                              go_wp2_with fail
                              go_roundw
                              case rel => exact ⟨i + 1, j, b + 1, S', by simp, by omega, by omega, hl1, hdr', ⟨hc', t3, hBm, hS2, hsW⟩⟩
                              case measure => simp [intOf]; omega
                          exact AllReadyIn.nil
                        refine AllReadyIn.cons rfl (fun K hK => ?_) ?_
                        · go_simp
                          refine hK _ _ ?_
                          clear hK K
                          refine wpAnyIn_ready (rs := [6]) (by kernel_rfl) (by simp) ?_
                          refine AllReadyIn.cons rfl (fun K hK => ?_) ?_
                          · go_simp
                            refine hK _ _ ?_
                            clear hK K
                            have hqB := hqA.below hJ (show Below w2.heap.size w2 w3 by (repeat' (first | (with_reducible exact Below.refl _ _) | (with_reducible refine Below.alloc ?_ ?_ _) | (with_reducible refine Below.drew ?_) | (with_reducible refine Below.setCell ?_ ?_ _) | (with_reducible refine Below.trans ?_ (Below.mono (by assumption) ?_)) | go_size)))
                            obtain ⟨fn, tmps, assign, body, hy, hR⟩ := hY i S _ w3 hx hqB.j hqB.hs hqB.s
                            rw [gRow] at hy
                            have t0 := hqB.z
                            refine wpAnyIn_ready (rs := [8]) (by kernel_rfl) (by simp) ?_
                            refine AllReadyIn.cons rfl (fun K hK => ?_) AllReadyIn.nil
                            go_simp
                            refine hR.mono ?_
                            rintro e W3 ⟨c, S', rfl, hc', hS', hk3⟩
                            have hs3 := hk3.size
                            have hs0 := hqB.hs
                            have t3 := t0.keep hk3 ⟨fun h => by have := (hqB.s _ h).1; omega, .inl rfl⟩
                            have hS2 : ∀ b, S' b → W.heap.size ≤ b ∧ b < W3.heap.size := fun b hb => by
                              refine ⟨?_, (hS' b hb).2⟩
                              rcases (hS' b hb).1 with h | h
                              · exact (hqB.s b h).1
                              · omega
                            have hsW : W.heap.size ≤ W3.heap.size := by omega
                            clear hy hR hS' hk3 hx hqB hqA t0
                            refine hK _ _ ?_
                            clear hK K
                            refine wpAnyIn_ready (rs := [9]) (by kernel_rfl) (by simp) ?_
                            refine AllReadyIn.cons rfl (fun K hK => ?_) AllReadyIn.nil
                            go_simp
                            refine hK _ _ ?_
                            clear hK K
                            refine wpAnyIn_ready (rs := [10]) (by kernel_rfl) (by simp) ?_
                            refine AllReadyIn.cons rfl (fun K hK => ?_) AllReadyIn.nil
                            go_simp
                            refine hK _ _ ?_
                            clear hK K
                            refine wpAnyIn_done (by kernel_rfl) ?_ _
                            cases c
                            · gi_wp2
                              go_wp2_with fail
                              go_returns
                              exact ⟨⟨_, rfl⟩, hsW, .inr ⟨i, S', hc'⟩⟩
                            · gi_wp2
                              go_wp2_with fail
                              go_roundw
                              case rel => exact ⟨i + 1, j, b + 1, S', by simp, by omega, by omega, hl1, hdr', ⟨hc', t3, hBm, hS2, hsW⟩⟩
                              case measure => simp [intOf]; omega
                          exact AllReadyIn.nil
                        exact AllReadyIn.nil
                      exact AllReadyIn.nil
                    exact AllReadyIn.nil
                  exact AllReadyIn.nil
                exact AllReadyIn.nil
              exact AllReadyIn.nil
            refine AllReadyIn.cons rfl (fun K hK => ?_) ?_
            · go_simp
              refine hK _ _ ?_
              clear hK K
              refine wpAnyIn_ready (rs := [0, 3]) (by kernel_rfl) (by simp) ?_
              refine AllReadyIn.cons rfl (fun K hK => ?_) ?_
              · go_simp
                refine hK _ _ ?_
                clear hK K
                refine wpAnyIn_ready (rs := [2, 3]) (by kernel_rfl) (by simp) ?_
                refine AllReadyIn.cons rfl (fun K hK => ?_) ?_
                · go_simp
                  refine ⟨trivial, ?_⟩
                  (refine (callsIn_wide.2 (igRest_v _ hdv hp hpq)).mono ?_; rintro e w3 ⟨rfl, hb3⟩; have hz3 := hb3.size; (repeat (first | rw [World.size_alloc] at hz3 | rw [World.size_setCell] at hz3 | rw [World.size_drew] at hz3)); have pp := T2.K hb3 (b := wr.heap.size) (x := _) (y := _) (by (repeat (first | ((with_reducible apply T2.mk) <;> (with_reducible assumption)) | (with_reducible apply T2.Z) | (with_reducible apply T2.O) | ((with_reducible apply T2.B); (focus (simp; done))) | (with_reducible apply T2.A) | (with_reducible apply T2.D) | ((with_reducible apply T2.S); focus ((repeat (first | rw [World.size_alloc] | rw [World.size_setCell] | rw [World.size_drew])); omega)) | ((with_reducible apply T2.K); (focus (with_reducible assumption)))))); obtain ⟨kk11, kk12, fkk11, fkk12⟩ := pp; (try clear kk9 kk10 fkk9 fkk10))
                  refine hK _ _ ?_
                  clear hK K
                  refine wpAnyIn_ready (rs := [3]) (by kernel_rfl) (by simp) ?_
                  refine AllReadyIn.cons rfl (fun K hK => ?_) ?_
                  · go_simp
                    refine hK _ _ ?_
                    clear hK K
                    refine wpAnyIn_ready (rs := [4]) (by kernel_rfl) (by simp) ?_
                    refine AllReadyIn.cons rfl (fun K hK => ?_) ?_
                    · go_simp
                      refine hK _ _ ?_
                      clear hK K
                      refine wpAnyIn_ready (rs := [5]) (by kernel_rfl) (by simp) ?_
                      refine AllReadyIn.cons rfl (fun K hK => ?_) ?_
                      · go_simp
                        refine hK _ _ ?_
                        clear hK K
                        refine wpAnyIn_ready (rs := [6, 7]) (by kernel_rfl) (by simp) ?_
                        refine AllReadyIn.cons rfl (fun K hK => ?_) ?_
                        · go_simp
                          refine hK _ _ ?_
                          clear hK K
                          refine wpAnyIn_ready (rs := [7]) (by kernel_rfl) (by simp) ?_
                          refine AllReadyIn.cons rfl (fun K hK => ?_) ?_
                          · go_simp
                            refine hK _ _ ?_
                            clear hK K
                            have hqB := hqA.below hJ (show Below w2.heap.size w2 w3 by (repeat' (first | (with_reducible exact Below.refl _ _) | (with_reducible refine Below.alloc ?_ ?_ _) | (with_reducible refine Below.drew ?_) | (with_reducible refine Below.setCell ?_ ?_ _) | (with_reducible refine Below.trans ?_ (Below.mono (by assumption) ?_)) | go_size)))
                            obtain ⟨fn, tmps, assign, body, hy, hR⟩ := hY i S _ w3 hx hqB.j hqB.hs hqB.s
                            rw [gRow] at hy
                            have t0 := hqB.z
                            refine wpAnyIn_ready (rs := [8]) (by kernel_rfl) (by simp) ?_
                            refine AllReadyIn.cons rfl (fun K hK => ?_) AllReadyIn.nil
                            go_simp
                            refine hR.mono ?_
                            rintro e W3 ⟨c, S', rfl, hc', hS', hk3⟩
                            have hs3 := hk3.size
                            have hs0 := hqB.hs
                            have t3 := t0.keep hk3 ⟨fun h => by have := (hqB.s _ h).1; omega, .inl rfl⟩
                            have hS2 : ∀ b, S' b → W.heap.size ≤ b ∧ b < W3.heap.size := fun b hb => by
                              refine ⟨?_, (hS' b hb).2⟩
                              rcases (hS' b hb).1 with h | h
                              · exact (hqB.s b h).1
                              · omega
                            have hsW : W.heap.size ≤ W3.heap.size := by omega
                            clear hy hR hS' hk3 hx hqB hqA t0
                            refine hK _ _ ?_
                            clear hK K
                            refine wpAnyIn_ready (rs := [9]) (by kernel_rfl) (by simp) ?_
                            refine AllReadyIn.cons rfl (fun K hK => ?_) AllReadyIn.nil
                            go_simp
                            refine hK _ _ ?_
                            clear hK K
                            refine wpAnyIn_ready (rs := [10]) (by kernel_rfl) (by simp) ?_
                            refine AllReadyIn.cons rfl (fun K hK => ?_) AllReadyIn.nil
                            go_simp
                            refine hK _ _ ?_
                            clear hK K
                            refine wpAnyIn_done (by kernel_rfl) ?_ _
                            cases c
                            · gi_wp2
                              go_wp2_with fail
                              go_returns
                              exact ⟨⟨_, rfl⟩, hsW, .inr ⟨i, S', hc'⟩⟩
                            · gi_wp2
                              go_wp2_with fail
                              go_roundw
                              case rel => exact ⟨i + 1, j, b + 1, S', by simp, by omega, by omega, hl1, hdr', ⟨hc', t3, hBm, hS2, hsW⟩⟩
                              case measure => simp [intOf]; omega
                          exact AllReadyIn.nil
                        refine AllReadyIn.cons rfl (fun K hK => ?_) ?_
                        · go_simp
                          refine hK _ _ ?_
                          clear hK K
                          refine wpAnyIn_ready (rs := [6]) (by kernel_rfl) (by simp) ?_
                          refine AllReadyIn.cons rfl (fun K hK => ?_) ?_
                          · go_simp
                            refine hK _ _ ?_
                            clear hK K
                            have hqB := hqA.below hJ (show Below w2.heap.size w2 w3 by (repeat' (first | (with_reducible exact Below.refl _ _) | (with_reducible refine Below.alloc ?_ ?_ _) | (with_reducible refine Below.drew ?_) | (with_reducible refine Below.setCell ?_ ?_ _) | (with_reducible refine Below.trans ?_ (Below.mono (by assumption) ?_)) | go_size)))
                            obtain ⟨fn, tmps, assign, body, hy, hR⟩ := hY i S _ w3 hx hqB.j hqB.hs hqB.s
                            rw [gRow] at hy
                            have t0 := hqB.z
                            refine wpAnyIn_ready (rs := [8]) (by kernel_rfl) (by simp) ?_
                            refine AllReadyIn.cons rfl (fun K hK => ?_) AllReadyIn.nil
                            go_simp
                            refine hR.mono ?_
                            rintro e W3 ⟨c, S', rfl, hc', hS', hk3⟩
                            have hs3 := hk3.size
                            have hs0 := hqB.hs
                            have t3 := t0.keep hk3 ⟨fun h => by have := (hqB.s _ h).1; omega, .inl rfl⟩
                            have hS2 : ∀ b, S' b → W.heap.size ≤ b ∧ b < W3.heap.size := fun b hb => by
                              refine ⟨?_, (hS' b hb).2⟩
                              rcases (hS' b hb).1 with h | h
                              · exact (hqB.s b h).1
                              · omega
                            have hsW : W.heap.size ≤ W3.heap.size := by omega
                            clear hy hR hS' hk3 hx hqB hqA t0
                            refine hK _ _ ?_
                            clear hK K
                            refine wpAnyIn_ready (rs := [9]) (by kernel_rfl) (by simp) ?_
                            refine AllReadyIn.cons rfl (fun K hK => ?_) AllReadyIn.nil
                            go_simp
                            refine hK _ _ ?_
                            clear hK K
                            refine wpAnyIn_ready (rs := [10]) (by kernel_rfl) (by simp) ?_
                            refine AllReadyIn.cons rfl (fun K hK => ?_) AllReadyIn.nil
                            go_simp
                            refine hK _ _ ?_
                            clear hK K
                            refine wpAnyIn_done (by kernel_rfl) ?_ _
                            cases c
                            · gi_wp2
                              go_wp2_with fail
                              go_returns
                              exact ⟨⟨_, rfl⟩, hsW, .inr ⟨i, S', hc'⟩⟩
                            · gi_wp2
                              go_wp2_with fail
                              go_roundw
                              case rel => exact ⟨i + 1, j, b + 1, S', by simp, by omega, by omega, hl1, hdr', ⟨hc', t3, hBm, hS2, hsW⟩⟩
                              case measure => simp [intOf]; omega
                          exact AllReadyIn.nil
                        exact AllReadyIn.nil
                      exact AllReadyIn.nil
                    exact AllReadyIn.nil
                  exact AllReadyIn.nil
                refine AllReadyIn.cons rfl (fun K hK => ?_) ?_
                · go_simp
                  refine hK _ _ ?_
                  clear hK K
                  refine wpAnyIn_ready (rs := [2]) (by kernel_rfl) (by simp) ?_
                  refine AllReadyIn.cons rfl (fun K hK => ?_) ?_
                  · go_simp
                    refine ⟨trivial, ?_⟩
                    (refine (callsIn_wide.2 (igRest_v _ hdv hp hpq)).mono ?_; rintro e w3 ⟨rfl, hb3⟩; have hz3 := hb3.size; (repeat (first | rw [World.size_alloc] at hz3 | rw [World.size_setCell] at hz3 | rw [World.size_drew] at hz3)); have pp := T2.K hb3 (b := wr.heap.size) (x := _) (y := _) (by (repeat (first | ((with_reducible apply T2.mk) <;> (with_reducible assumption)) | (with_reducible apply T2.Z) | (with_reducible apply T2.O) | ((with_reducible apply T2.B); (focus (simp; done))) | (with_reducible apply T2.A) | (with_reducible apply T2.D) | ((with_reducible apply T2.S); focus ((repeat (first | rw [World.size_alloc] | rw [World.size_setCell] | rw [World.size_drew])); omega)) | ((with_reducible apply T2.K); (focus (with_reducible assumption)))))); obtain ⟨kk13, kk14, fkk13, fkk14⟩ := pp; (try clear kk11 kk12 fkk11 fkk12))
                    refine hK _ _ ?_
                    clear hK K
                    refine wpAnyIn_ready (rs := [4]) (by kernel_rfl) (by simp) ?_
                    refine AllReadyIn.cons rfl (fun K hK => ?_) ?_
                    · go_simp
                      refine hK _ _ ?_
                      clear hK K
                      refine wpAnyIn_ready (rs := [5]) (by kernel_rfl) (by simp) ?_
                      refine AllReadyIn.cons rfl (fun K hK => ?_) ?_
                      · go_simp
                        refine hK _ _ ?_
                        clear hK K
                        refine wpAnyIn_ready (rs := [6, 7]) (by kernel_rfl) (by simp) ?_
                        refine AllReadyIn.cons rfl (fun K hK => ?_) ?_
                        · go_simp
                          refine hK _ _ ?_
                          clear hK K
                          refine wpAnyIn_ready (rs := [7]) (by kernel_rfl) (by simp) ?_
                          refine AllReadyIn.cons rfl (fun K hK => ?_) ?_
                          · go_simp
                            refine hK _ _ ?_
                            clear hK K
                            have hqB := hqA.below hJ (show Below w2.heap.size w2 w3 by (repeat' (first | (with_reducible exact Below.refl _ _) | (with_reducible refine Below.alloc ?_ ?_ _) | (with_reducible refine Below.drew ?_) | (with_reducible refine Below.setCell ?_ ?_ _) | (with_reducible refine Below.trans ?_ (Below.mono (by assumption) ?_)) | go_size)))
                            obtain ⟨fn, tmps, assign, body, hy, hR⟩ := hY i S _ w3 hx hqB.j hqB.hs hqB.s
                            rw [gRow] at hy
                            have t0 := hqB.z
                            refine wpAnyIn_ready (rs := [8]) (by kernel_rfl) (by simp) ?_
                            refine AllReadyIn.cons rfl (fun K hK => ?_) AllReadyIn.nil
                            go_simp
                            refine hR.mono ?_
                            rintro e W3 ⟨c, S', rfl, hc', hS', hk3⟩
                            have hs3 := hk3.size
                            have hs0 := hqB.hs
                            have t3 := t0.keep hk3 ⟨fun h => by have := (hqB.s _ h).1; omega, .inl rfl⟩
                            have hS2 : ∀ b, S' b → W.heap.size ≤ b ∧ b < W3.heap.size := fun b hb => by
                              refine ⟨?_, (hS' b hb).2⟩
                              rcases (hS' b hb).1 with h | h
                              · exact (hqB.s b h).1
                              · omega
                            have hsW : W.heap.size ≤ W3.heap.size := by omega
                            clear hy hR hS' hk3 hx hqB hqA t0
                            refine hK _ _ ?_
                            clear hK K
                            refine wpAnyIn_ready (rs := [9]) (by kernel_rfl) (by simp) ?_
                            refine AllReadyIn.cons rfl (fun K hK => ?_) AllReadyIn.nil
                            go_simp
                            refine hK _ _ ?_
                            clear hK K
                            refine wpAnyIn_ready (rs := [10]) (by kernel_rfl) (by simp) ?_
                            refine AllReadyIn.cons rfl (fun K hK => ?_) AllReadyIn.nil
                            go_simp
                            refine hK _ _ ?_
                            clear hK K
                            refine wpAnyIn_done (by kernel_rfl) ?_ _
                            cases c
                            · gi_wp2
                              go_wp2_with fail
                              go_returns
                              exact ⟨⟨_, rfl⟩, hsW, .inr ⟨i, S', hc'⟩⟩
                            · gi_wp2
                              go_wp2_with fail
                              go_roundw
                              case rel => exact ⟨i + 1, j, b + 1, S', by simp, by omega, by omega, hl1, hdr', ⟨hc', t3, hBm, hS2, hsW⟩⟩
                              case measure => simp [intOf]; omega
                          exact AllReadyIn.nil
                        refine AllReadyIn.cons rfl (fun K hK => ?_) ?_
                        · go_simp
                          refine hK _ _ ?_
                          clear hK K
                          refine wpAnyIn_ready (rs := [6]) (by kernel_rfl) (by simp) ?_
                          refine AllReadyIn.cons rfl (fun K hK => ?_) ?_
                          · go_simp
                            refine hK _ _ ?_
                            clear hK K
                            have hqB := hqA.below hJ (show Below w2.heap.size w2 w3 by (repeat' (first | (with_reducible exact Below.refl _ _) | (with_reducible refine Below.alloc ?_ ?_ _) | (with_reducible refine Below.drew ?_) | (with_reducible refine Below.setCell ?_ ?_ _) | (with_reducible refine Below.trans ?_ (Below.mono (by assumption) ?_)) | go_size)))
                            obtain ⟨fn, tmps, assign, body, hy, hR⟩ := hY i S _ w3 hx hqB.j hqB.hs hqB.s
                            rw [gRow] at hy
                            have t0 := hqB.z
                            refine wpAnyIn_ready (rs := [8]) (by kernel_rfl) (by simp) ?_
                            refine AllReadyIn.cons rfl (fun K hK => ?_) AllReadyIn.nil
                            go_simp
                            refine hR.mono ?_
                            rintro e W3 ⟨c, S', rfl, hc', hS', hk3⟩
                            have hs3 := hk3.size
                            have hs0 := hqB.hs
                            have t3 := t0.keep hk3 ⟨fun h => by have := (hqB.s _ h).1; omega, .inl rfl⟩
                            have hS2 : ∀ b, S' b → W.heap.size ≤ b ∧ b < W3.heap.size := fun b hb => by
                              refine ⟨?_, (hS' b hb).2⟩
                              rcases (hS' b hb).1 with h | h
                              · exact (hqB.s b h).1
                              · omega
                            have hsW : W.heap.size ≤ W3.heap.size := by omega
                            clear hy hR hS' hk3 hx hqB hqA t0
                            refine hK _ _ ?_
                            clear hK K
                            refine wpAnyIn_ready (rs := [9]) (by kernel_rfl) (by simp) ?_
                            refine AllReadyIn.cons rfl (fun K hK => ?_) AllReadyIn.nil
                            go_simp
                            refine hK _ _ ?_
                            clear hK K
                            refine wpAnyIn_ready (rs := [10]) (by kernel_rfl) (by simp) ?_
                            refine AllReadyIn.cons rfl (fun K hK => ?_) AllReadyIn.nil
                            go_simp
                            refine hK _ _ ?_
                            clear hK K
                            refine wpAnyIn_done (by kernel_rfl) ?_ _
                            cases c
                            · gi_wp2
                              go_wp2_with fail
                              go_returns
                              exact ⟨⟨_, rfl⟩, hsW, .inr ⟨i, S', hc'⟩⟩
                            · gi_wp2
                              go_wp2_with fail
                              go_roundw
                              case rel => exact ⟨i + 1, j, b + 1, S', by simp, by omega, by omega, hl1, hdr', ⟨hc', t3, hBm, hS2, hsW⟩⟩
                              case measure => simp [intOf]; omega
                          exact AllReadyIn.nil
                        exact AllReadyIn.nil
                      exact AllReadyIn.nil
                    exact AllReadyIn.nil
                  exact AllReadyIn.nil
                exact AllReadyIn.nil
              refine AllReadyIn.cons rfl (fun K hK => ?_) ?_
              · go_simp
                refine hK _ _ ?_
                clear hK K
                refine wpAnyIn_ready (rs := [0]) (by kernel_rfl) (by simp) ?_
                refine AllReadyIn.cons rfl (fun K hK => ?_) ?_
                · go_simp
                  refine hK _ _ ?_
                  clear hK K
                  refine wpAnyIn_ready (rs := [2]) (by kernel_rfl) (by simp) ?_
                  refine AllReadyIn.cons rfl (fun K hK => ?_) ?_
                  · go_simp
                    refine ⟨trivial, ?_⟩
                    (refine (callsIn_wide.2 (igRest_v _ hdv hp hpq)).mono ?_; rintro e w3 ⟨rfl, hb3⟩; have hz3 := hb3.size; (repeat (first | rw [World.size_alloc] at hz3 | rw [World.size_setCell] at hz3 | rw [World.size_drew] at hz3)); have pp := T2.K hb3 (b := wr.heap.size) (x := _) (y := _) (by (repeat (first | ((with_reducible apply T2.mk) <;> (with_reducible assumption)) | (with_reducible apply T2.Z) | (with_reducible apply T2.O) | ((with_reducible apply T2.B); (focus (simp; done))) | (with_reducible apply T2.A) | (with_reducible apply T2.D) | ((with_reducible apply T2.S); focus ((repeat (first | rw [World.size_alloc] | rw [World.size_setCell] | rw [World.size_drew])); omega)) | ((with_reducible apply T2.K); (focus (with_reducible assumption)))))); obtain ⟨kk15, kk16, fkk15, fkk16⟩ := pp; (try clear kk13 kk14 fkk13 fkk14))
                    refine hK _ _ ?_
                    clear hK K
                    refine wpAnyIn_ready (rs := [4]) (by kernel_rfl) (by simp) ?_
                    refine AllReadyIn.cons rfl (fun K hK => ?_) ?_
                    · go_simp
                      refine hK _ _ ?_
                      clear hK K
                      refine wpAnyIn_ready (rs := [5]) (by kernel_rfl) (by simp) ?_
                      refine AllReadyIn.cons rfl (fun K hK => ?_) ?_
                      · go_simp
                        refine hK _ _ ?_
                        clear hK K
                        refine wpAnyIn_ready (rs := [6, 7]) (by kernel_rfl) (by simp) ?_
                        refine AllReadyIn.cons rfl (fun K hK => ?_) ?_
                        · go_simp
                          refine hK _ _ ?_
                          clear hK K
                          refine wpAnyIn_ready (rs := [7]) (by kernel_rfl) (by simp) ?_
                          refine AllReadyIn.cons rfl (fun K hK => ?_) ?_
                          · go_simp
                            refine hK _ _ ?_
                            clear hK K
                            have hqB := hqA.below hJ (show Below w2.heap.size w2 w3 by (repeat' (first | (with_reducible exact Below.refl _ _) | (with_reducible refine Below.alloc ?_ ?_ _) | (with_reducible refine Below.drew ?_) | (with_reducible refine Below.setCell ?_ ?_ _) | (with_reducible refine Below.trans ?_ (Below.mono (by assumption) ?_)) | go_size)))
                            obtain ⟨fn, tmps, assign, body, hy, hR⟩ := hY i S _ w3 hx hqB.j hqB.hs hqB.s
                            rw [gRow] at hy
                            have t0 := hqB.z
                            refine wpAnyIn_ready (rs := [8]) (by kernel_rfl) (by simp) ?_
                            refine AllReadyIn.cons rfl (fun K hK => ?_) AllReadyIn.nil
                            go_simp
                            refine hR.mono ?_
                            rintro e W3 ⟨c, S', rfl, hc', hS', hk3⟩
                            have hs3 := hk3.size
                            have hs0 := hqB.hs
                            have t3 := t0.keep hk3 ⟨fun h => by have := (hqB.s _ h).1; omega, .inl rfl⟩
                            have hS2 : ∀ b, S' b → W.heap.size ≤ b ∧ b < W3.heap.size := fun b hb => by
                              refine ⟨?_, (hS' b hb).2⟩
                              rcases (hS' b hb).1 with h | h
                              · exact (hqB.s b h).1
                              · omega
                            have hsW : W.heap.size ≤ W3.heap.size := by omega
                            clear hy hR hS' hk3 hx hqB hqA t0
                            refine hK _ _ ?_
                            clear hK K
                            refine wpAnyIn_ready (rs := [9]) (by kernel_rfl) (by simp) ?_
                            refine AllReadyIn.cons rfl (fun K hK => ?_) AllReadyIn.nil
                            go_simp
                            refine hK _ _ ?_
                            clear hK K
                            refine wpAnyIn_ready (rs := [10]) (by kernel_rfl) (by simp) ?_
                            refine AllReadyIn.cons rfl (fun K hK => ?_) AllReadyIn.nil
                            go_simp
                            refine hK _ _ ?_
                            clear hK K
                            refine wpAnyIn_done (by kernel_rfl) ?_ _
                            cases c
                            · gi_wp2
                              go_wp2_with fail
                              go_returns
                              exact ⟨⟨_, rfl⟩, hsW, .inr ⟨i, S', hc'⟩⟩
                            · gi_wp2
                              go_wp2_with fail
                              go_roundw
                              case rel => exact ⟨i + 1, j, b + 1, S', by simp, by omega, by omega, hl1, hdr', ⟨hc', t3, hBm, hS2, hsW⟩⟩
                              case measure => simp [intOf]; omega
                          exact AllReadyIn.nil
                        refine AllReadyIn.cons rfl (fun K hK => ?_) ?_
                        · go_simp
                          refine hK _ _ ?_
                          clear hK K
                          refine wpAnyIn_ready (rs := [6]) (by kernel_rfl) (by simp) ?_
                          refine AllReadyIn.cons rfl (fun K hK => ?_) ?_
                          · go_simp
                            refine hK _ _ ?_
                            clear hK K
                            have hqB := hqA.below hJ (show Below w2.heap.size w2 w3 by (repeat' (first | (with_reducible exact Below.refl _ _) | (with_reducible refine Below.alloc ?_ ?_ _) | (with_reducible refine Below.drew ?_) | (with_reducible refine Below.setCell ?_ ?_ _) | (with_reducible refine Below.trans ?_ (Below.mono (by assumption) ?_)) | go_size)))
                            obtain ⟨fn, tmps, assign, body, hy, hR⟩ := hY i S _ w3 hx hqB.j hqB.hs hqB.s
                            rw [gRow] at hy
                            have t0 := hqB.z
                            refine wpAnyIn_ready (rs := [8]) (by kernel_rfl) (by simp) ?_
                            refine AllReadyIn.cons rfl (fun K hK => ?_) AllReadyIn.nil
                            go_simp
                            refine hR.mono ?_
                            rintro e W3 ⟨c, S', rfl, hc', hS', hk3⟩
                            have hs3 := hk3.size
                            have hs0 := hqB.hs
                            have t3 := t0.keep hk3 ⟨fun h => by have := (hqB.s _ h).1; omega, .inl rfl⟩
                            have hS2 : ∀ b, S' b → W.heap.size ≤ b ∧ b < W3.heap.size := fun b hb => by
                              refine ⟨?_, (hS' b hb).2⟩
                              rcases (hS' b hb).1 with h | h
                              · exact (hqB.s b h).1
                              · omega
                            have hsW : W.heap.size ≤ W3.heap.size := by omega
                            clear hy hR hS' hk3 hx hqB hqA t0
                            refine hK _ _ ?_
                            clear hK K
                            refine wpAnyIn_ready (rs := [9]) (by kernel_rfl) (by simp) ?_
                            refine AllReadyIn.cons rfl (fun K hK => ?_) AllReadyIn.nil
                            go_simp
                            refine hK _ _ ?_
                            clear hK K
                            refine wpAnyIn_ready (rs := [10]) (by kernel_rfl) (by simp) ?_
                            refine AllReadyIn.cons rfl (fun K hK => ?_) AllReadyIn.nil
                            go_simp
                            refine hK _ _ ?_
                            clear hK K
                            refine wpAnyIn_done (by kernel_rfl) ?_ _
                            cases c
                            · gi_wp2
                              go_wp2_with fail
                              go_returns
                              exact ⟨⟨_, rfl⟩, hsW, .inr ⟨i, S', hc'⟩⟩
                            · gi_wp2
                              go_wp2_with fail
                              go_roundw
                              case rel => exact ⟨i + 1, j, b + 1, S', by simp, by omega, by omega, hl1, hdr', ⟨hc', t3, hBm, hS2, hsW⟩⟩
                              case measure => simp [intOf]; omega
                          exact AllReadyIn.nil
                        exact AllReadyIn.nil
                      exact AllReadyIn.nil
                    exact AllReadyIn.nil
                  exact AllReadyIn.nil
                exact AllReadyIn.nil
              exact AllReadyIn.nil
            refine AllReadyIn.cons rfl (fun K hK => ?_) ?_
            · go_simp
              refine hK _ _ ?_
              clear hK K
              refine wpAnyIn_ready (rs := [0, 1]) (by kernel_rfl) (by simp) ?_
              refine AllReadyIn.cons rfl (fun K hK => ?_) ?_
              · go_simp
                refine hK _ _ ?_
                clear hK K
                refine wpAnyIn_ready (rs := [1]) (by kernel_rfl) (by simp) ?_
                refine AllReadyIn.cons rfl (fun K hK => ?_) ?_
                · go_simp
                  refine hK _ _ ?_
                  clear hK K
                  refine wpAnyIn_ready (rs := [2]) (by kernel_rfl) (by simp) ?_
                  refine AllReadyIn.cons rfl (fun K hK => ?_) ?_
                  · go_simp
                    refine ⟨trivial, ?_⟩
                    (refine (callsIn_wide.2 (igRest_v _ hdv hp hpq)).mono ?_; rintro e w3 ⟨rfl, hb3⟩; have hz3 := hb3.size; (repeat (first | rw [World.size_alloc] at hz3 | rw [World.size_setCell] at hz3 | rw [World.size_drew] at hz3)); have pp := T2.K hb3 (b := wr.heap.size) (x := _) (y := _) (by (repeat (first | ((with_reducible apply T2.mk) <;> (with_reducible assumption)) | (with_reducible apply T2.Z) | (with_reducible apply T2.O) | ((with_reducible apply T2.B); (focus (simp; done))) | (with_reducible apply T2.A) | (with_reducible apply T2.D) | ((with_reducible apply T2.S); focus ((repeat (first | rw [World.size_alloc] | rw [World.size_setCell] | rw [World.size_drew])); omega)) | ((with_reducible apply T2.K); (focus (with_reducible assumption)))))); obtain ⟨kk17, kk18, fkk17, fkk18⟩ := pp; (try clear kk15 kk16 fkk15 fkk16))
                    refine hK _ _ ?_
                    clear hK K
                    refine wpAnyIn_ready (rs := [4]) (by kernel_rfl) (by simp) ?_
                    refine AllReadyIn.cons rfl (fun K hK => ?_) ?_
                    · go_simp
                      refine hK _ _ ?_
                      clear hK K
                      refine wpAnyIn_ready (rs := [5]) (by kernel_rfl) (by simp) ?_
                      refine AllReadyIn.cons rfl (fun K hK => ?_) ?_
                      · go_simp
                        refine hK _ _ ?_
                        clear hK K
                        refine wpAnyIn_ready (rs := [6, 7]) (by kernel_rfl) (by simp) ?_
                        refine AllReadyIn.cons rfl (fun K hK => ?_) ?_
                        · go_simp
                          refine hK _ _ ?_
                          clear hK K
                          refine wpAnyIn_ready (rs := [7]) (by kernel_rfl) (by simp) ?_
                          refine AllReadyIn.cons rfl (fun K hK => ?_) ?_
                          · go_simp
                            refine hK _ _ ?_
                            clear hK K
                            have hqB := hqA.below hJ (show Below w2.heap.size w2 w3 by (repeat' (first | (with_reducible exact Below.refl _ _) | (with_reducible refine Below.alloc ?_ ?_ _) | (with_reducible refine Below.drew ?_) | (with_reducible refine Below.setCell ?_ ?_ _) | (with_reducible refine Below.trans ?_ (Below.mono (by assumption) ?_)) | go_size)))
                            obtain ⟨fn, tmps, assign, body, hy, hR⟩ := hY i S _ w3 hx hqB.j hqB.hs hqB.s
                            rw [gRow] at hy
                            have t0 := hqB.z
                            refine wpAnyIn_ready (rs := [8]) (by kernel_rfl) (by simp) ?_
                            refine AllReadyIn.cons rfl (fun K hK => ?_) AllReadyIn.nil
                            go_simp
                            refine hR.mono ?_
                            rintro e W3 ⟨c, S', rfl, hc', hS', hk3⟩
                            have hs3 := hk3.size
                            have hs0 := hqB.hs
                            have t3 := t0.keep hk3 ⟨fun h => by have := (hqB.s _ h).1; omega, .inl rfl⟩
                            have hS2 : ∀ b, S' b → W.heap.size ≤ b ∧ b < W3.heap.size := fun b hb => by
                              refine ⟨?_, (hS' b hb).2⟩
                              rcases (hS' b hb).1 with h | h
                              · exact (hqB.s b h).1
                              · omega
                            have hsW : W.heap.size ≤ W3.heap.size := by omega
                            clear hy hR hS' hk3 hx hqB hqA t0
                            refine hK _ _ ?_
                            clear hK K
                            refine wpAnyIn_ready (rs := [9]) (by kernel_rfl) (by simp) ?_
                            refine AllReadyIn.cons rfl (fun K hK => ?_) AllReadyIn.nil
                            go_simp
                            refine hK _ _ ?_
                            clear hK K
                            refine wpAnyIn_ready (rs := [10]) (by kernel_rfl) (by simp) ?_
                            refine AllReadyIn.cons rfl (fun K hK => ?_) AllReadyIn.nil
                            go_simp
                            refine hK _ _ ?_
                            clear hK K
                            refine wpAnyIn_done (by kernel_rfl) ?_ _
                            cases c
                            · gi_wp2
                              go_wp2_with fail
                              go_returns
                              exact ⟨⟨_, rfl⟩, hsW, .inr ⟨i, S', hc'⟩⟩
                            · gi_wp2
                              go_wp2_with fail
                              go_roundw
                              case rel => exact ⟨i + 1, j, b + 1, S', by simp, by omega, by omega, hl1, hdr', ⟨hc', t3, hBm, hS2, hsW⟩⟩
                              case measure => simp [intOf]; omega
                          exact AllReadyIn.nil
                        refine AllReadyIn.cons rfl (fun K hK => ?_) ?_
                        · go_simp
                          refine hK _ _ ?_
                          clear hK K
                          refine wpAnyIn_ready (rs := [6]) (by kernel_rfl) (by simp) ?_
                          refine AllReadyIn.cons rfl (fun K hK => ?_) ?_
                          · go_simp
                            refine hK _ _ ?_
                            clear hK K
                            have hqB := hqA.below hJ (show Below w2.heap.size w2 w3 by (repeat' (first | (with_reducible exact Below.refl _ _) | (with_reducible refine Below.alloc ?_ ?_ _) | (with_reducible refine Below.drew ?_) | (with_reducible refine Below.setCell ?_ ?_ _) | (with_reducible refine Below.trans ?_ (Below.mono (by assumption) ?_)) | go_size)))
                            obtain ⟨fn, tmps, assign, body, hy, hR⟩ := hY i S _ w3 hx hqB.j hqB.hs hqB.s
                            rw [gRow] at hy
                            have t0 := hqB.z
                            refine wpAnyIn_ready (rs := [8]) (by kernel_rfl) (by simp) ?_
                            refine AllReadyIn.cons rfl (fun K hK => ?_) AllReadyIn.nil
                            go_simp
                            refine hR.mono ?_
                            rintro e W3 ⟨c, S', rfl, hc', hS', hk3⟩
                            have hs3 := hk3.size
                            have hs0 := hqB.hs
                            have t3 := t0.keep hk3 ⟨fun h => by have := (hqB.s _ h).1; omega, .inl rfl⟩
                            have hS2 : ∀ b, S' b → W.heap.size ≤ b ∧ b < W3.heap.size := fun b hb => by
                              refine ⟨?_, (hS' b hb).2⟩
                              rcases (hS' b hb).1 with h | h
                              · exact (hqB.s b h).1
                              · omega
                            have hsW : W.heap.size ≤ W3.heap.size := by omega
                            clear hy hR hS' hk3 hx hqB hqA t0
                            refine hK _ _ ?_
                            clear hK K
                            refine wpAnyIn_ready (rs := [9]) (by kernel_rfl) (by simp) ?_
                            refine AllReadyIn.cons rfl (fun K hK => ?_) AllReadyIn.nil
                            go_simp
                            refine hK _ _ ?_
                            clear hK K
                            refine wpAnyIn_ready (rs := [10]) (by kernel_rfl) (by simp) ?_
                            refine AllReadyIn.cons rfl (fun K hK => ?_) AllReadyIn.nil
                            go_simp
                            refine hK _ _ ?_
                            clear hK K
                            refine wpAnyIn_done (by kernel_rfl) ?_ _
                            cases c
                            · gi_wp2
                              go_wp2_with fail
                              go_returns
                              exact ⟨⟨_, rfl⟩, hsW, .inr ⟨i, S', hc'⟩⟩
                            · gi_wp2
                              go_wp2_with fail
                              go_roundw
                              case rel => exact ⟨i + 1, j, b + 1, S', by simp, by omega, by omega, hl1, hdr', ⟨hc', t3, hBm, hS2, hsW⟩⟩
                              case measure => simp [intOf]; omega
                          exact AllReadyIn.nil
                        exact AllReadyIn.nil
                      exact AllReadyIn.nil
                    exact AllReadyIn.nil
                  exact AllReadyIn.nil
                exact AllReadyIn.nil
              refine AllReadyIn.cons rfl (fun K hK => ?_) ?_
              · go_simp
                refine hK _ _ ?_
                clear hK K
                refine wpAnyIn_ready (rs := [0]) (by kernel_rfl) (by simp) ?_
                refine AllReadyIn.cons rfl (fun K hK => ?_) ?_
                · go_simp
                  refine hK _ _ ?_
                  clear hK K
                  refine wpAnyIn_ready (rs := [2]) (by kernel_rfl) (by simp) ?_
                  refine AllReadyIn.cons rfl (fun K hK => ?_) ?_
                  · go_simp
                    refine ⟨trivial, ?_⟩
                    (refine (callsIn_wide.2 (igRest_v _ hdv hp hpq)).mono ?_; rintro e w3 ⟨rfl, hb3⟩; have hz3 := hb3.size; (repeat (first | rw [World.size_alloc] at hz3 | rw [World.size_setCell] at hz3 | rw [World.size_drew] at hz3)); have pp := T2.K hb3 (b := wr.heap.size) (x := _) (y := _) (by (repeat (first | ((with_reducible apply T2.mk) <;> (with_reducible assumption)) | (with_reducible apply T2.Z) | (with_reducible apply T2.O) | ((with_reducible apply T2.B); (focus (simp; done))) | (with_reducible apply T2.A) | (with_reducible apply T2.D) | ((with_reducible apply T2.S); focus ((repeat (first | rw [World.size_alloc] | rw [World.size_setCell] | rw [World.size_drew])); omega)) | ((with_reducible apply T2.K); (focus (with_reducible assumption)))))); obtain ⟨kk19, kk20, fkk19, fkk20⟩ := pp; (try clear kk17 kk18 fkk17 fkk18))
                    refine hK _ _ ?_
                    clear hK K
                    refine wpAnyIn_ready (rs := [4]) (by kernel_rfl) (by simp) ?_
                    refine AllReadyIn.cons rfl (fun K hK => ?_) ?_
                    · go_simp
                      refine hK _ _ ?_
                      clear hK K
                      refine wpAnyIn_ready (rs := [5]) (by kernel_rfl) (by simp) ?_
                      refine AllReadyIn.cons rfl (fun K hK => ?_) ?_
                      · go_simp
                        refine hK _ _ ?_
                        clear hK K
                        refine wpAnyIn_ready (rs := [6, 7]) (by kernel_rfl) (by simp) ?_
                        refine AllReadyIn.cons rfl (fun K hK => ?_) ?_
                        · go_simp
                          refine hK _ _ ?_
                          clear hK K
                          refine wpAnyIn_ready (rs := [7]) (by kernel_rfl) (by simp) ?_
                          refine AllReadyIn.cons rfl (fun K hK => ?_) ?_
                          · go_simp
                            refine hK _ _ ?_
                            clear hK K
                            have hqB := hqA.below hJ (show Below w2.heap.size w2 w3 by (repeat' (first | (with_reducible exact Below.refl _ _) | (with_reducible refine Below.alloc ?_ ?_ _) | (with_reducible refine Below.drew ?_) | (with_reducible refine Below.setCell ?_ ?_ _) | (with_reducible refine Below.trans ?_ (Below.mono (by assumption) ?_)) | go_size)))
                            obtain ⟨fn, tmps, assign, body, hy, hR⟩ := hY i S _ w3 hx hqB.j hqB.hs hqB.s
                            rw [gRow] at hy
                            have t0 := hqB.z
                            refine wpAnyIn_ready (rs := [8]) (by kernel_rfl) (by simp) ?_
                            refine AllReadyIn.cons rfl (fun K hK => ?_) AllReadyIn.nil
                            go_simp
                            refine hR.mono ?_
                            rintro e W3 ⟨c, S', rfl, hc', hS', hk3⟩
                            have hs3 := hk3.size
                            have hs0 := hqB.hs
                            have t3 := t0.keep hk3 ⟨fun h => by have := (hqB.s _ h).1; omega, .inl rfl⟩
                            have hS2 : ∀ b, S' b → W.heap.size ≤ b ∧ b < W3.heap.size := fun b hb => by
                              refine ⟨?_, (hS' b hb).2⟩
                              rcases (hS' b hb).1 with h | h
                              · exact (hqB.s b h).1
                              · omega
                            have hsW : W.heap.size ≤ W3.heap.size := by omega
                            clear hy hR hS' hk3 hx hqB hqA t0
                            refine hK _ _ ?_
                            clear hK K
                            refine wpAnyIn_ready (rs := [9]) (by kernel_rfl) (by simp) ?_
                            refine AllReadyIn.cons rfl (fun K hK => ?_) AllReadyIn.nil
                            go_simp
                            refine hK _ _ ?_
                            clear hK K
                            refine wpAnyIn_ready (rs := [10]) (by kernel_rfl) (by simp) ?_
                            refine AllReadyIn.cons rfl (fun K hK => ?_) AllReadyIn.nil
                            go_simp
                            refine hK _ _ ?_
                            clear hK K
                            refine wpAnyIn_done (by kernel_rfl) ?_ _
                            cases c
                            · gi_wp2
                              go_wp2_with fail
                              go_returns
                              exact ⟨⟨_, rfl⟩, hsW, .inr ⟨i, S', hc'⟩⟩
                            · gi_wp2
                              go_wp2_with fail
                              go_roundw
                              case rel => exact ⟨i + 1, j, b + 1, S', by simp, by omega, by omega, hl1, hdr', ⟨hc', t3, hBm, hS2, hsW⟩⟩
                              case measure => simp [intOf]; omega
                          exact AllReadyIn.nil
                        refine AllReadyIn.cons rfl (fun K hK => ?_) ?_
                        · go_simp
                          refine hK _ _ ?_
                          clear hK K
                          refine wpAnyIn_ready (rs := [6]) (by kernel_rfl) (by simp) ?_
                          refine AllReadyIn.cons rfl (fun K hK => ?_) ?_
                          · go_simp
                            refine hK _ _ ?_
                            clear hK K
                            have hqB := hqA.below hJ (show Below w2.heap.size w2 w3 by (repeat' (first | (with_reducible exact Below.refl _ _) | (with_reducible refine Below.alloc ?_ ?_ _) | (with_reducible refine Below.drew ?_) | (with_reducible refine Below.setCell ?_ ?_ _) | (with_reducible refine Below.trans ?_ (Below.mono (by assumption) ?_)) | go_size)))
                            obtain ⟨fn, tmps, assign, body, hy, hR⟩ := hY i S _ w3 hx hqB.j hqB.hs hqB.s
                            rw [gRow] at hy
                            have t0 := hqB.z
                            refine wpAnyIn_ready (rs := [8]) (by kernel_rfl) (by simp) ?_
                            refine AllReadyIn.cons rfl (fun K hK => ?_) AllReadyIn.nil
                            go_simp
                            refine hR.mono ?_
                            rintro e W3 ⟨c, S', rfl, hc', hS', hk3⟩
                            have hs3 := hk3.size
                            have hs0 := hqB.hs
                            have t3 := t0.keep hk3 ⟨fun h => by have := (hqB.s _ h).1; omega, .inl rfl⟩
                            have hS2 : ∀ b, S' b → W.heap.size ≤ b ∧ b < W3.heap.size := fun b hb => by
                              refine ⟨?_, (hS' b hb).2⟩
                              rcases (hS' b hb).1 with h | h
                              · exact (hqB.s b h).1
                              · omega
                            have hsW : W.heap.size ≤ W3.heap.size := by omega
                            clear hy hR hS' hk3 hx hqB hqA t0
                            refine hK _ _ ?_
                            clear hK K
                            refine wpAnyIn_ready (rs := [9]) (by kernel_rfl) (by simp) ?_
                            refine AllReadyIn.cons rfl (fun K hK => ?_) AllReadyIn.nil
                            go_simp
                            refine hK _ _ ?_
                            clear hK K
                            refine wpAnyIn_ready (rs := [10]) (by kernel_rfl) (by simp) ?_
                            refine AllReadyIn.cons rfl (fun K hK => ?_) AllReadyIn.nil
                            go_simp
                            refine hK _ _ ?_
                            clear hK K
                            refine wpAnyIn_done (by kernel_rfl) ?_ _
                            cases c
                            · gi_wp2
                              go_wp2_with fail
                              go_returns
                              exact ⟨⟨_, rfl⟩, hsW, .inr ⟨i, S', hc'⟩⟩
                            · gi_wp2
                              go_wp2_with fail
                              go_roundw
                              case rel => exact ⟨i + 1, j, b + 1, S', by simp, by omega, by omega, hl1, hdr', ⟨hc', t3, hBm, hS2, hsW⟩⟩
                              case measure => simp [intOf]; omega
                          exact AllReadyIn.nil
                        exact AllReadyIn.nil
                      exact AllReadyIn.nil
                    exact AllReadyIn.nil
                  exact AllReadyIn.nil
                exact AllReadyIn.nil
              exact AllReadyIn.nil
            exact AllReadyIn.nil
          · have hne : (p == a && q == b) = false := by rw [pair_beq]; exact decide_eq_false hit
            rw [if_neg hit] at hdr
            clear hrs hit
            (refine wp_name ?_; intro w4 hb4; have hz4 := hb4.size; (repeat (first | rw [World.size_alloc] at hz4 | rw [World.size_setCell] at hz4 | rw [World.size_drew] at hz4)); have pp := C2.K hb4 (b := Bm) (x := _) (y := _) (by (repeat (first | ((with_reducible apply C2.mk) <;> (with_reducible assumption)) | (with_reducible apply C2.Z) | (with_reducible apply C2.O) | ((with_reducible apply C2.B); (focus (simp; done))) | (with_reducible apply C2.A) | (with_reducible apply C2.D) | ((with_reducible apply C2.S); focus ((repeat (first | rw [World.size_alloc] | rw [World.size_setCell] | rw [World.size_drew])); omega)) | ((with_reducible apply C2.K); (focus (with_reducible assumption)))))); obtain ⟨kk21, kk22⟩ := pp; have rkk21 := cell_regrown kk21; have rkk22 := cell_regrown kk22; have pp := C2.K hb4 (b := wr.heap.size) (x := _) (y := _) (by (repeat (first | ((with_reducible apply C2.mk) <;> (with_reducible assumption)) | (with_reducible apply C2.Z) | (with_reducible apply C2.O) | ((with_reducible apply C2.B); (focus (simp; done))) | (with_reducible apply C2.A) | (with_reducible apply C2.D) | ((with_reducible apply C2.S); focus ((repeat (first | rw [World.size_alloc] | rw [World.size_setCell] | rw [World.size_drew])); omega)) | ((with_reducible apply C2.K); (focus (with_reducible assumption)))))); obtain ⟨kk23, kk24⟩ := pp; have rkk23 := cell_regrown kk23; have rkk24 := cell_regrown kk24; (try clear kk19 kk20 fkk19 fkk20); refine wp_region_quiet_below (by kernel_rfl) (by kernel_rfl) ?_; (repeat (first | go_big_quiet_step ((first | (go_at_call 51; exact Calls.regrown_of (igRest_v _ hdv hp hpq)))) | quiet_step ((first | (go_at_call 51; exact Calls.regrown_of (igRest_v _ hdv hp hpq)))))); refine wpQuiet_nil ?_; intro w3 hw; have hb3 := below_of_regrown hw; clear hw; have hz3 := hb3.size; have kk25 := keep hb3 kk21; have kk26 := keep hb3 kk22; have kk27 := keep hb3 kk23; have kk28 := keep hb3 kk24; clear kk21 kk22 kk23 kk24 rkk21 rkk22 rkk23 rkk24)
            have hqC := (hqA.below hJ hb4).below hJ hb3
            clear hqA
            go_wp2_with fail
            go_roundw
            case rel => exact ⟨i, j, b + 1, S, by simp, by omega, by omega, hil, hdr, hqC⟩
            case measure => simp [intOf]; omega
theorem iRestsOf (a b : Int) (w : World) : Calls Try.prog 27 #[.agg #[.int .i64 a, .int .i64 b]] w fun e w' => ∃ v, e = .returned v ∧ GS w' w.heap.size v (rtL a b) ∧ Below w.heap.size w w' := by
  cases hm : mdO a b
  · rw [rtL_no hm]
    go_enter Try.func27, Try.ntmps27
    go_wp2_with fail
    (refine (iModulusOk_v _ hm).mono ?_; rintro e w1 ⟨rfl, hb1⟩; have hz1 := hb1.size; (repeat (first | rw [World.size_alloc] at hz1 | rw [World.size_setCell] at hz1 | rw [World.size_drew] at hz1)); have pp := C2.K hb1 (b := w.heap.size) (x := _) (y := _) (by (repeat (first | ((with_reducible apply C2.mk) <;> (with_reducible assumption)) | (with_reducible apply C2.Z) | (with_reducible apply C2.O) | ((with_reducible apply C2.B); (focus (simp; done))) | (with_reducible apply C2.A) | (with_reducible apply C2.D) | ((with_reducible apply C2.S); focus ((repeat (first | rw [World.size_alloc] | rw [World.size_setCell] | rw [World.size_drew])); omega)) | ((with_reducible apply C2.K); (focus (with_reducible assumption)))))); obtain ⟨kk1, kk2⟩ := pp)
    go_wp2_with fail
    go_returns
    exact ⟨_, rfl, GS.nil _ _, by (repeat' (first | (with_reducible exact Below.refl _ _) | (with_reducible refine Below.alloc ?_ ?_ _) | (with_reducible refine Below.drew ?_) | (with_reducible refine Below.setCell ?_ ?_ _) | (with_reducible refine Below.trans ?_ (Below.mono (by assumption) ?_)) | go_size))⟩
  have hl := rtL_bd a b
  have G := fun Bm w hz => rests_gives a b Bm w hm hz
  obtain ⟨L, hL⟩ : ∃ L, rtL a b = L := ⟨_, rfl⟩
  rw [hL] at hl G ⊢
  clear hL
  go_enter Try.func27, Try.ntmps27
  go_wp2_with fail
  (refine (iModulusOk_v _ hm).mono ?_; rintro e w1 ⟨rfl, hb1⟩; have hz1 := hb1.size; (repeat (first | rw [World.size_alloc] at hz1 | rw [World.size_setCell] at hz1 | rw [World.size_drew] at hz1)); have pp := C2.K hb1 (b := w.heap.size) (x := _) (y := _) (by (repeat (first | ((with_reducible apply C2.mk) <;> (with_reducible assumption)) | (with_reducible apply C2.Z) | (with_reducible apply C2.O) | ((with_reducible apply C2.B); (focus (simp; done))) | (with_reducible apply C2.A) | (with_reducible apply C2.D) | ((with_reducible apply C2.S); focus ((repeat (first | rw [World.size_alloc] | rw [World.size_setCell] | rw [World.size_drew])); omega)) | ((with_reducible apply C2.K); (focus (with_reducible assumption)))))); obtain ⟨kk3, kk4⟩ := pp; (try clear kk1 kk2))
  go_wp2_with fail
  (refine (igRests a b _).mono ?_; rintro e w2 ⟨Bm, rfl, hz, hBm0, hb2⟩; have hz2 := hb2.size; (repeat (first | rw [World.size_alloc] at hz2 | rw [World.size_setCell] at hz2 | rw [World.size_drew] at hz2)); (try clear kk3 kk4))
  have hBm : Bm < w2.heap.size := World.block_lt_of_cell? _ _ hz.c0
  go_wp2_with fail
  refine (iCollect 83 _ L _ w2 (enters_of Try.func83 (by kernel_rfl) rfl) (G Bm w2 hz) (fun b h => h ▸ hBm) (by omega)).mono ?_
  rintro e w3 ⟨v, rfl, hg, hb3⟩
  go_wp2_with fail
  go_returns
  exact ⟨v, rfl, hg.mono (by have := hb2.size; omega), by (repeat' (first | (with_reducible exact Below.refl _ _) | (with_reducible refine Below.alloc ?_ ?_ _) | (with_reducible refine Below.drew ?_) | (with_reducible refine Below.setCell ?_ ?_ _) | (with_reducible refine Below.trans ?_ (Below.mono (by assumption) ?_)) | go_size))⟩
end Go.Proofs.Ytahnkecdningnaa
