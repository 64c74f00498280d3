import Derived.Test.YtahnkecdningnaaProg
import Derived.Test.YtahnkecdningnaaYa
import Derived.Test.YtahnkecdningnaaYb
import Derived.Test.YtahnkecdningnaaOb
import Derived.Test.YtahnkecdningnaaJp
import Derived.RangeFuncNested
import Derived.Shelf.RegionOpen
import Derived.OwnWalkIn
import Derived.TacticsInMore
namespace Go.Proofs.Ytahnkecdningnaa
open Go Go.RowKit Go.Shelf
attribute [local go_sem] World.cell?_alloc_some cell?_alloc2_some cell?_alloc3_some cell?_alloc4_some frozen?_alloc_some frozen?_alloc2_some frozen?_alloc3_some World.cell?_setCell_far new_ne0 new_ne1 new_ne2 new_ne3 lt2 lt3 lt4 lt5 lt6 lt7 lt8 lt9
attribute [local go_sem] Oper.semAt_some

/-- What holds between two rounds along a circle. -/
def Ci (W : World) (J : Nat → (Nat → Prop) → World → Prop) (xs : List (Array Value)) (n : Int) (Bn : Nat) (v u : Value) (wr : World) : Prop :=
  ∃ (i k a b : Nat) (S : Nat → Prop), v = .int .i64 (b : Int) ∧ u = .int .i64 (a : Int) ∧ 1 ≤ a ∧ a + k = 45 ∧ b ≤ 45 ∧ n < (a : Int) * a + ((b : Int) + 1) * (b + 1) ∧ i ≤ xs.length ∧ xs.drop i = (cirFrom n k a).map gRow ∧ J i S wr ∧ wr.cell? ⟨Bn, 0, none⟩ = some (.int .i64 n) ∧ (∀ b, S b → W.heap.size ≤ b ∧ b < wr.heap.size) ∧ W.heap.size ≤ wr.heap.size

set_option maxHeartbeats 4000000 in
theorem onCircle_gives (n : Int) (Bn : Nat) (w : World) (hn : n ≤ 2000) (hc : w.cell? ⟨Bn, 0, none⟩ = some (.int .i64 n)) : IterG Try.prog 102 #[.pointer (some ⟨Bn, 0, none⟩)] ((circ n).map gRow) (fun b => b = Bn) w := by
  intro l J Jx W hk0 hJ hJx hY h0
  have hc := hk0.cell (p := ⟨Bn, 0, none⟩) rfl hc
  have hBn : Bn < W.heap.size := World.block_lt_of_cell? _ _ hc
  obtain ⟨xs, hxs⟩ : ∃ xs, (circ n).map gRow = xs := ⟨_, rfl⟩
  rw [hxs] at hY ⊢
  refine callsIn_of_wp Try.func102 rfl trivial ?_ rfl
  simp only [Try.ntmps102, List.size_toArray, List.length_cons, List.length_nil, Nat.reduceAdd, Nat.reduceSub, Array.replicate_succ, Array.replicate_zero, List.push_toArray, List.append_toArray, List.nil_append, List.cons_append]
  refine wpIn_wide.2 ?_
  go_wp2_with fail
  go_loopw [3] (fun v wr => ∃ b : Nat, v = .int .i64 (b : Int) ∧ b ≤ 45 ∧ W = wr) (fun v _ => 100 - (intOf v).toNat)
  case atStart => exact ⟨0, rfl, by omega, rfl⟩
  case round =>
    obtain ⟨b, rfl, hb, rfl⟩ := hrel
    have hbb : ((b * b : Nat) : Int) = (b : Int) * b := by simp
    have hb2 : b * b ≤ 2025 := Nat.mul_le_mul hb hb
    by_cases hlt : (b : Int) * b < n
    · have hd : decide ((b : Int) * b < n) = true := decide_eq_true hlt
      have hb44 : b ≤ 44 := by have := sq_le_44 (b := (b : Int)) (by omega); omega
      go_wp2_with fail
      go_roundw
      case rel => exact ⟨b + 1, by simp, by omega, by simp⟩
      case measure => simp [intOf]; omega
    · have hd : decide ((b : Int) * b < n) = false := decide_eq_false hlt
      go_wp2_with fail
      go_loopw [3, 4] (fun v u wr => Ci W J xs n Bn v u wr) (fun _ u _ => 100 - (intOf u).toNat)
      case atStart =>
        have hsq : ((b : Int) + 1) * (b + 1) = b * b + 2 * b + 1 := by grind
        exact ⟨0, 44, 1, b, fun _ => False, rfl, rfl, by omega, by omega, hb, by omega, Nat.zero_le _, by rw [List.drop_zero, ← hxs]; rfl, h0, hc, fun _ h => h.elim, Nat.le_refl _⟩
      case round =>
        clear hlt hd hbb hb2 hb h0 hc hk0
        obtain ⟨i, k, a, b, S, rfl, rfl, h1, hk, hb0, hlt0, hil, hdr, hJr, hc, hS, hs⟩ := hrel
        have haa : ((a * a : Nat) : Int) = (a : Int) * a := by simp
        have ha2 : a * a ≤ 2025 := Nat.mul_le_mul (show a ≤ 45 by omega) (show a ≤ 45 by omega)
        by_cases hle : (a : Int) * a ≤ n
        · have hd : decide ((a : Int) * a ≤ n) = true := decide_eq_true hle
          have ha44 : a ≤ 44 := by have := sq_le_44 (b := (a : Int)) (by omega); omega
          go_wp2_with fail
          go_loopw [3] (fun v wx => ∃ b : Nat, v = .int .i64 (b : Int) ∧ b ≤ 45 ∧ n < (a : Int) * a + ((b : Int) + 1) * (b + 1) ∧ wr = wx) (fun v _ => (intOf v).toNat)
          case atStart => exact ⟨b, rfl, hb0, hlt0, rfl⟩
          case round =>
            clear hb0 hlt0
            obtain ⟨b, rfl, hb, hlt, rfl⟩ := hrel
            have hbb : ((b * b : Nat) : Int) = (b : Int) * b := by simp
            have hb2 : b * b ≤ 2025 := Nat.mul_le_mul hb hb
            have hsq : ((b : Int) + 1) * (b + 1) = b * b + 2 * b + 1 := by grind
            by_cases hgt : n < (a : Int) * a + b * b
            · have hd2 : decide (n < (a : Int) * a + b * b) = true := decide_eq_true hgt
              have hbp : 1 ≤ b := by
                rcases Nat.eq_zero_or_pos b with rfl | h
                · simp at hgt; omega
                · exact h
              go_wp2_with fail
              go_roundw
              case rel =>
                obtain ⟨c, rfl⟩ : ∃ c, b = c + 1 := ⟨b - 1, by omega⟩
                exact ⟨c, by simp, by omega, by simpa using hgt, by simp⟩
              case measure => simp [intOf]; omega
            · have hd2 : decide (n < (a : Int) * a + b * b) = false := decide_eq_false hgt
              obtain ⟨m, hm⟩ : ∃ m, (a : Int) * a + b * b = m := ⟨_, rfl⟩
              have kab : gok a b = true := by simp [gok, pok]; omega
              by_cases hmn : m = n
              · have heq : (m == n) = true := by simpa using hmn
                have hhit : cirB n a = some (b : Int) := cirB_of hn (by omega) (by omega)
                obtain ⟨k, rfl⟩ : ∃ j, k = j + 1 := ⟨k - 1, by omega⟩
                rw [cir_hit hhit, List.map_cons] at hdr
                obtain ⟨hx, hdr'⟩ := drop_cons hdr
                have hl1 : i + 1 ≤ xs.length := by have := (List.getElem?_eq_some_iff.1 hx).1; omega
                have hSn : ¬ S Bn := fun h => by have := (hS _ h).1; omega
                have hstep : n < ((a + 1 : Nat) : Int) * (a + 1 : Nat) + ((b : Int) + 1) * (b + 1) := by
                  have : ((a + 1 : Nat) : Int) * (a + 1 : Nat) = a * a + 2 * a + 1 := by rw [Int.natCast_add]; grind
                  omega
                go_upto_region 9 with fail
                clear hd hd2 hbb hb2 hsq haa ha2 hdr
                refine wp_name ?_
                intro w2 hb2
                (have hz2 := hb2.size; (repeat (first | rw [World.size_alloc] at hz2 | rw [World.size_setCell] at hz2 | rw [World.size_drew] at hz2)); have kk1 := keep hb2 (a := ⟨Bn, 0, none⟩) (v := _) (by (repeat (first | (with_reducible assumption) | (with_reducible apply sameS) | ((with_reducible apply born); (focus (simp; done)); (focus rfl)) | (with_reducible apply keepA) | (with_reducible apply keepD) | ((with_reducible apply keepS); focus ((repeat (first | rw [World.size_alloc] | rw [World.size_setCell] | rw [World.size_drew])); omega)) | ((with_reducible apply keep); (focus (with_reducible assumption)))))); have pp := T2.K hb2 (b := wr.heap.size) (x := _) (y := _) (by (repeat (first | ((with_reducible apply T2.mk) <;> (with_reducible assumption)) | (with_reducible apply T2.Z) | (with_reducible apply T2.O) | ((with_reducible apply T2.B); (focus (simp; done))) | (with_reducible apply T2.A) | (with_reducible apply T2.D) | ((with_reducible apply T2.S); focus ((repeat (first | rw [World.size_alloc] | rw [World.size_setCell] | rw [World.size_drew])); omega)) | ((with_reducible apply T2.K); (focus (with_reducible assumption)))))); obtain ⟨kk2, kk3, fkk2, fkk3⟩ := pp)
                refine (wpIn_wide (n := 8)).1 ?_
                refine wpIn_region_any (by kernel_rfl) ?_
                (try (change wpAnyIn _ _ _ _ _ _ _ _ _ (World.drew _)))
                refine wpAnyIn_ready (rs := [0, 2]) (by kernel_rfl) (by simp) ?_
                refine AllReadyIn.cons rfl (fun K hK => ?_) ?_
                · go_simp
                  refine hK _ _ ?_
                  clear hK K
                  refine wpAnyIn_ready (rs := [1, 2]) (by kernel_rfl) (by simp) ?_
                  refine AllReadyIn.cons rfl (fun K hK => ?_) ?_
                  · go_simp
                    refine ⟨trivial, ?_⟩
                    (refine (callsIn_wide.2 (igNorm_v _ kab hm)).mono ?_; rintro e w3 ⟨rfl, hb3⟩; have hz3 := hb3.size; (repeat (first | rw [World.size_alloc] at hz3 | rw [World.size_setCell] at hz3 | rw [World.size_drew] at hz3)); have kk4 := keep hb3 (a := ⟨Bn, 0, none⟩) (v := _) (by (repeat (first | (with_reducible assumption) | (with_reducible apply sameS) | ((with_reducible apply born); (focus (simp; done)); (focus rfl)) | (with_reducible apply keepA) | (with_reducible apply keepD) | ((with_reducible apply keepS); focus ((repeat (first | rw [World.size_alloc] | rw [World.size_setCell] | rw [World.size_drew])); omega)) | ((with_reducible apply keep); (focus (with_reducible assumption)))))); have pp := T2.K hb3 (b := wr.heap.size) (x := _) (y := _) (by (repeat (first | ((with_reducible apply T2.mk) <;> (with_reducible assumption)) | (with_reducible apply T2.Z) | (with_reducible apply T2.O) | ((with_reducible apply T2.B); (focus (simp; done))) | (with_reducible apply T2.A) | (with_reducible apply T2.D) | ((with_reducible apply T2.S); focus ((repeat (first | rw [World.size_alloc] | rw [World.size_setCell] | rw [World.size_drew])); omega)) | ((with_reducible apply T2.K); (focus (with_reducible assumption)))))); obtain ⟨kk5, kk6, fkk5, fkk6⟩ := pp; (try clear kk1 kk2 kk3 fkk2 fkk3))
                    refine hK _ _ ?_
                    clear hK K
                    refine wpAnyIn_ready (rs := [2]) (by kernel_rfl) (by simp) ?_
                    refine AllReadyIn.cons rfl (fun K hK => ?_) ?_
                    · go_simp
                      refine hK _ _ ?_
                      clear hK K
                      refine wpAnyIn_ready (rs := [3]) (by kernel_rfl) (by simp) ?_
                      refine AllReadyIn.cons rfl (fun K hK => ?_) ?_
                      · go_simp
                        refine hK _ _ ?_
                        clear hK K
                        refine wpAnyIn_ready (rs := [4]) (by kernel_rfl) (by simp) ?_
                        refine AllReadyIn.cons rfl (fun K hK => ?_) ?_
                        · go_simp
                          refine hK _ _ ?_
                          clear hK K
                          refine wpAnyIn_ready (rs := [5, 6]) (by kernel_rfl) (by simp) ?_
                          refine AllReadyIn.cons rfl (fun K hK => ?_) ?_
                          · go_simp
                            refine hK _ _ ?_
                            clear hK K
                            refine wpAnyIn_ready (rs := [6]) (by kernel_rfl) (by simp) ?_
                            refine AllReadyIn.cons rfl (fun K hK => ?_) ?_
                            · go_simp
                              refine hK _ _ ?_
                              clear hK K
                              have hJ3 : J i S w3 := hJ _ _ _ _ hJr (Keep.of_below _ (by (repeat' (first | (with_reducible exact Below.refl _ _) | (with_reducible refine Below.alloc ?_ ?_ _) | (with_reducible refine Below.drew ?_) | (with_reducible refine Below.setCell ?_ ?_ _) | (with_reducible refine Below.trans ?_ (Below.mono (by assumption) ?_)) | go_size))))
                              have hS3 : ∀ c, S c → W.heap.size ≤ c ∧ c < w3.heap.size := fun c hc => ⟨(hS c hc).1, by have := (hS c hc).2; omega⟩
                              obtain ⟨fn, tmps, assign, body, hy, hR⟩ := hY i S _ w3 hx hJ3 (by omega) hS3
                              rw [gRow] at hy
                              have cBn : w3.cell? ⟨Bn, 0, none⟩ = some (.int .i64 n) := by (repeat (first | (with_reducible assumption) | (with_reducible apply sameS) | ((with_reducible apply born); (focus (simp; done)); (focus rfl)) | (with_reducible apply keepA) | (with_reducible apply keepD) | ((with_reducible apply keepS); focus ((repeat (first | rw [World.size_alloc] | rw [World.size_setCell] | rw [World.size_drew])); omega)) | ((with_reducible apply keep); (focus (with_reducible assumption)))))
                              refine wpAnyIn_ready (rs := [7]) (by kernel_rfl) (by simp) ?_
                              refine AllReadyIn.cons rfl (fun K hK => ?_) AllReadyIn.nil
                              go_simp
                              refine hR.mono ?_
                              rintro e W3 ⟨c, S', rfl, hc', hS', hk3⟩
                              have cBn3 := hk3.cell (p := ⟨Bn, 0, none⟩) ⟨hSn, .inl rfl⟩ cBn
                              have hs3 := hk3.size
                              have hS2 : ∀ b, S' b → W.heap.size ≤ b ∧ b < W3.heap.size := fun b hb => by
                                refine ⟨?_, (hS' b hb).2⟩
                                rcases (hS' b hb).1 with h | h
                                · exact (hS b h).1
                                · omega
                              have hsW : W.heap.size ≤ W3.heap.size := by omega
                              clear hy hR hJ3 hS3 hS' hk3 hx
                              refine hK _ _ ?_
                              clear hK K
                              refine wpAnyIn_ready (rs := [8]) (by kernel_rfl) (by simp) ?_
                              refine AllReadyIn.cons rfl (fun K hK => ?_) AllReadyIn.nil
                              go_simp
                              refine hK _ _ ?_
                              clear hK K
                              refine wpAnyIn_ready (rs := [9]) (by kernel_rfl) (by simp) ?_
                              refine AllReadyIn.cons rfl (fun K hK => ?_) AllReadyIn.nil
                              go_simp
                              refine hK _ _ ?_
                              clear hK K
                              refine wpAnyIn_done (by kernel_rfl) ?_ _
                              cases c
                              · gi_wp2
                                go_wp2_with fail
                                go_returns
                                exact ⟨⟨_, rfl⟩, hsW, .inr ⟨i, S', hc'⟩⟩
                              · gi_wp2
                                go_wp2_with fail
                                go_roundw
                                case rel => exact ⟨i + 1, k, a + 1, b, S', rfl, by simp, by omega, by omega, hb, hstep, hl1, by rw [hdr']; simp, hc', cBn3, hS2, hsW⟩
                                case measure => simp [intOf]; omega
                            exact AllReadyIn.nil
                          refine AllReadyIn.cons rfl (fun K hK => ?_) ?_
                          · go_simp
                            refine hK _ _ ?_
                            clear hK K
                            refine wpAnyIn_ready (rs := [5]) (by kernel_rfl) (by simp) ?_
                            refine AllReadyIn.cons rfl (fun K hK => ?_) ?_
                            · go_simp
                              refine hK _ _ ?_
                              clear hK K
                              have hJ3 : J i S w3 := hJ _ _ _ _ hJr (Keep.of_below _ (by (repeat' (first | (with_reducible exact Below.refl _ _) | (with_reducible refine Below.alloc ?_ ?_ _) | (with_reducible refine Below.drew ?_) | (with_reducible refine Below.setCell ?_ ?_ _) | (with_reducible refine Below.trans ?_ (Below.mono (by assumption) ?_)) | go_size))))
                              have hS3 : ∀ c, S c → W.heap.size ≤ c ∧ c < w3.heap.size := fun c hc => ⟨(hS c hc).1, by have := (hS c hc).2; omega⟩
                              obtain ⟨fn, tmps, assign, body, hy, hR⟩ := hY i S _ w3 hx hJ3 (by omega) hS3
                              rw [gRow] at hy
                              have cBn : w3.cell? ⟨Bn, 0, none⟩ = some (.int .i64 n) := by (repeat (first | (with_reducible assumption) | (with_reducible apply sameS) | ((with_reducible apply born); (focus (simp; done)); (focus rfl)) | (with_reducible apply keepA) | (with_reducible apply keepD) | ((with_reducible apply keepS); focus ((repeat (first | rw [World.size_alloc] | rw [World.size_setCell] | rw [World.size_drew])); omega)) | ((with_reducible apply keep); (focus (with_reducible assumption)))))
                              refine wpAnyIn_ready (rs := [7]) (by kernel_rfl) (by simp) ?_
                              refine AllReadyIn.cons rfl (fun K hK => ?_) AllReadyIn.nil
                              go_simp
                              refine hR.mono ?_
                              rintro e W3 ⟨c, S', rfl, hc', hS', hk3⟩
                              have cBn3 := hk3.cell (p := ⟨Bn, 0, none⟩) ⟨hSn, .inl rfl⟩ cBn
                              have hs3 := hk3.size
                              have hS2 : ∀ b, S' b → W.heap.size ≤ b ∧ b < W3.heap.size := fun b hb => by
                                refine ⟨?_, (hS' b hb).2⟩
                                rcases (hS' b hb).1 with h | h
                                · exact (hS b h).1
                                · omega
                              have hsW : W.heap.size ≤ W3.heap.size := by omega
                              clear hy hR hJ3 hS3 hS' hk3 hx
                              refine hK _ _ ?_
                              clear hK K
                              refine wpAnyIn_ready (rs := [8]) (by kernel_rfl) (by simp) ?_
                              refine AllReadyIn.cons rfl (fun K hK => ?_) AllReadyIn.nil
                              go_simp
                              refine hK _ _ ?_
                              clear hK K
                              refine wpAnyIn_ready (rs := [9]) (by kernel_rfl) (by simp) ?_
                              refine AllReadyIn.cons rfl (fun K hK => ?_) AllReadyIn.nil
                              go_simp
                              refine hK _ _ ?_
                              clear hK K
                              refine wpAnyIn_done (by kernel_rfl) ?_ _
                              cases c
                              · gi_wp2
                                go_wp2_with fail
                                go_returns
                                exact ⟨⟨_, rfl⟩, hsW, .inr ⟨i, S', hc'⟩⟩
                              · gi_wp2
                                go_wp2_with fail
                                go_roundw
                                case rel => exact ⟨i + 1, k, a + 1, b, S', rfl, by simp, by omega, by omega, hb, hstep, hl1, by rw [hdr']; simp, hc', cBn3, hS2, hsW⟩
                                case measure => simp [intOf]; omega
                            exact AllReadyIn.nil
                          exact AllReadyIn.nil
                        exact AllReadyIn.nil
                      exact AllReadyIn.nil
                    exact AllReadyIn.nil
                  refine AllReadyIn.cons rfl (fun K hK => ?_) ?_
                  · go_simp
                    refine hK _ _ ?_
                    clear hK K
                    refine wpAnyIn_ready (rs := [1]) (by kernel_rfl) (by simp) ?_
                    refine AllReadyIn.cons rfl (fun K hK => ?_) ?_
                    · go_simp
                      refine ⟨trivial, ?_⟩
                      (refine (callsIn_wide.2 (igNorm_v _ kab hm)).mono ?_; rintro e w3 ⟨rfl, hb3⟩; have hz3 := hb3.size; (repeat (first | rw [World.size_alloc] at hz3 | rw [World.size_setCell] at hz3 | rw [World.size_drew] at hz3)); have kk7 := keep hb3 (a := ⟨Bn, 0, none⟩) (v := _) (by (repeat (first | (with_reducible assumption) | (with_reducible apply sameS) | ((with_reducible apply born); (focus (simp; done)); (focus rfl)) | (with_reducible apply keepA) | (with_reducible apply keepD) | ((with_reducible apply keepS); focus ((repeat (first | rw [World.size_alloc] | rw [World.size_setCell] | rw [World.size_drew])); omega)) | ((with_reducible apply keep); (focus (with_reducible assumption)))))); have pp := T2.K hb3 (b := wr.heap.size) (x := _) (y := _) (by (repeat (first | ((with_reducible apply T2.mk) <;> (with_reducible assumption)) | (with_reducible apply T2.Z) | (with_reducible apply T2.O) | ((with_reducible apply T2.B); (focus (simp; done))) | (with_reducible apply T2.A) | (with_reducible apply T2.D) | ((with_reducible apply T2.S); focus ((repeat (first | rw [World.size_alloc] | rw [World.size_setCell] | rw [World.size_drew])); omega)) | ((with_reducible apply T2.K); (focus (with_reducible assumption)))))); obtain ⟨kk8, kk9, fkk8, fkk9⟩ := pp; (try clear kk4 kk5 kk6 fkk5 fkk6))
                      refine hK _ _ ?_
                      clear hK K
                      refine wpAnyIn_ready (rs := [3]) (by kernel_rfl) (by simp) ?_
                      refine AllReadyIn.cons rfl (fun K hK => ?_) ?_
                      · go_simp
                        refine hK _ _ ?_
                        clear hK K
                        refine wpAnyIn_ready (rs := [4]) (by kernel_rfl) (by simp) ?_
                        refine AllReadyIn.cons rfl (fun K hK => ?_) ?_
                        · go_simp
                          refine hK _ _ ?_
                          clear hK K
                          refine wpAnyIn_ready (rs := [5, 6]) (by kernel_rfl) (by simp) ?_
                          refine AllReadyIn.cons rfl (fun K hK => ?_) ?_
                          · go_simp
                            refine hK _ _ ?_
                            clear hK K
                            refine wpAnyIn_ready (rs := [6]) (by kernel_rfl) (by simp) ?_
                            refine AllReadyIn.cons rfl (fun K hK => ?_) ?_
                            · go_simp
                              refine hK _ _ ?_
                              clear hK K
                              have hJ3 : J i S w3 := hJ _ _ _ _ hJr (Keep.of_below _ (by (repeat' (first | (with_reducible exact Below.refl _ _) | (with_reducible refine Below.alloc ?_ ?_ _) | (with_reducible refine Below.drew ?_) | (with_reducible refine Below.setCell ?_ ?_ _) | (with_reducible refine Below.trans ?_ (Below.mono (by assumption) ?_)) | go_size))))
                              have hS3 : ∀ c, S c → W.heap.size ≤ c ∧ c < w3.heap.size := fun c hc => ⟨(hS c hc).1, by have := (hS c hc).2; omega⟩
                              obtain ⟨fn, tmps, assign, body, hy, hR⟩ := hY i S _ w3 hx hJ3 (by omega) hS3
                              rw [gRow] at hy
                              have cBn : w3.cell? ⟨Bn, 0, none⟩ = some (.int .i64 n) := by (repeat (first | (with_reducible assumption) | (with_reducible apply sameS) | ((with_reducible apply born); (focus (simp; done)); (focus rfl)) | (with_reducible apply keepA) | (with_reducible apply keepD) | ((with_reducible apply keepS); focus ((repeat (first | rw [World.size_alloc] | rw [World.size_setCell] | rw [World.size_drew])); omega)) | ((with_reducible apply keep); (focus (with_reducible assumption)))))
                              refine wpAnyIn_ready (rs := [7]) (by kernel_rfl) (by simp) ?_
                              refine AllReadyIn.cons rfl (fun K hK => ?_) AllReadyIn.nil
                              go_simp
                              refine hR.mono ?_
                              rintro e W3 ⟨c, S', rfl, hc', hS', hk3⟩
                              have cBn3 := hk3.cell (p := ⟨Bn, 0, none⟩) ⟨hSn, .inl rfl⟩ cBn
                              have hs3 := hk3.size
                              have hS2 : ∀ b, S' b → W.heap.size ≤ b ∧ b < W3.heap.size := fun b hb => by
                                refine ⟨?_, (hS' b hb).2⟩
                                rcases (hS' b hb).1 with h | h
                                · exact (hS b h).1
                                · omega
                              have hsW : W.heap.size ≤ W3.heap.size := by omega
                              clear hy hR hJ3 hS3 hS' hk3 hx
                              refine hK _ _ ?_
                              clear hK K
                              refine wpAnyIn_ready (rs := [8]) (by kernel_rfl) (by simp) ?_
                              refine AllReadyIn.cons rfl (fun K hK => ?_) AllReadyIn.nil
                              go_simp
                              refine hK _ _ ?_
                              clear hK K
                              refine wpAnyIn_ready (rs := [9]) (by kernel_rfl) (by simp) ?_
                              refine AllReadyIn.cons rfl (fun K hK => ?_) AllReadyIn.nil
                              go_simp
                              refine hK _ _ ?_
                              clear hK K
                              refine wpAnyIn_done (by kernel_rfl) ?_ _
                              cases c
                              · gi_wp2
                                go_wp2_with fail
                                go_returns
                                exact ⟨⟨_, rfl⟩, hsW, .inr ⟨i, S', hc'⟩⟩
                              · gi_wp2
                                go_wp2_with fail
                                go_roundw
                                case rel => exact ⟨i + 1, k, a + 1, b, S', rfl, by simp, by omega, by omega, hb, hstep, hl1, by rw [hdr']; simp, hc', cBn3, hS2, hsW⟩
                                case measure => simp [intOf]; omega
                            exact AllReadyIn.nil
                          refine AllReadyIn.cons rfl (fun K hK => ?_) ?_
                          · go_simp
                            refine hK _ _ ?_
                            clear hK K
                            refine wpAnyIn_ready (rs := [5]) (by kernel_rfl) (by simp) ?_
                            refine AllReadyIn.cons rfl (fun K hK => ?_) ?_
                            · go_simp
                              refine hK _ _ ?_
                              clear hK K
                              have hJ3 : J i S w3 := hJ _ _ _ _ hJr (Keep.of_below _ (by (repeat' (first | (with_reducible exact Below.refl _ _) | (with_reducible refine Below.alloc ?_ ?_ _) | (with_reducible refine Below.drew ?_) | (with_reducible refine Below.setCell ?_ ?_ _) | (with_reducible refine Below.trans ?_ (Below.mono (by assumption) ?_)) | go_size))))
                              have hS3 : ∀ c, S c → W.heap.size ≤ c ∧ c < w3.heap.size := fun c hc => ⟨(hS c hc).1, by have := (hS c hc).2; omega⟩
                              obtain ⟨fn, tmps, assign, body, hy, hR⟩ := hY i S _ w3 hx hJ3 (by omega) hS3
                              rw [gRow] at hy
                              have cBn : w3.cell? ⟨Bn, 0, none⟩ = some (.int .i64 n) := by (repeat (first | (with_reducible assumption) | (with_reducible apply sameS) | ((with_reducible apply born); (focus (simp; done)); (focus rfl)) | (with_reducible apply keepA) | (with_reducible apply keepD) | ((with_reducible apply keepS); focus ((repeat (first | rw [World.size_alloc] | rw [World.size_setCell] | rw [World.size_drew])); omega)) | ((with_reducible apply keep); (focus (with_reducible assumption)))))
                              refine wpAnyIn_ready (rs := [7]) (by kernel_rfl) (by simp) ?_
                              refine AllReadyIn.cons rfl (fun K hK => ?_) AllReadyIn.nil
                              go_simp
                              refine hR.mono ?_
                              rintro e W3 ⟨c, S', rfl, hc', hS', hk3⟩
                              have cBn3 := hk3.cell (p := ⟨Bn, 0, none⟩) ⟨hSn, .inl rfl⟩ cBn
                              have hs3 := hk3.size
                              have hS2 : ∀ b, S' b → W.heap.size ≤ b ∧ b < W3.heap.size := fun b hb => by
                                refine ⟨?_, (hS' b hb).2⟩
                                rcases (hS' b hb).1 with h | h
                                · exact (hS b h).1
                                · omega
                              have hsW : W.heap.size ≤ W3.heap.size := by omega
                              clear hy hR hJ3 hS3 hS' hk3 hx
                              refine hK _ _ ?_
                              clear hK K
                              refine wpAnyIn_ready (rs := [8]) (by kernel_rfl) (by simp) ?_
                              refine AllReadyIn.cons rfl (fun K hK => ?_) AllReadyIn.nil
                              go_simp
                              refine hK _ _ ?_
                              clear hK K
                              refine wpAnyIn_ready (rs := [9]) (by kernel_rfl) (by simp) ?_
                              refine AllReadyIn.cons rfl (fun K hK => ?_) AllReadyIn.nil
                              go_simp
                              refine hK _ _ ?_
                              clear hK K
                              refine wpAnyIn_done (by kernel_rfl) ?_ _
                              cases c
                              · gi_wp2
                                go_wp2_with fail
                                go_returns
                                exact ⟨⟨_, rfl⟩, hsW, .inr ⟨i, S', hc'⟩⟩
                              · gi_wp2
                                go_wp2_with fail
                                go_roundw
                                case rel => exact ⟨i + 1, k, a + 1, b, S', rfl, by simp, by omega, by omega, hb, hstep, hl1, by rw [hdr']; simp, hc', cBn3, hS2, hsW⟩
                                case measure => simp [intOf]; omega
                            exact AllReadyIn.nil
                          exact AllReadyIn.nil
                        exact AllReadyIn.nil
                      exact AllReadyIn.nil
                    exact AllReadyIn.nil
                  exact AllReadyIn.nil
                refine AllReadyIn.cons rfl (fun K hK => ?_) ?_
                · go_simp
                  refine hK _ _ ?_
                  clear hK K
                  refine wpAnyIn_ready (rs := [0]) (by kernel_rfl) (by simp) ?_
                  refine AllReadyIn.cons rfl (fun K hK => ?_) ?_
                  · go_simp
                    refine hK _ _ ?_
                    clear hK K
                    refine wpAnyIn_ready (rs := [1]) (by kernel_rfl) (by simp) ?_
                    refine AllReadyIn.cons rfl (fun K hK => ?_) ?_
                    · go_simp
                      refine ⟨trivial, ?_⟩
                      (refine (callsIn_wide.2 (igNorm_v _ kab hm)).mono ?_; rintro e w3 ⟨rfl, hb3⟩; have hz3 := hb3.size; (repeat (first | rw [World.size_alloc] at hz3 | rw [World.size_setCell] at hz3 | rw [World.size_drew] at hz3)); have kk10 := keep hb3 (a := ⟨Bn, 0, none⟩) (v := _) (by (repeat (first | (with_reducible assumption) | (with_reducible apply sameS) | ((with_reducible apply born); (focus (simp; done)); (focus rfl)) | (with_reducible apply keepA) | (with_reducible apply keepD) | ((with_reducible apply keepS); focus ((repeat (first | rw [World.size_alloc] | rw [World.size_setCell] | rw [World.size_drew])); omega)) | ((with_reducible apply keep); (focus (with_reducible assumption)))))); have pp := T2.K hb3 (b := wr.heap.size) (x := _) (y := _) (by (repeat (first | ((with_reducible apply T2.mk) <;> (with_reducible assumption)) | (with_reducible apply T2.Z) | (with_reducible apply T2.O) | ((with_reducible apply T2.B); (focus (simp; done))) | (with_reducible apply T2.A) | (with_reducible apply T2.D) | ((with_reducible apply T2.S); focus ((repeat (first | rw [World.size_alloc] | rw [World.size_setCell] | rw [World.size_drew])); omega)) | ((with_reducible apply T2.K); (focus (with_reducible assumption)))))); obtain ⟨kk11, kk12, fkk11, fkk12⟩ := pp; (try clear kk7 kk8 kk9 fkk8 fkk9))
                      refine hK _ _ ?_
                      clear hK K
                      refine wpAnyIn_ready (rs := [3]) (by kernel_rfl) (by simp) ?_
                      refine AllReadyIn.cons rfl (fun K hK => ?_) ?_
                      · go_simp
                        refine hK _ _ ?_
                        clear hK K
                        refine wpAnyIn_ready (rs := [4]) (by kernel_rfl) (by simp) ?_
                        refine AllReadyIn.cons rfl (fun K hK => ?_) ?_
                        · go_simp
                          refine hK _ _ ?_
                          clear hK K
                          refine wpAnyIn_ready (rs := [5, 6]) (by kernel_rfl) (by simp) ?_
                          refine AllReadyIn.cons rfl (fun K hK => ?_) ?_
                          · go_simp
                            refine hK _ _ ?_
                            clear hK K
                            refine wpAnyIn_ready (rs := [6]) (by kernel_rfl) (by simp) ?_
                            refine AllReadyIn.cons rfl (fun K hK => ?_) ?_
                            · go_simp
                              refine hK _ _ ?_
                              clear hK K
                              have hJ3 : J i S w3 := hJ _ _ _ _ hJr (Keep.of_below _ (by (repeat' (first | (with_reducible exact Below.refl _ _) | (with_reducible refine Below.alloc ?_ ?_ _) | (with_reducible refine Below.drew ?_) | (with_reducible refine Below.setCell ?_ ?_ _) | (with_reducible refine Below.trans ?_ (Below.mono (by assumption) ?_)) | go_size))))
                              have hS3 : ∀ c, S c → W.heap.size ≤ c ∧ c < w3.heap.size := fun c hc => ⟨(hS c hc).1, by have := (hS c hc).2; omega⟩
                              obtain ⟨fn, tmps, assign, body, hy, hR⟩ := hY i S _ w3 hx hJ3 (by omega) hS3
                              rw [gRow] at hy
                              have cBn : w3.cell? ⟨Bn, 0, none⟩ = some (.int .i64 n) := by (repeat (first | (with_reducible assumption) | (with_reducible apply sameS) | ((with_reducible apply born); (focus (simp; done)); (focus rfl)) | (with_reducible apply keepA) | (with_reducible apply keepD) | ((with_reducible apply keepS); focus ((repeat (first | rw [World.size_alloc] | rw [World.size_setCell] | rw [World.size_drew])); omega)) | ((with_reducible apply keep); (focus (with_reducible assumption)))))
                              refine wpAnyIn_ready (rs := [7]) (by kernel_rfl) (by simp) ?_
                              refine AllReadyIn.cons rfl (fun K hK => ?_) AllReadyIn.nil
                              go_simp
                              refine hR.mono ?_
                              rintro e W3 ⟨c, S', rfl, hc', hS', hk3⟩
                              have cBn3 := hk3.cell (p := ⟨Bn, 0, none⟩) ⟨hSn, .inl rfl⟩ cBn
                              have hs3 := hk3.size
                              have hS2 : ∀ b, S' b → W.heap.size ≤ b ∧ b < W3.heap.size := fun b hb => by
                                refine ⟨?_, (hS' b hb).2⟩
                                rcases (hS' b hb).1 with h | h
                                · exact (hS b h).1
                                · omega
                              have hsW : W.heap.size ≤ W3.heap.size := by omega
                              clear hy hR hJ3 hS3 hS' hk3 hx
                              refine hK _ _ ?_
                              clear hK K
                              refine wpAnyIn_ready (rs := [8]) (by kernel_rfl) (by simp) ?_
                              refine AllReadyIn.cons rfl (fun K hK => ?_) AllReadyIn.nil
                              go_simp
                              refine hK _ _ ?_
                              clear hK K
                              refine wpAnyIn_ready (rs := [9]) (by kernel_rfl) (by simp) ?_
                              refine AllReadyIn.cons rfl (fun K hK => ?_) AllReadyIn.nil
                              go_simp
                              refine hK _ _ ?_
                              clear hK K
                              refine wpAnyIn_done (by kernel_rfl) ?_ _
                              cases c
                              · gi_wp2
                                go_wp2_with fail
                                go_returns
                                exact ⟨⟨_, rfl⟩, hsW, .inr ⟨i, S', hc'⟩⟩
                              · gi_wp2
                                go_wp2_with fail
                                go_roundw
                                case rel => exact ⟨i + 1, k, a + 1, b, S', rfl, by simp, by omega, by omega, hb, hstep, hl1, by rw [hdr']; simp, hc', cBn3, hS2, hsW⟩
                                case measure => simp [intOf]; omega
                            exact AllReadyIn.nil
                          refine AllReadyIn.cons rfl (fun K hK => ?_) ?_
                          · go_simp
                            refine hK _ _ ?_
                            clear hK K
                            refine wpAnyIn_ready (rs := [5]) (by kernel_rfl) (by simp) ?_
                            refine AllReadyIn.cons rfl (fun K hK => ?_) ?_
                            · go_simp
                              refine hK _ _ ?_
                              clear hK K
                              have hJ3 : J i S w3 := hJ _ _ _ _ hJr (Keep.of_below _ (by (repeat' (first | (with_reducible exact Below.refl _ _) | (with_reducible refine Below.alloc ?_ ?_ _) | (with_reducible refine Below.drew ?_) | (with_reducible refine Below.setCell ?_ ?_ _) | (with_reducible refine Below.trans ?_ (Below.mono (by assumption) ?_)) | go_size))))
                              have hS3 : ∀ c, S c → W.heap.size ≤ c ∧ c < w3.heap.size := fun c hc => ⟨(hS c hc).1, by have := (hS c hc).2; omega⟩
                              obtain ⟨fn, tmps, assign, body, hy, hR⟩ := hY i S _ w3 hx hJ3 (by omega) hS3
                              rw [gRow] at hy
                              have cBn : w3.cell? ⟨Bn, 0, none⟩ = some (.int .i64 n) := by (repeat (first | (with_reducible assumption) | (with_reducible apply sameS) | ((with_reducible apply born); (focus (simp; done)); (focus rfl)) | (with_reducible apply keepA) | (with_reducible apply keepD) | ((with_reducible apply keepS); focus ((repeat (first | rw [World.size_alloc] | rw [World.size_setCell] | rw [World.size_drew])); omega)) | ((with_reducible apply keep); (focus (with_reducible assumption)))))
                              refine wpAnyIn_ready (rs := [7]) (by kernel_rfl) (by simp) ?_
                              refine AllReadyIn.cons rfl (fun K hK => ?_) AllReadyIn.nil
                              go_simp
                              refine hR.mono ?_
                              rintro e W3 ⟨c, S', rfl, hc', hS', hk3⟩
                              have cBn3 := hk3.cell (p := ⟨Bn, 0, none⟩) ⟨hSn, .inl rfl⟩ cBn
                              have hs3 := hk3.size
                              have hS2 : ∀ b, S' b → W.heap.size ≤ b ∧ b < W3.heap.size := fun b hb => by
                                refine ⟨?_, (hS' b hb).2⟩
                                rcases (hS' b hb).1 with h | h
                                · exact (hS b h).1
                                · omega
                              have hsW : W.heap.size ≤ W3.heap.size := by omega
                              clear hy hR hJ3 hS3 hS' hk3 hx
                              refine hK _ _ ?_
                              clear hK K
                              refine wpAnyIn_ready (rs := [8]) (by kernel_rfl) (by simp) ?_
                              refine AllReadyIn.cons rfl (fun K hK => ?_) AllReadyIn.nil
                              go_simp
                              refine hK _ _ ?_
                              clear hK K
                              refine wpAnyIn_ready (rs := [9]) (by kernel_rfl) (by simp) ?_
                              refine AllReadyIn.cons rfl (fun K hK => ?_) AllReadyIn.nil
                              go_simp
                              refine hK _ _ ?_
                              clear hK K
                              refine wpAnyIn_done (by kernel_rfl) ?_ _
                              cases c
                              · gi_wp2
                                go_wp2_with fail
                                go_returns
                                exact ⟨⟨_, rfl⟩, hsW, .inr ⟨i, S', hc'⟩⟩
                              · gi_wp2
                                go_wp2_with fail
                                go_roundw
                                case rel => exact ⟨i + 1, k, a + 1, b, S', rfl, by simp, by omega, by omega, hb, hstep, hl1, by rw [hdr']; simp, hc', cBn3, hS2, hsW⟩
                                case measure => simp [intOf]; omega
                            exact AllReadyIn.nil
                          exact AllReadyIn.nil
                        exact AllReadyIn.nil
                      exact AllReadyIn.nil
                    exact AllReadyIn.nil
                  exact AllReadyIn.nil
                exact AllReadyIn.nil
              · have hne : (m == n) = false := by simpa using hmn
                have hmiss : cirB n a = none := cirB_no (by omega) (by omega) hlt
                obtain ⟨k, rfl⟩ : ∃ j, k = j + 1 := ⟨k - 1, by omega⟩
                rw [cir_miss hmiss] at hdr
                go_upto_region 9 with fail
                clear hd hd2 hbb hb2 hsq haa ha2
                (refine wp_name ?_; intro w2 hb2; have hz2 := hb2.size; (repeat (first | rw [World.size_alloc] at hz2 | rw [World.size_setCell] at hz2 | rw [World.size_drew] at hz2)); have kk13 := keep hb2 (a := ⟨Bn, 0, none⟩) (v := _) (by (repeat (first | (with_reducible assumption) | (with_reducible apply sameS) | ((with_reducible apply born); (focus (simp; done)); (focus rfl)) | (with_reducible apply keepA) | (with_reducible apply keepD) | ((with_reducible apply keepS); focus ((repeat (first | rw [World.size_alloc] | rw [World.size_setCell] | rw [World.size_drew])); omega)) | ((with_reducible apply keep); (focus (with_reducible assumption)))))); have rkk13 := cell_regrown kk13; have pp := C2.K hb2 (b := wr.heap.size) (x := _) (y := _) (by (repeat (first | ((with_reducible apply C2.mk) <;> (with_reducible assumption)) | (with_reducible apply C2.Z) | (with_reducible apply C2.O) | ((with_reducible apply C2.B); (focus (simp; done))) | (with_reducible apply C2.A) | (with_reducible apply C2.D) | ((with_reducible apply C2.S); focus ((repeat (first | rw [World.size_alloc] | rw [World.size_setCell] | rw [World.size_drew])); omega)) | ((with_reducible apply C2.K); (focus (with_reducible assumption)))))); obtain ⟨kk14, kk15⟩ := pp; have rkk14 := cell_regrown kk14; have rkk15 := cell_regrown kk15; (try clear kk10 kk11 kk12 fkk11 fkk12); refine wp_region_quiet_below (by kernel_rfl) (by kernel_rfl) ?_; (repeat (first | go_big_quiet_step ((first | (go_at_call 46; exact Calls.regrown_of (igNorm_v _ kab hm)))) | quiet_step ((first | (go_at_call 46; exact Calls.regrown_of (igNorm_v _ kab hm)))))); refine wpQuiet_nil ?_; intro w3 hw; have hb3 := below_of_regrown hw; clear hw; have hz3 := hb3.size; have kk16 := keep hb3 kk13; have kk17 := keep hb3 kk14; have kk18 := keep hb3 kk15; clear kk13 kk14 kk15 rkk13 rkk14 rkk15)
                go_wp2_with fail
                refine ⟨⟨i, k, a + 1, b, S, rfl, by simp, by omega, by omega, hb, ?_, hil, by rw [hdr]; simp, hJ _ _ _ _ hJr (Keep.of_below _ (by (repeat' (first | (with_reducible exact Below.refl _ _) | (with_reducible refine Below.alloc ?_ ?_ _) | (with_reducible refine Below.drew ?_) | (with_reducible refine Below.setCell ?_ ?_ _) | (with_reducible refine Below.trans ?_ (Below.mono (by assumption) ?_)) | go_size)))), by (repeat (first | (with_reducible assumption) | (with_reducible apply sameS) | ((with_reducible apply born); (focus (simp; done)); (focus rfl)) | (with_reducible apply keepA) | (with_reducible apply keepD) | ((with_reducible apply keepS); focus ((repeat (first | rw [World.size_alloc] | rw [World.size_setCell] | rw [World.size_drew])); omega)) | ((with_reducible apply keep); (focus (with_reducible assumption))))), fun c hc => ⟨(hS c hc).1, by have := (hS c hc).2; omega⟩, by omega⟩, by simp [intOf]; omega⟩
                have : ((a + 1 : Nat) : Int) * (a + 1 : Nat) = a * a + 2 * a + 1 := by rw [Int.natCast_add]; grind
                omega
        · have hd : decide ((a : Int) * a ≤ n) = false := decide_eq_false hle
          rw [cir_end (by omega) (by omega)] at hdr
          have hi := drop_end hil hdr
          go_wp2_with fail
          go_end0
          exact ⟨⟨_, rfl⟩, hs, .inl ⟨S, hi ▸ hJr⟩⟩
end Go.Proofs.Ytahnkecdningnaa
